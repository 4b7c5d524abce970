/- The library's contracts that the texts of prefixes want, laid at this program. No condition. -/
import Derived.Test.YtmlabaaelkghlaaDoorProg
import Derived.Ground.NamesProg
import Derived.Shelf.Lay
import Derived.Shelf.Strconv.AppendUint10
import Derived.Shelf.Strconv.Itoa3
import Derived.Shelf.Small.Wraps
import Derived.Shelf.Strings.Search2
namespace Go.Proofs
open Go.Shelf
shelf_lay LaysM.n288 Nm 288 at Tryd as Tryd.layAppendUint
shelf_lay Lays.n171 Nm 171 at Tryd as Tryd.layItoa
shelf_lay Lays.n219 Nm 219 at Tryd as Tryd.layIndex
shelf_lay Lays.n103 Nm 103 at Tryd as Tryd.layCutPrefix
end Go.Proofs
