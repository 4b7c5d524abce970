/- The library's contracts that texts of numbers want, laid at this program. No condition. The library's contracts of strings.Join and strconv.Itoa, laid at this program. No condition. -/
import Derived.Test.YtcemdajkddidnaaGreatDoorProg
import Derived.Ground.NamesProg
import Derived.Shelf.Lay
import Derived.Shelf.Strconv.AppendUint10
import Derived.Shelf.Strconv.Itoa3
import Derived.Shelf.Strings.OnBuilder
namespace Go.Proofs
open Go.Shelf
shelf_lay LaysM.n288 Nm 288 at Tryz as Tryz.layAppendUint
shelf_lay Lays.n171 Nm 171 at Tryz as Tryz.layItoa
end Go.Proofs
namespace Go.Proofs
open Go.Shelf
shelf_lay LaysM.n171 Nm 171 at Tryz as Tryz.layItoaM
shelf_lay Lays.n156 Nm 156 at Tryz as Tryz.layJoin
theorem Tryz.joinExtra : Builder.Extra Tryz.prog Tryz.layJoin_ren where
  sizeBuilder := by kernel_rfl
  liesBuilder := by kernel_rfl
  t5 := Tryz.layItoaM.t5
  a5 := Tryz.layItoaM.a5
  z5 := Tryz.layItoaM.z5
  v5 := Tryz.layItoaM.v5
  infoByte := by kernel_rfl
  cellsByte := by kernel_rfl
  sizeByte := by kernel_rfl
  neB5 := by decide
end Go.Proofs
