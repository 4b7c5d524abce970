/- Layer 7: the developers' code meets what is asked of it. No condition. -/
import Derived.Test.YtfhaaenmllkbnaaAtC
import Derived.Test.YtfhaaenmllkbnaaAtDB
import Derived.Test.YtfhaaenmllkbnaaAtDP
namespace Go.Proofs.Ytfhaaenmllkbnaa
open Go.RowKit

theorem attrC : AttrC where
  split v l w hb hl := dSplit_any v l w hb hl
  parse v l w hb hl := dParse_any v l w hb (by omega)
  bytes a vp w h hr _ := dBytes_any a vp w h hr
  good a vp w h hr := dGood_any a vp w h hr
  same a va vb w ha hb _ := dSame_any a va vb w ha hb
  join v l w h hl := (dJoin_any l v w h (by omega)).mono fun e w' ⟨v', he, ho, hs⟩ => ⟨v', he, ho.bs, hs⟩
end Go.Proofs.Ytfhaaenmllkbnaa
