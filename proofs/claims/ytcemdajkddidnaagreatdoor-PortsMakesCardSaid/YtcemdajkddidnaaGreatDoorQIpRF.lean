/- Contracts of the document's own answers for layer 4: Parse, Forward, Rewrite. No condition beyond what each names. -/
import Derived.Test.YtcemdajkddidnaaGreatDoorMgK
namespace Go.Proofs.YtcemdajkddidnaaGreatDoor
open Go.RowKit
set_option linter.unusedVariables false

theorem parseH_r (l : List UInt8) : HdR (parseH l) := by
  unfold parseH
  split
  · have h1 := fld_lt (l.take (endH l)) 12 4
    have h2 := fld_lt (l.take (endH l)) 16 4
    exact ⟨⟨Int.natCast_nonneg _, by show ((fld _ 12 4 : Nat) : Int) ≤ _; omega⟩, ⟨Int.natCast_nonneg _, by show ((fld _ 16 4 : Nat) : Int) ≤ _; omega⟩⟩
  · exact ⟨⟨by decide, by decide⟩, ⟨by decide, by decide⟩⟩

/-- what a packet on its way tells -/
abbrev outV (v : Value) (e : Int) : Value := .tuple #[v, .int .i64 e]

end Go.Proofs.YtcemdajkddidnaaGreatDoor
