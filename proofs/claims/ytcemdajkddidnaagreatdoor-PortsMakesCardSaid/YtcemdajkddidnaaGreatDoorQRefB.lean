/- Contracts of the document's own answers for layer 1, continued. No condition beyond what each names. -/
import Derived.Test.YtcemdajkddidnaaGreatDoorQRef
import Derived.Test.YtcemdajkddidnaaGreatDoorQTake
namespace Go.Proofs.YtcemdajkddidnaaGreatDoor
open Go.RowKit
set_option linter.unusedVariables false

theorem numOut_step_lt (l : List UInt8) (a : Nat) (er : Int) (k : Nat) (hk : k ≤ 4) : numOut (stepOut l a er k) < 4294967296 := by
  rcases step_cases l a er k with hno | ⟨k', hk', rfl, hle⟩
  · rw [hno]; simp [numOut]
  · obtain rfl : k = k' := by omega
    rw [(step_yes hle).1]
    exact numOf_lt4 _ (by simp; omega)

end Go.Proofs.YtcemdajkddidnaaGreatDoor
