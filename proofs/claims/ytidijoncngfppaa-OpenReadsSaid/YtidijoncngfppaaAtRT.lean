/- Contract of the document's own take of layer 7. No condition beyond what it names. -/
import Derived.Test.YtidijoncngfppaaAtRP
namespace Go.Proofs.Ytidijoncngfppaa
open Go.RowKit
set_option linter.unusedVariables false

theorem takeS_bad {a : At} {r : Rw} (h : takeE r ≠ 0) : takeS a r = a := by unfold takeS; rw [if_pos h]
theorem fl_want (fl want : Int) (h : 0 ≤ fl ∧ fl ≤ 255) (hw : want = 64 ∨ want = 128) : ((if extF fl then fl - 16 else fl) ≠ want) ↔ ¬ (fl = want ∨ fl = want + 16) := by
  by_cases k : extF fl
  · rw [if_pos k]; unfold extF at k; omega
  · rw [if_neg k]; unfold extF at k; omega

end Go.Proofs.Ytidijoncngfppaa
