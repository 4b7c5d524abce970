/- The document's example of layer 3, and the walk of PrefixAsks. No condition. -/
import Derived.Test.YtldiagjnpkpepaaPfxBR
import Derived.Test.YtldiagjnpkpepaaPfxK
import Derived.Test.YtldiagjnpkpepaaLives
namespace Go.Proofs.Ytldiagjnpkpepaa
open Go.RowKit
set_option linter.unusedVariables false
set_option maxRecDepth 100000
attribute [local go_sem ↓] eq_pfx

theorem pfx_lives (w : World) : Calls Try.prog 8 #[] w fun e w' => e = .returned (.bool true) ∧ Same w w' := by
  have HB := Lib.hid (Bytes_any 167837696 16 w)
  rw [show bytesL 167837696 16 = [16, 10, 1] from by decide] at HB
  have HW := fun w => Lib.hid (Within_any 167772160 8 167837696 16 w)
  rw [show (decide (nearN 8 ≤ nearN 16) && decide (canA (canA 167837696 16) 8 = canA 167772160 8)) = true from by decide] at HW
  go_enter Try.func8, Try.ntmps8
  go_wp2_with fail
  refine HB.out.mono ?_
  rintro e u ⟨v, rfl, hb, hu⟩
  have hr := run_str u v _ hb
  go_wp2_with fail
  refine (HW _).out.mono ?_
  rintro e u2 ⟨rfl, hu2⟩
  go_wp2_with fail
  go_ret
  exact ⟨rfl, hu.trans hu2⟩

end Go.Proofs.Ytldiagjnpkpepaa
