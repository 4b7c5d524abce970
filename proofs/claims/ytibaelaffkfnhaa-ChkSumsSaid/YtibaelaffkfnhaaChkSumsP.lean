/- Proved: ChkSums. No condition. -/
import Derived.Test.YtibaelaffkfnhaaChkW
import Derived.Test.YtibaelaffkfnhaaChkD
import Derived.Test.YtibaelaffkfnhaaOpenG
import Derived.JoinedOf
namespace Go.Proofs.Ytibaelaffkfnhaa
open Go.ChangeShapes Go.WideShapes Go.ChangeAt Go.RowKit
set_option linter.unusedVariables false

set_option maxRecDepth 100000 in
theorem chkSums_lifted (C : ChkC) (os : Os) (started : os.Started) (H : Type) (enc : TypeId × Value → H) :
    ReturnsInHanded {} Try.checked os 7 .any (Rows.chkSumsSpec.pre6 enc Try.prog Try.f7 Rows.chkSumsRow.domain false) (Rows.chkSumsSpec.post enc Try.prog Try.f7 false true false false) := by
  refine returnsInHanded_of_change (C := Try.checked) own started (by kernel_rfl) Try.func7
    (ChangeSpec.witness6 (enc := enc) (C := Try.checked) false ⟨#[], #[.slice none 0 0], []⟩ 8 (by kernel_rfl) (by kernel_rfl) (by kernel_rfl) (by kernel_rfl)) ?_
  intro W base args ds gs before hval0 hW _ _
  have hval : ∀ (j : Nat) t v, Try.f7.params[j]? = some t → args[j]? = some v → Value.okWide Try.prog W .any base t v := hval0
  have hW' := hW
  obtain ⟨p, q, hA0, hV, rfl, _, _⟩ := hW
  have hA : DataW.TrodAll enc Try.prog W 0 (fun _ => true) true Try.f7.params.toList args.toList ds p := hA0
  rw [Try.params7] at hA hval
  obtain ⟨v0, vs0, d0, ds0, p0, q0, hargs0, rfl, rfl, h0, r0⟩ := trodAll_cons hA
  obtain ⟨rfl, rfl, rfl⟩ := trodAll_nil r0
  obtain rfl : args = #[v0] := by cases args; simp_all
  obtain ⟨rfl, rfl⟩ := trodVars_none hV
  obtain ⟨l0, hb0⟩ := openBytes Try.underlying22 (hval 0 22 v0 rfl rfl) h0
  have key : Calls Try.prog 7 #[v0] W fun e w' => e = .returned (.bool true) ∧ Same W w' := by
    by_cases hl : (l0.length : Int) ≤ 3000
    · exact sums_walk C v0 l0 W hb0 hl
    · obtain ⟨ao, cap, rfl, _⟩ := hb0
      exact sums_long C _ _ _ W (by omega)
  exact key.mono fun e W' ⟨he, hb⟩ => law_post Try.f7 Rows.chkSumsSpec rfl (by kernel_rfl) (by kernel_rfl) W _ _ _ _ hW' rfl e W' he hb

/-- the statement -/
theorem chkSums_holds (C : ChkC) : Rows.ChkSumsSaid :=
  OpenClaim.holds_of_wide 7 Try.f7 rfl rfl rfl rfl rfl rfl rfl ⟨rfl, rfl, rfl, rfl, rfl⟩ rfl rfl rfl rfl rfl (by kernel_rfl) Try.func7 (by kernel_rfl)
    (of_decide_eq_true (by kernel_rfl)) (by unfold Func.isWrapper; first | (rw [if_pos (by decide +kernel)]; kernel_rfl) | (rw [if_neg (by decide +kernel)]; exact ⟨rfl, rfl⟩))
    (fun os started H enc _ => chkSums_lifted C os started H enc)

/-- the statement, in full -/
theorem chkSums_said : Rows.ChkSumsSaid := chkSums_holds chkC
end Go.Proofs.Ytibaelaffkfnhaa
