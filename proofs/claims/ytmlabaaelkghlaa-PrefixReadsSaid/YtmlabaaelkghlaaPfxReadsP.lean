/- Proved: PrefixReads. No condition. -/
import Derived.Test.YtmlabaaelkghlaaPfxT
import Derived.Test.YtmlabaaelkghlaaPfxO
import Derived.Test.YtmlabaaelkghlaaOpenG
import Derived.JoinedOf
namespace Go.Proofs.Ytmlabaaelkghlaa
open Go.ChangeShapes Go.WideShapes Go.ChangeAt Go.RowKit
set_option linter.unusedVariables false

set_option maxRecDepth 100000 in
theorem prefixReads_lifted (os : Os) (started : os.Started) (H : Type) (enc : TypeId × Value → H) :
    ReturnsInHanded {} Try.checked os 4 .any (Rows.prefixReadsSpec.pre6 enc Try.prog Try.f4 Rows.prefixReadsRow.domain false) (Rows.prefixReadsSpec.post enc Try.prog Try.f4 false true false false) := by
  refine returnsInHanded_of_change (C := Try.checked) own started (by kernel_rfl) Try.func4
    (ChangeSpec.witness6 (enc := enc) (C := Try.checked) false ⟨#[], #[.slice none 0 0], []⟩ 8 (by kernel_rfl) (by kernel_rfl) (by kernel_rfl) (by kernel_rfl)) ?_
  intro W base args ds gs before hval0 hW _ _
  have hval : ∀ (j : Nat) t v, Try.f4.params[j]? = some t → args[j]? = some v → Value.okWide Try.prog W .any base t v := hval0
  have hW' := hW
  obtain ⟨p, q, hA0, hV, rfl, _, _⟩ := hW
  have hA : DataW.TrodAll enc Try.prog W 0 (fun _ => true) true Try.f4.params.toList args.toList ds p := hA0
  rw [Try.params4] at hA hval
  obtain ⟨v0, vs0, d0, ds0, p0, q0, hargs0, rfl, rfl, h0, r0⟩ := trodAll_cons hA
  obtain ⟨rfl, rfl, rfl⟩ := trodAll_nil r0
  obtain rfl : args = #[v0] := by cases args; simp_all
  obtain ⟨rfl, rfl⟩ := trodVars_none hV
  obtain ⟨l0, hb0⟩ := openBytes Try.underlying33 (hval 0 33 v0 rfl rfl) h0
  have key : Calls Try.prog 4 #[v0] W fun e w' => e = .returned (.bool true) ∧ Same W w' := by
    by_cases hl : (l0.length : Int) ≤ 1000
    · exact reads_walk v0 l0 W hb0 hl
    · obtain ⟨ao, cap, rfl, _⟩ := hb0
      exact reads_long _ _ _ W (by omega)
  exact key.mono fun e W' ⟨he, hb⟩ => law_post Try.f4 Rows.prefixReadsSpec rfl (by kernel_rfl) (by kernel_rfl) W _ _ _ _ hW' rfl e W' he hb

/-- the statement -/
theorem prefixReads_holds : Rows.PrefixReadsSaid :=
  OpenClaim.holds_of_wide 4 Try.f4 rfl rfl rfl rfl rfl rfl rfl ⟨rfl, rfl, rfl, rfl, rfl⟩ rfl rfl rfl rfl rfl (by kernel_rfl) Try.func4 (by kernel_rfl)
    (of_decide_eq_true (by kernel_rfl)) (by unfold Func.isWrapper; first | (rw [if_pos (by decide +kernel)]; kernel_rfl) | (rw [if_neg (by decide +kernel)]; exact ⟨rfl, rfl⟩))
    (fun os started H enc _ => prefixReads_lifted os started H enc)
end Go.Proofs.Ytmlabaaelkghlaa
