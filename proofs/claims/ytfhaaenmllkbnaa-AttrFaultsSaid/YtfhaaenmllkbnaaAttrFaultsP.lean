/- Proved: AttrFaults. No condition. -/
import Derived.Test.YtfhaaenmllkbnaaAtDC
import Derived.Test.YtfhaaenmllkbnaaAtO
import Derived.Test.YtfhaaenmllkbnaaAtE
import Derived.Test.YtfhaaenmllkbnaaOpenG
import Derived.JoinedOf
namespace Go.Proofs.Ytfhaaenmllkbnaa
open Go.ChangeShapes Go.WideShapes Go.ChangeAt Go.RowKit
set_option linter.unusedVariables false

set_option maxRecDepth 100000 in
theorem attrFaults_lifted (os : Os) (started : os.Started) (H : Type) (enc : TypeId × Value → H) :
    ReturnsInHanded {} Try.checked os 6 .any (Rows.attrFaultsSpec.pre6 enc Try.prog Try.f6 Rows.attrFaultsRow.domain false) (Rows.attrFaultsSpec.post enc Try.prog Try.f6 false true false false) := by
  refine returnsInHanded_of_change (C := Try.checked) own started (by kernel_rfl) Try.func6
    (ChangeSpec.witness6 (enc := enc) (C := Try.checked) false ⟨#[], #[.agg #[.int .i64 0, .slice none 0 0, .int .u32 0, .int .i64 0, .bool false], .int .u8 0, .int .u8 0], []⟩ 8 (by kernel_rfl) (by kernel_rfl) (by kernel_rfl) (by kernel_rfl)) ?_
  intro W base args ds gs before hval0 hW _ _
  have hval : ∀ (j : Nat) t v, Try.f6.params[j]? = some t → args[j]? = some v → Value.okWide Try.prog W .any base t v := hval0
  have hW' := hW
  obtain ⟨p, q, hA0, hV, rfl, _, _⟩ := hW
  have hA : DataW.TrodAll enc Try.prog W 0 (fun _ => true) true Try.f6.params.toList args.toList ds p := hA0
  rw [Try.params6] at hA hval
  obtain ⟨v0, vs0, d0, ds0, p0, q0, hargs0, rfl, rfl, h0, r0⟩ := trodAll_cons hA
  obtain ⟨v1, vs1, d1, ds1, p1, q1, hargs1, rfl, rfl, h1, r1⟩ := trodAll_cons r0
  obtain ⟨v2, vs2, d2, ds2, p2, q2, hargs2, rfl, rfl, h2, r2⟩ := trodAll_cons r1
  subst hargs1 hargs2
  obtain ⟨rfl, rfl, rfl⟩ := trodAll_nil r2
  obtain rfl : args = #[v0, v1, v2] := by cases args; simp_all
  obtain ⟨rfl, rfl⟩ := trodVars_none hV
  obtain ⟨a0, vp0, rfl, ok0, hp0⟩ := open_at (hval 0 35 v0 rfl rfl) h0
  obtain ⟨x1, rfl, rfl, rfl, w1⟩ := open_int Try.underlying5 (hval 1 5 v1 rfl rfl) h1
  obtain ⟨x2, rfl, rfl, rfl, w2⟩ := open_int Try.underlying5 (hval 2 5 v2 rfl rfl) h2
  have key : Calls Try.prog 6 #[atV a0 vp0, .int .u8 x1, .int .u8 x2] W fun e w' => e = .returned (.bool true) ∧ Same W w' := by
    by_cases hg : goodA a0
    · exact afaults_walk attrC a0 vp0 x1 x2 W hp0 ok0.hop hg (u8_within w1) (u8_within w2)
    · exact afaults_bad attrC a0 vp0 x1 x2 W hp0 ok0.hop hg
  exact key.mono fun e W' ⟨he, hb⟩ => law_post Try.f6 Rows.attrFaultsSpec rfl (by kernel_rfl) (by kernel_rfl) W _ _ _ _ hW' rfl e W' he hb

/-- the statement -/
theorem attrFaults_holds : Rows.AttrFaultsSaid :=
  OpenClaim.holds_of_wide 6 Try.f6 rfl rfl rfl rfl rfl rfl rfl ⟨rfl, rfl, rfl, rfl, rfl⟩ rfl rfl rfl rfl rfl (by kernel_rfl) Try.func6 (by kernel_rfl)
    (of_decide_eq_true (by kernel_rfl)) (by unfold Func.isWrapper; first | (rw [if_pos (by decide +kernel)]; kernel_rfl) | (rw [if_neg (by decide +kernel)]; exact ⟨rfl, rfl⟩))
    (fun os started H enc _ => attrFaults_lifted os started H enc)
end Go.Proofs.Ytfhaaenmllkbnaa
