/- Proved: AttrBack. No condition. -/
import Derived.Test.YtfhaaenmllkbnaaAtDC
import Derived.Test.YtfhaaenmllkbnaaAtO
import Derived.Test.YtfhaaenmllkbnaaAtB
import Derived.Test.YtfhaaenmllkbnaaOpenG
import Derived.JoinedOf
namespace Go.Proofs.Ytfhaaenmllkbnaa
open Go.ChangeShapes Go.WideShapes Go.ChangeAt Go.RowKit
set_option linter.unusedVariables false

set_option maxRecDepth 100000 in
theorem attrBack_lifted (os : Os) (started : os.Started) (H : Type) (enc : TypeId × Value → H) :
    ReturnsInHanded {} Try.checked os 5 .any (Rows.attrBackSpec.pre6 enc Try.prog Try.f5 Rows.attrBackRow.domain false) (Rows.attrBackSpec.post enc Try.prog Try.f5 false true false false) := by
  refine returnsInHanded_of_change (C := Try.checked) own started (by kernel_rfl) Try.func5
    (ChangeSpec.witness6 (enc := enc) (C := Try.checked) false ⟨#[], #[.agg #[.int .i64 0, .slice none 0 0, .int .u32 0, .int .i64 0, .bool false], .int .u64 0], []⟩ 8 (by kernel_rfl) (by kernel_rfl) (by kernel_rfl) (by kernel_rfl)) ?_
  intro W base args ds gs before hval0 hW _ _
  have hval : ∀ (j : Nat) t v, Try.f5.params[j]? = some t → args[j]? = some v → Value.okWide Try.prog W .any base t v := hval0
  have hW' := hW
  obtain ⟨p, q, hA0, hV, rfl, _, _⟩ := hW
  have hA : DataW.TrodAll enc Try.prog W 0 (fun _ => true) true Try.f5.params.toList args.toList ds p := hA0
  rw [Try.params5] at hA hval
  obtain ⟨v0, vs0, d0, ds0, p0, q0, hargs0, rfl, rfl, h0, r0⟩ := trodAll_cons hA
  obtain ⟨v1, vs1, d1, ds1, p1, q1, hargs1, rfl, rfl, h1, r1⟩ := trodAll_cons r0
  subst hargs1
  obtain ⟨rfl, rfl, rfl⟩ := trodAll_nil r1
  obtain rfl : args = #[v0, v1] := by cases args; simp_all
  obtain ⟨rfl, rfl⟩ := trodVars_none hV
  obtain ⟨a0, vp0, rfl, ok0, hp0⟩ := open_at (hval 0 35 v0 rfl rfl) h0
  obtain ⟨x1, rfl, rfl, rfl, w1⟩ := open_int Try.underlying49 (hval 1 49 v1 rfl rfl) h1
  have key : Calls Try.prog 5 #[atV a0 vp0, .int .u64 x1] W fun e w' => e = .returned (.bool true) ∧ Same W w' := by
    by_cases hl : 300 < a0.path.length
    · exact aback_long attrC a0 vp0 x1 W hp0 ok0.hop hl
    by_cases hg : goodA a0
    · exact aback_walk attrC a0 vp0 x1 W hp0 ok0.hop hg (u64_within w1)
    · exact aback_bad attrC a0 vp0 x1 W hp0 ok0.hop hg (by omega)
  exact key.mono fun e W' ⟨he, hb⟩ => law_post Try.f5 Rows.attrBackSpec rfl (by kernel_rfl) (by kernel_rfl) W _ _ _ _ hW' rfl e W' he hb

/-- the statement -/
theorem attrBack_holds : Rows.AttrBackSaid :=
  OpenClaim.holds_of_wide 5 Try.f5 rfl rfl rfl rfl rfl rfl rfl ⟨rfl, rfl, rfl, rfl, rfl⟩ rfl rfl rfl rfl rfl (by kernel_rfl) Try.func5 (by kernel_rfl)
    (of_decide_eq_true (by kernel_rfl)) (by unfold Func.isWrapper; first | (rw [if_pos (by decide +kernel)]; kernel_rfl) | (rw [if_neg (by decide +kernel)]; exact ⟨rfl, rfl⟩))
    (fun os started H enc _ => attrBack_lifted os started H enc)
end Go.Proofs.Ytfhaaenmllkbnaa
