/- Proved: PrefixOrder. No condition. -/
import Derived.Test.YtmlabaaelkghlaaPfxQ
import Derived.Test.YtmlabaaelkghlaaPfxO
import Derived.Test.YtmlabaaelkghlaaOpenG
import Derived.JoinedOf
namespace Go.Proofs.Ytmlabaaelkghlaa
open Go.ChangeShapes Go.WideShapes Go.ChangeAt Go.RowKit
set_option linter.unusedVariables false

set_option maxRecDepth 100000 in
theorem prefixOrder_lifted (os : Os) (started : os.Started) (H : Type) (enc : TypeId × Value → H) :
    ReturnsInHanded {} Try.checked os 6 .any (Rows.prefixOrderSpec.pre6 enc Try.prog Try.f6 Rows.prefixOrderRow.domain false) (Rows.prefixOrderSpec.post enc Try.prog Try.f6 false true false false) := by
  refine returnsInHanded_of_change (C := Try.checked) own started (by kernel_rfl) Try.func6
    (ChangeSpec.witness6 (enc := enc) (C := Try.checked) false ⟨#[], #[.agg #[.int .u32 0, .int .i64 0], .agg #[.int .u32 0, .int .i64 0], .agg #[.int .u32 0, .int .i64 0]], []⟩ 8 (by kernel_rfl) (by kernel_rfl) (by kernel_rfl) (by kernel_rfl)) ?_
  intro W base args ds gs before hval0 hW _ _
  have hval : ∀ (j : Nat) t v, Try.f6.params[j]? = some t → args[j]? = some v → Value.okWide Try.prog W .any base t v := hval0
  have hW' := hW
  obtain ⟨p, q, hA0, hV, rfl, _, _⟩ := hW
  have hA : DataW.TrodAll enc Try.prog W 0 (fun _ => true) true Try.f6.params.toList args.toList ds p := hA0
  rw [Try.params6] at hA hval
  obtain ⟨v0, vs0, d0, ds0, p0, q0, hargs0, rfl, rfl, h0, r0⟩ := trodAll_cons hA
  obtain ⟨v1, vs1, d1, ds1, p1, q1, hargs1, rfl, rfl, h1, r1⟩ := trodAll_cons r0
  obtain ⟨v2, vs2, d2, ds2, p2, q2, hargs2, rfl, rfl, h2, r2⟩ := trodAll_cons r1
  subst hargs1 hargs2
  obtain ⟨rfl, rfl, rfl⟩ := trodAll_nil r2
  obtain rfl : args = #[v0, v1, v2] := by cases args; simp_all
  obtain ⟨rfl, rfl⟩ := trodVars_none hV
  obtain ⟨x0, y0, rfl, w0, u0⟩ := open_pfx (hval 0 24 v0 rfl rfl) h0
  obtain ⟨x1, y1, rfl, w1, u1⟩ := open_pfx (hval 1 24 v1 rfl rfl) h1
  obtain ⟨x2, y2, rfl, w2, u2⟩ := open_pfx (hval 2 24 v2 rfl rfl) h2
  have key : Calls Try.prog 6 #[.agg #[.int .u32 x0, .int .i64 y0], .agg #[.int .u32 x1, .int .i64 y1], .agg #[.int .u32 x2, .int .i64 y2]] W fun e w' => e = .returned (.bool true) ∧ Same W w' := by
    exact order_walk x0 y0 x1 y1 x2 y2 W (u32_within w0) (u32_within w1) (u32_within w2)
  exact key.mono fun e W' ⟨he, hb⟩ => law_post Try.f6 Rows.prefixOrderSpec rfl (by kernel_rfl) (by kernel_rfl) W _ _ _ _ hW' rfl e W' he hb

/-- the statement -/
theorem prefixOrder_holds : Rows.PrefixOrderSaid :=
  OpenClaim.holds_of_wide 6 Try.f6 rfl rfl rfl rfl rfl rfl rfl ⟨rfl, rfl, rfl, rfl, rfl⟩ rfl rfl rfl rfl rfl (by kernel_rfl) Try.func6 (by kernel_rfl)
    (of_decide_eq_true (by kernel_rfl)) (by unfold Func.isWrapper; first | (rw [if_pos (by decide +kernel)]; kernel_rfl) | (rw [if_neg (by decide +kernel)]; exact ⟨rfl, rfl⟩))
    (fun os started H enc _ => prefixOrder_lifted os started H enc)
end Go.Proofs.Ytmlabaaelkghlaa
