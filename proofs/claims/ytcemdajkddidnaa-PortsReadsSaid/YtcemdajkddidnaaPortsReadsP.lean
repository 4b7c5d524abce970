/- Proved: PortsReads. No condition. -/
import Derived.Test.YtcemdajkddidnaaPoL
import Derived.Test.YtcemdajkddidnaaOpenG
import Derived.JoinedOf
namespace Go.Proofs.Ytcemdajkddidnaa
open Go.ChangeShapes Go.WideShapes Go.ChangeAt Go.RowKit
set_option linter.unusedVariables false

set_option maxRecDepth 100000 in
theorem portsReads_lifted (os : Os) (started : os.Started) (H : Type) (enc : TypeId × Value → H) :
    ReturnsInHanded {} Try.checked os 3 .any (Rows.portsReadsSpec.pre6 enc Try.prog Try.f3 Rows.portsReadsRow.domain false) (Rows.portsReadsSpec.post enc Try.prog Try.f3 false true false false) := by
  refine returnsInHanded_of_change (C := Try.checked) own started (by kernel_rfl) Try.func3
    (ChangeSpec.witness6 (enc := enc) (C := Try.checked) false ⟨#[], #[.int .i64 0, .slice none 0 0], []⟩ 8 (by kernel_rfl) (by kernel_rfl) (by kernel_rfl) (by kernel_rfl)) ?_
  intro W base args ds gs before hval0 hW _ _
  have hval : ∀ (j : Nat) t v, Try.f3.params[j]? = some t → args[j]? = some v → Value.okWide Try.prog W .any base t v := hval0
  have hW' := hW
  obtain ⟨p, q, hA0, hV, rfl, _, _⟩ := hW
  have hA : DataW.TrodAll enc Try.prog W 0 (fun _ => true) true Try.f3.params.toList args.toList ds p := hA0
  rw [Try.params3] at hA hval
  obtain ⟨v0, vs0, d0, ds0, p0, q0, hargs0, rfl, rfl, h0, r0⟩ := trodAll_cons hA
  obtain ⟨v1, vs1, d1, ds1, p1, q1, hargs1, rfl, rfl, h1, r1⟩ := trodAll_cons r0
  subst hargs1
  obtain ⟨rfl, rfl, rfl⟩ := trodAll_nil r1
  obtain rfl : args = #[v0, v1] := by cases args; simp_all
  obtain ⟨rfl, rfl⟩ := trodVars_none hV
  obtain ⟨x0, rfl, rfl, rfl, w0⟩ := open_int Try.underlying3 (hval 0 3 v0 rfl rfl) h0
  obtain ⟨l1, hb1⟩ := openBytes Try.underlying22 (hval 1 22 v1 rfl rfl) h1
  have key : Calls Try.prog 3 #[.int .i64 x0, v1] W fun e w' => e = .returned (.bool true) ∧ Same W w' := by
    by_cases hl : 12000 < (l1.length : Int)
    · exact preads_long x0 v1 l1 W hb1 hl
    · exact preads_walk x0 v1 l1 W hb1 hl
  exact key.mono fun e W' ⟨he, hb⟩ => law_post Try.f3 Rows.portsReadsSpec rfl (by kernel_rfl) (by kernel_rfl) W _ _ _ _ hW' rfl e W' he hb

/-- the statement -/
theorem portsReads_holds : Rows.PortsReadsSaid :=
  OpenClaim.holds_of_wide 3 Try.f3 rfl rfl rfl rfl rfl rfl rfl ⟨rfl, rfl, rfl, rfl, rfl⟩ rfl rfl rfl rfl rfl (by kernel_rfl) Try.func3 (by kernel_rfl)
    (of_decide_eq_true (by kernel_rfl)) (by unfold Func.isWrapper; first | (rw [if_pos (by decide +kernel)]; kernel_rfl) | (rw [if_neg (by decide +kernel)]; exact ⟨rfl, rfl⟩))
    (fun os started H enc _ => portsReads_lifted os started H enc)
end Go.Proofs.Ytcemdajkddidnaa
