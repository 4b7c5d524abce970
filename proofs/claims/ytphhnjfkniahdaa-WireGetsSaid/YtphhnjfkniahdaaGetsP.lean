/- Proved: whatever is asked of any bytes, in any order, the source tells what the document tells (WireGets). No condition. -/
import Derived.Test.YtphhnjfkniahdaaGetsL
import Derived.Test.YtphhnjfkniahdaaOpenA
import Derived.JoinedOf
namespace Go.Proofs.Ytphhnjfkniahdaa
open Go.ChangeShapes Go.WideShapes Go.ChangeAt Go.RowKit
set_option linter.unusedVariables false

theorem gets_long (ao bo : Option Addr) (n cap m bcap : Nat) (w : World) (h : 300 < (m : Int)) :
    Calls Try.prog 4 #[.slice bo m bcap, .slice ao n cap] w fun e w' => e = .returned (.bool true) ∧ Same w w' := by
  go_enter Try.func4, Try.ntmps4
  go_wp2_with fail
  refine (lives_true w).mono ?_
  rintro e w1 ⟨rfl, hs⟩
  go_wp2_with fail
  go_ret
  exact ⟨rfl, hs⟩
theorem gets_long2 (ao bo : Option Addr) (n cap m bcap : Nat) (w : World) (h : ¬ 300 < (m : Int)) (h2 : 60 < (n : Int)) :
    Calls Try.prog 4 #[.slice bo m bcap, .slice ao n cap] w fun e w' => e = .returned (.bool true) ∧ Same w w' := by
  go_enter Try.func4, Try.ntmps4
  go_wp2_with fail
  refine (lives_true w).mono ?_
  rintro e w1 ⟨rfl, hs⟩
  go_wp2_with fail
  go_ret
  exact ⟨rfl, hs⟩

set_option maxRecDepth 100000 in
theorem gets_lifted (os : Os) (started : os.Started) (H : Type) (enc : TypeId × Value → H) :
    ReturnsInHanded {} Try.checked os 4 .any (Rows.wireGetsSpec.pre6 enc Try.prog Try.f4 Rows.wireGetsRow.domain false) (Rows.wireGetsSpec.post enc Try.prog Try.f4 false true false false) := by
  refine returnsInHanded_of_change (C := Try.checked) own started (by kernel_rfl) Try.func4
    (ChangeSpec.witness6 (enc := enc) (C := Try.checked) false ⟨#[], #[.slice none 0 0, .slice none 0 0], []⟩ 8 (by kernel_rfl) (by kernel_rfl) (by kernel_rfl) (by kernel_rfl)) ?_
  intro W base args ds gs before hval0 hW _ _
  have hval : ∀ (j : Nat) t v, Try.f4.params[j]? = some t → args[j]? = some v → Value.okWide Try.prog W .any base t v := hval0
  have hW' := hW
  obtain ⟨p, q, hA0, hV, rfl, _, _⟩ := hW
  have hA : DataW.TrodAll enc Try.prog W 0 (fun _ => true) true Try.f4.params.toList args.toList ds p := hA0
  rw [Try.params4] at hA hval
  obtain ⟨v0, vs0, d0, ds0, p0, q0, hargs, rfl, rfl, h0, r0⟩ := trodAll_cons hA
  obtain ⟨v1, vs1, d1, ds1, p1, q1, hargs1, rfl, rfl, h1, r1⟩ := trodAll_cons r0
  subst hargs1
  obtain ⟨rfl, rfl, rfl⟩ := trodAll_nil r1
  obtain rfl : args = #[v0, v1] := by cases args; simp_all
  obtain ⟨rfl, rfl⟩ := trodVars_none hV
  obtain ⟨bs, hb⟩ := open_bytes (hval 0 22 v0 rfl rfl) h0
  obtain ⟨ao, m, cap, K, N, rfl, hz, hn⟩ := open_asks (hval 1 36 v1 rfl rfl) h1
  have key : Calls Try.prog 4 #[v0, .slice ao m cap] W fun e w' => e = .returned (.bool true) ∧ Same W w' := by
    by_cases h300 : 300 < (bs.length : Int)
    · obtain ⟨bo, bcap, rfl, _⟩ := hb
      exact gets_long _ _ _ _ _ _ W h300
    · by_cases h60 : 60 < (m : Int)
      · obtain ⟨bo, bcap, rfl, _⟩ := hb
        exact gets_long2 _ _ _ _ _ _ W h300 h60
      · exact gets_walk ao m cap K N v0 bs W hz hn hb (by omega) (by omega)
  exact key.mono fun e W' ⟨he, hb⟩ => law_post Try.f4 Rows.wireGetsSpec rfl (by kernel_rfl) (by kernel_rfl) W _ _ _ _ hW' rfl e W' he hb

/-- the statement -/
theorem wireGets_holds : Rows.WireGetsSaid :=
  OpenClaim.holds_of_wide 4 Try.f4 rfl rfl rfl rfl rfl rfl rfl ⟨rfl, rfl, rfl, rfl, rfl⟩ rfl rfl rfl rfl rfl (by kernel_rfl) Try.func4 (by kernel_rfl)
    (of_decide_eq_true (by kernel_rfl)) (by unfold Func.isWrapper; first | (rw [if_pos (by decide +kernel)]; kernel_rfl) | (rw [if_neg (by decide +kernel)]; exact ⟨rfl, rfl⟩))
    (fun os started H enc _ => gets_lifted os started H enc)
end Go.Proofs.Ytphhnjfkniahdaa
