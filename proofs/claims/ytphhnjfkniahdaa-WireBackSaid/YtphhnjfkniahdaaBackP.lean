/- Proved: what was put is got again, in order, and nothing is left (WireBack). No condition. -/
import Derived.Test.YtphhnjfkniahdaaBack
import Derived.Test.YtphhnjfkniahdaaOpen
import Derived.JoinedOf
namespace Go.Proofs.Ytphhnjfkniahdaa
open Go.ChangeShapes Go.WideShapes Go.ChangeAt Go.RowKit
set_option linter.unusedVariables false

theorem back_long (ao bo : Option Addr) (n cap m bcap : Nat) (w : World) (h : 60 < (n : Int)) :
    Calls Try.prog 5 #[.slice ao n cap, .slice bo m bcap] w fun e w' => e = .returned (.bool true) ∧ Same w w' := by
  go_enter Try.func5, Try.ntmps5
  go_wp2_with fail
  refine (lives_true w).mono ?_
  rintro e w1 ⟨rfl, hs⟩
  go_wp2_with fail
  go_ret
  exact ⟨rfl, hs⟩
theorem back_long2 (ao bo : Option Addr) (n cap m bcap : Nat) (w : World) (h : ¬ 60 < (n : Int)) (h2 : 300 < (m : Int)) :
    Calls Try.prog 5 #[.slice ao n cap, .slice bo m bcap] w fun e w' => e = .returned (.bool true) ∧ Same w w' := by
  go_enter Try.func5, Try.ntmps5
  go_wp2_with fail
  refine (lives_true w).mono ?_
  rintro e w1 ⟨rfl, hs⟩
  go_wp2_with fail
  go_ret
  exact ⟨rfl, hs⟩

set_option maxRecDepth 100000 in
theorem back_lifted (os : Os) (started : os.Started) (H : Type) (enc : TypeId × Value → H) :
    ReturnsInHanded {} Try.checked os 5 .any (Rows.wireBackSpec.pre6 enc Try.prog Try.f5 Rows.wireBackRow.domain false) (Rows.wireBackSpec.post enc Try.prog Try.f5 false true false false) := by
  refine returnsInHanded_of_change (C := Try.checked) own started (by kernel_rfl) Try.func5
    (ChangeSpec.witness6 (enc := enc) (C := Try.checked) false ⟨#[], #[.slice none 0 0, .slice none 0 0], []⟩ 8 (by kernel_rfl) (by kernel_rfl) (by kernel_rfl) (by kernel_rfl)) ?_
  intro W base args ds gs before hval0 hW _ _
  have hval : ∀ (j : Nat) t v, Try.f5.params[j]? = some t → args[j]? = some v → Value.okWide Try.prog W .any base t v := hval0
  have hW' := hW
  obtain ⟨p, q, hA0, hV, rfl, _, _⟩ := hW
  have hA : DataW.TrodAll enc Try.prog W 0 (fun _ => true) true Try.f5.params.toList args.toList ds p := hA0
  rw [Try.params5] at hA hval
  obtain ⟨v0, vs0, d0, ds0, p0, q0, hargs, rfl, rfl, h0, r0⟩ := trodAll_cons hA
  obtain ⟨v1, vs1, d1, ds1, p1, q1, hargs1, rfl, rfl, h1, r1⟩ := trodAll_cons r0
  subst hargs1
  obtain ⟨rfl, rfl, rfl⟩ := trodAll_nil r1
  obtain rfl : args = #[v0, v1] := by cases args; simp_all
  obtain ⟨rfl, rfl⟩ := trodVars_none hV
  obtain ⟨ao, cap, zs, rfl, hz, hn, hw⟩ := open_u32s (hval 0 50 v0 rfl rfl) h0
  obtain ⟨bs, hb⟩ := open_bytes (hval 1 22 v1 rfl rfl) h1
  have key : Calls Try.prog 5 #[.slice ao zs.length cap, v1] W fun e w' => e = .returned (.bool true) ∧ Same W w' := by
    by_cases h60 : 60 < (zs.length : Int)
    · obtain ⟨bo, bcap, rfl, _⟩ := hb
      exact back_long _ _ _ _ _ _ W h60
    · by_cases h300 : 300 < (bs.length : Int)
      · obtain ⟨bo, bcap, rfl, _⟩ := hb
        exact back_long2 _ _ _ _ _ _ W h60 h300
      · exact back_walk ao cap zs v1 bs W hz hn hb hw (by omega) (by omega)
  exact key.mono fun e W' ⟨he, hb⟩ => law_post Try.f5 Rows.wireBackSpec rfl (by kernel_rfl) (by kernel_rfl) W _ _ _ _ hW' rfl e W' he hb

/-- the statement -/
theorem wireBack_holds : Rows.WireBackSaid :=
  OpenClaim.holds_of_wide 5 Try.f5 rfl rfl rfl rfl rfl rfl rfl ⟨rfl, rfl, rfl, rfl, rfl⟩ rfl rfl rfl rfl rfl (by kernel_rfl) Try.func5 (by kernel_rfl)
    (of_decide_eq_true (by kernel_rfl)) (by unfold Func.isWrapper; first | (rw [if_pos (by decide +kernel)]; kernel_rfl) | (rw [if_neg (by decide +kernel)]; exact ⟨rfl, rfl⟩))
    (fun os started H enc _ => back_lifted os started H enc)
end Go.Proofs.Ytphhnjfkniahdaa
