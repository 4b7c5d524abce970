/- Proved: ChkOrder. No condition. -/
import Derived.Test.YtibaelaffkfnhaaChkO
import Derived.Test.YtibaelaffkfnhaaChkD
import Derived.Test.YtibaelaffkfnhaaOpenG
import Derived.JoinedOf
namespace Go.Proofs.Ytibaelaffkfnhaa
open Go.ChangeShapes Go.WideShapes Go.ChangeAt Go.RowKit
set_option linter.unusedVariables false

set_option maxRecDepth 100000 in
theorem chkOrder_lifted (C : ChkC) (os : Os) (started : os.Started) (H : Type) (enc : TypeId × Value → H) :
    ReturnsInHanded {} Try.checked os 11 .any (Rows.chkOrderSpec.pre6 enc Try.prog Try.f11 Rows.chkOrderRow.domain false) (Rows.chkOrderSpec.post enc Try.prog Try.f11 false true false false) := by
  refine returnsInHanded_of_change (C := Try.checked) own started (by kernel_rfl) Try.func11
    (ChangeSpec.witness6 (enc := enc) (C := Try.checked) false ⟨#[], #[.slice none 0 0, .int .u64 0], []⟩ 8 (by kernel_rfl) (by kernel_rfl) (by kernel_rfl) (by kernel_rfl)) ?_
  intro W base args ds gs before hval0 hW _ _
  have hval : ∀ (j : Nat) t v, Try.f11.params[j]? = some t → args[j]? = some v → Value.okWide Try.prog W .any base t v := hval0
  have hW' := hW
  obtain ⟨p, q, hA0, hV, rfl, _, _⟩ := hW
  have hA : DataW.TrodAll enc Try.prog W 0 (fun _ => true) true Try.f11.params.toList args.toList ds p := hA0
  rw [Try.params11] at hA hval
  obtain ⟨v0, vs0, d0, ds0, p0, q0, hargs0, rfl, rfl, h0, r0⟩ := trodAll_cons hA
  obtain ⟨v1, vs1, d1, ds1, p1, q1, hargs1, rfl, rfl, h1, r1⟩ := trodAll_cons r0
  subst hargs1
  obtain ⟨rfl, rfl, rfl⟩ := trodAll_nil r1
  obtain rfl : args = #[v0, v1] := by cases args; simp_all
  obtain ⟨rfl, rfl⟩ := trodVars_none hV
  obtain ⟨ao0, cap0, zs0, rfl, hle0, hcap0, hz0, hn0, hw0⟩ := open_nums Try.underlying70 Try.underlying68 (by kernel_rfl) (hval 0 70 v0 rfl rfl) h0
  obtain ⟨x1, rfl, rfl, rfl, w1⟩ := open_int Try.underlying67 (hval 1 67 v1 rfl rfl) h1
  have key : Calls Try.prog 11 #[.slice ao0 zs0.length cap0, .int .u64 x1] W fun e w' => e = .returned (.bool true) ∧ Same W w' := by
    by_cases hl : (zs0.length : Int) ≤ 300
    · have hr : ∀ j, 0 ≤ zs0.getD j 0 ∧ zs0.getD j 0 ≤ 65535 := by
        intro j
        by_cases hj : j < zs0.length
        · have e : zs0.getD j 0 = zs0[j] := by simp [List.getD, List.getElem?_eq_getElem hj]
          rw [e]
          exact u16_within (hw0 _ (List.getElem_mem hj))
        · have e : zs0.getD j 0 = 0 := by simp [List.getD, List.getElem?_eq_none (show zs0.length ≤ j by omega)]
          rw [e]; omega
      refine order_walk C ao0 cap0 zs0 x1 W (fun ad had j hj => ?_) (fun h => by rw [(hn0 h).1]; rfl) (fun j => ?_) (u64_within w1) hl
      · have e : zs0.getD j 0 = zs0[j] := by simp [List.getD, List.getElem?_eq_getElem hj]
        rw [(hz0 ad had).2 j zs0[j] (by simp [hj])]
        have := hr j
        congr 2
        rw [wd0, e] at *; omega
      · have := hr j
        unfold wd0; omega
    · exact order_long C _ _ _ _ W (by omega)
  exact key.mono fun e W' ⟨he, hb⟩ => law_post Try.f11 Rows.chkOrderSpec rfl (by kernel_rfl) (by kernel_rfl) W _ _ _ _ hW' rfl e W' he hb

/-- the statement -/
theorem chkOrder_holds (C : ChkC) : Rows.ChkOrderSaid :=
  OpenClaim.holds_of_wide 11 Try.f11 rfl rfl rfl rfl rfl rfl rfl ⟨rfl, rfl, rfl, rfl, rfl⟩ rfl rfl rfl rfl rfl (by kernel_rfl) Try.func11 (by kernel_rfl)
    (of_decide_eq_true (by kernel_rfl)) (by unfold Func.isWrapper; first | (rw [if_pos (by decide +kernel)]; kernel_rfl) | (rw [if_neg (by decide +kernel)]; exact ⟨rfl, rfl⟩))
    (fun os started H enc _ => chkOrder_lifted C os started H enc)

/-- the statement, in full -/
theorem chkOrder_said : Rows.ChkOrderSaid := chkOrder_holds chkC
end Go.Proofs.Ytibaelaffkfnhaa
