/- Two rows held against each other (the document's Same). No condition. -/
import Derived.Test.YtmlabaaelkghlaaPfxF
import Derived.Test.YtmlabaaelkghlaaMemP
import Derived.LoopTactic
namespace Go.Proofs.Ytmlabaaelkghlaa
open Go.RowKit
set_option linter.unusedVariables false
set_option maxRecDepth 100000
attribute [local go_sem ↓] neq_pfx_same

theorem rSame_eq (v1 v2 : Value) (l : List (Int × Int)) (w : World) (h1 : Ps w v1 l) (h2 : Ps w v2 l) :
    Calls Try.prog 26 #[v1, v2] w fun e w' => e = .returned (.bool true) ∧ Same w w' := by
  have H1 := Lib.hid h1
  have H2 := Lib.hid h2
  obtain ⟨ao, cap, rfl, b1, b2, b3, b4⟩ := h1
  obtain ⟨bo, dap, rfl, d1, d2, d3, d4⟩ := h2
  clear b4 d4
  have hb : (l.length : Int) ≤ 9223372036854775807 := by omega
  have hnn : ((l.length : Int) != (l.length : Int)) = false := by simp
  go_enter Try.func26, Try.ntmps26
  go_wp2_with fail
  go_loopw [13] (fun i wr => ∃ k : Nat, k ≤ l.length ∧ i = .int .i64 k ∧ Same w wr) (fun i _ => l.length - (intOf i).toNat)
  case atStart => exact ⟨0, Nat.zero_le _, rfl, Same.refl _⟩
  case round =>
    obtain ⟨k, hk, rfl, hs⟩ := hrel
    have HS := Lib.hid hs
    clear hs
    by_cases hlt : k < l.length
    · obtain ⟨ab, o, sp, rfl⟩ : ∃ ab o sp, ao = some ⟨ab, o, sp⟩ := by
        cases ao with
        | none => have := b3 rfl; omega
        | some ad => exact ⟨ad.block, ad.off, ad.spot, rfl⟩
      obtain ⟨bb, o2, sp2, rfl⟩ : ∃ ab o sp, bo = some ⟨ab, o, sp⟩ := by
        cases bo with
        | none => have := d3 rfl; omega
        | some ad => exact ⟨ad.block, ad.off, ad.spot, rfl⟩
      obtain ⟨rfl, -, -, -⟩ := H1.out.at k hlt
      obtain ⟨rfl, -, -, -⟩ := H2.out.at k hlt
      have hlt' : (k : Int) < l.length := by omega
      have HA : Hid (∀ w', Same wr w' → w'.cell? ⟨ab, o + k * 2, none⟩ = some (.int .u32 l[k].1) ∧ w'.cell? ⟨ab, o + k * 2 + 1, none⟩ = some (.int .i64 l[k].2) ∧ w'.cell? ⟨bb, o2 + k * 2, none⟩ = some (.int .u32 l[k].1) ∧ w'.cell? ⟨bb, o2 + k * 2 + 1, none⟩ = some (.int .i64 l[k].2)) := by
        intro w' hw
        obtain ⟨-, -, c0, c1⟩ := (H1.out.same (HS.out.trans hw)).at k hlt
        obtain ⟨-, -, c2, c3⟩ := (H2.out.same (HS.out.trans hw)).at k hlt
        exact ⟨c0, c1, c2, c3⟩
      generalize l[k].1 = x at *
      generalize l[k].2 = y at *
      go_wp2_with fail
      refine reg_start (fun w' => Same wr w') (by kernel_rfl) ?_
      refine reg_take (v := ?_) 0 (some 16) rfl rfl (by kernel_rfl) (fun _ _ _ h => h) (by kernel_rfl) ((Same.refl wr).drew) ?_ ?_
      rotate_left
      · (intro w' hw'; obtain ⟨c0, c1, c2, c3⟩ := HA.out w' hw'; go_simp; try with_reducible rfl)
      try simp only [Act.put, List.setIfInBounds_toArray, List.set_cons_zero, List.set_cons_succ]
      refine reg_take (v := ?_) 1 (some 17) rfl rfl (by kernel_rfl) (fun _ _ _ h => h) (by kernel_rfl) ((Same.refl wr).drew) ?_ ?_
      rotate_left
      · (intro w' hw'; obtain ⟨c0, c1, c2, c3⟩ := HA.out w' hw'; go_simp; try with_reducible rfl)
      try simp only [Act.put, List.setIfInBounds_toArray, List.set_cons_zero, List.set_cons_succ]
      refine reg_take (v := ?_) 2 (some 18) rfl rfl (by kernel_rfl) (fun _ _ _ h => h) (by kernel_rfl) ((Same.refl wr).drew) ?_ ?_
      rotate_left
      · (intro w' hw'; obtain ⟨c0, c1, c2, c3⟩ := HA.out w' hw'; go_simp; try with_reducible rfl)
      try simp only [Act.put, List.setIfInBounds_toArray, List.set_cons_zero, List.set_cons_succ]
      refine reg_take (v := ?_) 3 (some 19) rfl rfl (by kernel_rfl) (fun _ _ _ h => h) (by kernel_rfl) ((Same.refl wr).drew) ?_ ?_
      rotate_left
      · (intro w' hw'; obtain ⟨c0, c1, c2, c3⟩ := HA.out w' hw'; go_simp; try with_reducible rfl)
      try simp only [Act.put, List.setIfInBounds_toArray, List.set_cons_zero, List.set_cons_succ]
      refine reg_take (v := ?_) 4 (some 20) rfl rfl (by kernel_rfl) (fun _ _ _ h => h) (by kernel_rfl) ((Same.refl wr).drew) ?_ ?_
      rotate_left
      · (intro w' hw'; obtain ⟨c0, c1, c2, c3⟩ := HA.out w' hw'; go_simp; try with_reducible rfl)
      try simp only [Act.put, List.setIfInBounds_toArray, List.set_cons_zero, List.set_cons_succ]
      refine reg_take (v := ?_) 5 (some 21) rfl rfl (by kernel_rfl) (fun _ _ _ h => h) (by kernel_rfl) ((Same.refl wr).drew) ?_ ?_
      rotate_left
      · (intro w' hw'; obtain ⟨c0, c1, c2, c3⟩ := HA.out w' hw'; go_simp; try with_reducible rfl)
      try simp only [Act.put, List.setIfInBounds_toArray, List.set_cons_zero, List.set_cons_succ]
      refine reg_take (v := ?_) 6 (some 22) rfl rfl (by kernel_rfl) (fun _ _ _ h => h) (by kernel_rfl) ((Same.refl wr).drew) ?_ ?_
      rotate_left
      · (intro w' hw'; obtain ⟨c0, c1, c2, c3⟩ := HA.out w' hw'; go_simp; try with_reducible rfl)
      try simp only [Act.put, List.setIfInBounds_toArray, List.set_cons_zero, List.set_cons_succ]
      refine reg_take (v := ?_) 7 (some 23) rfl rfl (by kernel_rfl) (fun _ _ _ h => h) (by kernel_rfl) ((Same.refl wr).drew) ?_ ?_
      rotate_left
      · (intro w' hw'; obtain ⟨c0, c1, c2, c3⟩ := HA.out w' hw'; go_simp; try with_reducible rfl)
      try simp only [Act.put, List.setIfInBounds_toArray, List.set_cons_zero, List.set_cons_succ]
      refine reg_take (v := ?_) 8 (some 24) rfl rfl (by kernel_rfl) (fun _ _ _ h => h) (by kernel_rfl) ((Same.refl wr).drew) ?_ ?_
      rotate_left
      · (intro w' hw'; obtain ⟨c0, c1, c2, c3⟩ := HA.out w' hw'; go_simp; try with_reducible rfl)
      try simp only [Act.put, List.setIfInBounds_toArray, List.set_cons_zero, List.set_cons_succ]
      refine reg_done (by kernel_rfl) ?_
      go_wp2_with fail
      exact ⟨⟨k + 1, by omega, by go_num, HS.out.drew⟩, by simp [intOf]; omega⟩
    · have hlt' : (l.length : Int) ≤ k := by omega
      go_wp2_with fail
      go_ret
      exact ⟨rfl, HS.out⟩
end Go.Proofs.Ytmlabaaelkghlaa
