/- The walk of PrefixRows. No condition. -/
import Derived.Test.YtldiagjnpkpepaaPfxL
import Derived.Test.YtldiagjnpkpepaaPrG
import Derived.Test.YtldiagjnpkpepaaPrR
import Derived.Test.YtldiagjnpkpepaaPrS
import Derived.Test.YtldiagjnpkpepaaPrD
import Derived.Test.YtldiagjnpkpepaaLives
namespace Go.Proofs.Ytldiagjnpkpepaa
open Go.RowKit
set_option linter.unusedVariables false
set_option maxRecDepth 100000

theorem rows_long (ao : Option Addr) (n cap : Nat) (w : World) (h : 200 < (n : Int)) :
    Calls Try.prog 3 #[.slice ao n cap] w fun e w' => e = .returned (.bool true) ∧ Same w w' := by
  go_enter Try.func3, Try.ntmps3
  go_wp2_with fail
  refine (pfx_lives w).mono ?_
  rintro e w1 ⟨rfl, hs⟩
  go_wp2_with fail
  go_ret
  exact ⟨rfl, hs⟩

set_option maxHeartbeats 2000000 in
theorem rows_walk (v : Value) (l : List (Int × Int)) (W : World) (hp : Ps W v l) (hr : ∀ q ∈ l, 0 ≤ q.1 ∧ q.1 ≤ 4294967295) (hl : (l.length : Int) ≤ 200) :
    Calls Try.prog 3 #[v] W fun e w' => e = .returned (.bool true) ∧ Same W w' := by
  have HP := Lib.hid hp
  have hlr := rowP_length l
  have HSo := fun w' (h : Ps w' v l) => Lib.hid (Sort_any v l w' h (by omega))
  have HRs := fun w' (h : Ps w' v l) => Lib.hid (rSort_any v l w' h (by omega))
  have HSm := fun a b w' (h : Ps w' a (rowP l)) (h' : Ps w' b (rowP l)) => Lib.hid (rSame_any a b (rowP l) w' h h' (by omega))
  have HAl := fun w' (h : Ps w' v l) => Lib.hid (All_any v l w' h (by omega))
  have HRa := fun w' (h : Ps w' v l) => Lib.hid (rAll_any v l w' h hr (by omega))
  obtain ⟨ao, cap, rfl, _⟩ := hp
  clear hr hlr
  have hl' : ¬ 200 < (l.length : Int) := by omega
  go_enter Try.func3, Try.ntmps3
  go_wp2_with fail
  refine reg_start (fun w' => Same W.drew w') (by kernel_rfl) ?_
  refine reg_take (v := ?_) 0 (some 7) rfl rfl (by kernel_rfl) (fun _ _ _ h => h) (by kernel_rfl) (Same.refl W.drew) ?_ ?_
  rotate_left
  · (intro w' hw'; skip; go_simp; try with_reducible rfl)
  try simp only [Act.put, List.setIfInBounds_toArray, List.set_cons_zero, List.set_cons_succ]
  refine reg_take (v := ?_) 2 (some 9) rfl rfl (by kernel_rfl) (fun _ _ _ h => h) (by kernel_rfl) (Same.refl W.drew) ?_ ?_
  rotate_left
  · (intro w' hw'; skip; go_simp; try with_reducible rfl)
  try simp only [Act.put, List.setIfInBounds_toArray, List.set_cons_zero, List.set_cons_succ]
  refine reg_one 1 rfl (by kernel_rfl) (by kernel_rfl) ?_
  go_simp
  refine ((HSo _ (HP.out.same (Same.refl W).drew)).out).mono ?_
  rintro e u1 ⟨v1, rfl, ho1, hs1⟩
  have HO1 := Lib.hid ho1; have HS1 := Lib.hid ((Same.refl W).drew.trans hs1); clear ho1
  refine ⟨hs1, reg_more (fun w' => Same u1 w') (fun w' h => hs1.trans h) _ _ _ _ ?_⟩
  try simp only [Act.put, List.setIfInBounds_toArray, List.set_cons_zero, List.set_cons_succ]
  refine reg_one 3 rfl (by kernel_rfl) (by kernel_rfl) ?_
  go_simp
  refine ((HRs _ (HP.out.same HS1.out)).out).mono ?_
  rintro e u2 ⟨v2, rfl, ho2, hs2⟩
  have HO2 := Lib.hid ho2; have HT2 := Lib.hid hs2; have HS2 := Lib.hid (HS1.out.trans hs2); clear ho2
  refine ⟨hs2, reg_more (fun w' => Same u2 w') (fun w' h => hs2.trans h) _ _ _ _ ?_⟩
  try simp only [Act.put, List.setIfInBounds_toArray, List.set_cons_zero, List.set_cons_succ]
  refine reg_one 4 rfl (by kernel_rfl) (by kernel_rfl) ?_
  go_simp
  refine ((HSm _ _ _ (HO1.out.same HT2.out) HO2.out.ps).out).mono ?_
  rintro e u3 ⟨rfl, hs3⟩
  have HS3 := Lib.hid (HS2.out.trans hs3)
  refine ⟨hs3, reg_more (fun w' => Same u3 w') (fun w' h => hs3.trans h) _ _ _ _ ?_⟩
  try simp only [Act.put, List.setIfInBounds_toArray, List.set_cons_zero, List.set_cons_succ]
  refine reg_take (v := ?_) 5 (some 12) rfl rfl (by kernel_rfl) (fun _ _ _ h => h) (by kernel_rfl) (Same.refl u3) ?_ ?_
  rotate_left
  · (intro w' hw'; skip; go_simp; try with_reducible rfl)
  try simp only [Act.put, List.setIfInBounds_toArray, List.set_cons_zero, List.set_cons_succ]
  refine reg_take (v := ?_) 6 (some 13) rfl rfl (by kernel_rfl) (fun _ _ _ h => h) (by kernel_rfl) (Same.refl u3) ?_ ?_
  rotate_left
  · (intro w' hw'; skip; go_simp; try with_reducible rfl)
  try simp only [Act.put, List.setIfInBounds_toArray, List.set_cons_zero, List.set_cons_succ]
  refine reg_take (v := ?_) 9 (some 16) rfl rfl (by kernel_rfl) (fun _ _ _ h => h) (by kernel_rfl) (Same.refl u3) ?_ ?_
  rotate_left
  · (intro w' hw'; skip; go_simp; try with_reducible rfl)
  try simp only [Act.put, List.setIfInBounds_toArray, List.set_cons_zero, List.set_cons_succ]
  refine reg_one 7 rfl (by kernel_rfl) (by kernel_rfl) ?_
  go_simp
  refine ((HAl _ (HP.out.same HS3.out)).out).mono ?_
  rintro e u4 ⟨v4, rfl, ho4, hs4⟩
  have HO4 := Lib.hid ho4; have HS4 := Lib.hid (HS3.out.trans hs4); clear ho4
  refine ⟨hs4, reg_more (fun w' => Same u4 w') (fun w' h => hs4.trans h) _ _ _ _ ?_⟩
  try simp only [Act.put, List.setIfInBounds_toArray, List.set_cons_zero, List.set_cons_succ]
  refine reg_take (v := ?_) 8 (some 15) rfl rfl (by kernel_rfl) (fun _ _ _ h => h) (by kernel_rfl) (Same.refl u4) ?_ ?_
  rotate_left
  · (intro w' hw'; have hr := run_str w' v4 _ (HO4.out.same hw'); go_simp; try with_reducible rfl)
  try simp only [Act.put, List.setIfInBounds_toArray, List.set_cons_zero, List.set_cons_succ]
  refine reg_one 10 rfl (by kernel_rfl) (by kernel_rfl) ?_
  go_simp
  refine ((HRa _ (HP.out.same HS4.out)).out).mono ?_
  rintro e u5 ⟨v5, rfl, ho5, hs5⟩
  have HO5 := Lib.hid ho5; have HS5 := Lib.hid (HS4.out.trans hs5); clear ho5
  refine ⟨hs5, reg_more (fun w' => Same u5 w') (fun w' h => hs5.trans h) _ _ _ _ ?_⟩
  try simp only [Act.put, List.setIfInBounds_toArray, List.set_cons_zero, List.set_cons_succ]
  refine reg_take (v := ?_) 11 (some 18) rfl rfl (by kernel_rfl) (fun _ _ _ h => h) (by kernel_rfl) (Same.refl u5) ?_ ?_
  rotate_left
  · (intro w' hw'; have hr := run_str w' v5 _ (HO5.out.same hw'); go_simp; try with_reducible rfl)
  try simp only [Act.put, List.setIfInBounds_toArray, List.set_cons_zero, List.set_cons_succ]
  refine reg_take (v := ?_) 12 (some 19) rfl rfl (by kernel_rfl) (fun _ _ _ h => h) (by kernel_rfl) (Same.refl u5) ?_ ?_
  rotate_left
  · (intro w' hw'; skip; go_simp; try with_reducible rfl)
  try simp only [Act.put, List.setIfInBounds_toArray, List.set_cons_zero, List.set_cons_succ]
  refine reg_take (v := ?_) 13 (some 20) rfl rfl (by kernel_rfl) (fun _ _ _ h => h) (by kernel_rfl) (Same.refl u5) ?_ ?_
  rotate_left
  · (intro w' hw'; skip; go_simp; try with_reducible rfl)
  try simp only [Act.put, List.setIfInBounds_toArray, List.set_cons_zero, List.set_cons_succ]
  refine reg_take (v := ?_) 14 (some 21) rfl rfl (by kernel_rfl) (fun _ _ _ h => h) (by kernel_rfl) (Same.refl u5) ?_ ?_
  rotate_left
  · (intro w' hw'; skip; go_simp; try with_reducible rfl)
  try simp only [Act.put, List.setIfInBounds_toArray, List.set_cons_zero, List.set_cons_succ]
  refine reg_one 15 rfl (by kernel_rfl) (by kernel_rfl) ?_
  go_simp
  refine (pfx_lives _).mono ?_
  rintro e u6 ⟨rfl, hs6⟩
  have HS6 := Lib.hid (HS5.out.trans hs6)
  refine ⟨hs6, reg_more (fun w' => Same u6 w') (fun w' h => hs6.trans h) _ _ _ _ ?_⟩
  try simp only [Act.put, List.setIfInBounds_toArray, List.set_cons_zero, List.set_cons_succ]
  refine reg_take (v := ?_) 16 (some 23) rfl rfl (by kernel_rfl) (fun _ _ _ h => h) (by kernel_rfl) (Same.refl u6) ?_ ?_
  rotate_left
  · (intro w' hw'; skip; go_simp; try with_reducible rfl)
  try simp only [Act.put, List.setIfInBounds_toArray, List.set_cons_zero, List.set_cons_succ]
  refine reg_take (v := ?_) 17 (some 2) rfl rfl (by kernel_rfl) (fun _ _ _ h => h) (by kernel_rfl) (Same.refl u6) ?_ ?_
  rotate_left
  · (intro w' hw'; skip; go_simp; try with_reducible rfl)
  try simp only [Act.put, List.setIfInBounds_toArray, List.set_cons_zero, List.set_cons_succ]
  refine reg_done (by kernel_rfl) ?_
  go_wp2_with fail
  go_ret
  exact ⟨rfl, HS6.out⟩
end Go.Proofs.Ytldiagjnpkpepaa
