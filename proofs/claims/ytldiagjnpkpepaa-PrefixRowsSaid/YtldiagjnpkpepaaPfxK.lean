/- How prefixes stand: the developers' Cmp, and what it calls of the library. No condition. -/
import Derived.Test.YtldiagjnpkpepaaPfxF
import Derived.LoopN
namespace Go.Proofs.Ytldiagjnpkpepaa
open Go.RowKit
set_option linter.unusedVariables false

def cmpI (a b : Int) : Int := if a < b then -1 else if b < a then 1 else 0
def cmpP (a n b m : Int) : Int := if cmpI a b = 0 then cmpI n m else cmpI a b

theorem nanU_any (a : Int) (w : World) : Calls Try.prog 111 #[.int .u32 a] w fun e w' => e = .returned (.bool false) ∧ w = w' := by
  go_enter Try.func111, Try.ntmps111
  go_wp2_with fail
  go_ret
  exact ⟨rfl, rfl⟩
theorem nanI_any (a : Int) (w : World) : Calls Try.prog 112 #[.int .i64 a] w fun e w' => e = .returned (.bool false) ∧ w = w' := by
  go_enter Try.func112, Try.ntmps112
  go_wp2_with fail
  go_ret
  exact ⟨rfl, rfl⟩
theorem cmpI_cases (a b : Int) : (a < b ∧ cmpI a b = -1) ∨ (b < a ∧ cmpI a b = 1) ∨ (a = b ∧ cmpI a b = 0) := by
  unfold cmpI
  rcases (show a < b ∨ b < a ∨ a = b by omega) with h | h | h
  · left; exact ⟨h, by rw [if_pos h]⟩
  · right; left; exact ⟨h, by rw [if_neg (by omega), if_pos h]⟩
  · right; right; exact ⟨h, by rw [if_neg (by omega), if_neg (by omega)]⟩
theorem CmpU_any (a b : Int) (w : World) : Calls Try.prog 70 #[.int .u32 a, .int .u32 b] w fun e w' => e = .returned (.int .i64 (cmpI a b)) ∧ Same w w' := by
  have HA := Lib.hid (nanU_any a w)
  have HB := Lib.hid (nanU_any b w)
  rcases cmpI_cases a b with ⟨h, hq⟩ | ⟨h, hq⟩ | ⟨h, hq⟩
  all_goals
    rw [hq]
    clear hq
    try subst h
    go_enter Try.func70, Try.ntmps70
    go_wp2_with fail
    refine HA.out.mono ?_
    rintro e w1 ⟨rfl, rfl⟩
    go_wp2_with fail
    refine HB.out.mono ?_
    rintro e w1 ⟨rfl, rfl⟩
    go_wp2_with fail
    go_ret
    exact ⟨rfl, Same.refl _⟩
theorem CmpI_any (a b : Int) (w : World) : Calls Try.prog 71 #[.int .i64 a, .int .i64 b] w fun e w' => e = .returned (.int .i64 (cmpI a b)) ∧ Same w w' := by
  have HA := Lib.hid (nanI_any a w)
  have HB := Lib.hid (nanI_any b w)
  rcases cmpI_cases a b with ⟨h, hq⟩ | ⟨h, hq⟩ | ⟨h, hq⟩
  all_goals
    rw [hq]
    clear hq
    try subst h
    go_enter Try.func71, Try.ntmps71
    go_wp2_with fail
    refine HA.out.mono ?_
    rintro e w1 ⟨rfl, rfl⟩
    go_wp2_with fail
    refine HB.out.mono ?_
    rintro e w1 ⟨rfl, rfl⟩
    go_wp2_with fail
    go_ret
    exact ⟨rfl, Same.refl _⟩

theorem Or2_any (x y : Int) (w : World) : Calls Try.prog 69 #[.slice (some ⟨w.heap.size, 0, none⟩) 2 2] (w.alloc (.cells #[.int .i64 x, .int .i64 y] 3)) fun e w' => e = .returned (.int .i64 (if x = 0 then y else x)) ∧ Same (w.alloc (.cells #[.int .i64 x, .int .i64 y] 3)) w' := by
  have c0 : (w.alloc (.cells #[.int .i64 x, .int .i64 y] 3)).cell? ⟨w.heap.size, 0, none⟩ = some (.int .i64 x) := by simp
  have c1 : (w.alloc (.cells #[.int .i64 x, .int .i64 y] 3)).cell? ⟨w.heap.size, 1, none⟩ = some (.int .i64 y) := by simp
  generalize w.alloc (.cells #[.int .i64 x, .int .i64 y] 3) = W at *
  generalize w.heap.size = g at *
  by_cases hx : x = 0
  · subst hx
    by_cases hy : y = 0
    · subst hy
      go_enter Try.func69, Try.ntmps69
      go_wp2_with fail
      refine wp_loop_rounds 3 ?_
      rw [rounds_succ]
      go_wp2_with fail
      rw [rounds_succ]
      go_wp2_with fail
      rw [rounds_succ]
      go_wp2_with fail
      go_ret
      exact ⟨rfl, Same.refl _⟩
    · have hy2 : (y == 0) = false := by simpa using hy
      have hy3 : (y != 0) = true := by simpa using hy
      go_enter Try.func69, Try.ntmps69
      go_wp2_with fail
      refine wp_loop_rounds 3 ?_
      rw [rounds_succ]
      go_wp2_with fail
      rw [rounds_succ]
      go_wp2_with fail
      go_ret
      exact ⟨rfl, Same.refl _⟩
  · have hy2 : (x == 0) = false := by simpa using hx
    have hy3 : (x != 0) = true := by simpa using hx
    rw [if_neg hx]
    go_enter Try.func69, Try.ntmps69
    go_wp2_with fail
    refine wp_loop_rounds 3 ?_
    rw [rounds_succ]
    go_wp2_with fail
    go_ret
    exact ⟨rfl, Same.refl _⟩

theorem Cmp_any (a n b m : Int) (w : World) : Calls Try.prog 33 #[.agg #[.int .u32 a, .int .i64 n], .agg #[.int .u32 b, .int .i64 m]] w fun e w' => e = .returned (.int .i64 (cmpP a n b m)) ∧ Same w w' := by
  have HU := fun w => Lib.hid (CmpU_any a b w)
  have HI := fun w => Lib.hid (CmpI_any n m w)
  have HO := fun w => Lib.hid (Or2_any (cmpI a b) (cmpI n m) w)
  unfold cmpP
  generalize cmpI a b = x at *
  generalize cmpI n m = y at *
  generalize (if x = 0 then y else x) = z at *
  have HA := Lib.hid (box2 a n b m w)
  have H0 := Lib.hid ((Same.alloc w (pfxO a n)).trans (Same.alloc _ (pfxO b m)))
  go_enter Try.func33, Try.ntmps33
  go_wp2_with fail
  generalize hW : ((w.alloc (pfxO a n)).alloc (pfxO b m)) = W at *
  refine reg_start (fun w' => Same W w') (by kernel_rfl) ?_
  refine reg_take (v := ?_) 0 (some 5) rfl rfl (by kernel_rfl) (fun _ _ _ h => h) (by kernel_rfl) ((Same.refl W).drew) ?_ ?_
  rotate_left
  · (intro w' hw'; obtain ⟨c0, c1, c2, c3⟩ := HA.out w' hw'; go_simp; try with_reducible rfl)
  try simp only [Act.put, List.setIfInBounds_toArray, List.set_cons_zero, List.set_cons_succ]
  refine reg_take (v := ?_) 1 (some 6) rfl rfl (by kernel_rfl) (fun _ _ _ h => h) (by kernel_rfl) ((Same.refl W).drew) ?_ ?_
  rotate_left
  · (intro w' hw'; obtain ⟨c0, c1, c2, c3⟩ := HA.out w' hw'; go_simp; try with_reducible rfl)
  try simp only [Act.put, List.setIfInBounds_toArray, List.set_cons_zero, List.set_cons_succ]
  refine reg_take (v := ?_) 2 (some 7) rfl rfl (by kernel_rfl) (fun _ _ _ h => h) (by kernel_rfl) ((Same.refl W).drew) ?_ ?_
  rotate_left
  · (intro w' hw'; obtain ⟨c0, c1, c2, c3⟩ := HA.out w' hw'; go_simp; try with_reducible rfl)
  try simp only [Act.put, List.setIfInBounds_toArray, List.set_cons_zero, List.set_cons_succ]
  refine reg_take (v := ?_) 3 (some 8) rfl rfl (by kernel_rfl) (fun _ _ _ h => h) (by kernel_rfl) ((Same.refl W).drew) ?_ ?_
  rotate_left
  · (intro w' hw'; obtain ⟨c0, c1, c2, c3⟩ := HA.out w' hw'; go_simp; try with_reducible rfl)
  try simp only [Act.put, List.setIfInBounds_toArray, List.set_cons_zero, List.set_cons_succ]
  refine reg_take (v := ?_) 5 (some 10) rfl rfl (by kernel_rfl) (fun _ _ _ h => h) (by kernel_rfl) ((Same.refl W).drew) ?_ ?_
  rotate_left
  · (intro w' hw'; obtain ⟨c0, c1, c2, c3⟩ := HA.out w' hw'; go_simp; try with_reducible rfl)
  try simp only [Act.put, List.setIfInBounds_toArray, List.set_cons_zero, List.set_cons_succ]
  refine reg_take (v := ?_) 6 (some 11) rfl rfl (by kernel_rfl) (fun _ _ _ h => h) (by kernel_rfl) ((Same.refl W).drew) ?_ ?_
  rotate_left
  · (intro w' hw'; obtain ⟨c0, c1, c2, c3⟩ := HA.out w' hw'; go_simp; try with_reducible rfl)
  try simp only [Act.put, List.setIfInBounds_toArray, List.set_cons_zero, List.set_cons_succ]
  refine reg_take (v := ?_) 7 (some 12) rfl rfl (by kernel_rfl) (fun _ _ _ h => h) (by kernel_rfl) ((Same.refl W).drew) ?_ ?_
  rotate_left
  · (intro w' hw'; obtain ⟨c0, c1, c2, c3⟩ := HA.out w' hw'; go_simp; try with_reducible rfl)
  try simp only [Act.put, List.setIfInBounds_toArray, List.set_cons_zero, List.set_cons_succ]
  refine reg_take (v := ?_) 8 (some 13) rfl rfl (by kernel_rfl) (fun _ _ _ h => h) (by kernel_rfl) ((Same.refl W).drew) ?_ ?_
  rotate_left
  · (intro w' hw'; obtain ⟨c0, c1, c2, c3⟩ := HA.out w' hw'; go_simp; try with_reducible rfl)
  try simp only [Act.put, List.setIfInBounds_toArray, List.set_cons_zero, List.set_cons_succ]
  refine reg_one 4 rfl (by kernel_rfl) (by kernel_rfl) ?_
  go_simp
  refine ((HU _).out).mono ?_
  rintro e u1 ⟨rfl, hs1⟩
  have hS1 := ((Same.refl W).drew).trans hs1
  skip
  refine ⟨hS1, ?_⟩
  try simp only [Act.put, List.setIfInBounds_toArray, List.set_cons_zero, List.set_cons_succ]
  refine reg_one 9 rfl (by kernel_rfl) (by kernel_rfl) ?_
  go_simp
  refine ((HI _).out).mono ?_
  rintro e u2 ⟨rfl, hs2⟩
  have hS2 := (hS1).trans hs2
  skip
  refine ⟨hS2, ?_⟩
  try simp only [Act.put, List.setIfInBounds_toArray, List.set_cons_zero, List.set_cons_succ]
  refine reg_one 10 rfl (by kernel_rfl) (by kernel_rfl) ?_
  go_simp
  refine ⟨hS2.trans (Same.alloc _ _), ?_⟩
  try simp only [Act.put, List.setIfInBounds_toArray, List.set_cons_zero, List.set_cons_succ]
  refine reg_one 11 rfl (by kernel_rfl) (by kernel_rfl) ?_
  go_simp
  refine ((HO _).out).mono ?_
  rintro e u4 ⟨rfl, hs4⟩
  have hS4 := (hS2.trans (Same.alloc _ _)).trans hs4
  skip
  refine ⟨hS4, ?_⟩
  try simp only [Act.put, List.setIfInBounds_toArray, List.set_cons_zero, List.set_cons_succ]
  refine reg_take (v := ?_) 12 (some 4) rfl rfl (by kernel_rfl) (fun _ _ _ h => h) (by kernel_rfl) (hS4) ?_ ?_
  rotate_left
  · (intro w' hw'; obtain ⟨c0, c1, c2, c3⟩ := HA.out w' hw'; go_simp; try with_reducible rfl)
  try simp only [Act.put, List.setIfInBounds_toArray, List.set_cons_zero, List.set_cons_succ]
  refine reg_done (by kernel_rfl) ?_
  go_wp2_with fail
  go_ret
  exact ⟨rfl, H0.out.trans hS4⟩

set_option maxRecDepth 100000
attribute [local go_sem ↓] eq_pfx
theorem rCmp_any (a n b m : Int) (w : World) : Calls Try.prog 35 #[.agg #[.int .u32 a, .int .i64 n], .agg #[.int .u32 b, .int .i64 m]] w fun e w' => e = .returned (.int .i64 (cmpP a n b m)) ∧ Same w w' := by
  have H0 := Lib.hid ((Same.alloc w (pfxO a n)).trans (Same.alloc _ (pfxO b m)))
  rcases cmpI_cases a b with ⟨h, hq⟩ | ⟨h, hq⟩ | ⟨h, hq⟩
  · have hv : Hid (cmpP a n b m = -1) := by show _ = _; rw [cmpP, hq]; rfl
    have h1 : decide (a = b) = false := by rw [decide_eq_false_iff_not]; omega
    have h2 : decide (a < b) = true := by rw [decide_eq_true_iff]; omega
    rw [hv.out]
    go_enter Try.func35, Try.ntmps35
    go_wp2_with fail
    go_ret
    exact ⟨rfl, H0.out⟩
  · have hv : Hid (cmpP a n b m = 1) := by show _ = _; rw [cmpP, hq]; rfl
    have h1 : decide (a = b) = false := by rw [decide_eq_false_iff_not]; omega
    have h2 : decide (a < b) = false := by rw [decide_eq_false_iff_not]; omega
    have h3 : (a == b) = false := by rw [beq_eq_false_iff_ne]; omega
    rw [hv.out]
    go_enter Try.func35, Try.ntmps35
    go_wp2_with fail
    go_ret
    exact ⟨rfl, H0.out⟩
  · subst h
    have hv : Hid (cmpP a n a m = cmpI n m) := by show _ = _; rw [cmpP, hq]; rfl
    rw [hv.out]
    rcases cmpI_cases n m with ⟨h, hq⟩ | ⟨h, hq⟩ | ⟨h, hq⟩
    · have h1 : decide (n = m) = false := by rw [decide_eq_false_iff_not]; omega
      have h2 : decide (n < m) = true := by rw [decide_eq_true_iff]; omega
      rw [hq]
      clear hq hv
      go_enter Try.func35, Try.ntmps35
      go_wp2_with fail
      go_ret
      exact ⟨rfl, H0.out⟩
    · have h1 : decide (n = m) = false := by rw [decide_eq_false_iff_not]; omega
      have h2 : decide (n < m) = false := by rw [decide_eq_false_iff_not]; omega
      rw [hq]
      clear hq hv
      go_enter Try.func35, Try.ntmps35
      go_wp2_with fail
      go_ret
      exact ⟨rfl, H0.out⟩
    · subst h
      rw [hq]
      clear hq hv
      go_enter Try.func35, Try.ntmps35
      go_wp2_with fail
      go_ret
      exact ⟨rfl, H0.out⟩
end Go.Proofs.Ytldiagjnpkpepaa
