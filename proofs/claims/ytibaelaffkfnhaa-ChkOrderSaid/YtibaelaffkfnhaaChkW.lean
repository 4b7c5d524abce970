/- The walks of ChkSums, ChkAdds. No condition beyond what each names. -/
import Derived.Test.YtibaelaffkfnhaaChkC
import Derived.Test.YtibaelaffkfnhaaReg
namespace Go.Proofs.Ytibaelaffkfnhaa
open Go.RowKit
set_option linter.unusedVariables false

theorem sums_long (C : ChkC) (ao : Option Addr) (n cap : Nat) (w : World) (h : 3000 < (n : Int)) :
    Calls Try.prog 7 #[.slice ao n cap] w fun e w' => e = .returned (.bool true) ∧ Same w w' := by
  go_enter Try.func7, Try.ntmps7
  go_wp2_with fail
  refine (chk_lives C w).mono ?_
  rintro e w1 ⟨rfl, hs⟩
  go_wp2_with fail
  go_ret
  exact ⟨rfl, hs⟩

theorem sums_walk (C : ChkC) (v : Value) (l : List UInt8) (w : World) (hb : Bs w v l) (hl : (l.length : Int) ≤ 3000) :
    Calls Try.prog 7 #[v] w fun e w' => e = .returned (.bool true) ∧ Same w w' := by
  have HB := Lib.hid hb
  have HL := Lib.hid (show (l.length : Int) ≤ 140737488355328 by omega)
  obtain ⟨ao, cap, rfl, b1, b2, b3, b4⟩ := hb
  clear b4 b3
  go_enter Try.func7, Try.ntmps7
  go_wp2_with fail
  refine (C.sum _ l w HB.out HL.out).mono ?_
  rintro e w1 ⟨rfl, h1⟩
  have H1 := Lib.hid h1
  have HB1 := Lib.hid (HB.out.same h1)
  clear h1
  go_wp2_with fail
  refine (rSum_any _ l w1 HB1.out HL.out).mono ?_
  rintro e w2 ⟨rfl, rfl⟩
  go_wp2_with fail
  refine (C.off _ l w1 HB1.out HL.out).mono ?_
  rintro e w2 ⟨rfl, h2⟩
  have H2 := Lib.hid (H1.out.trans h2)
  have HB2 := Lib.hid (HB1.out.same h2)
  clear h2
  go_wp2_with fail
  refine (rOf_any _ l w2 HB2.out HL.out).mono ?_
  rintro e w3 ⟨rfl, rfl⟩
  go_wp2_with fail
  refine (C.good _ l w2 HB2.out HL.out).mono ?_
  rintro e w3 ⟨rfl, h3⟩
  have H3 := Lib.hid (H2.out.trans h3)
  have HB3 := Lib.hid (HB2.out.same h3)
  clear h3
  go_wp2_with fail
  refine (rSum_any _ l w3 HB3.out HL.out).mono ?_
  rintro e w4 ⟨rfl, rfl⟩
  by_cases hg : sumB l = 65535
  · simp only [hg, decide_true]
    go_wp2_with fail
    refine (chk_lives C w3).mono ?_
    rintro e w4 ⟨rfl, hs⟩
    have H4 := Lib.hid (H3.out.trans hs)
    go_wp2_with fail
    go_ret
    exact ⟨rfl, H4.out⟩
  · simp only [hg, decide_false]
    have hq : ((sumB l : Int) == 65535) = false := by rw [beq_eq_false_iff_ne]; omega
    generalize sumB l = x at *
    go_wp2_with fail
    refine (chk_lives C w3).mono ?_
    rintro e w4 ⟨rfl, hs⟩
    have H4 := Lib.hid (H3.out.trans hs)
    go_wp2_with fail
    go_ret
    exact ⟨rfl, H4.out⟩
theorem rAdd_same (a b : Int) (w : World) : Calls Try.prog 42 #[.int .i64 a, .int .i64 b] w fun e w' => e = .returned (.int .i64 (addw (wd a) (wd b))) ∧ Same w w' :=
  (rAdd_any a b w).mono fun e w' ⟨h1, h2⟩ => ⟨h1, h2 ▸ Same.refl w⟩
theorem rUpdate_same (s f t : Int) (w : World) : Calls Try.prog 44 #[.int .i64 s, .int .i64 f, .int .i64 t] w fun e w' => e = .returned (.int .i64 (updW s f t)) ∧ Same w w' :=
  (rUpdate_any s f t w).mono fun e w' ⟨h1, h2⟩ => ⟨h1, h2 ▸ Same.refl w⟩

/-- a cell that reads as this value -/
def Cell (w : World) (a : Addr) (v : Value) : Prop := w.cell? a = some v
theorem Cell.same {w w' : World} {a : Addr} {v : Value} (hb : Cell w a v) (h : Same w w') : w'.cell? a = some v := by
  rw [Below.cell h (World.block_lt_of_cell? w _ hb)]; exact hb

set_option maxHeartbeats 4000000 in
theorem adds_walk (C : ChkC) (a b t0 t1 : Int) (w : World) (h0 : 0 ≤ t0 ∧ t0 ≤ 4294967295) (h1 : 0 ≤ t1 ∧ t1 ≤ 4294967295) :
    Calls Try.prog 8 #[.int .i64 a, .int .i64 b, .agg #[.int .u32 t0, .int .u32 t1]] w fun e w' => e = .returned (.bool true) ∧ Same w w' := by
  have y0 : IntKind.i64.wrap t0 = t0 := IntWalk.i64_in _ (by omega)
  go_enter Try.func8, Try.ntmps8
  go_wp2_with fail
  refine reg_start (fun w' => Same (w.alloc (.cells #[.int .u32 t0, .int .u32 t1] 62)).drew w') (by kernel_rfl) ?_
  have HC0 : Hid (Cell (w.alloc (.cells #[.int .u32 t0, .int .u32 t1] 62)).drew ⟨w.heap.size, 0, none⟩ (.int .u32 t0)) := World.cell?_alloc_new w _ _ 0
  have HC1 : Hid (Cell (w.alloc (.cells #[.int .u32 t0, .int .u32 t1] 62)).drew ⟨w.heap.size, 1, none⟩ (.int .u32 t1)) := World.cell?_alloc_new w _ _ 1
  have HA : Hid (Same w (w.alloc (.cells #[.int .u32 t0, .int .u32 t1] 62)).drew) := (Same.alloc w _).drew
  generalize (w.alloc (.cells #[.int .u32 t0, .int .u32 t1] 62)).drew = W0 at *
  have H0 : Hid (Same W0 W0) := Same.refl W0
  refine reg_take (v := ?_) 0 (some 7) rfl rfl (by kernel_rfl) (fun _ _ _ h => h) (by kernel_rfl) (Same.refl W0) ?_ ?_
  rotate_left
  · (intro w' hw'; go_simp; try with_reducible rfl)
  try simp only [Act.put, List.setIfInBounds_toArray, List.set_cons_zero, List.set_cons_succ]
  refine reg_take (v := ?_) 1 (some 8) rfl rfl (by kernel_rfl) (fun _ _ _ h => h) (by kernel_rfl) (Same.refl W0) ?_ ?_
  rotate_left
  · (intro w' hw'; go_simp; try with_reducible rfl)
  try simp only [Act.put, List.setIfInBounds_toArray, List.set_cons_zero, List.set_cons_succ]
  refine reg_take (v := ?_) 3 (some 10) rfl rfl (by kernel_rfl) (fun _ _ _ h => h) (by kernel_rfl) (Same.refl W0) ?_ ?_
  rotate_left
  · (intro w' hw'; go_simp; try with_reducible rfl)
  try simp only [Act.put, List.setIfInBounds_toArray, List.set_cons_zero, List.set_cons_succ]
  refine reg_take (v := ?_) 4 (some 11) rfl rfl (by kernel_rfl) (fun _ _ _ h => h) (by kernel_rfl) (Same.refl W0) ?_ ?_
  rotate_left
  · (intro w' hw'; go_simp; try with_reducible rfl)
  try simp only [Act.put, List.setIfInBounds_toArray, List.set_cons_zero, List.set_cons_succ]
  refine reg_one 2 rfl (by kernel_rfl) (by kernel_rfl) ?_
  go_simp
  refine (C.add a b _).mono ?_
  rintro e u1 ⟨rfl, hs1⟩
  have H1 := Lib.hid (H0.out.trans hs1)
  refine ⟨hs1, reg_more (fun w' => Same u1 w') (fun w' h => hs1.trans h) _ _ _ _ ?_⟩
  clear hs1
  try simp only [Act.put, List.setIfInBounds_toArray, List.set_cons_zero, List.set_cons_succ]
  refine reg_one 5 rfl (by kernel_rfl) (by kernel_rfl) ?_
  go_simp
  refine (rAdd_same a b _).mono ?_
  rintro e u2 ⟨rfl, hs2⟩
  have H2 := Lib.hid (H1.out.trans hs2)
  refine ⟨hs2, reg_more (fun w' => Same u2 w') (fun w' h => hs2.trans h) _ _ _ _ ?_⟩
  clear hs2
  try simp only [Act.put, List.setIfInBounds_toArray, List.set_cons_zero, List.set_cons_succ]
  refine reg_take (v := ?_) 6 (some 13) rfl rfl (by kernel_rfl) (fun _ _ _ h => h) (by kernel_rfl) (Same.refl u2) ?_ ?_
  rotate_left
  · (intro w' hw'; go_simp; try with_reducible rfl)
  try simp only [Act.put, List.setIfInBounds_toArray, List.set_cons_zero, List.set_cons_succ]
  refine reg_take (v := ?_) 7 (some 14) rfl rfl (by kernel_rfl) (fun _ _ _ h => h) (by kernel_rfl) (Same.refl u2) ?_ ?_
  rotate_left
  · (intro w' hw'; go_simp; try with_reducible rfl)
  try simp only [Act.put, List.setIfInBounds_toArray, List.set_cons_zero, List.set_cons_succ]
  refine reg_take (v := ?_) 8 (some 15) rfl rfl (by kernel_rfl) (fun _ _ _ h => h) (by kernel_rfl) (Same.refl u2) ?_ ?_
  rotate_left
  · (intro w' hw'; go_simp; try with_reducible rfl)
  try simp only [Act.put, List.setIfInBounds_toArray, List.set_cons_zero, List.set_cons_succ]
  refine reg_take (v := ?_) 9 (some 16) rfl rfl (by kernel_rfl) (fun _ _ _ h => h) (by kernel_rfl) (Same.refl u2) ?_ ?_
  rotate_left
  · (intro w' hw'; go_simp; try with_reducible rfl)
  try simp only [Act.put, List.setIfInBounds_toArray, List.set_cons_zero, List.set_cons_succ]
  refine reg_take (v := ?_) 10 (some 17) rfl rfl (by kernel_rfl) (fun _ _ _ h => h) (by kernel_rfl) (Same.refl u2) ?_ ?_
  rotate_left
  · (intro w' hw'; go_simp; try with_reducible rfl)
  try simp only [Act.put, List.setIfInBounds_toArray, List.set_cons_zero, List.set_cons_succ]
  refine reg_take (v := ?_) 11 (some 18) rfl rfl (by kernel_rfl) (fun _ _ _ h => h) (by kernel_rfl) (Same.refl u2) ?_ ?_
  rotate_left
  · (intro w' hw'; have hr := HC0.out.same (H2.out.trans hw'); go_simp; try with_reducible rfl)
  try simp only [Act.put, List.setIfInBounds_toArray, List.set_cons_zero, List.set_cons_succ]
  refine reg_take (v := ?_) 12 (some 19) rfl rfl (by kernel_rfl) (fun _ _ _ h => h) (by kernel_rfl) (Same.refl u2) ?_ ?_
  rotate_left
  · (intro w' hw'; go_simp; try with_reducible rfl)
  try simp only [Act.put, List.setIfInBounds_toArray, List.set_cons_zero, List.set_cons_succ]
  refine reg_take (v := ?_) 14 (some 21) rfl rfl (by kernel_rfl) (fun _ _ _ h => h) (by kernel_rfl) (Same.refl u2) ?_ ?_
  rotate_left
  · (intro w' hw'; go_simp; try with_reducible rfl)
  try simp only [Act.put, List.setIfInBounds_toArray, List.set_cons_zero, List.set_cons_succ]
  refine reg_take (v := ?_) 15 (some 22) rfl rfl (by kernel_rfl) (fun _ _ _ h => h) (by kernel_rfl) (Same.refl u2) ?_ ?_
  rotate_left
  · (intro w' hw'; go_simp; try with_reducible rfl)
  try simp only [Act.put, List.setIfInBounds_toArray, List.set_cons_zero, List.set_cons_succ]
  refine reg_take (v := ?_) 16 (some 23) rfl rfl (by kernel_rfl) (fun _ _ _ h => h) (by kernel_rfl) (Same.refl u2) ?_ ?_
  rotate_left
  · (intro w' hw'; go_simp; try with_reducible rfl)
  try simp only [Act.put, List.setIfInBounds_toArray, List.set_cons_zero, List.set_cons_succ]
  refine reg_take (v := ?_) 17 (some 24) rfl rfl (by kernel_rfl) (fun _ _ _ h => h) (by kernel_rfl) (Same.refl u2) ?_ ?_
  rotate_left
  · (intro w' hw'; have hr := HC0.out.same (H2.out.trans hw'); go_simp; try with_reducible rfl)
  try simp only [Act.put, List.setIfInBounds_toArray, List.set_cons_zero, List.set_cons_succ]
  refine reg_take (v := ?_) 18 (some 25) rfl rfl (by kernel_rfl) (fun _ _ _ h => h) (by kernel_rfl) (Same.refl u2) ?_ ?_
  rotate_left
  · (intro w' hw'; go_simp; try with_reducible rfl)
  try simp only [Act.put, List.setIfInBounds_toArray, List.set_cons_zero, List.set_cons_succ]
  refine reg_one 13 rfl (by kernel_rfl) (by kernel_rfl) ?_
  go_simp
  refine (C.update a b t0 _).mono ?_
  rintro e u3 ⟨rfl, hs3⟩
  have H3 := Lib.hid (H2.out.trans hs3)
  refine ⟨hs3, reg_more (fun w' => Same u3 w') (fun w' h => hs3.trans h) _ _ _ _ ?_⟩
  clear hs3
  try simp only [Act.put, List.setIfInBounds_toArray, List.set_cons_zero, List.set_cons_succ]
  refine reg_one 19 rfl (by kernel_rfl) (by kernel_rfl) ?_
  go_simp
  refine (rUpdate_same a b t0 _).mono ?_
  rintro e u4 ⟨rfl, hs4⟩
  have H4 := Lib.hid (H3.out.trans hs4)
  refine ⟨hs4, reg_more (fun w' => Same u4 w') (fun w' h => hs4.trans h) _ _ _ _ ?_⟩
  clear hs4
  try simp only [Act.put, List.setIfInBounds_toArray, List.set_cons_zero, List.set_cons_succ]
  refine reg_take (v := ?_) 20 (some 27) rfl rfl (by kernel_rfl) (fun _ _ _ h => h) (by kernel_rfl) (Same.refl u4) ?_ ?_
  rotate_left
  · (intro w' hw'; go_simp; try with_reducible rfl)
  try simp only [Act.put, List.setIfInBounds_toArray, List.set_cons_zero, List.set_cons_succ]
  refine reg_take (v := ?_) 21 (some 28) rfl rfl (by kernel_rfl) (fun _ _ _ h => h) (by kernel_rfl) (Same.refl u4) ?_ ?_
  rotate_left
  · (intro w' hw'; go_simp; try with_reducible rfl)
  try simp only [Act.put, List.setIfInBounds_toArray, List.set_cons_zero, List.set_cons_succ]
  refine reg_take (v := ?_) 22 (some 29) rfl rfl (by kernel_rfl) (fun _ _ _ h => h) (by kernel_rfl) (Same.refl u4) ?_ ?_
  rotate_left
  · (intro w' hw'; go_simp; try with_reducible rfl)
  try simp only [Act.put, List.setIfInBounds_toArray, List.set_cons_zero, List.set_cons_succ]
  refine reg_take (v := ?_) 23 (some 30) rfl rfl (by kernel_rfl) (fun _ _ _ h => h) (by kernel_rfl) (Same.refl u4) ?_ ?_
  rotate_left
  · (intro w' hw'; go_simp; try with_reducible rfl)
  try simp only [Act.put, List.setIfInBounds_toArray, List.set_cons_zero, List.set_cons_succ]
  refine reg_take (v := ?_) 24 (some 31) rfl rfl (by kernel_rfl) (fun _ _ _ h => h) (by kernel_rfl) (Same.refl u4) ?_ ?_
  rotate_left
  · (intro w' hw'; have hr := HC0.out.same (H4.out.trans hw'); go_simp; try with_reducible rfl)
  try simp only [Act.put, List.setIfInBounds_toArray, List.set_cons_zero, List.set_cons_succ]
  refine reg_take (v := ?_) 25 (some 32) rfl rfl (by kernel_rfl) (fun _ _ _ h => h) (by kernel_rfl) (Same.refl u4) ?_ ?_
  rotate_left
  · (intro w' hw'; go_simp; try with_reducible rfl)
  try simp only [Act.put, List.setIfInBounds_toArray, List.set_cons_zero, List.set_cons_succ]
  refine reg_take (v := ?_) 26 (some 33) rfl rfl (by kernel_rfl) (fun _ _ _ h => h) (by kernel_rfl) (Same.refl u4) ?_ ?_
  rotate_left
  · (intro w' hw'; have hr := HC1.out.same (H4.out.trans hw'); go_simp; try with_reducible rfl)
  try simp only [Act.put, List.setIfInBounds_toArray, List.set_cons_zero, List.set_cons_succ]
  refine reg_take (v := ?_) 27 (some 34) rfl rfl (by kernel_rfl) (fun _ _ _ h => h) (by kernel_rfl) (Same.refl u4) ?_ ?_
  rotate_left
  · (intro w' hw'; go_simp; try with_reducible rfl)
  try simp only [Act.put, List.setIfInBounds_toArray, List.set_cons_zero, List.set_cons_succ]
  refine reg_take (v := ?_) 28 (some 35) rfl rfl (by kernel_rfl) (fun _ _ _ h => h) (by kernel_rfl) (Same.refl u4) ?_ ?_
  rotate_left
  · (intro w' hw'; go_simp; try with_reducible rfl)
  try simp only [Act.put, List.setIfInBounds_toArray, List.set_cons_zero, List.set_cons_succ]
  refine reg_take (v := ?_) 30 (some 37) rfl rfl (by kernel_rfl) (fun _ _ _ h => h) (by kernel_rfl) (Same.refl u4) ?_ ?_
  rotate_left
  · (intro w' hw'; go_simp; try with_reducible rfl)
  try simp only [Act.put, List.setIfInBounds_toArray, List.set_cons_zero, List.set_cons_succ]
  refine reg_take (v := ?_) 31 (some 38) rfl rfl (by kernel_rfl) (fun _ _ _ h => h) (by kernel_rfl) (Same.refl u4) ?_ ?_
  rotate_left
  · (intro w' hw'; have hr := HC0.out.same (H4.out.trans hw'); go_simp; try with_reducible rfl)
  try simp only [Act.put, List.setIfInBounds_toArray, List.set_cons_zero, List.set_cons_succ]
  refine reg_take (v := ?_) 32 (some 39) rfl rfl (by kernel_rfl) (fun _ _ _ h => h) (by kernel_rfl) (Same.refl u4) ?_ ?_
  rotate_left
  · (intro w' hw'; go_simp; try with_reducible rfl)
  try simp only [Act.put, List.setIfInBounds_toArray, List.set_cons_zero, List.set_cons_succ]
  refine reg_take (v := ?_) 33 (some 40) rfl rfl (by kernel_rfl) (fun _ _ _ h => h) (by kernel_rfl) (Same.refl u4) ?_ ?_
  rotate_left
  · (intro w' hw'; have hr := HC1.out.same (H4.out.trans hw'); go_simp; try with_reducible rfl)
  try simp only [Act.put, List.setIfInBounds_toArray, List.set_cons_zero, List.set_cons_succ]
  refine reg_take (v := ?_) 34 (some 41) rfl rfl (by kernel_rfl) (fun _ _ _ h => h) (by kernel_rfl) (Same.refl u4) ?_ ?_
  rotate_left
  · (intro w' hw'; go_simp; try with_reducible rfl)
  try simp only [Act.put, List.setIfInBounds_toArray, List.set_cons_zero, List.set_cons_succ]
  refine reg_take (v := ?_) 35 (some 42) rfl rfl (by kernel_rfl) (fun _ _ _ h => h) (by kernel_rfl) (Same.refl u4) ?_ ?_
  rotate_left
  · (intro w' hw'; go_simp; try with_reducible rfl)
  try simp only [Act.put, List.setIfInBounds_toArray, List.set_cons_zero, List.set_cons_succ]
  refine reg_one 29 rfl (by kernel_rfl) (by kernel_rfl) ?_
  go_simp
  refine (C.pseudo t0 t1 a b _ h0 h1).mono ?_
  rintro e u5 ⟨rfl, hs5⟩
  have H5 := Lib.hid (H4.out.trans hs5)
  refine ⟨hs5, reg_more (fun w' => Same u5 w') (fun w' h => hs5.trans h) _ _ _ _ ?_⟩
  clear hs5
  try simp only [Act.put, List.setIfInBounds_toArray, List.set_cons_zero, List.set_cons_succ]
  refine reg_one 36 rfl (by kernel_rfl) (by kernel_rfl) ?_
  go_simp
  refine (rPseudo_any t0 t1 a b _).mono ?_
  rintro e u6 ⟨rfl, hs6⟩
  have H6 := Lib.hid (H5.out.trans hs6)
  refine ⟨hs6, reg_more (fun w' => Same u6 w') (fun w' h => hs6.trans h) _ _ _ _ ?_⟩
  clear hs6
  try simp only [Act.put, List.setIfInBounds_toArray, List.set_cons_zero, List.set_cons_succ]
  refine reg_take (v := ?_) 37 (some 44) rfl rfl (by kernel_rfl) (fun _ _ _ h => h) (by kernel_rfl) (Same.refl u6) ?_ ?_
  rotate_left
  · (intro w' hw'; go_simp; try with_reducible rfl)
  try simp only [Act.put, List.setIfInBounds_toArray, List.set_cons_zero, List.set_cons_succ]
  refine reg_take (v := ?_) 38 (some 45) rfl rfl (by kernel_rfl) (fun _ _ _ h => h) (by kernel_rfl) (Same.refl u6) ?_ ?_
  rotate_left
  · (intro w' hw'; go_simp; try with_reducible rfl)
  try simp only [Act.put, List.setIfInBounds_toArray, List.set_cons_zero, List.set_cons_succ]
  refine reg_take (v := ?_) 39 (some 46) rfl rfl (by kernel_rfl) (fun _ _ _ h => h) (by kernel_rfl) (Same.refl u6) ?_ ?_
  rotate_left
  · (intro w' hw'; go_simp; try with_reducible rfl)
  try simp only [Act.put, List.setIfInBounds_toArray, List.set_cons_zero, List.set_cons_succ]
  refine reg_one 40 rfl (by kernel_rfl) (by kernel_rfl) ?_
  go_simp
  refine (chk_lives C _).mono ?_
  rintro e u7 ⟨rfl, hs7⟩
  have H7 := Lib.hid (H6.out.trans hs7)
  refine ⟨hs7, reg_more (fun w' => Same u7 w') (fun w' h => hs7.trans h) _ _ _ _ ?_⟩
  clear hs7
  try simp only [Act.put, List.setIfInBounds_toArray, List.set_cons_zero, List.set_cons_succ]
  refine reg_take (v := ?_) 41 (some 48) rfl rfl (by kernel_rfl) (fun _ _ _ h => h) (by kernel_rfl) (Same.refl u7) ?_ ?_
  rotate_left
  · (intro w' hw'; go_simp; try with_reducible rfl)
  try simp only [Act.put, List.setIfInBounds_toArray, List.set_cons_zero, List.set_cons_succ]
  refine reg_take (v := ?_) 42 (some 6) rfl rfl (by kernel_rfl) (fun _ _ _ h => h) (by kernel_rfl) (Same.refl u7) ?_ ?_
  rotate_left
  · (intro w' hw'; go_simp; try with_reducible rfl)
  try simp only [Act.put, List.setIfInBounds_toArray, List.set_cons_zero, List.set_cons_succ]
  refine reg_done (by kernel_rfl) ?_
  go_wp2_with fail
  go_ret
  exact ⟨rfl, HA.out.trans H7.out⟩
end Go.Proofs.Ytibaelaffkfnhaa
