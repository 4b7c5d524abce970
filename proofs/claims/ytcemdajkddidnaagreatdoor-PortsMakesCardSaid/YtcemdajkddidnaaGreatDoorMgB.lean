/- The document's own layer 5: Good, Back, Bytes, ports; the arithmetic of its sum. No condition beyond what each names. The document's own layer 5: sums, packets. No condition beyond what each names. The document's own layer 5: MakeTcp, MakeUdp. No condition beyond what each names. -/
import Derived.Test.YtcemdajkddidnaaGreatDoorMgA
import Derived.Test.YtcemdajkddidnaaGreatDoorMgG
namespace Go.Proofs.YtcemdajkddidnaaGreatDoor
open Go.RowKit
set_option linter.unusedVariables false

theorem byteAt_wrap (n : Int) (i : Nat) (hi : i = 0 ∨ i = 1 ∨ i = 2 ∨ i = 3) : byteAt (IntKind.u64.wrap n) i = byteAt n i := by
  unfold byteAt
  rw [IntKind.wrap_u64]
  rcases hi with rfl | rfl | rfl | rfl <;> (congr 2; omega)

theorem rPut_w2 (v : Value) (l : List UInt8) (n : Int) (w : World) (hb : Bs w v l) (hl : l.length + 2 ≤ 140737488355328) :
    Calls Tryz.prog 25 #[v, .int .u64 (IntKind.u64.wrap n), .int .i64 2] w fun e w' => ∃ v', e = .returned v' ∧ OwnB w' w.heap.size v' (l ++ wdB n) ∧ Same w w' := by
  have h := rPut_two v l (IntKind.u64.wrap n) w hb hl (by rw [IntKind.wrap_u64]; omega) (by rw [IntKind.wrap_u64]; omega)
  rw [byteAt_wrap n 1 (by simp), byteAt_wrap n 0 (by simp)] at h
  exact h
theorem rPut_p2 (v : Value) (l : List UInt8) (n : Int) (w : World) (hb : Bs w v l) (hl : l.length + 2 ≤ 140737488355328) (h0 : 0 ≤ n) (h1 : n ≤ 9223372036854775807) :
    Calls Tryz.prog 25 #[v, .int .u64 n, .int .i64 2] w fun e w' => ∃ v', e = .returned v' ∧ OwnB w' w.heap.size v' (l ++ wdB n) ∧ Same w w' := rPut_two v l n w hb hl h0 (by omega)

theorem first_false5 (a b c d e : Bool) : a = false ∨ (a = true ∧ b = false) ∨ (a = true ∧ b = true ∧ c = false) ∨ (a = true ∧ b = true ∧ c = true ∧ d = false) ∨ (a = true ∧ b = true ∧ c = true ∧ d = true ∧ e = false) ∨ (a = true ∧ b = true ∧ c = true ∧ d = true ∧ e = true) := by
  cases a <;> cases b <;> cases c <;> cases d <;> cases e <;> decide

theorem good5 (f : Fl) : decide (goodF f) = ((f.proto == 6 || f.proto == 17) && decide (0 ≤ f.sport) && decide (f.sport ≤ 65535) && decide (0 ≤ f.dport) && decide (f.dport ≤ 65535)) := by
  rw [Bool.eq_iff_iff]
  simp [goodF, portOk, and_assoc]

set_option maxRecDepth 100000 in
theorem roGood5_any (f : Fl) (w : World) : Calls Tryz.prog 10 #[flV f] w fun e w' => e = .returned (.bool (decide (goodF f))) ∧ Same w w' := by
  rw [good5]
  obtain ⟨q0, q1, q2, q3, q4⟩ := f
  have H0 := Lib.hid (Same.alloc w (flO 24 ⟨q0, q1, q2, q3, q4⟩))
  simp only
  by_cases h6 : q0 = 6
  · subst h6
    rcases first_false5 true (decide (0 ≤ q3)) (decide (q3 ≤ 65535)) (decide (0 ≤ q4)) (decide (q4 ≤ 65535)) with e1 | ⟨e1, e2⟩ | ⟨e1, e2, e3⟩ | ⟨e1, e2, e3, e4⟩ | ⟨e1, e2, e3, e4, e5⟩ | ⟨e1, e2, e3, e4, e5⟩
    · cases e1
    iterate 5
      · go_enter Tryz.func10, Tryz.ntmps10
        go_wp2_with fail
        go_ret
        exact ⟨by simp [*], H0.out⟩
  · have k6 : (q0 == 6) = false := by simpa using h6
    by_cases h7 : q0 = 17
    · subst h7
      rcases first_false5 true (decide (0 ≤ q3)) (decide (q3 ≤ 65535)) (decide (0 ≤ q4)) (decide (q4 ≤ 65535)) with e1 | ⟨e1, e2⟩ | ⟨e1, e2, e3⟩ | ⟨e1, e2, e3, e4⟩ | ⟨e1, e2, e3, e4, e5⟩ | ⟨e1, e2, e3, e4, e5⟩
      · cases e1
      iterate 5
        · go_enter Tryz.func10, Tryz.ntmps10
          go_wp2_with fail
          go_ret
          exact ⟨by simp [*], H0.out⟩
    · have k7 : (q0 == 17) = false := by simpa using h7
      go_enter Tryz.func10, Tryz.ntmps10
      go_wp2_with fail
      go_ret
      exact ⟨by simp [*], H0.out⟩

set_option maxRecDepth 100000 in
theorem roBack5_any (f : Fl) (w : World) : Calls Tryz.prog 14 #[flV f] w fun e w' => e = .returned (flV (backF f)) ∧ Same w w' := by
  obtain ⟨q0, q1, q2, q3, q4⟩ := f
  have HA := Lib.hid (Same.alloc w (flO 24 ⟨q0, q1, q2, q3, q4⟩))
  go_enter Tryz.func14, Tryz.ntmps14
  go_wp2_with fail
  refine bodyPost_ret (v := flV (backF ⟨q0, q1, q2, q3, q4⟩)) ?_ rfl ⟨rfl, HA.out.trans (Same.alloc _ _)⟩
  simp [results, Tryz.results14, go_sem, backF]

set_option maxRecDepth 100000 in
set_option maxHeartbeats 1000000 in
theorem roPorts5_any (f : Fl) (w : World) : Calls Tryz.prog 22 #[flV f] w fun e w' => ∃ v, e = .returned v ∧ OwnB w' w.heap.size v (portsL (endsF f)) ∧ Same w w' := by
  obtain ⟨q0, q1, q2, q3, q4⟩ := f
  have HEQ : Hid (portsL (endsF ⟨q0, q1, q2, q3, q4⟩) = ([] ++ wdB q3) ++ wdB q4) := by show _ = _; simp [portsL, endsF, wdB]
  rw [HEQ.out]
  obtain ⟨W0, hW⟩ : ∃ W0, W0 = w.alloc (flO 24 ⟨q0, q1, q2, q3, q4⟩) := ⟨_, rfl⟩
  have HX : Hid (∀ w', Same W0 w' → FlAt w' w.heap.size ⟨q0, q1, q2, q3, q4⟩) := by rw [hW]; exact fl_box 24 ⟨q0, q1, q2, q3, q4⟩ w
  have H0 : Hid (Same w W0) := by rw [hW]; exact Same.alloc w _
  go_enter Tryz.func22, Tryz.ntmps22
  go_wp2_with fail
  rw [← hW]
  clear hW
  refine reg_start (fun w' => Same W0 w') (by kernel_rfl) ?_
  refine reg_take (v := ?_) 0 (some 3) rfl rfl (by kernel_rfl) (fun _ _ _ h => h) (by kernel_rfl) ((Same.refl W0).drew) ?_ ?_
  rotate_left
  · (intro w' hw'; obtain ⟨c0, c1, c2, c3, c4⟩ := HX.out w' hw'; go_simp; try with_reducible rfl)
  try simp only [Act.put, List.setIfInBounds_toArray, List.set_cons_zero, List.set_cons_succ]
  refine reg_take (v := ?_) 1 (some 4) rfl rfl (by kernel_rfl) (fun _ _ _ h => h) (by kernel_rfl) ((Same.refl W0).drew) ?_ ?_
  rotate_left
  · (intro w' hw'; obtain ⟨c0, c1, c2, c3, c4⟩ := HX.out w' hw'; go_simp; try with_reducible rfl)
  try simp only [Act.put, List.setIfInBounds_toArray, List.set_cons_zero, List.set_cons_succ]
  refine reg_take (v := ?_) 2 (some 5) rfl rfl (by kernel_rfl) (fun _ _ _ h => h) (by kernel_rfl) ((Same.refl W0).drew) ?_ ?_
  rotate_left
  · (intro w' hw'; obtain ⟨c0, c1, c2, c3, c4⟩ := HX.out w' hw'; go_simp; try with_reducible rfl)
  try simp only [Act.put, List.setIfInBounds_toArray, List.set_cons_zero, List.set_cons_succ]
  refine reg_take (v := ?_) 4 (some 7) rfl rfl (by kernel_rfl) (fun _ _ _ h => h) (by kernel_rfl) ((Same.refl W0).drew) ?_ ?_
  rotate_left
  · (intro w' hw'; obtain ⟨c0, c1, c2, c3, c4⟩ := HX.out w' hw'; go_simp; try with_reducible rfl)
  try simp only [Act.put, List.setIfInBounds_toArray, List.set_cons_zero, List.set_cons_succ]
  refine reg_take (v := ?_) 5 (some 8) rfl rfl (by kernel_rfl) (fun _ _ _ h => h) (by kernel_rfl) ((Same.refl W0).drew) ?_ ?_
  rotate_left
  · (intro w' hw'; obtain ⟨c0, c1, c2, c3, c4⟩ := HX.out w' hw'; go_simp; try with_reducible rfl)
  try simp only [Act.put, List.setIfInBounds_toArray, List.set_cons_zero, List.set_cons_succ]
  refine reg_take (v := ?_) 6 (some 9) rfl rfl (by kernel_rfl) (fun _ _ _ h => h) (by kernel_rfl) ((Same.refl W0).drew) ?_ ?_
  rotate_left
  · (intro w' hw'; obtain ⟨c0, c1, c2, c3, c4⟩ := HX.out w' hw'; go_simp; try with_reducible rfl)
  try simp only [Act.put, List.setIfInBounds_toArray, List.set_cons_zero, List.set_cons_succ]
  refine reg_one 3 rfl (by kernel_rfl) (by kernel_rfl) ?_
  go_simp
  refine ((rPut_w2 (.slice none 0 0) [] q3 _ (Bs.nil _) (by simp))).mono ?_
  rintro e u1 ⟨v1, rfl, ho1, hs1⟩
  have hS1 := ((Same.refl W0).drew).trans hs1
  have HB1 := Lib.hid ho1.bs
  clear ho1
  refine ⟨hS1, ?_⟩
  try simp only [Act.put, List.setIfInBounds_toArray, List.set_cons_zero, List.set_cons_succ]
  refine reg_one 7 rfl (by kernel_rfl) (by kernel_rfl) ?_
  go_simp
  refine ((rPut_w2 _ ([] ++ wdB q3) q4 _ HB1.out (by simp [wdB]))).mono ?_
  rintro e u2 ⟨v2, rfl, ho2, hs2⟩
  have hS2 := (hS1).trans hs2
  have HO2 := Lib.hid ho2
  clear ho2
  refine ⟨hS2, ?_⟩
  try simp only [Act.put, List.setIfInBounds_toArray, List.set_cons_zero, List.set_cons_succ]
  refine reg_take (v := ?_) 8 (some 2) rfl rfl (by kernel_rfl) (fun _ _ _ h => h) (by kernel_rfl) (hS2) ?_ ?_
  rotate_left
  · (intro w' hw'; obtain ⟨c0, c1, c2, c3, c4⟩ := HX.out w' hw'; go_simp; try with_reducible rfl)
  try simp only [Act.put, List.setIfInBounds_toArray, List.set_cons_zero, List.set_cons_succ]
  refine reg_done (by kernel_rfl) ?_
  go_wp2_with fail
  go_ret
  exact ⟨v2, rfl, HO2.out.mono (Nat.le_trans H0.out.size hS1.size), H0.out.trans hS2⟩

set_option maxRecDepth 100000 in
set_option maxHeartbeats 1000000 in
theorem roBytes5_any (f : Fl) (hr : (0 ≤ f.src ∧ f.src ≤ 4294967295) ∧ (0 ≤ f.dst ∧ f.dst ≤ 4294967295)) (w : World) : Calls Tryz.prog 12 #[flV f] w fun e w' => ∃ v, e = .returned v ∧ OwnB w' w.heap.size v (bytesF f) ∧ Same w w' := by
  obtain ⟨q0, q1, q2, q3, q4⟩ := f
  obtain ⟨⟨p1, p2⟩, p3, p4⟩ := hr
  simp only at p1 p2 p3 p4
  have HEQ : Hid (bytesF ⟨q0, q1, q2, q3, q4⟩ = ((([byteAt q0 0] ++ [byteAt q1 3, byteAt q1 2, byteAt q1 1, byteAt q1 0]) ++ [byteAt q2 3, byteAt q2 2, byteAt q2 1, byteAt q2 0]) ++ wdB q3) ++ wdB q4) := by show _ = _; rw [bytesF_eq]; simp [wdB]
  rw [HEQ.out]
  obtain ⟨W0, hW⟩ : ∃ W0, W0 = w.alloc (flO 24 ⟨q0, q1, q2, q3, q4⟩) := ⟨_, rfl⟩
  have HX : Hid (∀ w', Same W0 w' → FlAt w' w.heap.size ⟨q0, q1, q2, q3, q4⟩) := by rw [hW]; exact fl_box 24 ⟨q0, q1, q2, q3, q4⟩ w
  have H0 : Hid (Same w W0) := by rw [hW]; exact Same.alloc w _
  go_enter Tryz.func12, Tryz.ntmps12
  go_wp2_with fail
  rw [← hW]
  clear hW
  refine reg_start (fun w' => Same W0 w') (by kernel_rfl) ?_
  generalize hD : W0.drew = D0 at *; have HT0 : Hid (Same W0 D0) := (by rw [← hD]; exact (Same.refl W0).drew); clear hD
  refine reg_take (v := ?_) 0 (some 4) rfl rfl (by kernel_rfl) (fun _ _ _ h => h) (by kernel_rfl) (HT0.out) ?_ ?_
  rotate_left
  · (intro w' hw'; obtain ⟨c0, c1, c2, c3, c4⟩ := HX.out w' hw'; go_simp; try with_reducible rfl)
  try simp only [Act.put, List.setIfInBounds_toArray, List.set_cons_zero, List.set_cons_succ]
  refine reg_take (v := ?_) 1 (some 5) rfl rfl (by kernel_rfl) (fun _ _ _ h => h) (by kernel_rfl) (HT0.out) ?_ ?_
  rotate_left
  · (intro w' hw'; obtain ⟨c0, c1, c2, c3, c4⟩ := HX.out w' hw'; go_simp; try with_reducible rfl)
  try simp only [Act.put, List.setIfInBounds_toArray, List.set_cons_zero, List.set_cons_succ]
  refine reg_take (v := ?_) 2 (some 6) rfl rfl (by kernel_rfl) (fun _ _ _ h => h) (by kernel_rfl) (HT0.out) ?_ ?_
  rotate_left
  · (intro w' hw'; obtain ⟨c0, c1, c2, c3, c4⟩ := HX.out w' hw'; go_simp; try with_reducible rfl)
  try simp only [Act.put, List.setIfInBounds_toArray, List.set_cons_zero, List.set_cons_succ]
  refine reg_take (v := ?_) 4 (some 8) rfl rfl (by kernel_rfl) (fun _ _ _ h => h) (by kernel_rfl) (HT0.out) ?_ ?_
  rotate_left
  · (intro w' hw'; obtain ⟨c0, c1, c2, c3, c4⟩ := HX.out w' hw'; go_simp; try with_reducible rfl)
  try simp only [Act.put, List.setIfInBounds_toArray, List.set_cons_zero, List.set_cons_succ]
  refine reg_take (v := ?_) 5 (some 9) rfl rfl (by kernel_rfl) (fun _ _ _ h => h) (by kernel_rfl) (HT0.out) ?_ ?_
  rotate_left
  · (intro w' hw'; obtain ⟨c0, c1, c2, c3, c4⟩ := HX.out w' hw'; go_simp; try with_reducible rfl)
  try simp only [Act.put, List.setIfInBounds_toArray, List.set_cons_zero, List.set_cons_succ]
  refine reg_take (v := ?_) 6 (some 10) rfl rfl (by kernel_rfl) (fun _ _ _ h => h) (by kernel_rfl) (HT0.out) ?_ ?_
  rotate_left
  · (intro w' hw'; obtain ⟨c0, c1, c2, c3, c4⟩ := HX.out w' hw'; go_simp; try with_reducible rfl)
  try simp only [Act.put, List.setIfInBounds_toArray, List.set_cons_zero, List.set_cons_succ]
  refine reg_take (v := ?_) 8 (some 12) rfl rfl (by kernel_rfl) (fun _ _ _ h => h) (by kernel_rfl) (HT0.out) ?_ ?_
  rotate_left
  · (intro w' hw'; obtain ⟨c0, c1, c2, c3, c4⟩ := HX.out w' hw'; go_simp; try with_reducible rfl)
  try simp only [Act.put, List.setIfInBounds_toArray, List.set_cons_zero, List.set_cons_succ]
  refine reg_take (v := ?_) 9 (some 13) rfl rfl (by kernel_rfl) (fun _ _ _ h => h) (by kernel_rfl) (HT0.out) ?_ ?_
  rotate_left
  · (intro w' hw'; obtain ⟨c0, c1, c2, c3, c4⟩ := HX.out w' hw'; go_simp; try with_reducible rfl)
  try simp only [Act.put, List.setIfInBounds_toArray, List.set_cons_zero, List.set_cons_succ]
  refine reg_take (v := ?_) 10 (some 14) rfl rfl (by kernel_rfl) (fun _ _ _ h => h) (by kernel_rfl) (HT0.out) ?_ ?_
  rotate_left
  · (intro w' hw'; obtain ⟨c0, c1, c2, c3, c4⟩ := HX.out w' hw'; go_simp; try with_reducible rfl)
  try simp only [Act.put, List.setIfInBounds_toArray, List.set_cons_zero, List.set_cons_succ]
  refine reg_one 3 rfl (by kernel_rfl) (by kernel_rfl) ?_
  go_simp
  have HB0 := Lib.hid (Bs.one0 D0 q0)
  have hSa := HT0.out.trans (Same.alloc D0 (.cells #[.int .u8 (q0 % 256)] 5))
  refine ⟨hSa, ?_⟩
  try simp only [Act.put, List.setIfInBounds_toArray, List.set_cons_zero, List.set_cons_succ]
  refine reg_one 7 rfl (by kernel_rfl) (by kernel_rfl) ?_
  go_simp
  refine ((rPut_u32 _ [byteAt q0 0] q1 _ HB0.out (by simp) p1 p2)).mono ?_
  rintro e u2 ⟨v1, rfl, ho1, hs2⟩
  have hS2 := (hSa).trans hs2
  have HB1 := Lib.hid ho1.bs
  clear ho1
  refine ⟨hS2, ?_⟩
  try simp only [Act.put, List.setIfInBounds_toArray, List.set_cons_zero, List.set_cons_succ]
  refine reg_one 11 rfl (by kernel_rfl) (by kernel_rfl) ?_
  go_simp
  refine ((rPut_u32 _ _ q2 _ HB1.out (by simp) p3 p4)).mono ?_
  rintro e u3 ⟨v2, rfl, ho2, hs3⟩
  have hS3 := (hS2).trans hs3
  have HB2 := Lib.hid ho2.bs
  clear ho2
  refine ⟨hS3, ?_⟩
  try simp only [Act.put, List.setIfInBounds_toArray, List.set_cons_zero, List.set_cons_succ]
  refine reg_take (v := ?_) 12 (some 3) rfl rfl (by kernel_rfl) (fun _ _ _ h => h) (by kernel_rfl) (hS3) ?_ ?_
  rotate_left
  · (intro w' hw'; obtain ⟨c0, c1, c2, c3, c4⟩ := HX.out w' hw'; go_simp; try with_reducible rfl)
  try simp only [Act.put, List.setIfInBounds_toArray, List.set_cons_zero, List.set_cons_succ]
  refine reg_done (by kernel_rfl) ?_
  go_wp2_with fail
  have HS2 := Lib.hid hS3
  have HXb : Hid (∀ w', Same u3 w' → FlAt w' w.heap.size ⟨q0, q1, q2, q3, q4⟩) := fun w' hw => HX.out w' (HS2.out.trans hw)
  clear hs2 hs3 hS2 hS3 hSa
  refine reg_start (fun w' => Same u3 w') (by kernel_rfl) ?_
  refine reg_take (v := ?_) 0 (some 16) rfl rfl (by kernel_rfl) (fun _ _ _ h => h) (by kernel_rfl) ((Same.refl u3).drew) ?_ ?_
  rotate_left
  · (intro w' hw'; obtain ⟨c0, c1, c2, c3, c4⟩ := HXb.out w' hw'; go_simp; try with_reducible rfl)
  try simp only [Act.put, List.setIfInBounds_toArray, List.set_cons_zero, List.set_cons_succ]
  refine reg_take (v := ?_) 1 (some 17) rfl rfl (by kernel_rfl) (fun _ _ _ h => h) (by kernel_rfl) ((Same.refl u3).drew) ?_ ?_
  rotate_left
  · (intro w' hw'; obtain ⟨c0, c1, c2, c3, c4⟩ := HXb.out w' hw'; go_simp; try with_reducible rfl)
  try simp only [Act.put, List.setIfInBounds_toArray, List.set_cons_zero, List.set_cons_succ]
  refine reg_take (v := ?_) 2 (some 18) rfl rfl (by kernel_rfl) (fun _ _ _ h => h) (by kernel_rfl) ((Same.refl u3).drew) ?_ ?_
  rotate_left
  · (intro w' hw'; obtain ⟨c0, c1, c2, c3, c4⟩ := HXb.out w' hw'; go_simp; try with_reducible rfl)
  try simp only [Act.put, List.setIfInBounds_toArray, List.set_cons_zero, List.set_cons_succ]
  refine reg_take (v := ?_) 3 (some 19) rfl rfl (by kernel_rfl) (fun _ _ _ h => h) (by kernel_rfl) ((Same.refl u3).drew) ?_ ?_
  rotate_left
  · (intro w' hw'; obtain ⟨c0, c1, c2, c3, c4⟩ := HXb.out w' hw'; go_simp; try with_reducible rfl)
  try simp only [Act.put, List.setIfInBounds_toArray, List.set_cons_zero, List.set_cons_succ]
  refine reg_take (v := ?_) 5 (some 21) rfl rfl (by kernel_rfl) (fun _ _ _ h => h) (by kernel_rfl) ((Same.refl u3).drew) ?_ ?_
  rotate_left
  · (intro w' hw'; obtain ⟨c0, c1, c2, c3, c4⟩ := HXb.out w' hw'; go_simp; try with_reducible rfl)
  try simp only [Act.put, List.setIfInBounds_toArray, List.set_cons_zero, List.set_cons_succ]
  refine reg_take (v := ?_) 6 (some 22) rfl rfl (by kernel_rfl) (fun _ _ _ h => h) (by kernel_rfl) ((Same.refl u3).drew) ?_ ?_
  rotate_left
  · (intro w' hw'; obtain ⟨c0, c1, c2, c3, c4⟩ := HXb.out w' hw'; go_simp; try with_reducible rfl)
  try simp only [Act.put, List.setIfInBounds_toArray, List.set_cons_zero, List.set_cons_succ]
  refine reg_take (v := ?_) 7 (some 23) rfl rfl (by kernel_rfl) (fun _ _ _ h => h) (by kernel_rfl) ((Same.refl u3).drew) ?_ ?_
  rotate_left
  · (intro w' hw'; obtain ⟨c0, c1, c2, c3, c4⟩ := HXb.out w' hw'; go_simp; try with_reducible rfl)
  try simp only [Act.put, List.setIfInBounds_toArray, List.set_cons_zero, List.set_cons_succ]
  refine reg_one 4 rfl (by kernel_rfl) (by kernel_rfl) ?_
  go_simp
  refine ((rPut_w2 _ _ q3 _ (HB2.out.same (Same.refl u3).drew) (by simp))).mono ?_
  rintro e u1 ⟨v3, rfl, ho3, hs1⟩
  have hS1 := ((Same.refl u3).drew).trans hs1
  have HB3 := Lib.hid ho3.bs
  clear ho3
  refine ⟨hS1, ?_⟩
  try simp only [Act.put, List.setIfInBounds_toArray, List.set_cons_zero, List.set_cons_succ]
  refine reg_one 8 rfl (by kernel_rfl) (by kernel_rfl) ?_
  go_simp
  refine ((rPut_w2 _ _ q4 _ HB3.out (by simp [wdB]))).mono ?_
  rintro e u2 ⟨v4, rfl, ho4, hs2⟩
  have hS2 := (hS1).trans hs2
  have HO4 := Lib.hid ho4
  clear ho4
  refine ⟨hS2, ?_⟩
  try simp only [Act.put, List.setIfInBounds_toArray, List.set_cons_zero, List.set_cons_succ]
  refine reg_take (v := ?_) 9 (some 2) rfl rfl (by kernel_rfl) (fun _ _ _ h => h) (by kernel_rfl) (hS2) ?_ ?_
  rotate_left
  · (intro w' hw'; obtain ⟨c0, c1, c2, c3, c4⟩ := HXb.out w' hw'; go_simp; try with_reducible rfl)
  try simp only [Act.put, List.setIfInBounds_toArray, List.set_cons_zero, List.set_cons_succ]
  refine reg_done (by kernel_rfl) ?_
  go_wp2_with fail
  go_ret
  exact ⟨v4, rfl, HO4.out.mono (Nat.le_trans H0.out.size (HS2.out.trans hS1).size), H0.out.trans (HS2.out.trans hS2)⟩
end Go.Proofs.YtcemdajkddidnaaGreatDoor
namespace Go.Proofs.YtcemdajkddidnaaGreatDoor
open Go.RowKit
set_option linter.unusedVariables false

theorem tot_left (f : Nat → Nat) : ∀ n, tot f (n + 1) = f 0 + tot (fun i => f (i + 1)) n
  | 0 => by simp [tot]
  | n + 1 => by
    have := tot_left f n
    show tot f (n + 1) + f (n + 1) = f 0 + (tot (fun i => f (i + 1)) n + f (n + 1))
    omega

/-- a word in front of bytes -/
theorem sum_beside (n : Nat) (hn : n ≤ 65535) (b : List UInt8) : sumB (wdB (n : Int) ++ b) = addw (sumB b) n := by
  have h0 : wordAt (wdB (n : Int) ++ b) 0 = n := by
    simp only [wordAt, wdB, List.cons_append, List.nil_append, Nat.mul_zero, Nat.zero_add, List.getD_cons_zero, List.getD_cons_succ, byteAt_lt]
    omega
  have h1 : ∀ k, wordAt (wdB (n : Int) ++ b) (k + 1) = wordAt b k := fun k => by
    have e1 : 2 * (k + 1) = 2 * k + 1 + 1 := by omega
    have e2 : 2 * (k + 1) + 1 = 2 * k + 1 + 1 + 1 := by omega
    simp only [wordAt, wdB, List.cons_append, List.nil_append, e1, List.getD_cons_succ]
  unfold sumB
  have e : ((wdB (n : Int) ++ b).length + 1) / 2 = (b.length + 1) / 2 + 1 := by simp [wdB]; omega
  rw [e, tot_left, h0, addw_red _ _ hn]
  have : (fun i => wordAt (wdB (n : Int) ++ b) (i + 1)) = wordAt b := funext h1
  rw [this, Nat.add_comm]

theorem sumP_eq (f : Fl) (b : List UInt8) : sumP f b = if 65535 - addw (sumB b) (besideF f b.length) = 0 ∧ f.proto = 17 then 65535 else 65535 - addw (sumB b) (besideF f b.length) := by
  have h := sum_beside (besideF f b.length) (sumB_le _) b
  unfold sumP sumL
  rw [h]

theorem set_lay : ∀ (a : Nat) (l : List UInt8) (x y : UInt8), a + 2 ≤ l.length → (l.set a x).set (a + 1) y = layB l a [x, y]
  | 0, l, x, y, h => by
    match l, h with
    | p :: q :: t, _ => simp [layB]
  | a + 1, l, x, y, h => by
    match l, h with
    | p :: t, h =>
      have := set_lay a t x y (by simpa using h)
      simp only [List.set_cons_succ, this, layB, List.take_succ_cons, List.length_cons, List.length_nil, List.cons_append]
      have e : a + 1 + (0 + 1 + 1) = (a + (0 + 1 + 1)) + 1 := by omega
      rw [e, List.drop_succ_cons]

theorem rSum_same (v : Value) (l : List UInt8) (w : World) (hb : Bs w v l) (hl : (l.length : Int) ≤ 140737488355328) :
    Calls Tryz.prog 42 #[v] w fun e w' => e = .returned (.int .i64 (sumB l)) ∧ Same w w' := (rSum_any v l w hb hl).mono fun _ _ h => ⟨h.1, h.2 ▸ Same.refl _⟩
theorem rAdd_same (a b : Nat) (ha : a ≤ 65535) (hb : b ≤ 65535) (w : World) : Calls Tryz.prog 41 #[.int .i64 a, .int .i64 b] w fun e w' => e = .returned (.int .i64 (addw a b)) ∧ Same w w' := by
  have := rAdd_any a b w
  rw [wd_nat ha, wd_nat hb] at this
  exact this.mono fun _ _ h => ⟨h.1, h.2 ▸ Same.refl _⟩

set_option maxRecDepth 100000 in
set_option maxHeartbeats 1000000 in
theorem roSummed_any (f : Fl) (v : Value) (b : List UInt8) (at_ : Nat) (w : World) (hb : Bs w v b) (hl : b.length ≤ 100000) (hat : at_ + 2 ≤ b.length) :
    Calls Tryz.prog 24 #[v, .int .i64 at_, flV f, .int .i64 f.proto] w fun e w' => ∃ v', e = .returned v' ∧ OwnB w' w.heap.size v' (layB b at_ (wdB (sumP f b : Nat))) ∧ Same w w' := by
  have HSu := fun w hb => Lib.hid (rSum_same v b w hb (by omega))
  have HPs := fun w => Lib.hid (rPseudo_any f.src f.dst f.proto (b.length : Int) w)
  have HSP := Lib.hid (sumP_eq f b)
  rw [show sumB (pseudoB f.src f.dst f.proto (b.length : Int)) = besideF f b.length from rfl] at HPs
  have hb1 : sumB b ≤ 65535 := sumB_le b
  have hb2 : besideF f b.length ≤ 65535 := sumB_le _
  have HAd := fun w => Lib.hid (rAdd_same (sumB b) (besideF f b.length) hb1 hb2 w)
  obtain ⟨n, hn⟩ : ∃ n : Nat, addw (sumB b) (besideF f b.length) = n := ⟨_, rfl⟩
  have hn2 : n ≤ 65535 := by rw [← hn]; unfold addw; split <;> omega
  rw [hn] at HSP HAd
  generalize sumP f b = SP at *
  generalize besideF f b.length = ps at *
  generalize sumB b = sb at *
  have HLb := Lib.hid hl
  have HAt := Lib.hid hat
  have HN2 : (n : Int) ≤ 65535 := by omega
  obtain ⟨q0, q1, q2, q3, q4⟩ := f
  simp only at HSP HPs
  have HB := Lib.hid hb
  obtain ⟨ao, cap, rfl, -, -, -, -⟩ := hb
  obtain ⟨W0, hW⟩ : ∃ W0, W0 = w.alloc (flO 24 ⟨q0, q1, q2, q3, q4⟩) := ⟨_, rfl⟩
  have HX : Hid (∀ w', Same W0 w' → FlAt w' w.heap.size ⟨q0, q1, q2, q3, q4⟩) := by rw [hW]; exact fl_box 24 ⟨q0, q1, q2, q3, q4⟩ w
  have H0 : Hid (Same w W0) := by rw [hW]; exact Same.alloc w _
  clear hn hb1 hb2 hl hat
  go_enter Tryz.func24, Tryz.ntmps24
  go_wp2_with fail
  rw [← hW]
  clear hW
  refine reg_start (fun w' => Same W0 w') (by kernel_rfl) ?_
  refine reg_take (v := ?_) 0 (some 11) rfl rfl (by kernel_rfl) (fun _ _ _ h => h) (by kernel_rfl) ((Same.refl W0).drew) ?_ ?_
  rotate_left
  · (intro w' hw'; obtain ⟨c0, c1, c2, c3, c4⟩ := HX.out w' hw'; go_simp; try with_reducible rfl)
  try simp only [Act.put, List.setIfInBounds_toArray, List.set_cons_zero, List.set_cons_succ]
  refine reg_take (v := ?_) 2 (some 13) rfl rfl (by kernel_rfl) (fun _ _ _ h => h) (by kernel_rfl) ((Same.refl W0).drew) ?_ ?_
  rotate_left
  · (intro w' hw'; obtain ⟨c0, c1, c2, c3, c4⟩ := HX.out w' hw'; go_simp; try with_reducible rfl)
  try simp only [Act.put, List.setIfInBounds_toArray, List.set_cons_zero, List.set_cons_succ]
  refine reg_take (v := ?_) 3 (some 14) rfl rfl (by kernel_rfl) (fun _ _ _ h => h) (by kernel_rfl) ((Same.refl W0).drew) ?_ ?_
  rotate_left
  · (intro w' hw'; obtain ⟨c0, c1, c2, c3, c4⟩ := HX.out w' hw'; go_simp; try with_reducible rfl)
  try simp only [Act.put, List.setIfInBounds_toArray, List.set_cons_zero, List.set_cons_succ]
  refine reg_take (v := ?_) 4 (some 15) rfl rfl (by kernel_rfl) (fun _ _ _ h => h) (by kernel_rfl) ((Same.refl W0).drew) ?_ ?_
  rotate_left
  · (intro w' hw'; obtain ⟨c0, c1, c2, c3, c4⟩ := HX.out w' hw'; go_simp; try with_reducible rfl)
  try simp only [Act.put, List.setIfInBounds_toArray, List.set_cons_zero, List.set_cons_succ]
  refine reg_take (v := ?_) 5 (some 16) rfl rfl (by kernel_rfl) (fun _ _ _ h => h) (by kernel_rfl) ((Same.refl W0).drew) ?_ ?_
  rotate_left
  · (intro w' hw'; obtain ⟨c0, c1, c2, c3, c4⟩ := HX.out w' hw'; go_simp; try with_reducible rfl)
  try simp only [Act.put, List.setIfInBounds_toArray, List.set_cons_zero, List.set_cons_succ]
  refine reg_take (v := ?_) 6 (some 17) rfl rfl (by kernel_rfl) (fun _ _ _ h => h) (by kernel_rfl) ((Same.refl W0).drew) ?_ ?_
  rotate_left
  · (intro w' hw'; obtain ⟨c0, c1, c2, c3, c4⟩ := HX.out w' hw'; go_simp; try with_reducible rfl)
  try simp only [Act.put, List.setIfInBounds_toArray, List.set_cons_zero, List.set_cons_succ]
  refine reg_take (v := ?_) 7 (some 18) rfl rfl (by kernel_rfl) (fun _ _ _ h => h) (by kernel_rfl) ((Same.refl W0).drew) ?_ ?_
  rotate_left
  · (intro w' hw'; obtain ⟨c0, c1, c2, c3, c4⟩ := HX.out w' hw'; go_simp; try with_reducible rfl)
  try simp only [Act.put, List.setIfInBounds_toArray, List.set_cons_zero, List.set_cons_succ]
  refine reg_take (v := ?_) 8 (some 19) rfl rfl (by kernel_rfl) (fun _ _ _ h => h) (by kernel_rfl) ((Same.refl W0).drew) ?_ ?_
  rotate_left
  · (intro w' hw'; obtain ⟨c0, c1, c2, c3, c4⟩ := HX.out w' hw'; go_simp; try with_reducible rfl)
  try simp only [Act.put, List.setIfInBounds_toArray, List.set_cons_zero, List.set_cons_succ]
  refine reg_one 1 rfl (by kernel_rfl) (by kernel_rfl) ?_
  go_simp
  refine ((HSu _ (HB.out.same (H0.out.trans (Same.refl W0).drew))).out).mono ?_
  rintro e u1 ⟨rfl, hs1⟩
  have hS1 := ((Same.refl W0).drew).trans hs1
  skip
  refine ⟨hS1, ?_⟩
  try simp only [Act.put, List.setIfInBounds_toArray, List.set_cons_zero, List.set_cons_succ]
  refine reg_one 9 rfl (by kernel_rfl) (by kernel_rfl) ?_
  go_simp
  refine ((HPs _).out).mono ?_
  rintro e u2 ⟨rfl, hs2⟩
  have hS2 := (hS1).trans hs2
  skip
  refine ⟨hS2, ?_⟩
  try simp only [Act.put, List.setIfInBounds_toArray, List.set_cons_zero, List.set_cons_succ]
  refine reg_one 10 rfl (by kernel_rfl) (by kernel_rfl) ?_
  go_simp
  refine ((HAd _).out).mono ?_
  rintro e u3 ⟨rfl, hs3⟩
  have hS3 := (hS2).trans hs3
  skip
  refine ⟨hS3, ?_⟩
  try simp only [Act.put, List.setIfInBounds_toArray, List.set_cons_zero, List.set_cons_succ]
  refine reg_take (v := ?_) 11 (some 22) rfl rfl (by kernel_rfl) (fun _ _ _ h => h) (by kernel_rfl) (hS3) ?_ ?_
  rotate_left
  · (intro w' hw'; obtain ⟨c0, c1, c2, c3, c4⟩ := HX.out w' hw'; go_simp; try with_reducible rfl)
  try simp only [Act.put, List.setIfInBounds_toArray, List.set_cons_zero, List.set_cons_succ]
  refine reg_take (v := ?_) 12 (some 9) rfl rfl (by kernel_rfl) (fun _ _ _ h => h) (by kernel_rfl) (hS3) ?_ ?_
  rotate_left
  · (intro w' hw'; obtain ⟨c0, c1, c2, c3, c4⟩ := HX.out w' hw'; go_simp; try with_reducible rfl)
  try simp only [Act.put, List.setIfInBounds_toArray, List.set_cons_zero, List.set_cons_succ]
  refine reg_done (by kernel_rfl) ?_
  have HS3 := Lib.hid hS3
  clear hs1 hs2 hs3 hS1 hS2 hS3
  obtain ⟨m, hm⟩ : ∃ m : Nat, m = 65535 - n := ⟨_, rfl⟩
  have zw : IntKind.i64.wrap (65535 - (n : Int)) = (m : Int) := by rw [show (65535 - (n : Int)) = (m : Int) by omega]; exact IntWalk.i64_in _ (by omega)
  rw [zw]
  rw [← hm] at HSP
  have hm2 : (m : Int) ≤ 65535 := by omega
  have ha1 : (at_ : Int) ≤ 100000 := by have := HAt.out; have := HLb.out; omega
  have ha2 : (at_ : Int) < b.length := by have := HAt.out; omega
  have ha3 : (at_ : Int) + 1 < b.length := by have := HAt.out; omega
  clear zw hm hn2 HN2
  by_cases h0 : m = 0
  · by_cases h7 : q0 = 17
    · have HE : Hid (SP = 65535) := by show _ = _; rw [HSP.out, if_pos ⟨h0, h7⟩]
      subst h0 h7
      go_wp2_with (at_builtin; refine wpList_append_bs rfl _ _ rfl u3 (Same.alloc u3 _) _ [] rfl (OwnB.empty u3) _ b rfl (HB.out.same (H0.out.trans (HS3.out.trans (Same.alloc u3 _)))) (by have := HLb.out; simp; omega) ?_; intro v2 w2 ho2 hs2; rw [List.nil_append] at ho2; obtain ⟨g, cp, rfl, hcp, hgB⟩ := ho2.form (by have := HAt.out; omega); have c0 := ho2.cell at_ (by have := HAt.out; omega); have f0 := ho2.thaw at_; have c1 := ho2.cell (at_ + 1) (by have := HAt.out; omega); have f1 := ho2.thaw (at_ + 1); have HO2 := Lib.hid ho2; have H2 := Lib.hid hs2; have HGB := Lib.hid hgB; clear ho2 hs2 hgB)
      have hO := (HO2.out.set at_ (byteAt ((65535 : Nat) : Int) 1)).set (at_ + 1) (byteAt ((65535 : Nat) : Int) 0)
      rw [set_lay at_ b _ _ HAt.out, b8_byteAt, b8_byteAt] at hO
      have hS := ((H2.out.set HGB.out (j := at_) (.int .u8 (((65535 : Nat) : Int) / 256 ^ 1 % 256))).set HGB.out (j := at_ + 1) (.int .u8 (((65535 : Nat) : Int) / 256 ^ 0 % 256)))
      have e1 : (((65535 : Nat) : Int) / 256 ^ 1 % 256) = 255 := by decide
      have e0 : (((65535 : Nat) : Int) / 256 ^ 0 % 256) = 255 := by decide
      rw [e1, e0] at hO hS
      go_ret
      exact ⟨_, rfl, by rw [HE.out]; exact hO.mono (H0.out.trans HS3.out).size, H0.out.trans (HS3.out.trans hS)⟩
    · have HE : Hid (SP = 0) := by show _ = _; rw [HSP.out, if_neg (fun h => h7 h.2)]; exact h0
      have k7 : (q0 == 17) = false := by simpa using h7
      subst h0
      go_wp2_with (at_builtin; refine wpList_append_bs rfl _ _ rfl u3 (Same.alloc u3 _) _ [] rfl (OwnB.empty u3) _ b rfl (HB.out.same (H0.out.trans (HS3.out.trans (Same.alloc u3 _)))) (by have := HLb.out; simp; omega) ?_; intro v2 w2 ho2 hs2; rw [List.nil_append] at ho2; obtain ⟨g, cp, rfl, hcp, hgB⟩ := ho2.form (by have := HAt.out; omega); have c0 := ho2.cell at_ (by have := HAt.out; omega); have f0 := ho2.thaw at_; have c1 := ho2.cell (at_ + 1) (by have := HAt.out; omega); have f1 := ho2.thaw (at_ + 1); have HO2 := Lib.hid ho2; have H2 := Lib.hid hs2; have HGB := Lib.hid hgB; clear ho2 hs2 hgB)
      have hO := (HO2.out.set at_ (byteAt ((0 : Nat) : Int) 1)).set (at_ + 1) (byteAt ((0 : Nat) : Int) 0)
      rw [set_lay at_ b _ _ HAt.out, b8_byteAt, b8_byteAt] at hO
      have hS := ((H2.out.set HGB.out (j := at_) (.int .u8 (((0 : Nat) : Int) / 256 ^ 1 % 256))).set HGB.out (j := at_ + 1) (.int .u8 (((0 : Nat) : Int) / 256 ^ 0 % 256)))
      have e1 : (((0 : Nat) : Int) / 256 ^ 1 % 256) = 0 := by decide
      have e0 : (((0 : Nat) : Int) / 256 ^ 0 % 256) = 0 := by decide
      rw [e1, e0] at hO hS
      go_ret
      exact ⟨_, rfl, by rw [HE.out]; exact hO.mono (H0.out.trans HS3.out).size, H0.out.trans (HS3.out.trans hS)⟩
  · have HE : Hid (SP = m) := by show _ = _; rw [HSP.out, if_neg (fun h => h0 h.1)]
    have k0 : ((m : Int) == 0) = false := by simp; omega
    clear h0
    go_wp2_with (at_builtin; refine wpList_append_bs rfl _ _ rfl u3 (Same.alloc u3 _) _ [] rfl (OwnB.empty u3) _ b rfl (HB.out.same (H0.out.trans (HS3.out.trans (Same.alloc u3 _)))) (by have := HLb.out; simp; omega) ?_; intro v2 w2 ho2 hs2; rw [List.nil_append] at ho2; obtain ⟨g, cp, rfl, hcp, hgB⟩ := ho2.form (by have := HAt.out; omega); have c0 := ho2.cell at_ (by have := HAt.out; omega); have f0 := ho2.thaw at_; have c1 := ho2.cell (at_ + 1) (by have := HAt.out; omega); have f1 := ho2.thaw (at_ + 1); have HO2 := Lib.hid ho2; have H2 := Lib.hid hs2; have HGB := Lib.hid hgB; clear ho2 hs2 hgB)
    have hO := (HO2.out.set at_ (byteAt (m : Int) 1)).set (at_ + 1) (byteAt (m : Int) 0)
    rw [set_lay at_ b _ _ HAt.out, b8_byteAt, b8_byteAt] at hO
    have hS := ((H2.out.set HGB.out (j := at_) (.int .u8 ((m : Int) / 256 ^ 1 % 256))).set HGB.out (j := at_ + 1) (.int .u8 ((m : Int) / 256 ^ 0 % 256)))
    have e1 : ((m : Int) / 256 ^ 1 % 256) = (m : Int) / 256 := by omega
    have e0 : ((m : Int) / 256 ^ 0 % 256) = (m : Int) % 256 := by omega
    rw [e1, e0] at hO hS
    go_ret
    exact ⟨_, rfl, by rw [HE.out]; exact hO.mono (H0.out.trans HS3.out).size, H0.out.trans (HS3.out.trans hS)⟩
end Go.Proofs.YtcemdajkddidnaaGreatDoor
namespace Go.Proofs.YtcemdajkddidnaaGreatDoor
open Go.RowKit
set_option linter.unusedVariables false

set_option maxRecDepth 100000 in
theorem roPacket5_any (f : Fl) (hr : (0 ≤ f.src ∧ f.src ≤ 4294967295) ∧ (0 ≤ f.dst ∧ f.dst ≤ 4294967295)) (v : Value) (b : List UInt8) (w : World) (hb : Bs w v b) :
    Calls Tryz.prog 23 #[flV f, .int .i64 f.proto, v] w fun e w' => ∃ v', e = .returned v' ∧ OwnB w' w.heap.size v' (buildB (headF f) b) ∧ Same w w' := by
  have H0 := Lib.hid (Same.alloc w (flO 24 f))
  have HBd := Lib.hid (riBuild_any (headF f) hr b (.slice none 0 0) v _ (Bs.nil _) (hb.same H0.out))
  generalize buildB (headF f) b = L at *
  obtain ⟨q0, q1, q2, q3, q4⟩ := f
  obtain ⟨c0, c1, c2, c3, c4⟩ := FlAt.of (heap_alloc_new w (flO 24 ⟨q0, q1, q2, q3, q4⟩))
  obtain ⟨ao, cap, rfl, -, -, -, -⟩ := hb
  go_enter Tryz.func23, Tryz.ntmps23
  go_wp2_with fail
  refine HBd.out.mono ?_
  rintro e w1 ⟨v1, rfl, ho, hs⟩
  have HO := Lib.hid (ho.mono H0.out.size)
  have HS := Lib.hid (H0.out.trans hs)
  clear ho hs
  go_wp2_with fail
  go_ret
  exact ⟨v1, rfl, HO.out, HS.out⟩

theorem packet_bad (f : Fl) (hg : ¬ goodF f) (at_ : Nat) (b : List UInt8) : packetB f at_ b = [] := if_neg hg
theorem packet_long (f : Fl) (at_ : Nat) (b : List UInt8) (hat : at_ + 2 ≤ b.length) (hl : 9000 < 20 + b.length) : packetB f at_ b = [] := by
  have hlay : (layB b at_ (wdB (sumP f b : Nat))).length = b.length := layB_length _ _ _ (by simpa [wdB] using hat)
  unfold packetB
  split
  · refine if_neg fun h => ?_
    have := h.2
    unfold sizeH at this
    rw [hlay] at this
    simp [headF] at this
    omega
  · rfl
theorem packet_good (f : Fl) (hg : goodF f) (at_ : Nat) (b : List UInt8) : packetB f at_ b = buildB (headF f) (layB b at_ (wdB (sumP f b : Nat))) := if_pos hg

/-- what a TCP head has behind its ports -/
def tcpM (flags : Int) : List UInt8 := [0, 0, 0, 0, 0, 0, 0, 0, 80, byteAt flags 0, 255, 255, 0, 0, 0, 0]

set_option maxRecDepth 100000 in
set_option maxHeartbeats 1000000 in
theorem roTcp_any (f : Fl) (hr : (0 ≤ f.src ∧ f.src ≤ 4294967295) ∧ (0 ≤ f.dst ∧ f.dst ≤ 4294967295)) (flags : Int) (v : Value) (p : List UInt8) (w : World) (hb : Bs w v p) :
    Calls Tryz.prog 6 #[flV f, .int .i64 flags, v] w fun e w' => ∃ v', e = .returned v' ∧ OwnB w' w.heap.size v' (tcpB f flags p) ∧ Same w w' := by
  obtain ⟨q0, q1, q2, q3, q4⟩ := f
  have HG := fun w => Lib.hid (roGood5_any ⟨6, q1, q2, q3, q4⟩ w)
  have HB := Lib.hid hb
  have H0 := Lib.hid (Same.alloc w (flO 24 ⟨6, q1, q2, q3, q4⟩))
  have HX := Lib.hid (fl_box 24 ⟨6, q1, q2, q3, q4⟩ w)
  have HTL : Hid ((tcpL ⟨q0, q1, q2, q3, q4⟩ flags p).length = 20 + p.length) := by show _ = _; simp [tcpL, portsL_length, endsF]; omega
  by_cases hg : goodF ⟨6, q1, q2, q3, q4⟩
  · rw [show decide (goodF ⟨6, q1, q2, q3, q4⟩) = true from decide_eq_true hg] at HG
    by_cases hl : 9000 < p.length
    · have hle : (9000 : Int) < p.length := by omega
      have e : tcpB ⟨q0, q1, q2, q3, q4⟩ flags p = [] := packet_long _ _ _ (by rw [HTL.out]; omega) (by rw [HTL.out]; omega)
      rw [e]
      clear e hg hl
      obtain ⟨ao, cap, rfl, -, -, -, -⟩ := hb
      go_enter Tryz.func6, Tryz.ntmps6
      go_wp2_with fail
      refine (HG _).out.mono ?_
      rintro e w1 ⟨rfl, hs1⟩
      have HS1 := Lib.hid (H0.out.trans hs1)
      clear hs1
      go_wp2_with fail
      go_ret
      exact ⟨_, rfl, OwnB.nil _ _, HS1.out⟩
    · have hle : ¬ (9000 : Int) < p.length := by omega
      have e : tcpB ⟨q0, q1, q2, q3, q4⟩ flags p = buildB (headF ⟨6, q1, q2, q3, q4⟩) (layB (tcpL ⟨q0, q1, q2, q3, q4⟩ flags p) 16 (wdB (sumP ⟨6, q1, q2, q3, q4⟩ (tcpL ⟨q0, q1, q2, q3, q4⟩ flags p) : Nat))) := packet_good _ hg _ _
      rw [e]
      have HSu := fun v w hb => Lib.hid (roSummed_any ⟨6, q1, q2, q3, q4⟩ v (tcpL ⟨q0, q1, q2, q3, q4⟩ flags p) 16 w hb (by rw [HTL.out]; omega) (by rw [HTL.out]; omega))
      have HPk := fun v b w hb => Lib.hid (roPacket5_any ⟨6, q1, q2, q3, q4⟩ hr v b w hb)
      have HPo := fun w => Lib.hid (roPorts5_any ⟨6, q1, q2, q3, q4⟩ w)
      have HTQ : Hid (tcpL ⟨q0, q1, q2, q3, q4⟩ flags p = (portsL (endsF ⟨6, q1, q2, q3, q4⟩) ++ tcpM flags) ++ p) := by show _ = _; simp [tcpL, tcpM, endsF]
      have HPL : Hid ((portsL (endsF ⟨6, q1, q2, q3, q4⟩)).length = 4) := portsL_length _
      generalize layB (tcpL ⟨q0, q1, q2, q3, q4⟩ flags p) 16 (wdB (sumP ⟨6, q1, q2, q3, q4⟩ (tcpL ⟨q0, q1, q2, q3, q4⟩ flags p) : Nat)) = LS at *
      generalize tcpL ⟨q0, q1, q2, q3, q4⟩ flags p = LT at *
      generalize portsL (endsF ⟨6, q1, q2, q3, q4⟩) = LP at *
      have HLp : Hid (p.length ≤ 9000) := by show _ ≤ _; omega
      clear e hg hl hr
      obtain ⟨ao, cap, rfl, -, -, -, -⟩ := hb
      go_enter Tryz.func6, Tryz.ntmps6
      go_wp2_with fail
      refine (HG _).out.mono ?_
      rintro e w1 ⟨rfl, hs1⟩
      have HS1 := Lib.hid (H0.out.trans hs1)
      have HX1 : Hid (∀ w', Same w1 w' → FlAt w' w.heap.size ⟨6, q1, q2, q3, q4⟩) := fun w' hw => HX.out w' (hs1.trans hw)
      clear hs1 HX
      obtain ⟨c0, c1, c2, c3, c4⟩ := HX1.out w1 (Same.refl _)
      go_wp2_with fail
      refine (HPo _).out.mono ?_
      rintro e w2 ⟨v2, rfl, ho2, hs2⟩
      have HO2 := Lib.hid ho2
      have HS2 := Lib.hid hs2
      have HM : Hid (Bs (w2.alloc (.cells #[.int .u8 0, .int .u8 0, .int .u8 0, .int .u8 0, .int .u8 0, .int .u8 0, .int .u8 0, .int .u8 0, .int .u8 80, .int .u8 (flags % 256), .int .u8 255, .int .u8 255, .int .u8 0, .int .u8 0, .int .u8 0, .int .u8 0] 5)) (.slice (some ⟨w2.heap.size, 0, none⟩) 16 16) (tcpM flags)) := by
        have e9 : b8 (byteAt flags 0) = .int .u8 (flags % 256) := by rw [b8_byteAt]; simp
        rw [← e9]
        exact Bs.made w2 (tcpM flags) 5 (by simp [tcpM])
      clear ho2 hs2 c0 c1 c2 c3 c4
      go_wp2_with (at_builtin; refine wpList_append_bs rfl _ _ rfl w1 (HS2.out.trans (Same.alloc _ _)) _ LP rfl (HO2.out.same (Same.alloc _ _)) _ (tcpM flags) rfl HM.out (by rw [HPL.out]; simp [tcpM]) ?_; intro v3 w3 ho3 hs3; have HO3 := Lib.hid ho3; have HS3 := Lib.hid hs3; clear ho3 hs3)
      refine reg_start (fun w' => Same w1 w') (by kernel_rfl) ?_
      refine reg_take (v := ?_) 0 (some 23) rfl rfl (by kernel_rfl) (fun _ _ _ h => h) (by kernel_rfl) (HS3.out.drew) ?_ ?_
      rotate_left
      · (intro w' hw'; obtain ⟨c0, c1, c2, c3, c4⟩ := HX1.out w' hw'; go_simp; try with_reducible rfl)
      try simp only [Act.put, List.setIfInBounds_toArray, List.set_cons_zero, List.set_cons_succ]
      refine reg_take (v := ?_) 1 (some 24) rfl rfl (by kernel_rfl) (fun _ _ _ h => h) (by kernel_rfl) (HS3.out.drew) ?_ ?_
      rotate_left
      · (intro w' hw'; obtain ⟨c0, c1, c2, c3, c4⟩ := HX1.out w' hw'; go_simp; try with_reducible rfl)
      try simp only [Act.put, List.setIfInBounds_toArray, List.set_cons_zero, List.set_cons_succ]
      refine reg_take (v := ?_) 2 (some 25) rfl rfl (by kernel_rfl) (fun _ _ _ h => h) (by kernel_rfl) (HS3.out.drew) ?_ ?_
      rotate_left
      · (intro w' hw'; obtain ⟨c0, c1, c2, c3, c4⟩ := HX1.out w' hw'; go_simp; try with_reducible rfl)
      try simp only [Act.put, List.setIfInBounds_toArray, List.set_cons_zero, List.set_cons_succ]
      refine reg_take (v := ?_) 4 (some 27) rfl rfl (by kernel_rfl) (fun _ _ _ h => h) (by kernel_rfl) (HS3.out.drew) ?_ ?_
      rotate_left
      · (intro w' hw'; obtain ⟨c0, c1, c2, c3, c4⟩ := HX1.out w' hw'; go_simp; try with_reducible rfl)
      try simp only [Act.put, List.setIfInBounds_toArray, List.set_cons_zero, List.set_cons_succ]
      refine reg_one 3 rfl (by kernel_rfl) (by kernel_rfl) ?_
      refine wp_append_bs _ _ (by rfl) w1 HS3.out.drew _ (LP ++ tcpM flags) (by rfl) (HO3.out.same (Same.refl w3).drew) _ p (by rfl) (HB.out.same (HS1.out.trans HS3.out.drew)) (by rw [List.length_append, HPL.out]; have := HLp.out; simp [tcpM]; omega) ?_
      intro v4 w4 ho4 hS1
      rw [← HTQ.out] at ho4
      have HB4 := Lib.hid ho4.bs
      clear ho4
      refine ⟨hS1, ?_⟩
      try simp only [Act.put, List.setIfInBounds_toArray, List.set_cons_zero, List.set_cons_succ]
      refine reg_one 5 rfl (by kernel_rfl) (by kernel_rfl) ?_
      go_simp
      refine ((HSu _ _ HB4.out).out).mono ?_
      rintro e u2 ⟨v5, rfl, ho5, hs2⟩
      have hS2 := (hS1).trans hs2
      have HB5 := Lib.hid ho5.bs
      clear ho5
      refine ⟨hS2, ?_⟩
      try simp only [Act.put, List.setIfInBounds_toArray, List.set_cons_zero, List.set_cons_succ]
      refine reg_one 6 rfl (by kernel_rfl) (by kernel_rfl) ?_
      go_simp
      refine ((HPk _ _ _ HB5.out).out).mono ?_
      rintro e u3 ⟨v6, rfl, ho6, hs3⟩
      have hS3 := (hS2).trans hs3
      have HO6 := Lib.hid ho6
      clear ho6
      refine ⟨hS3, ?_⟩
      try simp only [Act.put, List.setIfInBounds_toArray, List.set_cons_zero, List.set_cons_succ]
      refine reg_take (v := ?_) 7 (some 6) rfl rfl (by kernel_rfl) (fun _ _ _ h => h) (by kernel_rfl) (hS3) ?_ ?_
      rotate_left
      · (intro w' hw'; obtain ⟨c0, c1, c2, c3, c4⟩ := HX1.out w' hw'; go_simp; try with_reducible rfl)
      try simp only [Act.put, List.setIfInBounds_toArray, List.set_cons_zero, List.set_cons_succ]
      refine reg_done (by kernel_rfl) ?_
      go_wp2_with fail
      go_ret
      exact ⟨v6, rfl, HO6.out.mono (Nat.le_trans HS1.out.size hS2.size), HS1.out.trans hS3⟩
  · rw [show decide (goodF ⟨6, q1, q2, q3, q4⟩) = false from decide_eq_false hg] at HG
    have e : tcpB ⟨q0, q1, q2, q3, q4⟩ flags p = [] := packet_bad _ hg _ _
    rw [e]
    clear e hg
    obtain ⟨ao, cap, rfl, -, -, -, -⟩ := hb
    go_enter Tryz.func6, Tryz.ntmps6
    go_wp2_with fail
    refine (HG _).out.mono ?_
    rintro e w1 ⟨rfl, hs1⟩
    have HS1 := Lib.hid (H0.out.trans hs1)
    clear hs1
    go_wp2_with fail
    go_ret
    exact ⟨_, rfl, OwnB.nil _ _, HS1.out⟩

set_option maxRecDepth 100000 in
set_option maxHeartbeats 1000000 in
theorem roUdp_any (f : Fl) (hr : (0 ≤ f.src ∧ f.src ≤ 4294967295) ∧ (0 ≤ f.dst ∧ f.dst ≤ 4294967295)) (v : Value) (p : List UInt8) (w : World) (hb : Bs w v p) :
    Calls Tryz.prog 8 #[flV f, v] w fun e w' => ∃ v', e = .returned v' ∧ OwnB w' w.heap.size v' (udpB f p) ∧ Same w w' := by
  obtain ⟨q0, q1, q2, q3, q4⟩ := f
  have HG := fun w => Lib.hid (roGood5_any ⟨17, q1, q2, q3, q4⟩ w)
  have HB := Lib.hid hb
  have H0 := Lib.hid (Same.alloc w (flO 24 ⟨17, q1, q2, q3, q4⟩))
  have HX := Lib.hid (fl_box 24 ⟨17, q1, q2, q3, q4⟩ w)
  have HTL : Hid ((udpL ⟨q0, q1, q2, q3, q4⟩ p).length = 8 + p.length) := by show _ = _; simp [udpL, portsL_length, endsF, wdB]; omega
  by_cases hg : goodF ⟨17, q1, q2, q3, q4⟩
  · rw [show decide (goodF ⟨17, q1, q2, q3, q4⟩) = true from decide_eq_true hg] at HG
    by_cases hl : 9000 < p.length
    · have hle : (9000 : Int) < p.length := by omega
      have e : udpB ⟨q0, q1, q2, q3, q4⟩ p = [] := packet_long _ _ _ (by rw [HTL.out]; omega) (by rw [HTL.out]; omega)
      rw [e]
      clear e hg hl
      obtain ⟨ao, cap, rfl, -, -, -, -⟩ := hb
      go_enter Tryz.func8, Tryz.ntmps8
      go_wp2_with fail
      refine (HG _).out.mono ?_
      rintro e w1 ⟨rfl, hs1⟩
      have HS1 := Lib.hid (H0.out.trans hs1)
      clear hs1
      go_wp2_with fail
      go_ret
      exact ⟨_, rfl, OwnB.nil _ _, HS1.out⟩
    · have hle : ¬ (9000 : Int) < p.length := by omega
      have e : udpB ⟨q0, q1, q2, q3, q4⟩ p = buildB (headF ⟨17, q1, q2, q3, q4⟩) (layB (udpL ⟨q0, q1, q2, q3, q4⟩ p) 6 (wdB (sumP ⟨17, q1, q2, q3, q4⟩ (udpL ⟨q0, q1, q2, q3, q4⟩ p) : Nat))) := packet_good _ hg _ _
      rw [e]
      have HSu := fun v w hb => Lib.hid (roSummed_any ⟨17, q1, q2, q3, q4⟩ v (udpL ⟨q0, q1, q2, q3, q4⟩ p) 6 w hb (by rw [HTL.out]; omega) (by rw [HTL.out]; omega))
      have HPk := fun v b w hb => Lib.hid (roPacket5_any ⟨17, q1, q2, q3, q4⟩ hr v b w hb)
      have HPo := fun w => Lib.hid (roPorts5_any ⟨17, q1, q2, q3, q4⟩ w)
      have HTQ : Hid (udpL ⟨q0, q1, q2, q3, q4⟩ p = (((portsL (endsF ⟨17, q1, q2, q3, q4⟩) ++ wdB (8 + (p.length : Int))) ++ [0, 0]) ++ p)) := by show _ = _; simp [udpL, endsF]
      have HPL : Hid ((portsL (endsF ⟨17, q1, q2, q3, q4⟩)).length = 4) := portsL_length _
      generalize layB (udpL ⟨q0, q1, q2, q3, q4⟩ p) 6 (wdB (sumP ⟨17, q1, q2, q3, q4⟩ (udpL ⟨q0, q1, q2, q3, q4⟩ p) : Nat)) = LS at *
      generalize udpL ⟨q0, q1, q2, q3, q4⟩ p = LT at *
      generalize portsL (endsF ⟨17, q1, q2, q3, q4⟩) = LP at *
      have HLp : Hid (p.length ≤ 9000) := by show _ ≤ _; omega
      clear e hg hl hr
      obtain ⟨ao, cap, rfl, -, -, -, -⟩ := hb
      go_enter Tryz.func8, Tryz.ntmps8
      go_wp2_with fail
      refine (HG _).out.mono ?_
      rintro e w1 ⟨rfl, hs1⟩
      have HS1 := Lib.hid (H0.out.trans hs1)
      have HX1 : Hid (∀ w', Same w1 w' → FlAt w' w.heap.size ⟨17, q1, q2, q3, q4⟩) := fun w' hw => HX.out w' (hs1.trans hw)
      clear hs1 HX
      obtain ⟨c0, c1, c2, c3, c4⟩ := HX1.out w1 (Same.refl _)
      go_wp2_with fail
      refine (HPo _).out.mono ?_
      rintro e w2 ⟨v2, rfl, ho2, hs2⟩
      have HO2 := Lib.hid ho2
      have HS2 := Lib.hid hs2
      clear ho2 hs2 c0 c1 c2 c3 c4
      go_wp2_with fail
      refine (rPut_p2 _ LP _ _ HO2.out.bs (by rw [HPL.out]; omega) (by omega) (by omega)).mono ?_
      rintro e w3 ⟨v3, rfl, ho3, hs3⟩
      have HO3 := Lib.hid (ho3.mono HS2.out.size)
      have HS3 := Lib.hid (HS2.out.trans hs3)
      clear ho3 hs3
      go_wp2_with fail
      refine reg_start (fun w' => Same w1 w') (by kernel_rfl) ?_
      generalize hD : w3.drew = D0 at *; have HT0 : Hid (Same w1 D0) := (by rw [← hD]; exact HS3.out.drew); have HO0 : Hid (OwnB D0 w1.heap.size v3 (LP ++ wdB (8 + (p.length : Int)))) := (by rw [← hD]; exact HO3.out.same (Same.refl w3).drew); clear hD
      refine reg_take (v := ?_) 0 (some 22) rfl rfl (by kernel_rfl) (fun _ _ _ h => h) (by kernel_rfl) (HT0.out) ?_ ?_
      rotate_left
      · (intro w' hw'; obtain ⟨c0, c1, c2, c3, c4⟩ := HX1.out w' hw'; go_simp; try with_reducible rfl)
      try simp only [Act.put, List.setIfInBounds_toArray, List.set_cons_zero, List.set_cons_succ]
      refine reg_take (v := ?_) 1 (some 23) rfl rfl (by kernel_rfl) (fun _ _ _ h => h) (by kernel_rfl) (HT0.out) ?_ ?_
      rotate_left
      · (intro w' hw'; obtain ⟨c0, c1, c2, c3, c4⟩ := HX1.out w' hw'; go_simp; try with_reducible rfl)
      try simp only [Act.put, List.setIfInBounds_toArray, List.set_cons_zero, List.set_cons_succ]
      refine reg_take (v := ?_) 4 (some 26) rfl rfl (by kernel_rfl) (fun _ _ _ h => h) (by kernel_rfl) (HT0.out) ?_ ?_
      rotate_left
      · (intro w' hw'; obtain ⟨c0, c1, c2, c3, c4⟩ := HX1.out w' hw'; go_simp; try with_reducible rfl)
      try simp only [Act.put, List.setIfInBounds_toArray, List.set_cons_zero, List.set_cons_succ]
      refine reg_take (v := ?_) 6 (some 28) rfl rfl (by kernel_rfl) (fun _ _ _ h => h) (by kernel_rfl) (HT0.out) ?_ ?_
      rotate_left
      · (intro w' hw'; obtain ⟨c0, c1, c2, c3, c4⟩ := HX1.out w' hw'; go_simp; try with_reducible rfl)
      try simp only [Act.put, List.setIfInBounds_toArray, List.set_cons_zero, List.set_cons_succ]
      refine reg_one 2 rfl (by kernel_rfl) (by kernel_rfl) ?_
      go_simp
      have hSa := HT0.out.trans (Same.alloc D0 (.cells #[.int .u8 0, .int .u8 0] 5))
      have HZ : Hid (Bs (D0.alloc (.cells #[.int .u8 0, .int .u8 0] 5)) (.slice (some ⟨D0.heap.size, 0, none⟩) 2 2) [0, 0]) := Bs.made D0 [0, 0] 5 (by simp)
      refine ⟨hSa, ?_⟩
      try simp only [Act.put, List.setIfInBounds_toArray, List.set_cons_zero, List.set_cons_succ]
      refine reg_one 3 rfl (by kernel_rfl) (by kernel_rfl) ?_
      refine wp_append_bs _ _ (by rfl) w1 hSa _ (LP ++ wdB (8 + (p.length : Int))) (by rfl) (HO0.out.same (Same.alloc D0 _)) _ [0, 0] (by rfl) HZ.out (by rw [List.length_append, HPL.out]; simp [wdB]) ?_
      intro v7 w7 ho7 hSb
      have HO7 := Lib.hid ho7
      clear ho7
      refine ⟨hSb, ?_⟩
      try simp only [Act.put, List.setIfInBounds_toArray, List.set_cons_zero, List.set_cons_succ]
      refine reg_one 5 rfl (by kernel_rfl) (by kernel_rfl) ?_
      refine wp_append_bs _ _ (by rfl) w1 hSb _ ((LP ++ wdB (8 + (p.length : Int))) ++ [0, 0]) (by rfl) HO7.out _ p (by rfl) (HB.out.same (HS1.out.trans hSb)) (by rw [List.length_append, List.length_append, HPL.out]; have := HLp.out; simp [wdB]; omega) ?_
      intro v4 w4 ho4 hSc
      rw [← HTQ.out] at ho4
      have HB4 := Lib.hid ho4.bs
      clear ho4
      refine ⟨hSc, ?_⟩
      try simp only [Act.put, List.setIfInBounds_toArray, List.set_cons_zero, List.set_cons_succ]
      refine reg_one 7 rfl (by kernel_rfl) (by kernel_rfl) ?_
      go_simp
      refine ((HSu _ _ HB4.out).out).mono ?_
      rintro e u4 ⟨v5, rfl, ho5, hs4⟩
      have hS4 := (hSc).trans hs4
      have HB5 := Lib.hid ho5.bs
      clear ho5
      refine ⟨hS4, ?_⟩
      try simp only [Act.put, List.setIfInBounds_toArray, List.set_cons_zero, List.set_cons_succ]
      refine reg_one 8 rfl (by kernel_rfl) (by kernel_rfl) ?_
      go_simp
      refine ((HPk _ _ _ HB5.out).out).mono ?_
      rintro e u5 ⟨v6, rfl, ho6, hs5⟩
      have hS5 := (hS4).trans hs5
      have HO6 := Lib.hid ho6
      clear ho6
      refine ⟨hS5, ?_⟩
      try simp only [Act.put, List.setIfInBounds_toArray, List.set_cons_zero, List.set_cons_succ]
      refine reg_take (v := ?_) 9 (some 4) rfl rfl (by kernel_rfl) (fun _ _ _ h => h) (by kernel_rfl) (hS5) ?_ ?_
      rotate_left
      · (intro w' hw'; obtain ⟨c0, c1, c2, c3, c4⟩ := HX1.out w' hw'; go_simp; try with_reducible rfl)
      try simp only [Act.put, List.setIfInBounds_toArray, List.set_cons_zero, List.set_cons_succ]
      refine reg_done (by kernel_rfl) ?_
      go_wp2_with fail
      go_ret
      exact ⟨v6, rfl, HO6.out.mono (Nat.le_trans HS1.out.size hS4.size), HS1.out.trans hS5⟩
  · rw [show decide (goodF ⟨17, q1, q2, q3, q4⟩) = false from decide_eq_false hg] at HG
    have e : udpB ⟨q0, q1, q2, q3, q4⟩ p = [] := packet_bad _ hg _ _
    rw [e]
    clear e hg
    obtain ⟨ao, cap, rfl, -, -, -, -⟩ := hb
    go_enter Tryz.func8, Tryz.ntmps8
    go_wp2_with fail
    refine (HG _).out.mono ?_
    rintro e w1 ⟨rfl, hs1⟩
    have HS1 := Lib.hid (H0.out.trans hs1)
    clear hs1
    go_wp2_with fail
    go_ret
    exact ⟨_, rfl, OwnB.nil _ _, HS1.out⟩
end Go.Proofs.YtcemdajkddidnaaGreatDoor
