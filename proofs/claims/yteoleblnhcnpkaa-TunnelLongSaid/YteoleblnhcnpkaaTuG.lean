/- Layer 6: the walk of TunnelLong. No condition beyond what each names. -/
import Derived.Test.YteoleblnhcnpkaaTuL
import Derived.Laws.OwnMore
namespace Go.Proofs.Yteoleblnhcnpkaa
open Go.RowKit
set_option linter.unusedVariables false

theorem zeros_made (k : Nat) : madeCells #[.int .u8 0] k = ((List.replicate k (0 : UInt8)).map b8).toArray := by
  apply Array.toList_inj.1
  rw [toList_madeCells_one]
  simp [b8]
theorem makeN (k : Nat) (hk : k ≤ 100000) (w : World) : (Instr.makeSlice 22 (.int .i64 (k : Int)) (.int .i64 (k : Int))).run Try.prog w = .ok (.slice (some ⟨w.heap.size, 0, none⟩) k k) (w.alloc (.cells ((List.replicate k (0 : UInt8)).map b8).toArray 5)) := by
  obtain ⟨i0, hi, hz0, hz1, hz2⟩ := info_parts u8info
  have := run_makeSlice (P := Try.prog) w 22 5 i0 (.int .u8 0) Try.underlying22 hi hz0 .i64 .i64 k k (by omega) (by omega) (by rw [hz1]; simp; omega) (by rw [hz2]; simp; omega) (by omega)
  rw [hz1, show madeCells (Value.int .u8 0).cells (Int.toNat k * 1) = ((List.replicate k (0 : UInt8)).map b8).toArray by rw [Nat.mul_one, Int.toNat_natCast]; exact zeros_made k] at this
  simpa using this

theorem tlong_bad (f : Fl) (n : Int) (w : World) (hg : ¬ goodF f) :
    Calls Try.prog 5 #[flV f, .int .u16 n] w fun e w' => e = .returned (.bool true) ∧ Same w w' := by
  have HG := fun w => Lib.hid (poGood_any f w)
  rw [show decide (goodF f) = false from decide_eq_false hg] at HG
  clear hg
  obtain ⟨q0, q1, q2, q3, q4⟩ := f
  have H0 := Lib.hid (Same.alloc w (flO 44 ⟨q0, q1, q2, q3, q4⟩))
  obtain ⟨c0, c1, c2, c3, c4⟩ := FlAt.of (heap_alloc_new w (flO 44 ⟨q0, q1, q2, q3, q4⟩))
  go_enter Try.func5, Try.ntmps5
  go_wp2_with fail
  refine (HG _).out.mono ?_
  rintro e w1 ⟨rfl, hs1⟩
  have HS1 := Lib.hid (H0.out.trans hs1)
  clear hs1
  go_wp2_with fail
  refine (tu_lives _).mono ?_
  rintro e w2 ⟨rfl, hs2⟩
  have HS2 := Lib.hid (HS1.out.trans hs2)
  clear hs2
  go_wp2_with fail
  go_ret
  exact ⟨rfl, HS2.out⟩

set_option maxRecDepth 100000 in
set_option maxHeartbeats 1000000 in
theorem tlong_walk (f : Fl) (n : Int) (hn : 0 ≤ n ∧ n ≤ 65535) (hr : (0 ≤ f.src ∧ f.src ≤ 4294967295) ∧ (0 ≤ f.dst ∧ f.dst ≤ 4294967295)) (w : World) (hg : goodF f) :
    Calls Try.prog 5 #[flV f, .int .u16 n] w fun e w' => e = .returned (.bool true) ∧ Same w w' := by
  obtain ⟨k, hk⟩ : ∃ k : Nat, 8900 + n % 73 = (k : Int) := ⟨(8900 + n % 73).toNat, by omega⟩
  have hk1 : k ≤ 8972 := by omega
  have hk2 : 8900 ≤ k := by omega
  have HG := fun w => Lib.hid (poGood_any f w)
  rw [show decide (goodF f) = true from decide_eq_true hg] at HG
  have HU := fun v w hb => Lib.hid (poUdp_any f hr v (List.replicate k 0) w hb (by rw [List.length_replicate]; omega))
  have HMk := fun w => makeN k (by omega) w
  obtain ⟨h1, h2, h3, -⟩ := udp_packet f hg.2 hr (List.replicate k 0) (by rw [List.length_replicate]; omega)
  rw [List.length_replicate] at h1 h3
  have HW := fun v w hb => Lib.hid (tWrap_any v (udpB f (List.replicate k 0)) 1 2 ⟨by decide, by decide⟩ ⟨by decide, by decide⟩ w hb)
  have hE : wrapE (udpB f (List.replicate k 0)) = if 8980 < 28 + k then 10 else 0 := by rw [wrapE, if_neg (by rw [h2]; decide), h3]
  have hX := wrapB_length h2 1 2
  rw [h3] at hX
  obtain ⟨E, hEE⟩ : ∃ E, wrapE (udpB f (List.replicate k 0)) = E := ⟨_, rfl⟩
  rw [hEE] at HW hE
  have HBm : Hid (∀ w : World, Bs (w.alloc (.cells ((List.replicate k (0 : UInt8)).map b8).toArray 5)) (.slice (some ⟨w.heap.size, 0, none⟩) k k) (List.replicate k 0)) := fun w => by
    have := Bs.made w (List.replicate k 0) 5 (by rw [List.length_replicate]; omega)
    rw [List.length_replicate] at this
    exact this
  have HL := fun w => Lib.hid (tu_lives w)
  generalize wrapB (udpB f (List.replicate k 0)) 1 2 = X at *
  generalize udpB f (List.replicate k 0) = B at *
  generalize (List.replicate k (0 : UInt8)) = Z at *
  have HNB := Lib.hid h1
  have HCS : Hid ((8980 < 28 + k ∧ E = 10 ∧ X.length = 0) ∨ (¬ 8980 < 28 + k ∧ E = 0 ∧ X.length = 48 + k)) := by
    by_cases h8 : 8980 < 28 + k
    · rw [if_pos h8] at hE hX
      exact .inl ⟨h8, hE, hX⟩
    · rw [if_neg h8] at hE hX
      exact .inr ⟨h8, hE, by omega⟩
  have z1 := Int.tmod_eq_emod_of_nonneg (b := 73) hn.1
  have i1 : 0 ≤ n % 73 := by omega
  have i2 : n % 73 ≤ 72 := by omega
  clear h1 h2 h3 hE hEE hX hg hr
  obtain ⟨q0, q1, q2, q3, q4⟩ := f
  have H0 := Lib.hid (Same.alloc w (flO 44 ⟨q0, q1, q2, q3, q4⟩))
  have HX := Lib.hid (fl_box 44 ⟨q0, q1, q2, q3, q4⟩ w)
  obtain ⟨c0, c1, c2, c3, c4⟩ := FlAt.of (heap_alloc_new w (flO 44 ⟨q0, q1, q2, q3, q4⟩))
  go_enter Try.func5, Try.ntmps5
  go_wp2_with fail
  refine (HG _).out.mono ?_
  rintro e w1 ⟨rfl, hs1⟩
  have HS1 := Lib.hid hs1
  clear hs1 c0 c1 c2 c3 c4
  go_wp2_with fail
  refine reg_start (fun w' => Same w1 w') (by kernel_rfl) ?_
  refine reg_take (v := ?_) 0 (some 17) rfl rfl (by kernel_rfl) (fun _ _ _ h => h) (by kernel_rfl) ((Same.refl w1).drew) ?_ ?_
  rotate_left
  · (intro w' hw'; obtain ⟨c0, c1, c2, c3, c4⟩ := HX.out w' (HS1.out.trans hw'); go_simp; try with_reducible rfl)
  try simp only [Act.put, List.setIfInBounds_toArray, List.set_cons_zero, List.set_cons_succ]
  refine reg_take (v := ?_) 1 (some 18) rfl rfl (by kernel_rfl) (fun _ _ _ h => h) (by kernel_rfl) ((Same.refl w1).drew) ?_ ?_
  rotate_left
  · (intro w' hw'; obtain ⟨c0, c1, c2, c3, c4⟩ := HX.out w' (HS1.out.trans hw'); go_simp; try with_reducible rfl)
  try simp only [Act.put, List.setIfInBounds_toArray, List.set_cons_zero, List.set_cons_succ]
  refine reg_one 2 rfl (by kernel_rfl) (by kernel_rfl) ?_
  generalize hD : w1.drew = D at *
  have HD : Hid (Same w1 D) := by rw [← hD]; exact (Same.refl w1).drew
  clear hD
  have hm := HMk D
  go_simp
  refine ⟨HD.out.trans (Same.alloc D _), ?_⟩
  try simp only [Act.put, List.setIfInBounds_toArray, List.set_cons_zero, List.set_cons_succ]
  refine reg_one 3 rfl (by kernel_rfl) (by kernel_rfl) ?_
  go_simp
  refine ((HU _ _ (HBm.out D)).out).mono ?_
  rintro e u2 ⟨v3, rfl, ho3, hs2⟩
  have hS2 := (HD.out.trans (Same.alloc D _)).trans hs2
  have HO3 := Lib.hid ho3.bs
  clear ho3
  refine ⟨hS2, ?_⟩
  try simp only [Act.put, List.setIfInBounds_toArray, List.set_cons_zero, List.set_cons_succ]
  refine reg_take (v := ?_) 4 (some 6) rfl rfl (by kernel_rfl) (fun _ _ _ h => h) (by kernel_rfl) (hS2) ?_ ?_
  rotate_left
  · (intro w' hw'; obtain ⟨c0, c1, c2, c3, c4⟩ := HX.out w' (HS1.out.trans hw'); go_simp; try with_reducible rfl)
  try simp only [Act.put, List.setIfInBounds_toArray, List.set_cons_zero, List.set_cons_succ]
  refine reg_done (by kernel_rfl) ?_
  have HS3 := Lib.hid ((H0.out.trans HS1.out).trans hS2)
  obtain ⟨a3, c3, rfl⟩ := HO3.out.form0 HNB.out
  have i3 : (k : Int) ≤ 8972 := by omega
  clear hS2 hs2
  go_wp2_with fail
  refine (HW _ _ HO3.out).out.mono ?_
  rintro e w4 ⟨v4, rfl, ho4, hs4⟩
  have HS4 := Lib.hid (HS3.out.trans hs4)
  clear hs4
  rcases HCS.out with ⟨h8, rfl, hx⟩ | ⟨h8, rfl, hx⟩
  · obtain ⟨a4, c4, rfl⟩ := ho4.bs.form0 hx
    have h9 : (8980 : Int) < 28 + k := by omega
    clear ho4 h8 hx
    go_wp2_with fail
    refine (HL _).out.mono ?_
    rintro e w5 ⟨rfl, hs5⟩
    have HS5 := Lib.hid (HS4.out.trans hs5)
    clear hs5
    go_wp2_with fail
    go_ret
    exact ⟨rfl, HS5.out⟩
  · obtain ⟨n4, hn4⟩ : ∃ n4 : Nat, 48 + k = n4 := ⟨_, rfl⟩
    rw [hn4] at hx
    obtain ⟨a4, c4, rfl⟩ := ho4.bs.form0 hx
    have h10 : ((n4 : Int) == 28 + (k : Int) + 20) = true := by simp; omega
    have h9 : ¬ (8980 : Int) < 28 + k := by omega
    clear ho4 h8 hx
    go_wp2_with fail
    refine (HL _).out.mono ?_
    rintro e w5 ⟨rfl, hs5⟩
    have HS5 := Lib.hid (HS4.out.trans hs5)
    clear hs5
    go_wp2_with fail
    go_ret
    exact ⟨rfl, HS5.out⟩
end Go.Proofs.Yteoleblnhcnpkaa
