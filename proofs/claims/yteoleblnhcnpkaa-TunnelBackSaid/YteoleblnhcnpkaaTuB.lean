/- Layer 6: the walk of TunnelBack. No condition beyond what each names. -/
import Derived.Test.YteoleblnhcnpkaaTuL
namespace Go.Proofs.Yteoleblnhcnpkaa
open Go.RowKit
set_option linter.unusedVariables false

theorem bs_seven (w : World) : Bs (w.alloc (.cells #[.int .u8 7] 5)) (.slice (some ⟨w.heap.size, 0, none⟩) 1 1) [7] := Bs.made w [7] 5 (by simp)

theorem depN_min (n : Nat) (l : List UInt8) : depN n l = min n (depN (n + 1) l) := by
  induction n generalizing l with
  | zero => simp [depN]
  | succ n ih =>
    have e : ∀ m, depN (m + 1) l = if unwE l = 0 then depN m (unwB l) + 1 else 0 := fun m => rfl
    rw [e n, e (n + 1)]
    by_cases h : unwE l = 0
    · rw [if_pos h, if_pos h]
      have := ih (unwB l)
      omega
    · rw [if_neg h, if_neg h]; rfl

set_option maxRecDepth 100000 in
theorem tback_long (v : Value) (l : List UInt8) (src dst : Int) (w : World) (hb : Bs w v l) (hl : 3000 < (l.length : Int)) :
    Calls Try.prog 4 #[v, .int .u32 src, .int .u32 dst] w fun e w' => e = .returned (.bool true) ∧ Same w w' := by
  obtain ⟨ao, cap, rfl, -, -, -, -⟩ := hb
  go_enter Try.func4, Try.ntmps4
  go_wp2_with fail
  refine (tu_lives w).mono ?_
  rintro e w1 ⟨rfl, hs⟩
  have HS := Lib.hid hs
  clear hs
  go_wp2_with fail
  go_ret
  exact ⟨rfl, HS.out⟩

set_option maxRecDepth 100000 in
set_option maxHeartbeats 1000000 in
theorem tback_bad (v : Value) (l : List UInt8) (src dst : Int) (hs : 0 ≤ src ∧ src ≤ 4294967295) (hd : 0 ≤ dst ∧ dst ≤ 4294967295) (w : World) (hb : Bs w v l) (hl : ¬ 3000 < (l.length : Int)) (h0 : parseE l ≠ 0) :
    Calls Try.prog 4 #[v, .int .u32 src, .int .u32 dst] w fun e w' => e = .returned (.bool true) ∧ Same w w' := by
  have HW := fun w hb => Lib.hid (tWrap_any v l src dst hs hd w hb)
  rw [show wrapE l = parseE l from if_pos h0, show wrapB l src dst = [] from if_neg h0] at HW
  have HP := fun w hb => Lib.hid (ipParse_any v l w hb)
  rw [show parseH l = ⟨0, 0, 0, 0, 0, 0, 0, 0, []⟩ from if_neg h0, show parseP l = [] from if_neg h0] at HP
  have HB := Lib.hid hb
  have HL := fun w => Lib.hid (tu_lives w)
  have hE : (parseE l != 0) = true := by simpa using h0
  generalize parseE l = E at *
  clear h0 hs hd
  obtain ⟨ao, cap, rfl, -, -, -, -⟩ := hb
  go_enter Try.func4, Try.ntmps4
  go_wp2_with fail
  refine (HW _ HB.out).out.mono ?_
  rintro e w1 ⟨v1, rfl, ho1, hs1⟩
  have HS1 := Lib.hid hs1
  obtain ⟨a1, c1, rfl⟩ := ho1.bs.form0 rfl
  clear ho1 hs1
  go_wp2_with fail
  refine (HP _ (HB.out.same HS1.out)).out.mono ?_
  rintro e w2 ⟨vo, vp, rfl, ho, hp, hs2⟩
  have HS2 := Lib.hid (HS1.out.trans hs2)
  obtain ⟨a2, c2, rfl⟩ := ho.bs.form0 rfl
  obtain ⟨a3, c3, rfl⟩ := hp.bs.form0 rfl
  clear ho hp hs2
  have HA2 := Lib.hid (Same.alloc w2 (hdO 31 ⟨0, 0, 0, 0, 0, 0, 0, 0, []⟩ (.slice a2 0 c2)))
  go_wp2_with fail
  refine (HL _).out.mono ?_
  rintro e w3 ⟨rfl, hs3⟩
  have HS3 := Lib.hid ((HS2.out.trans HA2.out).trans hs3)
  clear hs3
  go_wp2_with fail
  go_ret
  exact ⟨rfl, HS3.out⟩

set_option maxRecDepth 100000 in
set_option maxHeartbeats 2000000 in
theorem tback_walk (v : Value) (l : List UInt8) (src dst : Int) (hs : 0 ≤ src ∧ src ≤ 4294967295) (hd : 0 ≤ dst ∧ dst ≤ 4294967295) (w : World) (hb : Bs w v l) (hl : ¬ 3000 < (l.length : Int)) (h0 : parseE l = 0) :
    Calls Try.prog 4 #[v, .int .u32 src, .int .u32 dst] w fun e w' => e = .returned (.bool true) ∧ Same w w' := by
  obtain ⟨e1, hN, hN0, hN1, hN2⟩ := whole_length h0
  have hE : wrapE l = 0 := by rw [wrapE, if_neg (by rw [h0]; decide), if_neg (by omega)]
  have HW := fun w hb => Lib.hid (tWrap_any v l src dst hs hd w hb)
  rw [hE] at HW
  obtain ⟨-, u1, u2, u3, u4⟩ := unw_wrap hE src dst hs hd [7]
  obtain ⟨-, t1, -, -, -⟩ := unw_wrap hE src dst hs hd []
  rw [List.append_nil] at t1
  have HU := fun v w hb => Lib.hid (tUnwrap_any v (wrapB l src dst ++ [7]) w hb)
  rw [u1, u2, u3] at HU
  have HI := fun v w hb => Lib.hid (tIs_any v (wrapB l src dst) w hb)
  rw [t1] at HI
  have HD := fun w hb => Lib.hid (tDepth_any v l w hb)
  have HD2 := fun v w hb => Lib.hid (tDepth_any v (wrapB l src dst) w hb)
  rw [dep_wrap hE src dst hs hd 7] at HD2
  have hm := depN_min 7 l
  have hd8 := depN_le 8 l
  obtain ⟨b, o, cap, rfl, hcap, hcm, b0, b2, b3, hb0, hb2, hb3, e0, e2, HC⟩ := heads hb (parse_ok h0).1
  have HB := Lib.hid hb
  have HBF : Hid (∀ w', Same w w' → Bs w' (.slice (some ⟨b, o, none⟩) (lenH l) cap) (wholeP l)) := fun w' hw => by
    have := ((HB.out.same hw).cut 0 (lenH l) (by omega)).1
    rw [if_neg (by omega), List.drop_zero, ← e1] at this
    simpa [Addr.add] using this
  have HL := fun w => Lib.hid (tu_lives w)
  generalize depN 8 l = D at *
  generalize depN 7 l = D7 at *
  rw [show arH (parseH l) src dst = ⟨(parseH l).tos, (parseH l).id, if (parseH l).flags / 2 % 2 = 1 then 2 else 0, 0, 64, 4, src, dst, []⟩ from rfl] at HU
  generalize (parseH l).tos = q0 at *
  generalize (parseH l).id = q1 at *
  generalize (if (parseH l).flags / 2 % 2 = 1 then (2 : Int) else 0) = q2 at *
  generalize wrapB l src dst = X at *
  generalize wholeP l = P at *
  generalize lenH l = N at *
  obtain ⟨n, hn⟩ : ∃ n, l.length = n := ⟨_, rfl⟩
  rw [hn] at hcap hN2 hl ⊢
  have HNX := Lib.hid u4
  have HNP := Lib.hid hN
  obtain ⟨nX, hnX⟩ : ∃ k : Nat, 20 + N = k := ⟨_, rfl⟩
  rw [hnX] at HNX
  have i1 : (nX : Int) - 20 = N := by omega
  have i2 : (20 : Int) ≤ N := by omega
  have i3 : (N : Int) ≤ n := by omega
  have i4 : (N : Int) ≤ cap := by omega
  have i5 : (nX : Int) ≤ 10000 := by omega
  have HWANT : Hid (((D7 + 1 : Nat) : Int) = if D = 8 then 8 else (D : Int) + 1) := by show _ = _; split <;> omega
  rw [hn] at HB HW HD
  have Z1 : Hid (decide ((N : Int) < 20) = false) := decide_eq_false (by omega)
  have Z2 : Hid (decide (n < N) = false) := decide_eq_false (by omega)
  have HL1 := Lib.hid (show ([] : List UInt8).length + X.length ≤ 140737488355328 by rw [HNX.out]; simp; omega)
  have HL2 := Lib.hid (show X.length + ([7] : List UInt8).length ≤ 140737488355328 by rw [HNX.out]; simp; omega)
  clear e0 e1 e2 HC u1 u2 u3 u4 t1 hN hN0 hN1 hN2 hn hcap hnX hm hb0 hb2 hb3 hE hs hd
  go_enter Try.func4, Try.ntmps4
  go_wp2_with fail
  refine (HW _ HB.out).out.mono ?_
  rintro e w1 ⟨v1, rfl, ho1, hs1⟩
  have HS1 := Lib.hid hs1
  have HO1 := Lib.hid ho1.bs
  obtain ⟨a1, c1, rfl⟩ := ho1.bs.form0 HNX.out
  clear ho1 hs1
  go_wp2_with (at_builtin; first
    | (refine wpList_append_bs rfl _ _ rfl w1 (Same.alloc _ _) _ [] rfl (OwnB.empty w1) _ X rfl (HO1.out.same (Same.alloc _ _)) HL1.out ?_; intro v2 w2 ho2 hs2; rw [List.nil_append] at ho2; have HO2 := Lib.hid ho2; have HS2 := Lib.hid hs2; clear ho2 hs2)
    | (refine wpList_append_bs rfl _ _ rfl w1 (HS2.out.trans (Same.alloc _ _)) _ X rfl (HO2.out.same (Same.alloc _ _)) _ [7] rfl (bs_seven w2) HL2.out ?_; intro v3 w3 ho3 hs3))
  have HO3 := Lib.hid ho3.bs
  have HS3 := Lib.hid (HS1.out.trans hs3)
  have HO1b := Lib.hid (HO1.out.same hs3)
  clear ho3 hs3 HO2 HS2 HL2
  refine (HU _ _ HO3.out).out.mono ?_
  rintro e w4 ⟨v4, vo4, rfl, hp4, ho4, hs4⟩
  have HP4 := Lib.hid hp4
  have HS4 := Lib.hid (HS3.out.trans hs4)
  have HO1c := Lib.hid (HO1b.out.same hs4)
  obtain ⟨a4, c4, rfl⟩ := hp4.form0 HNP.out
  obtain ⟨b4, d4, rfl⟩ := ho4.form0 rfl
  clear hp4 ho4 hs4
  have HA4 := Lib.hid (Same.alloc w4 (hdO 31 ⟨q0, q1, q2, 0, 64, 4, src, dst, []⟩ (.slice b4 0 d4)))
  have HX4 := Lib.hid (hd_box 31 ⟨q0, q1, q2, 0, 64, 4, src, dst, []⟩ (.slice b4 0 d4) w4)
  simp only [List.length_nil]
  go_wp2_with fail
  have HC1 : Hid (∀ w', Same (w4.alloc (hdO 31 ⟨q0, q1, q2, 0, 64, 4, src, dst, []⟩ (.slice b4 0 d4))) w' → (convert 22 9 (.slice a4 N c4)).run Try.prog w' = .ok (.string ⟨P.toArray⟩) w') := fun w' hw => run_str w' _ P (HP4.out.same (HA4.out.trans hw))
  have HC2 : Hid (∀ w', Same (w4.alloc (hdO 31 ⟨q0, q1, q2, 0, 64, 4, src, dst, []⟩ (.slice b4 0 d4))) w' → (convert 22 9 (.slice (some ⟨b, o, none⟩) N cap)).run Try.prog w' = .ok (.string ⟨P.toArray⟩) w') := fun w' hw => run_str w' _ P (HBF.out _ ((HS4.out.trans HA4.out).trans hw))
  have HO1d := Lib.hid (HO1c.out.same HA4.out)
  have HSw := Lib.hid (HS4.out.trans HA4.out)
  generalize (⟨P.toArray⟩ : ByteArray) = sP at *
  generalize (w4.alloc (hdO 31 ⟨q0, q1, q2, 0, 64, 4, src, dst, []⟩ (.slice b4 0 d4))) = w5 at *
  refine reg_start (fun w' => Same w5 w') (by kernel_rfl) ?_
  refine reg_take (v := ?_) 0 (some 61) rfl rfl (by kernel_rfl) (fun _ _ _ h => h) (by kernel_rfl) ((Same.refl w5).drew) ?_ ?_
  rotate_left
  · (intro w' hw'; obtain ⟨c0, c1, c2, c3, c4, c5, c6, c7, c8⟩ := HX4.out w' hw'; go_simp; try with_reducible rfl)
  try simp only [Act.put, List.setIfInBounds_toArray, List.set_cons_zero, List.set_cons_succ]
  refine reg_take (v := ?_) 1 (some 62) rfl rfl (by kernel_rfl) (fun _ _ _ h => h) (by kernel_rfl) ((Same.refl w5).drew) ?_ ?_
  rotate_left
  · (intro w' hw'; obtain ⟨c0, c1, c2, c3, c4, c5, c6, c7, c8⟩ := HX4.out w' hw'; go_simp; try with_reducible rfl)
  try simp only [Act.put, List.setIfInBounds_toArray, List.set_cons_zero, List.set_cons_succ]
  refine reg_take (v := ?_) 2 (some 63) rfl rfl (by kernel_rfl) (fun _ _ _ h => h) (by kernel_rfl) ((Same.refl w5).drew) ?_ ?_
  rotate_left
  · (intro w' hw'; obtain ⟨c0, c1, c2, c3, c4, c5, c6, c7, c8⟩ := HX4.out w' hw'; go_simp; try with_reducible rfl)
  try simp only [Act.put, List.setIfInBounds_toArray, List.set_cons_zero, List.set_cons_succ]
  refine reg_take (v := ?_) 3 (some 64) rfl rfl (by kernel_rfl) (fun _ _ _ h => h) (by kernel_rfl) ((Same.refl w5).drew) ?_ ?_
  rotate_left
  · (intro w' hw'; obtain ⟨c0, c1, c2, c3, c4, c5, c6, c7, c8⟩ := HX4.out w' hw'; go_simp; try with_reducible rfl)
  try simp only [Act.put, List.setIfInBounds_toArray, List.set_cons_zero, List.set_cons_succ]
  refine reg_take (v := ?_) 4 (some 65) rfl rfl (by kernel_rfl) (fun _ _ _ h => h) (by kernel_rfl) ((Same.refl w5).drew) ?_ ?_
  rotate_left
  · (intro w' hw'; have z := Z1.out; go_simp; try with_reducible rfl)
  try simp only [Act.put, List.setIfInBounds_toArray, List.set_cons_zero, List.set_cons_succ]
  refine reg_take (v := ?_) 5 (some 66) rfl rfl (by kernel_rfl) (fun _ _ _ h => h) (by kernel_rfl) ((Same.refl w5).drew) ?_ ?_
  rotate_left
  · (intro w' hw'; obtain ⟨c0, c1, c2, c3, c4, c5, c6, c7, c8⟩ := HX4.out w' hw'; go_simp; try with_reducible rfl)
  try simp only [Act.put, List.setIfInBounds_toArray, List.set_cons_zero, List.set_cons_succ]
  refine reg_take (v := ?_) 6 (some 67) rfl rfl (by kernel_rfl) (fun _ _ _ h => h) (by kernel_rfl) ((Same.refl w5).drew) ?_ ?_
  rotate_left
  · (intro w' hw'; obtain ⟨c0, c1, c2, c3, c4, c5, c6, c7, c8⟩ := HX4.out w' hw'; go_simp; try with_reducible rfl)
  try simp only [Act.put, List.setIfInBounds_toArray, List.set_cons_zero, List.set_cons_succ]
  refine reg_take (v := ?_) 7 (some 68) rfl rfl (by kernel_rfl) (fun _ _ _ h => h) (by kernel_rfl) ((Same.refl w5).drew) ?_ ?_
  rotate_left
  · (intro w' hw'; obtain ⟨c0, c1, c2, c3, c4, c5, c6, c7, c8⟩ := HX4.out w' hw'; go_simp; try with_reducible rfl)
  try simp only [Act.put, List.setIfInBounds_toArray, List.set_cons_zero, List.set_cons_succ]
  refine reg_take (v := ?_) 8 (some 69) rfl rfl (by kernel_rfl) (fun _ _ _ h => h) (by kernel_rfl) ((Same.refl w5).drew) ?_ ?_
  rotate_left
  · (intro w' hw'; obtain ⟨c0, c1, c2, c3, c4, c5, c6, c7, c8⟩ := HX4.out w' hw'; go_simp; try with_reducible rfl)
  try simp only [Act.put, List.setIfInBounds_toArray, List.set_cons_zero, List.set_cons_succ]
  refine reg_take (v := ?_) 9 (some 70) rfl rfl (by kernel_rfl) (fun _ _ _ h => h) (by kernel_rfl) ((Same.refl w5).drew) ?_ ?_
  rotate_left
  · (intro w' hw'; obtain ⟨c0, c1, c2, c3, c4, c5, c6, c7, c8⟩ := HX4.out w' hw'; go_simp; try with_reducible rfl)
  try simp only [Act.put, List.setIfInBounds_toArray, List.set_cons_zero, List.set_cons_succ]
  refine reg_take (v := ?_) 10 (some 71) rfl rfl (by kernel_rfl) (fun _ _ _ h => h) (by kernel_rfl) ((Same.refl w5).drew) ?_ ?_
  rotate_left
  · (intro w' hw'; have z := Z2.out; go_simp; try with_reducible rfl)
  try simp only [Act.put, List.setIfInBounds_toArray, List.set_cons_zero, List.set_cons_succ]
  refine reg_take (v := ?_) 11 (some 72) rfl rfl (by kernel_rfl) (fun _ _ _ h => h) (by kernel_rfl) ((Same.refl w5).drew) ?_ ?_
  rotate_left
  · (intro w' hw'; obtain ⟨c0, c1, c2, c3, c4, c5, c6, c7, c8⟩ := HX4.out w' hw'; go_simp; try with_reducible rfl)
  try simp only [Act.put, List.setIfInBounds_toArray, List.set_cons_zero, List.set_cons_succ]
  refine reg_take (v := ?_) 12 (some 73) rfl rfl (by kernel_rfl) (fun _ _ _ h => h) (by kernel_rfl) ((Same.refl w5).drew) ?_ ?_
  rotate_left
  · (intro w' hw'; obtain ⟨c0, c1, c2, c3, c4, c5, c6, c7, c8⟩ := HX4.out w' hw'; go_simp; try with_reducible rfl)
  try simp only [Act.put, List.setIfInBounds_toArray, List.set_cons_zero, List.set_cons_succ]
  refine reg_take (v := ?_) 13 (some 74) rfl rfl (by kernel_rfl) (fun _ _ _ h => h) (by kernel_rfl) ((Same.refl w5).drew) ?_ ?_
  rotate_left
  · (intro w' hw'; obtain ⟨c0, c1, c2, c3, c4, c5, c6, c7, c8⟩ := HX4.out w' hw'; go_simp; try with_reducible rfl)
  try simp only [Act.put, List.setIfInBounds_toArray, List.set_cons_zero, List.set_cons_succ]
  refine reg_take (v := ?_) 14 (some 75) rfl rfl (by kernel_rfl) (fun _ _ _ h => h) (by kernel_rfl) ((Same.refl w5).drew) ?_ ?_
  rotate_left
  · (intro w' hw'; have hr := HC1.out w' hw'; go_simp; try with_reducible rfl)
  try simp only [Act.put, List.setIfInBounds_toArray, List.set_cons_zero, List.set_cons_succ]
  refine reg_take (v := ?_) 15 (some 76) rfl rfl (by kernel_rfl) (fun _ _ _ h => h) (by kernel_rfl) ((Same.refl w5).drew) ?_ ?_
  rotate_left
  · (intro w' hw'; obtain ⟨c0, c1, c2, c3, c4, c5, c6, c7, c8⟩ := HX4.out w' hw'; go_simp; try with_reducible rfl)
  try simp only [Act.put, List.setIfInBounds_toArray, List.set_cons_zero, List.set_cons_succ]
  refine reg_take (v := ?_) 16 (some 77) rfl rfl (by kernel_rfl) (fun _ _ _ h => h) (by kernel_rfl) ((Same.refl w5).drew) ?_ ?_
  rotate_left
  · (intro w' hw'; obtain ⟨c0, c1, c2, c3, c4, c5, c6, c7, c8⟩ := HX4.out w' hw'; go_simp; try with_reducible rfl)
  try simp only [Act.put, List.setIfInBounds_toArray, List.set_cons_zero, List.set_cons_succ]
  refine reg_take (v := ?_) 17 (some 78) rfl rfl (by kernel_rfl) (fun _ _ _ h => h) (by kernel_rfl) ((Same.refl w5).drew) ?_ ?_
  rotate_left
  · (intro w' hw'; obtain ⟨c0, c1, c2, c3, c4, c5, c6, c7, c8⟩ := HX4.out w' hw'; go_simp; try with_reducible rfl)
  try simp only [Act.put, List.setIfInBounds_toArray, List.set_cons_zero, List.set_cons_succ]
  refine reg_take (v := ?_) 18 (some 79) rfl rfl (by kernel_rfl) (fun _ _ _ h => h) (by kernel_rfl) ((Same.refl w5).drew) ?_ ?_
  rotate_left
  · (intro w' hw'; have hr := HC2.out w' hw'; go_simp; try with_reducible rfl)
  try simp only [Act.put, List.setIfInBounds_toArray, List.set_cons_zero, List.set_cons_succ]
  refine reg_take (v := ?_) 19 (some 80) rfl rfl (by kernel_rfl) (fun _ _ _ h => h) (by kernel_rfl) ((Same.refl w5).drew) ?_ ?_
  rotate_left
  · (intro w' hw'; obtain ⟨c0, c1, c2, c3, c4, c5, c6, c7, c8⟩ := HX4.out w' hw'; go_simp; try with_reducible rfl)
  try simp only [Act.put, List.setIfInBounds_toArray, List.set_cons_zero, List.set_cons_succ]
  refine reg_take (v := ?_) 20 (some 81) rfl rfl (by kernel_rfl) (fun _ _ _ h => h) (by kernel_rfl) ((Same.refl w5).drew) ?_ ?_
  rotate_left
  · (intro w' hw'; obtain ⟨c0, c1, c2, c3, c4, c5, c6, c7, c8⟩ := HX4.out w' hw'; go_simp; try with_reducible rfl)
  try simp only [Act.put, List.setIfInBounds_toArray, List.set_cons_zero, List.set_cons_succ]
  refine reg_take (v := ?_) 21 (some 82) rfl rfl (by kernel_rfl) (fun _ _ _ h => h) (by kernel_rfl) ((Same.refl w5).drew) ?_ ?_
  rotate_left
  · (intro w' hw'; obtain ⟨c0, c1, c2, c3, c4, c5, c6, c7, c8⟩ := HX4.out w' hw'; go_simp; try with_reducible rfl)
  try simp only [Act.put, List.setIfInBounds_toArray, List.set_cons_zero, List.set_cons_succ]
  refine reg_take (v := ?_) 22 (some 83) rfl rfl (by kernel_rfl) (fun _ _ _ h => h) (by kernel_rfl) ((Same.refl w5).drew) ?_ ?_
  rotate_left
  · (intro w' hw'; obtain ⟨c0, c1, c2, c3, c4, c5, c6, c7, c8⟩ := HX4.out w' hw'; go_simp; try with_reducible rfl)
  try simp only [Act.put, List.setIfInBounds_toArray, List.set_cons_zero, List.set_cons_succ]
  refine reg_take (v := ?_) 23 (some 84) rfl rfl (by kernel_rfl) (fun _ _ _ h => h) (by kernel_rfl) ((Same.refl w5).drew) ?_ ?_
  rotate_left
  · (intro w' hw'; obtain ⟨c0, c1, c2, c3, c4, c5, c6, c7, c8⟩ := HX4.out w' hw'; go_simp; try with_reducible rfl)
  try simp only [Act.put, List.setIfInBounds_toArray, List.set_cons_zero, List.set_cons_succ]
  refine reg_take (v := ?_) 24 (some 85) rfl rfl (by kernel_rfl) (fun _ _ _ h => h) (by kernel_rfl) ((Same.refl w5).drew) ?_ ?_
  rotate_left
  · (intro w' hw'; obtain ⟨c0, c1, c2, c3, c4, c5, c6, c7, c8⟩ := HX4.out w' hw'; go_simp; try with_reducible rfl)
  try simp only [Act.put, List.setIfInBounds_toArray, List.set_cons_zero, List.set_cons_succ]
  refine reg_take (v := ?_) 25 (some 86) rfl rfl (by kernel_rfl) (fun _ _ _ h => h) (by kernel_rfl) ((Same.refl w5).drew) ?_ ?_
  rotate_left
  · (intro w' hw'; obtain ⟨c0, c1, c2, c3, c4, c5, c6, c7, c8⟩ := HX4.out w' hw'; go_simp; try with_reducible rfl)
  try simp only [Act.put, List.setIfInBounds_toArray, List.set_cons_zero, List.set_cons_succ]
  refine reg_take (v := ?_) 26 (some 87) rfl rfl (by kernel_rfl) (fun _ _ _ h => h) (by kernel_rfl) ((Same.refl w5).drew) ?_ ?_
  rotate_left
  · (intro w' hw'; obtain ⟨c0, c1, c2, c3, c4, c5, c6, c7, c8⟩ := HX4.out w' hw'; go_simp; try with_reducible rfl)
  try simp only [Act.put, List.setIfInBounds_toArray, List.set_cons_zero, List.set_cons_succ]
  refine reg_take (v := ?_) 27 (some 88) rfl rfl (by kernel_rfl) (fun _ _ _ h => h) (by kernel_rfl) ((Same.refl w5).drew) ?_ ?_
  rotate_left
  · (intro w' hw'; obtain ⟨c0, c1, c2, c3, c4, c5, c6, c7, c8⟩ := HX4.out w' hw'; go_simp; try with_reducible rfl)
  try simp only [Act.put, List.setIfInBounds_toArray, List.set_cons_zero, List.set_cons_succ]
  refine reg_take (v := ?_) 28 (some 89) rfl rfl (by kernel_rfl) (fun _ _ _ h => h) (by kernel_rfl) ((Same.refl w5).drew) ?_ ?_
  rotate_left
  · (intro w' hw'; obtain ⟨c0, c1, c2, c3, c4, c5, c6, c7, c8⟩ := HX4.out w' hw'; go_simp; try with_reducible rfl)
  try simp only [Act.put, List.setIfInBounds_toArray, List.set_cons_zero, List.set_cons_succ]
  refine reg_take (v := ?_) 29 (some 90) rfl rfl (by kernel_rfl) (fun _ _ _ h => h) (by kernel_rfl) ((Same.refl w5).drew) ?_ ?_
  rotate_left
  · (intro w' hw'; obtain ⟨c0, c1, c2, c3, c4, c5, c6, c7, c8⟩ := HX4.out w' hw'; go_simp; try with_reducible rfl)
  try simp only [Act.put, List.setIfInBounds_toArray, List.set_cons_zero, List.set_cons_succ]
  refine reg_take (v := ?_) 30 (some 91) rfl rfl (by kernel_rfl) (fun _ _ _ h => h) (by kernel_rfl) ((Same.refl w5).drew) ?_ ?_
  rotate_left
  · (intro w' hw'; obtain ⟨c0, c1, c2, c3, c4, c5, c6, c7, c8⟩ := HX4.out w' hw'; go_simp; try with_reducible rfl)
  try simp only [Act.put, List.setIfInBounds_toArray, List.set_cons_zero, List.set_cons_succ]
  refine reg_take (v := ?_) 31 (some 92) rfl rfl (by kernel_rfl) (fun _ _ _ h => h) (by kernel_rfl) ((Same.refl w5).drew) ?_ ?_
  rotate_left
  · (intro w' hw'; obtain ⟨c0, c1, c2, c3, c4, c5, c6, c7, c8⟩ := HX4.out w' hw'; go_simp; try with_reducible rfl)
  try simp only [Act.put, List.setIfInBounds_toArray, List.set_cons_zero, List.set_cons_succ]
  refine reg_take (v := ?_) 32 (some 93) rfl rfl (by kernel_rfl) (fun _ _ _ h => h) (by kernel_rfl) ((Same.refl w5).drew) ?_ ?_
  rotate_left
  · (intro w' hw'; obtain ⟨c0, c1, c2, c3, c4, c5, c6, c7, c8⟩ := HX4.out w' hw'; go_simp; try with_reducible rfl)
  try simp only [Act.put, List.setIfInBounds_toArray, List.set_cons_zero, List.set_cons_succ]
  refine reg_take (v := ?_) 33 (some 94) rfl rfl (by kernel_rfl) (fun _ _ _ h => h) (by kernel_rfl) ((Same.refl w5).drew) ?_ ?_
  rotate_left
  · (intro w' hw'; obtain ⟨c0, c1, c2, c3, c4, c5, c6, c7, c8⟩ := HX4.out w' hw'; go_simp; try with_reducible rfl)
  try simp only [Act.put, List.setIfInBounds_toArray, List.set_cons_zero, List.set_cons_succ]
  refine reg_take (v := ?_) 34 (some 95) rfl rfl (by kernel_rfl) (fun _ _ _ h => h) (by kernel_rfl) ((Same.refl w5).drew) ?_ ?_
  rotate_left
  · (intro w' hw'; obtain ⟨c0, c1, c2, c3, c4, c5, c6, c7, c8⟩ := HX4.out w' hw'; go_simp; try with_reducible rfl)
  try simp only [Act.put, List.setIfInBounds_toArray, List.set_cons_zero, List.set_cons_succ]
  refine reg_take (v := ?_) 35 (some 96) rfl rfl (by kernel_rfl) (fun _ _ _ h => h) (by kernel_rfl) ((Same.refl w5).drew) ?_ ?_
  rotate_left
  · (intro w' hw'; obtain ⟨c0, c1, c2, c3, c4, c5, c6, c7, c8⟩ := HX4.out w' hw'; go_simp; try with_reducible rfl)
  try simp only [Act.put, List.setIfInBounds_toArray, List.set_cons_zero, List.set_cons_succ]
  refine reg_take (v := ?_) 36 (some 97) rfl rfl (by kernel_rfl) (fun _ _ _ h => h) (by kernel_rfl) ((Same.refl w5).drew) ?_ ?_
  rotate_left
  · (intro w' hw'; obtain ⟨c0, c1, c2, c3, c4, c5, c6, c7, c8⟩ := HX4.out w' hw'; go_simp; try with_reducible rfl)
  try simp only [Act.put, List.setIfInBounds_toArray, List.set_cons_zero, List.set_cons_succ]
  refine reg_take (v := ?_) 37 (some 98) rfl rfl (by kernel_rfl) (fun _ _ _ h => h) (by kernel_rfl) ((Same.refl w5).drew) ?_ ?_
  rotate_left
  · (intro w' hw'; obtain ⟨c0, c1, c2, c3, c4, c5, c6, c7, c8⟩ := HX4.out w' hw'; go_simp; try with_reducible rfl)
  try simp only [Act.put, List.setIfInBounds_toArray, List.set_cons_zero, List.set_cons_succ]
  refine reg_done (by kernel_rfl) ?_
  go_wp2_with fail
  refine (HD _ (HB.out.same (HSw.out.trans (Same.refl w5).drew))).out.mono ?_
  rintro e w6 ⟨rfl, hs6⟩
  have HS6 := Lib.hid ((HSw.out.trans (Same.refl w5).drew).trans hs6)
  have HO1e := Lib.hid (HO1d.out.same ((Same.refl w5).drew.trans hs6))
  clear hs6
  by_cases k8 : D = 8
  · have HDD := HWANT.out
    rw [if_pos k8] at HDD
    rw [HDD] at HD2
    subst k8
    clear HDD HWANT
    go_wp2_with fail
    refine (HD2 _ _ HO1e.out).out.mono ?_
    rintro e w7 ⟨rfl, hs7⟩
    have HS7 := Lib.hid (HS6.out.trans hs7)
    have HO1f := Lib.hid (HO1e.out.same hs7)
    clear hs7
    go_wp2_with fail
    refine (HI _ _ HO1f.out).out.mono ?_
    rintro e w8 ⟨rfl, hs8⟩
    have HS8 := Lib.hid (HS7.out.trans hs8)
    clear hs8
    go_wp2_with fail
    refine (HL _).out.mono ?_
    rintro e w9 ⟨rfl, hs9⟩
    have HS9 := Lib.hid (HS8.out.trans hs9)
    clear hs9
    go_wp2_with fail
    go_ret
    exact ⟨rfl, HS9.out⟩
  · have HDD := HWANT.out
    rw [if_neg k8] at HDD
    rw [HDD] at HD2
    have k9 : ((D : Int) == 8) = false := by simp; omega
    have k10 : (D : Int) ≤ 8 := by omega
    clear HDD HWANT k8 hd8
    go_wp2_with fail
    refine (HD2 _ _ HO1e.out).out.mono ?_
    rintro e w7 ⟨rfl, hs7⟩
    have HS7 := Lib.hid (HS6.out.trans hs7)
    have HO1f := Lib.hid (HO1e.out.same hs7)
    clear hs7
    go_wp2_with fail
    refine (HI _ _ HO1f.out).out.mono ?_
    rintro e w8 ⟨rfl, hs8⟩
    have HS8 := Lib.hid (HS7.out.trans hs8)
    clear hs8
    go_wp2_with fail
    refine (HL _).out.mono ?_
    rintro e w9 ⟨rfl, hs9⟩
    have HS9 := Lib.hid (HS8.out.trans hs9)
    clear hs9
    go_wp2_with fail
    go_ret
    exact ⟨rfl, HS9.out⟩
end Go.Proofs.Yteoleblnhcnpkaa
