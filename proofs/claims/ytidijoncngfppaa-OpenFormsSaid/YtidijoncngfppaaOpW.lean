/- Layer 8: OpenForms' walk over OpenC. No condition beyond what it names. -/
import Derived.Test.YtidijoncngfppaaOpC
import Derived.Test.YtidijoncngfppaaOpRB
import Derived.Test.YtidijoncngfppaaOpRS
namespace Go.Proofs.Ytidijoncngfppaa
open Go.RowKit
set_option linter.unusedVariables false

theorem rHold8_same (a b : Int) (w : World) : Calls Try.prog 17 #[.int .i64 a, .int .i64 b] w fun e w' => e = .returned (.int .i64 (holdN a b)) ∧ Same w w' := (rHold8_any a b w).mono fun _ _ ⟨h, k⟩ => ⟨h, k ▸ Same.refl w⟩

set_option maxRecDepth 100000 in
set_option maxHeartbeats 8000000 in
theorem oforms_walk (C : OpenC) (a b : Oq) (va vb : Value) (code : Int) (w : World) (hp : CapsW 30 w va a.caps) (hq : CapsW 30 w vb b.caps) (hr : identR a) :
    Calls Try.prog 3 #[oqV a va, oqV b vb, .int .i64 code] w fun e w' => e = .returned (.bool true) ∧ Same w w' := by
  have HL := fun w => Lib.hid (op_lives C w)
  have HLa := fun w hp => Lib.hid (light8_any a va w hp)
  have HLb := fun w hp => Lib.hid (light8_any b vb w hp)
  have HGo := fun w hp hl => Lib.hid (C.good a va w hp hl)
  have HBy := fun w hp hl => Lib.hid (C.bytes a va w hp hl hr)
  have HSm := fun w h1 h2 => Lib.hid (C.same a b va vb w h1 h2)
  have HHs := fun w hp => Lib.hid (C.has a va code w hp)
  have HHo := fun w => Lib.hid (C.hold a.hold b.hold w)
  have HRo := fun w => Lib.hid (rHold8_same a.hold b.hold w)
  have HRg := fun v w h => Lib.hid (rGood8_any a v w h)
  have HRb := fun v w h => Lib.hid (rBytes8_any a v w h hr)
  have HRs := fun u v w h1 h2 => Lib.hid (rSame8_any a b u v w h1 h2)
  have HPa := fun w h1 h2 => Lib.hid (plain8_any a va w h1 h2)
  have HPb := fun w h1 h2 => Lib.hid (plain8_any b vb w h1 h2)
  have HAny : Hid (∀ l : List Cp, l = a.caps → a.caps.any (fun c => decide (c.code = code)) = l.any (fun c => decide (c.code = code))) := fun l h => by rw [h]
  obtain ⟨sB, hsB⟩ : ∃ s, (⟨(openB a).toArray⟩ : ByteArray) = s := ⟨_, rfl⟩
  have HSB := Lib.hid hsB
  obtain ⟨n, hn⟩ : ∃ m, a.caps.length = m := ⟨_, rfl⟩
  obtain ⟨n', hn'⟩ : ∃ m, b.caps.length = m := ⟨_, rfl⟩
  obtain ⟨pa, pc, rfl⟩ := hp.form hn
  obtain ⟨pb, pd, rfl⟩ := hq.form hn'
  obtain ⟨xs, hxl, hxn, hxb, hP⟩ := hp.one
  have i0 := hp.cap
  rw [hn] at hP hxn i0
  have HP := Lib.hid hP
  have HXN := Lib.hid hxn
  have HXL := Lib.hid hxl
  have HN := Lib.hid hn
  have HCA := Lib.hid hp
  have HCB := Lib.hid hq
  clear hp hq hn hn' hP hxn hxb hxl hsB hr
  generalize decide (goodO a) = qg at *
  generalize decide (sameO a b) = qs at *
  obtain ⟨p0, p1, p2, p3⟩ := a
  obtain ⟨q0, q1, q2, q3⟩ := b
  simp only at HLa HLb HGo HBy HSm HHs HHo HRo HRg HRb HRs HPa HPb HAny HXL HN HCA HCB
  generalize holdN p1 q1 = nh at *
  have HA := Lib.hid ((Same.alloc w (oqO 25 ⟨p0, p1, p2, p3⟩ (.slice pa n pc))).trans (Same.alloc (w.alloc (oqO 25 ⟨p0, p1, p2, p3⟩ (.slice pa n pc))) (oqO 25 ⟨q0, q1, q2, q3⟩ (.slice pb n' pd))))
  have HX : Hid (∀ w', Same ((w.alloc (oqO 25 ⟨p0, p1, p2, p3⟩ (.slice pa n pc))).alloc (oqO 25 ⟨q0, q1, q2, q3⟩ (.slice pb n' pd))) w' → OqAt w' w.heap.size ⟨p0, p1, p2, p3⟩ (.slice pa n pc) ∧ OqAt w' (w.heap.size + 1) ⟨q0, q1, q2, q3⟩ (.slice pb n' pd)) := fun w' hw => by
    refine ⟨OqAt.of (((Same.alloc _ _).trans hw).block (heap_alloc_new w _)), ?_⟩
    have := OqAt.of (hw.block (heap_alloc_new (w.alloc (oqO 25 ⟨p0, p1, p2, p3⟩ (.slice pa n pc))) (oqO 25 ⟨q0, q1, q2, q3⟩ (.slice pb n' pd))))
    rw [show (w.alloc (oqO 25 ⟨p0, p1, p2, p3⟩ (.slice pa n pc))).heap.size = w.heap.size + 1 from by simp] at this
    exact this
  obtain ⟨⟨z0, z1, z2, z3⟩, y0, y1, y2, y3⟩ := HX.out _ (Same.refl _)
  generalize hW0 : (w.alloc (oqO 25 ⟨p0, p1, p2, p3⟩ (.slice pa n pc))).alloc (oqO 25 ⟨q0, q1, q2, q3⟩ (.slice pb n' pd)) = W0 at HA HX z0 z1 z2 z3 y0 y1 y2 y3
  go_enter Try.func3, Try.ntmps3
  go_wp2_with fail
  clear hW0 z0 z1 z2 z3 y0 y1 y2 y3
  refine (HLa _ (HCA.out.same HA.out)).out.mono ?_
  rintro e w1 ⟨hla, hs1⟩
  have HS1 := Lib.hid hs1
  clear hs1
  rcases hla with rfl | ⟨rfl, hna⟩
  · go_wp2_with fail
    refine (HL _).out.mono ?_
    rintro e w2 ⟨rfl, hs2⟩
    have HS2 := Lib.hid ((HA.out.trans HS1.out).trans hs2)
    clear hs2
    go_wp2_with fail
    go_ret
    exact ⟨rfl, HS2.out⟩
  obtain ⟨⟨z0, z1, z2, z3⟩, y0, y1, y2, y3⟩ := HX.out _ HS1.out
  go_wp2_with fail
  clear z0 z1 z2 z3 y0 y1 y2 y3
  refine (HLb _ (HCB.out.same (HA.out.trans HS1.out))).out.mono ?_
  rintro e W ⟨hlb, hs2⟩
  have HSW := Lib.hid (HS1.out.trans hs2)
  clear hs2
  rcases hlb with rfl | ⟨rfl, hnb⟩
  · go_wp2_with fail
    refine (HL _).out.mono ?_
    rintro e w2 ⟨rfl, hs2⟩
    have HS2 := Lib.hid ((HA.out.trans HSW.out).trans hs2)
    clear hs2
    go_wp2_with fail
    go_ret
    exact ⟨rfl, HS2.out⟩
  have HWW := Lib.hid (HA.out.trans HSW.out)
  have HXW := Lib.hid (fun w' (hs : Same W w') => HX.out w' (HSW.out.trans hs))
  have HNa := Lib.hid hna
  have HNb := Lib.hid hnb
  clear HX HLa HLb HS1 hna hnb
  obtain ⟨⟨z0, z1, z2, z3⟩, y0, y1, y2, y3⟩ := HXW.out _ (Same.refl _)
  go_wp2_with fail
  clear z0 z1 z2 z3 y0 y1 y2 y3
  go_loopw [7, 22] (fun hv i wr => ∃ k : Nat, k ≤ n ∧ i = .int .i64 k ∧ hv = .bool ((p3.take k).any fun c => decide (c.code = code)) ∧ Same W wr) (fun _ i _ => n - (intOf i).toNat)
  case atStart => exact ⟨0, by omega, rfl, by simp, Same.refl W⟩
  case round =>
    obtain ⟨k, hk, rfl, rfl, hsr⟩ := hrel
    have HSR := Lib.hid hsr
    clear hsr
    by_cases h8 : k = n
    · subst h8
      have hany := HAny.out (p3.take k) (List.take_of_length_le (by have := HN.out; omega))
      have HHs := fun w hp => Lib.hid (hany ▸ (HHs w hp).out)
      clear hany HAny
      generalize ((p3.take k).any fun c => decide (c.code = code)) = qh at *
      have HCa : Hid (∀ w', Same wr w' → CapsW 30 w' (.slice pa k pc) p3) := fun w' hs => HCA.out.same (HWW.out.trans (HSR.out.trans hs))
      have HCb : Hid (∀ w', Same wr w' → CapsW 30 w' (.slice pb n' pd) q3) := fun w' hs => HCB.out.same (HWW.out.trans (HSR.out.trans hs))
      have HXr : Hid (∀ w', Same wr w' → OqAt w' w.heap.size ⟨p0, p1, p2, p3⟩ (.slice pa k pc) ∧ OqAt w' (w.heap.size + 1) ⟨q0, q1, q2, q3⟩ (.slice pb n' pd)) := fun w' hs => HXW.out w' (HSR.out.trans hs)
      have HT0 : Hid (Same wr wr.drew) := (Same.refl wr).drew
      go_wp2_with fail
      refine reg_start (fun w' => Same wr.drew w') (by kernel_rfl) ?_
      refine reg_take (v := ?_) 0 (some 34) rfl rfl (by kernel_rfl) (fun _ _ _ h => h) (by kernel_rfl) (Same.refl _) ?_ ?_
      rotate_left
      · (intro w' hw'; obtain ⟨⟨z0, z1, z2, z3⟩, y0, y1, y2, y3⟩ := HXr.out w' (HT0.out.trans hw'); go_simp; try with_reducible rfl)
      try simp only [Act.put, List.setIfInBounds_toArray, List.set_cons_zero, List.set_cons_succ]
      refine reg_take (v := ?_) 2 (some 36) rfl rfl (by kernel_rfl) (fun _ _ _ h => h) (by kernel_rfl) (Same.refl _) ?_ ?_
      rotate_left
      · (intro w' hw'; obtain ⟨⟨z0, z1, z2, z3⟩, y0, y1, y2, y3⟩ := HXr.out w' (HT0.out.trans hw'); go_simp; try with_reducible rfl)
      try simp only [Act.put, List.setIfInBounds_toArray, List.set_cons_zero, List.set_cons_succ]
      refine reg_one 1 rfl (by kernel_rfl) (by kernel_rfl) ?_
      go_simp
      refine ((HGo _ (HCa.out _ HT0.out) HNa.out).out).mono ?_
      rintro e u1 ⟨rfl, hs1⟩
      have HT1 := Lib.hid (HT0.out.trans hs1)
      refine ⟨hs1, reg_more (fun w' => Same u1 w') (fun w' h => hs1.trans h) _ _ _ _ ?_⟩
      try simp only [Act.put, List.setIfInBounds_toArray, List.set_cons_zero, List.set_cons_succ]
      refine reg_one 3 rfl (by kernel_rfl) (by kernel_rfl) ?_
      go_simp
      refine ((HPa _ (HCa.out _ HT1.out) (by have := HNa.out; omega)).out).mono ?_
      rintro e u2 ⟨v2, rfl, hc2, hs2⟩
      have HT2 := Lib.hid (HT1.out.trans hs2)
      have HC2 := Lib.hid hc2
      refine ⟨hs2, reg_more (fun w' => Same u2 w') (fun w' h => hs2.trans h) _ _ _ _ ?_⟩
      try simp only [Act.put, List.setIfInBounds_toArray, List.set_cons_zero, List.set_cons_succ]
      refine reg_one 4 rfl (by kernel_rfl) (by kernel_rfl) ?_
      go_simp
      refine ((HRg _ _ HC2.out).out).mono ?_
      rintro e u3 ⟨rfl, hs3⟩
      have HT3 := Lib.hid (HT2.out.trans hs3)
      refine ⟨hs3, reg_more (fun w' => Same u3 w') (fun w' h => hs3.trans h) _ _ _ _ ?_⟩
      try simp only [Act.put, List.setIfInBounds_toArray, List.set_cons_zero, List.set_cons_succ]
      refine reg_take (v := ?_) 5 (some 39) rfl rfl (by kernel_rfl) (fun _ _ _ h => h) (by kernel_rfl) (Same.refl u3) ?_ ?_
      rotate_left
      · (intro w' hw'; obtain ⟨⟨z0, z1, z2, z3⟩, y0, y1, y2, y3⟩ := HXr.out w' (HT3.out.trans hw'); go_simp; try with_reducible rfl)
      try simp only [Act.put, List.setIfInBounds_toArray, List.set_cons_zero, List.set_cons_succ]
      refine reg_take (v := ?_) 6 (some 40) rfl rfl (by kernel_rfl) (fun _ _ _ h => h) (by kernel_rfl) (Same.refl u3) ?_ ?_
      rotate_left
      · (intro w' hw'; obtain ⟨⟨z0, z1, z2, z3⟩, y0, y1, y2, y3⟩ := HXr.out w' (HT3.out.trans hw'); go_simp; try with_reducible rfl)
      try simp only [Act.put, List.setIfInBounds_toArray, List.set_cons_zero, List.set_cons_succ]
      refine reg_take (v := ?_) 7 (some 41) rfl rfl (by kernel_rfl) (fun _ _ _ h => h) (by kernel_rfl) (Same.refl u3) ?_ ?_
      rotate_left
      · (intro w' hw'; obtain ⟨⟨z0, z1, z2, z3⟩, y0, y1, y2, y3⟩ := HXr.out w' (HT3.out.trans hw'); go_simp; try with_reducible rfl)
      try simp only [Act.put, List.setIfInBounds_toArray, List.set_cons_zero, List.set_cons_succ]
      refine reg_take (v := ?_) 10 (some 44) rfl rfl (by kernel_rfl) (fun _ _ _ h => h) (by kernel_rfl) (Same.refl u3) ?_ ?_
      rotate_left
      · (intro w' hw'; obtain ⟨⟨z0, z1, z2, z3⟩, y0, y1, y2, y3⟩ := HXr.out w' (HT3.out.trans hw'); go_simp; try with_reducible rfl)
      try simp only [Act.put, List.setIfInBounds_toArray, List.set_cons_zero, List.set_cons_succ]
      refine reg_one 8 rfl (by kernel_rfl) (by kernel_rfl) ?_
      go_simp
      refine ((HBy _ (HCa.out _ HT3.out) HNa.out).out).mono ?_
      rintro e u4 ⟨v4, rfl, hb4, hs4⟩
      have HT4 := Lib.hid (HT3.out.trans hs4)
      have HY4 := fun w' (h : Same u4 w') => Lib.hid (HSB.out ▸ run_str w' _ _ (hb4.same h))
      refine ⟨hs4, reg_more (fun w' => Same u4 w') (fun w' h => hs4.trans h) _ _ _ _ ?_⟩
      try simp only [Act.put, List.setIfInBounds_toArray, List.set_cons_zero, List.set_cons_succ]
      refine reg_take (v := ?_) 9 (some 43) rfl rfl (by kernel_rfl) (fun _ _ _ h => h) (by kernel_rfl) (Same.refl u4) ?_ ?_
      rotate_left
      · (intro w' hw'; have hr := (HY4 w' hw').out; go_simp; try with_reducible rfl)
      try simp only [Act.put, List.setIfInBounds_toArray, List.set_cons_zero, List.set_cons_succ]
      refine reg_one 11 rfl (by kernel_rfl) (by kernel_rfl) ?_
      go_simp
      refine ((HPa _ (HCa.out _ HT4.out) (by have := HNa.out; omega)).out).mono ?_
      rintro e u5 ⟨v5, rfl, hc5, hs5⟩
      have HT5 := Lib.hid (HT4.out.trans hs5)
      have HC5 := Lib.hid hc5
      refine ⟨hs5, reg_more (fun w' => Same u5 w') (fun w' h => hs5.trans h) _ _ _ _ ?_⟩
      try simp only [Act.put, List.setIfInBounds_toArray, List.set_cons_zero, List.set_cons_succ]
      refine reg_one 12 rfl (by kernel_rfl) (by kernel_rfl) ?_
      go_simp
      refine ((HRb _ _ HC5.out).out).mono ?_
      rintro e u6 ⟨v6, rfl, hb6, hs6⟩
      have HT6 := Lib.hid (HT5.out.trans hs6)
      have HY6 := fun w' (h : Same u6 w') => Lib.hid (HSB.out ▸ run_str w' _ _ (hb6.same h))
      refine ⟨hs6, reg_more (fun w' => Same u6 w') (fun w' h => hs6.trans h) _ _ _ _ ?_⟩
      try simp only [Act.put, List.setIfInBounds_toArray, List.set_cons_zero, List.set_cons_succ]
      refine reg_take (v := ?_) 13 (some 47) rfl rfl (by kernel_rfl) (fun _ _ _ h => h) (by kernel_rfl) (Same.refl u6) ?_ ?_
      rotate_left
      · (intro w' hw'; have hr := (HY6 w' hw').out; go_simp; try with_reducible rfl)
      try simp only [Act.put, List.setIfInBounds_toArray, List.set_cons_zero, List.set_cons_succ]
      refine reg_take (v := ?_) 14 (some 48) rfl rfl (by kernel_rfl) (fun _ _ _ h => h) (by kernel_rfl) (Same.refl u6) ?_ ?_
      rotate_left
      · (intro w' hw'; obtain ⟨⟨z0, z1, z2, z3⟩, y0, y1, y2, y3⟩ := HXr.out w' (HT6.out.trans hw'); go_simp; try with_reducible rfl)
      try simp only [Act.put, List.setIfInBounds_toArray, List.set_cons_zero, List.set_cons_succ]
      refine reg_take (v := ?_) 15 (some 49) rfl rfl (by kernel_rfl) (fun _ _ _ h => h) (by kernel_rfl) (Same.refl u6) ?_ ?_
      rotate_left
      · (intro w' hw'; obtain ⟨⟨z0, z1, z2, z3⟩, y0, y1, y2, y3⟩ := HXr.out w' (HT6.out.trans hw'); go_simp; try with_reducible rfl)
      try simp only [Act.put, List.setIfInBounds_toArray, List.set_cons_zero, List.set_cons_succ]
      refine reg_take (v := ?_) 16 (some 50) rfl rfl (by kernel_rfl) (fun _ _ _ h => h) (by kernel_rfl) (Same.refl u6) ?_ ?_
      rotate_left
      · (intro w' hw'; obtain ⟨⟨z0, z1, z2, z3⟩, y0, y1, y2, y3⟩ := HXr.out w' (HT6.out.trans hw'); go_simp; try with_reducible rfl)
      try simp only [Act.put, List.setIfInBounds_toArray, List.set_cons_zero, List.set_cons_succ]
      refine reg_take (v := ?_) 17 (some 51) rfl rfl (by kernel_rfl) (fun _ _ _ h => h) (by kernel_rfl) (Same.refl u6) ?_ ?_
      rotate_left
      · (intro w' hw'; obtain ⟨⟨z0, z1, z2, z3⟩, y0, y1, y2, y3⟩ := HXr.out w' (HT6.out.trans hw'); go_simp; try with_reducible rfl)
      try simp only [Act.put, List.setIfInBounds_toArray, List.set_cons_zero, List.set_cons_succ]
      refine reg_take (v := ?_) 18 (some 52) rfl rfl (by kernel_rfl) (fun _ _ _ h => h) (by kernel_rfl) (Same.refl u6) ?_ ?_
      rotate_left
      · (intro w' hw'; obtain ⟨⟨z0, z1, z2, z3⟩, y0, y1, y2, y3⟩ := HXr.out w' (HT6.out.trans hw'); go_simp; try with_reducible rfl)
      try simp only [Act.put, List.setIfInBounds_toArray, List.set_cons_zero, List.set_cons_succ]
      refine reg_take (v := ?_) 20 (some 54) rfl rfl (by kernel_rfl) (fun _ _ _ h => h) (by kernel_rfl) (Same.refl u6) ?_ ?_
      rotate_left
      · (intro w' hw'; obtain ⟨⟨z0, z1, z2, z3⟩, y0, y1, y2, y3⟩ := HXr.out w' (HT6.out.trans hw'); go_simp; try with_reducible rfl)
      try simp only [Act.put, List.setIfInBounds_toArray, List.set_cons_zero, List.set_cons_succ]
      refine reg_take (v := ?_) 22 (some 56) rfl rfl (by kernel_rfl) (fun _ _ _ h => h) (by kernel_rfl) (Same.refl u6) ?_ ?_
      rotate_left
      · (intro w' hw'; obtain ⟨⟨z0, z1, z2, z3⟩, y0, y1, y2, y3⟩ := HXr.out w' (HT6.out.trans hw'); go_simp; try with_reducible rfl)
      try simp only [Act.put, List.setIfInBounds_toArray, List.set_cons_zero, List.set_cons_succ]
      refine reg_one 19 rfl (by kernel_rfl) (by kernel_rfl) ?_
      go_simp
      refine ((HSm _ (HCa.out _ HT6.out) (HCb.out _ HT6.out)).out).mono ?_
      rintro e u7 ⟨rfl, hs7⟩
      have HT7 := Lib.hid (HT6.out.trans hs7)
      refine ⟨hs7, reg_more (fun w' => Same u7 w') (fun w' h => hs7.trans h) _ _ _ _ ?_⟩
      try simp only [Act.put, List.setIfInBounds_toArray, List.set_cons_zero, List.set_cons_succ]
      refine reg_one 21 rfl (by kernel_rfl) (by kernel_rfl) ?_
      go_simp
      refine ((HPa _ (HCa.out _ HT7.out) (by have := HNa.out; omega)).out).mono ?_
      rintro e u8 ⟨v8, rfl, hc8, hs8⟩
      have HT8 := Lib.hid (HT7.out.trans hs8)
      have HC8 := Lib.hid hc8
      refine ⟨hs8, reg_more (fun w' => Same u8 w') (fun w' h => hs8.trans h) _ _ _ _ ?_⟩
      try simp only [Act.put, List.setIfInBounds_toArray, List.set_cons_zero, List.set_cons_succ]
      refine reg_one 23 rfl (by kernel_rfl) (by kernel_rfl) ?_
      go_simp
      refine ((HPb _ (HCb.out _ HT8.out) (by have := HNb.out; omega)).out).mono ?_
      rintro e u9 ⟨v9, rfl, hc9, hs9⟩
      have HT9 := Lib.hid (HT8.out.trans hs9)
      have HC9 := Lib.hid hc9
      have HC8a := Lib.hid (HC8.out.same hs9)
      refine ⟨hs9, reg_more (fun w' => Same u9 w') (fun w' h => hs9.trans h) _ _ _ _ ?_⟩
      try simp only [Act.put, List.setIfInBounds_toArray, List.set_cons_zero, List.set_cons_succ]
      refine reg_one 24 rfl (by kernel_rfl) (by kernel_rfl) ?_
      go_simp
      refine ((HRs _ _ _ HC8a.out HC9.out).out).mono ?_
      rintro e u10 ⟨rfl, hs10⟩
      have HT10 := Lib.hid (HT9.out.trans hs10)
      refine ⟨hs10, reg_more (fun w' => Same u10 w') (fun w' h => hs10.trans h) _ _ _ _ ?_⟩
      try simp only [Act.put, List.setIfInBounds_toArray, List.set_cons_zero, List.set_cons_succ]
      refine reg_take (v := ?_) 25 (some 59) rfl rfl (by kernel_rfl) (fun _ _ _ h => h) (by kernel_rfl) (Same.refl u10) ?_ ?_
      rotate_left
      · (intro w' hw'; obtain ⟨⟨z0, z1, z2, z3⟩, y0, y1, y2, y3⟩ := HXr.out w' (HT10.out.trans hw'); go_simp; try with_reducible rfl)
      try simp only [Act.put, List.setIfInBounds_toArray, List.set_cons_zero, List.set_cons_succ]
      refine reg_take (v := ?_) 26 (some 60) rfl rfl (by kernel_rfl) (fun _ _ _ h => h) (by kernel_rfl) (Same.refl u10) ?_ ?_
      rotate_left
      · (intro w' hw'; obtain ⟨⟨z0, z1, z2, z3⟩, y0, y1, y2, y3⟩ := HXr.out w' (HT10.out.trans hw'); go_simp; try with_reducible rfl)
      try simp only [Act.put, List.setIfInBounds_toArray, List.set_cons_zero, List.set_cons_succ]
      refine reg_take (v := ?_) 27 (some 61) rfl rfl (by kernel_rfl) (fun _ _ _ h => h) (by kernel_rfl) (Same.refl u10) ?_ ?_
      rotate_left
      · (intro w' hw'; obtain ⟨⟨z0, z1, z2, z3⟩, y0, y1, y2, y3⟩ := HXr.out w' (HT10.out.trans hw'); go_simp; try with_reducible rfl)
      try simp only [Act.put, List.setIfInBounds_toArray, List.set_cons_zero, List.set_cons_succ]
      refine reg_take (v := ?_) 28 (some 62) rfl rfl (by kernel_rfl) (fun _ _ _ h => h) (by kernel_rfl) (Same.refl u10) ?_ ?_
      rotate_left
      · (intro w' hw'; obtain ⟨⟨z0, z1, z2, z3⟩, y0, y1, y2, y3⟩ := HXr.out w' (HT10.out.trans hw'); go_simp; try with_reducible rfl)
      try simp only [Act.put, List.setIfInBounds_toArray, List.set_cons_zero, List.set_cons_succ]
      refine reg_take (v := ?_) 29 (some 63) rfl rfl (by kernel_rfl) (fun _ _ _ h => h) (by kernel_rfl) (Same.refl u10) ?_ ?_
      rotate_left
      · (intro w' hw'; obtain ⟨⟨z0, z1, z2, z3⟩, y0, y1, y2, y3⟩ := HXr.out w' (HT10.out.trans hw'); go_simp; try with_reducible rfl)
      try simp only [Act.put, List.setIfInBounds_toArray, List.set_cons_zero, List.set_cons_succ]
      refine reg_take (v := ?_) 31 (some 65) rfl rfl (by kernel_rfl) (fun _ _ _ h => h) (by kernel_rfl) (Same.refl u10) ?_ ?_
      rotate_left
      · (intro w' hw'; obtain ⟨⟨z0, z1, z2, z3⟩, y0, y1, y2, y3⟩ := HXr.out w' (HT10.out.trans hw'); go_simp; try with_reducible rfl)
      try simp only [Act.put, List.setIfInBounds_toArray, List.set_cons_zero, List.set_cons_succ]
      refine reg_one 30 rfl (by kernel_rfl) (by kernel_rfl) ?_
      go_simp
      refine ((HHs _ (HCa.out _ HT10.out)).out).mono ?_
      rintro e u11 ⟨rfl, hs11⟩
      have HT11 := Lib.hid (HT10.out.trans hs11)
      refine ⟨hs11, reg_more (fun w' => Same u11 w') (fun w' h => hs11.trans h) _ _ _ _ ?_⟩
      try simp only [Act.put, List.setIfInBounds_toArray, List.set_cons_zero, List.set_cons_succ]
      refine reg_take (v := ?_) 32 (some 66) rfl rfl (by kernel_rfl) (fun _ _ _ h => h) (by kernel_rfl) (Same.refl u11) ?_ ?_
      rotate_left
      · (intro w' hw'; obtain ⟨⟨z0, z1, z2, z3⟩, y0, y1, y2, y3⟩ := HXr.out w' (HT11.out.trans hw'); go_simp; try with_reducible rfl)
      try simp only [Act.put, List.setIfInBounds_toArray, List.set_cons_zero, List.set_cons_succ]
      refine reg_take (v := ?_) 33 (some 67) rfl rfl (by kernel_rfl) (fun _ _ _ h => h) (by kernel_rfl) (Same.refl u11) ?_ ?_
      rotate_left
      · (intro w' hw'; obtain ⟨⟨z0, z1, z2, z3⟩, y0, y1, y2, y3⟩ := HXr.out w' (HT11.out.trans hw'); go_simp; try with_reducible rfl)
      try simp only [Act.put, List.setIfInBounds_toArray, List.set_cons_zero, List.set_cons_succ]
      refine reg_take (v := ?_) 34 (some 68) rfl rfl (by kernel_rfl) (fun _ _ _ h => h) (by kernel_rfl) (Same.refl u11) ?_ ?_
      rotate_left
      · (intro w' hw'; obtain ⟨⟨z0, z1, z2, z3⟩, y0, y1, y2, y3⟩ := HXr.out w' (HT11.out.trans hw'); go_simp; try with_reducible rfl)
      try simp only [Act.put, List.setIfInBounds_toArray, List.set_cons_zero, List.set_cons_succ]
      refine reg_take (v := ?_) 35 (some 69) rfl rfl (by kernel_rfl) (fun _ _ _ h => h) (by kernel_rfl) (Same.refl u11) ?_ ?_
      rotate_left
      · (intro w' hw'; obtain ⟨⟨z0, z1, z2, z3⟩, y0, y1, y2, y3⟩ := HXr.out w' (HT11.out.trans hw'); go_simp; try with_reducible rfl)
      try simp only [Act.put, List.setIfInBounds_toArray, List.set_cons_zero, List.set_cons_succ]
      refine reg_take (v := ?_) 36 (some 70) rfl rfl (by kernel_rfl) (fun _ _ _ h => h) (by kernel_rfl) (Same.refl u11) ?_ ?_
      rotate_left
      · (intro w' hw'; obtain ⟨⟨z0, z1, z2, z3⟩, y0, y1, y2, y3⟩ := HXr.out w' (HT11.out.trans hw'); go_simp; try with_reducible rfl)
      try simp only [Act.put, List.setIfInBounds_toArray, List.set_cons_zero, List.set_cons_succ]
      refine reg_take (v := ?_) 37 (some 71) rfl rfl (by kernel_rfl) (fun _ _ _ h => h) (by kernel_rfl) (Same.refl u11) ?_ ?_
      rotate_left
      · (intro w' hw'; obtain ⟨⟨z0, z1, z2, z3⟩, y0, y1, y2, y3⟩ := HXr.out w' (HT11.out.trans hw'); go_simp; try with_reducible rfl)
      try simp only [Act.put, List.setIfInBounds_toArray, List.set_cons_zero, List.set_cons_succ]
      refine reg_take (v := ?_) 38 (some 72) rfl rfl (by kernel_rfl) (fun _ _ _ h => h) (by kernel_rfl) (Same.refl u11) ?_ ?_
      rotate_left
      · (intro w' hw'; obtain ⟨⟨z0, z1, z2, z3⟩, y0, y1, y2, y3⟩ := HXr.out w' (HT11.out.trans hw'); go_simp; try with_reducible rfl)
      try simp only [Act.put, List.setIfInBounds_toArray, List.set_cons_zero, List.set_cons_succ]
      refine reg_take (v := ?_) 40 (some 74) rfl rfl (by kernel_rfl) (fun _ _ _ h => h) (by kernel_rfl) (Same.refl u11) ?_ ?_
      rotate_left
      · (intro w' hw'; obtain ⟨⟨z0, z1, z2, z3⟩, y0, y1, y2, y3⟩ := HXr.out w' (HT11.out.trans hw'); go_simp; try with_reducible rfl)
      try simp only [Act.put, List.setIfInBounds_toArray, List.set_cons_zero, List.set_cons_succ]
      refine reg_take (v := ?_) 41 (some 75) rfl rfl (by kernel_rfl) (fun _ _ _ h => h) (by kernel_rfl) (Same.refl u11) ?_ ?_
      rotate_left
      · (intro w' hw'; obtain ⟨⟨z0, z1, z2, z3⟩, y0, y1, y2, y3⟩ := HXr.out w' (HT11.out.trans hw'); go_simp; try with_reducible rfl)
      try simp only [Act.put, List.setIfInBounds_toArray, List.set_cons_zero, List.set_cons_succ]
      refine reg_take (v := ?_) 42 (some 76) rfl rfl (by kernel_rfl) (fun _ _ _ h => h) (by kernel_rfl) (Same.refl u11) ?_ ?_
      rotate_left
      · (intro w' hw'; obtain ⟨⟨z0, z1, z2, z3⟩, y0, y1, y2, y3⟩ := HXr.out w' (HT11.out.trans hw'); go_simp; try with_reducible rfl)
      try simp only [Act.put, List.setIfInBounds_toArray, List.set_cons_zero, List.set_cons_succ]
      refine reg_take (v := ?_) 43 (some 77) rfl rfl (by kernel_rfl) (fun _ _ _ h => h) (by kernel_rfl) (Same.refl u11) ?_ ?_
      rotate_left
      · (intro w' hw'; obtain ⟨⟨z0, z1, z2, z3⟩, y0, y1, y2, y3⟩ := HXr.out w' (HT11.out.trans hw'); go_simp; try with_reducible rfl)
      try simp only [Act.put, List.setIfInBounds_toArray, List.set_cons_zero, List.set_cons_succ]
      refine reg_one 39 rfl (by kernel_rfl) (by kernel_rfl) ?_
      go_simp
      refine ((HHo _).out).mono ?_
      rintro e u12 ⟨rfl, hs12⟩
      have HT12 := Lib.hid (HT11.out.trans hs12)
      refine ⟨hs12, reg_more (fun w' => Same u12 w') (fun w' h => hs12.trans h) _ _ _ _ ?_⟩
      try simp only [Act.put, List.setIfInBounds_toArray, List.set_cons_zero, List.set_cons_succ]
      refine reg_one 44 rfl (by kernel_rfl) (by kernel_rfl) ?_
      go_simp
      refine ((HRo _).out).mono ?_
      rintro e u13 ⟨rfl, hs13⟩
      have HT13 := Lib.hid (HT12.out.trans hs13)
      refine ⟨hs13, reg_more (fun w' => Same u13 w') (fun w' h => hs13.trans h) _ _ _ _ ?_⟩
      try simp only [Act.put, List.setIfInBounds_toArray, List.set_cons_zero, List.set_cons_succ]
      refine reg_take (v := ?_) 45 (some 79) rfl rfl (by kernel_rfl) (fun _ _ _ h => h) (by kernel_rfl) (Same.refl u13) ?_ ?_
      rotate_left
      · (intro w' hw'; obtain ⟨⟨z0, z1, z2, z3⟩, y0, y1, y2, y3⟩ := HXr.out w' (HT13.out.trans hw'); go_simp; try with_reducible rfl)
      try simp only [Act.put, List.setIfInBounds_toArray, List.set_cons_zero, List.set_cons_succ]
      refine reg_take (v := ?_) 46 (some 80) rfl rfl (by kernel_rfl) (fun _ _ _ h => h) (by kernel_rfl) (Same.refl u13) ?_ ?_
      rotate_left
      · (intro w' hw'; obtain ⟨⟨z0, z1, z2, z3⟩, y0, y1, y2, y3⟩ := HXr.out w' (HT13.out.trans hw'); go_simp; try with_reducible rfl)
      try simp only [Act.put, List.setIfInBounds_toArray, List.set_cons_zero, List.set_cons_succ]
      refine reg_take (v := ?_) 47 (some 81) rfl rfl (by kernel_rfl) (fun _ _ _ h => h) (by kernel_rfl) (Same.refl u13) ?_ ?_
      rotate_left
      · (intro w' hw'; obtain ⟨⟨z0, z1, z2, z3⟩, y0, y1, y2, y3⟩ := HXr.out w' (HT13.out.trans hw'); go_simp; try with_reducible rfl)
      try simp only [Act.put, List.setIfInBounds_toArray, List.set_cons_zero, List.set_cons_succ]
      refine reg_one 48 rfl (by kernel_rfl) (by kernel_rfl) ?_
      go_simp
      refine ((HL _).out).mono ?_
      rintro e u14 ⟨rfl, hs14⟩
      have HT14 := Lib.hid (HT13.out.trans hs14)
      refine ⟨hs14, reg_more (fun w' => Same u14 w') (fun w' h => hs14.trans h) _ _ _ _ ?_⟩
      try simp only [Act.put, List.setIfInBounds_toArray, List.set_cons_zero, List.set_cons_succ]
      refine reg_take (v := ?_) 49 (some 83) rfl rfl (by kernel_rfl) (fun _ _ _ h => h) (by kernel_rfl) (Same.refl u14) ?_ ?_
      rotate_left
      · (intro w' hw'; obtain ⟨⟨z0, z1, z2, z3⟩, y0, y1, y2, y3⟩ := HXr.out w' (HT14.out.trans hw'); go_simp; try with_reducible rfl)
      try simp only [Act.put, List.setIfInBounds_toArray, List.set_cons_zero, List.set_cons_succ]
      refine reg_take (v := ?_) 50 (some 6) rfl rfl (by kernel_rfl) (fun _ _ _ h => h) (by kernel_rfl) (Same.refl u14) ?_ ?_
      rotate_left
      · (intro w' hw'; obtain ⟨⟨z0, z1, z2, z3⟩, y0, y1, y2, y3⟩ := HXr.out w' (HT14.out.trans hw'); go_simp; try with_reducible rfl)
      try simp only [Act.put, List.setIfInBounds_toArray, List.set_cons_zero, List.set_cons_succ]
      refine reg_done (by kernel_rfl) ?_
      go_wp2_with fail
      go_ret
      exact ⟨rfl, HWW.out.trans (HSR.out.trans HT14.out)⟩
    · have hk8 : (k : Int) < n := by omega
      have hkx : k < xs.length := by have := HXN.out; omega
      obtain ⟨b', o1, cap, e1, HC1⟩ := HP.out (by omega)
      cases e1
      obtain ⟨x, hx⟩ : ∃ x, xs[k]? = some x := ⟨_, List.getElem?_eq_getElem hkx⟩
      obtain ⟨x0, x1⟩ := HC1 wr (HWW.out.trans HSR.out) k x hx
      have hlx : p3[k]? = some x.1 := by rw [← HXL.out, List.getElem?_map, hx]; rfl
      obtain ⟨⟨cd, vl⟩, ⟨so, sc⟩⟩ := x
      dsimp only [cvV] at x0 x1 hlx
      have HTK : Hid ((p3.take (k + 1)).any (fun c => decide (c.code = code)) = ((p3.take k).any (fun c => decide (c.code = code)) || decide (cd = code))) := by
        show _ = _
        rw [List.take_add_one, hlx, List.any_append]
        simp
      generalize ((p3.take k).any fun c => decide (c.code = code)) = qh at *
      clear h8 hkx HP hx HC1 hlx HAny
      cases qh
      · go_wp2_with fail
        exact ⟨⟨k + 1, by omega, rfl, by rw [HTK.out, Bool.false_or]; rfl, HSR.out.trans (Same.alloc _ _)⟩, by simp [intOf]; omega⟩
      · go_wp2_with fail
        exact ⟨⟨k + 1, by omega, rfl, by rw [HTK.out]; rfl, HSR.out.trans (Same.alloc _ _)⟩, by simp [intOf]; omega⟩
end Go.Proofs.Ytidijoncngfppaa
