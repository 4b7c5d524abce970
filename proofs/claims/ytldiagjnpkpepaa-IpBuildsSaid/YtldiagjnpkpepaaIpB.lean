/- The walk of IpBuilds. No condition beyond what each names. -/
import Derived.Test.YtldiagjnpkpepaaIpL
namespace Go.Proofs.Ytldiagjnpkpepaa
open Go.RowKit
set_option linter.unusedVariables false

set_option maxRecDepth 100000 in
theorem builds_long (h g : Hd) (p : List UInt8) (vo vp v : Value) (w : World) (hb : Bs w vo h.opts) (hc : Bs w vp g.opts) (hp : Bs w v p)
    (hl : 12000 < (p.length : Int) ∨ (¬ 12000 < (p.length : Int) ∧ 300 < (h.opts.length : Int)) ∨ (¬ 12000 < (p.length : Int) ∧ ¬ 300 < (h.opts.length : Int) ∧ 300 < (g.opts.length : Int))) :
    Calls Try.prog 4 #[hdV h vo, hdV g vp, v] w fun e w' => e = .returned (.bool true) ∧ Same w w' := by
  obtain ⟨a0, a1, a2, a3, a4, a5, a6, a7, a8⟩ := h
  obtain ⟨b0, b1, b2, b3, b4, b5, b6, b7, b8⟩ := g
  obtain ⟨ao, cap, rfl, -, -, -, -⟩ := hb
  obtain ⟨ap, caq, rfl, -, -, -, -⟩ := hc
  obtain ⟨aq, car, rfl, -, -, -, -⟩ := hp
  have H0 : Hid (Same w ((w.alloc (hdO 31 ⟨a0, a1, a2, a3, a4, a5, a6, a7, a8⟩ (.slice ao a8.length cap))).alloc (hdO 31 ⟨b0, b1, b2, b3, b4, b5, b6, b7, b8⟩ (.slice ap b8.length caq)))) := (Same.alloc w _).trans (Same.alloc _ _)
  rcases hl with k1 | ⟨k1, k2⟩ | ⟨k1, k2, k3⟩
  iterate 3
    · go_enter Try.func4, Try.ntmps4
      go_wp2_with fail
      refine (ip_lives _).mono ?_
      rintro e w1 ⟨rfl, hs⟩
      have HS := Lib.hid (H0.out.trans hs)
      clear hs
      go_wp2_with fail
      go_ret
      exact ⟨rfl, HS.out⟩

set_option maxRecDepth 100000 in
set_option maxHeartbeats 4000000 in
theorem builds_walk (h g : Hd) (hr : HdR h) (gr : HdR g) (p : List UInt8) (vo vp v : Value) (w : World) (hb : Bs w vo h.opts) (hc : Bs w vp g.opts) (hp : Bs w v p)
    (k1 : ¬ 12000 < (p.length : Int)) (k2 : ¬ 300 < (h.opts.length : Int)) (k3 : ¬ 300 < (g.opts.length : Int)) :
    Calls Try.prog 4 #[hdV h vo, hdV g vp, v] w fun e w' => e = .returned (.bool true) ∧ Same w w' := by
  have HG1 := fun ao cap w => Lib.hid (ipGood_any h ao cap w)
  have HG2 := fun ao cap w => Lib.hid (riGood_any h ao cap w)
  have HB1 := fun vo v w hb hp => Lib.hid (ipBuild_any h hr p vo v w hb hp (by omega) (by omega))
  have HB2 := fun vo v w hb hp => Lib.hid (riBuild_any h hr p vo v w hb hp)
  have HM1 := fun vo vp w hb hc => Lib.hid (ipSame_any h g hr gr vo vp w hb hc)
  have HM2 := fun vo vp w hb hc => Lib.hid (riSame_any h g vo vp w hb hc)
  have HP1 := fun ao n cap w => Lib.hid (riPlain_any h ao n cap w)
  have HP2 := fun ao n cap w => Lib.hid (riPlain_any g ao n cap w)
  have HL := fun w => Lib.hid (ip_lives w)
  have HBh := Lib.hid hb
  have HBg := Lib.hid hc
  have HBp := Lib.hid hp
  generalize decide (goodH h) = q1 at *
  generalize buildB h p = L at *
  generalize sameH h g = q2 at *
  obtain ⟨a0, a1, a2, a3, a4, a5, a6, a7, a8⟩ := h
  obtain ⟨b0, b1, b2, b3, b4, b5, b6, b7, b8⟩ := g
  obtain ⟨ao, cap, rfl, -, -, -, -⟩ := hb
  obtain ⟨ap, caq, rfl, -, -, -, -⟩ := hc
  obtain ⟨aq, car, rfl, -, -, -, -⟩ := hp
  obtain ⟨W0, hW⟩ : ∃ W0, W0 = (w.alloc (hdO 31 ⟨a0, a1, a2, a3, a4, a5, a6, a7, a8⟩ (.slice ao a8.length cap))).alloc (hdO 31 ⟨b0, b1, b2, b3, b4, b5, b6, b7, b8⟩ (.slice ap b8.length caq)) := ⟨_, rfl⟩
  have H0 : Hid (Same w W0) := by rw [hW]; exact (Same.alloc w _).trans (Same.alloc _ _)
  have HX : Hid (∀ w', Same W0 w' → HdAt w' w.heap.size ⟨a0, a1, a2, a3, a4, a5, a6, a7, a8⟩ (.slice ao a8.length cap)) := by
    rw [hW]; exact fun w' hs => hd_box 31 _ _ w w' ((Same.alloc _ _).trans hs)
  have HY : Hid (∀ w', Same W0 w' → HdAt w' (w.heap.size + 1) ⟨b0, b1, b2, b3, b4, b5, b6, b7, b8⟩ (.slice ap b8.length caq)) := by
    rw [hW]; intro w' hs
    have := hd_box 31 ⟨b0, b1, b2, b3, b4, b5, b6, b7, b8⟩ (.slice ap b8.length caq) _ w' hs
    simpa using this
  have HBs : Hid (∀ w', Same W0 w' → Bs w' (.slice ao a8.length cap) a8) := fun w' hw => HBh.out.same (H0.out.trans hw)
  have HCs : Hid (∀ w', Same W0 w' → Bs w' (.slice ap b8.length caq) b8) := fun w' hw => HBg.out.same (H0.out.trans hw)
  have HDs : Hid (∀ w', Same W0 w' → Bs w' (.slice aq p.length car) p) := fun w' hw => HBp.out.same (H0.out.trans hw)
  go_enter Try.func4, Try.ntmps4
  go_wp2_with fail
  rw [← hW]
  clear hW
  refine reg_start (fun w' => Same W0.drew w') (by kernel_rfl) ?_
  refine reg_take (v := ?_) 0 (some 23) rfl rfl (by kernel_rfl) (fun _ _ _ h => h) (by kernel_rfl) (Same.refl W0.drew) ?_ ?_
  rotate_left
  · (intro w' hw'; obtain ⟨c0, c1, c2, c3, c4, c5, c6, c7, c8⟩ := HX.out w' ((Same.refl W0).drew.trans hw'); obtain ⟨d0, d1, d2, d3, d4, d5, d6, d7, d8⟩ := HY.out w' ((Same.refl W0).drew.trans hw'); go_simp; try with_reducible rfl)
  try simp only [Act.put, List.setIfInBounds_toArray, List.set_cons_zero, List.set_cons_succ]
  refine reg_take (v := ?_) 2 (some 25) rfl rfl (by kernel_rfl) (fun _ _ _ h => h) (by kernel_rfl) (Same.refl W0.drew) ?_ ?_
  rotate_left
  · (intro w' hw'; obtain ⟨c0, c1, c2, c3, c4, c5, c6, c7, c8⟩ := HX.out w' ((Same.refl W0).drew.trans hw'); obtain ⟨d0, d1, d2, d3, d4, d5, d6, d7, d8⟩ := HY.out w' ((Same.refl W0).drew.trans hw'); go_simp; try with_reducible rfl)
  try simp only [Act.put, List.setIfInBounds_toArray, List.set_cons_zero, List.set_cons_succ]
  refine reg_one 1 rfl (by kernel_rfl) (by kernel_rfl) ?_
  go_simp
  refine ((HG1 _ _ _).out).mono ?_
  rintro e u1 ⟨rfl, hs1⟩
  have HS1 : Hid (Same W0 u1) := (Same.refl W0).drew.trans hs1
  refine ⟨hs1, reg_more (fun w' => Same u1 w') (fun w' h => hs1.trans h) _ _ _ _ ?_⟩
  try simp only [Act.put, List.setIfInBounds_toArray, List.set_cons_zero, List.set_cons_succ]
  refine reg_one 3 rfl (by kernel_rfl) (by kernel_rfl) ?_
  go_simp
  refine ((HP1 _ _ _ _).out).mono ?_
  rintro e u2 ⟨rfl, hs2⟩
  have HS2 := Lib.hid (HS1.out.trans hs2)
  refine ⟨hs2, reg_more (fun w' => Same u2 w') (fun w' h => hs2.trans h) _ _ _ _ ?_⟩
  try simp only [Act.put, List.setIfInBounds_toArray, List.set_cons_zero, List.set_cons_succ]
  refine reg_one 4 rfl (by kernel_rfl) (by kernel_rfl) ?_
  go_simp
  refine ((HG2 _ _ _).out).mono ?_
  rintro e u3 ⟨rfl, hs3⟩
  have HS3 := Lib.hid (HS2.out.trans hs3)
  refine ⟨hs3, reg_more (fun w' => Same u3 w') (fun w' h => hs3.trans h) _ _ _ _ ?_⟩
  try simp only [Act.put, List.setIfInBounds_toArray, List.set_cons_zero, List.set_cons_succ]
  refine reg_take (v := ?_) 5 (some 28) rfl rfl (by kernel_rfl) (fun _ _ _ h => h) (by kernel_rfl) (Same.refl u3) ?_ ?_
  rotate_left
  · (intro w' hw'; obtain ⟨c0, c1, c2, c3, c4, c5, c6, c7, c8⟩ := HX.out w' (HS3.out.trans hw'); obtain ⟨d0, d1, d2, d3, d4, d5, d6, d7, d8⟩ := HY.out w' (HS3.out.trans hw'); go_simp; try with_reducible rfl)
  try simp only [Act.put, List.setIfInBounds_toArray, List.set_cons_zero, List.set_cons_succ]
  refine reg_take (v := ?_) 6 (some 29) rfl rfl (by kernel_rfl) (fun _ _ _ h => h) (by kernel_rfl) (Same.refl u3) ?_ ?_
  rotate_left
  · (intro w' hw'; obtain ⟨c0, c1, c2, c3, c4, c5, c6, c7, c8⟩ := HX.out w' (HS3.out.trans hw'); obtain ⟨d0, d1, d2, d3, d4, d5, d6, d7, d8⟩ := HY.out w' (HS3.out.trans hw'); go_simp; try with_reducible rfl)
  try simp only [Act.put, List.setIfInBounds_toArray, List.set_cons_zero, List.set_cons_succ]
  refine reg_take (v := ?_) 7 (some 30) rfl rfl (by kernel_rfl) (fun _ _ _ h => h) (by kernel_rfl) (Same.refl u3) ?_ ?_
  rotate_left
  · (intro w' hw'; obtain ⟨c0, c1, c2, c3, c4, c5, c6, c7, c8⟩ := HX.out w' (HS3.out.trans hw'); obtain ⟨d0, d1, d2, d3, d4, d5, d6, d7, d8⟩ := HY.out w' (HS3.out.trans hw'); go_simp; try with_reducible rfl)
  try simp only [Act.put, List.setIfInBounds_toArray, List.set_cons_zero, List.set_cons_succ]
  refine reg_take (v := ?_) 8 (some 31) rfl rfl (by kernel_rfl) (fun _ _ _ h => h) (by kernel_rfl) (Same.refl u3) ?_ ?_
  rotate_left
  · (intro w' hw'; obtain ⟨c0, c1, c2, c3, c4, c5, c6, c7, c8⟩ := HX.out w' (HS3.out.trans hw'); obtain ⟨d0, d1, d2, d3, d4, d5, d6, d7, d8⟩ := HY.out w' (HS3.out.trans hw'); go_simp; try with_reducible rfl)
  try simp only [Act.put, List.setIfInBounds_toArray, List.set_cons_zero, List.set_cons_succ]
  refine reg_take (v := ?_) 11 (some 34) rfl rfl (by kernel_rfl) (fun _ _ _ h => h) (by kernel_rfl) (Same.refl u3) ?_ ?_
  rotate_left
  · (intro w' hw'; obtain ⟨c0, c1, c2, c3, c4, c5, c6, c7, c8⟩ := HX.out w' (HS3.out.trans hw'); obtain ⟨d0, d1, d2, d3, d4, d5, d6, d7, d8⟩ := HY.out w' (HS3.out.trans hw'); go_simp; try with_reducible rfl)
  try simp only [Act.put, List.setIfInBounds_toArray, List.set_cons_zero, List.set_cons_succ]
  refine reg_take (v := ?_) 13 (some 36) rfl rfl (by kernel_rfl) (fun _ _ _ h => h) (by kernel_rfl) (Same.refl u3) ?_ ?_
  rotate_left
  · (intro w' hw'; obtain ⟨c0, c1, c2, c3, c4, c5, c6, c7, c8⟩ := HX.out w' (HS3.out.trans hw'); obtain ⟨d0, d1, d2, d3, d4, d5, d6, d7, d8⟩ := HY.out w' (HS3.out.trans hw'); go_simp; try with_reducible rfl)
  try simp only [Act.put, List.setIfInBounds_toArray, List.set_cons_zero, List.set_cons_succ]
  refine reg_one 9 rfl (by kernel_rfl) (by kernel_rfl) ?_
  go_simp
  refine ((HB1 _ _ _ (HBs.out _ HS3.out) (HDs.out _ HS3.out)).out).mono ?_
  rintro e u4 ⟨x9, rfl, ho9, hs4⟩
  have HS4 := Lib.hid (HS3.out.trans hs4); have HO9 := Lib.hid ho9; clear ho9
  refine ⟨hs4, reg_more (fun w' => Same u4 w') (fun w' h => hs4.trans h) _ _ _ _ ?_⟩
  try simp only [Act.put, List.setIfInBounds_toArray, List.set_cons_zero, List.set_cons_succ]
  refine reg_take (v := ?_) 10 (some 33) rfl rfl (by kernel_rfl) (fun _ _ _ h => h) (by kernel_rfl) (Same.refl u4) ?_ ?_
  rotate_left
  · (intro w' hw'; have hr := run_str w' x9 L (HO9.out.same hw').bs; go_simp; try with_reducible rfl)
  try simp only [Act.put, List.setIfInBounds_toArray, List.set_cons_zero, List.set_cons_succ]
  refine reg_one 12 rfl (by kernel_rfl) (by kernel_rfl) ?_
  go_simp
  refine ((HP1 _ _ _ _).out).mono ?_
  rintro e u5 ⟨rfl, hs5⟩
  have HS5 := Lib.hid (HS4.out.trans hs5)
  refine ⟨hs5, reg_more (fun w' => Same u5 w') (fun w' h => hs5.trans h) _ _ _ _ ?_⟩
  try simp only [Act.put, List.setIfInBounds_toArray, List.set_cons_zero, List.set_cons_succ]
  refine reg_one 14 rfl (by kernel_rfl) (by kernel_rfl) ?_
  go_simp
  refine ((HB2 _ _ _ (HBs.out _ HS5.out) (HDs.out _ HS5.out)).out).mono ?_
  rintro e u6 ⟨x14, rfl, ho14, hs6⟩
  have HS6 := Lib.hid (HS5.out.trans hs6); have HO14 := Lib.hid ho14; clear ho14
  refine ⟨hs6, reg_more (fun w' => Same u6 w') (fun w' h => hs6.trans h) _ _ _ _ ?_⟩
  try simp only [Act.put, List.setIfInBounds_toArray, List.set_cons_zero, List.set_cons_succ]
  refine reg_take (v := ?_) 15 (some 38) rfl rfl (by kernel_rfl) (fun _ _ _ h => h) (by kernel_rfl) (Same.refl u6) ?_ ?_
  rotate_left
  · (intro w' hw'; have hr := run_str w' x14 L (HO14.out.same hw').bs; go_simp; try with_reducible rfl)
  try simp only [Act.put, List.setIfInBounds_toArray, List.set_cons_zero, List.set_cons_succ]
  refine reg_take (v := ?_) 16 (some 39) rfl rfl (by kernel_rfl) (fun _ _ _ h => h) (by kernel_rfl) (Same.refl u6) ?_ ?_
  rotate_left
  · (intro w' hw'; obtain ⟨c0, c1, c2, c3, c4, c5, c6, c7, c8⟩ := HX.out w' (HS6.out.trans hw'); obtain ⟨d0, d1, d2, d3, d4, d5, d6, d7, d8⟩ := HY.out w' (HS6.out.trans hw'); go_simp; try with_reducible rfl)
  try simp only [Act.put, List.setIfInBounds_toArray, List.set_cons_zero, List.set_cons_succ]
  refine reg_take (v := ?_) 17 (some 40) rfl rfl (by kernel_rfl) (fun _ _ _ h => h) (by kernel_rfl) (Same.refl u6) ?_ ?_
  rotate_left
  · (intro w' hw'; obtain ⟨c0, c1, c2, c3, c4, c5, c6, c7, c8⟩ := HX.out w' (HS6.out.trans hw'); obtain ⟨d0, d1, d2, d3, d4, d5, d6, d7, d8⟩ := HY.out w' (HS6.out.trans hw'); go_simp; try with_reducible rfl)
  try simp only [Act.put, List.setIfInBounds_toArray, List.set_cons_zero, List.set_cons_succ]
  refine reg_take (v := ?_) 18 (some 41) rfl rfl (by kernel_rfl) (fun _ _ _ h => h) (by kernel_rfl) (Same.refl u6) ?_ ?_
  rotate_left
  · (intro w' hw'; obtain ⟨c0, c1, c2, c3, c4, c5, c6, c7, c8⟩ := HX.out w' (HS6.out.trans hw'); obtain ⟨d0, d1, d2, d3, d4, d5, d6, d7, d8⟩ := HY.out w' (HS6.out.trans hw'); go_simp; try with_reducible rfl)
  try simp only [Act.put, List.setIfInBounds_toArray, List.set_cons_zero, List.set_cons_succ]
  refine reg_take (v := ?_) 19 (some 42) rfl rfl (by kernel_rfl) (fun _ _ _ h => h) (by kernel_rfl) (Same.refl u6) ?_ ?_
  rotate_left
  · (intro w' hw'; obtain ⟨c0, c1, c2, c3, c4, c5, c6, c7, c8⟩ := HX.out w' (HS6.out.trans hw'); obtain ⟨d0, d1, d2, d3, d4, d5, d6, d7, d8⟩ := HY.out w' (HS6.out.trans hw'); go_simp; try with_reducible rfl)
  try simp only [Act.put, List.setIfInBounds_toArray, List.set_cons_zero, List.set_cons_succ]
  refine reg_take (v := ?_) 20 (some 43) rfl rfl (by kernel_rfl) (fun _ _ _ h => h) (by kernel_rfl) (Same.refl u6) ?_ ?_
  rotate_left
  · (intro w' hw'; obtain ⟨c0, c1, c2, c3, c4, c5, c6, c7, c8⟩ := HX.out w' (HS6.out.trans hw'); obtain ⟨d0, d1, d2, d3, d4, d5, d6, d7, d8⟩ := HY.out w' (HS6.out.trans hw'); go_simp; try with_reducible rfl)
  try simp only [Act.put, List.setIfInBounds_toArray, List.set_cons_zero, List.set_cons_succ]
  refine reg_take (v := ?_) 22 (some 45) rfl rfl (by kernel_rfl) (fun _ _ _ h => h) (by kernel_rfl) (Same.refl u6) ?_ ?_
  rotate_left
  · (intro w' hw'; obtain ⟨c0, c1, c2, c3, c4, c5, c6, c7, c8⟩ := HX.out w' (HS6.out.trans hw'); obtain ⟨d0, d1, d2, d3, d4, d5, d6, d7, d8⟩ := HY.out w' (HS6.out.trans hw'); go_simp; try with_reducible rfl)
  try simp only [Act.put, List.setIfInBounds_toArray, List.set_cons_zero, List.set_cons_succ]
  refine reg_take (v := ?_) 24 (some 47) rfl rfl (by kernel_rfl) (fun _ _ _ h => h) (by kernel_rfl) (Same.refl u6) ?_ ?_
  rotate_left
  · (intro w' hw'; obtain ⟨c0, c1, c2, c3, c4, c5, c6, c7, c8⟩ := HX.out w' (HS6.out.trans hw'); obtain ⟨d0, d1, d2, d3, d4, d5, d6, d7, d8⟩ := HY.out w' (HS6.out.trans hw'); go_simp; try with_reducible rfl)
  try simp only [Act.put, List.setIfInBounds_toArray, List.set_cons_zero, List.set_cons_succ]
  refine reg_one 21 rfl (by kernel_rfl) (by kernel_rfl) ?_
  go_simp
  refine ((HM1 _ _ _ (HBs.out _ HS6.out) (HCs.out _ HS6.out)).out).mono ?_
  rintro e u7 ⟨rfl, hs7⟩
  have HS7 := Lib.hid (HS6.out.trans hs7)
  refine ⟨hs7, reg_more (fun w' => Same u7 w') (fun w' h => hs7.trans h) _ _ _ _ ?_⟩
  try simp only [Act.put, List.setIfInBounds_toArray, List.set_cons_zero, List.set_cons_succ]
  refine reg_one 23 rfl (by kernel_rfl) (by kernel_rfl) ?_
  go_simp
  refine ((HP1 _ _ _ _).out).mono ?_
  rintro e u8 ⟨rfl, hs8⟩
  have HS8 := Lib.hid (HS7.out.trans hs8)
  refine ⟨hs8, reg_more (fun w' => Same u8 w') (fun w' h => hs8.trans h) _ _ _ _ ?_⟩
  try simp only [Act.put, List.setIfInBounds_toArray, List.set_cons_zero, List.set_cons_succ]
  refine reg_one 25 rfl (by kernel_rfl) (by kernel_rfl) ?_
  go_simp
  refine ((HP2 _ _ _ _).out).mono ?_
  rintro e u9 ⟨rfl, hs9⟩
  have HS9 := Lib.hid (HS8.out.trans hs9)
  refine ⟨hs9, reg_more (fun w' => Same u9 w') (fun w' h => hs9.trans h) _ _ _ _ ?_⟩
  try simp only [Act.put, List.setIfInBounds_toArray, List.set_cons_zero, List.set_cons_succ]
  refine reg_one 26 rfl (by kernel_rfl) (by kernel_rfl) ?_
  go_simp
  refine ((HM2 _ _ _ (HBs.out _ HS9.out) (HCs.out _ HS9.out)).out).mono ?_
  rintro e u10 ⟨rfl, hs10⟩
  have HS10 := Lib.hid (HS9.out.trans hs10)
  refine ⟨hs10, reg_more (fun w' => Same u10 w') (fun w' h => hs10.trans h) _ _ _ _ ?_⟩
  try simp only [Act.put, List.setIfInBounds_toArray, List.set_cons_zero, List.set_cons_succ]
  refine reg_take (v := ?_) 27 (some 50) rfl rfl (by kernel_rfl) (fun _ _ _ h => h) (by kernel_rfl) (Same.refl u10) ?_ ?_
  rotate_left
  · (intro w' hw'; obtain ⟨c0, c1, c2, c3, c4, c5, c6, c7, c8⟩ := HX.out w' (HS10.out.trans hw'); obtain ⟨d0, d1, d2, d3, d4, d5, d6, d7, d8⟩ := HY.out w' (HS10.out.trans hw'); go_simp; try with_reducible rfl)
  try simp only [Act.put, List.setIfInBounds_toArray, List.set_cons_zero, List.set_cons_succ]
  refine reg_take (v := ?_) 28 (some 51) rfl rfl (by kernel_rfl) (fun _ _ _ h => h) (by kernel_rfl) (Same.refl u10) ?_ ?_
  rotate_left
  · (intro w' hw'; obtain ⟨c0, c1, c2, c3, c4, c5, c6, c7, c8⟩ := HX.out w' (HS10.out.trans hw'); obtain ⟨d0, d1, d2, d3, d4, d5, d6, d7, d8⟩ := HY.out w' (HS10.out.trans hw'); go_simp; try with_reducible rfl)
  try simp only [Act.put, List.setIfInBounds_toArray, List.set_cons_zero, List.set_cons_succ]
  refine reg_take (v := ?_) 29 (some 52) rfl rfl (by kernel_rfl) (fun _ _ _ h => h) (by kernel_rfl) (Same.refl u10) ?_ ?_
  rotate_left
  · (intro w' hw'; obtain ⟨c0, c1, c2, c3, c4, c5, c6, c7, c8⟩ := HX.out w' (HS10.out.trans hw'); obtain ⟨d0, d1, d2, d3, d4, d5, d6, d7, d8⟩ := HY.out w' (HS10.out.trans hw'); go_simp; try with_reducible rfl)
  try simp only [Act.put, List.setIfInBounds_toArray, List.set_cons_zero, List.set_cons_succ]
  refine reg_one 30 rfl (by kernel_rfl) (by kernel_rfl) ?_
  go_simp
  refine ((HL _).out).mono ?_
  rintro e u11 ⟨rfl, hs11⟩
  have HS11 := Lib.hid (HS10.out.trans hs11)
  refine ⟨hs11, reg_more (fun w' => Same u11 w') (fun w' h => hs11.trans h) _ _ _ _ ?_⟩
  try simp only [Act.put, List.setIfInBounds_toArray, List.set_cons_zero, List.set_cons_succ]
  refine reg_take (v := ?_) 31 (some 54) rfl rfl (by kernel_rfl) (fun _ _ _ h => h) (by kernel_rfl) (Same.refl u11) ?_ ?_
  rotate_left
  · (intro w' hw'; obtain ⟨c0, c1, c2, c3, c4, c5, c6, c7, c8⟩ := HX.out w' (HS11.out.trans hw'); obtain ⟨d0, d1, d2, d3, d4, d5, d6, d7, d8⟩ := HY.out w' (HS11.out.trans hw'); go_simp; try with_reducible rfl)
  try simp only [Act.put, List.setIfInBounds_toArray, List.set_cons_zero, List.set_cons_succ]
  refine reg_take (v := ?_) 32 (some 6) rfl rfl (by kernel_rfl) (fun _ _ _ h => h) (by kernel_rfl) (Same.refl u11) ?_ ?_
  rotate_left
  · (intro w' hw'; obtain ⟨c0, c1, c2, c3, c4, c5, c6, c7, c8⟩ := HX.out w' (HS11.out.trans hw'); obtain ⟨d0, d1, d2, d3, d4, d5, d6, d7, d8⟩ := HY.out w' (HS11.out.trans hw'); go_simp; try with_reducible rfl)
  try simp only [Act.put, List.setIfInBounds_toArray, List.set_cons_zero, List.set_cons_succ]
  refine reg_done (by kernel_rfl) ?_
  go_wp2_with fail
  go_ret
  exact ⟨rfl, H0.out.trans HS11.out⟩
end Go.Proofs.Ytldiagjnpkpepaa
