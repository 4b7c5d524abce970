/- Layer 5: the walk of PortsBack. No condition beyond what each names. -/
import Derived.Test.YtcemdajkddidnaaPoL
namespace Go.Proofs.Ytcemdajkddidnaa
open Go.RowKit
set_option linter.unusedVariables false

/-- are two flows alike? -/
def eqFl (f g : Fl) : Bool := decide (f = g)
theorem eq_fl2 (a0 a1 a2 a3 a4 b0 b1 b2 b3 b4 : Int) (w : World) : (binOp .eql 31 (.agg #[.int .i64 a0, .int .u32 a1, .int .u32 a2, .int .i64 a3, .int .i64 a4]) (.agg #[.int .i64 b0, .int .u32 b1, .int .u32 b2, .int .i64 b3, .int .i64 b4])).run Try.prog w =
    .ok (.bool (eqFl ⟨a0, a1, a2, a3, a4⟩ ⟨b0, b1, b2, b3, b4⟩)) w := eq_fl a0 a1 a2 a3 a4 b0 b1 b2 b3 b4 w
attribute [local go_sem ↓] eq_fl2 neq_fl_same

theorem byteAt_inj {n m : Int} {i : Nat} (h : byteAt n i = byteAt m i) : n / 256 ^ i % 256 = m / 256 ^ i % 256 := by
  rw [← byteAt_int n i, ← byteAt_int m i, h]

/-- unlike flows have unlike bytes -/
theorem bytesF_inj (f g : Fl) (hf : goodF f) (hg : goodF g) (rf : (0 ≤ f.src ∧ f.src ≤ 4294967295) ∧ (0 ≤ f.dst ∧ f.dst ≤ 4294967295)) (rg : (0 ≤ g.src ∧ g.src ≤ 4294967295) ∧ (0 ≤ g.dst ∧ g.dst ≤ 4294967295)) (h : bytesF f = bytesF g) : f = g := by
  rw [bytesF_eq, bytesF_eq] at h
  simp only [List.cons.injEq, and_true] at h
  obtain ⟨a0, a1, a2, a3, a4, a5, a6, a7, a8, a9, b0, b1, b2⟩ := h
  obtain ⟨p, ⟨s1, s2⟩, d1, d2⟩ := hf
  obtain ⟨p', ⟨s1', s2'⟩, d1', d2'⟩ := hg
  obtain ⟨⟨x1, x2⟩, x3, x4⟩ := rf
  obtain ⟨⟨y1, y2⟩, y3, y4⟩ := rg
  have a0 := byteAt_inj a0
  have a1 := byteAt_inj a1
  have a2 := byteAt_inj a2
  have a3 := byteAt_inj a3
  have a4 := byteAt_inj a4
  have a5 := byteAt_inj a5
  have a6 := byteAt_inj a6
  have a7 := byteAt_inj a7
  have a8 := byteAt_inj a8
  have a9 := byteAt_inj a9
  have b0 := byteAt_inj b0
  have b1 := byteAt_inj b1
  have b2 := byteAt_inj b2
  obtain ⟨f0, f1, f2, f3, f4⟩ := f
  obtain ⟨g0, g1, g2, g3, g4⟩ := g
  simp only at *
  simp only [Fl.mk.injEq]
  refine ⟨?_, ?_, ?_, ?_, ?_⟩
  · clear a1 a2 a3 a4 a5 a6 a7 a8 a9 b0 b1 b2; omega
  · clear a0 a5 a6 a7 a8 a9 b0 b1 b2; omega
  · clear a0 a1 a2 a3 a4 a9 b0 b1 b2; omega
  · clear a0 a1 a2 a3 a4 a5 a6 a7 a8 b1 b2; omega
  · clear a0 a1 a2 a3 a4 a5 a6 a7 a8 a9 b0; omega

theorem str_same (l m : List UInt8) : ((⟨l.toArray⟩ : ByteArray).toList == (⟨m.toArray⟩ : ByteArray).toList) = decide (l = m) := str_eq l m

theorem pback_long (f g : Fl) (v : Value) (p : List UInt8) (w : World) (hb : Bs w v p) (hl : 3000 < (p.length : Int)) :
    Calls Try.prog 4 #[flV f, flV g, v] w fun e w' => e = .returned (.bool true) ∧ Same w w' := by
  obtain ⟨q0, q1, q2, q3, q4⟩ := f
  obtain ⟨r0, r1, r2, r3, r4⟩ := g
  obtain ⟨ao, cap, rfl, -, -, -, -⟩ := hb
  have H0 := Lib.hid ((Same.alloc w (flO 31 ⟨q0, q1, q2, q3, q4⟩)).trans (Same.alloc _ (flO 31 ⟨r0, r1, r2, r3, r4⟩)))
  go_enter Try.func4, Try.ntmps4
  go_wp2_with fail
  refine (po_lives _).mono ?_
  rintro e w1 ⟨rfl, hs⟩
  have HS := Lib.hid (H0.out.trans hs)
  clear hs
  go_wp2_with fail
  go_ret
  exact ⟨rfl, HS.out⟩

set_option maxRecDepth 100000 in
set_option maxHeartbeats 2000000 in
theorem pback_bad (f g : Fl) (hg : ¬ goodF f) (rf : (0 ≤ f.src ∧ f.src ≤ 4294967295) ∧ (0 ≤ f.dst ∧ f.dst ≤ 4294967295)) (rg : (0 ≤ g.src ∧ g.src ≤ 4294967295) ∧ (0 ≤ g.dst ∧ g.dst ≤ 4294967295)) (v : Value) (p : List UInt8) (w : World) (hb : Bs w v p) (hl : ¬ 3000 < (p.length : Int)) :
    Calls Try.prog 4 #[flV f, flV g, v] w fun e w' => e = .returned (.bool true) ∧ Same w w' := by
  have HG := fun w => Lib.hid (poGood_any f w)
  rw [show decide (goodF f) = false from decide_eq_false hg] at HG
  have HBk := fun w => Lib.hid (poBack_any f w)
  have HBb := fun w => Lib.hid (poBack_any (backF f) w)
  rw [show backF (backF f) = f from rfl] at HBb
  have HB := Lib.hid hb
  have HL := fun w => Lib.hid (po_lives w)
  obtain ⟨q0, q1, q2, q3, q4⟩ := f
  obtain ⟨r0, r1, r2, r3, r4⟩ := g
  simp only [backF] at HBk HBb
  obtain ⟨ao, cap, rfl, -, -, -, -⟩ := hb
  obtain ⟨W0, hW⟩ : ∃ W0, W0 = (w.alloc (flO 31 ⟨q0, q1, q2, q3, q4⟩)).alloc (flO 31 ⟨r0, r1, r2, r3, r4⟩) := ⟨_, rfl⟩
  have HX : Hid (∀ w', Same W0 w' → FlAt w' w.heap.size ⟨q0, q1, q2, q3, q4⟩) := by
    rw [hW]
    exact fun w' hw => FlAt.of (hw.block ((Same.alloc _ _).block (heap_alloc_new w (flO 31 ⟨q0, q1, q2, q3, q4⟩))))
  have HY : Hid (∀ w', Same W0 w' → FlAt w' (w.heap.size + 1) ⟨r0, r1, r2, r3, r4⟩) := by
    rw [hW]
    exact fun w' hw => FlAt.of (hw.block (by have := heap_alloc_new (w.alloc (flO 31 ⟨q0, q1, q2, q3, q4⟩)) (flO 31 ⟨r0, r1, r2, r3, r4⟩); rwa [World.size_alloc] at this))
  have H0 : Hid (Same w W0) := by rw [hW]; exact (Same.alloc w _).trans (Same.alloc _ _)
  clear hg rf rg
  go_enter Try.func4, Try.ntmps4
  go_wp2_with fail
  rw [← hW]
  clear hW
  refine reg_start (fun w' => Same W0 w') (by kernel_rfl) ?_
  refine reg_take (v := ?_) 0 (some 18) rfl rfl (by kernel_rfl) (fun _ _ _ h => h) (by kernel_rfl) ((Same.refl W0).drew) ?_ ?_
  rotate_left
  · (intro w' hw'; obtain ⟨c0, c1, c2, c3, c4⟩ := HX.out w' hw'; go_simp; try with_reducible rfl)
  try simp only [Act.put, List.setIfInBounds_toArray, List.set_cons_zero, List.set_cons_succ]
  refine reg_take (v := ?_) 3 (some 21) rfl rfl (by kernel_rfl) (fun _ _ _ h => h) (by kernel_rfl) ((Same.refl W0).drew) ?_ ?_
  rotate_left
  · (intro w' hw'; obtain ⟨c0, c1, c2, c3, c4⟩ := HX.out w' hw'; go_simp; try with_reducible rfl)
  try simp only [Act.put, List.setIfInBounds_toArray, List.set_cons_zero, List.set_cons_succ]
  refine reg_one 1 rfl (by kernel_rfl) (by kernel_rfl) ?_
  go_simp
  refine ((HBk _).out).mono ?_
  rintro e u1 ⟨rfl, hs1⟩
  have hS1 := ((Same.refl W0).drew).trans hs1
  skip
  refine ⟨hS1, ?_⟩
  try simp only [Act.put, List.setIfInBounds_toArray, List.set_cons_zero, List.set_cons_succ]
  refine reg_one 2 rfl (by kernel_rfl) (by kernel_rfl) ?_
  go_simp
  refine ((HBb _).out).mono ?_
  rintro e u2 ⟨rfl, hs2⟩
  have hS2 := (hS1).trans hs2
  skip
  refine ⟨hS2, ?_⟩
  try simp only [Act.put, List.setIfInBounds_toArray, List.set_cons_zero, List.set_cons_succ]
  refine reg_take (v := ?_) 4 (some 22) rfl rfl (by kernel_rfl) (fun _ _ _ h => h) (by kernel_rfl) (hS2) ?_ ?_
  rotate_left
  · (intro w' hw'; obtain ⟨c0, c1, c2, c3, c4⟩ := HX.out w' hw'; go_simp; try with_reducible rfl)
  try simp only [Act.put, List.setIfInBounds_toArray, List.set_cons_zero, List.set_cons_succ]
  refine reg_done (by kernel_rfl) ?_
  have HS2 := Lib.hid hS2
  clear hs1 hs2 hS1 hS2
  obtain ⟨c0, c1, c2, c3, c4⟩ := HX.out u2 HS2.out
  go_wp2_with fail
  refine (HG _).out.mono ?_
  rintro e w1 ⟨rfl, hs1⟩
  have HS3 := Lib.hid (HS2.out.trans hs1)
  clear hs1 c0 c1 c2 c3 c4
  obtain ⟨c0, c1, c2, c3, c4⟩ := HX.out w1 HS3.out
  go_wp2_with fail
  refine (HL _).out.mono ?_
  rintro e w2 ⟨rfl, hs2⟩
  have HS4 := Lib.hid (HS3.out.trans hs2)
  clear hs2
  go_wp2_with fail
  go_ret
  exact ⟨rfl, H0.out.trans HS4.out⟩

set_option maxRecDepth 100000 in
set_option maxHeartbeats 2000000 in
theorem pback_udp (f g : Fl) (hg : goodF f) (hp : f.proto = 17) (rf : (0 ≤ f.src ∧ f.src ≤ 4294967295) ∧ (0 ≤ f.dst ∧ f.dst ≤ 4294967295)) (rg : (0 ≤ g.src ∧ g.src ≤ 4294967295) ∧ (0 ≤ g.dst ∧ g.dst ≤ 4294967295)) (v : Value) (p : List UInt8) (w : World) (hb : Bs w v p) (hl : ¬ 3000 < (p.length : Int)) :
    Calls Try.prog 4 #[flV f, flV g, v] w fun e w' => e = .returned (.bool true) ∧ Same w w' := by
  have HG := fun w => Lib.hid (poGood_any f w)
  rw [show decide (goodF f) = true from decide_eq_true hg] at HG
  have HBk := fun w => Lib.hid (poBack_any f w)
  have HBb := fun w => Lib.hid (poBack_any (backF f) w)
  rw [show backF (backF f) = f from rfl] at HBb
  have hg2 := hg.2
  have HGg := fun w => Lib.hid (poGood_any g w)
  have HU := fun v w hb => Lib.hid (poUdp_any f rf v p w hb (by omega))
  obtain ⟨u1, u2, u3⟩ := of_udp f hg2 rf p (by omega)
  have HUb := fun v w hb => Lib.hid (poUdp_any (backF f) ⟨rf.2, rf.1⟩ v p w hb (by omega))
  obtain ⟨k1, k2, k3⟩ := of_udp (backF f) ⟨hg2.2, hg2.1⟩ ⟨rf.2, rf.1⟩ p (by omega)
  have HOb := fun v w hb => Lib.hid (poOf_any v (udpB f p) w hb)
  rw [show ofV (udpB f p) = .tuple #[sgV (ofG (udpB f p)), .int .i64 (ofE (udpB f p))] from rfl, u2, u3] at HOb
  have HOc := fun v w hb => Lib.hid (poOf_any v (udpB (backF f) p) w hb)
  rw [show ofV (udpB (backF f) p) = .tuple #[sgV (ofG (udpB (backF f) p)), .int .i64 (ofE (udpB (backF f) p))] from rfl, k2, k3] at HOc
  clear u1 u2 u3 k1 k2 k3
  generalize udpB f p = LB at *
  generalize udpB (backF f) p = LC at *
  have HB := Lib.hid hb
  have HL := fun w => Lib.hid (po_lives w)
  obtain ⟨q0, q1, q2, q3, q4⟩ := f
  obtain ⟨r0, r1, r2, r3, r4⟩ := g
  simp only [backF] at HBk HBb HUb HOb HOc hp
  obtain ⟨ao, cap, rfl, -, -, -, -⟩ := hb
  obtain ⟨W0, hW⟩ : ∃ W0, W0 = (w.alloc (flO 31 ⟨q0, q1, q2, q3, q4⟩)).alloc (flO 31 ⟨r0, r1, r2, r3, r4⟩) := ⟨_, rfl⟩
  have HX : Hid (∀ w', Same W0 w' → FlAt w' w.heap.size ⟨q0, q1, q2, q3, q4⟩) := by
    rw [hW]
    exact fun w' hw => FlAt.of (hw.block ((Same.alloc _ _).block (heap_alloc_new w (flO 31 ⟨q0, q1, q2, q3, q4⟩))))
  have HY : Hid (∀ w', Same W0 w' → FlAt w' (w.heap.size + 1) ⟨r0, r1, r2, r3, r4⟩) := by
    rw [hW]
    exact fun w' hw => FlAt.of (hw.block (by have := heap_alloc_new (w.alloc (flO 31 ⟨q0, q1, q2, q3, q4⟩)) (flO 31 ⟨r0, r1, r2, r3, r4⟩); rwa [World.size_alloc] at this))
  have H0 : Hid (Same w W0) := by rw [hW]; exact (Same.alloc w _).trans (Same.alloc _ _)
  subst hp
  clear hg2
  go_enter Try.func4, Try.ntmps4
  go_wp2_with fail
  rw [← hW]
  clear hW
  refine reg_start (fun w' => Same W0 w') (by kernel_rfl) ?_
  refine reg_take (v := ?_) 0 (some 18) rfl rfl (by kernel_rfl) (fun _ _ _ h => h) (by kernel_rfl) ((Same.refl W0).drew) ?_ ?_
  rotate_left
  · (intro w' hw'; obtain ⟨c0, c1, c2, c3, c4⟩ := HX.out w' hw'; go_simp; try with_reducible rfl)
  try simp only [Act.put, List.setIfInBounds_toArray, List.set_cons_zero, List.set_cons_succ]
  refine reg_take (v := ?_) 3 (some 21) rfl rfl (by kernel_rfl) (fun _ _ _ h => h) (by kernel_rfl) ((Same.refl W0).drew) ?_ ?_
  rotate_left
  · (intro w' hw'; obtain ⟨c0, c1, c2, c3, c4⟩ := HX.out w' hw'; go_simp; try with_reducible rfl)
  try simp only [Act.put, List.setIfInBounds_toArray, List.set_cons_zero, List.set_cons_succ]
  refine reg_one 1 rfl (by kernel_rfl) (by kernel_rfl) ?_
  go_simp
  refine ((HBk _).out).mono ?_
  rintro e u1 ⟨rfl, hs1⟩
  have hS1 := ((Same.refl W0).drew).trans hs1
  skip
  refine ⟨hS1, ?_⟩
  try simp only [Act.put, List.setIfInBounds_toArray, List.set_cons_zero, List.set_cons_succ]
  refine reg_one 2 rfl (by kernel_rfl) (by kernel_rfl) ?_
  go_simp
  refine ((HBb _).out).mono ?_
  rintro e u2 ⟨rfl, hs2⟩
  have hS2 := (hS1).trans hs2
  skip
  refine ⟨hS2, ?_⟩
  try simp only [Act.put, List.setIfInBounds_toArray, List.set_cons_zero, List.set_cons_succ]
  refine reg_take (v := ?_) 4 (some 22) rfl rfl (by kernel_rfl) (fun _ _ _ h => h) (by kernel_rfl) (hS2) ?_ ?_
  rotate_left
  · (intro w' hw'; obtain ⟨c0, c1, c2, c3, c4⟩ := HX.out w' hw'; go_simp; try with_reducible rfl)
  try simp only [Act.put, List.setIfInBounds_toArray, List.set_cons_zero, List.set_cons_succ]
  refine reg_done (by kernel_rfl) ?_
  have HS2 := Lib.hid hS2
  clear hs1 hs2 hS1 hS2
  obtain ⟨c0, c1, c2, c3, c4⟩ := HX.out u2 HS2.out
  go_wp2_with fail
  refine (HG _).out.mono ?_
  rintro e w1 ⟨rfl, hs1⟩
  have HS3 := Lib.hid (HS2.out.trans hs1)
  clear hs1 c0 c1 c2 c3 c4
  obtain ⟨c0, c1, c2, c3, c4⟩ := HX.out w1 HS3.out
  go_wp2_with fail
  refine (HU _ _ (HB.out.same (H0.out.trans HS3.out))).out.mono ?_
  rintro e w4 ⟨vb, rfl, ho4, hs4⟩
  have HB4 := Lib.hid ho4.bs
  have HS4 := Lib.hid (HS3.out.trans hs4)
  obtain ⟨a4, n4, p4, rfl⟩ := ho4.slice
  clear ho4 hs4 c0 c1 c2 c3 c4
  obtain ⟨c0, c1, c2, c3, c4⟩ := HX.out w4 HS4.out
  go_wp2_with fail
  refine (HBk _).out.mono ?_
  rintro e w5 ⟨rfl, hs5⟩
  have HS5 := Lib.hid (HS4.out.trans hs5)
  have HB5 := Lib.hid (HB4.out.same hs5)
  clear hs5 HB4
  go_wp2_with fail
  refine (HUb _ _ (HB.out.same (H0.out.trans HS5.out))).out.mono ?_
  rintro e w5b ⟨vc, rfl, ho5, hs5⟩
  have HC5 := Lib.hid ho5.bs
  have HS5b := Lib.hid (HS5.out.trans hs5)
  have HB5b := Lib.hid (HB5.out.same hs5)
  obtain ⟨a5, n5, p5, rfl⟩ := ho5.slice
  clear ho5 hs5 HB5
  go_wp2_with fail
  refine (HOb _ _ HB5b.out).out.mono ?_
  rintro e w6 ⟨rfl, hs6⟩
  have HS6 := Lib.hid (HS5b.out.trans hs6)

  have HA6 := Lib.hid (Same.alloc w6 (sgO 33 ⟨⟨17, q1, q2, q3, q4⟩, 0, 8 + (p.length : Int)⟩))
  have HKA := Lib.hid (heap_alloc_new w6 (sgO 33 ⟨⟨17, q1, q2, q3, q4⟩, 0, 8 + (p.length : Int)⟩))
  go_wp2_with fail
  refine (HOc _ _ (HC5.out.same (hs6.trans HA6.out))).out.mono ?_
  rintro e w7 ⟨rfl, hs7⟩
  have HS7 := Lib.hid ((HS6.out.trans HA6.out).trans hs7)
  have HA7 := Lib.hid (Same.alloc w7 (sgO 33 ⟨⟨17, q2, q1, q4, q3⟩, 0, 8 + (p.length : Int)⟩))
  have HKA7 := Lib.hid ((hs7.trans HA7.out).block HKA.out)
  have HKB7 := Lib.hid (heap_alloc_new w7 (sgO 33 ⟨⟨17, q2, q1, q4, q3⟩, 0, 8 + (p.length : Int)⟩))
  clear hs6 hs7 c0 c1 c2 c3 c4
  obtain ⟨c0, c1, c2, c3, c4⟩ := HX.out _ (HS7.out.trans HA7.out)
  go_wp2_with fail
  refine (HBk _).out.mono ?_
  rintro e w8 ⟨rfl, hs8⟩
  have HS8 := Lib.hid ((HS7.out.trans HA7.out).trans hs8)
  have HA8 := Lib.hid (Same.alloc w8 (flO 31 ⟨17, q2, q1, q4, q3⟩))
  obtain ⟨s0, s1, s2, s3, s4, s5, s6⟩ := SgAt.of ((hs8.trans HA8.out).block HKA7.out)
  obtain ⟨t0, t1, t2, t3, t4, t5, t6⟩ := SgAt.of ((hs8.trans HA8.out).block HKB7.out)
  obtain ⟨b0, b1, b2, b3, b4⟩ := FlAt.of (heap_alloc_new w8 (flO 31 ⟨17, q2, q1, q4, q3⟩))
  clear hs8 c0 c1 c2 c3 c4
  obtain ⟨c0, c1, c2, c3, c4⟩ := HX.out _ (HS8.out.trans HA8.out)
  have HS9 := Lib.hid (HS8.out.trans HA8.out)
  have HYx := Lib.hid (fun w' hw => HY.out w' (HS9.out.trans hw))
  have HXx := Lib.hid (fun w' hw => HX.out w' (HS9.out.trans hw))
  have HW9 := Lib.hid (H0.out.trans HS9.out)
  have zx : bits .xor .i64 1 1 = 0 := by decide
  go_wp2_with fail
  clear c0 c1 c2 c3 c4 b0 b1 b2 b3 b4 t0 t1 t2 t3 t4 t5 t6 s0 s1 s2 s3 s4 s5 s6 HB HUb HU HOb HOc HX HY HKA HKA7 HKB7 HS8 HS9 HA8 HB5b HC5
  generalize (w8.alloc (flO 31 ⟨17, q2, q1, q4, q3⟩)) = W9 at *
  by_cases hgg : goodF ⟨r0, r1, r2, r3, r4⟩
  · rw [show decide (goodF ⟨r0, r1, r2, r3, r4⟩) = true from decide_eq_true hgg] at HGg
    have HBf := fun w => Lib.hid (poBytes_any ⟨17, q1, q2, q3, q4⟩ w)
    have HBg := fun w => Lib.hid (poBytes_any ⟨r0, r1, r2, r3, r4⟩ w)
    have HR1 := fun w' v hb => Lib.hid (run_str w' v (bytesF ⟨17, q1, q2, q3, q4⟩) hb)
    have HR2 := fun w' v hb => Lib.hid (run_str w' v (bytesF ⟨r0, r1, r2, r3, r4⟩) hb)
    have hstr := str_same (bytesF ⟨17, q1, q2, q3, q4⟩) (bytesF ⟨r0, r1, r2, r3, r4⟩)
    have hinj := bytesF_inj ⟨17, q1, q2, q3, q4⟩ ⟨r0, r1, r2, r3, r4⟩ hg hgg rf rg
    by_cases hfg : (⟨17, q1, q2, q3, q4⟩ : Fl) = ⟨r0, r1, r2, r3, r4⟩
    · have he : eqFl ⟨17, q1, q2, q3, q4⟩ ⟨r0, r1, r2, r3, r4⟩ = true := decide_eq_true hfg
      rw [show decide (bytesF ⟨17, q1, q2, q3, q4⟩ = bytesF ⟨r0, r1, r2, r3, r4⟩) = true from decide_eq_true (by rw [hfg])] at hstr
      clear hinj hfg hgg hg rf rg
      generalize (⟨(bytesF ⟨17, q1, q2, q3, q4⟩).toArray⟩ : ByteArray) = st1 at *
      generalize (⟨(bytesF ⟨r0, r1, r2, r3, r4⟩).toArray⟩ : ByteArray) = st2 at *
      have HT0 : Hid (Same W9 W9.drew) := (Same.refl W9).drew
      refine reg_start (fun w' => Same W9.drew w') (by kernel_rfl) ?_
      refine reg_take (v := ?_) 0 (some 81) rfl rfl (by kernel_rfl) (fun _ _ _ h => h) (by kernel_rfl) (Same.refl W9.drew) ?_ ?_
      rotate_left
      · (intro w' hw'; obtain ⟨c0, c1, c2, c3, c4⟩ := HXx.out w' (HT0.out.trans hw'); obtain ⟨d0, d1, d2, d3, d4⟩ := HYx.out w' (HT0.out.trans hw'); go_simp; try with_reducible rfl)
      try simp only [Act.put, List.setIfInBounds_toArray, List.set_cons_zero, List.set_cons_succ]
      refine reg_one 1 rfl (by kernel_rfl) (by kernel_rfl) ?_
      go_simp
      refine ((HGg _).out).mono ?_
      rintro e u1 ⟨rfl, hs1⟩
      have HT1 := Lib.hid (HT0.out.trans hs1)
      refine ⟨hs1, reg_more (fun w' => Same u1 w') (fun w' h => hs1.trans h) _ _ _ _ ?_⟩
      try simp only [Act.put, List.setIfInBounds_toArray, List.set_cons_zero, List.set_cons_succ]
      refine reg_take (v := ?_) 2 (some 83) rfl rfl (by kernel_rfl) (fun _ _ _ h => h) (by kernel_rfl) (Same.refl u1) ?_ ?_
      rotate_left
      · (intro w' hw'; obtain ⟨c0, c1, c2, c3, c4⟩ := HXx.out w' (HT1.out.trans hw'); obtain ⟨d0, d1, d2, d3, d4⟩ := HYx.out w' (HT1.out.trans hw'); go_simp; try with_reducible rfl)
      try simp only [Act.put, List.setIfInBounds_toArray, List.set_cons_zero, List.set_cons_succ]
      refine reg_take (v := ?_) 3 (some 84) rfl rfl (by kernel_rfl) (fun _ _ _ h => h) (by kernel_rfl) (Same.refl u1) ?_ ?_
      rotate_left
      · (intro w' hw'; obtain ⟨c0, c1, c2, c3, c4⟩ := HXx.out w' (HT1.out.trans hw'); obtain ⟨d0, d1, d2, d3, d4⟩ := HYx.out w' (HT1.out.trans hw'); go_simp; try with_reducible rfl)
      try simp only [Act.put, List.setIfInBounds_toArray, List.set_cons_zero, List.set_cons_succ]
      refine reg_take (v := ?_) 4 (some 85) rfl rfl (by kernel_rfl) (fun _ _ _ h => h) (by kernel_rfl) (Same.refl u1) ?_ ?_
      rotate_left
      · (intro w' hw'; obtain ⟨c0, c1, c2, c3, c4⟩ := HXx.out w' (HT1.out.trans hw'); obtain ⟨d0, d1, d2, d3, d4⟩ := HYx.out w' (HT1.out.trans hw'); go_simp; try with_reducible rfl)
      try simp only [Act.put, List.setIfInBounds_toArray, List.set_cons_zero, List.set_cons_succ]
      refine reg_take (v := ?_) 7 (some 88) rfl rfl (by kernel_rfl) (fun _ _ _ h => h) (by kernel_rfl) (Same.refl u1) ?_ ?_
      rotate_left
      · (intro w' hw'; obtain ⟨c0, c1, c2, c3, c4⟩ := HXx.out w' (HT1.out.trans hw'); obtain ⟨d0, d1, d2, d3, d4⟩ := HYx.out w' (HT1.out.trans hw'); go_simp; try with_reducible rfl)
      try simp only [Act.put, List.setIfInBounds_toArray, List.set_cons_zero, List.set_cons_succ]
      refine reg_take (v := ?_) 11 (some 92) rfl rfl (by kernel_rfl) (fun _ _ _ h => h) (by kernel_rfl) (Same.refl u1) ?_ ?_
      rotate_left
      · (intro w' hw'; obtain ⟨c0, c1, c2, c3, c4⟩ := HXx.out w' (HT1.out.trans hw'); obtain ⟨d0, d1, d2, d3, d4⟩ := HYx.out w' (HT1.out.trans hw'); go_simp; try with_reducible rfl)
      try simp only [Act.put, List.setIfInBounds_toArray, List.set_cons_zero, List.set_cons_succ]
      refine reg_take (v := ?_) 12 (some 93) rfl rfl (by kernel_rfl) (fun _ _ _ h => h) (by kernel_rfl) (Same.refl u1) ?_ ?_
      rotate_left
      · (intro w' hw'; obtain ⟨c0, c1, c2, c3, c4⟩ := HXx.out w' (HT1.out.trans hw'); obtain ⟨d0, d1, d2, d3, d4⟩ := HYx.out w' (HT1.out.trans hw'); go_simp; try with_reducible rfl)
      try simp only [Act.put, List.setIfInBounds_toArray, List.set_cons_zero, List.set_cons_succ]
      refine reg_take (v := ?_) 13 (some 94) rfl rfl (by kernel_rfl) (fun _ _ _ h => h) (by kernel_rfl) (Same.refl u1) ?_ ?_
      rotate_left
      · (intro w' hw'; obtain ⟨c0, c1, c2, c3, c4⟩ := HXx.out w' (HT1.out.trans hw'); obtain ⟨d0, d1, d2, d3, d4⟩ := HYx.out w' (HT1.out.trans hw'); go_simp; try with_reducible rfl)
      try simp only [Act.put, List.setIfInBounds_toArray, List.set_cons_zero, List.set_cons_succ]
      refine reg_one 5 rfl (by kernel_rfl) (by kernel_rfl) ?_
      go_simp
      refine ((HBf _).out).mono ?_
      rintro e u2 ⟨v2, rfl, ho2, hs2⟩
      have HB2 := Lib.hid ho2.bs; have HT2 := Lib.hid (HT1.out.trans hs2); clear ho2
      refine ⟨hs2, reg_more (fun w' => Same u2 w') (fun w' h => hs2.trans h) _ _ _ _ ?_⟩
      try simp only [Act.put, List.setIfInBounds_toArray, List.set_cons_zero, List.set_cons_succ]
      refine reg_take (v := ?_) 6 (some 87) rfl rfl (by kernel_rfl) (fun _ _ _ h => h) (by kernel_rfl) (Same.refl u2) ?_ ?_
      rotate_left
      · (intro w' hw'; have hr := (HR1 w' v2 (HB2.out.same hw')).out; go_simp; try with_reducible rfl)
      try simp only [Act.put, List.setIfInBounds_toArray, List.set_cons_zero, List.set_cons_succ]
      refine reg_one 8 rfl (by kernel_rfl) (by kernel_rfl) ?_
      go_simp
      refine ((HBg _).out).mono ?_
      rintro e u3 ⟨v3, rfl, ho3, hs3⟩
      have HB3 := Lib.hid ho3.bs; have HT3 := Lib.hid (HT2.out.trans hs3); clear ho3
      refine ⟨hs3, reg_more (fun w' => Same u3 w') (fun w' h => hs3.trans h) _ _ _ _ ?_⟩
      try simp only [Act.put, List.setIfInBounds_toArray, List.set_cons_zero, List.set_cons_succ]
      refine reg_take (v := ?_) 9 (some 90) rfl rfl (by kernel_rfl) (fun _ _ _ h => h) (by kernel_rfl) (Same.refl u3) ?_ ?_
      rotate_left
      · (intro w' hw'; have hr := (HR2 w' v3 (HB3.out.same hw')).out; go_simp; try with_reducible rfl)
      try simp only [Act.put, List.setIfInBounds_toArray, List.set_cons_zero, List.set_cons_succ]
      refine reg_take (v := ?_) 10 (some 91) rfl rfl (by kernel_rfl) (fun _ _ _ h => h) (by kernel_rfl) (Same.refl u3) ?_ ?_
      rotate_left
      · (intro w' hw'; obtain ⟨c0, c1, c2, c3, c4⟩ := HXx.out w' (HT3.out.trans hw'); obtain ⟨d0, d1, d2, d3, d4⟩ := HYx.out w' (HT3.out.trans hw'); go_simp; try with_reducible rfl)
      try simp only [Act.put, List.setIfInBounds_toArray, List.set_cons_zero, List.set_cons_succ]
      refine reg_take (v := ?_) 14 (some 95) rfl rfl (by kernel_rfl) (fun _ _ _ h => h) (by kernel_rfl) (Same.refl u3) ?_ ?_
      rotate_left
      · (intro w' hw'; obtain ⟨c0, c1, c2, c3, c4⟩ := HXx.out w' (HT3.out.trans hw'); obtain ⟨d0, d1, d2, d3, d4⟩ := HYx.out w' (HT3.out.trans hw'); go_simp; try with_reducible rfl)
      try simp only [Act.put, List.setIfInBounds_toArray, List.set_cons_zero, List.set_cons_succ]
      refine reg_take (v := ?_) 15 (some 96) rfl rfl (by kernel_rfl) (fun _ _ _ h => h) (by kernel_rfl) (Same.refl u3) ?_ ?_
      rotate_left
      · (intro w' hw'; obtain ⟨c0, c1, c2, c3, c4⟩ := HXx.out w' (HT3.out.trans hw'); obtain ⟨d0, d1, d2, d3, d4⟩ := HYx.out w' (HT3.out.trans hw'); go_simp; try with_reducible rfl)
      try simp only [Act.put, List.setIfInBounds_toArray, List.set_cons_zero, List.set_cons_succ]
      refine reg_take (v := ?_) 16 (some 97) rfl rfl (by kernel_rfl) (fun _ _ _ h => h) (by kernel_rfl) (Same.refl u3) ?_ ?_
      rotate_left
      · (intro w' hw'; obtain ⟨c0, c1, c2, c3, c4⟩ := HXx.out w' (HT3.out.trans hw'); obtain ⟨d0, d1, d2, d3, d4⟩ := HYx.out w' (HT3.out.trans hw'); go_simp; try with_reducible rfl)
      try simp only [Act.put, List.setIfInBounds_toArray, List.set_cons_zero, List.set_cons_succ]
      refine reg_one 17 rfl (by kernel_rfl) (by kernel_rfl) ?_
      go_simp
      refine ((HL _).out).mono ?_
      rintro e u4 ⟨rfl, hs4⟩
      have HT4 := Lib.hid (HT3.out.trans hs4)
      refine ⟨hs4, reg_more (fun w' => Same u4 w') (fun w' h => hs4.trans h) _ _ _ _ ?_⟩
      try simp only [Act.put, List.setIfInBounds_toArray, List.set_cons_zero, List.set_cons_succ]
      refine reg_take (v := ?_) 18 (some 99) rfl rfl (by kernel_rfl) (fun _ _ _ h => h) (by kernel_rfl) (Same.refl u4) ?_ ?_
      rotate_left
      · (intro w' hw'; go_simp; try with_reducible rfl)
      try simp only [Act.put, List.setIfInBounds_toArray, List.set_cons_zero, List.set_cons_succ]
      refine reg_take (v := ?_) 19 (some 6) rfl rfl (by kernel_rfl) (fun _ _ _ h => h) (by kernel_rfl) (Same.refl u4) ?_ ?_
      rotate_left
      · (intro w' hw'; go_simp; try with_reducible rfl)
      try simp only [Act.put, List.setIfInBounds_toArray, List.set_cons_zero, List.set_cons_succ]
      refine reg_done (by kernel_rfl) ?_
      clear hs1 hs2 hs3 hs4
      go_wp2_with fail
      go_ret
      exact ⟨rfl, HW9.out.trans HT4.out⟩
    · have he : eqFl ⟨17, q1, q2, q3, q4⟩ ⟨r0, r1, r2, r3, r4⟩ = false := decide_eq_false hfg
      rw [show decide (bytesF ⟨17, q1, q2, q3, q4⟩ = bytesF ⟨r0, r1, r2, r3, r4⟩) = false from decide_eq_false (fun h => hfg (hinj h))] at hstr
      clear hinj hfg hgg hg rf rg
      generalize (⟨(bytesF ⟨17, q1, q2, q3, q4⟩).toArray⟩ : ByteArray) = st1 at *
      generalize (⟨(bytesF ⟨r0, r1, r2, r3, r4⟩).toArray⟩ : ByteArray) = st2 at *
      have HT0 : Hid (Same W9 W9.drew) := (Same.refl W9).drew
      refine reg_start (fun w' => Same W9.drew w') (by kernel_rfl) ?_
      refine reg_take (v := ?_) 0 (some 81) rfl rfl (by kernel_rfl) (fun _ _ _ h => h) (by kernel_rfl) (Same.refl W9.drew) ?_ ?_
      rotate_left
      · (intro w' hw'; obtain ⟨c0, c1, c2, c3, c4⟩ := HXx.out w' (HT0.out.trans hw'); obtain ⟨d0, d1, d2, d3, d4⟩ := HYx.out w' (HT0.out.trans hw'); go_simp; try with_reducible rfl)
      try simp only [Act.put, List.setIfInBounds_toArray, List.set_cons_zero, List.set_cons_succ]
      refine reg_one 1 rfl (by kernel_rfl) (by kernel_rfl) ?_
      go_simp
      refine ((HGg _).out).mono ?_
      rintro e u1 ⟨rfl, hs1⟩
      have HT1 := Lib.hid (HT0.out.trans hs1)
      refine ⟨hs1, reg_more (fun w' => Same u1 w') (fun w' h => hs1.trans h) _ _ _ _ ?_⟩
      try simp only [Act.put, List.setIfInBounds_toArray, List.set_cons_zero, List.set_cons_succ]
      refine reg_take (v := ?_) 2 (some 83) rfl rfl (by kernel_rfl) (fun _ _ _ h => h) (by kernel_rfl) (Same.refl u1) ?_ ?_
      rotate_left
      · (intro w' hw'; obtain ⟨c0, c1, c2, c3, c4⟩ := HXx.out w' (HT1.out.trans hw'); obtain ⟨d0, d1, d2, d3, d4⟩ := HYx.out w' (HT1.out.trans hw'); go_simp; try with_reducible rfl)
      try simp only [Act.put, List.setIfInBounds_toArray, List.set_cons_zero, List.set_cons_succ]
      refine reg_take (v := ?_) 3 (some 84) rfl rfl (by kernel_rfl) (fun _ _ _ h => h) (by kernel_rfl) (Same.refl u1) ?_ ?_
      rotate_left
      · (intro w' hw'; obtain ⟨c0, c1, c2, c3, c4⟩ := HXx.out w' (HT1.out.trans hw'); obtain ⟨d0, d1, d2, d3, d4⟩ := HYx.out w' (HT1.out.trans hw'); go_simp; try with_reducible rfl)
      try simp only [Act.put, List.setIfInBounds_toArray, List.set_cons_zero, List.set_cons_succ]
      refine reg_take (v := ?_) 4 (some 85) rfl rfl (by kernel_rfl) (fun _ _ _ h => h) (by kernel_rfl) (Same.refl u1) ?_ ?_
      rotate_left
      · (intro w' hw'; obtain ⟨c0, c1, c2, c3, c4⟩ := HXx.out w' (HT1.out.trans hw'); obtain ⟨d0, d1, d2, d3, d4⟩ := HYx.out w' (HT1.out.trans hw'); go_simp; try with_reducible rfl)
      try simp only [Act.put, List.setIfInBounds_toArray, List.set_cons_zero, List.set_cons_succ]
      refine reg_take (v := ?_) 7 (some 88) rfl rfl (by kernel_rfl) (fun _ _ _ h => h) (by kernel_rfl) (Same.refl u1) ?_ ?_
      rotate_left
      · (intro w' hw'; obtain ⟨c0, c1, c2, c3, c4⟩ := HXx.out w' (HT1.out.trans hw'); obtain ⟨d0, d1, d2, d3, d4⟩ := HYx.out w' (HT1.out.trans hw'); go_simp; try with_reducible rfl)
      try simp only [Act.put, List.setIfInBounds_toArray, List.set_cons_zero, List.set_cons_succ]
      refine reg_take (v := ?_) 11 (some 92) rfl rfl (by kernel_rfl) (fun _ _ _ h => h) (by kernel_rfl) (Same.refl u1) ?_ ?_
      rotate_left
      · (intro w' hw'; obtain ⟨c0, c1, c2, c3, c4⟩ := HXx.out w' (HT1.out.trans hw'); obtain ⟨d0, d1, d2, d3, d4⟩ := HYx.out w' (HT1.out.trans hw'); go_simp; try with_reducible rfl)
      try simp only [Act.put, List.setIfInBounds_toArray, List.set_cons_zero, List.set_cons_succ]
      refine reg_take (v := ?_) 12 (some 93) rfl rfl (by kernel_rfl) (fun _ _ _ h => h) (by kernel_rfl) (Same.refl u1) ?_ ?_
      rotate_left
      · (intro w' hw'; obtain ⟨c0, c1, c2, c3, c4⟩ := HXx.out w' (HT1.out.trans hw'); obtain ⟨d0, d1, d2, d3, d4⟩ := HYx.out w' (HT1.out.trans hw'); go_simp; try with_reducible rfl)
      try simp only [Act.put, List.setIfInBounds_toArray, List.set_cons_zero, List.set_cons_succ]
      refine reg_take (v := ?_) 13 (some 94) rfl rfl (by kernel_rfl) (fun _ _ _ h => h) (by kernel_rfl) (Same.refl u1) ?_ ?_
      rotate_left
      · (intro w' hw'; obtain ⟨c0, c1, c2, c3, c4⟩ := HXx.out w' (HT1.out.trans hw'); obtain ⟨d0, d1, d2, d3, d4⟩ := HYx.out w' (HT1.out.trans hw'); go_simp; try with_reducible rfl)
      try simp only [Act.put, List.setIfInBounds_toArray, List.set_cons_zero, List.set_cons_succ]
      refine reg_one 5 rfl (by kernel_rfl) (by kernel_rfl) ?_
      go_simp
      refine ((HBf _).out).mono ?_
      rintro e u2 ⟨v2, rfl, ho2, hs2⟩
      have HB2 := Lib.hid ho2.bs; have HT2 := Lib.hid (HT1.out.trans hs2); clear ho2
      refine ⟨hs2, reg_more (fun w' => Same u2 w') (fun w' h => hs2.trans h) _ _ _ _ ?_⟩
      try simp only [Act.put, List.setIfInBounds_toArray, List.set_cons_zero, List.set_cons_succ]
      refine reg_take (v := ?_) 6 (some 87) rfl rfl (by kernel_rfl) (fun _ _ _ h => h) (by kernel_rfl) (Same.refl u2) ?_ ?_
      rotate_left
      · (intro w' hw'; have hr := (HR1 w' v2 (HB2.out.same hw')).out; go_simp; try with_reducible rfl)
      try simp only [Act.put, List.setIfInBounds_toArray, List.set_cons_zero, List.set_cons_succ]
      refine reg_one 8 rfl (by kernel_rfl) (by kernel_rfl) ?_
      go_simp
      refine ((HBg _).out).mono ?_
      rintro e u3 ⟨v3, rfl, ho3, hs3⟩
      have HB3 := Lib.hid ho3.bs; have HT3 := Lib.hid (HT2.out.trans hs3); clear ho3
      refine ⟨hs3, reg_more (fun w' => Same u3 w') (fun w' h => hs3.trans h) _ _ _ _ ?_⟩
      try simp only [Act.put, List.setIfInBounds_toArray, List.set_cons_zero, List.set_cons_succ]
      refine reg_take (v := ?_) 9 (some 90) rfl rfl (by kernel_rfl) (fun _ _ _ h => h) (by kernel_rfl) (Same.refl u3) ?_ ?_
      rotate_left
      · (intro w' hw'; have hr := (HR2 w' v3 (HB3.out.same hw')).out; go_simp; try with_reducible rfl)
      try simp only [Act.put, List.setIfInBounds_toArray, List.set_cons_zero, List.set_cons_succ]
      refine reg_take (v := ?_) 10 (some 91) rfl rfl (by kernel_rfl) (fun _ _ _ h => h) (by kernel_rfl) (Same.refl u3) ?_ ?_
      rotate_left
      · (intro w' hw'; obtain ⟨c0, c1, c2, c3, c4⟩ := HXx.out w' (HT3.out.trans hw'); obtain ⟨d0, d1, d2, d3, d4⟩ := HYx.out w' (HT3.out.trans hw'); go_simp; try with_reducible rfl)
      try simp only [Act.put, List.setIfInBounds_toArray, List.set_cons_zero, List.set_cons_succ]
      refine reg_take (v := ?_) 14 (some 95) rfl rfl (by kernel_rfl) (fun _ _ _ h => h) (by kernel_rfl) (Same.refl u3) ?_ ?_
      rotate_left
      · (intro w' hw'; obtain ⟨c0, c1, c2, c3, c4⟩ := HXx.out w' (HT3.out.trans hw'); obtain ⟨d0, d1, d2, d3, d4⟩ := HYx.out w' (HT3.out.trans hw'); go_simp; try with_reducible rfl)
      try simp only [Act.put, List.setIfInBounds_toArray, List.set_cons_zero, List.set_cons_succ]
      refine reg_take (v := ?_) 15 (some 96) rfl rfl (by kernel_rfl) (fun _ _ _ h => h) (by kernel_rfl) (Same.refl u3) ?_ ?_
      rotate_left
      · (intro w' hw'; obtain ⟨c0, c1, c2, c3, c4⟩ := HXx.out w' (HT3.out.trans hw'); obtain ⟨d0, d1, d2, d3, d4⟩ := HYx.out w' (HT3.out.trans hw'); go_simp; try with_reducible rfl)
      try simp only [Act.put, List.setIfInBounds_toArray, List.set_cons_zero, List.set_cons_succ]
      refine reg_take (v := ?_) 16 (some 97) rfl rfl (by kernel_rfl) (fun _ _ _ h => h) (by kernel_rfl) (Same.refl u3) ?_ ?_
      rotate_left
      · (intro w' hw'; obtain ⟨c0, c1, c2, c3, c4⟩ := HXx.out w' (HT3.out.trans hw'); obtain ⟨d0, d1, d2, d3, d4⟩ := HYx.out w' (HT3.out.trans hw'); go_simp; try with_reducible rfl)
      try simp only [Act.put, List.setIfInBounds_toArray, List.set_cons_zero, List.set_cons_succ]
      refine reg_one 17 rfl (by kernel_rfl) (by kernel_rfl) ?_
      go_simp
      refine ((HL _).out).mono ?_
      rintro e u4 ⟨rfl, hs4⟩
      have HT4 := Lib.hid (HT3.out.trans hs4)
      refine ⟨hs4, reg_more (fun w' => Same u4 w') (fun w' h => hs4.trans h) _ _ _ _ ?_⟩
      try simp only [Act.put, List.setIfInBounds_toArray, List.set_cons_zero, List.set_cons_succ]
      refine reg_take (v := ?_) 18 (some 99) rfl rfl (by kernel_rfl) (fun _ _ _ h => h) (by kernel_rfl) (Same.refl u4) ?_ ?_
      rotate_left
      · (intro w' hw'; go_simp; try with_reducible rfl)
      try simp only [Act.put, List.setIfInBounds_toArray, List.set_cons_zero, List.set_cons_succ]
      refine reg_take (v := ?_) 19 (some 6) rfl rfl (by kernel_rfl) (fun _ _ _ h => h) (by kernel_rfl) (Same.refl u4) ?_ ?_
      rotate_left
      · (intro w' hw'; go_simp; try with_reducible rfl)
      try simp only [Act.put, List.setIfInBounds_toArray, List.set_cons_zero, List.set_cons_succ]
      refine reg_done (by kernel_rfl) ?_
      clear hs1 hs2 hs3 hs4
      go_wp2_with fail
      go_ret
      exact ⟨rfl, HW9.out.trans HT4.out⟩
  · rw [show decide (goodF ⟨r0, r1, r2, r3, r4⟩) = false from decide_eq_false hgg] at HGg
    clear hgg hg rf rg
    refine reg_start (fun w' => Same W9 w') (by kernel_rfl) ?_
    refine reg_take (v := ?_) 0 (some 81) rfl rfl (by kernel_rfl) (fun _ _ _ h => h) (by kernel_rfl) ((Same.refl W9).drew) ?_ ?_
    rotate_left
    · (intro w' hw'; obtain ⟨c0, c1, c2, c3, c4⟩ := HXx.out w' hw'; obtain ⟨d0, d1, d2, d3, d4⟩ := HYx.out w' hw'; go_simp; try with_reducible rfl)
    try simp only [Act.put, List.setIfInBounds_toArray, List.set_cons_zero, List.set_cons_succ]
    refine reg_one 1 rfl (by kernel_rfl) (by kernel_rfl) ?_
    go_simp
    refine ((HGg _).out).mono ?_
    rintro e u1 ⟨rfl, hs1⟩
    have hS1 := ((Same.refl W9).drew).trans hs1
    skip
    refine ⟨hS1, ?_⟩
    try simp only [Act.put, List.setIfInBounds_toArray, List.set_cons_zero, List.set_cons_succ]
    refine reg_take (v := ?_) 2 (some 83) rfl rfl (by kernel_rfl) (fun _ _ _ h => h) (by kernel_rfl) (hS1) ?_ ?_
    rotate_left
    · (intro w' hw'; obtain ⟨c0, c1, c2, c3, c4⟩ := HXx.out w' hw'; obtain ⟨d0, d1, d2, d3, d4⟩ := HYx.out w' hw'; go_simp; try with_reducible rfl)
    try simp only [Act.put, List.setIfInBounds_toArray, List.set_cons_zero, List.set_cons_succ]
    refine reg_take (v := ?_) 3 (some 84) rfl rfl (by kernel_rfl) (fun _ _ _ h => h) (by kernel_rfl) (hS1) ?_ ?_
    rotate_left
    · (intro w' hw'; obtain ⟨c0, c1, c2, c3, c4⟩ := HXx.out w' hw'; obtain ⟨d0, d1, d2, d3, d4⟩ := HYx.out w' hw'; go_simp; try with_reducible rfl)
    try simp only [Act.put, List.setIfInBounds_toArray, List.set_cons_zero, List.set_cons_succ]
    refine reg_skip 4 (some 85) rfl rfl (by kernel_rfl) (fun _ _ _ h => h) (by kernel_rfl) (hS1) ?_
    try simp only [Act.put, List.setIfInBounds_toArray, List.set_cons_zero, List.set_cons_succ]
    refine reg_skip 5 (some 86) rfl rfl (by kernel_rfl) (fun _ _ _ h => h) (by kernel_rfl) (hS1) ?_
    try simp only [Act.put, List.setIfInBounds_toArray, List.set_cons_zero, List.set_cons_succ]
    refine reg_skip 6 (some 87) rfl rfl (by kernel_rfl) (fun _ _ _ h => h) (by kernel_rfl) (hS1) ?_
    try simp only [Act.put, List.setIfInBounds_toArray, List.set_cons_zero, List.set_cons_succ]
    refine reg_skip 7 (some 88) rfl rfl (by kernel_rfl) (fun _ _ _ h => h) (by kernel_rfl) (hS1) ?_
    try simp only [Act.put, List.setIfInBounds_toArray, List.set_cons_zero, List.set_cons_succ]
    refine reg_skip 8 (some 89) rfl rfl (by kernel_rfl) (fun _ _ _ h => h) (by kernel_rfl) (hS1) ?_
    try simp only [Act.put, List.setIfInBounds_toArray, List.set_cons_zero, List.set_cons_succ]
    refine reg_skip 9 (some 90) rfl rfl (by kernel_rfl) (fun _ _ _ h => h) (by kernel_rfl) (hS1) ?_
    try simp only [Act.put, List.setIfInBounds_toArray, List.set_cons_zero, List.set_cons_succ]
    refine reg_skip 10 (some 91) rfl rfl (by kernel_rfl) (fun _ _ _ h => h) (by kernel_rfl) (hS1) ?_
    try simp only [Act.put, List.setIfInBounds_toArray, List.set_cons_zero, List.set_cons_succ]
    refine reg_skip 11 (some 92) rfl rfl (by kernel_rfl) (fun _ _ _ h => h) (by kernel_rfl) (hS1) ?_
    try simp only [Act.put, List.setIfInBounds_toArray, List.set_cons_zero, List.set_cons_succ]
    refine reg_skip 12 (some 93) rfl rfl (by kernel_rfl) (fun _ _ _ h => h) (by kernel_rfl) (hS1) ?_
    try simp only [Act.put, List.setIfInBounds_toArray, List.set_cons_zero, List.set_cons_succ]
    refine reg_skip 13 (some 94) rfl rfl (by kernel_rfl) (fun _ _ _ h => h) (by kernel_rfl) (hS1) ?_
    try simp only [Act.put, List.setIfInBounds_toArray, List.set_cons_zero, List.set_cons_succ]
    refine reg_skip 14 (some 95) rfl rfl (by kernel_rfl) (fun _ _ _ h => h) (by kernel_rfl) (hS1) ?_
    try simp only [Act.put, List.setIfInBounds_toArray, List.set_cons_zero, List.set_cons_succ]
    refine reg_take (v := ?_) 15 (some 96) rfl rfl (by kernel_rfl) (fun _ _ _ h => h) (by kernel_rfl) (hS1) ?_ ?_
    rotate_left
    · (intro w' hw'; obtain ⟨c0, c1, c2, c3, c4⟩ := HXx.out w' hw'; obtain ⟨d0, d1, d2, d3, d4⟩ := HYx.out w' hw'; go_simp; try with_reducible rfl)
    try simp only [Act.put, List.setIfInBounds_toArray, List.set_cons_zero, List.set_cons_succ]
    refine reg_take (v := ?_) 16 (some 97) rfl rfl (by kernel_rfl) (fun _ _ _ h => h) (by kernel_rfl) (hS1) ?_ ?_
    rotate_left
    · (intro w' hw'; obtain ⟨c0, c1, c2, c3, c4⟩ := HXx.out w' hw'; obtain ⟨d0, d1, d2, d3, d4⟩ := HYx.out w' hw'; go_simp; try with_reducible rfl)
    try simp only [Act.put, List.setIfInBounds_toArray, List.set_cons_zero, List.set_cons_succ]
    refine reg_one 17 rfl (by kernel_rfl) (by kernel_rfl) ?_
    go_simp
    refine ((HL _).out).mono ?_
    rintro e u2 ⟨rfl, hs2⟩
    have hS2 := (hS1).trans hs2
    skip
    refine ⟨hS2, ?_⟩
    try simp only [Act.put, List.setIfInBounds_toArray, List.set_cons_zero, List.set_cons_succ]
    refine reg_take (v := ?_) 18 (some 99) rfl rfl (by kernel_rfl) (fun _ _ _ h => h) (by kernel_rfl) (hS2) ?_ ?_
    rotate_left
    · (intro w' hw'; obtain ⟨c0, c1, c2, c3, c4⟩ := HXx.out w' hw'; obtain ⟨d0, d1, d2, d3, d4⟩ := HYx.out w' hw'; go_simp; try with_reducible rfl)
    try simp only [Act.put, List.setIfInBounds_toArray, List.set_cons_zero, List.set_cons_succ]
    refine reg_take (v := ?_) 19 (some 6) rfl rfl (by kernel_rfl) (fun _ _ _ h => h) (by kernel_rfl) (hS2) ?_ ?_
    rotate_left
    · (intro w' hw'; obtain ⟨c0, c1, c2, c3, c4⟩ := HXx.out w' hw'; obtain ⟨d0, d1, d2, d3, d4⟩ := HYx.out w' hw'; go_simp; try with_reducible rfl)
    try simp only [Act.put, List.setIfInBounds_toArray, List.set_cons_zero, List.set_cons_succ]
    refine reg_done (by kernel_rfl) ?_
    have HSz := Lib.hid hS2
    clear hs1 hs2 hS1 hS2
    go_wp2_with fail
    go_ret
    exact ⟨rfl, HW9.out.trans HSz.out⟩

set_option maxRecDepth 100000 in
set_option maxHeartbeats 2000000 in
theorem pback_tcp (f g : Fl) (hg : goodF f) (hp : f.proto = 6) (rf : (0 ≤ f.src ∧ f.src ≤ 4294967295) ∧ (0 ≤ f.dst ∧ f.dst ≤ 4294967295)) (rg : (0 ≤ g.src ∧ g.src ≤ 4294967295) ∧ (0 ≤ g.dst ∧ g.dst ≤ 4294967295)) (v : Value) (p : List UInt8) (w : World) (hb : Bs w v p) (hl : ¬ 3000 < (p.length : Int)) :
    Calls Try.prog 4 #[flV f, flV g, v] w fun e w' => e = .returned (.bool true) ∧ Same w w' := by
  have HG := fun w => Lib.hid (poGood_any f w)
  rw [show decide (goodF f) = true from decide_eq_true hg] at HG
  have HBk := fun w => Lib.hid (poBack_any f w)
  have HBb := fun w => Lib.hid (poBack_any (backF f) w)
  rw [show backF (backF f) = f from rfl] at HBb
  have hg2 := hg.2
  have HGg := fun w => Lib.hid (poGood_any g w)
  have HU := fun v w hb => Lib.hid (poUdp_any f rf v p w hb (by omega))
  have HTc := fun v w hb => Lib.hid (poTcp_any f rf 2 v p w hb (by omega))
  obtain ⟨u1, u2, u3⟩ := of_tcp f hg2 rf 2 p (by omega)
  rw [show (2 : Int) % 256 = 2 from rfl] at u3
  have HUb := fun v w hb => Lib.hid (poUdp_any (backF f) ⟨rf.2, rf.1⟩ v p w hb (by omega))
  obtain ⟨k1, k2, k3⟩ := of_udp (backF f) ⟨hg2.2, hg2.1⟩ ⟨rf.2, rf.1⟩ p (by omega)
  have HOb := fun v w hb => Lib.hid (poOf_any v (tcpB f 2 p) w hb)
  rw [show ofV (tcpB f 2 p) = .tuple #[sgV (ofG (tcpB f 2 p)), .int .i64 (ofE (tcpB f 2 p))] from rfl, u2, u3] at HOb
  have HOc := fun v w hb => Lib.hid (poOf_any v (udpB (backF f) p) w hb)
  rw [show ofV (udpB (backF f) p) = .tuple #[sgV (ofG (udpB (backF f) p)), .int .i64 (ofE (udpB (backF f) p))] from rfl, k2, k3] at HOc
  clear u1 u2 u3 k1 k2 k3
  generalize tcpB f 2 p = LB at *
  generalize udpB f p = LD at *
  generalize udpB (backF f) p = LC at *
  have HB := Lib.hid hb
  have HL := fun w => Lib.hid (po_lives w)
  obtain ⟨q0, q1, q2, q3, q4⟩ := f
  obtain ⟨r0, r1, r2, r3, r4⟩ := g
  simp only [backF] at HBk HBb HUb HOb HOc hp
  obtain ⟨ao, cap, rfl, -, -, -, -⟩ := hb
  obtain ⟨W0, hW⟩ : ∃ W0, W0 = (w.alloc (flO 31 ⟨q0, q1, q2, q3, q4⟩)).alloc (flO 31 ⟨r0, r1, r2, r3, r4⟩) := ⟨_, rfl⟩
  have HX : Hid (∀ w', Same W0 w' → FlAt w' w.heap.size ⟨q0, q1, q2, q3, q4⟩) := by
    rw [hW]
    exact fun w' hw => FlAt.of (hw.block ((Same.alloc _ _).block (heap_alloc_new w (flO 31 ⟨q0, q1, q2, q3, q4⟩))))
  have HY : Hid (∀ w', Same W0 w' → FlAt w' (w.heap.size + 1) ⟨r0, r1, r2, r3, r4⟩) := by
    rw [hW]
    exact fun w' hw => FlAt.of (hw.block (by have := heap_alloc_new (w.alloc (flO 31 ⟨q0, q1, q2, q3, q4⟩)) (flO 31 ⟨r0, r1, r2, r3, r4⟩); rwa [World.size_alloc] at this))
  have H0 : Hid (Same w W0) := by rw [hW]; exact (Same.alloc w _).trans (Same.alloc _ _)
  subst hp
  clear hg2
  go_enter Try.func4, Try.ntmps4
  go_wp2_with fail
  rw [← hW]
  clear hW
  refine reg_start (fun w' => Same W0 w') (by kernel_rfl) ?_
  refine reg_take (v := ?_) 0 (some 18) rfl rfl (by kernel_rfl) (fun _ _ _ h => h) (by kernel_rfl) ((Same.refl W0).drew) ?_ ?_
  rotate_left
  · (intro w' hw'; obtain ⟨c0, c1, c2, c3, c4⟩ := HX.out w' hw'; go_simp; try with_reducible rfl)
  try simp only [Act.put, List.setIfInBounds_toArray, List.set_cons_zero, List.set_cons_succ]
  refine reg_take (v := ?_) 3 (some 21) rfl rfl (by kernel_rfl) (fun _ _ _ h => h) (by kernel_rfl) ((Same.refl W0).drew) ?_ ?_
  rotate_left
  · (intro w' hw'; obtain ⟨c0, c1, c2, c3, c4⟩ := HX.out w' hw'; go_simp; try with_reducible rfl)
  try simp only [Act.put, List.setIfInBounds_toArray, List.set_cons_zero, List.set_cons_succ]
  refine reg_one 1 rfl (by kernel_rfl) (by kernel_rfl) ?_
  go_simp
  refine ((HBk _).out).mono ?_
  rintro e u1 ⟨rfl, hs1⟩
  have hS1 := ((Same.refl W0).drew).trans hs1
  skip
  refine ⟨hS1, ?_⟩
  try simp only [Act.put, List.setIfInBounds_toArray, List.set_cons_zero, List.set_cons_succ]
  refine reg_one 2 rfl (by kernel_rfl) (by kernel_rfl) ?_
  go_simp
  refine ((HBb _).out).mono ?_
  rintro e u2 ⟨rfl, hs2⟩
  have hS2 := (hS1).trans hs2
  skip
  refine ⟨hS2, ?_⟩
  try simp only [Act.put, List.setIfInBounds_toArray, List.set_cons_zero, List.set_cons_succ]
  refine reg_take (v := ?_) 4 (some 22) rfl rfl (by kernel_rfl) (fun _ _ _ h => h) (by kernel_rfl) (hS2) ?_ ?_
  rotate_left
  · (intro w' hw'; obtain ⟨c0, c1, c2, c3, c4⟩ := HX.out w' hw'; go_simp; try with_reducible rfl)
  try simp only [Act.put, List.setIfInBounds_toArray, List.set_cons_zero, List.set_cons_succ]
  refine reg_done (by kernel_rfl) ?_
  have HS2 := Lib.hid hS2
  clear hs1 hs2 hS1 hS2
  obtain ⟨c0, c1, c2, c3, c4⟩ := HX.out u2 HS2.out
  go_wp2_with fail
  refine (HG _).out.mono ?_
  rintro e w1 ⟨rfl, hs1⟩
  have HS3 := Lib.hid (HS2.out.trans hs1)
  clear hs1 c0 c1 c2 c3 c4
  obtain ⟨c0, c1, c2, c3, c4⟩ := HX.out w1 HS3.out
  go_wp2_with fail
  refine (HU _ _ (HB.out.same (H0.out.trans HS3.out))).out.mono ?_
  rintro e w4 ⟨vb, rfl, ho4, hs4⟩
  have HB4 := Lib.hid ho4.bs
  have HS4 := Lib.hid (HS3.out.trans hs4)
  obtain ⟨a4, n4, p4, rfl⟩ := ho4.slice
  clear ho4 hs4 c0 c1 c2 c3 c4
  obtain ⟨c0, c1, c2, c3, c4⟩ := HX.out w4 HS4.out
  go_wp2_with fail
  refine (HTc _ _ (HB.out.same (H0.out.trans HS4.out))).out.mono ?_
  rintro e w4b ⟨vd, rfl, ho4, hs4⟩
  have HB4b := Lib.hid ho4.bs
  have HS4b := Lib.hid (HS4.out.trans hs4)
  obtain ⟨ax, nx, px, rfl⟩ := ho4.slice
  clear ho4 hs4 c0 c1 c2 c3 c4
  obtain ⟨c0, c1, c2, c3, c4⟩ := HX.out w4b HS4b.out
  go_wp2_with fail
  refine (HBk _).out.mono ?_
  rintro e w5 ⟨rfl, hs5⟩
  have HS5 := Lib.hid (HS4b.out.trans hs5)
  have HB5 := Lib.hid (HB4b.out.same hs5)
  clear hs5 HB4 HB4b
  go_wp2_with fail
  refine (HUb _ _ (HB.out.same (H0.out.trans HS5.out))).out.mono ?_
  rintro e w5b ⟨vc, rfl, ho5, hs5⟩
  have HC5 := Lib.hid ho5.bs
  have HS5b := Lib.hid (HS5.out.trans hs5)
  have HB5b := Lib.hid (HB5.out.same hs5)
  obtain ⟨a5, n5, p5, rfl⟩ := ho5.slice
  clear ho5 hs5 HB5
  go_wp2_with fail
  refine (HOb _ _ HB5b.out).out.mono ?_
  rintro e w6 ⟨rfl, hs6⟩
  have HS6 := Lib.hid (HS5b.out.trans hs6)

  have HA6 := Lib.hid (Same.alloc w6 (sgO 33 ⟨⟨6, q1, q2, q3, q4⟩, 2, 20 + (p.length : Int)⟩))
  have HKA := Lib.hid (heap_alloc_new w6 (sgO 33 ⟨⟨6, q1, q2, q3, q4⟩, 2, 20 + (p.length : Int)⟩))
  go_wp2_with fail
  refine (HOc _ _ (HC5.out.same (hs6.trans HA6.out))).out.mono ?_
  rintro e w7 ⟨rfl, hs7⟩
  have HS7 := Lib.hid ((HS6.out.trans HA6.out).trans hs7)
  have HA7 := Lib.hid (Same.alloc w7 (sgO 33 ⟨⟨17, q2, q1, q4, q3⟩, 0, 8 + (p.length : Int)⟩))
  have HKA7 := Lib.hid ((hs7.trans HA7.out).block HKA.out)
  have HKB7 := Lib.hid (heap_alloc_new w7 (sgO 33 ⟨⟨17, q2, q1, q4, q3⟩, 0, 8 + (p.length : Int)⟩))
  clear hs6 hs7 c0 c1 c2 c3 c4
  obtain ⟨c0, c1, c2, c3, c4⟩ := HX.out _ (HS7.out.trans HA7.out)
  go_wp2_with fail
  refine (HBk _).out.mono ?_
  rintro e w8 ⟨rfl, hs8⟩
  have HS8 := Lib.hid ((HS7.out.trans HA7.out).trans hs8)
  have HA8 := Lib.hid (Same.alloc w8 (flO 31 ⟨17, q2, q1, q4, q3⟩))
  obtain ⟨s0, s1, s2, s3, s4, s5, s6⟩ := SgAt.of ((hs8.trans HA8.out).block HKA7.out)
  obtain ⟨t0, t1, t2, t3, t4, t5, t6⟩ := SgAt.of ((hs8.trans HA8.out).block HKB7.out)
  obtain ⟨b0, b1, b2, b3, b4⟩ := FlAt.of (heap_alloc_new w8 (flO 31 ⟨17, q2, q1, q4, q3⟩))
  clear hs8 c0 c1 c2 c3 c4
  obtain ⟨c0, c1, c2, c3, c4⟩ := HX.out _ (HS8.out.trans HA8.out)
  have HS9 := Lib.hid (HS8.out.trans HA8.out)
  have HYx := Lib.hid (fun w' hw => HY.out w' (HS9.out.trans hw))
  have HXx := Lib.hid (fun w' hw => HX.out w' (HS9.out.trans hw))
  have HW9 := Lib.hid (H0.out.trans HS9.out)
  have zx : bits .xor .i64 0 1 = 1 := by decide
  go_wp2_with fail
  clear c0 c1 c2 c3 c4 b0 b1 b2 b3 b4 t0 t1 t2 t3 t4 t5 t6 s0 s1 s2 s3 s4 s5 s6 HB HUb HU HTc HOb HOc HX HY HKA HKA7 HKB7 HS8 HS9 HA8 HB5b HC5
  generalize (w8.alloc (flO 31 ⟨17, q2, q1, q4, q3⟩)) = W9 at *
  by_cases hgg : goodF ⟨r0, r1, r2, r3, r4⟩
  · rw [show decide (goodF ⟨r0, r1, r2, r3, r4⟩) = true from decide_eq_true hgg] at HGg
    have HBf := fun w => Lib.hid (poBytes_any ⟨6, q1, q2, q3, q4⟩ w)
    have HBg := fun w => Lib.hid (poBytes_any ⟨r0, r1, r2, r3, r4⟩ w)
    have HR1 := fun w' v hb => Lib.hid (run_str w' v (bytesF ⟨6, q1, q2, q3, q4⟩) hb)
    have HR2 := fun w' v hb => Lib.hid (run_str w' v (bytesF ⟨r0, r1, r2, r3, r4⟩) hb)
    have hstr := str_same (bytesF ⟨6, q1, q2, q3, q4⟩) (bytesF ⟨r0, r1, r2, r3, r4⟩)
    have hinj := bytesF_inj ⟨6, q1, q2, q3, q4⟩ ⟨r0, r1, r2, r3, r4⟩ hg hgg rf rg
    by_cases hfg : (⟨6, q1, q2, q3, q4⟩ : Fl) = ⟨r0, r1, r2, r3, r4⟩
    · have he : eqFl ⟨6, q1, q2, q3, q4⟩ ⟨r0, r1, r2, r3, r4⟩ = true := decide_eq_true hfg
      rw [show decide (bytesF ⟨6, q1, q2, q3, q4⟩ = bytesF ⟨r0, r1, r2, r3, r4⟩) = true from decide_eq_true (by rw [hfg])] at hstr
      clear hinj hfg hgg hg rf rg
      generalize (⟨(bytesF ⟨6, q1, q2, q3, q4⟩).toArray⟩ : ByteArray) = st1 at *
      generalize (⟨(bytesF ⟨r0, r1, r2, r3, r4⟩).toArray⟩ : ByteArray) = st2 at *
      have HT0 : Hid (Same W9 W9.drew) := (Same.refl W9).drew
      refine reg_start (fun w' => Same W9.drew w') (by kernel_rfl) ?_
      refine reg_take (v := ?_) 0 (some 81) rfl rfl (by kernel_rfl) (fun _ _ _ h => h) (by kernel_rfl) (Same.refl W9.drew) ?_ ?_
      rotate_left
      · (intro w' hw'; obtain ⟨c0, c1, c2, c3, c4⟩ := HXx.out w' (HT0.out.trans hw'); obtain ⟨d0, d1, d2, d3, d4⟩ := HYx.out w' (HT0.out.trans hw'); go_simp; try with_reducible rfl)
      try simp only [Act.put, List.setIfInBounds_toArray, List.set_cons_zero, List.set_cons_succ]
      refine reg_one 1 rfl (by kernel_rfl) (by kernel_rfl) ?_
      go_simp
      refine ((HGg _).out).mono ?_
      rintro e u1 ⟨rfl, hs1⟩
      have HT1 := Lib.hid (HT0.out.trans hs1)
      refine ⟨hs1, reg_more (fun w' => Same u1 w') (fun w' h => hs1.trans h) _ _ _ _ ?_⟩
      try simp only [Act.put, List.setIfInBounds_toArray, List.set_cons_zero, List.set_cons_succ]
      refine reg_take (v := ?_) 2 (some 83) rfl rfl (by kernel_rfl) (fun _ _ _ h => h) (by kernel_rfl) (Same.refl u1) ?_ ?_
      rotate_left
      · (intro w' hw'; obtain ⟨c0, c1, c2, c3, c4⟩ := HXx.out w' (HT1.out.trans hw'); obtain ⟨d0, d1, d2, d3, d4⟩ := HYx.out w' (HT1.out.trans hw'); go_simp; try with_reducible rfl)
      try simp only [Act.put, List.setIfInBounds_toArray, List.set_cons_zero, List.set_cons_succ]
      refine reg_take (v := ?_) 3 (some 84) rfl rfl (by kernel_rfl) (fun _ _ _ h => h) (by kernel_rfl) (Same.refl u1) ?_ ?_
      rotate_left
      · (intro w' hw'; obtain ⟨c0, c1, c2, c3, c4⟩ := HXx.out w' (HT1.out.trans hw'); obtain ⟨d0, d1, d2, d3, d4⟩ := HYx.out w' (HT1.out.trans hw'); go_simp; try with_reducible rfl)
      try simp only [Act.put, List.setIfInBounds_toArray, List.set_cons_zero, List.set_cons_succ]
      refine reg_take (v := ?_) 4 (some 85) rfl rfl (by kernel_rfl) (fun _ _ _ h => h) (by kernel_rfl) (Same.refl u1) ?_ ?_
      rotate_left
      · (intro w' hw'; obtain ⟨c0, c1, c2, c3, c4⟩ := HXx.out w' (HT1.out.trans hw'); obtain ⟨d0, d1, d2, d3, d4⟩ := HYx.out w' (HT1.out.trans hw'); go_simp; try with_reducible rfl)
      try simp only [Act.put, List.setIfInBounds_toArray, List.set_cons_zero, List.set_cons_succ]
      refine reg_take (v := ?_) 7 (some 88) rfl rfl (by kernel_rfl) (fun _ _ _ h => h) (by kernel_rfl) (Same.refl u1) ?_ ?_
      rotate_left
      · (intro w' hw'; obtain ⟨c0, c1, c2, c3, c4⟩ := HXx.out w' (HT1.out.trans hw'); obtain ⟨d0, d1, d2, d3, d4⟩ := HYx.out w' (HT1.out.trans hw'); go_simp; try with_reducible rfl)
      try simp only [Act.put, List.setIfInBounds_toArray, List.set_cons_zero, List.set_cons_succ]
      refine reg_take (v := ?_) 11 (some 92) rfl rfl (by kernel_rfl) (fun _ _ _ h => h) (by kernel_rfl) (Same.refl u1) ?_ ?_
      rotate_left
      · (intro w' hw'; obtain ⟨c0, c1, c2, c3, c4⟩ := HXx.out w' (HT1.out.trans hw'); obtain ⟨d0, d1, d2, d3, d4⟩ := HYx.out w' (HT1.out.trans hw'); go_simp; try with_reducible rfl)
      try simp only [Act.put, List.setIfInBounds_toArray, List.set_cons_zero, List.set_cons_succ]
      refine reg_take (v := ?_) 12 (some 93) rfl rfl (by kernel_rfl) (fun _ _ _ h => h) (by kernel_rfl) (Same.refl u1) ?_ ?_
      rotate_left
      · (intro w' hw'; obtain ⟨c0, c1, c2, c3, c4⟩ := HXx.out w' (HT1.out.trans hw'); obtain ⟨d0, d1, d2, d3, d4⟩ := HYx.out w' (HT1.out.trans hw'); go_simp; try with_reducible rfl)
      try simp only [Act.put, List.setIfInBounds_toArray, List.set_cons_zero, List.set_cons_succ]
      refine reg_take (v := ?_) 13 (some 94) rfl rfl (by kernel_rfl) (fun _ _ _ h => h) (by kernel_rfl) (Same.refl u1) ?_ ?_
      rotate_left
      · (intro w' hw'; obtain ⟨c0, c1, c2, c3, c4⟩ := HXx.out w' (HT1.out.trans hw'); obtain ⟨d0, d1, d2, d3, d4⟩ := HYx.out w' (HT1.out.trans hw'); go_simp; try with_reducible rfl)
      try simp only [Act.put, List.setIfInBounds_toArray, List.set_cons_zero, List.set_cons_succ]
      refine reg_one 5 rfl (by kernel_rfl) (by kernel_rfl) ?_
      go_simp
      refine ((HBf _).out).mono ?_
      rintro e u2 ⟨v2, rfl, ho2, hs2⟩
      have HB2 := Lib.hid ho2.bs; have HT2 := Lib.hid (HT1.out.trans hs2); clear ho2
      refine ⟨hs2, reg_more (fun w' => Same u2 w') (fun w' h => hs2.trans h) _ _ _ _ ?_⟩
      try simp only [Act.put, List.setIfInBounds_toArray, List.set_cons_zero, List.set_cons_succ]
      refine reg_take (v := ?_) 6 (some 87) rfl rfl (by kernel_rfl) (fun _ _ _ h => h) (by kernel_rfl) (Same.refl u2) ?_ ?_
      rotate_left
      · (intro w' hw'; have hr := (HR1 w' v2 (HB2.out.same hw')).out; go_simp; try with_reducible rfl)
      try simp only [Act.put, List.setIfInBounds_toArray, List.set_cons_zero, List.set_cons_succ]
      refine reg_one 8 rfl (by kernel_rfl) (by kernel_rfl) ?_
      go_simp
      refine ((HBg _).out).mono ?_
      rintro e u3 ⟨v3, rfl, ho3, hs3⟩
      have HB3 := Lib.hid ho3.bs; have HT3 := Lib.hid (HT2.out.trans hs3); clear ho3
      refine ⟨hs3, reg_more (fun w' => Same u3 w') (fun w' h => hs3.trans h) _ _ _ _ ?_⟩
      try simp only [Act.put, List.setIfInBounds_toArray, List.set_cons_zero, List.set_cons_succ]
      refine reg_take (v := ?_) 9 (some 90) rfl rfl (by kernel_rfl) (fun _ _ _ h => h) (by kernel_rfl) (Same.refl u3) ?_ ?_
      rotate_left
      · (intro w' hw'; have hr := (HR2 w' v3 (HB3.out.same hw')).out; go_simp; try with_reducible rfl)
      try simp only [Act.put, List.setIfInBounds_toArray, List.set_cons_zero, List.set_cons_succ]
      refine reg_take (v := ?_) 10 (some 91) rfl rfl (by kernel_rfl) (fun _ _ _ h => h) (by kernel_rfl) (Same.refl u3) ?_ ?_
      rotate_left
      · (intro w' hw'; obtain ⟨c0, c1, c2, c3, c4⟩ := HXx.out w' (HT3.out.trans hw'); obtain ⟨d0, d1, d2, d3, d4⟩ := HYx.out w' (HT3.out.trans hw'); go_simp; try with_reducible rfl)
      try simp only [Act.put, List.setIfInBounds_toArray, List.set_cons_zero, List.set_cons_succ]
      refine reg_take (v := ?_) 14 (some 95) rfl rfl (by kernel_rfl) (fun _ _ _ h => h) (by kernel_rfl) (Same.refl u3) ?_ ?_
      rotate_left
      · (intro w' hw'; obtain ⟨c0, c1, c2, c3, c4⟩ := HXx.out w' (HT3.out.trans hw'); obtain ⟨d0, d1, d2, d3, d4⟩ := HYx.out w' (HT3.out.trans hw'); go_simp; try with_reducible rfl)
      try simp only [Act.put, List.setIfInBounds_toArray, List.set_cons_zero, List.set_cons_succ]
      refine reg_take (v := ?_) 15 (some 96) rfl rfl (by kernel_rfl) (fun _ _ _ h => h) (by kernel_rfl) (Same.refl u3) ?_ ?_
      rotate_left
      · (intro w' hw'; obtain ⟨c0, c1, c2, c3, c4⟩ := HXx.out w' (HT3.out.trans hw'); obtain ⟨d0, d1, d2, d3, d4⟩ := HYx.out w' (HT3.out.trans hw'); go_simp; try with_reducible rfl)
      try simp only [Act.put, List.setIfInBounds_toArray, List.set_cons_zero, List.set_cons_succ]
      refine reg_take (v := ?_) 16 (some 97) rfl rfl (by kernel_rfl) (fun _ _ _ h => h) (by kernel_rfl) (Same.refl u3) ?_ ?_
      rotate_left
      · (intro w' hw'; obtain ⟨c0, c1, c2, c3, c4⟩ := HXx.out w' (HT3.out.trans hw'); obtain ⟨d0, d1, d2, d3, d4⟩ := HYx.out w' (HT3.out.trans hw'); go_simp; try with_reducible rfl)
      try simp only [Act.put, List.setIfInBounds_toArray, List.set_cons_zero, List.set_cons_succ]
      refine reg_one 17 rfl (by kernel_rfl) (by kernel_rfl) ?_
      go_simp
      refine ((HL _).out).mono ?_
      rintro e u4 ⟨rfl, hs4⟩
      have HT4 := Lib.hid (HT3.out.trans hs4)
      refine ⟨hs4, reg_more (fun w' => Same u4 w') (fun w' h => hs4.trans h) _ _ _ _ ?_⟩
      try simp only [Act.put, List.setIfInBounds_toArray, List.set_cons_zero, List.set_cons_succ]
      refine reg_take (v := ?_) 18 (some 99) rfl rfl (by kernel_rfl) (fun _ _ _ h => h) (by kernel_rfl) (Same.refl u4) ?_ ?_
      rotate_left
      · (intro w' hw'; go_simp; try with_reducible rfl)
      try simp only [Act.put, List.setIfInBounds_toArray, List.set_cons_zero, List.set_cons_succ]
      refine reg_take (v := ?_) 19 (some 6) rfl rfl (by kernel_rfl) (fun _ _ _ h => h) (by kernel_rfl) (Same.refl u4) ?_ ?_
      rotate_left
      · (intro w' hw'; go_simp; try with_reducible rfl)
      try simp only [Act.put, List.setIfInBounds_toArray, List.set_cons_zero, List.set_cons_succ]
      refine reg_done (by kernel_rfl) ?_
      clear hs1 hs2 hs3 hs4
      go_wp2_with fail
      go_ret
      exact ⟨rfl, HW9.out.trans HT4.out⟩
    · have he : eqFl ⟨6, q1, q2, q3, q4⟩ ⟨r0, r1, r2, r3, r4⟩ = false := decide_eq_false hfg
      rw [show decide (bytesF ⟨6, q1, q2, q3, q4⟩ = bytesF ⟨r0, r1, r2, r3, r4⟩) = false from decide_eq_false (fun h => hfg (hinj h))] at hstr
      clear hinj hfg hgg hg rf rg
      generalize (⟨(bytesF ⟨6, q1, q2, q3, q4⟩).toArray⟩ : ByteArray) = st1 at *
      generalize (⟨(bytesF ⟨r0, r1, r2, r3, r4⟩).toArray⟩ : ByteArray) = st2 at *
      have HT0 : Hid (Same W9 W9.drew) := (Same.refl W9).drew
      refine reg_start (fun w' => Same W9.drew w') (by kernel_rfl) ?_
      refine reg_take (v := ?_) 0 (some 81) rfl rfl (by kernel_rfl) (fun _ _ _ h => h) (by kernel_rfl) (Same.refl W9.drew) ?_ ?_
      rotate_left
      · (intro w' hw'; obtain ⟨c0, c1, c2, c3, c4⟩ := HXx.out w' (HT0.out.trans hw'); obtain ⟨d0, d1, d2, d3, d4⟩ := HYx.out w' (HT0.out.trans hw'); go_simp; try with_reducible rfl)
      try simp only [Act.put, List.setIfInBounds_toArray, List.set_cons_zero, List.set_cons_succ]
      refine reg_one 1 rfl (by kernel_rfl) (by kernel_rfl) ?_
      go_simp
      refine ((HGg _).out).mono ?_
      rintro e u1 ⟨rfl, hs1⟩
      have HT1 := Lib.hid (HT0.out.trans hs1)
      refine ⟨hs1, reg_more (fun w' => Same u1 w') (fun w' h => hs1.trans h) _ _ _ _ ?_⟩
      try simp only [Act.put, List.setIfInBounds_toArray, List.set_cons_zero, List.set_cons_succ]
      refine reg_take (v := ?_) 2 (some 83) rfl rfl (by kernel_rfl) (fun _ _ _ h => h) (by kernel_rfl) (Same.refl u1) ?_ ?_
      rotate_left
      · (intro w' hw'; obtain ⟨c0, c1, c2, c3, c4⟩ := HXx.out w' (HT1.out.trans hw'); obtain ⟨d0, d1, d2, d3, d4⟩ := HYx.out w' (HT1.out.trans hw'); go_simp; try with_reducible rfl)
      try simp only [Act.put, List.setIfInBounds_toArray, List.set_cons_zero, List.set_cons_succ]
      refine reg_take (v := ?_) 3 (some 84) rfl rfl (by kernel_rfl) (fun _ _ _ h => h) (by kernel_rfl) (Same.refl u1) ?_ ?_
      rotate_left
      · (intro w' hw'; obtain ⟨c0, c1, c2, c3, c4⟩ := HXx.out w' (HT1.out.trans hw'); obtain ⟨d0, d1, d2, d3, d4⟩ := HYx.out w' (HT1.out.trans hw'); go_simp; try with_reducible rfl)
      try simp only [Act.put, List.setIfInBounds_toArray, List.set_cons_zero, List.set_cons_succ]
      refine reg_take (v := ?_) 4 (some 85) rfl rfl (by kernel_rfl) (fun _ _ _ h => h) (by kernel_rfl) (Same.refl u1) ?_ ?_
      rotate_left
      · (intro w' hw'; obtain ⟨c0, c1, c2, c3, c4⟩ := HXx.out w' (HT1.out.trans hw'); obtain ⟨d0, d1, d2, d3, d4⟩ := HYx.out w' (HT1.out.trans hw'); go_simp; try with_reducible rfl)
      try simp only [Act.put, List.setIfInBounds_toArray, List.set_cons_zero, List.set_cons_succ]
      refine reg_take (v := ?_) 7 (some 88) rfl rfl (by kernel_rfl) (fun _ _ _ h => h) (by kernel_rfl) (Same.refl u1) ?_ ?_
      rotate_left
      · (intro w' hw'; obtain ⟨c0, c1, c2, c3, c4⟩ := HXx.out w' (HT1.out.trans hw'); obtain ⟨d0, d1, d2, d3, d4⟩ := HYx.out w' (HT1.out.trans hw'); go_simp; try with_reducible rfl)
      try simp only [Act.put, List.setIfInBounds_toArray, List.set_cons_zero, List.set_cons_succ]
      refine reg_take (v := ?_) 11 (some 92) rfl rfl (by kernel_rfl) (fun _ _ _ h => h) (by kernel_rfl) (Same.refl u1) ?_ ?_
      rotate_left
      · (intro w' hw'; obtain ⟨c0, c1, c2, c3, c4⟩ := HXx.out w' (HT1.out.trans hw'); obtain ⟨d0, d1, d2, d3, d4⟩ := HYx.out w' (HT1.out.trans hw'); go_simp; try with_reducible rfl)
      try simp only [Act.put, List.setIfInBounds_toArray, List.set_cons_zero, List.set_cons_succ]
      refine reg_take (v := ?_) 12 (some 93) rfl rfl (by kernel_rfl) (fun _ _ _ h => h) (by kernel_rfl) (Same.refl u1) ?_ ?_
      rotate_left
      · (intro w' hw'; obtain ⟨c0, c1, c2, c3, c4⟩ := HXx.out w' (HT1.out.trans hw'); obtain ⟨d0, d1, d2, d3, d4⟩ := HYx.out w' (HT1.out.trans hw'); go_simp; try with_reducible rfl)
      try simp only [Act.put, List.setIfInBounds_toArray, List.set_cons_zero, List.set_cons_succ]
      refine reg_take (v := ?_) 13 (some 94) rfl rfl (by kernel_rfl) (fun _ _ _ h => h) (by kernel_rfl) (Same.refl u1) ?_ ?_
      rotate_left
      · (intro w' hw'; obtain ⟨c0, c1, c2, c3, c4⟩ := HXx.out w' (HT1.out.trans hw'); obtain ⟨d0, d1, d2, d3, d4⟩ := HYx.out w' (HT1.out.trans hw'); go_simp; try with_reducible rfl)
      try simp only [Act.put, List.setIfInBounds_toArray, List.set_cons_zero, List.set_cons_succ]
      refine reg_one 5 rfl (by kernel_rfl) (by kernel_rfl) ?_
      go_simp
      refine ((HBf _).out).mono ?_
      rintro e u2 ⟨v2, rfl, ho2, hs2⟩
      have HB2 := Lib.hid ho2.bs; have HT2 := Lib.hid (HT1.out.trans hs2); clear ho2
      refine ⟨hs2, reg_more (fun w' => Same u2 w') (fun w' h => hs2.trans h) _ _ _ _ ?_⟩
      try simp only [Act.put, List.setIfInBounds_toArray, List.set_cons_zero, List.set_cons_succ]
      refine reg_take (v := ?_) 6 (some 87) rfl rfl (by kernel_rfl) (fun _ _ _ h => h) (by kernel_rfl) (Same.refl u2) ?_ ?_
      rotate_left
      · (intro w' hw'; have hr := (HR1 w' v2 (HB2.out.same hw')).out; go_simp; try with_reducible rfl)
      try simp only [Act.put, List.setIfInBounds_toArray, List.set_cons_zero, List.set_cons_succ]
      refine reg_one 8 rfl (by kernel_rfl) (by kernel_rfl) ?_
      go_simp
      refine ((HBg _).out).mono ?_
      rintro e u3 ⟨v3, rfl, ho3, hs3⟩
      have HB3 := Lib.hid ho3.bs; have HT3 := Lib.hid (HT2.out.trans hs3); clear ho3
      refine ⟨hs3, reg_more (fun w' => Same u3 w') (fun w' h => hs3.trans h) _ _ _ _ ?_⟩
      try simp only [Act.put, List.setIfInBounds_toArray, List.set_cons_zero, List.set_cons_succ]
      refine reg_take (v := ?_) 9 (some 90) rfl rfl (by kernel_rfl) (fun _ _ _ h => h) (by kernel_rfl) (Same.refl u3) ?_ ?_
      rotate_left
      · (intro w' hw'; have hr := (HR2 w' v3 (HB3.out.same hw')).out; go_simp; try with_reducible rfl)
      try simp only [Act.put, List.setIfInBounds_toArray, List.set_cons_zero, List.set_cons_succ]
      refine reg_take (v := ?_) 10 (some 91) rfl rfl (by kernel_rfl) (fun _ _ _ h => h) (by kernel_rfl) (Same.refl u3) ?_ ?_
      rotate_left
      · (intro w' hw'; obtain ⟨c0, c1, c2, c3, c4⟩ := HXx.out w' (HT3.out.trans hw'); obtain ⟨d0, d1, d2, d3, d4⟩ := HYx.out w' (HT3.out.trans hw'); go_simp; try with_reducible rfl)
      try simp only [Act.put, List.setIfInBounds_toArray, List.set_cons_zero, List.set_cons_succ]
      refine reg_take (v := ?_) 14 (some 95) rfl rfl (by kernel_rfl) (fun _ _ _ h => h) (by kernel_rfl) (Same.refl u3) ?_ ?_
      rotate_left
      · (intro w' hw'; obtain ⟨c0, c1, c2, c3, c4⟩ := HXx.out w' (HT3.out.trans hw'); obtain ⟨d0, d1, d2, d3, d4⟩ := HYx.out w' (HT3.out.trans hw'); go_simp; try with_reducible rfl)
      try simp only [Act.put, List.setIfInBounds_toArray, List.set_cons_zero, List.set_cons_succ]
      refine reg_take (v := ?_) 15 (some 96) rfl rfl (by kernel_rfl) (fun _ _ _ h => h) (by kernel_rfl) (Same.refl u3) ?_ ?_
      rotate_left
      · (intro w' hw'; obtain ⟨c0, c1, c2, c3, c4⟩ := HXx.out w' (HT3.out.trans hw'); obtain ⟨d0, d1, d2, d3, d4⟩ := HYx.out w' (HT3.out.trans hw'); go_simp; try with_reducible rfl)
      try simp only [Act.put, List.setIfInBounds_toArray, List.set_cons_zero, List.set_cons_succ]
      refine reg_take (v := ?_) 16 (some 97) rfl rfl (by kernel_rfl) (fun _ _ _ h => h) (by kernel_rfl) (Same.refl u3) ?_ ?_
      rotate_left
      · (intro w' hw'; obtain ⟨c0, c1, c2, c3, c4⟩ := HXx.out w' (HT3.out.trans hw'); obtain ⟨d0, d1, d2, d3, d4⟩ := HYx.out w' (HT3.out.trans hw'); go_simp; try with_reducible rfl)
      try simp only [Act.put, List.setIfInBounds_toArray, List.set_cons_zero, List.set_cons_succ]
      refine reg_one 17 rfl (by kernel_rfl) (by kernel_rfl) ?_
      go_simp
      refine ((HL _).out).mono ?_
      rintro e u4 ⟨rfl, hs4⟩
      have HT4 := Lib.hid (HT3.out.trans hs4)
      refine ⟨hs4, reg_more (fun w' => Same u4 w') (fun w' h => hs4.trans h) _ _ _ _ ?_⟩
      try simp only [Act.put, List.setIfInBounds_toArray, List.set_cons_zero, List.set_cons_succ]
      refine reg_take (v := ?_) 18 (some 99) rfl rfl (by kernel_rfl) (fun _ _ _ h => h) (by kernel_rfl) (Same.refl u4) ?_ ?_
      rotate_left
      · (intro w' hw'; go_simp; try with_reducible rfl)
      try simp only [Act.put, List.setIfInBounds_toArray, List.set_cons_zero, List.set_cons_succ]
      refine reg_take (v := ?_) 19 (some 6) rfl rfl (by kernel_rfl) (fun _ _ _ h => h) (by kernel_rfl) (Same.refl u4) ?_ ?_
      rotate_left
      · (intro w' hw'; go_simp; try with_reducible rfl)
      try simp only [Act.put, List.setIfInBounds_toArray, List.set_cons_zero, List.set_cons_succ]
      refine reg_done (by kernel_rfl) ?_
      clear hs1 hs2 hs3 hs4
      go_wp2_with fail
      go_ret
      exact ⟨rfl, HW9.out.trans HT4.out⟩
  · rw [show decide (goodF ⟨r0, r1, r2, r3, r4⟩) = false from decide_eq_false hgg] at HGg
    clear hgg hg rf rg
    refine reg_start (fun w' => Same W9 w') (by kernel_rfl) ?_
    refine reg_take (v := ?_) 0 (some 81) rfl rfl (by kernel_rfl) (fun _ _ _ h => h) (by kernel_rfl) ((Same.refl W9).drew) ?_ ?_
    rotate_left
    · (intro w' hw'; obtain ⟨c0, c1, c2, c3, c4⟩ := HXx.out w' hw'; obtain ⟨d0, d1, d2, d3, d4⟩ := HYx.out w' hw'; go_simp; try with_reducible rfl)
    try simp only [Act.put, List.setIfInBounds_toArray, List.set_cons_zero, List.set_cons_succ]
    refine reg_one 1 rfl (by kernel_rfl) (by kernel_rfl) ?_
    go_simp
    refine ((HGg _).out).mono ?_
    rintro e u1 ⟨rfl, hs1⟩
    have hS1 := ((Same.refl W9).drew).trans hs1
    skip
    refine ⟨hS1, ?_⟩
    try simp only [Act.put, List.setIfInBounds_toArray, List.set_cons_zero, List.set_cons_succ]
    refine reg_take (v := ?_) 2 (some 83) rfl rfl (by kernel_rfl) (fun _ _ _ h => h) (by kernel_rfl) (hS1) ?_ ?_
    rotate_left
    · (intro w' hw'; obtain ⟨c0, c1, c2, c3, c4⟩ := HXx.out w' hw'; obtain ⟨d0, d1, d2, d3, d4⟩ := HYx.out w' hw'; go_simp; try with_reducible rfl)
    try simp only [Act.put, List.setIfInBounds_toArray, List.set_cons_zero, List.set_cons_succ]
    refine reg_take (v := ?_) 3 (some 84) rfl rfl (by kernel_rfl) (fun _ _ _ h => h) (by kernel_rfl) (hS1) ?_ ?_
    rotate_left
    · (intro w' hw'; obtain ⟨c0, c1, c2, c3, c4⟩ := HXx.out w' hw'; obtain ⟨d0, d1, d2, d3, d4⟩ := HYx.out w' hw'; go_simp; try with_reducible rfl)
    try simp only [Act.put, List.setIfInBounds_toArray, List.set_cons_zero, List.set_cons_succ]
    refine reg_skip 4 (some 85) rfl rfl (by kernel_rfl) (fun _ _ _ h => h) (by kernel_rfl) (hS1) ?_
    try simp only [Act.put, List.setIfInBounds_toArray, List.set_cons_zero, List.set_cons_succ]
    refine reg_skip 5 (some 86) rfl rfl (by kernel_rfl) (fun _ _ _ h => h) (by kernel_rfl) (hS1) ?_
    try simp only [Act.put, List.setIfInBounds_toArray, List.set_cons_zero, List.set_cons_succ]
    refine reg_skip 6 (some 87) rfl rfl (by kernel_rfl) (fun _ _ _ h => h) (by kernel_rfl) (hS1) ?_
    try simp only [Act.put, List.setIfInBounds_toArray, List.set_cons_zero, List.set_cons_succ]
    refine reg_skip 7 (some 88) rfl rfl (by kernel_rfl) (fun _ _ _ h => h) (by kernel_rfl) (hS1) ?_
    try simp only [Act.put, List.setIfInBounds_toArray, List.set_cons_zero, List.set_cons_succ]
    refine reg_skip 8 (some 89) rfl rfl (by kernel_rfl) (fun _ _ _ h => h) (by kernel_rfl) (hS1) ?_
    try simp only [Act.put, List.setIfInBounds_toArray, List.set_cons_zero, List.set_cons_succ]
    refine reg_skip 9 (some 90) rfl rfl (by kernel_rfl) (fun _ _ _ h => h) (by kernel_rfl) (hS1) ?_
    try simp only [Act.put, List.setIfInBounds_toArray, List.set_cons_zero, List.set_cons_succ]
    refine reg_skip 10 (some 91) rfl rfl (by kernel_rfl) (fun _ _ _ h => h) (by kernel_rfl) (hS1) ?_
    try simp only [Act.put, List.setIfInBounds_toArray, List.set_cons_zero, List.set_cons_succ]
    refine reg_skip 11 (some 92) rfl rfl (by kernel_rfl) (fun _ _ _ h => h) (by kernel_rfl) (hS1) ?_
    try simp only [Act.put, List.setIfInBounds_toArray, List.set_cons_zero, List.set_cons_succ]
    refine reg_skip 12 (some 93) rfl rfl (by kernel_rfl) (fun _ _ _ h => h) (by kernel_rfl) (hS1) ?_
    try simp only [Act.put, List.setIfInBounds_toArray, List.set_cons_zero, List.set_cons_succ]
    refine reg_skip 13 (some 94) rfl rfl (by kernel_rfl) (fun _ _ _ h => h) (by kernel_rfl) (hS1) ?_
    try simp only [Act.put, List.setIfInBounds_toArray, List.set_cons_zero, List.set_cons_succ]
    refine reg_skip 14 (some 95) rfl rfl (by kernel_rfl) (fun _ _ _ h => h) (by kernel_rfl) (hS1) ?_
    try simp only [Act.put, List.setIfInBounds_toArray, List.set_cons_zero, List.set_cons_succ]
    refine reg_take (v := ?_) 15 (some 96) rfl rfl (by kernel_rfl) (fun _ _ _ h => h) (by kernel_rfl) (hS1) ?_ ?_
    rotate_left
    · (intro w' hw'; obtain ⟨c0, c1, c2, c3, c4⟩ := HXx.out w' hw'; obtain ⟨d0, d1, d2, d3, d4⟩ := HYx.out w' hw'; go_simp; try with_reducible rfl)
    try simp only [Act.put, List.setIfInBounds_toArray, List.set_cons_zero, List.set_cons_succ]
    refine reg_take (v := ?_) 16 (some 97) rfl rfl (by kernel_rfl) (fun _ _ _ h => h) (by kernel_rfl) (hS1) ?_ ?_
    rotate_left
    · (intro w' hw'; obtain ⟨c0, c1, c2, c3, c4⟩ := HXx.out w' hw'; obtain ⟨d0, d1, d2, d3, d4⟩ := HYx.out w' hw'; go_simp; try with_reducible rfl)
    try simp only [Act.put, List.setIfInBounds_toArray, List.set_cons_zero, List.set_cons_succ]
    refine reg_one 17 rfl (by kernel_rfl) (by kernel_rfl) ?_
    go_simp
    refine ((HL _).out).mono ?_
    rintro e u2 ⟨rfl, hs2⟩
    have hS2 := (hS1).trans hs2
    skip
    refine ⟨hS2, ?_⟩
    try simp only [Act.put, List.setIfInBounds_toArray, List.set_cons_zero, List.set_cons_succ]
    refine reg_take (v := ?_) 18 (some 99) rfl rfl (by kernel_rfl) (fun _ _ _ h => h) (by kernel_rfl) (hS2) ?_ ?_
    rotate_left
    · (intro w' hw'; obtain ⟨c0, c1, c2, c3, c4⟩ := HXx.out w' hw'; obtain ⟨d0, d1, d2, d3, d4⟩ := HYx.out w' hw'; go_simp; try with_reducible rfl)
    try simp only [Act.put, List.setIfInBounds_toArray, List.set_cons_zero, List.set_cons_succ]
    refine reg_take (v := ?_) 19 (some 6) rfl rfl (by kernel_rfl) (fun _ _ _ h => h) (by kernel_rfl) (hS2) ?_ ?_
    rotate_left
    · (intro w' hw'; obtain ⟨c0, c1, c2, c3, c4⟩ := HXx.out w' hw'; obtain ⟨d0, d1, d2, d3, d4⟩ := HYx.out w' hw'; go_simp; try with_reducible rfl)
    try simp only [Act.put, List.setIfInBounds_toArray, List.set_cons_zero, List.set_cons_succ]
    refine reg_done (by kernel_rfl) ?_
    have HSz := Lib.hid hS2
    clear hs1 hs2 hS1 hS2
    go_wp2_with fail
    go_ret
    exact ⟨rfl, HW9.out.trans HSz.out⟩
end Go.Proofs.Ytcemdajkddidnaa
