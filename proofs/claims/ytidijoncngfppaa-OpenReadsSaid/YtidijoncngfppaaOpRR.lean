/- Layer 8: OpenReads' walk over OpenC. No condition beyond what it names. -/
import Derived.Test.YtidijoncngfppaaOpRP
namespace Go.Proofs.Ytidijoncngfppaa
open Go.RowKit
set_option linter.unusedVariables false

theorem capsA_len : ∀ (f : Nat) (v : List UInt8) (a : Nat) (cs : List Cp), capsA f v a = some cs → a + cs.length ≤ max a v.length
  | 0, v, a, cs, h => by cases h; simp; omega
  | f + 1, v, a, cs, h => by
    rw [capsA] at h
    split at h
    · cases h; simp; omega
    · split at h
      · cases h
      · split at h
        · cases h
        · obtain ⟨ys, hys, rfl⟩ := Option.map_eq_some_iff.1 h
          have h2 := capsA_len f v _ ys hys
          simp only [List.length_cons]
          omega
theorem parsA_len : ∀ (f : Nat) (l : List UInt8) (a : Nat) (acc cs : List Cp), parsA f l a acc = .inr cs → a + cs.length ≤ max a l.length + acc.length
  | 0, l, a, acc, cs, h => by cases h; omega
  | f + 1, l, a, acc, cs, h => by
    rw [parsA] at h
    split at h
    · cases h; omega
    · split at h
      · cases h
      · split at h
        · cases h
        · split at h
          · cases h
          · split at h
            · cases h
            · rename_i hc
              have h1 := capsA_len _ _ _ _ hc
              have h2 := parsA_len f l _ _ cs h
              rw [List.length_append] at h2
              rw [List.length_take, List.length_drop] at h1
              omega
theorem parseO_len (l : List UInt8) (asn : Int) : (parseO l asn).1.caps.length ≤ l.length := by
  unfold parseO
  split
  · simp [zeroOq]
  · split
    · simp [zeroOq]
    · split
      · simp [zeroOq]
      · split
        · simp [zeroOq]
        · rename_i cs hc
          have := parsA_len _ _ _ _ _ hc
          simp at this ⊢
          omega

set_option maxRecDepth 100000 in
theorem oreads_long (C : OpenC) (v : Value) (l : List UInt8) (asn : Int) (w : World) (hb : Bs w v l) (hl : 3000 < (l.length : Int)) :
    Calls Try.prog 4 #[v, .int .i64 asn] w fun e w' => e = .returned (.bool true) ∧ Same w w' := by
  obtain ⟨ao, cap, rfl, -, -, -, -⟩ := hb
  go_enter Try.func4, Try.ntmps4
  go_wp2_with fail
  refine (op_lives C w).mono ?_
  rintro e w1 ⟨rfl, hs⟩
  have HS := Lib.hid hs
  clear hs
  go_wp2_with fail
  go_ret
  exact ⟨rfl, HS.out⟩

set_option maxRecDepth 100000 in
set_option maxHeartbeats 4000000 in
theorem oreads_walk (C : OpenC) (v : Value) (l : List UInt8) (asn : Int) (w : World) (hb : Bs w v l) (hl : ¬ 3000 < (l.length : Int)) :
    Calls Try.prog 4 #[v, .int .i64 asn] w fun e w' => e = .returned (.bool true) ∧ Same w w' := by
  have HX := fun w hb => Lib.hid (C.parse v l asn w hb (by omega))
  have HY := fun w hb => Lib.hid (rParse8_any v l asn w hb (by omega))
  have HL := fun w => Lib.hid (op_lives C w)
  have HB := Lib.hid hb
  have hlen := parseO_len l asn
  have HPl := fun v w h => Lib.hid (plain8_any (parseO l asn).1 v w h (by omega))
  have HSa := fun va vb w h1 h2 => Lib.hid (rSame8_any (parseO l asn).1 (parseO l asn).1 va vb w h1 h2)
  rw [decide_eq_true (sameO_refl _)] at HSa
  have HF := fun va vb w h1 h2 => Lib.hid (rFaults_same (parseO l asn).2 va vb w h1 h2)
  clear hlen
  generalize (parseO l asn).1 = P at *
  generalize (parseO l asn).2 = G at *
  obtain ⟨p0, p1, p2, p3⟩ := P
  obtain ⟨g0, g1, g2⟩ := G
  simp only at HX HY HPl HSa HF
  obtain ⟨np, hnp⟩ : ∃ n, p3.length = n := ⟨_, rfl⟩
  obtain ⟨ng, hng⟩ : ∃ n, g2.length = n := ⟨_, rfl⟩
  have HNP := Lib.hid hnp
  have HNG := Lib.hid hng
  clear hnp hng
  obtain ⟨ao, cap, rfl, -, -, -, -⟩ := hb
  go_enter Try.func4, Try.ntmps4
  go_wp2_with fail
  refine (HX _ HB.out).out.mono ?_
  rintro e w1 ⟨v1, d1, rfl, hr1, hd1, hs1⟩
  have HS1 := Lib.hid hs1
  have HR1 := Lib.hid hr1
  have HD1 := Lib.hid hd1
  obtain ⟨pa1, pc1, rfl⟩ := hr1.form HNP.out
  obtain ⟨da1, dc1, rfl⟩ := hd1.form0 HNG.out
  clear hs1 hr1 hd1
  have HA1 := Lib.hid ((Same.alloc w1 (oqO 25 ⟨p0, p1, p2, p3⟩ (.slice pa1 np pc1))).trans (Same.alloc (w1.alloc (oqO 25 ⟨p0, p1, p2, p3⟩ (.slice pa1 np pc1))) (ftO 44 ⟨g0, g1, g2⟩ (.slice da1 ng dc1))))
  have HK1 := Lib.hid ((Same.alloc (w1.alloc (oqO 25 ⟨p0, p1, p2, p3⟩ (.slice pa1 np pc1))) (ftO 44 ⟨g0, g1, g2⟩ (.slice da1 ng dc1))).block (heap_alloc_new w1 (oqO 25 ⟨p0, p1, p2, p3⟩ (.slice pa1 np pc1))))
  have HK2 : Hid (((w1.alloc (oqO 25 ⟨p0, p1, p2, p3⟩ (.slice pa1 np pc1))).alloc (ftO 44 ⟨g0, g1, g2⟩ (.slice da1 ng dc1))).heap[w1.heap.size + 1]? = some (ftO 44 ⟨g0, g1, g2⟩ (.slice da1 ng dc1))) := by
    have := heap_alloc_new (w1.alloc (oqO 25 ⟨p0, p1, p2, p3⟩ (.slice pa1 np pc1))) (ftO 44 ⟨g0, g1, g2⟩ (.slice da1 ng dc1))
    rw [show (w1.alloc (oqO 25 ⟨p0, p1, p2, p3⟩ (.slice pa1 np pc1))).heap.size = w1.heap.size + 1 from by simp] at this
    exact this
  go_wp2_with fail
  refine (HY _ (HB.out.same (HS1.out.trans HA1.out))).out.mono ?_
  rintro e w2 ⟨v2, d2, rfl, hr2, hd2, hs2⟩
  have HT2 := Lib.hid (HA1.out.trans hs2)
  have HK3 := Lib.hid (hs2.block HK1.out)
  have HK4 := Lib.hid (hs2.block HK2.out)
  have HR2 := Lib.hid hr2
  have HD2 := Lib.hid hd2
  obtain ⟨pa2, pc2, rfl⟩ := hr2.form HNP.out
  obtain ⟨da2, dc2, rfl⟩ := hd2.form0 HNG.out
  clear hs2 hr2 hd2
  have HA2 := Lib.hid ((Same.alloc w2 (oqO 34 ⟨p0, p1, p2, p3⟩ (.slice pa2 np pc2))).trans (Same.alloc (w2.alloc (oqO 34 ⟨p0, p1, p2, p3⟩ (.slice pa2 np pc2))) (ftO 44 ⟨g0, g1, g2⟩ (.slice da2 ng dc2))))
  have HK5 := Lib.hid ((Same.alloc (w2.alloc (oqO 34 ⟨p0, p1, p2, p3⟩ (.slice pa2 np pc2))) (ftO 44 ⟨g0, g1, g2⟩ (.slice da2 ng dc2))).block (heap_alloc_new w2 (oqO 34 ⟨p0, p1, p2, p3⟩ (.slice pa2 np pc2))))
  have HK6 : Hid (((w2.alloc (oqO 34 ⟨p0, p1, p2, p3⟩ (.slice pa2 np pc2))).alloc (ftO 44 ⟨g0, g1, g2⟩ (.slice da2 ng dc2))).heap[w2.heap.size + 1]? = some (ftO 44 ⟨g0, g1, g2⟩ (.slice da2 ng dc2))) := by
    have := heap_alloc_new (w2.alloc (oqO 34 ⟨p0, p1, p2, p3⟩ (.slice pa2 np pc2))) (ftO 44 ⟨g0, g1, g2⟩ (.slice da2 ng dc2))
    rw [show (w2.alloc (oqO 34 ⟨p0, p1, p2, p3⟩ (.slice pa2 np pc2))).heap.size = w2.heap.size + 1 from by simp] at this
    exact this
  go_wp2_with fail
  have HW0 := Lib.hid ((HS1.out.trans HT2.out).trans HA2.out)
  have HR1a := Lib.hid (HR1.out.same (HT2.out.trans HA2.out))
  have HD1a := Lib.hid (HD1.out.same (HT2.out.trans HA2.out))
  have HR2a := Lib.hid (HR2.out.same HA2.out)
  have HD2a := Lib.hid (HD2.out.same HA2.out)
  have HKb := Lib.hid (HA2.out.block HK3.out)
  have HKc := Lib.hid (HA2.out.block HK4.out)
  generalize ((w2.alloc (oqO 34 ⟨p0, p1, p2, p3⟩ (.slice pa2 np pc2))).alloc (ftO 44 ⟨g0, g1, g2⟩ (.slice da2 ng dc2))) = w5 at *
  clear HR1 HR2 HD1 HD2 HS1 HT2 HA1 HA2 HK1 HK2 HK3 HK4
  refine reg_start (fun w' => Same w5 w') (by kernel_rfl) ?_
  refine reg_take (v := ?_) 0 (some 25) rfl rfl (by kernel_rfl) (fun _ _ _ h => h) (by kernel_rfl) ((Same.refl w5).drew) ?_ ?_
  rotate_left
  · (intro w' hw'; obtain ⟨x0, x1, x2, x3⟩ := OqAt.of (hw'.block HKb.out); obtain ⟨y0, y1, y2⟩ := FtAt.of (hw'.block HKc.out); obtain ⟨z0, z1, z2, z3⟩ := OqAt.of (hw'.block HK5.out); obtain ⟨u0, u1, u2⟩ := FtAt.of (hw'.block HK6.out); go_simp; try with_reducible rfl)
  try simp only [Act.put, List.setIfInBounds_toArray, List.set_cons_zero, List.set_cons_succ]
  refine reg_take (v := ?_) 2 (some 27) rfl rfl (by kernel_rfl) (fun _ _ _ h => h) (by kernel_rfl) ((Same.refl w5).drew) ?_ ?_
  rotate_left
  · (intro w' hw'; obtain ⟨x0, x1, x2, x3⟩ := OqAt.of (hw'.block HKb.out); obtain ⟨y0, y1, y2⟩ := FtAt.of (hw'.block HKc.out); obtain ⟨z0, z1, z2, z3⟩ := OqAt.of (hw'.block HK5.out); obtain ⟨u0, u1, u2⟩ := FtAt.of (hw'.block HK6.out); go_simp; try with_reducible rfl)
  try simp only [Act.put, List.setIfInBounds_toArray, List.set_cons_zero, List.set_cons_succ]
  refine reg_one 1 rfl (by kernel_rfl) (by kernel_rfl) ?_
  go_simp
  refine ((HPl _ _ (HR1a.out.same (Same.refl w5).drew)).out).mono ?_
  rintro e u1 ⟨v6, rfl, hc6, hs1⟩
  have hS1 := ((Same.refl w5).drew).trans hs1
  skip
  refine ⟨hS1, ?_⟩
  try simp only [Act.put, List.setIfInBounds_toArray, List.set_cons_zero, List.set_cons_succ]
  refine reg_one 3 rfl (by kernel_rfl) (by kernel_rfl) ?_
  go_simp
  refine ((HSa _ _ _ hc6 (HR2a.out.same hS1)).out).mono ?_
  rintro e u2 ⟨rfl, hs2⟩
  have hS2 := (hS1).trans hs2
  skip
  refine ⟨hS2, ?_⟩
  try simp only [Act.put, List.setIfInBounds_toArray, List.set_cons_zero, List.set_cons_succ]
  refine reg_take (v := ?_) 4 (some 29) rfl rfl (by kernel_rfl) (fun _ _ _ h => h) (by kernel_rfl) (hS2) ?_ ?_
  rotate_left
  · (intro w' hw'; obtain ⟨x0, x1, x2, x3⟩ := OqAt.of (hw'.block HKb.out); obtain ⟨y0, y1, y2⟩ := FtAt.of (hw'.block HKc.out); obtain ⟨z0, z1, z2, z3⟩ := OqAt.of (hw'.block HK5.out); obtain ⟨u0, u1, u2⟩ := FtAt.of (hw'.block HK6.out); go_simp; try with_reducible rfl)
  try simp only [Act.put, List.setIfInBounds_toArray, List.set_cons_zero, List.set_cons_succ]
  refine reg_take (v := ?_) 5 (some 30) rfl rfl (by kernel_rfl) (fun _ _ _ h => h) (by kernel_rfl) (hS2) ?_ ?_
  rotate_left
  · (intro w' hw'; obtain ⟨x0, x1, x2, x3⟩ := OqAt.of (hw'.block HKb.out); obtain ⟨y0, y1, y2⟩ := FtAt.of (hw'.block HKc.out); obtain ⟨z0, z1, z2, z3⟩ := OqAt.of (hw'.block HK5.out); obtain ⟨u0, u1, u2⟩ := FtAt.of (hw'.block HK6.out); go_simp; try with_reducible rfl)
  try simp only [Act.put, List.setIfInBounds_toArray, List.set_cons_zero, List.set_cons_succ]
  refine reg_take (v := ?_) 6 (some 31) rfl rfl (by kernel_rfl) (fun _ _ _ h => h) (by kernel_rfl) (hS2) ?_ ?_
  rotate_left
  · (intro w' hw'; obtain ⟨x0, x1, x2, x3⟩ := OqAt.of (hw'.block HKb.out); obtain ⟨y0, y1, y2⟩ := FtAt.of (hw'.block HKc.out); obtain ⟨z0, z1, z2, z3⟩ := OqAt.of (hw'.block HK5.out); obtain ⟨u0, u1, u2⟩ := FtAt.of (hw'.block HK6.out); go_simp; try with_reducible rfl)
  try simp only [Act.put, List.setIfInBounds_toArray, List.set_cons_zero, List.set_cons_succ]
  refine reg_one 7 rfl (by kernel_rfl) (by kernel_rfl) ?_
  go_simp
  refine ((HF _ _ _ (HD1a.out.same hS2) (HD2a.out.same hS2)).out).mono ?_
  rintro e u3 ⟨rfl, hs3⟩
  have hS3 := (hS2).trans hs3
  skip
  refine ⟨hS3, ?_⟩
  try simp only [Act.put, List.setIfInBounds_toArray, List.set_cons_zero, List.set_cons_succ]
  refine reg_take (v := ?_) 8 (some 33) rfl rfl (by kernel_rfl) (fun _ _ _ h => h) (by kernel_rfl) (hS3) ?_ ?_
  rotate_left
  · (intro w' hw'; obtain ⟨x0, x1, x2, x3⟩ := OqAt.of (hw'.block HKb.out); obtain ⟨y0, y1, y2⟩ := FtAt.of (hw'.block HKc.out); obtain ⟨z0, z1, z2, z3⟩ := OqAt.of (hw'.block HK5.out); obtain ⟨u0, u1, u2⟩ := FtAt.of (hw'.block HK6.out); go_simp; try with_reducible rfl)
  try simp only [Act.put, List.setIfInBounds_toArray, List.set_cons_zero, List.set_cons_succ]
  refine reg_take (v := ?_) 9 (some 34) rfl rfl (by kernel_rfl) (fun _ _ _ h => h) (by kernel_rfl) (hS3) ?_ ?_
  rotate_left
  · (intro w' hw'; obtain ⟨x0, x1, x2, x3⟩ := OqAt.of (hw'.block HKb.out); obtain ⟨y0, y1, y2⟩ := FtAt.of (hw'.block HKc.out); obtain ⟨z0, z1, z2, z3⟩ := OqAt.of (hw'.block HK5.out); obtain ⟨u0, u1, u2⟩ := FtAt.of (hw'.block HK6.out); go_simp; try with_reducible rfl)
  try simp only [Act.put, List.setIfInBounds_toArray, List.set_cons_zero, List.set_cons_succ]
  refine reg_one 10 rfl (by kernel_rfl) (by kernel_rfl) ?_
  go_simp
  refine ((HL _).out).mono ?_
  rintro e u4 ⟨rfl, hs4⟩
  have hS4 := (hS3).trans hs4
  skip
  refine ⟨hS4, ?_⟩
  try simp only [Act.put, List.setIfInBounds_toArray, List.set_cons_zero, List.set_cons_succ]
  refine reg_take (v := ?_) 11 (some 36) rfl rfl (by kernel_rfl) (fun _ _ _ h => h) (by kernel_rfl) (hS4) ?_ ?_
  rotate_left
  · (intro w' hw'; obtain ⟨x0, x1, x2, x3⟩ := OqAt.of (hw'.block HKb.out); obtain ⟨y0, y1, y2⟩ := FtAt.of (hw'.block HKc.out); obtain ⟨z0, z1, z2, z3⟩ := OqAt.of (hw'.block HK5.out); obtain ⟨u0, u1, u2⟩ := FtAt.of (hw'.block HK6.out); go_simp; try with_reducible rfl)
  try simp only [Act.put, List.setIfInBounds_toArray, List.set_cons_zero, List.set_cons_succ]
  refine reg_take (v := ?_) 12 (some 4) rfl rfl (by kernel_rfl) (fun _ _ _ h => h) (by kernel_rfl) (hS4) ?_ ?_
  rotate_left
  · (intro w' hw'; obtain ⟨x0, x1, x2, x3⟩ := OqAt.of (hw'.block HKb.out); obtain ⟨y0, y1, y2⟩ := FtAt.of (hw'.block HKc.out); obtain ⟨z0, z1, z2, z3⟩ := OqAt.of (hw'.block HK5.out); obtain ⟨u0, u1, u2⟩ := FtAt.of (hw'.block HK6.out); go_simp; try with_reducible rfl)
  try simp only [Act.put, List.setIfInBounds_toArray, List.set_cons_zero, List.set_cons_succ]
  refine reg_done (by kernel_rfl) ?_
  have HS9 := Lib.hid (HW0.out.trans hS4)
  clear hS1 hS2 hS3 hS4 hs1 hs2 hs3 hs4 hc6
  go_wp2_with fail
  go_ret
  exact ⟨rfl, HS9.out⟩
end Go.Proofs.Ytidijoncngfppaa
