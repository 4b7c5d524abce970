/- Layer 7: what is asked of attr's functions; the document's example and the walks of the four laws over it. No condition beyond what each names. -/
import Derived.Test.YtfhaaenmllkbnaaAtRQ
import Derived.Test.YtfhaaenmllkbnaaAtRB
import Derived.Test.YtfhaaenmllkbnaaAtQ
import Derived.Test.YtfhaaenmllkbnaaLives
namespace Go.Proofs.Ytfhaaenmllkbnaa
open Go.RowKit
set_option linter.unusedVariables false

/-- what is asked of layer 7 -/
structure AttrC : Prop where
  split : ∀ (v : Value) (l : List UInt8) (w : World), Bs w v l → (l.length : Int) ≤ 3000000 →
    Calls Try.prog 8 #[v] w fun e w' => ∃ v' vd, e = .returned (.tuple #[v', ftV (splitF l) vd]) ∧ RawsW 59 w' v' (splitR l) ∧ Bs w' vd (splitF l).data ∧ Same w w'
  parse : ∀ (v : Value) (l : List UInt8) (w : World), Bs w v l → (l.length : Int) ≤ 1000000 →
    Calls Try.prog 10 #[v] w fun e w' => ∃ va vd, e = .returned (.tuple #[atV (parseT l).1 va, ftV (parseT l).2 vd]) ∧ Rs intLay w' va (parseT l).1.path ∧ Bs w' vd (parseT l).2.data ∧ Same w w' ∧ ∀ g, va.ownBlock = some g → w.heap.size ≤ g
  bytes : ∀ (a : At) (vp : Value) (w : World), Rs intLay w vp a.path → hopR a → a.path.length ≤ 300 →
    Calls Try.prog 19 #[atV a vp] w fun e w' => ∃ v', e = .returned v' ∧ Bs w' v' (attrB a) ∧ Same w w'
  good : ∀ (a : At) (vp : Value) (w : World), Rs intLay w vp a.path → hopR a →
    Calls Try.prog 20 #[atV a vp] w fun e w' => e = .returned (.bool (decide (goodA a))) ∧ Same w w'
  same : ∀ (a : At) (va vb : Value) (w : World), Rs intLay w va a.path → Rs intLay w vb a.path → hopR a →
    Calls Try.prog 21 #[atV a va, atV a vb] w fun e w' => e = .returned (.bool true) ∧ Same w w'
  join : ∀ (v : Value) (l : List Rw) (w : World), RawsW 59 w v l → l.length ≤ 1000 →
    Calls Try.prog 17 #[v] w fun e w' => ∃ v', e = .returned v' ∧ Bs w' v' (joinB l) ∧ Same w w'

def exA : At := ⟨0, [], 167772161, 0, false⟩
theorem exA_bytes : attrB exA = [64, 1, 1, 0, 64, 2, 0, 64, 3, 4, 10, 0, 0, 1] := by decide +kernel

set_option maxRecDepth 100000 in
theorem at_lives (C : AttrC) (w : World) : Calls Try.prog 7 #[] w fun e w' => e = .returned (.bool true) ∧ Same w w' := by
  have HB := Lib.hid (C.bytes exA (.slice none 0 0) w (Rs.nil _ w) (by unfold hopR exA; simp) (by simp [exA]))
  rw [exA_bytes] at HB
  unfold exA at HB
  go_enter Try.func7, Try.ntmps7
  go_wp2_with fail
  refine HB.out.mono ?_
  rintro e w1 ⟨v1, rfl, hb1, hs1⟩
  have HS1 := Lib.hid hs1
  have hr := run_str w1 v1 _ hb1
  clear hb1 hs1
  go_wp2_with fail
  go_ret
  exact ⟨rfl, HS1.out⟩

theorem hs_block {a b : World} (h : Same a b) {k : Nat} {o : Obj} (hk : a.heap[k]? = some o) : b.heap[k]? = some o := h.block hk

set_option maxRecDepth 100000 in
theorem areads_long (C : AttrC) (v : Value) (l : List UInt8) (w : World) (hb : Bs w v l) (hl : 3000 < (l.length : Int)) :
    Calls Try.prog 3 #[v] w fun e w' => e = .returned (.bool true) ∧ Same w w' := by
  obtain ⟨ao, cap, rfl, -, -, -, -⟩ := hb
  go_enter Try.func3, Try.ntmps3
  go_wp2_with fail
  refine (at_lives C w).mono ?_
  rintro e w1 ⟨rfl, hs⟩
  have HS := Lib.hid hs
  clear hs
  go_wp2_with fail
  go_ret
  exact ⟨rfl, HS.out⟩

theorem splitA_len : ∀ (f : Nat) (l : List UInt8) (a : Nat) (rs : List Rw), splitA f l a = some rs → a + 3 * rs.length ≤ max a l.length
  | 0, l, a, rs, h => by cases h; simp; omega
  | f + 1, l, a, rs, h => by
    rw [splitA] at h
    split at h
    · cases h; simp; omega
    · split at h
      · cases h
      · rename_i hlt r0 b hat
        obtain ⟨ys, hys, rfl⟩ := Option.map_eq_some_iff.1 h
        have h1 := attrAt_far hat
        have h2 := splitA_len f l b ys hys
        simp only [List.length_cons]
        omega
theorem splitR_len (l : List UInt8) : (splitR l).length ≤ l.length := by
  unfold splitR
  cases h : splitL l with
  | none => simp
  | some rs =>
    have := splitA_len _ _ _ _ h
    simp only [Option.getD_some]
    omega

set_option maxRecDepth 100000 in
set_option maxHeartbeats 2000000 in
theorem areads_walk (C : AttrC) (v : Value) (l : List UInt8) (w : World) (hb : Bs w v l) (hl : ¬ 3000 < (l.length : Int)) :
    Calls Try.prog 3 #[v] w fun e w' => e = .returned (.bool true) ∧ Same w w' := by
  have HX := fun w hb => Lib.hid (C.split v l w hb (by omega))
  have HY := fun w hb => Lib.hid (rSplit_any v l w hb (by omega))
  have HA := fun w hb => Lib.hid (C.parse v l w hb (by omega))
  have HC := fun w hb => Lib.hid (rParse7_any v l w hb (by omega))
  have HL := fun w => Lib.hid (at_lives C w)
  have HB := Lib.hid hb
  have hsl := splitR_len l
  have HPl := fun v w h => Lib.hid (plain7_any (splitR l) v w h (by omega))
  have HRa := fun va vb w h1 h2 => Lib.hid (rRaws_same (splitR l) va vb w h1 h2)
  have HF1 := fun va vb w h1 h2 => Lib.hid (rFaults_same (splitF l) va vb w h1 h2)
  have HF2 := fun va vb w h1 h2 => Lib.hid (rFaults_same (parseT l).2 va vb w h1 h2)
  have HSa := fun va vb w h1 h2 => Lib.hid (rSame7_same (parseT l).1 va vb w h1 h2)
  clear hsl
  generalize splitR l = R at *
  generalize splitF l = F at *
  generalize (parseT l).1 = A at *
  generalize (parseT l).2 = G at *
  obtain ⟨f0, f1, f2⟩ := F
  obtain ⟨g0, g1, g2⟩ := G
  obtain ⟨p0, p1, p2, p3, p4⟩ := A
  simp only at HX HY HA HC HF1 HF2 HSa
  obtain ⟨nf, hnf⟩ : ∃ n, f2.length = n := ⟨_, rfl⟩
  obtain ⟨ng, hng⟩ : ∃ n, g2.length = n := ⟨_, rfl⟩
  obtain ⟨np, hnp⟩ : ∃ n, p1.length = n := ⟨_, rfl⟩
  have HNF := Lib.hid hnf
  have HNG := Lib.hid hng
  have HNP := Lib.hid hnp
  clear hnf hng hnp
  obtain ⟨ao, cap, rfl, -, -, -, -⟩ := hb
  go_enter Try.func3, Try.ntmps3
  go_wp2_with fail
  refine (HX _ HB.out).out.mono ?_
  rintro e w1 ⟨v1, d1, rfl, hr1, hd1, hs1⟩
  have HS1 := Lib.hid hs1
  have HR1 := Lib.hid hr1
  have HD1 := Lib.hid hd1
  obtain ⟨da1, dc1, rfl⟩ := hd1.form0 HNF.out
  clear hs1 hr1 hd1
  have HA1 := Lib.hid (Same.alloc w1 (ftO 26 ⟨f0, f1, f2⟩ (.slice da1 nf dc1)))
  have HK1 := Lib.hid (heap_alloc_new w1 (ftO 26 ⟨f0, f1, f2⟩ (.slice da1 nf dc1)))
  go_wp2_with fail
  refine (HY _ (HB.out.same (HS1.out.trans HA1.out))).out.mono ?_
  rintro e w2 ⟨v2, d2, rfl, hr2, hd2, hs2⟩
  have HT2 := Lib.hid (HA1.out.trans hs2)
  have HK2 := Lib.hid (hs2.block HK1.out)
  have HR2 := Lib.hid hr2
  have HD2 := Lib.hid hd2
  obtain ⟨da2, dc2, rfl⟩ := hd2.form0 HNF.out
  clear hs2 hr2 hd2
  have HA2 := Lib.hid (Same.alloc w2 (ftO 26 ⟨f0, f1, f2⟩ (.slice da2 nf dc2)))
  have HK3 := Lib.hid (heap_alloc_new w2 (ftO 26 ⟨f0, f1, f2⟩ (.slice da2 nf dc2)))
  go_wp2_with fail
  refine (HA _ (HB.out.same ((HS1.out.trans HT2.out).trans HA2.out))).out.mono ?_
  rintro e w3 ⟨v3, d3, rfl, hr3, hd3, hs3, -⟩
  have HT3 := Lib.hid (HA2.out.trans hs3)
  have HK4 := Lib.hid (hs3.block HK3.out)
  have HR3 := Lib.hid hr3
  have HD3 := Lib.hid hd3
  obtain ⟨pa3, pc3, rfl⟩ := hr3.form HNP.out
  obtain ⟨da3, dc3, rfl⟩ := hd3.form0 HNG.out
  clear hs3 hr3 hd3
  have HA3 := Lib.hid ((Same.alloc w3 (atO 35 ⟨p0, p1, p2, p3, p4⟩ (.slice pa3 np pc3))).trans (Same.alloc (w3.alloc (atO 35 ⟨p0, p1, p2, p3, p4⟩ (.slice pa3 np pc3))) (ftO 26 ⟨g0, g1, g2⟩ (.slice da3 ng dc3))))
  have HK5 := Lib.hid ((Same.alloc (w3.alloc (atO 35 ⟨p0, p1, p2, p3, p4⟩ (.slice pa3 np pc3))) (ftO 26 ⟨g0, g1, g2⟩ (.slice da3 ng dc3))).block (heap_alloc_new w3 (atO 35 ⟨p0, p1, p2, p3, p4⟩ (.slice pa3 np pc3))))
  have HK6 : Hid (((w3.alloc (atO 35 ⟨p0, p1, p2, p3, p4⟩ (.slice pa3 np pc3))).alloc (ftO 26 ⟨g0, g1, g2⟩ (.slice da3 ng dc3))).heap[w3.heap.size + 1]? = some (ftO 26 ⟨g0, g1, g2⟩ (.slice da3 ng dc3))) := by
    have := heap_alloc_new (w3.alloc (atO 35 ⟨p0, p1, p2, p3, p4⟩ (.slice pa3 np pc3))) (ftO 26 ⟨g0, g1, g2⟩ (.slice da3 ng dc3))
    rw [show (w3.alloc (atO 35 ⟨p0, p1, p2, p3, p4⟩ (.slice pa3 np pc3))).heap.size = w3.heap.size + 1 from by simp] at this
    exact this
  go_wp2_with fail
  refine (HC _ (HB.out.same (((HS1.out.trans HT2.out).trans HT3.out).trans HA3.out))).out.mono ?_
  rintro e w4 ⟨v4, d4, rfl, hr4, hd4, hs4⟩
  have HT4 := Lib.hid (HA3.out.trans hs4)
  have HK7 := Lib.hid (hs4.block HK5.out)
  have HK8 := Lib.hid (hs4.block HK6.out)
  have HR4 := Lib.hid hr4
  have HD4 := Lib.hid hd4
  obtain ⟨pa4, pc4, rfl⟩ := hr4.form HNP.out
  obtain ⟨da4, dc4, rfl⟩ := hd4.form0 HNG.out
  clear hs4 hr4 hd4
  have HA4 := Lib.hid ((Same.alloc w4 (atO 38 ⟨p0, p1, p2, p3, p4⟩ (.slice pa4 np pc4))).trans (Same.alloc (w4.alloc (atO 38 ⟨p0, p1, p2, p3, p4⟩ (.slice pa4 np pc4))) (ftO 26 ⟨g0, g1, g2⟩ (.slice da4 ng dc4))))
  have HK9 := Lib.hid ((Same.alloc (w4.alloc (atO 38 ⟨p0, p1, p2, p3, p4⟩ (.slice pa4 np pc4))) (ftO 26 ⟨g0, g1, g2⟩ (.slice da4 ng dc4))).block (heap_alloc_new w4 (atO 38 ⟨p0, p1, p2, p3, p4⟩ (.slice pa4 np pc4))))
  have HKa : Hid (((w4.alloc (atO 38 ⟨p0, p1, p2, p3, p4⟩ (.slice pa4 np pc4))).alloc (ftO 26 ⟨g0, g1, g2⟩ (.slice da4 ng dc4))).heap[w4.heap.size + 1]? = some (ftO 26 ⟨g0, g1, g2⟩ (.slice da4 ng dc4))) := by
    have := heap_alloc_new (w4.alloc (atO 38 ⟨p0, p1, p2, p3, p4⟩ (.slice pa4 np pc4))) (ftO 26 ⟨g0, g1, g2⟩ (.slice da4 ng dc4))
    rw [show (w4.alloc (atO 38 ⟨p0, p1, p2, p3, p4⟩ (.slice pa4 np pc4))).heap.size = w4.heap.size + 1 from by simp] at this
    exact this
  go_wp2_with fail
  have HW1 := Lib.hid (HT4.out.trans HA4.out)
  have HW2 := Lib.hid (HT3.out.trans HW1.out)
  have HW3 := Lib.hid (HT2.out.trans HW2.out)
  have HW0 := Lib.hid (HS1.out.trans HW3.out)
  have HR1a := Lib.hid (HR1.out.same HW3.out)
  have HR2a := Lib.hid (HR2.out.same HW2.out)
  have HD1a := Lib.hid (HD1.out.same HW3.out)
  have HD2a := Lib.hid (HD2.out.same HW2.out)
  have HR3a := Lib.hid (HR3.out.same HW1.out)
  have HD3a := Lib.hid (HD3.out.same HW1.out)
  have HR4a := Lib.hid (HR4.out.same HA4.out)
  have HD4a := Lib.hid (HD4.out.same HA4.out)
  have HKb := Lib.hid ((hs_block HW2.out) HK2.out)
  have HKc := Lib.hid ((hs_block HW1.out) HK4.out)
  have HKd := Lib.hid ((hs_block HA4.out) HK7.out)
  have HKe := Lib.hid ((hs_block HA4.out) HK8.out)
  generalize ((w4.alloc (atO 38 ⟨p0, p1, p2, p3, p4⟩ (.slice pa4 np pc4))).alloc (ftO 26 ⟨g0, g1, g2⟩ (.slice da4 ng dc4))) = w5 at *
  clear HR1 HR2 HR3 HR4 HD1 HD2 HD3 HD4 HS1 HT2 HT3 HT4 HA1 HA2 HA3 HA4 HK1 HK2 HK3 HK4 HK5 HK6 HK7 HK8 HW1 HW2 HW3
  refine (HPl _ _ HR1a.out).out.mono ?_
  rintro e w6 ⟨v6, rfl, hr6, hs6⟩
  have HR6 := Lib.hid hr6
  have HS6 := Lib.hid hs6
  clear hr6 hs6
  go_wp2_with fail
  refine (HRa _ _ _ HR6.out (HR2a.out.same HS6.out)).out.mono ?_
  rintro e w7 ⟨rfl, hs7⟩
  have HS7 := Lib.hid (HS6.out.trans hs7)
  obtain ⟨x0, x1, x2⟩ := FtAt.of (HS7.out.block HKb.out)
  obtain ⟨y0, y1, y2⟩ := FtAt.of (HS7.out.block HKc.out)
  clear hs7
  go_wp2_with fail
  refine (HF1 _ _ _ (HD1a.out.same HS7.out) (HD2a.out.same HS7.out)).out.mono ?_
  rintro e w8 ⟨rfl, hs8⟩
  have HS8 := Lib.hid (HS7.out.trans hs8)
  clear hs8 x0 x1 x2 y0 y1 y2
  obtain ⟨x0, x1, x2, x3, x4⟩ := AtAt.of (HS8.out.block HKd.out)
  obtain ⟨y0, y1, y2, y3, y4⟩ := AtAt.of (HS8.out.block HK9.out)
  go_wp2_with fail
  refine (HSa _ _ _ (HR3a.out.same HS8.out) (HR4a.out.same HS8.out)).out.mono ?_
  rintro e w9 ⟨rfl, hs9⟩
  have HS9 := Lib.hid (HS8.out.trans hs9)
  clear hs9 x0 x1 x2 x3 x4 y0 y1 y2 y3 y4
  obtain ⟨x0, x1, x2⟩ := FtAt.of (HS9.out.block HKe.out)
  obtain ⟨y0, y1, y2⟩ := FtAt.of (HS9.out.block HKa.out)
  go_wp2_with fail
  refine (HF2 _ _ _ (HD3a.out.same HS9.out) (HD4a.out.same HS9.out)).out.mono ?_
  rintro e w10 ⟨rfl, hs10⟩
  have HS10 := Lib.hid (HS9.out.trans hs10)
  clear hs10 x0 x1 x2 y0 y1 y2
  go_wp2_with fail
  refine (HL _).out.mono ?_
  rintro e w11 ⟨rfl, hs11⟩
  have HS11 := Lib.hid (HS10.out.trans hs11)
  clear hs11
  go_wp2_with fail
  go_ret
  exact ⟨rfl, HW0.out.trans HS11.out⟩

set_option maxRecDepth 100000 in
set_option maxHeartbeats 2000000 in
theorem ajoins_walk (C : AttrC) (v : Value) (l : List Rw) (w : World) (hb : RawsW 59 w v l) :
    Calls Try.prog 4 #[v] w fun e w' => e = .returned (.bool true) ∧ Same w w' := by
  have HLi := Lib.hid (light7_any l v w hb)
  have HL := fun w => Lib.hid (at_lives C w)
  have HB := Lib.hid hb
  obtain ⟨n, hn⟩ : ∃ n, l.length = n := ⟨_, rfl⟩
  have HN := Lib.hid hn
  obtain ⟨ao, cap, rfl⟩ := hb.form hn
  clear hn hb
  go_enter Try.func4, Try.ntmps4
  go_wp2_with fail
  refine HLi.out.mono ?_
  rintro e w1 ⟨he, hs1⟩
  have HS1 := Lib.hid hs1
  clear hs1
  rcases he with rfl | ⟨rfl, h30⟩
  · go_wp2_with fail
    refine (HL _).out.mono ?_
    rintro e w2 ⟨rfl, hs2⟩
    have HS2 := Lib.hid (HS1.out.trans hs2)
    clear hs2
    go_wp2_with fail
    go_ret
    exact ⟨rfl, HS2.out⟩
  have hjl := joinB_length l
  have hJn : (joinB l).length ≤ 2000000 := by have := Nat.mul_le_mul_right 65539 h30; omega
  have HJ := fun w hb => Lib.hid (C.join (.slice ao n cap) l w hb (by omega))
  have HPl := fun w hb => Lib.hid (plain7_any l (.slice ao n cap) w hb (by omega))
  have HRJ := fun v w hb => Lib.hid (rJoin_any l v w hb (by omega))
  have HSp := fun v w hb => Lib.hid (C.split v (joinB l) w hb (by omega))
  have e0 := splitL_join l
  have e1 : splitR (joinB l) = l.map canR := by unfold splitR; rw [e0]; rfl
  have e2 : splitF (joinB l) = ⟨0, 0, []⟩ := by unfold splitF; rw [e0]; rfl
  rw [e1, e2] at HSp
  have HJ2 := fun v w hb => Lib.hid (C.join v (l.map canR) w hb (by rw [List.length_map]; omega))
  rw [joinB_can] at HJ2
  have HM : Hid ((l.map canR).length = n) := by show _ = _; rw [List.length_map]; exact HN.out
  generalize l.map canR = M at *
  obtain ⟨nX, hnX⟩ : ∃ k, (joinB l).length = k := ⟨_, rfl⟩
  have HNX := Lib.hid hnX
  generalize joinB l = X at *
  clear e0 e1 e2 hjl hJn hnX h30
  go_wp2_with fail
  refine (HJ _ (HB.out.same HS1.out)).out.mono ?_
  rintro e w2 ⟨v2, rfl, hb2, hs2⟩
  have HS2 := Lib.hid (HS1.out.trans hs2)
  have HB2 := Lib.hid hb2
  obtain ⟨a2, c2, rfl⟩ := hb2.form0 HNX.out
  clear hs2 hb2
  go_wp2_with fail
  have HC1 : Hid (∀ w', Same w2 w' → (convert 22 9 (.slice a2 nX c2)).run Try.prog w' = .ok (.string ⟨X.toArray⟩) w') := fun w' hw => run_str w' _ X (HB2.out.same hw)
  have HC3 := fun w v (h : Bs w v X) => run_str w v X h
  generalize hsX : (⟨X.toArray⟩ : ByteArray) = sX at *
  refine reg_start (fun w' => Same w2.drew w') (by kernel_rfl) ?_
  refine reg_take (v := ?_) 0 (some 12) rfl rfl (by kernel_rfl) (fun _ _ _ h => h) (by kernel_rfl) (Same.refl _) ?_ ?_
  rotate_left
  · (intro w' hw'; go_simp; try with_reducible rfl)
  try simp only [Act.put, List.setIfInBounds_toArray, List.set_cons_zero, List.set_cons_succ]
  refine reg_take (v := ?_) 1 (some 13) rfl rfl (by kernel_rfl) (fun _ _ _ h => h) (by kernel_rfl) (Same.refl _) ?_ ?_
  rotate_left
  · (intro w' hw'; have hr := HC1.out w' ((Same.refl w2).drew.trans hw'); go_simp; try with_reducible rfl)
  try simp only [Act.put, List.setIfInBounds_toArray, List.set_cons_zero, List.set_cons_succ]
  refine reg_take (v := ?_) 2 (some 14) rfl rfl (by kernel_rfl) (fun _ _ _ h => h) (by kernel_rfl) (Same.refl _) ?_ ?_
  rotate_left
  · (intro w' hw'; go_simp; try with_reducible rfl)
  try simp only [Act.put, List.setIfInBounds_toArray, List.set_cons_zero, List.set_cons_succ]
  refine reg_one 3 rfl (by kernel_rfl) (by kernel_rfl) ?_
  go_simp
  refine ((HPl _ (HB.out.same (HS2.out.trans (Same.refl w2).drew))).out).mono ?_
  rintro e u1 ⟨v3, rfl, hr3, hs1⟩
  have HR3 := Lib.hid hr3
  clear hr3
  refine ⟨hs1, reg_more (fun w' => Same u1 w') (fun w' h => hs1.trans h) _ _ _ _ ?_⟩
  try simp only [Act.put, List.setIfInBounds_toArray, List.set_cons_zero, List.set_cons_succ]
  refine reg_one 4 rfl (by kernel_rfl) (by kernel_rfl) ?_
  go_simp
  refine ((HRJ _ _ HR3.out).out).mono ?_
  rintro e u2 ⟨v4, rfl, ho4, hs2⟩
  have HO4 := Lib.hid ho4.bs
  have HC4 : Hid (∀ w', Same u2 w' → (convert 22 9 v4).run Try.prog w' = .ok (.string sX) w') := fun w' hw => HC3 w' _ (HO4.out.same hw)
  clear ho4
  refine ⟨hs2, reg_more (fun w' => Same u2 w') (fun w' h => hs2.trans h) _ _ _ _ ?_⟩
  try simp only [Act.put, List.setIfInBounds_toArray, List.set_cons_zero, List.set_cons_succ]
  refine reg_take (v := ?_) 5 (some 17) rfl rfl (by kernel_rfl) (fun _ _ _ h => h) (by kernel_rfl) (Same.refl u2) ?_ ?_
  rotate_left
  · (intro w' hw'; have hr := HC4.out w' hw'; go_simp; try with_reducible rfl)
  try simp only [Act.put, List.setIfInBounds_toArray, List.set_cons_zero, List.set_cons_succ]
  refine reg_take (v := ?_) 6 (some 18) rfl rfl (by kernel_rfl) (fun _ _ _ h => h) (by kernel_rfl) (Same.refl u2) ?_ ?_
  rotate_left
  · (intro w' hw'; go_simp; try with_reducible rfl)
  try simp only [Act.put, List.setIfInBounds_toArray, List.set_cons_zero, List.set_cons_succ]
  refine reg_done (by kernel_rfl) ?_
  have HS4 := Lib.hid (((HS2.out.trans (Same.refl w2).drew).trans hs1).trans hs2)
  have HB4 := Lib.hid (HB2.out.same (((Same.refl w2).drew.trans hs1).trans hs2))
  clear hs1 hs2
  go_wp2_with fail
  refine (HSp _ _ HB4.out).out.mono ?_
  rintro e w5 ⟨v5, d5, rfl, hr5, hd5, hs5⟩
  have HR5 := Lib.hid hr5
  have HS5 := Lib.hid (HS4.out.trans hs5)
  have HB5 := Lib.hid (HB4.out.same hs5)
  obtain ⟨a5, c5, rfl⟩ := hr5.form HM.out
  obtain ⟨da5, dc5, rfl⟩ := hd5.form0 rfl
  clear hr5 hd5 hs5
  have HA5 := Lib.hid (Same.alloc w5 (ftO 26 ⟨0, 0, []⟩ (.slice da5 0 dc5)))
  have HK5 := Lib.hid (heap_alloc_new w5 (ftO 26 ⟨0, 0, []⟩ (.slice da5 0 dc5)))
  simp only [List.length_nil]
  go_wp2_with fail
  have HR6 := Lib.hid (HR5.out.same HA5.out)
  have HB6 := Lib.hid (HB5.out.same HA5.out)
  have HS6 := Lib.hid (HS5.out.trans HA5.out)
  generalize (w5.alloc (ftO 26 ⟨0, 0, []⟩ (.slice da5 0 dc5))) = w6 at *
  have HC6 : Hid (∀ w', Same w6 w' → (convert 22 9 (.slice a2 nX c2)).run Try.prog w' = .ok (.string sX) w') := fun w' hw => HC3 w' _ (HB6.out.same hw)
  refine reg_start (fun w' => Same w6.drew w') (by kernel_rfl) ?_
  refine reg_take (v := ?_) 0 (some 24) rfl rfl (by kernel_rfl) (fun _ _ _ h => h) (by kernel_rfl) (Same.refl _) ?_ ?_
  rotate_left
  · (intro w' hw'; obtain ⟨z0, z1, z2⟩ := FtAt.of (((Same.refl w6).drew.trans hw').block HK5.out); go_simp; try with_reducible rfl)
  try simp only [Act.put, List.setIfInBounds_toArray, List.set_cons_zero, List.set_cons_succ]
  refine reg_take (v := ?_) 1 (some 25) rfl rfl (by kernel_rfl) (fun _ _ _ h => h) (by kernel_rfl) (Same.refl _) ?_ ?_
  rotate_left
  · (intro w' hw'; obtain ⟨z0, z1, z2⟩ := FtAt.of (((Same.refl w6).drew.trans hw').block HK5.out); go_simp; try with_reducible rfl)
  try simp only [Act.put, List.setIfInBounds_toArray, List.set_cons_zero, List.set_cons_succ]
  refine reg_take (v := ?_) 2 (some 26) rfl rfl (by kernel_rfl) (fun _ _ _ h => h) (by kernel_rfl) (Same.refl _) ?_ ?_
  rotate_left
  · (intro w' hw'; obtain ⟨z0, z1, z2⟩ := FtAt.of (((Same.refl w6).drew.trans hw').block HK5.out); go_simp; try with_reducible rfl)
  try simp only [Act.put, List.setIfInBounds_toArray, List.set_cons_zero, List.set_cons_succ]
  refine reg_take (v := ?_) 3 (some 27) rfl rfl (by kernel_rfl) (fun _ _ _ h => h) (by kernel_rfl) (Same.refl _) ?_ ?_
  rotate_left
  · (intro w' hw'; obtain ⟨z0, z1, z2⟩ := FtAt.of (((Same.refl w6).drew.trans hw').block HK5.out); go_simp; try with_reducible rfl)
  try simp only [Act.put, List.setIfInBounds_toArray, List.set_cons_zero, List.set_cons_succ]
  refine reg_take (v := ?_) 4 (some 28) rfl rfl (by kernel_rfl) (fun _ _ _ h => h) (by kernel_rfl) (Same.refl _) ?_ ?_
  rotate_left
  · (intro w' hw'; obtain ⟨z0, z1, z2⟩ := FtAt.of (((Same.refl w6).drew.trans hw').block HK5.out); go_simp; try with_reducible rfl)
  try simp only [Act.put, List.setIfInBounds_toArray, List.set_cons_zero, List.set_cons_succ]
  refine reg_take (v := ?_) 5 (some 29) rfl rfl (by kernel_rfl) (fun _ _ _ h => h) (by kernel_rfl) (Same.refl _) ?_ ?_
  rotate_left
  · (intro w' hw'; obtain ⟨z0, z1, z2⟩ := FtAt.of (((Same.refl w6).drew.trans hw').block HK5.out); go_simp; try with_reducible rfl)
  try simp only [Act.put, List.setIfInBounds_toArray, List.set_cons_zero, List.set_cons_succ]
  refine reg_take (v := ?_) 6 (some 30) rfl rfl (by kernel_rfl) (fun _ _ _ h => h) (by kernel_rfl) (Same.refl _) ?_ ?_
  rotate_left
  · (intro w' hw'; obtain ⟨z0, z1, z2⟩ := FtAt.of (((Same.refl w6).drew.trans hw').block HK5.out); go_simp; try with_reducible rfl)
  try simp only [Act.put, List.setIfInBounds_toArray, List.set_cons_zero, List.set_cons_succ]
  refine reg_take (v := ?_) 7 (some 31) rfl rfl (by kernel_rfl) (fun _ _ _ h => h) (by kernel_rfl) (Same.refl _) ?_ ?_
  rotate_left
  · (intro w' hw'; obtain ⟨z0, z1, z2⟩ := FtAt.of (((Same.refl w6).drew.trans hw').block HK5.out); go_simp; try with_reducible rfl)
  try simp only [Act.put, List.setIfInBounds_toArray, List.set_cons_zero, List.set_cons_succ]
  refine reg_take (v := ?_) 8 (some 32) rfl rfl (by kernel_rfl) (fun _ _ _ h => h) (by kernel_rfl) (Same.refl _) ?_ ?_
  rotate_left
  · (intro w' hw'; obtain ⟨z0, z1, z2⟩ := FtAt.of (((Same.refl w6).drew.trans hw').block HK5.out); go_simp; try with_reducible rfl)
  try simp only [Act.put, List.setIfInBounds_toArray, List.set_cons_zero, List.set_cons_succ]
  refine reg_take (v := ?_) 9 (some 33) rfl rfl (by kernel_rfl) (fun _ _ _ h => h) (by kernel_rfl) (Same.refl _) ?_ ?_
  rotate_left
  · (intro w' hw'; obtain ⟨z0, z1, z2⟩ := FtAt.of (((Same.refl w6).drew.trans hw').block HK5.out); go_simp; try with_reducible rfl)
  try simp only [Act.put, List.setIfInBounds_toArray, List.set_cons_zero, List.set_cons_succ]
  refine reg_take (v := ?_) 10 (some 34) rfl rfl (by kernel_rfl) (fun _ _ _ h => h) (by kernel_rfl) (Same.refl _) ?_ ?_
  rotate_left
  · (intro w' hw'; obtain ⟨z0, z1, z2⟩ := FtAt.of (((Same.refl w6).drew.trans hw').block HK5.out); go_simp; try with_reducible rfl)
  try simp only [Act.put, List.setIfInBounds_toArray, List.set_cons_zero, List.set_cons_succ]
  refine reg_take (v := ?_) 11 (some 35) rfl rfl (by kernel_rfl) (fun _ _ _ h => h) (by kernel_rfl) (Same.refl _) ?_ ?_
  rotate_left
  · (intro w' hw'; obtain ⟨z0, z1, z2⟩ := FtAt.of (((Same.refl w6).drew.trans hw').block HK5.out); go_simp; try with_reducible rfl)
  try simp only [Act.put, List.setIfInBounds_toArray, List.set_cons_zero, List.set_cons_succ]
  refine reg_take (v := ?_) 14 (some 38) rfl rfl (by kernel_rfl) (fun _ _ _ h => h) (by kernel_rfl) (Same.refl _) ?_ ?_
  rotate_left
  · (intro w' hw'; obtain ⟨z0, z1, z2⟩ := FtAt.of (((Same.refl w6).drew.trans hw').block HK5.out); go_simp; try with_reducible rfl)
  try simp only [Act.put, List.setIfInBounds_toArray, List.set_cons_zero, List.set_cons_succ]
  refine reg_take (v := ?_) 15 (some 39) rfl rfl (by kernel_rfl) (fun _ _ _ h => h) (by kernel_rfl) (Same.refl _) ?_ ?_
  rotate_left
  · (intro w' hw'; have hr := HC6.out w' ((Same.refl w6).drew.trans (by first | exact hw' | exact hs1.trans hw')); go_simp; try with_reducible rfl)
  try simp only [Act.put, List.setIfInBounds_toArray, List.set_cons_zero, List.set_cons_succ]
  refine reg_one 12 rfl (by kernel_rfl) (by kernel_rfl) ?_
  go_simp
  refine ((HJ2 _ _ (HR6.out.same (Same.refl w6).drew)).out).mono ?_
  rintro e u1 ⟨v7, rfl, hb7, hs1⟩
  have HB7 := Lib.hid hb7
  have HC7 : Hid (∀ w', Same u1 w' → (convert 22 9 v7).run Try.prog w' = .ok (.string sX) w') := fun w' hw => HC3 w' _ (HB7.out.same hw)
  clear hb7
  refine ⟨hs1, reg_more (fun w' => Same u1 w') (fun w' h => hs1.trans h) _ _ _ _ ?_⟩
  try simp only [Act.put, List.setIfInBounds_toArray, List.set_cons_zero, List.set_cons_succ]
  refine reg_take (v := ?_) 13 (some 37) rfl rfl (by kernel_rfl) (fun _ _ _ h => h) (by kernel_rfl) (Same.refl u1) ?_ ?_
  rotate_left
  · (intro w' hw'; have hr := HC7.out w' hw'; go_simp; try with_reducible rfl)
  try simp only [Act.put, List.setIfInBounds_toArray, List.set_cons_zero, List.set_cons_succ]
  refine reg_take (v := ?_) 16 (some 40) rfl rfl (by kernel_rfl) (fun _ _ _ h => h) (by kernel_rfl) (Same.refl u1) ?_ ?_
  rotate_left
  · (intro w' hw'; go_simp; try with_reducible rfl)
  try simp only [Act.put, List.setIfInBounds_toArray, List.set_cons_zero, List.set_cons_succ]
  refine reg_take (v := ?_) 17 (some 41) rfl rfl (by kernel_rfl) (fun _ _ _ h => h) (by kernel_rfl) (Same.refl u1) ?_ ?_
  rotate_left
  · (intro w' hw'; go_simp; try with_reducible rfl)
  try simp only [Act.put, List.setIfInBounds_toArray, List.set_cons_zero, List.set_cons_succ]
  refine reg_take (v := ?_) 18 (some 42) rfl rfl (by kernel_rfl) (fun _ _ _ h => h) (by kernel_rfl) (Same.refl u1) ?_ ?_
  rotate_left
  · (intro w' hw'; go_simp; try with_reducible rfl)
  try simp only [Act.put, List.setIfInBounds_toArray, List.set_cons_zero, List.set_cons_succ]
  refine reg_one 19 rfl (by kernel_rfl) (by kernel_rfl) ?_
  go_simp
  refine ((HL _).out).mono ?_
  rintro e u2 ⟨rfl, hs2⟩
  skip
  refine ⟨hs2, reg_more (fun w' => Same u2 w') (fun w' h => hs2.trans h) _ _ _ _ ?_⟩
  try simp only [Act.put, List.setIfInBounds_toArray, List.set_cons_zero, List.set_cons_succ]
  refine reg_take (v := ?_) 20 (some 44) rfl rfl (by kernel_rfl) (fun _ _ _ h => h) (by kernel_rfl) (Same.refl u2) ?_ ?_
  rotate_left
  · (intro w' hw'; go_simp; try with_reducible rfl)
  try simp only [Act.put, List.setIfInBounds_toArray, List.set_cons_zero, List.set_cons_succ]
  refine reg_take (v := ?_) 21 (some 2) rfl rfl (by kernel_rfl) (fun _ _ _ h => h) (by kernel_rfl) (Same.refl u2) ?_ ?_
  rotate_left
  · (intro w' hw'; go_simp; try with_reducible rfl)
  try simp only [Act.put, List.setIfInBounds_toArray, List.set_cons_zero, List.set_cons_succ]
  refine reg_done (by kernel_rfl) ?_
  go_wp2_with fail
  go_ret
  exact ⟨rfl, HS6.out.trans (((Same.refl w6).drew.trans hs1).trans hs2)⟩
end Go.Proofs.Ytfhaaenmllkbnaa
