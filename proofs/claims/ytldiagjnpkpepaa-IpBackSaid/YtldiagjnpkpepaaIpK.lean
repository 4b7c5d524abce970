/- The walk of IpBack. No condition beyond what each names. -/
import Derived.Test.YtldiagjnpkpepaaIpL
import Derived.Test.YtldiagjnpkpepaaIpN
namespace Go.Proofs.Ytldiagjnpkpepaa
open Go.RowKit
set_option linter.unusedVariables false

/-- what is turned -/
def turnU (u : UInt8) (b : Nat) : UInt8 := UInt8.ofNat (u.toNat ^^^ 2 ^ b)
theorem xor_bit (u : Nat) (hu : u < 256) (b : Nat) (hb : b < 8) : u ^^^ 2 ^ b < 256 ∧ (u ^^^ 2 ^ b = u + 2 ^ b ∨ u = (u ^^^ 2 ^ b) + 2 ^ b) := by
  have : ∀ (x : Fin 256) (y : Fin 8), x.val ^^^ 2 ^ y.val < 256 ∧ (x.val ^^^ 2 ^ y.val = x.val + 2 ^ y.val ∨ x.val = (x.val ^^^ 2 ^ y.val) + 2 ^ y.val) := by decide +kernel
  exact this ⟨u, hu⟩ ⟨b, hb⟩
theorem turnU_nat (u : UInt8) (b : Nat) (hb : b < 8) : (turnU u b).toNat = u.toNat ^^^ 2 ^ b := by
  have := (xor_bit u.toNat u.toNat_lt b hb).1
  unfold turnU
  rw [UInt8.toNat_ofNat']
  omega
theorem bits_xor8 (u b : Nat) (hu : u < 256) (hb : b < 8) : bits .xor .u8 (u : Int) ((2 ^ b : Nat) : Int) = ((u ^^^ 2 ^ b : Nat) : Int) := by
  have : ∀ (x : Fin 256) (y : Fin 8), bits .xor .u8 (x.val : Int) ((2 ^ y.val : Nat) : Int) = ((x.val ^^^ 2 ^ y.val : Nat) : Int) := by decide +kernel
  exact this ⟨u, hu⟩ ⟨b, hb⟩

theorem xor_val (u : UInt8) (q : Nat) (hq : q < 8) : bits .xor .u8 (u.toNat : Int) ((2 : Int) ^ q % 256) = ((turnU u q).toNat : Int) := by
  have e : (2 : Int) ^ q % 256 = ((2 ^ q : Nat) : Int) := by
    have : q = 0 ∨ q = 1 ∨ q = 2 ∨ q = 3 ∨ q = 4 ∨ q = 5 ∨ q = 6 ∨ q = 7 := by omega
    rcases this with rfl | rfl | rfl | rfl | rfl | rfl | rfl | rfl <;> decide
  rw [e, bits_xor8 u.toNat q u.toNat_lt hq, turnU_nat u q hq]

set_option maxRecDepth 100000 in
theorem back_long (h : Hd) (p : List UInt8) (vo v : Value) (a : Int) (w : World) (hb : Bs w vo h.opts) (hp : Bs w v p) (hl : 3000 < (p.length : Int) ∨ (¬ 3000 < (p.length : Int) ∧ 300 < (h.opts.length : Int))) :
    Calls Try.prog 6 #[hdV h vo, v, .int .u64 a] w fun e w' => e = .returned (.bool true) ∧ Same w w' := by
  obtain ⟨a0, a1, a2, a3, a4, a5, a6, a7, a8⟩ := h
  obtain ⟨ao, cap, rfl, -, -, -, -⟩ := hb
  obtain ⟨aq, car, rfl, -, -, -, -⟩ := hp
  have H0 : Hid (Same w (w.alloc (hdO 31 ⟨a0, a1, a2, a3, a4, a5, a6, a7, a8⟩ (.slice ao a8.length cap)))) := Same.alloc w _
  rcases hl with k1 | ⟨k1, k2⟩
  iterate 2
    · go_enter Try.func6, Try.ntmps6
      go_wp2_with fail
      refine (ip_lives _).mono ?_
      rintro e w1 ⟨rfl, hs⟩
      have HS := Lib.hid (H0.out.trans hs)
      clear hs
      go_wp2_with fail
      go_ret
      exact ⟨rfl, HS.out⟩

set_option maxRecDepth 100000 in
set_option maxHeartbeats 1000000 in
theorem back_bad (h : Hd) (hr : HdR h) (p : List UInt8) (vo v : Value) (a : Int) (w : World) (hb : Bs w vo h.opts) (hp : Bs w v p) (k1 : ¬ 3000 < (p.length : Int)) (k2 : ¬ 300 < (h.opts.length : Int)) (hg : ¬ goodH h) :
    Calls Try.prog 6 #[hdV h vo, v, .int .u64 a] w fun e w' => e = .returned (.bool true) ∧ Same w w' := by
  have HG := fun ao cap w => Lib.hid (ipGood_any h ao cap w)
  rw [show decide (goodH h) = false from decide_eq_false hg] at HG
  have HBu := fun vo v w hb hp => Lib.hid (ipBuild_any h hr p vo v w hb hp (by omega) (by omega))
  rw [show buildB h p = [] from if_neg fun x => hg x.1] at HBu
  clear hg
  have HBh := Lib.hid hb
  have HBp := Lib.hid hp
  obtain ⟨a0, a1, a2, a3, a4, a5, a6, a7, a8⟩ := h
  obtain ⟨ao, cap, rfl, -, -, -, -⟩ := hb
  obtain ⟨aq, car, rfl, -, -, -, -⟩ := hp
  obtain ⟨W0, hW⟩ : ∃ W0, W0 = w.alloc (hdO 31 ⟨a0, a1, a2, a3, a4, a5, a6, a7, a8⟩ (.slice ao a8.length cap)) := ⟨_, rfl⟩
  have H0 : Hid (Same w W0) := by rw [hW]; exact Same.alloc w _
  have HX : Hid (∀ w', Same W0 w' → HdAt w' w.heap.size ⟨a0, a1, a2, a3, a4, a5, a6, a7, a8⟩ (.slice ao a8.length cap)) := by rw [hW]; exact hd_box 31 _ _ w
  have HW := Lib.hid hW
  clear hW
  go_enter Try.func6, Try.ntmps6
  go_wp2_with fail
  refine (HBu _ _ _ (HBh.out.same (by rw [← HW.out]; exact H0.out)) (HBp.out.same (by rw [← HW.out]; exact H0.out))).out.mono ?_
  rintro e w1 ⟨vb, rfl, ho1, hs1⟩
  have HS1 : Hid (Same W0 w1) := by rw [HW.out]; exact hs1
  obtain ⟨bo, bc, rfl, -, -, -, -⟩ := ho1.bs
  clear ho1 hs1
  obtain ⟨c0, c1, c2, c3, c4, c5, c6, c7, c8⟩ := HX.out w1 HS1.out
  go_wp2_with fail
  refine (HG _ _ _).out.mono ?_
  rintro e w2 ⟨rfl, hs2⟩
  have HS2 := Lib.hid (H0.out.trans (HS1.out.trans hs2))
  clear hs2
  go_wp2_with fail
  refine (ip_lives _).mono ?_
  rintro e w3 ⟨rfl, hs3⟩
  have HS3 := Lib.hid (HS2.out.trans hs3)
  clear hs3
  go_wp2_with fail
  go_ret
  exact ⟨rfl, HS3.out⟩

theorem Bs.front {w : World} {ao : Option Addr} {m cap : Nat} {l : List UInt8} (h : Bs w (.slice ao m cap) l) (k : Nat) (hk : k ≤ l.length) : Bs w (.slice ao k cap) (l.take k) := by
  obtain ⟨ao', cap', he, h1, h2, h3, h4⟩ := h
  cases he
  have hl : (l.take k).length = k := by simp; omega
  refine ⟨ao, cap, by rw [hl], by omega, h2, h3, fun ad had => ⟨fun hne => (h4 ad had).1 (fun e => hne (by rw [e]; simp)), fun j u hu => (h4 ad had).2 j u ?_⟩⟩
  rw [List.getElem?_take] at hu
  split at hu
  · exact hu
  · cases hu
theorem OwnB.three (w : World) : Bs (w.alloc (.cells #[.int .u8 1, .int .u8 2, .int .u8 3] 5)) (.slice (some ⟨w.heap.size, 0, none⟩) 3 3) [1, 2, 3] := Bs.made w [1, 2, 3] 5 (by simp)

set_option maxRecDepth 100000 in
set_option maxHeartbeats 4000000 in
theorem back_walk (h : Hd) (hr : HdR h) (hg : goodH h) (p : List UInt8) (vo v : Value) (a : Int) (ha : 0 ≤ a ∧ a ≤ 18446744073709551615) (w : World) (hb : Bs w vo h.opts) (hp : Bs w v p) (k1 : ¬ 3000 < (p.length : Int)) :
    Calls Try.prog 6 #[hdV h vo, v, .int .u64 a] w fun e w' => e = .returned (.bool true) ∧ Same w w' := by
  have ho40 : h.opts.length ≤ 40 := hg.2.2.2.2.2.2.1
  have k2 : ¬ 300 < (h.opts.length : Int) := by omega
  have hsz : sizeH h p ≤ 9000 := by unfold sizeH; omega
  have HBu := fun vo v w hb hp => Lib.hid (ipBuild_any h hr p vo v w hb hp (by omega) (by omega))
  obtain ⟨s1, s2, s3⟩ := parse_build h hg hr p [1, 2, 3] hsz
  have HP1 := fun v w hb => Lib.hid (ipParse_any v (buildB h p ++ [1, 2, 3]) w hb)
  rw [s1, s2, s3] at HP1
  have hlen : (buildB h p).length = 20 + h.opts.length + p.length := by
    rw [show buildB h p = sealH h (sizeH h p) ++ p from if_pos ⟨hg, hsz⟩, List.length_append, sealH_length]
  obtain ⟨nb, hnb⟩ : ∃ nb, (buildB h p).length = nb := ⟨_, rfl⟩
  have hn0 : 20 ≤ nb := by omega
  have hn9 : nb ≤ 9000 := by unfold sizeH at hsz; omega
  have hol : 20 + h.opts.length ≤ nb := by omega
  obtain ⟨j, hj⟩ : ∃ j : Nat, a % (nb : Int) = j := ⟨(a % (nb : Int)).toNat, by have := Int.emod_nonneg a (show (nb : Int) ≠ 0 by omega); omega⟩
  have hjn : j < nb := by have := Int.emod_lt_of_pos a (show (0 : Int) < nb by omega); omega
  have HP2 := fun v w hb => Lib.hid (ipParse_any v ((buildB h p).take j) w hb)
  have sc := parse_cut h hg p hsz j (by omega)
  rw [sc] at HP2
  obtain ⟨kk, hkk⟩ : ∃ kk : Nat, a % (8 * (20 + (h.opts.length : Int))) = kk := ⟨(a % (8 * (20 + (h.opts.length : Int)))).toNat, by have := Int.emod_nonneg a (show (8 * (20 + (h.opts.length : Int))) ≠ 0 by omega); omega⟩
  have hkn : kk < 8 * (20 + h.opts.length) := by have := Int.emod_lt_of_pos a (show (0 : Int) < 8 * (20 + (h.opts.length : Int)) by omega); omega
  obtain ⟨i, hi⟩ : ∃ i, kk / 8 = i := ⟨_, rfl⟩
  obtain ⟨q, hq⟩ : ∃ q, kk % 8 = q := ⟨_, rfl⟩
  have hq8 : q < 8 := by omega
  have hin : i < nb := by omega
  have HT := Lib.hid (fun u => parse_turned h hg p hsz i (by omega) u q hq8)
  have HSA := fun g gr vo vp w hb hc => Lib.hid (ipSame_any g h gr hr vo vp w hb hc)
  have HBh := Lib.hid hb
  have HBp := Lib.hid hp
  have HL := fun w => Lib.hid (ip_lives w)
  have HR := Lib.hid hr
  have HNB := Lib.hid hnb
  have HKN := Lib.hid hkn
  clear s1 s2 s3 sc hsz hlen hg hr hnb
  generalize parseP ((buildB h p).take j) = p2 at *
  generalize parseH ((buildB h p).take j) = h2 at *
  generalize buildB h p = L at *
  obtain ⟨a0, a1, a2, a3, a4, a5, a6, a7, a8⟩ := h
  simp only at ho40 k2 hol hkk
  obtain ⟨ao, cap, rfl, -, -, -, -⟩ := hb
  obtain ⟨aq, car, rfl, -, -, -, -⟩ := hp
  obtain ⟨W0, hW⟩ : ∃ W0, W0 = w.alloc (hdO 31 ⟨a0, a1, a2, a3, a4, a5, a6, a7, a8⟩ (.slice ao a8.length cap)) := ⟨_, rfl⟩
  have H0 : Hid (Same w W0) := by rw [hW]; exact Same.alloc w _
  have HX : Hid (∀ w', Same W0 w' → HdAt w' w.heap.size ⟨a0, a1, a2, a3, a4, a5, a6, a7, a8⟩ (.slice ao a8.length cap)) := by rw [hW]; exact hd_box 31 _ _ w
  have HW := Lib.hid hW
  clear hW
  have m1 : ¬ ((nb : Int) = 0) := by omega
  have m2 : (0 : Int) < nb := by omega
  have m3 : (j : Int) < nb := by omega
  have m4 : (nb : Int) ≤ 9000 := by omega
  have m5 : (20 : Int) ≤ nb := by omega
  go_enter Try.func6, Try.ntmps6
  go_wp2_with fail
  refine (HBu _ _ _ (HBh.out.same (by rw [← HW.out]; exact H0.out)) (HBp.out.same (by rw [← HW.out]; exact H0.out))).out.mono ?_
  rintro e w1 ⟨vb, rfl, ho1, hs1⟩
  have HS1 : Hid (Same W0 w1) := by rw [HW.out]; exact hs1
  have HO1 : Hid (OwnB w1 W0.heap.size vb L) := by rw [HW.out]; exact ho1
  obtain ⟨bo, bc, hvb, hbc, -, -, -⟩ := ho1.bs
  rw [HNB.out] at hvb hbc
  have m6 : (j : Int) ≤ bc := by omega
  subst hvb
  clear ho1 hs1 HBu
  have HL1 := Lib.hid (show ([] : List UInt8).length + L.length ≤ 140737488355328 by rw [HNB.out]; simp; omega)
  have HL2 := Lib.hid (show L.length + ([1, 2, 3] : List UInt8).length ≤ 140737488355328 by rw [HNB.out]; simp; omega)
  go_wp2_with (at_builtin; first
    | (refine wpList_append_bs rfl _ _ rfl w1 (Same.alloc _ _) _ [] rfl (OwnB.empty w1) _ L rfl (HO1.out.bs.same (Same.alloc _ _)) HL1.out ?_; intro v2 w2 ho2 hs2; rw [List.nil_append] at ho2; have HO2 := Lib.hid ho2; have HS2 := Lib.hid hs2; clear ho2 hs2)
    | (refine wpList_append_bs rfl _ _ rfl w1 (HS2.out.trans (Same.alloc _ _)) _ L rfl (HO2.out.same (Same.alloc _ _)) _ [1, 2, 3] rfl (OwnB.three w2) HL2.out ?_; intro v3 w3 ho3 hs3))
  have HO3 := Lib.hid ho3
  have HS3 := Lib.hid (HS1.out.trans hs3)
  have HO1b := Lib.hid (HO1.out.same hs3)
  clear ho3 hs3 HO2 HS2 HL2
  refine (HP1 _ _ HO3.out.bs).out.mono ?_
  rintro e w4 ⟨vo4, vp4, rfl, ho4, hp4, hs4⟩
  have HO4 := Lib.hid ho4
  have HP4 := Lib.hid hp4
  have HS4 := Lib.hid (HS3.out.trans hs4)
  have HO1c := Lib.hid (HO1b.out.same hs4)
  obtain ⟨d1, d2, rfl, -, -, -, -⟩ := ho4.bs
  obtain ⟨d3, d4, rfl, -, -, -, -⟩ := hp4.bs
  clear ho4 hp4 hs4 HS3 HO3 HO1b HP1
  have HA4 := Lib.hid (Same.alloc w4 (hdO 31 ⟨a0, a1, a2, a3, a4, a5, a6, a7, a8⟩ (.slice d1 a8.length d2)))
  have HK4 := Lib.hid (heap_alloc_new w4 (hdO 31 ⟨a0, a1, a2, a3, a4, a5, a6, a7, a8⟩ (.slice d1 a8.length d2)))
  go_wp2_with fail
  refine (HP2 _ _ ((HO1c.out.bs.same HA4.out).front j (by rw [HNB.out]; omega))).out.mono ?_
  rintro e w6 ⟨vo6, vp6, rfl, ho6, hp6, hs6⟩
  have HS6 := Lib.hid ((HS4.out.trans HA4.out).trans hs6)
  have HK6 := Lib.hid (hs6.block HK4.out)
  have HO4b := Lib.hid (HO4.out.same (HA4.out.trans hs6))
  have HP4b := Lib.hid (HP4.out.same (HA4.out.trans hs6))
  have HO1d := Lib.hid (HO1c.out.same (HA4.out.trans hs6))
  obtain ⟨d5, d6, rfl, -, -, -, -⟩ := ho6.bs
  obtain ⟨d7, d8, rfl, -, -, -, -⟩ := hp6.bs
  clear ho6 hp6 hs6 HO4 HP4 HO1c HK4 HA4 HS4 HP2
  obtain ⟨g0, g1, g2, g3, g4, g5, g6, g7, g8⟩ := h2
  simp only
  generalize g8.length = n8 at *
  generalize p2.length = n2 at *
  have HA6 := Lib.hid (Same.alloc w6 (hdO 31 ⟨g0, g1, g2, g3, g4, g5, g6, g7, g8⟩ (.slice d5 n8 d6)))
  obtain ⟨c0, c1, c2, c3, c4, c5, c6, c7, c8⟩ := HX.out _ (HS6.out.trans HA6.out)
  obtain ⟨e0, e1, e2, e3, e4, e5, e6, e7, e8⟩ := HdAt.of (HA6.out.block HK6.out)
  go_wp2_with fail
  refine (HSA ⟨a0, a1, a2, a3, a4, a5, a6, a7, a8⟩ HR.out _ _ _ (HO4b.out.bs.same HA6.out) (HBh.out.same (H0.out.trans (HS6.out.trans HA6.out)))).out.mono ?_
  rw [sameH_self]
  rintro e w7 ⟨rfl, hs7⟩
  have HS7 := Lib.hid ((HS6.out.trans HA6.out).trans hs7)
  have HO1e := Lib.hid (HO1d.out.same (HA6.out.trans hs7))
  have hr1 := run_str w7 _ p (HP4b.out.bs.same (HA6.out.trans hs7))
  have hr2 := run_str w7 _ p (HBp.out.same (H0.out.trans HS7.out))
  generalize (⟨p.toArray⟩ : ByteArray) = sp at *
  clear hs7 HO4b HP4b HO1d HK6 HA6 HS6 c0 c1 c2 c3 c4 c5 c6 c7 c8 e0 e1 e2 e3 e4 e5 e6 e7 e8
  obtain ⟨c0, c1, c2, c3, c4, c5, c6, c7, c8⟩ := HX.out _ HS7.out
  go_wp2_with (at_builtin; refine wpList_append_bs rfl _ _ rfl w7 (Same.alloc _ _) _ [] rfl (OwnB.empty w7) _ L rfl (HO1e.out.bs.same (Same.alloc _ _)) HL1.out ?_; intro v8 w8 ho8 hs8; rw [List.nil_append] at ho8; obtain ⟨g, cg, rfl, hcg, hBg⟩ := OwnB.forms ho8 (by rw [HNB.out]; omega); obtain ⟨t0, t1, t2, t3, t4, t5, t6, t7, t8⟩ := HX.out _ (HS7.out.trans hs8); have hcl := OwnB.cell ho8 i (by rw [HNB.out]; exact hin); have hth := OwnB.thaw ho8 i; have hcl2 : w8.cell? ⟨g, i, none⟩ = some (.int .u8 ((L[i]'(by rw [HNB.out]; exact hin)).toNat : Nat)) := hcl; clear hcl; have m7 : (i : Int) < (L.length : Int) := by rw [HNB.out]; omega)
  have HO8 := Lib.hid ho8
  have HS8 := Lib.hid (HS7.out.trans hs8)
  have HBg : Hid (W0.heap.size ≤ g) := Nat.le_trans HS7.out.size hBg
  have hx : bits .xor .u8 (((L[i]'(by rw [HNB.out]; exact hin)).toNat : Nat) : Int) ((2 : Int) ^ q % 256) = ((turnU (L[i]'(by rw [HNB.out]; exact hin)) q).toNat : Int) := xor_val _ q hq8
  have HO9 : Hid (OwnB (w8.setCell ⟨g, i, none⟩ (.int .u8 (bits .xor .u8 (((L[i]'(by rw [HNB.out]; exact hin)).toNat : Nat) : Int) ((2 : Int) ^ q % 256)))) w7.heap.size (.slice (some ⟨g, 0, none⟩) L.length cg) (L.set i (turnU (L[i]'(by rw [HNB.out]; exact hin)) q))) := by
    rw [hx]
    exact OwnB.set ho8 i _
  have HS9 : Hid (Same W0 (w8.setCell ⟨g, i, none⟩ (.int .u8 (bits .xor .u8 (((L[i]'(by rw [HNB.out]; exact hin)).toNat : Nat) : Int) ((2 : Int) ^ q % 256))))) := HS8.out.set HBg.out _
  have HTu := Lib.hid (HT.out (turnU (L[i]'(by rw [HNB.out]; exact hin)) q) (fun u hu => by
    have hu' : u = L[i]'(by rw [HNB.out]; exact hin) := by
      rw [List.getElem?_eq_getElem (by rw [HNB.out]; exact hin)] at hu
      exact (Option.some.inj hu).symm
    subst hu'
    rw [turnU_nat _ q hq8]
    exact (xor_bit _ (UInt8.toNat_lt _) q hq8).2))
  clear hx ho8 hs8 hBg hcl2 hth t0 t1 t2 t3 t4 t5 t6 t7 t8 c0 c1 c2 c3 c4 c5 c6 c7 c8 HT HO8 HS8
  generalize L.set i (turnU (L[i]'(by rw [HNB.out]; exact hin)) q) = X at *
  generalize (w8.setCell ⟨g, i, none⟩ (.int .u8 (bits .xor .u8 (((L[i]'(by rw [HNB.out]; exact hin)).toNat : Nat) : Int) ((2 : Int) ^ q % 256)))) = w9 at *
  have HP3 := Lib.hid (ipParse_any _ X w9 HO9.out.bs)
  have HXR := Lib.hid (parseH_r X)
  clear hr1 hr2 HO1e hkk hi hq hj
  by_cases hE : parseE X = 0
  · have hne : sameH (parseH X) ⟨a0, a1, a2, a3, a4, a5, a6, a7, a8⟩ = false := by
      rw [Bool.eq_false_iff]
      intro hh
      exact HTu.out hE ((sameH_iff _ _).1 hh)
    have HSB := fun vo vp w hb hc => HSA (parseH X) HXR.out vo vp w hb hc
    rw [hne] at HSB
    rw [hE] at HP3
    clear hne hE HTu HSA
    generalize parseP X = p10 at *
    generalize parseH X = h10 at *
    obtain ⟨f0, f1, f2, f3, f4, f5, f6, f7, f8⟩ := h10
    refine HP3.out.mono ?_
    rintro e w10 ⟨vo10, vp10, rfl, ho10, hp10, hs10⟩
    have HO10 := Lib.hid ho10
    have HS10 := Lib.hid (HS9.out.trans hs10)
    obtain ⟨d9, d10, rfl, -, -, -, -⟩ := ho10.bs
    obtain ⟨d11, d12, rfl, -, -, -, -⟩ := hp10.bs
    clear ho10 hp10 hs10
    have HA10 := Lib.hid (Same.alloc w10 (hdO 31 ⟨f0, f1, f2, f3, f4, f5, f6, f7, f8⟩ (.slice d9 f8.length d10)))
    obtain ⟨c0, c1, c2, c3, c4, c5, c6, c7, c8⟩ := HX.out _ (HS10.out.trans HA10.out)
    go_wp2_with fail
    refine (HSB _ _ _ (HO10.out.bs.same HA10.out) (HBh.out.same (H0.out.trans (HS10.out.trans HA10.out)))).out.mono ?_
    rintro e w11 ⟨rfl, hs11⟩
    have HS11 := Lib.hid ((HS10.out.trans HA10.out).trans hs11)
    clear hs11
    go_wp2_with fail
    refine (HL _).out.mono ?_
    rintro e w12 ⟨rfl, hs12⟩
    have HS12 := Lib.hid (H0.out.trans (HS11.out.trans hs12))
    clear hs12
    go_wp2_with fail
    go_ret
    exact ⟨rfl, HS12.out⟩
  · have hE2 : (parseE X != 0) = true := by simpa using hE
    clear hE HTu HSA
    generalize parseE X = E at *
    generalize parseP X = p10 at *
    generalize parseH X = h10 at *
    obtain ⟨f0, f1, f2, f3, f4, f5, f6, f7, f8⟩ := h10
    refine HP3.out.mono ?_
    rintro e w10 ⟨vo10, vp10, rfl, ho10, hp10, hs10⟩
    have HS10 := Lib.hid (HS9.out.trans hs10)
    obtain ⟨d9, d10, rfl, -, -, -, -⟩ := ho10.bs
    obtain ⟨d11, d12, rfl, -, -, -, -⟩ := hp10.bs
    clear ho10 hp10 hs10
    have HA10 := Lib.hid (Same.alloc w10 (hdO 31 ⟨f0, f1, f2, f3, f4, f5, f6, f7, f8⟩ (.slice d9 f8.length d10)))
    go_wp2_with fail
    refine (HL _).out.mono ?_
    rintro e w12 ⟨rfl, hs12⟩
    have HS12 := Lib.hid (H0.out.trans ((HS10.out.trans HA10.out).trans hs12))
    clear hs12
    go_wp2_with fail
    go_ret
    exact ⟨rfl, HS12.out⟩
end Go.Proofs.Ytldiagjnpkpepaa
