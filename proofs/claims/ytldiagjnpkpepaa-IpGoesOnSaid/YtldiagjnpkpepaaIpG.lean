/- The walk of IpGoesOn. No condition beyond what each names. -/
import Derived.Test.YtldiagjnpkpepaaIpL
import Derived.Test.YtldiagjnpkpepaaIpN
namespace Go.Proofs.Ytldiagjnpkpepaa
open Go.RowKit
set_option linter.unusedVariables false

/-- a header that went k steps -/
def hk (h : Hd) (k : Nat) : Hd := { h with ttl := h.ttl - k }
theorem good_hk (h : Hd) (hg : goodH h) (k : Nat) (hk0 : (k : Int) ≤ h.ttl) : goodH (hk h k) := by
  obtain ⟨q0, ⟨q1, q2⟩, q3⟩ := hg
  exact ⟨q0, ⟨by show 0 ≤ h.ttl - k; omega, by show h.ttl - k ≤ 255; omega⟩, q3⟩
theorem good_dst (h : Hd) (hg : goodH h) (d : Int) : goodH { h with dst := d } := hg
theorem size_hk (h : Hd) (k : Nat) (p : List UInt8) : sizeH (hk h k) p = sizeH h p := rfl

/-- a packet that went k steps, parsed -/
theorem parse_hk (h : Hd) (hg : goodH h) (hr : HdR h) (p : List UInt8) (hs : sizeH h p ≤ 9000) (k : Nat) (hk0 : (k : Int) ≤ h.ttl) :
    parseE (buildB (hk h k) p) = 0 ∧ parseH (buildB (hk h k) p) = hk h k ∧ parseP (buildB (hk h k) p) = p := by
  have := parse_build (hk h k) (good_hk h hg k hk0) hr p [] hs
  rwa [List.append_nil] at this
theorem step_hk (h : Hd) (hg : goodH h) (hr : HdR h) (p : List UInt8) (hs : sizeH h p ≤ 9000) (k : Nat) (h2 : 2 ≤ h.ttl - k) :
    fwdE (buildB (hk h k) p) = 0 ∧ fwdB (buildB (hk h k) p) = buildB (hk h (k + 1)) p := by
  obtain ⟨e1, e2, e3⟩ := parse_hk h hg hr p hs k (by omega)
  have hE : fwdE (buildB (hk h k) p) = 0 := by
    rw [fwdE, e1, e2, if_neg (by simp), if_neg (by show ¬ h.ttl - k < 2; omega)]
  refine ⟨hE, ?_⟩
  rw [fwdB, if_pos hE, e2, e3]
  have : ({ hk h k with ttl := (hk h k).ttl - 1 } : Hd) = hk h (k + 1) := by
    unfold hk
    simp only [Hd.mk.injEq, true_and, and_true]
    push_cast
    omega
  rw [this]
theorem last_hk (h : Hd) (hg : goodH h) (hr : HdR h) (p : List UInt8) (hs : sizeH h p ≤ 9000) (k : Nat) (hk0 : (k : Int) ≤ h.ttl) (h2 : h.ttl - k < 2) : fwdE (buildB (hk h k) p) = 9 := by
  obtain ⟨e1, e2, e3⟩ := parse_hk h hg hr p hs k hk0
  rw [fwdE, e1, e2, if_neg (by simp), if_pos (by show h.ttl - k < 2; omega)]
theorem rew_hk (h : Hd) (hg : goodH h) (hr : HdR h) (p : List UInt8) (hs : sizeH h p ≤ 9000) (k : Nat) (hk0 : (k : Int) ≤ h.ttl) (d : Int) (hd : 0 ≤ d ∧ d ≤ 4294967295) :
    parseE (rewB (buildB (hk h k) p) d) = 0 ∧ parseH (rewB (buildB (hk h k) p) d) = { hk h k with dst := d } := by
  obtain ⟨e1, e2, e3⟩ := parse_hk h hg hr p hs k hk0
  have e : rewB (buildB (hk h k) p) d = buildB { hk h k with dst := d } p := by rw [rewB, if_pos e1, e2, e3]
  rw [e]
  have := parse_build { hk h k with dst := d } (good_hk h hg k hk0) ⟨hr.1, hd⟩ p [] hs
  rw [List.append_nil] at this
  exact ⟨this.1, this.2.1⟩

set_option maxRecDepth 100000 in
theorem goes_long (h : Hd) (p : List UInt8) (vo v : Value) (d : Int) (w : World) (hb : Bs w vo h.opts) (hp : Bs w v p) (hl : 500 < (p.length : Int)) :
    Calls Try.prog 7 #[hdV h vo, v, .int .u32 d] w fun e w' => e = .returned (.bool true) ∧ Same w w' := by
  obtain ⟨a0, a1, a2, a3, a4, a5, a6, a7, a8⟩ := h
  obtain ⟨ao, cap, rfl, -, -, -, -⟩ := hb
  obtain ⟨aq, car, rfl, -, -, -, -⟩ := hp
  have H0 : Hid (Same w (w.alloc (hdO 31 ⟨a0, a1, a2, a3, a4, a5, a6, a7, a8⟩ (.slice ao a8.length cap)))) := Same.alloc w _
  go_enter Try.func7, Try.ntmps7
  go_wp2_with fail
  refine (ip_lives _).mono ?_
  rintro e w1 ⟨rfl, hs⟩
  have HS := Lib.hid (H0.out.trans hs)
  clear hs
  go_wp2_with fail
  go_ret
  exact ⟨rfl, HS.out⟩

set_option maxRecDepth 100000 in
theorem goes_bad (h : Hd) (p : List UInt8) (vo v : Value) (d : Int) (w : World) (hb : Bs w vo h.opts) (hp : Bs w v p) (hl : ¬ 500 < (p.length : Int)) (hg : ¬ goodH h) :
    Calls Try.prog 7 #[hdV h vo, v, .int .u32 d] w fun e w' => e = .returned (.bool true) ∧ Same w w' := by
  have HG := fun ao cap w => Lib.hid (ipGood_any h ao cap w)
  rw [show decide (goodH h) = false from decide_eq_false hg] at HG
  clear hg
  obtain ⟨a0, a1, a2, a3, a4, a5, a6, a7, a8⟩ := h
  obtain ⟨ao, cap, rfl, -, -, -, -⟩ := hb
  obtain ⟨aq, car, rfl, -, -, -, -⟩ := hp
  have H0 : Hid (Same w (w.alloc (hdO 31 ⟨a0, a1, a2, a3, a4, a5, a6, a7, a8⟩ (.slice ao a8.length cap)))) := Same.alloc w _
  go_enter Try.func7, Try.ntmps7
  go_wp2_with fail
  refine (HG _ _ _).out.mono ?_
  rintro e w0 ⟨rfl, hs0⟩
  have HS0 := Lib.hid (H0.out.trans hs0)
  clear hs0
  go_wp2_with fail
  refine (ip_lives _).mono ?_
  rintro e w1 ⟨rfl, hs⟩
  have HS := Lib.hid (HS0.out.trans hs)
  clear hs
  go_wp2_with fail
  go_ret
  exact ⟨rfl, HS.out⟩

set_option maxRecDepth 100000 in
set_option maxHeartbeats 4000000 in
theorem goes_walk (h : Hd) (hg : goodH h) (hr : HdR h) (p : List UInt8) (vo v : Value) (d : Int) (hd : 0 ≤ d ∧ d ≤ 4294967295) (w : World) (hb : Bs w vo h.opts) (hp : Bs w v p) (hl : ¬ 500 < (p.length : Int)) :
    Calls Try.prog 7 #[hdV h vo, v, .int .u32 d] w fun e w' => e = .returned (.bool true) ∧ Same w w' := by
  have HG := fun ao cap w => Lib.hid (ipGood_any h ao cap w)
  rw [show decide (goodH h) = true from decide_eq_true hg] at HG
  have ho40 : h.opts.length ≤ 40 := hg.2.2.2.2.2.2.1
  have hsz : sizeH h p ≤ 9000 := by unfold sizeH; omega
  have ht0 : 0 ≤ h.ttl := hg.2.1.1
  have ht1 : h.ttl ≤ 255 := hg.2.1.2
  have HBu := fun vo v w hb hp => Lib.hid (ipBuild_any h hr p vo v w hb hp (by omega) (by omega))
  have HST := Lib.hid (step_hk h hg hr p hsz)
  have HLA := Lib.hid (last_hk h hg hr p hsz)
  have HPH := Lib.hid (parse_hk h hg hr p hsz)
  have HRW := Lib.hid (fun k hk0 => rew_hk h hg hr p hsz k hk0 d hd)
  have HSA := fun vo vp w hb hc => Lib.hid (ipSame_any h h hr hr vo vp w hb hc)
  rw [sameH_self] at HSA
  have hK0 : hk h 0 = h := by unfold hk; simp
  have HK0 := Lib.hid hK0
  have HBh := Lib.hid hb
  have HBp := Lib.hid hp
  have HL := fun w => Lib.hid (ip_lives w)
  have HHK : Hid (∀ k : Nat, hk h k = ⟨h.tos, h.id, h.flags, h.frag, h.ttl - k, h.proto, h.src, h.dst, h.opts⟩) := fun k => rfl
  clear hg hsz hK0
  obtain ⟨a0, a1, a2, a3, a4, a5, a6, a7, a8⟩ := h
  simp only at ho40 ht0 ht1 HHK
  have k3 : ¬ 300 < (a8.length : Int) := by omega
  obtain ⟨ao, cap, rfl, -, -, -, -⟩ := hb
  obtain ⟨aq, car, rfl, -, -, -, -⟩ := hp
  obtain ⟨W0, hW⟩ : ∃ W0, W0 = w.alloc (hdO 31 ⟨a0, a1, a2, a3, a4, a5, a6, a7, a8⟩ (.slice ao a8.length cap)) := ⟨_, rfl⟩
  have H0 : Hid (Same w W0) := by rw [hW]; exact Same.alloc w _
  have HX : Hid (∀ w', Same W0 w' → HdAt w' w.heap.size ⟨a0, a1, a2, a3, a4, a5, a6, a7, a8⟩ (.slice ao a8.length cap)) := by rw [hW]; exact hd_box 31 _ _ w
  have HW := Lib.hid hW
  clear hW
  go_enter Try.func7, Try.ntmps7
  go_wp2_with fail
  refine (HG _ _ _).out.mono ?_
  rintro e w1 ⟨rfl, hs1⟩
  have HS1 : Hid (Same W0 w1) := by rw [HW.out]; exact hs1
  clear hs1 HG
  obtain ⟨c0, c1, c2, c3, c4, c5, c6, c7, c8⟩ := HX.out w1 HS1.out
  go_wp2_with fail
  refine (HBu _ _ _ (HBh.out.same (H0.out.trans HS1.out)) (HBp.out.same (H0.out.trans HS1.out))).out.mono ?_
  rintro e w2 ⟨vb, rfl, ho2, hs2⟩
  have HS2 := Lib.hid (HS1.out.trans hs2)
  have HO2 : Hid (OwnB w2 W0.heap.size vb (buildB (hk ⟨a0, a1, a2, a3, a4, a5, a6, a7, a8⟩ 0) p)) := by rw [HK0.out]; exact ho2.mono HS1.out.size
  clear ho2 hs2 c0 c1 c2 c3 c4 c5 c6 c7 c8 HBu HS1 HK0
  go_wp2_with fail
  go_loopw [7, 8] (fun bv nv wr => ∃ k : Nat, nv = .int .i64 k ∧ k ≤ (a4 - 1).toNat ∧ OwnB wr W0.heap.size bv (buildB (hk ⟨a0, a1, a2, a3, a4, a5, a6, a7, a8⟩ k) p) ∧ Same W0 wr) (fun _ nv _ => (a4 - 1).toNat - (intOf nv).toNat)
  case atStart => exact ⟨0, rfl, by omega, HO2.out, HS2.out⟩
  case round =>
    obtain ⟨k, rfl, hkT, ho, hsr⟩ := hrel
    have k300 : (k : Int) ≤ 300 := by omega
    have hkt : (k : Int) ≤ a4 := by omega
    have HO := Lib.hid ho
    have HSR := Lib.hid hsr
    clear ho hsr
    have HF := Lib.hid (ipFwd_any _ _ wr HO.out.bs)
    by_cases hlt : 2 ≤ a4 - k
    · rw [(HST.out k hlt).1, (HST.out k hlt).2] at HF
      generalize buildB (hk ⟨a0, a1, a2, a3, a4, a5, a6, a7, a8⟩ k) p = B1 at *
      go_wp2_with fail
      refine HF.out.mono ?_
      rintro e w3 ⟨x3, rfl, ho3, hs3⟩
      have HO3 := Lib.hid (ho3.mono HSR.out.size)
      have HS3 := Lib.hid (HSR.out.trans hs3)
      clear ho3 hs3
      go_wp2_with fail
      go_roundw
      case rel => exact ⟨k + 1, by push_cast; rfl, by omega, HO3.out, HS3.out⟩
      case measure => simp [intOf]; omega
    · rw [HLA.out k hkt (by show a4 - (k : Int) < 2; omega)] at HF
      obtain ⟨r1, r2⟩ := HRW.out k hkt
      obtain ⟨s1, s2, s3⟩ := HPH.out k hkt
      have HPa := fun w hb => Lib.hid (ipParse_any u7 (buildB (hk ⟨a0, a1, a2, a3, a4, a5, a6, a7, a8⟩ k) p) w hb)
      have HRe := fun w hb => Lib.hid (ipRew_any u7 (buildB (hk ⟨a0, a1, a2, a3, a4, a5, a6, a7, a8⟩ k) p) d hd w hb)
      rw [s1, s2, s3] at HPa
      rw [s1] at HRe
      have HPb := fun v w hb => Lib.hid (ipParse_any v (rewB (buildB (hk ⟨a0, a1, a2, a3, a4, a5, a6, a7, a8⟩ k) p) d) w hb)
      rw [r1, r2] at HPb
      clear r1 r2 s1 s2 s3 HRW HPH HLA HST
      generalize rewB (buildB (hk ⟨a0, a1, a2, a3, a4, a5, a6, a7, a8⟩ k) p) d = B2 at *
      generalize buildB (hk ⟨a0, a1, a2, a3, a4, a5, a6, a7, a8⟩ k) p = B1 at *
      generalize parseP B2 = p2 at *
      rw [HHK.out k] at HPa HPb
      simp only at HPa HPb
      go_wp2_with fail
      refine HF.out.mono ?_
      rintro e w3 ⟨x3, rfl, -, hs3⟩
      have HS3 := Lib.hid (HSR.out.trans hs3)
      have HO3 := Lib.hid (HO.out.same hs3)
      clear hs3 HSR HO
      by_cases hz : a4 = 0
      · subst hz
        obtain rfl : k = 0 := by omega
        simp only [Int.natCast_zero, Int.sub_zero] at HPa HPb
        obtain ⟨c0, c1, c2, c3, c4, c5, c6, c7, c8⟩ := HX.out w3 HS3.out
        go_wp2_with fail
        refine (HPa _ HO3.out.bs).out.mono ?_
        rintro e w4 ⟨vo4, vp4, rfl, ho4, hp4, hs4⟩
        have HO4 := Lib.hid ho4
        have HP4 := Lib.hid hp4
        have HS4 := Lib.hid (HS3.out.trans hs4)
        have HO3b := Lib.hid (HO3.out.same hs4)
        obtain ⟨d1, d2, rfl, -, -, -, -⟩ := ho4.bs
        obtain ⟨d3, d4, rfl, -, -, -, -⟩ := hp4.bs
        clear ho4 hp4 hs4 c0 c1 c2 c3 c4 c5 c6 c7 c8
        have hsA : Same w4 (w4.alloc (hdO 31 ⟨a0, a1, a2, a3, 0, a5, a6, a7, a8⟩ (.slice d1 a8.length d2))) := Same.alloc w4 _
        have hr1 := run_str _ _ p (HP4.out.bs.same hsA)
        have hr2 := run_str _ _ p (HBp.out.same ((H0.out.trans HS4.out).trans hsA))
        obtain ⟨c0, c1, c2, c3, c4, c5, c6, c7, c8⟩ := HX.out _ (HS4.out.trans hsA)
        have HA := Lib.hid (Same.alloc w4 (hdO 31 ⟨a0, a1, a2, a3, 0, a5, a6, a7, a8⟩ (.slice d1 a8.length d2)))
        have HK := Lib.hid (heap_alloc_new w4 (hdO 31 ⟨a0, a1, a2, a3, 0, a5, a6, a7, a8⟩ (.slice d1 a8.length d2)))
        generalize (⟨p.toArray⟩ : ByteArray) = sp at *
        clear hsA
        go_wp2_with fail
        refine (HRe _ (HO3b.out.bs.same HA.out)).out.mono ?_
        rintro e w6 ⟨x6, rfl, ho6, hs6⟩
        have HO6 := Lib.hid ho6
        have HS6 := Lib.hid ((HS4.out.trans HA.out).trans hs6)
        have HK6 := Lib.hid (hs6.block HK.out)
        have HO4b := Lib.hid (HO4.out.same (HA.out.trans hs6))
        clear ho6 hs6 hr1 hr2 c0 c1 c2 c3 c4 c5 c6 c7 c8 HK HA HO4 HP4
        go_wp2_with fail
        refine (HPb _ _ HO6.out.bs).out.mono ?_
        rintro e w7 ⟨vo7, vp7, rfl, ho7, hp7, hs7⟩
        have HS7 := Lib.hid (HS6.out.trans hs7)
        have HK7 := Lib.hid (hs7.block HK6.out)
        have HO4c := Lib.hid (HO4b.out.same hs7)
        obtain ⟨d5, d6, rfl, -, -, -, -⟩ := ho7.bs
        obtain ⟨d7, d8, rfl, -, -, -, -⟩ := hp7.bs
        clear ho7 hp7 hs7
        have HA7 := Lib.hid (Same.alloc w7 (hdO 31 ⟨a0, a1, a2, a3, 0, a5, a6, d, a8⟩ (.slice d5 a8.length d6)))
        have HK8 := Lib.hid (heap_alloc_new w7 (hdO 31 ⟨a0, a1, a2, a3, 0, a5, a6, d, a8⟩ (.slice d5 a8.length d6)))
        obtain ⟨c0, c1, c2, c3, c4, c5, c6, c7, c8⟩ := HX.out _ (HS7.out.trans HA7.out)
        obtain ⟨e0, e1, e2, e3, e4, e5, e6, e7, e8⟩ := HdAt.of (HA7.out.block HK7.out)
        go_wp2_with fail
        refine (HSA _ _ _ ((HO4c.out.bs).same HA7.out) (HBh.out.same (H0.out.trans (HS7.out.trans HA7.out)))).out.mono ?_
        rintro e w9 ⟨rfl, hs9⟩
        have HS9 := Lib.hid ((HS7.out.trans HA7.out).trans hs9)
        have HK9 := Lib.hid (hs9.block HK8.out)
        clear hs9 c0 c1 c2 c3 c4 c5 c6 c7 c8 e0 e1 e2 e3 e4 e5 e6 e7 e8
        obtain ⟨c0, c1, c2, c3, c4, c5, c6, c7, c8⟩ := HX.out _ HS9.out
        obtain ⟨e0, e1, e2, e3, e4, e5, e6, e7, e8⟩ := HdAt.of HK9.out
        go_wp2_with fail
        refine (HL _).out.mono ?_
        rintro e w10 ⟨rfl, hs10⟩
        have HS10 := Lib.hid (H0.out.trans (HS9.out.trans hs10))
        clear hs10
        go_wp2_with fail
        go_ret
        exact ⟨rfl, HS10.out⟩
      · have hq : a4 - (k : Int) = 1 := by omega
        have hne : ¬ (a4 = 0) := hz
        have hnn : ((k : Int) != a4 - 1) = false := by simp; omega
        have hk254 : (k : Int) ≤ 254 := by omega
        rw [hq] at HPa HPb
        clear hkT hkt hlt hz
        obtain ⟨c0, c1, c2, c3, c4, c5, c6, c7, c8⟩ := HX.out w3 HS3.out
        go_wp2_with fail
        refine (HPa _ HO3.out.bs).out.mono ?_
        rintro e w4 ⟨vo4, vp4, rfl, ho4, hp4, hs4⟩
        have HO4 := Lib.hid ho4
        have HP4 := Lib.hid hp4
        have HS4 := Lib.hid (HS3.out.trans hs4)
        have HO3b := Lib.hid (HO3.out.same hs4)
        obtain ⟨d1, d2, rfl, -, -, -, -⟩ := ho4.bs
        obtain ⟨d3, d4, rfl, -, -, -, -⟩ := hp4.bs
        clear ho4 hp4 hs4 c0 c1 c2 c3 c4 c5 c6 c7 c8
        have hsA : Same w4 (w4.alloc (hdO 31 ⟨a0, a1, a2, a3, 1, a5, a6, a7, a8⟩ (.slice d1 a8.length d2))) := Same.alloc w4 _
        have hr1 := run_str _ _ p (HP4.out.bs.same hsA)
        have hr2 := run_str _ _ p (HBp.out.same ((H0.out.trans HS4.out).trans hsA))
        obtain ⟨c0, c1, c2, c3, c4, c5, c6, c7, c8⟩ := HX.out _ (HS4.out.trans hsA)
        have HA := Lib.hid (Same.alloc w4 (hdO 31 ⟨a0, a1, a2, a3, a4, a5, a6, a7, a8⟩ (.slice d1 a8.length d2)))
        have HK := Lib.hid (heap_alloc_new w4 (hdO 31 ⟨a0, a1, a2, a3, a4, a5, a6, a7, a8⟩ (.slice d1 a8.length d2)))
        generalize (⟨p.toArray⟩ : ByteArray) = sp at *
        clear hsA
        go_wp2_with fail
        refine (HRe _ (HO3b.out.bs.same HA.out)).out.mono ?_
        rintro e w6 ⟨x6, rfl, ho6, hs6⟩
        have HO6 := Lib.hid ho6
        have HS6 := Lib.hid ((HS4.out.trans HA.out).trans hs6)
        have HK6 := Lib.hid (hs6.block HK.out)
        have HO4b := Lib.hid (HO4.out.same (HA.out.trans hs6))
        clear ho6 hs6 hr1 hr2 c0 c1 c2 c3 c4 c5 c6 c7 c8 HK HA HO4 HP4
        go_wp2_with fail
        refine (HPb _ _ HO6.out.bs).out.mono ?_
        rintro e w7 ⟨vo7, vp7, rfl, ho7, hp7, hs7⟩
        have HS7 := Lib.hid (HS6.out.trans hs7)
        have HK7 := Lib.hid (hs7.block HK6.out)
        have HO4c := Lib.hid (HO4b.out.same hs7)
        obtain ⟨d5, d6, rfl, -, -, -, -⟩ := ho7.bs
        obtain ⟨d7, d8, rfl, -, -, -, -⟩ := hp7.bs
        clear ho7 hp7 hs7
        have HA7 := Lib.hid (Same.alloc w7 (hdO 31 ⟨a0, a1, a2, a3, 1, a5, a6, d, a8⟩ (.slice d5 a8.length d6)))
        have HK8 := Lib.hid (heap_alloc_new w7 (hdO 31 ⟨a0, a1, a2, a3, 1, a5, a6, d, a8⟩ (.slice d5 a8.length d6)))
        obtain ⟨c0, c1, c2, c3, c4, c5, c6, c7, c8⟩ := HX.out _ (HS7.out.trans HA7.out)
        obtain ⟨e0, e1, e2, e3, e4, e5, e6, e7, e8⟩ := HdAt.of (HA7.out.block HK7.out)
        go_wp2_with fail
        refine (HSA _ _ _ ((HO4c.out.bs).same HA7.out) (HBh.out.same (H0.out.trans (HS7.out.trans HA7.out)))).out.mono ?_
        rintro e w9 ⟨rfl, hs9⟩
        have HS9 := Lib.hid ((HS7.out.trans HA7.out).trans hs9)
        have HK9 := Lib.hid (hs9.block HK8.out)
        clear hs9 c0 c1 c2 c3 c4 c5 c6 c7 c8 e0 e1 e2 e3 e4 e5 e6 e7 e8
        obtain ⟨c0, c1, c2, c3, c4, c5, c6, c7, c8⟩ := HX.out _ HS9.out
        obtain ⟨e0, e1, e2, e3, e4, e5, e6, e7, e8⟩ := HdAt.of HK9.out
        go_wp2_with fail
        refine (HL _).out.mono ?_
        rintro e w10 ⟨rfl, hs10⟩
        have HS10 := Lib.hid (H0.out.trans (HS9.out.trans hs10))
        clear hs10
        go_wp2_with fail
        go_ret
        exact ⟨rfl, HS10.out⟩
end Go.Proofs.Ytldiagjnpkpepaa
