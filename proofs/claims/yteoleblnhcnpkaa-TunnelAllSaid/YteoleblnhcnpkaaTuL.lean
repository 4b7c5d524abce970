/- Layer 6: the document's example; the walk of TunnelAll. No condition beyond what each names. -/
import Derived.Test.YteoleblnhcnpkaaTuS
import Derived.Test.YteoleblnhcnpkaaPoN
import Derived.Test.YteoleblnhcnpkaaLives
namespace Go.Proofs.Yteoleblnhcnpkaa
open Go.RowKit
set_option linter.unusedVariables false

/-- a packet of UDP is one, and it is not of packets -/
theorem udp_packet (f : Fl) (hg : portOk f.sport ∧ portOk f.dport) (hr : (0 ≤ f.src ∧ f.src ≤ 4294967295) ∧ (0 ≤ f.dst ∧ f.dst ≤ 4294967295)) (p : List UInt8) (hl : 28 + p.length ≤ 9000) :
    (udpB f p).length = 28 + p.length ∧ parseE (udpB f p) = 0 ∧ (wholeP (udpB f p)).length = 28 + p.length ∧ unwE (udpB f p) = 7 := by
  have hul : (udpL f p).length = 8 + p.length := by simp [udpL, portsL_length, endsF, wdB]; omega
  obtain ⟨h1, h2, h3, h4⟩ := packet_parse { f with proto := 17 } ⟨.inr rfl, hg⟩ hr 6 (udpL f p) (by omega) (by omega)
  have e : udpB f p = packetB { f with proto := 17 } 6 (udpL f p) := rfl
  rw [← e] at h1 h2 h3 h4
  have hq : (parseP (udpB f p)).length = 8 + p.length := by rw [h4, layB_length _ _ _ (by simp [wdB]; omega), hul]
  obtain ⟨g1, g2, g3, g4, g5, -⟩ := headP_ok h2
  obtain ⟨k1, k2, k3, k4, k5, k6, k7⟩ := head_facts h2
  have ho : ((headP (udpB f p)).drop 20).length = 0 := by
    have : (parseH (udpB f p)).opts = [] := by rw [h3]; rfl
    rw [g5] at this
    show (readH (headP (udpB f p))).opts.length = 0
    rw [this]; rfl
  rw [List.length_drop] at ho
  refine ⟨by rw [h1, hul]; omega, h2, ?_, ?_⟩
  · rw [(whole_length h2).2.1]
    omega
  · have hc : carE (parseH (udpB f p)) = 7 := by rw [h3]; rfl
    rw [unwE, if_neg (by rw [h2]; decide), hc, if_pos (by decide)]

theorem lives_data : (wrapB (udpB ⟨0, 0, 0, 0, 0⟩ []) 1 2).length = 48 ∧ wrapE (udpB ⟨0, 0, 0, 0, 0⟩ []) = 0 ∧ depN 8 (wrapB (udpB ⟨0, 0, 0, 0, 0⟩ []) 1 2) = 1 := by
  obtain ⟨h1, h2, h3, h4⟩ := udp_packet ⟨0, 0, 0, 0, 0⟩ (by decide) ⟨⟨by decide, by decide⟩, ⟨by decide, by decide⟩⟩ [] (by simp)
  have e : wrapE (udpB ⟨0, 0, 0, 0, 0⟩ []) = 0 := by rw [wrapE, if_neg (by rw [h2]; decide), h3]; rfl
  refine ⟨?_, e, ?_⟩
  · rw [wrapB_length h2, h3]; rfl
  · rw [dep_wrap e 1 2 ⟨by decide, by decide⟩ ⟨by decide, by decide⟩ 7, depN, if_neg (by rw [h4]; decide)]

set_option maxRecDepth 100000 in
theorem tu_lives (w : World) : Calls Try.prog 6 #[] w fun e w' => e = .returned (.bool true) ∧ Same w w' := by
  have HB := Lib.hid (poUdp_any ⟨0, 0, 0, 0, 0⟩ ⟨⟨by decide, by decide⟩, ⟨by decide, by decide⟩⟩ (.slice none 0 0) [] w (Bs.nil w) (by simp))
  obtain ⟨h1, h2, h3⟩ := lives_data
  have HW := fun v w hb => Lib.hid (tWrap_any v (udpB ⟨0, 0, 0, 0, 0⟩ []) 1 2 ⟨by decide, by decide⟩ ⟨by decide, by decide⟩ w hb)
  have HD := fun v w hb => Lib.hid (tDepth_any v (wrapB (udpB ⟨0, 0, 0, 0, 0⟩ []) 1 2) w hb)
  rw [h2] at HW
  rw [h3] at HD
  have H1 := Lib.hid h1
  clear h1 h2 h3
  generalize wrapB (udpB ⟨0, 0, 0, 0, 0⟩ []) 1 2 = X at *
  generalize udpB ⟨0, 0, 0, 0, 0⟩ [] = L at *
  go_enter Try.func6, Try.ntmps6
  go_wp2_with fail
  refine HB.out.mono ?_
  rintro e w1 ⟨v, rfl, ho, hs⟩
  have HS1 := Lib.hid hs
  have HO1 := Lib.hid ho.bs
  clear ho hs
  go_wp2_with fail
  refine (HW _ _ HO1.out).out.mono ?_
  rintro e w2 ⟨v2, rfl, ho, hs⟩
  have HS2 := Lib.hid (HS1.out.trans hs)
  have HO2 := Lib.hid ho.bs
  obtain ⟨a2, c2, rfl⟩ := ho.bs.form0 H1.out
  clear ho hs
  go_wp2_with fail
  refine (HD _ _ HO2.out).out.mono ?_
  rintro e w3 ⟨rfl, hs⟩
  have HS3 := Lib.hid (HS2.out.trans hs)
  clear hs
  go_wp2_with fail
  go_ret
  exact ⟨rfl, HS3.out⟩

set_option maxRecDepth 100000 in
theorem tall_long (v : Value) (l : List UInt8) (src dst : Int) (w : World) (hb : Bs w v l) (hl : 12000 < (l.length : Int)) :
    Calls Try.prog 3 #[v, .int .u32 src, .int .u32 dst] w fun e w' => e = .returned (.bool true) ∧ Same w w' := by
  obtain ⟨ao, cap, rfl, -, -, -, -⟩ := hb
  go_enter Try.func3, Try.ntmps3
  go_wp2_with fail
  refine (tu_lives w).mono ?_
  rintro e w1 ⟨rfl, hs⟩
  have HS := Lib.hid hs
  clear hs
  go_wp2_with fail
  go_ret
  exact ⟨rfl, HS.out⟩

set_option maxRecDepth 100000 in
set_option maxHeartbeats 2000000 in
theorem tall_walk (v : Value) (l : List UInt8) (src dst : Int) (hs : 0 ≤ src ∧ src ≤ 4294967295) (hd : 0 ≤ dst ∧ dst ≤ 4294967295) (w : World) (hb : Bs w v l) (hl : ¬ 12000 < (l.length : Int)) :
    Calls Try.prog 3 #[v, .int .u32 src, .int .u32 dst] w fun e w' => e = .returned (.bool true) ∧ Same w w' := by
  have HW := fun w hb => Lib.hid (tWrap_any v l src dst hs hd w hb)
  have HRW := fun w hb => Lib.hid (riWrap_any v l src dst hs hd w hb)
  have HU := fun w hb => Lib.hid (tUnwrap_any v l w hb)
  have HRU := fun w hb => Lib.hid (riUnwrap_any v l w hb)
  have HI := fun w hb => Lib.hid (tIs_any v l w hb)
  have HD := fun w hb => Lib.hid (tDepth_any v l w hb)
  have HRD := fun w hb => Lib.hid (riDepth_any v l w hb)
  have HL := fun w => Lib.hid (tu_lives w)
  have HB := Lib.hid hb
  generalize wrapB l src dst = X at *
  generalize wrapE l = E1 at *
  generalize unwB l = P at *
  generalize unwE l = E2 at *
  generalize unwH l = H at *
  generalize depN 8 l = D at *
  have HSm := fun vo vp w h1 h2 => Lib.hid (riSame_any H H vo vp w h1 h2)
  rw [sameH_self] at HSm
  obtain ⟨q0, q1, q2, q3, q4, q5, q6, q7, q8⟩ := H
  obtain ⟨n8, hn8⟩ : ∃ n, q8.length = n := ⟨_, rfl⟩
  have HN8 := Lib.hid hn8
  obtain ⟨nP, hnP⟩ : ∃ n, P.length = n := ⟨_, rfl⟩
  have HNP := Lib.hid hnP
  obtain ⟨nX, hnX⟩ : ∃ n, X.length = n := ⟨_, rfl⟩
  have HNX := Lib.hid hnX
  clear hn8 hnP hnX hs hd
  obtain ⟨ao, cap, rfl, -, -, -, -⟩ := hb
  go_enter Try.func3, Try.ntmps3
  go_wp2_with fail
  refine (HW _ HB.out).out.mono ?_
  rintro e w1 ⟨v1, rfl, ho1, hs1⟩
  have HS1 := Lib.hid hs1
  have HO1 := Lib.hid ho1.bs
  obtain ⟨a1, c1, rfl⟩ := ho1.bs.form0 HNX.out
  clear ho1 hs1
  go_wp2_with fail
  refine (HRW _ (HB.out.same HS1.out)).out.mono ?_
  rintro e w2 ⟨v2, rfl, ho2, hs2⟩
  have HS2 := Lib.hid (HS1.out.trans hs2)
  have HO1a := Lib.hid (HO1.out.same hs2)
  have HO2 := Lib.hid ho2.bs
  obtain ⟨a2, c2, rfl⟩ := ho2.bs.form0 HNX.out
  clear ho2 hs2 HO1
  go_wp2_with fail
  refine (HU _ (HB.out.same HS2.out)).out.mono ?_
  rintro e w3 ⟨v3, vo3, rfl, hp3, ho3, hs3⟩
  have HS3 := Lib.hid (HS2.out.trans hs3)
  have HO1b := Lib.hid (HO1a.out.same hs3)
  have HO2a := Lib.hid (HO2.out.same hs3)
  have HP3 := Lib.hid hp3
  have HQ3 := Lib.hid ho3
  obtain ⟨a3, c3, rfl⟩ := hp3.form0 HNP.out
  obtain ⟨b3, d3, rfl⟩ := ho3.form0 HN8.out
  clear hp3 ho3 hs3 HO1a HO2
  have HA3 := Lib.hid (Same.alloc w3 (hdO 31 ⟨q0, q1, q2, q3, q4, q5, q6, q7, q8⟩ (.slice b3 n8 d3)))
  have HK3 := Lib.hid (heap_alloc_new w3 (hdO 31 ⟨q0, q1, q2, q3, q4, q5, q6, q7, q8⟩ (.slice b3 n8 d3)))
  go_wp2_with fail
  refine (HRU _ (HB.out.same (HS3.out.trans HA3.out))).out.mono ?_
  rintro e w4 ⟨v4, vo4, rfl, hp4, ho4, hs4⟩
  have HT4 := Lib.hid (HA3.out.trans hs4)
  have HK4 := Lib.hid (hs4.block HK3.out)
  have HP4 := Lib.hid hp4
  have HQ4 := Lib.hid ho4
  obtain ⟨a4, c4, rfl⟩ := hp4.form0 HNP.out
  obtain ⟨b4, d4, rfl⟩ := ho4.form0 HN8.out
  clear hp4 ho4 hs4 HK3
  have HA4 := Lib.hid (Same.alloc w4 (hdO 34 ⟨q0, q1, q2, q3, q4, q5, q6, q7, q8⟩ (.slice b4 n8 d4)))
  have HK5 := Lib.hid (heap_alloc_new w4 (hdO 34 ⟨q0, q1, q2, q3, q4, q5, q6, q7, q8⟩ (.slice b4 n8 d4)))
  have HK6 := Lib.hid (HA4.out.block HK4.out)
  obtain ⟨x0, x1, x2, x3, x4, x5, x6, x7, x8⟩ := HdAt.of HK6.out
  obtain ⟨y0, y1, y2, y3, y4, y5, y6, y7, y8⟩ := HdAt.of HK5.out
  have hr1 := run_str (w4.alloc (hdO 34 ⟨q0, q1, q2, q3, q4, q5, q6, q7, q8⟩ (.slice b4 n8 d4))) _ X (HO1b.out.same (HT4.out.trans HA4.out))
  have hr2 := run_str (w4.alloc (hdO 34 ⟨q0, q1, q2, q3, q4, q5, q6, q7, q8⟩ (.slice b4 n8 d4))) _ X (HO2a.out.same (HT4.out.trans HA4.out))
  have hr3 := run_str (w4.alloc (hdO 34 ⟨q0, q1, q2, q3, q4, q5, q6, q7, q8⟩ (.slice b4 n8 d4))) _ P (HP3.out.same (HT4.out.trans HA4.out))
  have hr4 := run_str (w4.alloc (hdO 34 ⟨q0, q1, q2, q3, q4, q5, q6, q7, q8⟩ (.slice b4 n8 d4))) _ P (HP4.out.same HA4.out)
  have HQ3a := Lib.hid (HQ3.out.same (HT4.out.trans HA4.out))
  have HQ4a := Lib.hid (HQ4.out.same HA4.out)
  have HS5 := Lib.hid (HS3.out.trans (HT4.out.trans HA4.out))
  generalize (⟨X.toArray⟩ : ByteArray) = sX at hr1 hr2
  generalize (⟨P.toArray⟩ : ByteArray) = sP at hr3 hr4
  clear HO1b HO2a HP3 HP4 HQ3 HQ4 HA4 HT4 HA3 HS3 HK4 HK5 HK6
  go_wp2_with fail
  refine (HSm _ _ _ HQ3a.out HQ4a.out).out.mono ?_
  rintro e w6 ⟨rfl, hs6⟩
  have HS6 := Lib.hid (HS5.out.trans hs6)
  clear hs6 hr1 hr2 hr3 hr4 x0 x1 x2 x3 x4 x5 x6 x7 x8 y0 y1 y2 y3 y4 y5 y6 y7 y8
  go_wp2_with fail
  refine (HI _ (HB.out.same HS6.out)).out.mono ?_
  rintro e w7 ⟨rfl, hs7⟩
  have HS7 := Lib.hid (HS6.out.trans hs7)
  clear hs7
  go_wp2_with fail
  refine (HD _ (HB.out.same HS7.out)).out.mono ?_
  rintro e w8 ⟨rfl, hs8⟩
  have HS8 := Lib.hid (HS7.out.trans hs8)
  clear hs8
  go_wp2_with fail
  refine (HRD _ (HB.out.same HS8.out)).out.mono ?_
  rintro e w9 ⟨rfl, hs9⟩
  have HS9 := Lib.hid (HS8.out.trans hs9)
  clear hs9
  go_wp2_with fail
  refine (HL _).out.mono ?_
  rintro e w10 ⟨rfl, hs10⟩
  have HS10 := Lib.hid (HS9.out.trans hs10)
  clear hs10
  go_wp2_with fail
  go_ret
  exact ⟨rfl, HS10.out⟩
end Go.Proofs.Yteoleblnhcnpkaa
