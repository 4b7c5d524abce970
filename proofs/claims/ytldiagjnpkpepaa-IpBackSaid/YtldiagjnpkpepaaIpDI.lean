/- Contracts of the developers' layer 4: Forward, Rewrite. No condition beyond what each names. -/
import Derived.Test.YtldiagjnpkpepaaIpDH
namespace Go.Proofs.Ytldiagjnpkpepaa
open Go.RowKit
set_option linter.unusedVariables false

set_option maxRecDepth 100000 in
set_option maxHeartbeats 2000000 in
theorem ipChanged_rew (v : Value) (l : List UInt8) (c : Nat) (d : Int) (hd0 : 0 ≤ d ∧ d ≤ 4294967295) (w : World) (hb : Bs w v l) (hc : w.cell? ⟨c, 0, none⟩ = some (.int .u32 d)) :
    Calls Try.prog 54 #[v, .func (.func 58) #[] #[.pointer (some ⟨c, 0, none⟩)]] w fun e w' => ∃ v', e = .returned (outV v' (parseE l)) ∧ OwnB w' w.heap.size v' (rewB l d) ∧ Same w w' := by
  have HCu := fun w hb => Lib.hid (ipCut_any v l w hb)
  have HB := Lib.hid hb
  obtain ⟨ao, cap, rfl, -, -, -, -⟩ := hb
  have HCC := Lib.hid hc
  clear hc
  by_cases h0 : parseE l = 0
  · rw [rew_lay l d h0, h0]
    obtain ⟨hh0, hh1, hh2, hh3, hh4, hh5⟩ := headP_ok h0
    have HRd := fun vh w hb => Lib.hid (ipRead_any vh (headP l) w hb hh1 (by omega))
    have HCl := fun vh w hb => Lib.hid (clone_h vh (headP l) w hb (by omega))
    have HUL : Hid ((updH (headP l) 16 [byteAt d 3, byteAt d 2, byteAt d 1, byteAt d 0]).length ≤ 60) := by
      show _ ≤ _
      rw [updH_length _ _ _ (by simp; omega) (by omega)]; omega
    rw [h0] at HCu
    have H20 := Lib.hid hh1
    have H60 := Lib.hid hh2
    have HPL := Lib.hid hh5
    clear hh0 hh1 hh2 hh3 hh4 hh5 h0
    generalize headP l = hd at *
    generalize parseP l = p at *
    generalize readH hd = H at *
    go_enter Try.func54, Try.ntmps54
    go_wp2_with fail
    refine (HCu _ HB.out).out.mono ?_
    rintro e w1 ⟨vh, vp, rfl, hvh, hvp, hs1⟩
    have HS1 := Lib.hid hs1
    have HVH := Lib.hid hvh
    have HVP := Lib.hid hvp
    obtain ⟨ah, ch, hvhe, -, -, -, -⟩ := hvh
    obtain ⟨ap, cp, hvpe, -, -, -, -⟩ := hvp
    obtain ⟨np, hnp⟩ : ∃ np, p.length = np := ⟨_, rfl⟩
    obtain ⟨nh, hnh⟩ : ∃ nh, hd.length = nh := ⟨_, rfl⟩
    rw [hnh] at hvhe
    rw [hnp] at hvpe
    subst hvhe hvpe
    have HNH := Lib.hid hnh
    clear hs1 hnp hnh
    have HP : Hid ((w1.alloc (pktO (.slice ah nh ch) (.slice ap np cp))).heap[w1.heap.size]? = some (pktO (.slice ah nh ch) (.slice ap np cp))) := heap_alloc_new w1 _
    have HA1 : Hid (Same w1 (w1.alloc (pktO (.slice ah nh ch) (.slice ap np cp)))) := Same.alloc w1 _
    go_wp2_with fail
    refine (HCl _ _ (HVH.out.same HA1.out)).out.mono ?_
    rintro e w2 ⟨vc, rfl, ho2, hs2⟩
    have HS2 := Lib.hid (HA1.out.trans hs2)
    have HP2 := Lib.hid (hs2.block HP.out)
    obtain ⟨g, cc, rfl, hcc, hg⟩ := OwnB.form ho2 (by have := H20.out; omega)
    rw [HNH.out] at ho2
    have HO2 := Lib.hid ho2
    have HG : Hid (w1.heap.size < g) := by simp at hg; show _ < _; omega
    simp only [HNH.out]
    clear ho2 hs2 hg hcc HP HA1
    go_wp2_with fail
    refine (HRd _ _ HO2.out.bs).out.mono ?_
    rintro e w3 ⟨vo, rfl, ho3, hs3⟩
    have HS3 := Lib.hid (HS2.out.trans hs3)
    have HO3 := Lib.hid (HO2.out.same hs3)
    have HP3 := Lib.hid (hs3.block HP2.out)
    obtain ⟨vao, vcap, hvv, -, -, -, -⟩ := ho3.bs
    obtain ⟨no, hno⟩ : ∃ no, (hd.drop 20).length = no := ⟨_, rfl⟩
    rw [hno] at hvv
    subst hvv
    obtain ⟨q0, q1, q2, q3, q4, q5, q6, q7, q8⟩ := H
    clear ho3 hs3 hno HO2 HP2
    go_wp2_with fail
    have hcl : c < w.heap.size := World.block_lt_of_cell? w _ HCC.out
    have hcs : w3.cell? ⟨c, 0, none⟩ = some (.int .u32 d) := by
      rw [Below.cell (HS1.out.trans HS3.out) (p := ⟨c, 0, none⟩) hcl]; exact HCC.out
    refine (ipRstep_any ⟨q0, q1, q2, q3, q4, q5, q6, q7, q8⟩ vao no vcap _ g nh cc c d hd HNH.out.symm H20.out (by have := H60.out; omega) w3 HO3.out hcs hd0).mono ?_
    clear hcl hcs
    rintro e w4 ⟨rfl, ho4, hm4⟩
    have HO4 := Lib.hid ho4
    have HP4 : Hid (w4.heap[w1.heap.size]? = some (pktO (.slice ah nh ch) (.slice ap np cp))) := (hm4.block _ (Array.getElem?_eq_some_iff.1 HP3.out).1 (by have := HG.out; omega)).trans HP3.out
    have HS4 : Hid (Same w1 w4) := Below.trans HS3.out (hm4.below (Nat.le_of_lt HG.out) HS3.out.size)
    obtain ⟨d0, d1⟩ := pkt_at HP4.out
    clear ho4 hm4 HO3 HP3 HS3
    go_wp2_with fail
    have HA4 : Hid (Same w4 (w4.alloc (.cells #[.slice (some ⟨g, 0, none⟩) nh cc, .slice ap np cp] 63))) := Same.alloc w4 _
    refine (concat_h w4.heap.size _ _ (updH hd 16 [byteAt d 3, byteAt d 2, byteAt d 1, byteAt d 0]) p _ (HO4.out.bs.same HA4.out) (HVP.out.same (HS4.out.trans HA4.out)) (by have := HPL.out; have := HUL.out; omega) (heap_alloc_new w4 _)).mono ?_
    rintro e w5 ⟨v5, rfl, ho5, hs5⟩
    have HS5 := Lib.hid (HS1.out.trans ((HS4.out.trans HA4.out).trans hs5))
    have HO5 := Lib.hid (ho5.mono (HS1.out.trans (HS4.out.trans HA4.out)).size)
    clear ho5 hs5
    go_wp2_with fail
    go_ret2
    exact ⟨v5, rfl, HO5.out, HS5.out⟩
  · have e1 : rewB l d = [] := if_neg h0
    rw [e1]
    clear e1
    have hE : (parseE l != 0) = true := by simpa using h0
    generalize parseE l = E at *
    generalize headP l = hd at *
    generalize parseP l = p at *
    clear h0
    go_enter Try.func54, Try.ntmps54
    go_wp2_with fail
    refine (HCu _ HB.out).out.mono ?_
    rintro e w1 ⟨vh, vp, rfl, hvh, hvp, hs1⟩
    have HS1 := Lib.hid hs1
    obtain ⟨ah, ch, rfl, -, -, -, -⟩ := hvh
    obtain ⟨ap, cp, rfl, -, -, -, -⟩ := hvp
    clear hs1
    go_wp2_with fail
    go_ret2
    exact ⟨_, rfl, OwnB.nil _ _, HS1.out.trans (Same.alloc _ _)⟩

set_option maxRecDepth 100000 in
set_option maxHeartbeats 2000000 in
theorem ipChanged_fwd (v : Value) (l : List UInt8) (w : World) (hb : Bs w v l) :
    Calls Try.prog 54 #[v, .func (.func 55) #[] #[]] w fun e w' => ∃ v', e = .returned (outV v' (fwdE l)) ∧ OwnB w' w.heap.size v' (fwdB l) ∧ Same w w' := by
  have HCu := fun w hb => Lib.hid (ipCut_any v l w hb)
  have HB := Lib.hid hb
  obtain ⟨ao, cap, rfl, -, -, -, -⟩ := hb
  by_cases h0 : parseE l = 0
  · by_cases ht : 2 ≤ (parseH l).ttl
    · obtain ⟨t1, t2⟩ := fwd_lay l h0 ht
      rw [t1, t2]
      clear t1 t2
      obtain ⟨hh0, hh1, hh2, hh3, hh4, hh5⟩ := headP_ok h0
      have HRd := fun vh w hb => Lib.hid (ipRead_any vh (headP l) w hb hh1 (by omega))
      have HCl := fun vh w hb => Lib.hid (clone_h vh (headP l) w hb (by omega))
      have HUL : Hid ((updH (headP l) 8 [byteAt ((parseH l).ttl - 1) 0]).length ≤ 60) := by
        show _ ≤ _
        rw [updH_length _ _ _ (by simp; omega) (by omega)]; omega
      have ht3 : (readH (headP l)).ttl ≤ 255 := by
        have := fld_lt (headP l) 8 1
        show ((fld (headP l) 8 1 : Nat) : Int) ≤ 255
        omega
      rw [hh4] at ht HUL ⊢
      rw [h0] at HCu
      have H20 := Lib.hid hh1
      have H60 := Lib.hid hh2
      have HPL := Lib.hid hh5
      clear hh0 hh1 hh2 hh3 hh4 hh5 h0
      generalize headP l = hd at *
      generalize parseP l = p at *
      generalize readH hd = H at *
      go_enter Try.func54, Try.ntmps54
      go_wp2_with fail
      refine (HCu _ HB.out).out.mono ?_
      rintro e w1 ⟨vh, vp, rfl, hvh, hvp, hs1⟩
      have HS1 := Lib.hid hs1
      have HVH := Lib.hid hvh
      have HVP := Lib.hid hvp
      obtain ⟨ah, ch, hvhe, -, -, -, -⟩ := hvh
      obtain ⟨ap, cp, hvpe, -, -, -, -⟩ := hvp
      obtain ⟨np, hnp⟩ : ∃ np, p.length = np := ⟨_, rfl⟩
      obtain ⟨nh, hnh⟩ : ∃ nh, hd.length = nh := ⟨_, rfl⟩
      rw [hnh] at hvhe
      rw [hnp] at hvpe
      subst hvhe hvpe
      have HNH := Lib.hid hnh
      clear hs1 hnp hnh
      have HP : Hid ((w1.alloc (pktO (.slice ah nh ch) (.slice ap np cp))).heap[w1.heap.size]? = some (pktO (.slice ah nh ch) (.slice ap np cp))) := heap_alloc_new w1 _
      have HA1 : Hid (Same w1 (w1.alloc (pktO (.slice ah nh ch) (.slice ap np cp)))) := Same.alloc w1 _
      go_wp2_with fail
      refine (HCl _ _ (HVH.out.same HA1.out)).out.mono ?_
      rintro e w2 ⟨vc, rfl, ho2, hs2⟩
      have HS2 := Lib.hid (HA1.out.trans hs2)
      have HP2 := Lib.hid (hs2.block HP.out)
      obtain ⟨g, cc, rfl, hcc, hg⟩ := OwnB.form ho2 (by have := H20.out; omega)
      rw [HNH.out] at ho2
      have HO2 := Lib.hid ho2
      have HG : Hid (w1.heap.size < g) := by simp at hg; show _ < _; omega
      simp only [HNH.out]
      clear ho2 hs2 hg hcc HP HA1
      go_wp2_with fail
      refine (HRd _ _ HO2.out.bs).out.mono ?_
      rintro e w3 ⟨vo, rfl, ho3, hs3⟩
      have HS3 := Lib.hid (HS2.out.trans hs3)
      have HO3 := Lib.hid (HO2.out.same hs3)
      have HP3 := Lib.hid (hs3.block HP2.out)
      obtain ⟨vao, vcap, hvv, -, -, -, -⟩ := ho3.bs
      obtain ⟨no, hno⟩ : ∃ no, (hd.drop 20).length = no := ⟨_, rfl⟩
      rw [hno] at hvv
      subst hvv
      obtain ⟨q0, q1, q2, q3, q4, q5, q6, q7, q8⟩ := H
      clear ho3 hs3 hno HO2 HP2
      go_wp2_with fail
      refine (ipFstep_yes ⟨q0, q1, q2, q3, q4, q5, q6, q7, q8⟩ vao no vcap _ g nh cc hd HNH.out.symm H20.out (by have := H60.out; omega) w3 HO3.out (by simp only; omega) ht3).mono ?_
      rintro e w4 ⟨rfl, ho4, hm4⟩
      have HO4 := Lib.hid ho4
      have HP4 : Hid (w4.heap[w1.heap.size]? = some (pktO (.slice ah nh ch) (.slice ap np cp))) := (hm4.block _ (Array.getElem?_eq_some_iff.1 HP3.out).1 (by have := HG.out; omega)).trans HP3.out
      have HS4 : Hid (Same w1 w4) := Below.trans HS3.out (hm4.below (Nat.le_of_lt HG.out) HS3.out.size)
      obtain ⟨d0, d1⟩ := pkt_at HP4.out
      clear ho4 hm4 HO3 HP3 HS3
      go_wp2_with fail
      have HA4 : Hid (Same w4 (w4.alloc (.cells #[.slice (some ⟨g, 0, none⟩) nh cc, .slice ap np cp] 63))) := Same.alloc w4 _
      refine (concat_h w4.heap.size _ _ (updH hd 8 [byteAt (q4 - 1) 0]) p _ (HO4.out.bs.same HA4.out) (HVP.out.same (HS4.out.trans HA4.out)) (by have := HPL.out; have := HUL.out; omega) (heap_alloc_new w4 _)).mono ?_
      rintro e w5 ⟨v5, rfl, ho5, hs5⟩
      have HS5 := Lib.hid (HS1.out.trans ((HS4.out.trans HA4.out).trans hs5))
      have HO5 := Lib.hid (ho5.mono (HS1.out.trans (HS4.out.trans HA4.out)).size)
      clear ho5 hs5
      go_wp2_with fail
      go_ret2
      exact ⟨v5, rfl, HO5.out, HS5.out⟩

    · have t1 : fwdE l = 9 := by rw [fwdE, if_neg (by simpa using h0), if_pos (by omega)]
      have t2 : fwdB l = [] := if_neg (by rw [t1]; decide)
      rw [t1, t2]
      clear t1 t2
      obtain ⟨hh0, hh1, hh2, hh3, hh4, hh5⟩ := headP_ok h0
      have HRd := fun vh w hb => Lib.hid (ipRead_any vh (headP l) w hb hh1 (by omega))
      have HCl := fun vh w hb => Lib.hid (clone_h vh (headP l) w hb (by omega))
      have ht3 : (readH (headP l)).ttl ≤ 1 := by rw [hh4] at ht; omega
      rw [h0] at HCu
      have H20 := Lib.hid hh1
      have H60 := Lib.hid hh2
      have HPL := Lib.hid hh5
      clear hh0 hh1 hh2 hh3 hh4 hh5 h0 ht
      generalize headP l = hd at *
      generalize parseP l = p at *
      generalize readH hd = H at *
      go_enter Try.func54, Try.ntmps54
      go_wp2_with fail
      refine (HCu _ HB.out).out.mono ?_
      rintro e w1 ⟨vh, vp, rfl, hvh, hvp, hs1⟩
      have HS1 := Lib.hid hs1
      have HVH := Lib.hid hvh
      have HVP := Lib.hid hvp
      obtain ⟨ah, ch, hvhe, -, -, -, -⟩ := hvh
      obtain ⟨ap, cp, hvpe, -, -, -, -⟩ := hvp
      obtain ⟨np, hnp⟩ : ∃ np, p.length = np := ⟨_, rfl⟩
      obtain ⟨nh, hnh⟩ : ∃ nh, hd.length = nh := ⟨_, rfl⟩
      rw [hnh] at hvhe
      rw [hnp] at hvpe
      subst hvhe hvpe
      have HNH := Lib.hid hnh
      clear hs1 hnp hnh
      have HP : Hid ((w1.alloc (pktO (.slice ah nh ch) (.slice ap np cp))).heap[w1.heap.size]? = some (pktO (.slice ah nh ch) (.slice ap np cp))) := heap_alloc_new w1 _
      have HA1 : Hid (Same w1 (w1.alloc (pktO (.slice ah nh ch) (.slice ap np cp)))) := Same.alloc w1 _
      go_wp2_with fail
      refine (HCl _ _ (HVH.out.same HA1.out)).out.mono ?_
      rintro e w2 ⟨vc, rfl, ho2, hs2⟩
      have HS2 := Lib.hid (HA1.out.trans hs2)
      have HP2 := Lib.hid (hs2.block HP.out)
      obtain ⟨g, cc, rfl, hcc, hg⟩ := OwnB.form ho2 (by have := H20.out; omega)
      rw [HNH.out] at ho2
      have HO2 := Lib.hid ho2
      have HG : Hid (w1.heap.size < g) := by simp at hg; show _ < _; omega
      simp only [HNH.out]
      clear ho2 hs2 hg hcc HP HA1
      go_wp2_with fail
      refine (HRd _ _ HO2.out.bs).out.mono ?_
      rintro e w3 ⟨vo, rfl, ho3, hs3⟩
      have HS3 := Lib.hid (HS2.out.trans hs3)
      have HO3 := Lib.hid (HO2.out.same hs3)
      have HP3 := Lib.hid (hs3.block HP2.out)
      obtain ⟨vao, vcap, hvv, -, -, -, -⟩ := ho3.bs
      obtain ⟨no, hno⟩ : ∃ no, (hd.drop 20).length = no := ⟨_, rfl⟩
      rw [hno] at hvv
      subst hvv
      obtain ⟨q0, q1, q2, q3, q4, q5, q6, q7, q8⟩ := H
      clear ho3 hs3 hno HO2 HP2
      go_wp2_with fail
      refine (ipFstep_no ⟨q0, q1, q2, q3, q4, q5, q6, q7, q8⟩ vao no vcap _ w3 ht3).mono ?_
      rintro e w4 ⟨rfl, hs4⟩
      have HS4 := Lib.hid (HS1.out.trans (HS3.out.trans hs4))
      clear hs4
      go_wp2_with fail
      go_ret2
      exact ⟨_, rfl, OwnB.nil _ _, HS4.out⟩

  · have e1 : fwdE l = parseE l := if_pos h0
    have e2 : fwdB l = [] := if_neg (by rw [e1]; exact h0)
    rw [e1, e2]
    clear e1 e2
    have hE : (parseE l != 0) = true := by simpa using h0
    generalize parseE l = E at *
    generalize headP l = hd at *
    generalize parseP l = p at *
    clear h0
    go_enter Try.func54, Try.ntmps54
    go_wp2_with fail
    refine (HCu _ HB.out).out.mono ?_
    rintro e w1 ⟨vh, vp, rfl, hvh, hvp, hs1⟩
    have HS1 := Lib.hid hs1
    obtain ⟨ah, ch, rfl, -, -, -, -⟩ := hvh
    obtain ⟨ap, cp, rfl, -, -, -, -⟩ := hvp
    clear hs1
    go_wp2_with fail
    go_ret2
    exact ⟨_, rfl, OwnB.nil _ _, HS1.out.trans (Same.alloc _ _)⟩

theorem ipFwd_any (v : Value) (l : List UInt8) (w : World) (hb : Bs w v l) :
    Calls Try.prog 24 #[v] w fun e w' => ∃ v', e = .returned (outV v' (fwdE l)) ∧ OwnB w' w.heap.size v' (fwdB l) ∧ Same w w' := by
  have HC := Lib.hid (ipChanged_fwd v l w hb)
  obtain ⟨ao, cap, rfl, -, -, -, -⟩ := hb
  generalize fwdE l = E at *
  generalize fwdB l = F at *
  go_enter Try.func24, Try.ntmps24
  go_wp2_with fail
  refine HC.out.mono ?_
  rintro e w1 ⟨v1, rfl, ho1, hs1⟩
  have HO1 := Lib.hid ho1
  have HS1 := Lib.hid hs1
  clear ho1 hs1
  go_wp2_with fail
  go_ret2
  exact ⟨v1, rfl, HO1.out, HS1.out⟩

theorem ipRew_any (v : Value) (l : List UInt8) (d : Int) (hd : 0 ≤ d ∧ d ≤ 4294967295) (w : World) (hb : Bs w v l) :
    Calls Try.prog 26 #[v, .int .u32 d] w fun e w' => ∃ v', e = .returned (outV v' (parseE l)) ∧ OwnB w' w.heap.size v' (rewB l d) ∧ Same w w' := by
  have HA : Hid (Same w (w.alloc (.cells #[.int .u32 d] 29))) := Same.alloc w _
  have HC := Lib.hid (ipChanged_rew v l w.heap.size d hd _ (hb.same HA.out) (by simp))
  obtain ⟨ao, cap, rfl, -, -, -, -⟩ := hb
  generalize parseE l = E at *
  generalize rewB l d = F at *
  go_enter Try.func26, Try.ntmps26
  go_wp2_with fail
  refine HC.out.mono ?_
  rintro e w1 ⟨v1, rfl, ho1, hs1⟩
  have HO1 := Lib.hid (ho1.mono HA.out.size)
  have HS1 := Lib.hid (HA.out.trans hs1)
  clear ho1 hs1
  go_wp2_with fail
  go_ret2
  exact ⟨v1, rfl, HO1.out, HS1.out⟩
end Go.Proofs.Ytldiagjnpkpepaa
