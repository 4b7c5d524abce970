/- The developers' layer 7: a path read out of its bytes. No condition beyond what it names. -/
import Derived.Test.YtfhaaenmllkbnaaAtDN
import Derived.Test.YtfhaaenmllkbnaaAtDS
namespace Go.Proofs.Ytfhaaenmllkbnaa
open Go.RowKit
set_option linter.unusedVariables false
set_option maxRecDepth 100000

theorem nmb_take (l : List UInt8) (a n j : Nat) (h : j + 2 ≤ n) : nmb ((l.drop a).take n) j 2 = nmb l (a + j) 2 := by
  unfold nmb
  rw [List.drop_take, List.drop_drop, List.take_take, Nat.min_eq_left (by omega)]

set_option maxHeartbeats 2000000 in
theorem dReadPath_any (s : Nat) (sv : Value) (l : List UInt8) (w : World) (h : SrcB w s sv l 0 0) (hl : (l.length : Int) ≤ 3000000) :
    Calls Try.prog 56 #[.pointer (some ⟨s, 0, none⟩)] w fun e w' => ∃ vp, e = .returned (.tuple #[vp, .bool (pathL l).isSome]) ∧ Rs intLay w' vp ((pathL l).getD []) ∧ (∀ g, vp.ownBlock = some g → w.heap.size ≤ g) ∧ Kept [s] w w' := by
  obtain ⟨R, hR⟩ : ∃ R, pathD l.length l 0 [] = R := ⟨_, rfl⟩
  have hpl := pathL_eq l
  rw [hR] at hpl
  have HR1 : Hid (∀ ys, R = some ys → pathOk ys → (pathL l).getD [] = ys ∧ (pathL l).isSome = true) := fun ys h hd => by
    rw [hpl, h, Option.filter_some, if_pos (decide_eq_true hd)]; exact ⟨rfl, rfl⟩
  have HR2 : Hid (∀ ys, R = some ys → ¬ pathOk ys → (pathL l).getD [] = [] ∧ (pathL l).isSome = false) := fun ys h hd => by
    rw [hpl, h, Option.filter_some, if_neg (by simp [hd])]; exact ⟨rfl, rfl⟩
  have HR0 : Hid (R = none → (pathL l).getD [] = [] ∧ (pathL l).isSome = false) := fun h => by rw [hpl, h]; exact ⟨rfl, rfl⟩
  have HRR0 : Hid (pathD l.length l 0 [] = R) := hR
  clear hR hpl
  generalize (pathL l).getD [] = L0 at *
  generalize (pathL l).isSome = B0 at *
  have HSRC := Lib.hid h
  have HSW : Hid (s < w.heap.size) := h.src.lt
  have HSL : Hid (∀ g, sv.ownBlock = some g → g < w.heap.size) := h.lt
  clear h
  go_enter Try.func56, Try.ntmps56
  go_wp2_with fail
  go_loopw [4] (fun lv wr => ∃ (a : Nat) (er : Int) (acc : List Int), SrcB wr s sv l a er ∧ (er = 0 ∨ er = 3) ∧ OwnR intLay wr w.heap.size lv acc ∧ Kept [s] w wr ∧
    (er = 0 → acc.length ≤ a ∧ ∃ f, l.length ≤ a + f ∧ pathD f l a acc = R) ∧ (er ≠ 0 → R = none)) (fun _ wr => 2 * (l.length - posW wr s 2) + (if posW wr s 3 = 0 then 1 else 0))
  case atStart => exact ⟨0, 0, [], HSRC.out, .inl rfl, OwnR.nil _ _ _, Kept.refl _ _, (fun _ => ⟨by simp, l.length, by omega, HRR0.out⟩), fun h => (h rfl).elim⟩
  case round =>
    obtain ⟨a, er, acc, hsr, her, hov, hkp, hr1, hr0⟩ := hrel
    have HSR := Lib.hid hsr
    have HOV := Lib.hid hov
    have HKP := Lib.hid hkp
    have hpos := hsr.pos2
    rw [hpos.1, hpos.2]
    have hle := hsr.le
    have HLf := Lib.hid (Left_made s sv l a er wr HSR.out)
    obtain ⟨pa, pc, rfl⟩ := hov.rs.form rfl
    clear hsr hov hkp
    rcases her with rfl | rfl
    · rw [if_pos rfl] at HLf
      obtain ⟨hxa, f, hf, hrr⟩ := hr1 rfl
      have HRR := Lib.hid hrr
      clear hr1 hr0 hrr
      go_wp2_with fail
      refine HLf.out.mono ?_
      rintro e w1 ⟨rfl, hs1⟩
      have HSR1 := Lib.hid (HSR.out.same hs1)
      have HK1 := Lib.hid (HKP.out.same hs1)
      have HOV1 := Lib.hid (HOV.out.same hs1)
      clear hs1 HLf
      by_cases hend : l.length ≤ a
      · have i1 : ¬ (0 < (l.length : Int) - a) := by omega
        have HEr := Lib.hid (err_made s sv a 0 w1 HSR1.out.src)
        have HG := Lib.hid (goodPath_any acc _ w1 HOV1.out.rs)
        have hR : R = some acc := by rw [← HRR.out, pathD_end hend]
        by_cases hd : pathOk acc
        · obtain ⟨y1, y2⟩ := HR1.out acc hR hd
          have HY := Lib.hid (And.intro y1 y2)
          clear y1 y2
          rw [decide_eq_true hd] at HG
          clear hd hR
          obtain ⟨na, hna⟩ : ∃ na, acc.length = na := ⟨_, rfl⟩
          rw [hna] at HOV1 HG ⊢
          clear hna
          go_wp2_with fail
          refine HEr.out.mono ?_
          rintro e w2 ⟨rfl, rfl⟩
          go_wp2_with fail
          refine HG.out.mono ?_
          rintro e w2 ⟨rfl, rfl⟩
          go_wp2_with fail
          refine bodyPost_ret (v := .tuple #[.slice pa na pc, .bool true]) ?_ rfl ⟨_, by rw [HY.out.2], by rw [HY.out.1]; exact HOV1.out.rs, fun g hg => (HOV1.out.lt g hg).1, HK1.out⟩
          simp [results, Try.results56, go_sem]
        · obtain ⟨y1, y2⟩ := HR2.out acc hR hd
          have HY := Lib.hid (And.intro y1 y2)
          clear y1 y2
          rw [decide_eq_false hd] at HG
          clear hd hR
          obtain ⟨na, hna⟩ : ∃ na, acc.length = na := ⟨_, rfl⟩
          rw [hna] at HOV1 HG ⊢
          clear hna
          go_wp2_with fail
          refine HEr.out.mono ?_
          rintro e w2 ⟨rfl, rfl⟩
          go_wp2_with fail
          refine HG.out.mono ?_
          rintro e w2 ⟨rfl, rfl⟩
          go_wp2_with fail
          refine bodyPost_ret (v := .tuple #[.slice none 0 0, .bool false]) ?_ rfl ⟨_, by rw [HY.out.2], by rw [HY.out.1]; exact Rs.nil _ _, fun g hg => by simp [Value.ownBlock] at hg, HK1.out⟩
          simp [results, Try.results56, go_sem]
      · have ha : a < l.length := by omega
        have i1 : (0 < (l.length : Int) - a) := by omega
        clear hend
        obtain ⟨f', rfl⟩ : ∃ f', f = f' + 1 := ⟨f - 1, by omega⟩
        go_wp2_with fail
        refine (U8_made s sv l a 0 w1 HSR1.out).mono ?_
        obtain ⟨s1, s2, s3⟩ := step_yes (l := l) (a := a) (k := 1) (by omega)
        rw [show ((1 : Nat) : Int) = 1 from rfl] at s1 s2 s3
        rw [s1, s2, s3, numOut]
        rintro e w2 ⟨rfl, hm2, hsr2⟩
        have hK8 := nmb_lt l a 1
        rw [show numOf ((l.drop a).take 1) = nmb l a 1 from rfl]
        obtain ⟨K, hK⟩ : ∃ K, nmb l a 1 = K := ⟨_, rfl⟩
        rw [hK] at hK8 ⊢
        have HK := Lib.hid hK
        have HSR2 := Lib.hid hsr2
        have HK2 := Lib.hid (HK1.out.mod hm2 (.inl (by simp)))
        have HOV2 := Lib.hid (HOV1.out.mod hm2 (fun he => by have := (HOV1.out.lt _ he).1; have := HSW.out; omega))
        clear hm2 hsr2 s1 s2 s3 hK
        go_wp2_with fail
        refine (U8_made s sv l (a + 1) 0 w2 HSR2.out).mono ?_
        rintro e w3 ⟨rfl, hm3, hsr3⟩
        obtain ⟨N, hN⟩ : ∃ N, numOut (stepOut l (a + 1) 0 1) = N := ⟨_, rfl⟩
        rw [hN]
        have HN := Lib.hid hN
        have HSR3 := Lib.hid hsr3
        have HK3 := Lib.hid (HK2.out.mod hm3 (.inl (by simp)))
        have HOV3 := Lib.hid (HOV2.out.mod hm3 (fun he => by have := (HOV2.out.lt _ he).1; have := HSW.out; omega))
        clear hm3 hsr3 hN
        by_cases hbad : l.length < a + 2 ∨ nmb l a 1 < 1 ∨ 2 < nmb l a 1 ∨ nmb l (a + 1) 1 = 0
        · have hR : R = none := by rw [← HRR.out, pathD, if_neg (by omega), if_pos hbad]
          obtain ⟨y1, y2⟩ := HR0.out hR
          have HY := Lib.hid (And.intro y1 y2)
          clear y1 y2
          have hb2 : (K ≠ 1 ∧ K ≠ 2) ∨ N = 0 := by
            rw [HK.out] at hbad
            by_cases h2 : l.length < a + 2
            · right
              rw [← HN.out]
              have := (step_no (l := l) (a := a + 1) (k := 1) (by omega)).1
              rw [show ((1 : Nat) : Int) = 1 from rfl] at this
              rw [this]; rfl
            · have eN : nmb l (a + 1) 1 = N := by
                rw [← HN.out]
                have := (step_yes (l := l) (a := a + 1) (k := 1) (by omega)).1
                rw [show ((1 : Nat) : Int) = 1 from rfl] at this
                rw [this]; rfl
              rw [eN] at hbad
              omega
          clear hbad hR
          generalize acc.length = na at *
          by_cases q1 : K = 1
          · have q3 : N = 0 := by omega
            subst q1 q3
            clear hb2
            go_wp2_with fail
            refine bodyPost_ret (v := .tuple #[.slice none 0 0, .bool false]) ?_ rfl ⟨_, by rw [HY.out.2], by rw [HY.out.1]; exact Rs.nil _ _, fun g hg => by simp [Value.ownBlock] at hg, HK3.out⟩
            simp [results, Try.results56, go_sem]
          · have k1 : ((K : Int) != 1) = true := by simp; omega
            by_cases q2 : K = 2
            · have q3 : N = 0 := by omega
              subst q2 q3
              clear hb2 q1
              go_wp2_with fail
              refine bodyPost_ret (v := .tuple #[.slice none 0 0, .bool false]) ?_ rfl ⟨_, by rw [HY.out.2], by rw [HY.out.1]; exact Rs.nil _ _, fun g hg => by simp [Value.ownBlock] at hg, HK3.out⟩
              simp [results, Try.results56, go_sem]
            · have k2 : ((K : Int) != 2) = true := by simp; omega
              clear hb2 q1 q2
              go_wp2_with fail
              refine bodyPost_ret (v := .tuple #[.slice none 0 0, .bool false]) ?_ rfl ⟨_, by rw [HY.out.2], by rw [HY.out.1]; exact Rs.nil _ _, fun g hg => by simp [Value.ownBlock] at hg, HK3.out⟩
              simp [results, Try.results56, go_sem]
        · have h2 : a + 2 ≤ l.length := by omega
          have eN : nmb l (a + 1) 1 = N := by
            rw [← HN.out]
            have := (step_yes (l := l) (a := a + 1) (k := 1) (by omega)).1
            rw [show ((1 : Nat) : Int) = 1 from rfl] at this
            rw [this]; rfl
          have hN8 := nmb_lt l (a + 1) 1
          have hrec : R = if l.length < a + 2 + 2 * N then none else pathD f' l (a + 2 + 2 * N) (acc ++ numsL N l (a + 2)) := by
            rw [← HRR.out, pathD, if_neg (by omega), if_neg hbad, eN]
          rw [HK.out, eN] at hbad
          rw [eN] at hN8
          have HREC := Lib.hid hrec
          have HSR4 : Hid (SrcB w3 s sv l (a + 2) 0) := by
            have := step_yes (l := l) (a := a + 1) (k := 1) (by omega)
            rw [show ((1 : Nat) : Int) = 1 from rfl] at this
            have h := HSR3.out
            rw [this.2.1, this.2.2] at h
            exact h
          have k3 : ((N : Int) == 0) = false := by simp; omega
          have HSub := Lib.hid (Sub_made s sv l (a + 2) 0 ((N : Int) * 2) w3 HSR4.out)
          have hMM : ∃ (pl : List UInt8) (M a3 : Nat) (e3 : Int), listOut (stepOut l (a + 2) 0 ((N : Int) * 2)) = pl ∧ stepAt l (a + 2) 0 ((N : Int) * 2) = a3 ∧ stepErr l (a + 2) 0 ((N : Int) * 2) = e3 ∧ pl.length = 2 * M ∧ M ≤ N ∧
              (e3 = 0 ∨ e3 = 3) ∧ a + 2 ≤ a3 ∧ (∀ j, j < M → nmb pl (2 * j) 2 = nmb l (a + 2 + 2 * j) 2) ∧ (e3 = 0 → M = N ∧ a3 = a + 2 + 2 * N ∧ a + 2 + 2 * N ≤ l.length) ∧ (e3 ≠ 0 → R = none) := by
            by_cases h5 : l.length < a + 2 + 2 * N
            · have hno := step_no (l := l) (a := a + 2) (k := 2 * N) (by omega)
              rw [show ((2 * N : Nat) : Int) = (N : Int) * 2 from by omega] at hno
              exact ⟨[], 0, a + 2, 3, by rw [hno.1]; rfl, hno.2.1, hno.2.2, rfl, by omega, .inr rfl, by omega, (fun j hj => by omega), (fun h => by cases h), (fun _ => by rw [HREC.out, if_pos h5])⟩
            · have hy := step_yes (l := l) (a := a + 2) (k := 2 * N) (by omega)
              rw [show ((2 * N : Nat) : Int) = (N : Int) * 2 from by omega] at hy
              exact ⟨(l.drop (a + 2)).take (2 * N), N, a + 2 + 2 * N, 0, by rw [hy.1]; rfl, hy.2.1, hy.2.2, by simp; omega, Nat.le_refl _, .inl rfl, by omega, fun j hj => nmb_take l (a + 2) (2 * N) (2 * j) (by omega), fun _ => ⟨rfl, rfl, by omega⟩, fun h => (h rfl).elim⟩
          obtain ⟨pl, M, a3, e3, q1, q2, q3, hpl, hMN, he3, ha3, hnm, hy3, hn3⟩ := hMM
          rw [q1, q2, q3] at HSub
          have HNM := Lib.hid hnm
          have HY3 := Lib.hid hy3
          have HN3 := Lib.hid hn3
          have HPL := Lib.hid hpl
          have HACC := Lib.hid (rfl : acc.length = acc.length)
          clear hrec eN HRR HN HSR3 q1 q2 q3 hnm hy3 hn3
          have HM : Hid (∀ wv : World, True) := fun _ => trivial
          obtain ⟨na, hna⟩ : ∃ na, acc.length = na := ⟨_, rfl⟩
          have HNA := Lib.hid hna
          rw [hna] at HOV3 hxa ⊢
          clear hna HACC HM HOV1 HOV2 HOV
          by_cases q1 : K = 1
          · subst q1
            clear hbad
            go_wp2_with fail
            refine HSub.out.mono ?_
            rintro e w4 ⟨t, tv, rfl, ht, hst, hm4, hss, htv⟩
            have HT : Hid (w.heap.size ≤ t) := by show _ ≤ _; have := HK3.out.size; omega
            have HTs : Hid (s ≠ t) := by show _ ≠ _; have := HK3.out.size; have := HSW.out; omega
            have HTV : Hid (∀ g, tv.ownBlock = some g → g < w.heap.size) := fun g hg => HSL.out g (htv g hg)
            have HOT : Hid (∀ g, (Value.slice pa na pc).ownBlock = some g → g < t) := fun g hg => by have := (HOV3.out.lt g hg).2; omega
            have HST := Lib.hid hst
            have HSS := Lib.hid hss
            have HK4 := Lib.hid (HK3.out.mod hm4 (.inl (by simp)))
            have HOV4 := Lib.hid (HOV3.out.mod hm4 (fun he => by have := (HOV3.out.lt _ he).1; have := HSW.out; omega))
            clear ht hst hm4 hss htv HSub
            go_wp2_with fail
            go_loopw [4] (fun lv wv => ∃ (j b : Nat) (ac : List Int), b = 2 * j ∧ j ≤ M ∧ ac = acc ++ numsL j l (a + 2) ∧ SrcB wv t tv pl b 0 ∧ SrcB wv s sv l a3 e3 ∧ OwnR intLay wv w.heap.size lv ac ∧ lv.ownBlock ≠ some t ∧ Kept [s] w wv) (fun _ wv => pl.length - posW wv t 2)
            case atStart => exact ⟨0, 0, acc, rfl, by omega, by simp [numsL], HST.out, HSS.out, HOV4.out, fun he => by have := HOT.out _ he; omega, HK4.out⟩
            case round =>
              obtain ⟨j, b, ac, hb, hj, hac, hst, hss, hov, hne, hkp⟩ := hrel
              have HLt := Lib.hid (Left_made t tv pl b 0 wr hst)
              rw [if_pos rfl] at HLt
              have hpt := hst.pos2.1
              rw [hpt]
              have HST5 := Lib.hid hst
              have HSS5 := Lib.hid hss
              have HOV5 := Lib.hid hov
              have HNE := Lib.hid hne
              have HK5 := Lib.hid hkp
              have HAC := Lib.hid hac
              obtain ⟨ni, hni⟩ : ∃ ni, ac.length = ni := ⟨_, rfl⟩
              obtain ⟨qa, qc, rfl⟩ := hov.rs.form hni
              have hnn : ni = na + j := by rw [← hni, hac, List.length_append, numsL_length, HNA.out]
              have HNN := Lib.hid hnn
              have HNI := Lib.hid hni
              clear hst hss hov hne hkp hac hpt hni hnn
              go_wp2_with fail
              refine HLt.out.mono ?_
              rintro e w5 ⟨rfl, hs5⟩
              have HS5 := Lib.hid hs5
              clear hs5
              by_cases hjm : j = M
              · have i3 : ¬ (0 < (pl.length : Int) - b) := by omega
                have hps := (HSS5.out.same HS5.out).pos2
                go_wp2_with fail
                refine ⟨⟨a3, e3, ac, HSS5.out.same HS5.out, he3, HOV5.out.same HS5.out, HK5.out.same HS5.out, fun h0 => ?_, fun h0 => HN3.out h0⟩, ?_⟩
                · obtain ⟨y1, y2, y3⟩ := HY3.out h0
                  refine ⟨by rw [HNI.out, HNN.out]; omega, f', by omega, ?_⟩
                  rw [HAC.out, HREC.out, if_neg (by omega), hjm, y1, y2]
                · rw [hps.1, hps.2]
                  have := (HSS5.out).le
                  rcases he3 with rfl | rfl
                  · simp; omega
                  · simp; omega
              · have i3 : 0 < (pl.length : Int) - b := by omega
                go_wp2_with fail
                refine (U16_made t tv pl b 0 w5 (HST5.out.same HS5.out)).mono ?_
                rintro e w6 ⟨rfl, hm6, hst6⟩
                have hyes := step_yes (l := pl) (a := b) (k := 2) (by omega)
                rw [show ((2 : Nat) : Int) = 2 from rfl] at hyes
                rw [hyes.2.1, hyes.2.2] at hst6
                rw [hyes.1, numOut, show numOf ((pl.drop b).take 2) = nmb pl b 2 from rfl]
                have hx2 := nmb_lt pl b 2
                have hxe : nmb pl b 2 = nmb l (a + 2 + 2 * j) 2 := by rw [hb]; exact HNM.out j (by omega)
                obtain ⟨X, hX⟩ : ∃ X, nmb pl b 2 = X := ⟨_, rfl⟩
                rw [hX] at hx2 hxe ⊢
                have HXE := Lib.hid hxe
                have HST6 := Lib.hid hst6
                have HSS6 : Hid (SrcB w6 s sv l a3 e3) := (HSS5.out.same HS5.out).other hm6 HTs.out (fun he => by have := HSL.out _ he; have := HT.out; omega)
                have HOV6 : Hid (OwnR intLay w6 w.heap.size (.slice qa ni qc) ac) := (HOV5.out.same HS5.out).mod hm6 HNE.out
                have HK6 := Lib.hid ((HK5.out.same HS5.out).mod hm6 (.inr HT.out))
                have HTL : Hid (t < w6.heap.size) := hst6.src.lt
                have HX1 : Hid (Rs intLay (w6.alloc (.cells #[.int .i64 (X : Int)] 3)) (.slice (some ⟨w6.heap.size, 0, none⟩) 1 1) [(X : Int)]) := Rs.one intLay w6 (X : Int) #[.int .i64 (X : Int)] rfl
                have HLn : Hid (ac.length + [(X : Int)].length ≤ 1099511627776) := by show _ ≤ _; rw [HNI.out, HNN.out]; simp; omega
                have HOVl : Hid (∀ g, (Value.slice qa ni qc).ownBlock = some g → w.heap.size ≤ g) := fun g hg => (HOV6.out.lt g hg).1
                have HOV7 := Lib.hid (HOV6.out.same (Same.alloc w6 (.cells #[.int .i64 (X : Int)] 3)))
                have HSZ : Hid (w.heap.size ≤ (w6.alloc (.cells #[.int .i64 (X : Int)] 3)).heap.size) := Nat.le_trans HK6.out.size (Same.alloc w6 _).size
                clear hm6 hst6 hyes hX hxe
                go_wp2_with (at_builtin; refine wpList_append_r2 intLay Try.underlying32 intInfo rfl (by decide) (by decide) rfl _ _ rfl w.heap.size HSZ.out (.slice qa ni qc) ac rfl HOV7.out _ [(X : Int)] rfl HX1.out HLn.out ?_; intro v9 w9 ho9 hg9 hl9)
                have HKg : Kept ((Value.slice qa ni qc).ownBlock.toList) (w6.alloc (.cells #[.int .i64 (X : Int)] 3)) w9 := (Kept.refl _ _).grown hg9 (fun s hs => .inl (by rw [hs]; simp))
                have hrow : ∀ g, g ∈ (Value.slice qa ni qc).ownBlock.toList → w.heap.size ≤ g ∧ g ≠ t := fun g hg => ⟨HOVl.out g (by simpa using hg), fun he => HNE.out (by rw [he] at hg; simpa using hg)⟩
                have hst9 : SrcB w9 t tv pl (b + 2) 0 := (HST6.out.same (Same.alloc w6 _)).kept HKg (fun h => (hrow _ h).2 rfl) (fun g hg h => by have := (hrow _ h).1; have := HTV.out g hg; omega)
                have hss9 : SrcB w9 s sv l a3 e3 := (HSS6.out.same (Same.alloc w6 _)).kept HKg (fun h => by have := (hrow _ h).1; have := HSW.out; omega) (fun g hg h => by have := (hrow _ h).1; have := HSL.out g hg; omega)
                have hp9 := hst9.pos2.1
                refine ⟨⟨j + 1, b + 2, ac ++ [(X : Int)], by omega, by omega, ?_, hst9, hss9, ho9, fun he => ?_, (HK6.out.same (Same.alloc w6 _)).grown hg9 (fun s hs => .inr (HOVl.out s hs))⟩, by rw [hp9]; omega⟩
                · rw [HAC.out, numsL_snoc, HXE.out, List.append_assoc]
                · rcases hl9 with h | h
                  · exact HNE.out (h ▸ he)
                  · rw [h] at he; have := Option.some.inj he; have h8 := HTL.out; simp at this; omega
          · obtain rfl : K = 2 := by omega
            clear hbad
            go_wp2_with fail
            refine HSub.out.mono ?_
            rintro e w4 ⟨t, tv, rfl, ht, hst, hm4, hss, htv⟩
            have HT : Hid (w.heap.size ≤ t) := by show _ ≤ _; have := HK3.out.size; omega
            have HTs : Hid (s ≠ t) := by show _ ≠ _; have := HK3.out.size; have := HSW.out; omega
            have HTV : Hid (∀ g, tv.ownBlock = some g → g < w.heap.size) := fun g hg => HSL.out g (htv g hg)
            have HOT : Hid (∀ g, (Value.slice pa na pc).ownBlock = some g → g < t) := fun g hg => by have := (HOV3.out.lt g hg).2; omega
            have HST := Lib.hid hst
            have HSS := Lib.hid hss
            have HK4 := Lib.hid (HK3.out.mod hm4 (.inl (by simp)))
            have HOV4 := Lib.hid (HOV3.out.mod hm4 (fun he => by have := (HOV3.out.lt _ he).1; have := HSW.out; omega))
            clear ht hst hm4 hss htv HSub
            go_wp2_with fail
            go_loopw [4] (fun lv wv => ∃ (j b : Nat) (ac : List Int), b = 2 * j ∧ j ≤ M ∧ ac = acc ++ numsL j l (a + 2) ∧ SrcB wv t tv pl b 0 ∧ SrcB wv s sv l a3 e3 ∧ OwnR intLay wv w.heap.size lv ac ∧ lv.ownBlock ≠ some t ∧ Kept [s] w wv) (fun _ wv => pl.length - posW wv t 2)
            case atStart => exact ⟨0, 0, acc, rfl, by omega, by simp [numsL], HST.out, HSS.out, HOV4.out, fun he => by have := HOT.out _ he; omega, HK4.out⟩
            case round =>
              obtain ⟨j, b, ac, hb, hj, hac, hst, hss, hov, hne, hkp⟩ := hrel
              have HLt := Lib.hid (Left_made t tv pl b 0 wr hst)
              rw [if_pos rfl] at HLt
              have hpt := hst.pos2.1
              rw [hpt]
              have HST5 := Lib.hid hst
              have HSS5 := Lib.hid hss
              have HOV5 := Lib.hid hov
              have HNE := Lib.hid hne
              have HK5 := Lib.hid hkp
              have HAC := Lib.hid hac
              obtain ⟨ni, hni⟩ : ∃ ni, ac.length = ni := ⟨_, rfl⟩
              obtain ⟨qa, qc, rfl⟩ := hov.rs.form hni
              have hnn : ni = na + j := by rw [← hni, hac, List.length_append, numsL_length, HNA.out]
              have HNN := Lib.hid hnn
              have HNI := Lib.hid hni
              clear hst hss hov hne hkp hac hpt hni hnn
              go_wp2_with fail
              refine HLt.out.mono ?_
              rintro e w5 ⟨rfl, hs5⟩
              have HS5 := Lib.hid hs5
              clear hs5
              by_cases hjm : j = M
              · have i3 : ¬ (0 < (pl.length : Int) - b) := by omega
                have hps := (HSS5.out.same HS5.out).pos2
                go_wp2_with fail
                refine ⟨⟨a3, e3, ac, HSS5.out.same HS5.out, he3, HOV5.out.same HS5.out, HK5.out.same HS5.out, fun h0 => ?_, fun h0 => HN3.out h0⟩, ?_⟩
                · obtain ⟨y1, y2, y3⟩ := HY3.out h0
                  refine ⟨by rw [HNI.out, HNN.out]; omega, f', by omega, ?_⟩
                  rw [HAC.out, HREC.out, if_neg (by omega), hjm, y1, y2]
                · rw [hps.1, hps.2]
                  have := (HSS5.out).le
                  rcases he3 with rfl | rfl
                  · simp; omega
                  · simp; omega
              · have i3 : 0 < (pl.length : Int) - b := by omega
                go_wp2_with fail
                refine (U16_made t tv pl b 0 w5 (HST5.out.same HS5.out)).mono ?_
                rintro e w6 ⟨rfl, hm6, hst6⟩
                have hyes := step_yes (l := pl) (a := b) (k := 2) (by omega)
                rw [show ((2 : Nat) : Int) = 2 from rfl] at hyes
                rw [hyes.2.1, hyes.2.2] at hst6
                rw [hyes.1, numOut, show numOf ((pl.drop b).take 2) = nmb pl b 2 from rfl]
                have hx2 := nmb_lt pl b 2
                have hxe : nmb pl b 2 = nmb l (a + 2 + 2 * j) 2 := by rw [hb]; exact HNM.out j (by omega)
                obtain ⟨X, hX⟩ : ∃ X, nmb pl b 2 = X := ⟨_, rfl⟩
                rw [hX] at hx2 hxe ⊢
                have HXE := Lib.hid hxe
                have HST6 := Lib.hid hst6
                have HSS6 : Hid (SrcB w6 s sv l a3 e3) := (HSS5.out.same HS5.out).other hm6 HTs.out (fun he => by have := HSL.out _ he; have := HT.out; omega)
                have HOV6 : Hid (OwnR intLay w6 w.heap.size (.slice qa ni qc) ac) := (HOV5.out.same HS5.out).mod hm6 HNE.out
                have HK6 := Lib.hid ((HK5.out.same HS5.out).mod hm6 (.inr HT.out))
                have HTL : Hid (t < w6.heap.size) := hst6.src.lt
                have HX1 : Hid (Rs intLay (w6.alloc (.cells #[.int .i64 (X : Int)] 3)) (.slice (some ⟨w6.heap.size, 0, none⟩) 1 1) [(X : Int)]) := Rs.one intLay w6 (X : Int) #[.int .i64 (X : Int)] rfl
                have HLn : Hid (ac.length + [(X : Int)].length ≤ 1099511627776) := by show _ ≤ _; rw [HNI.out, HNN.out]; simp; omega
                have HOVl : Hid (∀ g, (Value.slice qa ni qc).ownBlock = some g → w.heap.size ≤ g) := fun g hg => (HOV6.out.lt g hg).1
                have HOV7 := Lib.hid (HOV6.out.same (Same.alloc w6 (.cells #[.int .i64 (X : Int)] 3)))
                have HSZ : Hid (w.heap.size ≤ (w6.alloc (.cells #[.int .i64 (X : Int)] 3)).heap.size) := Nat.le_trans HK6.out.size (Same.alloc w6 _).size
                clear hm6 hst6 hyes hX hxe
                go_wp2_with (at_builtin; refine wpList_append_r2 intLay Try.underlying32 intInfo rfl (by decide) (by decide) rfl _ _ rfl w.heap.size HSZ.out (.slice qa ni qc) ac rfl HOV7.out _ [(X : Int)] rfl HX1.out HLn.out ?_; intro v9 w9 ho9 hg9 hl9)
                have HKg : Kept ((Value.slice qa ni qc).ownBlock.toList) (w6.alloc (.cells #[.int .i64 (X : Int)] 3)) w9 := (Kept.refl _ _).grown hg9 (fun s hs => .inl (by rw [hs]; simp))
                have hrow : ∀ g, g ∈ (Value.slice qa ni qc).ownBlock.toList → w.heap.size ≤ g ∧ g ≠ t := fun g hg => ⟨HOVl.out g (by simpa using hg), fun he => HNE.out (by rw [he] at hg; simpa using hg)⟩
                have hst9 : SrcB w9 t tv pl (b + 2) 0 := (HST6.out.same (Same.alloc w6 _)).kept HKg (fun h => (hrow _ h).2 rfl) (fun g hg h => by have := (hrow _ h).1; have := HTV.out g hg; omega)
                have hss9 : SrcB w9 s sv l a3 e3 := (HSS6.out.same (Same.alloc w6 _)).kept HKg (fun h => by have := (hrow _ h).1; have := HSW.out; omega) (fun g hg h => by have := (hrow _ h).1; have := HSL.out g hg; omega)
                have hp9 := hst9.pos2.1
                refine ⟨⟨j + 1, b + 2, ac ++ [(X : Int)], by omega, by omega, ?_, hst9, hss9, ho9, fun he => ?_, (HK6.out.same (Same.alloc w6 _)).grown hg9 (fun s hs => .inr (HOVl.out s hs))⟩, by rw [hp9]; omega⟩
                · rw [HAC.out, numsL_snoc, HXE.out, List.append_assoc]
                · rcases hl9 with h | h
                  · exact HNE.out (h ▸ he)
                  · rw [h] at he; have := Option.some.inj he; have h8 := HTL.out; simp at this; omega
    · rw [if_neg (by decide)] at HLf
      have HRN := Lib.hid (hr0 (by decide))
      clear hr1 hr0
      obtain ⟨y1, y2⟩ := HR0.out HRN.out
      have HY := Lib.hid (And.intro y1 y2)
      clear y1 y2
      generalize acc.length = na at *
      go_wp2_with fail
      refine HLf.out.mono ?_
      rintro e w1 ⟨rfl, hs1⟩
      have HK1 := Lib.hid (HKP.out.same hs1)
      have HEr := Lib.hid (err_made s sv a 3 w1 (HSR.out.same hs1).src)
      clear hs1 HLf
      go_wp2_with fail
      refine HEr.out.mono ?_
      rintro e w2 ⟨rfl, rfl⟩
      go_wp2_with fail
      refine bodyPost_ret (v := .tuple #[.slice none 0 0, .bool false]) ?_ rfl ⟨_, by rw [HY.out.2], by rw [HY.out.1]; exact Rs.nil _ _, fun g hg => by simp [Value.ownBlock] at hg, HK1.out⟩
      simp [results, Try.results56, go_sem]
end Go.Proofs.Ytfhaaenmllkbnaa
