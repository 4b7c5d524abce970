/- Contract of the document's own path of layer 7. No condition beyond what it names. -/
import Derived.Test.YtfhaaenmllkbnaaAtRS
namespace Go.Proofs.Ytfhaaenmllkbnaa
open Go.RowKit
set_option linter.unusedVariables false

theorem pathA_end {f : Nat} {l : List UInt8} {a : Nat} {acc : List Int} (h : l.length ≤ a) : pathA f l a acc = some acc := by
  cases f with
  | zero => rfl
  | succ f => rw [pathA, if_pos h]
theorem partL_len : ∀ (n : Nat) (v : List UInt8) (a : Nat) (acc acc' : List Int), partL n v a acc = some acc' → a + 2 * n ≤ max a v.length ∧ acc'.length = acc.length + n ∧ (acc.length ≤ 16 → acc'.length ≤ 16)
  | 0, v, a, acc, acc', h => by cases h; omega
  | n + 1, v, a, acc, acc', h => by
    rw [partL] at h
    split at h
    · cases h
    · rename_i hc
      obtain ⟨h1, h2, h3⟩ := partL_len n v (a + 2) _ acc' h
      simp only [List.length_append, List.length_singleton] at h2 h3
      omega
theorem intInfo2 : (Try.prog.info? intLay.e).map (fun i => (i.zero, i.size, i.bytes)) = some (some (.int .i64 0), intLay.k, 8) := intInfo

set_option maxRecDepth 100000 in
set_option maxHeartbeats 2000000 in
theorem rPath7_any (v : Value) (l : List UInt8) (w : World) (hb : Bs w v l) (hl : (l.length : Int) ≤ 1000000) :
    Calls Try.prog 61 #[v] w fun e w' => ∃ v', e = .returned (.tuple #[v', .bool (pathL l).isSome]) ∧ OwnR intLay w' w.heap.size v' ((pathL l).getD []) ∧ Same w w' := by
  have HB := Lib.hid hb
  have HRd := fun w hb => Lib.hid (rRead_any v l w hb (by omega))
  obtain ⟨R, hR⟩ : ∃ R, pathL l = R := ⟨_, rfl⟩
  have HR1 : Hid (∀ ys, R = some ys → (pathL l).getD [] = ys ∧ (pathL l).isSome = true) := fun ys h => by rw [hR, h]; exact ⟨rfl, rfl⟩
  have HR0 : Hid (R = none → (pathL l).getD [] = [] ∧ (pathL l).isSome = false) := fun h => by rw [hR, h]; exact ⟨rfl, rfl⟩
  have HRR0 : Hid (pathA l.length l 0 [] = R) := hR
  clear hR
  generalize (pathL l).getD [] = L0 at *
  generalize (pathL l).isSome = B0 at *
  obtain ⟨ao, cap, rfl, -, -, -, -⟩ := hb
  go_enter Try.func61, Try.ntmps61
  go_wp2_with fail
  refine (HRd _ HB.out).out.mono ?_
  rintro e W ⟨s, sv, rfl, hs0, hsrc, hs1, hsl⟩
  have HW : Hid (Same w W) := hs1
  have HSF : Hid (w.heap.size ≤ s) := hs0
  have HSW : Hid (s < W.heap.size) := hsrc.src.lt
  have HSRC := Lib.hid hsrc
  have HSL2 : Hid (∀ g, sv.ownBlock = some g → g < W.heap.size) := hsrc.lt
  have HKs : Hid (∀ k, k ∈ [s] → w.heap.size ≤ k) := fun k hk => by simp at hk; omega
  clear hs0 hsrc hs1 hsl HB HRd
  go_wp2_with fail
  go_loopw [5] (fun lv wr => ∃ (a f : Nat) (acc : List Int), RSrcB wr s sv l a 0 ∧ OwnR intLay wr W.heap.size lv acc ∧ Kept [s] W wr ∧ l.length ≤ a + f ∧ acc.length ≤ 16 ∧ pathA f l a acc = R) (fun _ wr => l.length - posW wr s 1)
  case atStart => exact ⟨0, l.length, [], HSRC.out, OwnR.nil _ _ _, Kept.refl _ _, by omega, by simp, HRR0.out⟩
  case round =>
    obtain ⟨a, f, acc, hsr, hov, hkp, hf, hxa, hrr⟩ := hrel
    have HSR := Lib.hid hsr
    have HOV := Lib.hid hov
    have HKP := Lib.hid hkp
    have HRR := Lib.hid hrr
    have hpos : posW wr s 1 = a := by
      obtain ⟨_, c1, _⟩ := hsr.src.cells
      unfold posW
      rw [c1]
      simp
    rw [hpos]
    have hle := hsr.le
    clear hsr hov hkp hrr hpos
    have HLf := Lib.hid (rLeft_any s sv l a 0 wr HSR.out)
    rw [if_pos rfl] at HLf
    go_wp2_with fail
    refine HLf.out.mono ?_
    rintro e w1 ⟨rfl, hs1⟩
    have HS1 := Lib.hid hs1
    clear hs1 HLf
    have HSR1 := Lib.hid (HSR.out.same HS1.out)
    have HK1 := Lib.hid (HKP.out.same HS1.out)
    have HOV1 := Lib.hid (HOV.out.same HS1.out)
    by_cases hend : l.length ≤ a
    · have i1 : ¬ (0 < (l.length : Int) - a) := by omega
      obtain ⟨y1, y2⟩ := HR1.out acc (by rw [← HRR.out, pathA_end hend])
      have HY := Lib.hid (And.intro y1 y2)
      clear y1 y2
      go_wp2_with fail
      refine reg_start (fun w' => Same w1 w') (by kernel_rfl) ?_
      refine reg_take (v := ?_) 0 (some 52) rfl rfl (by kernel_rfl) (fun _ _ _ h => h) (by kernel_rfl) ((Same.refl w1).drew) ?_ ?_
      rotate_left
      · (intro w' hw'; obtain ⟨f0, f1, f2, -, -⟩ := (HSR1.out.same hw').src.cells; go_simp; try with_reducible rfl)
      try simp only [Act.put, List.setIfInBounds_toArray, List.set_cons_zero, List.set_cons_succ]
      refine reg_take (v := ?_) 1 (some 53) rfl rfl (by kernel_rfl) (fun _ _ _ h => h) (by kernel_rfl) ((Same.refl w1).drew) ?_ ?_
      rotate_left
      · (intro w' hw'; obtain ⟨f0, f1, f2, -, -⟩ := (HSR1.out.same hw').src.cells; go_simp; try with_reducible rfl)
      try simp only [Act.put, List.setIfInBounds_toArray, List.set_cons_zero, List.set_cons_succ]
      refine reg_take (v := ?_) 2 (some 54) rfl rfl (by kernel_rfl) (fun _ _ _ h => h) (by kernel_rfl) ((Same.refl w1).drew) ?_ ?_
      rotate_left
      · (intro w' hw'; obtain ⟨f0, f1, f2, -, -⟩ := (HSR1.out.same hw').src.cells; go_simp; try with_reducible rfl)
      try simp only [Act.put, List.setIfInBounds_toArray, List.set_cons_zero, List.set_cons_succ]
      refine reg_take (v := ?_) 3 (some 55) rfl rfl (by kernel_rfl) (fun _ _ _ h => h) (by kernel_rfl) ((Same.refl w1).drew) ?_ ?_
      rotate_left
      · (intro w' hw'; obtain ⟨f0, f1, f2, -, -⟩ := (HSR1.out.same hw').src.cells; go_simp; try with_reducible rfl)
      try simp only [Act.put, List.setIfInBounds_toArray, List.set_cons_zero, List.set_cons_succ]
      refine reg_take (v := ?_) 4 (some 56) rfl rfl (by kernel_rfl) (fun _ _ _ h => h) (by kernel_rfl) ((Same.refl w1).drew) ?_ ?_
      rotate_left
      · (intro w' hw'; obtain ⟨f0, f1, f2, -, -⟩ := (HSR1.out.same hw').src.cells; go_simp; try with_reducible rfl)
      try simp only [Act.put, List.setIfInBounds_toArray, List.set_cons_zero, List.set_cons_succ]
      refine reg_take (v := ?_) 5 (some 57) rfl rfl (by kernel_rfl) (fun _ _ _ h => h) (by kernel_rfl) ((Same.refl w1).drew) ?_ ?_
      rotate_left
      · (intro w' hw'; obtain ⟨f0, f1, f2, -, -⟩ := (HSR1.out.same hw').src.cells; go_simp; try with_reducible rfl)
      try simp only [Act.put, List.setIfInBounds_toArray, List.set_cons_zero, List.set_cons_succ]
      refine reg_take (v := ?_) 6 (some 2) rfl rfl (by kernel_rfl) (fun _ _ _ h => h) (by kernel_rfl) ((Same.refl w1).drew) ?_ ?_
      rotate_left
      · (intro w' hw'; obtain ⟨f0, f1, f2, -, -⟩ := (HSR1.out.same hw').src.cells; go_simp; try with_reducible rfl)
      try simp only [Act.put, List.setIfInBounds_toArray, List.set_cons_zero, List.set_cons_succ]
      refine reg_take (v := ?_) 7 (some 3) rfl rfl (by kernel_rfl) (fun _ _ _ h => h) (by kernel_rfl) ((Same.refl w1).drew) ?_ ?_
      rotate_left
      · (intro w' hw'; obtain ⟨f0, f1, f2, -, -⟩ := (HSR1.out.same hw').src.cells; go_simp; try with_reducible rfl)
      try simp only [Act.put, List.setIfInBounds_toArray, List.set_cons_zero, List.set_cons_succ]
      refine reg_done (by kernel_rfl) ?_
      go_wp2_with fail
      have HSw : Hid (Same w w1.drew) := (HK1.out.to_same HW.out HKs.out).drew
      refine bodyPost_ret (v := .tuple #[u5, .bool true]) ?_ rfl ⟨_, by rw [HY.out.2], by rw [HY.out.1]; exact (HOV1.out.same (Same.refl w1).drew).mono HW.out.size, HSw.out⟩
      simp [results, Try.results61, go_sem]
    · have ha : a < l.length := by omega
      have i1 : (0 < (l.length : Int) - a) := by omega
      clear hend
      obtain ⟨f', rfl⟩ : ∃ f', f = f' + 1 := ⟨f - 1, by omega⟩
      go_wp2_with fail
      refine (rU8_any s sv l a 0 w1 HSR1.out (by omega)).mono ?_
      obtain ⟨s1, s2, s3⟩ := step_yes (l := l) (a := a) (k := 1) (by omega)
      rw [show ((1 : Nat) : Int) = 1 from rfl] at s1 s2 s3
      rw [s1, s2, s3, numOut]
      rintro e w2 ⟨rfl, hm2, hsr2⟩
      have hK8 := nmb_lt l a 1
      rw [show numOf ((l.drop a).take 1) = nmb l a 1 from rfl]
      obtain ⟨K, hK⟩ : ∃ K, nmb l a 1 = K := ⟨_, rfl⟩
      rw [hK] at hK8 ⊢
      have HK := Lib.hid hK
      have HM2 := Lib.hid hm2
      have HSR2 := Lib.hid hsr2
      clear hm2 hsr2 s1 s2 s3 hK
      go_wp2_with fail
      refine (rU8_any s sv l (a + 1) 0 w2 HSR2.out (by omega)).mono ?_
      rintro e w3 ⟨rfl, hm3, hsr3⟩
      obtain ⟨N, hN⟩ : ∃ N, numOut (stepOut l (a + 1) 0 1) = N := ⟨_, rfl⟩
      rw [hN]
      have HN := Lib.hid hN
      have HM3 := Lib.hid hm3
      have HSR3 := Lib.hid hsr3
      have HK3 : Hid (Kept [s] W w3) := (HK1.out.mod HM2.out (.inl (by simp))).mod HM3.out (.inl (by simp))
      clear hm3 hsr3 hN
      by_cases h2 : l.length < a + 2
      · have eN : N = 0 := by
          rw [← HN.out]
          have := (step_no (l := l) (a := a + 1) (k := 1) (by omega)).1
          rw [show ((1 : Nat) : Int) = 1 from rfl] at this
          rw [this]; rfl
        subst eN
        by_cases q1 : K < 1
        · have hsp : pathA (f' + 1) l a acc = none := by rw [pathA, if_neg (by omega), if_pos (by omega)]
          obtain ⟨y1, y2⟩ := HR0.out (by rw [← HRR.out, hsp])
          have HY := Lib.hid (And.intro y1 y2)
          have k1 : (K : Int) < 1 := by omega
          clear y1 y2 hsp q1 h2
          go_wp2_with fail
          refine bodyPost_ret (v := .tuple #[.slice none 0 0, .bool false]) ?_ rfl ⟨_, by rw [HY.out.2], by rw [HY.out.1]; exact OwnR.nil _ _ _, HK3.out.to_same HW.out HKs.out⟩
          simp [results, Try.results61, go_sem]
        by_cases q2 : 2 < K
        · have hsp : pathA (f' + 1) l a acc = none := by rw [pathA, if_neg (by omega), if_pos (by omega)]
          obtain ⟨y1, y2⟩ := HR0.out (by rw [← HRR.out, hsp])
          have HY := Lib.hid (And.intro y1 y2)
          have k1 : ¬ (K : Int) < 1 := by omega
          have k2 : (2 : Int) < K := by omega
          clear y1 y2 hsp q1 q2 h2
          go_wp2_with fail
          refine bodyPost_ret (v := .tuple #[.slice none 0 0, .bool false]) ?_ rfl ⟨_, by rw [HY.out.2], by rw [HY.out.1]; exact OwnR.nil _ _ _, HK3.out.to_same HW.out HKs.out⟩
          simp [results, Try.results61, go_sem]
        have hsp : pathA (f' + 1) l a acc = none := by rw [pathA, if_neg (by omega), if_pos (by omega)]
        obtain ⟨y1, y2⟩ := HR0.out (by rw [← HRR.out, hsp])
        have HY := Lib.hid (And.intro y1 y2)
        have k1 : ¬ (K : Int) < 1 := by omega
        have k2 : ¬ (2 : Int) < K := by omega
        clear y1 y2 hsp q1 q2 h2
        go_wp2_with fail
        refine bodyPost_ret (v := .tuple #[.slice none 0 0, .bool false]) ?_ rfl ⟨_, by rw [HY.out.2], by rw [HY.out.1]; exact OwnR.nil _ _ _, HK3.out.to_same HW.out HKs.out⟩
        simp [results, Try.results61, go_sem]
      have eN : nmb l (a + 1) 1 = N := by
        rw [← HN.out]
        have := (step_yes (l := l) (a := a + 1) (k := 1) (by omega)).1
        rw [show ((1 : Nat) : Int) = 1 from rfl] at this
        rw [this]; rfl
      have hN8 := nmb_lt l (a + 1) 1
      rw [eN] at hN8
      have HSR4 : Hid (RSrcB w3 s sv l (a + 2) 0) := by
        have := step_yes (l := l) (a := a + 1) (k := 1) (by omega)
        rw [show ((1 : Nat) : Int) = 1 from rfl] at this
        have h := HSR3.out
        rw [this.2.1, this.2.2] at h
        exact h
      have HOV3 : Hid (OwnR intLay w3 W.heap.size u5 acc) := HOV1.out.kept (((Kept.refl [s] w1).mod HM2.out (.inl (by simp))).mod HM3.out (.inl (by simp))) (fun g hg => by have := (HOV1.out.lt g hg).1; have := HSW.out; simp; omega)
      by_cases q1 : K < 1
      · have hsp : pathA (f' + 1) l a acc = none := by rw [pathA, if_neg (by omega), if_pos (by rw [HK.out]; omega)]
        obtain ⟨y1, y2⟩ := HR0.out (by rw [← HRR.out, hsp])
        have HY := Lib.hid (And.intro y1 y2)
        have k1 : (K : Int) < 1 := by omega
        clear y1 y2 hsp q1 h2
        go_wp2_with fail
        refine bodyPost_ret (v := .tuple #[.slice none 0 0, .bool false]) ?_ rfl ⟨_, by rw [HY.out.2], by rw [HY.out.1]; exact OwnR.nil _ _ _, HK3.out.to_same HW.out HKs.out⟩
        simp [results, Try.results61, go_sem]
      by_cases q2 : 2 < K
      · have hsp : pathA (f' + 1) l a acc = none := by rw [pathA, if_neg (by omega), if_pos (by rw [HK.out]; omega)]
        obtain ⟨y1, y2⟩ := HR0.out (by rw [← HRR.out, hsp])
        have HY := Lib.hid (And.intro y1 y2)
        have k1 : ¬ (K : Int) < 1 := by omega
        have k2 : (2 : Int) < K := by omega
        clear y1 y2 hsp q1 q2 h2
        go_wp2_with fail
        refine bodyPost_ret (v := .tuple #[.slice none 0 0, .bool false]) ?_ rfl ⟨_, by rw [HY.out.2], by rw [HY.out.1]; exact OwnR.nil _ _ _, HK3.out.to_same HW.out HKs.out⟩
        simp [results, Try.results61, go_sem]
      by_cases q3 : N = 0
      · have hsp : pathA (f' + 1) l a acc = none := by rw [pathA, if_neg (by omega), if_pos (by rw [HK.out, eN]; omega)]
        obtain ⟨y1, y2⟩ := HR0.out (by rw [← HRR.out, hsp])
        have HY := Lib.hid (And.intro y1 y2)
        have k1 : ¬ (K : Int) < 1 := by omega
        have k2 : ¬ (2 : Int) < K := by omega
        subst q3
        clear y1 y2 hsp q1 q2 h2
        go_wp2_with fail
        refine bodyPost_ret (v := .tuple #[.slice none 0 0, .bool false]) ?_ rfl ⟨_, by rw [HY.out.2], by rw [HY.out.1]; exact OwnR.nil _ _ _, HK3.out.to_same HW.out HKs.out⟩
        simp [results, Try.results61, go_sem]
      have k1 : ¬ ((K : Int) < 1) := by omega
      have k2 : ¬ ((2 : Int) < K) := by omega
      have k3 : ((N : Int) == 0) = false := by simp; omega
      obtain ⟨P, hP⟩ : ∃ P, partL N l (a + 2) acc = P := ⟨_, rfl⟩
      have HPR : Hid (R = P.bind fun acc' => pathA f' l (a + 2 + 2 * N) acc') := by
        show _ = _
        rw [← HRR.out, pathA, if_neg (by omega), if_neg (by rw [HK.out, eN]; omega), eN, hP]
        cases P <;> rfl
      have HP := Lib.hid hP
      clear hP HN eN h2 HSR3 HRR
      go_wp2_with fail
      go_loopw [5, 7] (fun lv nv wv => ∃ (j b : Nat) (ac : List Int), nv = .int .i64 j ∧ j ≤ N ∧ b + 2 * j = a + 2 + 2 * N ∧ RSrcB wv s sv l b 0 ∧ OwnR intLay wv W.heap.size lv ac ∧ Kept [s] W wv ∧ ac.length ≤ 16 ∧ partL j l b ac = P) (fun _ nv _ => (intOf nv).toNat)
      case atStart => exact ⟨N, a + 2, acc, rfl, by omega, by omega, HSR4.out, HOV3.out, HK3.out, hxa, HP.out⟩
      case round =>
        obtain ⟨j, b, ac, rfl, hj, hb2, hsrb, hovb, hkb, hac, hpb⟩ := hrel
        have HSRb := Lib.hid hsrb
        have HOVb := Lib.hid hovb
        have HKb := Lib.hid hkb
        have HPb := Lib.hid hpb
        have hbl := hsrb.le
        clear hsrb hovb hkb hpb
        by_cases hj0 : j = 0
        · subst hj0
          obtain rfl : some ac = P := HPb.out
          have hpos : posW wr s 1 = b := by
            obtain ⟨_, c1, _⟩ := HSRb.out.src.cells
            unfold posW
            rw [c1]
            simp
          go_wp2_with fail
          exact ⟨⟨b, f', ac, HSRb.out, HOVb.out, HKb.out, by omega, hac, by rw [HPR.out, Option.bind_some, show a + 2 + 2 * N = b from by omega]⟩, by rw [hpos]; omega⟩
        have j1 : (0 : Int) < j := by omega
        obtain ⟨j', rfl⟩ : ∃ j', j = j' + 1 := ⟨j - 1, by omega⟩
        have j2 : ((j' + 1 : Nat) : Int) - 1 = j' := by omega
        have j3 : (j' : Int) ≤ 1000000 := by omega
        obtain ⟨ae, ce, rfl⟩ := HOVb.out.rs.form rfl
        go_wp2_with fail
        refine (rU16_any s sv l b 0 wr HSRb.out (by omega)).mono ?_
        rintro e w5 ⟨rfl, hm5, hsr5⟩
        have HM5 := Lib.hid hm5
        have HSR5 := Lib.hid hsr5
        have HK5 := Lib.hid (HKb.out.mod hm5 (.inl (by simp)))
        have HOV5 : Hid (OwnR intLay w5 W.heap.size (.slice ae ac.length ce) ac) := HOVb.out.kept ((Kept.refl [s] wr).mod hm5 (.inl (by simp))) (fun g hg => by have := (HOVb.out.lt g hg).1; have := HSW.out; simp; omega)
        clear hm5 hsr5
        by_cases hlow : l.length < b + 2
        · have hno := step_no (l := l) (a := b) (k := 2) (by omega)
          rw [show ((2 : Nat) : Int) = 2 from rfl] at hno
          rw [hno.1, show numOut none = 0 from rfl]
          rw [hno.2.1, hno.2.2] at HSR5
          have hpn : P = none := by rw [← HPb.out, partL, if_pos (.inl hlow)]
          obtain ⟨f0, f1, f2, -, -⟩ := HSR5.out.src.cells
          obtain ⟨y1, y2⟩ := HR0.out (by rw [HPR.out, hpn]; rfl)
          have HY := Lib.hid (And.intro y1 y2)
          clear y1 y2 hpn
          go_wp2_with fail
          refine bodyPost_ret (v := .tuple #[.slice none 0 0, .bool false]) ?_ rfl ⟨_, by rw [HY.out.2], by rw [HY.out.1]; exact OwnR.nil _ _ _, HK5.out.to_same HW.out HKs.out⟩
          simp [results, Try.results61, go_sem]
        have hyes := step_yes (l := l) (a := b) (k := 2) (by omega)
        rw [show ((2 : Nat) : Int) = 2 from rfl] at hyes
        rw [hyes.2.1, hyes.2.2] at HSR5
        rw [hyes.1, numOut, show numOf ((l.drop b).take 2) = nmb l b 2 from rfl]
        obtain ⟨f0, f1, f2, -, -⟩ := HSR5.out.src.cells
        have hx2 := nmb_lt l b 2
        obtain ⟨X, hX⟩ : ∃ X, nmb l b 2 = X := ⟨_, rfl⟩
        rw [hX] at hx2 ⊢
        by_cases hx0 : X = 0
        · subst hx0
          have hpn : P = none := by rw [← HPb.out, partL, if_pos (.inr (.inl hX))]
          obtain ⟨y1, y2⟩ := HR0.out (by rw [HPR.out, hpn]; rfl)
          have HY := Lib.hid (And.intro y1 y2)
          clear y1 y2 hpn
          go_wp2_with fail
          refine bodyPost_ret (v := .tuple #[.slice none 0 0, .bool false]) ?_ rfl ⟨_, by rw [HY.out.2], by rw [HY.out.1]; exact OwnR.nil _ _ _, HK5.out.to_same HW.out HKs.out⟩
          simp [results, Try.results61, go_sem]
        have hx1 : ((X : Int) == 0) = false := by simp; omega
        obtain ⟨na, hna⟩ : ∃ na, ac.length = na := ⟨_, rfl⟩
        rw [hna] at hac ⊢
        by_cases hfull : na = 16
        · subst hfull
          have hpn : P = none := by rw [← HPb.out, partL, if_pos (.inr (.inr hna))]
          obtain ⟨y1, y2⟩ := HR0.out (by rw [HPR.out, hpn]; rfl)
          have HY := Lib.hid (And.intro y1 y2)
          clear y1 y2 hpn
          go_wp2_with fail
          refine bodyPost_ret (v := .tuple #[.slice none 0 0, .bool false]) ?_ rfl ⟨_, by rw [HY.out.2], by rw [HY.out.1]; exact OwnR.nil _ _ _, HK5.out.to_same HW.out HKs.out⟩
          simp [results, Try.results61, go_sem]
        have hf1 : ((na : Int) == 16) = false := by simp; omega
        have hpp : partL j' l (b + 2) (ac ++ [(X : Int)]) = P := by rw [← HPb.out, partL, if_neg (by rw [hX, hna]; omega), hX]
        have HPP := Lib.hid hpp
        rw [hna] at HOV5
        have HNA := Lib.hid hna
        have HX1 : Hid (Rs intLay (w5.alloc (.cells #[.int .i64 (X : Int)] 3)) (.slice (some ⟨w5.heap.size, 0, none⟩) 1 1) [(X : Int)]) := Rs.one intLay w5 (X : Int) #[.int .i64 (X : Int)] rfl
        have HLn : Hid (ac.length + [(X : Int)].length ≤ 1099511627776) := by show _ ≤ _; rw [hna]; simp; omega
        have HOVl : Hid (∀ g, (Value.slice ae na ce).ownBlock = some g → W.heap.size ≤ g) := fun g hg => (HOV5.out.lt g hg).1
        have HOV6 := Lib.hid (HOV5.out.same (Same.alloc w5 (.cells #[.int .i64 (X : Int)] 3)))
        have HSZ : Hid (W.heap.size ≤ (w5.alloc (.cells #[.int .i64 (X : Int)] 3)).heap.size) := Nat.le_trans HK5.out.size (Same.alloc w5 _).size
        clear hpp hX hna
        go_wp2_with (at_builtin; refine wpList_append_r2 intLay Try.underlying32 intInfo rfl (by decide) (by decide) rfl _ _ rfl W.heap.size HSZ.out (.slice ae na ce) ac rfl HOV6.out _ [(X : Int)] rfl HX1.out HLn.out ?_; intro v9 w9 ho9 hg9 hl9)
        have HKg : Kept ((Value.slice ae na ce).ownBlock.toList) (w5.alloc (.cells #[.int .i64 (X : Int)] 3)) w9 := (Kept.refl _ _).grown hg9 (fun s hs => .inl (by rw [hs]; simp))
        have hrow : ∀ g, g ∈ (Value.slice ae na ce).ownBlock.toList → W.heap.size ≤ g := fun g hg => HOVl.out g (by simpa using hg)
        have hsrc9 : RSrcB w9 s sv l (b + 2) 0 := (HSR5.out.same (Same.alloc w5 _)).kept HKg (fun h => by have := hrow _ h; have := HSW.out; omega) (fun g hg h => by have := hrow _ h; have := HSL2.out g hg; omega)
        exact ⟨⟨j', b + 2, ac ++ [(X : Int)], by first | rfl | (congr 1; omega), by omega, by omega, hsrc9, ho9, (HK5.out.same (Same.alloc w5 _)).grown hg9 (fun s hs => .inr (HOVl.out s hs)), by have := HNA.out; simp; omega, HPP.out⟩, by simp [intOf] <;> omega⟩
end Go.Proofs.Ytfhaaenmllkbnaa
