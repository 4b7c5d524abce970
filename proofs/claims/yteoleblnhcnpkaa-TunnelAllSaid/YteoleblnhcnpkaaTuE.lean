/- Contracts of the developers' layer 6: Wrap, Unwrap, Is, Depth. No condition beyond what each names. -/
import Derived.Test.YteoleblnhcnpkaaTuD
import Derived.Test.YteoleblnhcnpkaaIpDC
import Derived.LoopN
namespace Go.Proofs.Yteoleblnhcnpkaa
open Go.RowKit
set_option linter.unusedVariables false

theorem Bs.form0 {w : World} {v : Value} {l : List UInt8} (h : Bs w v l) {n : Nat} (hn : l.length = n) : ∃ ao cap, v = .slice ao n cap := by
  obtain ⟨ao, cap, rfl, -, -, -, -⟩ := h
  exact ⟨ao, cap, by rw [hn]⟩

set_option maxRecDepth 100000 in
set_option maxHeartbeats 1000000 in
theorem tWrap_any (v : Value) (l : List UInt8) (src dst : Int) (hs : 0 ≤ src ∧ src ≤ 4294967295) (hd : 0 ≤ dst ∧ dst ≤ 4294967295) (w : World) (hb : Bs w v l) :
    Calls Try.prog 7 #[v, .int .u32 src, .int .u32 dst] w fun e w' => ∃ v', e = .returned (.tuple #[v', .int .i64 (wrapE l)]) ∧ OwnB w' w.heap.size v' (wrapB l src dst) ∧ Same w w' := by
  have HP := fun w hb => Lib.hid (tcut_any v l w hb)
  have HB := Lib.hid hb
  by_cases h0 : parseE l = 0
  · have HAr := fun ao n c w => Lib.hid (around_any (parseH l) src dst ao n c w (parseH_flags l))
    have HBu := fun vp w hp => Lib.hid (ipBuild_any (arH (parseH l) src dst) ⟨hs, hd⟩ (wholeP l) nilV vp w (Bs.nil w) hp (by simp [arH]) (by have := whole_length h0; omega))
    rw [← show wrapB l src dst = buildB (arH (parseH l) src dst) (wholeP l) from if_pos h0] at HBu
    have hE := wrapE_iff h0 src dst
    rw [hE]
    rw [h0] at HP
    generalize parseH l = H at *
    obtain ⟨q0, q1, q2, q3, q4, q5, q6, q7, q8⟩ := H
    obtain ⟨f, hf2⟩ : ∃ f : Int, f = if q2 / 2 % 2 = 1 then 2 else 0 := ⟨_, rfl⟩
    rw [show arH ⟨q0, q1, q2, q3, q4, q5, q6, q7, q8⟩ src dst = ⟨q0, q1, if q2 / 2 % 2 = 1 then 2 else 0, 0, 64, 4, src, dst, []⟩ from rfl, ← hf2] at HBu HAr
    obtain ⟨n8, hn8⟩ : ∃ n, q8.length = n := ⟨_, rfl⟩
    have HN8 := Lib.hid hn8
    obtain ⟨nP, hnP⟩ : ∃ n, (wholeP l).length = n := ⟨_, rfl⟩
    have HNP := Lib.hid hnP
    generalize wrapB l src dst = X at *
    generalize wholeP l = P at *
    obtain ⟨nX, hnX⟩ : ∃ n, X.length = n := ⟨_, rfl⟩
    have HNX := Lib.hid hnX
    clear h0 hn8 hf2 hE hnP hnX
    obtain ⟨ao, cap, rfl, -, -, -, -⟩ := hb
    go_enter Try.func7, Try.ntmps7
    go_wp2_with fail
    refine (HP _ HB.out).out.mono ?_
    rintro e w1 ⟨vp, vo, rfl, hp, ho, -, hs1⟩
    have HS1 := Lib.hid hs1
    have HP1 := Lib.hid hp
    obtain ⟨a1, c1, rfl⟩ := ho.form0 HN8.out
    obtain ⟨b1, d1, rfl⟩ := hp.form0 HNP.out
    clear hs1 ho hp
    have HA1 := Lib.hid (Same.alloc w1 (hdO 31 ⟨q0, q1, q2, q3, q4, q5, q6, q7, q8⟩ (.slice a1 n8 c1)))
    obtain ⟨c0, c1, c2, c3, c4, c5, c6, c7, c8⟩ := HdAt.of (heap_alloc_new w1 (hdO 31 ⟨q0, q1, q2, q3, q4, q5, q6, q7, q8⟩ (.slice a1 n8 c1)))
    go_wp2_with fail
    refine (HAr _ _ _ _).out.mono ?_
    rintro e w2 ⟨rfl, hs2⟩
    have HS2 := Lib.hid ((HS1.out.trans HA1.out).trans hs2)
    have HP2 := Lib.hid (HP1.out.same (HA1.out.trans hs2))
    clear hs2
    go_wp2_with fail
    refine (HBu _ _ HP2.out).out.mono ?_
    rintro e w3 ⟨v3, rfl, ho3, hs3⟩
    have HS3 := Lib.hid (HS2.out.trans hs3)
    have HO3 : Hid (OwnB w3 w.heap.size v3 X) := ho3.mono HS2.out.size
    obtain ⟨a3, c3, rfl⟩ := ho3.bs.form0 HNX.out
    clear hs3 ho3
    by_cases k : nX = 0
    · subst k
      obtain rfl : X = [] := List.eq_nil_of_length_eq_zero HNX.out
      go_wp2_with fail
      refine bodyPost_ret (v := .tuple #[nilV, .int .i64 10]) ?_ rfl ⟨_, rfl, OwnB.nil _ _, HS3.out⟩
      simp [results, Try.results7, go_sem]
    · have HK : Hid (X.length ≠ 0) := by show _ ≠ _; rw [HNX.out]; exact k
      have k2 : ((nX : Int) == 0) = false := by simpa using k
      clear k
      go_wp2_with fail
      refine bodyPost_ret (v := .tuple #[.slice a3 nX c3, .int .i64 0]) ?_ rfl ⟨_, by first | rfl | rw [if_neg HK.out], HO3.out, HS3.out⟩
      simp [results, Try.results7, go_sem]
  · rw [show wrapE l = parseE l from if_pos h0, show wrapB l src dst = [] from if_neg h0]
    have e1 : parseH l = ⟨0, 0, 0, 0, 0, 0, 0, 0, []⟩ := if_neg h0
    have e2 : wholeP l = [] := if_neg h0
    rw [e1, e2] at HP
    have hE : (parseE l != 0) = true := by simpa using h0
    generalize parseE l = E at *
    clear h0 e1 e2
    obtain ⟨ao, cap, rfl, -, -, -, -⟩ := hb
    go_enter Try.func7, Try.ntmps7
    go_wp2_with fail
    refine (HP _ HB.out).out.mono ?_
    rintro e w1 ⟨vp, vo, rfl, hp, ho, -, hs1⟩
    have HS1 := Lib.hid hs1
    obtain ⟨a1, c1, rfl⟩ := ho.form0 rfl
    obtain ⟨b1, d1, rfl⟩ := hp.form0 rfl
    clear hs1 ho hp
    have HA1 := Lib.hid (Same.alloc w1 (hdO 31 ⟨0, 0, 0, 0, 0, 0, 0, 0, []⟩ (.slice a1 0 c1)))
    go_wp2_with fail
    refine bodyPost_ret (v := .tuple #[nilV, .int .i64 E]) ?_ rfl ⟨_, rfl, OwnB.nil _ _, HS1.out.trans HA1.out⟩
    simp [results, Try.results7, go_sem]

/-- the cases of what is within -/
theorem unw_cases (l : List UInt8) : (parseE l ≠ 0 ∧ unwE l = parseE l ∧ unwB l = [] ∧ unwH l = zeroH) ∨
    (parseE l = 0 ∧ carE (parseH l) ≠ 0 ∧ unwE l = carE (parseH l) ∧ unwB l = [] ∧ unwH l = zeroH) ∨
    (parseE l = 0 ∧ carE (parseH l) = 0 ∧ parseE (parseP l) ≠ 0 ∧ unwE l = parseE (parseP l) ∧ unwB l = [] ∧ unwH l = zeroH) ∨
    (parseE l = 0 ∧ carE (parseH l) = 0 ∧ parseE (parseP l) = 0 ∧ unwE l = 0 ∧ unwB l = wholeP (parseP l) ∧ unwH l = parseH l) := by
  by_cases h0 : parseE l = 0
  · by_cases h1 : carE (parseH l) = 0
    · by_cases h2 : parseE (parseP l) = 0
      · have e : unwE l = 0 := by rw [unwE, if_neg (by rw [h0]; decide), if_neg (by rw [h1]; decide), h2]
        exact .inr (.inr (.inr ⟨h0, h1, h2, e, if_pos e, if_pos e⟩))
      · have e : unwE l = parseE (parseP l) := by rw [unwE, if_neg (by rw [h0]; decide), if_neg (by rw [h1]; decide)]
        exact .inr (.inr (.inl ⟨h0, h1, h2, e, if_neg (by rw [e]; exact h2), if_neg (by rw [e]; exact h2)⟩))
    · have e : unwE l = carE (parseH l) := by rw [unwE, if_neg (by rw [h0]; decide), if_pos h1]
      exact .inr (.inl ⟨h0, h1, e, if_neg (by rw [e]; exact h1), if_neg (by rw [e]; exact h1)⟩)
  · have e : unwE l = parseE l := if_pos h0
    exact .inl ⟨h0, e, if_neg (by rw [e]; exact h0), if_neg (by rw [e]; exact h0)⟩

set_option maxRecDepth 100000 in
set_option maxHeartbeats 2000000 in
theorem tUnwrap_any (v : Value) (l : List UInt8) (w : World) (hb : Bs w v l) :
    Calls Try.prog 9 #[v] w fun e w' => ∃ v' vo, e = .returned (tcV v' (unwH l) vo (unwE l)) ∧ Bs w' v' (unwB l) ∧ Bs w' vo (unwH l).opts ∧ Same w w' := by
  have HP := fun w hb => Lib.hid (ipParse_any v l w hb)
  have HCu := fun v w hb => Lib.hid (tcut_any v (parseP l) w hb)
  have HCa := fun ao n c w => Lib.hid (carries_any (parseH l) ao n c w)
  have HB := Lib.hid hb
  have hcs := unw_cases l
  have hz : parseE l ≠ 0 → parseH l = zeroH := fun h => if_neg h
  have HK : Hid ((w.alloc (zeroO 31)).heap[w.heap.size]? = some (zeroO 31)) := heap_alloc_new w _
  obtain ⟨uE, huE⟩ : ∃ x, unwE l = x := ⟨_, rfl⟩
  obtain ⟨uB, huB⟩ : ∃ x, unwB l = x := ⟨_, rfl⟩
  obtain ⟨uH, huH⟩ : ∃ x, unwH l = x := ⟨_, rfl⟩
  rw [huE, huB, huH] at hcs ⊢
  have hE2 : parseE (parseP l) ≠ 0 → parseH (parseP l) = zeroH := fun h => if_neg h
  generalize parseE l = E at *
  generalize carE (parseH l) = C at *
  generalize parseE (parseP l) = E2 at *
  generalize parseH (parseP l) = H2 at *
  generalize wholeP (parseP l) = P2 at *
  generalize parseP l = p at *
  generalize parseH l = H at *
  clear huE huB huH
  obtain ⟨q0, q1, q2, q3, q4, q5, q6, q7, q8⟩ := H
  obtain ⟨r0, r1, r2, r3, r4, r5, r6, r7, r8⟩ := H2
  obtain ⟨n8, hn8⟩ : ∃ n, q8.length = n := ⟨_, rfl⟩
  have HN8 := Lib.hid hn8
  obtain ⟨m8, hm8⟩ : ∃ n, r8.length = n := ⟨_, rfl⟩
  have HM8 := Lib.hid hm8
  obtain ⟨np, hnp⟩ : ∃ n, p.length = n := ⟨_, rfl⟩
  have HNP := Lib.hid hnp
  obtain ⟨n2, hn2⟩ : ∃ n, P2.length = n := ⟨_, rfl⟩
  have HN2 := Lib.hid hn2
  clear hn8 hm8 hnp hn2 hz hE2
  have hcs := Lib.hid hcs
  obtain ⟨ao, cap, rfl, -, -, -, -⟩ := hb
  go_enter Try.func9, Try.ntmps9
  go_wp2_with fail
  refine (HP _ (HB.out.same (Same.alloc w _))).out.mono ?_
  rintro e w1 ⟨vo, vp, rfl, ho, hp, hs1⟩
  have HS1 := Lib.hid ((Same.alloc w _).trans hs1)
  have HR1 := Lib.hid (hs1.block HK.out)
  have HP1 := Lib.hid hp.bs
  have HO1 := Lib.hid ho.bs
  obtain ⟨a1, k1, rfl⟩ := ho.bs.form0 HN8.out
  obtain ⟨b1, y1, rfl⟩ := hp.bs.form0 HNP.out
  have HOW : Hid ((Value.slice a1 n8 k1).ownBlock ≠ some w.heap.size) := fun he => by have := (ho.lt _ he).1; simp at this; omega
  have HPW : Hid ((Value.slice b1 np y1).ownBlock ≠ some w.heap.size) := fun he => by have := (hp.lt _ he).1; simp at this; omega
  clear ho hp hs1
  have HA1 := Lib.hid (Same.alloc w1 (hdO 31 ⟨q0, q1, q2, q3, q4, q5, q6, q7, q8⟩ (.slice a1 n8 k1)))
  have HK1 := Lib.hid (heap_alloc_new w1 (hdO 31 ⟨q0, q1, q2, q3, q4, q5, q6, q7, q8⟩ (.slice a1 n8 k1)))
  have HR2 := Lib.hid (HA1.out.block HR1.out)
  obtain ⟨c0, c1, c2, c3, c4, c5, c6, c7, c8⟩ := HdAt.of (h := zeroH) (vo := nilV) HR2.out
  have hfz := not_frozen HR2.out
  obtain ⟨d0, d1, d2, d3, d4, d5, d6, d7, d8⟩ := HdAt.of HK1.out
  rcases hcs.out with ⟨g0, g1, g2, g3⟩ | ⟨g0, g4, g1, g2, g3⟩ | ⟨g0, g4, g5, g1, g2, g3⟩ | ⟨g0, g4, g5, g1, g2, g3⟩
  · subst g1 g2 g3
    have hE : (uE != 0) = true := by simpa using g0
    clear g0 hcs
    go_wp2_with fail
    have HE := hd_end ⟨0, 0, 0, 0, 0, 0, 0, 0, []⟩ nilV (HS1.out.trans HA1.out) zeroH nilV HR2.out
    dsimp only [setsL, hdL, Nat.reduceAdd] at HE
    generalize World.setCell _ ⟨w.heap.size, 8, none⟩ _ = U at HE ⊢
    obtain ⟨x0, x1, x2, x3, x4, x5, x6, x7, x8⟩ := HdAt.of (h := ⟨0, 0, 0, 0, 0, 0, 0, 0, []⟩) (vo := nilV) HE.1
    refine bodyPost_ret (v := tcV nilV ⟨0, 0, 0, 0, 0, 0, 0, 0, []⟩ nilV uE) ?_ rfl ⟨nilV, nilV, rfl, Bs.nil _, Bs.nil _, HE.2.1⟩
    simp [results, Try.results9, go_sem, x0, x1, x2, x3, x4, x5, x6, x7, x8]
  · subst g0 g1 g2 g3
    have hE : (uE != 0) = true := by simpa using g4
    clear g4 hcs
    go_wp2_with fail
    refine (HCa _ _ _ _).out.mono ?_
    rintro e w2 ⟨rfl, hs2⟩
    have HS2 := Lib.hid ((HS1.out.trans HA1.out).trans hs2)
    have HR3 := Lib.hid (hs2.block HR2.out)
    clear hs2 c0 c1 c2 c3 c4 c5 c6 c7 c8 d0 d1 d2 d3 d4 d5 d6 d7 d8 hfz
    obtain ⟨c0, c1, c2, c3, c4, c5, c6, c7, c8⟩ := HdAt.of (h := zeroH) (vo := nilV) HR3.out
    have hfz := not_frozen HR3.out
    go_wp2_with fail
    have HE := hd_end ⟨0, 0, 0, 0, 0, 0, 0, 0, []⟩ nilV HS2.out zeroH nilV HR3.out
    dsimp only [setsL, hdL, Nat.reduceAdd] at HE
    generalize World.setCell _ ⟨w.heap.size, 8, none⟩ _ = U at HE ⊢
    obtain ⟨x0, x1, x2, x3, x4, x5, x6, x7, x8⟩ := HdAt.of (h := ⟨0, 0, 0, 0, 0, 0, 0, 0, []⟩) (vo := nilV) HE.1
    refine bodyPost_ret (v := tcV nilV ⟨0, 0, 0, 0, 0, 0, 0, 0, []⟩ nilV uE) ?_ rfl ⟨nilV, nilV, rfl, Bs.nil _, Bs.nil _, HE.2.1⟩
    simp [results, Try.results9, go_sem, x0, x1, x2, x3, x4, x5, x6, x7, x8]
  · subst g0 g4 g1 g2 g3
    have hE : (uE != 0) = true := by simpa using g5
    clear g5 hcs
    go_wp2_with fail
    refine (HCa _ _ _ _).out.mono ?_
    rintro e w2 ⟨rfl, hs2⟩
    have HS2 := Lib.hid ((HS1.out.trans HA1.out).trans hs2)
    have HP2 := Lib.hid (HP1.out.same (HA1.out.trans hs2))
    have HR3 := Lib.hid (hs2.block HR2.out)
    clear hs2 c0 c1 c2 c3 c4 c5 c6 c7 c8 d0 d1 d2 d3 d4 d5 d6 d7 d8 hfz
    go_wp2_with fail
    refine (HCu _ _ HP2.out).out.mono ?_
    rintro e w3 ⟨v3, vo3, rfl, hv3, ho3, hb3, hs3⟩
    have HS3 := Lib.hid (HS2.out.trans hs3)
    have HR4 := Lib.hid (hs3.block HR3.out)
    obtain ⟨a3, k3, rfl⟩ := hv3.form0 HN2.out
    obtain ⟨b3, y3, rfl⟩ := ho3.form0 HM8.out
    clear hs3 hv3 ho3 hb3
    have HA3 := Lib.hid (Same.alloc w3 (hdO 31 ⟨r0, r1, r2, r3, r4, r5, r6, r7, r8⟩ (.slice b3 m8 y3)))
    have HR5 := Lib.hid (HA3.out.block HR4.out)
    obtain ⟨c0, c1, c2, c3, c4, c5, c6, c7, c8⟩ := HdAt.of (h := zeroH) (vo := nilV) HR5.out
    have hfz := not_frozen HR5.out
    go_wp2_with fail
    have HE := hd_end ⟨0, 0, 0, 0, 0, 0, 0, 0, []⟩ nilV (HS3.out.trans HA3.out) zeroH nilV HR5.out
    dsimp only [setsL, hdL, Nat.reduceAdd] at HE
    generalize World.setCell _ ⟨w.heap.size, 8, none⟩ _ = U at HE ⊢
    obtain ⟨x0, x1, x2, x3, x4, x5, x6, x7, x8⟩ := HdAt.of (h := ⟨0, 0, 0, 0, 0, 0, 0, 0, []⟩) (vo := nilV) HE.1
    refine bodyPost_ret (v := tcV nilV ⟨0, 0, 0, 0, 0, 0, 0, 0, []⟩ nilV uE) ?_ rfl ⟨nilV, nilV, rfl, Bs.nil _, Bs.nil _, HE.2.1⟩
    simp [results, Try.results9, go_sem, x0, x1, x2, x3, x4, x5, x6, x7, x8]
  · subst g0 g4 g5 g1 g2 g3
    clear hcs
    go_wp2_with fail
    refine (HCa _ _ _ _).out.mono ?_
    rintro e w2 ⟨rfl, hs2⟩
    have HS2 := Lib.hid ((HS1.out.trans HA1.out).trans hs2)
    have HP2 := Lib.hid (HP1.out.same (HA1.out.trans hs2))
    have HR3 := Lib.hid (hs2.block HR2.out)
    have HK2 := Lib.hid (hs2.block HK1.out)
    have HO2 := Lib.hid (HO1.out.same (HA1.out.trans hs2))
    clear hs2 c0 c1 c2 c3 c4 c5 c6 c7 c8 d0 d1 d2 d3 d4 d5 d6 d7 d8 hfz
    go_wp2_with fail
    refine (HCu _ _ HP2.out).out.mono ?_
    rintro e w3 ⟨v3, vo3, rfl, hv3, ho3, hb3, hs3⟩
    have HS3 := Lib.hid (HS2.out.trans hs3)
    have HR4 := Lib.hid (hs3.block HR3.out)
    have HK3 := Lib.hid (hs3.block HK2.out)
    have HO3 := Lib.hid (HO2.out.same hs3)
    have HV3 := Lib.hid hv3
    have HVW : Hid (v3.ownBlock ≠ some w.heap.size) := fun he => HPW.out (hb3 _ he)
    obtain ⟨a3, k3, rfl⟩ := hv3.form0 HN2.out
    obtain ⟨b3, y3, rfl⟩ := ho3.form0 HM8.out
    clear hs3 hv3 ho3 hb3
    have HA3 := Lib.hid (Same.alloc w3 (hdO 31 ⟨r0, r1, r2, r3, r4, r5, r6, r7, r8⟩ (.slice b3 m8 y3)))
    have HR5 := Lib.hid (HA3.out.block HR4.out)
    have HK4 := Lib.hid (HA3.out.block HK3.out)
    have HO4 := Lib.hid (HO3.out.same HA3.out)
    have HV4 := Lib.hid (HV3.out.same HA3.out)
    go_wp2_with fail
    generalize (w3.alloc (hdO 31 ⟨r0, r1, r2, r3, r4, r5, r6, r7, r8⟩ (.slice b3 m8 y3))) = w4 at *
    have HR6 : Hid (w4.drew.heap[w.heap.size]? = some (zeroO 31)) := HR5.out
    have HK5 : Hid (w4.drew.heap[w1.heap.size]? = some (hdO 31 ⟨q0, q1, q2, q3, q4, q5, q6, q7, q8⟩ (.slice a1 n8 k1))) := HK4.out
    have HRP : Hid (w.heap.size ≠ w1.heap.size) := by
      have := (Array.getElem?_eq_some_iff.1 HR1.out).1
      show _ ≠ _; omega
    refine reg_start (fun w' => w'.heap[w1.heap.size]? = some (hdO 31 ⟨q0, q1, q2, q3, q4, q5, q6, q7, q8⟩ (.slice a1 n8 k1))) (by kernel_rfl) ?_
    refine reg_take (v := ?_) 0 (some 36) rfl rfl (by kernel_rfl) (fun _ _ _ h => h) (by kernel_rfl) (HK5.out) ?_ ?_
    rotate_left
    · (intro w' hw'; obtain ⟨c0, c1, c2, c3, c4, c5, c6, c7, c8⟩ := HdAt.of hw'; go_simp; try with_reducible rfl)
    try simp only [Act.put, List.setIfInBounds_toArray, List.set_cons_zero, List.set_cons_succ]
    refine reg_take (v := ?_) 1 (some 37) rfl rfl (by kernel_rfl) (fun _ _ _ h => h) (by kernel_rfl) (HK5.out) ?_ ?_
    rotate_left
    · (intro w' hw'; obtain ⟨c0, c1, c2, c3, c4, c5, c6, c7, c8⟩ := HdAt.of hw'; go_simp; try with_reducible rfl)
    try simp only [Act.put, List.setIfInBounds_toArray, List.set_cons_zero, List.set_cons_succ]
    refine reg_take (v := ?_) 2 (some 2) rfl rfl (by kernel_rfl) (fun _ _ _ h => h) (by kernel_rfl) (HK5.out) ?_ ?_
    rotate_left
    · (intro w' hw'; obtain ⟨c0, c1, c2, c3, c4, c5, c6, c7, c8⟩ := HdAt.of hw'; go_simp; try with_reducible rfl)
    try simp only [Act.put, List.setIfInBounds_toArray, List.set_cons_zero, List.set_cons_succ]
    refine reg_one 3 rfl (by kernel_rfl) (by kernel_rfl) ?_
    refine wp_store_row 31 _ _ (by rfl) w.heap.size #[.int .i64 q0, .int .i64 q1, .int .i64 q2, .int .i64 q3, .int .i64 q4, .int .i64 q5, .int .u32 q6, .int .u32 q7, .slice a1 n8 k1] (by rfl) (by rfl) 31 _ HR6.out (by kernel_rfl) (by rfl) (hd_one ⟨q0, q1, q2, q3, q4, q5, q6, q7, []⟩ _ _ _) ?_
    have hS6 := (setRow_other w4.drew w.heap.size w1.heap.size #[.int .i64 q0, .int .i64 q1, .int .i64 q2, .int .i64 q3, .int .i64 q4, .int .i64 q5, .int .u32 q6, .int .u32 q7, .slice a1 n8 k1] (Ne.symm HRP.out)).trans HK5.out
    refine ⟨hS6, ?_⟩
    try simp only [Act.put]
    refine reg_take (v := ?_) 4 (some 4) rfl rfl (by kernel_rfl) (fun _ _ _ h => h) (by kernel_rfl) (hS6) ?_ ?_
    rotate_left
    · (intro w' hw'; obtain ⟨c0, c1, c2, c3, c4, c5, c6, c7, c8⟩ := HdAt.of hw'; go_simp; try with_reducible rfl)
    try simp only [Act.put, List.setIfInBounds_toArray, List.set_cons_zero, List.set_cons_succ]
    refine reg_done (by kernel_rfl) ?_
    have HSw : Hid (Same w w4.drew) := (HS3.out.trans HA3.out).drew
    have HR7 := Lib.hid (setRow_heap w4.drew w.heap.size _ #[.int .i64 q0, .int .i64 q1, .int .i64 q2, .int .i64 q3, .int .i64 q4, .int .i64 q5, .int .u32 q6, .int .u32 q7, .slice a1 n8 k1] _ _ HR6.out)
    have HM7 := Lib.hid (Mod.setRow w.heap.size w4.drew #[.int .i64 q0, .int .i64 q1, .int .i64 q2, .int .i64 q3, .int .i64 q4, .int .i64 q5, .int .u32 q6, .int .u32 q7, .slice a1 n8 k1])
    have HS7 := Lib.hid (below_setRow HSw.out (Nat.le_refl w.heap.size) #[.int .i64 q0, .int .i64 q1, .int .i64 q2, .int .i64 q3, .int .i64 q4, .int .i64 q5, .int .u32 q6, .int .u32 q7, .slice a1 n8 k1])
    clear hS6
    generalize w4.drew.setRow w.heap.size _ = u7 at *
    go_wp2_with fail
    obtain ⟨x0, x1, x2, x3, x4, x5, x6, x7, x8⟩ := HdAt.of (h := ⟨q0, q1, q2, q3, q4, q5, q6, q7, q8⟩) (vo := .slice a1 n8 k1) HR7.out
    refine bodyPost_ret (v := tcV (.slice a3 n2 k3) ⟨q0, q1, q2, q3, q4, q5, q6, q7, q8⟩ (.slice a1 n8 k1) 0) ?_ rfl ⟨_, _, rfl, Bs.mod HM7.out HVW.out (HV4.out.same (Same.refl w4).drew), Bs.mod HM7.out HOW.out (HO4.out.same (Same.refl w4).drew), HS7.out⟩
    simp [results, Try.results9, go_sem, x0, x1, x2, x3, x4, x5, x6, x7, x8]

set_option maxRecDepth 100000 in
theorem tIs_any (v : Value) (l : List UInt8) (w : World) (hb : Bs w v l) :
    Calls Try.prog 12 #[v] w fun e w' => e = .returned (.bool (unwE l == 0)) ∧ Same w w' := by
  have HU := Lib.hid (tUnwrap_any v l w hb)
  generalize unwE l = E at *
  generalize unwB l = P at *
  generalize unwH l = H at *
  obtain ⟨q0, q1, q2, q3, q4, q5, q6, q7, q8⟩ := H
  obtain ⟨n8, hn8⟩ : ∃ n, q8.length = n := ⟨_, rfl⟩
  obtain ⟨ao, cap, rfl, -, -, -, -⟩ := hb
  go_enter Try.func12, Try.ntmps12
  go_wp2_with fail
  refine HU.out.mono ?_
  rintro e w1 ⟨v1, vo, rfl, hp, ho, hs1⟩
  have HS1 := Lib.hid hs1
  obtain ⟨a1, k1, rfl⟩ := ho.form0 hn8
  clear hs1 ho hp hn8
  go_wp2_with fail
  go_ret
  exact ⟨rfl, HS1.out.trans (Same.alloc _ _)⟩

set_option maxRecDepth 100000 in
theorem tDepth_any (v : Value) (l : List UInt8) (w : World) (hb : Bs w v l) :
    Calls Try.prog 13 #[v] w fun e w' => e = .returned (.int .i64 (depN 8 l)) ∧ Same w w' := by
  have HB := Lib.hid hb
  obtain ⟨R, hR⟩ : ∃ R, depN 8 l = R := ⟨_, rfl⟩
  rw [hR]
  go_enter Try.func13, Try.ntmps13
  go_wp2_with fail
  go_step3
  go_wp2_with fail
  go_step3
  go_wp2_with fail
  go_loopw [0, 3] (fun bv nv wr => ∃ (k : Nat) (m : List UInt8), k ≤ 8 ∧ nv = .int .i64 k ∧ Bs wr bv m ∧ Same w wr ∧ k + depN (8 - k) m = R) (fun _ nv _ => 8 - (intOf nv).toNat)
  case atStart => exact ⟨0, l, by omega, rfl, hb, Same.refl w, by simpa using hR⟩
  case round =>
    obtain ⟨k, m, hk, rfl, hbm, hsm, hd⟩ := hrel
    by_cases h8 : k = 8
    · subst h8
      obtain rfl : 8 = R := by simpa [depN] using hd
      clear hd hk
      go_wp2_with fail
      simp only [Exit.noGoto]
      go_ret
      exact ⟨rfl, hsm⟩
    · have hk8 : (k : Int) < 8 := by omega
      have HU := Lib.hid (tUnwrap_any u0 m wr hbm)
      have HD : Hid (k + (if unwE m = 0 then depN (8 - (k + 1)) (unwB m) + 1 else 0) = R) := by
        show _ = _
        rw [← hd, show 8 - k = (8 - (k + 1)) + 1 from by omega]
        rfl
      have HSM := Lib.hid hsm
      clear hd hbm hsm h8 hk
      generalize unwH m = H at *
      obtain ⟨q0, q1, q2, q3, q4, q5, q6, q7, q8⟩ := H
      obtain ⟨n8, hn8⟩ : ∃ n, q8.length = n := ⟨_, rfl⟩
      go_wp2_with fail
      refine HU.out.mono ?_
      rintro e w1 ⟨v1, vo, rfl, hp, ho, hs1⟩
      have HP1 := Lib.hid hp
      have HS1 := Lib.hid hs1
      obtain ⟨a1, k1, rfl⟩ := ho.form0 hn8
      clear hs1 ho hp hn8
      by_cases h0 : unwE m = 0
      · have HD2 := HD.out
        rw [if_pos h0] at HD2
        have HD3 := Lib.hid HD2
        have HE := Lib.hid h0
        rw [h0]
        clear HD2 h0 HD
        go_wp2_with fail
        exact ⟨⟨k + 1, unwB m, by omega, rfl, HP1.out.same (Same.alloc _ _), HSM.out.trans (HS1.out.trans (Same.alloc _ _)), by have := HD3.out; omega⟩, by simp [intOf]; omega⟩
      · have HD2 := HD.out
        rw [if_neg h0] at HD2
        have HD3 := Lib.hid HD2
        have hE : (unwE m == 0) = false := by simpa using h0
        clear HD2 h0 HD
        generalize unwE m = E at *
        go_wp2_with fail
        simp only [Exit.noGoto]
        go_ret
        exact ⟨by rw [← HD3.out]; rfl, HSM.out.trans (HS1.out.trans (Same.alloc _ _))⟩
end Go.Proofs.Yteoleblnhcnpkaa
