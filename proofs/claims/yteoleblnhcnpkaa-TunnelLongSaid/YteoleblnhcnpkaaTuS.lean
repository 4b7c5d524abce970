/- Contracts of the document's own answers for layer 6: Unwrap, Depth. No condition beyond what each names. -/
import Derived.Test.YteoleblnhcnpkaaTuR
import Derived.Test.YteoleblnhcnpkaaTuE
namespace Go.Proofs.Yteoleblnhcnpkaa
open Go.RowKit
set_option linter.unusedVariables false

theorem car_cases (h : Hd) : (h.proto ≠ 4 ∧ carE h = 7) ∨ (h.proto = 4 ∧ 0 < h.frag ∧ carE h = 8) ∨ (h.proto = 4 ∧ ¬ 0 < h.frag ∧ h.flags % 2 = 1 ∧ carE h = 8) ∨ (h.proto = 4 ∧ ¬ 0 < h.frag ∧ ¬ h.flags % 2 = 1 ∧ carE h = 0) := by
  unfold carE
  by_cases h5 : h.proto = 4
  · rw [if_neg (by simpa using h5)]
    by_cases h3 : 0 < h.frag
    · exact .inr (.inl ⟨h5, h3, if_pos (.inl h3)⟩)
    · by_cases h2 : h.flags % 2 = 1
      · exact .inr (.inr (.inl ⟨h5, h3, h2, if_pos (.inr h2)⟩))
      · exact .inr (.inr (.inr ⟨h5, h3, h2, if_neg (by omega)⟩))
  · exact .inl ⟨h5, if_pos h5⟩

set_option maxRecDepth 100000 in
set_option maxHeartbeats 2000000 in
theorem riUnwrap_any (v : Value) (l : List UInt8) (w : World) (hb : Bs w v l) :
    Calls Try.prog 10 #[v] w fun e w' => ∃ v' vo, e = .returned (tcV v' (unwH l) vo (unwE l)) ∧ Bs w' v' (unwB l) ∧ Bs w' vo (unwH l).opts ∧ Same w w' := by
  have HP := fun w hb => Lib.hid (riParse_any v l w hb)
  have HP2 := fun v w hb => Lib.hid (riParse_any v (parseP l) w hb)
  have HWh := fun h0 v w hb => Lib.hid (riWhole_any v (parseP l) w hb h0)
  have HB := Lib.hid hb
  have hcs := unw_cases l
  have hcc := car_cases (parseH l)
  have z1 := Int.tmod_eq_emod_of_nonneg (b := 2) (parseH_flags l).1
  have HK : Hid ((w.alloc (zeroO 34)).heap[w.heap.size]? = some (zeroO 34)) := heap_alloc_new w _
  obtain ⟨uE, huE⟩ : ∃ x, unwE l = x := ⟨_, rfl⟩
  obtain ⟨uB, huB⟩ : ∃ x, unwB l = x := ⟨_, rfl⟩
  obtain ⟨uH, huH⟩ : ∃ x, unwH l = x := ⟨_, rfl⟩
  rw [huE, huB, huH] at hcs ⊢
  generalize parseE l = E at *
  generalize carE (parseH l) = C at *
  generalize parseE (parseP l) = E2 at *
  generalize parseH (parseP l) = H2 at *
  generalize wholeP (parseP l) = P2 at *
  generalize parseP (parseP l) = p2 at *
  generalize parseP l = p at *
  generalize parseH l = H at *
  clear huE huB huH
  obtain ⟨q0, q1, q2, q3, q4, q5, q6, q7, q8⟩ := H
  obtain ⟨r0, r1, r2, r3, r4, r5, r6, r7, r8⟩ := H2
  simp only at hcc z1
  obtain ⟨n8, hn8⟩ : ∃ n, q8.length = n := ⟨_, rfl⟩
  have HN8 := Lib.hid hn8
  obtain ⟨m8, hm8⟩ : ∃ n, r8.length = n := ⟨_, rfl⟩
  have HM8 := Lib.hid hm8
  obtain ⟨np, hnp⟩ : ∃ n, p.length = n := ⟨_, rfl⟩
  have HNP := Lib.hid hnp
  obtain ⟨n2, hn2⟩ : ∃ n, P2.length = n := ⟨_, rfl⟩
  have HN2 := Lib.hid hn2
  obtain ⟨m2, hm2⟩ : ∃ n, p2.length = n := ⟨_, rfl⟩
  have HM2 := Lib.hid hm2
  clear hn8 hm8 hnp hn2 hm2
  have hcs := Lib.hid hcs
  have hcc := Lib.hid hcc
  obtain ⟨ao, cap, rfl, -, -, -, -⟩ := hb
  go_enter Try.func10, Try.ntmps10
  go_wp2_with fail
  refine (HP _ (HB.out.same (Same.alloc w _))).out.mono ?_
  rintro e w1 ⟨vo, vp, rfl, ho, hp, hs1⟩
  have HS1 := Lib.hid ((Same.alloc w _).trans hs1)
  have HR1 := Lib.hid (hs1.block HK.out)
  have HP1 := Lib.hid hp.bs
  have HO1 := Lib.hid ho.bs
  obtain ⟨a1, k1, rfl⟩ := ho.bs.form0 HN8.out
  obtain ⟨b1, y1, rfl⟩ := hp.bs.form0 HNP.out
  have HOW : Hid ((Value.slice a1 n8 k1).ownBlock ≠ some w.heap.size) := fun he => by have := (ho.lt _ he).1; simp at this; omega
  clear ho hp hs1
  have HA1 := Lib.hid (Same.alloc w1 (hdO 34 ⟨q0, q1, q2, q3, q4, q5, q6, q7, q8⟩ (.slice a1 n8 k1)))
  have HK1 := Lib.hid (heap_alloc_new w1 (hdO 34 ⟨q0, q1, q2, q3, q4, q5, q6, q7, q8⟩ (.slice a1 n8 k1)))
  have HR2 := Lib.hid (HA1.out.block HR1.out)
  obtain ⟨c0, c1, c2, c3, c4, c5, c6, c7, c8⟩ := HdAt.of (h := zeroH) (vo := nilV) HR2.out
  have hfz := not_frozen HR2.out
  obtain ⟨d0, d1, d2, d3, d4, d5, d6, d7, d8⟩ := HdAt.of HK1.out
  rcases hcs.out with ⟨g0, g1, g2, g3⟩ | ⟨g0, g4, g1, g2, g3⟩ | ⟨g0, g4, g5, g1, g2, g3⟩ | ⟨g0, g4, g5, g1, g2, g3⟩
  · subst g1 g2 g3
    have hE : (uE != 0) = true := by simpa using g0
    clear g0 hcs hcc z1
    go_wp2_with fail
    have HE := hd_end ⟨0, 0, 0, 0, 0, 0, 0, 0, []⟩ nilV (HS1.out.trans HA1.out) zeroH nilV HR2.out
    dsimp only [setsL, hdL, Nat.reduceAdd] at HE
    generalize World.setCell _ ⟨w.heap.size, 8, none⟩ _ = U at HE ⊢
    obtain ⟨x0, x1, x2, x3, x4, x5, x6, x7, x8⟩ := HdAt.of (h := ⟨0, 0, 0, 0, 0, 0, 0, 0, []⟩) (vo := nilV) HE.1
    refine bodyPost_ret (v := tcV nilV ⟨0, 0, 0, 0, 0, 0, 0, 0, []⟩ nilV uE) ?_ rfl ⟨nilV, nilV, rfl, Bs.nil _, Bs.nil _, HE.2.1⟩
    simp [results, Try.results10, go_sem, x0, x1, x2, x3, x4, x5, x6, x7, x8]
  · subst g0 g1 g2 g3
    clear hcs
    rcases hcc.out with ⟨j1, rfl⟩ | ⟨rfl, j2, rfl⟩ | ⟨rfl, j2, j3, rfl⟩ | ⟨rfl, j2, j3, rfl⟩
    · have hE : (q5 != 4) = true := by simpa using j1
      clear j1 g4 hcc z1
      go_wp2_with fail
      have HE := hd_end ⟨0, 0, 0, 0, 0, 0, 0, 0, []⟩ nilV (HS1.out.trans HA1.out) zeroH nilV HR2.out
      dsimp only [setsL, hdL, Nat.reduceAdd] at HE
      generalize World.setCell _ ⟨w.heap.size, 8, none⟩ _ = U at HE ⊢
      obtain ⟨x0, x1, x2, x3, x4, x5, x6, x7, x8⟩ := HdAt.of (h := ⟨0, 0, 0, 0, 0, 0, 0, 0, []⟩) (vo := nilV) HE.1
      refine bodyPost_ret (v := tcV nilV ⟨0, 0, 0, 0, 0, 0, 0, 0, []⟩ nilV 7) ?_ rfl ⟨nilV, nilV, rfl, Bs.nil _, Bs.nil _, HE.2.1⟩
      simp [results, Try.results10, go_sem, x0, x1, x2, x3, x4, x5, x6, x7, x8]
    · clear g4 hcc z1
      go_wp2_with fail
      have HE := hd_end ⟨0, 0, 0, 0, 0, 0, 0, 0, []⟩ nilV (HS1.out.trans HA1.out) zeroH nilV HR2.out
      dsimp only [setsL, hdL, Nat.reduceAdd] at HE
      generalize World.setCell _ ⟨w.heap.size, 8, none⟩ _ = U at HE ⊢
      obtain ⟨x0, x1, x2, x3, x4, x5, x6, x7, x8⟩ := HdAt.of (h := ⟨0, 0, 0, 0, 0, 0, 0, 0, []⟩) (vo := nilV) HE.1
      refine bodyPost_ret (v := tcV nilV ⟨0, 0, 0, 0, 0, 0, 0, 0, []⟩ nilV 8) ?_ rfl ⟨nilV, nilV, rfl, Bs.nil _, Bs.nil _, HE.2.1⟩
      simp [results, Try.results10, go_sem, x0, x1, x2, x3, x4, x5, x6, x7, x8]
    · clear g4 hcc
      go_wp2_with fail
      have HE := hd_end ⟨0, 0, 0, 0, 0, 0, 0, 0, []⟩ nilV (HS1.out.trans HA1.out) zeroH nilV HR2.out
      dsimp only [setsL, hdL, Nat.reduceAdd] at HE
      generalize World.setCell _ ⟨w.heap.size, 8, none⟩ _ = U at HE ⊢
      obtain ⟨x0, x1, x2, x3, x4, x5, x6, x7, x8⟩ := HdAt.of (h := ⟨0, 0, 0, 0, 0, 0, 0, 0, []⟩) (vo := nilV) HE.1
      refine bodyPost_ret (v := tcV nilV ⟨0, 0, 0, 0, 0, 0, 0, 0, []⟩ nilV 8) ?_ rfl ⟨nilV, nilV, rfl, Bs.nil _, Bs.nil _, HE.2.1⟩
      simp [results, Try.results10, go_sem, x0, x1, x2, x3, x4, x5, x6, x7, x8]
    · exact absurd rfl g4
  · subst g0 g4 g1 g2 g3
    have hE : (uE != 0) = true := by simpa using g5
    clear g5 hcs
    rcases hcc.out with ⟨j1, j4⟩ | ⟨rfl, j2, j4⟩ | ⟨rfl, j2, j3, j4⟩ | ⟨rfl, j2, j3, -⟩
    · exact absurd j4 (by decide)
    · exact absurd j4 (by decide)
    · exact absurd j4 (by decide)
    have hz : (q2 % 2 == 1) = false := by simpa using j3
    clear hcc j3
    go_wp2_with fail
    refine (HP2 _ _ (HP1.out.same HA1.out)).out.mono ?_
    rintro e w3 ⟨vo3, v3, rfl, ho3, hv3, hs3⟩
    have HS3 := Lib.hid ((HS1.out.trans HA1.out).trans hs3)
    have HR5 := Lib.hid (hs3.block HR2.out)
    obtain ⟨a3, k3, rfl⟩ := hv3.bs.form0 HM2.out
    obtain ⟨b3, y3, rfl⟩ := ho3.bs.form0 HM8.out
    clear hs3 hv3 ho3 c0 c1 c2 c3 c4 c5 c6 c7 c8 d0 d1 d2 d3 d4 d5 d6 d7 d8 hfz
    obtain ⟨c0, c1, c2, c3, c4, c5, c6, c7, c8⟩ := HdAt.of (h := zeroH) (vo := nilV) HR5.out
    have hfz := not_frozen HR5.out
    go_wp2_with fail
    have HE := hd_end ⟨0, 0, 0, 0, 0, 0, 0, 0, []⟩ nilV HS3.out zeroH nilV HR5.out
    dsimp only [setsL, hdL, Nat.reduceAdd] at HE
    generalize World.setCell _ ⟨w.heap.size, 8, none⟩ _ = U at HE ⊢
    obtain ⟨x0, x1, x2, x3, x4, x5, x6, x7, x8⟩ := HdAt.of (h := ⟨0, 0, 0, 0, 0, 0, 0, 0, []⟩) (vo := nilV) HE.1
    refine bodyPost_ret (v := tcV nilV ⟨0, 0, 0, 0, 0, 0, 0, 0, []⟩ nilV uE) ?_ rfl ⟨nilV, nilV, rfl, Bs.nil _, Bs.nil _, HE.2.1⟩
    simp [results, Try.results10, go_sem, x0, x1, x2, x3, x4, x5, x6, x7, x8]
  · subst g0 g4 g5 g1 g2 g3
    clear hcs
    rcases hcc.out with ⟨j1, j4⟩ | ⟨rfl, j2, j4⟩ | ⟨rfl, j2, j3, j4⟩ | ⟨rfl, j2, j3, -⟩
    · exact absurd j4 (by decide)
    · exact absurd j4 (by decide)
    · exact absurd j4 (by decide)
    have hz : (q2 % 2 == 1) = false := by simpa using j3
    clear hcc j3
    go_wp2_with fail
    refine (HP2 _ _ (HP1.out.same HA1.out)).out.mono ?_
    rintro e w3 ⟨vo3, v3, rfl, ho3, hv3, hs3⟩
    have HS3 := Lib.hid ((HS1.out.trans HA1.out).trans hs3)
    have HP3 := Lib.hid (HP1.out.same (HA1.out.trans hs3))
    have HO3 := Lib.hid (HO1.out.same (HA1.out.trans hs3))
    have HR5 := Lib.hid (hs3.block HR2.out)
    have HK4 := Lib.hid (hs3.block HK1.out)
    obtain ⟨a3, k3, rfl⟩ := hv3.bs.form0 HM2.out
    obtain ⟨b3, y3, rfl⟩ := ho3.bs.form0 HM8.out
    clear hs3 hv3 ho3 c0 c1 c2 c3 c4 c5 c6 c7 c8 d0 d1 d2 d3 d4 d5 d6 d7 d8 hfz
    go_wp2_with fail
    have HR6 : Hid (w3.drew.heap[w.heap.size]? = some (zeroO 34)) := HR5.out
    have HK5 : Hid (w3.drew.heap[w1.heap.size]? = some (hdO 34 ⟨q0, q1, q2, q3, q4, 4, q6, q7, q8⟩ (.slice a1 n8 k1))) := HK4.out
    have HRP : Hid (w.heap.size ≠ w1.heap.size) := by
      have := (Array.getElem?_eq_some_iff.1 HR1.out).1
      show _ ≠ _; omega
    have HRL : Hid (w.heap.size < w3.drew.heap.size) := (Array.getElem?_eq_some_iff.1 HR6.out).1
    refine reg_start (fun w' => w'.heap[w1.heap.size]? = some (hdO 34 ⟨q0, q1, q2, q3, q4, 4, q6, q7, q8⟩ (.slice a1 n8 k1))) (by kernel_rfl) ?_
    refine reg_take (v := ?_) 0 (some 45) rfl rfl (by kernel_rfl) (fun _ _ _ h => h) (by kernel_rfl) (HK5.out) ?_ ?_
    rotate_left
    · (intro w' hw'; obtain ⟨c0, c1, c2, c3, c4, c5, c6, c7, c8⟩ := HdAt.of hw'; go_simp; try with_reducible rfl)
    try simp only [Act.put, List.setIfInBounds_toArray, List.set_cons_zero, List.set_cons_succ]
    refine reg_take (v := ?_) 2 (some 47) rfl rfl (by kernel_rfl) (fun _ _ _ h => h) (by kernel_rfl) (HK5.out) ?_ ?_
    rotate_left
    · (intro w' hw'; obtain ⟨c0, c1, c2, c3, c4, c5, c6, c7, c8⟩ := HdAt.of hw'; go_simp; try with_reducible rfl)
    try simp only [Act.put, List.setIfInBounds_toArray, List.set_cons_zero, List.set_cons_succ]
    refine reg_one 1 rfl (by kernel_rfl) (by kernel_rfl) ?_
    go_simp
    refine ((HWh (by first | rfl | trivial) _ _ (HP3.out.same (Same.refl w3).drew)).out).mono ?_
    rintro e u1 ⟨v4, rfl, ho4, hs1⟩
    have hS1 := hs1.block (HK5.out)
    have HV4 := Lib.hid ho4.bs
    have HVW : Hid (v4.ownBlock ≠ some w.heap.size) := fun he => by have h1 := (ho4.lt _ he).1; have h2 := HRL.out; omega
    have HR7 := Lib.hid (hs1.block HR6.out)
    clear ho4
    refine ⟨hS1, ?_⟩
    try simp only [Act.put, List.setIfInBounds_toArray, List.set_cons_zero, List.set_cons_succ]
    refine reg_take (v := ?_) 3 (some 2) rfl rfl (by kernel_rfl) (fun _ _ _ h => h) (by kernel_rfl) (hS1) ?_ ?_
    rotate_left
    · (intro w' hw'; obtain ⟨c0, c1, c2, c3, c4, c5, c6, c7, c8⟩ := HdAt.of hw'; go_simp; try with_reducible rfl)
    try simp only [Act.put, List.setIfInBounds_toArray, List.set_cons_zero, List.set_cons_succ]
    refine reg_one 4 rfl (by kernel_rfl) (by kernel_rfl) ?_
    refine wp_store_row 34 _ _ (by rfl) w.heap.size #[.int .i64 q0, .int .i64 q1, .int .i64 q2, .int .i64 q3, .int .i64 q4, .int .i64 4, .int .u32 q6, .int .u32 q7, .slice a1 n8 k1] (by rfl) (by rfl) 34 _ HR7.out (by kernel_rfl) (by rfl) (hd_one ⟨q0, q1, q2, q3, q4, 4, q6, q7, []⟩ _ _ _) ?_
    have hS6 := (setRow_other u1 w.heap.size w1.heap.size #[.int .i64 q0, .int .i64 q1, .int .i64 q2, .int .i64 q3, .int .i64 q4, .int .i64 4, .int .u32 q6, .int .u32 q7, .slice a1 n8 k1] (Ne.symm HRP.out)).trans hS1
    refine ⟨hS6, ?_⟩
    try simp only [Act.put]
    refine reg_take (v := ?_) 5 (some 4) rfl rfl (by kernel_rfl) (fun _ _ _ h => h) (by kernel_rfl) (hS6) ?_ ?_
    rotate_left
    · (intro w' hw'; obtain ⟨c0, c1, c2, c3, c4, c5, c6, c7, c8⟩ := HdAt.of hw'; go_simp; try with_reducible rfl)
    try simp only [Act.put, List.setIfInBounds_toArray, List.set_cons_zero, List.set_cons_succ]
    refine reg_done (by kernel_rfl) ?_
    have HSw : Hid (Same w u1) := HS3.out.trans ((Same.refl w3).drew.trans hs1)
    have HR8 := Lib.hid (setRow_heap u1 w.heap.size _ #[.int .i64 q0, .int .i64 q1, .int .i64 q2, .int .i64 q3, .int .i64 q4, .int .i64 4, .int .u32 q6, .int .u32 q7, .slice a1 n8 k1] _ _ HR7.out)
    have HM8 := Lib.hid (Mod.setRow w.heap.size u1 #[.int .i64 q0, .int .i64 q1, .int .i64 q2, .int .i64 q3, .int .i64 q4, .int .i64 4, .int .u32 q6, .int .u32 q7, .slice a1 n8 k1])
    have HS8 := Lib.hid (below_setRow HSw.out (Nat.le_refl w.heap.size) #[.int .i64 q0, .int .i64 q1, .int .i64 q2, .int .i64 q3, .int .i64 q4, .int .i64 4, .int .u32 q6, .int .u32 q7, .slice a1 n8 k1])
    have HO4 := Lib.hid (HO3.out.same ((Same.refl w3).drew.trans hs1))
    clear hS6 hs1 hS1
    generalize u1.setRow w.heap.size _ = u7 at *
    go_wp2_with fail
    obtain ⟨x0, x1, x2, x3, x4, x5, x6, x7, x8⟩ := HdAt.of (h := ⟨q0, q1, q2, q3, q4, 4, q6, q7, q8⟩) (vo := .slice a1 n8 k1) HR8.out
    refine bodyPost_ret (v := tcV v4 ⟨q0, q1, q2, q3, q4, 4, q6, q7, q8⟩ (.slice a1 n8 k1) 0) ?_ rfl ⟨_, _, rfl, Bs.mod HM8.out HVW.out HV4.out, Bs.mod HM8.out HOW.out HO4.out, HS8.out⟩
    simp [results, Try.results10, go_sem, x0, x1, x2, x3, x4, x5, x6, x7, x8]

set_option maxRecDepth 100000 in
theorem riDepth_any (v : Value) (l : List UInt8) (w : World) (hb : Bs w v l) :
    Calls Try.prog 14 #[v] w fun e w' => e = .returned (.int .i64 (depN 8 l)) ∧ Same w w' := by
  have HB := Lib.hid hb
  obtain ⟨R, hR⟩ : ∃ R, depN 8 l = R := ⟨_, rfl⟩
  rw [hR]
  go_enter Try.func14, Try.ntmps14
  go_wp2_with fail
  go_loopw [0, 3] (fun bv nv wr => ∃ (k : Nat) (m : List UInt8), k ≤ 8 ∧ nv = .int .i64 k ∧ Bs wr bv m ∧ Same w wr ∧ k + depN (8 - k) m = R) (fun _ nv _ => 8 - (intOf nv).toNat)
  case atStart => exact ⟨0, l, by omega, rfl, hb, Same.refl w, by simpa using hR⟩
  case round =>
    obtain ⟨k, m, hk, rfl, hbm, hsm, hd⟩ := hrel
    by_cases h8 : k = 8
    · subst h8
      obtain rfl : 8 = R := by simpa [depN] using hd
      clear hd hk
      go_wp2_with fail
      go_ret
      exact ⟨rfl, hsm⟩
    · have hk8 : (k : Int) < 8 := by omega
      have HU := Lib.hid (riUnwrap_any u0 m wr hbm)
      have HD : Hid (k + (if unwE m = 0 then depN (8 - (k + 1)) (unwB m) + 1 else 0) = R) := by
        show _ = _
        rw [← hd, show 8 - k = (8 - (k + 1)) + 1 from by omega]
        rfl
      have HSM := Lib.hid hsm
      clear hd hbm hsm h8 hk
      generalize unwH m = H at *
      obtain ⟨q0, q1, q2, q3, q4, q5, q6, q7, q8⟩ := H
      obtain ⟨n8, hn8⟩ : ∃ n, q8.length = n := ⟨_, rfl⟩
      go_wp2_with fail
      refine HU.out.mono ?_
      rintro e w1 ⟨v1, vo, rfl, hp, ho, hs1⟩
      have HP1 := Lib.hid hp
      have HS1 := Lib.hid hs1
      obtain ⟨a1, k1, rfl⟩ := ho.form0 hn8
      clear hs1 ho hp hn8
      by_cases h0 : unwE m = 0
      · have HD2 := HD.out
        rw [if_pos h0] at HD2
        have HD3 := Lib.hid HD2
        have HE := Lib.hid h0
        rw [h0]
        clear HD2 h0 HD
        go_wp2_with fail
        exact ⟨⟨k + 1, unwB m, by omega, rfl, HP1.out.same (Same.alloc _ _), HSM.out.trans (HS1.out.trans (Same.alloc _ _)), by have := HD3.out; omega⟩, by simp [intOf]; omega⟩
      · have HD2 := HD.out
        rw [if_neg h0] at HD2
        have HD3 := Lib.hid HD2
        have hE : (unwE m != 0) = true := by simpa using h0
        clear HD2 h0 HD
        generalize unwE m = E at *
        go_wp2_with fail
        go_ret
        exact ⟨by rw [← HD3.out]; rfl, HSM.out.trans (HS1.out.trans (Same.alloc _ _))⟩
end Go.Proofs.Yteoleblnhcnpkaa
