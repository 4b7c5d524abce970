/- Contracts of layer 5: the flow of a packet, the developers' and the document's. No condition beyond what each names. -/
import Derived.Test.YtcemdajkddidnaaGreatDoorQPoP
import Derived.Test.YtcemdajkddidnaaGreatDoorQIpDG
import Derived.Test.YtcemdajkddidnaaGreatDoorQIpRF
import Derived.Test.YtcemdajkddidnaaGreatDoorQCells
namespace Go.Proofs.YtcemdajkddidnaaGreatDoor
open Go.RowKit
set_option linter.unusedVariables false

/-- the cells of a segment in memory -/
def SgAt (w : World) (B : Nat) (g : Sg) : Prop :=
  w.cell? ⟨B, 0, none⟩ = some (.int .i64 g.flow.proto) ∧ w.cell? ⟨B, 1, none⟩ = some (.int .u32 g.flow.src) ∧ w.cell? ⟨B, 2, none⟩ = some (.int .u32 g.flow.dst) ∧ w.cell? ⟨B, 3, none⟩ = some (.int .i64 g.flow.sport) ∧ w.cell? ⟨B, 4, none⟩ = some (.int .i64 g.flow.dport) ∧
  w.cell? ⟨B, 5, none⟩ = some (.int .i64 g.flags) ∧ w.cell? ⟨B, 6, none⟩ = some (.int .i64 g.size)
theorem SgAt.of {w : World} {B : Nat} {t : TypeId} {g : Sg} (hk : w.heap[B]? = some (sgO t g)) : SgAt w B g := by
  refine ⟨?_, ?_, ?_, ?_, ?_, ?_, ?_⟩ <;> simp [World.cell?, hk]
theorem sg_box (t : TypeId) (g : Sg) (w w' : World) (hs : Same (w.alloc (sgO t g)) w') : SgAt w' w.heap.size g := SgAt.of (hs.block (heap_alloc_new w _))
abbrev sgL (g : Sg) : List Value := [.int .i64 g.flow.proto, .int .u32 g.flow.src, .int .u32 g.flow.dst, .int .i64 g.flow.sport, .int .i64 g.flow.dport, .int .i64 g.flags, .int .i64 g.size]
theorem sg_set (t : TypeId) (u : World) (R : Nat) (g0 g : Sg) (hk : u.heap[R]? = some (sgO t g0)) : Mod R u (setsL R u 0 (sgL g)) ∧ (setsL R u 0 (sgL g)).heap[R]? = some (sgO t g) :=
  sets_all R t (sgL g) (sgL g0) u hk rfl

theorem i64_and1 (n : Int) : bits .and .i64 n 1 = n % 2 := by
  have h16 : (BitVec.ofInt 64 1).toNat = 2 ^ 1 - 1 := by decide
  have key : (BitVec.ofInt 64 n &&& BitVec.ofInt 64 1).toNat = (n % ((2 ^ 64 : Nat) : Int)).toNat % 2 ^ 1 := by
    rw [BitVec.toNat_and, BitVec.toNat_ofInt, h16, Nat.and_two_pow_sub_one_eq_mod]
  show IntKind.i64.wrap ((BitVec.ofInt 64 n &&& BitVec.ofInt 64 1).toNat : Nat) = n % 2
  rw [key, IntKind.wrap_i64]
  omega

/-- the first that is wrong -/
def ofE2 (E : Int) (h : Hd) (p : List UInt8) : Int := if E ≠ 0 then E else if 0 < h.frag ∨ h.flags % 2 = 1 then 8 else if pE h.proto p = 2 then 7 else pE h.proto p
theorem of_cases (E : Int) (h : Hd) (p : List UInt8) : (E ≠ 0 ∧ ofE2 E h p = E) ∨ (E = 0 ∧ 0 < h.frag ∧ ofE2 E h p = 8) ∨ (E = 0 ∧ ¬ 0 < h.frag ∧ h.flags % 2 = 1 ∧ ofE2 E h p = 8) ∨
    (E = 0 ∧ ¬ 0 < h.frag ∧ ¬ h.flags % 2 = 1 ∧ pE h.proto p = 2 ∧ ofE2 E h p = 7) ∨ (E = 0 ∧ ¬ 0 < h.frag ∧ ¬ h.flags % 2 = 1 ∧ pE h.proto p ≠ 2 ∧ pE h.proto p ≠ 0 ∧ ofE2 E h p = pE h.proto p) ∨
    (E = 0 ∧ ¬ 0 < h.frag ∧ ¬ h.flags % 2 = 1 ∧ pE h.proto p = 0 ∧ ofE2 E h p = 0) := by
  unfold ofE2
  by_cases h1 : E ≠ 0
  · rw [if_pos h1]; exact .inl ⟨h1, rfl⟩
  · rw [if_neg h1]
    have h1 : E = 0 := by simpa using h1
    by_cases h2 : 0 < h.frag
    · rw [if_pos (.inl h2)]; exact .inr (.inl ⟨h1, h2, rfl⟩)
    · by_cases h3 : h.flags % 2 = 1
      · rw [if_pos (.inr h3)]; exact .inr (.inr (.inl ⟨h1, h2, h3, rfl⟩))
      · rw [if_neg (by simp [h2, h3])]
        by_cases h4 : pE h.proto p = 2
        · rw [if_pos h4]; exact .inr (.inr (.inr (.inl ⟨h1, h2, h3, h4, rfl⟩)))
        · rw [if_neg h4]
          by_cases h5 : pE h.proto p = 0
          · exact .inr (.inr (.inr (.inr (.inr ⟨h1, h2, h3, h5, h5⟩))))
          · exact .inr (.inr (.inr (.inr (.inl ⟨h1, h2, h3, h4, h5, rfl⟩))))

set_option maxRecDepth 100000 in
set_option maxHeartbeats 2000000 in
theorem poOf_any (v : Value) (l : List UInt8) (w : World) (hb : Bs w v l) :
    Calls Tryz.prog 17 #[v] w fun e w' => e = .returned (ofV l) ∧ Same w w' := by
  have HP := fun w hb => Lib.hid (ipParse_any v l w hb)
  have HB := Lib.hid hb
  have hpl : (parseP l).length ≤ 9000 := by
    by_cases h0 : parseE l = 0
    · exact (headP_ok h0).2.2.2.2.2
    · rw [parseP, if_neg h0]; simp
  rw [show ofV l = .tuple #[sgV (if ofE2 (parseE l) (parseH l) (parseP l) = 0 then flowOf (parseH l) (parseP l) else zeroG), .int .i64 (ofE2 (parseE l) (parseH l) (parseP l))] from rfl]
  have hfl : 0 ≤ (parseH l).flags := by
    by_cases h0 : parseE l = 0
    · rw [parseH, if_pos h0]; simp only [readH]; omega
    · rw [parseH, if_neg h0]; exact Int.le_refl _
  generalize parseE l = E at *
  generalize parseP l = p at *
  generalize parseH l = H at *
  have hcs := of_cases E H p
  obtain ⟨oe, hoe⟩ : ∃ oe, oe = ofE2 E H p := ⟨_, rfl⟩
  obtain ⟨og, hog⟩ : ∃ og, og = if ofE2 E H p = 0 then flowOf H p else zeroG := ⟨_, rfl⟩
  rw [← hog, ← hoe]
  rw [← hoe] at hcs hog
  rw [show flowOf H p = ⟨⟨H.proto, H.src, H.dst, pS H.proto p, pD H.proto p⟩, pG H.proto p, p.length⟩ from rfl] at hog
  have HQ := fun vp w hb => Lib.hid (poParse_any H.proto vp p w hb (by omega))
  have z1 := i64_and1 H.flags
  obtain ⟨q0, q1, q2, q3, q4, q5, q6, q7, q8⟩ := H
  simp only at hcs HQ z1 hog hfl
  obtain ⟨n8, hn8⟩ : ∃ n, q8.length = n := ⟨_, rfl⟩
  have HN8 := Lib.hid hn8
  obtain ⟨np, hnp⟩ : ∃ n, p.length = n := ⟨_, rfl⟩
  rw [hnp] at hog
  have HOG := Lib.hid hog
  have HNP := Lib.hid hnp
  obtain ⟨ao, cap, rfl, -, -, -, -⟩ := hb
  have HA0 := Lib.hid (Same.alloc w (sgO 35 zeroG))
  have HK0 := Lib.hid (heap_alloc_new w (sgO 35 zeroG))
  obtain ⟨W0, hW⟩ : ∃ W0, W0 = w.alloc (sgO 35 zeroG) := ⟨_, rfl⟩
  rw [← hW] at HA0 HK0
  have HW := Lib.hid hW
  clear hW
  go_enter Tryz.func17, Tryz.ntmps17
  go_wp2_with fail
  refine (HP _ (by have := HB.out.same HA0.out; rw [HW.out] at this; exact this)).out.mono ?_
  rintro e w1 ⟨vo1, vp1, rfl, ho1, hp1, hs1⟩
  have HP1 := Lib.hid hp1
  have HS1 : Hid (Same W0 w1) := by rw [HW.out]; exact hs1
  obtain ⟨a1, c1, hv1, -, -, -, -⟩ := ho1.bs
  rw [HN8.out] at hv1
  subst hv1
  obtain ⟨b1, e1, hv2, -, -, -, -⟩ := hp1.bs
  rw [HNP.out] at hv2
  subst hv2
  clear ho1 hp1 hs1 hoe hog hnp hn8
  have HA1 := Lib.hid (Same.alloc w1 (hdO 56 ⟨q0, q1, q2, q3, q4, q5, q6, q7, q8⟩ (.slice a1 n8 c1)))
  have HK1 := Lib.hid (heap_alloc_new w1 (hdO 56 ⟨q0, q1, q2, q3, q4, q5, q6, q7, q8⟩ (.slice a1 n8 c1)))
  have HKw := Lib.hid ((HS1.out.trans HA1.out).block HK0.out)
  have HSw := Lib.hid (HA0.out.trans (HS1.out.trans HA1.out))
  have HPb := Lib.hid (HP1.out.bs.same HA1.out)
  obtain ⟨d0, d1, d2, d3, d4, d5, d6, d7, d8⟩ := HdAt.of HK1.out
  obtain ⟨k0, k1, k2, k3, k4, k5, k6⟩ := SgAt.of HKw.out
  have f0 := not_frozen HKw.out
  have HEND : Hid (∀ (u : World) (g : Sg) (e : Int), Same (w1.alloc (hdO 56 ⟨q0, q1, q2, q3, q4, q5, q6, q7, q8⟩ (.slice a1 n8 c1))) u → (setsL w.heap.size u 0 (sgL g)).heap[w.heap.size]? = some (sgO 35 g) ∧ Same w (setsL w.heap.size u 0 (sgL g))) := by
    intro u g e hu
    have := sg_set 35 u w.heap.size zeroG g (hu.block HKw.out)
    exact ⟨this.2, Below.trans (HSw.out.trans hu) (this.1.below (Nat.le_refl _) (HSw.out.trans hu).size)⟩
  rcases hcs with ⟨g1, g2⟩ | ⟨rfl, g1, g2⟩ | ⟨rfl, g0, g1, g2⟩ | ⟨rfl, g0, g1, g3, g2⟩ | ⟨rfl, g0, g1, g3, g4, g2⟩ | ⟨rfl, g0, g1, g3, g2⟩
  · have hE : (E != 0) = true := by simpa using g1
    have HG : Hid (og = zeroG ∧ oe = E) := ⟨by rw [HOG.out, if_neg (by rw [g2]; exact g1)], g2⟩
    clear g1 g2
    go_wp2_with fail
    have HE := HEND.out (w1.alloc (hdO 56 ⟨q0, q1, q2, q3, q4, q5, q6, q7, q8⟩ (.slice a1 n8 c1))) zeroG E (Same.refl _)
    dsimp only [setsL, sgL, zeroG, zeroF, Nat.reduceAdd] at HE
    generalize World.setCell _ ⟨w.heap.size, 6, none⟩ _ = U at HE ⊢
    obtain ⟨x0, x1, x2, x3, x4, x5, x6⟩ := SgAt.of HE.1
    refine bodyPost_ret (v := .tuple #[sgV zeroG, .int .i64 E]) ?_ rfl ⟨by rw [HG.out.1, HG.out.2], HE.2⟩
    simp [results, Tryz.results17, go_sem, x0, x1, x2, x3, x4, x5, x6, zeroG, zeroF]
  · have HG : Hid (og = zeroG ∧ oe = 8) := ⟨by rw [HOG.out, if_neg (by rw [g2]; decide)], g2⟩
    clear g2
    go_wp2_with fail
    have HE := HEND.out (w1.alloc (hdO 56 ⟨q0, q1, q2, q3, q4, q5, q6, q7, q8⟩ (.slice a1 n8 c1))) zeroG 8 (Same.refl _)
    dsimp only [setsL, sgL, zeroG, zeroF, Nat.reduceAdd] at HE
    generalize World.setCell _ ⟨w.heap.size, 6, none⟩ _ = U at HE ⊢
    obtain ⟨x0, x1, x2, x3, x4, x5, x6⟩ := SgAt.of HE.1
    refine bodyPost_ret (v := .tuple #[sgV zeroG, .int .i64 8]) ?_ rfl ⟨by rw [HG.out.1, HG.out.2], HE.2⟩
    simp [results, Tryz.results17, go_sem, x0, x1, x2, x3, x4, x5, x6, zeroG, zeroF]
  · have HG : Hid (og = zeroG ∧ oe = 8) := ⟨by rw [HOG.out, if_neg (by rw [g2]; decide)], g2⟩
    clear g2
    go_wp2_with fail
    have HE := HEND.out (w1.alloc (hdO 56 ⟨q0, q1, q2, q3, q4, q5, q6, q7, q8⟩ (.slice a1 n8 c1))) zeroG 8 (Same.refl _)
    dsimp only [setsL, sgL, zeroG, zeroF, Nat.reduceAdd] at HE
    generalize World.setCell _ ⟨w.heap.size, 6, none⟩ _ = U at HE ⊢
    obtain ⟨x0, x1, x2, x3, x4, x5, x6⟩ := SgAt.of HE.1
    refine bodyPost_ret (v := .tuple #[sgV zeroG, .int .i64 8]) ?_ rfl ⟨by rw [HG.out.1, HG.out.2], HE.2⟩
    simp [results, Tryz.results17, go_sem, x0, x1, x2, x3, x4, x5, x6, zeroG, zeroF]
  · have HG : Hid (og = zeroG ∧ oe = 7) := ⟨by rw [HOG.out, if_neg (by rw [g2]; decide)], g2⟩
    have hz : ¬ (q2 % 2 = 1) := g1
    have hz0 : q2 % 2 = 0 := by omega
    rw [ptV_bad g3 (by decide)] at HQ
    clear g2 g3
    go_wp2_with fail
    refine (HQ _ _ HPb.out).out.mono ?_
    rintro e w2 ⟨rfl, hs2⟩
    have HS2 := Lib.hid hs2
    have HKw2 := Lib.hid (hs2.block HKw.out)
    have HK2 := Lib.hid (hs2.block HK1.out)
    clear hs2 d0 d1 d2 d3 d4 d5 d6 d7 d8 k0 k1 k2 k3 k4 k5 k6 f0
    obtain ⟨d0, d1, d2, d3, d4, d5, d6, d7, d8⟩ := HdAt.of HK2.out
    obtain ⟨k0, k1, k2, k3, k4, k5, k6⟩ := SgAt.of HKw2.out
    have f0 := not_frozen HKw2.out
    go_wp2_with fail
    have HE := HEND.out w2 zeroG 7 HS2.out
    dsimp only [setsL, sgL, zeroG, zeroF, Nat.reduceAdd] at HE
    generalize World.setCell _ ⟨w.heap.size, 6, none⟩ _ = U at HE ⊢
    obtain ⟨x0, x1, x2, x3, x4, x5, x6⟩ := SgAt.of HE.1
    refine bodyPost_ret (v := .tuple #[sgV zeroG, .int .i64 7]) ?_ rfl ⟨by rw [HG.out.1, HG.out.2], HE.2⟩
    simp [results, Tryz.results17, go_sem, x0, x1, x2, x3, x4, x5, x6, zeroG, zeroF]
  · have HG : Hid (og = zeroG ∧ oe = pE q5 p) := ⟨by rw [HOG.out, if_neg (by rw [g2]; exact g4)], g2⟩
    have hz : ¬ (q2 % 2 = 1) := g1
    have hz0 : q2 % 2 = 0 := by omega
    rw [ptV_bad rfl g4] at HQ
    have y2 : (pE q5 p == 2) = false := by simpa using g3
    have y0 : (pE q5 p != 0) = true := by simpa using g4
    clear g2 g3 g4 hpl
    generalize pE q5 p = E at *
    go_wp2_with fail
    refine (HQ _ _ HPb.out).out.mono ?_
    rintro e w2 ⟨rfl, hs2⟩
    have HS2 := Lib.hid hs2
    have HKw2 := Lib.hid (hs2.block HKw.out)
    have HK2 := Lib.hid (hs2.block HK1.out)
    clear hs2 d0 d1 d2 d3 d4 d5 d6 d7 d8 k0 k1 k2 k3 k4 k5 k6 f0
    obtain ⟨d0, d1, d2, d3, d4, d5, d6, d7, d8⟩ := HdAt.of HK2.out
    obtain ⟨k0, k1, k2, k3, k4, k5, k6⟩ := SgAt.of HKw2.out
    have f0 := not_frozen HKw2.out
    go_wp2_with fail
    have HE := HEND.out w2 zeroG E HS2.out
    dsimp only [setsL, sgL, zeroG, zeroF, Nat.reduceAdd] at HE
    generalize World.setCell _ ⟨w.heap.size, 6, none⟩ _ = U at HE ⊢
    obtain ⟨x0, x1, x2, x3, x4, x5, x6⟩ := SgAt.of HE.1
    refine bodyPost_ret (v := .tuple #[sgV zeroG, .int .i64 E]) ?_ rfl ⟨by rw [HG.out.1, HG.out.2], HE.2⟩
    simp [results, Tryz.results17, go_sem, x0, x1, x2, x3, x4, x5, x6, zeroG, zeroF]
  · have HG : Hid (og = ⟨⟨q5, q6, q7, pS q5 p, pD q5 p⟩, pG q5 p, np⟩ ∧ oe = 0) := ⟨by rw [HOG.out, if_pos g2], g2⟩
    have hz : ¬ (q2 % 2 = 1) := g1
    have hz0 : q2 % 2 = 0 := by omega
    unfold ptV at HQ
    rw [g3] at HQ
    clear g2 g3 hpl HOG
    generalize pS q5 p = sp at *
    generalize pD q5 p = dp at *
    generalize pG q5 p = gp at *
    go_wp2_with fail
    refine (HQ _ _ HPb.out).out.mono ?_
    rintro e w2 ⟨rfl, hs2⟩
    have HS2 := Lib.hid hs2
    have HKw2 := Lib.hid (hs2.block HKw.out)
    have HK2 := Lib.hid (hs2.block HK1.out)
    clear hs2 d0 d1 d2 d3 d4 d5 d6 d7 d8 k0 k1 k2 k3 k4 k5 k6 f0
    obtain ⟨d0, d1, d2, d3, d4, d5, d6, d7, d8⟩ := HdAt.of HK2.out
    obtain ⟨k0, k1, k2, k3, k4, k5, k6⟩ := SgAt.of HKw2.out
    have f0 := not_frozen HKw2.out
    have HA2 := Lib.hid (Same.alloc w2 (flO 24 ⟨q5, q6, q7, sp, dp⟩))
    obtain ⟨j0, j1, j2, j3, j4, j5, j6⟩ := SgAt.of (HA2.out.block HKw2.out)
    have f1 := not_frozen (HA2.out.block HKw2.out)
    obtain ⟨i0, i1, i2, i3, i4⟩ := FlAt.of (heap_alloc_new w2 (flO 24 ⟨q5, q6, q7, sp, dp⟩))
    go_wp2_with fail
    have HE := HEND.out (w2.alloc (flO 24 ⟨q5, q6, q7, sp, dp⟩)) ⟨⟨q5, q6, q7, sp, dp⟩, gp, np⟩ 0 (HS2.out.trans HA2.out)
    dsimp only [setsL, sgL, Nat.reduceAdd] at HE
    generalize World.setCell _ ⟨w.heap.size, 6, none⟩ _ = U at HE ⊢
    obtain ⟨x0, x1, x2, x3, x4, x5, x6⟩ := SgAt.of HE.1
    refine bodyPost_ret (v := .tuple #[sgV ⟨⟨q5, q6, q7, sp, dp⟩, gp, np⟩, .int .i64 0]) ?_ rfl ⟨by rw [HG.out.1, HG.out.2], HE.2⟩
    simp [results, Tryz.results17, go_sem, x0, x1, x2, x3, x4, x5, x6]

end Go.Proofs.YtcemdajkddidnaaGreatDoor
