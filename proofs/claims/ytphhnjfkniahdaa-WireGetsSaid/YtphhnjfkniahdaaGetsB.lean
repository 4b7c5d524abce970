/- The walks of the law's get, continued. No condition beyond what each names. -/
import Derived.Test.YtphhnjfkniahdaaGetsA
import Derived.Deep.DeepCutAuto
namespace Go.Proofs.Ytphhnjfkniahdaa
open Go.RowKit
set_option linter.unusedVariables false

set_option maxHeartbeats 3200000 in
theorem get_Rest (n : Int) (s t B : Nat) (l : List UInt8) (a : Nat) (er : Int) (w : World) (h : Both B w s t l a er) (hl : l.length ≤ 140737488355328) :
    Calls Try.prog 17 #[.pointer (some ⟨s, 0, none⟩), .pointer (some ⟨t, 0, none⟩), .agg #[.int .i64 4, .int .i64 n]] w fun e w' => e = .returned (.bool true) ∧ Below B w w' ∧ Both B w' s t l (if er = 0 then l.length else a) er := by
  have hsm0 := Same.alloc w (.cells #[.int .i64 4, .int .i64 n] 42)
  have hsm := Lib.hid (Same.drew hsm0)
  obtain ⟨⟨v, h1, h2⟩, ⟨v', h3, h4⟩, h5, h6, h7, h8⟩ := h.same hsm.out
  have hlt : t < w.heap.size := (h.ref.choose_spec.1).src.lt
  have HU := Lib.hid (Rest_made s v l a er _ h1 hl)
  have HR : Hid (∀ w1, Mod s (w.alloc (.cells #[.int .i64 4, .int .i64 n] 42)).drew w1 → Calls Try.prog 38 #[.pointer (some ⟨t, 0, none⟩)] w1 _) := fun w1 hm => rRest_any t v' l a er w1 (h3.other hm (Ne.symm h5) h4) hl
  have HB := h.leB
  clear h1 h3 h hsm0
  generalize restOf l a er = q at *
  generalize (if er = 0 then l.length else a) = at2 at *
  go_enter Try.func17, Try.ntmps17
  go_wp2_with fail
  go_region_with (first
      | (go_at_call 27; refine HU.out.mono ?_; rintro e w1 ⟨x1, rfl, ho1, hm1, hs1⟩; have hstr1 := run_str w1 x1 _ ho1.bs; have HM1 := Lib.hid hm1; have HS1 := Lib.hid hs1; have HO1 := Lib.hid ho1; clear hm1 hs1 ho1)
      | (go_at_call 38; refine (HR.out w1 HM1.out).mono ?_; rintro e w2 ⟨x2, rfl, ho2, hm2, hs2⟩; have hstr2 := run_str w2 x2 _ ho2.bs; have hstr3 := run_str w2 x1 _ (HO1.out.bs.mod hm2 (by intro he; have := (HO1.out.lt _ he).1; simp at this; omega)); have HM2 := Lib.hid hm2; have HS2 := Lib.hid hs2; clear hm2 hs2 ho2))
  all_goals (go_wp2_with fail; go_ret; refine ⟨rfl, ((hsm.out.below HB).trans (HM1.out.below h6 h8)).trans (HM2.out.below h7 (Nat.le_trans h8 HM1.out.size)), ⟨⟨v, HS1.out.other HM2.out h5 h2, h2⟩, ⟨v', HS2.out, h4⟩, h5, h6, h7, Nat.le_trans h8 (Nat.le_trans HM1.out.size HM2.out.size)⟩⟩)

/-- what a Sub leaves: two new sources of the same bytes, beside the two -/
def SubPost (B : Nat) (w : World) (s t : Nat) (l q : List UInt8) (a : Nat) (er : Int) (x y : Value) (w' : World) : Prop :=
  ∃ t1 t2 v1 v2, x = .pointer (some ⟨t1, 0, none⟩) ∧ y = .pointer (some ⟨t2, 0, none⟩) ∧ SrcB w' t1 v1 q 0 0 ∧ RSrcB w' t2 v2 q 0 0 ∧ t1 ≠ t2 ∧ t1 ≠ s ∧ t1 ≠ t ∧ t2 ≠ s ∧ t2 ≠ t ∧ B ≤ t1 ∧ B ≤ t2 ∧ v1.ownBlock ≠ some t2 ∧ v2.ownBlock ≠ some t1 ∧
    (∃ v, SrcB w' s v l a er ∧ v.ownBlock ≠ some t ∧ v.ownBlock ≠ some t1 ∧ v.ownBlock ≠ some t2) ∧ (∃ v, RSrcB w' t v l a er ∧ v.ownBlock ≠ some s ∧ v.ownBlock ≠ some t1 ∧ v.ownBlock ≠ some t2) ∧ Below B w w' ∧ s ≠ t ∧ B ≤ s ∧ B ≤ t ∧ B ≤ w'.heap.size

theorem sub_post {B : Nat} {w W w1 w2 : World} {s t t1 t2 : Nat} {l q : List UInt8} {at2 : Nat} {er2 : Int} {v v' v1 v2 : Value} (hsm : Same w W) (hB : B ≤ w.heap.size) (hls : s < W.heap.size) (hlt : t < W.heap.size)
    (h2 : v.ownBlock ≠ some t) (h4 : v'.ownBlock ≠ some s) (h5 : s ≠ t) (h6 : B ≤ s) (h7 : B ≤ t) (HV : ∀ g, v.ownBlock = some g → g < W.heap.size) (HV' : ∀ g, v'.ownBlock = some g → g < W.heap.size)
    (HT1 : W.heap.size ≤ t1) (HM1 : Mod s W w1) (HS1 : SrcB w1 s v l at2 er2) (HO1 : SrcB w1 t1 v1 q 0 0) (HV1 : ∀ g, v1.ownBlock = some g → v.ownBlock = some g)
    (HT2 : w1.heap.size ≤ t2) (HM2 : Mod t w1 w2) (HS2 : RSrcB w2 t v' l at2 er2) (HO2 : RSrcB w2 t2 v2 q 0 0) (HF2 : ∀ g, v2.ownBlock = some g → w1.heap.size ≤ g) :
    SubPost B w s t l q at2 er2 (.pointer (some ⟨t1, 0, none⟩)) (.pointer (some ⟨t2, 0, none⟩)) w2 := by
  have hz := HM1.size
  have hz2 := HM2.size
  have hz0 := hsm.size
  have ht1 := HO1.src.lt
  refine ⟨t1, t2, v1, v2, rfl, rfl, HO1.other HM2 (by omega) (fun he => h2 (HV1 _ he)), HO2, by omega, by omega, by omega, by omega, by omega, by omega, by omega, fun he => ?_, fun he => ?_, ⟨v, HS1.other HM2 h5 h2, h2, fun he => ?_, fun he => ?_⟩, ⟨v', HS2, h4, fun he => ?_, fun he => ?_⟩, ?_, h5, h6, h7, by omega⟩
  · have := HV _ (HV1 _ he); omega
  · have := HF2 _ he; omega
  · have := HV _ he; omega
  · have := HV _ he; omega
  · have := HV' _ he; omega
  · have := HV' _ he; omega
  · exact ((hsm.below hB).trans (HM1.below h6 (by omega))).trans (HM2.below h7 (by omega))

theorem sub_end {B : Nat} {w W w1 w2 w3 : World} {s t t1 t2 : Nat} {l : List UInt8} {at2 : Nat} {er2 : Int} {y1 y2 : Value} (h : Below B w W) (hB : B ≤ W.heap.size) (b1 : B ≤ t1) (b2 : B ≤ t2) (HM1 : Mod t1 W w1) (HM2 : Mod t2 w1 w2) (HS3 : Same w2 w3)
    (Z1 : SrcB W s y1 l at2 er2) (Z5 : RSrcB W t y2 l at2 er2) (z2 : y1.ownBlock ≠ some t) (z3 : y1.ownBlock ≠ some t1) (z4 : y1.ownBlock ≠ some t2) (z6 : y2.ownBlock ≠ some s) (z7 : y2.ownBlock ≠ some t1) (z8 : y2.ownBlock ≠ some t2)
    (n1 : s ≠ t1) (n2 : s ≠ t2) (n3 : t ≠ t1) (n4 : t ≠ t2) (n0 : s ≠ t) (hbs : B ≤ s) (hbt : B ≤ t) {e : Ending} (he : e = .returned (.bool true)) :
    e = .returned (.bool true) ∧ Below B w w3 ∧ Both B w3 s t l at2 er2 := by
  have z1 := HM1.size
  have zz2 := HM2.size
  have zz3 := HS3.size
  exact ⟨he, ((h.trans (HM1.below b1 hB)).trans (HM2.below b2 (by omega))).trans (HS3.below (by omega)), ⟨⟨y1, ((Z1.other HM1 n1 z3).other HM2 n2 z4).same HS3, z2⟩, ⟨y2, ((Z5.other HM1 n3 z7).other HM2 n4 z8).same HS3, z6⟩, n0, hbs, hbt, by omega⟩⟩

set_option maxHeartbeats 3200000 in
theorem get_Sub (k n : Int) (k0 : (k == 0) = false) (k1 : (k == 1) = false) (k2 : (k == 2) = false) (k3 : (k == 3) = false) (k4 : (k == 4) = false)
    (s t B : Nat) (l : List UInt8) (a : Nat) (er : Int) (w : World) (h : Both B w s t l a er) (hl : l.length ≤ 140737488355328) :
    Calls Try.prog 17 #[.pointer (some ⟨s, 0, none⟩), .pointer (some ⟨t, 0, none⟩), .agg #[.int .i64 k, .int .i64 n]] w fun e w' => e = .returned (.bool true) ∧ Below B w w' ∧ Both B w' s t l (stepAt l a er n) (stepErr l a er n) := by
  have hsm0 := Same.alloc w (.cells #[.int .i64 k, .int .i64 n] 42)
  have hsm := Lib.hid (Same.drew hsm0)
  obtain ⟨⟨v, h1, h2⟩, ⟨v', h3, h4⟩, h5, h6, h7, h8⟩ := h.same hsm.out
  have hls : s < w.heap.size := (h.src.choose_spec.1).src.lt
  have hlt : t < w.heap.size := (h.ref.choose_spec.1).src.lt
  have HU := Lib.hid (Sub_made s v l a er n _ h1)
  have HR : Hid (∀ w1, Mod s (w.alloc (.cells #[.int .i64 k, .int .i64 n] 42)).drew w1 → Calls Try.prog 39 #[.pointer (some ⟨t, 0, none⟩), .int .i64 n] w1 _) := fun w1 hm => rSub_any t v' l a er n w1 (h3.other hm (Ne.symm h5) h4) hl
  have HB := h.leB
  have HC : Hid ((w.alloc (.cells #[.int .i64 k, .int .i64 n] 42)).drew.cell? ⟨w.heap.size, 1, none⟩ = some (.int .i64 n)) := by show _ = _; simp
  have HN1 : w.heap.size ≠ s := by omega
  have HN2 : w.heap.size ≠ t := by omega
  have HV := Lib.hid h1.lt
  have HV' := Lib.hid h3.lt
  have hql : Hid ((listOut (stepOut l a er n)).length ≤ 140737488355328) := by
    show _ ≤ _
    unfold stepOut
    split
    · simp only [listOut, List.length_take, List.length_drop]; omega
    · simp [listOut]
  clear h1 h3 h hsm0
  generalize listOut (stepOut l a er n) = q at *
  generalize hat : stepAt l a er n = at2 at *
  generalize her : stepErr l a er n = er2 at *
  clear hat her
  go_enter Try.func17, Try.ntmps17
  go_upto_region 12 with fail
  go_cut [7, 8] (fun s7 s8 wx => SubPost B w s t l q at2 er2 s7 s8 wx)
  case first =>
    have c0 := HC.out
    go_region_with (first
      | (go_at_call 29; refine HU.out.mono ?_; rintro e w1 ⟨t1, v1, rfl, ht1, ho1, hm1, hs1, hv1⟩; have HV1 := Lib.hid hv1; have HT1 := Lib.hid ht1; have HM1 := Lib.hid hm1; have HS1 := Lib.hid hs1; have HO1 := Lib.hid ho1; have c1 := cell_mod hm1 HN1 c0; clear hm1 hs1 ho1 ht1 hv1)
      | (go_at_call 39; refine (HR.out w1 HM1.out).mono ?_; rintro e w2 ⟨t2, v2, rfl, ht2, ho2, hm2, hs2, hf2⟩; have HT2 := Lib.hid ht2; have HF2 := Lib.hid hf2; have HM2 := Lib.hid hm2; have HS2 := Lib.hid hs2; have HO2 := Lib.hid ho2; clear hm2 hs2 ho2 ht2 hf2))
    all_goals (go_wp2_with fail; go_meet; exact sub_post hsm.out HB (Nat.lt_of_lt_of_le hls hsm.out.size) (Nat.lt_of_lt_of_le hlt hsm.out.size) h2 h4 h5 h6 h7 HV.out HV'.out HT1.out HM1.out HS1.out HO1.out HV1.out HT2.out HM2.out HS2.out HO2.out HF2.out)
  case rest =>
    obtain ⟨t1, t2, v1, v2, rfl, rfl, o1, o2, n12, n1s, n1t, n2s, n2t, b1, b2, p1, p2, ⟨y1, z1, z2, z3, z4⟩, ⟨y2, z5, z6, z7, z8⟩, hbl, n0, hbs, hbt, hbw⟩ := hcut
    have hd := (Same.refl wc).drew
    have hu := Rest_made t1 v1 q 0 0 wc.drew (o1.same hd) hql.out
    have hend : Hid (endOf q q.length 0 = 0) := if_neg (by omega)
    have hr : ∀ w1, Mod t1 wc.drew w1 → Calls Try.prog 38 #[.pointer (some ⟨t2, 0, none⟩)] w1 _ := fun w1 hm => rRest_any t2 v2 q 0 0 w1 ((o2.same hd).other hm (Ne.symm n12) p2) hql.out
    rw [if_pos rfl, show restOf q 0 0 = q from by rw [restOf, if_pos rfl]; simp] at hu
    simp only [if_pos, show restOf q 0 0 = q from by rw [restOf, if_pos rfl]; simp] at hr
    have HU1 := Lib.hid hu
    have HR1 := Lib.hid hr
    have Z1 := Lib.hid (z1.same hd)
    have Z5 := Lib.hid (z5.same hd)
    have HBL := Lib.hid hbl.drew
    have hlt2 : t2 < wc.drew.heap.size := (o2.same hd).src.lt
    clear hu hr z1 z5 hbl o1 o2 HU HR
    go_wp2_with fail
    go_region_with (first
      | (go_at_call 27; refine HU1.out.mono ?_; rintro e w1 ⟨x1, rfl, ho1, hm1, hs1⟩; have hstr1 := run_str w1 x1 _ ho1.bs; have HM1 := Lib.hid hm1; have HS1 := Lib.hid hs1; have HO1 := Lib.hid ho1; clear hm1 hs1 ho1)
      | (go_at_call 38; refine (HR1.out w1 HM1.out).mono ?_; rintro e w2 ⟨x2, rfl, ho2, hm2, hs2⟩; have hstr2 := run_str w2 x2 _ ho2.bs; have hstr3 := run_str w2 x1 _ (HO1.out.bs.mod hm2 (by intro he; have := (HO1.out.lt _ he).1; omega)); have HM2 := Lib.hid hm2; have HS2 := Lib.hid (HS1.out.other hm2 n12 p1); clear hm2 hs2 ho2)
      | (go_at_call 22; go_must (have hq := End_made t1 v1 q q.length 0 w2 HS2.out; rw [hend.out] at hq; refine hq.mono ?_; clear hq; rintro e w3 ⟨rfl, hs3⟩; have HS3 := Lib.hid hs3; clear hs3)))
    all_goals (go_wp2_with fail; go_ret; exact sub_end HBL.out hbw b1 b2 HM1.out HM2.out HS3.out Z1.out Z5.out z2 z3 z4 z6 z7 z8 (Ne.symm n1s) (Ne.symm n2s) (Ne.symm n1t) (Ne.symm n2t) n0 hbs hbt rfl)

end Go.Proofs.Ytphhnjfkniahdaa
