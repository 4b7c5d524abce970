/- Contract of the document's own Parse of layer 8. No condition beyond what it names. -/
import Derived.Test.YtidijoncngfppaaOpRB
import Derived.Test.YtidijoncngfppaaOpRPlo
import Derived.Test.YtidijoncngfppaaOpDP
namespace Go.Proofs.Ytidijoncngfppaa
open Go.RowKit
set_option linter.unusedVariables false
set_option maxRecDepth 100000

set_option maxHeartbeats 8000000 in
theorem rParse8_hi (v : Value) (l : List UInt8) (asn : Int) (w : World) (hb : Bs w v l) (hl : (l.length : Int) ≤ 1000000) (s1 : 1 ≤ asn) :
    Calls Try.prog 19 #[v, .int .i64 asn] w fun e w' => ∃ vc vd, e = .returned (.tuple #[oqV (parseO l asn).1 vc, ftV (parseO l asn).2 vd]) ∧ CapsW 55 w' vc (parseO l asn).1.caps ∧ Bs w' vd (parseO l asn).2.data ∧ Same w w' := by
  have HB := Lib.hid hb
  have HS1 := Lib.hid s1
  have hbG : decide (1 ≤ asn) = true := by rw [decide_eq_true s1]
  clear s1
  have HRd := fun w hb => Lib.hid (rRead_any v l w hb (by omega))
  obtain ⟨P, hP⟩ : ∃ P, parseO l asn = P := ⟨_, rfl⟩
  rw [hP]
  obtain ⟨nl, hnl⟩ : ∃ n, l.length = n := ⟨_, rfl⟩
  obtain ⟨ao, cap, rfl⟩ := hb.form0 hnl
  have HNL := Lib.hid hnl
  rw [hnl] at hl
  have HS0 := Lib.hid ((Same.alloc w (oqO 34 zeroOq (.slice none 0 0))).trans (Same.alloc _ (zeroFt 44)))
  have HR4 : Hid (((w.alloc (oqO 34 zeroOq (.slice none 0 0))).alloc (zeroFt 44)).heap[w.heap.size]? = some (oqO 34 zeroOq (.slice none 0 0))) := (Same.alloc _ _).block (heap_alloc_new w _)
  have HR5 : Hid (((w.alloc (oqO 34 zeroOq (.slice none 0 0))).alloc (zeroFt 44)).heap[w.heap.size + 1]? = some (zeroFt 44)) := by
    have := heap_alloc_new (w.alloc (oqO 34 zeroOq (.slice none 0 0))) (zeroFt 44)
    rw [show (w.alloc (oqO 34 zeroOq (.slice none 0 0))).heap.size = w.heap.size + 1 from by simp] at this
    exact this
  have HZ0 : Hid (((w.alloc (oqO 34 zeroOq (.slice none 0 0))).alloc (zeroFt 44)).heap.size = w.heap.size + 1 + 1) := by show _ = _; simp
  generalize hW0 : (w.alloc (oqO 34 zeroOq (.slice none 0 0))).alloc (zeroFt 44) = W0 at HS0 HR4 HR5 HZ0
  dsimp only [zeroOq] at hW0
  clear hb
  go_enter Try.func19, Try.ntmps19
  by_cases h10 : nl < 10
  · have i10 : (nl : Int) < 10 := by omega
    have HPQ : Hid (P = (⟨0, 0, 0, []⟩, ⟨2, 0, []⟩)) := by show _ = _; rw [← hP]; unfold parseO; rw [if_pos (by omega)]; try rfl
    clear hP
    have hE := two_end (t2 := 34) (t3 := 44) w.heap.size (w.heap.size + 1) (by omega) (Nat.le_refl _) (by omega) [.int .i64 (0), .int .i64 (0), .int .u32 (0), .slice none 0 0] [.int .i64 0, .int .i64 0, .int .u32 0, .slice none 0 0] [.int .i64 (2), .int .i64 (0), .slice none 0 0] [.int .i64 0, .int .i64 0, .slice none 0 0] HS0.out HR4.out HR5.out rfl rfl
    have hQ := (sets_cells w.heap.size 34 [.int .i64 (0), .int .i64 (0), .int .u32 (0), .slice none 0 0] W0 [] [.int .i64 0, .int .i64 0, .int .u32 0, .slice none 0 0] HR4.out rfl).1
    dsimp only [setsC, Nat.reduceAdd, List.length_nil] at hE hQ
    obtain ⟨b0, b1, b2, b3⟩ := OqAt.of (o := zeroOq) (vc := .slice none 0 0) HR4.out
    have hfz2 := nofr HR4.out
    have hk3' := (hQ.block (w.heap.size + 1) (Array.getElem?_eq_some_iff.1 HR5.out).1 (by omega)).trans HR5.out
    obtain ⟨f0, f1, f2⟩ := FtAt.of (f := noFt) (vd := .slice none 0 0) hk3'
    have hfz3 := nofr hk3'
    have HE := Lib.hid hE
    clear hE hQ hk3'
    go_wp2_with fail
    have hE := HE.out
    generalize World.setCell _ ⟨w.heap.size + 1, 2, none⟩ _ = U at hE ⊢
    obtain ⟨x0, x1, x2, x3⟩ := OqAt.of (o := ⟨0, 0, 0, []⟩) (vc := .slice none 0 0) hE.1
    obtain ⟨y0, y1, y2⟩ := FtAt.of (f := ⟨2, 0, []⟩) (vd := .slice none 0 0) hE.2.1
    refine bodyPost_ret (v := .tuple #[oqV ⟨0, 0, 0, []⟩ (.slice none 0 0), ftV ⟨2, 0, []⟩ (.slice none 0 0)]) ?_ rfl ⟨_, _, by (rw [HPQ.out]; try rfl), by rw [HPQ.out]; exact CapsW.nil _ _, by rw [HPQ.out]; exact Bs.nil _, hE.2.2.1⟩
    simp [results, Try.results19, go_sem, x0, x1, x2, x3, y0, y1, y2]
  have i10 : ¬ (nl : Int) < 10 := by omega
  have hP' : P = if nmb l 0 1 ≠ 4 then (zeroOq, badO 1 [0, 4]) else if numF l asn ≠ -1 then (zeroOq, badO (numF l asn) []) else match parsA l.length l 10 [] with
    | .inl s => (zeroOq, badO s [])
    | .inr cs => (⟨nmb l 1 2, nmb l 3 2, nmb l 5 4, cs⟩, noFt) := by rw [← hP]; unfold parseO; rw [if_neg (by omega)]; try rfl
  have HPQ := Lib.hid hP'
  clear hP hP'
  go_wp2_with fail
  clear hW0
  refine (HRd _ (HB.out.same HS0.out)).out.mono ?_
  rintro e W ⟨s, sv, rfl, hs0, hsrc, hs1, hsl⟩
  have HW : Hid (Same w W) := HS0.out.trans hs1
  have HR4W := Lib.hid (hs1.block HR4.out)
  have HR5W := Lib.hid (hs1.block HR5.out)
  have HSF : Hid (w.heap.size + 1 < s) := by have := HZ0.out; show _ < _; omega
  have HSW : Hid (s < W.heap.size) := hsrc.src.lt
  have HSL2 : Hid (∀ g, sv.ownBlock = some g → g < W.heap.size) := hsrc.lt
  have HSRC := Lib.hid hsrc
  have HTOW : Hid (∀ u, Kept [s] W u → Same w u) := fun u hk => hk.to_same HW.out (fun k hk => by have := HSF.out; simp at hk; omega)
  have HAT4 : Hid (∀ u, Kept [s] W u → u.heap[w.heap.size]? = some (oqO 34 zeroOq (.slice none 0 0)) ∧ u.heap[w.heap.size + 1]? = some (zeroFt 44)) := fun u hk => ⟨hk.at HR4W.out (by have := HSF.out; simp; omega), hk.at HR5W.out (by have := HSF.out; simp; omega)⟩
  clear hs0 hsrc hs1 hsl HB HRd HS0 HR4 HR5
  -- the first byte
  obtain ⟨q1, q2, q3⟩ := step_in (l := l) (a := 0) (k := 1) (by omega) 1 rfl
  go_wp2_with fail
  refine (rU8_any s sv l 0 0 W HSRC.out (by omega)).mono ?_
  rw [q1, q2, q3]
  rintro e w1 ⟨rfl, hm1, hsr1⟩
  have hK0 := nmb_lt l 0 1
  obtain ⟨K0, hk0⟩ : ∃ K, nmb l 0 1 = K := ⟨_, rfl⟩
  rw [hk0] at hK0 ⊢
  have HK0 := Lib.hid hk0
  have HSR1 := Lib.hid hsr1
  have HK1 := Lib.hid ((Kept.refl [s] W).mod hm1 (.inl (by simp)))
  clear hm1 hsr1 q1 q2 q3 hk0
  by_cases h4 : K0 = 4
  case neg =>
    have h4' : ((K0 : Int) != 4) = true := by simp; omega
    have HPR : Hid (P = (⟨0, 0, 0, []⟩, ⟨2, 1, [0, 4]⟩)) := by show _ = _; rw [HPQ.out, HK0.out, if_pos h4]; try rfl
    have HSw : Hid (Same w (w1.alloc (.cells #[.int .u8 0, .int .u8 4] 5))) := (HTOW.out _ HK1.out).trans (Same.alloc _ _)
    have HR4w := Lib.hid ((Same.alloc w1 (.cells #[.int .u8 0, .int .u8 4] 5)).block (HAT4.out _ HK1.out).1)
    have HR5w := Lib.hid ((Same.alloc w1 (.cells #[.int .u8 0, .int .u8 4] 5)).block (HAT4.out _ HK1.out).2)
    have HBD : Hid (Bs (w1.alloc (.cells #[.int .u8 0, .int .u8 4] 5)) (.slice (some ⟨w1.heap.size, 0, none⟩) 2 2) [0, 4]) := (row_bs w1 [0, 4] (fun x hx => by simp at hx; rcases hx with rfl | rfl <;> omega) 2 rfl (by omega) #[.int .u8 0, .int .u8 4] rfl).bs
    have HNB : Hid (w1.heap.size ≠ w.heap.size ∧ w1.heap.size ≠ w.heap.size + 1) := by have := HK1.out.size; have h2 := HSW.out; have h3 := HSF.out; exact ⟨by omega, by omega⟩
    generalize hV1 : w1.alloc (.cells #[.int .u8 0, .int .u8 4] 5) = V1 at HSw HR4w HR5w HBD
    have hE := two_end (t2 := 34) (t3 := 44) w.heap.size (w.heap.size + 1) (by omega) (Nat.le_refl _) (by omega) [.int .i64 (0), .int .i64 (0), .int .u32 (0), .slice none 0 0] [.int .i64 0, .int .i64 0, .int .u32 0, .slice none 0 0] [.int .i64 (2), .int .i64 (1), .slice (some ⟨w1.heap.size, 0, none⟩) 2 2] [.int .i64 0, .int .i64 0, .slice none 0 0] HSw.out HR4w.out HR5w.out rfl rfl
    have hQ := (sets_cells w.heap.size 34 [.int .i64 (0), .int .i64 (0), .int .u32 (0), .slice none 0 0] V1 [] [.int .i64 0, .int .i64 0, .int .u32 0, .slice none 0 0] HR4w.out rfl).1
    dsimp only [setsC, Nat.reduceAdd, List.length_nil] at hE hQ
    obtain ⟨b0, b1, b2, b3⟩ := OqAt.of (o := zeroOq) (vc := .slice none 0 0) HR4w.out
    have hfz2 := nofr HR4w.out
    have hk3' := (hQ.block (w.heap.size + 1) (Array.getElem?_eq_some_iff.1 HR5w.out).1 (by omega)).trans HR5w.out
    obtain ⟨f0, f1, f2⟩ := FtAt.of (f := noFt) (vd := .slice none 0 0) hk3'
    have hfz3 := nofr hk3'
    have HE := Lib.hid hE
    clear hE hQ hk3'
    go_wp2_with fail
    have hE := HE.out
    generalize World.setCell _ ⟨w.heap.size + 1, 2, none⟩ _ = U at hE ⊢
    obtain ⟨x0, x1, x2, x3⟩ := OqAt.of (o := ⟨0, 0, 0, []⟩) (vc := .slice none 0 0) hE.1
    obtain ⟨y0, y1, y2⟩ := FtAt.of (f := ⟨2, 1, [0, 4]⟩) (vd := .slice (some ⟨w1.heap.size, 0, none⟩) 2 2) hE.2.1
    refine bodyPost_ret (v := .tuple #[oqV ⟨0, 0, 0, []⟩ (.slice none 0 0), ftV ⟨2, 1, [0, 4]⟩ (.slice (some ⟨w1.heap.size, 0, none⟩) 2 2)]) ?_ rfl ⟨_, _, by (rw [HPR.out]; try rfl), by rw [HPR.out]; exact CapsW.nil _ _, by rw [HPR.out]; exact (HBD.out.kept hE.2.2.2 (fun g hg => by have := HNB.out; cases hg; simp; omega)), hE.2.2.1⟩
    simp [results, Try.results19, go_sem, x0, x1, x2, x3, y0, y1, y2]
  subst h4
  have hP : P = if numF l asn ≠ -1 then (zeroOq, badO (numF l asn) []) else match parsA l.length l 10 [] with
    | .inl s => (zeroOq, badO s [])
    | .inr cs => (⟨nmb l 1 2, nmb l 3 2, nmb l 5 4, cs⟩, noFt) := by rw [HPQ.out, HK0.out, if_neg (by simp)]; try rfl
  clear HPQ HK0
  have HPQ := Lib.hid hP
  clear hP
  -- the numbers
  obtain ⟨q1, q2, q3⟩ := step_in (l := l) (a := 1) (k := 2) (by omega) 2 rfl
  go_wp2_with fail
  refine (rU16_any s sv l 1 0 w1 HSR1.out (by omega)).mono ?_
  rw [q1, q2, q3]
  rintro e w2 ⟨rfl, hm2, hsr2⟩
  obtain ⟨A, hA⟩ : ∃ K, nmb l 1 2 = K := ⟨_, rfl⟩
  rw [hA]
  have HSR2 := Lib.hid (hsr2.same (Same.alloc w2 (oqO 34 ⟨A, 0, 0, []⟩ (.slice none 0 0))))
  have HK2 := Lib.hid ((HK1.out.mod hm2 (.inl (by simp))).same (Same.alloc w2 (oqO 34 ⟨A, 0, 0, []⟩ (.slice none 0 0))))
  have HT2 := Lib.hid (heap_alloc_new w2 (oqO 34 ⟨A, 0, 0, []⟩ (.slice none 0 0)))
  have HTW : Hid (W.heap.size ≤ w2.heap.size) := by have := HK1.out.size; have := hm2.size; show _ ≤ _; omega
  have HTs : Hid (s ≠ w2.heap.size) := by have h1 := HSW.out; have h2 := HTW.out; show _ ≠ _; omega
  have HTa : Hid (sv.ownBlock ≠ some w2.heap.size) := fun he => by have h1 := HSL2.out _ he; have h2 := HTW.out; omega
  clear hm2 hsr2 q1 q2 q3
  obtain ⟨q1, q2, q3⟩ := step_in (l := l) (a := 3) (k := 2) (by omega) 2 rfl
  go_wp2_with fail
  generalize w2.alloc (.cells #[.int .i64 (A : Int), .int .i64 0, .int .u32 0, .slice none 0 0] 34) = V2 at HSR2 HK2 HT2 ⊢
  generalize w2.heap.size = T at HTW HTs HTa HT2 ⊢
  refine (rU16_any s sv l 3 0 V2 HSR2.out (by omega)).mono ?_
  rw [q1, q2, q3]
  rintro e w3 ⟨rfl, hm3, hsr3⟩
  obtain ⟨H, hH⟩ : ∃ K, nmb l 3 2 = K := ⟨_, rfl⟩
  rw [hH]
  have HT3 : Hid (w3.heap[T]? = some (oqO 34 ⟨A, 0, 0, []⟩ (.slice none 0 0))) := (hm3.block _ (Array.getElem?_eq_some_iff.1 HT2.out).1 HTs.out.symm).trans HT2.out
  obtain ⟨t0, t1, t2, t3⟩ := OqAt.of HT3.out
  have hz := nofr HT3.out
  have HT4 : Hid ((w3.setCell ⟨T, 1, none⟩ (.int .i64 (H : Int))).heap[T]? = some (oqO 34 ⟨A, H, 0, []⟩ (.slice none 0 0))) := by show _ = _; simp [World.setCell, Array.getElem?_modify, HT3.out]
  have HSR4 : Hid (RSrcB (w3.setCell ⟨T, 1, none⟩ (.int .i64 (H : Int))) s sv l (3 + 2) 0) := hsr3.other (Mod.setCell T 1 w3 _) HTs.out HTa.out
  have HK4 := Lib.hid ((HK2.out.mod hm3 (.inl (by simp))).set 1 (.int .i64 (H : Int)) (.inr HTW.out))
  generalize hV4 : w3.setCell ⟨T, 1, none⟩ (.int .i64 (H : Int)) = V4 at HT4 HSR4 HK4
  clear hm3 hsr3 q1 q2 q3
  obtain ⟨q1, q2, q3⟩ := step_in (l := l) (a := 5) (k := 4) (by omega) 4 rfl
  go_wp2_with fail
  clear hV4 t0 t1 t2 t3 hz HT3
  refine (rU32_any s sv l 5 0 V4 HSR4.out (by omega)).mono ?_
  rw [q1, q2, q3]
  rintro e w5 ⟨rfl, hm5, hsr5⟩
  obtain ⟨I, hI⟩ : ∃ K, nmb l 5 4 = K := ⟨_, rfl⟩
  rw [hI]
  have HT5 : Hid (w5.heap[T]? = some (oqO 34 ⟨A, H, 0, []⟩ (.slice none 0 0))) := (hm5.block _ (Array.getElem?_eq_some_iff.1 HT4.out).1 HTs.out.symm).trans HT4.out
  obtain ⟨t0, t1, t2, t3⟩ := OqAt.of HT5.out
  have hz := nofr HT5.out
  have HT6 : Hid ((w5.setCell ⟨T, 2, none⟩ (.int .u32 (I : Int))).heap[T]? = some (oqO 34 ⟨A, H, I, []⟩ (.slice none 0 0))) := by show _ = _; simp [World.setCell, Array.getElem?_modify, HT5.out]
  have HSR6 : Hid (RSrcB (w5.setCell ⟨T, 2, none⟩ (.int .u32 (I : Int))) s sv l (5 + 4) 0) := hsr5.other (Mod.setCell T 2 w5 _) HTs.out HTa.out
  have HK6 := Lib.hid ((HK4.out.mod hm5 (.inl (by simp))).set 2 (.int .u32 (I : Int)) (.inr HTW.out))
  generalize hV6 : w5.setCell ⟨T, 2, none⟩ (.int .u32 (I : Int)) = V6 at HT6 HSR6 HK6
  clear hm5 hsr5 q1 q2 q3
  obtain ⟨q1, q2, q3⟩ := step_in (l := l) (a := 9) (k := 1) (by omega) 1 rfl
  go_wp2_with fail
  clear hV6 t0 t1 t2 t3 hz HT5
  refine (rU8_any s sv l 9 0 V6 HSR6.out (by omega)).mono ?_
  rw [q1, q2, q3]
  rintro e V ⟨rfl, hm7, hsr7⟩
  obtain ⟨N, hN⟩ : ∃ K, nmb l 9 1 = K := ⟨_, rfl⟩
  rw [hN]
  have HTV : Hid (V.heap[T]? = some (oqO 34 ⟨A, H, I, []⟩ (.slice none 0 0))) := (hm7.block _ (Array.getElem?_eq_some_iff.1 HT6.out).1 HTs.out.symm).trans HT6.out
  have HSRV := Lib.hid hsr7
  have HKV := Lib.hid (HK6.out.mod hm7 (.inl (by simp)))
  have HSw := Lib.hid (HTOW.out _ HKV.out)
  have HR4w := Lib.hid (HAT4.out _ HKV.out).1
  have HR5w := Lib.hid (HAT4.out _ HKV.out).2
  clear hm7 hsr7 q1 q2 q3
  obtain ⟨t0, t1, t2, t3⟩ := OqAt.of HTV.out
  have hnum : numF l asn = if A = 0 ∨ (1 ≤ asn ∧ (A : Int) ≠ asn) then 2 else if H = 1 ∨ H = 2 then 6 else if I = 0 then 3 else if (N : Int) ≠ nl - 10 then 0 else -1 := by unfold numF; rw [hA, hH, hI, hN, hnl]
  rw [hA, hH, hI] at HPQ
  have HNF := Lib.hid hnum
  clear hnum hA hH hI hN
  have HPRs : Hid (∀ sub, numF l asn = sub → sub ≠ -1 → P = (⟨0, 0, 0, []⟩, ⟨2, sub, []⟩)) := fun sub h1 h2 => by rw [HPQ.out, if_pos (by rw [h1]; exact h2), h1]; rfl
  by_cases g1 : A = 0
  · have HPR := Lib.hid (HPRs.out 2 (by rw [HNF.out, if_pos (.inl g1)]) (by decide))
    have g1t : ((A : Int) == 0) = true := by simp; omega
    clear HNF HPRs HPQ g1
    have hE := two_end (t2 := 34) (t3 := 44) w.heap.size (w.heap.size + 1) (by omega) (Nat.le_refl _) (by omega) [.int .i64 (0), .int .i64 (0), .int .u32 (0), .slice none 0 0] [.int .i64 0, .int .i64 0, .int .u32 0, .slice none 0 0] [.int .i64 (2), .int .i64 (2), .slice none 0 0] [.int .i64 0, .int .i64 0, .slice none 0 0] HSw.out HR4w.out HR5w.out rfl rfl
    have hQ := (sets_cells w.heap.size 34 [.int .i64 (0), .int .i64 (0), .int .u32 (0), .slice none 0 0] V [] [.int .i64 0, .int .i64 0, .int .u32 0, .slice none 0 0] HR4w.out rfl).1
    dsimp only [setsC, Nat.reduceAdd, List.length_nil] at hE hQ
    obtain ⟨b0, b1, b2, b3⟩ := OqAt.of (o := zeroOq) (vc := .slice none 0 0) HR4w.out
    have hfz2 := nofr HR4w.out
    have hk3' := (hQ.block (w.heap.size + 1) (Array.getElem?_eq_some_iff.1 HR5w.out).1 (by omega)).trans HR5w.out
    obtain ⟨f0, f1, f2⟩ := FtAt.of (f := noFt) (vd := .slice none 0 0) hk3'
    have hfz3 := nofr hk3'
    have HE := Lib.hid hE
    clear hE hQ hk3'
    go_wp2_with fail
    have hE := HE.out
    generalize World.setCell _ ⟨w.heap.size + 1, 2, none⟩ _ = U at hE ⊢
    obtain ⟨x0, x1, x2, x3⟩ := OqAt.of (o := ⟨0, 0, 0, []⟩) (vc := .slice none 0 0) hE.1
    obtain ⟨y0, y1, y2⟩ := FtAt.of (f := ⟨2, 2, []⟩) (vd := .slice none 0 0) hE.2.1
    refine bodyPost_ret (v := .tuple #[oqV ⟨0, 0, 0, []⟩ (.slice none 0 0), ftV ⟨2, 2, []⟩ (.slice none 0 0)]) ?_ rfl ⟨_, _, by (rw [HPR.out]; try rfl), by rw [HPR.out]; exact CapsW.nil _ _, by rw [HPR.out]; exact Bs.nil _, hE.2.2.1⟩
    simp [results, Try.results19, go_sem, x0, x1, x2, x3, y0, y1, y2]
  have g1' : ((A : Int) == 0) = false := by simp; omega
  by_cases g2 : (A : Int) = asn
  case neg =>
    have HPR := Lib.hid (HPRs.out 2 (by rw [HNF.out, if_pos (.inr ⟨HS1.out, g2⟩)]) (by decide))
    have g2b : ((A : Int) != asn) = true := by simpa using g2
    clear HNF HPRs HPQ
    have hE := two_end (t2 := 34) (t3 := 44) w.heap.size (w.heap.size + 1) (by omega) (Nat.le_refl _) (by omega) [.int .i64 (0), .int .i64 (0), .int .u32 (0), .slice none 0 0] [.int .i64 0, .int .i64 0, .int .u32 0, .slice none 0 0] [.int .i64 (2), .int .i64 (2), .slice none 0 0] [.int .i64 0, .int .i64 0, .slice none 0 0] HSw.out HR4w.out HR5w.out rfl rfl
    have hQ := (sets_cells w.heap.size 34 [.int .i64 (0), .int .i64 (0), .int .u32 (0), .slice none 0 0] V [] [.int .i64 0, .int .i64 0, .int .u32 0, .slice none 0 0] HR4w.out rfl).1
    dsimp only [setsC, Nat.reduceAdd, List.length_nil] at hE hQ
    obtain ⟨b0, b1, b2, b3⟩ := OqAt.of (o := zeroOq) (vc := .slice none 0 0) HR4w.out
    have hfz2 := nofr HR4w.out
    have hk3' := (hQ.block (w.heap.size + 1) (Array.getElem?_eq_some_iff.1 HR5w.out).1 (by omega)).trans HR5w.out
    obtain ⟨f0, f1, f2⟩ := FtAt.of (f := noFt) (vd := .slice none 0 0) hk3'
    have hfz3 := nofr hk3'
    have HE := Lib.hid hE
    clear hE hQ hk3'
    go_wp2_with fail
    have hE := HE.out
    generalize World.setCell _ ⟨w.heap.size + 1, 2, none⟩ _ = U at hE ⊢
    obtain ⟨x0, x1, x2, x3⟩ := OqAt.of (o := ⟨0, 0, 0, []⟩) (vc := .slice none 0 0) hE.1
    obtain ⟨y0, y1, y2⟩ := FtAt.of (f := ⟨2, 2, []⟩) (vd := .slice none 0 0) hE.2.1
    refine bodyPost_ret (v := .tuple #[oqV ⟨0, 0, 0, []⟩ (.slice none 0 0), ftV ⟨2, 2, []⟩ (.slice none 0 0)]) ?_ rfl ⟨_, _, by (rw [HPR.out]; try rfl), by rw [HPR.out]; exact CapsW.nil _ _, by rw [HPR.out]; exact Bs.nil _, hE.2.2.1⟩
    simp [results, Try.results19, go_sem, x0, x1, x2, x3, y0, y1, y2]
  have g2b : ((A : Int) != asn) = false := by simpa using g2
  have HG2 := Lib.hid g2
  clear g2
  have HG12 : Hid (¬ (A = 0 ∨ (1 ≤ asn ∧ (A : Int) ≠ asn))) := by have := HG2.out; show ¬ _; omega
  clear g1
  by_cases g3 : H = 1
  · have HPR := Lib.hid (HPRs.out 6 (by rw [HNF.out, if_neg HG12.out, if_pos (.inl g3)]) (by decide))
    have g3t : ((H : Int) == 1) = true := by simp; omega
    clear HNF HPRs HPQ g3
    have hE := two_end (t2 := 34) (t3 := 44) w.heap.size (w.heap.size + 1) (by omega) (Nat.le_refl _) (by omega) [.int .i64 (0), .int .i64 (0), .int .u32 (0), .slice none 0 0] [.int .i64 0, .int .i64 0, .int .u32 0, .slice none 0 0] [.int .i64 (2), .int .i64 (6), .slice none 0 0] [.int .i64 0, .int .i64 0, .slice none 0 0] HSw.out HR4w.out HR5w.out rfl rfl
    have hQ := (sets_cells w.heap.size 34 [.int .i64 (0), .int .i64 (0), .int .u32 (0), .slice none 0 0] V [] [.int .i64 0, .int .i64 0, .int .u32 0, .slice none 0 0] HR4w.out rfl).1
    dsimp only [setsC, Nat.reduceAdd, List.length_nil] at hE hQ
    obtain ⟨b0, b1, b2, b3⟩ := OqAt.of (o := zeroOq) (vc := .slice none 0 0) HR4w.out
    have hfz2 := nofr HR4w.out
    have hk3' := (hQ.block (w.heap.size + 1) (Array.getElem?_eq_some_iff.1 HR5w.out).1 (by omega)).trans HR5w.out
    obtain ⟨f0, f1, f2⟩ := FtAt.of (f := noFt) (vd := .slice none 0 0) hk3'
    have hfz3 := nofr hk3'
    have HE := Lib.hid hE
    clear hE hQ hk3'
    go_wp2_with fail
    have hE := HE.out
    generalize World.setCell _ ⟨w.heap.size + 1, 2, none⟩ _ = U at hE ⊢
    obtain ⟨x0, x1, x2, x3⟩ := OqAt.of (o := ⟨0, 0, 0, []⟩) (vc := .slice none 0 0) hE.1
    obtain ⟨y0, y1, y2⟩ := FtAt.of (f := ⟨2, 6, []⟩) (vd := .slice none 0 0) hE.2.1
    refine bodyPost_ret (v := .tuple #[oqV ⟨0, 0, 0, []⟩ (.slice none 0 0), ftV ⟨2, 6, []⟩ (.slice none 0 0)]) ?_ rfl ⟨_, _, by (rw [HPR.out]; try rfl), by rw [HPR.out]; exact CapsW.nil _ _, by rw [HPR.out]; exact Bs.nil _, hE.2.2.1⟩
    simp [results, Try.results19, go_sem, x0, x1, x2, x3, y0, y1, y2]
  have g3' : ((H : Int) == 1) = false := by simp; omega
  by_cases g4 : H = 2
  · have HPR := Lib.hid (HPRs.out 6 (by rw [HNF.out, if_neg HG12.out, if_pos (.inr g4)]) (by decide))
    have g4t : ((H : Int) == 2) = true := by simp; omega
    clear HNF HPRs HPQ g4 g3
    have hE := two_end (t2 := 34) (t3 := 44) w.heap.size (w.heap.size + 1) (by omega) (Nat.le_refl _) (by omega) [.int .i64 (0), .int .i64 (0), .int .u32 (0), .slice none 0 0] [.int .i64 0, .int .i64 0, .int .u32 0, .slice none 0 0] [.int .i64 (2), .int .i64 (6), .slice none 0 0] [.int .i64 0, .int .i64 0, .slice none 0 0] HSw.out HR4w.out HR5w.out rfl rfl
    have hQ := (sets_cells w.heap.size 34 [.int .i64 (0), .int .i64 (0), .int .u32 (0), .slice none 0 0] V [] [.int .i64 0, .int .i64 0, .int .u32 0, .slice none 0 0] HR4w.out rfl).1
    dsimp only [setsC, Nat.reduceAdd, List.length_nil] at hE hQ
    obtain ⟨b0, b1, b2, b3⟩ := OqAt.of (o := zeroOq) (vc := .slice none 0 0) HR4w.out
    have hfz2 := nofr HR4w.out
    have hk3' := (hQ.block (w.heap.size + 1) (Array.getElem?_eq_some_iff.1 HR5w.out).1 (by omega)).trans HR5w.out
    obtain ⟨f0, f1, f2⟩ := FtAt.of (f := noFt) (vd := .slice none 0 0) hk3'
    have hfz3 := nofr hk3'
    have HE := Lib.hid hE
    clear hE hQ hk3'
    go_wp2_with fail
    have hE := HE.out
    generalize World.setCell _ ⟨w.heap.size + 1, 2, none⟩ _ = U at hE ⊢
    obtain ⟨x0, x1, x2, x3⟩ := OqAt.of (o := ⟨0, 0, 0, []⟩) (vc := .slice none 0 0) hE.1
    obtain ⟨y0, y1, y2⟩ := FtAt.of (f := ⟨2, 6, []⟩) (vd := .slice none 0 0) hE.2.1
    refine bodyPost_ret (v := .tuple #[oqV ⟨0, 0, 0, []⟩ (.slice none 0 0), ftV ⟨2, 6, []⟩ (.slice none 0 0)]) ?_ rfl ⟨_, _, by (rw [HPR.out]; try rfl), by rw [HPR.out]; exact CapsW.nil _ _, by rw [HPR.out]; exact Bs.nil _, hE.2.2.1⟩
    simp [results, Try.results19, go_sem, x0, x1, x2, x3, y0, y1, y2]
  have g4' : ((H : Int) == 2) = false := by simp; omega
  by_cases g5 : I = 0
  · have HPR := Lib.hid (HPRs.out 3 (by rw [HNF.out, if_neg HG12.out, if_neg (by omega), if_pos g5]) (by decide))
    have g5t : ((I : Int) == 0) = true := by simp; omega
    clear HNF HPRs HPQ g5 g4 g3
    have hE := two_end (t2 := 34) (t3 := 44) w.heap.size (w.heap.size + 1) (by omega) (Nat.le_refl _) (by omega) [.int .i64 (0), .int .i64 (0), .int .u32 (0), .slice none 0 0] [.int .i64 0, .int .i64 0, .int .u32 0, .slice none 0 0] [.int .i64 (2), .int .i64 (3), .slice none 0 0] [.int .i64 0, .int .i64 0, .slice none 0 0] HSw.out HR4w.out HR5w.out rfl rfl
    have hQ := (sets_cells w.heap.size 34 [.int .i64 (0), .int .i64 (0), .int .u32 (0), .slice none 0 0] V [] [.int .i64 0, .int .i64 0, .int .u32 0, .slice none 0 0] HR4w.out rfl).1
    dsimp only [setsC, Nat.reduceAdd, List.length_nil] at hE hQ
    obtain ⟨b0, b1, b2, b3⟩ := OqAt.of (o := zeroOq) (vc := .slice none 0 0) HR4w.out
    have hfz2 := nofr HR4w.out
    have hk3' := (hQ.block (w.heap.size + 1) (Array.getElem?_eq_some_iff.1 HR5w.out).1 (by omega)).trans HR5w.out
    obtain ⟨f0, f1, f2⟩ := FtAt.of (f := noFt) (vd := .slice none 0 0) hk3'
    have hfz3 := nofr hk3'
    have HE := Lib.hid hE
    clear hE hQ hk3'
    go_wp2_with fail
    have hE := HE.out
    generalize World.setCell _ ⟨w.heap.size + 1, 2, none⟩ _ = U at hE ⊢
    obtain ⟨x0, x1, x2, x3⟩ := OqAt.of (o := ⟨0, 0, 0, []⟩) (vc := .slice none 0 0) hE.1
    obtain ⟨y0, y1, y2⟩ := FtAt.of (f := ⟨2, 3, []⟩) (vd := .slice none 0 0) hE.2.1
    refine bodyPost_ret (v := .tuple #[oqV ⟨0, 0, 0, []⟩ (.slice none 0 0), ftV ⟨2, 3, []⟩ (.slice none 0 0)]) ?_ rfl ⟨_, _, by (rw [HPR.out]; try rfl), by rw [HPR.out]; exact CapsW.nil _ _, by rw [HPR.out]; exact Bs.nil _, hE.2.2.1⟩
    simp [results, Try.results19, go_sem, x0, x1, x2, x3, y0, y1, y2]
  have g5' : ((I : Int) == 0) = false := by simp; omega
  have hnf : numF l asn = if (N : Int) ≠ nl - 10 then 0 else -1 := by rw [HNF.out, if_neg HG12.out, if_neg (by omega), if_neg g5]
  clear HNF g3 g4 g5
  have HLf := Lib.hid (rLeft_any s sv l (9 + 1) 0 V HSRV.out)
  rw [if_pos rfl, hnl] at HLf
  have e10 : (nl : Int) - ((9 + 1 : Nat) : Int) = (nl : Int) - 10 := by omega
  rw [e10] at HLf
  have HNF := Lib.hid hnf
  have HI10 : Hid (10 ≤ nl) := by show _ ≤ _; omega
  clear hnf e10
  go_wp2_with fail
  clear t0 t1 t2 t3 g1' g2b g3' g4' g5' hbG
  refine HLf.out.mono ?_
  rintro e V8 ⟨rfl, hs8⟩
  have HSR8 := Lib.hid (HSRV.out.same hs8)
  have HT8 := Lib.hid (hs8.block HTV.out)
  have HSw8 := Lib.hid (HSw.out.trans hs8)
  have HR48 := Lib.hid (hs8.block HR4w.out)
  have HR58 := Lib.hid (hs8.block HR5w.out)
  have HWV8 : Hid (W.heap.size ≤ V8.heap.size) := (HKV.out.same hs8).size
  have HTV8 : Hid (T < V8.heap.size) := (Array.getElem?_eq_some_iff.1 HT8.out).1
  clear hs8 HLf
  by_cases g6 : (N : Int) = (nl : Int) - 10
  case neg =>
    have HPR := Lib.hid (HPRs.out 0 (by rw [HNF.out, if_pos g6]) (by decide))
    have g6t : ((N : Int) != (nl : Int) - 10) = true := by simpa using g6
    clear HNF HPRs HPQ g6
    have hE := two_end (t2 := 34) (t3 := 44) w.heap.size (w.heap.size + 1) (by omega) (Nat.le_refl _) (by omega) [.int .i64 (0), .int .i64 (0), .int .u32 (0), .slice none 0 0] [.int .i64 0, .int .i64 0, .int .u32 0, .slice none 0 0] [.int .i64 (2), .int .i64 (0), .slice none 0 0] [.int .i64 0, .int .i64 0, .slice none 0 0] HSw8.out HR48.out HR58.out rfl rfl
    have hQ := (sets_cells w.heap.size 34 [.int .i64 (0), .int .i64 (0), .int .u32 (0), .slice none 0 0] V8 [] [.int .i64 0, .int .i64 0, .int .u32 0, .slice none 0 0] HR48.out rfl).1
    dsimp only [setsC, Nat.reduceAdd, List.length_nil] at hE hQ
    obtain ⟨b0, b1, b2, b3⟩ := OqAt.of (o := zeroOq) (vc := .slice none 0 0) HR48.out
    have hfz2 := nofr HR48.out
    have hk3' := (hQ.block (w.heap.size + 1) (Array.getElem?_eq_some_iff.1 HR58.out).1 (by omega)).trans HR58.out
    obtain ⟨f0, f1, f2⟩ := FtAt.of (f := noFt) (vd := .slice none 0 0) hk3'
    have hfz3 := nofr hk3'
    have HE := Lib.hid hE
    clear hE hQ hk3'
    go_wp2_with fail
    have hE := HE.out
    generalize World.setCell _ ⟨w.heap.size + 1, 2, none⟩ _ = U at hE ⊢
    obtain ⟨x0, x1, x2, x3⟩ := OqAt.of (o := ⟨0, 0, 0, []⟩) (vc := .slice none 0 0) hE.1
    obtain ⟨y0, y1, y2⟩ := FtAt.of (f := ⟨2, 0, []⟩) (vd := .slice none 0 0) hE.2.1
    refine bodyPost_ret (v := .tuple #[oqV ⟨0, 0, 0, []⟩ (.slice none 0 0), ftV ⟨2, 0, []⟩ (.slice none 0 0)]) ?_ rfl ⟨_, _, by (rw [HPR.out]; try rfl), by rw [HPR.out]; exact CapsW.nil _ _, by rw [HPR.out]; exact Bs.nil _, hE.2.2.1⟩
    simp [results, Try.results19, go_sem, x0, x1, x2, x3, y0, y1, y2]
  have g6t : ((N : Int) != (nl : Int) - 10) = false := by simpa using g6
  have hgo : goP P A H I (parsA l.length l 10 []) := by
    have h := HPQ.out
    rw [if_neg (by rw [HNF.out, if_neg (by simpa using g6)]; decide)] at h
    rw [h]
    cases parsA l.length l 10 [] <;> rfl
  have HGO := Lib.hid hgo
  have HLEN : Hid (l.length = nl) := hnl
  clear HNF HPRs HPQ g6 hgo hnl
  go_wp2_with fail
  clear g6t
  go_loopw [] (fun wr => ∃ (a f : Nat) (xs : List (Cp × Sl)) (lv : Value), RSrcB wr s sv l a 0 ∧ wr.heap[T]? = some (oqO 34 ⟨A, H, I, []⟩ lv) ∧ OwnR (capLay 55) wr V8.heap.size lv xs ∧
    (∀ x, x ∈ xs → Bs wr (cvV x.1 x.2) x.1.value ∧ ∀ g, (cvV x.1 x.2).ownBlock = some g → V8.heap.size ≤ g ∧ g < wr.heap.size ∧ lv.ownBlock ≠ some g) ∧
    Kept [s, T] V8 wr ∧ l.length ≤ a + f ∧ xs.length ≤ a ∧ goP P A H I (parsA f l a (xs.map (·.1)))) (fun wr => l.length - posW wr s 1)
  case atStart => exact ⟨10, l.length, [], .slice none 0 0, HSR8.out, HT8.out, OwnR.nil _ _ _, (fun x h => by cases h), Kept.refl _ _, by omega, by simp, HGO.out⟩
  case round =>
    obtain ⟨a, f, xs, lv, hsr, hto, hov, hxb, hkp, hf, hxa, hgo⟩ := hrel
    have HSR := Lib.hid hsr
    have HTO := Lib.hid hto
    have HOV := Lib.hid hov
    have HXB := Lib.hid hxb
    have HKP := Lib.hid hkp
    have HFU : Hid (l.length ≤ a + f) := hf
    have HXA : Hid (xs.length ≤ a) := hxa
    have HGP := Lib.hid hgo
    have HLE : Hid (a ≤ l.length) := hsr.le
    have hpos := hsr.posR
    rw [hpos]
    have HL1 := Lib.hid (rLeft_any s sv l a 0 wr HSR.out)
    rw [if_pos rfl] at HL1
    clear hsr hto hov hxb hkp hf hxa hgo hpos HSR8 HT8 HGO
    go_wp2_with fail
    refine HL1.out.mono ?_
    rintro e w1 ⟨rfl, hs1⟩
    have HS1 := Lib.hid hs1
    replace HSR := Lib.hid (HSR.out.same hs1)
    clear hs1 HL1
    by_cases hend : l.length ≤ a
    · have i1 : ¬ (0 < (l.length : Int) - a) := by omega
      have hp : P = (⟨A, H, I, xs.map (·.1)⟩, ⟨0, 0, []⟩) := by
        have h := HGP.out
        rw [parsA_over hend] at h
        exact h
      have HP := Lib.hid hp
      obtain ⟨nx, hnx⟩ : ∃ n, xs.length = n := ⟨_, rfl⟩
      obtain ⟨la, lc, rfl⟩ := HOV.out.rs.form hnx
      have HTw := Lib.hid (HS1.out.block HTO.out)
      have HKw := Lib.hid (HKP.out.same HS1.out)
      have HSww : Hid (Same w w1) := HKw.out.to_same HSw8.out (fun k hk => by have := HSF.out; have := HTW.out; have := HSW.out; simp at hk; omega)
      have HR4x := Lib.hid (HKw.out.at HR48.out (by have := HSF.out; have := HTW.out; have := HSW.out; simp; omega))
      have HR5x := Lib.hid (HKw.out.at HR58.out (by have := HSF.out; have := HTW.out; have := HSW.out; simp; omega))
      have HLO : Hid (∀ g, g ∈ [w.heap.size, w.heap.size + 1] → g < V8.heap.size) := fun g hg => by have := HSF.out; have := HSW.out; have := HWV8.out; simp at hg; omega
      clear hp hnx hend
      obtain ⟨t0, t1, t2, t3⟩ := OqAt.of HTw.out
      have hE := two_end (t2 := 34) (t3 := 44) w.heap.size (w.heap.size + 1) (by omega) (Nat.le_refl _) (by omega) [.int .i64 ((A : Int)), .int .i64 ((H : Int)), .int .u32 ((I : Int)), .slice la nx lc] [.int .i64 0, .int .i64 0, .int .u32 0, .slice none 0 0] [.int .i64 (0), .int .i64 (0), .slice none 0 0] [.int .i64 0, .int .i64 0, .slice none 0 0] HSww.out HR4x.out HR5x.out rfl rfl
      have hQ := (sets_cells w.heap.size 34 [.int .i64 ((A : Int)), .int .i64 ((H : Int)), .int .u32 ((I : Int)), .slice la nx lc] w1 [] [.int .i64 0, .int .i64 0, .int .u32 0, .slice none 0 0] HR4x.out rfl).1
      dsimp only [setsC, Nat.reduceAdd, List.length_nil] at hE hQ
      obtain ⟨b0, b1, b2, b3⟩ := OqAt.of (o := zeroOq) (vc := .slice none 0 0) HR4x.out
      have hfz2 := nofr HR4x.out
      have hk3' := (hQ.block (w.heap.size + 1) (Array.getElem?_eq_some_iff.1 HR5x.out).1 (by omega)).trans HR5x.out
      obtain ⟨f0, f1, f2⟩ := FtAt.of (f := noFt) (vd := .slice none 0 0) hk3'
      have hfz3 := nofr hk3'
      have HE := Lib.hid hE
      clear hE hQ hk3'
      go_wp2_with fail
      have hE := HE.out
      generalize World.setCell _ ⟨w.heap.size + 1, 2, none⟩ _ = U at hE ⊢
      obtain ⟨x0, x1, x2, x3⟩ := OqAt.of (o := ⟨(A : Int), (H : Int), (I : Int), xs.map (·.1)⟩) (vc := .slice la nx lc) hE.1
      obtain ⟨y0, y1, y2⟩ := FtAt.of (f := ⟨0, 0, []⟩) (vd := .slice none 0 0) hE.2.1
      refine bodyPost_ret (v := .tuple #[oqV ⟨(A : Int), (H : Int), (I : Int), xs.map (·.1)⟩ (.slice la nx lc), ftV ⟨0, 0, []⟩ (.slice none 0 0)]) ?_ rfl ⟨_, _, by (rw [HP.out]; try rfl), by rw [HP.out]; exact ⟨xs, rfl, ((HOV.out.same HS1.out).kept hE.2.2.2 (fun g hg hm => by have := (HOV.out.lt g hg).1; have := HLO.out g hm; omega)).rs, fun x hx => ((HXB.out x hx).1.same HS1.out).kept hE.2.2.2 (fun g hg hm => by have := ((HXB.out x hx).2 g hg).1; have := HLO.out g hm; omega)⟩, by rw [HP.out]; exact Bs.nil _, hE.2.2.1⟩
      simp [results, Try.results19, go_sem, x0, x1, x2, x3, y0, y1, y2]
    have HA1 : Hid (a < l.length) := by show _ < _; omega
    have i1 : (0 < (l.length : Int) - a) := by omega
    clear hend
    have HKr := Lib.hid ((Kept.refl [s] wr).same HS1.out)
    clear HS1
    go_wp2_with fail
    clear i1
    refine (rU8_any s sv l a 0 _ HSR.out (by have := HLEN.out; omega)).mono ?_
    rintro e w2 ⟨rfl, hm, hsr⟩
    obtain ⟨K, hK⟩ : ∃ x, numOut (stepOut l a 0 1) = x := ⟨_, rfl⟩
    obtain ⟨a1, ha1⟩ : ∃ x, stepAt l a 0 1 = x := ⟨_, rfl⟩
    obtain ⟨e1, he1⟩ : ∃ x, stepErr l a 0 1 = x := ⟨_, rfl⟩
    rw [ha1, he1] at hsr
    rw [hK]
    have HQ1 := Lib.hid (And.intro hK (And.intro ha1 he1))
    replace HSR := Lib.hid hsr
    replace HKr := Lib.hid (HKr.out.mod hm (.inl (by simp)))
    clear hm hsr hK ha1 he1
    go_wp2_with fail
    refine (rU8_any s sv l a1 e1 _ HSR.out (by have := HLEN.out; omega)).mono ?_
    rintro e w3 ⟨rfl, hm, hsr⟩
    obtain ⟨M, hM⟩ : ∃ x, numOut (stepOut l a1 e1 1) = x := ⟨_, rfl⟩
    obtain ⟨a2, ha2⟩ : ∃ x, stepAt l a1 e1 1 = x := ⟨_, rfl⟩
    obtain ⟨e2, he2⟩ : ∃ x, stepErr l a1 e1 1 = x := ⟨_, rfl⟩
    rw [ha2, he2] at hsr
    rw [hM]
    have HQ2 := Lib.hid (And.intro hM (And.intro ha2 he2))
    replace HSR := Lib.hid hsr
    replace HKr := Lib.hid (HKr.out.mod hm (.inl (by simp)))
    clear hm hsr hM ha2 he2
    go_wp2_with fail
    refine (rSub_any s sv l a2 e2 M _ HSR.out (by have := HLEN.out; omega)).mono ?_
    rintro e w4 ⟨t, tv, rfl, hlt, hin, hm, hsr, hown⟩
    obtain ⟨X, hX⟩ : ∃ x, listOut (stepOut l a2 e2 M) = x := ⟨_, rfl⟩
    obtain ⟨a3, ha3⟩ : ∃ x, stepAt l a2 e2 M = x := ⟨_, rfl⟩
    obtain ⟨e3, he3⟩ : ∃ x, stepErr l a2 e2 M = x := ⟨_, rfl⟩
    rw [ha3, he3] at hsr
    rw [hX] at hin
    have hst := two_steps l a HA1.out K M X a1 a2 a3 e1 e2 e3 HQ1.out.1 HQ1.out.2.1 HQ1.out.2.2 HQ2.out.1 HQ2.out.2.1 HQ2.out.2.2 hX ha3 he3
    have HST := Lib.hid hst
    have HTt : Hid (wr.heap.size ≤ t) := Nat.le_trans HKr.out.size hlt
    have HTvo : Hid (∀ g, tv.ownBlock = some g → wr.heap.size ≤ g) := fun g hg => Nat.le_trans HKr.out.size (hown g hg)
    replace HSR := Lib.hid hsr
    replace HKr := Lib.hid (HKr.out.mod hm (.inl (by simp)))
    have HIN := Lib.hid hin
    have HV8r : Hid (V8.heap.size ≤ wr.heap.size) := HKP.out.size
    have HK4 : Hid (Kept [s, T] V8 w4) := HKP.out.trans (HKr.out.more (by simp))
    have HSw4 : Hid (Same w w4) := HK4.out.to_same HSw8.out (fun k hk => by have := HSF.out; have := HTW.out; have := HSW.out; simp at hk; omega)
    have HR44 := Lib.hid (HK4.out.at HR48.out (by have := HSF.out; have := HTW.out; have := HSW.out; simp; omega))
    have HR54 := Lib.hid (HK4.out.at HR58.out (by have := HSF.out; have := HTW.out; have := HSW.out; simp; omega))
    obtain ⟨f', hf', hstep⟩ := parsA_step (f := f) (acc := xs.map (·.1)) HA1.out HFU.out
    have hgo := HGP.out
    rw [hstep] at hgo
    have HGP1 := Lib.hid hgo
    have HF1 : Hid (f = f' + 1) := hf'
    have HTO4 := Lib.hid (HKr.out.at HTO.out (by have := HTs.out; simp; omega))
    have HOV4 := Lib.hid (HOV.out.kept HKr.out (fun g hg => by have := (HOV.out.lt g hg).1; have := HSW.out; have := HWV8.out; simp; omega))
    have HXB4 : Hid (∀ x, x ∈ xs → Bs w4 (cvV x.1 x.2) x.1.value ∧ ∀ g, (cvV x.1 x.2).ownBlock = some g → V8.heap.size ≤ g ∧ g < w4.heap.size ∧ lv.ownBlock ≠ some g) := fun x hx => ⟨(HXB.out x hx).1.kept HKr.out (fun g hg => by have := ((HXB.out x hx).2 g hg).1; have := HSW.out; have := HWV8.out; simp; omega), fun g hg => ⟨((HXB.out x hx).2 g hg).1, Nat.lt_of_lt_of_le ((HXB.out x hx).2 g hg).2.1 HKr.out.size, ((HXB.out x hx).2 g hg).2.2⟩⟩
    have HXO : Hid (∀ x, x ∈ xs → ∀ g, (cvV x.1 x.2).ownBlock = some g → g < wr.heap.size) := fun x hx g hg => ((HXB.out x hx).2 g hg).2.1
    have HLT : Hid (∀ g, lv.ownBlock = some g → g < wr.heap.size) := fun g hg => (HOV.out.lt g hg).2
    clear hm hsr hX ha3 he3 hst hin hlt hown HQ1 HQ2 hgo hstep hf' HGP HTO HOV HXB
    obtain ⟨z0, z1, z2, zf1, zf2⟩ := HSR.out.src.cells
    by_cases g7 : e3 = 0
    case neg =>
      have g7t : (e3 != 0) = true := by simpa using g7
      have hpp : P = (⟨0, 0, 0, []⟩, ⟨2, 0, []⟩) := by
        have h := HGP1.out
        rcases HST.out.2 with hq | hq
        · exact absurd hq.1 g7
        · rw [parP_short hq.2] at h
          exact h
      have HPR := Lib.hid hpp
      clear hpp g7
      have hE := two_end (t2 := 34) (t3 := 44) w.heap.size (w.heap.size + 1) (by omega) (Nat.le_refl _) (by omega) [.int .i64 (0), .int .i64 (0), .int .u32 (0), .slice none 0 0] [.int .i64 0, .int .i64 0, .int .u32 0, .slice none 0 0] [.int .i64 (2), .int .i64 (0), .slice none 0 0] [.int .i64 0, .int .i64 0, .slice none 0 0] HSw4.out HR44.out HR54.out rfl rfl
      have hQ := (sets_cells w.heap.size 34 [.int .i64 (0), .int .i64 (0), .int .u32 (0), .slice none 0 0] w4 [] [.int .i64 0, .int .i64 0, .int .u32 0, .slice none 0 0] HR44.out rfl).1
      dsimp only [setsC, Nat.reduceAdd, List.length_nil] at hE hQ
      obtain ⟨b0, b1, b2, b3⟩ := OqAt.of (o := zeroOq) (vc := .slice none 0 0) HR44.out
      have hfz2 := nofr HR44.out
      have hk3' := (hQ.block (w.heap.size + 1) (Array.getElem?_eq_some_iff.1 HR54.out).1 (by omega)).trans HR54.out
      obtain ⟨f0, f1, f2⟩ := FtAt.of (f := noFt) (vd := .slice none 0 0) hk3'
      have hfz3 := nofr hk3'
      have HE := Lib.hid hE
      clear hE hQ hk3'
      go_wp2_with fail
      have hE := HE.out
      generalize World.setCell _ ⟨w.heap.size + 1, 2, none⟩ _ = U at hE ⊢
      obtain ⟨x0, x1, x2, x3⟩ := OqAt.of (o := ⟨0, 0, 0, []⟩) (vc := .slice none 0 0) hE.1
      obtain ⟨y0, y1, y2⟩ := FtAt.of (f := ⟨2, 0, []⟩) (vd := .slice none 0 0) hE.2.1
      refine bodyPost_ret (v := .tuple #[oqV ⟨0, 0, 0, []⟩ (.slice none 0 0), ftV ⟨2, 0, []⟩ (.slice none 0 0)]) ?_ rfl ⟨_, _, by (rw [HPR.out]; try rfl), by rw [HPR.out]; exact CapsW.nil _ _, by rw [HPR.out]; exact Bs.nil _, hE.2.2.1⟩
      simp [results, Try.results19, go_sem, x0, x1, x2, x3, y0, y1, y2]
    subst g7
    have hq5 : K = nmb l a 1 ∧ M = nmb l (a + 1) 1 ∧ a3 = a + 2 + M ∧ X = (l.drop (a + 2)).take M ∧ a + 2 + M ≤ l.length := by
      rcases HST.out.2 with h | h
      · exact h.2
      · exact absurd rfl h.1
    have HQ5 := Lib.hid hq5
    clear HST hq5
    by_cases g8 : K = 2
    case neg =>
      have g8t : ((K : Int) != 2) = true := by simp; omega
      have hpp : P = (⟨0, 0, 0, []⟩, ⟨2, 4, []⟩) := by
        obtain ⟨hK1, hN1, hA3, hV1, hle⟩ := HQ5.out
        have h := HGP1.out
        rw [parP_kind (by omega) (by omega)] at h
        exact h
      have HPR := Lib.hid hpp
      clear hpp g8
      have hE := two_end (t2 := 34) (t3 := 44) w.heap.size (w.heap.size + 1) (by omega) (Nat.le_refl _) (by omega) [.int .i64 (0), .int .i64 (0), .int .u32 (0), .slice none 0 0] [.int .i64 0, .int .i64 0, .int .u32 0, .slice none 0 0] [.int .i64 (2), .int .i64 (4), .slice none 0 0] [.int .i64 0, .int .i64 0, .slice none 0 0] HSw4.out HR44.out HR54.out rfl rfl
      have hQ := (sets_cells w.heap.size 34 [.int .i64 (0), .int .i64 (0), .int .u32 (0), .slice none 0 0] w4 [] [.int .i64 0, .int .i64 0, .int .u32 0, .slice none 0 0] HR44.out rfl).1
      dsimp only [setsC, Nat.reduceAdd, List.length_nil] at hE hQ
      obtain ⟨b0, b1, b2, b3⟩ := OqAt.of (o := zeroOq) (vc := .slice none 0 0) HR44.out
      have hfz2 := nofr HR44.out
      have hk3' := (hQ.block (w.heap.size + 1) (Array.getElem?_eq_some_iff.1 HR54.out).1 (by omega)).trans HR54.out
      obtain ⟨f0, f1, f2⟩ := FtAt.of (f := noFt) (vd := .slice none 0 0) hk3'
      have hfz3 := nofr hk3'
      have HE := Lib.hid hE
      clear hE hQ hk3'
      go_wp2_with fail
      have hE := HE.out
      generalize World.setCell _ ⟨w.heap.size + 1, 2, none⟩ _ = U at hE ⊢
      obtain ⟨x0, x1, x2, x3⟩ := OqAt.of (o := ⟨0, 0, 0, []⟩) (vc := .slice none 0 0) hE.1
      obtain ⟨y0, y1, y2⟩ := FtAt.of (f := ⟨2, 4, []⟩) (vd := .slice none 0 0) hE.2.1
      refine bodyPost_ret (v := .tuple #[oqV ⟨0, 0, 0, []⟩ (.slice none 0 0), ftV ⟨2, 4, []⟩ (.slice none 0 0)]) ?_ rfl ⟨_, _, by (rw [HPR.out]; try rfl), by rw [HPR.out]; exact CapsW.nil _ _, by rw [HPR.out]; exact Bs.nil _, hE.2.2.1⟩
      simp [results, Try.results19, go_sem, x0, x1, x2, x3, y0, y1, y2]
    have g8t : ((K : Int) != 2) = false := by simp; omega
    have hgo : goP P A H I (match (match capsL X with
        | none => (.inl 0 : Sum Int (List Cp × Nat))
        | some cs => .inr (cs, a3)) with
      | .inl s => .inl s
      | .inr (cs, b) => parsA f' l b (xs.map (·.1) ++ cs)) := by
      obtain ⟨hK1, hN1, hA3, hV1, hle⟩ := HQ5.out
      have h := HGP1.out
      rw [parP_caps (by omega) (by omega), ← hN1, ← hV1, ← hA3] at h
      exact h
    have hXL : X.length ≤ M ∧ a3 = a + 2 + M ∧ a + 2 + M ≤ l.length := by
      obtain ⟨hK1, hN1, hA3, hV1, hle⟩ := HQ5.out
      refine ⟨?_, hA3, hle⟩
      rw [hV1, List.length_take]; omega
    have HGP2 := Lib.hid hgo
    have HXL := Lib.hid hXL
    clear HGP1 HQ5 g8 hgo hXL
    go_wp2_with fail
    clear g8t z0 z1 z2 zf1 zf2
    have HTW4 : Hid (t < w4.heap.size) := HIN.out.src.lt
    go_loopw [] (fun wi => ∃ (b f2 : Nat) (ys : List (Cp × Sl)) (mv : Value), RSrcB wi t tv X b 0 ∧ RSrcB wi s sv l a3 0 ∧ wi.heap[T]? = some (oqO 34 ⟨A, H, I, []⟩ mv) ∧ OwnR (capLay 55) wi V8.heap.size mv (xs ++ ys) ∧
      (∀ x, x ∈ xs ++ ys → Bs wi (cvV x.1 x.2) x.1.value ∧ ∀ g, (cvV x.1 x.2).ownBlock = some g → V8.heap.size ≤ g ∧ g < wi.heap.size ∧ g ≠ t ∧ mv.ownBlock ≠ some g) ∧
      Kept [s, T] V8 wi ∧ w4.heap.size ≤ wi.heap.size ∧ (∀ g, mv.ownBlock = some g → g ≠ t ∧ tv.ownBlock ≠ some g) ∧ X.length ≤ b + f2 ∧ ys.length ≤ b ∧
      goP P A H I (match (match (capsA f2 X b).map (ys.map (·.1) ++ ·) with
        | none => (.inl 0 : Sum Int (List Cp × Nat))
        | some cs => .inr (cs, a3)) with
      | .inl s => .inl s
      | .inr (cs, b) => parsA f' l b (xs.map (·.1) ++ cs))) (fun wi => X.length - posW wi t 1)
    case atStart =>
      refine ⟨0, X.length, [], lv, HIN.out, HSR.out, HTO4.out, by rw [List.append_nil]; exact HOV4.out, fun x hx => ?_, HK4.out, Nat.le_refl _, fun g hg => ⟨?_, fun he => ?_⟩, by omega, by simp, ?_⟩
      · rw [List.append_nil] at hx
        obtain ⟨q1, q2⟩ := HXB4.out x hx
        exact ⟨q1, fun g hg => ⟨(q2 g hg).1, (q2 g hg).2.1, by have := HXO.out x hx g hg; have := HTt.out; omega, (q2 g hg).2.2⟩⟩
      · have := HLT.out g hg; have := HTt.out; omega
      · have := HLT.out g hg; have := HTvo.out g he; omega
      · have h := HGP2.out
        unfold capsL at h
        cases hc : capsA X.length X 0 with
        | none => rw [hc] at h; exact h
        | some cs => rw [hc] at h; exact h
    case round =>
      obtain ⟨b, f2, ys, mv, hin, hsr, hto, hov, hxb, hkp, hwz, hmv, hf2, hyb, hgo⟩ := hrel
      have HIN := Lib.hid hin
      have HSR := Lib.hid hsr
      have HTO := Lib.hid hto
      have HOV := Lib.hid hov
      have HXB := Lib.hid hxb
      have HKP := Lib.hid hkp
      have HWZ : Hid (w4.heap.size ≤ wr.heap.size) := hwz
      have HMV := Lib.hid hmv
      have HFU2 : Hid (X.length ≤ b + f2) := hf2
      have HYB : Hid (ys.length ≤ b) := hyb
      have HGP3 := Lib.hid hgo
      have HBL : Hid (b ≤ X.length) := hin.le
      have hpos := hin.posR
      have HL2 := Lib.hid (rLeft_any t tv X b 0 wr HIN.out)
      rw [if_pos rfl] at HL2
      rw [hpos]
      clear hin hsr hto hov hxb hkp hwz hmv hf2 hyb hgo hpos HGP2 HXB4 HOV4 HTO4 HK4
      go_wp2_with fail
      refine HL2.out.mono ?_
      rintro e x1 ⟨rfl, hs1⟩
      have HS1 := Lib.hid hs1
      clear hs1 HL2
      by_cases hend : X.length ≤ b
      · have i1 : ¬ (0 < (X.length : Int) - b) := by omega
        have hgo : goP P A H I (parsA f' l a3 ((xs ++ ys).map (·.1))) := by
          have h := HGP3.out
          rw [capsA_over hend] at h
          rw [List.map_append]
          simpa using h
        have HGO2 := Lib.hid hgo
        clear hgo hend
        go_wp2_with fail
        have hq := HXL.out
        have hsR := HSR.out.same HS1.out
        refine ⟨⟨a3, f', xs ++ ys, mv, hsR, HS1.out.block HTO.out, HOV.out.same HS1.out, fun x hx => ⟨(HXB.out x hx).1.same HS1.out, fun g hg => ⟨((HXB.out x hx).2 g hg).1, Nat.lt_of_lt_of_le ((HXB.out x hx).2 g hg).2.1 HS1.out.size, ((HXB.out x hx).2 g hg).2.2.2⟩⟩, HKP.out.same HS1.out, by have := HFU.out; have := HF1.out; omega, by have := HXA.out; have := HYB.out; have := HBL.out; rw [List.length_append]; omega, HGO2.out⟩, by rw [hsR.posR]; have := HA1.out; omega⟩
      have HB1 : Hid (b < X.length) := by show _ < _; omega
      have i1 : (0 < (X.length : Int) - b) := by omega
      have HKr := Lib.hid ((Kept.refl [t] wr).same HS1.out)
      replace HIN := Lib.hid (HIN.out.same HS1.out)
      clear hend HS1
      go_wp2_with fail
      clear i1
      refine (rU8_any t tv X b 0 _ HIN.out (by have := HLEN.out; have := HXL.out; omega)).mono ?_
      rintro e x2 ⟨rfl, hm, hsr⟩
      obtain ⟨C, hC⟩ : ∃ x, numOut (stepOut X b 0 1) = x := ⟨_, rfl⟩
      obtain ⟨b1, hb1⟩ : ∃ x, stepAt X b 0 1 = x := ⟨_, rfl⟩
      obtain ⟨d1, hd1⟩ : ∃ x, stepErr X b 0 1 = x := ⟨_, rfl⟩
      rw [hb1, hd1] at hsr
      rw [hC]
      have HQ1 := Lib.hid (And.intro hC (And.intro hb1 hd1))
      have HAc := Lib.hid (Same.alloc x2 (cpO 55 ⟨C, []⟩ (.slice none 0 0)))
      have HCB := Lib.hid (heap_alloc_new x2 (cpO 55 ⟨C, []⟩ (.slice none 0 0)))
      replace HKr := Lib.hid (HKr.out.mod hm (.inl (by simp)))
      have HCw : Hid (wr.heap.size ≤ x2.heap.size) := HKr.out.size
      have HCt : Hid (t < x2.heap.size) := hsr.src.lt
      have HCtv : Hid (∀ g, tv.ownBlock = some g → g < x2.heap.size) := hsr.lt
      replace HIN := Lib.hid (hsr.same HAc.out)
      replace HKr := Lib.hid (HKr.out.same HAc.out)
      clear hm hsr hC hb1 hd1
      go_wp2_with fail
      generalize hx2 : x2.alloc (.cells #[.int .i64 (C : Int), .slice none 0 0] 55) = x3 at HCB HIN HKr HAc ⊢
      generalize hcb : x2.heap.size = cb at HCB HCw HCt HCtv ⊢
      clear hx2 hcb HAc
      refine (rU8_any t tv X b1 d1 _ HIN.out (by have := HLEN.out; have := HXL.out; omega)).mono ?_
      rintro e x4 ⟨rfl, hm, hsr⟩
      obtain ⟨M2, hM2⟩ : ∃ x, numOut (stepOut X b1 d1 1) = x := ⟨_, rfl⟩
      obtain ⟨b2, hb2⟩ : ∃ x, stepAt X b1 d1 1 = x := ⟨_, rfl⟩
      obtain ⟨d2, hd2⟩ : ∃ x, stepErr X b1 d1 1 = x := ⟨_, rfl⟩
      rw [hb2, hd2] at hsr
      rw [hM2]
      have HQ2 := Lib.hid (And.intro hM2 (And.intro hb2 hd2))
      replace HIN := Lib.hid hsr
      replace HKr := Lib.hid (HKr.out.mod hm (.inl (by simp)))
      replace HCB := Lib.hid ((hm.block _ (Array.getElem?_eq_some_iff.1 HCB.out).1 (by have := HCt.out; omega)).trans HCB.out)
      clear hm hsr hM2 hb2 hd2
      go_wp2_with fail
      refine (rBytes_any t tv X b2 d2 M2 _ HIN.out (by have := HLEN.out; have := HXL.out; omega)).mono ?_
      rintro e x5 ⟨vv, rfl, ho, hm, hsr⟩
      obtain ⟨Y, hY⟩ : ∃ x, listOut (stepOut X b2 d2 M2) = x := ⟨_, rfl⟩
      obtain ⟨b3, hb3⟩ : ∃ x, stepAt X b2 d2 M2 = x := ⟨_, rfl⟩
      obtain ⟨d3, hd3⟩ : ∃ x, stepErr X b2 d2 M2 = x := ⟨_, rfl⟩
      rw [hb3, hd3] at hsr
      rw [hY] at ho
      have hst := two_steps X b HB1.out C M2 Y b1 b2 b3 d1 d2 d3 HQ1.out.1 HQ1.out.2.1 HQ1.out.2.2 HQ2.out.1 HQ2.out.2.1 HQ2.out.2.2 hY hb3 hd3
      have HST := Lib.hid hst
      have HW45 : Hid (wr.heap.size ≤ x4.heap.size) := HKr.out.size
      have HX45 : Hid (x4.heap.size ≤ x5.heap.size) := hm.size
      have HCB4 : Hid (cb < x4.heap.size) := (Array.getElem?_eq_some_iff.1 HCB.out).1
      have HT4 : Hid (t < x4.heap.size) := HIN.out.src.lt
      have HTV4 : Hid (∀ g, tv.ownBlock = some g → g < x4.heap.size) := HIN.out.lt
      have HO := Lib.hid ho
      obtain ⟨m, hm'⟩ : ∃ m, Y.length = m := ⟨_, rfl⟩
      have HYM := Lib.hid hm'
      obtain ⟨so, sc, rfl⟩ : ∃ so sc, vv = .slice so m sc := by
        obtain ⟨ao, cp, hv, -, -, -, -⟩ := ho.bs
        exact ⟨ao, cp, by rw [hv, hm']⟩
      have HC5 := Lib.hid ((hm.block _ (Array.getElem?_eq_some_iff.1 HCB.out).1 (by have := HCt.out; omega)).trans HCB.out)
      have HSET := Lib.hid (Mod.setCell cb 1 x5 (.slice so m sc))
      have HC6 : Hid ((x5.setCell ⟨cb, 1, none⟩ (.slice so m sc)).heap[cb]? = some (cpO 55 ⟨C, []⟩ (.slice so m sc))) := by show _ = _; simp [World.setCell, Array.getElem?_modify, HC5.out]
      replace HKr := Lib.hid ((HKr.out.mod hm (.inl (by simp))).set 1 (.slice so m sc) (.inr HCw.out) (s := cb))
      replace HIN := Lib.hid (hsr.other HSET.out (by have := HCt.out; omega) (fun he => by have := HCtv.out _ he; omega))
      have HOs : Hid (OwnB (x5.setCell ⟨cb, 1, none⟩ (.slice so m sc)) x4.heap.size (.slice so m sc) Y) := HO.out.kept ((Kept.refl [cb] x5).mod HSET.out (.inl (by simp))) (fun g hg => by have := (HO.out.lt g hg).1; have := HCB4.out; simp; omega)
      obtain ⟨c0, c1⟩ := CpAt.of HC5.out
      have hfz := nofr HC5.out
      obtain ⟨y0, y1⟩ := CpAt.of HC6.out
      obtain ⟨z0, z1, z2, -, -⟩ := HIN.out.src.cells
      clear hm hsr hY hb3 hd3 hst ho hm' HQ1 HQ2 HCB
      have hKP6 : Kept [s, T] V8 (x5.setCell ⟨cb, 1, none⟩ (.slice so m sc)) := ⟨HKr.out.os.trans HKP.out.os, HKr.out.tape.trans HKP.out.tape, HKr.out.output.trans HKP.out.output, Nat.le_trans HKP.out.size HKr.out.size, fun i hi hn => (HKr.out.block i (Nat.lt_of_lt_of_le hi HKP.out.size) (by have := HTt.out; have := HV8r.out; simp; omega)).trans (HKP.out.block i hi hn)⟩
      have HKP6 := Lib.hid hKP6
      clear hKP6
      by_cases g9 : d3 = 0
      case neg =>
        have g9t : (d3 != 0) = true := by simpa using g9
        have hpp : P = (⟨0, 0, 0, []⟩, ⟨2, 0, []⟩) := by
          have h := HGP3.out
          rcases HST.out.2 with hq | hq
          · exact absurd hq.1 g9
          · rw [capsA_none HB1.out HFU2.out hq.2] at h
            exact h
        have HPR := Lib.hid hpp
        have HSw6 : Hid (Same w (x5.setCell ⟨cb, 1, none⟩ (.slice so m sc))) := HKP6.out.to_same HSw8.out (fun k hk => by have := HSF.out; have := HTW.out; have := HSW.out; simp at hk; omega)
        have HR46 := Lib.hid (HKP6.out.at HR48.out (by have := HSF.out; have := HTW.out; have := HSW.out; simp; omega))
        have HR56 := Lib.hid (HKP6.out.at HR58.out (by have := HSF.out; have := HTW.out; have := HSW.out; simp; omega))
        clear hpp g9
        have hE := two_end (t2 := 34) (t3 := 44) w.heap.size (w.heap.size + 1) (by omega) (Nat.le_refl _) (by omega) [.int .i64 (0), .int .i64 (0), .int .u32 (0), .slice none 0 0] [.int .i64 0, .int .i64 0, .int .u32 0, .slice none 0 0] [.int .i64 (2), .int .i64 (0), .slice none 0 0] [.int .i64 0, .int .i64 0, .slice none 0 0] HSw6.out HR46.out HR56.out rfl rfl
        have hQ := (sets_cells w.heap.size 34 [.int .i64 (0), .int .i64 (0), .int .u32 (0), .slice none 0 0] (x5.setCell ⟨cb, 1, none⟩ (.slice so m sc)) [] [.int .i64 0, .int .i64 0, .int .u32 0, .slice none 0 0] HR46.out rfl).1
        dsimp only [setsC, Nat.reduceAdd, List.length_nil] at hE hQ
        obtain ⟨b0, b1, b2, b3⟩ := OqAt.of (o := zeroOq) (vc := .slice none 0 0) HR46.out
        have hfz2 := nofr HR46.out
        have hk3' := (hQ.block (w.heap.size + 1) (Array.getElem?_eq_some_iff.1 HR56.out).1 (by omega)).trans HR56.out
        obtain ⟨f0, f1, f2⟩ := FtAt.of (f := noFt) (vd := .slice none 0 0) hk3'
        have hfz3 := nofr hk3'
        have HE := Lib.hid hE
        clear hE hQ hk3'
        go_wp2_with fail
        have hE := HE.out
        generalize World.setCell _ ⟨w.heap.size + 1, 2, none⟩ _ = U at hE ⊢
        obtain ⟨x0, x1, x2, x3⟩ := OqAt.of (o := ⟨0, 0, 0, []⟩) (vc := .slice none 0 0) hE.1
        obtain ⟨y0, y1, y2⟩ := FtAt.of (f := ⟨2, 0, []⟩) (vd := .slice none 0 0) hE.2.1
        refine bodyPost_ret (v := .tuple #[oqV ⟨0, 0, 0, []⟩ (.slice none 0 0), ftV ⟨2, 0, []⟩ (.slice none 0 0)]) ?_ rfl ⟨_, _, by (rw [HPR.out]; try rfl), by rw [HPR.out]; exact CapsW.nil _ _, by rw [HPR.out]; exact Bs.nil _, hE.2.2.1⟩
        simp [results, Try.results19, go_sem, x0, x1, x2, x3, y0, y1, y2]
      subst g9
      have hq5 : C = nmb X b 1 ∧ M2 = nmb X (b + 1) 1 ∧ b3 = b + 2 + M2 ∧ Y = (X.drop (b + 2)).take M2 ∧ b + 2 + M2 ≤ X.length := by
        rcases HST.out.2 with h | h
        · exact h.2
        · exact absurd rfl h.1
      have HQ5 := Lib.hid hq5
      clear HST hq5
      have HTO6 := Lib.hid (HKr.out.at HTO.out (by have := HTt.out; have := HV8r.out; have := HTV8.out; simp; omega))
      obtain ⟨t0, t1, t2, t3⟩ := OqAt.of HTO6.out
      have HX1 : Hid (Rs (capLay 55) ((x5.setCell ⟨cb, 1, none⟩ (.slice so m sc)).alloc (.cells #[.int .i64 (C : Int), .slice so m sc] 55)) (.slice (some ⟨x5.heap.size, 0, none⟩) 1 1) [((⟨C, Y⟩, ⟨so, sc⟩) : Cp × Sl)]) := by
        have := Rs.one (capLay 55) (x5.setCell ⟨cb, 1, none⟩ (.slice so m sc)) ((⟨C, Y⟩, ⟨so, sc⟩) : Cp × Sl) #[.int .i64 (C : Int), .slice so m sc] (by show _ = [_, Value.slice so Y.length sc]; rw [HYM.out])
        rw [show (x5.setCell ⟨cb, 1, none⟩ (.slice so m sc)).heap.size = x5.heap.size from by simp [World.setCell]] at this
        exact this
      have HAA := Lib.hid (Same.alloc (x5.setCell ⟨cb, 1, none⟩ (.slice so m sc)) (.cells #[.int .i64 (C : Int), .slice so m sc] 55))
      have HK9 := Lib.hid (HKr.out.same HAA.out)
      have HTO9 := Lib.hid (HAA.out.block HTO6.out)
      have HOVb : Hid (∀ g, mv.ownBlock = some g → V8.heap.size ≤ g ∧ g < wr.heap.size) := HOV.out.lt
      have HOV9 := Lib.hid (HOV.out.kept HK9.out (fun g hg => by have := (HMV.out g hg).1; simp; omega))
      have HLn : Hid ((xs ++ ys).length + [((⟨C, Y⟩, ⟨so, sc⟩) : Cp × Sl)].length ≤ 1099511627776) := by have := HXA.out; have := HYB.out; have := HBL.out; have := HXL.out; have := HLEN.out; show _ ≤ _; rw [List.length_append]; simp; omega
      have HSZ : Hid (V8.heap.size ≤ ((x5.setCell ⟨cb, 1, none⟩ (.slice so m sc)).alloc (.cells #[.int .i64 (C : Int), .slice so m sc] 55)).heap.size) := Nat.le_trans HKP.out.size HK9.out.size
      have HIN9 := Lib.hid (HIN.out.same HAA.out)
      have HSR9 := Lib.hid (HSR.out.kept HK9.out (by have := HTt.out; have := HV8r.out; have := HSW.out; have := HWV8.out; simp; omega) (fun g hg => by have := HTt.out; have := HV8r.out; have := HSL2.out g hg; have := HWV8.out; simp; omega))
      have HO9 := Lib.hid (HOs.out.same HAA.out)
      have HSX : Hid (((x5.setCell ⟨cb, 1, none⟩ (.slice so m sc)).alloc (.cells #[.int .i64 (C : Int), .slice so m sc] 55)).heap.size = x5.heap.size + 1) := by show _ = _; simp [World.setCell]
      have HX5 : Hid ((x5.setCell ⟨cb, 1, none⟩ (.slice so m sc)).heap.size = x5.heap.size) := by show _ = _; simp [World.setCell]
      have HTnr : Hid (∀ g, mv.ownBlock = some g → T ≠ g) := fun g hg => by have := (HOVb.out g hg).1; have := HTV8.out; omega
      go_wp2_with (at_builtin; refine wpList_append_r2 (capLay 55) Try.underlying32 capInfoR rfl (by decide) (by decide) rfl _ _ rfl V8.heap.size HSZ.out mv (xs ++ ys) rfl HOV9.out _ [((⟨C, Y⟩, ⟨so, sc⟩) : Cp × Sl)] rfl HX1.out HLn.out ?_; intro v9 w9 ho9 hg9 hl9; have hB9 := (hg9.block T (Array.getElem?_eq_some_iff.1 HTO9.out).1 (fun he => HTnr.out _ he.symm rfl)).trans HTO9.out; have HG9 := Lib.hid hg9; have HL9 := Lib.hid hl9; have HO10 := Lib.hid ho9; have HB9 := Lib.hid hB9; obtain ⟨n9, hn9⟩ : ∃ n, ((xs ++ ys) ++ [((⟨C, Y⟩, ⟨so, sc⟩) : Cp × Sl)]).length = n := ⟨_, rfl⟩; obtain ⟨va, vc9, rfl⟩ := ho9.rs.form hn9; clear hn9 ho9 hg9 hl9; obtain ⟨q0, q1, q2, q3⟩ := OqAt.of hB9; have hzB := nofr hB9; clear hB9)
      have HKg : Kept (mv.ownBlock.toList) ((x5.setCell ⟨cb, 1, none⟩ (.slice so m sc)).alloc (.cells #[.int .i64 (C : Int), .slice so m sc] 55)) w9 := (Kept.refl _ _).grown HG9.out (fun s hs => .inl (by rw [hs]; simp))
      have hrow : ∀ g, g ∈ mv.ownBlock.toList → V8.heap.size ≤ g ∧ g < wr.heap.size ∧ g ≠ t ∧ tv.ownBlock ≠ some g := fun g hg => by
        have hg' : mv.ownBlock = some g := by simpa using hg
        exact ⟨(HOVb.out g hg').1, (HOVb.out g hg').2, (HMV.out g hg').1, (HMV.out g hg').2⟩
      have hTn : T < V8.heap.size := HTV8.out
      have htV : V8.heap.size ≤ t := Nat.le_trans HV8r.out HTt.out
      have hMT : Kept [T] w9 (w9.setCell ⟨T, 3, none⟩ (.slice va n9 vc9)) := (Kept.refl [T] w9).set 3 _ (.inl (by simp))
      have hin9 := (HIN9.out.kept HKg (fun h => (hrow _ h).2.2.1 rfl) (fun g hg h => (hrow _ h).2.2.2 hg)).kept hMT (by simp; omega) (fun g hg => by have := HTvo.out g hg; have := HV8r.out; simp; omega)
      have hsr9 := (HSR9.out.kept HKg (fun h => by have := (hrow _ h).1; have := HSW.out; have := HWV8.out; omega) (fun g hg h => by have := (hrow _ h).1; have := HSL2.out g hg; have := HWV8.out; omega)).kept hMT (by have := HTs.out; simp; omega) (fun g hg => by have := HTa.out; intro hm; simp at hm; subst hm; exact this hg)
      have hB : (w9.setCell ⟨T, 3, none⟩ (.slice va n9 vc9)).heap[T]? = some (oqO 34 ⟨A, H, I, []⟩ (.slice va n9 vc9)) := by simp [World.setCell, Array.getElem?_modify, HB9.out]
      have hpos := hin9.posR
      have hq5 := HQ5.out
      obtain ⟨h1, h2, h3, h4, h5⟩ := hq5
      have hMe : nmb X (b + 1) 1 = M2 := h2.symm
      obtain ⟨f3, hf3, hc3⟩ := capsA_some (f := f2) HB1.out HFU2.out (by rw [hMe]; exact h5)
      have hgo : goP P A H I (match (match (capsA f3 X b3).map ((ys ++ [((⟨C, Y⟩, ⟨so, sc⟩) : Cp × Sl)]).map (·.1) ++ ·) with
          | none => (.inl 0 : Sum Int (List Cp × Nat))
          | some cs => .inr (cs, a3)) with
        | .inl s => .inl s
        | .inr (cs, b) => parsA f' l b (xs.map (·.1) ++ cs)) := by
        have h := HGP3.out
        rw [hc3, Option.map_map, hMe, ← h3, ← h4, ← h1] at h
        have e : ((fun x => ys.map (·.1) ++ x) ∘ fun x => (⟨(C : Int), Y⟩ : Cp) :: x) = fun x => (ys ++ [((⟨C, Y⟩, ⟨so, sc⟩) : Cp × Sl)]).map (·.1) ++ x := by
          funext z
          simp
        rw [e] at h
        exact h
      refine ⟨⟨b3, f3, ys ++ [(⟨C, Y⟩, ⟨so, sc⟩)], _, hin9, hsr9, hB, by rw [← List.append_assoc]; exact HO10.out.kept hMT (fun g hg => by have := (HO10.out.lt g hg).1; simp; omega), fun x hx => ?_, ?_, ?_, fun g hg => ?_, by have := HFU2.out; omega, by have := HYB.out; simp; omega, hgo⟩, by rw [hpos]; have := HB1.out; omega⟩
      · rw [← List.append_assoc] at hx
        rcases List.mem_append.1 hx with hx | hx
        · obtain ⟨z1, z2⟩ := HXB.out x hx
          refine ⟨((z1.kept HK9.out (fun g hg => ?_)).kept HKg (fun g hg h => ?_)).kept hMT (fun g hg => ?_), fun g hg => ?_⟩
          · have := (z2 g hg).2.2.1; simp; omega
          · exact (z2 g hg).2.2.2 (by simpa using h)
          · have := (z2 g hg).1; simp; omega
          · obtain ⟨q1, q2, q3, q4⟩ := z2 g hg
            have hz1 := HK9.out.size
            have hz2 := HKg.size
            have hz3 := hMT.size
            refine ⟨q1, by omega, q3, fun he => ?_⟩
            rcases HL9.out with h | h
            · exact q4 (h ▸ he)
            · rw [h] at he; have := Option.some.inj he; omega
        · obtain rfl : x = (⟨C, Y⟩, ⟨so, sc⟩) := by simpa using hx
          have hb := HO9.out.bs
          rw [← HYM.out] at hb
          have hlt := HOs.out.lt
          rw [← HYM.out] at hlt
          refine ⟨(hb.kept (HYM.out ▸ HKg) (fun g hg h => ?_)).kept hMT (fun g hg => ?_), fun g hg => ?_⟩
          · have := (hrow g h).2.1; have := (hlt g hg).1; have := HW45.out; omega
          · have := (hlt g hg).1; have := HW45.out; have := HKP.out.size; simp; omega
          · obtain ⟨q1, q2⟩ := hlt g hg
            have h1 := HW45.out
            have h2 := HKP.out.size
            have h3 := HKg.size
            have h4 := HSX.out
            have h5 := hMT.size
            have h6 := HT4.out
            have h7 : (x5.setCell ⟨cb, 1, none⟩ (.slice so Y.length sc)).heap.size = x5.heap.size := by simp [World.setCell]
            refine ⟨by omega, by omega, by omega, fun he => ?_⟩
            rcases HL9.out with h | h
            · rw [h] at he; have := (HOVb.out g he).2; omega
            · rw [h] at he; have := Option.some.inj he; omega
      · exact ((HKP6.out.same HAA.out).grown HG9.out (fun s hs => .inr (HOVb.out s hs).1)).set 3 _ (.inl (by simp))
      · have h1 := HWZ.out; have h2 := HK9.out.size; have h3 := HKg.size; have h4 := hMT.size; omega
      · rcases HL9.out with h | h
        · rw [h] at hg; exact HMV.out g hg
        · rw [h] at hg
          have hgv := Option.some.inj hg
          have h1 := HSX.out
          have h6 := HT4.out
          have h7 := HX45.out
          refine ⟨by omega, fun he => by have := HTV4.out g he; omega⟩
end Go.Proofs.Ytidijoncngfppaa
