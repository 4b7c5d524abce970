/- The developers' layer 7: the attribute with which a source goes on; Split. No condition beyond what each names. -/
import Derived.Test.YtfhaaenmllkbnaaAtDJ
namespace Go.Proofs.Ytfhaaenmllkbnaa
open Go.RowKit
set_option linter.unusedVariables false
set_option maxRecDepth 100000

theorem SrcB.kept {ss : List Nat} {w w' : World} {s : Nat} {all : Value} {l : List UInt8} {a : Nat} {er : Int} (h : SrcB w s all l a er) (hk : Kept ss w w') (hs : s ∉ ss) (ha : ∀ g, all.ownBlock = some g → g ∉ ss) : SrcB w' s all l a er :=
  ⟨by have := h.src; unfold Src at *; exact hk.at this hs, h.bs.kept hk ha, h.ne, fun g hg => Nat.lt_of_lt_of_le (h.lt g hg) hk.size, h.le⟩
theorem stepAt_le (l : List UInt8) (a : Nat) (er n : Int) : a ≤ stepAt l a er n := by unfold stepAt; split <;> omega
theorem stepErr_or (l : List UInt8) (a : Nat) (er n : Int) (hn : 0 ≤ n) (he : er = 0 ∨ er = 3) : stepErr l a er n = 0 ∨ stepErr l a er n = 3 := by
  unfold stepErr
  rcases he with rfl | rfl
  · rw [if_pos rfl, if_neg (by omega)]; split <;> simp
  · rw [if_neg (by decide)]; simp
theorem SrcB.pos2 {w : World} {s : Nat} {all : Value} {l : List UInt8} {a : Nat} {er : Int} (h : SrcB w s all l a er) : posW w s 2 = a ∧ posW w s 3 = er.toNat := by
  obtain ⟨-, -, c2, c3, -, -⟩ := h.src.cells
  unfold posW
  rw [c2, c3]
  simp

set_option maxHeartbeats 2000000 in
theorem dNext_any (s : Nat) (sv : Value) (l : List UInt8) (a : Nat) (w : World) (h : SrcB w s sv l a 0) (ha : a < l.length) (hl : l.length ≤ 140737488355328) :
    Calls Try.prog 24 #[.pointer (some ⟨s, 0, none⟩)] w fun e w' => ∃ (F T : Nat) (V : List UInt8) (so : Option Addr) (sc a4 : Nat) (e4 : Int),
      e = .returned (.agg #[.int .i64 F, .int .i64 T, .slice so V.length sc]) ∧ Bs w' (.slice so V.length sc) V ∧ (∀ g, (Value.slice so V.length sc).ownBlock = some g → w.heap.size ≤ g ∧ g < w'.heap.size) ∧
      Kept [s] w w' ∧ SrcB w' s sv l a4 e4 ∧ (e4 = 0 ∨ e4 = 3) ∧ a ≤ a4 ∧ attrAt l a = (if e4 = 0 then some (⟨F, T, V⟩, a4) else none) := by
  have HA := Lib.hid (Same.alloc w (rwO 59 ⟨0, 0, []⟩ (.slice none 0 0)))
  have HZ : Hid ((w.alloc (rwO 59 ⟨0, 0, []⟩ (.slice none 0 0))).heap[w.heap.size]? = some (rwO 59 ⟨0, 0, []⟩ (.slice none 0 0))) := heap_alloc_new w _
  have HSR := Lib.hid (h.same HA.out)
  have HBs : Hid (w.heap.size ≠ s) := by have := h.src.lt; show _ ≠ _; omega
  have HBa : Hid (sv.ownBlock ≠ some w.heap.size) := fun he => by have := h.lt _ he; omega
  clear h
  generalize hW : w.alloc (rwO 59 ⟨0, 0, []⟩ (.slice none 0 0)) = W at HA HZ HSR
  have HL := Lib.hid hl
  clear hl
  go_enter Try.func24, Try.ntmps24
  go_wp2_with fail
  clear hW
  refine (U8_made s sv l a 0 W HSR.out).mono ?_
  rintro e w2 ⟨rfl, hm2, hsr2⟩
  obtain ⟨F, hF⟩ : ∃ F, numOut (stepOut l a 0 1) = F := ⟨_, rfl⟩
  obtain ⟨a1, ha1⟩ : ∃ x, stepAt l a 0 1 = x := ⟨_, rfl⟩
  obtain ⟨e1, he1⟩ : ∃ x, stepErr l a 0 1 = x := ⟨_, rfl⟩
  have HE1 := Lib.hid (he1 ▸ stepErr_or l a 0 1 (by omega) (.inl rfl))
  have HL1 := Lib.hid (ha1 ▸ stepAt_le l a 0 1)
  have hF8 : F < 256 := by
    rw [← hF]
    obtain ⟨s1, -, -⟩ := step_yes (l := l) (a := a) (k := 1) (by omega)
    rw [show ((1 : Nat) : Int) = 1 from rfl] at s1
    rw [s1]
    exact nmb_lt l a 1
  rw [ha1, he1] at hsr2
  rw [hF]
  have HSR2 := Lib.hid hsr2
  have HQ1 := Lib.hid (And.intro hF (And.intro ha1 he1))
  have HF8 := Lib.hid hF8
  have HK2 : Hid (Kept [s] w w2) := ((Kept.refl [s] w).same HA.out).mod hm2 (.inl (by simp))
  have HZ2 : Hid (w2.heap[w.heap.size]? = some (rwO 59 ⟨0, 0, []⟩ (.slice none 0 0))) := by show _ = _; rw [hm2.block _ (Array.getElem?_eq_some_iff.1 HZ.out).1 HBs.out]; exact HZ.out
  clear hm2 hsr2 hF ha1 he1 hF8
  go_wp2_with fail
  refine (U8_made s sv l a1 e1 w2 HSR2.out).mono ?_
  rintro e w4 ⟨rfl, hm4, hsr4⟩
  obtain ⟨T, hT⟩ : ∃ T, numOut (stepOut l a1 e1 1) = T := ⟨_, rfl⟩
  obtain ⟨a2, ha2⟩ : ∃ x, stepAt l a1 e1 1 = x := ⟨_, rfl⟩
  obtain ⟨e2, he2⟩ : ∃ x, stepErr l a1 e1 1 = x := ⟨_, rfl⟩
  have HE2 := Lib.hid (he2 ▸ stepErr_or l a1 e1 1 (by omega) HE1.out)
  have HL2 := Lib.hid (Nat.le_trans HL1.out (ha2 ▸ stepAt_le l a1 e1 1))
  rw [ha2, he2] at hsr4
  rw [hT]
  have HSR4 := Lib.hid hsr4
  have HQ2 := Lib.hid (And.intro hT (And.intro ha2 he2))
  have HK4 := Lib.hid (HK2.out.mod hm4 (.inl (by simp)))
  have HZ4 : Hid (w4.heap[w.heap.size]? = some (rwO 59 ⟨0, 0, []⟩ (.slice none 0 0))) := by show _ = _; rw [hm4.block _ (Array.getElem?_eq_some_iff.1 HZ2.out).1 HBs.out]; exact HZ2.out
  clear hm4 hsr4 hT ha2 he2
  by_cases hx : extF F
  · have hz : bits .and .i64 (F : Int) 16 = 16 := by rw [i64_and16, if_pos hx]
    have HLK : Hid (lenK F = 2) := if_pos hx
    clear hx
    go_wp2_with fail
    refine (U16_made s sv l a2 e2 w4 HSR4.out).mono ?_
    rintro e w6 ⟨rfl, hm6, hsr6⟩
    obtain ⟨N, hN⟩ : ∃ N, numOut (stepOut l a2 e2 2) = N := ⟨_, rfl⟩
    obtain ⟨a3, ha3⟩ : ∃ x, stepAt l a2 e2 2 = x := ⟨_, rfl⟩
    obtain ⟨e3, he3⟩ : ∃ x, stepErr l a2 e2 2 = x := ⟨_, rfl⟩
    have HE3 := Lib.hid (he3 ▸ stepErr_or l a2 e2 2 (by omega) HE2.out)
    have HL3 := Lib.hid (Nat.le_trans HL2.out (ha3 ▸ stepAt_le l a2 e2 2))
    rw [ha3, he3] at hsr6
    rw [hN]
    have HSR6 := Lib.hid hsr6
    have HQ3 := Lib.hid (And.intro hN (And.intro ha3 he3))
    have HK6 := Lib.hid (HK4.out.mod hm6 (.inl (by simp)))
    have HZ6 : Hid (w6.heap[w.heap.size]? = some (rwO 59 ⟨0, 0, []⟩ (.slice none 0 0))) := by show _ = _; rw [hm6.block _ (Array.getElem?_eq_some_iff.1 HZ4.out).1 HBs.out]; exact HZ4.out
    clear hm6 hsr6 hN ha3 he3 hz
    go_wp2_with fail
    refine (Bytes_made s sv l a3 e3 N w6 HSR6.out HL.out).mono ?_
    rintro e w7 ⟨vv, rfl, ho7, hm7, hsr7⟩
    obtain ⟨V, hV⟩ : ∃ V, listOut (stepOut l a3 e3 N) = V := ⟨_, rfl⟩
    obtain ⟨a4, ha4⟩ : ∃ x, stepAt l a3 e3 N = x := ⟨_, rfl⟩
    obtain ⟨e4, he4⟩ : ∃ x, stepErr l a3 e3 N = x := ⟨_, rfl⟩
    have HE4 := Lib.hid (he4 ▸ stepErr_or l a3 e3 N (by omega) HE3.out)
    have HL4 := Lib.hid (Nat.le_trans HL3.out (ha4 ▸ stepAt_le l a3 e3 N))
    rw [hV] at ho7
    rw [ha4, he4] at hsr7
    have HAT := Lib.hid (attr_steps l a ha a1 a2 a3 a4 e1 e2 e3 e4 F T N V HQ1.out.1 HQ1.out.2.1 HQ1.out.2.2 HQ2.out.1 HQ2.out.2.1 HQ2.out.2.2 (by rw [HLK.out]; exact HQ3.out.1) (by rw [HLK.out]; exact HQ3.out.2.1) (by rw [HLK.out]; exact HQ3.out.2.2) hV ha4 he4)
    have HSR7 := Lib.hid hsr7
    have HO7 := Lib.hid ho7
    have HK7 := Lib.hid (HK6.out.mod hm7 (.inl (by simp)))
    have HZ7 : Hid (w7.heap[w.heap.size]? = some (rwO 59 ⟨0, 0, []⟩ (.slice none 0 0))) := by show _ = _; rw [hm7.block _ (Array.getElem?_eq_some_iff.1 HZ6.out).1 HBs.out]; exact HZ6.out
    have HR6 : Hid (w.heap.size < w6.heap.size) := (Array.getElem?_eq_some_iff.1 HZ6.out).1
    have HOn : Hid (∀ g, vv.ownBlock = some g → w.heap.size < g ∧ g < w7.heap.size) := fun g hg => by have := ho7.lt g hg; have := HR6.out; omega
    obtain ⟨m, hm⟩ : ∃ m, V.length = m := ⟨_, rfl⟩
    have HVM := Lib.hid hm
    obtain ⟨so, sc, rfl⟩ : ∃ so sc, vv = .slice so m sc := by
      obtain ⟨ao, cp, hv, -, -, -, -⟩ := ho7.bs
      exact ⟨ao, cp, by rw [hv, hm]⟩
    clear hsr7 ho7 hm7 hV ha4 he4 hm
    obtain ⟨c0, c1, c2⟩ := RwAt.of (r := ⟨0, 0, []⟩) (vo := .slice none 0 0) HZ7.out
    have hfz : ∀ j, w7.frozen? ⟨w.heap.size, j, none⟩ = false := fun j => by simp only [World.frozen?, HZ7.out]; simp
    go_wp2_with fail
    have HC := sets_cells w.heap.size 59 [.int .i64 F, .int .i64 T, .slice so m sc] w7 [] [.int .i64 0, .int .i64 0, .slice none 0 0] HZ7.out rfl
    dsimp only [setsC, Nat.reduceAdd, List.length_nil, List.nil_append] at HC
    generalize World.setCell _ ⟨w.heap.size, 2, none⟩ _ = U at HC ⊢
    obtain ⟨x0, x1, x2⟩ := RwAt.of (r := ⟨F, T, V⟩) (vo := .slice so m sc) HC.2
    have HB7 := HO7.out.bs
    refine bodyPost_ret (v := .agg #[.int .i64 F, .int .i64 T, .slice so m sc]) ?_ rfl ⟨F, T, V, so, sc, a4, e4, by rw [HVM.out], by rw [HVM.out]; exact HB7.mod HC.1 (fun he => by have := HOn.out _ he; omega), by rw [HVM.out]; exact fun g hg => ⟨by have := HOn.out _ hg; omega, by have := HOn.out _ hg; have := HC.1.size; omega⟩, HK7.out.mod HC.1 (.inr (Nat.le_refl _)), HSR7.out.other HC.1 HBs.out.symm HBa.out, HE4.out, HL4.out, HAT.out⟩
    simp [results, Try.results24, go_sem, x0, x1, x2]
  · have hz : bits .and .i64 (F : Int) 16 = 0 := by rw [i64_and16, if_neg hx]
    have HLK : Hid (lenK F = 1) := if_neg hx
    clear hx
    go_wp2_with fail
    refine (U8_made s sv l a2 e2 w4 HSR4.out).mono ?_
    rintro e w6 ⟨rfl, hm6, hsr6⟩
    obtain ⟨N, hN⟩ : ∃ N, numOut (stepOut l a2 e2 1) = N := ⟨_, rfl⟩
    obtain ⟨a3, ha3⟩ : ∃ x, stepAt l a2 e2 1 = x := ⟨_, rfl⟩
    obtain ⟨e3, he3⟩ : ∃ x, stepErr l a2 e2 1 = x := ⟨_, rfl⟩
    have HE3 := Lib.hid (he3 ▸ stepErr_or l a2 e2 1 (by omega) HE2.out)
    have HL3 := Lib.hid (Nat.le_trans HL2.out (ha3 ▸ stepAt_le l a2 e2 1))
    rw [ha3, he3] at hsr6
    rw [hN]
    have HSR6 := Lib.hid hsr6
    have HQ3 := Lib.hid (And.intro hN (And.intro ha3 he3))
    have HK6 := Lib.hid (HK4.out.mod hm6 (.inl (by simp)))
    have HZ6 : Hid (w6.heap[w.heap.size]? = some (rwO 59 ⟨0, 0, []⟩ (.slice none 0 0))) := by show _ = _; rw [hm6.block _ (Array.getElem?_eq_some_iff.1 HZ4.out).1 HBs.out]; exact HZ4.out
    clear hm6 hsr6 hN ha3 he3 hz
    go_wp2_with fail
    refine (Bytes_made s sv l a3 e3 N w6 HSR6.out HL.out).mono ?_
    rintro e w7 ⟨vv, rfl, ho7, hm7, hsr7⟩
    obtain ⟨V, hV⟩ : ∃ V, listOut (stepOut l a3 e3 N) = V := ⟨_, rfl⟩
    obtain ⟨a4, ha4⟩ : ∃ x, stepAt l a3 e3 N = x := ⟨_, rfl⟩
    obtain ⟨e4, he4⟩ : ∃ x, stepErr l a3 e3 N = x := ⟨_, rfl⟩
    have HE4 := Lib.hid (he4 ▸ stepErr_or l a3 e3 N (by omega) HE3.out)
    have HL4 := Lib.hid (Nat.le_trans HL3.out (ha4 ▸ stepAt_le l a3 e3 N))
    rw [hV] at ho7
    rw [ha4, he4] at hsr7
    have HAT := Lib.hid (attr_steps l a ha a1 a2 a3 a4 e1 e2 e3 e4 F T N V HQ1.out.1 HQ1.out.2.1 HQ1.out.2.2 HQ2.out.1 HQ2.out.2.1 HQ2.out.2.2 (by rw [HLK.out]; exact HQ3.out.1) (by rw [HLK.out]; exact HQ3.out.2.1) (by rw [HLK.out]; exact HQ3.out.2.2) hV ha4 he4)
    have HSR7 := Lib.hid hsr7
    have HO7 := Lib.hid ho7
    have HK7 := Lib.hid (HK6.out.mod hm7 (.inl (by simp)))
    have HZ7 : Hid (w7.heap[w.heap.size]? = some (rwO 59 ⟨0, 0, []⟩ (.slice none 0 0))) := by show _ = _; rw [hm7.block _ (Array.getElem?_eq_some_iff.1 HZ6.out).1 HBs.out]; exact HZ6.out
    have HR6 : Hid (w.heap.size < w6.heap.size) := (Array.getElem?_eq_some_iff.1 HZ6.out).1
    have HOn : Hid (∀ g, vv.ownBlock = some g → w.heap.size < g ∧ g < w7.heap.size) := fun g hg => by have := ho7.lt g hg; have := HR6.out; omega
    obtain ⟨m, hm⟩ : ∃ m, V.length = m := ⟨_, rfl⟩
    have HVM := Lib.hid hm
    obtain ⟨so, sc, rfl⟩ : ∃ so sc, vv = .slice so m sc := by
      obtain ⟨ao, cp, hv, -, -, -, -⟩ := ho7.bs
      exact ⟨ao, cp, by rw [hv, hm]⟩
    clear hsr7 ho7 hm7 hV ha4 he4 hm
    obtain ⟨c0, c1, c2⟩ := RwAt.of (r := ⟨0, 0, []⟩) (vo := .slice none 0 0) HZ7.out
    have hfz : ∀ j, w7.frozen? ⟨w.heap.size, j, none⟩ = false := fun j => by simp only [World.frozen?, HZ7.out]; simp
    go_wp2_with fail
    have HC := sets_cells w.heap.size 59 [.int .i64 F, .int .i64 T, .slice so m sc] w7 [] [.int .i64 0, .int .i64 0, .slice none 0 0] HZ7.out rfl
    dsimp only [setsC, Nat.reduceAdd, List.length_nil, List.nil_append] at HC
    generalize World.setCell _ ⟨w.heap.size, 2, none⟩ _ = U at HC ⊢
    obtain ⟨x0, x1, x2⟩ := RwAt.of (r := ⟨F, T, V⟩) (vo := .slice so m sc) HC.2
    have HB7 := HO7.out.bs
    refine bodyPost_ret (v := .agg #[.int .i64 F, .int .i64 T, .slice so m sc]) ?_ rfl ⟨F, T, V, so, sc, a4, e4, by rw [HVM.out], by rw [HVM.out]; exact HB7.mod HC.1 (fun he => by have := HOn.out _ he; omega), by rw [HVM.out]; exact fun g hg => ⟨by have := HOn.out _ hg; omega, by have := HOn.out _ hg; have := HC.1.size; omega⟩, HK7.out.mod HC.1 (.inr (Nat.le_refl _)), HSR7.out.other HC.1 HBs.out.symm HBa.out, HE4.out, HL4.out, HAT.out⟩
    simp [results, Try.results24, go_sem, x0, x1, x2]

theorem rawInfoD : (Try.prog.info? (rawLay 59).e).map (fun i => (i.zero, i.size, i.bytes)) = some (some (.agg #[.int .i64 0, .int .i64 0, .slice none 0 0]), (rawLay 59).k, 40) := by kernel_rfl

set_option maxHeartbeats 2000000 in
theorem dSplit_any (v : Value) (l : List UInt8) (w : World) (hb : Bs w v l) (hl : (l.length : Int) ≤ 3000000) :
    Calls Try.prog 8 #[v] w fun e w' => ∃ v' vd, e = .returned (.tuple #[v', ftV (splitF l) vd]) ∧ RawsW 59 w' v' (splitR l) ∧ Bs w' vd (splitF l).data ∧ Same w w' := by
  have HB := Lib.hid hb
  have HRd := fun w hb => Lib.hid (Read_any v l w hb (by omega))
  have HF0 : Hid ((w.alloc (zeroFt 26)).heap[w.heap.size]? = some (zeroFt 26)) := heap_alloc_new w _
  obtain ⟨R, hR⟩ : ∃ R, splitL l = R := ⟨_, rfl⟩
  have HR1 : Hid (∀ ys, R = some ys → splitR l = ys ∧ splitF l = noFt) := fun ys h => by unfold splitR splitF; rw [hR, h]; exact ⟨rfl, rfl⟩
  have HR0 : Hid (R = none → splitR l = [] ∧ splitF l = faultF 1 []) := fun h => by unfold splitR splitF; rw [hR, h]; exact ⟨rfl, rfl⟩
  generalize splitR l = L0 at *
  generalize splitF l = F0 at *
  obtain ⟨ao, cap, rfl, -, -, -, -⟩ := hb
  go_enter Try.func8, Try.ntmps8
  go_wp2_with fail
  refine (HRd _ (HB.out.same (Same.alloc w _))).out.mono ?_
  rintro e W ⟨s, sv, rfl, hs0, hsrc, hs1, hsl⟩
  have HW : Hid (Same w W) := (Same.alloc w _).trans hs1
  have HFW := Lib.hid (hs1.block HF0.out)
  have HSF : Hid (w.heap.size < s) := by show _ < _; simp at hs0; omega
  have HSW : Hid (s < W.heap.size) := hsrc.src.lt
  have HSL : Hid (∀ g, sv.ownBlock = some g → w.heap.size < g) := fun g hg => by have := hsl g hg; simp at this; omega
  have HSRC := Lib.hid hsrc
  have HSL2 : Hid (∀ g, sv.ownBlock = some g → g < W.heap.size) := hsrc.lt
  clear hs0 hsrc hs1 hsl HF0 HB HRd
  go_wp2_with fail
  go_loopw [4] (fun lv wr => ∃ (a : Nat) (er : Int) (xs : List (Rw × Sl)), SrcB wr s sv l a er ∧ (er = 0 ∨ er = 3) ∧ OwnR (rawLay 59) wr W.heap.size lv xs ∧
    (∀ x, x ∈ xs → Bs wr (svV x.1 x.2) x.1.value ∧ ∀ g, (svV x.1 x.2).ownBlock = some g → W.heap.size ≤ g ∧ g < wr.heap.size ∧ lv.ownBlock ≠ some g) ∧
    Kept [s] W wr ∧ (er = 0 → xs.length ≤ a ∧ ∃ f, l.length ≤ a + f ∧ (splitA f l a).map (xs.map (·.1) ++ ·) = R) ∧ (er ≠ 0 → R = none)) (fun _ wr => 2 * (l.length - posW wr s 2) + (if posW wr s 3 = 0 then 1 else 0))
  case atStart => exact ⟨0, 0, [], HSRC.out, .inl rfl, OwnR.nil _ _ _, (fun x h => by cases h), Kept.refl _ _, (fun _ => ⟨by simp, l.length, by omega, by rw [← hR]; unfold splitL; simp⟩), fun h => (h rfl).elim⟩
  case round =>
    obtain ⟨a, er, xs, hsr, her, hov, hxb, hkp, hr1, hr0⟩ := hrel
    have HSR := Lib.hid hsr
    have HOV := Lib.hid hov
    have HXB := Lib.hid hxb
    have HKP := Lib.hid hkp
    have hpos := hsr.pos2
    rw [hpos.1, hpos.2]
    have hle := hsr.le
    have HLf := Lib.hid (Left_made s sv l a er wr HSR.out)
    clear hsr hov hxb hkp hpos
    rcases her with rfl | rfl
    · rw [if_pos rfl] at HLf
      obtain ⟨hxa, f, hf, hrr⟩ := hr1 rfl
      have HRR := Lib.hid hrr
      clear hr1 hr0 hrr
      go_wp2_with fail
      refine HLf.out.mono ?_
      rintro e w1 ⟨rfl, hs1⟩
      have HS1 := Lib.hid hs1
      clear hs1 HLf
      by_cases hend : l.length ≤ a
      · have i1 : ¬ (0 < (l.length : Int) - a) := by omega
        have HEr := Lib.hid (err_made s sv a 0 w1 (HSR.out.same HS1.out).src)
        go_wp2_with fail
        refine HEr.out.mono ?_
        rintro e w2 ⟨rfl, rfl⟩
        have HFw := Lib.hid (HS1.out.block (HKP.out.at HFW.out (by have := HSF.out; simp; omega)))
        obtain ⟨c0, c1, c2⟩ := FtAt.of (f := noFt) (vd := .slice none 0 0) HFw.out
        have hfz : ∀ j, w1.frozen? ⟨w.heap.size, j, none⟩ = false := fun j => by simp only [World.frozen?, HFw.out]; simp
        go_wp2_with fail
        have HSw : Hid (Same w w1) := (HKP.out.to_same HW.out (fun k hk => by have := HSF.out; simp at hk; omega)).trans HS1.out
        have HE := cells_end [.int .i64 0, .int .i64 0, .slice none 0 0] [.int .i64 0, .int .i64 0, .slice none 0 0] (Nat.le_refl _) HSw.out HFw.out rfl
        dsimp only [setsC, Nat.reduceAdd] at HE
        generalize World.setCell _ ⟨w.heap.size, 2, none⟩ _ = U at HE ⊢
        obtain ⟨x0, x1, x2⟩ := FtAt.of (f := noFt) (vd := .slice none 0 0) HE.1
        have he := splitA_end (f := f) hend
        obtain ⟨y1, y2⟩ := HR1.out (xs.map (·.1)) (by rw [← HRR.out, he]; simp)
        have HRw : RawsW 59 U u4 (xs.map (·.1)) := ⟨xs, rfl, ((HOV.out.same HS1.out).mod HE.2.2 (fun he => by have := (HOV.out.lt _ he).1; have h1 := HSF.out; have h2 := HSW.out; omega)).rs, fun x hx => by
          obtain ⟨b1, b2⟩ := HXB.out x hx
          exact (b1.same HS1.out).mod HE.2.2 (fun he => by have := (b2 _ he).1; have h1 := HSF.out; have h2 := HSW.out; omega)⟩
        refine bodyPost_ret (v := .tuple #[u4, ftV noFt (.slice none 0 0)]) ?_ rfl ⟨_, _, by rw [y2], by rw [y1]; exact HRw, by rw [y2]; exact Bs.nil _, HE.2.1⟩
        simp [results, Try.results8, go_sem, x0, x1, x2, noFt]
      · have ha : a < l.length := by omega
        have i1 : (0 < (l.length : Int) - a) := by omega
        have HNx := Lib.hid (dNext_any s sv l a w1 (HSR.out.same HS1.out) ha (by omega))
        have HK1 := Lib.hid (HKP.out.same HS1.out)
        clear hend
        go_wp2_with fail
        refine HNx.out.mono ?_
        rintro e w2 ⟨F, T, V, so, sc, a4, e4, rfl, hbv, hov2, hk2, hsr2, he4, hal, hat⟩
        have HBV := Lib.hid hbv
        have HOV2 := Lib.hid hov2
        have HK2 := Lib.hid hk2
        have HSR2 := Lib.hid hsr2
        have HAT := Lib.hid hat
        obtain ⟨m, hm⟩ : ∃ m, V.length = m := ⟨_, rfl⟩
        have HVM := Lib.hid hm
        rw [hm]
        have hle4 := hsr2.le
        clear hbv hov2 hk2 hsr2 hat hm HNx
        have HX1 : Hid (Rs (rawLay 59) (w2.alloc (.cells #[.int .i64 (F : Int), .int .i64 (T : Int), .slice so m sc] 59)) (.slice (some ⟨w2.heap.size, 0, none⟩) 1 1) [((⟨F, T, V⟩, ⟨so, sc⟩) : Rw × Sl)]) :=
          Rs.one (rawLay 59) w2 ((⟨F, T, V⟩, ⟨so, sc⟩) : Rw × Sl) #[.int .i64 (F : Int), .int .i64 (T : Int), .slice so m sc] (by show _ = [_, _, Value.slice so V.length sc]; rw [HVM.out])
        have HAA := Lib.hid (Same.alloc w2 (.cells #[.int .i64 (F : Int), .int .i64 (T : Int), .slice so m sc] 59))
        have HK3 : Hid (Kept [s] wr (w2.alloc (.cells #[.int .i64 (F : Int), .int .i64 (T : Int), .slice so m sc] 59))) := (((Kept.refl [s] wr).same HS1.out).trans HK2.out).same HAA.out
        have HOVb : Hid (∀ g, u4.ownBlock = some g → W.heap.size ≤ g ∧ g < wr.heap.size) := HOV.out.lt
        have HOV9 := Lib.hid (HOV.out.kept HK3.out (fun g hg => by have := (HOVb.out g hg).1; have := HSW.out; simp; omega))
        have HLn : Hid (xs.length + [((⟨F, T, V⟩, ⟨so, sc⟩) : Rw × Sl)].length ≤ 1099511627776) := by show _ ≤ _; simp; omega
        have HSZ : Hid (W.heap.size ≤ (w2.alloc (.cells #[.int .i64 (F : Int), .int .i64 (T : Int), .slice so m sc] 59)).heap.size) := Nat.le_trans HKP.out.size HK3.out.size
        have HSR9 := Lib.hid (HSR2.out.same HAA.out)
        have HW12 : Hid (wr.heap.size ≤ w1.heap.size) := HS1.out.size
        have HSX : Hid ((w2.alloc (.cells #[.int .i64 (F : Int), .int .i64 (T : Int), .slice so m sc] 59)).heap.size = w2.heap.size + 1) := by show _ = _; simp
        go_wp2_with (at_builtin; refine wpList_append_r2 (rawLay 59) Try.underlying24 rawInfoD rfl (by decide) (by decide) rfl _ _ rfl W.heap.size HSZ.out u4 xs rfl HOV9.out _ [((⟨F, T, V⟩, ⟨so, sc⟩) : Rw × Sl)] rfl HX1.out HLn.out ?_; intro v9 w9 ho9 hg9 hl9)
        have HKg : Kept (u4.ownBlock.toList) (w2.alloc (.cells #[.int .i64 (F : Int), .int .i64 (T : Int), .slice so m sc] 59)) w9 := (Kept.refl _ _).grown hg9 (fun s hs => .inl (by rw [hs]; simp))
        have hrow : ∀ g, g ∈ u4.ownBlock.toList → W.heap.size ≤ g ∧ g < wr.heap.size := fun g hg => HOVb.out g (by simpa using hg)
        have hsrc9 : SrcB w9 s sv l a4 e4 := HSR9.out.kept HKg (fun h => by have := (hrow _ h).1; have := HSW.out; omega) (fun g hg h => by have := (hrow _ h).1; have := HSL2.out g hg; omega)
        have hpos := hsrc9.pos2
        have hat := HAT.out
        refine ⟨⟨a4, e4, xs ++ [(⟨F, T, V⟩, ⟨so, sc⟩)], hsrc9, he4, ho9, fun x hx => ?_, (HKP.out.trans HK3.out).grown hg9 (fun s hs => .inr (HOVb.out s hs).1), fun h0 => ?_, fun h0 => ?_⟩, ?_⟩
        · rcases List.mem_append.1 hx with hx | hx
          · obtain ⟨b1, b2⟩ := HXB.out x hx
            refine ⟨(b1.kept HK3.out (fun g hg => ?_)).kept HKg (fun g hg h => ?_), fun g hg => ?_⟩
            · have := (b2 g hg).1; have := HSW.out; simp; omega
            · exact (b2 g hg).2.2 (by simpa using h)
            · obtain ⟨q1, q2, q3⟩ := b2 g hg
              have hz1 := HK3.out.size
              refine ⟨q1, by have := hg9.size; omega, fun he => ?_⟩
              rcases hl9 with h | h
              · exact q3 (h ▸ he)
              · rw [h] at he; have := Option.some.inj he; omega
          · obtain rfl : x = (⟨F, T, V⟩, ⟨so, sc⟩) := by simpa using hx
            refine ⟨(HBV.out.same (HVM.out ▸ HAA.out)).kept (HVM.out ▸ HKg) (fun g hg h => ?_), fun g hg => ?_⟩
            · have := (hrow g h).2; have := (HOV2.out g hg).1; have := HW12.out; omega
            · obtain ⟨q1, q2⟩ := HOV2.out g hg
              have h1 := HW12.out
              have h2 := HKP.out.size
              have h3 := hg9.size
              have h4 := HSX.out
              refine ⟨by omega, by omega, fun he => ?_⟩
              rcases hl9 with h | h
              · rw [h] at he; have := (HOVb.out g he).2; omega
              · rw [h] at he; have := Option.some.inj he; omega
        · rw [if_pos h0] at hat
          obtain ⟨f', rfl, hsp⟩ := splitA_some (f := f) ha hf hat
          obtain ⟨hb3, hbl⟩ := attrAt_far hat
          refine ⟨by simp; omega, f', by omega, ?_⟩
          rw [← HRR.out, hsp, Option.map_map]
          congr 1
          funext ys
          simp
        · rw [if_neg h0] at hat
          rw [← HRR.out, splitA_none (f := f) ha hf hat]
          rfl
        · rw [hpos.1, hpos.2]
          rcases he4 with rfl | rfl
          · rw [if_pos rfl] at hat
            obtain ⟨hb3, hbl⟩ := attrAt_far hat
            simp
            omega
          · simp
            omega
    · rw [if_neg (by decide)] at HLf
      have HRN := Lib.hid (hr0 (by decide))
      clear hr1 hr0
      go_wp2_with fail
      refine HLf.out.mono ?_
      rintro e w1 ⟨rfl, hs1⟩
      have HS1 := Lib.hid hs1
      clear hs1 HLf
      have HEr := Lib.hid (err_made s sv a 3 w1 (HSR.out.same HS1.out).src)
      go_wp2_with fail
      refine HEr.out.mono ?_
      rintro e w2 ⟨rfl, rfl⟩
      obtain ⟨y1, y2⟩ := HR0.out HRN.out
      have HY := Lib.hid (And.intro y1 y2)
      clear y1 y2
      go_wp2_with fail
      refine (dFault_any 1 none 0 0 _).mono ?_
      rintro e w9 ⟨rfl, hs9⟩
      have HKW := Lib.hid ((HKP.out.same HS1.out).same hs9)
      have HFw := Lib.hid (HKW.out.at HFW.out (by have := HSF.out; simp; omega))
      clear hs9
      obtain ⟨g0, g1, g2⟩ := FtAt.of (f := noFt) (vd := .slice none 0 0) HFw.out
      have hfz9 : ∀ j, w9.frozen? ⟨w.heap.size, j, none⟩ = false := fun j => by simp only [World.frozen?, HFw.out]; simp
      go_wp2_with fail
      have HSw : Hid (Same w w9) := HKW.out.to_same HW.out (fun k hk => by have := HSF.out; simp at hk; omega)
      have HE := cells_end [.int .i64 3, .int .i64 1, .slice none 0 0] [.int .i64 0, .int .i64 0, .slice none 0 0] (Nat.le_refl _) HSw.out HFw.out rfl
      dsimp only [setsC, Nat.reduceAdd] at HE
      generalize World.setCell _ ⟨w.heap.size, 2, none⟩ _ = U at HE ⊢
      obtain ⟨x0, x1, x2⟩ := FtAt.of (f := ⟨3, 1, []⟩) (vd := .slice none 0 0) HE.1
      refine bodyPost_ret (v := .tuple #[.slice none 0 0, ftV ⟨3, 1, []⟩ (.slice none 0 0)]) ?_ rfl ⟨_, _, by rw [HY.out.2]; rfl, by rw [HY.out.1]; exact RawsW.nil _ _, by rw [HY.out.2]; exact Bs.nil _, HE.2.1⟩
      simp [results, Try.results8, go_sem, x0, x1, x2]
end Go.Proofs.Ytfhaaenmllkbnaa
