/- Contract of the document's own Split of layer 7. No condition beyond what it names. -/
import Derived.Test.YtfhaaenmllkbnaaAtRC
import Derived.Test.YtfhaaenmllkbnaaKept
import Derived.Test.YtfhaaenmllkbnaaRefB
namespace Go.Proofs.Ytfhaaenmllkbnaa
open Go.RowKit
set_option linter.unusedVariables false

theorem step_no {l : List UInt8} {a k : Nat} (h : l.length < a + k) : stepOut l a 0 k = none ∧ stepAt l a 0 k = a ∧ stepErr l a 0 k = 3 := by
  unfold stepOut stepAt stepErr
  rw [if_neg (by omega), if_neg (by omega), if_pos rfl, if_neg (by omega), if_pos (by omega)]
  exact ⟨rfl, rfl, rfl⟩
theorem step_bad {l : List UInt8} {a : Nat} {er n : Int} (h : er ≠ 0) : stepOut l a er n = none ∧ stepAt l a er n = a ∧ stepErr l a er n = er := by
  unfold stepOut stepAt stepErr
  rw [if_neg (by omega), if_neg (by omega), if_neg h]
  exact ⟨rfl, rfl, rfl⟩
/-- the four steps of an attribute, as a source of bytes goes them -/
theorem attr_steps (l : List UInt8) (a : Nat) (ha : a < l.length) (a1 a2 a3 a4 : Nat) (e1 e2 e3 e4 : Int) (F T N : Nat) (V : List UInt8)
    (hF : numOut (stepOut l a 0 1) = F) (h1 : stepAt l a 0 1 = a1) (h1' : stepErr l a 0 1 = e1)
    (hT : numOut (stepOut l a1 e1 1) = T) (h2 : stepAt l a1 e1 1 = a2) (h2' : stepErr l a1 e1 1 = e2)
    (hN : numOut (stepOut l a2 e2 (lenK F)) = N) (h3 : stepAt l a2 e2 (lenK F) = a3) (h3' : stepErr l a2 e2 (lenK F) = e3)
    (hV : listOut (stepOut l a3 e3 N) = V) (h4 : stepAt l a3 e3 N = a4) (h4' : stepErr l a3 e3 N = e4) :
    attrAt l a = if e4 = 0 then some (⟨F, T, V⟩, a4) else none := by
  obtain ⟨s1, s2, s3⟩ := step_yes (l := l) (a := a) (k := 1) (by omega)
  rw [show ((1 : Nat) : Int) = 1 from rfl] at s1 s2 s3
  rw [s1] at hF; rw [s2] at h1; rw [s3] at h1'
  subst h1 h1'
  have eF : nmb l a 1 = F := hF
  unfold attrAt
  rw [eF]
  by_cases k2 : a + 2 ≤ l.length
  · obtain ⟨t1, t2, t3⟩ := step_yes (l := l) (a := a + 1) (k := 1) (by omega)
    rw [show ((1 : Nat) : Int) = 1 from rfl] at t1 t2 t3
    rw [t1] at hT; rw [t2] at h2; rw [t3] at h2'
    subst h2 h2'
    have eT : nmb l (a + 1) 1 = T := hT
    rw [eT]
    by_cases k3 : a + 2 + lenK F ≤ l.length
    · obtain ⟨u1, u2, u3⟩ := step_yes (l := l) (a := a + 2) (k := lenK F) (by omega)
      rw [show a + 1 + 1 = a + 2 from rfl] at hN h3 h3'
      rw [u1] at hN; rw [u2] at h3; rw [u3] at h3'
      subst h3 h3'
      have eN : nmb l (a + 2) (lenK F) = N := hN
      rw [eN, if_neg (by omega)]
      by_cases k4 : a + 2 + lenK F + N ≤ l.length
      · obtain ⟨v1, v2, v3⟩ := step_yes (l := l) (a := a + 2 + lenK F) (k := N) (by omega)
        rw [v1] at hV; rw [v2] at h4; rw [v3] at h4'
        subst h4 h4'
        rw [if_neg (by omega), if_pos rfl]
        rw [show (l.drop (a + 2 + lenK F)).take N = V from hV]
      · obtain ⟨v1, v2, v3⟩ := step_no (l := l) (a := a + 2 + lenK F) (k := N) (by omega)
        rw [v3] at h4'
        subst h4'
        rw [if_pos (by omega), if_neg (by decide)]
    · obtain ⟨u1, u2, u3⟩ := step_no (l := l) (a := a + 2) (k := lenK F) (by omega)
      rw [show a + 1 + 1 = a + 2 from rfl] at hN h3 h3'
      rw [u3] at h3'
      subst h3'
      have := (step_bad (l := l) (a := a3) (er := 3) (n := N) (by decide)).2.2
      rw [this] at h4'
      subst h4'
      rw [if_pos (by omega), if_neg (by decide)]
  · obtain ⟨t1, t2, t3⟩ := step_no (l := l) (a := a + 1) (k := 1) (by omega)
    rw [show ((1 : Nat) : Int) = 1 from rfl] at t1 t2 t3
    rw [t3] at h2'
    subst h2'
    have b3 := (step_bad (l := l) (a := a2) (er := 3) (n := lenK F) (by decide)).2.2
    rw [b3] at h3'
    subst h3'
    have b4 := (step_bad (l := l) (a := a3) (er := 3) (n := N) (by decide)).2.2
    rw [b4] at h4'
    subst h4'
    rw [if_pos (by have := lenK_or (F : Int); omega), if_neg (by decide)]
theorem attrAt_far {l : List UInt8} {a b : Nat} {r : Rw} (h : attrAt l a = some (r, b)) : a + 3 ≤ b ∧ b ≤ l.length := by
  unfold attrAt at h
  split at h
  · cases h
  · split at h
    · cases h
    · have := lenK_or (nmb l a 1 : Int)
      cases h
      omega
theorem splitA_end {f : Nat} {l : List UInt8} {a : Nat} (h : l.length ≤ a) : splitA f l a = some [] := by
  cases f with
  | zero => rfl
  | succ f => rw [splitA, if_pos h]
theorem splitA_none {f : Nat} {l : List UInt8} {a : Nat} (h : a < l.length) (hf : l.length ≤ a + f) (hn : attrAt l a = none) : splitA f l a = none := by
  cases f with
  | zero => omega
  | succ f => rw [splitA, if_neg (by omega), hn]
theorem splitA_some {f : Nat} {l : List UInt8} {a b : Nat} {r : Rw} (h : a < l.length) (hf : l.length ≤ a + f) (hn : attrAt l a = some (r, b)) : ∃ f', f = f' + 1 ∧ splitA f l a = (splitA f' l b).map (r :: ·) := by
  cases f with
  | zero => omega
  | succ f => exact ⟨f, rfl, by rw [splitA, if_neg (by omega), hn]⟩

abbrev zeroFt (t : TypeId) : Obj := .cells #[.int .i64 0, .int .i64 0, .slice none 0 0] t

theorem RSrcB.kept {ss : List Nat} {w w' : World} {s : Nat} {all : Value} {l : List UInt8} {a : Nat} {er : Int} (h : RSrcB w s all l a er) (hk : Kept ss w w') (hs : s ∉ ss) (ha : ∀ g, all.ownBlock = some g → g ∉ ss) : RSrcB w' s all l a er :=
  ⟨by have := h.src; unfold RSrc at *; exact hk.at this hs, h.bs.kept hk ha, h.ne, fun g hg => Nat.lt_of_lt_of_le (h.lt g hg) hk.size, h.le⟩

/-- cells written one by one -/
def setsC (R : Nat) : World → Nat → List Value → World
  | u, _, [] => u
  | u, i, v :: vs => setsC R (u.setCell ⟨R, i, none⟩ v) (i + 1) vs
theorem sets_cells (R : Nat) (t : TypeId) : ∀ (vs : List Value) (u : World) (pre old : List Value), u.heap[R]? = some (.cells (pre ++ old).toArray t (0, 0)) → old.length = vs.length →
    Mod R u (setsC R u pre.length vs) ∧ (setsC R u pre.length vs).heap[R]? = some (.cells (pre ++ vs).toArray t (0, 0))
  | [], u, pre, old, hk, hl => by
    obtain rfl : old = [] := List.eq_nil_of_length_eq_zero hl
    exact ⟨Mod.refl R u, hk⟩
  | v :: vs, u, pre, [], hk, hl => by simp at hl
  | v :: vs, u, pre, o :: old, hk, hl => by
    have h1 : (u.setCell ⟨R, pre.length, none⟩ v).heap[R]? = some (.cells ((pre ++ o :: old).toArray.setIfInBounds pre.length v) t (0, 0)) := by
      simp [World.setCell, Array.getElem?_modify, hk]
    have e : ((pre ++ o :: old).toArray.setIfInBounds pre.length v) = ((pre ++ [v]) ++ old).toArray := by simp
    rw [e] at h1
    have := sets_cells R t vs (u.setCell ⟨R, pre.length, none⟩ v) (pre ++ [v]) old h1 (by simpa using hl)
    rw [List.length_append, List.length_singleton] at this
    refine ⟨(Mod.setCell R pre.length u v).trans this.1, ?_⟩
    have h2 := this.2
    rw [List.append_assoc] at h2
    exact h2
/-- a way out, a struct in the cell that the call made first -/
theorem cells_end {t : TypeId} {B : Nat} {w u : World} (vs old : List Value) (hB : w.heap.size ≤ B) (hs : Same w u) (hk : u.heap[B]? = some (.cells old.toArray t (0, 0))) (hl : old.length = vs.length) :
    (setsC B u 0 vs).heap[B]? = some (.cells vs.toArray t (0, 0)) ∧ Same w (setsC B u 0 vs) ∧ Mod B u (setsC B u 0 vs) := by
  have := sets_cells B t vs u [] old hk hl
  exact ⟨this.2, Below.trans hs (this.1.below hB hs.size), this.1⟩

set_option maxRecDepth 100000 in
set_option maxHeartbeats 2000000 in
theorem rSplit_any (v : Value) (l : List UInt8) (w : World) (hb : Bs w v l) (hl : (l.length : Int) ≤ 1000000) :
    Calls Try.prog 9 #[v] w fun e w' => ∃ v' vd, e = .returned (.tuple #[v', ftV (splitF l) vd]) ∧ RawsW 66 w' v' (splitR l) ∧ Bs w' vd (splitF l).data ∧ Same w w' := by
  have HB := Lib.hid hb
  have HRd := fun w hb => Lib.hid (rRead_any v l w hb (by omega))
  have HF0 : Hid ((w.alloc (zeroFt 26)).heap[w.heap.size]? = some (zeroFt 26)) := heap_alloc_new w _
  obtain ⟨R, hR⟩ : ∃ R, splitL l = R := ⟨_, rfl⟩
  have HR1 : Hid (∀ ys, R = some ys → splitR l = ys ∧ splitF l = noFt) := fun ys h => by unfold splitR splitF; rw [hR, h]; exact ⟨rfl, rfl⟩
  have HR0 : Hid (R = none → splitR l = [] ∧ splitF l = faultF 1 []) := fun h => by unfold splitR splitF; rw [hR, h]; exact ⟨rfl, rfl⟩
  generalize splitR l = L0 at *
  generalize splitF l = F0 at *
  obtain ⟨ao, cap, rfl, -, -, -, -⟩ := hb
  go_enter Try.func9, Try.ntmps9
  go_wp2_with fail
  refine (HRd _ (HB.out.same (Same.alloc w _))).out.mono ?_
  rintro e W ⟨s, sv, rfl, hs0, hsrc, hs1, hsl⟩
  have HW : Hid (Same w W) := (Same.alloc w _).trans hs1
  have HFW := Lib.hid (hs1.block HF0.out)
  have HSF : Hid (w.heap.size < s) := by show _ < _; simp at hs0; omega
  have HSW : Hid (s < W.heap.size) := hsrc.src.lt
  have HSL : Hid (∀ g, sv.ownBlock = some g → w.heap.size < g) := fun g hg => by have := hsl g hg; simp at this; omega
  have HSRC := Lib.hid hsrc
  have HSL2 : Hid (∀ g, sv.ownBlock = some g → g < W.heap.size) := hsrc.lt
  clear hs0 hsrc hs1 hsl HF0 HB HRd
  go_wp2_with fail
  go_loopw [5] (fun lv wr => ∃ (a f : Nat) (xs : List (Rw × Sl)), RSrcB wr s sv l a 0 ∧ OwnR (rawLay 66) wr W.heap.size lv xs ∧
    (∀ x, x ∈ xs → Bs wr (svV x.1 x.2) x.1.value ∧ ∀ g, (svV x.1 x.2).ownBlock = some g → W.heap.size ≤ g ∧ g < wr.heap.size ∧ lv.ownBlock ≠ some g) ∧
    Kept [s] W wr ∧ l.length ≤ a + f ∧ xs.length ≤ a ∧ (splitA f l a).map (xs.map (·.1) ++ ·) = R) (fun _ wr => l.length - posW wr s 1)
  case atStart => exact ⟨0, l.length, [], HSRC.out, OwnR.nil _ _ _, (fun x h => by cases h), Kept.refl _ _, by omega, by simp, by rw [← hR]; unfold splitL; simp⟩
  case round =>
    obtain ⟨a, f, xs, hsr, hov, hxb, hkp, hf, hxa, hrr⟩ := hrel
    have HSR := Lib.hid hsr
    have HOV := Lib.hid hov
    have HXB := Lib.hid hxb
    have HKP := Lib.hid hkp
    have HRR := Lib.hid hrr
    have hpos : posW wr s 1 = a := by
      obtain ⟨_, c1, _⟩ := hsr.src.cells
      unfold posW
      rw [c1]
      simp
    rw [hpos]
    have hle := hsr.le
    clear hsr hov hxb hkp hrr hpos
    have HLf := Lib.hid (rLeft_any s sv l a 0 wr HSR.out)
    rw [if_pos rfl] at HLf
    go_wp2_with fail
    refine HLf.out.mono ?_
    rintro e w1 ⟨rfl, hs1⟩
    have HS1 := Lib.hid hs1
    clear hs1 HLf
    by_cases hend : l.length ≤ a
    · have i1 : ¬ (0 < (l.length : Int) - a) := by omega
      have HR2 := Lib.hid (HRR.out)
      have HFw := Lib.hid (HS1.out.block (HKP.out.at HFW.out (by have := HSF.out; simp; omega)))
      obtain ⟨c0, c1, c2⟩ := FtAt.of (f := noFt) (vd := .slice none 0 0) HFw.out
      have hfz : ∀ j, w1.frozen? ⟨w.heap.size, j, none⟩ = false := fun j => by simp only [World.frozen?, HFw.out]; simp
      go_wp2_with fail
      have HSw : Hid (Same w w1) := (HKP.out.to_same HW.out (fun k hk => by have := HSF.out; simp at hk; omega)).trans HS1.out
      have HE := cells_end [.int .i64 0, .int .i64 0, .slice none 0 0] [.int .i64 0, .int .i64 0, .slice none 0 0] (Nat.le_refl _) HSw.out HFw.out rfl
      dsimp only [setsC, Nat.reduceAdd] at HE
      generalize World.setCell _ ⟨w.heap.size, 2, none⟩ _ = U at HE ⊢
      obtain ⟨x0, x1, x2⟩ := FtAt.of (f := noFt) (vd := .slice none 0 0) HE.1
      have he := splitA_end (f := f) hend
      obtain ⟨y1, y2⟩ := HR1.out (xs.map (·.1)) (by rw [← HRR.out, he]; simp)
      have HRw : RawsW 66 U u5 (xs.map (·.1)) := ⟨xs, rfl, ((HOV.out.same HS1.out).mod HE.2.2 (fun he => by have := (HOV.out.lt _ he).1; have h1 := HSF.out; have h2 := HSW.out; omega)).rs, fun x hx => by
        obtain ⟨b1, b2⟩ := HXB.out x hx
        exact (b1.same HS1.out).mod HE.2.2 (fun he => by have := (b2 _ he).1; have h1 := HSF.out; have h2 := HSW.out; omega)⟩
      refine bodyPost_ret (v := .tuple #[u5, ftV noFt (.slice none 0 0)]) ?_ rfl ⟨_, _, by rw [y2], by rw [y1]; exact HRw, by rw [y2]; exact Bs.nil _, HE.2.1⟩
      simp [results, Try.results9, go_sem, x0, x1, x2, noFt]
    · have ha : a < l.length := by omega
      have i1 : (0 < (l.length : Int) - a) := by omega
      have HKs : Hid (∀ k, k ∈ [s] → w.heap.size ≤ k) := fun k hk => by have := HSF.out; simp at hk; omega
      have HK1 := Lib.hid (HKP.out.same HS1.out)
      have HNW : Hid (W.heap.size ≤ w1.heap.size) := HK1.out.size
      clear hend
      go_wp2_with fail
      refine (rU8_any s sv l a 0 w1 (HSR.out.same HS1.out) (by omega)).mono ?_
      rintro e w2 ⟨rfl, hm2, hsr2⟩
      obtain ⟨F, hF⟩ : ∃ F, numOut (stepOut l a 0 1) = F := ⟨_, rfl⟩
      obtain ⟨a1, ha1⟩ : ∃ x, stepAt l a 0 1 = x := ⟨_, rfl⟩
      obtain ⟨e1, he1⟩ : ∃ x, stepErr l a 0 1 = x := ⟨_, rfl⟩
      have hF8 : F < 256 := by
        rw [← hF]
        obtain ⟨s1, -, -⟩ := step_yes (l := l) (a := a) (k := 1) (by omega)
        rw [show ((1 : Nat) : Int) = 1 from rfl] at s1
        rw [s1]
        exact nmb_lt l a 1
      rw [ha1, he1] at hsr2
      rw [hF]
      have HM2 := Lib.hid hm2
      have HSR2 := Lib.hid hsr2
      have HQ1 := Lib.hid (And.intro hF (And.intro ha1 he1))
      have HF8 := Lib.hid hF8
      clear hm2 hsr2 hF ha1 he1
      have HR3 : Hid ((w2.alloc (rwO 66 ⟨F, 0, []⟩ (.slice none 0 0))).heap[w2.heap.size]? = some (rwO 66 ⟨F, 0, []⟩ (.slice none 0 0))) := heap_alloc_new w2 _
      have HA3 := Lib.hid (Same.alloc w2 (rwO 66 ⟨F, 0, []⟩ (.slice none 0 0)))
      have HRs : Hid (w2.heap.size ≠ s) := by have := HNW.out; have := HM2.out.size; have := HSW.out; show _ ≠ _; omega
      have HRW : Hid (wr.heap.size ≤ w2.heap.size) := Nat.le_trans HS1.out.size HM2.out.size
      go_wp2_with fail
      refine (rU8_any s sv l a1 e1 _ (HSR2.out.same HA3.out) (by omega)).mono ?_
      rintro e w4 ⟨rfl, hm4, hsr4⟩
      obtain ⟨T, hT⟩ : ∃ T, numOut (stepOut l a1 e1 1) = T := ⟨_, rfl⟩
      obtain ⟨a2, ha2⟩ : ∃ x, stepAt l a1 e1 1 = x := ⟨_, rfl⟩
      obtain ⟨e2, he2⟩ : ∃ x, stepErr l a1 e1 1 = x := ⟨_, rfl⟩
      rw [ha2, he2] at hsr4
      rw [hT]
      have HM4 := Lib.hid hm4
      have HSR4 := Lib.hid hsr4
      have HQ2 := Lib.hid (And.intro hT (And.intro ha2 he2))
      have HR4 : Hid (w4.heap[w2.heap.size]? = some (rwO 66 ⟨F, 0, []⟩ (.slice none 0 0))) := by show _ = _; rw [HM4.out.block _ (by simp) HRs.out]; exact HR3.out
      have HKx : Hid (Kept [s] wr w4) := (((Kept.refl [s] wr).same HS1.out).mod HM2.out (.inl (by simp))).same HA3.out |>.mod HM4.out (.inl (by simp))
      clear hm4 hsr4 hT ha2 he2
      obtain ⟨c0, c1, c2⟩ := RwAt.of HR4.out
      have hfz : ∀ j, w4.frozen? ⟨w2.heap.size, j, none⟩ = false := fun j => by simp only [World.frozen?, HR4.out]; simp
      have HR5 : Hid ((w4.setCell ⟨w2.heap.size, 1, none⟩ (.int .i64 (T : Int))).heap[w2.heap.size]? = some (rwO 66 ⟨F, T, []⟩ (.slice none 0 0))) := by
        show _ = _
        simp [World.setCell, Array.getElem?_modify, HR4.out]
      have HSR5 : Hid (RSrcB (w4.setCell ⟨w2.heap.size, 1, none⟩ (.int .i64 (T : Int))) s sv l a2 e2) := HSR4.out.other (Mod.setCell w2.heap.size 1 w4 _) HRs.out.symm (fun he => by have h1 := HSR2.out.lt _ he; omega)
      have HK5 : Hid (Kept [s] wr (w4.setCell ⟨w2.heap.size, 1, none⟩ (.int .i64 (T : Int)))) := HKx.out.set 1 _ (.inr HRW.out)
      obtain ⟨d0, d1, d2⟩ := RwAt.of HR5.out
      by_cases hx : extF F
      · have hz : bits .and .i64 (F : Int) 16 = 16 := by rw [i64_and16, if_pos hx]
        have HLK : Hid (lenK F = 2) := if_pos hx
        clear hx
        go_wp2_with fail
        refine (rU16_any s sv l a2 e2 _ HSR5.out (by omega)).mono ?_
        rintro e w6 ⟨rfl, hm6, hsr6⟩
        obtain ⟨N, hN⟩ : ∃ N, numOut (stepOut l a2 e2 2) = N := ⟨_, rfl⟩
        obtain ⟨a3, ha3⟩ : ∃ x, stepAt l a2 e2 2 = x := ⟨_, rfl⟩
        obtain ⟨e3, he3⟩ : ∃ x, stepErr l a2 e2 2 = x := ⟨_, rfl⟩
        rw [ha3, he3] at hsr6
        rw [hN]
        have HSR6 := Lib.hid hsr6
        have HQ3 := Lib.hid (And.intro hN (And.intro ha3 he3))
        have HR6 : Hid (w6.heap[w2.heap.size]? = some (rwO 66 ⟨F, T, []⟩ (.slice none 0 0))) := by show _ = _; rw [hm6.block _ (Array.getElem?_eq_some_iff.1 HR5.out).1 HRs.out]; exact HR5.out
        have HK6 := Lib.hid (HK5.out.mod hm6 (.inl (by simp)))
        clear hm6 hsr6 hN ha3 he3 c0 c1 c2 d0 d1 d2 hfz
        go_wp2_with fail
        refine (rBytes_any s sv l a3 e3 N _ HSR6.out (by omega)).mono ?_
        rintro e w7 ⟨vv, rfl, ho7, hm7, hsr7⟩
        obtain ⟨V, hV⟩ : ∃ V, listOut (stepOut l a3 e3 N) = V := ⟨_, rfl⟩
        obtain ⟨a4, ha4⟩ : ∃ x, stepAt l a3 e3 N = x := ⟨_, rfl⟩
        obtain ⟨e4, he4⟩ : ∃ x, stepErr l a3 e3 N = x := ⟨_, rfl⟩
        rw [hV] at ho7
        rw [ha4, he4] at hsr7
        have hat := attr_steps l a ha a1 a2 a3 a4 e1 e2 e3 e4 F T N V HQ1.out.1 HQ1.out.2.1 HQ1.out.2.2 HQ2.out.1 HQ2.out.2.1 HQ2.out.2.2 (by rw [HLK.out]; exact HQ3.out.1) (by rw [HLK.out]; exact HQ3.out.2.1) (by rw [HLK.out]; exact HQ3.out.2.2) hV ha4 he4
        have HAT := Lib.hid hat
        have HSR7 := Lib.hid hsr7
        have HO7 := Lib.hid ho7
        have HR7 : Hid (w7.heap[w2.heap.size]? = some (rwO 66 ⟨F, T, []⟩ (.slice none 0 0))) := by show _ = _; rw [hm7.block _ (Array.getElem?_eq_some_iff.1 HR6.out).1 HRs.out]; exact HR6.out
        have HK7 := Lib.hid (HK6.out.mod hm7 (.inl (by simp)))
        have HRV : Hid (w2.heap.size < w6.heap.size) := (Array.getElem?_eq_some_iff.1 HR6.out).1
        obtain ⟨m, hm⟩ : ∃ m, V.length = m := ⟨_, rfl⟩
        have HVM := Lib.hid hm
        obtain ⟨so, sc, rfl⟩ : ∃ so sc, vv = .slice so m sc := by
          obtain ⟨ao, cp, hv, -, -, -, -⟩ := ho7.bs
          exact ⟨ao, cp, by rw [hv, hm]⟩
        clear hat hsr7 ho7 hm7 hV ha4 he4 hm
        obtain ⟨c0, c1, c2⟩ := RwAt.of HR7.out
        have hfz : ∀ j, w7.frozen? ⟨w2.heap.size, j, none⟩ = false := fun j => by simp only [World.frozen?, HR7.out]; simp
        have HM8 := Lib.hid (Mod.setCell w2.heap.size 2 w7 (.slice so m sc))
        have HR8 : Hid ((w7.setCell ⟨w2.heap.size, 2, none⟩ (.slice so m sc)).heap[w2.heap.size]? = some (rwO 66 ⟨F, T, []⟩ (.slice so m sc))) := by
          show _ = _
          simp [World.setCell, Array.getElem?_modify, HR7.out]
        have HSR8 : Hid (RSrcB (w7.setCell ⟨w2.heap.size, 2, none⟩ (.slice so m sc)) s sv l a4 e4) := HSR7.out.other HM8.out HRs.out.symm (fun he => by have h1 := HSR2.out.lt _ he; omega)
        have HK8 : Hid (Kept [s] wr (w7.setCell ⟨w2.heap.size, 2, none⟩ (.slice so m sc))) := HK7.out.set 2 _ (.inr HRW.out)
        have HO8 : Hid (OwnB (w7.setCell ⟨w2.heap.size, 2, none⟩ (.slice so m sc)) w6.heap.size (.slice so m sc) V) := OwnB.kept ((Kept.refl [w2.heap.size] w7).set 2 _ (.inl (by simp))) (fun g hg => by have := (HO7.out.lt _ hg).1; have := HRV.out; simp; omega) HO7.out
        obtain ⟨d0, d1, d2⟩ := RwAt.of HR8.out
        obtain ⟨f0, f1, f2, -, -⟩ := HSR8.out.src.cells
        by_cases h4 : e4 = 0
        · subst h4
          rw [if_pos rfl] at HAT
          have hat := HAT.out
          obtain ⟨f', rfl, hsp⟩ := splitA_some (f := f) ha hf hat
          obtain ⟨hb3, hbl⟩ := attrAt_far hat
          have HR9 : Hid ((splitA f' l a4).map ((xs ++ [((⟨F, T, V⟩, ⟨so, sc⟩) : Rw × Sl)]).map (·.1) ++ ·) = R) := by
            show _ = _
            rw [← HRR.out, hsp, Option.map_map]
            congr 1
            funext ys
            simp
          have HX1 : Hid (Rs (rawLay 66) ((w7.setCell ⟨w2.heap.size, 2, none⟩ (.slice so m sc)).alloc (.cells #[.int .i64 (F : Int), .int .i64 (T : Int), .slice so m sc] 66)) (.slice (some ⟨w7.heap.size, 0, none⟩) 1 1) [((⟨F, T, V⟩, ⟨so, sc⟩) : Rw × Sl)]) := by
            have := Rs.one (rawLay 66) (w7.setCell ⟨w2.heap.size, 2, none⟩ (.slice so m sc)) ((⟨F, T, V⟩, ⟨so, sc⟩) : Rw × Sl) #[.int .i64 (F : Int), .int .i64 (T : Int), .slice so m sc] (by show _ = [_, _, Value.slice so V.length sc]; rw [HVM.out])
            rw [show (w7.setCell ⟨w2.heap.size, 2, none⟩ (.slice so m sc)).heap.size = w7.heap.size from by simp [World.setCell]] at this
            exact this
          have HAA := Lib.hid (Same.alloc (w7.setCell ⟨w2.heap.size, 2, none⟩ (.slice so m sc)) (.cells #[.int .i64 (F : Int), .int .i64 (T : Int), .slice so m sc] 66))
          have HK9 := Lib.hid (HK8.out.same HAA.out)
          have HOVb : Hid (∀ g, u5.ownBlock = some g → W.heap.size ≤ g ∧ g < wr.heap.size) := HOV.out.lt
          have HOV9 := Lib.hid (HOV.out.kept HK9.out (fun g hg => by have := (HOVb.out g hg).1; have := HSW.out; simp; omega))
          have HLn : Hid (xs.length + [((⟨F, T, V⟩, ⟨so, sc⟩) : Rw × Sl)].length ≤ 1099511627776) := by show _ ≤ _; simp; omega
          have HSZ : Hid (W.heap.size ≤ ((w7.setCell ⟨w2.heap.size, 2, none⟩ (.slice so m sc)).alloc (.cells #[.int .i64 (F : Int), .int .i64 (T : Int), .slice so m sc] 66)).heap.size) := Nat.le_trans HKP.out.size HK9.out.size
          have HSR9 := Lib.hid (HSR8.out.same HAA.out)
          have HO9 := Lib.hid (HO8.out.same HAA.out)
          have HW67 : Hid (wr.heap.size ≤ w6.heap.size) := HK6.out.size
          have HSX : Hid (((w7.setCell ⟨w2.heap.size, 2, none⟩ (.slice so m sc)).alloc (.cells #[.int .i64 (F : Int), .int .i64 (T : Int), .slice so m sc] 66)).heap.size = w7.heap.size + 1) := by show _ = _; simp [World.setCell]
          clear hat hsp HAT
          go_wp2_with (at_builtin; refine wpList_append_r2 (rawLay 66) Try.underlying29 rawInfo rfl (by decide) (by decide) rfl _ _ rfl W.heap.size HSZ.out u5 xs rfl HOV9.out _ [((⟨F, T, V⟩, ⟨so, sc⟩) : Rw × Sl)] rfl HX1.out HLn.out ?_; intro v9 w9 ho9 hg9 hl9)
          have HKg : Kept (u5.ownBlock.toList) ((w7.setCell ⟨w2.heap.size, 2, none⟩ (.slice so m sc)).alloc (.cells #[.int .i64 (F : Int), .int .i64 (T : Int), .slice so m sc] 66)) w9 := (Kept.refl _ _).grown hg9 (fun s hs => .inl (by rw [hs]; simp))
          have hrow : ∀ g, g ∈ u5.ownBlock.toList → W.heap.size ≤ g ∧ g < wr.heap.size := fun g hg => HOVb.out g (by simpa using hg)
          have hsrc9 : RSrcB w9 s sv l a4 0 := HSR9.out.kept HKg (fun h => by have := (hrow _ h).1; have := HSW.out; omega) (fun g hg h => by have := (hrow _ h).1; have := HSL2.out g hg; omega)
          have hpos : posW w9 s 1 = a4 := by
            obtain ⟨_, c1, _⟩ := hsrc9.src.cells
            unfold posW
            rw [c1]
            simp
          refine ⟨⟨a4, f', xs ++ [(⟨F, T, V⟩, ⟨so, sc⟩)], hsrc9, ho9, fun x hx => ?_, (HKP.out.trans HK9.out).grown hg9 (fun s hs => .inr (HOVb.out s hs).1), by omega, by simp; omega, HR9.out⟩, by rw [hpos]; omega⟩
          rcases List.mem_append.1 hx with hx | hx
          · obtain ⟨b1, b2⟩ := HXB.out x hx
            refine ⟨(b1.kept HK9.out (fun g hg => ?_)).kept HKg (fun g hg h => ?_), fun g hg => ?_⟩
            · have := (b2 g hg).1; have := HSW.out; simp; omega
            · exact (b2 g hg).2.2 (by simpa using h)
            · obtain ⟨q1, q2, q3⟩ := b2 g hg
              have hz1 := HK9.out.size
              refine ⟨q1, by have := hg9.size; omega, fun he => ?_⟩
              rcases hl9 with h | h
              · exact q3 (h ▸ he)
              · rw [h] at he; have := Option.some.inj he; omega
          · obtain rfl : x = (⟨F, T, V⟩, ⟨so, sc⟩) := by simpa using hx
            have hb := HO9.out.bs
            rw [← HVM.out] at hb
            have hlt := HO8.out.lt
            rw [← HVM.out] at hlt
            have hz8 : (w7.setCell ⟨w2.heap.size, 2, none⟩ (.slice so V.length sc)).heap.size = w7.heap.size := by simp [World.setCell]
            refine ⟨hb.kept (HVM.out ▸ HKg) (fun g hg h => ?_), fun g hg => ?_⟩
            · have := (hrow g h).2; have := (hlt g hg).1; have := HW67.out; omega
            · obtain ⟨q1, q2⟩ := hlt g hg
              have h1 := HW67.out
              have h2 := HKP.out.size
              have h3 := hg9.size
              have h4 := HSX.out
              refine ⟨by omega, by omega, fun he => ?_⟩
              rcases hl9 with h | h
              · rw [h] at he; have := (HOVb.out g he).2; omega
              · rw [h] at he; have := Option.some.inj he; omega
        · have hE4 : (e4 != 0) = true := by simpa using h4
          rw [if_neg h4] at HAT
          have hsp := splitA_none (f := f) ha hf HAT.out
          obtain ⟨y1, y2⟩ := HR0.out (by rw [← HRR.out, hsp]; rfl)
          have HY := Lib.hid (And.intro y1 y2)
          clear y1 y2 hsp HAT h4
          go_wp2_with fail
          refine (rFault_any 1 none 0 0 _).mono ?_
          rintro e w9 ⟨rfl, hs9⟩
          have HKW := Lib.hid ((HKP.out.trans HK8.out).same hs9)
          have HFw := Lib.hid (HKW.out.at HFW.out (by have := HSF.out; simp; omega))
          clear hs9
          obtain ⟨g0, g1, g2⟩ := FtAt.of (f := noFt) (vd := .slice none 0 0) HFw.out
          have hfz9 : ∀ j, w9.frozen? ⟨w.heap.size, j, none⟩ = false := fun j => by simp only [World.frozen?, HFw.out]; simp
          go_wp2_with fail
          have HSw : Hid (Same w w9) := HKW.out.to_same HW.out (fun k hk => by have := HSF.out; simp at hk; omega)
          have HE := cells_end [.int .i64 3, .int .i64 1, .slice none 0 0] [.int .i64 0, .int .i64 0, .slice none 0 0] (Nat.le_refl _) HSw.out HFw.out rfl
          dsimp only [setsC, Nat.reduceAdd] at HE
          generalize World.setCell _ ⟨w.heap.size, 2, none⟩ _ = U at HE ⊢
          obtain ⟨x0, x1, x2⟩ := FtAt.of (f := ⟨3, 1, []⟩) (vd := .slice none 0 0) HE.1
          refine bodyPost_ret (v := .tuple #[.slice none 0 0, ftV ⟨3, 1, []⟩ (.slice none 0 0)]) ?_ rfl ⟨_, _, by rw [HY.out.2]; rfl, by rw [HY.out.1]; exact RawsW.nil _ _, by rw [HY.out.2]; exact Bs.nil _, HE.2.1⟩
          simp [results, Try.results9, go_sem, x0, x1, x2]
      
      · have hz : bits .and .i64 (F : Int) 16 = 0 := by rw [i64_and16, if_neg hx]
        have HLK : Hid (lenK F = 1) := if_neg hx
        clear hx
        go_wp2_with fail
        refine (rU8_any s sv l a2 e2 _ HSR5.out (by omega)).mono ?_
        rintro e w6 ⟨rfl, hm6, hsr6⟩
        obtain ⟨N, hN⟩ : ∃ N, numOut (stepOut l a2 e2 1) = N := ⟨_, rfl⟩
        obtain ⟨a3, ha3⟩ : ∃ x, stepAt l a2 e2 1 = x := ⟨_, rfl⟩
        obtain ⟨e3, he3⟩ : ∃ x, stepErr l a2 e2 1 = x := ⟨_, rfl⟩
        rw [ha3, he3] at hsr6
        rw [hN]
        have HSR6 := Lib.hid hsr6
        have HQ3 := Lib.hid (And.intro hN (And.intro ha3 he3))
        have HR6 : Hid (w6.heap[w2.heap.size]? = some (rwO 66 ⟨F, T, []⟩ (.slice none 0 0))) := by show _ = _; rw [hm6.block _ (Array.getElem?_eq_some_iff.1 HR5.out).1 HRs.out]; exact HR5.out
        have HK6 := Lib.hid (HK5.out.mod hm6 (.inl (by simp)))
        clear hm6 hsr6 hN ha3 he3 c0 c1 c2 d0 d1 d2 hfz
        go_wp2_with fail
        refine (rBytes_any s sv l a3 e3 N _ HSR6.out (by omega)).mono ?_
        rintro e w7 ⟨vv, rfl, ho7, hm7, hsr7⟩
        obtain ⟨V, hV⟩ : ∃ V, listOut (stepOut l a3 e3 N) = V := ⟨_, rfl⟩
        obtain ⟨a4, ha4⟩ : ∃ x, stepAt l a3 e3 N = x := ⟨_, rfl⟩
        obtain ⟨e4, he4⟩ : ∃ x, stepErr l a3 e3 N = x := ⟨_, rfl⟩
        rw [hV] at ho7
        rw [ha4, he4] at hsr7
        have hat := attr_steps l a ha a1 a2 a3 a4 e1 e2 e3 e4 F T N V HQ1.out.1 HQ1.out.2.1 HQ1.out.2.2 HQ2.out.1 HQ2.out.2.1 HQ2.out.2.2 (by rw [HLK.out]; exact HQ3.out.1) (by rw [HLK.out]; exact HQ3.out.2.1) (by rw [HLK.out]; exact HQ3.out.2.2) hV ha4 he4
        have HAT := Lib.hid hat
        have HSR7 := Lib.hid hsr7
        have HO7 := Lib.hid ho7
        have HR7 : Hid (w7.heap[w2.heap.size]? = some (rwO 66 ⟨F, T, []⟩ (.slice none 0 0))) := by show _ = _; rw [hm7.block _ (Array.getElem?_eq_some_iff.1 HR6.out).1 HRs.out]; exact HR6.out
        have HK7 := Lib.hid (HK6.out.mod hm7 (.inl (by simp)))
        have HRV : Hid (w2.heap.size < w6.heap.size) := (Array.getElem?_eq_some_iff.1 HR6.out).1
        obtain ⟨m, hm⟩ : ∃ m, V.length = m := ⟨_, rfl⟩
        have HVM := Lib.hid hm
        obtain ⟨so, sc, rfl⟩ : ∃ so sc, vv = .slice so m sc := by
          obtain ⟨ao, cp, hv, -, -, -, -⟩ := ho7.bs
          exact ⟨ao, cp, by rw [hv, hm]⟩
        clear hat hsr7 ho7 hm7 hV ha4 he4 hm
        obtain ⟨c0, c1, c2⟩ := RwAt.of HR7.out
        have hfz : ∀ j, w7.frozen? ⟨w2.heap.size, j, none⟩ = false := fun j => by simp only [World.frozen?, HR7.out]; simp
        have HM8 := Lib.hid (Mod.setCell w2.heap.size 2 w7 (.slice so m sc))
        have HR8 : Hid ((w7.setCell ⟨w2.heap.size, 2, none⟩ (.slice so m sc)).heap[w2.heap.size]? = some (rwO 66 ⟨F, T, []⟩ (.slice so m sc))) := by
          show _ = _
          simp [World.setCell, Array.getElem?_modify, HR7.out]
        have HSR8 : Hid (RSrcB (w7.setCell ⟨w2.heap.size, 2, none⟩ (.slice so m sc)) s sv l a4 e4) := HSR7.out.other HM8.out HRs.out.symm (fun he => by have h1 := HSR2.out.lt _ he; omega)
        have HK8 : Hid (Kept [s] wr (w7.setCell ⟨w2.heap.size, 2, none⟩ (.slice so m sc))) := HK7.out.set 2 _ (.inr HRW.out)
        have HO8 : Hid (OwnB (w7.setCell ⟨w2.heap.size, 2, none⟩ (.slice so m sc)) w6.heap.size (.slice so m sc) V) := OwnB.kept ((Kept.refl [w2.heap.size] w7).set 2 _ (.inl (by simp))) (fun g hg => by have := (HO7.out.lt _ hg).1; have := HRV.out; simp; omega) HO7.out
        obtain ⟨d0, d1, d2⟩ := RwAt.of HR8.out
        obtain ⟨f0, f1, f2, -, -⟩ := HSR8.out.src.cells
        by_cases h4 : e4 = 0
        · subst h4
          rw [if_pos rfl] at HAT
          have hat := HAT.out
          obtain ⟨f', rfl, hsp⟩ := splitA_some (f := f) ha hf hat
          obtain ⟨hb3, hbl⟩ := attrAt_far hat
          have HR9 : Hid ((splitA f' l a4).map ((xs ++ [((⟨F, T, V⟩, ⟨so, sc⟩) : Rw × Sl)]).map (·.1) ++ ·) = R) := by
            show _ = _
            rw [← HRR.out, hsp, Option.map_map]
            congr 1
            funext ys
            simp
          have HX1 : Hid (Rs (rawLay 66) ((w7.setCell ⟨w2.heap.size, 2, none⟩ (.slice so m sc)).alloc (.cells #[.int .i64 (F : Int), .int .i64 (T : Int), .slice so m sc] 66)) (.slice (some ⟨w7.heap.size, 0, none⟩) 1 1) [((⟨F, T, V⟩, ⟨so, sc⟩) : Rw × Sl)]) := by
            have := Rs.one (rawLay 66) (w7.setCell ⟨w2.heap.size, 2, none⟩ (.slice so m sc)) ((⟨F, T, V⟩, ⟨so, sc⟩) : Rw × Sl) #[.int .i64 (F : Int), .int .i64 (T : Int), .slice so m sc] (by show _ = [_, _, Value.slice so V.length sc]; rw [HVM.out])
            rw [show (w7.setCell ⟨w2.heap.size, 2, none⟩ (.slice so m sc)).heap.size = w7.heap.size from by simp [World.setCell]] at this
            exact this
          have HAA := Lib.hid (Same.alloc (w7.setCell ⟨w2.heap.size, 2, none⟩ (.slice so m sc)) (.cells #[.int .i64 (F : Int), .int .i64 (T : Int), .slice so m sc] 66))
          have HK9 := Lib.hid (HK8.out.same HAA.out)
          have HOVb : Hid (∀ g, u5.ownBlock = some g → W.heap.size ≤ g ∧ g < wr.heap.size) := HOV.out.lt
          have HOV9 := Lib.hid (HOV.out.kept HK9.out (fun g hg => by have := (HOVb.out g hg).1; have := HSW.out; simp; omega))
          have HLn : Hid (xs.length + [((⟨F, T, V⟩, ⟨so, sc⟩) : Rw × Sl)].length ≤ 1099511627776) := by show _ ≤ _; simp; omega
          have HSZ : Hid (W.heap.size ≤ ((w7.setCell ⟨w2.heap.size, 2, none⟩ (.slice so m sc)).alloc (.cells #[.int .i64 (F : Int), .int .i64 (T : Int), .slice so m sc] 66)).heap.size) := Nat.le_trans HKP.out.size HK9.out.size
          have HSR9 := Lib.hid (HSR8.out.same HAA.out)
          have HO9 := Lib.hid (HO8.out.same HAA.out)
          have HW67 : Hid (wr.heap.size ≤ w6.heap.size) := HK6.out.size
          have HSX : Hid (((w7.setCell ⟨w2.heap.size, 2, none⟩ (.slice so m sc)).alloc (.cells #[.int .i64 (F : Int), .int .i64 (T : Int), .slice so m sc] 66)).heap.size = w7.heap.size + 1) := by show _ = _; simp [World.setCell]
          clear hat hsp HAT
          go_wp2_with (at_builtin; refine wpList_append_r2 (rawLay 66) Try.underlying29 rawInfo rfl (by decide) (by decide) rfl _ _ rfl W.heap.size HSZ.out u5 xs rfl HOV9.out _ [((⟨F, T, V⟩, ⟨so, sc⟩) : Rw × Sl)] rfl HX1.out HLn.out ?_; intro v9 w9 ho9 hg9 hl9)
          have HKg : Kept (u5.ownBlock.toList) ((w7.setCell ⟨w2.heap.size, 2, none⟩ (.slice so m sc)).alloc (.cells #[.int .i64 (F : Int), .int .i64 (T : Int), .slice so m sc] 66)) w9 := (Kept.refl _ _).grown hg9 (fun s hs => .inl (by rw [hs]; simp))
          have hrow : ∀ g, g ∈ u5.ownBlock.toList → W.heap.size ≤ g ∧ g < wr.heap.size := fun g hg => HOVb.out g (by simpa using hg)
          have hsrc9 : RSrcB w9 s sv l a4 0 := HSR9.out.kept HKg (fun h => by have := (hrow _ h).1; have := HSW.out; omega) (fun g hg h => by have := (hrow _ h).1; have := HSL2.out g hg; omega)
          have hpos : posW w9 s 1 = a4 := by
            obtain ⟨_, c1, _⟩ := hsrc9.src.cells
            unfold posW
            rw [c1]
            simp
          refine ⟨⟨a4, f', xs ++ [(⟨F, T, V⟩, ⟨so, sc⟩)], hsrc9, ho9, fun x hx => ?_, (HKP.out.trans HK9.out).grown hg9 (fun s hs => .inr (HOVb.out s hs).1), by omega, by simp; omega, HR9.out⟩, by rw [hpos]; omega⟩
          rcases List.mem_append.1 hx with hx | hx
          · obtain ⟨b1, b2⟩ := HXB.out x hx
            refine ⟨(b1.kept HK9.out (fun g hg => ?_)).kept HKg (fun g hg h => ?_), fun g hg => ?_⟩
            · have := (b2 g hg).1; have := HSW.out; simp; omega
            · exact (b2 g hg).2.2 (by simpa using h)
            · obtain ⟨q1, q2, q3⟩ := b2 g hg
              have hz1 := HK9.out.size
              refine ⟨q1, by have := hg9.size; omega, fun he => ?_⟩
              rcases hl9 with h | h
              · exact q3 (h ▸ he)
              · rw [h] at he; have := Option.some.inj he; omega
          · obtain rfl : x = (⟨F, T, V⟩, ⟨so, sc⟩) := by simpa using hx
            have hb := HO9.out.bs
            rw [← HVM.out] at hb
            have hlt := HO8.out.lt
            rw [← HVM.out] at hlt
            have hz8 : (w7.setCell ⟨w2.heap.size, 2, none⟩ (.slice so V.length sc)).heap.size = w7.heap.size := by simp [World.setCell]
            refine ⟨hb.kept (HVM.out ▸ HKg) (fun g hg h => ?_), fun g hg => ?_⟩
            · have := (hrow g h).2; have := (hlt g hg).1; have := HW67.out; omega
            · obtain ⟨q1, q2⟩ := hlt g hg
              have h1 := HW67.out
              have h2 := HKP.out.size
              have h3 := hg9.size
              have h4 := HSX.out
              refine ⟨by omega, by omega, fun he => ?_⟩
              rcases hl9 with h | h
              · rw [h] at he; have := (HOVb.out g he).2; omega
              · rw [h] at he; have := Option.some.inj he; omega
        · have hE4 : (e4 != 0) = true := by simpa using h4
          rw [if_neg h4] at HAT
          have hsp := splitA_none (f := f) ha hf HAT.out
          obtain ⟨y1, y2⟩ := HR0.out (by rw [← HRR.out, hsp]; rfl)
          have HY := Lib.hid (And.intro y1 y2)
          clear y1 y2 hsp HAT h4
          go_wp2_with fail
          refine (rFault_any 1 none 0 0 _).mono ?_
          rintro e w9 ⟨rfl, hs9⟩
          have HKW := Lib.hid ((HKP.out.trans HK8.out).same hs9)
          have HFw := Lib.hid (HKW.out.at HFW.out (by have := HSF.out; simp; omega))
          clear hs9
          obtain ⟨g0, g1, g2⟩ := FtAt.of (f := noFt) (vd := .slice none 0 0) HFw.out
          have hfz9 : ∀ j, w9.frozen? ⟨w.heap.size, j, none⟩ = false := fun j => by simp only [World.frozen?, HFw.out]; simp
          go_wp2_with fail
          have HSw : Hid (Same w w9) := HKW.out.to_same HW.out (fun k hk => by have := HSF.out; simp at hk; omega)
          have HE := cells_end [.int .i64 3, .int .i64 1, .slice none 0 0] [.int .i64 0, .int .i64 0, .slice none 0 0] (Nat.le_refl _) HSw.out HFw.out rfl
          dsimp only [setsC, Nat.reduceAdd] at HE
          generalize World.setCell _ ⟨w.heap.size, 2, none⟩ _ = U at HE ⊢
          obtain ⟨x0, x1, x2⟩ := FtAt.of (f := ⟨3, 1, []⟩) (vd := .slice none 0 0) HE.1
          refine bodyPost_ret (v := .tuple #[.slice none 0 0, ftV ⟨3, 1, []⟩ (.slice none 0 0)]) ?_ rfl ⟨_, _, by rw [HY.out.2]; rfl, by rw [HY.out.1]; exact RawsW.nil _ _, by rw [HY.out.2]; exact Bs.nil _, HE.2.1⟩
          simp [results, Try.results9, go_sem, x0, x1, x2]
end Go.Proofs.Ytfhaaenmllkbnaa
