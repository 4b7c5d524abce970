/- Contract of the document's own Split of layer 7. No condition beyond what it names. -/
import Derived.Test.YtidijoncngfppaaAtRC
import Derived.Test.YtidijoncngfppaaKept
import Derived.Test.YtidijoncngfppaaRefB
namespace Go.Proofs.Ytidijoncngfppaa
open Go.RowKit
set_option linter.unusedVariables false

theorem step_no {l : List UInt8} {a k : Nat} (h : l.length < a + k) : stepOut l a 0 k = none ∧ stepAt l a 0 k = a ∧ stepErr l a 0 k = 3 := by
  unfold stepOut stepAt stepErr
  rw [if_neg (by omega), if_neg (by omega), if_pos rfl, if_neg (by omega), if_pos (by omega)]
  exact ⟨rfl, rfl, rfl⟩
theorem step_bad {l : List UInt8} {a : Nat} {er n : Int} (h : er ≠ 0) : stepOut l a er n = none ∧ stepAt l a er n = a ∧ stepErr l a er n = er := by
  unfold stepOut stepAt stepErr
  rw [if_neg (by omega), if_neg (by omega), if_neg h]
  exact ⟨rfl, rfl, rfl⟩
/-- the four steps of an attribute, as a source of bytes goes them -/
theorem attr_steps (l : List UInt8) (a : Nat) (ha : a < l.length) (a1 a2 a3 a4 : Nat) (e1 e2 e3 e4 : Int) (F T N : Nat) (V : List UInt8)
    (hF : numOut (stepOut l a 0 1) = F) (h1 : stepAt l a 0 1 = a1) (h1' : stepErr l a 0 1 = e1)
    (hT : numOut (stepOut l a1 e1 1) = T) (h2 : stepAt l a1 e1 1 = a2) (h2' : stepErr l a1 e1 1 = e2)
    (hN : numOut (stepOut l a2 e2 (lenK F)) = N) (h3 : stepAt l a2 e2 (lenK F) = a3) (h3' : stepErr l a2 e2 (lenK F) = e3)
    (hV : listOut (stepOut l a3 e3 N) = V) (h4 : stepAt l a3 e3 N = a4) (h4' : stepErr l a3 e3 N = e4) :
    attrAt l a = if e4 = 0 then some (⟨F, T, V⟩, a4) else none := by
  obtain ⟨s1, s2, s3⟩ := step_yes (l := l) (a := a) (k := 1) (by omega)
  rw [show ((1 : Nat) : Int) = 1 from rfl] at s1 s2 s3
  rw [s1] at hF; rw [s2] at h1; rw [s3] at h1'
  subst h1 h1'
  have eF : nmb l a 1 = F := hF
  unfold attrAt
  rw [eF]
  by_cases k2 : a + 2 ≤ l.length
  · obtain ⟨t1, t2, t3⟩ := step_yes (l := l) (a := a + 1) (k := 1) (by omega)
    rw [show ((1 : Nat) : Int) = 1 from rfl] at t1 t2 t3
    rw [t1] at hT; rw [t2] at h2; rw [t3] at h2'
    subst h2 h2'
    have eT : nmb l (a + 1) 1 = T := hT
    rw [eT]
    by_cases k3 : a + 2 + lenK F ≤ l.length
    · obtain ⟨u1, u2, u3⟩ := step_yes (l := l) (a := a + 2) (k := lenK F) (by omega)
      rw [show a + 1 + 1 = a + 2 from rfl] at hN h3 h3'
      rw [u1] at hN; rw [u2] at h3; rw [u3] at h3'
      subst h3 h3'
      have eN : nmb l (a + 2) (lenK F) = N := hN
      rw [eN, if_neg (by omega)]
      by_cases k4 : a + 2 + lenK F + N ≤ l.length
      · obtain ⟨v1, v2, v3⟩ := step_yes (l := l) (a := a + 2 + lenK F) (k := N) (by omega)
        rw [v1] at hV; rw [v2] at h4; rw [v3] at h4'
        subst h4 h4'
        rw [if_neg (by omega), if_pos rfl]
        rw [show (l.drop (a + 2 + lenK F)).take N = V from hV]
      · obtain ⟨v1, v2, v3⟩ := step_no (l := l) (a := a + 2 + lenK F) (k := N) (by omega)
        rw [v3] at h4'
        subst h4'
        rw [if_pos (by omega), if_neg (by decide)]
    · obtain ⟨u1, u2, u3⟩ := step_no (l := l) (a := a + 2) (k := lenK F) (by omega)
      rw [show a + 1 + 1 = a + 2 from rfl] at hN h3 h3'
      rw [u3] at h3'
      subst h3'
      have := (step_bad (l := l) (a := a3) (er := 3) (n := N) (by decide)).2.2
      rw [this] at h4'
      subst h4'
      rw [if_pos (by omega), if_neg (by decide)]
  · obtain ⟨t1, t2, t3⟩ := step_no (l := l) (a := a + 1) (k := 1) (by omega)
    rw [show ((1 : Nat) : Int) = 1 from rfl] at t1 t2 t3
    rw [t3] at h2'
    subst h2'
    have b3 := (step_bad (l := l) (a := a2) (er := 3) (n := lenK F) (by decide)).2.2
    rw [b3] at h3'
    subst h3'
    have b4 := (step_bad (l := l) (a := a3) (er := 3) (n := N) (by decide)).2.2
    rw [b4] at h4'
    subst h4'
    rw [if_pos (by have := lenK_or (F : Int); omega), if_neg (by decide)]
theorem attrAt_far {l : List UInt8} {a b : Nat} {r : Rw} (h : attrAt l a = some (r, b)) : a + 3 ≤ b ∧ b ≤ l.length := by
  unfold attrAt at h
  split at h
  · cases h
  · split at h
    · cases h
    · have := lenK_or (nmb l a 1 : Int)
      cases h
      omega
theorem splitA_end {f : Nat} {l : List UInt8} {a : Nat} (h : l.length ≤ a) : splitA f l a = some [] := by
  cases f with
  | zero => rfl
  | succ f => rw [splitA, if_pos h]
theorem splitA_none {f : Nat} {l : List UInt8} {a : Nat} (h : a < l.length) (hf : l.length ≤ a + f) (hn : attrAt l a = none) : splitA f l a = none := by
  cases f with
  | zero => omega
  | succ f => rw [splitA, if_neg (by omega), hn]
theorem splitA_some {f : Nat} {l : List UInt8} {a b : Nat} {r : Rw} (h : a < l.length) (hf : l.length ≤ a + f) (hn : attrAt l a = some (r, b)) : ∃ f', f = f' + 1 ∧ splitA f l a = (splitA f' l b).map (r :: ·) := by
  cases f with
  | zero => omega
  | succ f => exact ⟨f, rfl, by rw [splitA, if_neg (by omega), hn]⟩

abbrev zeroFt (t : TypeId) : Obj := .cells #[.int .i64 0, .int .i64 0, .slice none 0 0] t

theorem RSrcB.kept {ss : List Nat} {w w' : World} {s : Nat} {all : Value} {l : List UInt8} {a : Nat} {er : Int} (h : RSrcB w s all l a er) (hk : Kept ss w w') (hs : s ∉ ss) (ha : ∀ g, all.ownBlock = some g → g ∉ ss) : RSrcB w' s all l a er :=
  ⟨by have := h.src; unfold RSrc at *; exact hk.at this hs, h.bs.kept hk ha, h.ne, fun g hg => Nat.lt_of_lt_of_le (h.lt g hg) hk.size, h.le⟩

/-- cells written one by one -/
def setsC (R : Nat) : World → Nat → List Value → World
  | u, _, [] => u
  | u, i, v :: vs => setsC R (u.setCell ⟨R, i, none⟩ v) (i + 1) vs
theorem sets_cells (R : Nat) (t : TypeId) : ∀ (vs : List Value) (u : World) (pre old : List Value), u.heap[R]? = some (.cells (pre ++ old).toArray t (0, 0)) → old.length = vs.length →
    Mod R u (setsC R u pre.length vs) ∧ (setsC R u pre.length vs).heap[R]? = some (.cells (pre ++ vs).toArray t (0, 0))
  | [], u, pre, old, hk, hl => by
    obtain rfl : old = [] := List.eq_nil_of_length_eq_zero hl
    exact ⟨Mod.refl R u, hk⟩
  | v :: vs, u, pre, [], hk, hl => by simp at hl
  | v :: vs, u, pre, o :: old, hk, hl => by
    have h1 : (u.setCell ⟨R, pre.length, none⟩ v).heap[R]? = some (.cells ((pre ++ o :: old).toArray.setIfInBounds pre.length v) t (0, 0)) := by
      simp [World.setCell, Array.getElem?_modify, hk]
    have e : ((pre ++ o :: old).toArray.setIfInBounds pre.length v) = ((pre ++ [v]) ++ old).toArray := by simp
    rw [e] at h1
    have := sets_cells R t vs (u.setCell ⟨R, pre.length, none⟩ v) (pre ++ [v]) old h1 (by simpa using hl)
    rw [List.length_append, List.length_singleton] at this
    refine ⟨(Mod.setCell R pre.length u v).trans this.1, ?_⟩
    have h2 := this.2
    rw [List.append_assoc] at h2
    exact h2
/-- a way out, a struct in the cell that the call made first -/
theorem cells_end {t : TypeId} {B : Nat} {w u : World} (vs old : List Value) (hB : w.heap.size ≤ B) (hs : Same w u) (hk : u.heap[B]? = some (.cells old.toArray t (0, 0))) (hl : old.length = vs.length) :
    (setsC B u 0 vs).heap[B]? = some (.cells vs.toArray t (0, 0)) ∧ Same w (setsC B u 0 vs) ∧ Mod B u (setsC B u 0 vs) := by
  have := sets_cells B t vs u [] old hk hl
  exact ⟨this.2, Below.trans hs (this.1.below hB hs.size), this.1⟩

end Go.Proofs.Ytidijoncngfppaa
