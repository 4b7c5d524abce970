/- The arithmetic of Sort: a sorted permutation, compacted, and the document's insertion are one list. -/
import Derived.Test.YtldiagjnpkpepaaPrL
import Derived.Test.YtldiagjnpkpepaaPrC
namespace Go.Proofs.Ytldiagjnpkpepaa
open Go.RowKit Go.Sort
set_option linter.unusedVariables false

/-- the order, as a proposition -/
def LtP (p q : Int × Int) : Prop := p.1 < q.1 ∨ p.1 = q.1 ∧ p.2 < q.2
theorem LtP.irr {p : Int × Int} : ¬ LtP p p := by unfold LtP; omega
theorem LtP.trans {p q r : Int × Int} (h : LtP p q) (k : LtP q r) : LtP p r := by unfold LtP at *; omega
theorem LtP.tri (p q : Int × Int) : LtP p q ∨ p = q ∨ LtP q p := by
  obtain ⟨a, n⟩ := p
  obtain ⟨b, m⟩ := q
  unfold LtP
  simp only [Prod.mk.injEq]
  omega

/-- strictly sorted lists with the same members are equal -/
theorem strict_unique : ∀ (l m : List (Int × Int)), l.Pairwise LtP → m.Pairwise LtP → (∀ x, x ∈ l ↔ x ∈ m) → l = m
  | [], [], _, _, _ => rfl
  | [], y :: m, _, _, h => by have := (h y).2 (by simp); simp at this
  | x :: l, [], _, _, h => by have := (h x).1 (by simp); simp at this
  | x :: l, y :: m, hl, hm, h => by
    rw [List.pairwise_cons] at hl hm
    have hxy : x = y := by
      have h1 := (h x).1 (by simp)
      have h2 := (h y).2 (by simp)
      rw [List.mem_cons] at h1 h2
      rcases h1 with h1 | h1
      · exact h1
      · rcases h2 with h2 | h2
        · exact h2.symm
        · exact absurd ((hm.1 x h1).trans (hl.1 y h2)) LtP.irr
    subst hxy
    rw [strict_unique l m hl.2 hm.2 ?_]
    intro z
    constructor
    · intro hz
      have := (h z).1 (by simp [hz])
      rw [List.mem_cons] at this
      rcases this with e | e
      · subst e; exact absurd (hl.1 z hz) LtP.irr
      · exact e
    · intro hz
      have := (h z).2 (by simp [hz])
      rw [List.mem_cons] at this
      rcases this with e | e
      · subst e; exact absurd (hm.1 z hz) LtP.irr
      · exact e

/-- how many of the row lie before -/
def befP (p : Int × Int) : List (Int × Int) → Nat
  | [] => 0
  | x :: l => if ltP x p then befP p l + 1 else 0
theorem befP_le (p : Int × Int) : ∀ l, befP p l ≤ l.length
  | [] => Nat.le_refl _
  | x :: l => by
    have := befP_le p l
    rw [befP, List.length_cons]
    split <;> omega
theorem befP_lt (p : Int × Int) : ∀ l j x, j < befP p l → l[j]? = some x → ltP x p = true
  | [], j, x, h, _ => by simp [befP] at h
  | y :: l, j, x, h, hx => by
    rw [befP] at h
    split at h
    · rename_i hy
      cases j with
      | zero => simp at hx; subst hx; exact hy
      | succ j => exact befP_lt p l j x (by omega) (by simpa using hx)
    · omega
theorem befP_at (p : Int × Int) : ∀ l x, l[befP p l]? = some x → ltP x p = false
  | [], x, h => by simp [befP] at h
  | y :: l, x, h => by
    rw [befP] at h
    split at h
    · exact befP_at p l x (by simpa using h)
    · rename_i hy
      simp at h
      subst h
      simpa using hy
/-- into its place, if it isn't there -/
def insP (p : Int × Int) (l : List (Int × Int)) : List (Int × Int) :=
  if l[befP p l]? = some p then l else l.take (befP p l) ++ (p :: l.drop (befP p l))
theorem insP_cons (p x : Int × Int) (l : List (Int × Int)) : insP p (x :: l) = if ltP x p then x :: insP p l else if x = p then x :: l else p :: x :: l := by
  unfold insP
  rw [befP]
  split
  · simp only [List.getElem?_cons_succ, List.take_succ_cons, List.drop_succ_cons]
    split <;> simp
  · simp only [List.getElem?_cons_zero, Option.some.injEq, List.take_zero, List.drop_zero, List.nil_append]
theorem insP_mem (p : Int × Int) : ∀ (l : List (Int × Int)) x, x ∈ insP p l ↔ x = p ∨ x ∈ l
  | [], x => by simp [insP, befP]
  | y :: l, x => by
    rw [insP_cons]
    split
    · rw [List.mem_cons, insP_mem p l x, List.mem_cons]
      constructor
      · rintro (h | h | h) <;> simp [h]
      · rintro (h | h | h) <;> simp [h]
    · split
      · rename_i e
        subst e
        simp
      · simp
theorem insP_strict (p : Int × Int) : ∀ (l : List (Int × Int)), l.Pairwise LtP → (insP p l).Pairwise LtP
  | [], _ => by simp [insP, befP]
  | y :: l, h => by
    rw [List.pairwise_cons] at h
    rw [insP_cons]
    split
    · rename_i hy
      rw [List.pairwise_cons]
      refine ⟨?_, insP_strict p l h.2⟩
      intro z hz
      rw [insP_mem] at hz
      rcases hz with e | e
      · subst e; exact (ltP_iff _ _).1 hy
      · exact h.1 z e
    · rename_i hy
      split
      · rw [List.pairwise_cons]; exact h
      · rename_i hne
        have hpy : LtP p y := by
          rcases LtP.tri p y with e | e | e
          · exact e
          · exact absurd e.symm hne
          · exact absurd ((ltP_iff _ _).2 e) hy
        rw [List.pairwise_cons, List.pairwise_cons]
        refine ⟨?_, h⟩
        intro z hz
        rw [List.mem_cons] at hz
        rcases hz with e | e
        · subst e; exact hpy
        · exact hpy.trans (h.1 z e)
/-- the document's row: each in its turn -/
def rowP (l : List (Int × Int)) : List (Int × Int) := l.foldl (fun m p => insP p m) []
theorem fold_strict : ∀ (l m : List (Int × Int)), m.Pairwise LtP → (l.foldl (fun m p => insP p m) m).Pairwise LtP ∧ ∀ x, x ∈ l.foldl (fun m p => insP p m) m ↔ x ∈ l ∨ x ∈ m
  | [], m, h => ⟨h, fun x => by simp⟩
  | p :: l, m, h => by
    obtain ⟨a, b⟩ := fold_strict l (insP p m) (insP_strict p m h)
    refine ⟨a, fun x => ?_⟩
    rw [List.foldl_cons, b, insP_mem, List.mem_cons]
    constructor
    · rintro (h | h | h) <;> simp [h]
    · rintro ((h | h) | h) <;> simp [h]
theorem rowP_strict (l : List (Int × Int)) : (rowP l).Pairwise LtP ∧ ∀ x, x ∈ rowP l ↔ x ∈ l := by
  obtain ⟨a, b⟩ := fold_strict l [] List.Pairwise.nil
  exact ⟨a, fun x => by rw [rowP, b]; simp⟩
theorem insP_length (p : Int × Int) (l : List (Int × Int)) : (insP p l).length ≤ l.length + 1 := by
  have := befP_le p l
  unfold insP
  split
  · omega
  · simp; omega

/-- the compacted front of a sorted row -/
theorem cmpT_strict (l : List (Int × Int)) (hs : ∀ (i j : Nat) (x y : Int × Int), i < j → l[i]? = some x → l[j]? = some y → ltP y x = false) :
    ∀ k, k ≤ l.length → (cmpT l k).Pairwise LtP ∧ (∀ x, x ∈ cmpT l k ↔ x ∈ l.take k) ∧ ∀ (x y : Int × Int), 0 < k → l[k - 1]? = some y → x ∈ cmpT l k → x = y ∨ LtP x y
  | 0, _ => ⟨by simp [cmpT], by simp [cmpT], by simp⟩
  | k + 1, hk => by
    obtain ⟨a, b, c⟩ := cmpT_strict l hs k (by omega)
    have hk2 : k < l.length := by omega
    have e : l[k]? = some l[k] := List.getElem?_eq_getElem hk2
    rw [cmpT, e]
    simp only
    split
    · rename_i hc
      refine ⟨a, ?_, ?_⟩
      · intro x
        rw [b, List.take_succ_eq_append_getElem hk2, List.mem_append]
        constructor
        · exact .inl
        · rintro (h | h)
          · exact h
          · simp at h
            subst h
            rw [← b]
            have hm : l[k] ∈ l.take k := by
              rw [List.mem_iff_getElem?]
              exact ⟨k - 1, by rw [List.getElem?_take, if_pos (by omega), hc.2]⟩
            exact (b _).2 hm
      · intro x y _ hy hx
        simp only [Nat.add_sub_cancel] at hy
        exact c x y hc.1 (by rw [hc.2, ← e, hy]) hx
    · rename_i hc
      have hlt : ∀ x ∈ cmpT l k, LtP x l[k] := by
        intro x hx
        by_cases h0 : 0 < k
        · have e1 : l[k - 1]? = some l[k - 1] := List.getElem?_eq_getElem (by omega)
          have h1 := c x _ h0 e1 hx
          have h2 := hs (k - 1) k _ _ (by omega) e1 e
          have h3 : LtP l[k - 1] l[k] := by
            rcases LtP.tri l[k - 1] l[k] with t | t | t
            · exact t
            · exact absurd ⟨h0, by rw [e1, t]⟩ hc
            · rw [Bool.eq_false_iff, ne_eq, ltP_iff] at h2
              exact absurd t h2
          rcases h1 with t | t
          · subst t; exact h3
          · exact t.trans h3
        · have : k = 0 := by omega
          subst this
          simp [cmpT] at hx
      refine ⟨?_, ?_, ?_⟩
      · rw [List.pairwise_append]
        refine ⟨a, by simp, ?_⟩
        intro x hx y hy
        simp at hy
        subst hy
        exact hlt x hx
      · intro x
        rw [List.take_succ_eq_append_getElem hk2, List.mem_append, List.mem_append, b]
      · intro x y _ hy hx
        simp only [Nat.add_sub_cancel] at hy
        rw [e] at hy
        have hy := Option.some.inj hy
        subst hy
        rw [List.mem_append] at hx
        rcases hx with h | h
        · exact .inr (hlt x h)
        · simp at h; exact .inl h
/-- what the developers' Sort holds is the document's row -/
theorem cmpT_rowP (d d' : Array (Int × Int)) (hp : PermIn 0 d.size d d') (hs : SortedIn ltP 0 d.size d') : cmpT d'.toList d'.size = rowP d.toList := by
  obtain ⟨h0, _, hperm⟩ := hp
  have e' : d'.extract 0 d.size = d' := by rw [← h0]; simp
  have e : d.extract 0 d.size = d := by simp
  rw [e', e] at hperm
  obtain ⟨a, b, _⟩ := cmpT_strict d'.toList (by
    intro i j x y hij hx hy
    obtain ⟨hi, hx⟩ := List.getElem?_eq_some_iff.1 hx
    obtain ⟨hj, hy⟩ := List.getElem?_eq_some_iff.1 hy
    have hi2 : i < d'.size := by simpa using hi
    have hj2 : j < d'.size := by simpa using hj
    have := hs i j (Nat.zero_le _) hij (by omega)
    rw [getElem!_pos d' i hi2, getElem!_pos d' j hj2] at this
    rw [← hx, ← hy]
    simpa using this) d'.size (by simp)
  obtain ⟨f, g⟩ := rowP_strict d.toList
  refine strict_unique _ _ a f fun x => ?_
  rw [b, g, List.take_of_length_le (by simp)]
  exact hperm.mem_iff
end Go.Proofs.Ytldiagjnpkpepaa
