/- Plain numbers for layer 7: a path read whole, then looked at, is the path read with a look at each number. No condition. -/
import Derived.Test.YtfhaaenmllkbnaaAtDG
namespace Go.Proofs.Ytfhaaenmllkbnaa
open Go.RowKit
set_option linter.unusedVariables false

/-- so many numbers from a place on -/
def numsL : Nat → List UInt8 → Nat → List Int
  | 0, _, _ => []
  | n + 1, v, a => (nmb v a 2 : Int) :: numsL n v (a + 2)
theorem numsL_length (v : List UInt8) : ∀ (n a : Nat), (numsL n v a).length = n
  | 0, _ => rfl
  | n + 1, a => by rw [numsL, List.length_cons, numsL_length v n]
theorem numsL_snoc (v : List UInt8) : ∀ (n a : Nat), numsL (n + 1) v a = numsL n v a ++ [(nmb v (a + 2 * n) 2 : Int)]
  | 0, a => rfl
  | n + 1, a => by
    rw [numsL, numsL_snoc v n (a + 2), numsL, List.cons_append, show a + 2 + 2 * n = a + 2 * (n + 1) from by omega]
theorem numsL_top (v : List UInt8) : ∀ (n a : Nat) (x : Int), x ∈ numsL n v a → x ≤ 65535
  | 0, _, x, h => by cases h
  | n + 1, a, x, h => by
    rcases List.mem_cons.1 h with rfl | h
    · have := nmb_lt v a 2; omega
    · exact numsL_top v n _ x h

/-- a path read whole -/
def pathD : Nat → List UInt8 → Nat → List Int → Option (List Int)
  | 0, _, _, acc => some acc
  | f + 1, v, a, acc => if v.length ≤ a then some acc
    else if v.length < a + 2 ∨ nmb v a 1 < 1 ∨ 2 < nmb v a 1 ∨ nmb v (a + 1) 1 = 0 then none
    else if v.length < a + 2 + 2 * nmb v (a + 1) 1 then none
    else pathD f v (a + 2 + 2 * nmb v (a + 1) 1) (acc ++ numsL (nmb v (a + 1) 1) v (a + 2))
theorem pathD_end {f : Nat} {v : List UInt8} {a : Nat} {acc : List Int} (h : v.length ≤ a) : pathD f v a acc = some acc := by
  cases f with
  | zero => rfl
  | succ f => rw [pathD, if_pos h]
theorem pathD_ext : ∀ (f : Nat) (v : List UInt8) (a : Nat) (acc r : List Int), pathD f v a acc = some r → ∃ t, r = acc ++ t
  | 0, v, a, acc, r, h => ⟨[], by cases h; simp⟩
  | f + 1, v, a, acc, r, h => by
    rw [pathD] at h
    split at h
    · cases h; exact ⟨[], by simp⟩
    · split at h
      · cases h
      · split at h
        · cases h
        · obtain ⟨t, ht⟩ := pathD_ext f _ _ _ _ h
          exact ⟨_, by rw [ht, List.append_assoc]⟩

theorem partL_eq (v : List UInt8) : ∀ (n a : Nat) (acc : List Int), acc.length ≤ 16 → a ≤ v.length →
    partL n v a acc = if a + 2 * n ≤ v.length ∧ (∀ x, x ∈ numsL n v a → 1 ≤ x) ∧ acc.length + n ≤ 16 then some (acc ++ numsL n v a) else none
  | 0, a, acc, h, ha => by
    rw [partL, if_pos ⟨by omega, fun x hx => (List.not_mem_nil hx).elim, by omega⟩, numsL, List.append_nil]
  | n + 1, a, acc, h, ha => by
    rw [partL]
    by_cases hc : v.length < a + 2 ∨ nmb v a 2 = 0 ∨ acc.length = 16
    · rw [if_pos hc, if_neg]
      rintro ⟨h1, h2, h3⟩
      have := h2 (nmb v a 2) (by rw [numsL]; exact List.mem_cons_self)
      omega
    · rw [if_neg hc, partL_eq v n (a + 2) _ (by simp; omega) (by omega)]
      have e : numsL (n + 1) v a = (nmb v a 2 : Int) :: numsL n v (a + 2) := rfl
      rw [e]
      by_cases hd : a + 2 + 2 * n ≤ v.length ∧ (∀ x, x ∈ numsL n v (a + 2) → 1 ≤ x) ∧ (acc ++ [(nmb v a 2 : Int)]).length + n ≤ 16
      · rw [if_pos hd, if_pos ⟨by omega, fun x hx => by
          rcases List.mem_cons.1 hx with rfl | hx
          · omega
          · exact hd.2.1 x hx, by have := hd.2.2; simp at this; omega⟩]
        simp
      · rw [if_neg hd, if_neg]
        rintro ⟨h1, h2, h3⟩
        exact hd ⟨by omega, fun x hx => h2 x (List.mem_cons_of_mem _ hx), by simp; omega⟩

theorem pathA_eq : ∀ (f : Nat) (v : List UInt8) (a : Nat) (acc : List Int), pathOk acc → pathA f v a acc = (pathD f v a acc).filter (fun r => decide (pathOk r))
  | 0, v, a, acc, h => by
    show some acc = (some acc).filter _
    rw [Option.filter_some, if_pos (decide_eq_true h)]
  | f + 1, v, a, acc, h => by
    rw [pathA, pathD]
    by_cases h1 : v.length ≤ a
    · rw [if_pos h1, if_pos h1, Option.filter_some, if_pos (decide_eq_true h)]
    · rw [if_neg h1, if_neg h1]
      by_cases h2 : v.length < a + 2 ∨ nmb v a 1 < 1 ∨ 2 < nmb v a 1 ∨ nmb v (a + 1) 1 = 0
      · rw [if_pos h2, if_pos h2]; rfl
      · rw [if_neg h2, if_neg h2, partL_eq v _ _ _ h.1 (by omega)]
        by_cases h3 : v.length < a + 2 + 2 * nmb v (a + 1) 1
        · rw [if_pos h3, if_neg (fun hh => by have := hh.1; omega)]; rfl
        · rw [if_neg h3]
          by_cases h4 : (∀ x, x ∈ numsL (nmb v (a + 1) 1) v (a + 2) → 1 ≤ x) ∧ acc.length + nmb v (a + 1) 1 ≤ 16
          · rw [if_pos ⟨by omega, h4⟩]
            exact pathA_eq f v _ _ ⟨by rw [List.length_append, numsL_length]; exact h4.2, fun x hx => by
              rcases List.mem_append.1 hx with hx | hx
              · exact h.2 x hx
              · exact ⟨h4.1 x hx, numsL_top v _ _ x hx⟩⟩
          · rw [if_neg (fun hh => h4 hh.2)]
            cases hp : pathD f v (a + 2 + 2 * nmb v (a + 1) 1) (acc ++ numsL (nmb v (a + 1) 1) v (a + 2)) with
            | none => rfl
            | some r =>
              obtain ⟨t, ht⟩ := pathD_ext _ _ _ _ _ hp
              show none = (some r).filter _
              rw [Option.filter_some, if_neg]
              intro hd
              have hd := of_decide_eq_true hd
              rw [ht] at hd
              refine h4 ⟨fun x hx => (hd.2 x (List.mem_append_left _ (List.mem_append_right _ hx))).1, ?_⟩
              have := hd.1
              rw [List.length_append, List.length_append, numsL_length] at this
              omega
theorem pathL_eq (v : List UInt8) : pathL v = (pathD v.length v 0 []).filter (fun r => decide (pathOk r)) :=
  pathA_eq _ _ _ _ ⟨by simp, fun n hn => by cases hn⟩
end Go.Proofs.Ytfhaaenmllkbnaa
