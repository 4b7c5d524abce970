/- Plain numbers for the check sums of layer 2: what adding words one by one comes to. No condition. -/
import Derived.RowKit
namespace Go.Proofs.Yteoleblnhcnpkaa

/-- the sum of two words, by the document -/
def addw (s t : Nat) : Nat := if 65535 < s + t then s + t - 65535 else s + t
/-- what words of this total come to, added one by one from 0 -/
def red (T : Nat) : Nat := if T = 0 then 0 else (T - 1) % 65535 + 1

theorem red_zero : red 0 = 0 := rfl
theorem red_le (T : Nat) : red T ≤ 65535 := by unfold red; split <;> omega
theorem red_pos {T : Nat} (h : 0 < T) : 0 < red T := by unfold red; rw [if_neg (by omega)]; omega
theorem red_eq_zero {T : Nat} : red T = 0 ↔ T = 0 := by
  constructor
  · intro h
    by_cases h0 : T = 0
    · exact h0
    · have := red_pos (T := T) (by omega); omega
  · intro h; rw [h]; rfl
theorem red_word {w : Nat} (h : w ≤ 65535) : red w = w := by
  unfold red
  by_cases h0 : w = 0
  · rw [if_pos h0, h0]
  · rw [if_neg h0]; omega
theorem addw_red (T w : Nat) (hw : w ≤ 65535) : addw (red T) w = red (T + w) := by
  unfold addw red
  by_cases hT : T = 0
  · subst hT
    by_cases h0 : w = 0
    · subst h0; rfl
    · rw [if_pos rfl, if_neg (show ¬ 0 + w = 0 by omega)]
      rw [if_neg (by omega)]; omega
  · rw [if_neg hT, if_neg (show ¬ T + w = 0 by omega)]
    have e : T + w - 1 = (T - 1) + w := by omega
    rw [e]
    have hq := Nat.mod_lt (T - 1) (show 0 < 65535 by omega)
    have hd := Nat.div_add_mod (T - 1) 65535
    generalize (T - 1) % 65535 = q at *
    generalize (T - 1) / 65535 = d at *
    have e2 : (T - 1 + w) % 65535 = (q + w) % 65535 := by
      rw [← hd, Nat.add_assoc, Nat.mul_add_mod]
    rw [e2]
    split <;> omega
theorem red_more (T : Nat) (h : 0 < T) : red (T + 65535) = red T := by
  unfold red
  rw [if_neg (by omega), if_neg (by omega)]
  have e : T + 65535 - 1 = (T - 1) + 65535 := by omega
  rw [e, Nat.add_mod_right]
theorem addw_reds (T U : Nat) : addw (red T) (red U) = red (T + U) := by
  rw [addw_red T (red U) (red_le U)]
  by_cases hU : U = 0
  · subst hU; rfl
  · unfold red
    rw [if_neg hU]
    have hd := Nat.div_add_mod (U - 1) 65535
    generalize (U - 1) % 65535 = q at *
    generalize (U - 1) / 65535 = d at *
    rw [if_neg (by omega), if_neg (by omega)]
    have e : T + U - 1 = 65535 * d + (T + (q + 1) - 1) := by omega
    rw [e, Nat.mul_add_mod]
/-- what makes the sum 65535 -/
theorem addw_rest (T : Nat) : addw (red T) (65535 - red T) = 65535 := by
  have := red_le T
  unfold addw
  rw [if_neg (by omega)]; omega
/-- a seal: the words of total T, and one more: 65535 just with the rest, or, where nothing is wanting, with 65535 too -/
theorem seal_iff (T w : Nat) (hw : w ≤ 65535) : red (T + w) = 65535 ↔ w = 65535 - red T ∨ (65535 - red T = 0 ∧ w = 65535) := by
  rw [← addw_red T w hw]
  have := red_le T
  unfold addw
  by_cases h : 65535 < red T + w
  · rw [if_pos h]; omega
  · rw [if_neg h]; omega
/-- an updated sum: T is the total without the word; old, then w in its place -/
theorem update_eq (T old w : Nat) (ho : old ≤ 65535) (hw : w ≤ 65535) : addw (addw (red (T + old)) (65535 - old)) w = red (T + w + 65535) := by
  rw [addw_red _ _ (by omega), addw_red _ _ hw]
  congr 1; omega
theorem update_good (T old w : Nat) (ho : old ≤ 65535) (hw : w ≤ 65535) :
    addw (red (T + w)) (65535 - addw (addw (red (T + old)) (65535 - old)) w) = 65535 ∨ red (T + w) = 0 := by
  rw [update_eq T old w ho hw]
  by_cases h : T + w = 0
  · exact .inr (red_eq_zero.2 h)
  · rw [red_more _ (by omega)]
    exact .inl (addw_rest _)

/-- a total of the first n -/
def tot (f : Nat → Nat) : Nat → Nat
  | 0 => 0
  | n + 1 => tot f n + f n
theorem tot_congr {f g : Nat → Nat} : ∀ n : Nat, (∀ i, i < n → f i = g i) → tot f n = tot g n
  | 0, _ => rfl
  | n + 1, h => by rw [tot, tot, tot_congr n (fun i hi => h i (by omega)), h n (by omega)]
theorem tot_add (f : Nat → Nat) (a : Nat) : ∀ b : Nat, tot f (a + b) = tot f a + tot (fun i => f (a + i)) b
  | 0 => rfl
  | b + 1 => by rw [← Nat.add_assoc, tot, tot_add f a b, tot]; omega
/-- turned round, the total is the same -/
theorem tot_turn (f : Nat → Nat) (n t : Nat) (ht : t < n) : tot (fun i => f ((i + t) % n)) n = tot f n := by
  obtain ⟨m, rfl⟩ : ∃ m, n = m + t := ⟨n - t, by omega⟩
  rw [tot_add (fun i => f ((i + t) % (m + t))) m t]
  rw [tot_congr (f := fun i => f ((i + t) % (m + t))) (g := fun i => f (t + i)) m (fun i hi => by
    show f _ = f _
    rw [Nat.mod_eq_of_lt (by omega)]; congr 1; omega)]
  rw [tot_congr (f := fun i => f ((m + i + t) % (m + t))) (g := f) t (fun i hi => by
    show f _ = f _
    rw [show m + i + t = i + (m + t) from by omega, Nat.add_mod_right, Nat.mod_eq_of_lt (by omega)])]
  rw [Nat.add_comm m t, tot_add f t m]
  omega
end Go.Proofs.Yteoleblnhcnpkaa
