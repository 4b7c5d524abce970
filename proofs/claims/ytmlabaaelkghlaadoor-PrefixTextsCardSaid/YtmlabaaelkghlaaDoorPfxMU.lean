/- Plain facts: the two ways of reading a prefix's text are one. No condition. -/
import Derived.Test.YtmlabaaelkghlaaDoorPfxRT
namespace Go.Proofs.YtmlabaaelkghlaaDoor
open Go.RowKit
set_option linter.unusedVariables false
set_option maxRecDepth 100000

theorem refT_sound (l : List UInt8) (q : Int × Int) (h : refT l = some q) : parT l = some q := by
  unfold refT at h
  split at h
  · cases h
  · split at h
    · cases h
    · split at h
      · cases h
      · rename_i n hn
        split at h
        · cases h
        · rename_i a ha
          split at h
          · rename_i hc
            simp only [Option.some.injEq] at h
            have hal := (finA_sound _ _ ha).2
            have ht := parT_text a n ⟨by omega, by omega⟩
            rw [hc.2] at ht
            have hg := hc.1
            unfold goodB at hg
            simp only [Bool.and_eq_true, decide_eq_true_eq] at hg
            rw [ht, ← hg.1, ← hg.2, h]
          · cases h
theorem cutB_join (c : UInt8) : ∀ l : List UInt8, (cutB c l).2.2 = true → l = (cutB c l).1 ++ c :: (cutB c l).2.1
  | [], h => by simp [cutB] at h
  | b :: t, h => by
    by_cases hb : b = c
    · subst hb; simp [cutB]
    · have := cutB_join c t (by simpa [cutB, hb] using h)
      simp only [cutB, hb, if_false]
      rw [List.cons_append, ← this]
theorem cutB_none (c : UInt8) : ∀ l : List UInt8, (cutB c l).2.2 = false → (cutB c l).2.1 = []
  | [], _ => rfl
  | b :: t, h => by
    by_cases hb : b = c
    · subst hb; simp [cutB] at h
    · have := cutB_none c t (by simpa [cutB, hb] using h)
      simp [cutB, hb, this]
theorem lastAt_at (x y : List UInt8) (hy : ∀ c ∈ y, c ≠ 47) : ∀ k : Nat, x.length < k → k ≤ (x ++ 47 :: y).length → lastAt (x ++ 47 :: y) k = x.length
  | 0, h, _ => by omega
  | m + 1, h, hk => by
    rw [lastAt]
    by_cases he : m = x.length
    · subst he
      have : (x ++ 47 :: y).getD x.length 0 = 47 := by simp [List.getD]
      rw [this, if_pos (by decide)]
    · have hm : x.length < m := by omega
      have hml : m - x.length - 1 < y.length := by simp at hk; omega
      have hg : (x ++ 47 :: y).getD m 0 = y[m - x.length - 1] := by
        rw [List.getD, List.getElem?_append_right (by omega)]
        obtain ⟨j, hj⟩ : ∃ j, m - x.length = j + 1 := ⟨m - x.length - 1, by omega⟩
        have hj2 : m - x.length - 1 = j := by omega
        simp only [hj, List.getElem?_cons_succ]
        rw [List.getElem?_eq_getElem (by omega)]
        rfl
      have hne := hy _ (List.getElem_mem hml)
      rw [hg, if_neg (fun h47 => hne (by
        have : (47 : UInt8) = UInt8.ofNat 47 := rfl
        rw [this, ← h47]; simp))]
      exact lastAt_at x y hy m hm (by omega)
theorem digs_dec (n : Nat) (hn : n < 100) : digs (Lib.decDigits n) 0 = some n ∧ 1 ≤ (Lib.decDigits n).length ∧ (Lib.decDigits n).length ≤ 2 := by
  have step : ∀ (d m : Nat) (t : List UInt8), d < 10 → digs (UInt8.ofNat (48 + d) :: t) m = digs t (10 * m + d) := by
    intro d m t hd
    have := dgt d hd
    rw [digs, if_neg (by omega), this, show 48 + d - 48 = d from by omega]
  by_cases h1 : n < 10
  · rw [Lib.decDigits_one h1]
    refine ⟨?_, by simp, by simp⟩
    rw [step n 0 [] h1, digs]; simp
  · rw [Lib.decDigits_two h1 hn]
    refine ⟨?_, by simp, by simp⟩
    rw [step _ 0 _ (by omega), step _ _ _ (by omega), digs]
    congr 1; omega
theorem parT_sound (l : List UInt8) (q : Int × Int) (h : parT l = some q) : refT l = some q := by
  unfold parT at h
  split at h
  · cases h
  · rename_i a ha
    split at h
    · rename_i hc
      obtain ⟨h1, h2, h3⟩ := hc
      simp only [Option.some.injEq] at h
      obtain ⟨hal, ha32⟩ := finA_sound _ _ ha
      have hn32 := (cutN_le 32 (cutB 47 l).2.1).1
      have htl := cutN_sound 32 _ _ _ (cutN_eta 32 _ h1)
      rw [h2, List.append_nil] at htl
      have hfound : (cutB 47 l).2.2 = true := by
        cases hf : (cutB 47 l).2.2
        · rw [cutB_none 47 l hf] at h1
          simp [cutN, cutGo] at h1
        · rfl
      have hl := cutB_join 47 l hfound
      rw [← hal, htl] at hl
      generalize (cutN 32 (cutB 47 l).2.1).1 = n at *
      clear h1 h2 htl hal hfound ha
      obtain ⟨hd1, hd2, hd3⟩ := digs_dec n (by omega)
      have hlen : l.length = (addrL a).length + 1 + (Lib.decDigits n).length := by rw [hl]; simp; omega
      have hlast : lastAt l l.length = (addrL a).length := by
        have := lastAt_at (addrL a) (Lib.decDigits n) (dec_no47 n (by omega)) l.length (by omega) (by rw [← hl]; exact Nat.le_refl _)
        rw [← hl] at this
        exact this
      have hdrop : l.drop ((addrL a).length + 1) = Lib.decDigits n := by rw [hl, ← List.drop_drop, List.drop_left]; rfl
      have htake : l.take (addrL a).length = addrL a := by rw [hl, List.take_left]
      obtain ⟨x, hx, hxa⟩ := finA_addr a (by omega) (by omega)
      have hxa2 : x = a := by omega
      rw [hxa2] at hx
      have hg := h3
      unfold goodB at hg
      simp only [Bool.and_eq_true, decide_eq_true_eq] at hg
      have htext : textL a n = l := by
        unfold textL
        rw [← hg.1, ← hg.2, Int.toNat_natCast, hl, List.append_assoc]; rfl
      unfold refT
      rw [hlast, if_neg (by omega), Int.toNat_natCast, if_neg (by omega), hdrop, hd1]
      dsimp only
      rw [htake, hx]
      dsimp only
      rw [if_pos ⟨h3, htext⟩, h]
    · cases h
/-- the two readings of a prefix's text are one -/
theorem refT_eq (l : List UInt8) : refT l = parT l := by
  rcases h : parT l with _ | q
  · rcases h2 : refT l with _ | p
    · rfl
    · have := refT_sound l p h2
      rw [h] at this
      cases this
  · exact parT_sound l q h
end Go.Proofs.YtmlabaaelkghlaaDoor
