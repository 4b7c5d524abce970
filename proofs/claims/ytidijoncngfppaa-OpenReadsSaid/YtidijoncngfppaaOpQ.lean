/- Plain numbers for layer 8: a body's bytes read back; cut, with more behind, for another peer. No condition. -/
import Derived.Test.YtidijoncngfppaaOpF
import Derived.Test.YtidijoncngfppaaAtN
namespace Go.Proofs.Ytidijoncngfppaa
open Go.RowKit
set_option linter.unusedVariables false

theorem nmb_left (p l : List UInt8) (a k : Nat) (h : a + k ≤ p.length) : nmb (p ++ l) a k = nmb p a k := by
  unfold nmb
  rw [List.drop_append_of_le_length (by omega), List.take_append_of_le_length (by simp; omega)]
theorem nmb_right (p l : List UInt8) (a k : Nat) : nmb (p ++ l) (p.length + a) k = nmb l a k := by
  unfold nmb
  rw [List.drop_append, List.drop_of_length_le (by omega), List.nil_append, show p.length + a - p.length = a from by omega]

/-- the numbers of bytes just written -/
theorem num1 (n : Int) (h : 0 ≤ n ∧ n ≤ 255) : numOf [byteAt n 0] = n.toNat := by
  have h1 := byteAt_int n 0
  have e : numOf [byteAt n 0] = (byteAt n 0).toNat := by simp [numOf]
  rw [e]
  simp at h1
  omega
theorem num2 (n : Int) (h : 0 ≤ n ∧ n ≤ 65535) : numOf [byteAt n 1, byteAt n 0] = n.toNat := by
  have h1 := byteAt_int n 0
  have h2 := byteAt_int n 1
  have e : numOf [byteAt n 1, byteAt n 0] = (byteAt n 1).toNat * 256 + (byteAt n 0).toNat := by simp [numOf]
  rw [e]
  simp at h1 h2
  omega
theorem num4 (n : Int) (h : 0 ≤ n ∧ n ≤ 4294967295) : numOf [byteAt n 3, byteAt n 2, byteAt n 1, byteAt n 0] = n.toNat := by
  have h1 := byteAt_int n 0
  have h2 := byteAt_int n 1
  have h3 := byteAt_int n 2
  have h4 := byteAt_int n 3
  have e : numOf [byteAt n 3, byteAt n 2, byteAt n 1, byteAt n 0] = (((byteAt n 3).toNat * 256 + (byteAt n 2).toNat) * 256 + (byteAt n 1).toNat) * 256 + (byteAt n 0).toNat := by simp [numOf]
  rw [e]
  simp at h1 h2 h3 h4
  omega

theorem headO_length (o : Oq) : (headO o).length = 9 := rfl
theorem tailO_nums (l : List Cp) (h : capsOk l) : nmb (tailO l) 0 1 = (tailO l).length - 1 ∧ 1 ≤ (tailO l).length := by
  unfold tailO
  split
  · exact ⟨rfl, by simp⟩
  · have hl := h.2
    refine ⟨?_, by simp⟩
    show numOf [byteAt (2 + (capsB l).length : Nat) 0] = _
    rw [num1 _ (by omega)]
    simp
    omega
theorem openB_eq (o : Oq) (h : goodO o) : openB o = headO o ++ tailO o.caps := by unfold openB; rw [if_pos h]
/-- what is told of a head, whatever stands behind it -/
theorem head_nums (o : Oq) (h : numsOk o) (hr : o.ident ≤ 4294967295 ∧ 0 ≤ o.ident) (m : List UInt8) :
    nmb (headO o ++ m) 0 1 = 4 ∧ (nmb (headO o ++ m) 1 2 : Int) = o.asn ∧ (nmb (headO o ++ m) 3 2 : Int) = o.hold ∧ (nmb (headO o ++ m) 5 4 : Int) = o.ident ∧ nmb (headO o ++ m) 9 1 = nmb m 0 1 := by
  obtain ⟨h1, h2, h3⟩ := h
  refine ⟨?_, ?_, ?_, ?_, ?_⟩
  · rw [nmb_left _ _ _ _ (by rw [headO_length]; omega)]; rfl
  · rw [nmb_left _ _ _ _ (by rw [headO_length]; omega)]
    show ((numOf [byteAt o.asn 1, byteAt o.asn 0] : Nat) : Int) = _
    rw [num2 _ (by omega)]; omega
  · rw [nmb_left _ _ _ _ (by rw [headO_length]; omega)]
    show ((numOf [byteAt o.hold 1, byteAt o.hold 0] : Nat) : Int) = _
    rw [num2 _ (by omega)]; omega
  · rw [nmb_left _ _ _ _ (by rw [headO_length]; omega)]
    show ((numOf [byteAt o.ident 3, byteAt o.ident 2, byteAt o.ident 1, byteAt o.ident 0] : Nat) : Int) = _
    rw [num4 _ (by omega)]; omega
  · have := nmb_right (headO o) m 0 1
    rw [headO_length] at this
    exact this

theorem numF_head (o : Oq) (h : numsOk o) (hr : o.ident ≤ 4294967295 ∧ 0 ≤ o.ident) (m : List UInt8) (asn : Int) :
    numF (headO o ++ m) asn = if 1 ≤ asn ∧ o.asn ≠ asn then 2 else if (nmb m 0 1 : Int) ≠ m.length - 1 then 0 else -1 := by
  obtain ⟨-, e1, e2, e3, e4⟩ := head_nums o h hr m
  obtain ⟨h1, h2, h3⟩ := h
  have hlen : ((headO o ++ m).length : Int) - 10 = m.length - 1 := by rw [List.length_append, headO_length]; omega
  unfold numF
  rw [e4, hlen, e1]
  by_cases hx : 1 ≤ asn ∧ o.asn ≠ asn
  · rw [if_pos (.inr hx), if_pos hx]
  · rw [if_neg (by rintro (h | h); omega; exact hx h), if_neg hx, if_neg (by omega), if_neg (by omega)]

/-- capabilities come back -/
theorem capsA_back : ∀ (l : List Cp) (p : List UInt8) (f : Nat), (∀ c, c ∈ l → capOk c) → (p ++ capsB l).length ≤ p.length + f → capsA f (p ++ capsB l) p.length = some l
  | [], p, f, h, hf => by
    cases f with
    | zero => rfl
    | succ f => rw [capsA, if_pos (by simp [capsB])]
  | c :: l, p, f, h, hf => by
    have hc := h c List.mem_cons_self
    obtain ⟨hc1, hc2⟩ := hc
    have hlen : (p ++ capsB (c :: l)).length = p.length + (2 + c.value.length) + (capsB l).length := by
      rw [List.length_append, capsB_cons, List.length_append, capB_length]; omega
    cases f with
    | zero => omega
    | succ f =>
      have n0 : nmb (p ++ capsB (c :: l)) p.length 1 = c.code.toNat := by
        have := nmb_right p (capsB (c :: l)) 0 1
        rw [Nat.add_zero] at this
        rw [this]
        show numOf [byteAt c.code 0] = _
        exact num1 _ hc1
      have n1 : nmb (p ++ capsB (c :: l)) (p.length + 1) 1 = c.value.length := by
        rw [nmb_right p (capsB (c :: l)) 1 1]
        show numOf [byteAt c.value.length 0] = _
        rw [num1 _ (by omega)]; simp
      have hsplit : p ++ capsB (c :: l) = (p ++ capB c) ++ capsB l := by rw [capsB_cons, List.append_assoc]
      have hpl : (p ++ capB c).length = p.length + 2 + c.value.length := by rw [List.length_append, capB_length]; omega
      have hv : ((p ++ capsB (c :: l)).drop (p.length + 2)).take c.value.length = c.value := by
        rw [show p ++ capsB (c :: l) = (p ++ [byteAt c.code 0, byteAt c.value.length 0]) ++ (c.value ++ capsB l) from by rw [capsB_cons]; simp [capB]]
        rw [show p.length + 2 = (p ++ [byteAt c.code 0, byteAt c.value.length 0]).length from by simp, List.drop_left, List.take_left]
      rw [capsA, if_neg (by omega), if_neg (by omega), n1, if_neg (by omega), n0, hv, hsplit, ← hpl]
      rw [capsA_back l (p ++ capB c) f (fun x hx => h x (List.mem_cons_of_mem _ hx)) (by rw [← hsplit]; omega)]
      show some (_ :: l) = _
      rw [show ((c.code.toNat : Nat) : Int) = c.code from by omega]
theorem capsL_back (l : List Cp) (h : ∀ c, c ∈ l → capOk c) : capsL (capsB l) = some l := by
  have := capsA_back l [] (capsB l).length h (by simp)
  simpa [capsL] using this

/-- a body comes back -/
theorem openB_back (o : Oq) (h : goodO o) (hr : o.ident ≤ 4294967295 ∧ 0 ≤ o.ident) (asn : Int) :
    parseO (openB o) asn = if 1 ≤ asn ∧ o.asn ≠ asn then (zeroOq, badO 2 []) else (o, noFt) := by
  obtain ⟨e0, e1, e2, e3, e4⟩ := head_nums o h.2 hr (tailO o.caps)
  obtain ⟨t1, t2⟩ := tailO_nums o.caps h.1
  have hF := numF_head o h.2 hr (tailO o.caps) asn
  have hlen : (headO o ++ tailO o.caps).length = 9 + (tailO o.caps).length := by rw [List.length_append, headO_length]
  rw [openB_eq o h]
  unfold parseO
  rw [if_neg (by omega), if_neg (by rw [e0]; decide), hF]
  by_cases hx : 1 ≤ asn ∧ o.asn ≠ asn
  · rw [if_pos hx, if_pos hx, if_pos (by decide)]
  · rw [if_neg hx, if_neg hx, if_neg (show ¬ (nmb (tailO o.caps) 0 1 : Int) ≠ (tailO o.caps).length - 1 by omega), if_neg (by decide), e1, e2, e3]
    have hp : parsA (headO o ++ tailO o.caps).length (headO o ++ tailO o.caps) 10 [] = .inr o.caps := by
      by_cases hc : o.caps = []
      · have hl : (headO o ++ tailO o.caps).length = 9 + 1 := by rw [hlen, hc]; rfl
        rw [hl, parsA, if_pos (by omega), hc]
      · have ht : tailO o.caps = [byteAt (2 + (capsB o.caps).length : Nat) 0, 2, byteAt (capsB o.caps).length 0] ++ capsB o.caps := if_neg hc
        have hq : headO o ++ tailO o.caps = (headO o ++ [byteAt (2 + (capsB o.caps).length : Nat) 0]) ++ ([2, byteAt (capsB o.caps).length 0] ++ capsB o.caps) := by rw [ht]; simp
        have hpl : (headO o ++ [byteAt (2 + (capsB o.caps).length : Nat) 0]).length = 10 := by rw [List.length_append, headO_length]; rfl
        have hl2 : (headO o ++ tailO o.caps).length = 12 + (capsB o.caps).length := by rw [hq, List.length_append, hpl, List.length_append]; simp; omega
        have h2 := h.1.2
        have n0 : nmb (headO o ++ tailO o.caps) 10 1 = 2 := by
          rw [hq]
          have := nmb_right (headO o ++ [byteAt (2 + (capsB o.caps).length : Nat) 0]) ([2, byteAt (capsB o.caps).length 0] ++ capsB o.caps) 0 1
          rw [hpl] at this
          rw [this]
          rfl
        have n1 : nmb (headO o ++ tailO o.caps) 11 1 = (capsB o.caps).length := by
          rw [hq]
          have := nmb_right (headO o ++ [byteAt (2 + (capsB o.caps).length : Nat) 0]) ([2, byteAt (capsB o.caps).length 0] ++ capsB o.caps) 1 1
          rw [hpl] at this
          rw [this]
          show numOf [byteAt (capsB o.caps).length 0] = _
          rw [num1 _ (by omega)]; simp
        have hd : ((headO o ++ tailO o.caps).drop 12).take (capsB o.caps).length = capsB o.caps := by
          rw [show headO o ++ tailO o.caps = (headO o ++ [byteAt (2 + (capsB o.caps).length : Nat) 0, 2, byteAt (capsB o.caps).length 0]) ++ capsB o.caps from by rw [ht]; simp]
          rw [List.drop_left' (by rw [List.length_append, headO_length]; rfl), List.take_of_length_le (Nat.le_refl _)]
        rw [hl2, show 12 + (capsB o.caps).length = (11 + (capsB o.caps).length) + 1 from by omega, parsA, if_neg (by omega), if_neg (by omega), n1, if_neg (by omega), n0, if_neg (by decide), hd, capsL_back _ h.1.1]
        show parsA _ _ _ ([] ++ o.caps) = _
        rw [List.nil_append, show 11 + (capsB o.caps).length = (10 + (capsB o.caps).length) + 1 from by omega, parsA, if_pos (by omega)]
    rw [hp]

/-- cut, it is none -/
theorem openB_cut (o : Oq) (h : goodO o) (hr : o.ident ≤ 4294967295 ∧ 0 ≤ o.ident) (k : Nat) (hk : k < (openB o).length) : parseO ((openB o).take k) 0 = (zeroOq, badO 0 []) := by
  obtain ⟨t1, t2⟩ := tailO_nums o.caps h.1
  rw [openB_eq o h] at hk ⊢
  rw [List.length_append, headO_length] at hk
  by_cases h10 : k < 10
  · unfold parseO
    rw [if_pos (by rw [List.length_take]; omega)]
  · have ht : (headO o ++ tailO o.caps).take k = headO o ++ (tailO o.caps).take (k - 9) := by
      rw [List.take_append, headO_length, List.take_of_length_le (by rw [headO_length]; omega)]
    have hl : ((tailO o.caps).take (k - 9)).length = k - 9 := by rw [List.length_take]; omega
    have hn : nmb ((tailO o.caps).take (k - 9)) 0 1 = (tailO o.caps).length - 1 := by
      rw [← t1]
      unfold nmb
      rw [List.drop_zero, List.drop_zero, List.take_take, Nat.min_eq_left (by omega)]
    have e0 := (head_nums o h.2 hr ((tailO o.caps).take (k - 9))).1
    have hF : numF (headO o ++ (tailO o.caps).take (k - 9)) 0 = 0 := by rw [numF_head o h.2 hr, if_neg (by omega), if_pos (by rw [hn, hl]; omega)]
    rw [ht]
    unfold parseO
    rw [if_neg (by rw [List.length_append, headO_length, hl]; omega), if_neg (by rw [e0]; decide), hF, if_pos (by decide)]

/-- with one more behind it, it is none -/
theorem openB_more (o : Oq) (h : goodO o) (hr : o.ident ≤ 4294967295 ∧ 0 ≤ o.ident) (u : UInt8) : parseO (openB o ++ [u]) 0 = (zeroOq, badO 0 []) := by
  obtain ⟨t1, t2⟩ := tailO_nums o.caps h.1
  rw [openB_eq o h, List.append_assoc]
  have hn : nmb (tailO o.caps ++ [u]) 0 1 = (tailO o.caps).length - 1 := by rw [nmb_left _ _ _ _ (by omega), t1]
  have e0 := (head_nums o h.2 hr (tailO o.caps ++ [u])).1
  have hF : numF (headO o ++ (tailO o.caps ++ [u])) 0 = 0 := by rw [numF_head o h.2 hr, if_neg (by omega), if_pos (by rw [hn, List.length_append, List.length_singleton]; omega)]
  unfold parseO
  rw [if_neg (by rw [List.length_append, headO_length, List.length_append, List.length_singleton]; omega), if_neg (by rw [e0]; decide), hF, if_pos (by decide)]
theorem openB_length (o : Oq) (h : goodO o) : 10 ≤ (openB o).length := by
  have := (tailO_nums o.caps h.1).2
  rw [openB_eq o h, List.length_append, headO_length]; omega
theorem openB_most (o : Oq) : (openB o).length ≤ 300 := by
  unfold openB
  split
  · rename_i h
    have h2 := h.1.2
    rw [List.length_append, headO_length]
    unfold tailO
    split
    · simp
    · simp; omega
  · simp
end Go.Proofs.Ytidijoncngfppaa
