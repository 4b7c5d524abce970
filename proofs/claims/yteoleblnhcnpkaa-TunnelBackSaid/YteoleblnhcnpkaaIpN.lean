/- Plain: a packet that was built is parsed to what it was built of, whatever stands behind it; cut it is too short; with one bit of its head turned it is not it. No condition. -/
import Derived.Test.YteoleblnhcnpkaaIpM
import Derived.Test.YteoleblnhcnpkaaChkM
namespace Go.Proofs.Yteoleblnhcnpkaa
open Go.RowKit

theorem headB_set (h : Hd) (n s : Int) : headB h n s = ((headB h n 0).set 10 (byteAt s 1)).set 11 (byteAt s 0) := by simp [headB]

theorem byteAt_lt (n : Int) (i : Nat) : (byteAt n i).toNat = (n / 256 ^ i % 256).toNat := by
  have := byteAt_int n i
  omega

/-- the words of a head with its sum come to 65535 -/
theorem sum_seal (h : Hd) (n : Int) (ho : h.opts.length % 4 = 0) : sumB (sealH h n) = 65535 := by
  obtain ⟨k, hk⟩ : ∃ k, 20 + h.opts.length = k + k := ⟨(20 + h.opts.length) / 2, by omega⟩
  have hl : ∀ s, (headB h n s).length = k + k := fun s => by rw [headB_length, hk]
  have h5 : 5 < k := by omega
  have key : ∀ s : Nat, s ≤ 65535 → sumB (headB h n s) = red (rest (headB h n 0) 5 k + s) := by
    intro s hs
    rw [sum_split _ 5 k (hl s) h5]
    have e1 : rest (headB h n s) 5 k = rest (headB h n 0) 5 k := by
      rw [headB_set h n s]
      exact rest_set2 (headB h n 0) 5 k _ _ (by rw [hl]; omega)
    rw [e1]
    congr 1
    congr 1
    have g : 20 ≤ (headB h n s).length := by rw [hl]; omega
    simp only [wordAt, headB, List.cons_append, List.nil_append, List.getD_cons_succ, List.getD_cons_zero, Nat.reduceMul, Nat.reduceAdd, byteAt_lt]
    omega
  rw [sealH, key _ (by omega)]
  have e0 := key 0 (by omega)
  rw [Nat.add_zero] at e0
  have e0' : sumB (headB h n 0) = red (rest (headB h n 0) 5 k) := e0
  rw [e0']
  exact seal_good _

theorem read_head (h : Hd) (hg : goodH h) (hr : HdR h) (n s : Int) : readH (headB h n s) = h := by
  obtain ⟨tos, id, flags, frag, ttl, proto, src, dst, opts⟩ := h
  obtain ⟨⟨g0, g1⟩, ⟨g2, g3⟩, ⟨g4, g5⟩, ⟨g6, g7⟩, ⟨g8, g9⟩, ⟨g10, g11⟩, g12, g13⟩ := hg
  obtain ⟨⟨p1, p2⟩, p3, p4⟩ := hr
  simp only at g0 g1 g2 g3 g4 g5 g6 g7 g8 g9 g10 g11 g12 g13 p1 p2 p3 p4
  simp only [readH, headB, fld, List.drop_zero, List.drop_succ_cons, List.cons_append, List.nil_append, List.take_succ_cons, List.take_zero, numOf, List.foldl, byteAt_lt, Hd.mk.injEq, and_true]
  refine ⟨?_, ?_, ?_, ?_, ?_, ?_, ?_, ?_⟩ <;> omega

/-- what a built packet's first bytes tell, whatever stands behind it -/
theorem head_tells (h : Hd) (hg : goodH h) (n s : Int) (hn : 0 ≤ n ∧ n ≤ 65535) (t : List UInt8) :
    fld (headB h n s ++ t) 0 1 / 16 = 4 ∧ endH (headB h n s ++ t) = 20 + h.opts.length ∧ (lenH (headB h n s ++ t) : Int) = n := by
  obtain ⟨tos, id, flags, frag, ttl, proto, src, dst, opts⟩ := h
  obtain ⟨-, -, -, -, -, -, g12, g13⟩ := hg
  simp only at g12 g13
  have e0 : fld (headB ⟨tos, id, flags, frag, ttl, proto, src, dst, opts⟩ n s ++ t) 0 1 = 64 + (20 + opts.length) / 4 := by
    simp only [headB, fld, List.drop_zero, List.cons_append, List.nil_append, List.take_succ_cons, List.take_zero, numOf, List.foldl, byteAt_lt]
    omega
  refine ⟨by rw [e0]; omega, by unfold endH; rw [e0]; simp only; omega, ?_⟩
  simp only [lenH, headB, fld, List.drop_zero, List.drop_succ_cons, List.cons_append, List.nil_append, List.take_succ_cons, List.take_zero, numOf, List.foldl, byteAt_lt]
  omega

theorem parse_build (h : Hd) (hg : goodH h) (hr : HdR h) (p t : List UInt8) (hs : sizeH h p ≤ 9000) :
    parseE (buildB h p ++ t) = 0 ∧ parseH (buildB h p ++ t) = h ∧ parseP (buildB h p ++ t) = p := by
  have hb : buildB h p = sealH h (sizeH h p) ++ p := if_pos ⟨hg, hs⟩
  have hl : (sealH h (sizeH h p)).length = 20 + h.opts.length := sealH_length _ _
  rw [hb, List.append_assoc]
  obtain ⟨f1, f2, f3⟩ := head_tells h hg (sizeH h p) ((65535 - sumB (headB h (sizeH h p) 0) : Nat) : Int) (by omega) (p ++ t)
  have f1' : fld (sealH h (sizeH h p) ++ (p ++ t)) 0 1 / 16 = 4 := f1
  have f2' : endH (sealH h (sizeH h p) ++ (p ++ t)) = 20 + h.opts.length := f2
  have f3' : lenH (sealH h (sizeH h p) ++ (p ++ t)) = sizeH h p := by
    have : (lenH (sealH h (sizeH h p) ++ (p ++ t)) : Int) = sizeH h p := f3
    omega
  have hsz : sizeH h p = 20 + h.opts.length + p.length := rfl
  have htk : (sealH h (sizeH h p) ++ (p ++ t)).take (20 + h.opts.length) = sealH h (sizeH h p) := by
    rw [List.take_append_of_le_length (by omega), List.take_of_length_le (by omega)]
  have hE : parseE (sealH h (sizeH h p) ++ (p ++ t)) = 0 := by
    have hlen : (sealH h (sizeH h p) ++ (p ++ t)).length = 20 + h.opts.length + p.length + t.length := by simp [hl]; omega
    rw [parseE, if_neg (by omega), if_neg (by omega), if_neg (by omega), if_neg (by omega), f2', htk, if_neg (by rw [sum_seal h _ hg.2.2.2.2.2.2.2]; simp)]
  refine ⟨hE, ?_, ?_⟩
  · rw [parseH, if_pos hE, f2', htk]
    exact read_head h hg hr _ _
  · rw [parseP, if_pos hE, f2', f3', ← List.append_assoc, List.take_left' (by rw [List.length_append, hl, hsz]), List.drop_left' hl]

/-- cut, it is too short -/
theorem parse_cut (h : Hd) (hg : goodH h) (p : List UInt8) (hs : sizeH h p ≤ 9000) (k : Nat) (hk : k < (buildB h p).length) : parseE ((buildB h p).take k) = 3 := by
  have hb : buildB h p = sealH h (sizeH h p) ++ p := if_pos ⟨hg, hs⟩
  have hl : (sealH h (sizeH h p)).length = 20 + h.opts.length := sealH_length _ _
  have hsz : sizeH h p = 20 + h.opts.length + p.length := rfl
  have hlen : (buildB h p).length = sizeH h p := by rw [hb, List.length_append, hl, hsz]
  have hkl : ((buildB h p).take k).length = k := by rw [List.length_take]; omega
  by_cases h20 : k < 20
  · rw [parseE, if_pos (by omega)]
  obtain ⟨f1, f2, f3⟩ := head_tells h hg (sizeH h p) ((65535 - sumB (headB h (sizeH h p) 0) : Nat) : Int) (by omega) p
  have f1' : fld (buildB h p) 0 1 / 16 = 4 := by rw [hb]; exact f1
  have f2' : endH (buildB h p) = 20 + h.opts.length := by rw [hb]; exact f2
  have f3' : lenH (buildB h p) = sizeH h p := by
    rw [hb]
    have : (lenH (sealH h (sizeH h p) ++ p) : Int) = sizeH h p := f3
    omega
  have g1 : fld ((buildB h p).take k) 0 1 = fld (buildB h p) 0 1 := fld_take _ _ _ _ (by omega)
  have g2 : endH ((buildB h p).take k) = 20 + h.opts.length := by rw [← f2', endH, endH, g1]
  have g3 : lenH ((buildB h p).take k) = sizeH h p := by rw [← f3', lenH, lenH]; exact fld_take _ _ _ _ (by omega)
  rw [parseE, if_neg (by omega), if_neg (by rw [g1, g2]; omega), if_pos (by rw [g3]; omega)]

theorem red_full (A : Nat) : red A = 65535 ↔ 0 < A ∧ A % 65535 = 0 := by
  unfold red
  split
  · omega
  · omega

/-- one byte less or more by a power of two: the words don't come to 65535 any more -/
theorem sum_turned (l : List UInt8) (k : Nat) (hl : l.length = k + k) (i : Nat) (hi : i < l.length) (u : UInt8) (b : Nat) (hb : b < 8) (hu : u.toNat = l[i].toNat + 2 ^ b ∨ l[i].toNat = u.toNat + 2 ^ b)
    (h1 : sumB l = 65535) : sumB (l.set i u) ≠ 65535 := by
  intro h2
  have hr : i / 2 < k := by omega
  have e0 := sum_split l (i / 2) k hl hr
  have e1 := sum_split (l.set i u) (i / 2) k (by rw [List.length_set]; exact hl) hr
  rw [h1] at e0
  rw [h2] at e1
  have er : rest (l.set i u) (i / 2) k = rest l (i / 2) k := by
    unfold rest
    refine tot_congr k fun j _ => ?_
    by_cases hj : j = i / 2
    · rw [if_pos hj, if_pos hj]
    · rw [if_neg hj, if_neg hj]
      unfold wordAt
      rw [List.getD, List.getElem?_set_ne (by omega), List.getD, List.getElem?_set_ne (by omega)]
      rfl
  rw [er] at e1
  have w0 := (red_full _).1 e0.symm
  have w1 := (red_full _).1 e1.symm
  have gi : l.getD i 0 = l[i] := by simp [List.getD, hi]
  have gi' : (l.set i u).getD i 0 = u := by simp [List.getD, hi]
  have hw : ∃ c, (c = 1 ∨ c = 256) ∧ ((wordAt (l.set i u) (i / 2) = wordAt l (i / 2) + c * 2 ^ b) ∨ (wordAt l (i / 2) = wordAt (l.set i u) (i / 2) + c * 2 ^ b)) := by
    unfold wordAt
    by_cases hp : i % 2 = 0
    · have ea : 2 * (i / 2) = i := by omega
      rw [ea]
      have eb : (l.set i u).getD (i + 1) 0 = l.getD (i + 1) 0 := by rw [List.getD, List.getElem?_set_ne (by omega)]; rfl
      rw [eb, gi, gi']
      refine ⟨256, .inr rfl, ?_⟩
      omega
    · have ea : 2 * (i / 2) + 1 = i := by omega
      have eb : (l.set i u).getD (2 * (i / 2)) 0 = l.getD (2 * (i / 2)) 0 := by rw [List.getD, List.getElem?_set_ne (by omega)]; rfl
      rw [ea, eb, gi, gi']
      refine ⟨1, .inl rfl, ?_⟩
      omega
  obtain ⟨c, hc, hw⟩ := hw
  generalize rest l (i / 2) k = T at *
  generalize wordAt l (i / 2) = x at *
  generalize wordAt (l.set i u) (i / 2) = y at *
  have hb8 : b = 0 ∨ b = 1 ∨ b = 2 ∨ b = 3 ∨ b = 4 ∨ b = 5 ∨ b = 6 ∨ b = 7 := by omega
  rcases hc with rfl | rfl <;> rcases hb8 with rfl | rfl | rfl | rfl | rfl | rfl | rfl | rfl <;> simp only [Nat.reducePow, Nat.reduceMul] at hw <;> omega

/-- a bit of the head turned -/
theorem parse_turned (h : Hd) (hg : goodH h) (p : List UInt8) (hs : sizeH h p ≤ 9000) (i : Nat) (hi : i < 20 + h.opts.length) (u : UInt8) (b : Nat) (hb8 : b < 8)
    (hu : ∀ w, (buildB h p)[i]? = some w → u.toNat = w.toNat + 2 ^ b ∨ w.toNat = u.toNat + 2 ^ b)
    (h0 : parseE ((buildB h p).set i u) = 0) (h1 : parseH ((buildB h p).set i u) = h) : False := by
  have hb : buildB h p = sealH h (sizeH h p) ++ p := if_pos ⟨hg, hs⟩
  have hl : (sealH h (sizeH h p)).length = 20 + h.opts.length := sealH_length _ _
  have hx : (buildB h p).set i u = (sealH h (sizeH h p)).set i u ++ p := by rw [hb, List.set_append_left _ _ (by omega)]
  obtain ⟨e, g1, g2, g3, g4, g5⟩ := headP_ok h0
  have ho : (readH (headP ((buildB h p).set i u))).opts = h.opts := by rw [← g4, h1]
  have hlen : (headP ((buildB h p).set i u)).length = 20 + h.opts.length := by
    have := congrArg List.length ho
    simp only [readH, List.length_drop] at this
    omega
  obtain ⟨-, -, -, -, -, -, -, h8⟩ := parse_ok h0
  rw [← e] at h8
  have hh : headP ((buildB h p).set i u) = (sealH h (sizeH h p)).set i u := by
    rw [e, ← g3, hlen, hx, List.take_left' (by rw [List.length_set, hl])]
  rw [hh] at h8
  obtain ⟨k, hk⟩ : ∃ k, 20 + h.opts.length = k + k := ⟨(20 + h.opts.length) / 2, by have := hg.2.2.2.2.2.2.2; omega⟩
  refine sum_turned (sealH h (sizeH h p)) k (by rw [hl, hk]) i (by omega) u b hb8 ?_ (sum_seal h _ hg.2.2.2.2.2.2.2) h8
  refine hu _ ?_
  rw [hb, List.getElem?_append_left (by omega)]
  exact List.getElem?_eq_getElem (by omega)
end Go.Proofs.Yteoleblnhcnpkaa
