/- Plain: a head with another Ttl or Dst, and its sum anew, is the head that is built so. No condition. Plain: a packet that was built is parsed to what it was built of, whatever stands behind it; cut it is too short; with one bit of its head turned it is not it. No condition. -/
import Derived.Test.YtcemdajkddidnaaGreatDoorQIpDG
import Derived.Test.YtcemdajkddidnaaGreatDoorQChkM
namespace Go.Proofs.YtcemdajkddidnaaGreatDoor
open Go.RowKit

theorem lay_twice (X : List UInt8) (u v : UInt8) (h : 12 ≤ X.length) : layB (layB X 10 [0, 0]) 10 [u, v] = layB X 10 [u, v] := by
  have e : (X.take 10).length = 10 := by simp; omega
  unfold layB
  rw [List.take_append_of_le_length (by simp; omega), List.take_take, Nat.min_self]
  congr 1
  congr 1
  rw [List.drop_append, e, List.drop_eq_nil_of_le (by simp; omega)]
  simp

theorem seal_lay (h : Hd) (n : Int) (X : List UInt8) (hX : 12 ≤ X.length) (hs : ∀ s, headB h n s = layB X 10 [byteAt s 1, byteAt s 0]) : sealH h n = sumH X := by
  have h0 : headB h n 0 = layB X 10 [0, 0] := by
    rw [hs 0, show byteAt 0 1 = 0 from by decide, show byteAt 0 0 = 0 from by decide]
  rw [sealH, h0, hs, sumH, lay_twice X _ _ hX]

theorem headB_ttl (l : List UInt8) (t s : Int) (h0 : 20 ≤ l.length) (h1 : fld l 0 1 / 16 = 4) (h2 : endH l = l.length) :
    headB { readH l with ttl := t } (fld l 2 2) s = layB (layB l 8 [byteAt t 0]) 10 [byteAt s 1, byteAt s 0] := by
  have hr := headB_read l s h0 h1 h2
  obtain ⟨b0, b1, b2, b3, b4, b5, b6, b7, b8, b9, c0, c1, c2, c3, c4, c5, c6, c7, c8, c9, m, rfl⟩ := twenty h0
  simp only [headB, readH, fld, List.drop_zero, List.drop_succ_cons, List.cons_append, List.nil_append, List.take_succ_cons, List.take_zero, List.set_cons_succ, List.set_cons_zero, List.cons.injEq] at hr ⊢
  obtain ⟨e0, e1, e2, e3, e4, e5, e6, e7, e8, e9, -, -, f2, f3, f4, f5, f6, f7, f8, f9, -⟩ := hr
  simp only [e0, e1, e2, e3, e4, e5, e6, e7, e9, f2, f3, f4, f5, f6, f7, f8, f9]
  simp [layB]

theorem headB_dst (l : List UInt8) (d s : Int) (h0 : 20 ≤ l.length) (h1 : fld l 0 1 / 16 = 4) (h2 : endH l = l.length) :
    headB { readH l with dst := d } (fld l 2 2) s = layB (layB l 16 [byteAt d 3, byteAt d 2, byteAt d 1, byteAt d 0]) 10 [byteAt s 1, byteAt s 0] := by
  have hr := headB_read l s h0 h1 h2
  obtain ⟨b0, b1, b2, b3, b4, b5, b6, b7, b8, b9, c0, c1, c2, c3, c4, c5, c6, c7, c8, c9, m, rfl⟩ := twenty h0
  simp only [headB, readH, fld, List.drop_zero, List.drop_succ_cons, List.cons_append, List.nil_append, List.take_succ_cons, List.take_zero, List.set_cons_succ, List.set_cons_zero, List.cons.injEq] at hr ⊢
  obtain ⟨e0, e1, e2, e3, e4, e5, e6, e7, e8, e9, -, -, f2, f3, f4, f5, -⟩ := hr
  simp only [e0, e1, e2, e3, e4, e5, e6, e7, e8, e9, f2, f3, f4, f5]
  simp [layB]

/-- what a right packet's head says is Good -/
theorem good_read (hd : List UInt8) (h20 : 20 ≤ hd.length) (h60 : hd.length ≤ 60) (h4 : hd.length % 4 = 0) : goodH (readH hd) := by
  have a1 := fld_lt hd 1 1
  have a2 := fld_lt hd 4 2
  have a3 := fld_lt hd 6 2
  have a4 := fld_lt hd 8 1
  have a5 := fld_lt hd 9 1
  refine ⟨⟨?_, ?_⟩, ⟨?_, ?_⟩, ⟨?_, ?_⟩, ⟨?_, ?_⟩, ⟨?_, ?_⟩, ⟨?_, ?_⟩, ?_, ?_⟩ <;> simp only [readH, List.length_drop] <;> omega

theorem head_facts {l : List UInt8} (h : parseE l = 0) : fld (headP l) 0 1 / 16 = 4 ∧ endH (headP l) = (headP l).length ∧ fld (headP l) 2 2 = lenH l ∧ (headP l).length % 4 = 0 ∧ (parseP l).length = lenH l - endH l ∧ endH l ≤ lenH l ∧ lenH l ≤ 9000 := by
  obtain ⟨h1, h2, h3, h4, h5, h6, h7, h8⟩ := parse_ok h
  obtain ⟨e, g1, g2, g3, g4, g5⟩ := headP_ok h
  have f0 : fld (headP l) 0 1 = fld l 0 1 := by rw [e]; exact fld_take l _ 0 1 (by omega)
  have f2 : fld (headP l) 2 2 = fld l 2 2 := by rw [e]; exact fld_take l _ 2 2 (by omega)
  refine ⟨by rw [f0]; exact h2, ?_, f2, by rw [g3]; unfold endH; omega, ?_, h6, h7⟩
  · rw [g3]; unfold endH; rw [f0]
  · have hp : parseP l = (l.take (lenH l)).drop (endH l) := if_pos h
    rw [hp]; simp; omega

theorem build_lay (l : List UInt8) (h : parseE l = 0) (h' : Hd) (X : List UInt8) (hX : 12 ≤ X.length) (hg : goodH h') (ho : h'.opts = (readH (headP l)).opts)
    (hs : ∀ s, headB h' (fld (headP l) 2 2) s = layB X 10 [byteAt s 1, byteAt s 0]) : buildB h' (parseP l) = sumH X ++ parseP l := by
  obtain ⟨f1, f2, f3, f4, f5, f6, f7⟩ := head_facts h
  obtain ⟨e, g1, g2, g3, g4, g5⟩ := headP_ok h
  have hsz : sizeH h' (parseP l) = lenH l := by
    unfold sizeH
    rw [ho, f5]
    show 20 + ((headP l).drop 20).length + _ = _
    rw [List.length_drop]; omega
  rw [buildB, if_pos ⟨hg, by rw [hsz]; exact f7⟩, hsz, ← f3, seal_lay h' _ X hX hs]

theorem fwd_lay (l : List UInt8) (h : parseE l = 0) (ht : 2 ≤ (parseH l).ttl) : fwdE l = 0 ∧ fwdB l = updH (headP l) 8 [byteAt ((parseH l).ttl - 1) 0] ++ parseP l := by
  obtain ⟨f1, f2, f3, f4, f5, f6, f7⟩ := head_facts h
  obtain ⟨e, g1, g2, g3, g4, g5⟩ := headP_ok h
  have hE : fwdE l = 0 := by rw [fwdE, if_neg (by simpa using h), if_neg (by omega)]
  refine ⟨hE, ?_⟩
  rw [fwdB, if_pos hE, updH]
  have hg := good_read (headP l) g1 g2 f4
  rw [g4] at ht ⊢
  refine build_lay l h _ _ (by rw [layB_length _ _ _ (by simp; omega)]; omega) ?_ rfl fun s => headB_ttl (headP l) _ s g1 f1 f2
  obtain ⟨q0, ⟨q1, q2⟩, q3⟩ := hg
  exact ⟨q0, ⟨by show 0 ≤ (readH (headP l)).ttl - 1; omega, by show (readH (headP l)).ttl - 1 ≤ 255; omega⟩, q3⟩

theorem rew_lay (l : List UInt8) (d : Int) (h : parseE l = 0) : rewB l d = updH (headP l) 16 [byteAt d 3, byteAt d 2, byteAt d 1, byteAt d 0] ++ parseP l := by
  obtain ⟨f1, f2, f3, f4, f5, f6, f7⟩ := head_facts h
  obtain ⟨e, g1, g2, g3, g4, g5⟩ := headP_ok h
  rw [rewB, if_pos h, updH]
  have hg := good_read (headP l) g1 g2 f4
  rw [g4]
  exact build_lay l h _ _ (by rw [layB_length _ _ _ (by simp; omega)]; omega) hg rfl fun s => headB_dst (headP l) _ s g1 f1 f2
end Go.Proofs.YtcemdajkddidnaaGreatDoor
namespace Go.Proofs.YtcemdajkddidnaaGreatDoor
open Go.RowKit

theorem headB_set (h : Hd) (n s : Int) : headB h n s = ((headB h n 0).set 10 (byteAt s 1)).set 11 (byteAt s 0) := by simp [headB]

theorem byteAt_lt (n : Int) (i : Nat) : (byteAt n i).toNat = (n / 256 ^ i % 256).toNat := by
  have := byteAt_int n i
  omega

/-- the words of a head with its sum come to 65535 -/
theorem sum_seal (h : Hd) (n : Int) (ho : h.opts.length % 4 = 0) : sumB (sealH h n) = 65535 := by
  obtain ⟨k, hk⟩ : ∃ k, 20 + h.opts.length = k + k := ⟨(20 + h.opts.length) / 2, by omega⟩
  have hl : ∀ s, (headB h n s).length = k + k := fun s => by rw [headB_length, hk]
  have h5 : 5 < k := by omega
  have key : ∀ s : Nat, s ≤ 65535 → sumB (headB h n s) = red (rest (headB h n 0) 5 k + s) := by
    intro s hs
    rw [sum_split _ 5 k (hl s) h5]
    have e1 : rest (headB h n s) 5 k = rest (headB h n 0) 5 k := by
      rw [headB_set h n s]
      exact rest_set2 (headB h n 0) 5 k _ _ (by rw [hl]; omega)
    rw [e1]
    congr 1
    congr 1
    have g : 20 ≤ (headB h n s).length := by rw [hl]; omega
    simp only [wordAt, headB, List.cons_append, List.nil_append, List.getD_cons_succ, List.getD_cons_zero, Nat.reduceMul, Nat.reduceAdd, byteAt_lt]
    omega
  rw [sealH, key _ (by omega)]
  have e0 := key 0 (by omega)
  rw [Nat.add_zero] at e0
  have e0' : sumB (headB h n 0) = red (rest (headB h n 0) 5 k) := e0
  rw [e0']
  exact seal_good _

theorem read_head (h : Hd) (hg : goodH h) (hr : HdR h) (n s : Int) : readH (headB h n s) = h := by
  obtain ⟨tos, id, flags, frag, ttl, proto, src, dst, opts⟩ := h
  obtain ⟨⟨g0, g1⟩, ⟨g2, g3⟩, ⟨g4, g5⟩, ⟨g6, g7⟩, ⟨g8, g9⟩, ⟨g10, g11⟩, g12, g13⟩ := hg
  obtain ⟨⟨p1, p2⟩, p3, p4⟩ := hr
  simp only at g0 g1 g2 g3 g4 g5 g6 g7 g8 g9 g10 g11 g12 g13 p1 p2 p3 p4
  simp only [readH, headB, fld, List.drop_zero, List.drop_succ_cons, List.cons_append, List.nil_append, List.take_succ_cons, List.take_zero, numOf, List.foldl, byteAt_lt, Hd.mk.injEq, and_true]
  refine ⟨?_, ?_, ?_, ?_, ?_, ?_, ?_, ?_⟩ <;> omega

/-- what a built packet's first bytes tell, whatever stands behind it -/
theorem head_tells (h : Hd) (hg : goodH h) (n s : Int) (hn : 0 ≤ n ∧ n ≤ 65535) (t : List UInt8) :
    fld (headB h n s ++ t) 0 1 / 16 = 4 ∧ endH (headB h n s ++ t) = 20 + h.opts.length ∧ (lenH (headB h n s ++ t) : Int) = n := by
  obtain ⟨tos, id, flags, frag, ttl, proto, src, dst, opts⟩ := h
  obtain ⟨-, -, -, -, -, -, g12, g13⟩ := hg
  simp only at g12 g13
  have e0 : fld (headB ⟨tos, id, flags, frag, ttl, proto, src, dst, opts⟩ n s ++ t) 0 1 = 64 + (20 + opts.length) / 4 := by
    simp only [headB, fld, List.drop_zero, List.cons_append, List.nil_append, List.take_succ_cons, List.take_zero, numOf, List.foldl, byteAt_lt]
    omega
  refine ⟨by rw [e0]; omega, by unfold endH; rw [e0]; simp only; omega, ?_⟩
  simp only [lenH, headB, fld, List.drop_zero, List.drop_succ_cons, List.cons_append, List.nil_append, List.take_succ_cons, List.take_zero, numOf, List.foldl, byteAt_lt]
  omega

theorem parse_build (h : Hd) (hg : goodH h) (hr : HdR h) (p t : List UInt8) (hs : sizeH h p ≤ 9000) :
    parseE (buildB h p ++ t) = 0 ∧ parseH (buildB h p ++ t) = h ∧ parseP (buildB h p ++ t) = p := by
  have hb : buildB h p = sealH h (sizeH h p) ++ p := if_pos ⟨hg, hs⟩
  have hl : (sealH h (sizeH h p)).length = 20 + h.opts.length := sealH_length _ _
  rw [hb, List.append_assoc]
  obtain ⟨f1, f2, f3⟩ := head_tells h hg (sizeH h p) ((65535 - sumB (headB h (sizeH h p) 0) : Nat) : Int) (by omega) (p ++ t)
  have f1' : fld (sealH h (sizeH h p) ++ (p ++ t)) 0 1 / 16 = 4 := f1
  have f2' : endH (sealH h (sizeH h p) ++ (p ++ t)) = 20 + h.opts.length := f2
  have f3' : lenH (sealH h (sizeH h p) ++ (p ++ t)) = sizeH h p := by
    have : (lenH (sealH h (sizeH h p) ++ (p ++ t)) : Int) = sizeH h p := f3
    omega
  have hsz : sizeH h p = 20 + h.opts.length + p.length := rfl
  have htk : (sealH h (sizeH h p) ++ (p ++ t)).take (20 + h.opts.length) = sealH h (sizeH h p) := by
    rw [List.take_append_of_le_length (by omega), List.take_of_length_le (by omega)]
  have hE : parseE (sealH h (sizeH h p) ++ (p ++ t)) = 0 := by
    have hlen : (sealH h (sizeH h p) ++ (p ++ t)).length = 20 + h.opts.length + p.length + t.length := by simp [hl]; omega
    rw [parseE, if_neg (by omega), if_neg (by omega), if_neg (by omega), if_neg (by omega), f2', htk, if_neg (by rw [sum_seal h _ hg.2.2.2.2.2.2.2]; simp)]
  refine ⟨hE, ?_, ?_⟩
  · rw [parseH, if_pos hE, f2', htk]
    exact read_head h hg hr _ _
  · rw [parseP, if_pos hE, f2', f3', ← List.append_assoc, List.take_left' (by rw [List.length_append, hl, hsz]), List.drop_left' hl]

/-- cut, it is too short -/
theorem parse_cut (h : Hd) (hg : goodH h) (p : List UInt8) (hs : sizeH h p ≤ 9000) (k : Nat) (hk : k < (buildB h p).length) : parseE ((buildB h p).take k) = 3 := by
  have hb : buildB h p = sealH h (sizeH h p) ++ p := if_pos ⟨hg, hs⟩
  have hl : (sealH h (sizeH h p)).length = 20 + h.opts.length := sealH_length _ _
  have hsz : sizeH h p = 20 + h.opts.length + p.length := rfl
  have hlen : (buildB h p).length = sizeH h p := by rw [hb, List.length_append, hl, hsz]
  have hkl : ((buildB h p).take k).length = k := by rw [List.length_take]; omega
  by_cases h20 : k < 20
  · rw [parseE, if_pos (by omega)]
  obtain ⟨f1, f2, f3⟩ := head_tells h hg (sizeH h p) ((65535 - sumB (headB h (sizeH h p) 0) : Nat) : Int) (by omega) p
  have f1' : fld (buildB h p) 0 1 / 16 = 4 := by rw [hb]; exact f1
  have f2' : endH (buildB h p) = 20 + h.opts.length := by rw [hb]; exact f2
  have f3' : lenH (buildB h p) = sizeH h p := by
    rw [hb]
    have : (lenH (sealH h (sizeH h p) ++ p) : Int) = sizeH h p := f3
    omega
  have g1 : fld ((buildB h p).take k) 0 1 = fld (buildB h p) 0 1 := fld_take _ _ _ _ (by omega)
  have g2 : endH ((buildB h p).take k) = 20 + h.opts.length := by rw [← f2', endH, endH, g1]
  have g3 : lenH ((buildB h p).take k) = sizeH h p := by rw [← f3', lenH, lenH]; exact fld_take _ _ _ _ (by omega)
  rw [parseE, if_neg (by omega), if_neg (by rw [g1, g2]; omega), if_pos (by rw [g3]; omega)]

theorem red_full (A : Nat) : red A = 65535 ↔ 0 < A ∧ A % 65535 = 0 := by
  unfold red
  split
  · omega
  · omega

/-- one byte less or more by a power of two: the words don't come to 65535 any more -/
theorem sum_turned (l : List UInt8) (k : Nat) (hl : l.length = k + k) (i : Nat) (hi : i < l.length) (u : UInt8) (b : Nat) (hb : b < 8) (hu : u.toNat = l[i].toNat + 2 ^ b ∨ l[i].toNat = u.toNat + 2 ^ b)
    (h1 : sumB l = 65535) : sumB (l.set i u) ≠ 65535 := by
  intro h2
  have hr : i / 2 < k := by omega
  have e0 := sum_split l (i / 2) k hl hr
  have e1 := sum_split (l.set i u) (i / 2) k (by rw [List.length_set]; exact hl) hr
  rw [h1] at e0
  rw [h2] at e1
  have er : rest (l.set i u) (i / 2) k = rest l (i / 2) k := by
    unfold rest
    refine tot_congr k fun j _ => ?_
    by_cases hj : j = i / 2
    · rw [if_pos hj, if_pos hj]
    · rw [if_neg hj, if_neg hj]
      unfold wordAt
      rw [List.getD, List.getElem?_set_ne (by omega), List.getD, List.getElem?_set_ne (by omega)]
      rfl
  rw [er] at e1
  have w0 := (red_full _).1 e0.symm
  have w1 := (red_full _).1 e1.symm
  have gi : l.getD i 0 = l[i] := by simp [List.getD, hi]
  have gi' : (l.set i u).getD i 0 = u := by simp [List.getD, hi]
  have hw : ∃ c, (c = 1 ∨ c = 256) ∧ ((wordAt (l.set i u) (i / 2) = wordAt l (i / 2) + c * 2 ^ b) ∨ (wordAt l (i / 2) = wordAt (l.set i u) (i / 2) + c * 2 ^ b)) := by
    unfold wordAt
    by_cases hp : i % 2 = 0
    · have ea : 2 * (i / 2) = i := by omega
      rw [ea]
      have eb : (l.set i u).getD (i + 1) 0 = l.getD (i + 1) 0 := by rw [List.getD, List.getElem?_set_ne (by omega)]; rfl
      rw [eb, gi, gi']
      refine ⟨256, .inr rfl, ?_⟩
      omega
    · have ea : 2 * (i / 2) + 1 = i := by omega
      have eb : (l.set i u).getD (2 * (i / 2)) 0 = l.getD (2 * (i / 2)) 0 := by rw [List.getD, List.getElem?_set_ne (by omega)]; rfl
      rw [ea, eb, gi, gi']
      refine ⟨1, .inl rfl, ?_⟩
      omega
  obtain ⟨c, hc, hw⟩ := hw
  generalize rest l (i / 2) k = T at *
  generalize wordAt l (i / 2) = x at *
  generalize wordAt (l.set i u) (i / 2) = y at *
  have hb8 : b = 0 ∨ b = 1 ∨ b = 2 ∨ b = 3 ∨ b = 4 ∨ b = 5 ∨ b = 6 ∨ b = 7 := by omega
  rcases hc with rfl | rfl <;> rcases hb8 with rfl | rfl | rfl | rfl | rfl | rfl | rfl | rfl <;> simp only [Nat.reducePow, Nat.reduceMul] at hw <;> omega

/-- a bit of the head turned -/
theorem parse_turned (h : Hd) (hg : goodH h) (p : List UInt8) (hs : sizeH h p ≤ 9000) (i : Nat) (hi : i < 20 + h.opts.length) (u : UInt8) (b : Nat) (hb8 : b < 8)
    (hu : ∀ w, (buildB h p)[i]? = some w → u.toNat = w.toNat + 2 ^ b ∨ w.toNat = u.toNat + 2 ^ b)
    (h0 : parseE ((buildB h p).set i u) = 0) (h1 : parseH ((buildB h p).set i u) = h) : False := by
  have hb : buildB h p = sealH h (sizeH h p) ++ p := if_pos ⟨hg, hs⟩
  have hl : (sealH h (sizeH h p)).length = 20 + h.opts.length := sealH_length _ _
  have hx : (buildB h p).set i u = (sealH h (sizeH h p)).set i u ++ p := by rw [hb, List.set_append_left _ _ (by omega)]
  obtain ⟨e, g1, g2, g3, g4, g5⟩ := headP_ok h0
  have ho : (readH (headP ((buildB h p).set i u))).opts = h.opts := by rw [← g4, h1]
  have hlen : (headP ((buildB h p).set i u)).length = 20 + h.opts.length := by
    have := congrArg List.length ho
    simp only [readH, List.length_drop] at this
    omega
  obtain ⟨-, -, -, -, -, -, -, h8⟩ := parse_ok h0
  rw [← e] at h8
  have hh : headP ((buildB h p).set i u) = (sealH h (sizeH h p)).set i u := by
    rw [e, ← g3, hlen, hx, List.take_left' (by rw [List.length_set, hl])]
  rw [hh] at h8
  obtain ⟨k, hk⟩ : ∃ k, 20 + h.opts.length = k + k := ⟨(20 + h.opts.length) / 2, by have := hg.2.2.2.2.2.2.2; omega⟩
  refine sum_turned (sealH h (sizeH h p)) k (by rw [hl, hk]) i (by omega) u b hb8 ?_ (sum_seal h _ hg.2.2.2.2.2.2.2) h8
  refine hu _ ?_
  rw [hb, List.getElem?_append_left (by omega)]
  exact List.getElem?_eq_getElem (by omega)
end Go.Proofs.YtcemdajkddidnaaGreatDoor
