/- Plain: a head with another Ttl or Dst, and its sum anew, is the head that is built so. No condition. -/
import Derived.Test.YteoleblnhcnpkaaIpDG
namespace Go.Proofs.Yteoleblnhcnpkaa
open Go.RowKit

theorem lay_twice (X : List UInt8) (u v : UInt8) (h : 12 ≤ X.length) : layB (layB X 10 [0, 0]) 10 [u, v] = layB X 10 [u, v] := by
  have e : (X.take 10).length = 10 := by simp; omega
  unfold layB
  rw [List.take_append_of_le_length (by simp; omega), List.take_take, Nat.min_self]
  congr 1
  congr 1
  rw [List.drop_append, e, List.drop_eq_nil_of_le (by simp; omega)]
  simp

theorem seal_lay (h : Hd) (n : Int) (X : List UInt8) (hX : 12 ≤ X.length) (hs : ∀ s, headB h n s = layB X 10 [byteAt s 1, byteAt s 0]) : sealH h n = sumH X := by
  have h0 : headB h n 0 = layB X 10 [0, 0] := by
    rw [hs 0, show byteAt 0 1 = 0 from by decide, show byteAt 0 0 = 0 from by decide]
  rw [sealH, h0, hs, sumH, lay_twice X _ _ hX]

theorem headB_ttl (l : List UInt8) (t s : Int) (h0 : 20 ≤ l.length) (h1 : fld l 0 1 / 16 = 4) (h2 : endH l = l.length) :
    headB { readH l with ttl := t } (fld l 2 2) s = layB (layB l 8 [byteAt t 0]) 10 [byteAt s 1, byteAt s 0] := by
  have hr := headB_read l s h0 h1 h2
  obtain ⟨b0, b1, b2, b3, b4, b5, b6, b7, b8, b9, c0, c1, c2, c3, c4, c5, c6, c7, c8, c9, m, rfl⟩ := twenty h0
  simp only [headB, readH, fld, List.drop_zero, List.drop_succ_cons, List.cons_append, List.nil_append, List.take_succ_cons, List.take_zero, List.set_cons_succ, List.set_cons_zero, List.cons.injEq] at hr ⊢
  obtain ⟨e0, e1, e2, e3, e4, e5, e6, e7, e8, e9, -, -, f2, f3, f4, f5, f6, f7, f8, f9, -⟩ := hr
  simp only [e0, e1, e2, e3, e4, e5, e6, e7, e9, f2, f3, f4, f5, f6, f7, f8, f9]
  simp [layB]

theorem headB_dst (l : List UInt8) (d s : Int) (h0 : 20 ≤ l.length) (h1 : fld l 0 1 / 16 = 4) (h2 : endH l = l.length) :
    headB { readH l with dst := d } (fld l 2 2) s = layB (layB l 16 [byteAt d 3, byteAt d 2, byteAt d 1, byteAt d 0]) 10 [byteAt s 1, byteAt s 0] := by
  have hr := headB_read l s h0 h1 h2
  obtain ⟨b0, b1, b2, b3, b4, b5, b6, b7, b8, b9, c0, c1, c2, c3, c4, c5, c6, c7, c8, c9, m, rfl⟩ := twenty h0
  simp only [headB, readH, fld, List.drop_zero, List.drop_succ_cons, List.cons_append, List.nil_append, List.take_succ_cons, List.take_zero, List.set_cons_succ, List.set_cons_zero, List.cons.injEq] at hr ⊢
  obtain ⟨e0, e1, e2, e3, e4, e5, e6, e7, e8, e9, -, -, f2, f3, f4, f5, -⟩ := hr
  simp only [e0, e1, e2, e3, e4, e5, e6, e7, e8, e9, f2, f3, f4, f5]
  simp [layB]

/-- what a right packet's head says is Good -/
theorem good_read (hd : List UInt8) (h20 : 20 ≤ hd.length) (h60 : hd.length ≤ 60) (h4 : hd.length % 4 = 0) : goodH (readH hd) := by
  have a1 := fld_lt hd 1 1
  have a2 := fld_lt hd 4 2
  have a3 := fld_lt hd 6 2
  have a4 := fld_lt hd 8 1
  have a5 := fld_lt hd 9 1
  refine ⟨⟨?_, ?_⟩, ⟨?_, ?_⟩, ⟨?_, ?_⟩, ⟨?_, ?_⟩, ⟨?_, ?_⟩, ⟨?_, ?_⟩, ?_, ?_⟩ <;> simp only [readH, List.length_drop] <;> omega

theorem head_facts {l : List UInt8} (h : parseE l = 0) : fld (headP l) 0 1 / 16 = 4 ∧ endH (headP l) = (headP l).length ∧ fld (headP l) 2 2 = lenH l ∧ (headP l).length % 4 = 0 ∧ (parseP l).length = lenH l - endH l ∧ endH l ≤ lenH l ∧ lenH l ≤ 9000 := by
  obtain ⟨h1, h2, h3, h4, h5, h6, h7, h8⟩ := parse_ok h
  obtain ⟨e, g1, g2, g3, g4, g5⟩ := headP_ok h
  have f0 : fld (headP l) 0 1 = fld l 0 1 := by rw [e]; exact fld_take l _ 0 1 (by omega)
  have f2 : fld (headP l) 2 2 = fld l 2 2 := by rw [e]; exact fld_take l _ 2 2 (by omega)
  refine ⟨by rw [f0]; exact h2, ?_, f2, by rw [g3]; unfold endH; omega, ?_, h6, h7⟩
  · rw [g3]; unfold endH; rw [f0]
  · have hp : parseP l = (l.take (lenH l)).drop (endH l) := if_pos h
    rw [hp]; simp; omega

theorem build_lay (l : List UInt8) (h : parseE l = 0) (h' : Hd) (X : List UInt8) (hX : 12 ≤ X.length) (hg : goodH h') (ho : h'.opts = (readH (headP l)).opts)
    (hs : ∀ s, headB h' (fld (headP l) 2 2) s = layB X 10 [byteAt s 1, byteAt s 0]) : buildB h' (parseP l) = sumH X ++ parseP l := by
  obtain ⟨f1, f2, f3, f4, f5, f6, f7⟩ := head_facts h
  obtain ⟨e, g1, g2, g3, g4, g5⟩ := headP_ok h
  have hsz : sizeH h' (parseP l) = lenH l := by
    unfold sizeH
    rw [ho, f5]
    show 20 + ((headP l).drop 20).length + _ = _
    rw [List.length_drop]; omega
  rw [buildB, if_pos ⟨hg, by rw [hsz]; exact f7⟩, hsz, ← f3, seal_lay h' _ X hX hs]

theorem fwd_lay (l : List UInt8) (h : parseE l = 0) (ht : 2 ≤ (parseH l).ttl) : fwdE l = 0 ∧ fwdB l = updH (headP l) 8 [byteAt ((parseH l).ttl - 1) 0] ++ parseP l := by
  obtain ⟨f1, f2, f3, f4, f5, f6, f7⟩ := head_facts h
  obtain ⟨e, g1, g2, g3, g4, g5⟩ := headP_ok h
  have hE : fwdE l = 0 := by rw [fwdE, if_neg (by simpa using h), if_neg (by omega)]
  refine ⟨hE, ?_⟩
  rw [fwdB, if_pos hE, updH]
  have hg := good_read (headP l) g1 g2 f4
  rw [g4] at ht ⊢
  refine build_lay l h _ _ (by rw [layB_length _ _ _ (by simp; omega)]; omega) ?_ rfl fun s => headB_ttl (headP l) _ s g1 f1 f2
  obtain ⟨q0, ⟨q1, q2⟩, q3⟩ := hg
  exact ⟨q0, ⟨by show 0 ≤ (readH (headP l)).ttl - 1; omega, by show (readH (headP l)).ttl - 1 ≤ 255; omega⟩, q3⟩

theorem rew_lay (l : List UInt8) (d : Int) (h : parseE l = 0) : rewB l d = updH (headP l) 16 [byteAt d 3, byteAt d 2, byteAt d 1, byteAt d 0] ++ parseP l := by
  obtain ⟨f1, f2, f3, f4, f5, f6, f7⟩ := head_facts h
  obtain ⟨e, g1, g2, g3, g4, g5⟩ := headP_ok h
  rw [rewB, if_pos h, updH]
  have hg := good_read (headP l) g1 g2 f4
  rw [g4]
  exact build_lay l h _ _ (by rw [layB_length _ _ _ (by simp; omega)]; omega) hg rfl fun s => headB_dst (headP l) _ s g1 f1 f2
end Go.Proofs.Yteoleblnhcnpkaa
