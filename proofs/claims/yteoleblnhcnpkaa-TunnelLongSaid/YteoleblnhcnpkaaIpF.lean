/- Plain forms for layer 4: a header, its bytes, and what bytes say. No condition. -/
import Derived.Test.YteoleblnhcnpkaaBase
import Derived.Test.YteoleblnhcnpkaaChkR
namespace Go.Proofs.Yteoleblnhcnpkaa
open Go.RowKit

/-- a header -/
structure Hd where
  tos : Int
  id : Int
  flags : Int
  frag : Int
  ttl : Int
  proto : Int
  src : Int
  dst : Int
  opts : List UInt8

/-- has a head room for each part? -/
def goodH (h : Hd) : Prop :=
  (0 ≤ h.tos ∧ h.tos ≤ 255) ∧ (0 ≤ h.ttl ∧ h.ttl ≤ 255) ∧ (0 ≤ h.proto ∧ h.proto ≤ 255) ∧ (0 ≤ h.id ∧ h.id ≤ 65535) ∧ (0 ≤ h.flags ∧ h.flags ≤ 7) ∧ (0 ≤ h.frag ∧ h.frag ≤ 8191) ∧
    h.opts.length ≤ 40 ∧ h.opts.length % 4 = 0
instance (h : Hd) : Decidable (goodH h) := by unfold goodH; infer_instance

/-- the numbers are those of their kinds -/
structure HdOk (h : Hd) : Prop where
  tos : -9223372036854775808 ≤ h.tos ∧ h.tos ≤ 9223372036854775807
  id : -9223372036854775808 ≤ h.id ∧ h.id ≤ 9223372036854775807
  flags : -9223372036854775808 ≤ h.flags ∧ h.flags ≤ 9223372036854775807
  frag : -9223372036854775808 ≤ h.frag ∧ h.frag ≤ 9223372036854775807
  ttl : -9223372036854775808 ≤ h.ttl ∧ h.ttl ≤ 9223372036854775807
  proto : -9223372036854775808 ≤ h.proto ∧ h.proto ≤ 9223372036854775807
  src : 0 ≤ h.src ∧ h.src ≤ 4294967295
  dst : 0 ≤ h.dst ∧ h.dst ≤ 4294967295

/-- a head's bytes, with a sum -/
def headB (h : Hd) (n s : Int) : List UInt8 :=
  [byteAt (64 + (20 + (h.opts.length : Int)) / 4) 0, byteAt h.tos 0, byteAt n 1, byteAt n 0, byteAt h.id 1, byteAt h.id 0, byteAt (h.flags * 8192 + h.frag) 1, byteAt (h.flags * 8192 + h.frag) 0,
   byteAt h.ttl 0, byteAt h.proto 0, byteAt s 1, byteAt s 0, byteAt h.src 3, byteAt h.src 2, byteAt h.src 1, byteAt h.src 0, byteAt h.dst 3, byteAt h.dst 2, byteAt h.dst 1, byteAt h.dst 0] ++ h.opts
theorem headB_length (h : Hd) (n s : Int) : (headB h n s).length = 20 + h.opts.length := by simp [headB]; omega
/-- a head with its sum -/
def sealH (h : Hd) (n : Int) : List UInt8 := headB h n ((65535 - sumB (headB h n 0) : Nat) : Int)
theorem sealH_length (h : Hd) (n : Int) : (sealH h n).length = 20 + h.opts.length := headB_length _ _ _
/-- how many bytes a packet has -/
def sizeH (h : Hd) (p : List UInt8) : Nat := 20 + h.opts.length + p.length
/-- the packet -/
def buildB (h : Hd) (p : List UInt8) : List UInt8 := if goodH h ∧ sizeH h p ≤ 9000 then sealH h (sizeH h p) ++ p else []

/-- the number at a place -/
def fld (l : List UInt8) (a k : Nat) : Nat := numOf ((l.drop a).take k)
/-- what a head says -/
def readH (l : List UInt8) : Hd :=
  ⟨fld l 1 1, fld l 4 2, (fld l 6 2 / 8192 : Nat), (fld l 6 2 % 8192 : Nat), fld l 8 1, fld l 9 1, fld l 12 4, fld l 16 4, l.drop 20⟩
def zeroH : Hd := ⟨0, 0, 0, 0, 0, 0, 0, 0, []⟩
/-- how many bytes its head has, and it -/
def endH (l : List UInt8) : Nat := 4 * (fld l 0 1 % 16)
def lenH (l : List UInt8) : Nat := fld l 2 2
/-- the first that is wrong -/
def parseE (l : List UInt8) : Int :=
  if l.length < 20 then 3 else if fld l 0 1 / 16 ≠ 4 ∨ endH l < 20 then 4 else if l.length < endH l ∨ l.length < lenH l then 3
  else if lenH l < endH l ∨ 9000 < lenH l then 4 else if sumB (l.take (endH l)) ≠ 65535 then 5 else 0
def parseH (l : List UInt8) : Hd := if parseE l = 0 then readH (l.take (endH l)) else zeroH
def parseP (l : List UInt8) : List UInt8 := if parseE l = 0 then (l.take (lenH l)).drop (endH l) else []
/-- on the way -/
def fwdE (l : List UInt8) : Int := if parseE l ≠ 0 then parseE l else if (parseH l).ttl < 2 then 9 else 0
def fwdB (l : List UInt8) : List UInt8 := if fwdE l = 0 then buildB { parseH l with ttl := (parseH l).ttl - 1 } (parseP l) else []
/-- to another -/
def rewB (l : List UInt8) (d : Int) : List UInt8 := if parseE l = 0 then buildB { parseH l with dst := d } (parseP l) else []

theorem parse_ok {l : List UInt8} (h : parseE l = 0) : 20 ≤ l.length ∧ fld l 0 1 / 16 = 4 ∧ 20 ≤ endH l ∧ endH l ≤ l.length ∧ lenH l ≤ l.length ∧ endH l ≤ lenH l ∧ lenH l ≤ 9000 ∧ sumB (l.take (endH l)) = 65535 := by
  unfold parseE at h
  split at h
  · cases h
  rename_i h1
  split at h
  · cases h
  rename_i h2
  split at h
  · cases h
  rename_i h3
  split at h
  · cases h
  rename_i h4
  split at h
  · cases h
  rename_i h5
  refine ⟨by omega, ?_, by omega, by omega, by omega, by omega, by omega, by simpa using h5⟩
  by_cases hh : fld l 0 1 / 16 = 4
  · exact hh
  · exact absurd (.inl hh) h2

theorem fld_lt (l : List UInt8) (a k : Nat) : fld l a k < 256 ^ k := by
  have h1 := numOf_lt ((l.drop a).take k)
  have h2 : 256 ^ ((l.drop a).take k).length ≤ 256 ^ k := Nat.pow_le_pow_right (by omega) (by simp; omega)
  unfold fld; omega
theorem fld_one (l : List UInt8) (a : Nat) (u : UInt8) (h : l[a]? = some u) : fld l a 1 = u.toNat := by
  obtain ⟨hl, rfl⟩ := List.getElem?_eq_some_iff.1 h
  unfold fld
  rw [List.drop_eq_getElem_cons hl, List.take_succ_cons, List.take_zero]
  simp [numOf]
theorem fld_take (l : List UInt8) (n a k : Nat) (h : a + k ≤ n) : fld (l.take n) a k = fld l a k := by
  unfold fld
  rw [List.drop_take, List.take_take, Nat.min_eq_left (by omega)]
theorem byteAt_eq (n : Int) (i : Nat) (u : UInt8) (h : n / 256 ^ i % 256 = (u.toNat : Int)) : byteAt n i = u := by
  unfold byteAt
  simp [h]
theorem cons_of {l : List UInt8} {n : Nat} (h : n + 1 ≤ l.length) : ∃ b m, l = b :: m ∧ n ≤ m.length := by
  cases l with
  | nil => simp at h
  | cons b m => exact ⟨b, m, rfl, by simpa using h⟩

theorem twenty {l : List UInt8} (h : 20 ≤ l.length) : ∃ b0 b1 b2 b3 b4 b5 b6 b7 b8 b9 c0 c1 c2 c3 c4 c5 c6 c7 c8 c9 m, l = [b0, b1, b2, b3, b4, b5, b6, b7, b8, b9, c0, c1, c2, c3, c4, c5, c6, c7, c8, c9] ++ m := by
  obtain ⟨b0, m0, e0, h0⟩ := cons_of (l := l) (n := 19) h
  obtain ⟨b1, m1, e1, h1⟩ := cons_of (l := m0) (n := 18) h0
  obtain ⟨b2, m2, e2, h2⟩ := cons_of (l := m1) (n := 17) h1
  obtain ⟨b3, m3, e3, h3⟩ := cons_of (l := m2) (n := 16) h2
  obtain ⟨b4, m4, e4, h4⟩ := cons_of (l := m3) (n := 15) h3
  obtain ⟨b5, m5, e5, h5⟩ := cons_of (l := m4) (n := 14) h4
  obtain ⟨b6, m6, e6, h6⟩ := cons_of (l := m5) (n := 13) h5
  obtain ⟨b7, m7, e7, h7⟩ := cons_of (l := m6) (n := 12) h6
  obtain ⟨b8, m8, e8, h8⟩ := cons_of (l := m7) (n := 11) h7
  obtain ⟨b9, m9, e9, h9⟩ := cons_of (l := m8) (n := 10) h8
  obtain ⟨c0, m10, e10, h10⟩ := cons_of (l := m9) (n := 9) h9
  obtain ⟨c1, m11, e11, h11⟩ := cons_of (l := m10) (n := 8) h10
  obtain ⟨c2, m12, e12, h12⟩ := cons_of (l := m11) (n := 7) h11
  obtain ⟨c3, m13, e13, h13⟩ := cons_of (l := m12) (n := 6) h12
  obtain ⟨c4, m14, e14, h14⟩ := cons_of (l := m13) (n := 5) h13
  obtain ⟨c5, m15, e15, h15⟩ := cons_of (l := m14) (n := 4) h14
  obtain ⟨c6, m16, e16, h16⟩ := cons_of (l := m15) (n := 3) h15
  obtain ⟨c7, m17, e17, h17⟩ := cons_of (l := m16) (n := 2) h16
  obtain ⟨c8, m18, e18, h18⟩ := cons_of (l := m17) (n := 1) h17
  obtain ⟨c9, m19, e19, h19⟩ := cons_of (l := m18) (n := 0) h18
  subst e19 e18 e17 e16 e15 e14 e13 e12 e11 e10 e9 e8 e7 e6 e5 e4 e3 e2 e1 e0
  exact ⟨_, _, _, _, _, _, _, _, _, _, _, _, _, _, _, _, _, _, _, _, m19, rfl⟩

/-- a head's bytes are what it says, put into bytes again -/
theorem headB_read (l : List UInt8) (s : Int) (h0 : 20 ≤ l.length) (h1 : fld l 0 1 / 16 = 4) (h2 : endH l = l.length) :
    headB (readH l) (fld l 2 2) s = (l.set 10 (byteAt s 1)).set 11 (byteAt s 0) := by
  obtain ⟨b0, b1, b2, b3, b4, b5, b6, b7, b8, b9, c0, c1, c2, c3, c4, c5, c6, c7, c8, c9, m, rfl⟩ := twenty h0
  have f0 : fld ([b0, b1, b2, b3, b4, b5, b6, b7, b8, b9, c0, c1, c2, c3, c4, c5, c6, c7, c8, c9] ++ m) 0 1 = b0.toNat := by simp [fld, numOf]
  simp only [endH, f0] at h1 h2
  have hl : 20 + (m.length : Int) = 4 * (b0.toNat % 16 : Nat) := by simp at h2; omega
  have := b0.toNat_lt; have := b1.toNat_lt; have := b2.toNat_lt; have := b3.toNat_lt; have := b4.toNat_lt; have := b5.toNat_lt; have := b6.toNat_lt; have := b7.toNat_lt; have := b8.toNat_lt; have := b9.toNat_lt
  have := c2.toNat_lt; have := c3.toNat_lt; have := c4.toNat_lt; have := c5.toNat_lt; have := c6.toNat_lt; have := c7.toNat_lt; have := c8.toNat_lt; have := c9.toNat_lt
  have e6 : (((numOf [b6, b7] / 8192 : Nat) : Int) * 8192 + ((numOf [b6, b7] % 8192 : Nat) : Int)) = ((b6.toNat * 256 + b7.toNat : Nat) : Int) := by simp only [numOf, List.foldl]; omega
  simp only [headB, readH, fld, List.drop_zero, List.drop_succ_cons, List.cons_append, List.nil_append, List.take_succ_cons, List.take_zero, List.set_cons_succ, List.set_cons_zero, e6, hl]
  simp only [List.cons.injEq, and_true, true_and]
  refine ⟨?_, ?_, ?_, ?_, ?_, ?_, ?_, ?_, ?_, ?_, ?_, ?_, ?_, ?_, ?_, ?_, ?_, ?_⟩ <;> (apply byteAt_eq; first | (simp only [numOf, List.foldl]; omega) | omega)
end Go.Proofs.Yteoleblnhcnpkaa
