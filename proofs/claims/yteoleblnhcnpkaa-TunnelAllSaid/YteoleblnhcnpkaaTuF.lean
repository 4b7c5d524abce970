/- Plain forms for layer 6: a packet within another one, and how deep. No condition. -/
import Derived.Test.YteoleblnhcnpkaaIpF
import Derived.Test.YteoleblnhcnpkaaIpN
namespace Go.Proofs.Yteoleblnhcnpkaa
open Go.RowKit

/-- the packet with which bytes begin -/
def wholeP (l : List UInt8) : List UInt8 := if parseE l = 0 then l.take (lenH l) else []
/-- the header around a packet -/
def arH (h : Hd) (src dst : Int) : Hd := ⟨h.tos, h.id, if h.flags / 2 % 2 = 1 then 2 else 0, 0, 64, 4, src, dst, []⟩
def wrapE (l : List UInt8) : Int := if parseE l ≠ 0 then parseE l else if 8980 < (wholeP l).length then 10 else 0
def wrapB (l : List UInt8) (src dst : Int) : List UInt8 := if parseE l = 0 then buildB (arH (parseH l) src dst) (wholeP l) else []
/-- can a packet of this header have a whole one within? -/
def carE (h : Hd) : Int := if h.proto ≠ 4 then 7 else if 0 < h.frag ∨ h.flags % 2 = 1 then 8 else 0
def unwE (l : List UInt8) : Int := if parseE l ≠ 0 then parseE l else if carE (parseH l) ≠ 0 then carE (parseH l) else parseE (parseP l)
def unwB (l : List UInt8) : List UInt8 := if unwE l = 0 then wholeP (parseP l) else []
def unwH (l : List UInt8) : Hd := if unwE l = 0 then parseH l else zeroH
/-- how often bytes can be unwrapped, up to n -/
def depN : Nat → List UInt8 → Nat
  | 0, _ => 0
  | n + 1, l => if unwE l = 0 then depN n (unwB l) + 1 else 0
theorem i64_and1t (n : Int) : bits .and .i64 n 1 = n % 2 := by
  have h16 : (BitVec.ofInt 64 1).toNat = 2 ^ 1 - 1 := by decide
  have key : (BitVec.ofInt 64 n &&& BitVec.ofInt 64 1).toNat = (n % ((2 ^ 64 : Nat) : Int)).toNat % 2 ^ 1 := by
    rw [BitVec.toNat_and, BitVec.toNat_ofInt, h16, Nat.and_two_pow_sub_one_eq_mod]
  show IntKind.i64.wrap ((BitVec.ofInt 64 n &&& BitVec.ofInt 64 1).toNat : Nat) = n % 2
  rw [key, IntKind.wrap_i64]
  omega
theorem i64_and2t (n : Int) (h0 : 0 ≤ n) (h1 : n ≤ 7) : bits .and .i64 n 2 = if n / 2 % 2 = 1 then 2 else 0 := by
  have : ∀ k : Fin 8, bits .and .i64 (k.val : Int) 2 = if (k.val : Int) / 2 % 2 = 1 then 2 else 0 := by decide +kernel
  have := this ⟨n.toNat, by omega⟩
  rw [show ((⟨n.toNat, by omega⟩ : Fin 8).val : Int) = n from by simp; omega] at this
  exact this
theorem parseH_flags (l : List UInt8) : 0 ≤ (parseH l).flags ∧ (parseH l).flags ≤ 7 := by
  unfold parseH
  split
  · have := fld_lt (l.take (endH l)) 6 2
    simp only [readH]
    omega
  · exact ⟨Int.le_refl _, by decide⟩

theorem depN_le (n : Nat) (l : List UInt8) : depN n l ≤ n := by
  induction n generalizing l with
  | zero => exact Nat.le_refl _
  | succ n ih =>
    unfold depN
    split
    · have := ih (unwB l); omega
    · omega

theorem carE_cases (h : Hd) : carE h = 7 ∨ carE h = 8 ∨ carE h = 0 := by
  unfold carE
  split
  · exact .inl rfl
  · split
    · exact .inr (.inl rfl)
    · exact .inr (.inr rfl)

theorem whole_length {l : List UInt8} (h : parseE l = 0) : wholeP l = l.take (lenH l) ∧ (wholeP l).length = lenH l ∧ 20 ≤ lenH l ∧ lenH l ≤ 9000 ∧ lenH l ≤ l.length := by
  obtain ⟨h0, h1, h2, h3, h4, h5, h6, h7⟩ := parse_ok h
  have e : wholeP l = l.take (lenH l) := if_pos h
  refine ⟨e, ?_, by omega, h6, h4⟩
  rw [e, List.length_take]; omega

/-- what stands behind a packet is not looked at -/
theorem parse_front {l : List UInt8} (h : parseE l = 0) (k : Nat) (hk : lenH l ≤ k) : parseE (l.take k) = 0 ∧ parseH (l.take k) = parseH l ∧ parseP (l.take k) = parseP l ∧ lenH (l.take k) = lenH l := by
  obtain ⟨h0, h1, h2, h3, h4, h5, h6, h7⟩ := parse_ok h
  have f0 : fld (l.take k) 0 1 = fld l 0 1 := fld_take _ _ _ _ (by omega)
  have f2 : lenH (l.take k) = lenH l := fld_take _ _ _ _ (by omega)
  have fe : endH (l.take k) = endH l := by unfold endH; rw [f0]
  have hl : (l.take k).length = min k l.length := List.length_take
  have ht : (l.take k).take (endH l) = l.take (endH l) := by rw [List.take_take, Nat.min_eq_left (by omega)]
  have e : parseE (l.take k) = 0 := by
    unfold parseE
    rw [if_neg (by omega), f0, fe, if_neg (by omega), f2, if_neg (by omega), if_neg (by omega), ht, if_neg (by simpa using h7)]
  refine ⟨e, ?_, ?_, f2⟩
  · unfold parseH
    rw [if_pos e, if_pos h, fe, ht]
  · unfold parseP
    rw [if_pos e, if_pos h, fe, f2, List.take_take, Nat.min_eq_left (by omega)]

theorem whole_again {l : List UInt8} (h : parseE l = 0) : parseE (wholeP l) = 0 ∧ wholeP (wholeP l) = wholeP l ∧ parseH (wholeP l) = parseH l ∧ parseP (wholeP l) = parseP l := by
  have e : wholeP l = l.take (lenH l) := if_pos h
  obtain ⟨p0, p1, p2, p3⟩ := parse_front h (lenH l) (Nat.le_refl _)
  rw [← e] at p0 p1 p2 p3
  refine ⟨p0, ?_, p1, p2⟩
  have e2 : wholeP (wholeP l) = (wholeP l).take (lenH (wholeP l)) := if_pos p0
  rw [e2, p3, e, List.take_take, Nat.min_self]

/-- so what can be unwrapped is that of the packet alone -/
theorem unw_whole {l : List UInt8} (h : parseE l = 0) : unwE (wholeP l) = unwE l ∧ unwB (wholeP l) = unwB l := by
  obtain ⟨p0, p1, p2, p3⟩ := whole_again h
  have e : unwE (wholeP l) = unwE l := by unfold unwE; rw [p0, p2, p3, h]
  refine ⟨e, ?_⟩
  unfold unwB; rw [e, p3]
theorem depN_whole {l : List UInt8} (h : parseE l = 0) (n : Nat) : depN n (wholeP l) = depN n l := by
  cases n with
  | zero => rfl
  | succ n =>
    obtain ⟨h1, h2⟩ := unw_whole h
    unfold depN
    rw [h1, h2]

theorem arH_good {l : List UInt8} (h : parseE l = 0) (src dst : Int) : goodH (arH (parseH l) src dst) := by
  have e : parseH l = readH (l.take (endH l)) := if_pos h
  have h1 := fld_lt (l.take (endH l)) 1 1
  have h2 := fld_lt (l.take (endH l)) 4 2
  rw [e]
  unfold goodH arH readH
  refine ⟨⟨by simp, by simp; omega⟩, by simp, by simp, ⟨by simp, by simp; omega⟩, ?_, by simp, by simp, by simp⟩
  show (0 : Int) ≤ (if _ then 2 else 0) ∧ (if _ then (2 : Int) else 0) ≤ 7
  split <;> omega

theorem arH_size (h : Hd) (src dst : Int) (p : List UInt8) : sizeH (arH h src dst) p = 20 + p.length := by simp [sizeH, arH]

theorem wrapB_length {l : List UInt8} (h : parseE l = 0) (src dst : Int) : (wrapB l src dst).length = if 8980 < (wholeP l).length then 0 else 20 + (wholeP l).length := by
  have hg := arH_good h src dst
  have e : wrapB l src dst = buildB (arH (parseH l) src dst) (wholeP l) := if_pos h
  rw [e]
  unfold buildB
  rw [arH_size]
  by_cases k : 8980 < (wholeP l).length
  · rw [if_pos k, if_neg (fun x => by have := x.2; omega)]; rfl
  · rw [if_neg k, if_pos ⟨hg, by omega⟩, List.length_append, sealH_length]
    simp [arH]
theorem wrapE_iff {l : List UInt8} (h : parseE l = 0) (src dst : Int) : wrapE l = if (wrapB l src dst).length = 0 then 10 else 0 := by
  have hw := (whole_length h).2
  rw [wrapB_length h, wrapE, if_neg (by rw [h]; decide)]
  by_cases k : 8980 < (wholeP l).length
  · rw [if_pos k, if_pos k, if_pos rfl]
  · rw [if_neg k, if_neg k, if_neg (by omega)]

/-- what was wrapped is unwrapped -/
theorem unw_wrap {l : List UInt8} (h : wrapE l = 0) (src dst : Int) (hs : 0 ≤ src ∧ src ≤ 4294967295) (hd : 0 ≤ dst ∧ dst ≤ 4294967295) (t : List UInt8) :
    parseE l = 0 ∧ unwE (wrapB l src dst ++ t) = 0 ∧ unwB (wrapB l src dst ++ t) = wholeP l ∧ unwH (wrapB l src dst ++ t) = arH (parseH l) src dst ∧ (wrapB l src dst).length = 20 + lenH l := by
  have h0 : parseE l = 0 := by
    unfold wrapE at h
    by_cases k : parseE l = 0
    · exact k
    · rw [if_pos k] at h; exact absurd h k
  have hk : ¬ 8980 < (wholeP l).length := by
    intro k
    rw [wrapE, if_neg (by rw [h0]; decide), if_pos k] at h
    cases h
  have hg := arH_good h0 src dst
  have e : wrapB l src dst = buildB (arH (parseH l) src dst) (wholeP l) := if_pos h0
  obtain ⟨q0, q1, q2⟩ := parse_build (arH (parseH l) src dst) hg ⟨hs, hd⟩ (wholeP l) t (by rw [arH_size]; omega)
  have hc : carE (arH (parseH l) src dst) = 0 := by
    unfold carE arH
    simp only [ne_eq, not_true_eq_false, if_false]
    rw [if_neg]
    rintro (k | k)
    · omega
    · split at k <;> omega
  have p0 := (whole_again h0).1
  have u : unwE (wrapB l src dst ++ t) = 0 := by
    unfold unwE
    rw [e, q0, if_neg (by decide), q1, hc, if_neg (by decide), q2, p0]
  refine ⟨h0, u, ?_, ?_, ?_⟩
  · unfold unwB
    rw [if_pos u, e, q2]
    exact (whole_again h0).2.1
  · unfold unwH
    rw [if_pos u, e, q1]
  · rw [wrapB_length h0, if_neg hk, (whole_length h0).2.1]

theorem dep_wrap {l : List UInt8} (h : wrapE l = 0) (src dst : Int) (hs : 0 ≤ src ∧ src ≤ 4294967295) (hd : 0 ≤ dst ∧ dst ≤ 4294967295) (n : Nat) :
    depN (n + 1) (wrapB l src dst) = depN n l + 1 := by
  obtain ⟨h0, h1, h2, -, -⟩ := unw_wrap h src dst hs hd []
  rw [List.append_nil] at h1 h2
  rw [depN, if_pos h1, h2, depN_whole h0]

end Go.Proofs.Yteoleblnhcnpkaa
