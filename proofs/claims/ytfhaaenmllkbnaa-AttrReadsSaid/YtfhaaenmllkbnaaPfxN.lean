/- Plain numbers for layer 3: what masking an address comes to. No condition beyond what each names. -/
import Derived.Test.YtfhaaenmllkbnaaPfxR
namespace Go.Proofs.Ytfhaaenmllkbnaa
open Go.RowKit
set_option linter.unusedVariables false

theorem and_mask_nat (x k : Nat) (hx : x < 2 ^ 32) (hk : k ≤ 32) : x &&& (2 ^ 32 - 2 ^ k) = x / 2 ^ k * 2 ^ k := by
  have e1 : 2 ^ 32 - 2 ^ k = (2 ^ (32 - k) - 1) <<< k := by
    rw [Nat.shiftLeft_eq, Nat.sub_mul, ← Nat.pow_add, Nat.one_mul]
    congr 2; omega
  have e2 : x / 2 ^ k * 2 ^ k = (x >>> k) <<< k := by rw [Nat.shiftLeft_eq, Nat.shiftRight_eq_div_pow]
  rw [e1, e2]
  refine Nat.eq_of_testBit_eq fun i => ?_
  rw [Nat.testBit_and, Nat.testBit_shiftLeft, Nat.testBit_shiftLeft, Nat.testBit_shiftRight, Nat.testBit_two_pow_sub_one]
  by_cases h : k ≤ i
  · have e : k + (i - k) = i := by omega
    rw [e]
    by_cases h2 : i < 32
    · simp [h, show i - k < 32 - k by omega]
    · have : x.testBit i = false := Nat.testBit_lt_two_pow (Nat.lt_of_lt_of_le hx (Nat.pow_le_pow_right (by omega) (by omega)))
      simp [this]
  · simp [h]

theorem bits_and (x y : Nat) (hx : x < 4294967296) (hy : y < 4294967296) : bits .and .u32 (x : Int) (y : Int) = ((x &&& y : Nat) : Int) := by
  show IntKind.u32.wrap ((BitVec.ofInt 32 x &&& BitVec.ofInt 32 y).toNat : Nat) = _
  have h : x &&& y < 4294967296 := Nat.lt_of_le_of_lt Nat.and_le_left hx
  rw [BitVec.toNat_and, BitVec.toNat_ofInt, BitVec.toNat_ofInt, IntKind.wrap_u32]
  have e1 : ((x : Int) % ((2 ^ 32 : Nat) : Int)).toNat = x := by omega
  have e2 : ((y : Int) % ((2 ^ 32 : Nat) : Int)).toNat = y := by omega
  rw [e1, e2]
  omega

/-- an address with nothing behind its first n bits, in numbers -/
theorem canA_div (a n : Int) (h0 : 0 ≤ a) (h1 : a ≤ 4294967295) : canA a n = a / 2 ^ (32 - nearN n).toNat * 2 ^ (32 - nearN n).toNat := by
  obtain ⟨x, rfl⟩ : ∃ x : Nat, a = x := ⟨a.toNat, by omega⟩
  have hn := nearN_le n
  obtain ⟨k, hk, hk2⟩ : ∃ k : Nat, (32 - nearN n).toNat = k ∧ k ≤ 32 := ⟨_, rfl, by omega⟩
  have hp : 2 ^ k ≤ 4294967296 := Nat.le_trans (Nat.pow_le_pow_right (show 0 < 2 by omega) hk2) (by decide)
  have hp0 : 0 < 2 ^ k := Nat.pow_pos (by omega)
  have hm : maskN n = ((4294967296 - 2 ^ k : Nat) : Int) := by
    unfold maskN; rw [hk]
    have e : ((2 ^ k : Nat) : Int) = 2 ^ k := by simp
    rw [← e]; omega
  unfold canA
  rw [hm, hk, bits_and x _ (by omega) (by omega), show (4294967296 : Nat) = 2 ^ 32 from rfl, and_mask_nat x k (by omega) hk2]
  simp

theorem canA_range (a n : Int) (h0 : 0 ≤ a) (h1 : a ≤ 4294967295) : 0 ≤ canA a n ∧ canA a n ≤ a := by
  rw [canA_div a n h0 h1]
  have hp : (0 : Int) < 2 ^ (32 - nearN n).toNat := Int.pow_pos (by omega)
  generalize (2 : Int) ^ (32 - nearN n).toNat = p at *
  exact ⟨Int.mul_nonneg (Int.ediv_nonneg h0 (by omega)) (by omega), Int.ediv_mul_le a (by omega)⟩

theorem andNot_zero (A B : BitVec 32) : (A &&& ~~~B).toNat = 0 ↔ A = A &&& B := by
  constructor
  · intro h
    have h2 : A &&& ~~~B = 0#32 := BitVec.eq_of_toNat_eq (by simpa using h)
    refine BitVec.eq_of_getLsbD_eq fun i hi => ?_
    have h3 := congrArg (fun v : BitVec 32 => v.getLsbD i) h2
    simp only [BitVec.getLsbD_and, BitVec.getLsbD_not, hi, decide_true, Bool.true_and, BitVec.getLsbD_zero] at h3 ⊢
    cases ha : A.getLsbD i <;> cases hb : B.getLsbD i <;> simp_all
  · intro h
    rw [h]
    have : A &&& B &&& ~~~B = 0#32 := by rw [BitVec.and_assoc]; simp
    rw [this]; rfl

theorem good_eq (a n : Int) (h0 : 0 ≤ a) (h1 : a ≤ 4294967295) : decide (0 ≤ n ∧ n ≤ 32 ∧ bits .andNot .u32 a (maskN n) = 0) = (decide (a = canA a n) && decide (n = nearN n)) := by
  have hm := maskN_lt n
  have hb : bits .andNot .u32 a (maskN n) = 0 ↔ a = canA a n := by
    have e1 : bits .andNot .u32 a (maskN n) = IntKind.u32.wrap (((BitVec.ofInt 32 a &&& ~~~(BitVec.ofInt 32 (maskN n))).toNat : Nat) : Int) := rfl
    have e2 : canA a n = IntKind.u32.wrap (((BitVec.ofInt 32 a &&& BitVec.ofInt 32 (maskN n)).toNat : Nat) : Int) := rfl
    have l1 := (BitVec.ofInt 32 a &&& ~~~(BitVec.ofInt 32 (maskN n))).isLt
    have l2 := (BitVec.ofInt 32 a &&& BitVec.ofInt 32 (maskN n)).isLt
    have ha : ((BitVec.ofInt 32 a).toNat : Int) = a := by rw [BitVec.toNat_ofInt]; omega
    have hz := andNot_zero (BitVec.ofInt 32 a) (BitVec.ofInt 32 (maskN n))
    rw [e1, e2, IntKind.wrap_u32, IntKind.wrap_u32]
    constructor
    · intro h
      have := hz.1 (by omega)
      rw [← this]; omega
    · intro h
      have : BitVec.ofInt 32 a = BitVec.ofInt 32 a &&& BitVec.ofInt 32 (maskN n) := BitVec.eq_of_toNat_eq (by omega)
      have := hz.2 this
      omega
  have hn : (0 ≤ n ∧ n ≤ 32) ↔ n = nearN n := by unfold nearN; omega
  rw [Bool.eq_iff_iff]
  simp only [decide_eq_true_eq, Bool.and_eq_true]
  rw [hb, ← hn]
  constructor
  · rintro ⟨x, y, z⟩; exact ⟨z, x, y⟩
  · rintro ⟨z, x, y⟩; exact ⟨x, y, z⟩
end Go.Proofs.Ytfhaaenmllkbnaa
