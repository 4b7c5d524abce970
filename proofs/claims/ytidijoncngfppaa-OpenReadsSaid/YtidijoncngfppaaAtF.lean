/- Plain forms of layer 7: attributes, what they say, faults. No condition. -/
import Derived.Test.YtidijoncngfppaaRow
import Derived.Test.YtidijoncngfppaaGet
import Derived.Test.YtidijoncngfppaaPut
namespace Go.Proofs.Ytidijoncngfppaa
open Go.RowKit
set_option linter.unusedVariables false

/-- an attribute -/
structure Rw where
  flags : Int
  type : Int
  value : List UInt8
/-- what is said of a path -/
structure At where
  origin : Int
  path : List Int
  hop : Int
  med : Int
  has : Bool
/-- a fault -/
structure Ft where
  code : Int
  sub : Int
  data : List UInt8
def zeroA : At := ⟨0, [], 0, 0, false⟩
def noFt : Ft := ⟨0, 0, []⟩
def faultF (sub : Int) (data : List UInt8) : Ft := ⟨3, sub, data⟩

/-- the number at a place -/
def nmb (l : List UInt8) (a k : Nat) : Nat := numOf ((l.drop a).take k)
theorem nmb_lt (l : List UInt8) (a k : Nat) : nmb l a k < 256 ^ k := by
  have h1 := numOf_lt ((l.drop a).take k)
  have h2 : 256 ^ ((l.drop a).take k).length ≤ 256 ^ k := Nat.pow_le_pow_right (by omega) (by simp; omega)
  unfold nmb; omega

/-- is a length of two bytes? -/
def extF (n : Int) : Prop := n / 16 % 2 = 1
instance (n : Int) : Decidable (extF n) := by unfold extF; infer_instance
def lenK (n : Int) : Nat := if extF n then 2 else 1
theorem lenK_or (n : Int) : lenK n = 1 ∨ lenK n = 2 := by unfold lenK; split <;> simp

/-- the attribute at a place, and where it ends -/
def attrAt (l : List UInt8) (a : Nat) : Option (Rw × Nat) :=
  if l.length < a + 2 + lenK (nmb l a 1) then none
  else if l.length < a + 2 + lenK (nmb l a 1) + nmb l (a + 2) (lenK (nmb l a 1)) then none
  else some (⟨nmb l a 1, nmb l (a + 1) 1, (l.drop (a + 2 + lenK (nmb l a 1))).take (nmb l (a + 2) (lenK (nmb l a 1)))⟩, a + 2 + lenK (nmb l a 1) + nmb l (a + 2) (lenK (nmb l a 1)))
def splitA : Nat → List UInt8 → Nat → Option (List Rw)
  | 0, _, _ => some []
  | f + 1, l, a => if l.length ≤ a then some [] else match attrAt l a with
    | none => none
    | some (r, b) => (splitA f l b).map (r :: ·)
def splitL (l : List UInt8) : Option (List Rw) := splitA l.length l 0
def splitR (l : List UInt8) : List Rw := (splitL l).getD []
def splitF (l : List UInt8) : Ft := if (splitL l).isSome then noFt else faultF 1 []

/-- an attribute's bytes -/
def oneB (r : Rw) : List UInt8 :=
  [byteAt r.flags 0, byteAt r.type 0] ++ (if extF r.flags then (let v := r.value.take 65535; [byteAt v.length 1, byteAt v.length 0] ++ v) else (let v := r.value.take 255; [byteAt v.length 0] ++ v))
def joinB (l : List Rw) : List UInt8 := (l.map oneB).flatten

/-- may an address be a next hop? -/
def hopOk (a : Int) : Prop := a ≠ 0 ∧ a ≠ 4294967295 ∧ a / 16777216 ≠ 127 ∧ a / 536870912 ≠ 7
instance (n : Int) : Decidable (hopOk n) := by unfold hopOk; infer_instance
def goodA (a : At) : Prop := (∀ n, n ∈ a.path → 1 ≤ n ∧ n ≤ 65535) ∧ (0 ≤ a.origin ∧ a.origin ≤ 2) ∧ a.path.length ≤ 16 ∧ hopOk a.hop ∧ (0 ≤ a.med ∧ a.med ≤ 4294967295) ∧ (a.has = true ∨ a.med = 0)
instance (a : At) : Decidable (goodA a) := by unfold goodA; infer_instance

/-- so many numbers of a part -/
def partL : Nat → List UInt8 → Nat → List Int → Option (List Int)
  | 0, _, _, acc => some acc
  | n + 1, v, a, acc => if v.length < a + 2 ∨ nmb v a 2 = 0 ∨ acc.length = 16 then none else partL n v (a + 2) (acc ++ [(nmb v a 2 : Int)])
def pathA : Nat → List UInt8 → Nat → List Int → Option (List Int)
  | 0, _, _, acc => some acc
  | f + 1, v, a, acc => if v.length ≤ a then some acc
    else if v.length < a + 2 ∨ nmb v a 1 < 1 ∨ 2 < nmb v a 1 ∨ nmb v (a + 1) 1 = 0 then none
    else match partL (nmb v (a + 1) 1) v (a + 2) acc with
      | none => none
      | some acc' => pathA f v (a + 2 + 2 * nmb v (a + 1) 1) acc'
def pathL (v : List UInt8) : Option (List Int) := pathA v.length v 0 []

/-- an attribute taken: the fault's Sub, and what is said then -/
def sizeT (t : Int) : Nat := if t = 1 then 1 else if t = 3 ∨ t = 4 then 4 else 0
def wantT (t : Int) : Int := if t = 4 then 128 else 64
def knownT (t : Int) : Prop := t = 1 ∨ t = 2 ∨ t = 3 ∨ t = 4
instance (t : Int) : Decidable (knownT t) := by unfold knownT; infer_instance
def takeE (r : Rw) : Int :=
  if ¬ knownT r.type then (if r.flags / 128 % 2 = 1 then 0 else 2)
  else if ¬ (r.flags = wantT r.type ∨ r.flags = wantT r.type + 16) then 4
  else if 0 < sizeT r.type ∧ r.value.length ≠ sizeT r.type then 5
  else if r.type = 1 then (if 2 < nmb r.value 0 1 then 6 else 0)
  else if r.type = 2 then (if (pathL r.value).isNone then 11 else 0)
  else if r.type = 3 then (if hopOk (nmb r.value 0 4) then 0 else 8) else 0
def takeS (a : At) (r : Rw) : At :=
  if takeE r ≠ 0 then a
  else if r.type = 1 then { a with origin := nmb r.value 0 1 } else if r.type = 2 then { a with path := (pathL r.value).getD [] }
  else if r.type = 3 then { a with hop := nmb r.value 0 4 } else if r.type = 4 then { a with med := nmb r.value 0 4, has := true } else a

/-- the first that is missing -/
def missT (seen : List Int) : Option Int := if (1 : Int) ∉ seen then some 1 else if (2 : Int) ∉ seen then some 2 else if (3 : Int) ∉ seen then some 3 else none
def parseR : List Rw → List Int → At → At × Ft
  | [], seen, a => match missT seen with
    | some t => (zeroA, faultF 3 [byteAt t 0])
    | none => (a, noFt)
  | r :: rs, seen, a =>
    if r.type ∈ seen then (zeroA, faultF 1 [])
    else if takeE r = 0 then parseR rs (r.type :: seen) (takeS a r)
    else (zeroA, faultF (takeE r) (if takeE r = 11 then [] else oneB r))
def parseT (l : List UInt8) : At × Ft := match splitL l with
  | none => (zeroA, faultF 1 [])
  | some rs => parseR rs [] zeroA

/-- the bytes of what is said -/
def pathB (p : List Int) : List UInt8 := if p = [] then [] else [2, byteAt p.length 0] ++ (p.map fun n => [byteAt n 1, byteAt n 0]).flatten
def rawsA (a : At) : List Rw := [⟨64, 1, [byteAt a.origin 0]⟩, ⟨64, 2, pathB a.path⟩, ⟨64, 3, [byteAt a.hop 3, byteAt a.hop 2, byteAt a.hop 1, byteAt a.hop 0]⟩] ++
  (if a.has then [⟨128, 4, [byteAt a.med 3, byteAt a.med 2, byteAt a.med 1, byteAt a.med 0]⟩] else [])
def attrB (a : At) : List UInt8 := if goodA a then joinB (rawsA a) else []

/-- bits of an int -/
theorem nat_and_pow (x i : Nat) : x &&& 2 ^ i = if x / 2 ^ i % 2 = 1 then 2 ^ i else 0 := by
  apply Nat.eq_of_testBit_eq
  intro j
  rw [Nat.testBit_and, Nat.testBit_two_pow]
  have hb : x.testBit i = decide (x / 2 ^ i % 2 = 1) := Nat.testBit_eq_decide_div_mod_eq
  by_cases h : i = j
  · subst h
    by_cases h1 : x / 2 ^ i % 2 = 1
    · rw [if_pos h1, hb, decide_eq_true h1, Nat.testBit_two_pow_self]; simp
    · rw [if_neg h1, hb, decide_eq_false h1]; simp
  · rw [decide_eq_false h, Bool.and_false]
    split
    · rw [Nat.testBit_two_pow, decide_eq_false h]
    · simp
theorem wrap_bit (n P R : Int) (hP : 0 < P) : n % (P * (2 * R)) / P % 2 = n / P % 2 := by
  have h1 := Int.emod_add_mul_ediv n (P * (2 * R))
  have h2 : n % (P * (2 * R)) = n + P * (2 * (-(R * (n / (P * (2 * R)))))) := by
    have e : P * (2 * (-(R * (n / (P * (2 * R)))))) = -(P * (2 * R) * (n / (P * (2 * R)))) := by
      simp only [Int.mul_neg, Int.mul_assoc]
    rw [e]; omega
  rw [h2, Int.add_mul_ediv_left _ _ (by omega)]
  omega
theorem i64_and_pow (n : Int) (i : Nat) (hi : i < 62) : bits .and .i64 n ((2 ^ i : Nat) : Int) = if n / ((2 ^ i : Nat) : Int) % 2 = 1 then ((2 ^ i : Nat) : Int) else 0 := by
  have hp : (2 : Nat) ^ i < 2 ^ 62 := Nat.pow_lt_pow_right (by omega) hi
  have hpp : 0 < (2 : Nat) ^ i := Nat.pow_pos (by omega)
  have e64 : (2 ^ 64 : Nat) = 2 ^ i * (2 * 2 ^ (63 - i)) := by
    rw [← Nat.pow_succ', ← Nat.pow_add]
    congr 1
    omega
  have h1 : (BitVec.ofInt 64 ((2 ^ i : Nat) : Int)).toNat = 2 ^ i := by
    rw [BitVec.toNat_ofInt]
    omega
  have key : (BitVec.ofInt 64 n &&& BitVec.ofInt 64 ((2 ^ i : Nat) : Int)).toNat = if (n % ((2 ^ 64 : Nat) : Int)).toNat / 2 ^ i % 2 = 1 then 2 ^ i else 0 := by
    rw [BitVec.toNat_and, h1, BitVec.toNat_ofInt, nat_and_pow]
  have hm : ((n % ((2 ^ 64 : Nat) : Int)).toNat : Int) = n % ((2 ^ 64 : Nat) : Int) := Int.toNat_of_nonneg (Int.emod_nonneg _ (by decide))
  have hw := wrap_bit n ((2 ^ i : Nat) : Int) ((2 ^ (63 - i) : Nat) : Int) (by omega)
  have e : ((n % ((2 ^ 64 : Nat) : Int)).toNat / 2 ^ i % 2 = 1) ↔ (n / ((2 ^ i : Nat) : Int) % 2 = 1) := by
    have h3 : (((n % ((2 ^ 64 : Nat) : Int)).toNat / 2 ^ i % 2 : Nat) : Int) = n / ((2 ^ i : Nat) : Int) % 2 := by
      rw [Int.natCast_emod, Int.natCast_ediv, hm, e64, Int.natCast_mul, Int.natCast_mul]
      exact hw
    omega
  show IntKind.i64.wrap ((BitVec.ofInt 64 n &&& BitVec.ofInt 64 ((2 ^ i : Nat) : Int)).toNat : Nat) = _
  rw [key, IntKind.wrap_i64]
  by_cases h : n / ((2 ^ i : Nat) : Int) % 2 = 1
  · rw [if_pos h, if_pos (e.2 h)]
    omega
  · rw [if_neg h, if_neg (fun x => h (e.1 x))]
    rfl
theorem i64_and16 (n : Int) : bits .and .i64 n 16 = if extF n then 16 else 0 := i64_and_pow n 4 (by decide)
theorem i64_and128 (n : Int) : bits .and .i64 n 128 = if n / 128 % 2 = 1 then 128 else 0 := i64_and_pow n 7 (by decide)
theorem i64_andNot16 (n : Int) (h0 : 0 ≤ n) (h1 : n ≤ 255) : bits .andNot .i64 n 16 = if extF n then n - 16 else n := by
  have : ∀ k : Fin 256, bits .andNot .i64 (k.val : Int) 16 = if extF (k.val : Int) then (k.val : Int) - 16 else k.val := by decide +kernel
  have := this ⟨n.toNat, by omega⟩
  rw [show ((⟨n.toNat, by omega⟩ : Fin 256).val : Int) = n from by simp; omega] at this
  exact this
end Go.Proofs.Ytidijoncngfppaa
