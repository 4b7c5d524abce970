/- Plain forms of layer 8: a body, its capabilities, its bytes; what bytes tell of a body. No condition. -/
import Derived.Test.YtidijoncngfppaaAtF
namespace Go.Proofs.Ytidijoncngfppaa
open Go.RowKit
set_option linter.unusedVariables false

/-- a capability, and a body -/
structure Cp where
  code : Int
  value : List UInt8
structure Oq where
  asn : Int
  hold : Int
  ident : Int
  caps : List Cp
def zeroOq : Oq := ⟨0, 0, 0, []⟩
def capB (c : Cp) : List UInt8 := [byteAt c.code 0, byteAt c.value.length 0] ++ c.value
def capsB (l : List Cp) : List UInt8 := (l.map capB).flatten
theorem capsB_nil : capsB [] = [] := rfl
theorem capsB_cons (c : Cp) (l : List Cp) : capsB (c :: l) = capB c ++ capsB l := by simp [capsB]
theorem capsB_append (l m : List Cp) : capsB (l ++ m) = capsB l ++ capsB m := by simp [capsB]
theorem capB_length (c : Cp) : (capB c).length = 2 + c.value.length := by simp [capB]; omega
theorem capsB_take (l : List Cp) (k : Nat) : (capsB (l.take k)).length ≤ (capsB l).length := by
  have : capsB l = capsB (l.take k) ++ capsB (l.drop k) := by rw [← capsB_append, List.take_append_drop]
  rw [this, List.length_append]; omega
theorem capsB_two (l : List Cp) : 2 * l.length ≤ (capsB l).length := by
  induction l with
  | nil => simp [capsB]
  | cons c l ih => rw [capsB_cons, List.length_append, capB_length, List.length_cons]; omega

/-- may they be? -/
def capOk (c : Cp) : Prop := (0 ≤ c.code ∧ c.code ≤ 255) ∧ c.value.length ≤ 100
instance (c : Cp) : Decidable (capOk c) := by unfold capOk; infer_instance
def numsOk (o : Oq) : Prop := (1 ≤ o.asn ∧ o.asn ≤ 65535) ∧ (o.hold = 0 ∨ (3 ≤ o.hold ∧ o.hold ≤ 65535)) ∧ o.ident ≠ 0
instance (o : Oq) : Decidable (numsOk o) := by unfold numsOk; infer_instance
def capsOk (l : List Cp) : Prop := (∀ c, c ∈ l → capOk c) ∧ (capsB l).length ≤ 200
instance (l : List Cp) : Decidable (capsOk l) := by unfold capsOk; infer_instance
def goodO (o : Oq) : Prop := capsOk o.caps ∧ numsOk o
instance (o : Oq) : Decidable (goodO o) := by unfold goodO; infer_instance

/-- a body's bytes -/
def headO (o : Oq) : List UInt8 := [4] ++ [byteAt o.asn 1, byteAt o.asn 0] ++ [byteAt o.hold 1, byteAt o.hold 0] ++ [byteAt o.ident 3, byteAt o.ident 2, byteAt o.ident 1, byteAt o.ident 0]
def tailO (l : List Cp) : List UInt8 := if l = [] then [0] else [byteAt (2 + (capsB l).length : Nat) 0, 2, byteAt (capsB l).length 0] ++ capsB l
def openB (o : Oq) : List UInt8 := if goodO o then headO o ++ tailO o.caps else []

/-- the lesser of two hold times; 0, if one is 0 -/
def holdN (a b : Int) : Int := if a = 0 ∨ b = 0 then 0 else if a < b then a else b

/-- are two alike? -/
def sameO (a b : Oq) : Prop := a.asn = b.asn ∧ a.hold = b.hold ∧ a.ident = b.ident ∧ a.caps.map (·.code) = b.caps.map (·.code) ∧ a.caps.map (·.value) = b.caps.map (·.value)
instance (a b : Oq) : Decidable (sameO a b) := by unfold sameO; infer_instance
theorem sameO_refl (a : Oq) : sameO a a := ⟨rfl, rfl, rfl, rfl, rfl⟩

/-- so many capabilities as bytes are made of -/
def capsA : Nat → List UInt8 → Nat → Option (List Cp)
  | 0, _, _ => some []
  | f + 1, v, a => if v.length ≤ a then some []
    else if v.length < a + 2 then none
    else if v.length < a + 2 + nmb v (a + 1) 1 then none
    else (capsA f v (a + 2 + nmb v (a + 1) 1)).map (⟨nmb v a 1, (v.drop (a + 2)).take (nmb v (a + 1) 1)⟩ :: ·)
def capsL (v : List UInt8) : Option (List Cp) := capsA v.length v 0
def badO (sub : Int) (data : List UInt8) : Ft := ⟨2, sub, data⟩
/-- parameters: the Sub of the first fault, or the capabilities of all -/
def parsA : Nat → List UInt8 → Nat → List Cp → Sum Int (List Cp)
  | 0, _, _, acc => .inr acc
  | f + 1, l, a, acc => if l.length ≤ a then .inr acc
    else if l.length < a + 2 then .inl 0
    else if l.length < a + 2 + nmb l (a + 1) 1 then .inl 0
    else if nmb l a 1 ≠ 2 then .inl 4
    else match capsL ((l.drop (a + 2)).take (nmb l (a + 1) 1)) with
      | none => .inl 0
      | some cs => parsA f l (a + 2 + nmb l (a + 1) 1) (acc ++ cs)
/-- the first fault of a body's numbers, or -1 -/
def numF (l : List UInt8) (asn : Int) : Int :=
  if nmb l 1 2 = 0 ∨ (1 ≤ asn ∧ (nmb l 1 2 : Int) ≠ asn) then 2
  else if nmb l 3 2 = 1 ∨ nmb l 3 2 = 2 then 6
  else if nmb l 5 4 = 0 then 3
  else if (nmb l 9 1 : Int) ≠ l.length - 10 then 0 else -1
def parseO (l : List UInt8) (asn : Int) : Oq × Ft :=
  if l.length < 10 then (zeroOq, badO 0 [])
  else if nmb l 0 1 ≠ 4 then (zeroOq, badO 1 [0, 4])
  else if numF l asn ≠ -1 then (zeroOq, badO (numF l asn) [])
  else match parsA l.length l 10 [] with
    | .inl s => (zeroOq, badO s [])
    | .inr cs => (⟨nmb l 1 2, nmb l 3 2, nmb l 5 4, cs⟩, noFt)
end Go.Proofs.Ytidijoncngfppaa
