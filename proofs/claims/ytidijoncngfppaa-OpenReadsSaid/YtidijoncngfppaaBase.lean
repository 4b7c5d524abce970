/- Plain lemmas on worlds, byte slices and sources of bytes, for the proofs of the statements of layer 1. No condition. -/
import Derived.WalkKit
import Derived.ProofKit
import Derived.Below
import Derived.Lib.Hide
import Derived.Deep.QuietTactic
import Derived.Lib.EndianBits
namespace Go.Proofs.Ytidijoncngfppaa
open Go.RowKit

/-- a byte as the heap holds it -/
abbrev b8 (u : UInt8) : Value := .int .u8 (u.toNat : Int)

/-- all but the block s is as it was, and new blocks may have come -/
structure Mod (s : Nat) (w w' : World) : Prop where
  os : w'.os = w.os
  tape : w'.tape = w.tape
  output : w'.output = w.output
  size : w.heap.size ≤ w'.heap.size
  block : ∀ k, k < w.heap.size → k ≠ s → w'.heap[k]? = w.heap[k]?

/-- nothing that was there has changed -/
abbrev Same (w w' : World) : Prop := Below w.heap.size w w'

theorem Same.refl (w : World) : Same w w := Below.refl _ _
theorem Same.trans {a b c : World} (h : Same a b) (k : Same b c) : Same a c := Below.trans h (k.mono h.size)
theorem Same.alloc (w : World) (o : Obj) : Same w (w.alloc o) := (Below.refl _ _).alloc (Nat.le_refl _) o
theorem Same.drew {a w : World} (h : Same a w) : Same a w.drew := Below.drew h
theorem Same.block {w w' : World} (h : Same w w') {k : Nat} {o : Obj} (hk : w.heap[k]? = some o) : w'.heap[k]? = some o := by
  rw [Below.block h k (Array.getElem?_eq_some_iff.1 hk).1]; exact hk
theorem Same.grown {a w w' : World} {row : Option Nat} (h : Same a w) (hg : w.grownBy w' row) (hr : ∀ k, row = some k → a.heap.size ≤ k) : Same a w' :=
  Below.grown h hg h.size hr

theorem Mod.refl (s : Nat) (w : World) : Mod s w w := ⟨rfl, rfl, rfl, Nat.le_refl _, fun _ _ _ => rfl⟩
theorem Mod.trans {s : Nat} {a b c : World} (h : Mod s a b) (k : Mod s b c) : Mod s a c :=
  ⟨k.os.trans h.os, k.tape.trans h.tape, k.output.trans h.output, Nat.le_trans h.size k.size, fun i hi hs => (k.block i (Nat.lt_of_lt_of_le hi h.size) hs).trans (h.block i hi hs)⟩
theorem Mod.of_same {s : Nat} {w w' : World} (h : Same w w') : Mod s w w' := ⟨h.os, h.tape, h.output, h.size, fun k hk _ => Below.block h k hk⟩
theorem Mod.setCell (s o : Nat) (w : World) (v : Value) : Mod s w (w.setCell ⟨s, o, none⟩ v) :=
  ⟨rfl, rfl, rfl, by simp [World.setCell], fun k _ hs => Below.heap_setCell _ _ _ _ hs⟩
theorem Mod.drew {s : Nat} {a w : World} (h : Mod s a w) : Mod s a w.drew := ⟨h.os, h.tape, h.output, h.size, h.block⟩
theorem drewN_heap (w : World) (n : Nat) : (w.drewN n).heap = w.heap := by
  induction n generalizing w with
  | zero => rfl
  | succ n ih => simp [World.drewN] <;> first | rfl | exact ih _
/-- what lay below B, where s lies above -/
theorem Mod.below {s B : Nat} {w w' : World} (h : Mod s w w') (hB : B ≤ s) (hs : B ≤ w.heap.size) : Below B w w' :=
  ⟨h.os, h.tape, h.output, h.size, fun k hk => h.block k (by omega) (by omega)⟩

/-- the value reads as these bytes -/
def Bs (w : World) (v : Value) (l : List UInt8) : Prop :=
  ∃ ao cap, v = .slice ao l.length cap ∧ l.length ≤ cap ∧ cap ≤ 9223372036854775807 ∧ (ao = none → cap = 0) ∧
    ∀ ad, ao = some ad → (l ≠ [] → ad.spot = none) ∧ ∀ j u, l[j]? = some u → w.cell? (ad.add j) = some (b8 u)

theorem Bs.nil (w : World) : Bs w (.slice none 0 0) [] := ⟨none, 0, rfl, Nat.le_refl _, by omega, fun _ => rfl, fun _ h => by cases h⟩

theorem Bs.same {w w' : World} {v : Value} {l : List UInt8} (h : Same w w') (hb : Bs w v l) : Bs w' v l := by
  obtain ⟨ao, cap, rfl, h1, h2, h3, h4⟩ := hb
  refine ⟨ao, cap, rfl, h1, h2, h3, fun ad had => ⟨(h4 ad had).1, fun j u hu => ?_⟩⟩
  have := (h4 ad had).2 j u hu
  rw [Below.cell h (World.block_lt_of_cell? w _ this)]; exact this

theorem Addr.add_block (a : Addr) (n : Nat) : (a.add n).block = a.block := by unfold Addr.add; split <;> rfl

theorem Bs.mod {s : Nat} {w w' : World} {v : Value} {l : List UInt8} (h : Mod s w w') (hs : v.ownBlock ≠ some s) (hb : Bs w v l) : Bs w' v l := by
  obtain ⟨ao, cap, rfl, h1, h2, h3, h4⟩ := hb
  refine ⟨ao, cap, rfl, h1, h2, h3, fun ad had => ⟨(h4 ad had).1, fun j u hu => ?_⟩⟩
  have hc := (h4 ad had).2 j u hu
  subst had
  have hne : (ad.add j).block ≠ s := by rw [Addr.add_block]; intro e; exact hs (by simp [Value.ownBlock, e])
  rw [World.cell?_of_block (w := w) (h.block _ (World.block_lt_of_cell? w _ hc) hne)]; exact hc

theorem Same.drewN {a w : World} (h : Same a w) (n : Nat) : Same a (w.drewN n) := by
  refine ⟨h.os, h.tape, h.output, ?_, fun k hk => ?_⟩
  · rw [drewN_heap]; exact h.size
  · rw [drewN_heap]; exact Below.block h k hk

/-- the value of the bytes, the greatest first -/
def numOf (l : List UInt8) : Nat := l.foldl (fun n u => n * 256 + u.toNat) 0
theorem numOf_snoc (l : List UInt8) (u : UInt8) : numOf (l ++ [u]) = numOf l * 256 + u.toNat := by simp [numOf]
theorem numOf_lt (l : List UInt8) : numOf l < 256 ^ l.length := by
  suffices h : ∀ (l : List UInt8) (n : Nat), l.foldl (fun n u => n * 256 + u.toNat) n < (n + 1) * 256 ^ l.length by simpa [numOf] using h l 0
  intro l
  induction l with
  | nil => intro n; simp
  | cons u l ih =>
    intro n
    have h1 := ih (n * 256 + u.toNat)
    have hu : u.toNat < 256 := u.toNat_lt
    have h2 : (n * 256 + u.toNat + 1) * 256 ^ l.length ≤ ((n + 1) * 256) * 256 ^ l.length := Nat.mul_le_mul_right _ (by omega)
    simp only [List.foldl_cons, List.length_cons, Nat.pow_succ']
    rw [← Nat.mul_assoc]
    omega

theorem or8_u32 (n u : Nat) (hu : u < 256) (hn : n * 256 + u < 4294967296) : bits .or .u32 ((n : Int) * 256 % 4294967296) ((u : Int) % 4294967296) = ((n * 256 + u : Nat) : Int) := by
  rw [show (n : Int) * 256 % 4294967296 = (n : Int) * 256 from by omega, show (u : Int) % 4294967296 = (u : Int) from by omega]
  rw [bits_join .u32 32 (by decide) wraps_u32 8 (x := (n : Int) * 256) (y := (u : Int)) (by omega) (by omega) (by omega) (by omega) (by omega) (by omega)]
  omega
theorem or8_u64 (n u : Nat) (hu : u < 256) (hn : n * 256 + u < 18446744073709551616) : bits .or .u64 ((n : Int) * 256 % 18446744073709551616) ((u : Int) % 18446744073709551616) = ((n * 256 + u : Nat) : Int) := by
  rw [show (n : Int) * 256 % 18446744073709551616 = (n : Int) * 256 from by omega, show (u : Int) % 18446744073709551616 = (u : Int) from by omega]
  rw [bits_join .u64 64 (by decide) wraps_u64 8 (x := (n : Int) * 256) (y := (u : Int)) (by omega) (by omega) (by omega) (by omega) (by omega) (by omega)]
  omega
theorem take_snoc (l : List UInt8) (k : Nat) (h : k < l.length) : l.take (k + 1) = l.take k ++ [l[k]] := by
  rw [List.take_succ_eq_append_getElem (by simpa using h)]
theorem numOf_take_lt (l : List UInt8) (k : Nat) (h : k < l.length) : numOf (l.take k) * 256 + l[k].toNat < 256 ^ (k + 1) := by
  have := numOf_lt (l.take (k + 1))
  rw [take_snoc l k h, numOf_snoc] at this
  simpa [Nat.min_eq_left (show k + 1 ≤ l.length from h)] using this
theorem numOf_take_u32 (l : List UInt8) (k : Nat) (h : k < l.length) (hl : l.length ≤ 4) :
    bits .or .u32 ((numOf (l.take k) : Int) * 256 % 4294967296) ((l[k].toNat : Int) % 4294967296) = (numOf (l.take (k + 1)) : Int) := by
  have h1 := numOf_take_lt l k h
  have h2 : 256 ^ (k + 1) ≤ 256 ^ 4 := Nat.pow_le_pow_right (by omega) (by omega)
  rw [or8_u32 _ _ l[k].toNat_lt (by omega), take_snoc l k h, numOf_snoc]
theorem numOf_take_u64 (l : List UInt8) (k : Nat) (h : k < l.length) (hl : l.length ≤ 8) :
    bits .or .u64 ((numOf (l.take k) : Int) * 256 % 18446744073709551616) ((l[k].toNat : Int) % 18446744073709551616) = (numOf (l.take (k + 1)) : Int) := by
  have h1 := numOf_take_lt l k h
  have h2 : 256 ^ (k + 1) ≤ 256 ^ 8 := Nat.pow_le_pow_right (by omega) (by omega)
  rw [or8_u64 _ _ l[k].toNat_lt (by omega), take_snoc l k h, numOf_snoc]

theorem add_add (a : Addr) (h : a.spot = none) (n k : Nat) : (a.add n).add k = a.add (n + k) := by
  obtain ⟨b, o, sp⟩ := a
  simp only at h
  subst h
  by_cases h1 : n = 0 <;> by_cases h2 : k = 0 <;> simp [Addr.add, h1, h2, Nat.add_assoc]
theorem add_spot (a : Addr) (h : a.spot = none) (n : Nat) : (a.add n).spot = none := by
  obtain ⟨b, o, sp⟩ := a
  simp only at h
  subst h
  by_cases h1 : n = 0 <;> simp [Addr.add, h1]

/-- a piece of bytes -/
theorem Bs.sub {w : World} {ao : Option Addr} {m cap : Nat} {l : List UInt8} (h : Bs w (.slice ao m cap) l) (a k : Nat) (hk : a + k ≤ l.length) :
    Bs w (.slice (if k = 0 then ao else ao.map (·.add a)) k k) ((l.drop a).take k) ∧ Value.ownBlock (.slice (if k = 0 then ao else ao.map (·.add a)) k k) = Value.ownBlock (.slice ao m cap) := by
  obtain ⟨ao', cap', he, h1, h2, h3, h4⟩ := h
  cases he
  have hlen : ((l.drop a).take k).length = k := by simp; omega
  refine ⟨⟨_, k, by rw [hlen], by omega, by omega, ?_, ?_⟩, ?_⟩
  · intro hn
    by_cases hk0 : k = 0
    · exact hk0
    · rw [if_neg hk0] at hn
      cases ao with
      | none => have := h3 rfl; omega
      | some ad => simp at hn
  · intro ad had
    by_cases hk0 : k = 0
    · subst hk0
      rw [if_pos rfl] at had
      exact ⟨fun hne => by simp at hne, fun j u hu => by simp at hu⟩
    · rw [if_neg hk0] at had
      cases ao with
      | none => simp at had
      | some a0 =>
        simp only [Option.map_some, Option.some.injEq] at had
        subst had
        have hs := (h4 a0 rfl).1 (by intro he; subst he; simp at hk; omega)
        refine ⟨fun _ => add_spot _ hs _, fun j u hu => ?_⟩
        rw [add_add _ hs]
        refine (h4 a0 rfl).2 (a + j) u ?_
        rw [List.getElem?_take] at hu
        split at hu
        · simpa using hu
        · cases hu
  · by_cases hk0 : k = 0
    · simp [hk0, Value.ownBlock]; cases ao <;> rfl
    · rw [if_neg hk0]
      cases ao with
      | none => rfl
      | some a0 => simp [Value.ownBlock, Addr.add_block]

/-- byte number i of n, from the lowest on -/
def byteAt (n : Int) (i : Nat) : UInt8 := UInt8.ofNat (n / 256 ^ i % 256).toNat
theorem byteAt_int (n : Int) (i : Nat) : ((byteAt n i).toNat : Int) = n / 256 ^ i % 256 := by
  unfold byteAt
  have h : (n / 256 ^ i % 256).toNat < 256 := by omega
  rw [UInt8.toNat_ofNat']
  omega
theorem b8_byteAt (n : Int) (i : Nat) : b8 (byteAt n i) = .int .u8 (n / 256 ^ i % 256) := by unfold b8; rw [byteAt_int]
/-- a slice of cells just made -/
theorem Bs.made (w : World) (l : List UInt8) (e : TypeId) (hl : l.length ≤ 9223372036854775807) : Bs (w.alloc (.cells (l.map b8).toArray e)) (.slice (some ⟨w.heap.size, 0, none⟩) l.length l.length) l := by
  refine ⟨_, _, rfl, Nat.le_refl _, hl, by simp, fun ad had => ?_⟩
  cases had
  refine ⟨fun _ => rfl, fun j u hu => ?_⟩
  have : (⟨w.heap.size, 0, none⟩ : Addr).add j = ⟨w.heap.size, j, none⟩ := by by_cases hj : j = 0 <;> simp [Addr.add, hj]
  rw [this, World.cell?_alloc_new]
  simp [hu]
/-- a piece of bytes, whose capacity goes on -/
theorem Bs.cut {w : World} {ao : Option Addr} {m cap : Nat} {l : List UInt8} (h : Bs w (.slice ao m cap) l) (a k : Nat) (hk : a + k ≤ l.length) :
    Bs w (.slice (if cap = a then ao else ao.map (·.add a)) k (cap - a)) ((l.drop a).take k) ∧ Value.ownBlock (.slice (if cap = a then ao else ao.map (·.add a)) k (cap - a)) = Value.ownBlock (.slice ao m cap) := by
  obtain ⟨ao', cap', he, h1, h2, h3, h4⟩ := h
  cases he
  have hlen : ((l.drop a).take k).length = k := by simp; omega
  by_cases hc : cap = a
  · subst hc
    obtain rfl : k = 0 := by omega
    simp only [if_pos, Nat.sub_self, List.take_zero]
    exact ⟨⟨ao, 0, rfl, Nat.le_refl _, by omega, fun _ => rfl, fun ad had => ⟨fun hne => by simp at hne, fun j u hu => by simp at hu⟩⟩, by cases ao <;> rfl⟩
  · rw [if_neg hc]
    cases ao with
    | none => have := h3 rfl; omega
    | some a0 =>
      refine ⟨⟨some (a0.add a), cap - a, by rw [hlen]; rfl, by omega, by omega, by simp, fun ad had => ?_⟩, by simp [Value.ownBlock, Addr.add_block]⟩
      cases had
      by_cases hl : l = []
      · subst hl; exact ⟨fun hne => by simp at hne, fun j u hu => by simp at hu⟩
      have hs := (h4 a0 rfl).1 hl
      refine ⟨fun _ => add_spot _ hs _, fun j u hu => ?_⟩
      rw [add_add _ hs]
      refine (h4 a0 rfl).2 (a + j) u ?_
      rw [List.getElem?_take] at hu
      split at hu
      · simpa using hu
      · cases hu
/-- the bytes at a place, if they are there -/
def getOut (l : List UInt8) (a : Int) (k : Nat) : Option (List UInt8) := if 0 ≤ a ∧ a ≤ (l.length : Int) - k then some ((l.drop a.toNat).take k) else none
def numOut (o : Option (List UInt8)) : Nat := match o with | none => 0 | some x => numOf x
def listOut (o : Option (List UInt8)) : List UInt8 := match o with | none => [] | some x => x
end Go.Proofs.Ytidijoncngfppaa
