/- Contract of the document's own Parse of layer 4. No condition beyond what it names. Contract of the document's own Parse of layer 4: the sum, and what a head says. No condition beyond what it names. -/
import Derived.Deep.SlicePairs
import Derived.Laws.CopyOwn
import Derived.Test.YtcemdajkddidnaaGreatDoorMgG
namespace Go.Proofs.YtcemdajkddidnaaGreatDoor
open Go.RowKit
set_option linter.unusedVariables false

theorem i8_and15 (n : Nat) (h : n < 256) : bits .and .u8 (n : Int) 15 = ((n % 16 : Nat) : Int) := by
  have : ∀ k : Fin 256, bits .and .u8 (k.val : Int) 15 = ((k.val % 16 : Nat) : Int) := by decide +kernel
  exact this ⟨n, h⟩

theorem fld_two (l : List UInt8) (a : Nat) (u v : UInt8) (h : l[a]? = some u) (h2 : l[a + 1]? = some v) : fld l a 2 = 256 * u.toNat + v.toNat := by
  obtain ⟨hl, rfl⟩ := List.getElem?_eq_some_iff.1 h
  obtain ⟨hl2, rfl⟩ := List.getElem?_eq_some_iff.1 h2
  unfold fld
  rw [List.drop_eq_getElem_cons hl, List.take_succ_cons, List.drop_eq_getElem_cons hl2, List.take_succ_cons, List.take_zero]
  simp [numOf]; omega

/-- the first bytes of a packet, as its cells -/
theorem heads {w : World} {v : Value} {l : List UInt8} (hb : Bs w v l) (h : 20 ≤ l.length) : ∃ b o cap, v = .slice (some ⟨b, o, none⟩) l.length cap ∧ l.length ≤ cap ∧ cap ≤ 9223372036854775807 ∧
    ∃ b0 b2 b3 : Nat, b0 < 256 ∧ b2 < 256 ∧ b3 < 256 ∧ fld l 0 1 = b0 ∧ fld l 2 2 = 256 * b2 + b3 ∧
      ∀ w', Same w w' → w'.cell? ⟨b, o, none⟩ = some (.int .u8 (b0 : Int)) ∧ w'.cell? ⟨b, o + 2, none⟩ = some (.int .u8 (b2 : Int)) ∧ w'.cell? ⟨b, o + 3, none⟩ = some (.int .u8 (b3 : Int)) := by
  obtain ⟨ao, cap, rfl, h1, h2, h3, h4⟩ := hb
  cases ao with
  | none => have := h3 rfl; omega
  | some ad =>
    obtain ⟨b, o, sp⟩ := ad
    have hsp := (h4 _ rfl).1 (by intro e; subst e; simp at h)
    simp only at hsp
    subst hsp
    have g0 : l[0]? = some l[0] := List.getElem?_eq_getElem (by omega)
    have g2 : l[2]? = some l[2] := List.getElem?_eq_getElem (by omega)
    have g3 : l[3]? = some l[3] := List.getElem?_eq_getElem (by omega)
    have hc0 := (h4 _ rfl).2 0 _ g0
    have hc2 := (h4 _ rfl).2 2 _ g2
    have hc3 := (h4 _ rfl).2 3 _ g3
    rw [addr_add] at hc0 hc2 hc3
    rw [Nat.add_zero] at hc0
    refine ⟨b, o, cap, rfl, h1, h2, l[0].toNat, l[2].toNat, l[3].toNat, l[0].toNat_lt, l[2].toNat_lt, l[3].toNat_lt, fld_one l 0 _ g0, fld_two l 2 _ _ g2 g3, fun w' hs => ?_⟩
    refine ⟨?_, ?_, ?_⟩
    · rw [Below.cell hs (World.block_lt_of_cell? w _ hc0)]; exact hc0
    · rw [Below.cell hs (World.block_lt_of_cell? w _ hc2)]; exact hc2
    · rw [Below.cell hs (World.block_lt_of_cell? w _ hc3)]; exact hc3

abbrev nilV : Value := .slice none 0 0
abbrev zeroO (t : TypeId) : Obj := .cells #[.int .i64 0, .int .i64 0, .int .i64 0, .int .i64 0, .int .i64 0, .int .i64 0, .int .u32 0, .int .u32 0, .slice none 0 0] t
/-- what Parse tells -/
abbrev parV (h : Hd) (vo vp : Value) (e : Int) : Value := .tuple #[hdV h vo, vp, .int .i64 e]

/-- where the head is one: the lengths, then the sum -/
structure ParseIn (n b0 b2 b3 m N : Nat) : Prop where
  len : 20 ≤ n
  lt0 : b0 < 256
  lt2 : b2 < 256
  lt3 : b3 < 256
  low : b0 % 16 = m
  four : b0 / 16 = 4
  five : 20 ≤ 4 * m
  num : 256 * b2 + b3 = N

end Go.Proofs.YtcemdajkddidnaaGreatDoor
namespace Go.Proofs.YtcemdajkddidnaaGreatDoor
open Go.RowKit
set_option linter.unusedVariables false

theorem OwnB.mod {w w' : World} {B s : Nat} {v : Value} {l : List UInt8} (h : Mod s w w') (hs : v.ownBlock ≠ some s) (hb : OwnB w B v l) : OwnB w' B v l :=
  World.ownsRow.kept (row := some s) hb ⟨h.os, h.tape, h.output, h.size, fun k hk hks => h.block k hk (fun e => hks (by rw [e]))⟩ (by
    by_cases h : v.ownBlock = none
    · exact .inl h
    · exact .inr hs)
theorem Mod.setRow (s : Nat) (w : World) (cs : Array Value) : Mod s w (w.setRow s cs) := ⟨rfl, rfl, rfl, by simp [World.setRow], fun k _ hs => setRow_other w s k cs hs⟩

theorem hd_one (h : Hd) (ao : Option Addr) (n c : Nat) : (#[.int .i64 h.tos, .int .i64 h.id, .int .i64 h.flags, .int .i64 h.frag, .int .i64 h.ttl, .int .i64 h.proto, .int .u32 h.src, .int .u32 h.dst, .slice ao n c] : Array Value).all (·.oneCell') = true := by
  simp [Value.oneCell']

end Go.Proofs.YtcemdajkddidnaaGreatDoor
