/- What a piece of a call leaves as it was: all that lay at its beginning, but for some blocks. No condition. -/
import Derived.Test.YtidijoncngfppaaRow
import Derived.Maps.AppendAt
namespace Go.Proofs.Ytidijoncngfppaa
open Go.RowKit
set_option linter.unusedVariables false
set_option maxRecDepth 100000

/-- all that lay in w is as it was in w', but for the blocks ss -/
structure Kept (ss : List Nat) (w w' : World) : Prop where
  os : w'.os = w.os
  tape : w'.tape = w.tape
  output : w'.output = w.output
  size : w.heap.size ≤ w'.heap.size
  block : ∀ k, k < w.heap.size → k ∉ ss → w'.heap[k]? = w.heap[k]?

theorem Kept.refl (ss : List Nat) (w : World) : Kept ss w w := ⟨rfl, rfl, rfl, Nat.le_refl _, fun _ _ _ => rfl⟩
theorem Kept.same {ss : List Nat} {a w w' : World} (h : Kept ss a w) (k : Same w w') : Kept ss a w' :=
  ⟨k.os.trans h.os, k.tape.trans h.tape, k.output.trans h.output, Nat.le_trans h.size k.size, fun i hi hn => (Below.block k i (Nat.lt_of_lt_of_le hi h.size)).trans (h.block i hi hn)⟩
theorem Kept.mod {ss : List Nat} {a w w' : World} {s : Nat} (h : Kept ss a w) (k : Mod s w w') (hs : s ∈ ss ∨ a.heap.size ≤ s) : Kept ss a w' :=
  ⟨k.os.trans h.os, k.tape.trans h.tape, k.output.trans h.output, Nat.le_trans h.size k.size, fun i hi hn => (k.block i (Nat.lt_of_lt_of_le hi h.size) (by
    rcases hs with hs | hs
    · exact fun e => hn (e ▸ hs)
    · omega)).trans (h.block i hi hn)⟩
theorem Kept.set {ss : List Nat} {a w : World} {s : Nat} (h : Kept ss a w) (o : Nat) (v : Value) (hs : s ∈ ss ∨ a.heap.size ≤ s) : Kept ss a (w.setCell ⟨s, o, none⟩ v) := h.mod (Mod.setCell s o w v) hs
theorem Kept.trans {ss : List Nat} {a b c : World} (h : Kept ss a b) (k : Kept ss b c) : Kept ss a c :=
  ⟨k.os.trans h.os, k.tape.trans h.tape, k.output.trans h.output, Nat.le_trans h.size k.size, fun i hi hn => (k.block i (Nat.lt_of_lt_of_le hi h.size) hn).trans (h.block i hi hn)⟩
theorem Kept.more {ss tt : List Nat} {a b : World} (h : Kept ss a b) (hs : ∀ s, s ∈ ss → s ∈ tt) : Kept tt a b :=
  ⟨h.os, h.tape, h.output, h.size, fun i hi hn => h.block i hi fun e => hn (hs i e)⟩
theorem Kept.grown {ss : List Nat} {a w w' : World} {row : Option Nat} (h : Kept ss a w) (k : w.grownBy w' row) (hs : ∀ s, row = some s → s ∈ ss ∨ a.heap.size ≤ s) : Kept ss a w' :=
  ⟨k.os.trans h.os, k.tape.trans h.tape, k.output.trans h.output, Nat.le_trans h.size k.size, fun i hi hn => (k.block i (Nat.lt_of_lt_of_le hi h.size) (by
    intro e
    rcases hs i e.symm with hs | hs
    · exact hn hs
    · omega)).trans (h.block i hi hn)⟩
/-- what lay below B, where all those blocks lie above -/
theorem Kept.below {ss : List Nat} {a w : World} {B : Nat} (h : Kept ss a w) (hs : ∀ s, s ∈ ss → B ≤ s) (hB : B ≤ a.heap.size) : Below B a w :=
  ⟨h.os, h.tape, h.output, h.size, fun k hk => h.block k (by omega) (fun e => by have := hs k e; omega)⟩
theorem Kept.to_same {ss : List Nat} {o a w : World} (h : Kept ss a w) (k : Same o a) (hs : ∀ s, s ∈ ss → o.heap.size ≤ s) : Same o w :=
  Below.trans k (h.below hs k.size)
theorem Kept.at {ss : List Nat} {a w : World} (h : Kept ss a w) {k : Nat} {o : Obj} (hk : a.heap[k]? = some o) (hn : k ∉ ss) : w.heap[k]? = some o := by
  rw [h.block k (Array.getElem?_eq_some_iff.1 hk).1 hn]; exact hk
theorem Kept.cell {ss : List Nat} {a w : World} (h : Kept ss a w) {p : Addr} {v : Value} (hc : a.cell? p = some v) (hn : p.block ∉ ss) : w.cell? p = some v := by
  rw [World.cell?_of_block (w := a) (h.block _ (World.block_lt_of_cell? a _ hc) hn)]; exact hc

theorem Bs.kept {ss : List Nat} {a w : World} {v : Value} {l : List UInt8} (h : Kept ss a w) (hs : ∀ g, v.ownBlock = some g → g ∉ ss) (hb : Bs a v l) : Bs w v l := by
  obtain ⟨ao, cap, rfl, h1, h2, h3, h4⟩ := hb
  refine ⟨ao, cap, rfl, h1, h2, h3, fun ad had => ⟨(h4 ad had).1, fun j u hu => ?_⟩⟩
  have hc := (h4 ad had).2 j u hu
  subst had
  exact h.cell hc (by rw [Addr.add_block]; exact hs _ rfl)
theorem Rs.kept {α : Type} {L : Lay α} {ss : List Nat} {a w : World} {v : Value} {l : List α} (h : Kept ss a w) (hs : ∀ g, v.ownBlock = some g → g ∉ ss) (hb : Rs L a v l) : Rs L w v l := by
  obtain ⟨ao, cap, rfl, h1, h2, h3, h4⟩ := hb
  refine ⟨ao, cap, rfl, h1, h2, h3, fun ad had => ⟨(h4 ad had).1, fun j u hu => ?_⟩⟩
  have hc := (h4 ad had).2 j u hu
  subst had
  exact h.cell hc (by rw [Addr.add_block]; exact hs _ rfl)
theorem OwnR.kept {α : Type} {L : Lay α} {ss : List Nat} {a w : World} {B : Nat} {v : Value} {l : List α} (h : Kept ss a w) (hs : ∀ g, v.ownBlock = some g → g ∉ ss) (hb : OwnR L a B v l) : OwnR L w B v l := by
  refine ⟨hb.1, ?_⟩
  rcases hb.2 with h2 | ⟨g, cap, cur, rfl, hB, hg, r⟩
  · exact .inl h2
  · exact .inr ⟨g, cap, cur, rfl, hB, h.at hg (hs g rfl), r⟩
theorem OwnB.kept {ss : List Nat} {a w : World} {B : Nat} {v : Value} {l : List UInt8} (h : Kept ss a w) (hs : ∀ g, v.ownBlock = some g → g ∉ ss) (hb : OwnB a B v l) : OwnB w B v l := by
  refine ⟨hb.1, ?_⟩
  rcases hb.2 with h2 | ⟨g, cap, cur, rfl, hB, hg, r⟩
  · exact .inl h2
  · exact .inr ⟨g, cap, cur, rfl, hB, h.at hg (hs g rfl), r⟩

/-- append of a row, with where the row lies then -/
theorem run_append_r2 {α : Type} (L : Lay α) {t : TypeId} {z : Value} {bytes : Nat} (ht : Try.prog.underlying t = some (.slice L.e)) (hi : (Try.prog.info? L.e).map (fun i => (i.zero, i.size, i.bytes)) = some (some z, L.k, bytes)) (hz : z.cells.size = L.k) (hk : 0 < L.k) (hbt : bytes ≤ 64)
    (w : World) (ty : TypeId) (B : Nat) (v : Value) (l : List α) (hown : OwnR L w B v l) (x : Value) (m : List α) (hx : Rs L w x m) (hlen : l.length + m.length ≤ 1099511627776) (hB : B ≤ w.heap.size) :
    ∃ v' w', (Builtin.append_ #[t, t] ty #[v, x]).run Try.prog w = .ok v' w' ∧ OwnR L w' B v' (l ++ m) ∧ w.grownBy w' v.ownBlock ∧ (v'.ownBlock = v.ownBlock ∨ v'.ownBlock = some w.heap.size) := by
  obtain ⟨i0, hi, hz0, hz1, hz2⟩ := info_parts hi
  obtain ⟨ao, cap, rfl, h1, h2, h3, h4⟩ := hx
  cases ao with
  | none =>
    have hc := h3 rfl
    have hm : m = [] := List.eq_nil_of_length_eq_zero (by omega)
    subst hm hc
    exact ⟨v, w, run_append_owned_none w B _ ty _ i0 L.k ht hi v _ _ hown, by simpa using hown, World.grownBy.refl _ _, .inl rfl⟩
  | some ad =>
    obtain ⟨v', w', hr, ho, hg, _, h5⟩ := run_append_own_at (P := Try.prog) w B t ty L.e i0 z L.k bytes ht hi hz0 hz1 hz2 hz hk v l.length (L.row l) hown ad m.length cap (L.row m) (L.row_length m)
      (fun k u hu => (h4 ad rfl).2 k u hu) (L.row_one m) (by unfold maxLen; omega) (by have := Nat.mul_le_mul hlen hbt; omega) hB
    exact ⟨v', w', hr, by unfold OwnR; rw [List.length_append, L.row_append]; exact ho, hg, h5⟩
theorem wpList_append_r2 {α : Type} (L : Lay α) {t : TypeId} {z : Value} {bytes : Nat} (ht : Try.prog.underlying t = some (.slice L.e)) (hi : (Try.prog.info? L.e).map (fun i => (i.zero, i.size, i.bytes)) = some (some z, L.k, bytes)) (hz : z.cells.size = L.k) (hk : 0 < L.k) (hbt : bytes ≤ 64)
    {w : World} {ops : Array Oper} {rest : List Oper} {o : Oper} {a : Act} {Q : Exit → Act → World → Prop} (hgd : o.guard = none) (sl xo : Operand)
    (ho : o.op = .call { callee := .builtin .append, args := #[sl, xo], argTypes := #[t, t] })
    (B : Nat) (hB : B ≤ w.heap.size) (v : Value) (l : List α) (hs : a.eval sl = v) (hown : OwnR L w B v l) (x : Value) (m : List α) (hxe : a.eval xo = x) (hx : Rs L w x m) (hlen : l.length + m.length ≤ 1099511627776)
    (h : ∀ v' w', OwnR L w' B v' (l ++ m) → w.grownBy w' v.ownBlock → (v'.ownBlock = v.ownBlock ∨ v'.ownBlock = some w.heap.size) → wpList Try.prog ops Q rest (a.put o.dst v') w') : wpList Try.prog ops Q (o :: rest) a w := by
  obtain ⟨v', w', hr, h1, h2, h3⟩ := run_append_r2 L ht hi hz hk hbt w o.type _ v l hown x m hx hlen hB
  exact Lib.wpList_append_run w hgd sl xo _ _ ho v x hs hxe v' w' hr (h v' w' h1 h2 h3)

/-- a number that stands in a struct -/
def posW (w : World) (s j : Nat) : Nat := match w.cell? ⟨s, j, none⟩ with
  | some (.int _ n) => n.toNat
  | _ => 0
end Go.Proofs.Ytidijoncngfppaa
