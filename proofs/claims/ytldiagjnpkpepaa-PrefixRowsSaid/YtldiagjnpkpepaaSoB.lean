/- sort.Slice where less makes memory of its own: what is asked of less and swap, and the worlds on the way. No condition. -/
import Derived.Test.YtldiagjnpkpepaaBase
import Derived.Shelf.SlSortFuncK.WholeK
import Derived.Deep.LoopGhost
namespace Go.Proofs.Ytldiagjnpkpepaa
open Go.Proofs Go.Shelf Go.RowKit Go.Lib Go.Sort
set_option linter.unusedVariables false
variable {P : Program} {ρ : Ren} {α : Type} [Inhabited α]

section
variable {enc : α → List Value} {k : Nat} {w0 W W' : World} {blk off : Nat} {dk : Array α}
/-- the library's family of worlds, however many draws were made -/
def SWD (enc : α → List Value) (k : Nat) (w0 : World) (blk off : Nat) (dk : Array α) (W : World) : Prop := ∃ u : Nat, SWK enc k { w0 with drawn := u } blk off dk W
theorem SWD.of (h : SWK enc k w0 blk off dk W) : SWD enc k w0 blk off dk W := ⟨w0.drawn, h⟩
theorem SWD.start (h : HoldsK enc k w0 blk off dk) : SWD enc k w0 blk off dk w0 := SWD.of (SWK.start h)
theorem SWD.alloc (h : SWD enc k w0 blk off dk W) (o : Obj) : SWD enc k w0 blk off dk (W.alloc o) := by
  obtain ⟨u, h⟩ := h
  exact ⟨u, h.alloc o⟩
theorem SWD.le (h : SWD enc k w0 blk off dk W) : w0.heap.size ≤ W.heap.size := by
  obtain ⟨u, h⟩ := h
  exact h.le
theorem SWD.setCell_new (h : SWD enc k w0 blk off dk W) (b o : Nat) (v : Value) (hb : w0.heap.size ≤ b) : SWD enc k w0 blk off dk (W.setCell ⟨b, o, none⟩ v) := by
  obtain ⟨u, h⟩ := h
  exact ⟨u, h.setCell_new b o v hb⟩
theorem SWD.holds (h : SWD enc k w0 blk off dk W) (hblk : blk < w0.heap.size) {d0 : Array α} (h0 : HoldsK enc k w0 blk off d0) (hs : dk.size = d0.size) : HoldsK enc k W blk off dk := by
  obtain ⟨u, h⟩ := h
  exact h.holds (d0 := d0) hblk h0 hs
theorem SWD.lt (h : SWD enc k w0 blk off dk W) (hblk : blk < w0.heap.size) : blk < W.heap.size := Nat.lt_of_lt_of_le hblk h.le
theorem SWD.swap (h : SWD enc k w0 blk off dk W) (hk : ∀ x, (enc x).length = k) (hblk : blk < w0.heap.size) (i j : Nat) (hi : i < dk.size) (hj : j < dk.size) :
    SWD enc k w0 blk off (swp dk i j) ((W.setCells blk (off + i * k) (enc dk[j]!)).setCells blk (off + j * k) (enc dk[i]!)) := by
  obtain ⟨u, h⟩ := h
  exact ⟨u, h.swap hk hblk i j hi hj⟩
/-- such a world with other draws -/
theorem SWD.redraw (h : SWD enc k w0 blk off dk W) (v : Nat) : SWK enc k { w0 with drawn := v } blk off dk { W with drawn := v } := by
  obtain ⟨u, n, os, rfl⟩ := h
  exact ⟨0, os, rfl⟩
theorem swk_trans {d' : Array α} (h : SWD enc k w0 blk off dk W) (hblk : blk < w0.heap.size) (hs : d'.size = dk.size) (g : SWD enc k W blk off d' W') : SWD enc k w0 blk off d' W' := by
  obtain ⟨v, n, os, rfl⟩ := g
  exact ⟨v, (h.redraw v).on hblk n d' os hs⟩
theorem swk_cell (h : SWD enc k w0 blk off dk W) (a : Addr) (h1 : a.block ≠ blk) (h2 : a.block < w0.heap.size) : W.cell? a = w0.cell? a := by
  obtain ⟨u, n, os, rfl⟩ := h
  exact cell?_sortWorldK_other enc k { w0 with drawn := u } blk off n dk os a h1 h2

/-- nothing that lay changes -/
abbrev More (W W' : World) : Prop := Same W W'
theorem More.eq {W W' : World} (h : More W W') : ∃ os, W' = Sort.grow { W with drawn := W'.drawn } os := by
  refine ⟨W'.heap.extract W.heap.size W'.heap.size, ?_⟩
  have e : W'.heap = W.heap ++ W'.heap.extract W.heap.size W'.heap.size := by
    apply Array.ext_getElem?
    intro i
    by_cases hi : i < W.heap.size
    · rw [Array.getElem?_append_left hi]; exact Below.block h i hi
    · have := h.size
      rw [Array.getElem?_append_right (by omega), Array.getElem?_extract]
      by_cases h2 : i < W'.heap.size
      · rw [if_pos (by omega)]; congr 1; omega
      · rw [if_neg (by omega), Array.getElem?_eq_none (by omega)]
  obtain ⟨h1, h2, h3, h4, h5⟩ := h
  cases W; cases W'
  simp only [Sort.grow] at *
  subst h1 h2 h3
  simp only [World.mk.injEq, and_true]
  exact e
theorem More.le {W W' : World} (h : More W W') : W.heap.size ≤ W'.heap.size := h.size
theorem More.cell {W W' : World} (h : More W W') (a : Addr) (ha : a.block < W.heap.size) : W'.cell? a = W.cell? a := by
  obtain ⟨os, e⟩ := h.eq
  rw [e, cell?_grow _ _ _ (by exact ha)]; rfl
theorem swk_more (h : SWD enc k w0 blk off dk W) (g : More W W') : SWD enc k w0 blk off dk W' := by
  obtain ⟨os, e⟩ := g.eq
  obtain ⟨n, os0, h1⟩ := h.redraw W'.drawn
  exact ⟨W'.drawn, n, os0 ++ os, e.trans (by rw [h1]; unfold sortWorldK; rw [grow_grow])⟩

/-- what is asked of less -/
def LessM (P : Program) (g : Nat) (lb : Array Value) (enc : α → List Value) (k : Nat) (lt : α → α → Bool) (blk off size : Nat) (w : World) : Prop :=
  ∀ (W : World) (dk : Array α), dk.size = size → SWD enc k w blk off dk W → ∀ i j : Nat, i < size → j < size →
    Calls P g (#[.int .i64 i, .int .i64 j] ++ lb) W fun e W' => e = .returned (.bool (lt dk[i]! dk[j]!)) ∧ More W W'
theorem LessM.on {g : Nat} {lb : Array Value} {lt : α → α → Bool} {size : Nat} (h : LessM P g lb enc k lt blk off size w0) (hblk : blk < w0.heap.size) (hs : dk.size = size) (hW : SWD enc k w0 blk off dk W) :
    LessM P g lb enc k lt blk off size W := fun W2 d2 h2 hW2 i j hi hj => h W2 d2 h2 (swk_trans hW hblk (h2.trans hs.symm) hW2) i j hi hj

/-- a world on the way within a function that holds less and swap in a block of its own -/
structure AtB (enc : α → List Value) (k : Nat) (w : World) (blk off : Nat) (g : Nat) (lb : Array Value) (sf : Nat) (sb : Array Value) (dk : Array α) (W : World) : Prop where
  sw : SWD enc k w blk off dk W
  c0 : W.cell? ⟨w.heap.size, 0, none⟩ = some (.func (.func g) #[] lb)
  c1 : W.cell? ⟨w.heap.size, 1, none⟩ = some (.func (.func sf) #[] sb)
  lt : w.heap.size < W.heap.size
theorem AtB.start {g : Nat} {lb : Array Value} {sf : Nat} {sb : Array Value} {t : TypeId} (h : HoldsK enc k w0 blk off dk) : AtB enc k w0 blk off g lb sf sb dk (w0.alloc (.cells #[.func (.func g) #[] lb, .func (.func sf) #[] sb] t)) :=
  ⟨(SWD.start h).alloc _, by simp, by simp, by simp⟩
theorem AtB.more {g : Nat} {lb : Array Value} {sf : Nat} {sb : Array Value} (h : AtB enc k w0 blk off g lb sf sb dk W) (m : More W W') : AtB enc k w0 blk off g lb sf sb dk W' :=
  ⟨swk_more h.sw m, by rw [More.cell m _ h.lt]; exact h.c0, by rw [More.cell m _ h.lt]; exact h.c1, Nat.lt_of_lt_of_le h.lt m.le⟩
theorem AtB.then {g : Nat} {lb : Array Value} {sf : Nat} {sb : Array Value} {d' : Array α} (h : AtB enc k w0 blk off g lb sf sb dk W) (hblk : blk < w0.heap.size) (hs : d'.size = dk.size) (m : SWD enc k W blk off d' W') : AtB enc k w0 blk off g lb sf sb d' W' :=
  ⟨swk_trans h.sw hblk hs m, by rw [swk_cell m _ (by show w0.heap.size ≠ blk; omega) h.lt]; exact h.c0, by rw [swk_cell m _ (by show w0.heap.size ≠ blk; omega) h.lt]; exact h.c1, Nat.lt_of_lt_of_le h.lt m.le⟩
theorem AtB.swap {g : Nat} {lb : Array Value} {sf : Nat} {sb : Array Value} (h : AtB enc k w0 blk off g lb sf sb dk W) (hk : ∀ x, (enc x).length = k) (hblk : blk < w0.heap.size) (i j : Nat) (hi : i < dk.size) (hj : j < dk.size) :
    AtB enc k w0 blk off g lb sf sb (swp dk i j) ((W.setCells blk (off + i * k) (enc dk[j]!)).setCells blk (off + j * k) (enc dk[i]!)) := by
  have hne : w0.heap.size ≠ blk := by omega
  refine ⟨h.sw.swap hk hblk i j hi hj, ?_, ?_, by simpa using h.lt⟩
  · rw [World.cell?_setCells_out blk _ _ _ _ (fun e _ => absurd e hne), World.cell?_setCells_out blk _ _ _ _ (fun e _ => absurd e hne)]; exact h.c0
  · rw [World.cell?_setCells_out blk _ _ _ _ (fun e _ => absurd e hne), World.cell?_setCells_out blk _ _ _ _ (fun e _ => absurd e hne)]; exact h.c1
/-- less, in such a world -/
theorem AtB.less {g : Nat} {lb : Array Value} {sf : Nat} {sb : Array Value} {lt : α → α → Bool} {size : Nat} (hL : LessM P g lb enc k lt blk off size w0) (h : AtB enc k w0 blk off g lb sf sb dk W) (hs : dk.size = size) (i j : Nat) (hi : i < size) (hj : j < size) (zi zj : Int) (ei : zi = i) (ej : zj = j) :
    Calls P g (#[.int .i64 zi, .int .i64 zj] ++ lb) W fun e W' => e = .returned (.bool (lt dk[i]! dk[j]!)) ∧ AtB enc k w0 blk off g lb sf sb dk W' := by
  subst ei; subst ej
  exact (hL W dk hs h.sw i j hi hj).mono fun _ _ ⟨he, hm⟩ => ⟨he, h.more hm⟩
/-- swap, in such a world -/
theorem AtB.swaps {g : Nat} {lb : Array Value} {sf : Nat} {sb : Array Value} {size : Nat} {d0 : Array α} (hS : SwapSwapsK P sf sb enc k blk off size) (hk : ∀ x, (enc x).length = k) (hblk : blk < w0.heap.size) (hH : HoldsK enc k w0 blk off d0) (h0 : d0.size = size)
    (h : AtB enc k w0 blk off g lb sf sb dk W) (hs : dk.size = size) (i j : Nat) (hi : i < size) (hj : j < size) (zi zj : Int) (ei : zi = i) (ej : zj = j) :
    ∃ W', (callFunc sf (#[.int .i64 zi, .int .i64 zj] ++ sb)).run P W = .ok (.value (.tuple #[])) W' ∧ AtB enc k w0 blk off g lb sf sb (swp dk i j) W' := by
  subst ei; subst ej
  exact ⟨_, hS W dk (h.sw.holds hblk hH (hs.trans h0.symm)) hs i j hi hj, h.swap hk hblk i j (by omega) (by omega)⟩
end
end Go.Proofs.Ytldiagjnpkpepaa
