/- Byte slices that a call owns: their block, cells and stores. No condition beyond what each names. -/
import Derived.Test.YtfhaaenmllkbnaaMem
import Derived.Deep.AppendLies
namespace Go.Proofs.Ytfhaaenmllkbnaa
open Go.RowKit
set_option linter.unusedVariables false

theorem OwnB.form {w : World} {B : Nat} {v : Value} {l : List UInt8} (h : OwnB w B v l) (hl : 0 < l.length) : ∃ g cap, v = .slice (some ⟨g, 0, none⟩) l.length cap ∧ l.length ≤ cap ∧ B ≤ g := by
  rcases h.2 with ⟨rfl, h0⟩ | ⟨g, cap, cur, rfl, hb, hg, h1, h2, h3, h4⟩
  · omega
  · exact ⟨g, cap, rfl, h1, hb⟩
theorem OwnB.cell {w : World} {B g n cap : Nat} {l : List UInt8} (h : OwnB w B (.slice (some ⟨g, 0, none⟩) n cap) l) (j : Nat) (hj : j < l.length) : w.cell? ⟨g, j, none⟩ = some (b8 l[j]) := by
  have hn : n = l.length := by
    rcases h.2 with ⟨h', _⟩ | ⟨g', cap', cur, h', _⟩
    · simp at h'
    · simp at h'; omega
  subst hn
  have := World.ownsRow.cellAt h j (by simpa using hj)
  rw [this]
  simp [hj]
theorem OwnB.thaw {w : World} {B g n cap : Nat} {l : List UInt8} (h : OwnB w B (.slice (some ⟨g, 0, none⟩) n cap) l) (j : Nat) : w.frozen? ⟨g, j, none⟩ = false := by
  have hn : n = l.length := by
    rcases h.2 with ⟨h', _⟩ | ⟨g', cap', cur, h', _⟩
    · simp at h'
    · simp at h'; omega
  subst hn
  exact World.ownsRow.frozenAt h j
theorem OwnB.set {w : World} {B g n cap : Nat} {l : List UInt8} (h : OwnB w B (.slice (some ⟨g, 0, none⟩) n cap) l) (j : Nat) (u : UInt8) : OwnB (w.setCell ⟨g, j, none⟩ (b8 u)) B (.slice (some ⟨g, 0, none⟩) n cap) (l.set j u) := by
  have hn : n = l.length := by
    rcases h.2 with ⟨h', _⟩ | ⟨g', cap', cur, h', _⟩
    · simp at h'
    · simp at h'; omega
  subst hn
  have := (World.ownsRow.stored h j (b8 u)).1
  unfold OwnB
  rw [List.length_set, List.map_set]
  exact this
theorem Same.set {A w : World} {g j : Nat} (h : Same A w) (hg : A.heap.size ≤ g) (v : Value) : Same A (w.setCell ⟨g, j, none⟩ v) :=
  Below.trans h ((Mod.setCell g j w v).below hg h.size)
end Go.Proofs.Ytfhaaenmllkbnaa
