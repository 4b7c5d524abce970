/- An argument opened: a slice of pairs of numbers. No condition. -/
import Derived.Test.YtphhnjfkniahdaaOpen
import Derived.Deep.SlicePairs
namespace Go.Proofs.Ytphhnjfkniahdaa
open Go.ChangeShapes Go.WideShapes Go.ChangeAt Go.RowKit Go.Deep
set_option linter.unusedVariables false

theorem askCells2 : Try.prog.cellsOf 42 = 2 := by kernel_rfl
theorem intCells : Try.prog.cellsOf 3 = 1 := by kernel_rfl

theorem add_of_spot {b o n : Nat} : (⟨b, o, none⟩ : Addr).add n = ⟨b, o + n, none⟩ := by
  by_cases h : n = 0 <;> simp [Addr.add, h]

theorem add_zero_cell {w : World} {a : Addr} {v : Value} (h : w.cell? (a.add (0 * 2)) = some v) : w.cell? a = some v := by simpa [Addr.add] using h

theorem open_asks {H : Type} {enc : TypeId × Value → H} {W : World} {base : Nat} {v : Value} {d : DataW H} {p : List MemPlace}
    (hv : Value.okWide Try.prog W .any base 36 v) (h : DataW.Trod enc Try.prog W 0 (fun _ => true) true 36 v d p) :
    ∃ (ao : Option Addr) (m cap : Nat) (K N : Nat → Int), v = .slice ao m cap ∧
      (∀ ab o sp, ao = some ⟨ab, o, sp⟩ → ∀ j, j < m → W.cell? ⟨ab, o + j * 2, none⟩ = some (.int .i64 (K j)) ∧ W.cell? ⟨ab, o + j * 2 + 1, none⟩ = some (.int .i64 (N j)) ∧ sp = none) ∧ (ao = none → m = 0) := by
  obtain ⟨a0, len, cap, rfl⟩ := okWide_slice Try.underlying36 hv
  obtain ⟨fuel, hf⟩ := h
  rcases open_slice_pairs Try.underlying36 Try.underlying42 askCells2 rfl rfl intCells intCells hf with ⟨hcs, hx⟩ | ⟨a, len', cap', m, n, V0, V1, D0, D1, P0, P1, hcs, _, hl, hm, hmm, hx, hcell⟩
  · simp [Value.cells] at hcs
    obtain ⟨rfl, rfl, rfl⟩ := hcs
    exact ⟨none, 0, 0, fun _ => 0, fun _ => 0, rfl, ⟨(fun _ _ _ h => by cases h), (fun _ => rfl)⟩⟩
  · simp [Value.cells] at hcs
    obtain ⟨rfl, rfl, rfl⟩ := hcs
    rw [if_pos rfl] at hmm
    subst hmm
    have hint : ∀ i, i < m → V0 i = .int .i64 (intOf (V0 i)) ∧ V1 i = .int .i64 (intOf (V1 i)) := by
      intro i hi
      obtain ⟨x0, x1, t0, t1⟩ := hcell i hi
      obtain ⟨u, e0, _, _⟩ := DataW.trod_int Try.underlying3 t0
      obtain ⟨u', e1, _, _⟩ := DataW.trod_int Try.underlying3 t1
      simp at e0 e1
      rw [e0, e1]
      exact ⟨rfl, rfl⟩
    refine ⟨some a, len, m, fun i => intOf (V0 i), fun i => intOf (V1 i), rfl, fun ab o sp he j hj => ?_, by simp⟩
    cases he
    have hj2 : j < m := by omega
    obtain ⟨x0, x1, _, _⟩ := hcell j hj2
    have hsp : sp = none := spot_of_cell (add_zero_cell (hcell 0 (by omega)).1)
    subst hsp
    obtain ⟨y0, y1⟩ := hint j hj2
    rw [add_of_spot] at x0 x1
    rw [← Nat.add_assoc] at x1
    exact ⟨by rw [x0, ← y0], by rw [x1, ← y1], rfl⟩
end Go.Proofs.Ytphhnjfkniahdaa
