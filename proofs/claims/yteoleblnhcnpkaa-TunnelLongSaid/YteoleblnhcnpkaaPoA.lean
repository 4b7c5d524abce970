/- A flow that came in, opened. No condition. -/
import Derived.Test.YteoleblnhcnpkaaOpenG
import Derived.Test.YteoleblnhcnpkaaPoF
set_option maxRecDepth 100000
namespace Go.Proofs.Yteoleblnhcnpkaa
open Go.ChangeShapes Go.WideShapes Go.ChangeAt Go.RowKit Go.Joins
set_option linter.unusedVariables false

theorem array5 {α : Type} {cs : Array α} (h : cs.size = 5) : ∃ c0 c1 c2 c3 c4, cs = #[c0, c1, c2, c3, c4] := by
  obtain ⟨l⟩ := cs
  match l, h with
  | [c0, c1, c2, c3, c4], _ => exact ⟨c0, c1, c2, c3, c4, rfl⟩
theorem flCells : Try.prog.cellsOf 44 = 5 := by kernel_rfl
theorem intCellF : Try.prog.cellsOf 3 = 1 := by kernel_rfl
theorem u32CellF : Try.prog.cellsOf 23 = 1 := by kernel_rfl

theorem open_fl {H : Type} {enc : TypeId × Value → H} {W : World} {base : Nat} {v : Value} {d : DataW H} {p : List MemPlace}
    (hv : Value.okWide Try.prog W .any base 44 v) (h : DataW.Trod enc Try.prog W 0 (fun _ => true) true 44 v d p) :
    ∃ f : Fl, v = flV f ∧ FlOk f := by
  obtain ⟨cs, rfl, hsz⟩ := okWide_struct Try.underlying44 hv
  obtain ⟨c0, c1, c2, c3, c4, rfl⟩ := array5 (hsz.trans flCells)
  obtain ⟨fuel, hf⟩ := h
  obtain ⟨xs, n, _, hx, _, hlen, hfl⟩ := DataW.trod_struct Try.underlying44 hf
  have k0 := hfl 0 _ rfl
  have k1 := hfl 1 _ rfl
  have k2 := hfl 2 _ rfl
  have k3 := hfl 3 _ rfl
  have k4 := hfl 4 _ rfl
  match xs, hlen with
  | [y0, y1, y2, y3, y4], _ =>
    simp [Value.cells] at k0 k1 k2 k3 k4
    rw [intCellF] at k0 k3 k4
    rw [u32CellF] at k1 k2
    simp at k0 k1 k2 k3 k4
    obtain ⟨a0, e0, _, w0⟩ := DataW.trod_int Try.underlying3 k0
    obtain ⟨a1, e1, _, w1⟩ := DataW.trod_int Try.underlying23 k1
    obtain ⟨a2, e2, _, w2⟩ := DataW.trod_int Try.underlying23 k2
    obtain ⟨a3, e3, _, w3⟩ := DataW.trod_int Try.underlying3 k3
    obtain ⟨a4, e4, _, w4⟩ := DataW.trod_int Try.underlying3 k4
    simp at e0 e1 e2 e3 e4
    subst e0 e1 e2 e3 e4
    exact ⟨⟨a0, a1, a2, a3, a4⟩, rfl, ⟨i64_within w0, u32_within w1, u32_within w2, i64_within w3, i64_within w4⟩⟩
end Go.Proofs.Yteoleblnhcnpkaa
