/- Arguments opened: a prefix by value, a row of prefixes. No condition. -/
import Derived.Test.YtldiagjnpkpepaaLaw
import Derived.Test.YtldiagjnpkpepaaBase
import Derived.Lib.SmallJoins
import Derived.Deep.SlicePairs
namespace Go.Proofs.Ytldiagjnpkpepaa
open Go.ChangeShapes Go.WideShapes Go.ChangeAt Go.RowKit Go.Joins Go.Deep
set_option linter.unusedVariables false
set_option maxRecDepth 100000

theorem pfxCells : Try.prog.cellsOf 58 = 2 := by kernel_rfl

theorem open_pfx {H : Type} {enc : TypeId × Value → H} {W : World} {base : Nat} {v : Value} {d : DataW H} {p : List MemPlace}
    (hv : Value.okWide Try.prog W .any base 58 v) (h : DataW.Trod enc Try.prog W 0 (fun _ => true) true 58 v d p) :
    ∃ a n : Int, v = .agg #[.int .u32 a, .int .i64 n] ∧ (Lit.int .u32 a).wf = true ∧ (Lit.int .i64 n).wf = true := by
  obtain ⟨c0, c1, y0, y1, m, rfl, rfl, rfl, hy0, hy1⟩ := open_agg2 Try.underlying58 (by kernel_rfl) pfxCells hv h
  obtain ⟨a, e0, rfl, wa⟩ := DataW.trod_int Try.underlying29 hy0
  obtain ⟨b, e1, rfl, wb⟩ := DataW.trod_int Try.underlying3 hy1
  simp at e0 e1
  subst e0 e1
  exact ⟨a, b, rfl, wa, wb⟩

/-- a row of prefixes, as the memory has it -/
def Ps (w : World) (v : Value) (l : List (Int × Int)) : Prop :=
  ∃ (ao : Option Addr) (cap : Nat), v = .slice ao l.length cap ∧ l.length ≤ cap ∧ cap ≤ 9223372036854775807 ∧ (ao = none → cap = 0) ∧
    ∀ ad, ao = some ad → (l ≠ [] → ad.spot = none) ∧ ∀ j p, l[j]? = some p → w.cell? (ad.add (j * 2)) = some (.int .u32 p.1) ∧ w.cell? (ad.add (j * 2 + 1)) = some (.int .i64 p.2)

theorem pfx_add_of_spot {b o n : Nat} : (⟨b, o, none⟩ : Addr).add n = ⟨b, o + n, none⟩ := by
  by_cases h : n = 0 <;> simp [Addr.add, h]

theorem pfx_spot {w : World} {a : Addr} {v : Value} (h : w.cell? (a.add (0 * 2)) = some v) : a.spot = none := by
  have h : w.cell? a = some v := by simpa [Addr.add] using h
  unfold World.cell? at h
  split at h
  · split at h
    · cases h
    · rename_i hs; simpa using hs
  · cases h

theorem u32Cells : Try.prog.cellsOf 29 = 1 := by kernel_rfl
theorem intCells1 : Try.prog.cellsOf 3 = 1 := by kernel_rfl

theorem open_pfxs {H : Type} {enc : TypeId × Value → H} {W : World} {base : Nat} {v : Value} {d : DataW H} {p : List MemPlace}
    (hv : Value.okWide Try.prog W .any base 22 v) (h : DataW.Trod enc Try.prog W 0 (fun _ => true) true 22 v d p) :
    ∃ l : List (Int × Int), Ps W v l ∧ ∀ q ∈ l, (0 ≤ q.1 ∧ q.1 ≤ 4294967295) ∧ (-9223372036854775808 ≤ q.2 ∧ q.2 ≤ 9223372036854775807) := by
  obtain ⟨a0, len, cap, rfl⟩ := okWide_slice Try.underlying22 hv
  obtain ⟨fuel, hf⟩ := h
  rcases open_slice_pairs Try.underlying22 Try.underlying58 pfxCells rfl rfl u32Cells intCells1 hf with ⟨hcs, hx⟩ | ⟨a, len', cap', m, n, V0, V1, D0, D1, P0, P1, hcs, _, hl, hm, hmm, hx, hcell⟩
  · simp [Value.cells] at hcs
    obtain ⟨rfl, rfl, rfl⟩ := hcs
    exact ⟨[], ⟨none, 0, rfl, by simp, by omega, fun _ => rfl, fun _ h => by cases h⟩, fun q hq => by simp at hq⟩
  · simp [Value.cells] at hcs
    obtain ⟨rfl, rfl, rfl⟩ := hcs
    rw [if_pos rfl] at hmm
    subst hmm
    have hint : ∀ i, i < m → ∃ x y : Int, V0 i = .int .u32 x ∧ V1 i = .int .i64 y ∧ (0 ≤ x ∧ x ≤ 4294967295) ∧ (-9223372036854775808 ≤ y ∧ y ≤ 9223372036854775807) := by
      intro i hi
      obtain ⟨x0, x1, t0, t1⟩ := hcell i hi
      obtain ⟨u, e0, _, w0⟩ := DataW.trod_int Try.underlying29 t0
      obtain ⟨u', e1, _, w1⟩ := DataW.trod_int Try.underlying3 t1
      simp at e0 e1
      refine ⟨u, u', e0, e1, ?_, ?_⟩
      · simpa [Lit.wf, IntKind.min, IntKind.max, IntKind.signed, IntKind.bits] using w0
      · simpa [Lit.wf, IntKind.min, IntKind.max, IntKind.signed, IntKind.bits] using w1
    have hlen : ((List.range len).map fun i => (intOf (V0 i), intOf (V1 i))).length = len := by simp
    refine ⟨(List.range len).map fun i => (intOf (V0 i), intOf (V1 i)), ⟨some a, m, by rw [hlen], by rw [hlen]; exact hl, by unfold maxLen at hm; omega, by simp, fun ad had => ?_⟩, fun q hq => ?_⟩
    · cases had
      refine ⟨fun hne => ?_, fun j p hj => ?_⟩
      · have h0 : 0 < len := by
          rcases Nat.eq_zero_or_pos len with h | h
          · exact absurd (by subst h; rfl) hne
          · exact h
        exact pfx_spot (hcell 0 (by omega)).1
      · simp only [List.getElem?_map, Option.map_eq_some_iff] at hj
        obtain ⟨i, hi, rfl⟩ := hj
        obtain ⟨hjl, he⟩ := List.getElem?_eq_some_iff.1 hi
        simp at hjl he
        subst he
        obtain ⟨x0, x1, _, _⟩ := hcell j (by omega)
        obtain ⟨x, y, e0, e1, _, _⟩ := hint j (by omega)
        rw [x0, x1, e0, e1]
        exact ⟨rfl, rfl⟩
    · simp only [List.mem_map, List.mem_range] at hq
      obtain ⟨i, hi, rfl⟩ := hq
      obtain ⟨x, y, e0, e1, h0, h1⟩ := hint i (by omega)
      rw [e0, e1]
      exact ⟨h0, h1⟩
end Go.Proofs.Ytldiagjnpkpepaa
