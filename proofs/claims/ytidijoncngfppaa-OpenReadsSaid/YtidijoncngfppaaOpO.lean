/- Arguments opened for layer 8: a body. No condition. -/
import Derived.Test.YtidijoncngfppaaAtO
import Derived.Test.YtidijoncngfppaaOpM
set_option maxRecDepth 100000
namespace Go.Proofs.Ytidijoncngfppaa
open Go.ChangeShapes Go.WideShapes Go.ChangeAt Go.RowKit Go.Joins Go.Deep
set_option linter.unusedVariables false

theorem array4O {α : Type} {cs : Array α} (h : cs.size = 4) : ∃ c0 c1 c2 c3, cs = #[c0, c1, c2, c3] := by
  obtain ⟨l⟩ := cs
  match l, h with
  | [c0, c1, c2, c3], _ => exact ⟨c0, c1, c2, c3, rfl⟩
theorem opCells : Try.prog.cellsOf 25 = 4 := by kernel_rfl
theorem cpCells : Try.prog.cellsOf 30 = 2 := by kernel_rfl
theorem cpsCells : Try.prog.cellsOf 23 = 1 := by kernel_rfl
theorem intCellO : Try.prog.cellsOf 3 = 1 := by kernel_rfl
theorem u32CellO : Try.prog.cellsOf 22 = 1 := by kernel_rfl
theorem u8sCellO : Try.prog.cellsOf 28 = 1 := by kernel_rfl

instance : Inhabited (Cp × Sl) := ⟨(⟨0, []⟩, ⟨none, 0⟩)⟩
theorem trod_caps {H : Type} {enc : TypeId × Value → H} {W : World} {fuel : Nat} {c : Value} {x : DataW H × List MemPlace}
    (hf : DataW.trod enc Try.prog W 0 (fun _ => true) true fuel 23 [c] = some x) :
    ∃ l : List Cp, CapsW 30 W c l := by
  rcases open_slice Try.underlying23 hf with ⟨hcs, hx⟩ | ⟨a, len, cap, m, n, D, Pl, hcs, hb, hl, hm, hmm, hx, hel⟩
  · simp at hcs
    subst hcs
    exact ⟨[], CapsW.nil _ W⟩
  · simp at hcs
    subst hcs
    rw [if_pos rfl] at hmm
    subst hmm
    have each : ∀ i, i < m → ∃ x : Cp × Sl, W.cell? (a.add (i * 2)) = some (.int .i64 x.1.code) ∧ W.cell? (a.add (i * 2 + 1)) = some (cvV x.1 x.2) ∧ Bs W (cvV x.1 x.2) x.1.value := by
      intro i hi
      obtain ⟨cs', h1, h2⟩ := hel i hi
      rw [cpCells] at h1
      obtain ⟨_, hlen, hcell⟩ := World.cells?_some h1
      obtain ⟨xs, k, hk, hxy, _, hxl, hff⟩ := DataW.trod_struct Try.underlying30 h2
      have g0 := hff 0 _ rfl
      have g1 := hff 1 _ rfl
      match xs, hxl, cs', hlen with
      | [y0, y1], _, [v0, v1], _ =>
        simp at g0 g1
        rw [intCellO] at g0
        rw [u8sCellO] at g1
        simp at g0 g1
        have e0 := hcell 0 (by omega)
        have e1 := hcell 1 (by omega)
        rw [Go.Deep.add_add] at e0 e1
        obtain ⟨b0, f0, _, w0⟩ := DataW.trod_int Try.underlying3 g0
        obtain ⟨l, hlb⟩ := trod_bytes g1
        simp at f0
        subst f0
        obtain ⟨so, sc, hv2, h3, h4, h5, h6⟩ := id hlb
        subst hv2
        exact ⟨(⟨b0, l⟩, ⟨so, sc⟩), by simpa using e0, by simpa using e1, hlb⟩
    obtain ⟨q, hq⟩ := choose_lt each
    have hxs : ((List.range len).map q).length = len := by simp
    have hget : ∀ (j : Nat) (x : Cp × Sl), ((List.range len).map q)[j]? = some x → j < len ∧ x = q j := by
      intro j x hj
      simp only [List.getElem?_map, Option.map_eq_some_iff] at hj
      obtain ⟨i, hi, rfl⟩ := hj
      obtain ⟨hjl, he⟩ := List.getElem?_eq_some_iff.1 hi
      simp at hjl he
      exact ⟨hjl, by rw [he]⟩
    refine ⟨((List.range len).map q).map (·.1), ⟨(List.range len).map q, rfl, ⟨some a, m, by rw [hxs], by rw [hxs]; exact hl, by unfold maxLen at hm; omega, by simp, fun ad had => ?_⟩, fun x hx => ?_⟩⟩
    · cases had
      have hsp : len ≠ 0 → a.spot = none := fun h0 => by
        have := cell_spot (hq 0 (by omega)).1
        simpa [Addr.add] using this
      refine ⟨fun hne => hsp (fun h0 => hne (List.eq_nil_of_length_eq_zero (by rw [hxs, h0]))), fun k u hu => ?_⟩
      obtain ⟨j, i, hi, hk, x, hj, hui⟩ := row_inv (capLay 30) _ k u hu
      obtain ⟨hjl, rfl⟩ := hget j x hj
      obtain ⟨z0, z1, -⟩ := hq j (by omega)
      have hi3 : i < 2 := hi
      rw [hk]
      match i, hi3 with
      | 0, _ => rw [← Option.some.inj hui]; exact z0
      | 1, _ => rw [← Option.some.inj hui]; exact z1
    · obtain ⟨i, hi, rfl⟩ := List.mem_map.1 hx
      exact (hq i (by have := List.mem_range.1 hi; omega)).2.2

/-- its numbers are those of their kinds -/
structure OqOk (o : Oq) : Prop where
  asn : -9223372036854775808 ≤ o.asn ∧ o.asn ≤ 9223372036854775807
  hold : -9223372036854775808 ≤ o.hold ∧ o.hold ≤ 9223372036854775807
  ident : 0 ≤ o.ident ∧ o.ident ≤ 4294967295

theorem open_open {H : Type} {enc : TypeId × Value → H} {W : World} {base : Nat} {v : Value} {d : DataW H} {p : List MemPlace}
    (hv : Value.okWide Try.prog W .any base 25 v) (h : DataW.Trod enc Try.prog W 0 (fun _ => true) true 25 v d p) :
    ∃ (o : Oq) (vc : Value), v = oqV o vc ∧ OqOk o ∧ CapsW 30 W vc o.caps := by
  obtain ⟨cs, rfl, hsz⟩ := okWide_struct Try.underlying25 hv
  obtain ⟨c0, c1, c2, c3, rfl⟩ := array4O (hsz.trans opCells)
  obtain ⟨fuel, hf⟩ := h
  obtain ⟨xs, n, _, hx, _, hlen, hfl⟩ := DataW.trod_struct Try.underlying25 hf
  have k0 := hfl 0 _ rfl
  have k1 := hfl 1 _ rfl
  have k2 := hfl 2 _ rfl
  have k3 := hfl 3 _ rfl
  match xs, hlen with
  | [y0, y1, y2, y3], _ =>
    simp [Value.cells] at k0 k1 k2 k3
    rw [intCellO] at k0 k1
    rw [u32CellO] at k2
    rw [cpsCells] at k3
    simp at k0 k1 k2 k3
    obtain ⟨a0, e0, _, w0⟩ := DataW.trod_int Try.underlying3 k0
    obtain ⟨a1, e1, _, w1⟩ := DataW.trod_int Try.underlying3 k1
    obtain ⟨a2, e2, _, w2⟩ := DataW.trod_int Try.underlying22 k2
    obtain ⟨l, hl⟩ := trod_caps k3
    simp at e0 e1 e2
    subst e0 e1 e2
    exact ⟨⟨a0, a1, a2, l⟩, c3, rfl, ⟨i64_within w0, i64_within w1, u32_within w2⟩, hl⟩
end Go.Proofs.Ytidijoncngfppaa
