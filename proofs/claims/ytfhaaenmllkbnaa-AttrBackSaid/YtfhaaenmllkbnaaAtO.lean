/- Arguments opened for layer 7: what is said of a path, a row of attributes. No condition. -/
import Derived.Test.YtfhaaenmllkbnaaOpenG
import Derived.Test.YtfhaaenmllkbnaaAtM
import Derived.Deep.SlicePairs
set_option maxRecDepth 100000
namespace Go.Proofs.Ytfhaaenmllkbnaa
open Go.ChangeShapes Go.WideShapes Go.ChangeAt Go.RowKit Go.Joins Go.Deep
set_option linter.unusedVariables false

theorem array5 {α : Type} {cs : Array α} (h : cs.size = 5) : ∃ c0 c1 c2 c3 c4, cs = #[c0, c1, c2, c3, c4] := by
  obtain ⟨l⟩ := cs
  match l, h with
  | [c0, c1, c2, c3, c4], _ => exact ⟨c0, c1, c2, c3, c4, rfl⟩
theorem atCells : Try.prog.cellsOf 35 = 5 := by kernel_rfl
theorem rwCells : Try.prog.cellsOf 59 = 3 := by kernel_rfl
theorem intCellA : Try.prog.cellsOf 3 = 1 := by kernel_rfl
theorem u32CellA : Try.prog.cellsOf 33 = 1 := by kernel_rfl
theorem boolCellA : Try.prog.cellsOf 4 = 1 := by kernel_rfl
theorem u8sCellA : Try.prog.cellsOf 22 = 1 := by kernel_rfl
theorem intsCellA : Try.prog.cellsOf 32 = 1 := by kernel_rfl

theorem row_inv {α : Type} (L : Lay α) : ∀ (l : List α) (k : Nat) (u : Value), (L.row l)[k]? = some u → ∃ (j i : Nat), i < L.k ∧ k = j * L.k + i ∧ ∃ x, l[j]? = some x ∧ (L.enc x)[i]? = some u
  | [], k, u, h => by simp [L.row_nil] at h
  | a :: l, k, u, h => by
    rw [L.row_cons] at h
    by_cases hk : k < L.k
    · rw [List.getElem?_append_left (by rw [L.len]; exact hk)] at h
      exact ⟨0, k, hk, by omega, a, rfl, h⟩
    · rw [List.getElem?_append_right (by rw [L.len]; omega), L.len] at h
      obtain ⟨j, i, hi, he, x, hx, hu⟩ := row_inv L l _ u h
      exact ⟨j + 1, i, hi, by rw [Nat.add_mul]; omega, x, by simpa using hx, hu⟩
theorem trod_bytes {H : Type} {enc : TypeId × Value → H} {W : World} {fuel : Nat} {c : Value} {x : DataW H × List MemPlace}
    (h : DataW.trod enc Try.prog W 0 (fun _ => true) true fuel 22 [c] = some x) : ∃ l, Bs W c l := by
  rcases open_ints Try.underlying22 Try.underlying5 u8one h with ⟨hc, _⟩ | ⟨a, len, cap, zs, hc, _, hle, hm, hz, _, hcell, hwz⟩
  · simp at hc
    subst hc
    exact ⟨[], Bs.nil W⟩
  · simp at hc
    subst hc
    rw [if_pos rfl] at hz
    have hr : ∀ z ∈ zs, 0 ≤ z ∧ z ≤ 255 := fun z hz2 => by simpa [Lit.wf, IntKind.min, IntKind.max, IntKind.signed, IntKind.bits] using hwz z hz2
    have hlen2 : ((zs.take len).map fun z => UInt8.ofNat z.toNat).length = len := by simp; omega
    refine ⟨(zs.take len).map fun z => UInt8.ofNat z.toNat, some a, cap, by rw [hlen2], by rw [hlen2]; exact hle, by unfold maxLen at hm; omega, by simp, fun ad had => ?_⟩
    cases had
    have hgo : ∀ j u, ((zs.take len).map fun z => UInt8.ofNat z.toNat)[j]? = some u → W.cell? (a.add j) = some (b8 u) := by
      intro j u hj
      simp only [List.getElem?_map, Option.map_eq_some_iff] at hj
      obtain ⟨z, hj, rfl⟩ := hj
      rw [List.getElem?_take] at hj
      split at hj
      · obtain ⟨hjl, rfl⟩ := List.getElem?_eq_some_iff.1 hj
        rw [hcell j hjl]
        have h2 := hr zs[j] (List.getElem_mem hjl)
        have e2 : ((UInt8.ofNat zs[j].toNat).toNat : Int) = zs[j] := by rw [UInt8.toNat_ofNat']; omega
        unfold b8
        rw [e2]
        congr 2
        simp [List.getD, List.getElem?_eq_getElem hjl]
      · cases hj
    refine ⟨fun hne => ?_, hgo⟩
    have h0 : 0 < ((zs.take len).map fun z => UInt8.ofNat z.toNat).length := List.length_pos_iff.2 hne
    have := cell_spot (hgo 0 _ (List.getElem?_eq_getElem h0))
    simpa [Addr.add] using this

theorem trod_nums {H : Type} {enc : TypeId × Value → H} {W : World} {fuel : Nat} {c : Value} {x : DataW H × List MemPlace}
    (h : DataW.trod enc Try.prog W 0 (fun _ => true) true fuel 32 [c] = some x) : ∃ l : List Int, Rs intLay W c l ∧ ∀ n, n ∈ l → -9223372036854775808 ≤ n ∧ n ≤ 9223372036854775807 := by
  rcases open_ints Try.underlying32 Try.underlying3 intCellA h with ⟨hc, _⟩ | ⟨a, len, cap, zs, hc, _, hle, hm, hz, _, hcell, hwz⟩
  · simp at hc
    subst hc
    exact ⟨[], Rs.nil _ W, fun n h => by cases h⟩
  · simp at hc
    subst hc
    rw [if_pos rfl] at hz
    have hlen2 : (zs.take len).length = len := by simp; omega
    have hrow : intLay.row (zs.take len) = (zs.take len).map fun z => Value.int .i64 z := by
      unfold Lay.row
      show (zs.take len).flatMap (fun n => [Value.int .i64 n]) = _
      induction zs.take len with
      | nil => rfl
      | cons z l ih => simp [ih]
    refine ⟨zs.take len, ⟨some a, cap, by rw [hlen2], by rw [hlen2]; exact hle, by unfold maxLen at hm; omega, by simp, fun ad had => ?_⟩, fun n hn => i64_within (hwz n (List.mem_of_mem_take hn))⟩
    cases had
    have hgo : ∀ j u, (intLay.row (zs.take len))[j]? = some u → W.cell? (a.add j) = some u := by
      intro j u hj
      rw [hrow] at hj
      simp only [List.getElem?_map, Option.map_eq_some_iff] at hj
      obtain ⟨z, hj, rfl⟩ := hj
      rw [List.getElem?_take] at hj
      split at hj
      · obtain ⟨hjl, rfl⟩ := List.getElem?_eq_some_iff.1 hj
        rw [hcell j hjl]
        congr 2
        simp [List.getD, List.getElem?_eq_getElem hjl]
      · cases hj
    refine ⟨fun hne => ?_, hgo⟩
    have h0 : 0 < (intLay.row (zs.take len)).length := by rw [hrow, List.length_map]; exact List.length_pos_iff.2 hne
    have := cell_spot (hgo 0 _ (List.getElem?_eq_getElem h0))
    simpa [Addr.add] using this

/-- its numbers are those of their kinds -/
structure AtOk (a : At) : Prop where
  origin : -9223372036854775808 ≤ a.origin ∧ a.origin ≤ 9223372036854775807
  path : ∀ n, n ∈ a.path → -9223372036854775808 ≤ n ∧ n ≤ 9223372036854775807
  hop : 0 ≤ a.hop ∧ a.hop ≤ 4294967295
  med : -9223372036854775808 ≤ a.med ∧ a.med ≤ 9223372036854775807

theorem open_at {H : Type} {enc : TypeId × Value → H} {W : World} {base : Nat} {v : Value} {d : DataW H} {p : List MemPlace}
    (hv : Value.okWide Try.prog W .any base 35 v) (h : DataW.Trod enc Try.prog W 0 (fun _ => true) true 35 v d p) :
    ∃ (a : At) (vp : Value), v = atV a vp ∧ AtOk a ∧ Rs intLay W vp a.path := by
  obtain ⟨cs, rfl, hsz⟩ := okWide_struct Try.underlying35 hv
  obtain ⟨c0, c1, c2, c3, c4, rfl⟩ := array5 (hsz.trans atCells)
  obtain ⟨fuel, hf⟩ := h
  obtain ⟨xs, n, _, hx, _, hlen, hfl⟩ := DataW.trod_struct Try.underlying35 hf
  have k0 := hfl 0 _ rfl
  have k1 := hfl 1 _ rfl
  have k2 := hfl 2 _ rfl
  have k3 := hfl 3 _ rfl
  have k4 := hfl 4 _ rfl
  match xs, hlen with
  | [y0, y1, y2, y3, y4], _ =>
    simp [Value.cells] at k0 k1 k2 k3 k4
    rw [intCellA] at k0 k3
    rw [intsCellA] at k1
    rw [u32CellA] at k2
    rw [boolCellA] at k4
    simp at k0 k1 k2 k3 k4
    obtain ⟨a0, e0, _, w0⟩ := DataW.trod_int Try.underlying3 k0
    obtain ⟨l, hl, hlr⟩ := trod_nums k1
    obtain ⟨a2, e2, _, w2⟩ := DataW.trod_int Try.underlying33 k2
    obtain ⟨a3, e3, _, w3⟩ := DataW.trod_int Try.underlying3 k3
    obtain ⟨a4, e4, _⟩ := DataW.trod_bool Try.underlying4 k4
    simp at e0 e2 e3 e4
    subst e0 e2 e3 e4
    exact ⟨⟨a0, l, a2, a3, a4⟩, c1, rfl, ⟨i64_within w0, hlr, u32_within w2, i64_within w3⟩, hl⟩

instance : Inhabited (Rw × Sl) := ⟨(⟨0, 0, []⟩, ⟨none, 0⟩)⟩
theorem open_raws {H : Type} {enc : TypeId × Value → H} {W : World} {base : Nat} {v : Value} {d : DataW H} {p : List MemPlace}
    (hv : Value.okWide Try.prog W .any base 24 v) (h : DataW.Trod enc Try.prog W 0 (fun _ => true) true 24 v d p) :
    ∃ l : List Rw, RawsW 59 W v l ∧ ∀ r, r ∈ l → (-9223372036854775808 ≤ r.flags ∧ r.flags ≤ 9223372036854775807) ∧ (-9223372036854775808 ≤ r.type ∧ r.type ≤ 9223372036854775807) := by
  obtain ⟨a0, len, cap, rfl⟩ := okWide_slice Try.underlying24 hv
  obtain ⟨fuel, hf⟩ := h
  rcases open_slice Try.underlying24 hf with ⟨hcs, hx⟩ | ⟨a, len', cap', m, n, D, Pl, hcs, hb, hl, hm, hmm, hx, hel⟩
  · simp [Value.cells] at hcs
    obtain ⟨rfl, rfl, rfl⟩ := hcs
    exact ⟨[], RawsW.nil _ W, fun r h => by cases h⟩
  · simp [Value.cells] at hcs
    obtain ⟨rfl, rfl, rfl⟩ := hcs
    rw [if_pos rfl] at hmm
    subst hmm
    have each : ∀ i, i < m → ∃ x : Rw × Sl, W.cell? (a.add (i * 3)) = some (.int .i64 x.1.flags) ∧ W.cell? (a.add (i * 3 + 1)) = some (.int .i64 x.1.type) ∧ W.cell? (a.add (i * 3 + 2)) = some (svV x.1 x.2) ∧ Bs W (svV x.1 x.2) x.1.value ∧
        (-9223372036854775808 ≤ x.1.flags ∧ x.1.flags ≤ 9223372036854775807) ∧ (-9223372036854775808 ≤ x.1.type ∧ x.1.type ≤ 9223372036854775807) := by
      intro i hi
      obtain ⟨cs', h1, h2⟩ := hel i hi
      rw [rwCells] at h1
      obtain ⟨_, hlen, hcell⟩ := World.cells?_some h1
      obtain ⟨xs, k, hk, hxy, _, hxl, hff⟩ := DataW.trod_struct Try.underlying59 h2
      have g0 := hff 0 _ rfl
      have g1 := hff 1 _ rfl
      have g2 := hff 2 _ rfl
      match xs, hxl, cs', hlen with
      | [y0, y1, y2], _, [v0, v1, v2], _ =>
        simp at g0 g1 g2
        rw [intCellA] at g0 g1
        rw [u8sCellA] at g2
        simp at g0 g1 g2
        have e0 := hcell 0 (by omega)
        have e1 := hcell 1 (by omega)
        have e2 := hcell 2 (by omega)
        rw [Go.Deep.add_add] at e0 e1 e2
        obtain ⟨b0, f0, _, w0⟩ := DataW.trod_int Try.underlying3 g0
        obtain ⟨b1, f1, _, w1⟩ := DataW.trod_int Try.underlying3 g1
        obtain ⟨l, hlb⟩ := trod_bytes g2
        simp at f0 f1
        subst f0 f1
        obtain ⟨so, sc, hv2, h3, h4, h5, h6⟩ := id hlb
        subst hv2
        exact ⟨(⟨b0, b1, l⟩, ⟨so, sc⟩), by simpa using e0, by simpa using e1, by simpa using e2, hlb, i64_within w0, i64_within w1⟩
    obtain ⟨q, hq⟩ := choose_lt each
    have hxs : ((List.range len).map q).length = len := by simp
    have hget : ∀ (j : Nat) (x : Rw × Sl), ((List.range len).map q)[j]? = some x → j < len ∧ x = q j := by
      intro j x hj
      simp only [List.getElem?_map, Option.map_eq_some_iff] at hj
      obtain ⟨i, hi, rfl⟩ := hj
      obtain ⟨hjl, he⟩ := List.getElem?_eq_some_iff.1 hi
      simp at hjl he
      exact ⟨hjl, by rw [he]⟩
    refine ⟨((List.range len).map q).map (·.1), ⟨(List.range len).map q, rfl, ⟨some a, m, by rw [hxs], by rw [hxs]; exact hl, by unfold maxLen at hm; omega, by simp, fun ad had => ?_⟩, fun x hx => ?_⟩, fun r hr => ?_⟩
    · cases had
      have hsp : len ≠ 0 → a.spot = none := fun h0 => by
        have := cell_spot (hq 0 (by omega)).1
        simpa [Addr.add] using this
      refine ⟨fun hne => hsp (fun h0 => hne (List.eq_nil_of_length_eq_zero (by rw [hxs, h0]))), fun k u hu => ?_⟩
      obtain ⟨j, i, hi, hk, x, hj, hui⟩ := row_inv (rawLay 59) _ k u hu
      obtain ⟨hjl, rfl⟩ := hget j x hj
      obtain ⟨z0, z1, z2, -⟩ := hq j (by omega)
      have hi3 : i < 3 := hi
      rw [hk]
      match i, hi3 with
      | 0, _ => rw [← Option.some.inj hui]; exact z0
      | 1, _ => rw [← Option.some.inj hui]; exact z1
      | 2, _ => rw [← Option.some.inj hui]; exact z2
    · obtain ⟨i, hi, rfl⟩ := List.mem_map.1 hx
      exact (hq i (by have := List.mem_range.1 hi; omega)).2.2.2.1
    · obtain ⟨x, hx, rfl⟩ := List.mem_map.1 hr
      obtain ⟨i, hi, rfl⟩ := List.mem_map.1 hx
      exact (hq i (by have := List.mem_range.1 hi; omega)).2.2.2.2
end Go.Proofs.Ytfhaaenmllkbnaa
