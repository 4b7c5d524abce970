/- Arguments opened for layer 7: what is said of a path, a row of attributes. No condition. -/
import Derived.Test.YtidijoncngfppaaOpenG
import Derived.Test.YtidijoncngfppaaAtM
import Derived.Deep.SlicePairs
set_option maxRecDepth 100000
namespace Go.Proofs.Ytidijoncngfppaa
open Go.ChangeShapes Go.WideShapes Go.ChangeAt Go.RowKit Go.Joins Go.Deep
set_option linter.unusedVariables false

theorem array5 {α : Type} {cs : Array α} (h : cs.size = 5) : ∃ c0 c1 c2 c3 c4, cs = #[c0, c1, c2, c3, c4] := by
  obtain ⟨l⟩ := cs
  match l, h with
  | [c0, c1, c2, c3, c4], _ => exact ⟨c0, c1, c2, c3, c4, rfl⟩
theorem intCellA : Try.prog.cellsOf 3 = 1 := by kernel_rfl
theorem u32CellA : Try.prog.cellsOf 22 = 1 := by kernel_rfl
theorem boolCellA : Try.prog.cellsOf 4 = 1 := by kernel_rfl
theorem u8sCellA : Try.prog.cellsOf 28 = 1 := by kernel_rfl
theorem row_inv {α : Type} (L : Lay α) : ∀ (l : List α) (k : Nat) (u : Value), (L.row l)[k]? = some u → ∃ (j i : Nat), i < L.k ∧ k = j * L.k + i ∧ ∃ x, l[j]? = some x ∧ (L.enc x)[i]? = some u
  | [], k, u, h => by simp [L.row_nil] at h
  | a :: l, k, u, h => by
    rw [L.row_cons] at h
    by_cases hk : k < L.k
    · rw [List.getElem?_append_left (by rw [L.len]; exact hk)] at h
      exact ⟨0, k, hk, by omega, a, rfl, h⟩
    · rw [List.getElem?_append_right (by rw [L.len]; omega), L.len] at h
      obtain ⟨j, i, hi, he, x, hx, hu⟩ := row_inv L l _ u h
      exact ⟨j + 1, i, hi, by rw [Nat.add_mul]; omega, x, by simpa using hx, hu⟩
theorem trod_bytes {H : Type} {enc : TypeId × Value → H} {W : World} {fuel : Nat} {c : Value} {x : DataW H × List MemPlace}
    (h : DataW.trod enc Try.prog W 0 (fun _ => true) true fuel 28 [c] = some x) : ∃ l, Bs W c l := by
  rcases open_ints Try.underlying28 Try.underlying5 u8one h with ⟨hc, _⟩ | ⟨a, len, cap, zs, hc, _, hle, hm, hz, _, hcell, hwz⟩
  · simp at hc
    subst hc
    exact ⟨[], Bs.nil W⟩
  · simp at hc
    subst hc
    rw [if_pos rfl] at hz
    have hr : ∀ z ∈ zs, 0 ≤ z ∧ z ≤ 255 := fun z hz2 => by simpa [Lit.wf, IntKind.min, IntKind.max, IntKind.signed, IntKind.bits] using hwz z hz2
    have hlen2 : ((zs.take len).map fun z => UInt8.ofNat z.toNat).length = len := by simp; omega
    refine ⟨(zs.take len).map fun z => UInt8.ofNat z.toNat, some a, cap, by rw [hlen2], by rw [hlen2]; exact hle, by unfold maxLen at hm; omega, by simp, fun ad had => ?_⟩
    cases had
    have hgo : ∀ j u, ((zs.take len).map fun z => UInt8.ofNat z.toNat)[j]? = some u → W.cell? (a.add j) = some (b8 u) := by
      intro j u hj
      simp only [List.getElem?_map, Option.map_eq_some_iff] at hj
      obtain ⟨z, hj, rfl⟩ := hj
      rw [List.getElem?_take] at hj
      split at hj
      · obtain ⟨hjl, rfl⟩ := List.getElem?_eq_some_iff.1 hj
        rw [hcell j hjl]
        have h2 := hr zs[j] (List.getElem_mem hjl)
        have e2 : ((UInt8.ofNat zs[j].toNat).toNat : Int) = zs[j] := by rw [UInt8.toNat_ofNat']; omega
        unfold b8
        rw [e2]
        congr 2
        simp [List.getD, List.getElem?_eq_getElem hjl]
      · cases hj
    refine ⟨fun hne => ?_, hgo⟩
    have h0 : 0 < ((zs.take len).map fun z => UInt8.ofNat z.toNat).length := List.length_pos_iff.2 hne
    have := cell_spot (hgo 0 _ (List.getElem?_eq_getElem h0))
    simpa [Addr.add] using this

/-- its numbers are those of their kinds -/
structure AtOk (a : At) : Prop where
  origin : -9223372036854775808 ≤ a.origin ∧ a.origin ≤ 9223372036854775807
  path : ∀ n, n ∈ a.path → -9223372036854775808 ≤ n ∧ n ≤ 9223372036854775807
  hop : 0 ≤ a.hop ∧ a.hop ≤ 4294967295
  med : -9223372036854775808 ≤ a.med ∧ a.med ≤ 9223372036854775807

instance : Inhabited (Rw × Sl) := ⟨(⟨0, 0, []⟩, ⟨none, 0⟩)⟩
end Go.Proofs.Ytidijoncngfppaa
