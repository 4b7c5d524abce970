/- A header that came in, opened. No condition. -/
import Derived.Test.YteoleblnhcnpkaaOpenG
import Derived.Test.YteoleblnhcnpkaaIpRA
set_option maxRecDepth 100000
namespace Go.Proofs.Yteoleblnhcnpkaa
open Go.ChangeShapes Go.WideShapes Go.ChangeAt Go.RowKit Go.Joins
set_option linter.unusedVariables false

theorem array9 {α : Type} {cs : Array α} (h : cs.size = 9) : ∃ c0 c1 c2 c3 c4 c5 c6 c7 c8, cs = #[c0, c1, c2, c3, c4, c5, c6, c7, c8] := by
  obtain ⟨l⟩ := cs
  match l, h with
  | [c0, c1, c2, c3, c4, c5, c6, c7, c8], _ => exact ⟨c0, c1, c2, c3, c4, c5, c6, c7, c8, rfl⟩
theorem hdCells : Try.prog.cellsOf 31 = 9 := by kernel_rfl
theorem intCell : Try.prog.cellsOf 3 = 1 := by kernel_rfl
theorem u32Cell : Try.prog.cellsOf 23 = 1 := by kernel_rfl
theorem u8sCell : Try.prog.cellsOf 22 = 1 := by kernel_rfl

theorem open_hd {H : Type} {enc : TypeId × Value → H} {W : World} {base : Nat} {v : Value} {d : DataW H} {p : List MemPlace}
    (hv : Value.okWide Try.prog W .any base 31 v) (h : DataW.Trod enc Try.prog W 0 (fun _ => true) true 31 v d p) :
    ∃ (h : Hd) (vo : Value), v = hdV h vo ∧ HdOk h ∧ Bs W vo h.opts := by
  obtain ⟨cs, rfl, hsz⟩ := okWide_struct Try.underlying31 hv
  obtain ⟨c0, c1, c2, c3, c4, c5, c6, c7, c8, rfl⟩ := array9 (hsz.trans hdCells)
  obtain ⟨fuel, hf⟩ := h
  obtain ⟨xs, n, _, hx, _, hlen, hfl⟩ := DataW.trod_struct Try.underlying31 hf
  have k0 := hfl 0 _ rfl
  have k1 := hfl 1 _ rfl
  have k2 := hfl 2 _ rfl
  have k3 := hfl 3 _ rfl
  have k4 := hfl 4 _ rfl
  have k5 := hfl 5 _ rfl
  have k6 := hfl 6 _ rfl
  have k7 := hfl 7 _ rfl
  have k8 := hfl 8 _ rfl
  match xs, hlen with
  | [y0, y1, y2, y3, y4, y5, y6, y7, y8], _ =>
    simp [Value.cells] at k0 k1 k2 k3 k4 k5 k6 k7 k8
    rw [intCell] at k0 k1 k2 k3 k4 k5
    rw [u32Cell] at k6 k7
    rw [u8sCell] at k8
    simp at k0 k1 k2 k3 k4 k5 k6 k7 k8
    obtain ⟨a0, e0, _, w0⟩ := DataW.trod_int Try.underlying3 k0
    obtain ⟨a1, e1, _, w1⟩ := DataW.trod_int Try.underlying3 k1
    obtain ⟨a2, e2, _, w2⟩ := DataW.trod_int Try.underlying3 k2
    obtain ⟨a3, e3, _, w3⟩ := DataW.trod_int Try.underlying3 k3
    obtain ⟨a4, e4, _, w4⟩ := DataW.trod_int Try.underlying3 k4
    obtain ⟨a5, e5, _, w5⟩ := DataW.trod_int Try.underlying3 k5
    obtain ⟨a6, e6, _, w6⟩ := DataW.trod_int Try.underlying23 k6
    obtain ⟨a7, e7, _, w7⟩ := DataW.trod_int Try.underlying23 k7
    simp at e0 e1 e2 e3 e4 e5 e6 e7
    subst e0 e1 e2 e3 e4 e5 e6 e7
    have hB : ∃ l, Bs W c8 l := by
      rcases open_ints Try.underlying22 Try.underlying5 u8one k8 with ⟨hc, _⟩ | ⟨a, len, cap, zs, hc, _, hle, hm, hz, _, hcell, hwz⟩
      · simp at hc
        subst hc
        exact ⟨[], Bs.nil W⟩
      · simp at hc
        subst hc
        rw [if_pos rfl] at hz
        have hr : ∀ z ∈ zs, 0 ≤ z ∧ z ≤ 255 := fun z hz2 => by simpa [Lit.wf, IntKind.min, IntKind.max, IntKind.signed, IntKind.bits] using hwz z hz2
        have hlen2 : ((zs.take len).map fun z => UInt8.ofNat z.toNat).length = len := by simp; omega
        refine ⟨(zs.take len).map fun z => UInt8.ofNat z.toNat, some a, cap, by rw [hlen2], by rw [hlen2]; exact hle, by unfold maxLen at hm; omega, by simp, fun ad had => ?_⟩
        cases had
        have hgo : ∀ j u, ((zs.take len).map fun z => UInt8.ofNat z.toNat)[j]? = some u → W.cell? (a.add j) = some (b8 u) := by
          intro j u hj
          simp only [List.getElem?_map, Option.map_eq_some_iff] at hj
          obtain ⟨z, hj, rfl⟩ := hj
          rw [List.getElem?_take] at hj
          split at hj
          · obtain ⟨hjl, rfl⟩ := List.getElem?_eq_some_iff.1 hj
            rw [hcell j hjl]
            have h2 := hr zs[j] (List.getElem_mem hjl)
            have e2 : ((UInt8.ofNat zs[j].toNat).toNat : Int) = zs[j] := by rw [UInt8.toNat_ofNat']; omega
            unfold b8
            rw [e2]
            congr 2
            simp [List.getD, List.getElem?_eq_getElem hjl]
          · cases hj
        refine ⟨fun hne => ?_, hgo⟩
        have h0 : 0 < ((zs.take len).map fun z => UInt8.ofNat z.toNat).length := List.length_pos_iff.2 hne
        have := cell_spot (hgo 0 _ (List.getElem?_eq_getElem h0))
        simpa [Addr.add] using this
    obtain ⟨l, hl⟩ := hB
    exact ⟨⟨a0, a1, a2, a3, a4, a5, a6, a7, l⟩, c8, rfl, ⟨i64_within w0, i64_within w1, i64_within w2, i64_within w3, i64_within w4, i64_within w5, u32_within w6, u32_within w7⟩, hl⟩
end Go.Proofs.Yteoleblnhcnpkaa
