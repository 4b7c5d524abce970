/- Arguments opened: bytes, numbers of 32 bits. No condition. -/
import Derived.Test.YtphhnjfkniahdaaLaw
import Derived.Test.YtphhnjfkniahdaaBase
namespace Go.Proofs.Ytphhnjfkniahdaa
open Go.ChangeShapes Go.WideShapes Go.ChangeAt Go.RowKit
set_option linter.unusedVariables false

theorem u8cells : Try.prog.cellsOf 5 = 1 := by kernel_rfl

theorem spot_of_cell {w : World} {a : Addr} {v : Value} (h : w.cell? a = some v) : a.spot = none := by
  unfold World.cell? at h
  split at h
  · split at h
    · cases h
    · rename_i hs; simpa using hs
  · cases h

theorem add_spot_inv {a : Addr} {n : Nat} (h : (a.add n).spot = none) (h0 : n = 0) : a.spot = none := by
  subst h0; simpa [Addr.add] using h

/-- a slice of bytes that came in reads as bytes -/
theorem open_bytes {H : Type} {enc : TypeId × Value → H} {W : World} {base : Nat} {v : Value} {d : DataW H} {p : List MemPlace}
    (hv : Value.okWide Try.prog W .any base 22 v) (h : DataW.Trod enc Try.prog W 0 (fun _ => true) true 22 v d p) : ∃ l, Bs W v l := by
  obtain ⟨a0, len, cap, rfl⟩ := okWide_slice Try.underlying22 hv
  obtain ⟨fuel, hf⟩ := h
  rcases open_ints Try.underlying22 Try.underlying5 u8cells hf with ⟨hcs, hx⟩ | ⟨a, len', cap', zs, hcs, _, hl, hm, hz, hx, hcell, hwz⟩
  · simp [Value.cells] at hcs
    obtain ⟨rfl, rfl, rfl⟩ := hcs
    exact ⟨[], Bs.nil W⟩
  · simp [Value.cells] at hcs
    obtain ⟨rfl, rfl, rfl⟩ := hcs
    rw [if_pos rfl] at hz
    refine ⟨(zs.take len).map fun z => UInt8.ofNat z.toNat, some a, cap, ?_, ?_, by unfold maxLen at hm; omega, by simp, fun ad had => ?_⟩
    · simp; omega
    · simp; omega
    · cases had
      refine ⟨fun hne => ?_, fun j u hu => ?_⟩
      · have h0 : 0 < zs.length := by
          rcases Nat.eq_zero_or_pos zs.length with h | h
          · exact absurd (by simp [List.eq_nil_of_length_eq_zero h]) hne
          · exact h
        exact add_spot_inv (spot_of_cell (hcell 0 h0)) rfl
      · simp only [List.getElem?_map, Option.map_eq_some_iff] at hu
        obtain ⟨z, hz1, rfl⟩ := hu
        rw [List.getElem?_take] at hz1
        split at hz1
        · obtain ⟨hj, rfl⟩ := List.getElem?_eq_some_iff.1 hz1
          rw [hcell j hj]
          have hw := hwz zs[j] (List.getElem_mem hj)
          have hr : 0 ≤ zs[j] ∧ zs[j] ≤ 255 := by simpa [Lit.wf, IntKind.min, IntKind.max, IntKind.signed, IntKind.bits] using hw
          have e : zs.getD j 0 = zs[j] := by simp [List.getD, List.getElem?_eq_getElem hj]
          rw [e]
          have e2 : ((UInt8.ofNat zs[j].toNat).toNat : Int) = zs[j] := by rw [UInt8.toNat_ofNat']; omega
          unfold b8
          rw [e2]
        · cases hz1

theorem u32cells : Try.prog.cellsOf 29 = 1 := by kernel_rfl

/-- a slice of numbers of 32 bits that came in -/
theorem open_u32s {H : Type} {enc : TypeId × Value → H} {W : World} {base : Nat} {v : Value} {d : DataW H} {p : List MemPlace}
    (hv : Value.okWide Try.prog W .any base 50 v) (h : DataW.Trod enc Try.prog W 0 (fun _ => true) true 50 v d p) :
    ∃ (ao : Option Addr) (cap : Nat) (zs : List Int), v = .slice ao zs.length cap ∧ (∀ ad, ao = some ad → ∀ j, j < zs.length → W.cell? (ad.add j) = some (.int .u32 (zs.getD j 0))) ∧ (ao = none → zs.length = 0) ∧ ∀ j, 0 ≤ zs.getD j 0 ∧ zs.getD j 0 ≤ 4294967295 := by
  obtain ⟨a0, len, cap, rfl⟩ := okWide_slice Try.underlying50 hv
  obtain ⟨fuel, hf⟩ := h
  rcases open_ints Try.underlying50 Try.underlying29 u32cells hf with ⟨hcs, hx⟩ | ⟨a, len', cap', zs, hcs, _, hl, hm, hz, hx, hcell, hwz⟩
  · simp [Value.cells] at hcs
    obtain ⟨rfl, rfl, rfl⟩ := hcs
    exact ⟨none, 0, [], rfl, ⟨(fun _ h => by cases h), (fun _ => rfl), (fun j => by simp)⟩⟩
  · simp [Value.cells] at hcs
    obtain ⟨rfl, rfl, rfl⟩ := hcs
    rw [if_pos rfl] at hz
    have hlen : (zs.take len).length = len := by simp; omega
    refine ⟨some a, cap, zs.take len, by rw [hlen], fun ad had j hj => ?_, by simp, fun j => ?_⟩
    · cases had
      rw [hlen] at hj
      rw [hcell j (by omega)]
      congr 2
      simp [List.getD, hj]
    · by_cases hj : j < len
      · have hj2 : j < zs.length := by omega
        have e : (zs.take len).getD j 0 = zs[j] := by simp [List.getD, hj, List.getElem?_eq_getElem hj2]
        rw [e]
        have hw := hwz zs[j] (List.getElem_mem hj2)
        simpa [Lit.wf, IntKind.min, IntKind.max, IntKind.signed, IntKind.bits] using hw
      · have e : (zs.take len).getD j 0 = 0 := by simp [List.getD, List.getElem?_take, hj]
        rw [e]; omega
end Go.Proofs.Ytphhnjfkniahdaa
