/- sort.Slice and slices.Compact of a row of prefixes, at any length: the document's row comes of it. No condition beyond what it names. -/
import Derived.Test.YtldiagjnpkpepaaPrQ
import Derived.Test.YtldiagjnpkpepaaPrC
import Derived.Test.YtldiagjnpkpepaaPrM
import Derived.Shelf.GgSortFunc.Tiny
namespace Go.Proofs.Ytldiagjnpkpepaa
open Go.RowKit Go.Sort Go.Lib
set_option linter.unusedVariables false
set_option maxRecDepth 100000

theorem grow_same (w : World) (os : Array Obj) : Same w (grow w os) :=
  ⟨rfl, rfl, rfl, by simp, fun k hk => heap_grow_old w os hk⟩
theorem swd_mod {α : Type} [Inhabited α] {enc : α → List Value} {k : Nat} {w0 W : World} {blk off : Nat} {dk : Array α} (h : SWD enc k w0 blk off dk W) : Mod blk w0 W := by
  obtain ⟨u, n, os, rfl⟩ := h
  refine ⟨rfl, rfl, rfl, by rw [sortWorldK, size_grow, size_putRowK]; exact Nat.le_add_right _ _, fun i hi hne => ?_⟩
  unfold sortWorldK
  rw [heap_grow_old _ _ (by rw [size_putRowK]; exact hi)]
  simp [putRowK, putRow, mapBlock, Sort.ahead, Array.getElem?_modify, Ne.symm hne]

theorem RowP.holds {w : World} {g o : Nat} {l : List (Int × Int)} (h : RowP w g o l) : HoldsK encP 2 w g o l.toArray := by
  intro j hj
  rw [size_flatK] at hj
  rw [get_flatK _ _ _ _ hj]
  simp only [List.size_toArray] at hj
  have hi : j / 2 < l.length := by omega
  obtain ⟨c0, c1⟩ := h.cells (j / 2) l[j / 2] (by simp [hi])
  obtain ⟨f0, f1⟩ := h.frz (j / 2) hi
  have e : l.toArray[j / 2]! = l[j / 2] := by
    rw [getElem!_pos l.toArray (j / 2) (by simpa using hi)]; simp
  rw [e]
  rcases (show j % 2 = 0 ∨ j % 2 = 1 by omega) with m | m
  · rw [m, show o + j = o + j / 2 * 2 from by omega]
    exact ⟨by rw [c0]; rfl, f0⟩
  · rw [m, show o + j = o + j / 2 * 2 + 1 from by omega]
    exact ⟨by rw [c1]; rfl, f1⟩
theorem RowP.of_holds {w : World} {g o : Nat} {d : Array (Int × Int)} (h : HoldsK encP 2 w g o d) : RowP w g o d.toList := by
  constructor
  · intro j p hj
    obtain ⟨hj1, hj2⟩ := List.getElem?_eq_some_iff.1 hj
    have hj3 : j < d.size := by simpa using hj1
    have e : d[j]! = p := by
      rw [getElem!_pos d j hj3, ← hj2]; simp
    have a0 := (h.cell (i := j) (c := 0) hj3 (by omega)).1
    have a1 := (h.cell (i := j) (c := 1) hj3 (by omega)).1
    rw [e] at a0 a1
    exact ⟨by simpa [encP] using a0, by simpa [encP] using a1⟩
  · intro j hj
    have hj3 : j < d.size := by simpa using hj
    have a0 := (h.cell (i := j) (c := 0) hj3 (by omega)).2
    have a1 := (h.cell (i := j) (c := 1) hj3 (by omega)).2
    exact ⟨by simpa using a0, a1⟩

theorem cmpT_rowP_tiny : ∀ l : List (Int × Int), l.length ≤ 1 → cmpT l l.length = rowP l
  | [], _ => rfl
  | [x], _ => rfl

theorem tiny_any (p : Option Addr) (n c : Nat) (h1 : n ≤ 1) (lb : Array Value) (w : World) :
    Calls Try.prog 31 #[.iface 22 (.slice p n c), .func (.func 32) #[] lb] w fun e w' => e = .returned (.tuple #[]) ∧ Same w w' := by
  rcases (show n = 0 ∨ n = 1 by omega) with rfl | rfl
  · refine (Any.sort_Slice_tiny Try.laySortSlice 22 58 svT svE (by kernel_rfl) (by kernel_rfl) (by kernel_rfl) (by kernel_rfl) 25 (fun _ => by kernel_rfl) p 0 c h1 92 (by kernel_rfl) _ _ _ w).mono ?_
    rintro e w' ⟨rfl, os, rfl⟩
    exact ⟨rfl, grow_same w os⟩
  · refine (Any.sort_Slice_tiny Try.laySortSlice 22 58 svT svE (by kernel_rfl) (by kernel_rfl) (by kernel_rfl) (by kernel_rfl) 25 (fun _ => by kernel_rfl) p 1 c h1 93 (by kernel_rfl) _ _ _ w).mono ?_
    rintro e w' ⟨rfl, os, rfl⟩
    exact ⟨rfl, grow_same w os⟩

theorem slice_any (g cap Bx : Nat) (l : List (Int × Int)) (w : World) (hs : w.cell? ⟨Bx, 0, none⟩ = some (.slice (some ⟨g, 0, none⟩) l.length cap)) (hB : Bx < w.heap.size) (hne : Bx ≠ g) (hg : g < w.heap.size) (hR : RowP w g 0 l) (hmax : l.length ≤ 1000000) :
    Calls Try.prog 31 #[.iface 22 (.slice (some ⟨g, 0, none⟩) l.length cap), .func (.func 32) #[] #[.pointer (some ⟨Bx, 0, none⟩)]] w fun e w' =>
      e = .returned (.tuple #[]) ∧ ∃ l' : List (Int × Int), l'.length = l.length ∧ cmpT l' l'.length = rowP l ∧ RowP w' g 0 l' ∧ Mod g w w' := by
  by_cases h1 : l.length ≤ 1
  · refine (tiny_any _ _ _ h1 _ w).mono ?_
    rintro e w' ⟨rfl, hS⟩
    exact ⟨rfl, l, rfl, cmpT_rowP_tiny l h1, hR.same hS, Mod.of_same hS⟩
  · have h := sortSlice_any g 0 cap Bx l.toArray (by simp; omega) (by simp; omega) w (by simpa using hs) hB hne hg hR.holds
    simp only [List.size_toArray] at h
    refine h.mono ?_
    rintro e w' ⟨rfl, d', hp, hso, hW⟩
    have hsz : d'.size = l.length := by simpa using hp.1
    refine ⟨rfl, d'.toList, by simpa using hsz, ?_, RowP.of_holds (hW.holds hg hR.holds (by simpa using hsz)), swd_mod hW⟩
    have := cmpT_rowP l.toArray d' (by simpa using hp) (by simpa using hso)
    simpa using this
end Go.Proofs.Ytldiagjnpkpepaa
