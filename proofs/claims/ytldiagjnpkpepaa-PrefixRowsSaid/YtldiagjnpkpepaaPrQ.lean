/- sort.Slice as Sort calls it. No condition beyond what it names. -/
import Derived.Test.YtldiagjnpkpepaaProg
import Derived.Test.YtldiagjnpkpepaaPrL
import Derived.Test.YtldiagjnpkpepaaSoS
import Derived.Ground.GgsProg
import Derived.Shelf.Lay
namespace Go.Proofs
open Go.Shelf
shelf_lay LaysGg.n6 Ggs 6 at Try as Try.laySortSlice
end Go.Proofs
namespace Go.Proofs.Ytldiagjnpkpepaa
open Go.RowKit Go.Sort Go.Lib
set_option linter.unusedVariables false
set_option maxRecDepth 100000

theorem lessM (blk off c Bs : Nat) (d : Array (Int × Int)) (w : World) (hs : w.cell? ⟨Bs, 0, none⟩ = some (.slice (some ⟨blk, off, none⟩) d.size c)) (hB : Bs < w.heap.size) (hne : Bs ≠ blk) (hb : blk < w.heap.size) (hH : HoldsK encP 2 w blk off d) :
    LessM Try.prog 32 #[.pointer (some ⟨Bs, 0, none⟩)] encP 2 ltP blk off d.size w := fun W dk h2 hW i j hi hj =>
  less_any blk off c Bs d.size W dk ((swk_cell hW ⟨Bs, 0, none⟩ hne hB).trans hs) (Nat.lt_of_lt_of_le hB hW.le) (hW.lt hb) (hW.holds hb hH h2) h2 i j hi hj

noncomputable def svT : TypeInfo := (Try.prog.info? 22).get (by kernel_rfl)
noncomputable def svE : TypeInfo := (Try.prog.info? 58).get (by kernel_rfl)
theorem svK (n : Nat) (h2 : 2 ≤ n) : Lib.swapperK n svE 25 = 9 := by
  have a : svE.hasPointers = false := by kernel_rfl
  have b : svE.bytes = 16 := by kernel_rfl
  have c : (n == 0) = false := by simp; omega
  have d : (n == 1) = false := by simp; omega
  simp [Lib.swapperK, a, b, c, d]

theorem sortSlice_any (blk off c Bs : Nat) (d : Array (Int × Int)) (h2 : 2 ≤ d.size) (hsz : d.size < 4611686018427387904) (w : World) (hs : w.cell? ⟨Bs, 0, none⟩ = some (.slice (some ⟨blk, off, none⟩) d.size c)) (hB : Bs < w.heap.size) (hne : Bs ≠ blk) (hb : blk < w.heap.size) (hH : HoldsK encP 2 w blk off d) :
    Calls Try.prog 31 #[.iface 22 (.slice (some ⟨blk, off, none⟩) d.size c), .func (.func 32) #[] #[.pointer (some ⟨Bs, 0, none⟩)]] w fun e w' =>
      e = .returned (.tuple #[]) ∧ ∃ d', PermIn 0 d.size d d' ∧ SortedIn ltP 0 d.size d' ∧ SWD encP 2 w blk off d' w' := by
  have h := sliceM Try.laySortSlice 22 58 svT svE (by kernel_rfl) (by kernel_rfl) (by kernel_rfl) (by kernel_rfl) 25 (fun _ => by kernel_rfl) encP 2 (fun _ => rfl) (by kernel_rfl) (fun _ => by kernel_rfl)
    (fun x v hv => by simp [encP] at hv; rcases hv with rfl | rfl <;> rfl) ltP swo_ltP 32 _
    (enters_of Try.func32 (by kernel_rfl) rfl) blk off c d h2 hsz 100 (by rw [svK _ h2]; kernel_rfl) false
    (fun args W => run_callFunc_extern Try.func100 (by kernel_rfl) (by kernel_rfl) (by kernel_rfl) (e := Extern.ReflectliteSwapper.swap false) (by kernel_rfl) args W) w (lessM blk off c Bs d w hs hB hne hb hH) hH hb
  exact h
end Go.Proofs.Ytldiagjnpkpepaa
