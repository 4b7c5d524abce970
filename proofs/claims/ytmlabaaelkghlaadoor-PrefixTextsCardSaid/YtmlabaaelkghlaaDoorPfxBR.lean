/- A prefix in bytes, by the document. No condition. -/
import Derived.Test.YtmlabaaelkghlaaDoorPfxB
import Derived.Test.YtmlabaaelkghlaaDoorPfxN
import Derived.LoopTactic
namespace Go.Proofs.YtmlabaaelkghlaaDoor
open Go.RowKit
set_option linter.unusedVariables false
set_option maxRecDepth 100000

theorem OwnB.one (w : World) (u : UInt8) : OwnB (w.alloc (.cells #[b8 u] 5)) w.heap.size (.slice (some ⟨w.heap.size, 0, none⟩) 1 1) [u] := by
  have := World.ownsRow_lit (base := w.heap.size) (e := 5) (size := 1) w #[b8 u] 1 (Nat.le_refl _) (by unfold maxLen; omega) (by simp)
  simpa [OwnB] using this

theorem shr_byte (c : Int) (h0 : 0 ≤ c) (h1 : c < 4294967296) (k : Nat) (hk : k < 4) : ((byteAt c (3 - k)).toNat : Int) = c / 2 ^ (24 - 8 * k) % 256 := by
  rw [byteAt_int]
  have h : ∀ j : Fin 4, (256 : Int) ^ (3 - j.val) = 2 ^ (24 - 8 * j.val) := by decide
  rw [h ⟨k, hk⟩]

end Go.Proofs.YtmlabaaelkghlaaDoor
