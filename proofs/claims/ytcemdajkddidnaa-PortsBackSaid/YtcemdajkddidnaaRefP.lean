/- Contract of the document's own Put of layer 1. No condition beyond what each names. -/
import Derived.Test.YtcemdajkddidnaaMem
import Derived.LoopN
namespace Go.Proofs.Ytcemdajkddidnaa
open Go.RowKit
set_option linter.unusedVariables false

theorem Bs.one0 (w : World) (n : Int) : Bs (w.alloc (.cells #[.int .u8 (n % 256)] 5)) (.slice (some ⟨w.heap.size, 0, none⟩) 1 1) [byteAt n 0] := by
  simpa [b8_byteAt] using Bs.made w [byteAt n 0] 5 (by simp)

theorem Bs.one1 (w : World) (n : Int) : Bs (w.alloc (.cells #[.int .u8 (n / 256 % 256)] 5)) (.slice (some ⟨w.heap.size, 0, none⟩) 1 1) [byteAt n 1] := by
  simpa [b8_byteAt] using Bs.made w [byteAt n 1] 5 (by simp)

theorem Bs.one2 (w : World) (n : Int) : Bs (w.alloc (.cells #[.int .u8 (n / 65536 % 256)] 5)) (.slice (some ⟨w.heap.size, 0, none⟩) 1 1) [byteAt n 2] := by
  simpa [b8_byteAt] using Bs.made w [byteAt n 2] 5 (by simp)

theorem Bs.one3 (w : World) (n : Int) : Bs (w.alloc (.cells #[.int .u8 (n / 16777216 % 256)] 5)) (.slice (some ⟨w.heap.size, 0, none⟩) 1 1) [byteAt n 3] := by
  simpa [b8_byteAt] using Bs.made w [byteAt n 3] 5 (by simp)

end Go.Proofs.Ytcemdajkddidnaa
