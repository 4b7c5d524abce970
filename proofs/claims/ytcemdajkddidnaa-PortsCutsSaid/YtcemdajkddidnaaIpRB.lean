/- Contracts of the document's own answers for layer 4: a head's bytes, Build. No condition beyond what each names. -/
import Derived.Test.YtcemdajkddidnaaIpRA
import Derived.Test.YtcemdajkddidnaaRefP
namespace Go.Proofs.Ytcemdajkddidnaa
open Go.RowKit
set_option linter.unusedVariables false

/-- the cells of a boxed header -/
def HdAt (w : World) (B : Nat) (h : Hd) (vo : Value) : Prop :=
  w.cell? ⟨B, 0, none⟩ = some (.int .i64 h.tos) ∧ w.cell? ⟨B, 1, none⟩ = some (.int .i64 h.id) ∧ w.cell? ⟨B, 2, none⟩ = some (.int .i64 h.flags) ∧ w.cell? ⟨B, 3, none⟩ = some (.int .i64 h.frag) ∧
  w.cell? ⟨B, 4, none⟩ = some (.int .i64 h.ttl) ∧ w.cell? ⟨B, 5, none⟩ = some (.int .i64 h.proto) ∧ w.cell? ⟨B, 6, none⟩ = some (.int .u32 h.src) ∧ w.cell? ⟨B, 7, none⟩ = some (.int .u32 h.dst) ∧ w.cell? ⟨B, 8, none⟩ = some vo
theorem HdAt.of {w : World} {B : Nat} {t : TypeId} {h : Hd} {vo : Value} (hk : w.heap[B]? = some (hdO t h vo)) : HdAt w B h vo := by
  refine ⟨?_, ?_, ?_, ?_, ?_, ?_, ?_, ?_, ?_⟩ <;> simp [World.cell?, hk]
theorem hd_box (t : TypeId) (h : Hd) (vo : Value) (w w' : World) (hs : Same (w.alloc (hdO t h vo)) w') : HdAt w' w.heap.size h vo := HdAt.of (hs.block (heap_alloc_new w _))
theorem HdAt.same {w w' : World} {B : Nat} {h : Hd} {vo : Value} (hs : Same w w') (hk : HdAt w B h vo) : HdAt w' B h vo := by
  obtain ⟨k0, k1, k2, k3, k4, k5, k6, k7, k8⟩ := hk
  have f : ∀ {j v}, w.cell? ⟨B, j, none⟩ = some v → w'.cell? ⟨B, j, none⟩ = some v := fun {j v} hc => by rw [Below.cell hs (World.block_lt_of_cell? w _ hc)]; exact hc
  exact ⟨f k0, f k1, f k2, f k3, f k4, f k5, f k6, f k7, f k8⟩

theorem u64_id {n : Int} (h0 : 0 ≤ n) (h1 : n ≤ 18446744073709551615) : IntKind.u64.wrap n = n := by rw [IntKind.wrap_u64]; omega
theorem Bs.two (w : World) (a b : UInt8) : Bs (w.alloc (.cells #[b8 a, b8 b] 5)) (.slice (some ⟨w.heap.size, 0, none⟩) 2 2) [a, b] := by simpa using Bs.made w [a, b] 5 (by simp)
theorem OwnB.two (w : World) (a b : UInt8) : OwnB (w.alloc (.cells #[b8 a, b8 b] 5)) w.heap.size (.slice (some ⟨w.heap.size, 0, none⟩) 2 2) [a, b] := by
  have := World.ownsRow_lit (base := w.heap.size) (e := 5) (size := 1) w #[b8 a, b8 b] 2 (Nat.le_refl _) (by unfold maxLen; omega) (by simp)
  simpa [OwnB] using this
theorem u8v {n : Int} (h0 : 0 ≤ n) (h1 : n ≤ 255) : b8 (byteAt n 0) = .int .u8 n := by rw [b8_byteAt]; congr 1; omega
end Go.Proofs.Ytcemdajkddidnaa
