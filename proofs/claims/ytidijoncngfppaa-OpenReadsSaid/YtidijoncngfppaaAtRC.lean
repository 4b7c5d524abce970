/- Contracts for layer 7: the law's plain and light, the document's Join. No condition beyond what each names. -/
import Derived.Test.YtidijoncngfppaaAtRA
import Derived.Test.YtidijoncngfppaaReg
namespace Go.Proofs.Ytidijoncngfppaa
open Go.RowKit
set_option linter.unusedVariables false

/-- a row's attributes one by one, with where they lie -/
theorem RawsW.one {e : TypeId} {w : World} {v : Value} {l : List Rw} (h : RawsW e w v l) : ∃ xs : List (Rw × Sl), xs.map (·.1) = l ∧ xs.length = l.length ∧ (∀ x, x ∈ xs → Bs w (svV x.1 x.2) x.1.value) ∧
    (0 < l.length → ∃ b o cap, v = .slice (some ⟨b, o, none⟩) l.length cap ∧ ∀ w', Same w w' → ∀ j x, xs[j]? = some x → w'.cell? ⟨b, o + j * 3, none⟩ = some (.int .i64 x.1.flags) ∧ w'.cell? ⟨b, o + j * 3 + 1, none⟩ = some (.int .i64 x.1.type) ∧ w'.cell? ⟨b, o + j * 3 + 2, none⟩ = some (svV x.1 x.2)) := by
  obtain ⟨xs, rfl, h2, h3⟩ := h
  refine ⟨xs, rfl, by rw [List.length_map], h3, fun hl => ?_⟩
  rw [List.length_map] at hl ⊢
  obtain ⟨b, o, cap, rfl, h4, h5, h6⟩ := h2.at hl
  refine ⟨b, o, cap, rfl, fun w' hs j x hx => ?_⟩
  have hc := h6 w' hs j x hx
  exact ⟨hc 0 _ rfl, hc 1 _ rfl, hc 2 _ rfl⟩
theorem RawsW.cap {e : TypeId} {w : World} {v : Value} {l : List Rw} (h : RawsW e w v l) : (l.length : Int) ≤ 9223372036854775807 := by
  obtain ⟨xs, rfl, ⟨_, cap, _, h1, h2, _⟩, _⟩ := h
  rw [List.length_map]
  omega

theorem oneB_length (r : Rw) : (oneB r).length ≤ 65539 := by
  unfold oneB
  split <;> (simp; omega)
theorem joinB_length (l : List Rw) : (joinB l).length ≤ l.length * 65539 := by
  induction l with
  | nil => simp [joinB]
  | cons r l ih =>
    have h1 := oneB_length r
    have h2 : joinB (r :: l) = oneB r ++ joinB l := by simp [joinB]
    rw [h2, List.length_append, List.length_cons]
    omega
theorem raws_one (e : TypeId) (w : World) (o : Obj) (fl ty : Int) (vl : List UInt8) (so : Option Addr) (sc : Nat) :
    Rs (rawLay e) ((w.alloc o).alloc (.cells #[.int .i64 fl, .int .i64 ty, .slice so vl.length sc] e)) (.slice (some ⟨w.heap.size + 1, 0, none⟩) 1 1) [(⟨fl, ty, vl⟩, ⟨so, sc⟩)] := by
  have := Rs.one (rawLay e) (w.alloc o) (⟨fl, ty, vl⟩, ⟨so, sc⟩) #[.int .i64 fl, .int .i64 ty, .slice so vl.length sc] rfl
  rw [show (w.alloc o).heap.size = w.heap.size + 1 from by simp] at this
  exact this

end Go.Proofs.Ytidijoncngfppaa
