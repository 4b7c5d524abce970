/- A struct stored cell by cell. No condition beyond what each names. -/
import Derived.Test.YteoleblnhcnpkaaIpDF
namespace Go.Proofs.Yteoleblnhcnpkaa
open Go.RowKit
set_option linter.unusedVariables false

/-- cells written one by one from a place on -/
def setsL (R : Nat) : World → Nat → List Value → World
  | u, _, [] => u
  | u, i, v :: vs => setsL R (u.setCell ⟨R, i, none⟩ v) (i + 1) vs

theorem sets_heap (R : Nat) (t : TypeId) : ∀ (vs : List Value) (u : World) (pre old : List Value), u.heap[R]? = some (.cells (pre ++ old).toArray t (0, 0)) → old.length = vs.length →
    Mod R u (setsL R u pre.length vs) ∧ (setsL R u pre.length vs).heap[R]? = some (.cells (pre ++ vs).toArray t (0, 0))
  | [], u, pre, old, hk, hl => by
    obtain rfl : old = [] := List.eq_nil_of_length_eq_zero hl
    exact ⟨Mod.refl R u, hk⟩
  | v :: vs, u, pre, [], hk, hl => by simp at hl
  | v :: vs, u, pre, o :: old, hk, hl => by
    have h1 := World.heap_set1 u R pre.length _ t v hk
    have e : ((pre ++ o :: old).toArray.setIfInBounds pre.length v) = ((pre ++ [v]) ++ old).toArray := by
      simp
    rw [e] at h1
    have := sets_heap R t vs (u.setCell ⟨R, pre.length, none⟩ v) (pre ++ [v]) old h1 (by simpa using hl)
    rw [List.length_append, List.length_singleton] at this
    refine ⟨(Mod.setCell R pre.length u v).trans this.1, ?_⟩
    have h2 := this.2
    rw [List.append_assoc] at h2
    exact h2

theorem sets_all (R : Nat) (t : TypeId) (vs old : List Value) (u : World) (hk : u.heap[R]? = some (.cells old.toArray t (0, 0))) (hl : old.length = vs.length) :
    Mod R u (setsL R u 0 vs) ∧ (setsL R u 0 vs).heap[R]? = some (.cells vs.toArray t (0, 0)) := sets_heap R t vs u [] old hk hl

/-- its cells can be written -/
theorem not_frozen {w : World} {R : Nat} {cs : Array Value} {t : TypeId} (hk : w.heap[R]? = some (.cells cs t (0, 0))) (j : Nat) : w.frozen? ⟨R, j, none⟩ = false := by
  simp [World.frozen?, hk]
end Go.Proofs.Yteoleblnhcnpkaa
