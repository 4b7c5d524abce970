/- Contract of the document's own path of layer 7. No condition beyond what it names. -/
import Derived.Test.YtidijoncngfppaaAtRS
namespace Go.Proofs.Ytidijoncngfppaa
open Go.RowKit
set_option linter.unusedVariables false

theorem pathA_end {f : Nat} {l : List UInt8} {a : Nat} {acc : List Int} (h : l.length ≤ a) : pathA f l a acc = some acc := by
  cases f with
  | zero => rfl
  | succ f => rw [pathA, if_pos h]
theorem partL_len : ∀ (n : Nat) (v : List UInt8) (a : Nat) (acc acc' : List Int), partL n v a acc = some acc' → a + 2 * n ≤ max a v.length ∧ acc'.length = acc.length + n ∧ (acc.length ≤ 16 → acc'.length ≤ 16)
  | 0, v, a, acc, acc', h => by cases h; omega
  | n + 1, v, a, acc, acc', h => by
    rw [partL] at h
    split at h
    · cases h
    · rename_i hc
      obtain ⟨h1, h2, h3⟩ := partL_len n v (a + 2) _ acc' h
      simp only [List.length_append, List.length_singleton] at h2 h3
      omega
theorem intInfo2 : (Try.prog.info? intLay.e).map (fun i => (i.zero, i.size, i.bytes)) = some (some (.int .i64 0), intLay.k, 8) := intInfo

end Go.Proofs.Ytidijoncngfppaa
