/- The document's own plain functions of layer 3. No condition beyond what each names. -/
import Derived.Test.YtfhaaenmllkbnaaPfxF
import Derived.StillTailTactics
namespace Go.Proofs.Ytfhaaenmllkbnaa
open Go.RowKit
set_option linter.unusedVariables false
set_option maxRecDepth 100000

attribute [local go_sem ↓] fld0 fld1

theorem maskN_lt (n : Int) : 0 ≤ maskN n ∧ maskN n < 4294967296 := by
  have h := nearN_le n
  obtain ⟨k, hk, hk2⟩ : ∃ k : Nat, (32 - nearN n).toNat = k ∧ k ≤ 32 := ⟨_, rfl, by omega⟩
  unfold maskN
  rw [hk]
  have h : ∀ j : Fin 33, 0 ≤ (4294967296 - 2 ^ j.val : Int) ∧ (4294967296 - 2 ^ j.val : Int) < 4294967296 := by decide
  exact h ⟨k, by omega⟩
theorem or_mask : ∀ k : Nat, k < 32 → bits .or .u32 (4294967296 - 2 ^ (32 - k)) (2 ^ (31 - k)) = 4294967296 - 2 ^ (32 - (k + 1)) := by
  intro k hk
  have h : ∀ j : Fin 32, bits .or .u32 (4294967296 - 2 ^ (32 - j.val)) (2 ^ (31 - j.val)) = 4294967296 - 2 ^ (32 - (j.val + 1)) := by decide
  exact h ⟨k, by omega⟩
theorem pow_mod : ∀ k : Nat, k < 32 → (2 ^ k % 4294967296 : Int) = 2 ^ k := by
  intro k hk
  have h : ∀ j : Fin 32, (2 ^ j.val % 4294967296 : Int) = 2 ^ j.val := by decide
  exact h ⟨k, by omega⟩

theorem maskN_near (n : Int) : maskN (nearN n) = maskN n := by unfold maskN; rw [nearN_near]

end Go.Proofs.Ytfhaaenmllkbnaa
