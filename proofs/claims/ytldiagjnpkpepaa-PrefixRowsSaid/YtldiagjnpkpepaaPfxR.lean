/- The document's own plain functions of layer 3. No condition beyond what each names. -/
import Derived.Test.YtldiagjnpkpepaaPfxF
import Derived.StillTailTactics
namespace Go.Proofs.Ytldiagjnpkpepaa
open Go.RowKit
set_option linter.unusedVariables false
set_option maxRecDepth 100000

attribute [local go_sem ↓] fld0 fld1

theorem maskN_lt (n : Int) : 0 ≤ maskN n ∧ maskN n < 4294967296 := by
  have h := nearN_le n
  obtain ⟨k, hk, hk2⟩ : ∃ k : Nat, (32 - nearN n).toNat = k ∧ k ≤ 32 := ⟨_, rfl, by omega⟩
  unfold maskN
  rw [hk]
  have h : ∀ j : Fin 33, 0 ≤ (4294967296 - 2 ^ j.val : Int) ∧ (4294967296 - 2 ^ j.val : Int) < 4294967296 := by decide
  exact h ⟨k, by omega⟩
theorem or_mask : ∀ k : Nat, k < 32 → bits .or .u32 (4294967296 - 2 ^ (32 - k)) (2 ^ (31 - k)) = 4294967296 - 2 ^ (32 - (k + 1)) := by
  intro k hk
  have h : ∀ j : Fin 32, bits .or .u32 (4294967296 - 2 ^ (32 - j.val)) (2 ^ (31 - j.val)) = 4294967296 - 2 ^ (32 - (j.val + 1)) := by decide
  exact h ⟨k, by omega⟩
theorem pow_mod : ∀ k : Nat, k < 32 → (2 ^ k % 4294967296 : Int) = 2 ^ k := by
  intro k hk
  have h : ∀ j : Fin 32, (2 ^ j.val % 4294967296 : Int) = 2 ^ j.val := by decide
  exact h ⟨k, by omega⟩

theorem rMask_any (n : Int) (w : World) : Calls Try.prog 113 #[.int .i64 n] w fun e w' => e = .returned (.int .u32 (maskN n)) ∧ w = w' := by
  have HE : Hid (∀ k : Nat, (k : Int) ≤ nearN n → (n ≤ (k : Int) ∨ 32 ≤ (k : Int)) → 4294967296 - 2 ^ (32 - k) = maskN n) := by
    intro k h1 h2
    unfold maskN
    have : (32 - nearN n).toNat = 32 - k := by unfold nearN at *; omega
    rw [this]
  have HI : Hid (∀ k : Nat, (k : Int) < n → (k : Int) < 32 → ((k + 1 : Nat) : Int) ≤ nearN n) := by intro k h1 h2; unfold nearN; omega
  have h0 : (0 : Int) ≤ nearN n := (nearN_le n).1
  generalize nearN n = N at *
  go_enter Try.func113, Try.ntmps113
  go_wp2_with fail
  go_loop [3, 4] (fun m i => ∃ k : Nat, (k : Int) ≤ N ∧ i = .int .i64 (k : Int) ∧ m = .int .u32 (4294967296 - 2 ^ (32 - k))) (fun _ i => 33 - (intOf i).toNat)
  case atStart => exact ⟨0, by omega, rfl, rfl⟩
  case round =>
    obtain ⟨k, hk, rfl, rfl⟩ := hrel
    by_cases h1 : (k : Int) < n
    · by_cases h2 : (k : Int) < 32
      · have ho := or_mask k (by omega)
        have hp := pow_mod (31 - k) (by omega)
        have e1 : (31 - (k : Int)).toNat = 31 - k := by omega
        have e2 : (31 - (k : Int)) % 18446744073709551616 = 31 - k := by omega
        have e3 : IntKind.u64.wrap (31 - (k : Int)) = 31 - k := by rw [IntKind.wrap_u64]; omega
        go_wp2_with fail
        exact ⟨⟨k + 1, HI.out k h1 h2, by go_num, by rw [show 32 - (k + 1) = 31 - k from by omega]⟩, by simp [intOf]; omega⟩
      · have HR := Lib.hid (HE.out k hk (.inr (by omega)))
        go_wp2_with fail
        go_ret
        exact ⟨by rw [← HR.out]; rfl, rfl⟩
    · have HR := Lib.hid (HE.out k hk (.inl (by omega)))
      go_wp2_with fail
      go_ret
      exact ⟨by rw [← HR.out]; rfl, rfl⟩

theorem maskN_near (n : Int) : maskN (nearN n) = maskN n := by unfold maskN; rw [nearN_near]

theorem rMask_same (n : Int) (w : World) : Calls Try.prog 113 #[.int .i64 n] w fun e w' => e = .returned (.int .u32 (maskN n)) ∧ Same w w' := (rMask_any n w).mono fun _ _ ⟨h, k⟩ => ⟨h, k ▸ Same.refl _⟩

theorem rCanon_any (a n : Int) (w : World) : Calls Try.prog 72 #[.agg #[.int .u32 a, .int .i64 n]] w fun e w' => e = .returned (.agg #[.int .u32 (canA a n), .int .i64 (nearN n)]) ∧ Same w w' := by
  have HM := fun w => Lib.hid (rMask_any (nearN n) w)
  rw [maskN_near] at HM
  unfold canA
  rcases (show n < 0 ∨ 32 < n ∨ (0 ≤ n ∧ n ≤ 32) by omega) with h | h | ⟨h, h2⟩
  · have hq : nearN n = 0 := by unfold nearN; omega
    rw [hq] at HM ⊢
    generalize maskN n = k at *
    go_enter Try.func72, Try.ntmps72
    go_wp2_with fail
    refine wp_region_still_tail 6 (by kernel_rfl) (by kernel_rfl) ?_
    simp only [List.take_succ_cons, List.take_zero, List.drop_succ_cons, List.drop_zero]
    change wpStill _ _ (((w.alloc (pfxO a 0)).alloc (pfxO 0 0)).drew) (fun a' => wpList _ _ _ _ a' (((w.alloc (pfxO a 0)).alloc (pfxO 0 0)).drew)) _ _
    repeat still_step
    still_call ((HM _).out.mono fun _ _ ⟨h, k⟩ => ⟨h, k.symm⟩)
    repeat still_step
    refine wpStill_nil ?_
    go_wp2_with fail
    refine bodyPost_ret (v := .agg #[.int .u32 (bits .and .u32 a k), .int .i64 0]) ?_ rfl ?_
    · clear HM
      simp [results, Try.results72, go_sem]
    exact ⟨rfl, ((Same.alloc w _).trans (Same.alloc _ _)).drew⟩
  · have hq : nearN n = 32 := by unfold nearN; omega
    rw [hq] at HM ⊢
    generalize maskN n = k at *
    go_enter Try.func72, Try.ntmps72
    go_wp2_with fail
    refine wp_region_still_tail 6 (by kernel_rfl) (by kernel_rfl) ?_
    simp only [List.take_succ_cons, List.take_zero, List.drop_succ_cons, List.drop_zero]
    change wpStill _ _ (((w.alloc (pfxO a 32)).alloc (pfxO 0 0)).drew) (fun a' => wpList _ _ _ _ a' (((w.alloc (pfxO a 32)).alloc (pfxO 0 0)).drew)) _ _
    repeat still_step
    still_call ((HM _).out.mono fun _ _ ⟨h, k⟩ => ⟨h, k.symm⟩)
    repeat still_step
    refine wpStill_nil ?_
    go_wp2_with fail
    refine bodyPost_ret (v := .agg #[.int .u32 (bits .and .u32 a k), .int .i64 32]) ?_ rfl ?_
    · clear HM
      simp [results, Try.results72, go_sem]
    exact ⟨rfl, ((Same.alloc w _).trans (Same.alloc _ _)).drew⟩
  · have hq : nearN n = n := nearN_id h h2
    rw [hq] at HM ⊢
    generalize maskN n = k at *
    go_enter Try.func72, Try.ntmps72
    go_wp2_with fail
    refine wp_region_still_tail 6 (by kernel_rfl) (by kernel_rfl) ?_
    simp only [List.take_succ_cons, List.take_zero, List.drop_succ_cons, List.drop_zero]
    change wpStill _ _ (((w.alloc (pfxO a n)).alloc (pfxO 0 0)).drew) (fun a' => wpList _ _ _ _ a' (((w.alloc (pfxO a n)).alloc (pfxO 0 0)).drew)) _ _
    repeat still_step
    still_call ((HM _).out.mono fun _ _ ⟨h, k⟩ => ⟨h, k.symm⟩)
    repeat still_step
    refine wpStill_nil ?_
    go_wp2_with fail
    refine bodyPost_ret (v := .agg #[.int .u32 (bits .and .u32 a k), .int .i64 n]) ?_ rfl ?_
    · clear HM
      simp [results, Try.results72, go_sem]
    exact ⟨rfl, ((Same.alloc w _).trans (Same.alloc _ _)).drew⟩

end Go.Proofs.Ytldiagjnpkpepaa
