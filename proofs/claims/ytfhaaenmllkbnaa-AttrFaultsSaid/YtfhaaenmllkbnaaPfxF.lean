/- The developers' plain functions of layer 3: masks, what may be, what holds what. No condition beyond what each names. -/
import Derived.Test.YtfhaaenmllkbnaaProg
import Derived.Test.YtfhaaenmllkbnaaBase
import Derived.Test.YtfhaaenmllkbnaaReg
import Derived.Test.YtfhaaenmllkbnaaOwn
import Derived.BigQuiet
import Derived.Outline
import Derived.Deep.RegionHeld3
import Derived.IntWalk
import Derived.Laws.StructEq
namespace Go.Proofs.Ytfhaaenmllkbnaa
open Go.RowKit
set_option linter.unusedVariables false

theorem eq_pfx (a n b m : Int) (w : World) : (binOp .eql 105 (.agg #[.int .u32 a, .int .i64 n]) (.agg #[.int .u32 b, .int .i64 m])).run Try.prog w = .ok (.bool (decide (a = b ∧ n = m))) w := by
  rw [run_eql_struct]
  by_cases h1 : a = b <;> by_cases h2 : n = m <;> simp [go_sem, h1, h2]
attribute [local go_sem ↓] eq_pfx

theorem neq_pfx (a n b m : Int) (w : World) : (binOp .neq 105 (.agg #[.int .u32 a, .int .i64 n]) (.agg #[.int .u32 b, .int .i64 m])).run Try.prog w = .ok (.bool (!decide (a = b ∧ n = m))) w := by
  rw [run_neq_struct]
  by_cases h1 : a = b <;> by_cases h2 : n = m <;> simp [go_sem, h1, h2]
theorem neq_pfx_same (a n : Int) (w : World) : (binOp .neq 105 (.agg #[.int .u32 a, .int .i64 n]) (.agg #[.int .u32 a, .int .i64 n])).run Try.prog w = .ok (.bool false) w := by
  rw [neq_pfx]; simp


theorem fld0 (a n : Int) (w : World) : (Instr.field 105 (.agg #[.int .u32 a, .int .i64 n]) 0).run Try.prog w = .ok (.int .u32 a) w := by kernel_rfl
theorem fld1 (a n : Int) (w : World) : (Instr.field 105 (.agg #[.int .u32 a, .int .i64 n]) 1).run Try.prog w = .ok (.int .i64 n) w := by kernel_rfl

def nearN (n : Int) : Int := min (max n 0) 32
theorem nearN_le (n : Int) : 0 ≤ nearN n ∧ nearN n ≤ 32 := by unfold nearN; omega
theorem nearN_near (n : Int) : nearN (nearN n) = nearN n := by unfold nearN; omega
theorem nearN_id {n : Int} (h : 0 ≤ n) (h2 : n ≤ 32) : nearN n = n := by unfold nearN; omega
/-- the first n bits of 32 are 1 -/
def maskN (n : Int) : Int := 4294967296 - 2 ^ (32 - nearN n).toNat
/-- an address with nothing behind the first n bits -/
def canA (a n : Int) : Int := bits .and .u32 a (maskN n)

theorem near_any (n : Int) (w : World) : Calls Try.prog 85 #[.int .i64 n] w fun e w' => e = .returned (.int .i64 (nearN n)) ∧ w = w' := by
  rcases (show n < 0 ∨ 32 < n ∨ (0 ≤ n ∧ n ≤ 32) by omega) with h | h | ⟨h, h2⟩
  · have hq : nearN n = 0 := by unfold nearN; omega
    rw [hq]
    go_enter Try.func85, Try.ntmps85
    go_wp2_with fail
    go_ret
    exact ⟨rfl, rfl⟩
  · have hq : nearN n = 32 := by unfold nearN; omega
    rw [hq]
    go_enter Try.func85, Try.ntmps85
    go_wp2_with fail
    go_ret
    exact ⟨rfl, rfl⟩
  · rw [nearN_id h h2]
    go_enter Try.func85, Try.ntmps85
    go_wp2_with fail
    go_ret
    exact ⟨rfl, rfl⟩

theorem shl_mask : ∀ k : Nat, k ≤ 32 → (4294967295 * 2 ^ k % 4294967296 : Int) = 4294967296 - 2 ^ k := by
  intro k hk
  have h : ∀ j : Fin 33, (4294967295 * 2 ^ j.val % 4294967296 : Int) = 4294967296 - 2 ^ j.val := by decide
  exact h ⟨k, by omega⟩
theorem Mask_any (n : Int) (w : World) : Calls Try.prog 84 #[.int .i64 n] w fun e w' => e = .returned (.int .u32 (maskN n)) ∧ w = w' := by
  have HN := Lib.hid (near_any n w)
  have h := nearN_le n
  unfold maskN
  obtain ⟨h1, h2⟩ := h
  generalize nearN n = m at *
  have hs := Lib.hid (shl_mask (32 - m).toNat (by omega))
  go_enter Try.func84, Try.ntmps84
  go_wp2_with fail
  refine HN.out.mono ?_
  rintro e w1 ⟨rfl, rfl⟩
  go_wp2_with fail
  rw [hs.out]
  go_ret
  exact ⟨rfl, rfl⟩

theorem Canon_any (a n : Int) (w : World) : Calls Try.prog 78 #[.agg #[.int .u32 a, .int .i64 n]] w fun e w' => e = .returned (.agg #[.int .u32 (canA a n), .int .i64 (nearN n)]) ∧ Same w w' := by
  have HM := fun w => Lib.hid (Mask_any n w)
  have HN := fun w => Lib.hid (near_any n w)
  unfold canA
  generalize nearN n = m at *
  generalize maskN n = k at *
  go_enter Try.func78, Try.ntmps78
  go_wp2_with fail
  go_region_held3 (fun w' => w'.cell? ⟨w.heap.size, 0, none⟩ = some (.int .u32 a) ∧ w'.cell? ⟨w.heap.size, 1, none⟩ = some (.int .i64 n)) (go_keep)
    (first
      | (go_at_call 84; refine (HM _).out.mono ?_; rintro e w1 ⟨rfl, rfl⟩)
      | (go_at_call 85; refine (HN _).out.mono ?_; rintro e w1 ⟨rfl, rfl⟩))
  go_wp2_with fail
  refine bodyPost_ret (v := .agg #[.int .u32 (bits .and .u32 a k), .int .i64 m]) ?_ rfl ?_
  · clear HM HN
    simp [results, Try.results78, go_sem]
  exact ⟨rfl, ((Same.alloc w _).trans (Same.alloc _ _)).drew⟩

theorem near_same (n : Int) (w : World) : Calls Try.prog 85 #[.int .i64 n] w fun e w' => e = .returned (.int .i64 (nearN n)) ∧ Same w w' := (near_any n w).mono fun _ _ ⟨h, k⟩ => ⟨h, k ▸ Same.refl _⟩
theorem Mask_same (n : Int) (w : World) : Calls Try.prog 84 #[.int .i64 n] w fun e w' => e = .returned (.int .u32 (maskN n)) ∧ Same w w' := (Mask_any n w).mono fun _ _ ⟨h, k⟩ => ⟨h, k ▸ Same.refl _⟩

/-- a boxed prefix -/
abbrev pfxO (a n : Int) : Obj := .cells #[.int .u32 a, .int .i64 n] 105
theorem box1 (a n : Int) (w : World) : ∀ w', Same (w.alloc (pfxO a n)) w' → w'.cell? ⟨w.heap.size, 0, none⟩ = some (.int .u32 a) ∧ w'.cell? ⟨w.heap.size, 1, none⟩ = some (.int .i64 n) :=
  fun w' h => ⟨h.cell (by simp) |>.trans (by simp), h.cell (by simp) |>.trans (by simp)⟩
theorem box2 (a n b m : Int) (w : World) : ∀ w', Same ((w.alloc (pfxO a n)).alloc (pfxO b m)) w' → w'.cell? ⟨w.heap.size, 0, none⟩ = some (.int .u32 a) ∧ w'.cell? ⟨w.heap.size, 1, none⟩ = some (.int .i64 n) ∧
    w'.cell? ⟨w.heap.size + 1, 0, none⟩ = some (.int .u32 b) ∧ w'.cell? ⟨w.heap.size + 1, 1, none⟩ = some (.int .i64 m) := by
  intro w' h
  have h1 := box1 a n w w' ((Same.alloc _ _).trans h)
  have h2 := box1 b m (w.alloc (pfxO a n)) w' h
  simp at h2
  exact ⟨h1.1, h1.2, h2.1, h2.2⟩

theorem Holds_any (a n x : Int) (w : World) : Calls Try.prog 69 #[.agg #[.int .u32 a, .int .i64 n], .int .u32 x] w fun e w' => e = .returned (.bool (decide (canA x n = canA a n))) ∧ Same w w' := by
  have HM := fun w => Lib.hid (Canon_any a n w)
  have HX := fun w => Lib.hid (Canon_any x n w)
  generalize nearN n = m at *
  generalize canA a n = k at *
  generalize canA x n = l at *
  have HA := Lib.hid (box1 a n w)
  have H0 := Lib.hid (Same.alloc w (pfxO a n))
  go_enter Try.func69, Try.ntmps69
  go_wp2_with fail
  generalize hW : w.alloc (.cells #[.int .u32 a, .int .i64 n] 105) = W at *
  refine reg_start (fun w' => Same W w') (by kernel_rfl) ?_
  refine reg_take (v := ?_) 0 (some 5) rfl rfl (by kernel_rfl) (fun _ _ _ h => h) (by kernel_rfl) ((Same.refl W).drew) ?_ ?_
  rotate_left
  · (intro w' hw'; obtain ⟨c0, c1⟩ := HA.out w' hw'; go_simp; try with_reducible rfl)
  try simp only [Act.put, List.setIfInBounds_toArray, List.set_cons_zero, List.set_cons_succ]
  refine reg_take (v := ?_) 1 (some 6) rfl rfl (by kernel_rfl) (fun _ _ _ h => h) (by kernel_rfl) ((Same.refl W).drew) ?_ ?_
  rotate_left
  · (intro w' hw'; obtain ⟨c0, c1⟩ := HA.out w' hw'; go_simp; try with_reducible rfl)
  try simp only [Act.put, List.setIfInBounds_toArray, List.set_cons_zero, List.set_cons_succ]
  refine reg_take (v := ?_) 2 (some 7) rfl rfl (by kernel_rfl) (fun _ _ _ h => h) (by kernel_rfl) ((Same.refl W).drew) ?_ ?_
  rotate_left
  · (intro w' hw'; obtain ⟨c0, c1⟩ := HA.out w' hw'; go_simp; try with_reducible rfl)
  try simp only [Act.put, List.setIfInBounds_toArray, List.set_cons_zero, List.set_cons_succ]
  refine reg_take (v := ?_) 3 (some 8) rfl rfl (by kernel_rfl) (fun _ _ _ h => h) (by kernel_rfl) ((Same.refl W).drew) ?_ ?_
  rotate_left
  · (intro w' hw'; obtain ⟨c0, c1⟩ := HA.out w' hw'; go_simp; try with_reducible rfl)
  try simp only [Act.put, List.setIfInBounds_toArray, List.set_cons_zero, List.set_cons_succ]
  refine reg_take (v := ?_) 5 (some 10) rfl rfl (by kernel_rfl) (fun _ _ _ h => h) (by kernel_rfl) ((Same.refl W).drew) ?_ ?_
  rotate_left
  · (intro w' hw'; obtain ⟨c0, c1⟩ := HA.out w' hw'; go_simp; try with_reducible rfl)
  try simp only [Act.put, List.setIfInBounds_toArray, List.set_cons_zero, List.set_cons_succ]
  refine reg_one 4 rfl (by kernel_rfl) (by kernel_rfl) ?_
  go_simp
  refine ((HX _).out).mono ?_
  rintro e u1 ⟨rfl, hs1⟩
  have hS1 := ((Same.refl W).drew).trans hs1
  skip
  refine ⟨hS1, ?_⟩
  try simp only [Act.put, List.setIfInBounds_toArray, List.set_cons_zero, List.set_cons_succ]
  refine reg_one 6 rfl (by kernel_rfl) (by kernel_rfl) ?_
  go_simp
  refine ((HM _).out).mono ?_
  rintro e u2 ⟨rfl, hs2⟩
  have hS2 := (hS1).trans hs2
  skip
  refine ⟨hS2, ?_⟩
  try simp only [Act.put, List.setIfInBounds_toArray, List.set_cons_zero, List.set_cons_succ]
  refine reg_take (v := ?_) 7 (some 12) rfl rfl (by kernel_rfl) (fun _ _ _ h => h) (by kernel_rfl) (hS2) ?_ ?_
  rotate_left
  · (intro w' hw'; obtain ⟨c0, c1⟩ := HA.out w' hw'; go_simp; try with_reducible rfl)
  try simp only [Act.put, List.setIfInBounds_toArray, List.set_cons_zero, List.set_cons_succ]
  refine reg_take (v := ?_) 8 (some 4) rfl rfl (by kernel_rfl) (fun _ _ _ h => h) (by kernel_rfl) (hS2) ?_ ?_
  rotate_left
  · (intro w' hw'; obtain ⟨c0, c1⟩ := HA.out w' hw'; go_simp; try with_reducible rfl)
  try simp only [Act.put, List.setIfInBounds_toArray, List.set_cons_zero, List.set_cons_succ]
  refine reg_done (by kernel_rfl) ?_
  go_wp2_with fail
  go_ret
  exact ⟨by simp, H0.out.trans hS2⟩

theorem box2_set (a n b m b1 m1 : Int) (B C : Nat) (u : World) (hne : B ≠ C) (c0 : u.cell? ⟨B, 0, none⟩ = some (.int .u32 a)) (c1 : u.cell? ⟨B, 1, none⟩ = some (.int .i64 n)) (c2 : u.cell? ⟨C, 0, none⟩ = some (.int .u32 b)) (c3 : u.cell? ⟨C, 1, none⟩ = some (.int .i64 m)) :
    ∀ w', Same ((u.setCell ⟨C, 0, none⟩ (.int .u32 b1)).setCell ⟨C, 1, none⟩ (.int .i64 m1)) w' → w'.cell? ⟨B, 0, none⟩ = some (.int .u32 a) ∧ w'.cell? ⟨B, 1, none⟩ = some (.int .i64 n) ∧ w'.cell? ⟨C, 0, none⟩ = some (.int .u32 b1) ∧ w'.cell? ⟨C, 1, none⟩ = some (.int .i64 m1) := by
  have o0 : (⟨C, 0, none⟩ : Addr) ≠ ⟨B, 0, none⟩ := fun h => hne (by cases h; rfl)
  have o1 : (⟨C, 1, none⟩ : Addr) ≠ ⟨B, 0, none⟩ := fun h => hne (by cases h)
  have o2 : (⟨C, 0, none⟩ : Addr) ≠ ⟨B, 1, none⟩ := fun h => hne (by cases h)
  have o3 : (⟨C, 1, none⟩ : Addr) ≠ ⟨B, 1, none⟩ := fun h => hne (by cases h; rfl)
  have o4 : (⟨C, 1, none⟩ : Addr) ≠ ⟨C, 0, none⟩ := fun h => by cases h
  have e0 : ((u.setCell ⟨C, 0, none⟩ (.int .u32 b1)).setCell ⟨C, 1, none⟩ (.int .i64 m1)).cell? ⟨B, 0, none⟩ = some (.int .u32 a) := by rw [World.cell?_setCell_other _ _ _ _ o1, World.cell?_setCell_other _ _ _ _ o0, c0]
  have e1 : ((u.setCell ⟨C, 0, none⟩ (.int .u32 b1)).setCell ⟨C, 1, none⟩ (.int .i64 m1)).cell? ⟨B, 1, none⟩ = some (.int .i64 n) := by rw [World.cell?_setCell_other _ _ _ _ o3, World.cell?_setCell_other _ _ _ _ o2, c1]
  have e2 : ((u.setCell ⟨C, 0, none⟩ (.int .u32 b1)).setCell ⟨C, 1, none⟩ (.int .i64 m1)).cell? ⟨C, 0, none⟩ = some (.int .u32 b1) := by rw [World.cell?_setCell_other _ _ _ _ o4]; exact World.cell?_setCell_same' _ _ _ (by rw [c2]; rfl)
  have e3 : ((u.setCell ⟨C, 0, none⟩ (.int .u32 b1)).setCell ⟨C, 1, none⟩ (.int .i64 m1)).cell? ⟨C, 1, none⟩ = some (.int .i64 m1) := by
    refine World.cell?_setCell_same' _ _ _ ?_
    rw [World.cell?_setCell_other _ _ _ _ (Ne.symm o4), c3]; rfl
  exact fun w' h => ⟨(h.cell (World.block_lt_of_cell? _ _ e0)).trans e0, (h.cell (World.block_lt_of_cell? _ _ e1)).trans e1, (h.cell (World.block_lt_of_cell? _ _ e2)).trans e2, (h.cell (World.block_lt_of_cell? _ _ e3)).trans e3⟩

end Go.Proofs.Ytfhaaenmllkbnaa
