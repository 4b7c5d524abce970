/- The walk of WireNone: a source that no call made tells zero values. No condition. -/
import Derived.Test.YtphhnjfkniahdaaUnm
import Derived.Test.YtphhnjfkniahdaaLives
import Derived.LoopN
namespace Go.Proofs.Ytphhnjfkniahdaa
open Go.RowKit
set_option linter.unusedVariables false

theorem none_walk (k n : Int) (w : World) : Calls Try.prog 6 #[.agg #[.int .i64 k, .int .i64 n]] w fun e w' => e = .returned (.bool true) ∧ Same w w' := by
  have hA : ((w.alloc (.cells #[.int .i64 k, .int .i64 n] 42)).alloc (.cells #[.bool false, .slice none 0 0, .int .i64 0, .int .i64 0] 55)).cell? ⟨w.heap.size, 1, none⟩ = some (.int .i64 n) := by
    rw [World.cell?_alloc_lt _ _ _ (by simp)]; simp
  have hU : Unm ((w.alloc (.cells #[.int .i64 k, .int .i64 n] 42)).alloc (.cells #[.bool false, .slice none 0 0, .int .i64 0, .int .i64 0] 55)) (some ⟨w.heap.size + 1, 0, none⟩) :=
    .inr ⟨_, rfl, by simp⟩
  have hS := (Same.alloc w (.cells #[.int .i64 k, .int .i64 n] 42)).trans (Same.alloc _ (.cells #[.bool false, .slice none 0 0, .int .i64 0, .int .i64 0] 55))
  have i0 : ∀ (z : Nat) (w : World), (Instr.index 56 (.agg #[.pointer none, .pointer (some ⟨z, 0, none⟩)]) (.int .i64 0)).run Try.prog w = .ok (.pointer none) w := fun _ _ => by kernel_rfl
  have i1 : ∀ (z : Nat) (w : World), (Instr.index 56 (.agg #[.pointer none, .pointer (some ⟨z, 0, none⟩)]) (.int .i64 1)).run Try.prog w = .ok (.pointer (some ⟨z, 0, none⟩)) w := fun _ _ => by kernel_rfl
  have HU0 := Lib.hid hU
  have HS0 := Lib.hid hS
  have HA0 := Lib.hid hA
  clear hA hU hS
  go_enter Try.func6, Try.ntmps6
  go_wp2_with fail
  obtain ⟨W0, hW0⟩ : ∃ W0, W0 = ((w.alloc (.cells #[.int .i64 k, .int .i64 n] 42)).alloc (.cells #[.bool false, .slice none 0 0, .int .i64 0, .int .i64 0] 55)) := ⟨_, rfl⟩
  rw [← hW0] at HU0 HS0 HA0 ⊢
  clear hW0
  refine wp_loop_rounds 3 ?_
  rw [rounds_succ]
  have c0 := HA0.out
  go_wp2_with fail
  refine (U8_un none W0 (show Unm W0 none from .inl rfl)).mono ?_
  rintro e W1 ⟨rfl, hs0⟩
  have HS1 := Lib.hid (HS0.out.trans hs0)
  have HU1 := Lib.hid (HU0.out.same hs0)
  have HA1 : Hid (W1.cell? ⟨w.heap.size, 1, none⟩ = some (.int .i64 n)) := by rw [← HA0.out]; exact Below.cell hs0 (World.block_lt_of_cell? _ _ HA0.out)
  clear hs0 c0 HA0 HU0 HS0
  have c1 := HA1.out
  go_wp2_with fail
  refine (U16_un none W1 (show Unm W1 none from .inl rfl)).mono ?_
  rintro e W2 ⟨rfl, hs1⟩
  have HS2 := Lib.hid (HS1.out.trans hs1)
  have HU2 := Lib.hid (HU1.out.same hs1)
  have HA2 : Hid (W2.cell? ⟨w.heap.size, 1, none⟩ = some (.int .i64 n)) := by rw [← HA1.out]; exact Below.cell hs1 (World.block_lt_of_cell? _ _ HA1.out)
  clear hs1 c1 HA1 HU1 HS1
  have c2 := HA2.out
  go_wp2_with fail
  refine (U32_un none W2 (show Unm W2 none from .inl rfl)).mono ?_
  rintro e W3 ⟨rfl, hs2⟩
  have HS3 := Lib.hid (HS2.out.trans hs2)
  have HU3 := Lib.hid (HU2.out.same hs2)
  have HA3 : Hid (W3.cell? ⟨w.heap.size, 1, none⟩ = some (.int .i64 n)) := by rw [← HA2.out]; exact Below.cell hs2 (World.block_lt_of_cell? _ _ HA2.out)
  clear hs2 c2 HA2 HU2 HS2
  have c3 := HA3.out
  go_wp2_with fail
  refine (Bytes_un none n W3 (show Unm W3 none from .inl rfl)).mono ?_
  rintro e W4 ⟨rfl, hs3⟩
  have HS4 := Lib.hid (HS3.out.trans hs3)
  have HU4 := Lib.hid (HU3.out.same hs3)
  have HA4 : Hid (W4.cell? ⟨w.heap.size, 1, none⟩ = some (.int .i64 n)) := by rw [← HA3.out]; exact Below.cell hs3 (World.block_lt_of_cell? _ _ HA3.out)
  clear hs3 c3 HA3 HU3 HS3
  have c4 := HA4.out
  go_wp2_with fail
  refine (Rest_un none W4 (show Unm W4 none from .inl rfl)).mono ?_
  rintro e W5 ⟨rfl, hs4⟩
  have HS5 := Lib.hid (HS4.out.trans hs4)
  have HU5 := Lib.hid (HU4.out.same hs4)
  have HA5 : Hid (W5.cell? ⟨w.heap.size, 1, none⟩ = some (.int .i64 n)) := by rw [← HA4.out]; exact Below.cell hs4 (World.block_lt_of_cell? _ _ HA4.out)
  clear hs4 c4 HA4 HU4 HS4
  have c5 := HA5.out
  go_wp2_with fail
  refine (Sub_un none n W5 (show Unm W5 none from .inl rfl)).mono ?_
  rintro e W6 ⟨rfl, hs5⟩
  have HS6 := Lib.hid (HS5.out.trans hs5)
  have HU6 := Lib.hid (HU5.out.same hs5)
  have HA6 : Hid (W6.cell? ⟨w.heap.size, 1, none⟩ = some (.int .i64 n)) := by rw [← HA5.out]; exact Below.cell hs5 (World.block_lt_of_cell? _ _ HA5.out)
  clear hs5 c5 HA5 HU5 HS5
  have c6 := HA6.out
  go_wp2_with fail
  refine (Left_un none W6 (show Unm W6 none from .inl rfl)).mono ?_
  rintro e W7 ⟨rfl, rfl⟩
  clear c6
  have c6 := HA6.out
  go_wp2_with fail
  refine (At_un none W6 (show Unm W6 none from .inl rfl)).mono ?_
  rintro e W7 ⟨rfl, rfl⟩
  clear c6
  have c6 := HA6.out
  go_wp2_with fail
  refine (Err_un none W6 (show Unm W6 none from .inl rfl)).mono ?_
  rintro e W7 ⟨rfl, rfl⟩
  clear c6
  have c6 := HA6.out
  go_wp2_with fail
  refine (End_un none W6 (show Unm W6 none from .inl rfl)).mono ?_
  rintro e W7 ⟨rfl, rfl⟩
  clear c6
  go_wp2_with fail
  rw [rounds_succ]
  have c6 := HA6.out
  go_wp2_with fail
  refine (U8_un (some ⟨w.heap.size + 1, 0, none⟩) W6 HU6.out).mono ?_
  rintro e W7 ⟨rfl, hs6⟩
  have HS7 := Lib.hid (HS6.out.trans hs6)
  have HU7 := Lib.hid (HU6.out.same hs6)
  have HA7 : Hid (W7.cell? ⟨w.heap.size, 1, none⟩ = some (.int .i64 n)) := by rw [← HA6.out]; exact Below.cell hs6 (World.block_lt_of_cell? _ _ HA6.out)
  clear hs6 c6 HA6 HU6 HS6
  have c7 := HA7.out
  go_wp2_with fail
  refine (U16_un (some ⟨w.heap.size + 1, 0, none⟩) W7 HU7.out).mono ?_
  rintro e W8 ⟨rfl, hs7⟩
  have HS8 := Lib.hid (HS7.out.trans hs7)
  have HU8 := Lib.hid (HU7.out.same hs7)
  have HA8 : Hid (W8.cell? ⟨w.heap.size, 1, none⟩ = some (.int .i64 n)) := by rw [← HA7.out]; exact Below.cell hs7 (World.block_lt_of_cell? _ _ HA7.out)
  clear hs7 c7 HA7 HU7 HS7
  have c8 := HA8.out
  go_wp2_with fail
  refine (U32_un (some ⟨w.heap.size + 1, 0, none⟩) W8 HU8.out).mono ?_
  rintro e W9 ⟨rfl, hs8⟩
  have HS9 := Lib.hid (HS8.out.trans hs8)
  have HU9 := Lib.hid (HU8.out.same hs8)
  have HA9 : Hid (W9.cell? ⟨w.heap.size, 1, none⟩ = some (.int .i64 n)) := by rw [← HA8.out]; exact Below.cell hs8 (World.block_lt_of_cell? _ _ HA8.out)
  clear hs8 c8 HA8 HU8 HS8
  have c9 := HA9.out
  go_wp2_with fail
  refine (Bytes_un (some ⟨w.heap.size + 1, 0, none⟩) n W9 HU9.out).mono ?_
  rintro e W10 ⟨rfl, hs9⟩
  have HS10 := Lib.hid (HS9.out.trans hs9)
  have HU10 := Lib.hid (HU9.out.same hs9)
  have HA10 : Hid (W10.cell? ⟨w.heap.size, 1, none⟩ = some (.int .i64 n)) := by rw [← HA9.out]; exact Below.cell hs9 (World.block_lt_of_cell? _ _ HA9.out)
  clear hs9 c9 HA9 HU9 HS9
  have c10 := HA10.out
  go_wp2_with fail
  refine (Rest_un (some ⟨w.heap.size + 1, 0, none⟩) W10 HU10.out).mono ?_
  rintro e W11 ⟨rfl, hs10⟩
  have HS11 := Lib.hid (HS10.out.trans hs10)
  have HU11 := Lib.hid (HU10.out.same hs10)
  have HA11 : Hid (W11.cell? ⟨w.heap.size, 1, none⟩ = some (.int .i64 n)) := by rw [← HA10.out]; exact Below.cell hs10 (World.block_lt_of_cell? _ _ HA10.out)
  clear hs10 c10 HA10 HU10 HS10
  have c11 := HA11.out
  go_wp2_with fail
  refine (Sub_un (some ⟨w.heap.size + 1, 0, none⟩) n W11 HU11.out).mono ?_
  rintro e W12 ⟨rfl, hs11⟩
  have HS12 := Lib.hid (HS11.out.trans hs11)
  have HU12 := Lib.hid (HU11.out.same hs11)
  have HA12 : Hid (W12.cell? ⟨w.heap.size, 1, none⟩ = some (.int .i64 n)) := by rw [← HA11.out]; exact Below.cell hs11 (World.block_lt_of_cell? _ _ HA11.out)
  clear hs11 c11 HA11 HU11 HS11
  have c12 := HA12.out
  go_wp2_with fail
  refine (Left_un (some ⟨w.heap.size + 1, 0, none⟩) W12 HU12.out).mono ?_
  rintro e W13 ⟨rfl, rfl⟩
  clear c12
  have c12 := HA12.out
  go_wp2_with fail
  refine (At_un (some ⟨w.heap.size + 1, 0, none⟩) W12 HU12.out).mono ?_
  rintro e W13 ⟨rfl, rfl⟩
  clear c12
  have c12 := HA12.out
  go_wp2_with fail
  refine (Err_un (some ⟨w.heap.size + 1, 0, none⟩) W12 HU12.out).mono ?_
  rintro e W13 ⟨rfl, rfl⟩
  clear c12
  have c12 := HA12.out
  go_wp2_with fail
  refine (End_un (some ⟨w.heap.size + 1, 0, none⟩) W12 HU12.out).mono ?_
  rintro e W13 ⟨rfl, rfl⟩
  clear c12
  go_wp2_with fail
  rw [rounds_succ]
  go_wp2_with fail
  refine (lives_true W12).mono ?_
  rintro e w9 ⟨rfl, hs9⟩
  have HS9 := Lib.hid (HS12.out.trans hs9)
  clear hs9
  go_wp2_with fail
  go_ret
  exact ⟨rfl, HS9.out⟩
end Go.Proofs.Ytphhnjfkniahdaa
