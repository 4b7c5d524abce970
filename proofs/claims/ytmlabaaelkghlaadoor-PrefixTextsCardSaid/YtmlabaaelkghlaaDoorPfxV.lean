/- Texts cut: the library's Cut at one byte, its CutPrefix at a point. No condition. -/
import Derived.Test.YtmlabaaelkghlaaDoorPfxG
import Derived.Test.YtmlabaaelkghlaaDoorShelf
namespace Go.Proofs.YtmlabaaelkghlaaDoor
open Go.RowKit
set_option linter.unusedVariables false
set_option maxRecDepth 100000

/-- what stands before the first c, and behind it; is there one -/
def cutB (c : UInt8) : List UInt8 → List UInt8 × List UInt8 × Bool
  | [] => ([], [], false)
  | b :: t => if b = c then ([], t, true) else (b :: (cutB c t).1, (cutB c t).2.1, (cutB c t).2.2)
theorem cutB_index (c : UInt8) : ∀ l : List UInt8, (Lib.indexByte l c = -1 ∧ cutB c l = (l, [], false)) ∨ ∃ i : Nat, Lib.indexByte l c = i ∧ i < l.length ∧ cutB c l = (l.take i, l.drop (i + 1), true)
  | [] => .inl ⟨rfl, rfl⟩
  | b :: t => by
    by_cases hb : b = c
    · subst hb
      exact .inr ⟨0, by simp [Lib.indexByte], by simp, by simp [cutB]⟩
    · have hb2 : (b == c) = false := by simpa using hb
      rcases cutB_index c t with ⟨h1, h2⟩ | ⟨i, h1, h2, h3⟩
      · exact .inl ⟨by simp [Lib.indexByte, hb2, h1], by simp [cutB, hb, h2]⟩
      · refine .inr ⟨i + 1, ?_, by simp; omega, by simp [cutB, hb, h3]⟩
        have : ((i : Int) == -1) = false := by rw [beq_eq_false_iff_ne]; omega
        simp [Lib.indexByte, hb2, h1, this]

theorem index_any (s : ByteArray) (c : UInt8) (w : World) : Calls Tryd.prog 50 #[.string s, .string ⟨#[c]⟩] w fun e w' => e = .returned (.int .i64 (Lib.indexByte s.data.toList c)) ∧ Same w w' :=
  (Any.stringslite_Index_one Tryd.layIndex s c w).mono fun _ _ ⟨h1, h2⟩ => ⟨h1, h2 ▸ Same.refl _⟩

theorem inCut_any (s : ByteArray) (hs : s.size ≤ 140737488355328) (c : UInt8) (w : World) :
    Calls Tryd.prog 38 #[.string s, .string ⟨#[c]⟩] w fun e w' => e = .returned (.tuple #[.string ⟨(cutB c s.data.toList).1.toArray⟩, .string ⟨(cutB c s.data.toList).2.1.toArray⟩, .bool (cutB c s.data.toList).2.2]) ∧ Same w w' := by
  have HI := fun w => Lib.hid (index_any s c w)
  have hsz : s.data.toList.length = s.size := Array.length_toList
  have hso : (⟨#[c]⟩ : ByteArray).size = 1 := rfl
  rcases cutB_index c s.data.toList with ⟨h1, h2⟩ | ⟨i, h1, h2, h3⟩
  · rw [h1] at HI
    rw [h2]
    have hss : (⟨s.data.toList.toArray⟩ : ByteArray) = s := by cases s; rfl
    dsimp only
    rw [hss]
    go_enter Tryd.func38, Tryd.ntmps38
    go_wp2_with fail
    refine (HI _).out.mono ?_
    rintro e u ⟨rfl, hu⟩
    go_wp2_with fail
    go_ret3
    exact ⟨rfl, hu⟩
  · rw [h1] at HI
    rw [h3]
    dsimp only
    have hi1 : (i : Int) ≤ s.size := by omega
    have hi2 : (i : Int) + 1 ≤ s.size := by omega
    have hi3 : (i : Int) ≤ 140737488355328 := by omega
    have hw1 : IntKind.i64.wrap ((i : Int) + 1) = i + 1 := IntWalk.i64_in _ (by omega)
    have hn1 : ((i : Int) + 1).toNat = i + 1 := by omega
    have hx1 := Lib.hid (Go.Lib.Pa.extract_upto s i)
    have hx2 := Lib.hid (Go.Lib.Pa.extract_from s (i + 1))
    have h01 : (0 : Int) ≤ (i : Int) + 1 := by omega
    clear h1 h2 h3 hsz
    go_enter Tryd.func38, Tryd.ntmps38
    go_wp2_with fail
    refine (HI _).out.mono ?_
    rintro e u ⟨rfl, hu⟩
    go_wp2_with fail
    refine reg_start (fun w' => Same u w') (by kernel_rfl) ?_
    refine reg_take (v := ?_) 0 (some 13) rfl rfl (by kernel_rfl) (fun _ _ _ h => h) (by kernel_rfl) ((Same.refl u).drew) ?_ ?_
    rotate_left
    · (intro w' hw'; go_simp; try with_reducible rfl)
    try simp only [Act.put, List.setIfInBounds_toArray, List.set_cons_zero, List.set_cons_succ]
    refine reg_take (v := ?_) 1 (some 14) rfl rfl (by kernel_rfl) (fun _ _ _ h => h) (by kernel_rfl) ((Same.refl u).drew) ?_ ?_
    rotate_left
    · (intro w' hw'; go_simp; try with_reducible rfl)
    try simp only [Act.put, List.setIfInBounds_toArray, List.set_cons_zero, List.set_cons_succ]
    refine reg_take (v := ?_) 2 (some 15) rfl rfl (by kernel_rfl) (fun _ _ _ h => h) (by kernel_rfl) ((Same.refl u).drew) ?_ ?_
    rotate_left
    · (intro w' hw'; go_simp; try with_reducible rfl)
    try simp only [Act.put, List.setIfInBounds_toArray, List.set_cons_zero, List.set_cons_succ]
    refine reg_take (v := ?_) 3 (some 16) rfl rfl (by kernel_rfl) (fun _ _ _ h => h) (by kernel_rfl) ((Same.refl u).drew) ?_ ?_
    rotate_left
    · (intro w' hw'; go_simp; try with_reducible rfl)
    try simp only [Act.put, List.setIfInBounds_toArray, List.set_cons_zero, List.set_cons_succ]
    refine reg_take (v := ?_) 4 (some 17) rfl rfl (by kernel_rfl) (fun _ _ _ h => h) (by kernel_rfl) ((Same.refl u).drew) ?_ ?_
    rotate_left
    · (intro w' hw'; go_simp; try with_reducible rfl)
    try simp only [Act.put, List.setIfInBounds_toArray, List.set_cons_zero, List.set_cons_succ]
    refine reg_take (v := ?_) 5 (some 18) rfl rfl (by kernel_rfl) (fun _ _ _ h => h) (by kernel_rfl) ((Same.refl u).drew) ?_ ?_
    rotate_left
    · (intro w' hw'; go_simp; try with_reducible rfl)
    try simp only [Act.put, List.setIfInBounds_toArray, List.set_cons_zero, List.set_cons_succ]
    refine reg_take (v := ?_) 6 (some 19) rfl rfl (by kernel_rfl) (fun _ _ _ h => h) (by kernel_rfl) ((Same.refl u).drew) ?_ ?_
    rotate_left
    · (intro w' hw'; go_simp; try with_reducible rfl)
    try simp only [Act.put, List.setIfInBounds_toArray, List.set_cons_zero, List.set_cons_succ]
    refine reg_take (v := ?_) 7 (some 20) rfl rfl (by kernel_rfl) (fun _ _ _ h => h) (by kernel_rfl) ((Same.refl u).drew) ?_ ?_
    rotate_left
    · (intro w' hw'; go_simp; try with_reducible rfl)
    try simp only [Act.put, List.setIfInBounds_toArray, List.set_cons_zero, List.set_cons_succ]
    refine reg_take (v := ?_) 8 (some 21) rfl rfl (by kernel_rfl) (fun _ _ _ h => h) (by kernel_rfl) ((Same.refl u).drew) ?_ ?_
    rotate_left
    · (intro w' hw'; go_simp; try with_reducible rfl)
    try simp only [Act.put, List.setIfInBounds_toArray, List.set_cons_zero, List.set_cons_succ]
    refine reg_take (v := ?_) 9 (some 4) rfl rfl (by kernel_rfl) (fun _ _ _ h => h) (by kernel_rfl) ((Same.refl u).drew) ?_ ?_
    rotate_left
    · (intro w' hw'; go_simp; try with_reducible rfl)
    try simp only [Act.put, List.setIfInBounds_toArray, List.set_cons_zero, List.set_cons_succ]
    refine reg_take (v := ?_) 10 (some 5) rfl rfl (by kernel_rfl) (fun _ _ _ h => h) (by kernel_rfl) ((Same.refl u).drew) ?_ ?_
    rotate_left
    · (intro w' hw'; go_simp; try with_reducible rfl)
    try simp only [Act.put, List.setIfInBounds_toArray, List.set_cons_zero, List.set_cons_succ]
    refine reg_take (v := ?_) 11 (some 6) rfl rfl (by kernel_rfl) (fun _ _ _ h => h) (by kernel_rfl) ((Same.refl u).drew) ?_ ?_
    rotate_left
    · (intro w' hw'; go_simp; try with_reducible rfl)
    try simp only [Act.put, List.setIfInBounds_toArray, List.set_cons_zero, List.set_cons_succ]
    refine reg_done (by kernel_rfl) ?_
    go_wp2_with fail
    go_ret3
    rw [hx1.out, hx2.out]
    exact ⟨rfl, hu.drew⟩

theorem Cut_any (s : ByteArray) (hs : s.size ≤ 140737488355328) (c : UInt8) (w : World) :
    Calls Tryd.prog 22 #[.string s, .string ⟨#[c]⟩] w fun e w' => e = .returned (.tuple #[.string ⟨(cutB c s.data.toList).1.toArray⟩, .string ⟨(cutB c s.data.toList).2.1.toArray⟩, .bool (cutB c s.data.toList).2.2]) ∧ Same w w' := by
  have HI := fun w => Lib.hid (inCut_any s hs c w)
  generalize cutB c s.data.toList = R at *
  go_enter Tryd.func22, Tryd.ntmps22
  go_wp2_with fail
  refine (HI _).out.mono ?_
  rintro e u ⟨rfl, hu⟩
  go_wp2_with fail
  go_ret3
  exact ⟨rfl, hu⟩

theorem CutPrefix_any (s q : ByteArray) (w : World) : Calls Tryd.prog 21 #[.string s, .string q] w fun e w' => e = .returned (.tuple #[.string ⟨(Lib.trimPrefix s.data.toList q.data.toList).toArray⟩, .bool (Lib.hasPrefix s.data.toList q.data.toList)]) ∧ Same w w' :=
  (Any.strings_CutPrefix Tryd.layCutPrefix s q w).mono fun _ _ ⟨h1, h2⟩ => ⟨h1, h2 ▸ Same.refl _⟩

theorem cutGo_le (most : Nat) : ∀ (l : List UInt8) (n : Nat) (st : Bool), n ≤ most → (cutGo most n st l).1 ≤ most ∧ (cutGo most n st l).2.1.length ≤ l.length
  | [], n, st, h => ⟨h, Nat.le_refl _⟩
  | c :: t, n, st, h => by
    rw [cutGo]
    split
    · split
      · exact ⟨Nat.zero_le _, Nat.zero_le _⟩
      · have := cutGo_le most t (n * 10 + (c.toNat - 48)) true (by omega)
        exact ⟨this.1, by simp; omega⟩
    · exact ⟨h, Nat.le_refl _⟩
theorem cutN_le (most : Nat) (l : List UInt8) : (cutN most l).1 ≤ most ∧ (cutN most l).2.1.length ≤ l.length := cutGo_le most l 0 false (Nat.zero_le _)
end Go.Proofs.YtmlabaaelkghlaaDoor
