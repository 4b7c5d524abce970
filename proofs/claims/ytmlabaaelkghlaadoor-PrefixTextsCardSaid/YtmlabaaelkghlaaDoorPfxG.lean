/- The developers' cutNumber, at every string. No condition beyond what it names. -/
import Derived.Test.YtmlabaaelkghlaaDoorPfxF
import Derived.LoopTactic
import Derived.Lib.OthersKept
import Derived.Lib.BufferKept
import Derived.Lib.PathFns
import Derived.Laws.RangeAny
import Derived.OwnWalk
namespace Go.Proofs.YtmlabaaelkghlaaDoor
open Go.RowKit
set_option linter.unusedVariables false
set_option maxRecDepth 100000

/-- the number with which bytes begin, what stands behind it, and is there one -/
def cutGo (most : Nat) : Nat → Bool → List UInt8 → Nat × List UInt8 × Bool
  | n, st, [] => (n, [], st)
  | n, st, c :: t =>
    if 48 ≤ c.toNat ∧ c.toNat ≤ 57 then
      if (st = true ∧ n = 0) ∨ most < n * 10 + (c.toNat - 48) then (0, [], false) else cutGo most (n * 10 + (c.toNat - 48)) true t
    else (n, c :: t, st)
def cutN (most : Nat) (l : List UInt8) : Nat × List UInt8 × Bool := cutGo most 0 false l

theorem cutGo_stop (most n : Nat) (st : Bool) (c : UInt8) (t : List UInt8) (h : ¬ (48 ≤ c.toNat ∧ c.toNat ≤ 57)) : cutGo most n st (c :: t) = (n, c :: t, st) := by
  rw [cutGo, if_neg h]
theorem cutGo_bad (most n : Nat) (st : Bool) (c : UInt8) (t : List UInt8) (h : 48 ≤ c.toNat ∧ c.toNat ≤ 57) (h2 : (st = true ∧ n = 0) ∨ most < n * 10 + (c.toNat - 48)) : cutGo most n st (c :: t) = (0, [], false) := by
  rw [cutGo, if_pos h, if_pos h2]
theorem cutGo_go (most n : Nat) (st : Bool) (c : UInt8) (t : List UInt8) (h : 48 ≤ c.toNat ∧ c.toNat ≤ 57) (h2 : ¬ ((st = true ∧ n = 0) ∨ most < n * 10 + (c.toNat - 48))) : cutGo most n st (c :: t) = cutGo most (n * 10 + (c.toNat - 48)) true t := by
  rw [cutGo, if_pos h, if_neg h2]

theorem cutNumber_any (most : Nat) (hm : most ≤ 255) (s : ByteArray) (hs : s.size ≤ 140737488355328) (w : World) :
    Calls Tryd.prog 20 #[.string s, .int .i64 most] w fun e w' => e = .returned (.tuple #[.int .i64 (cutN most s.data.toList).1, .string ⟨(cutN most s.data.toList).2.1.toArray⟩, .bool (cutN most s.data.toList).2.2]) ∧ Same w w' := by
  obtain ⟨R, hR⟩ : ∃ R, R = cutN most s.data.toList := ⟨_, rfl⟩
  rw [← hR]
  go_enter Tryd.func20, Tryd.ntmps20
  go_wp2_with fail
  go_loopw [4] (fun nv wr => ∃ pos n : Nat, pos ≤ s.size ∧ nv = .int .i64 n ∧ n ≤ most ∧ wr.heap[w.heap.size]? = some (.stringIter s pos) ∧ Same w wr ∧ cutGo most n (decide (0 < pos)) (s.data.toList.drop pos) = R) (fun _ wr => s.size - wr.iterPos w.heap.size)
  case atStart =>
    refine ⟨0, 0, Nat.zero_le _, rfl, Nat.zero_le _, ?_, Same.alloc _ _, by rw [hR]; rfl⟩
    simpa using World.iter_heap w s 0
  case round =>
    obtain ⟨pos, n, hp, rfl, hn, hit, hsm, hres⟩ := hrel
    have hszl : s.data.toList.length = s.size := Array.length_toList
    by_cases hlt : pos < s.size
    · obtain ⟨c, hc⟩ : ∃ c, c = s[pos]'hlt := ⟨_, rfl⟩
      have hdrop : s.data.toList.drop pos = c :: s.data.toList.drop (pos + 1) := by
        rw [List.drop_eq_getElem_cons (by omega), hc]; rfl
      have hrun : ∃ (r : Nat) (d : Nat), (∀ ty, (Instr.next (.pointer (some ⟨w.heap.size, 0, none⟩)) true ty).run Tryd.prog wr = .ok (.tuple #[.bool true, .int .i64 pos, .int .i32 r]) (wr.iterAt w.heap.size s (pos + d))) ∧ ((c.toNat < 128 ∧ r = c.toNat ∧ d = 1) ∨ (128 ≤ c.toNat ∧ 128 ≤ r)) ∧ r ≤ 2147483647 := by
        by_cases ha : (s[pos]'hlt).toNat < 128
        · exact ⟨c.toNat, 1, fun ty => by rw [hc]; exact Lib.run_next_ascii_at wr _ s pos ty hit hlt ha, .inl ⟨by rw [hc]; exact ha, rfl, rfl⟩, by rw [hc]; omega⟩
        · exact ⟨(Utf8.decode s pos).1, (Utf8.decode s pos).2, fun ty => Lib.run_next_any_at wr _ s pos ty hit hlt, .inr ⟨by rw [hc]; omega, (decode_high s pos hlt (by omega)).1⟩, decode_le s pos⟩
      obtain ⟨r, d, hnx, hrd, hrle⟩ := hrun
      clear hc
      rw [hdrop] at hres
      have HS := Lib.hid hsm
      have HIT := Lib.hid hit
      have hbel := Lib.hid (Lib.below_iterAt hsm (k := w.heap.size) (Nat.le_refl _) s (pos + d))
      have hit2 := Lib.hid (Lib.iterAt_heap wr w.heap.size s pos (pos + d) hit)
      clear hsm
      have hp0 : (pos : Int) ≤ 140737488355328 := by omega
      have hp1 : (pos : Int) ≤ s.size := by omega
      by_cases hdig : 48 ≤ r ∧ r ≤ 57
      · obtain ⟨x, hx⟩ : ∃ x, r = 48 + x := ⟨r - 48, by omega⟩
        have hcx : c.toNat = 48 + x ∧ d = 1 := by omega
        obtain ⟨hcx, rfl⟩ := hcx
        subst hx
        have hcd : 48 ≤ c.toNat ∧ c.toNat ≤ 57 := by omega
        have hx9 : (x : Int) ≤ 9 := by omega
        have hn255 : (n : Int) ≤ 255 := by omega
        have hsub : c.toNat - 48 = x := by omega
        have h48 : ((48 + x : Nat) : Int) = 48 + (x : Int) := by omega
        rw [h48] at hnx
        generalize hW2 : wr.iterAt w.heap.size s (pos + 1) = W2 at *
        clear h48 hrd hdrop hit
        by_cases hp0 : pos = 0
        · have hst : decide (0 < pos) = false := by simp [hp0]
          rw [hst] at hres
          have hpi : decide ((0 : Int) < (pos : Int)) = false := by simp [hp0]
          by_cases hbig : most < n * 10 + x
          · have hbig' : (most : Int) < (n : Int) * 10 + x := by omega
            rw [cutGo_bad most n _ c _ hcd (.inr (by omega))] at hres
            subst hres
            go_wp2_with fail
            go_ret3
            exact ⟨rfl, hbel.out⟩
          · have hbig' : (n : Int) * 10 + x ≤ (most : Int) := by omega
            rw [cutGo_go most n _ c _ hcd (by simp; omega), hsub] at hres
            go_wp2_with fail
            refine ⟨⟨pos + 1, n * 10 + x, by omega, by go_num, by omega, hit2.out, hbel.out, ?_⟩, ?_⟩
            · simpa using hres
            · simp only [World.iterPos, hit2.out, HIT.out]; omega
        · have hst : decide (0 < pos) = true := by simp; omega
          rw [hst] at hres
          have hpi : decide ((0 : Int) < (pos : Int)) = true := by simp; omega
          by_cases hn0 : n = 0
          · subst hn0
            rw [cutGo_bad most 0 _ c _ hcd (.inl ⟨rfl, rfl⟩)] at hres
            subst hres
            go_wp2_with fail
            go_ret3
            exact ⟨rfl, hbel.out⟩
          · have hn0' : ((n : Int) == 0) = false := by rw [beq_eq_false_iff_ne]; omega
            by_cases hbig : most < n * 10 + x
            · have hbig' : (most : Int) < (n : Int) * 10 + x := by omega
              rw [cutGo_bad most n _ c _ hcd (.inr (by omega))] at hres
              subst hres
              go_wp2_with fail
              go_ret3
              exact ⟨rfl, hbel.out⟩
            · have hbig' : (n : Int) * 10 + x ≤ (most : Int) := by omega
              rw [cutGo_go most n _ c _ hcd (by simp [hn0]; omega), hsub] at hres
              go_wp2_with fail
              refine ⟨⟨pos + 1, n * 10 + x, by omega, by go_num, by omega, hit2.out, hbel.out, ?_⟩, ?_⟩
              · simpa using hres
              · simp only [World.iterPos, hit2.out, HIT.out]; omega
      · have hcd : ¬ (48 ≤ c.toNat ∧ c.toNat ≤ 57) := by omega
        rw [cutGo_stop most n _ c _ hcd, ← hdrop] at hres
        subst hres
        generalize hW2 : wr.iterAt w.heap.size s (pos + d) = W2 at *
        have hex := Go.Lib.Pa.extract_from s pos
        clear hit hit2 hrd hcd hdrop
        rcases (show r < 48 ∨ 57 < r by omega) with hr | hr
        · have hr' : (r : Int) < 48 := by omega
          go_wp2_with fail
          refine reg_start (fun w' => Same W2 w') (by kernel_rfl) ?_
          refine reg_take (v := ?_) 0 (some 22) rfl rfl (by kernel_rfl) (fun _ _ _ h => h) (by kernel_rfl) ((Same.refl W2).drew) ?_ ?_
          rotate_left
          · (intro w' hw'; go_simp; try with_reducible rfl)
          try simp only [Act.put, List.setIfInBounds_toArray, List.set_cons_zero, List.set_cons_succ]
          refine reg_take (v := ?_) 1 (some 23) rfl rfl (by kernel_rfl) (fun _ _ _ h => h) (by kernel_rfl) ((Same.refl W2).drew) ?_ ?_
          rotate_left
          · (intro w' hw'; go_simp; try with_reducible rfl)
          try simp only [Act.put, List.setIfInBounds_toArray, List.set_cons_zero, List.set_cons_succ]
          refine reg_take (v := ?_) 2 (some 24) rfl rfl (by kernel_rfl) (fun _ _ _ h => h) (by kernel_rfl) ((Same.refl W2).drew) ?_ ?_
          rotate_left
          · (intro w' hw'; go_simp; try with_reducible rfl)
          try simp only [Act.put, List.setIfInBounds_toArray, List.set_cons_zero, List.set_cons_succ]
          refine reg_take (v := ?_) 3 (some 25) rfl rfl (by kernel_rfl) (fun _ _ _ h => h) (by kernel_rfl) ((Same.refl W2).drew) ?_ ?_
          rotate_left
          · (intro w' hw'; go_simp; try with_reducible rfl)
          try simp only [Act.put, List.setIfInBounds_toArray, List.set_cons_zero, List.set_cons_succ]
          refine reg_take (v := ?_) 4 (some 26) rfl rfl (by kernel_rfl) (fun _ _ _ h => h) (by kernel_rfl) ((Same.refl W2).drew) ?_ ?_
          rotate_left
          · (intro w' hw'; go_simp; try with_reducible rfl)
          try simp only [Act.put, List.setIfInBounds_toArray, List.set_cons_zero, List.set_cons_succ]
          refine reg_take (v := ?_) 5 (some 27) rfl rfl (by kernel_rfl) (fun _ _ _ h => h) (by kernel_rfl) ((Same.refl W2).drew) ?_ ?_
          rotate_left
          · (intro w' hw'; go_simp; try with_reducible rfl)
          try simp only [Act.put, List.setIfInBounds_toArray, List.set_cons_zero, List.set_cons_succ]
          refine reg_take (v := ?_) 6 (some 4) rfl rfl (by kernel_rfl) (fun _ _ _ h => h) (by kernel_rfl) ((Same.refl W2).drew) ?_ ?_
          rotate_left
          · (intro w' hw'; go_simp; try with_reducible rfl)
          try simp only [Act.put, List.setIfInBounds_toArray, List.set_cons_zero, List.set_cons_succ]
          refine reg_take (v := ?_) 7 (some 5) rfl rfl (by kernel_rfl) (fun _ _ _ h => h) (by kernel_rfl) ((Same.refl W2).drew) ?_ ?_
          rotate_left
          · (intro w' hw'; go_simp; try with_reducible rfl)
          try simp only [Act.put, List.setIfInBounds_toArray, List.set_cons_zero, List.set_cons_succ]
          refine reg_take (v := ?_) 8 (some 6) rfl rfl (by kernel_rfl) (fun _ _ _ h => h) (by kernel_rfl) ((Same.refl W2).drew) ?_ ?_
          rotate_left
          · (intro w' hw'; go_simp; try with_reducible rfl)
          try simp only [Act.put, List.setIfInBounds_toArray, List.set_cons_zero, List.set_cons_succ]
          refine reg_done (by kernel_rfl) ?_
          go_wp2_with fail
          go_ret3
          exact ⟨by first | rfl | simp, hbel.out.drew⟩
        · have hr' : (57 : Int) < (r : Int) := by omega
          go_wp2_with fail
          refine reg_start (fun w' => Same W2 w') (by kernel_rfl) ?_
          refine reg_take (v := ?_) 0 (some 22) rfl rfl (by kernel_rfl) (fun _ _ _ h => h) (by kernel_rfl) ((Same.refl W2).drew) ?_ ?_
          rotate_left
          · (intro w' hw'; go_simp; try with_reducible rfl)
          try simp only [Act.put, List.setIfInBounds_toArray, List.set_cons_zero, List.set_cons_succ]
          refine reg_take (v := ?_) 1 (some 23) rfl rfl (by kernel_rfl) (fun _ _ _ h => h) (by kernel_rfl) ((Same.refl W2).drew) ?_ ?_
          rotate_left
          · (intro w' hw'; go_simp; try with_reducible rfl)
          try simp only [Act.put, List.setIfInBounds_toArray, List.set_cons_zero, List.set_cons_succ]
          refine reg_take (v := ?_) 2 (some 24) rfl rfl (by kernel_rfl) (fun _ _ _ h => h) (by kernel_rfl) ((Same.refl W2).drew) ?_ ?_
          rotate_left
          · (intro w' hw'; go_simp; try with_reducible rfl)
          try simp only [Act.put, List.setIfInBounds_toArray, List.set_cons_zero, List.set_cons_succ]
          refine reg_take (v := ?_) 3 (some 25) rfl rfl (by kernel_rfl) (fun _ _ _ h => h) (by kernel_rfl) ((Same.refl W2).drew) ?_ ?_
          rotate_left
          · (intro w' hw'; go_simp; try with_reducible rfl)
          try simp only [Act.put, List.setIfInBounds_toArray, List.set_cons_zero, List.set_cons_succ]
          refine reg_take (v := ?_) 4 (some 26) rfl rfl (by kernel_rfl) (fun _ _ _ h => h) (by kernel_rfl) ((Same.refl W2).drew) ?_ ?_
          rotate_left
          · (intro w' hw'; go_simp; try with_reducible rfl)
          try simp only [Act.put, List.setIfInBounds_toArray, List.set_cons_zero, List.set_cons_succ]
          refine reg_take (v := ?_) 5 (some 27) rfl rfl (by kernel_rfl) (fun _ _ _ h => h) (by kernel_rfl) ((Same.refl W2).drew) ?_ ?_
          rotate_left
          · (intro w' hw'; go_simp; try with_reducible rfl)
          try simp only [Act.put, List.setIfInBounds_toArray, List.set_cons_zero, List.set_cons_succ]
          refine reg_take (v := ?_) 6 (some 4) rfl rfl (by kernel_rfl) (fun _ _ _ h => h) (by kernel_rfl) ((Same.refl W2).drew) ?_ ?_
          rotate_left
          · (intro w' hw'; go_simp; try with_reducible rfl)
          try simp only [Act.put, List.setIfInBounds_toArray, List.set_cons_zero, List.set_cons_succ]
          refine reg_take (v := ?_) 7 (some 5) rfl rfl (by kernel_rfl) (fun _ _ _ h => h) (by kernel_rfl) ((Same.refl W2).drew) ?_ ?_
          rotate_left
          · (intro w' hw'; go_simp; try with_reducible rfl)
          try simp only [Act.put, List.setIfInBounds_toArray, List.set_cons_zero, List.set_cons_succ]
          refine reg_take (v := ?_) 8 (some 6) rfl rfl (by kernel_rfl) (fun _ _ _ h => h) (by kernel_rfl) ((Same.refl W2).drew) ?_ ?_
          rotate_left
          · (intro w' hw'; go_simp; try with_reducible rfl)
          try simp only [Act.put, List.setIfInBounds_toArray, List.set_cons_zero, List.set_cons_succ]
          refine reg_done (by kernel_rfl) ?_
          go_wp2_with fail
          go_ret3
          exact ⟨by first | rfl | simp, hbel.out.drew⟩
    · have hend : pos = s.size := by omega
      have hnx : ∀ ty, (Instr.next (.pointer (some ⟨w.heap.size, 0, none⟩)) true ty).run Tryd.prog wr = _ := fun ty => Lib.run_next_end_at wr w.heap.size s pos ty hit hlt
      rw [List.drop_of_length_le (by omega)] at hres
      rw [cutGo] at hres
      subst hres
      have HNE : Hid ((!s.toList.isEmpty) = decide (0 < s.size)) := by
        show _ = _
        rw [ByteArray.toList_eq]
        rw [← hszl]
        cases s.data.toList with
        | nil => rfl
        | cons a t => simp
      have hpe : decide (0 < pos) = decide (0 < s.size) := by rw [hend]
      go_wp2_with fail
      go_ret3
      rw [HNE.out]
      exact ⟨by first | rfl | simp, hsm⟩
end Go.Proofs.YtmlabaaelkghlaaDoor
