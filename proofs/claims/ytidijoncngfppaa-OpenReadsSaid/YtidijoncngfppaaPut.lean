/- Contracts of what puts numbers into bytes. No condition beyond what each names. -/
import Derived.Test.YtidijoncngfppaaMem
import Derived.LoopN
import Derived.Handy
import Derived.Deep.DeepFit
namespace Go.Proofs.Ytidijoncngfppaa
open Go.RowKit
set_option linter.unusedVariables false

set_option maxRecDepth 100000 in
theorem grow_nil (n : Nat) (hn : (n : Int) ≤ 140737488355328) (w : World) :
    Calls Try.prog 50 #[.slice none 0 0, .int .i64 n] w fun e w' => ∃ v, e = .returned v ∧ OwnB w' w.heap.size v [] ∧ Same w w' := by
  by_cases h0 : n = 0
  · subst h0
    go_enter Try.func50, Try.ntmps50
    go_wp2
    go_ret
    exact ⟨_, rfl, OwnB.nil _ _, Same.refl _⟩
  · have hpos : 0 < (n : Int) := by omega
    obtain ⟨i0, hi, hz0, hz1, hz2⟩ := info_parts u8info
    have hr := Lib.run_append_nil_zeros (P := Try.prog) w 28 3 28 5 i0 (.int .u8 0) .i64 .i64 Try.underlying28 Try.underlying3 hi hz0 n (by omega) (by omega) (by omega) (by rw [hz2]; omega)
    have hge := grownCap_ge w n 0 5
    have hle := grownCap_le_maxLen w n 0 5 (by unfold maxLen; omega)
    have ho := World.ownsRow_made (base := w.heap.size) (e := 5) (size := 1) w.drew (Builtin.zeroCells (Value.int .u8 0).cells n ++ Builtin.zeroCells (Value.int .u8 0).cells (grownCap w n 0 5 - n)) (grownCap w n 0 5) (Nat.le_refl _) hle (by simp [size_zeroCells, Value.cells]; omega)
    have hs : Same w (w.drew.alloc (.cells (Builtin.zeroCells (Value.int .u8 0).cells n ++ Builtin.zeroCells (Value.int .u8 0).cells (grownCap w n 0 5 - n)) 5)) := (Same.refl w).drew.trans (Same.alloc _ _)
    unfold maxLen at hle
    have HR := Lib.hid hr
    clear hr hz0 hz1 hz2 hi
    generalize (Builtin.zeroCells (Value.int .u8 0).cells n ++ Builtin.zeroCells (Value.int .u8 0).cells (grownCap w n 0 5 - n)) = cs at *
    generalize grownCap w n 0 5 = cap at *
    have hcap : ¬ cap = 0 := by omega
    have HO := Lib.hid ho
    have HS := Lib.hid hs
    clear ho hs
    go_enter Try.func50, Try.ntmps50
    go_wp2_with (at_builtin; refine Lib.wpList_append_run _ rfl _ _ _ _ rfl _ _ rfl rfl _ _ HR.out ?_)
    go_ret
    exact ⟨_, rfl, HO.out, HS.out⟩

theorem concat_two (g : Nat) (v1 v2 : Value) (l1 l2 : List UInt8) (w : World) (h1 : Bs w v1 l1) (h2 : Bs w v2 l2) (hl : l1.length + l2.length ≤ 140737488355328)
    (hg : w.heap[g]? = some (.cells #[v1, v2] 28 (0, 0))) :
    Calls Try.prog 26 #[.slice (some ⟨g, 0, none⟩) 2 2] w fun e w' => ∃ v, e = .returned v ∧ OwnB w' w.heap.size v (l1 ++ l2) ∧ Same w w' := by
  have H1 := Lib.hid h1
  have H2 := Lib.hid h2
  have HG := Lib.hid hg
  obtain ⟨ao1, cap1, rfl, p1, p2, p3, p4⟩ := h1
  obtain ⟨ao2, cap2, rfl, q1, q2, q3, q4⟩ := h2
  clear p4 q4
  have c0 : w.cell? ⟨g, 0, none⟩ = some (.slice ao1 l1.length cap1) := by simp [World.cell?, hg]
  have c1 : w.cell? ⟨g, 1, none⟩ = some (.slice ao2 l2.length cap2) := by simp [World.cell?, hg]
  clear hg
  have b1 : (l1.length : Int) + l2.length ≤ 140737488355328 := by omega
  have HGrow := grow_nil (l1.length + l2.length) (by omega) w
  rw [Int.natCast_add] at HGrow
  have HGrow' := Lib.hid HGrow
  clear HGrow
  go_enter Try.func26, Try.ntmps26
  go_wp2_with fail
  refine wp_loop_rounds 3 ?_
  repeat any_goals (rw [rounds_succ]; go_wp2_with fail)
  refine HGrow'.out.mono ?_
  rintro e w1 ⟨v, rfl, ho, hs⟩
  have c0' : w1.cell? ⟨g, 0, none⟩ = some (.slice ao1 l1.length cap1) := by rw [Below.cell hs (World.block_lt_of_cell? w _ c0)]; exact c0
  have HO := Lib.hid ho
  have HS := Lib.hid hs
  clear ho hs c0
  go_wp2_with fail
  refine wp_loop_rounds 3 ?_
  rw [rounds_succ]
  go_wp2_with (at_builtin; refine wpList_append_bs rfl _ _ rfl w HS.out _ [] rfl HO.out _ l1 rfl (H1.out.same HS.out) (by simp; omega) ?_; intro v2 w2 ho2 hs2)
  rw [List.nil_append] at ho2
  have c1' : w2.cell? ⟨g, 1, none⟩ = some (.slice ao2 l2.length cap2) := by rw [Below.cell hs2 (World.block_lt_of_cell? w _ c1)]; exact c1
  have HO2 := Lib.hid ho2
  have HS2 := Lib.hid hs2
  clear ho2 hs2 c1 c0' HO HS
  rw [rounds_succ]
  go_wp2_with (at_builtin; refine wpList_append_bs rfl _ _ rfl w HS2.out _ l1 rfl HO2.out _ l2 rfl (H2.out.same HS2.out) hl ?_; intro v3 w3 ho3 hs3)
  have HO3 := Lib.hid ho3
  have HS3 := Lib.hid hs3
  clear ho3 hs3 HO2 HS2 c1'
  rw [rounds_succ]
  go_wp2_with fail
  go_ret
  exact ⟨_, rfl, HO3.out, HS3.out⟩

theorem put_any (v x : Value) (l m : List UInt8) (w : World) (h1 : Bs w v l) (h2 : Bs w x m) (hl : l.length + m.length ≤ 140737488355328) :
    Calls Try.prog 49 #[v, x] w fun e w' => ∃ v', e = .returned v' ∧ OwnB w' w.heap.size v' (l ++ m) ∧ Same w w' := by
  have hsm := Lib.hid (Same.alloc w (.cells #[v, x] 28))
  have HC := Lib.hid (concat_two w.heap.size v x l m _ (h1.same hsm.out) (h2.same hsm.out) hl (heap_alloc_new w _))
  obtain ⟨ao1, cap1, rfl, p1, p2, p3, p4⟩ := h1
  obtain ⟨ao2, cap2, rfl, q1, q2, q3, q4⟩ := h2
  clear p4 q4
  go_enter Try.func49, Try.ntmps49
  go_wp2_with fail
  refine HC.out.mono ?_
  rintro e w1 ⟨v1, rfl, ho, hs⟩
  go_wp2_with fail
  go_ret
  exact ⟨_, rfl, ho.mono hsm.out.size, hsm.out.trans hs⟩

theorem Put8_any (v : Value) (l : List UInt8) (n : Int) (w : World) (h1 : Bs w v l) (hl : l.length + 1 ≤ 140737488355328) :
    Calls Try.prog 23 #[v, .int .i64 n] w fun e w' => ∃ v', e = .returned v' ∧ OwnB w' w.heap.size v' (l ++ [byteAt n 0]) ∧ Same w w' := by
  have hsm := Lib.hid (Same.alloc w (.cells #[.int .u8 (n % 256)] 5))
  have hb : Bs (w.alloc (.cells #[.int .u8 (n % 256)] 5)) (.slice (some ⟨w.heap.size, 0, none⟩) 1 1) [byteAt n 0] := by
    simpa [b8_byteAt] using Bs.made w [byteAt n 0] 5 (by simp)
  have HC := Lib.hid (put_any v _ l _ _ (h1.same hsm.out) hb hl)
  clear hb
  obtain ⟨ao1, cap1, rfl, p1, p2, p3, p4⟩ := h1
  clear p4
  go_enter Try.func23, Try.ntmps23
  go_wp2_with fail
  refine HC.out.mono ?_
  rintro e w1 ⟨v1, rfl, ho, hs⟩
  go_wp2_with fail
  go_ret
  exact ⟨_, rfl, ho.mono hsm.out.size, hsm.out.trans hs⟩

theorem Put16_any (v : Value) (l : List UInt8) (n : Int) (w : World) (h1 : Bs w v l) (hl : l.length + 2 ≤ 140737488355328) :
    Calls Try.prog 24 #[v, .int .i64 n] w fun e w' => ∃ v', e = .returned v' ∧ OwnB w' w.heap.size v' (l ++ [byteAt n 1, byteAt n 0]) ∧ Same w w' := by
  have hsm := Lib.hid (Same.alloc w (.cells #[.int .u8 (n / 256 % 256), .int .u8 (n % 256)] 5))
  have hb : Bs (w.alloc (.cells #[.int .u8 (n / 256 % 256), .int .u8 (n % 256)] 5)) (.slice (some ⟨w.heap.size, 0, none⟩) 2 2) [byteAt n 1, byteAt n 0] := by
    simpa [b8_byteAt] using Bs.made w [byteAt n 1, byteAt n 0] 5 (by simp)
  have HC := Lib.hid (put_any v _ l _ _ (h1.same hsm.out) hb hl)
  clear hb
  obtain ⟨ao1, cap1, rfl, p1, p2, p3, p4⟩ := h1
  clear p4
  go_enter Try.func24, Try.ntmps24
  go_wp2_with fail
  refine HC.out.mono ?_
  rintro e w1 ⟨v1, rfl, ho, hs⟩
  go_wp2_with fail
  go_ret
  exact ⟨_, rfl, ho.mono hsm.out.size, hsm.out.trans hs⟩

theorem Put32_any (v : Value) (l : List UInt8) (n : Int) (w : World) (h1 : Bs w v l) (hl : l.length + 4 ≤ 140737488355328) :
    Calls Try.prog 25 #[v, .int .u32 n] w fun e w' => ∃ v', e = .returned v' ∧ OwnB w' w.heap.size v' (l ++ [byteAt n 3, byteAt n 2, byteAt n 1, byteAt n 0]) ∧ Same w w' := by
  have hsm := Lib.hid (Same.alloc w (.cells #[.int .u8 (n / 16777216 % 256), .int .u8 (n / 65536 % 256), .int .u8 (n / 256 % 256), .int .u8 (n % 256)] 5))
  have hb : Bs (w.alloc (.cells #[.int .u8 (n / 16777216 % 256), .int .u8 (n / 65536 % 256), .int .u8 (n / 256 % 256), .int .u8 (n % 256)] 5)) (.slice (some ⟨w.heap.size, 0, none⟩) 4 4) [byteAt n 3, byteAt n 2, byteAt n 1, byteAt n 0] := by
    simpa [b8_byteAt] using Bs.made w [byteAt n 3, byteAt n 2, byteAt n 1, byteAt n 0] 5 (by simp)
  have HC := Lib.hid (put_any v _ l _ _ (h1.same hsm.out) hb hl)
  clear hb
  obtain ⟨ao1, cap1, rfl, p1, p2, p3, p4⟩ := h1
  clear p4
  go_enter Try.func25, Try.ntmps25
  go_wp2_with fail
  refine HC.out.mono ?_
  rintro e w1 ⟨v1, rfl, ho, hs⟩
  go_wp2_with fail
  go_ret
  exact ⟨_, rfl, ho.mono hsm.out.size, hsm.out.trans hs⟩

end Go.Proofs.Ytidijoncngfppaa
