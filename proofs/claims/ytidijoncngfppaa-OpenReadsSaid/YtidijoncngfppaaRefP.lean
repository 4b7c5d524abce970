/- Contract of the document's own Put of layer 1. No condition beyond what each names. -/
import Derived.Test.YtidijoncngfppaaMem
import Derived.LoopN
namespace Go.Proofs.Ytidijoncngfppaa
open Go.RowKit
set_option linter.unusedVariables false

theorem Bs.one0 (w : World) (n : Int) : Bs (w.alloc (.cells #[.int .u8 (n % 256)] 5)) (.slice (some ⟨w.heap.size, 0, none⟩) 1 1) [byteAt n 0] := by
  simpa [b8_byteAt] using Bs.made w [byteAt n 0] 5 (by simp)

theorem Bs.one1 (w : World) (n : Int) : Bs (w.alloc (.cells #[.int .u8 (n / 256 % 256)] 5)) (.slice (some ⟨w.heap.size, 0, none⟩) 1 1) [byteAt n 1] := by
  simpa [b8_byteAt] using Bs.made w [byteAt n 1] 5 (by simp)

theorem Bs.one2 (w : World) (n : Int) : Bs (w.alloc (.cells #[.int .u8 (n / 65536 % 256)] 5)) (.slice (some ⟨w.heap.size, 0, none⟩) 1 1) [byteAt n 2] := by
  simpa [b8_byteAt] using Bs.made w [byteAt n 2] 5 (by simp)

theorem Bs.one3 (w : World) (n : Int) : Bs (w.alloc (.cells #[.int .u8 (n / 16777216 % 256)] 5)) (.slice (some ⟨w.heap.size, 0, none⟩) 1 1) [byteAt n 3] := by
  simpa [b8_byteAt] using Bs.made w [byteAt n 3] 5 (by simp)

theorem rPut_one (v : Value) (l : List UInt8) (n : Int) (w : World) (hb : Bs w v l) (hl : l.length + 1 ≤ 140737488355328) (h0 : 0 ≤ n) (h1 : n ≤ 18446744073709551615) :
    Calls Try.prog 29 #[v, .int .u64 n, .int .i64 1] w fun e w' => ∃ v', e = .returned v' ∧ OwnB w' w.heap.size v' (l ++ [byteAt n 0]) ∧ Same w w' := by
  have H := Lib.hid hb
  obtain ⟨ao, cap, rfl, b1, b2, b3, b4⟩ := hb
  clear b3 b4
  have HL := Lib.hid (show ([] : List UInt8).length + l.length ≤ 140737488355328 by simp; omega)
  have HL0 := Lib.hid (show (l).length + [byteAt n 0].length ≤ 140737488355328 by simp; omega)
  go_enter Try.func29, Try.ntmps29
  go_wp2_with (at_builtin; refine wpList_append_bs rfl _ _ rfl w (Same.alloc _ _) _ [] rfl (OwnB.empty w) _ l rfl ((H.out).same (Same.alloc _ _)) HL.out ?_; intro v1 w1 ho1 hs1; rw [List.nil_append] at ho1)
  have HO0 := Lib.hid ho1
  have HS0 := Lib.hid hs1
  clear ho1 hs1
  refine wp_loop_rounds 2 ?_
  rw [rounds_succ]
  go_wp2_with (at_builtin; refine wpList_append_bs rfl _ _ rfl w (HS0.out.trans (Same.alloc _ _)) _ _ rfl (HO0.out.same (Same.alloc _ _)) _ [byteAt n 0] rfl (Bs.one0 w1 n) HL0.out ?_; intro v2 w2 ho2 hs2)
  have HO1 := Lib.hid ho2
  have HS1 := Lib.hid hs2
  clear ho2 hs2 HO0 HS0
  rw [rounds_succ]
  go_wp2_with fail
  go_ret
  exact ⟨_, rfl, by simpa [List.append_assoc] using HO1.out, HS1.out⟩

theorem rPut_two (v : Value) (l : List UInt8) (n : Int) (w : World) (hb : Bs w v l) (hl : l.length + 2 ≤ 140737488355328) (h0 : 0 ≤ n) (h1 : n ≤ 18446744073709551615) :
    Calls Try.prog 29 #[v, .int .u64 n, .int .i64 2] w fun e w' => ∃ v', e = .returned v' ∧ OwnB w' w.heap.size v' (l ++ [byteAt n 1, byteAt n 0]) ∧ Same w w' := by
  have H := Lib.hid hb
  obtain ⟨ao, cap, rfl, b1, b2, b3, b4⟩ := hb
  clear b3 b4
  have HL := Lib.hid (show ([] : List UInt8).length + l.length ≤ 140737488355328 by simp; omega)
  have HL0 := Lib.hid (show (l).length + [byteAt n 1].length ≤ 140737488355328 by simp; omega)
  have HL1 := Lib.hid (show (l ++ [byteAt n 1]).length + [byteAt n 0].length ≤ 140737488355328 by simp; omega)
  go_enter Try.func29, Try.ntmps29
  go_wp2_with (at_builtin; refine wpList_append_bs rfl _ _ rfl w (Same.alloc _ _) _ [] rfl (OwnB.empty w) _ l rfl ((H.out).same (Same.alloc _ _)) HL.out ?_; intro v1 w1 ho1 hs1; rw [List.nil_append] at ho1)
  have HO0 := Lib.hid ho1
  have HS0 := Lib.hid hs1
  clear ho1 hs1
  refine wp_loop_rounds 3 ?_
  rw [rounds_succ]
  go_wp2_with (at_builtin; refine wpList_append_bs rfl _ _ rfl w (HS0.out.trans (Same.alloc _ _)) _ _ rfl (HO0.out.same (Same.alloc _ _)) _ [byteAt n 1] rfl (Bs.one1 w1 n) HL0.out ?_; intro v2 w2 ho2 hs2)
  have HO1 := Lib.hid ho2
  have HS1 := Lib.hid hs2
  clear ho2 hs2 HO0 HS0
  rw [rounds_succ]
  go_wp2_with (at_builtin; refine wpList_append_bs rfl _ _ rfl w (HS1.out.trans (Same.alloc _ _)) _ _ rfl (HO1.out.same (Same.alloc _ _)) _ [byteAt n 0] rfl (Bs.one0 w2 n) HL1.out ?_; intro v3 w3 ho3 hs3)
  have HO2 := Lib.hid ho3
  have HS2 := Lib.hid hs3
  clear ho3 hs3 HO1 HS1
  rw [rounds_succ]
  go_wp2_with fail
  go_ret
  exact ⟨_, rfl, by simpa [List.append_assoc] using HO2.out, HS2.out⟩

theorem rPut_four (v : Value) (l : List UInt8) (n : Int) (w : World) (hb : Bs w v l) (hl : l.length + 4 ≤ 140737488355328) (h0 : 0 ≤ n) (h1 : n ≤ 18446744073709551615) :
    Calls Try.prog 29 #[v, .int .u64 n, .int .i64 4] w fun e w' => ∃ v', e = .returned v' ∧ OwnB w' w.heap.size v' (l ++ [byteAt n 3, byteAt n 2, byteAt n 1, byteAt n 0]) ∧ Same w w' := by
  have H := Lib.hid hb
  obtain ⟨ao, cap, rfl, b1, b2, b3, b4⟩ := hb
  clear b3 b4
  have HL := Lib.hid (show ([] : List UInt8).length + l.length ≤ 140737488355328 by simp; omega)
  have HL0 := Lib.hid (show (l).length + [byteAt n 3].length ≤ 140737488355328 by simp; omega)
  have HL1 := Lib.hid (show (l ++ [byteAt n 3]).length + [byteAt n 2].length ≤ 140737488355328 by simp; omega)
  have HL2 := Lib.hid (show (l ++ [byteAt n 3] ++ [byteAt n 2]).length + [byteAt n 1].length ≤ 140737488355328 by simp; omega)
  have HL3 := Lib.hid (show (l ++ [byteAt n 3] ++ [byteAt n 2] ++ [byteAt n 1]).length + [byteAt n 0].length ≤ 140737488355328 by simp; omega)
  go_enter Try.func29, Try.ntmps29
  go_wp2_with (at_builtin; refine wpList_append_bs rfl _ _ rfl w (Same.alloc _ _) _ [] rfl (OwnB.empty w) _ l rfl ((H.out).same (Same.alloc _ _)) HL.out ?_; intro v1 w1 ho1 hs1; rw [List.nil_append] at ho1)
  have HO0 := Lib.hid ho1
  have HS0 := Lib.hid hs1
  clear ho1 hs1
  refine wp_loop_rounds 5 ?_
  rw [rounds_succ]
  go_wp2_with (at_builtin; refine wpList_append_bs rfl _ _ rfl w (HS0.out.trans (Same.alloc _ _)) _ _ rfl (HO0.out.same (Same.alloc _ _)) _ [byteAt n 3] rfl (Bs.one3 w1 n) HL0.out ?_; intro v2 w2 ho2 hs2)
  have HO1 := Lib.hid ho2
  have HS1 := Lib.hid hs2
  clear ho2 hs2 HO0 HS0
  rw [rounds_succ]
  go_wp2_with (at_builtin; refine wpList_append_bs rfl _ _ rfl w (HS1.out.trans (Same.alloc _ _)) _ _ rfl (HO1.out.same (Same.alloc _ _)) _ [byteAt n 2] rfl (Bs.one2 w2 n) HL1.out ?_; intro v3 w3 ho3 hs3)
  have HO2 := Lib.hid ho3
  have HS2 := Lib.hid hs3
  clear ho3 hs3 HO1 HS1
  rw [rounds_succ]
  go_wp2_with (at_builtin; refine wpList_append_bs rfl _ _ rfl w (HS2.out.trans (Same.alloc _ _)) _ _ rfl (HO2.out.same (Same.alloc _ _)) _ [byteAt n 1] rfl (Bs.one1 w3 n) HL2.out ?_; intro v4 w4 ho4 hs4)
  have HO3 := Lib.hid ho4
  have HS3 := Lib.hid hs4
  clear ho4 hs4 HO2 HS2
  rw [rounds_succ]
  go_wp2_with (at_builtin; refine wpList_append_bs rfl _ _ rfl w (HS3.out.trans (Same.alloc _ _)) _ _ rfl (HO3.out.same (Same.alloc _ _)) _ [byteAt n 0] rfl (Bs.one0 w4 n) HL3.out ?_; intro v5 w5 ho5 hs5)
  have HO4 := Lib.hid ho5
  have HS4 := Lib.hid hs5
  clear ho5 hs5 HO3 HS3
  rw [rounds_succ]
  go_wp2_with fail
  go_ret
  exact ⟨_, rfl, by simpa [List.append_assoc] using HO4.out, HS4.out⟩
end Go.Proofs.Ytidijoncngfppaa
