/- The developers' layer 5: Udp, Tcp. No condition beyond what each names. -/
import Derived.Test.YteoleblnhcnpkaaPoM
import Derived.Laws.MakeOwn
namespace Go.Proofs.Yteoleblnhcnpkaa
open Go.RowKit
set_option linter.unusedVariables false

/-- the packets of a flow -/
def udpL (f : Fl) (p : List UInt8) : List UInt8 := portsL (endsF f) ++ (wdB (8 + (p.length : Int)) ++ ([0, 0] ++ p))
def tcpL (f : Fl) (flags : Int) (p : List UInt8) : List UInt8 := portsL (endsF f) ++ ([0, 0, 0, 0, 0, 0, 0, 0] ++ ([80] ++ ([byteAt flags 0] ++ ([255, 255] ++ ([0, 0, 0, 0] ++ p)))))
def udpB (f : Fl) (p : List UInt8) : List UInt8 := packetB { f with proto := 17 } 6 (udpL f p)
def tcpB (f : Fl) (flags : Int) (p : List UInt8) : List UInt8 := packetB { f with proto := 6 } 16 (tcpL f flags p)

theorem make2 (w : World) : (Instr.makeSlice 22 (.int .i64 2) (.int .i64 2)).run Try.prog w = .ok (.slice (some ⟨w.heap.size, 0, none⟩) 2 2) (w.alloc (.cells #[.int .u8 0, .int .u8 0] 5)) := by
  obtain ⟨i0, hi, hz0, hz1, hz2⟩ := info_parts u8info
  have := run_makeSlice (P := Try.prog) w 22 5 i0 (.int .u8 0) Try.underlying22 hi hz0 .i64 .i64 2 2 (by omega) (by omega) (by rw [hz1]; decide) (by rw [hz2]; decide) (by omega)
  rw [hz1, show madeCells (Value.int .u8 0).cells (Int.toNat 2 * 1) = #[.int .u8 0, .int .u8 0] by kernel_rfl] at this
  exact this
theorem make4 (w : World) : (Instr.makeSlice 22 (.int .i64 4) (.int .i64 4)).run Try.prog w = .ok (.slice (some ⟨w.heap.size, 0, none⟩) 4 4) (w.alloc (.cells #[.int .u8 0, .int .u8 0, .int .u8 0, .int .u8 0] 5)) := by
  obtain ⟨i0, hi, hz0, hz1, hz2⟩ := info_parts u8info
  have := run_makeSlice (P := Try.prog) w 22 5 i0 (.int .u8 0) Try.underlying22 hi hz0 .i64 .i64 4 4 (by omega) (by omega) (by rw [hz1]; decide) (by rw [hz2]; decide) (by omega)
  rw [hz1, show madeCells (Value.int .u8 0).cells (Int.toNat 4 * 1) = #[.int .u8 0, .int .u8 0, .int .u8 0, .int .u8 0] by kernel_rfl] at this
  exact this
theorem make8 (w : World) : (Instr.makeSlice 22 (.int .i64 8) (.int .i64 8)).run Try.prog w = .ok (.slice (some ⟨w.heap.size, 0, none⟩) 8 8) (w.alloc (.cells #[.int .u8 0, .int .u8 0, .int .u8 0, .int .u8 0, .int .u8 0, .int .u8 0, .int .u8 0, .int .u8 0] 5)) := by
  obtain ⟨i0, hi, hz0, hz1, hz2⟩ := info_parts u8info
  have := run_makeSlice (P := Try.prog) w 22 5 i0 (.int .u8 0) Try.underlying22 hi hz0 .i64 .i64 8 8 (by omega) (by omega) (by rw [hz1]; decide) (by rw [hz2]; decide) (by omega)
  rw [hz1, show madeCells (Value.int .u8 0).cells (Int.toNat 8 * 1) = #[.int .u8 0, .int .u8 0, .int .u8 0, .int .u8 0, .int .u8 0, .int .u8 0, .int .u8 0, .int .u8 0] by kernel_rfl] at this
  exact this

set_option maxRecDepth 100000 in
set_option maxHeartbeats 1000000 in
theorem poUdp_any (f : Fl) (hr : (0 ≤ f.src ∧ f.src ≤ 4294967295) ∧ (0 ≤ f.dst ∧ f.dst ≤ 4294967295)) (v : Value) (p : List UInt8) (w : World) (hb : Bs w v p) (hl : (p.length : Int) ≤ 140737488354000) :
    Calls Try.prog 17 #[flV f, v] w fun e w' => ∃ v', e = .returned v' ∧ OwnB w' w.heap.size v' (udpB f p) ∧ Same w w' := by
  obtain ⟨q0, q1, q2, q3, q4⟩ := f
  have HB := Lib.hid hb
  obtain ⟨ao, cap, rfl, -, -, -, -⟩ := hb
  have HPk := fun g xs hn w hb hl hat hg => Lib.hid (poPacket_any ⟨17, q1, q2, q3, q4⟩ hr 6 g 4 xs hn (by omega) w hb hl hat (by omega) hg)
  have HPo := fun w => Lib.hid (poPorts_any ⟨17, q1, q2, q3, q4⟩ w)
  have HLP : Hid ((portsL (endsF ⟨17, q1, q2, q3, q4⟩)).length = 4) := portsL_length _
  have HEQ : Hid (udpB ⟨q0, q1, q2, q3, q4⟩ p = packetB ⟨17, q1, q2, q3, q4⟩ 6 (portsL (endsF ⟨17, q1, q2, q3, q4⟩) ++ (wdB (8 + (p.length : Int)) ++ ([0, 0] ++ (p ++ []))))) := by
    show _ = _
    simp [udpB, udpL, endsF]
  rw [HEQ.out]
  generalize portsL (endsF ⟨17, q1, q2, q3, q4⟩) = LP at *
  have HL := Lib.hid hl
  have HM := fun w => make2 w
  have H0 := Lib.hid (Same.alloc w (flO 44 ⟨17, q1, q2, q3, q4⟩))
  have HX := Lib.hid (fl_box 44 ⟨17, q1, q2, q3, q4⟩ w)
  go_enter Try.func17, Try.ntmps17
  go_wp2_with fail
  refine (Put16_any (.slice none 0 0) [] _ _ (Bs.nil _) (by simp)).mono ?_
  rintro e w2 ⟨v2, rfl, ho2, hs2⟩
  have HB2 : Hid (Bs w2 v2 (wdB (8 + (p.length : Int)))) := ho2.bs
  have HS2 := Lib.hid hs2
  obtain ⟨a2, n2, c2, rfl⟩ := ho2.slice
  clear ho2 hs2
  have hm := make2 w2
  have HB3 : Hid (Bs (w2.alloc (.cells #[.int .u8 0, .int .u8 0] 5)) (.slice (some ⟨w2.heap.size, 0, none⟩) 2 2) [0, 0]) := Bs.made w2 [0, 0] 5 (by simp)
  have HS3 := Lib.hid (Same.alloc w2 (.cells #[.int .u8 0, .int .u8 0] 5))
  go_wp2_with fail
  have HXa : Hid (∀ w', Same (w2.alloc (.cells #[.int .u8 0, .int .u8 0] 5)) w' → FlAt w' w.heap.size ⟨17, q1, q2, q3, q4⟩) := fun w' hw => HX.out w' (HS2.out.trans (HS3.out.trans hw))
  have HSw := Lib.hid (H0.out.trans (HS2.out.trans HS3.out))
  have HB2a := Lib.hid (HB2.out.same HS3.out)
  obtain ⟨g3, hg3⟩ : ∃ g3, w2.heap.size = g3 := ⟨_, rfl⟩
  simp only [hg3] at HB3 ⊢
  generalize (w2.alloc (.cells #[.int .u8 0, .int .u8 0] 5)) = W3 at *
  clear hm hg3 HS3 HX HB2
  refine reg_start (fun w' => Same W3 w') (by kernel_rfl) ?_
  refine reg_take (v := ?_) 0 (some 13) rfl rfl (by kernel_rfl) (fun _ _ _ h => h) (by kernel_rfl) ((Same.refl W3).drew) ?_ ?_
  rotate_left
  · (intro w' hw'; obtain ⟨c0, c1, c2, c3, c4⟩ := HXa.out w' hw'; go_simp; try with_reducible rfl)
  try simp only [Act.put, List.setIfInBounds_toArray, List.set_cons_zero, List.set_cons_succ]
  refine reg_take (v := ?_) 1 (some 14) rfl rfl (by kernel_rfl) (fun _ _ _ h => h) (by kernel_rfl) ((Same.refl W3).drew) ?_ ?_
  rotate_left
  · (intro w' hw'; obtain ⟨c0, c1, c2, c3, c4⟩ := HXa.out w' hw'; go_simp; try with_reducible rfl)
  try simp only [Act.put, List.setIfInBounds_toArray, List.set_cons_zero, List.set_cons_succ]
  refine reg_take (v := ?_) 3 (some 16) rfl rfl (by kernel_rfl) (fun _ _ _ h => h) (by kernel_rfl) ((Same.refl W3).drew) ?_ ?_
  rotate_left
  · (intro w' hw'; obtain ⟨c0, c1, c2, c3, c4⟩ := HXa.out w' hw'; go_simp; try with_reducible rfl)
  try simp only [Act.put, List.setIfInBounds_toArray, List.set_cons_zero, List.set_cons_succ]
  refine reg_take (v := ?_) 4 (some 17) rfl rfl (by kernel_rfl) (fun _ _ _ h => h) (by kernel_rfl) ((Same.refl W3).drew) ?_ ?_
  rotate_left
  · (intro w' hw'; obtain ⟨c0, c1, c2, c3, c4⟩ := HXa.out w' hw'; go_simp; try with_reducible rfl)
  try simp only [Act.put, List.setIfInBounds_toArray, List.set_cons_zero, List.set_cons_succ]
  refine reg_take (v := ?_) 5 (some 18) rfl rfl (by kernel_rfl) (fun _ _ _ h => h) (by kernel_rfl) ((Same.refl W3).drew) ?_ ?_
  rotate_left
  · (intro w' hw'; obtain ⟨c0, c1, c2, c3, c4⟩ := HXa.out w' hw'; go_simp; try with_reducible rfl)
  try simp only [Act.put, List.setIfInBounds_toArray, List.set_cons_zero, List.set_cons_succ]
  refine reg_one 2 rfl (by kernel_rfl) (by kernel_rfl) ?_
  go_simp
  refine ((HPo _).out).mono ?_
  rintro e u1 ⟨v4, rfl, ho4, hs1⟩
  have hS1 := ((Same.refl W3).drew).trans hs1
  have HB4 := Lib.hid ho4.bs
  obtain ⟨a4, n4, p4, rfl⟩ := ho4.slice
  clear ho4
  refine ⟨hS1, ?_⟩
  try simp only [Act.put, List.setIfInBounds_toArray, List.set_cons_zero, List.set_cons_succ]
  refine reg_one 6 rfl (by kernel_rfl) (by kernel_rfl) ?_
  go_simp
  have hS2 := hS1.trans (Same.alloc u1 (.cells #[.slice a4 n4 p4, .slice a2 n2 c2, .slice (some ⟨g3, 0, none⟩) 2 2, .slice ao p.length cap] 22))
  refine ⟨hS2, ?_⟩
  try simp only [Act.put, List.setIfInBounds_toArray, List.set_cons_zero, List.set_cons_succ]
  refine reg_one 7 rfl (by kernel_rfl) (by kernel_rfl) ?_
  go_simp
  refine ((HPk _ [(.slice a4 n4 p4, LP), (.slice a2 n2 c2, wdB (8 + (p.length : Int))), (.slice (some ⟨g3, 0, none⟩) 2 2, [0, 0]), (.slice ao p.length cap, p)] rfl _ (List.forall_mem_cons.2 ⟨HB4.out.same (Same.alloc _ _), List.forall_mem_cons.2 ⟨HB2a.out.same hS2, List.forall_mem_cons.2 ⟨HB3.out.same hS2, List.forall_mem_cons.2 ⟨HB.out.same (HSw.out.trans hS2), fun _ h => by cases h⟩⟩⟩⟩) (by have := HL.out; simp only [catL_cons, catL_nil, List.length_append, HLP.out, List.length_nil, List.length_cons, wdB]; omega) (by simp only [catL_cons, catL_nil, List.length_append, HLP.out, List.length_nil, List.length_cons, wdB]; omega) (heap_alloc_new _ _)).out).mono ?_
  rintro e u3 ⟨v5, rfl, ho5, hs3⟩
  have hS3 := (hS2).trans hs3
  have HO5 := Lib.hid ho5
  clear ho5
  refine ⟨hS3, ?_⟩
  try simp only [Act.put, List.setIfInBounds_toArray, List.set_cons_zero, List.set_cons_succ]
  refine reg_take (v := ?_) 8 (some 4) rfl rfl (by kernel_rfl) (fun _ _ _ h => h) (by kernel_rfl) (hS3) ?_ ?_
  rotate_left
  · (intro w' hw'; obtain ⟨c0, c1, c2, c3, c4⟩ := HXa.out w' hw'; go_simp; try with_reducible rfl)
  try simp only [Act.put, List.setIfInBounds_toArray, List.set_cons_zero, List.set_cons_succ]
  refine reg_done (by kernel_rfl) ?_
  go_wp2_with fail
  go_ret
  exact ⟨v5, rfl, HO5.out.mono (Nat.le_trans HSw.out.size hS2.size), HSw.out.trans hS3⟩

end Go.Proofs.Yteoleblnhcnpkaa
