/- The developers' layer 5: a flow's bytes, its way back. No condition beyond what each names. -/
import Derived.Test.YtcemdajkddidnaaGreatDoorQPoE
import Derived.Test.YtcemdajkddidnaaGreatDoorQCat
namespace Go.Proofs.YtcemdajkddidnaaGreatDoor
open Go.RowKit
set_option linter.unusedVariables false

theorem OwnB.slice {w : World} {B : Nat} {v : Value} {l : List UInt8} (h : OwnB w B v l) : ∃ ao n cap, v = .slice ao n cap := by
  obtain ⟨ao, cap, rfl, _⟩ := h.bs
  exact ⟨_, _, _, rfl⟩

/-- a flow in bytes -/
def bytesF (f : Fl) : List UInt8 := [byteAt f.proto 0] ++ (addrsL (endsF f) ++ portsL (endsF f))
theorem bytesF_eq (f : Fl) : bytesF f = [byteAt f.proto 0, byteAt f.src 3, byteAt f.src 2, byteAt f.src 1, byteAt f.src 0, byteAt f.dst 3, byteAt f.dst 2, byteAt f.dst 1, byteAt f.dst 0, byteAt f.sport 1, byteAt f.sport 0, byteAt f.dport 1, byteAt f.dport 0] := by
  simp [bytesF, addrsL, portsL, endsF]

theorem catL_cons (v : Value) (l : List UInt8) (xs : List (Value × List UInt8)) : catL ((v, l) :: xs) = l ++ catL xs := by simp [catL]
theorem catL_nil : catL [] = [] := rfl

set_option maxRecDepth 100000 in
set_option maxHeartbeats 1000000 in
theorem poBytes_any (f : Fl) (w : World) : Calls Tryz.prog 11 #[flV f] w fun e w' => ∃ v, e = .returned v ∧ OwnB w' w.heap.size v (bytesF f) ∧ Same w w' := by
  obtain ⟨q0, q1, q2, q3, q4⟩ := f
  obtain ⟨W0, hW⟩ : ∃ W0, W0 = w.alloc (flO 24 ⟨q0, q1, q2, q3, q4⟩) := ⟨_, rfl⟩
  have HX : Hid (∀ w', Same W0 w' → FlAt w' w.heap.size ⟨q0, q1, q2, q3, q4⟩) := by rw [hW]; exact fl_box 24 ⟨q0, q1, q2, q3, q4⟩ w
  have H0 : Hid (Same w W0) := by rw [hW]; exact Same.alloc w _
  have HP := fun w => Lib.hid (poPorts_any ⟨q0, q1, q2, q3, q4⟩ w)
  have HA := fun w => Lib.hid (poAddrs_any ⟨q0, q1, q2, q3, q4⟩ w)
  have HLA : Hid ((addrsL (endsF ⟨q0, q1, q2, q3, q4⟩)).length = 8) := addrsL_length _
  have HLP : Hid ((portsL (endsF ⟨q0, q1, q2, q3, q4⟩)).length = 4) := portsL_length _
  have HEQ : Hid (bytesF ⟨q0, q1, q2, q3, q4⟩ = ([] ++ [byteAt q0 0]) ++ (addrsL (endsF ⟨q0, q1, q2, q3, q4⟩) ++ (portsL (endsF ⟨q0, q1, q2, q3, q4⟩) ++ []))) := by show _ = _; simp [bytesF]
  rw [HEQ.out]
  generalize addrsL (endsF ⟨q0, q1, q2, q3, q4⟩) = LA at *
  generalize portsL (endsF ⟨q0, q1, q2, q3, q4⟩) = LP at *
  generalize hL1 : ([] : List UInt8) ++ [byteAt q0 0] = L1 at *
  have HL1 : Hid (L1.length = 1) := by rw [← hL1]; rfl
  have HQ1 := Lib.hid hL1
  have HPu := fun w => Lib.hid (Put8_any (.slice none 0 0) [] q0 w (Bs.nil _) (by simp))
  rw [hL1] at HPu
  clear hL1
  go_enter Tryz.func11, Tryz.ntmps11
  go_wp2_with fail
  rw [← hW]
  have HW := Lib.hid hW
  clear hW
  refine reg_start (fun w' => Same W0 w') (by kernel_rfl) ?_
  refine reg_take (v := ?_) 0 (some 3) rfl rfl (by kernel_rfl) (fun _ _ _ h => h) (by kernel_rfl) ((Same.refl W0).drew) ?_ ?_
  rotate_left
  · (intro w' hw'; obtain ⟨c0, c1, c2, c3, c4⟩ := HX.out w' hw'; go_simp; try with_reducible rfl)
  try simp only [Act.put, List.setIfInBounds_toArray, List.set_cons_zero, List.set_cons_succ]
  refine reg_take (v := ?_) 1 (some 4) rfl rfl (by kernel_rfl) (fun _ _ _ h => h) (by kernel_rfl) ((Same.refl W0).drew) ?_ ?_
  rotate_left
  · (intro w' hw'; obtain ⟨c0, c1, c2, c3, c4⟩ := HX.out w' hw'; go_simp; try with_reducible rfl)
  try simp only [Act.put, List.setIfInBounds_toArray, List.set_cons_zero, List.set_cons_succ]
  refine reg_take (v := ?_) 3 (some 6) rfl rfl (by kernel_rfl) (fun _ _ _ h => h) (by kernel_rfl) ((Same.refl W0).drew) ?_ ?_
  rotate_left
  · (intro w' hw'; obtain ⟨c0, c1, c2, c3, c4⟩ := HX.out w' hw'; go_simp; try with_reducible rfl)
  try simp only [Act.put, List.setIfInBounds_toArray, List.set_cons_zero, List.set_cons_succ]
  refine reg_take (v := ?_) 5 (some 8) rfl rfl (by kernel_rfl) (fun _ _ _ h => h) (by kernel_rfl) ((Same.refl W0).drew) ?_ ?_
  rotate_left
  · (intro w' hw'; obtain ⟨c0, c1, c2, c3, c4⟩ := HX.out w' hw'; go_simp; try with_reducible rfl)
  try simp only [Act.put, List.setIfInBounds_toArray, List.set_cons_zero, List.set_cons_succ]
  refine reg_one 2 rfl (by kernel_rfl) (by kernel_rfl) ?_
  go_simp
  refine ((HPu _).out).mono ?_
  rintro e u1 ⟨v1, rfl, ho1, hs1⟩
  have hS1 := ((Same.refl W0).drew).trans hs1
  have HB1 := Lib.hid ho1.bs
  obtain ⟨a1, n1, p1, rfl⟩ := ho1.slice
  clear ho1
  refine ⟨hS1, ?_⟩
  try simp only [Act.put, List.setIfInBounds_toArray, List.set_cons_zero, List.set_cons_succ]
  refine reg_one 4 rfl (by kernel_rfl) (by kernel_rfl) ?_
  go_simp
  refine ((HA _).out).mono ?_
  rintro e u2 ⟨v2, rfl, ho2, hs2⟩
  have hS2 := (hS1).trans hs2
  have HB2 := Lib.hid ho2.bs
  obtain ⟨a2, n2, p2, rfl⟩ := ho2.slice
  clear ho2
  refine ⟨hS2, ?_⟩
  try simp only [Act.put, List.setIfInBounds_toArray, List.set_cons_zero, List.set_cons_succ]
  refine reg_one 6 rfl (by kernel_rfl) (by kernel_rfl) ?_
  go_simp
  refine ((HP _).out).mono ?_
  rintro e u3 ⟨v3, rfl, ho3, hs3⟩
  have hS3 := (hS2).trans hs3
  have HB3 := Lib.hid ho3.bs
  obtain ⟨a3, n3, p3, rfl⟩ := ho3.slice
  clear ho3
  refine ⟨hS3, ?_⟩
  try simp only [Act.put, List.setIfInBounds_toArray, List.set_cons_zero, List.set_cons_succ]
  refine reg_one 7 rfl (by kernel_rfl) (by kernel_rfl) ?_
  go_simp
  have hS9 := hS3.trans (Same.alloc u3 (.cells #[.slice a1 n1 p1, .slice a2 n2 p2, .slice a3 n3 p3] 25))
  refine ⟨hS9, ?_⟩
  try simp only [Act.put, List.setIfInBounds_toArray, List.set_cons_zero, List.set_cons_succ]
  refine reg_one 8 rfl (by kernel_rfl) (by kernel_rfl) ?_
  go_simp
  refine ((cat_any 3 _ [(.slice a1 n1 p1, L1), (.slice a2 n2 p2, LA), (.slice a3 n3 p3, LP)] rfl _ (List.forall_mem_cons.2 ⟨HB1.out.same (hs2.trans (hs3.trans (Same.alloc _ _))), List.forall_mem_cons.2 ⟨HB2.out.same (hs3.trans (Same.alloc _ _)), List.forall_mem_cons.2 ⟨HB3.out.same (Same.alloc _ _), fun _ h => by cases h⟩⟩⟩) (by simp only [catL_cons, catL_nil, List.length_append, HL1.out, HLA.out, HLP.out, List.length_nil]; omega) (by omega) (heap_alloc_new _ _))).mono ?_
  rintro e u5 ⟨v4, rfl, ho4, hs5⟩
  have hS5 := (hS9).trans hs5
  have HO4 := Lib.hid ho4
  clear ho4
  refine ⟨hS5, ?_⟩
  try simp only [Act.put, List.setIfInBounds_toArray, List.set_cons_zero, List.set_cons_succ]
  refine reg_take (v := ?_) 9 (some 2) rfl rfl (by kernel_rfl) (fun _ _ _ h => h) (by kernel_rfl) (hS5) ?_ ?_
  rotate_left
  · (intro w' hw'; obtain ⟨c0, c1, c2, c3, c4⟩ := HX.out w' hw'; go_simp; try with_reducible rfl)
  try simp only [Act.put, List.setIfInBounds_toArray, List.set_cons_zero, List.set_cons_succ]
  refine reg_done (by kernel_rfl) ?_
  go_wp2_with fail
  go_ret
  exact ⟨v4, rfl, (HO4.out.mono (Nat.le_trans H0.out.size hS9.size)), H0.out.trans hS5⟩

set_option maxRecDepth 100000 in
theorem poBack_any (f : Fl) (w : World) : Calls Tryz.prog 13 #[flV f] w fun e w' => e = .returned (flV (backF f)) ∧ Same w w' := by
  obtain ⟨q0, q1, q2, q3, q4⟩ := f
  have HA := Lib.hid (Same.alloc w (flO 24 ⟨q0, q1, q2, q3, q4⟩))
  go_enter Tryz.func13, Tryz.ntmps13
  go_wp2_with fail
  refine bodyPost_ret (v := flV (backF ⟨q0, q1, q2, q3, q4⟩)) ?_ rfl ⟨rfl, HA.out.trans (Same.alloc _ _)⟩
  simp [results, Tryz.results13, go_sem, backF]
end Go.Proofs.YtcemdajkddidnaaGreatDoor
