/- The developers' layer 7: the steps that put what a value says into what is said of a path. No condition beyond what each names. -/
import Derived.Test.YtfhaaenmllkbnaaAtDA
namespace Go.Proofs.Ytfhaaenmllkbnaa
open Go.RowKit
set_option linter.unusedVariables false
set_option maxRecDepth 100000

set_option maxHeartbeats 1000000 in
theorem tk1_any (s A C : Nat) (sv : Value) (V : List UInt8) (w : World) (o : At) (vp : Value) (h : SrcB w s sv V 0 0) (hC : w.cell? ⟨C, 0, none⟩ = some (.pointer (some ⟨A, 0, none⟩))) (hA : w.heap[A]? = some (atO 35 o vp)) (sA : s ≠ A) (sC : s ≠ C) (AC : A ≠ C) (hl : V.length = 1) :
    Calls Try.prog 53 #[.pointer (some ⟨s, 0, none⟩), .pointer (some ⟨C, 0, none⟩)] w fun e w' => e = .returned (.int .i64 (if 2 < nmb V 0 1 then 6 else 0)) ∧ w'.heap[A]? = some (atO 35 { o with origin := nmb V 0 1 } vp) ∧ Kept [s, A] w w' := by
  have HS := Lib.hid h
  have HC := Lib.hid hC
  have HA := Lib.hid hA
  have HSA := Lib.hid sA
  have HSC := Lib.hid sC
  have HAC := Lib.hid AC
  obtain ⟨s1, -, -⟩ := step_yes (l := V) (a := 0) (k := 1) (by omega)
  rw [show ((1 : Nat) : Int) = 1 from rfl] at s1
  have hU : numOut (stepOut V 0 0 1) = nmb V 0 1 := by rw [s1]; rfl
  have hx8 := nmb_lt V 0 1
  generalize nmb V 0 1 = X at *
  have HU := fun w h => Lib.hid (hU ▸ U8_made s sv V 0 0 w h)
  clear h hC hA sA sC AC s1 hU hl
  obtain ⟨oo, op, oh, om, ohs⟩ := o
  go_enter Try.func53, Try.ntmps53
  go_wp2_with fail
  refine reg_start (fun w' => Kept [s, A] w w') (by kernel_rfl) ?_
  refine reg_take (v := ?_) 0 (some 4) rfl rfl (by kernel_rfl) (fun _ _ _ h => h) (by kernel_rfl) (((Kept.refl [s, A] w).same (Same.refl w).drew)) ?_ ?_
  rotate_left
  · (intro w' hw'; have hc := hw'.cell HC.out (by simpa using And.intro HSC.out.symm HAC.out.symm); go_simp; try with_reducible rfl)
  try simp only [Act.put, List.setIfInBounds_toArray, List.set_cons_zero, List.set_cons_succ]
  refine reg_take (v := ?_) 1 (some 5) rfl rfl (by kernel_rfl) (fun _ _ _ h => h) (by kernel_rfl) (((Kept.refl [s, A] w).same (Same.refl w).drew)) ?_ ?_
  rotate_left
  · (intro w' hw'; have hc := hw'.cell HC.out (by simpa using And.intro HSC.out.symm HAC.out.symm); go_simp; try with_reducible rfl)
  try simp only [Act.put, List.setIfInBounds_toArray, List.set_cons_zero, List.set_cons_succ]
  refine reg_one 2 rfl (by kernel_rfl) (by kernel_rfl) ?_
  go_simp
  refine ((HU _ (HS.out.same (Same.refl w).drew)).out).mono ?_
  rintro e u1 ⟨rfl, hm1, hs1⟩
  have hS1 := (((Kept.refl [s, A] w).same (Same.refl w).drew)).mod hm1 (.inl (by simp))
  skip
  refine ⟨hS1, ?_⟩
  try simp only [Act.put, List.setIfInBounds_toArray, List.set_cons_zero, List.set_cons_succ]
  refine reg_take (v := ?_) 3 (some 7) rfl rfl (by kernel_rfl) (fun _ _ _ h => h) (by kernel_rfl) (hS1) ?_ ?_
  rotate_left
  · (intro w' hw'; have hc := hw'.cell HC.out (by simpa using And.intro HSC.out.symm HAC.out.symm); go_simp; try with_reducible rfl)
  try simp only [Act.put, List.setIfInBounds_toArray, List.set_cons_zero, List.set_cons_succ]
  refine reg_take (v := ?_) 4 (some 8) rfl rfl (by kernel_rfl) (fun _ _ _ h => h) (by kernel_rfl) (hS1) ?_ ?_
  rotate_left
  · (intro w' hw'; have hc := hw'.cell HC.out (by simpa using And.intro HSC.out.symm HAC.out.symm); go_simp; try with_reducible rfl)
  try simp only [Act.put, List.setIfInBounds_toArray, List.set_cons_zero, List.set_cons_succ]
  refine reg_one 5 rfl (by kernel_rfl) (by kernel_rfl) ?_
  have hA1 := (hm1.block A (Array.getElem?_eq_some_iff.1 HA.out).1 HSA.out.symm).trans HA.out
  obtain ⟨z0, z1, z2, z3, z4⟩ := AtAt.of hA1
  have hz := nofr hA1
  go_simp
  refine ⟨hS1.set 0 _ (.inl (by simp)), ?_⟩
  refine reg_done (by kernel_rfl) ?_
  have HA2 : Hid ((u1.setCell ⟨A, 0, none⟩ (.int .i64 X)).heap[A]? = some (atO 35 ⟨X, op, oh, om, ohs⟩ vp)) := by
    show _ = _
    simp [World.setCell, Array.getElem?_modify, hA1]
  have HK2 : Hid (Kept [s, A] w (u1.setCell ⟨A, 0, none⟩ (.int .i64 X))) := hS1.set 0 _ (.inl (by simp))
  clear z0 z1 z2 z3 z4 hz hA1
  generalize u1.setCell ⟨A, 0, none⟩ (.int .i64 X) = W at *
  obtain ⟨z0, z1, z2, z3, z4⟩ := AtAt.of HA2.out
  have hc := HK2.out.cell HC.out (by simpa using And.intro HSC.out.symm HAC.out.symm)
  by_cases hx : 2 < X
  · have k1 : ¬ ((X : Int) ≤ 2) := by omega
    go_wp2_with fail
    refine (unless_any _ 6 _).mono ?_
    rintro e w3 ⟨rfl, rfl⟩
    go_wp2_with fail
    go_ret
    exact ⟨by simp, HA2.out, HK2.out⟩
  · have k1 : (X : Int) ≤ 2 := by omega
    go_wp2_with fail
    refine (unless_any _ 6 _).mono ?_
    rintro e w3 ⟨rfl, rfl⟩
    go_wp2_with fail
    go_ret
    exact ⟨by simp, HA2.out, HK2.out⟩

set_option maxHeartbeats 1000000 in
theorem tk3_any (s A C : Nat) (sv : Value) (V : List UInt8) (w : World) (o : At) (vp : Value) (h : SrcB w s sv V 0 0) (hC : w.cell? ⟨C, 0, none⟩ = some (.pointer (some ⟨A, 0, none⟩))) (hA : w.heap[A]? = some (atO 35 o vp)) (sA : s ≠ A) (sC : s ≠ C) (AC : A ≠ C) (hl : V.length = 4) :
    Calls Try.prog 57 #[.pointer (some ⟨s, 0, none⟩), .pointer (some ⟨C, 0, none⟩)] w fun e w' => e = .returned (.int .i64 (if hopOk (nmb V 0 4) then 0 else 8)) ∧ w'.heap[A]? = some (atO 35 { o with hop := nmb V 0 4 } vp) ∧ Kept [s, A] w w' := by
  have HS := Lib.hid h
  have HC := Lib.hid hC
  have HA := Lib.hid hA
  have HSA := Lib.hid sA
  have HSC := Lib.hid sC
  have HAC := Lib.hid AC
  obtain ⟨s1, -, -⟩ := step_yes (l := V) (a := 0) (k := 4) (by omega)
  rw [show ((4 : Nat) : Int) = 4 from rfl] at s1
  have hU : numOut (stepOut V 0 0 4) = nmb V 0 4 := by rw [s1]; rfl
  have hx8 := nmb_lt V 0 4
  generalize nmb V 0 4 = X at *
  have HU := fun w h => Lib.hid (hU ▸ U32_made s sv V 0 0 w h)
  clear h hC hA sA sC AC s1 hU hl
  obtain ⟨oo, op, oh, om, ohs⟩ := o
  go_enter Try.func57, Try.ntmps57
  go_wp2_with fail
  refine reg_start (fun w' => Kept [s, A] w w') (by kernel_rfl) ?_
  refine reg_take (v := ?_) 0 (some 4) rfl rfl (by kernel_rfl) (fun _ _ _ h => h) (by kernel_rfl) (((Kept.refl [s, A] w).same (Same.refl w).drew)) ?_ ?_
  rotate_left
  · (intro w' hw'; have hc := hw'.cell HC.out (by simpa using And.intro HSC.out.symm HAC.out.symm); go_simp; try with_reducible rfl)
  try simp only [Act.put, List.setIfInBounds_toArray, List.set_cons_zero, List.set_cons_succ]
  refine reg_take (v := ?_) 1 (some 5) rfl rfl (by kernel_rfl) (fun _ _ _ h => h) (by kernel_rfl) (((Kept.refl [s, A] w).same (Same.refl w).drew)) ?_ ?_
  rotate_left
  · (intro w' hw'; have hc := hw'.cell HC.out (by simpa using And.intro HSC.out.symm HAC.out.symm); go_simp; try with_reducible rfl)
  try simp only [Act.put, List.setIfInBounds_toArray, List.set_cons_zero, List.set_cons_succ]
  refine reg_one 2 rfl (by kernel_rfl) (by kernel_rfl) ?_
  go_simp
  refine ((HU _ (HS.out.same (Same.refl w).drew)).out).mono ?_
  rintro e u1 ⟨rfl, hm1, hs1⟩
  have hS1 := (((Kept.refl [s, A] w).same (Same.refl w).drew)).mod hm1 (.inl (by simp))
  skip
  refine ⟨hS1, ?_⟩
  try simp only [Act.put, List.setIfInBounds_toArray, List.set_cons_zero, List.set_cons_succ]
  refine reg_take (v := ?_) 3 (some 7) rfl rfl (by kernel_rfl) (fun _ _ _ h => h) (by kernel_rfl) (hS1) ?_ ?_
  rotate_left
  · (intro w' hw'; have hc := hw'.cell HC.out (by simpa using And.intro HSC.out.symm HAC.out.symm); go_simp; try with_reducible rfl)
  try simp only [Act.put, List.setIfInBounds_toArray, List.set_cons_zero, List.set_cons_succ]
  refine reg_take (v := ?_) 4 (some 8) rfl rfl (by kernel_rfl) (fun _ _ _ h => h) (by kernel_rfl) (hS1) ?_ ?_
  rotate_left
  · (intro w' hw'; have hc := hw'.cell HC.out (by simpa using And.intro HSC.out.symm HAC.out.symm); go_simp; try with_reducible rfl)
  try simp only [Act.put, List.setIfInBounds_toArray, List.set_cons_zero, List.set_cons_succ]
  refine reg_one 5 rfl (by kernel_rfl) (by kernel_rfl) ?_
  have hA1 := (hm1.block A (Array.getElem?_eq_some_iff.1 HA.out).1 HSA.out.symm).trans HA.out
  obtain ⟨z0, z1, z2, z3, z4⟩ := AtAt.of hA1
  have hz := nofr hA1
  go_simp
  refine ⟨hS1.set 2 _ (.inl (by simp)), ?_⟩
  refine reg_done (by kernel_rfl) ?_
  have HA2 : Hid ((u1.setCell ⟨A, 2, none⟩ (.int .u32 X)).heap[A]? = some (atO 35 ⟨oo, op, X, om, ohs⟩ vp)) := by
    show _ = _
    simp [World.setCell, Array.getElem?_modify, hA1]
  have HK2 : Hid (Kept [s, A] w (u1.setCell ⟨A, 2, none⟩ (.int .u32 X))) := hS1.set 2 _ (.inl (by simp))
  clear z0 z1 z2 z3 z4 hz hA1
  generalize u1.setCell ⟨A, 2, none⟩ (.int .u32 X) = W at *
  obtain ⟨z0, z1, z2, z3, z4⟩ := AtAt.of HA2.out
  have hc := HK2.out.cell HC.out (by simpa using And.intro HSC.out.symm HAC.out.symm)
  have HH := Lib.hid (Hop_any X (by omega) W)
  by_cases hx : hopOk X
  · rw [decide_eq_true hx] at HH
    go_wp2_with fail
    refine HH.out.mono ?_
    rintro e w3 ⟨rfl, hs3⟩
    have HA3 := Lib.hid (hs3.block HA2.out)
    have HK3 := Lib.hid (HK2.out.same hs3)
    clear hs3 z0 z1 z2 z3 z4
    go_wp2_with fail
    refine (unless_any _ 8 _).mono ?_
    rintro e w4 ⟨rfl, rfl⟩
    go_wp2_with fail
    go_ret
    exact ⟨by simp, HA3.out, HK3.out⟩
  · rw [decide_eq_false hx] at HH
    go_wp2_with fail
    refine HH.out.mono ?_
    rintro e w3 ⟨rfl, hs3⟩
    have HA3 := Lib.hid (hs3.block HA2.out)
    have HK3 := Lib.hid (HK2.out.same hs3)
    clear hs3 z0 z1 z2 z3 z4
    go_wp2_with fail
    refine (unless_any _ 8 _).mono ?_
    rintro e w4 ⟨rfl, rfl⟩
    go_wp2_with fail
    go_ret
    exact ⟨by simp, HA3.out, HK3.out⟩

set_option maxHeartbeats 1000000 in
theorem tk4_any (s A C : Nat) (sv : Value) (V : List UInt8) (w : World) (o : At) (vp : Value) (h : SrcB w s sv V 0 0) (hC : w.cell? ⟨C, 0, none⟩ = some (.pointer (some ⟨A, 0, none⟩))) (hA : w.heap[A]? = some (atO 35 o vp)) (sA : s ≠ A) (sC : s ≠ C) (AC : A ≠ C) (hl : V.length = 4) :
    Calls Try.prog 59 #[.pointer (some ⟨s, 0, none⟩), .pointer (some ⟨C, 0, none⟩)] w fun e w' => e = .returned (.int .i64 0) ∧ w'.heap[A]? = some (atO 35 { o with med := nmb V 0 4, has := true } vp) ∧ Kept [s, A] w w' := by
  have HS := Lib.hid h
  have HC := Lib.hid hC
  have HA := Lib.hid hA
  have HSA := Lib.hid sA
  have HSC := Lib.hid sC
  have HAC := Lib.hid AC
  obtain ⟨s1, -, -⟩ := step_yes (l := V) (a := 0) (k := 4) (by omega)
  rw [show ((4 : Nat) : Int) = 4 from rfl] at s1
  have hU : numOut (stepOut V 0 0 4) = nmb V 0 4 := by rw [s1]; rfl
  have hx8 := nmb_lt V 0 4
  generalize nmb V 0 4 = X at *
  have HU := fun w h => Lib.hid (hU ▸ U32_made s sv V 0 0 w h)
  clear h hC hA sA sC AC s1 hU hl
  obtain ⟨oo, op, oh, om, ohs⟩ := o
  have HWR : Hid (IntKind.i64.wrap (X : Int) = X) := by show _ = _; rw [IntKind.wrap_i64]; omega
  go_enter Try.func59, Try.ntmps59
  go_wp2_with fail
  refine reg_start (fun w' => Kept [s, A] w w') (by kernel_rfl) ?_
  refine reg_take (v := ?_) 0 (some 4) rfl rfl (by kernel_rfl) (fun _ _ _ h => h) (by kernel_rfl) (((Kept.refl [s, A] w).same (Same.refl w).drew)) ?_ ?_
  rotate_left
  · (intro w' hw'; have hc := hw'.cell HC.out (by simpa using And.intro HSC.out.symm HAC.out.symm); go_simp; try with_reducible rfl)
  try simp only [Act.put, List.setIfInBounds_toArray, List.set_cons_zero, List.set_cons_succ]
  refine reg_take (v := ?_) 1 (some 5) rfl rfl (by kernel_rfl) (fun _ _ _ h => h) (by kernel_rfl) (((Kept.refl [s, A] w).same (Same.refl w).drew)) ?_ ?_
  rotate_left
  · (intro w' hw'; have hc := hw'.cell HC.out (by simpa using And.intro HSC.out.symm HAC.out.symm); go_simp; try with_reducible rfl)
  try simp only [Act.put, List.setIfInBounds_toArray, List.set_cons_zero, List.set_cons_succ]
  refine reg_take (v := ?_) 2 (some 6) rfl rfl (by kernel_rfl) (fun _ _ _ h => h) (by kernel_rfl) (((Kept.refl [s, A] w).same (Same.refl w).drew)) ?_ ?_
  rotate_left
  · (intro w' hw'; have hc := hw'.cell HC.out (by simpa using And.intro HSC.out.symm HAC.out.symm); go_simp; try with_reducible rfl)
  try simp only [Act.put, List.setIfInBounds_toArray, List.set_cons_zero, List.set_cons_succ]
  refine reg_one 3 rfl (by kernel_rfl) (by kernel_rfl) ?_
  go_simp
  refine ((HU _ (HS.out.same (Same.refl w).drew)).out).mono ?_
  rintro e u1 ⟨rfl, hm1, hs1⟩
  have hS1 := (((Kept.refl [s, A] w).same (Same.refl w).drew)).mod hm1 (.inl (by simp))
  skip
  refine ⟨hS1, ?_⟩
  try simp only [Act.put, List.setIfInBounds_toArray, List.set_cons_zero, List.set_cons_succ]
  refine reg_take (v := ?_) 4 (some 8) rfl rfl (by kernel_rfl) (fun _ _ _ h => h) (by kernel_rfl) (hS1) ?_ ?_
  rotate_left
  · (intro w' hw'; have hc := hw'.cell HC.out (by simpa using And.intro HSC.out.symm HAC.out.symm); go_simp; rw [HWR.out])
  try simp only [Act.put, List.setIfInBounds_toArray, List.set_cons_zero, List.set_cons_succ]
  refine reg_take (v := ?_) 5 (some 9) rfl rfl (by kernel_rfl) (fun _ _ _ h => h) (by kernel_rfl) (hS1) ?_ ?_
  rotate_left
  · (intro w' hw'; have hc := hw'.cell HC.out (by simpa using And.intro HSC.out.symm HAC.out.symm); go_simp; try with_reducible rfl)
  try simp only [Act.put, List.setIfInBounds_toArray, List.set_cons_zero, List.set_cons_succ]
  refine reg_take (v := ?_) 6 (some 10) rfl rfl (by kernel_rfl) (fun _ _ _ h => h) (by kernel_rfl) (hS1) ?_ ?_
  rotate_left
  · (intro w' hw'; have hc := hw'.cell HC.out (by simpa using And.intro HSC.out.symm HAC.out.symm); go_simp; try with_reducible rfl)
  try simp only [Act.put, List.setIfInBounds_toArray, List.set_cons_zero, List.set_cons_succ]
  refine reg_one 7 rfl (by kernel_rfl) (by kernel_rfl) ?_
  have hA1 := (hm1.block A (Array.getElem?_eq_some_iff.1 HA.out).1 HSA.out.symm).trans HA.out
  obtain ⟨z0, z1, z2, z3, z4⟩ := AtAt.of hA1
  have hz := nofr hA1
  go_simp
  refine ⟨hS1.set 3 _ (.inl (by simp)), ?_⟩
  have hA2 : (u1.setCell ⟨A, 3, none⟩ (.int .i64 X)).heap[A]? = some (atO 35 ⟨oo, op, oh, X, ohs⟩ vp) := by simp [World.setCell, Array.getElem?_modify, hA1]
  have hK2 : Kept [s, A] w (u1.setCell ⟨A, 3, none⟩ (.int .i64 X)) := hS1.set 3 _ (.inl (by simp))
  clear z0 z1 z2 z3 z4 hz hA1
  generalize u1.setCell ⟨A, 3, none⟩ (.int .i64 X) = W at *
  obtain ⟨z0, z1, z2, z3, z4⟩ := AtAt.of hA2
  have hz := nofr hA2
  refine reg_take (v := ?_) 8 (some 11) rfl rfl (by kernel_rfl) (fun _ _ _ h => h) (by kernel_rfl) (hK2) ?_ ?_
  rotate_left
  · (intro w' hw'; have hc := hw'.cell HC.out (by simpa using And.intro HSC.out.symm HAC.out.symm); go_simp; try with_reducible rfl)
  try simp only [Act.put, List.setIfInBounds_toArray, List.set_cons_zero, List.set_cons_succ]
  refine reg_take (v := ?_) 9 (some 12) rfl rfl (by kernel_rfl) (fun _ _ _ h => h) (by kernel_rfl) (hK2) ?_ ?_
  rotate_left
  · (intro w' hw'; have hc := hw'.cell HC.out (by simpa using And.intro HSC.out.symm HAC.out.symm); go_simp; try with_reducible rfl)
  try simp only [Act.put, List.setIfInBounds_toArray, List.set_cons_zero, List.set_cons_succ]
  refine reg_one 10 rfl (by kernel_rfl) (by kernel_rfl) ?_
  go_simp
  refine ⟨hK2.set 4 _ (.inl (by simp)), ?_⟩
  refine reg_done (by kernel_rfl) ?_
  have HA3 : Hid ((W.setCell ⟨A, 4, none⟩ (.bool true)).heap[A]? = some (atO 35 ⟨oo, op, oh, X, true⟩ vp)) := by
    show _ = _
    simp [World.setCell, Array.getElem?_modify, hA2]
  have HK3 : Hid (Kept [s, A] w (W.setCell ⟨A, 4, none⟩ (.bool true))) := hK2.set 4 _ (.inl (by simp))
  generalize W.setCell ⟨A, 4, none⟩ (.bool true) = U at *
  clear z0 z1 z2 z3 z4 hz hA2
  go_wp2_with fail
  go_ret
  exact ⟨rfl, HA3.out, HK3.out⟩

set_option maxHeartbeats 1000000 in
theorem tk2_any (s A C : Nat) (sv : Value) (V : List UInt8) (w : World) (o : At) (vp : Value) (h : SrcB w s sv V 0 0) (hC : w.cell? ⟨C, 0, none⟩ = some (.pointer (some ⟨A, 0, none⟩))) (hA : w.heap[A]? = some (atO 35 o vp)) (sA : s ≠ A) (sC : s ≠ C) (AC : A ≠ C) (hl : (V.length : Int) ≤ 3000000) :
    Calls Try.prog 55 #[.pointer (some ⟨s, 0, none⟩), .pointer (some ⟨C, 0, none⟩)] w fun e w' => ∃ vp', e = .returned (.int .i64 (if (pathL V).isNone then 11 else 0)) ∧ w'.heap[A]? = some (atO 35 { o with path := (pathL V).getD [] } vp') ∧ Rs intLay w' vp' ((pathL V).getD []) ∧ (∀ g, vp'.ownBlock = some g → w.heap.size ≤ g) ∧ Kept [s, A] w w' := by
  have HP := Lib.hid (dReadPath_any s sv V w h hl)
  have HC := Lib.hid hC
  have HA := Lib.hid hA
  have HSA := Lib.hid sA
  have HSC := Lib.hid sC
  have HAC := Lib.hid AC
  have hAl : Hid (A < w.heap.size) := (Array.getElem?_eq_some_iff.1 hA).1
  have hsome : (pathL V).isNone = !(pathL V).isSome := by cases pathL V <;> rfl
  rw [hsome]
  clear h hC hA sA sC AC hl hsome
  generalize (pathL V).getD [] = p at *
  generalize (pathL V).isSome = b at *
  obtain ⟨oo, op, oh, om, ohs⟩ := o
  obtain ⟨n, hn⟩ : ∃ n, p.length = n := ⟨_, rfl⟩
  have HN := Lib.hid hn
  clear hn
  go_enter Try.func55, Try.ntmps55
  go_wp2_with fail
  refine HP.out.mono ?_
  rintro e w1 ⟨vq, rfl, hr1, ho1, hk1⟩
  obtain ⟨qa, qc, rfl⟩ := hr1.form HN.out
  have HR1 := Lib.hid hr1
  have HO1 := Lib.hid ho1
  have HK1 := Lib.hid hk1
  have HA1 := Lib.hid (hk1.at HA.out (by simpa using HSA.out.symm))
  have hc := hk1.cell HC.out (by simpa using HSC.out.symm)
  clear hr1 ho1 hk1
  obtain ⟨z0, z1, z2, z3, z4⟩ := AtAt.of HA1.out
  have hz := nofr HA1.out
  have HA2 : Hid ((w1.setCell ⟨A, 1, none⟩ (.slice qa n qc)).heap[A]? = some (atO 35 ⟨oo, p, oh, om, ohs⟩ (.slice qa n qc))) := by
    show _ = _
    simp [World.setCell, Array.getElem?_modify, HA1.out]
  have HK2 : Hid (Kept [s, A] w (w1.setCell ⟨A, 1, none⟩ (.slice qa n qc))) := (HK1.out.more (by simp)).set 1 _ (.inl (by simp))
  have HR2 : Hid (Rs intLay (w1.setCell ⟨A, 1, none⟩ (.slice qa n qc)) (.slice qa n qc) p) := HR1.out.mod (Mod.setCell A 1 w1 _) (fun he => by have := HO1.out A he; have := hAl.out; omega)
  cases b
  · go_wp2_with fail
    refine (unless_any _ 11 _).mono ?_
    rintro e w3 ⟨rfl, rfl⟩
    go_wp2_with fail
    go_ret
    exact ⟨by simp, _, HA2.out, HR2.out, HO1.out, HK2.out⟩
  · go_wp2_with fail
    refine (unless_any _ 11 _).mono ?_
    rintro e w3 ⟨rfl, rfl⟩
    go_wp2_with fail
    go_ret
    exact ⟨by simp, _, HA2.out, HR2.out, HO1.out, HK2.out⟩
end Go.Proofs.Ytfhaaenmllkbnaa
