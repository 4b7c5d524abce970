/- The developers' layer 7: an attribute's bytes, attributes joined, faults. No condition beyond what each names. -/
import Derived.Test.YtfhaaenmllkbnaaAtQ
import Derived.Test.YtfhaaenmllkbnaaAtRS
import Derived.Test.YtfhaaenmllkbnaaCat
import Derived.Test.YtfhaaenmllkbnaaTake
namespace Go.Proofs.Ytfhaaenmllkbnaa
open Go.RowKit
set_option linter.unusedVariables false
set_option maxRecDepth 100000

theorem dFault_any (sub : Int) (ao : Option Addr) (n cap : Nat) (w : World) :
    Calls Try.prog 26 #[.int .i64 sub, .slice ao n cap] w fun e w' => e = .returned (.agg #[.int .i64 3, .int .i64 sub, .slice ao n cap]) ∧ Same w w' := by
  go_enter Try.func26, Try.ntmps26
  go_wp2_with fail
  refine bodyPost_ret (v := .agg #[.int .i64 3, .int .i64 sub, .slice ao n cap]) ?_ rfl ⟨rfl, Same.alloc _ _⟩
  simp [results, Try.results26, go_sem]

/-- two byte slices, one behind the other, out of a slice of slices -/
theorem concat_pair (v1 v2 : Value) (l1 l2 : List UInt8) (w : World) (h1 : Bs w v1 l1) (h2 : Bs w v2 l2) (hl : l1.length + l2.length ≤ 140737488355328) :
    Calls Try.prog 65 #[.slice (some ⟨w.heap.size, 0, none⟩) 2 2] (w.alloc (.cells #[v1, v2] 22 (0, 0))) fun e w' => ∃ v, e = .returned v ∧ OwnB w' w.heap.size v (l1 ++ l2) ∧ Same w w' := by
  have hsm := Same.alloc w (.cells #[v1, v2] 22 (0, 0))
  refine (concat_two w.heap.size v1 v2 l1 l2 _ (h1.same hsm) (h2.same hsm) hl (heap_alloc_new w _)).mono ?_
  rintro e w' ⟨v, rfl, ho, hs⟩
  exact ⟨v, rfl, ho.mono hsm.size, hsm.trans hs⟩

set_option maxHeartbeats 2000000 in
theorem dRawB_any (r : Rw) (vo : Value) (w : World) (hb : Bs w vo r.value) :
    Calls Try.prog 37 #[rwV r vo] w fun e w' => ∃ v, e = .returned v ∧ OwnB w' w.heap.size v (oneB r) ∧ Same w w' := by
  have HB := Lib.hid hb
  obtain ⟨fl, ty, vl⟩ := r
  simp only at hb HB
  by_cases he : extF fl <;> by_cases h2 : (if extF fl then 65535 else 255) < vl.length
  · -- two bytes, too long
    rw [if_pos he] at h2
    have hz : bits .and .i64 fl 16 = 16 := by rw [i64_and16, if_pos he]
    obtain ⟨b, o, cap, rfl, hcap, hcm, -⟩ := hb.form (by omega)
    have HV : Hid (∀ w', Same w w' → Bs w' (.slice (some ⟨b, o, none⟩) 65535 cap) (vl.take 65535)) := fun w' hw => by
      have := ((HB.out.same hw).cut 0 65535 (by omega)).1
      rw [if_neg (by omega), List.drop_zero] at this
      simpa [Addr.add] using this
    have HVL : Hid ((vl.take 65535).length = 65535) := by show _ = _; rw [List.length_take]; omega
    have i1 : (65535 : Int) ≤ cap := by omega
    have i2 : ((vl.length : Nat) : Int) > 65535 := by omega
    have eo : oneB ⟨fl, ty, vl⟩ = ([byteAt fl 0, byteAt ty 0] ++ [byteAt (65535 : Nat) 1, byteAt (65535 : Nat) 0]) ++ vl.take 65535 := by
      show [byteAt fl 0, byteAt ty 0] ++ (if extF fl then [byteAt ((vl.take 65535).length : Nat) 1, byteAt ((vl.take 65535).length : Nat) 0] ++ vl.take 65535 else [byteAt ((vl.take 255).length : Nat) 0] ++ vl.take 255) = _
      rw [if_pos he, HVL.out, List.append_assoc]
    rw [eo]
    generalize vl.take 65535 = V at *
    generalize hln : vl.length = n at *
    have hmin : min ((n : Nat) : Int) 65535 = 65535 := by omega
    clear he eo hcm
    have HR := Lib.hid (Same.alloc w (.cells #[.int .i64 fl, .int .i64 ty, .slice (some ⟨b, o, none⟩) n cap] 59))
    have HK := Lib.hid (fun w' (h : Same (w.alloc (.cells #[.int .i64 fl, .int .i64 ty, .slice (some ⟨b, o, none⟩) n cap] 59)) w') => RwAt.of (r := ⟨fl, ty, []⟩) (vo := .slice (some ⟨b, o, none⟩) n cap) (h.block (heap_alloc_new w (.cells #[.int .i64 fl, .int .i64 ty, .slice (some ⟨b, o, none⟩) n cap] 59))))
    obtain ⟨c0, c1, c2⟩ := HK.out _ (Same.refl _)
    simp only at c0 c1 c2
    have HP1 := fun w => Lib.hid (Put8_any (.slice none 0 0) [] fl w (Bs.nil w) (by simp))
    have HP2 := fun v w h => Lib.hid (Put8_any v [byteAt fl 0] ty w h (by simp))
    have HP3 := fun v w h => Lib.hid (Put16_any v [byteAt fl 0, byteAt ty 0] (65535 : Int) w h (by simp))
    simp only [List.nil_append, List.cons_append] at HP1 HP2 HP3
    have HC := fun v1 v2 w h1 h2 => Lib.hid (concat_pair v1 v2 [byteAt fl 0, byteAt ty 0, byteAt (65535 : Nat) 1, byteAt (65535 : Nat) 0] V w h1 h2 (by rw [HVL.out]; simp <;> omega))
    go_enter Try.func37, Try.ntmps37
    go_wp2_with fail
    generalize hW : w.alloc (.cells #[.int .i64 fl, .int .i64 ty, .slice (some ⟨b, o, none⟩) n cap] 59) = W at *
    clear c0 c1 c2 hW
    refine reg_start (fun w' => Same W w') (by kernel_rfl) ?_
    refine reg_take (v := ?_) 0 (some 19) rfl rfl (by kernel_rfl) (fun _ _ _ h => h) (by kernel_rfl) ((Same.refl W).drew) ?_ ?_
    rotate_left
    · (intro w' hw'; obtain ⟨c0, c1, c2⟩ := HK.out w' hw'; go_simp; try with_reducible rfl)
    try simp only [Act.put, List.setIfInBounds_toArray, List.set_cons_zero, List.set_cons_succ]
    refine reg_take (v := ?_) 1 (some 20) rfl rfl (by kernel_rfl) (fun _ _ _ h => h) (by kernel_rfl) ((Same.refl W).drew) ?_ ?_
    rotate_left
    · (intro w' hw'; obtain ⟨c0, c1, c2⟩ := HK.out w' hw'; go_simp; try with_reducible rfl)
    try simp only [Act.put, List.setIfInBounds_toArray, List.set_cons_zero, List.set_cons_succ]
    refine reg_take (v := ?_) 3 (some 22) rfl rfl (by kernel_rfl) (fun _ _ _ h => h) (by kernel_rfl) ((Same.refl W).drew) ?_ ?_
    rotate_left
    · (intro w' hw'; obtain ⟨c0, c1, c2⟩ := HK.out w' hw'; go_simp; try with_reducible rfl)
    try simp only [Act.put, List.setIfInBounds_toArray, List.set_cons_zero, List.set_cons_succ]
    refine reg_take (v := ?_) 4 (some 23) rfl rfl (by kernel_rfl) (fun _ _ _ h => h) (by kernel_rfl) ((Same.refl W).drew) ?_ ?_
    rotate_left
    · (intro w' hw'; obtain ⟨c0, c1, c2⟩ := HK.out w' hw'; go_simp; try with_reducible rfl)
    try simp only [Act.put, List.setIfInBounds_toArray, List.set_cons_zero, List.set_cons_succ]
    refine reg_one 2 rfl (by kernel_rfl) (by kernel_rfl) ?_
    go_simp
    refine ((HP1 _).out).mono ?_
    rintro e u1 ⟨v1, rfl, ho1, hs1⟩
    have hS1 := ((Same.refl W).drew).trans hs1
    have HO1 := Lib.hid ho1; clear ho1
    refine ⟨hS1, ?_⟩
    try simp only [Act.put, List.setIfInBounds_toArray, List.set_cons_zero, List.set_cons_succ]
    refine reg_one 5 rfl (by kernel_rfl) (by kernel_rfl) ?_
    go_simp
    refine ((HP2 _ _ HO1.out.bs).out).mono ?_
    rintro e u2 ⟨v2, rfl, ho2, hs2⟩
    have hS2 := (hS1).trans hs2
    have HO2 := Lib.hid ho2; clear ho2
    refine ⟨hS2, ?_⟩
    try simp only [Act.put, List.setIfInBounds_toArray, List.set_cons_zero, List.set_cons_succ]
    refine reg_take (v := ?_) 6 (some 6) rfl rfl (by kernel_rfl) (fun _ _ _ h => h) (by kernel_rfl) (hS2) ?_ ?_
    rotate_left
    · (intro w' hw'; obtain ⟨c0, c1, c2⟩ := HK.out w' hw'; go_simp; try with_reducible rfl)
    try simp only [Act.put, List.setIfInBounds_toArray, List.set_cons_zero, List.set_cons_succ]
    refine reg_done (by kernel_rfl) ?_
    have HS2 := Lib.hid (HR.out.trans hS2)
    go_wp2_with fail
    refine (HP3 _ _ HO2.out.bs).out.mono ?_
    rintro e w3 ⟨v3, rfl, ho3, hs3⟩
    have HS3 := Lib.hid (HS2.out.trans hs3)
    have HO3 := Lib.hid ho3.bs
    obtain ⟨a3, p3, rfl⟩ := ho3.bs.form0 rfl
    clear ho3 hs3
    go_wp2_with fail
    refine (HC _ _ _ HO3.out (HV.out _ HS3.out)).out.mono ?_
    rintro e w4 ⟨v4, rfl, ho4, hs4⟩
    have HO4 := Lib.hid ho4
    have HS4 := Lib.hid (HS3.out.trans hs4)
    clear ho4 hs4
    go_wp2_with fail
    go_ret
    exact ⟨_, rfl, by simpa using HO4.out.mono HS3.out.size, HS4.out⟩
  · -- two bytes, fits
    rw [if_pos he] at h2
    have hz : bits .and .i64 fl 16 = 16 := by rw [i64_and16, if_pos he]
    obtain ⟨b, cap, rfl⟩ := hb.form0 rfl
    have i4 : vl.length ≤ cap := by obtain ⟨_, _, e1, h1, _⟩ := hb; cases e1; exact h1
    have i5 : cap ≤ 9223372036854775807 := by obtain ⟨_, _, e1, _, h1, _⟩ := hb; cases e1; exact h1
    have HV : Hid (∀ w', Same w w' → Bs w' (.slice b vl.length cap) (vl.take 65535)) := fun w' hw => by
      rw [List.take_of_length_le (by omega)]
      exact HB.out.same hw
    have HVL : Hid ((vl.take 65535).length = vl.length) := by show _ = _; rw [List.take_of_length_le (by omega)]
    have i2 : ((vl.length : Nat) : Int) ≤ 65535 := by omega
    have eo : oneB ⟨fl, ty, vl⟩ = ([byteAt fl 0, byteAt ty 0] ++ [byteAt (vl.length : Nat) 1, byteAt (vl.length : Nat) 0]) ++ vl.take 65535 := by
      show [byteAt fl 0, byteAt ty 0] ++ (if extF fl then [byteAt ((vl.take 65535).length : Nat) 1, byteAt ((vl.take 65535).length : Nat) 0] ++ vl.take 65535 else [byteAt ((vl.take 255).length : Nat) 0] ++ vl.take 255) = _
      rw [if_pos he, HVL.out, List.append_assoc]
    rw [eo]
    generalize vl.take 65535 = V at *
    generalize hln : vl.length = n at *
    have hmin : min ((n : Nat) : Int) 65535 = n := by omega
    clear he eo hln hb
    have HR := Lib.hid (Same.alloc w (.cells #[.int .i64 fl, .int .i64 ty, .slice b n cap] 59))
    have HK := Lib.hid (fun w' (h : Same (w.alloc (.cells #[.int .i64 fl, .int .i64 ty, .slice b n cap] 59)) w') => RwAt.of (r := ⟨fl, ty, []⟩) (vo := .slice b n cap) (h.block (heap_alloc_new w (.cells #[.int .i64 fl, .int .i64 ty, .slice b n cap] 59))))
    obtain ⟨c0, c1, c2⟩ := HK.out _ (Same.refl _)
    simp only at c0 c1 c2
    have HP1 := fun w => Lib.hid (Put8_any (.slice none 0 0) [] fl w (Bs.nil w) (by simp))
    have HP2 := fun v w h => Lib.hid (Put8_any v [byteAt fl 0] ty w h (by simp))
    have HP3 := fun v w h => Lib.hid (Put16_any v [byteAt fl 0, byteAt ty 0] ((n : Nat) : Int) w h (by simp))
    simp only [List.nil_append, List.cons_append] at HP1 HP2 HP3
    have HC := fun v1 v2 w h1 h2 => Lib.hid (concat_pair v1 v2 [byteAt fl 0, byteAt ty 0, byteAt (n : Nat) 1, byteAt (n : Nat) 0] V w h1 h2 (by rw [HVL.out]; simp <;> omega))
    go_enter Try.func37, Try.ntmps37
    go_wp2_with fail
    generalize hW : w.alloc (.cells #[.int .i64 fl, .int .i64 ty, .slice b n cap] 59) = W at *
    clear c0 c1 c2 hW
    refine reg_start (fun w' => Same W w') (by kernel_rfl) ?_
    refine reg_take (v := ?_) 0 (some 19) rfl rfl (by kernel_rfl) (fun _ _ _ h => h) (by kernel_rfl) ((Same.refl W).drew) ?_ ?_
    rotate_left
    · (intro w' hw'; obtain ⟨c0, c1, c2⟩ := HK.out w' hw'; go_simp; try with_reducible rfl)
    try simp only [Act.put, List.setIfInBounds_toArray, List.set_cons_zero, List.set_cons_succ]
    refine reg_take (v := ?_) 1 (some 20) rfl rfl (by kernel_rfl) (fun _ _ _ h => h) (by kernel_rfl) ((Same.refl W).drew) ?_ ?_
    rotate_left
    · (intro w' hw'; obtain ⟨c0, c1, c2⟩ := HK.out w' hw'; go_simp; try with_reducible rfl)
    try simp only [Act.put, List.setIfInBounds_toArray, List.set_cons_zero, List.set_cons_succ]
    refine reg_take (v := ?_) 3 (some 22) rfl rfl (by kernel_rfl) (fun _ _ _ h => h) (by kernel_rfl) ((Same.refl W).drew) ?_ ?_
    rotate_left
    · (intro w' hw'; obtain ⟨c0, c1, c2⟩ := HK.out w' hw'; go_simp; try with_reducible rfl)
    try simp only [Act.put, List.setIfInBounds_toArray, List.set_cons_zero, List.set_cons_succ]
    refine reg_take (v := ?_) 4 (some 23) rfl rfl (by kernel_rfl) (fun _ _ _ h => h) (by kernel_rfl) ((Same.refl W).drew) ?_ ?_
    rotate_left
    · (intro w' hw'; obtain ⟨c0, c1, c2⟩ := HK.out w' hw'; go_simp; try with_reducible rfl)
    try simp only [Act.put, List.setIfInBounds_toArray, List.set_cons_zero, List.set_cons_succ]
    refine reg_one 2 rfl (by kernel_rfl) (by kernel_rfl) ?_
    go_simp
    refine ((HP1 _).out).mono ?_
    rintro e u1 ⟨v1, rfl, ho1, hs1⟩
    have hS1 := ((Same.refl W).drew).trans hs1
    have HO1 := Lib.hid ho1; clear ho1
    refine ⟨hS1, ?_⟩
    try simp only [Act.put, List.setIfInBounds_toArray, List.set_cons_zero, List.set_cons_succ]
    refine reg_one 5 rfl (by kernel_rfl) (by kernel_rfl) ?_
    go_simp
    refine ((HP2 _ _ HO1.out.bs).out).mono ?_
    rintro e u2 ⟨v2, rfl, ho2, hs2⟩
    have hS2 := (hS1).trans hs2
    have HO2 := Lib.hid ho2; clear ho2
    refine ⟨hS2, ?_⟩
    try simp only [Act.put, List.setIfInBounds_toArray, List.set_cons_zero, List.set_cons_succ]
    refine reg_take (v := ?_) 6 (some 6) rfl rfl (by kernel_rfl) (fun _ _ _ h => h) (by kernel_rfl) (hS2) ?_ ?_
    rotate_left
    · (intro w' hw'; obtain ⟨c0, c1, c2⟩ := HK.out w' hw'; go_simp; try with_reducible rfl)
    try simp only [Act.put, List.setIfInBounds_toArray, List.set_cons_zero, List.set_cons_succ]
    refine reg_done (by kernel_rfl) ?_
    have HS2 := Lib.hid (HR.out.trans hS2)
    go_wp2_with fail
    refine (HP3 _ _ HO2.out.bs).out.mono ?_
    rintro e w3 ⟨v3, rfl, ho3, hs3⟩
    have HS3 := Lib.hid (HS2.out.trans hs3)
    have HO3 := Lib.hid ho3.bs
    obtain ⟨a3, p3, rfl⟩ := ho3.bs.form0 rfl
    clear ho3 hs3
    go_wp2_with fail
    refine (HC _ _ _ HO3.out (HV.out _ HS3.out)).out.mono ?_
    rintro e w4 ⟨v4, rfl, ho4, hs4⟩
    have HO4 := Lib.hid ho4
    have HS4 := Lib.hid (HS3.out.trans hs4)
    clear ho4 hs4
    go_wp2_with fail
    go_ret
    exact ⟨_, rfl, by simpa using HO4.out.mono HS3.out.size, HS4.out⟩
  · -- one byte, too long
    rw [if_neg he] at h2
    have hz : bits .and .i64 fl 16 = 0 := by rw [i64_and16, if_neg he]
    obtain ⟨b, o, cap, rfl, hcap, hcm, -⟩ := hb.form (by omega)
    have HV : Hid (∀ w', Same w w' → Bs w' (.slice (some ⟨b, o, none⟩) 255 cap) (vl.take 255)) := fun w' hw => by
      have := ((HB.out.same hw).cut 0 255 (by omega)).1
      rw [if_neg (by omega), List.drop_zero] at this
      simpa [Addr.add] using this
    have HVL : Hid ((vl.take 255).length = 255) := by show _ = _; rw [List.length_take]; omega
    have i1 : (255 : Int) ≤ cap := by omega
    have i2 : ((vl.length : Nat) : Int) > 255 := by omega
    have eo : oneB ⟨fl, ty, vl⟩ = ([byteAt fl 0, byteAt ty 0] ++ [byteAt (255 : Nat) 0]) ++ vl.take 255 := by
      show [byteAt fl 0, byteAt ty 0] ++ (if extF fl then [byteAt ((vl.take 65535).length : Nat) 1, byteAt ((vl.take 65535).length : Nat) 0] ++ vl.take 65535 else [byteAt ((vl.take 255).length : Nat) 0] ++ vl.take 255) = _
      rw [if_neg he, HVL.out, List.append_assoc]
    rw [eo]
    generalize vl.take 255 = V at *
    generalize hln : vl.length = n at *
    have hmin : min ((n : Nat) : Int) 255 = 255 := by omega
    clear he eo hcm
    have HR := Lib.hid (Same.alloc w (.cells #[.int .i64 fl, .int .i64 ty, .slice (some ⟨b, o, none⟩) n cap] 59))
    have HK := Lib.hid (fun w' (h : Same (w.alloc (.cells #[.int .i64 fl, .int .i64 ty, .slice (some ⟨b, o, none⟩) n cap] 59)) w') => RwAt.of (r := ⟨fl, ty, []⟩) (vo := .slice (some ⟨b, o, none⟩) n cap) (h.block (heap_alloc_new w (.cells #[.int .i64 fl, .int .i64 ty, .slice (some ⟨b, o, none⟩) n cap] 59))))
    obtain ⟨c0, c1, c2⟩ := HK.out _ (Same.refl _)
    simp only at c0 c1 c2
    have HP1 := fun w => Lib.hid (Put8_any (.slice none 0 0) [] fl w (Bs.nil w) (by simp))
    have HP2 := fun v w h => Lib.hid (Put8_any v [byteAt fl 0] ty w h (by simp))
    have HP3 := fun v w h => Lib.hid (Put8_any v [byteAt fl 0, byteAt ty 0] (255 : Int) w h (by simp))
    simp only [List.nil_append, List.cons_append] at HP1 HP2 HP3
    have HC := fun v1 v2 w h1 h2 => Lib.hid (concat_pair v1 v2 [byteAt fl 0, byteAt ty 0, byteAt (255 : Nat) 0] V w h1 h2 (by rw [HVL.out]; simp <;> omega))
    go_enter Try.func37, Try.ntmps37
    go_wp2_with fail
    generalize hW : w.alloc (.cells #[.int .i64 fl, .int .i64 ty, .slice (some ⟨b, o, none⟩) n cap] 59) = W at *
    clear c0 c1 c2 hW
    refine reg_start (fun w' => Same W w') (by kernel_rfl) ?_
    refine reg_take (v := ?_) 0 (some 19) rfl rfl (by kernel_rfl) (fun _ _ _ h => h) (by kernel_rfl) ((Same.refl W).drew) ?_ ?_
    rotate_left
    · (intro w' hw'; obtain ⟨c0, c1, c2⟩ := HK.out w' hw'; go_simp; try with_reducible rfl)
    try simp only [Act.put, List.setIfInBounds_toArray, List.set_cons_zero, List.set_cons_succ]
    refine reg_take (v := ?_) 1 (some 20) rfl rfl (by kernel_rfl) (fun _ _ _ h => h) (by kernel_rfl) ((Same.refl W).drew) ?_ ?_
    rotate_left
    · (intro w' hw'; obtain ⟨c0, c1, c2⟩ := HK.out w' hw'; go_simp; try with_reducible rfl)
    try simp only [Act.put, List.setIfInBounds_toArray, List.set_cons_zero, List.set_cons_succ]
    refine reg_take (v := ?_) 3 (some 22) rfl rfl (by kernel_rfl) (fun _ _ _ h => h) (by kernel_rfl) ((Same.refl W).drew) ?_ ?_
    rotate_left
    · (intro w' hw'; obtain ⟨c0, c1, c2⟩ := HK.out w' hw'; go_simp; try with_reducible rfl)
    try simp only [Act.put, List.setIfInBounds_toArray, List.set_cons_zero, List.set_cons_succ]
    refine reg_take (v := ?_) 4 (some 23) rfl rfl (by kernel_rfl) (fun _ _ _ h => h) (by kernel_rfl) ((Same.refl W).drew) ?_ ?_
    rotate_left
    · (intro w' hw'; obtain ⟨c0, c1, c2⟩ := HK.out w' hw'; go_simp; try with_reducible rfl)
    try simp only [Act.put, List.setIfInBounds_toArray, List.set_cons_zero, List.set_cons_succ]
    refine reg_one 2 rfl (by kernel_rfl) (by kernel_rfl) ?_
    go_simp
    refine ((HP1 _).out).mono ?_
    rintro e u1 ⟨v1, rfl, ho1, hs1⟩
    have hS1 := ((Same.refl W).drew).trans hs1
    have HO1 := Lib.hid ho1; clear ho1
    refine ⟨hS1, ?_⟩
    try simp only [Act.put, List.setIfInBounds_toArray, List.set_cons_zero, List.set_cons_succ]
    refine reg_one 5 rfl (by kernel_rfl) (by kernel_rfl) ?_
    go_simp
    refine ((HP2 _ _ HO1.out.bs).out).mono ?_
    rintro e u2 ⟨v2, rfl, ho2, hs2⟩
    have hS2 := (hS1).trans hs2
    have HO2 := Lib.hid ho2; clear ho2
    refine ⟨hS2, ?_⟩
    try simp only [Act.put, List.setIfInBounds_toArray, List.set_cons_zero, List.set_cons_succ]
    refine reg_take (v := ?_) 6 (some 6) rfl rfl (by kernel_rfl) (fun _ _ _ h => h) (by kernel_rfl) (hS2) ?_ ?_
    rotate_left
    · (intro w' hw'; obtain ⟨c0, c1, c2⟩ := HK.out w' hw'; go_simp; try with_reducible rfl)
    try simp only [Act.put, List.setIfInBounds_toArray, List.set_cons_zero, List.set_cons_succ]
    refine reg_done (by kernel_rfl) ?_
    have HS2 := Lib.hid (HR.out.trans hS2)
    go_wp2_with fail
    refine (HP3 _ _ HO2.out.bs).out.mono ?_
    rintro e w3 ⟨v3, rfl, ho3, hs3⟩
    have HS3 := Lib.hid (HS2.out.trans hs3)
    have HO3 := Lib.hid ho3.bs
    obtain ⟨a3, p3, rfl⟩ := ho3.bs.form0 rfl
    clear ho3 hs3
    go_wp2_with fail
    refine (HC _ _ _ HO3.out (HV.out _ HS3.out)).out.mono ?_
    rintro e w4 ⟨v4, rfl, ho4, hs4⟩
    have HO4 := Lib.hid ho4
    have HS4 := Lib.hid (HS3.out.trans hs4)
    clear ho4 hs4
    go_wp2_with fail
    go_ret
    exact ⟨_, rfl, by simpa using HO4.out.mono HS3.out.size, HS4.out⟩
  · -- one byte, fits
    rw [if_neg he] at h2
    have hz : bits .and .i64 fl 16 = 0 := by rw [i64_and16, if_neg he]
    obtain ⟨b, cap, rfl⟩ := hb.form0 rfl
    have i4 : vl.length ≤ cap := by obtain ⟨_, _, e1, h1, _⟩ := hb; cases e1; exact h1
    have i5 : cap ≤ 9223372036854775807 := by obtain ⟨_, _, e1, _, h1, _⟩ := hb; cases e1; exact h1
    have HV : Hid (∀ w', Same w w' → Bs w' (.slice b vl.length cap) (vl.take 255)) := fun w' hw => by
      rw [List.take_of_length_le (by omega)]
      exact HB.out.same hw
    have HVL : Hid ((vl.take 255).length = vl.length) := by show _ = _; rw [List.take_of_length_le (by omega)]
    have i2 : ((vl.length : Nat) : Int) ≤ 255 := by omega
    have eo : oneB ⟨fl, ty, vl⟩ = ([byteAt fl 0, byteAt ty 0] ++ [byteAt (vl.length : Nat) 0]) ++ vl.take 255 := by
      show [byteAt fl 0, byteAt ty 0] ++ (if extF fl then [byteAt ((vl.take 65535).length : Nat) 1, byteAt ((vl.take 65535).length : Nat) 0] ++ vl.take 65535 else [byteAt ((vl.take 255).length : Nat) 0] ++ vl.take 255) = _
      rw [if_neg he, HVL.out, List.append_assoc]
    rw [eo]
    generalize vl.take 255 = V at *
    generalize hln : vl.length = n at *
    have hmin : min ((n : Nat) : Int) 255 = n := by omega
    clear he eo hln hb
    have HR := Lib.hid (Same.alloc w (.cells #[.int .i64 fl, .int .i64 ty, .slice b n cap] 59))
    have HK := Lib.hid (fun w' (h : Same (w.alloc (.cells #[.int .i64 fl, .int .i64 ty, .slice b n cap] 59)) w') => RwAt.of (r := ⟨fl, ty, []⟩) (vo := .slice b n cap) (h.block (heap_alloc_new w (.cells #[.int .i64 fl, .int .i64 ty, .slice b n cap] 59))))
    obtain ⟨c0, c1, c2⟩ := HK.out _ (Same.refl _)
    simp only at c0 c1 c2
    have HP1 := fun w => Lib.hid (Put8_any (.slice none 0 0) [] fl w (Bs.nil w) (by simp))
    have HP2 := fun v w h => Lib.hid (Put8_any v [byteAt fl 0] ty w h (by simp))
    have HP3 := fun v w h => Lib.hid (Put8_any v [byteAt fl 0, byteAt ty 0] ((n : Nat) : Int) w h (by simp))
    simp only [List.nil_append, List.cons_append] at HP1 HP2 HP3
    have HC := fun v1 v2 w h1 h2 => Lib.hid (concat_pair v1 v2 [byteAt fl 0, byteAt ty 0, byteAt (n : Nat) 0] V w h1 h2 (by rw [HVL.out]; simp <;> omega))
    go_enter Try.func37, Try.ntmps37
    go_wp2_with fail
    generalize hW : w.alloc (.cells #[.int .i64 fl, .int .i64 ty, .slice b n cap] 59) = W at *
    clear c0 c1 c2 hW
    refine reg_start (fun w' => Same W w') (by kernel_rfl) ?_
    refine reg_take (v := ?_) 0 (some 19) rfl rfl (by kernel_rfl) (fun _ _ _ h => h) (by kernel_rfl) ((Same.refl W).drew) ?_ ?_
    rotate_left
    · (intro w' hw'; obtain ⟨c0, c1, c2⟩ := HK.out w' hw'; go_simp; try with_reducible rfl)
    try simp only [Act.put, List.setIfInBounds_toArray, List.set_cons_zero, List.set_cons_succ]
    refine reg_take (v := ?_) 1 (some 20) rfl rfl (by kernel_rfl) (fun _ _ _ h => h) (by kernel_rfl) ((Same.refl W).drew) ?_ ?_
    rotate_left
    · (intro w' hw'; obtain ⟨c0, c1, c2⟩ := HK.out w' hw'; go_simp; try with_reducible rfl)
    try simp only [Act.put, List.setIfInBounds_toArray, List.set_cons_zero, List.set_cons_succ]
    refine reg_take (v := ?_) 3 (some 22) rfl rfl (by kernel_rfl) (fun _ _ _ h => h) (by kernel_rfl) ((Same.refl W).drew) ?_ ?_
    rotate_left
    · (intro w' hw'; obtain ⟨c0, c1, c2⟩ := HK.out w' hw'; go_simp; try with_reducible rfl)
    try simp only [Act.put, List.setIfInBounds_toArray, List.set_cons_zero, List.set_cons_succ]
    refine reg_take (v := ?_) 4 (some 23) rfl rfl (by kernel_rfl) (fun _ _ _ h => h) (by kernel_rfl) ((Same.refl W).drew) ?_ ?_
    rotate_left
    · (intro w' hw'; obtain ⟨c0, c1, c2⟩ := HK.out w' hw'; go_simp; try with_reducible rfl)
    try simp only [Act.put, List.setIfInBounds_toArray, List.set_cons_zero, List.set_cons_succ]
    refine reg_one 2 rfl (by kernel_rfl) (by kernel_rfl) ?_
    go_simp
    refine ((HP1 _).out).mono ?_
    rintro e u1 ⟨v1, rfl, ho1, hs1⟩
    have hS1 := ((Same.refl W).drew).trans hs1
    have HO1 := Lib.hid ho1; clear ho1
    refine ⟨hS1, ?_⟩
    try simp only [Act.put, List.setIfInBounds_toArray, List.set_cons_zero, List.set_cons_succ]
    refine reg_one 5 rfl (by kernel_rfl) (by kernel_rfl) ?_
    go_simp
    refine ((HP2 _ _ HO1.out.bs).out).mono ?_
    rintro e u2 ⟨v2, rfl, ho2, hs2⟩
    have hS2 := (hS1).trans hs2
    have HO2 := Lib.hid ho2; clear ho2
    refine ⟨hS2, ?_⟩
    try simp only [Act.put, List.setIfInBounds_toArray, List.set_cons_zero, List.set_cons_succ]
    refine reg_take (v := ?_) 6 (some 6) rfl rfl (by kernel_rfl) (fun _ _ _ h => h) (by kernel_rfl) (hS2) ?_ ?_
    rotate_left
    · (intro w' hw'; obtain ⟨c0, c1, c2⟩ := HK.out w' hw'; go_simp; try with_reducible rfl)
    try simp only [Act.put, List.setIfInBounds_toArray, List.set_cons_zero, List.set_cons_succ]
    refine reg_done (by kernel_rfl) ?_
    have HS2 := Lib.hid (HR.out.trans hS2)
    go_wp2_with fail
    refine (HP3 _ _ HO2.out.bs).out.mono ?_
    rintro e w3 ⟨v3, rfl, ho3, hs3⟩
    have HS3 := Lib.hid (HS2.out.trans hs3)
    have HO3 := Lib.hid ho3.bs
    obtain ⟨a3, p3, rfl⟩ := ho3.bs.form0 rfl
    clear ho3 hs3
    go_wp2_with fail
    refine (HC _ _ _ HO3.out (HV.out _ HS3.out)).out.mono ?_
    rintro e w4 ⟨v4, rfl, ho4, hs4⟩
    have HO4 := Lib.hid ho4
    have HS4 := Lib.hid (HS3.out.trans hs4)
    clear ho4 hs4
    go_wp2_with fail
    go_ret
    exact ⟨_, rfl, by simpa using HO4.out.mono HS3.out.size, HS4.out⟩
end Go.Proofs.Ytfhaaenmllkbnaa
