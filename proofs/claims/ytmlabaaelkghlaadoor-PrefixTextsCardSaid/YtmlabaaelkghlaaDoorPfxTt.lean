/- The walk of PrefixTexts. The library's table is asked to be as its own text lays it. -/
import Derived.Test.YtmlabaaelkghlaaDoorPfxL
import Derived.Test.YtmlabaaelkghlaaDoorPfxMU
namespace Go.Proofs.YtmlabaaelkghlaaDoor
open Go.RowKit
set_option linter.unusedVariables false
set_option maxRecDepth 100000
attribute [local go_sem ↓] eq_pfx

theorem texts_long (x n a : Int) (s : ByteArray) (w : World) (h : 300 < (s.size : Int)) :
    Calls Tryd.prog 3 #[.agg #[.int .u32 x, .int .i64 n], .int .u32 a, .string s] w fun e w' => e = .returned (.bool true) ∧ Same w w' := by
  have H0 := Lib.hid (Same.alloc w (pfxO x n))
  go_enter Tryd.func3, Tryd.ntmps3
  go_wp2_with fail
  refine (pfx_lives _).mono ?_
  rintro e w1 ⟨rfl, hs⟩
  go_wp2_with fail
  go_ret
  exact ⟨rfl, H0.out.trans hs⟩

set_option maxHeartbeats 2000000 in
theorem texts_walk (x n a : Int) (s : ByteArray) (w : World) (hx : 0 ≤ x ∧ x ≤ 4294967295) (ha : 0 ≤ a ∧ a ≤ 4294967295) (hs : (s.size : Int) ≤ 300) (ht : Tab w) :
    Calls Tryd.prog 3 #[.agg #[.int .u32 x, .int .i64 n], .int .u32 a, .string s] w fun e w' => e = .returned (.bool true) ∧ Same w w' := by
  have HT := Lib.hid ht
  have hcr := canA_rng x n hx
  have H1 := fun w' => Lib.hid (ParseAddr_any s (by omega) w')
  have H2 := fun w' => Lib.hid (rParseAddr_any s (by omega) w')
  rw [refM_eq] at H2
  have H3 := fun w' => Lib.hid (ParseText_any s (by omega) w')
  have H4 := fun w' => Lib.hid (rParseText_any s (by omega) w')
  rw [refT_eq] at H4
  have H5 := fun w' h => Lib.hid (Text_any x n hcr w' h)
  have H6 := fun w' => Lib.hid (rText_any x n hcr w')
  have H7 := fun w' h => Lib.hid (Addr_any a ha.1 ha.2 w' h)
  have H8 := fun w' => Lib.hid (rAddr_same a ha.1 ha.2 w')
  obtain ⟨xv, okv, hpa⟩ : ∃ (xv : Int) (okv : Bool), paV (finA 4 s.data.toList 0) = .tuple #[.int .u32 xv, .bool okv] := by
    rcases finA 4 s.data.toList 0 with _ | y
    · exact ⟨0, false, rfl⟩
    · exact ⟨y, true, rfl⟩
  obtain ⟨yv, mv, okt, hpt⟩ : ∃ (yv mv : Int) (okt : Bool), ptV (parT s.data.toList) = .tuple #[.agg #[.int .u32 yv, .int .i64 mv], .bool okt] := by
    rcases parT s.data.toList with _ | ⟨y, m⟩
    · exact ⟨0, 0, false, rfl⟩
    · exact ⟨y, m, true, rfl⟩
  rw [hpa] at H1 H2
  rw [hpt] at H3 H4
  clear hpa hpt hcr hx ha ht
  generalize (⟨(textL x n).toArray⟩ : ByteArray) = sb at *
  generalize (⟨(addrL a).toArray⟩ : ByteArray) = sa at *
  have H0 := Lib.hid (Same.alloc w (pfxO x n))
  have hbk : (w.alloc (pfxO x n)).heap[w.heap.size]? = some (pfxO x n) := heap_alloc_new w (pfxO x n)
  go_enter Tryd.func3, Tryd.ntmps3
  go_wp2_with fail
  generalize w.alloc (.cells #[.int .u32 x, .int .i64 n] 24) = V0 at *
  refine (H1 _).out.mono ?_
  rintro e u1 ⟨rfl, h1⟩
  go_wp2_with fail
  refine (H2 _).out.mono ?_
  rintro e u2 ⟨rfl, h2⟩
  go_wp2_with fail
  refine (H3 _).out.mono ?_
  rintro e u3 ⟨rfl, h3⟩
  have HS3 := Lib.hid ((h1.trans h2).trans h3)
  clear h1 h2 h3
  go_wp2_with fail
  have HA3 := Lib.hid (Same.alloc u3 (pfxO yv mv))
  have hb3 := heap_alloc_new u3 (pfxO yv mv)
  have HS3' := Lib.hid (HS3.out.trans HA3.out)
  generalize u3.alloc (.cells #[.int .u32 yv, .int .i64 mv] 24) = V3 at *
  refine (H4 _).out.mono ?_
  rintro e u4 ⟨rfl, h4⟩
  go_wp2_with fail
  have hb4 := heap_alloc_new u4 (pfxO yv mv)
  have HA4 := Lib.hid (Same.alloc u4 (pfxO yv mv))
  have hb3' := (h4.trans HA4.out).block hb3
  have HV := Lib.hid ((HS3'.out.trans h4).trans HA4.out)
  have hbp := HV.out.block hbk
  generalize u4.alloc (.cells #[.int .u32 yv, .int .i64 mv] 24) = V at *
  have HF : Hid (∀ w', Same V w' → (w'.cell? ⟨w.heap.size, 0, none⟩ = some (.int .u32 x) ∧ w'.cell? ⟨w.heap.size, 1, none⟩ = some (.int .i64 n)) ∧ (w'.cell? ⟨u3.heap.size, 0, none⟩ = some (.int .u32 yv) ∧ w'.cell? ⟨u3.heap.size, 1, none⟩ = some (.int .i64 mv)) ∧ (w'.cell? ⟨u4.heap.size, 0, none⟩ = some (.int .u32 yv) ∧ w'.cell? ⟨u4.heap.size, 1, none⟩ = some (.int .i64 mv))) := fun w' hw => by
    obtain ⟨a0, a1, -, -⟩ := box_cells' (hw.block hbp)
    obtain ⟨b0, b1, -, -⟩ := box_cells' (hw.block hb3')
    obtain ⟨c0, c1, -, -⟩ := box_cells' (hw.block hb4)
    exact ⟨⟨a0, a1⟩, ⟨b0, b1⟩, ⟨c0, c1⟩⟩
  have HTV : Hid (Tab V) := HT.out.same (H0.out.trans HV.out)
  clear hb3 hb4 hb3' hbp hbk h4 HA3 HA4 HS3 HS3'
  refine reg_start (fun w' => Same V w') (by kernel_rfl) ?_
  refine reg_take (v := ?_) 0 (some 39) rfl rfl (by kernel_rfl) (fun _ _ _ h => h) (by kernel_rfl) ((Same.refl V).drew) ?_ ?_
  rotate_left
  · (intro w' hw'; obtain ⟨⟨a0, a1⟩, ⟨b0, b1⟩, ⟨c0, c1⟩⟩ := HF.out w' hw'; go_simp; try with_reducible rfl)
  try simp only [Act.put, List.setIfInBounds_toArray, List.set_cons_zero, List.set_cons_succ]
  refine reg_take (v := ?_) 2 (some 41) rfl rfl (by kernel_rfl) (fun _ _ _ h => h) (by kernel_rfl) ((Same.refl V).drew) ?_ ?_
  rotate_left
  · (intro w' hw'; obtain ⟨⟨a0, a1⟩, ⟨b0, b1⟩, ⟨c0, c1⟩⟩ := HF.out w' hw'; go_simp; try with_reducible rfl)
  try simp only [Act.put, List.setIfInBounds_toArray, List.set_cons_zero, List.set_cons_succ]
  refine reg_one 1 rfl (by kernel_rfl) (by kernel_rfl) ?_
  go_simp
  refine ((H5 _ (HTV.out.same (Same.refl V).drew)).out).mono ?_
  rintro e u1 ⟨rfl, hs1⟩
  have hS1 := ((Same.refl V).drew).trans hs1
  skip
  refine ⟨hS1, ?_⟩
  try simp only [Act.put, List.setIfInBounds_toArray, List.set_cons_zero, List.set_cons_succ]
  refine reg_one 3 rfl (by kernel_rfl) (by kernel_rfl) ?_
  go_simp
  refine ((H6 _).out).mono ?_
  rintro e u2 ⟨rfl, hs2⟩
  have hS2 := (hS1).trans hs2
  skip
  refine ⟨hS2, ?_⟩
  try simp only [Act.put, List.setIfInBounds_toArray, List.set_cons_zero, List.set_cons_succ]
  refine reg_take (v := ?_) 4 (some 43) rfl rfl (by kernel_rfl) (fun _ _ _ h => h) (by kernel_rfl) (hS2) ?_ ?_
  rotate_left
  · (intro w' hw'; obtain ⟨⟨a0, a1⟩, ⟨b0, b1⟩, ⟨c0, c1⟩⟩ := HF.out w' hw'; go_simp; try with_reducible rfl)
  try simp only [Act.put, List.setIfInBounds_toArray, List.set_cons_zero, List.set_cons_succ]
  refine reg_take (v := ?_) 5 (some 44) rfl rfl (by kernel_rfl) (fun _ _ _ h => h) (by kernel_rfl) (hS2) ?_ ?_
  rotate_left
  · (intro w' hw'; obtain ⟨⟨a0, a1⟩, ⟨b0, b1⟩, ⟨c0, c1⟩⟩ := HF.out w' hw'; go_simp; try with_reducible rfl)
  try simp only [Act.put, List.setIfInBounds_toArray, List.set_cons_zero, List.set_cons_succ]
  refine reg_take (v := ?_) 6 (some 45) rfl rfl (by kernel_rfl) (fun _ _ _ h => h) (by kernel_rfl) (hS2) ?_ ?_
  rotate_left
  · (intro w' hw'; obtain ⟨⟨a0, a1⟩, ⟨b0, b1⟩, ⟨c0, c1⟩⟩ := HF.out w' hw'; go_simp; try with_reducible rfl)
  try simp only [Act.put, List.setIfInBounds_toArray, List.set_cons_zero, List.set_cons_succ]
  refine reg_take (v := ?_) 8 (some 47) rfl rfl (by kernel_rfl) (fun _ _ _ h => h) (by kernel_rfl) (hS2) ?_ ?_
  rotate_left
  · (intro w' hw'; obtain ⟨⟨a0, a1⟩, ⟨b0, b1⟩, ⟨c0, c1⟩⟩ := HF.out w' hw'; go_simp; try with_reducible rfl)
  try simp only [Act.put, List.setIfInBounds_toArray, List.set_cons_zero, List.set_cons_succ]
  refine reg_one 7 rfl (by kernel_rfl) (by kernel_rfl) ?_
  go_simp
  refine ((H7 _ (HTV.out.same hS2)).out).mono ?_
  rintro e u3 ⟨rfl, hs3⟩
  have hS3 := (hS2).trans hs3
  skip
  refine ⟨hS3, ?_⟩
  try simp only [Act.put, List.setIfInBounds_toArray, List.set_cons_zero, List.set_cons_succ]
  refine reg_one 9 rfl (by kernel_rfl) (by kernel_rfl) ?_
  go_simp
  refine ((H8 _).out).mono ?_
  rintro e u4 ⟨rfl, hs4⟩
  have hS4 := (hS3).trans hs4
  skip
  refine ⟨hS4, ?_⟩
  try simp only [Act.put, List.setIfInBounds_toArray, List.set_cons_zero, List.set_cons_succ]
  refine reg_take (v := ?_) 10 (some 49) rfl rfl (by kernel_rfl) (fun _ _ _ h => h) (by kernel_rfl) (hS4) ?_ ?_
  rotate_left
  · (intro w' hw'; obtain ⟨⟨a0, a1⟩, ⟨b0, b1⟩, ⟨c0, c1⟩⟩ := HF.out w' hw'; go_simp; try with_reducible rfl)
  try simp only [Act.put, List.setIfInBounds_toArray, List.set_cons_zero, List.set_cons_succ]
  refine reg_take (v := ?_) 11 (some 50) rfl rfl (by kernel_rfl) (fun _ _ _ h => h) (by kernel_rfl) (hS4) ?_ ?_
  rotate_left
  · (intro w' hw'; obtain ⟨⟨a0, a1⟩, ⟨b0, b1⟩, ⟨c0, c1⟩⟩ := HF.out w' hw'; go_simp; try with_reducible rfl)
  try simp only [Act.put, List.setIfInBounds_toArray, List.set_cons_zero, List.set_cons_succ]
  refine reg_take (v := ?_) 12 (some 51) rfl rfl (by kernel_rfl) (fun _ _ _ h => h) (by kernel_rfl) (hS4) ?_ ?_
  rotate_left
  · (intro w' hw'; obtain ⟨⟨a0, a1⟩, ⟨b0, b1⟩, ⟨c0, c1⟩⟩ := HF.out w' hw'; go_simp; try with_reducible rfl)
  try simp only [Act.put, List.setIfInBounds_toArray, List.set_cons_zero, List.set_cons_succ]
  refine reg_take (v := ?_) 13 (some 52) rfl rfl (by kernel_rfl) (fun _ _ _ h => h) (by kernel_rfl) (hS4) ?_ ?_
  rotate_left
  · (intro w' hw'; obtain ⟨⟨a0, a1⟩, ⟨b0, b1⟩, ⟨c0, c1⟩⟩ := HF.out w' hw'; go_simp; try with_reducible rfl)
  try simp only [Act.put, List.setIfInBounds_toArray, List.set_cons_zero, List.set_cons_succ]
  refine reg_take (v := ?_) 14 (some 53) rfl rfl (by kernel_rfl) (fun _ _ _ h => h) (by kernel_rfl) (hS4) ?_ ?_
  rotate_left
  · (intro w' hw'; obtain ⟨⟨a0, a1⟩, ⟨b0, b1⟩, ⟨c0, c1⟩⟩ := HF.out w' hw'; go_simp; try with_reducible rfl)
  try simp only [Act.put, List.setIfInBounds_toArray, List.set_cons_zero, List.set_cons_succ]
  refine reg_take (v := ?_) 15 (some 54) rfl rfl (by kernel_rfl) (fun _ _ _ h => h) (by kernel_rfl) (hS4) ?_ ?_
  rotate_left
  · (intro w' hw'; obtain ⟨⟨a0, a1⟩, ⟨b0, b1⟩, ⟨c0, c1⟩⟩ := HF.out w' hw'; go_simp; try with_reducible rfl)
  try simp only [Act.put, List.setIfInBounds_toArray, List.set_cons_zero, List.set_cons_succ]
  refine reg_take (v := ?_) 16 (some 55) rfl rfl (by kernel_rfl) (fun _ _ _ h => h) (by kernel_rfl) (hS4) ?_ ?_
  rotate_left
  · (intro w' hw'; obtain ⟨⟨a0, a1⟩, ⟨b0, b1⟩, ⟨c0, c1⟩⟩ := HF.out w' hw'; go_simp; try with_reducible rfl)
  try simp only [Act.put, List.setIfInBounds_toArray, List.set_cons_zero, List.set_cons_succ]
  refine reg_take (v := ?_) 17 (some 56) rfl rfl (by kernel_rfl) (fun _ _ _ h => h) (by kernel_rfl) (hS4) ?_ ?_
  rotate_left
  · (intro w' hw'; obtain ⟨⟨a0, a1⟩, ⟨b0, b1⟩, ⟨c0, c1⟩⟩ := HF.out w' hw'; go_simp; try with_reducible rfl)
  try simp only [Act.put, List.setIfInBounds_toArray, List.set_cons_zero, List.set_cons_succ]
  refine reg_take (v := ?_) 18 (some 57) rfl rfl (by kernel_rfl) (fun _ _ _ h => h) (by kernel_rfl) (hS4) ?_ ?_
  rotate_left
  · (intro w' hw'; obtain ⟨⟨a0, a1⟩, ⟨b0, b1⟩, ⟨c0, c1⟩⟩ := HF.out w' hw'; go_simp; try with_reducible rfl)
  try simp only [Act.put, List.setIfInBounds_toArray, List.set_cons_zero, List.set_cons_succ]
  refine reg_take (v := ?_) 19 (some 58) rfl rfl (by kernel_rfl) (fun _ _ _ h => h) (by kernel_rfl) (hS4) ?_ ?_
  rotate_left
  · (intro w' hw'; obtain ⟨⟨a0, a1⟩, ⟨b0, b1⟩, ⟨c0, c1⟩⟩ := HF.out w' hw'; go_simp; try with_reducible rfl)
  try simp only [Act.put, List.setIfInBounds_toArray, List.set_cons_zero, List.set_cons_succ]
  refine reg_take (v := ?_) 20 (some 59) rfl rfl (by kernel_rfl) (fun _ _ _ h => h) (by kernel_rfl) (hS4) ?_ ?_
  rotate_left
  · (intro w' hw'; obtain ⟨⟨a0, a1⟩, ⟨b0, b1⟩, ⟨c0, c1⟩⟩ := HF.out w' hw'; go_simp; try with_reducible rfl)
  try simp only [Act.put, List.setIfInBounds_toArray, List.set_cons_zero, List.set_cons_succ]
  refine reg_take (v := ?_) 21 (some 60) rfl rfl (by kernel_rfl) (fun _ _ _ h => h) (by kernel_rfl) (hS4) ?_ ?_
  rotate_left
  · (intro w' hw'; obtain ⟨⟨a0, a1⟩, ⟨b0, b1⟩, ⟨c0, c1⟩⟩ := HF.out w' hw'; go_simp; try with_reducible rfl)
  try simp only [Act.put, List.setIfInBounds_toArray, List.set_cons_zero, List.set_cons_succ]
  refine reg_take (v := ?_) 22 (some 61) rfl rfl (by kernel_rfl) (fun _ _ _ h => h) (by kernel_rfl) (hS4) ?_ ?_
  rotate_left
  · (intro w' hw'; obtain ⟨⟨a0, a1⟩, ⟨b0, b1⟩, ⟨c0, c1⟩⟩ := HF.out w' hw'; go_simp; try with_reducible rfl)
  try simp only [Act.put, List.setIfInBounds_toArray, List.set_cons_zero, List.set_cons_succ]
  refine reg_take (v := ?_) 23 (some 62) rfl rfl (by kernel_rfl) (fun _ _ _ h => h) (by kernel_rfl) (hS4) ?_ ?_
  rotate_left
  · (intro w' hw'; obtain ⟨⟨a0, a1⟩, ⟨b0, b1⟩, ⟨c0, c1⟩⟩ := HF.out w' hw'; go_simp; try with_reducible rfl)
  try simp only [Act.put, List.setIfInBounds_toArray, List.set_cons_zero, List.set_cons_succ]
  refine reg_take (v := ?_) 24 (some 63) rfl rfl (by kernel_rfl) (fun _ _ _ h => h) (by kernel_rfl) (hS4) ?_ ?_
  rotate_left
  · (intro w' hw'; obtain ⟨⟨a0, a1⟩, ⟨b0, b1⟩, ⟨c0, c1⟩⟩ := HF.out w' hw'; go_simp; try with_reducible rfl)
  try simp only [Act.put, List.setIfInBounds_toArray, List.set_cons_zero, List.set_cons_succ]
  refine reg_take (v := ?_) 25 (some 64) rfl rfl (by kernel_rfl) (fun _ _ _ h => h) (by kernel_rfl) (hS4) ?_ ?_
  rotate_left
  · (intro w' hw'; obtain ⟨⟨a0, a1⟩, ⟨b0, b1⟩, ⟨c0, c1⟩⟩ := HF.out w' hw'; go_simp; try with_reducible rfl)
  try simp only [Act.put, List.setIfInBounds_toArray, List.set_cons_zero, List.set_cons_succ]
  refine reg_take (v := ?_) 26 (some 65) rfl rfl (by kernel_rfl) (fun _ _ _ h => h) (by kernel_rfl) (hS4) ?_ ?_
  rotate_left
  · (intro w' hw'; obtain ⟨⟨a0, a1⟩, ⟨b0, b1⟩, ⟨c0, c1⟩⟩ := HF.out w' hw'; go_simp; try with_reducible rfl)
  try simp only [Act.put, List.setIfInBounds_toArray, List.set_cons_zero, List.set_cons_succ]
  refine reg_take (v := ?_) 27 (some 66) rfl rfl (by kernel_rfl) (fun _ _ _ h => h) (by kernel_rfl) (hS4) ?_ ?_
  rotate_left
  · (intro w' hw'; obtain ⟨⟨a0, a1⟩, ⟨b0, b1⟩, ⟨c0, c1⟩⟩ := HF.out w' hw'; go_simp; try with_reducible rfl)
  try simp only [Act.put, List.setIfInBounds_toArray, List.set_cons_zero, List.set_cons_succ]
  refine reg_take (v := ?_) 28 (some 67) rfl rfl (by kernel_rfl) (fun _ _ _ h => h) (by kernel_rfl) (hS4) ?_ ?_
  rotate_left
  · (intro w' hw'; obtain ⟨⟨a0, a1⟩, ⟨b0, b1⟩, ⟨c0, c1⟩⟩ := HF.out w' hw'; go_simp; try with_reducible rfl)
  try simp only [Act.put, List.setIfInBounds_toArray, List.set_cons_zero, List.set_cons_succ]
  refine reg_take (v := ?_) 29 (some 68) rfl rfl (by kernel_rfl) (fun _ _ _ h => h) (by kernel_rfl) (hS4) ?_ ?_
  rotate_left
  · (intro w' hw'; obtain ⟨⟨a0, a1⟩, ⟨b0, b1⟩, ⟨c0, c1⟩⟩ := HF.out w' hw'; go_simp; try with_reducible rfl)
  try simp only [Act.put, List.setIfInBounds_toArray, List.set_cons_zero, List.set_cons_succ]
  refine reg_take (v := ?_) 30 (some 69) rfl rfl (by kernel_rfl) (fun _ _ _ h => h) (by kernel_rfl) (hS4) ?_ ?_
  rotate_left
  · (intro w' hw'; obtain ⟨⟨a0, a1⟩, ⟨b0, b1⟩, ⟨c0, c1⟩⟩ := HF.out w' hw'; go_simp; try with_reducible rfl)
  try simp only [Act.put, List.setIfInBounds_toArray, List.set_cons_zero, List.set_cons_succ]
  refine reg_take (v := ?_) 31 (some 70) rfl rfl (by kernel_rfl) (fun _ _ _ h => h) (by kernel_rfl) (hS4) ?_ ?_
  rotate_left
  · (intro w' hw'; obtain ⟨⟨a0, a1⟩, ⟨b0, b1⟩, ⟨c0, c1⟩⟩ := HF.out w' hw'; go_simp; try with_reducible rfl)
  try simp only [Act.put, List.setIfInBounds_toArray, List.set_cons_zero, List.set_cons_succ]
  refine reg_take (v := ?_) 32 (some 71) rfl rfl (by kernel_rfl) (fun _ _ _ h => h) (by kernel_rfl) (hS4) ?_ ?_
  rotate_left
  · (intro w' hw'; obtain ⟨⟨a0, a1⟩, ⟨b0, b1⟩, ⟨c0, c1⟩⟩ := HF.out w' hw'; go_simp; try with_reducible rfl)
  try simp only [Act.put, List.setIfInBounds_toArray, List.set_cons_zero, List.set_cons_succ]
  refine reg_one 33 rfl (by kernel_rfl) (by kernel_rfl) ?_
  go_simp
  refine (pfx_lives _).mono ?_
  rintro e u5 ⟨rfl, hs5⟩
  have hS5 := (hS4).trans hs5
  skip
  refine ⟨hS5, ?_⟩
  try simp only [Act.put, List.setIfInBounds_toArray, List.set_cons_zero, List.set_cons_succ]
  refine reg_take (v := ?_) 34 (some 73) rfl rfl (by kernel_rfl) (fun _ _ _ h => h) (by kernel_rfl) (hS5) ?_ ?_
  rotate_left
  · (intro w' hw'; obtain ⟨⟨a0, a1⟩, ⟨b0, b1⟩, ⟨c0, c1⟩⟩ := HF.out w' hw'; go_simp; try with_reducible rfl)
  try simp only [Act.put, List.setIfInBounds_toArray, List.set_cons_zero, List.set_cons_succ]
  refine reg_take (v := ?_) 35 (some 6) rfl rfl (by kernel_rfl) (fun _ _ _ h => h) (by kernel_rfl) (hS5) ?_ ?_
  rotate_left
  · (intro w' hw'; obtain ⟨⟨a0, a1⟩, ⟨b0, b1⟩, ⟨c0, c1⟩⟩ := HF.out w' hw'; go_simp; try with_reducible rfl)
  try simp only [Act.put, List.setIfInBounds_toArray, List.set_cons_zero, List.set_cons_succ]
  refine reg_done (by kernel_rfl) ?_
  go_wp2_with fail
  go_ret
  exact ⟨rfl, (H0.out.trans HV.out).trans hS5⟩
end Go.Proofs.YtmlabaaelkghlaaDoor
