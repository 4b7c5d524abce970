/- The document's own texts: Digits, Addr, Text. No condition beyond what each names. -/
import Derived.Test.YtmlabaaelkghlaaDoorPfxY
import Derived.Test.YtmlabaaelkghlaaDoorPfxN
namespace Go.Proofs.YtmlabaaelkghlaaDoor
open Go.RowKit
set_option linter.unusedVariables false
set_option maxRecDepth 100000

theorem dig_slice : ∀ u : Nat, u < 10 → (⟨#[48, 49, 50, 51, 52, 53, 54, 55, 56, 57]⟩ : ByteArray).extract u (u + 1) = ⟨#[UInt8.ofNat (48 + u)]⟩ := by
  intro u hu
  obtain rfl | rfl | rfl | rfl | rfl | rfl | rfl | rfl | rfl | rfl := (show u = 0 ∨ u = 1 ∨ u = 2 ∨ u = 3 ∨ u = 4 ∨ u = 5 ∨ u = 6 ∨ u = 7 ∨ u = 8 ∨ u = 9 by omega) <;> decide

theorem dig1 (u : Nat) (hu : u < 10) (w : World) : Calls Tryd.prog 26 #[.int .i64 u] w fun e w' => e = .returned (.string ⟨(Lib.decDigits u).toArray⟩) ∧ w = w' := by
  rw [Lib.decDigits_one hu]
  have hx := Lib.hid (dig_slice u hu)
  have h1 : (u : Int) < 10 := by omega
  have h2 : ((u : Int) + 1).toNat = u + 1 := by omega
  have h3 : (u : Int) + 1 ≤ 10 := by omega
  have h4 : (0 : Int) ≤ (u : Int) + 1 := by omega
  go_enter Tryd.func26, Tryd.ntmps26
  go_wp2_with fail
  go_ret
  exact ⟨congrArg (fun b => Ending.returned (Value.string b)) hx.out, rfl⟩

theorem dig1' (u : Nat) (hu : u < 10) (w : World) : Calls Tryd.prog 26 #[.int .i64 u] w fun e w' => e = .returned (.string ⟨#[UInt8.ofNat (48 + u)]⟩) ∧ w = w' := by
  have := dig1 u hu w
  rw [Lib.decDigits_one hu] at this
  exact this
theorem dig2 (u : Nat) (h1 : ¬ u < 10) (h2 : u < 100) (w : World) : Calls Tryd.prog 26 #[.int .i64 u] w fun e w' => e = .returned (.string ⟨#[UInt8.ofNat (48 + u / 10), UInt8.ofNat (48 + u % 10)]⟩) ∧ w = w' := by
  obtain ⟨q, hq, hq2⟩ : ∃ q : Nat, (u : Int) / 10 = q ∧ q = u / 10 := ⟨u / 10, by omega, rfl⟩
  obtain ⟨r, hr, hr2⟩ : ∃ r : Nat, (u : Int) % 10 = r ∧ r = u % 10 := ⟨u % 10, by omega, rfl⟩
  have HQ := Lib.hid (dig1' q (by omega) w)
  have HR := Lib.hid (dig1' r (by omega) w)
  rw [← hq2, ← hr2]
  have h3 : ¬ (u : Int) < 10 := by omega
  have h4 : (0 : Int) ≤ u := by omega
  have h5 : (10 : Int) ≤ u := by omega
  have h6 : (u : Int) ≤ 1000 := by omega
  have h7 : (q : Int) ≤ 100 := by omega
  have h8 : (r : Int) ≤ 9 := by omega
  clear hq2 hr2 h1 h2
  generalize UInt8.ofNat (48 + q) = x at *
  generalize UInt8.ofNat (48 + r) = y at *
  have HC : Hid ((⟨#[x]⟩ : ByteArray) ++ ⟨#[y]⟩ = ⟨#[x, y]⟩) := catB [x] [y]
  go_enter Tryd.func26, Tryd.ntmps26
  go_wp2_with fail
  refine HQ.out.mono ?_
  rintro e w1 ⟨rfl, rfl⟩
  go_wp2_with fail
  refine HR.out.mono ?_
  rintro e w1 ⟨rfl, rfl⟩
  go_wp2_with fail
  go_ret
  exact ⟨congrArg (fun b => Ending.returned (Value.string b)) HC.out, rfl⟩
theorem dig3 (u : Nat) (h1 : ¬ u < 100) (h2 : u < 1000) (w : World) : Calls Tryd.prog 26 #[.int .i64 u] w fun e w' => e = .returned (.string ⟨#[UInt8.ofNat (48 + u / 10 / 10), UInt8.ofNat (48 + u / 10 % 10), UInt8.ofNat (48 + u % 10)]⟩) ∧ w = w' := by
  obtain ⟨q, hq, hq2⟩ : ∃ q : Nat, (u : Int) / 10 = q ∧ q = u / 10 := ⟨u / 10, by omega, rfl⟩
  obtain ⟨r, hr, hr2⟩ : ∃ r : Nat, (u : Int) % 10 = r ∧ r = u % 10 := ⟨u % 10, by omega, rfl⟩
  have HQ := Lib.hid (dig2 q (by omega) (by omega) w)
  have HR := Lib.hid (dig1' r (by omega) w)
  rw [← hq2, ← hr2]
  have h3 : ¬ (u : Int) < 10 := by omega
  have h4 : (0 : Int) ≤ u := by omega
  have h5 : (10 : Int) ≤ u := by omega
  have h6 : (u : Int) ≤ 1000 := by omega
  have h7 : (q : Int) ≤ 100 := by omega
  have h8 : (r : Int) ≤ 9 := by omega
  clear hq2 hr2 h1 h2
  generalize UInt8.ofNat (48 + q / 10) = x at *
  generalize UInt8.ofNat (48 + q % 10) = y at *
  generalize UInt8.ofNat (48 + r) = z at *
  have HC : Hid ((⟨#[x, y]⟩ : ByteArray) ++ ⟨#[z]⟩ = ⟨#[x, y, z]⟩) := catB [x, y] [z]
  go_enter Tryd.func26, Tryd.ntmps26
  go_wp2_with fail
  refine HQ.out.mono ?_
  rintro e w1 ⟨rfl, rfl⟩
  go_wp2_with fail
  refine HR.out.mono ?_
  rintro e w1 ⟨rfl, rfl⟩
  go_wp2_with fail
  go_ret
  exact ⟨congrArg (fun b => Ending.returned (Value.string b)) HC.out, rfl⟩
/-- the document's Digits are the library's -/
theorem rDigits_any (u : Nat) (hu : u ≤ 255) (w : World) : Calls Tryd.prog 26 #[.int .i64 u] w fun e w' => e = .returned (.string ⟨(Lib.decDigits u).toArray⟩) ∧ w = w' := by
  by_cases h1 : u < 10
  · exact dig1 u h1 w
  · by_cases h2 : u < 100
    · have := dig2 u h1 h2 w
      rw [Lib.decDigits_two h1 h2]
      exact this
    · have := dig3 u h2 (by omega) w
      rw [Lib.decDigits, dif_neg h1, Lib.decDigits_two (by omega) (by omega)]
      exact this

theorem and255 (x : Int) (h0 : 0 ≤ x) (h1 : x ≤ 4294967295) : bits .and .u32 x 255 = x % 256 := by
  obtain ⟨y, rfl⟩ : ∃ y : Nat, x = y := ⟨x.toNat, by omega⟩
  have := bits_and y 255 (by omega) (by omega)
  rw [show (255 : Nat) = 2 ^ 8 - 1 from rfl, Nat.and_two_pow_sub_one_eq_mod] at this
  rw [show ((255 : Int)) = ((2 ^ 8 - 1 : Nat) : Int) from rfl, this]
  omega

theorem rAddr_any (a : Int) (h0 : 0 ≤ a) (h1 : a ≤ 4294967295) (w : World) : Calls Tryd.prog 13 #[.int .u32 a] w fun e w' => e = .returned (.string ⟨(addrL a).toArray⟩) ∧ w = w' := by
  have o3 := octet_le a 3
  have o2 := octet_le a 2
  have o1 := octet_le a 1
  have o0 := octet_le a 0
  have l3 := dec_len _ o3
  have l2 := dec_len _ o2
  have l1 := dec_len _ o1
  have l0 := dec_len _ o0
  have e3 : a / 16777216 = (octet a 3 : Int) := by unfold octet; rw [show (256 : Int) ^ 3 = 16777216 from by decide]; omega
  have e2 : bits .and .u32 (a / 65536) 255 = (octet a 2 : Int) := by rw [and255 _ (by omega) (by omega)]; unfold octet; rw [show (256 : Int) ^ 2 = 65536 from by decide]; omega
  have e1 : bits .and .u32 (a / 256) 255 = (octet a 1 : Int) := by rw [and255 _ (by omega) (by omega)]; unfold octet; rw [show (256 : Int) ^ 1 = 256 from by decide]; omega
  have e0 : bits .and .u32 a 255 = (octet a 0 : Int) := by rw [and255 _ h0 h1]; unfold octet; rw [show (256 : Int) ^ 0 = 1 from by decide]; omega
  have D3 := Lib.hid (rDigits_any _ o3 w)
  have D2 := Lib.hid (rDigits_any _ o2 w)
  have D1 := Lib.hid (rDigits_any _ o1 w)
  have D0 := Lib.hid (rDigits_any _ o0 w)
  have i3 : (octet a 3 : Int) ≤ 255 := by omega
  have i2 : (octet a 2 : Int) ≤ 255 := by omega
  have i1 : (octet a 1 : Int) ≤ 255 := by omega
  have i0 : (octet a 0 : Int) ≤ 255 := by omega
  unfold addrL
  generalize Lib.decDigits (octet a 3) = d3 at *
  generalize Lib.decDigits (octet a 2) = d2 at *
  generalize Lib.decDigits (octet a 1) = d1 at *
  generalize Lib.decDigits (octet a 0) = d0 at *
  generalize octet a 3 = n3 at *
  generalize octet a 2 = n2 at *
  generalize octet a 1 = n1 at *
  generalize octet a 0 = n0 at *
  have s1 : ¬ 9223372036854775807 < d3.length + 1 := by omega
  have s2 : ¬ 9223372036854775807 < d3.length + 1 + d2.length := by omega
  have s3 : ¬ 9223372036854775807 < d3.length + 1 + d2.length + 1 := by omega
  have s4 : ¬ 9223372036854775807 < d3.length + 1 + d2.length + 1 + d1.length := by omega
  have s5 : ¬ 9223372036854775807 < d3.length + 1 + d2.length + 1 + d1.length + 1 := by omega
  have s6 : ¬ 9223372036854775807 < d3.length + 1 + d2.length + 1 + d1.length + 1 + d0.length := by omega
  have HC : Hid (((((((⟨d3.toArray⟩ : ByteArray) ++ ⟨#[46]⟩) ++ ⟨d2.toArray⟩) ++ ⟨#[46]⟩) ++ ⟨d1.toArray⟩) ++ ⟨#[46]⟩) ++ ⟨d0.toArray⟩ = ⟨((((((([] ++ d3) ++ [46]) ++ d2) ++ [46]) ++ d1) ++ [46]) ++ d0).toArray⟩) := by
    have e46 : (⟨#[46]⟩ : ByteArray) = ⟨([46] : List UInt8).toArray⟩ := rfl
    show _ = _
    rw [e46, catB, catB, catB, catB, catB, catB, List.nil_append]
  clear l3 l2 l1 l0
  go_enter Tryd.func13, Tryd.ntmps13
  go_wp2_with fail
  refine D3.out.mono ?_
  rintro e w1 ⟨rfl, rfl⟩
  go_wp2_with fail
  refine D2.out.mono ?_
  rintro e w1 ⟨rfl, rfl⟩
  go_wp2_with fail
  refine D1.out.mono ?_
  rintro e w1 ⟨rfl, rfl⟩
  go_wp2_with fail
  refine D0.out.mono ?_
  rintro e w1 ⟨rfl, rfl⟩
  go_wp2_with fail
  go_ret
  exact ⟨congrArg (fun b => Ending.returned (Value.string b)) HC.out, rfl⟩

theorem rAddr_same (a : Int) (h0 : 0 ≤ a) (h1 : a ≤ 4294967295) (w : World) : Calls Tryd.prog 13 #[.int .u32 a] w fun e w' => e = .returned (.string ⟨(addrL a).toArray⟩) ∧ Same w w' := (rAddr_any a h0 h1 w).mono fun _ _ ⟨h, k⟩ => ⟨h, k ▸ Same.refl _⟩
theorem rDigits_same (u : Nat) (hu : u ≤ 255) (w : World) : Calls Tryd.prog 26 #[.int .i64 u] w fun e w' => e = .returned (.string ⟨(Lib.decDigits u).toArray⟩) ∧ Same w w' := (rDigits_any u hu w).mono fun _ _ ⟨h, k⟩ => ⟨h, k ▸ Same.refl _⟩

theorem rText_any (a n : Int) (hc : 0 ≤ canA a n ∧ canA a n ≤ 4294967295) (w : World) : Calls Tryd.prog 11 #[.agg #[.int .u32 a, .int .i64 n]] w fun e w' => e = .returned (.string ⟨(textL a n).toArray⟩) ∧ Same w w' := by
  have HC := fun w => Lib.hid (rCanon_any a n w)
  have hn := nearN_le n
  have HAd := fun w => Lib.hid (rAddr_same (canA a n) hc.1 hc.2 w)
  have HI := fun w => Lib.hid (rDigits_same (nearN n).toNat (by omega) w)
  have hnn : (((nearN n).toNat : Nat) : Int) = nearN n := by omega
  rw [hnn] at HI
  unfold textL
  clear hc hnn hn
  have hdl : (Lib.decDigits (nearN n).toNat).length ≤ 3 := dec_len _ (by have := nearN_le n; omega)
  have hal := addrL_len (canA a n)
  generalize Lib.decDigits (nearN n).toNat = dl at *
  generalize addrL (canA a n) = al at *
  have HS1 : Hid (¬ 9223372036854775807 < al.length + 1) := by show ¬ _; omega
  have HS2 : Hid (¬ 9223372036854775807 < al.length + 1 + dl.length) := by show ¬ _; omega
  have HC3 : Hid ((⟨al.toArray⟩ : ByteArray) ++ ⟨#[47]⟩ ++ ⟨dl.toArray⟩ = ⟨(al ++ [47] ++ dl).toArray⟩) := by
    have e47 : (⟨#[47]⟩ : ByteArray) = ⟨([47] : List UInt8).toArray⟩ := rfl
    show _ = _
    rw [e47, catB, catB]
  generalize nearN n = m at *
  generalize canA a n = c at *
  have H0 := Lib.hid (Same.alloc w (pfxO a n))
  go_enter Tryd.func11, Tryd.ntmps11
  go_wp2_with fail
  refine (HC _).out.mono ?_
  rintro e u ⟨rfl, hu⟩
  go_wp2_with fail
  have H1 := Lib.hid ((H0.out.trans hu).trans (Same.alloc u (pfxO c m)))
  have HB := Lib.hid (box1 c m u)
  generalize hW : u.alloc (.cells #[.int .u32 c, .int .i64 m] 24) = V at *
  refine reg_start (fun w' => Same V w') (by kernel_rfl) ?_
  refine reg_take (v := ?_) 0 (some 6) rfl rfl (by kernel_rfl) (fun _ _ _ h => h) (by kernel_rfl) ((Same.refl V).drew) ?_ ?_
  rotate_left
  · (intro w' hw'; obtain ⟨c0, c1⟩ := HB.out w' hw'; go_simp; try with_reducible rfl)
  try simp only [Act.put, List.setIfInBounds_toArray, List.set_cons_zero, List.set_cons_succ]
  refine reg_take (v := ?_) 1 (some 7) rfl rfl (by kernel_rfl) (fun _ _ _ h => h) (by kernel_rfl) ((Same.refl V).drew) ?_ ?_
  rotate_left
  · (intro w' hw'; obtain ⟨c0, c1⟩ := HB.out w' hw'; go_simp; try with_reducible rfl)
  try simp only [Act.put, List.setIfInBounds_toArray, List.set_cons_zero, List.set_cons_succ]
  refine reg_take (v := ?_) 4 (some 10) rfl rfl (by kernel_rfl) (fun _ _ _ h => h) (by kernel_rfl) ((Same.refl V).drew) ?_ ?_
  rotate_left
  · (intro w' hw'; obtain ⟨c0, c1⟩ := HB.out w' hw'; go_simp; try with_reducible rfl)
  try simp only [Act.put, List.setIfInBounds_toArray, List.set_cons_zero, List.set_cons_succ]
  refine reg_take (v := ?_) 5 (some 11) rfl rfl (by kernel_rfl) (fun _ _ _ h => h) (by kernel_rfl) ((Same.refl V).drew) ?_ ?_
  rotate_left
  · (intro w' hw'; obtain ⟨c0, c1⟩ := HB.out w' hw'; go_simp; try with_reducible rfl)
  try simp only [Act.put, List.setIfInBounds_toArray, List.set_cons_zero, List.set_cons_succ]
  refine reg_one 2 rfl (by kernel_rfl) (by kernel_rfl) ?_
  go_simp
  refine ((HAd _).out).mono ?_
  rintro e u1 ⟨rfl, hs1⟩
  have hS1 := ((Same.refl V).drew).trans hs1
  skip
  refine ⟨hS1, ?_⟩
  try simp only [Act.put, List.setIfInBounds_toArray, List.set_cons_zero, List.set_cons_succ]
  refine reg_take (v := ?_) 3 (some 9) rfl rfl (by kernel_rfl) (fun _ _ _ h => h) (by kernel_rfl) (hS1) ?_ ?_
  rotate_left
  · (intro w' hw'; obtain ⟨c0, c1⟩ := HB.out w' hw'; go_simp; rw [if_neg HS1.out])
  try simp only [Act.put, List.setIfInBounds_toArray, List.set_cons_zero, List.set_cons_succ]
  refine reg_one 6 rfl (by kernel_rfl) (by kernel_rfl) ?_
  go_simp
  refine ((HI _).out).mono ?_
  rintro e u2 ⟨rfl, hs2⟩
  have hS2 := (hS1).trans hs2
  skip
  refine ⟨hS2, ?_⟩
  try simp only [Act.put, List.setIfInBounds_toArray, List.set_cons_zero, List.set_cons_succ]
  refine reg_take (v := ?_) 7 (some 13) rfl rfl (by kernel_rfl) (fun _ _ _ h => h) (by kernel_rfl) (hS2) ?_ ?_
  rotate_left
  · (intro w' hw'; obtain ⟨c0, c1⟩ := HB.out w' hw'; go_simp; rw [if_neg HS2.out])
  try simp only [Act.put, List.setIfInBounds_toArray, List.set_cons_zero, List.set_cons_succ]
  refine reg_take (v := ?_) 8 (some 2) rfl rfl (by kernel_rfl) (fun _ _ _ h => h) (by kernel_rfl) (hS2) ?_ ?_
  rotate_left
  · (intro w' hw'; obtain ⟨c0, c1⟩ := HB.out w' hw'; go_simp; try with_reducible rfl)
  try simp only [Act.put, List.setIfInBounds_toArray, List.set_cons_zero, List.set_cons_succ]
  refine reg_done (by kernel_rfl) ?_
  go_wp2_with fail
  go_ret
  exact ⟨congrArg (fun b => Ending.returned (Value.string b)) HC3.out, H1.out.trans hS2⟩
end Go.Proofs.YtmlabaaelkghlaaDoor
