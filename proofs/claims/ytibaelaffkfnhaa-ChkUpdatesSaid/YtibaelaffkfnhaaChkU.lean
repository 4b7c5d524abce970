/- The walk of ChkUpdates. No condition beyond what is asked of the layer's functions. -/
import Derived.Test.YtibaelaffkfnhaaChkC
import Derived.Test.YtibaelaffkfnhaaOwn
import Derived.Test.YtibaelaffkfnhaaChkM
import Derived.Test.YtibaelaffkfnhaaChkS
import Derived.Test.YtibaelaffkfnhaaChkW
import Derived.Test.YtibaelaffkfnhaaChkD
import Derived.Test.YtibaelaffkfnhaaReg
import Derived.OwnWalk
namespace Go.Proofs.Ytibaelaffkfnhaa
open Go.RowKit
set_option linter.unusedVariables false

theorem updates_long (C : ChkC) (ao : Option Addr) (n cap : Nat) (x y : Int) (w : World) (h : (n : Int) = 0 ∨ 1000 < (n : Int)) :
    Calls Try.prog 10 #[.slice ao n cap, .int .u64 x, .int .u16 y] w fun e w' => e = .returned (.bool true) ∧ Same w w' := by
  by_cases h0 : (n : Int) = 0
  · have hz : ((n : Int) == 0) = true := by rw [beq_iff_eq]; exact h0
    go_enter Try.func10, Try.ntmps10
    go_wp2_with fail
    refine (chk_lives C w).mono ?_
    rintro e w1 ⟨rfl, hs⟩
    go_wp2_with fail
    go_ret
    exact ⟨rfl, hs⟩
  · have hz : ((n : Int) == 0) = false := by rw [beq_eq_false_iff_ne]; exact h0
    have h1 : 1000 < (n : Int) := by omega
    go_enter Try.func10, Try.ntmps10
    go_wp2_with fail
    refine (chk_lives C w).mono ?_
    rintro e w1 ⟨rfl, hs⟩
    go_wp2_with fail
    go_ret
    exact ⟨rfl, hs⟩

theorem updates_walk (C : ChkC) (v : Value) (l : List UInt8) (x y : Int) (w : World) (hb : Bs w v l) (h0 : 0 < (l.length : Int)) (hl : ¬ 1000 < (l.length : Int)) (hx : 0 ≤ x ∧ x ≤ 18446744073709551615) (hy : 0 ≤ y ∧ y ≤ 65535) :
    Calls Try.prog 10 #[v, .int .u64 x, .int .u16 y] w fun e w' => e = .returned (.bool true) ∧ Same w w' := by
  obtain ⟨n, rfl⟩ : ∃ n : Nat, y = n := ⟨y.toNat, by omega⟩
  have hn : n ≤ 65535 := by omega
  have HB := Lib.hid hb
  obtain ⟨ao, cap, rfl, b1, b2, b3, b4⟩ := hb
  clear b4 b3
  have hz : ((l.length : Int) == 0) = false := by rw [beq_eq_false_iff_ne]; omega
  obtain ⟨r, hr⟩ : ∃ r : Nat, x % (l.length : Int) = r := ⟨(x % (l.length : Int)).toNat, by have := Int.emod_nonneg x (show (l.length : Int) ≠ 0 by omega); omega⟩
  have hrl : (r : Int) < l.length := by rw [← hr]; exact Int.emod_lt_of_pos _ h0
  have e1 : IntKind.i64.wrap (r : Int) = r := IntWalk.i64_in _ (by omega)
  have e2 : IntKind.i64.wrap (2 * (r : Int)) = 2 * r := IntWalk.i64_in _ (by omega)
  have e3 : IntKind.i64.wrap (2 * (r : Int) + 1) = 2 * r + 1 := IntWalk.i64_in _ (by omega)
  have e4 : (2 * (r : Int)).toNat = 2 * r := by omega
  have e5 : (2 * (r : Int) + 1).toNat = 2 * r + 1 := by omega
  have H0 := Lib.hid (Same.alloc w (.cells #[] 5))
  have HO0 := Lib.hid (OwnB.empty w)
  go_enter Try.func10, Try.ntmps10
  go_wp2_with (first
    | (at_builtin; refine wpList_append_bs rfl _ (.tmp 23) rfl w H1.out _ l rfl HO1.out _ l rfl (HB.out.same H1.out) (by omega) ?_; intro v2 w2 ho2 hs2; obtain ⟨g, c, rfl, hc, hg⟩ := ho2.form (by simp; omega); rw [List.length_append] at hc ho2 ⊢; have c0 := ho2.cell (2 * r) (by simp; omega); have f0 := ho2.thaw (2 * r); have c1 := ho2.cell (2 * r + 1) (by simp; omega); have f1 := ho2.thaw (2 * r + 1); have HO2 := Lib.hid ho2; have H2 := Lib.hid hs2; clear ho2 hs2)
    | (at_builtin; refine wpList_append_bs rfl _ (.tmp 21) rfl w H0.out _ [] rfl HO0.out _ l rfl (HB.out.same H0.out) (by simp; omega) ?_; intro v1 w1 ho1 hs1; rw [List.nil_append] at ho1; have HO1 := Lib.hid ho1; have H1 := Lib.hid hs1; clear ho1 hs1))
  -- the order is open from here on
  obtain ⟨q, hqd⟩ : ∃ q, q = wordAt (l ++ l) r := ⟨_, rfl⟩
  have hq65 : q ≤ 65535 := by rw [hqd]; exact wordAt_le _ _
  have g0 : (l ++ l).getD (2 * r) 0 = (l ++ l)[2 * r]'(by simp; omega) := by rw [List.getD, List.getElem?_eq_getElem (by simp; omega)]; rfl
  have g1 : (l ++ l).getD (2 * r + 1) 0 = (l ++ l)[2 * r + 1]'(by simp; omega) := by rw [List.getD, List.getElem?_eq_getElem (by simp; omega)]; rfl
  have HOLD : Hid (bits .or .i64 (((l ++ l)[2 * r]'(by simp; omega)).toNat * 256 : Int) ((l ++ l)[2 * r + 1]'(by simp; omega)).toNat = (q : Int)) := by
    show _ = _
    rw [or_hi_lo _ _ (UInt8.toNat_lt _) (UInt8.toNat_lt _), hqd, wordAt, g0, g1]; omega
  have HQD := Lib.hid hqd
  have hy0 : ((((l ++ l)[2 * r]'(by simp; omega)).toNat : Nat) : Int) ≤ 255 := by have := UInt8.toNat_lt ((l ++ l)[2 * r]'(by simp; omega)); omega
  have hy1 : ((((l ++ l)[2 * r + 1]'(by simp; omega)).toNat : Nat) : Int) ≤ 255 := by have := UInt8.toNat_lt ((l ++ l)[2 * r + 1]'(by simp; omega)); omega
  unfold b8 at c0 c1
  generalize ((l ++ l)[2 * r]'(by simp; omega)).toNat = y0 at *
  generalize ((l ++ l)[2 * r + 1]'(by simp; omega)).toNat = y1 at *
  clear g0 g1 hqd
  have z0 : IntKind.i64.wrap (y0 : Int) = y0 := IntWalk.i64_in _ (by omega)
  have z1 : IntKind.i64.wrap (y1 : Int) = y1 := IntWalk.i64_in _ (by omega)
  have z2 : IntKind.i64.wrap ((y0 : Int) * 256) = y0 * 256 := IntWalk.i64_in _ (by omega)
  have HCA : Hid (Cell w2.drew ⟨g, 2 * r, none⟩ (.int .u8 (y0 : Int))) := c0
  have HCB : Hid (Cell w2.drew ⟨g, 2 * r + 1, none⟩ (.int .u8 (y1 : Int))) := c1
  have HO3 : Hid (OwnB w2.drew w.heap.size (.slice (some ⟨g, 0, none⟩) (l.length + l.length) c) (l ++ l)) := HO2.out.same ((Same.refl _).drew)
  have H3 : Hid (Same w w2.drew) := H2.out.drew
  clear c0 f0 c1 f1 HO2 H2 HO0 H0 HO1 H1
  refine reg_start (fun w' => Same w2.drew w') (by kernel_rfl) ?_
  generalize w2.drew = W0 at *
  refine reg_take (v := ?_) 0 (some 32) rfl rfl (by kernel_rfl) (fun _ _ _ h => h) (by kernel_rfl) (Same.refl W0) ?_ ?_
  rotate_left
  · (intro w' hw'; go_simp; try with_reducible rfl)
  try simp only [Act.put, List.setIfInBounds_toArray, List.set_cons_zero, List.set_cons_succ]
  refine reg_take (v := ?_) 1 (some 33) rfl rfl (by kernel_rfl) (fun _ _ _ h => h) (by kernel_rfl) (Same.refl W0) ?_ ?_
  rotate_left
  · (intro w' hw'; go_simp; try with_reducible rfl)
  try simp only [Act.put, List.setIfInBounds_toArray, List.set_cons_zero, List.set_cons_succ]
  refine reg_take (v := ?_) 2 (some 34) rfl rfl (by kernel_rfl) (fun _ _ _ h => h) (by kernel_rfl) (Same.refl W0) ?_ ?_
  rotate_left
  · (intro w' hw'; go_simp; rw [if_pos (by omega)])
  try simp only [Act.put, List.setIfInBounds_toArray, List.set_cons_zero, List.set_cons_succ]
  refine reg_take (v := ?_) 3 (some 35) rfl rfl (by kernel_rfl) (fun _ _ _ h => h) (by kernel_rfl) (Same.refl W0) ?_ ?_
  rotate_left
  · (intro w' hw'; have hr := HCA.out.same hw'; go_simp; try with_reducible rfl)
  try simp only [Act.put, List.setIfInBounds_toArray, List.set_cons_zero, List.set_cons_succ]
  refine reg_take (v := ?_) 4 (some 36) rfl rfl (by kernel_rfl) (fun _ _ _ h => h) (by kernel_rfl) (Same.refl W0) ?_ ?_
  rotate_left
  · (intro w' hw'; go_simp; try with_reducible rfl)
  try simp only [Act.put, List.setIfInBounds_toArray, List.set_cons_zero, List.set_cons_succ]
  refine reg_take (v := ?_) 5 (some 37) rfl rfl (by kernel_rfl) (fun _ _ _ h => h) (by kernel_rfl) (Same.refl W0) ?_ ?_
  rotate_left
  · (intro w' hw'; go_simp; try with_reducible rfl)
  try simp only [Act.put, List.setIfInBounds_toArray, List.set_cons_zero, List.set_cons_succ]
  refine reg_take (v := ?_) 6 (some 38) rfl rfl (by kernel_rfl) (fun _ _ _ h => h) (by kernel_rfl) (Same.refl W0) ?_ ?_
  rotate_left
  · (intro w' hw'; go_simp; try with_reducible rfl)
  try simp only [Act.put, List.setIfInBounds_toArray, List.set_cons_zero, List.set_cons_succ]
  refine reg_take (v := ?_) 7 (some 39) rfl rfl (by kernel_rfl) (fun _ _ _ h => h) (by kernel_rfl) (Same.refl W0) ?_ ?_
  rotate_left
  · (intro w' hw'; go_simp; try with_reducible rfl)
  try simp only [Act.put, List.setIfInBounds_toArray, List.set_cons_zero, List.set_cons_succ]
  refine reg_take (v := ?_) 8 (some 40) rfl rfl (by kernel_rfl) (fun _ _ _ h => h) (by kernel_rfl) (Same.refl W0) ?_ ?_
  rotate_left
  · (intro w' hw'; go_simp; try with_reducible rfl)
  try simp only [Act.put, List.setIfInBounds_toArray, List.set_cons_zero, List.set_cons_succ]
  refine reg_take (v := ?_) 9 (some 41) rfl rfl (by kernel_rfl) (fun _ _ _ h => h) (by kernel_rfl) (Same.refl W0) ?_ ?_
  rotate_left
  · (intro w' hw'; go_simp; rw [if_pos (by omega)])
  try simp only [Act.put, List.setIfInBounds_toArray, List.set_cons_zero, List.set_cons_succ]
  refine reg_take (v := ?_) 10 (some 42) rfl rfl (by kernel_rfl) (fun _ _ _ h => h) (by kernel_rfl) (Same.refl W0) ?_ ?_
  rotate_left
  · (intro w' hw'; have hr := HCB.out.same hw'; go_simp; try with_reducible rfl)
  try simp only [Act.put, List.setIfInBounds_toArray, List.set_cons_zero, List.set_cons_succ]
  refine reg_take (v := ?_) 11 (some 43) rfl rfl (by kernel_rfl) (fun _ _ _ h => h) (by kernel_rfl) (Same.refl W0) ?_ ?_
  rotate_left
  · (intro w' hw'; go_simp; try with_reducible rfl)
  try simp only [Act.put, List.setIfInBounds_toArray, List.set_cons_zero, List.set_cons_succ]
  refine reg_take (v := ?_) 12 (some 44) rfl rfl (by kernel_rfl) (fun _ _ _ h => h) (by kernel_rfl) (Same.refl W0) ?_ ?_
  rotate_left
  · (intro w' hw'; go_simp; exact congrArg (Value.int .i64) HOLD.out)
  try simp only [Act.put, List.setIfInBounds_toArray, List.set_cons_zero, List.set_cons_succ]
  refine reg_take (v := ?_) 13 (some 9) rfl rfl (by kernel_rfl) (fun _ _ _ h => h) (by kernel_rfl) (Same.refl W0) ?_ ?_
  rotate_left
  · (intro w' hw'; go_simp; try with_reducible rfl)
  try simp only [Act.put, List.setIfInBounds_toArray, List.set_cons_zero, List.set_cons_succ]
  refine reg_done (by kernel_rfl) ?_
  go_wp2_with fail
  have hL : (l ++ l).length = l.length + l.length := by simp
  generalize l ++ l = L at *
  have hr2 : 2 * r + 1 < L.length := by omega
  have hsum : sumB L = red (rest L r l.length + q) := by rw [sum_split L r l.length hL (by omega), HQD.out]
  have hup := update_good (rest L r l.length) q n hq65 hn
  have hsd : updW ((65535 - sumB L : Nat) : Int) q n = 65535 - addw (addw (red (rest L r l.length + q)) (65535 - q)) n := by
    have h1 := sumB_le L
    rw [updW, wd_nat (by omega), wd_nat hq65, wd_nat hn, show 65535 - (65535 - sumB L) = sumB L from by omega, hsum]
  have HC := C.off _ _ _ HO3.out.bs (by omega)
  rw [← hsd] at hup
  have HU := fun w' => Lib.hid (C.update ((65535 - sumB L : Nat) : Int) q n w')
  have hs65 : updW ((65535 - sumB L : Nat) : Int) q n ≤ 65535 := by unfold updW; omega
  generalize updW ((65535 - sumB L : Nat) : Int) q n = s at *
  have hs65i : (s : Int) ≤ 65535 := by omega
  have hni : (n : Int) ≤ 65535 := by omega
  generalize (65535 - sumB L : Nat) = so at *
  refine HC.mono ?_
  rintro e w4 ⟨rfl, hs⟩
  have HO4 := Lib.hid (HO3.out.same hs)
  have H4 := Lib.hid (H3.out.trans hs)
  clear HO3 H3 hs HC HCA HCB
  have HUP := Lib.hid hup
  clear hup hsd hsum
  go_wp2_with fail
  refine (HU w4).out.mono ?_
  rintro e w5 ⟨rfl, hs⟩
  have HO5 := Lib.hid (HO4.out.same hs)
  have H5 := Lib.hid (H4.out.trans hs)
  clear HO4 H4 hs HU
  have c0 := HO5.out.cell (2 * r) (by omega)
  have f0 := HO5.out.thaw (2 * r)
  have c1 := HO5.out.cell (2 * r + 1) (by omega)
  have f1 := HO5.out.thaw (2 * r + 1)
  go_wp2_with fail
  rw [b8_hi n hn, b8_lo n]
  have HO6 := Lib.hid (HO5.out.set2 (2 * r) (2 * r + 1) (UInt8.ofNat (n / 256)) (UInt8.ofNat (n % 256)))
  have H6 := Lib.hid ((H5.out.set (g := g) (j := 2 * r) hg (b8 (UInt8.ofNat (n / 256)))).set (g := g) (j := 2 * r + 1) hg (b8 (UInt8.ofNat (n % 256))))
  have HC6 := C.sum _ _ _ HO6.out.bs (by simp; omega)
  have HX6 := Lib.hid (fun w' (hs : Same _ w') => C.sum _ _ _ (HO6.out.same hs).bs (by simp; omega))
  have hsm : sumB ((L.set (2 * r) (UInt8.ofNat (n / 256))).set (2 * r + 1) (UInt8.ofNat (n % 256))) = red (rest L r l.length + n) := by
    rw [sum_set2 _ r l.length _ _ hL (by omega), hi_lo n hn]
  rw [hsm] at HC6 HX6
  generalize red (rest L r l.length + n) = T at *
  have hT : T ≤ 65535 := by rw [← hsm]; exact sumB_le _
  have HA := fun w' => C.add (T : Int) s w'
  rw [wd_nat hT, wd_nat hs65] at HA
  have HA := Lib.hid HA
  clear c0 f0 c1 f1 HO5 H5 hsm
  refine HC6.mono ?_
  rintro e w7 ⟨rfl, hs⟩
  have HY := Lib.hid (fun w' (h : Same w7 w') => HX6.out w' (hs.trans h))
  have H7 := Lib.hid (H6.out.trans hs)
  clear HX6 H6 HO6 hs
  go_wp2_with fail
  refine (HA.out w7).mono ?_
  rintro e w8 ⟨rfl, hs⟩
  have HZ := Lib.hid (HY.out w8 hs)
  have H8 := Lib.hid (H7.out.trans hs)
  clear HY H7 hs
  by_cases hg1 : addw T s = 65535
  · rw [hg1] at HA ⊢
    go_wp2_with fail
    refine (chk_lives C w8).mono ?_
    rintro e w9 ⟨rfl, hs⟩
    have H9 := Lib.hid (H8.out.trans hs)
    clear H8 hs
    go_wp2_with fail
    go_ret
    exact ⟨rfl, H9.out⟩
  · have hT0 : T = 0 := by
      rcases HUP.out with h | h
      · exact absurd h hg1
      · exact h
    subst hT0
    have hg2 : (((addw 0 s : Nat) : Int) == 65535) = false := by rw [beq_eq_false_iff_ne]; omega
    generalize addw 0 s = a at *
    go_wp2_with fail
    refine HZ.out.mono ?_
    rintro e w9 ⟨rfl, hs⟩
    have H9 := Lib.hid (H8.out.trans hs)
    clear H8 HZ hs
    go_wp2_with fail
    refine (chk_lives C w9).mono ?_
    rintro e w10 ⟨rfl, hs⟩
    have H10 := Lib.hid (H9.out.trans hs)
    clear H9 hs
    go_wp2_with fail
    go_ret
    exact ⟨rfl, H10.out⟩
end Go.Proofs.Ytibaelaffkfnhaa
