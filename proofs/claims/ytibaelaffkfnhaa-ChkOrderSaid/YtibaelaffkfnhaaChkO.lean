/- The walk of ChkOrder. No condition beyond what is asked of the layer's functions. -/
import Derived.Test.YtibaelaffkfnhaaChkC
import Derived.Test.YtibaelaffkfnhaaOwn
import Derived.Test.YtibaelaffkfnhaaMem2
import Derived.Test.YtibaelaffkfnhaaChkM
import Derived.Test.YtibaelaffkfnhaaChkW
import Derived.Test.YtibaelaffkfnhaaChkD
import Derived.Test.YtibaelaffkfnhaaReg
import Derived.OwnWalk
namespace Go.Proofs.Ytibaelaffkfnhaa
open Go.RowKit
set_option linter.unusedVariables false

theorem getD_left {α : Type} (l m : List α) (i : Nat) (d : α) (h : i < l.length) : (l ++ m).getD i d = l.getD i d := by
  simp only [List.getD, List.getElem?_append_left h]
theorem getD_right {α : Type} (l m : List α) (i : Nat) (d : α) (h : l.length ≤ i) : (l ++ m).getD i d = m.getD (i - l.length) d := by
  simp only [List.getD, List.getElem?_append_right h]
/-- words in bytes -/
def wb (f : Nat → Nat) : Nat → List UInt8
  | 0 => []
  | k + 1 => wb f k ++ [UInt8.ofNat (f k / 256), UInt8.ofNat (f k % 256)]
theorem wb_length (f : Nat → Nat) : ∀ k, (wb f k).length = 2 * k
  | 0 => rfl
  | k + 1 => by rw [wb, List.length_append, wb_length f k]; rfl
theorem wb_word (f : Nat → Nat) (hf : ∀ i, f i ≤ 65535) : ∀ n i, i < n → wordAt (wb f n) i = f i
  | 0, _, h => by omega
  | n + 1, i, h => by
    have hl := wb_length f n
    by_cases hi : i = n
    · subst hi
      have := hf i
      rw [wordAt, wb, getD_right _ _ _ _ (by omega), getD_right _ _ _ _ (by omega), hl, show 2 * i - 2 * i = 0 from by omega, show 2 * i + 1 - 2 * i = 1 from by omega]
      exact hi_lo (f i) this
    · rw [← wb_word f hf n i (by omega), wordAt, wordAt, wb, getD_left _ _ _ _ (by omega), getD_left _ _ _ _ (by omega)]
theorem wb_sum (f : Nat → Nat) (hf : ∀ i, f i ≤ 65535) (n : Nat) : sumB (wb f n) = red (tot f n) := by
  unfold sumB
  rw [wb_length, show (2 * n + 1) / 2 = n from by omega, tot_congr n (fun i hi => wb_word f hf n i hi)]
theorem wb_take (f : Nat → Nat) (k : Nat) : ∀ n, k ≤ n → (wb f n).take (2 * k) = wb f k
  | 0, h => by obtain rfl : k = 0 := by omega
               rfl
  | n + 1, h => by
    by_cases hk : k = n + 1
    · subst hk; rw [List.take_of_length_le (by rw [wb_length]; omega)]
    · rw [wb, List.take_append_of_le_length (by rw [wb_length]; omega), wb_take f k n (by omega)]
theorem wb_drop (f : Nat → Nat) (k : Nat) : ∀ n, (wb f (k + n)).drop (2 * k) = wb (fun i => f (k + i)) n
  | 0 => by rw [Nat.add_zero, List.drop_of_length_le (by rw [wb_length]; omega)]; rfl
  | n + 1 => by
    rw [← Nat.add_assoc, wb, List.drop_append_of_le_length (by rw [wb_length]; omega), wb_drop f k n]; rfl

theorem Bs.head {w : World} {ao : Option Addr} {m cap : Nat} {l : List UInt8} (h : Bs w (.slice ao m cap) l) (k : Nat) (hk : k ≤ l.length) : Bs w (.slice ao k cap) (l.take k) := by
  obtain ⟨ao', cap', he, h1, h2, h3, h4⟩ := h
  cases he
  refine ⟨ao, cap, by simp [Nat.min_eq_left hk], by simp; omega, h2, h3, fun ad had => ⟨fun hne => (h4 ad had).1 (by intro he; subst he; simp at hne), fun j u hu => (h4 ad had).2 j u ?_⟩⟩
  rw [List.getElem?_take] at hu
  split at hu
  · exact hu
  · cases hu

theorem order_long (C : ChkC) (ao : Option Addr) (n cap : Nat) (x : Int) (w : World) (h : 300 < (n : Int)) :
    Calls Try.prog 11 #[.slice ao n cap, .int .u64 x] w fun e w' => e = .returned (.bool true) ∧ Same w w' := by
  go_enter Try.func11, Try.ntmps11
  go_wp2_with fail
  refine (chk_lives C w).mono ?_
  rintro e w1 ⟨rfl, hs⟩
  go_wp2_with fail
  go_ret
  exact ⟨rfl, hs⟩

/-- the words, and the same ones turned round -/
def wd0 (zs : List Int) (i : Nat) : Nat := (zs.getD i 0).toNat
def wdt (zs : List Int) (t i : Nat) : Nat := wd0 zs ((i + t) % zs.length)

theorem pair_cells (n : Nat) (h : n ≤ 65535) : (([UInt8.ofNat (n / 256), UInt8.ofNat (n % 256)] : List UInt8).map b8).toArray = #[.int .u8 ((n : Int) / 256), .int .u8 ((n : Int) % 256)] := by
  rw [b8_hi n h, b8_lo n]; rfl

theorem Bs.pair (w : World) (n : Nat) (h : n ≤ 65535) : Bs (w.alloc (.cells #[.int .u8 ((n : Int) / 256), .int .u8 ((n : Int) % 256)] 5)) (.slice (some ⟨w.heap.size, 0, none⟩) 2 2) [UInt8.ofNat (n / 256), UInt8.ofNat (n % 256)] := by
  have := Bs.made w [UInt8.ofNat (n / 256), UInt8.ofNat (n % 256)] 5 (by simp)
  rw [pair_cells n h] at this
  exact this

set_option maxRecDepth 100000 in
set_option maxHeartbeats 2000000 in
theorem order_walk (C : ChkC) (ao : Option Addr) (cap : Nat) (zs : List Int) (x : Int) (w : World)
    (hz : ∀ ad, ao = some ad → ∀ j, j < zs.length → w.cell? (ad.add j) = some (.int .u16 (wd0 zs j : Nat))) (hn : ao = none → zs.length = 0) (hw : ∀ j, wd0 zs j ≤ 65535) (hx : 0 ≤ x ∧ x ≤ 18446744073709551615)
    (h300 : (zs.length : Int) ≤ 300) :
    Calls Try.prog 11 #[.slice ao zs.length cap, .int .u64 x] w fun e w' => e = .returned (.bool true) ∧ Same w w' := by
  have HZ := Lib.hid hz
  have HW := Lib.hid hw
  clear hz hw
  obtain ⟨t, ht⟩ : ∃ t : Nat, t = (x % (zs.length : Int)).toNat := ⟨_, rfl⟩
  have HT := Lib.hid ht
  go_enter Try.func11, Try.ntmps11
  go_wp2_with fail
  go_loopw [5, 6, 17] (fun v u i wr => ∃ k : Nat, k ≤ zs.length ∧ i = .int .i64 k ∧ OwnB wr w.heap.size v (wb (wd0 zs) k) ∧ OwnB wr w.heap.size u (wb (wdt zs t) k) ∧ Apart v u ∧ Same w wr) (fun _ _ i _ => zs.length - (intOf i).toNat)
  case atStart => exact ⟨0, Nat.zero_le _, rfl, OwnB.nil _ _, OwnB.nil _ _, Apart.nil _ _ _, Same.refl _⟩
  case round =>
    obtain ⟨k, hk, rfl, ho, hu, hap, hs⟩ := hrel
    have HO := Lib.hid ho
    have HU := Lib.hid hu
    have HP := Lib.hid hap
    have HS := Lib.hid hs
    clear ho hu hs hap ht
    by_cases hlt : k < zs.length
    · obtain ⟨ad, rfl⟩ : ∃ ad, ao = some ad := by
        cases ao with
        | none => have := hn rfl; omega
        | some ad => exact ⟨ad, rfl⟩
      have hN : 0 < (zs.length : Int) := by omega
      have hxt : x % (zs.length : Int) = (t : Int) := by
        have h1 := HT.out
        have := Int.emod_nonneg x (show (zs.length : Int) ≠ 0 by omega); omega
      have htl : (t : Int) < zs.length := by rw [← hxt]; exact Int.emod_lt_of_pos _ hN
      obtain ⟨j, hj⟩ : ∃ j : Nat, j = (k + t) % zs.length := ⟨_, rfl⟩
      have hjl : j < zs.length := by rw [hj]; exact Nat.mod_lt _ (by omega)
      have hjI : ((k : Int) + t) % (zs.length : Int) = j := by rw [hj, Int.natCast_emod, Int.natCast_add]
      have hjl' : (j : Int) < zs.length := by omega
      have c0 := Cell.same (HZ.out ad rfl k hlt) HS.out
      have HC1 : Hid (Cell w (ad.add j) (.int .u16 (wd0 zs j : Nat))) := HZ.out ad rfl j hjl
      have q0 := HW.out k
      have q1 := HW.out j
      have q0i : ((wd0 zs k : Nat) : Int) ≤ 65535 := by omega
      have q1i : ((wd0 zs j : Nat) : Int) ≤ 65535 := by omega
      have HB0 : Hid (wb (wd0 zs) (k + 1) = wb (wd0 zs) k ++ [UInt8.ofNat (wd0 zs k / 256), UInt8.ofNat (wd0 zs k % 256)]) := rfl
      have HB1 : Hid (wb (wdt zs t) (k + 1) = wb (wdt zs t) k ++ [UInt8.ofNat (wd0 zs j / 256), UInt8.ofNat (wd0 zs j % 256)]) := by show _ = _; rw [hj]; rfl
      have HL : Hid ((wb (wd0 zs) k).length = 2 * k) := wb_length _ _
      have HM : Hid ((wb (wdt zs t) k).length = 2 * k) := wb_length _ _
      clear hj
      generalize wd0 zs k = y0 at *
      generalize wd0 zs j = y1 at *
      generalize wb (wd0 zs) k = pa at *
      generalize wb (wdt zs t) k = pb at *
      have HQ0 := Lib.hid q0
      have HQ1 := Lib.hid q1
      clear hn
      go_wp2_with (first
        | (at_builtin; refine wpList_append_bs2 rfl _ (.tmp 54) rfl w (HS1.out.trans (Same.alloc _ _)) _ pb rfl (HU1.out.same (Same.alloc _ _)) _ _ rfl (Bs.pair _ y1 HQ1.out) (by have := HM.out; simp; omega) ?_; intro v2 w2 ho2 hs2 hk2; rw [← HB1.out] at ho2; have HU2 := Lib.hid ho2; have HS2 := Lib.hid hs2; have HK2 := Lib.hid (hk2 _ _ _ (HO1.out.same (Same.alloc _ _)) HP1.out.symm); clear ho2 hs2 hk2)
        | (at_builtin; refine wpList_append_bs2 rfl _ (.tmp 30) rfl w (HS.out.trans (Same.alloc _ _)) _ pa rfl (HO.out.same (Same.alloc _ _)) _ _ rfl (Bs.pair _ y0 HQ0.out) (by have := HL.out; simp; omega) ?_; intro v1 w1 ho1 hs1 hk1; rw [← HB0.out] at ho1; have HO1 := Lib.hid ho1; have HS1 := Lib.hid hs1; have HU1 := Lib.hid (hk1 _ _ _ (HU.out.same (Same.alloc _ _)) HP.out).1; have HP1 := Lib.hid (hk1 _ _ _ (HU.out.same (Same.alloc _ _)) HP.out).2; clear ho1 hs1 hk1; have c1 := HC1.out.same HS1.out))
      exact ⟨⟨k + 1, by omega, by go_num, HK2.out.1, HU2.out, HK2.out.2.symm, HS2.out⟩, by simp [intOf]; omega⟩
    · obtain rfl : k = zs.length := by omega
      clear hlt hk
      obtain ⟨a1, c1, rfl, r1, r2, r3, r4⟩ := HO.out.bs
      obtain ⟨a2, c2, rfl, r5, r6, r7, r8⟩ := HU.out.bs
      clear r3 r4 r7 r8
      have hl1 := wb_length (wd0 zs) zs.length
      have hl2 := wb_length (wdt zs t) zs.length
      rw [hl1] at r1 HO
      rw [hl2] at r5 HU
      rw [hl1, hl2] at HP ⊢
      go_wp2_with fail
      -- the order is open from here on
      have HXa := Lib.hid HO.out.bs
      have HXb := Lib.hid HU.out.bs
      have HS2 : Hid (Same w wr.drew) := HS.out.drew
      have hS : sumB (wb (wd0 zs) zs.length) = red (tot (wd0 zs) zs.length) := wb_sum _ HW.out _
      have hSb : sumB (wb (wdt zs t) zs.length) = red (tot (wd0 zs) zs.length) := by
        rw [wb_sum (wdt zs t) (fun i => HW.out _)]
        by_cases h0 : zs.length = 0
        · rw [h0]; rfl
        · have htl : t < zs.length := by
            have h1 := HT.out
            have h2 := Int.emod_nonneg x (show (zs.length : Int) ≠ 0 by omega)
            have h3 := Int.emod_lt_of_pos x (show 0 < (zs.length : Int) by omega)
            omega
          exact congrArg red (tot_turn (wd0 zs) zs.length t htl)
      have hwl : (wb (wd0 zs) zs.length).length = 2 * zs.length := hl1
      have hwr : (wb (wdt zs t) zs.length).length = 2 * zs.length := hl2
      have HSA := Lib.hid (fun w' (q : Same wr.drew w') => C.sum _ _ w' ((HXa.out.same ((Same.refl wr).drew)).same q) (by rw [hwl]; omega))
      have HSB := Lib.hid (fun w' (q : Same wr.drew w') => C.sum _ _ w' ((HXb.out.same ((Same.refl wr).drew)).same q) (by rw [hwr]; omega))
      rw [hS] at HSA
      rw [hSb] at HSB
      have HXd : Hid (Bs wr.drew _ _) := Lib.hid (HXa.out.same ((Same.refl wr).drew))
      obtain ⟨h, hh⟩ : ∃ h : Nat, h = zs.length / 2 := ⟨_, rfl⟩
      have hq1 : (2 * (zs.length : Int) / 4 * 2).toNat = 2 * h := by rw [hh]; omega
      have hhN : h ≤ zs.length := by omega
      obtain ⟨d, hd⟩ : ∃ d, zs.length = h + d := ⟨zs.length - h, by omega⟩
      have hsl := wb_take (wd0 zs) h zs.length hhN
      have hsr : ((wb (wd0 zs) zs.length).drop (2 * h)).take (2 * zs.length - 2 * h) = wb (fun i => wd0 zs (h + i)) d := by
        rw [List.take_of_length_le (by rw [List.length_drop, hwl]; omega)]
        conv => lhs; rw [hd]
        exact wb_drop (wd0 zs) h d
      have HSL := Lib.hid (fun w' (q : Same wr.drew w') => C.sum _ _ w' ((HXd.out.head (2 * h) (by rw [hwl]; omega)).same q) (by rw [hsl, wb_length]; omega))
      have HSR := Lib.hid (fun w' (q : Same wr.drew w') => C.sum _ _ w' ((HXd.out.cut (2 * h) (2 * zs.length - 2 * h) (by rw [hwl]; omega)).1.same q) (by rw [hsr, wb_length]; omega))
      rw [hsl, wb_sum _ HW.out] at HSL
      rw [hsr, wb_sum _ (fun i => HW.out _)] at HSR
      have HAD := Lib.hid (fun w' => C.add (red (tot (wd0 zs) h) : Nat) (red (tot (fun i => wd0 zs (h + i)) d) : Nat) w')
      rw [wd_nat (red_le _), wd_nat (red_le _), addw_reds, ← tot_add, ← hd] at HAD
      clear hwl hwr hS hSb hsl hsr hl1 hl2 hd hh hhN
      refine reg_start (fun w' => Same wr.drew w') (by kernel_rfl) ?_
      generalize wr.drew = W0 at *
      have H0 : Hid (Same W0 W0) := Same.refl W0
      refine reg_take (v := ?_) 0 (some 61) rfl rfl (by kernel_rfl) (fun _ _ _ h => h) (by kernel_rfl) (Same.refl W0) ?_ ?_
      rotate_left
      · (intro w' hw'; go_simp; try with_reducible rfl)
      try simp only [Act.put, List.setIfInBounds_toArray, List.set_cons_zero, List.set_cons_succ]
      refine reg_take (v := ?_) 2 (some 63) rfl rfl (by kernel_rfl) (fun _ _ _ h => h) (by kernel_rfl) (Same.refl W0) ?_ ?_
      rotate_left
      · (intro w' hw'; go_simp; try with_reducible rfl)
      try simp only [Act.put, List.setIfInBounds_toArray, List.set_cons_zero, List.set_cons_succ]
      refine reg_one 1 rfl (by kernel_rfl) (by kernel_rfl) ?_
      go_simp
      refine (HSA.out _ H0.out).mono ?_
      rintro e u1 ⟨rfl, hs1⟩
      have H1 := Lib.hid (H0.out.trans hs1)
      refine ⟨hs1, reg_more (fun w' => Same u1 w') (fun w' h => hs1.trans h) _ _ _ _ ?_⟩
      clear hs1
      try simp only [Act.put, List.setIfInBounds_toArray, List.set_cons_zero, List.set_cons_succ]
      refine reg_one 3 rfl (by kernel_rfl) (by kernel_rfl) ?_
      go_simp
      refine (HSB.out _ H1.out).mono ?_
      rintro e u2 ⟨rfl, hs2⟩
      have H2 := Lib.hid (H1.out.trans hs2)
      refine ⟨hs2, reg_more (fun w' => Same u2 w') (fun w' h => hs2.trans h) _ _ _ _ ?_⟩
      clear hs2
      try simp only [Act.put, List.setIfInBounds_toArray, List.set_cons_zero, List.set_cons_succ]
      refine reg_take (v := ?_) 4 (some 65) rfl rfl (by kernel_rfl) (fun _ _ _ h => h) (by kernel_rfl) (Same.refl u2) ?_ ?_
      rotate_left
      · (intro w' hw'; go_simp; try with_reducible rfl)
      try simp only [Act.put, List.setIfInBounds_toArray, List.set_cons_zero, List.set_cons_succ]
      refine reg_take (v := ?_) 5 (some 66) rfl rfl (by kernel_rfl) (fun _ _ _ h => h) (by kernel_rfl) (Same.refl u2) ?_ ?_
      rotate_left
      · (intro w' hw'; go_simp; try with_reducible rfl)
      try simp only [Act.put, List.setIfInBounds_toArray, List.set_cons_zero, List.set_cons_succ]
      refine reg_take (v := ?_) 6 (some 67) rfl rfl (by kernel_rfl) (fun _ _ _ h => h) (by kernel_rfl) (Same.refl u2) ?_ ?_
      rotate_left
      · (intro w' hw'; go_simp; try with_reducible rfl)
      try simp only [Act.put, List.setIfInBounds_toArray, List.set_cons_zero, List.set_cons_succ]
      refine reg_take (v := ?_) 7 (some 68) rfl rfl (by kernel_rfl) (fun _ _ _ h => h) (by kernel_rfl) (Same.refl u2) ?_ ?_
      rotate_left
      · (intro w' hw'; go_simp; try with_reducible rfl)
      try simp only [Act.put, List.setIfInBounds_toArray, List.set_cons_zero, List.set_cons_succ]
      refine reg_take (v := ?_) 8 (some 69) rfl rfl (by kernel_rfl) (fun _ _ _ h => h) (by kernel_rfl) (Same.refl u2) ?_ ?_
      rotate_left
      · (intro w' hw'; go_simp; rw [if_pos ⟨by omega, by omega⟩])
      try simp only [Act.put, List.setIfInBounds_toArray, List.set_cons_zero, List.set_cons_succ]
      refine reg_take (v := ?_) 10 (some 71) rfl rfl (by kernel_rfl) (fun _ _ _ h => h) (by kernel_rfl) (Same.refl u2) ?_ ?_
      rotate_left
      · (intro w' hw'; go_simp; try with_reducible rfl)
      try simp only [Act.put, List.setIfInBounds_toArray, List.set_cons_zero, List.set_cons_succ]
      refine reg_take (v := ?_) 11 (some 72) rfl rfl (by kernel_rfl) (fun _ _ _ h => h) (by kernel_rfl) (Same.refl u2) ?_ ?_
      rotate_left
      · (intro w' hw'; go_simp; try with_reducible rfl)
      try simp only [Act.put, List.setIfInBounds_toArray, List.set_cons_zero, List.set_cons_succ]
      refine reg_take (v := ?_) 12 (some 73) rfl rfl (by kernel_rfl) (fun _ _ _ h => h) (by kernel_rfl) (Same.refl u2) ?_ ?_
      rotate_left
      · (intro w' hw'; go_simp; rw [if_pos ⟨by omega, by omega⟩])
      try simp only [Act.put, List.setIfInBounds_toArray, List.set_cons_zero, List.set_cons_succ]
      refine reg_take (v := ?_) 15 (some 76) rfl rfl (by kernel_rfl) (fun _ _ _ h => h) (by kernel_rfl) (Same.refl u2) ?_ ?_
      rotate_left
      · (intro w' hw'; go_simp; try with_reducible rfl)
      try simp only [Act.put, List.setIfInBounds_toArray, List.set_cons_zero, List.set_cons_succ]
      refine reg_one 9 rfl (by kernel_rfl) (by kernel_rfl) ?_
      go_simp
      refine (HSL.out _ H2.out).mono ?_
      rintro e u3 ⟨rfl, hs3⟩
      have H3 := Lib.hid (H2.out.trans hs3)
      refine ⟨hs3, reg_more (fun w' => Same u3 w') (fun w' h => hs3.trans h) _ _ _ _ ?_⟩
      clear hs3
      try simp only [Act.put, List.setIfInBounds_toArray, List.set_cons_zero, List.set_cons_succ]
      refine reg_one 13 rfl (by kernel_rfl) (by kernel_rfl) ?_
      go_simp
      refine (HSR.out _ H3.out).mono ?_
      rintro e u4 ⟨rfl, hs4⟩
      have H4 := Lib.hid (H3.out.trans hs4)
      refine ⟨hs4, reg_more (fun w' => Same u4 w') (fun w' h => hs4.trans h) _ _ _ _ ?_⟩
      clear hs4
      try simp only [Act.put, List.setIfInBounds_toArray, List.set_cons_zero, List.set_cons_succ]
      refine reg_one 14 rfl (by kernel_rfl) (by kernel_rfl) ?_
      go_simp
      refine (HAD.out _).mono ?_
      rintro e u5 ⟨rfl, hs5⟩
      have H5 := Lib.hid (H4.out.trans hs5)
      refine ⟨hs5, reg_more (fun w' => Same u5 w') (fun w' h => hs5.trans h) _ _ _ _ ?_⟩
      clear hs5
      try simp only [Act.put, List.setIfInBounds_toArray, List.set_cons_zero, List.set_cons_succ]
      refine reg_one 16 rfl (by kernel_rfl) (by kernel_rfl) ?_
      go_simp
      refine (HSA.out _ H5.out).mono ?_
      rintro e u6 ⟨rfl, hs6⟩
      have H6 := Lib.hid (H5.out.trans hs6)
      refine ⟨hs6, reg_more (fun w' => Same u6 w') (fun w' h => hs6.trans h) _ _ _ _ ?_⟩
      clear hs6
      try simp only [Act.put, List.setIfInBounds_toArray, List.set_cons_zero, List.set_cons_succ]
      refine reg_take (v := ?_) 17 (some 78) rfl rfl (by kernel_rfl) (fun _ _ _ h => h) (by kernel_rfl) (Same.refl u6) ?_ ?_
      rotate_left
      · (intro w' hw'; go_simp; try with_reducible rfl)
      try simp only [Act.put, List.setIfInBounds_toArray, List.set_cons_zero, List.set_cons_succ]
      refine reg_take (v := ?_) 18 (some 79) rfl rfl (by kernel_rfl) (fun _ _ _ h => h) (by kernel_rfl) (Same.refl u6) ?_ ?_
      rotate_left
      · (intro w' hw'; go_simp; try with_reducible rfl)
      try simp only [Act.put, List.setIfInBounds_toArray, List.set_cons_zero, List.set_cons_succ]
      refine reg_take (v := ?_) 19 (some 80) rfl rfl (by kernel_rfl) (fun _ _ _ h => h) (by kernel_rfl) (Same.refl u6) ?_ ?_
      rotate_left
      · (intro w' hw'; go_simp; try with_reducible rfl)
      try simp only [Act.put, List.setIfInBounds_toArray, List.set_cons_zero, List.set_cons_succ]
      refine reg_one 20 rfl (by kernel_rfl) (by kernel_rfl) ?_
      go_simp
      refine (chk_lives C _).mono ?_
      rintro e u7 ⟨rfl, hs7⟩
      have H7 := Lib.hid (H6.out.trans hs7)
      refine ⟨hs7, reg_more (fun w' => Same u7 w') (fun w' h => hs7.trans h) _ _ _ _ ?_⟩
      clear hs7
      try simp only [Act.put, List.setIfInBounds_toArray, List.set_cons_zero, List.set_cons_succ]
      refine reg_take (v := ?_) 21 (some 82) rfl rfl (by kernel_rfl) (fun _ _ _ h => h) (by kernel_rfl) (Same.refl u7) ?_ ?_
      rotate_left
      · (intro w' hw'; go_simp; try with_reducible rfl)
      try simp only [Act.put, List.setIfInBounds_toArray, List.set_cons_zero, List.set_cons_succ]
      refine reg_take (v := ?_) 22 (some 4) rfl rfl (by kernel_rfl) (fun _ _ _ h => h) (by kernel_rfl) (Same.refl u7) ?_ ?_
      rotate_left
      · (intro w' hw'; go_simp; try with_reducible rfl)
      try simp only [Act.put, List.setIfInBounds_toArray, List.set_cons_zero, List.set_cons_succ]
      refine reg_done (by kernel_rfl) ?_
      go_wp2_with fail
      all_goals go_ret
      all_goals exact ⟨rfl, HS2.out.trans H7.out⟩
end Go.Proofs.Ytibaelaffkfnhaa
