/- The walk of ChkSeals. No condition beyond what is asked of the layer's functions. -/
import Derived.Test.YtibaelaffkfnhaaChkC
import Derived.Test.YtibaelaffkfnhaaOwn
import Derived.Test.YtibaelaffkfnhaaChkM
import Derived.OwnWalk
namespace Go.Proofs.Ytibaelaffkfnhaa
open Go.RowKit
set_option linter.unusedVariables false

/-- two bytes of an owned slice are stored -/
theorem OwnB.set2 {w : World} {B g n cap : Nat} {l : List UInt8} (h : OwnB w B (.slice (some ⟨g, 0, none⟩) n cap) l) (j k : Nat) (u v : UInt8) :
    OwnB ((w.setCell ⟨g, j, none⟩ (b8 u)).setCell ⟨g, k, none⟩ (b8 v)) B (.slice (some ⟨g, 0, none⟩) n cap) ((l.set j u).set k v) := (h.set j u).set k v

theorem seals_long (C : ChkC) (ao : Option Addr) (n cap : Nat) (x y : Int) (w : World) (h : (n : Int) = 0 ∨ 1000 < (n : Int)) :
    Calls Try.prog 9 #[.slice ao n cap, .int .u64 x, .int .u16 y] w fun e w' => e = .returned (.bool true) ∧ Same w w' := by
  by_cases h0 : (n : Int) = 0
  · have hz : ((n : Int) == 0) = true := by rw [beq_iff_eq]; exact h0
    go_enter Try.func9, Try.ntmps9
    go_wp2_with fail
    refine (chk_lives C w).mono ?_
    rintro e w1 ⟨rfl, hs⟩
    go_wp2_with fail
    go_ret
    exact ⟨rfl, hs⟩
  · have hz : ((n : Int) == 0) = false := by rw [beq_eq_false_iff_ne]; exact h0
    have h1 : 1000 < (n : Int) := by omega
    go_enter Try.func9, Try.ntmps9
    go_wp2_with fail
    refine (chk_lives C w).mono ?_
    rintro e w1 ⟨rfl, hs⟩
    go_wp2_with fail
    go_ret
    exact ⟨rfl, hs⟩

theorem seals_walk (C : ChkC) (v : Value) (l : List UInt8) (x y : Int) (w : World) (hb : Bs w v l) (h0 : 0 < (l.length : Int)) (hl : ¬ 1000 < (l.length : Int)) (hx : 0 ≤ x ∧ x ≤ 18446744073709551615) (hy : 0 ≤ y ∧ y ≤ 65535) :
    Calls Try.prog 9 #[v, .int .u64 x, .int .u16 y] w fun e w' => e = .returned (.bool true) ∧ Same w w' := by
  obtain ⟨n, rfl⟩ : ∃ n : Nat, y = n := ⟨y.toNat, by omega⟩
  have hn : n ≤ 65535 := by omega
  have HB := Lib.hid hb
  obtain ⟨ao, cap, rfl, b1, b2, b3, b4⟩ := hb
  clear b4 b3
  have hz : ((l.length : Int) == 0) = false := by rw [beq_eq_false_iff_ne]; omega
  obtain ⟨r, hr⟩ : ∃ r : Nat, x % (l.length : Int) = r := ⟨(x % (l.length : Int)).toNat, by have := Int.emod_nonneg x (show (l.length : Int) ≠ 0 by omega); omega⟩
  have hrl : (r : Int) < l.length := by rw [← hr]; exact Int.emod_lt_of_pos _ h0
  have e1 : IntKind.i64.wrap (r : Int) = r := IntWalk.i64_in _ (by omega)
  have e2 : IntKind.i64.wrap (2 * (r : Int)) = 2 * r := IntWalk.i64_in _ (by omega)
  have e3 : IntKind.i64.wrap (2 * (r : Int) + 1) = 2 * r + 1 := IntWalk.i64_in _ (by omega)
  have e4 : (2 * (r : Int)).toNat = 2 * r := by omega
  have e5 : (2 * (r : Int) + 1).toNat = 2 * r + 1 := by omega
  have H0 := Lib.hid (Same.alloc w (.cells #[] 5))
  have HO0 := Lib.hid (OwnB.empty w)
  go_enter Try.func9, Try.ntmps9
  go_wp2_with (first
    | (at_builtin; refine wpList_append_bs rfl _ (.tmp 23) rfl w H1.out _ l rfl HO1.out _ l rfl (HB.out.same H1.out) (by omega) ?_; intro v2 w2 ho2 hs2; obtain ⟨g, c, rfl, hc, hg⟩ := ho2.form (by simp; omega); rw [List.length_append] at hc ho2 ⊢; have c0 := ho2.cell (2 * r) (by simp; omega); have f0 := ho2.thaw (2 * r); have c1 := ho2.cell (2 * r + 1) (by simp; omega); have f1 := ho2.thaw (2 * r + 1); have HO2 := Lib.hid ho2; have H2 := Lib.hid hs2; clear ho2 hs2)
    | (at_builtin; refine wpList_append_bs rfl _ (.tmp 21) rfl w H0.out _ [] rfl HO0.out _ l rfl (HB.out.same H0.out) (by simp; omega) ?_; intro v1 w1 ho1 hs1; rw [List.nil_append] at ho1; have HO1 := Lib.hid ho1; have H1 := Lib.hid hs1; clear ho1 hs1))
  have HO3 := Lib.hid (HO2.out.set2 (2 * r) (2 * r + 1) 0 0)
  have H3 := Lib.hid ((H2.out.set (g := g) (j := 2 * r) hg (b8 0)).set (g := g) (j := 2 * r + 1) hg (b8 0))
  clear c0 f0 c1 f1 HO2 H2 HO0 H0 HO1 H1
  have hL : (l ++ l).length = l.length + l.length := by simp
  generalize l ++ l = L at *
  have hr2 : 2 * r + 1 < L.length := by omega
  -- what the sum comes to
  have hs1 : sumB ((L.set (2 * r) 0).set (2 * r + 1) 0) = red (rest L r l.length) := (sum_set2 L r l.length 0 0 hL (by omega)).trans (congrArg red (Nat.add_zero (rest L r l.length)))
  have hgood1 := seal_good (rest L r l.length)
  have hgood2 := fun n hn => seal_iff (rest L r l.length) n hn
  have HC := C.off _ _ _ HO3.out.bs (by simp; omega)
  rw [hs1] at HC
  have hs65 : 65535 - red (rest L r l.length) ≤ 65535 := by omega
  obtain ⟨s, hsd⟩ : ∃ s, s = 65535 - red (rest L r l.length) := ⟨_, rfl⟩
  rw [← hsd] at HC hgood1 hs65
  refine HC.mono ?_
  rintro e w4 ⟨rfl, hs⟩
  have HO4 := Lib.hid (HO3.out.same hs)
  have H4 := Lib.hid (H3.out.trans hs)
  clear HO3 H3 hs
  have hs65i : (s : Int) ≤ 65535 := by omega
  have c0 := HO4.out.cell (2 * r) (by simp; omega)
  have f0 := HO4.out.thaw (2 * r)
  have c1 := HO4.out.cell (2 * r + 1) (by simp; omega)
  have f1 := HO4.out.thaw (2 * r + 1)
  have HG1 := Lib.hid hgood1
  have HG2 := Lib.hid hgood2
  have HSD := Lib.hid hsd
  clear hgood1 hgood2 hs1 hsd
  go_wp2_with fail
  rw [b8_hi s hs65, b8_lo s]
  have HO5 := Lib.hid (HO4.out.set2 (2 * r) (2 * r + 1) (UInt8.ofNat (s / 256)) (UInt8.ofNat (s % 256)))
  have H5 := Lib.hid ((H4.out.set (g := g) (j := 2 * r) hg (b8 (UInt8.ofNat (s / 256)))).set (g := g) (j := 2 * r + 1) hg (b8 (UInt8.ofNat (s % 256))))
  have HC5 := C.good _ _ _ HO5.out.bs (by simp; omega)
  rw [sum_set2 _ r l.length _ _ (by simp [hL]) (by omega), rest_set2 _ _ _ _ _ hr2, hi_lo s hs65, HG1.out] at HC5
  clear c0 f0 c1 f1 HO4 H4
  refine HC5.mono ?_
  rintro e w6 ⟨rfl, hs⟩
  have HO6 := Lib.hid (HO5.out.same hs)
  have H6 := Lib.hid (H5.out.trans hs)
  clear HO5 H5 hs
  have c0 := HO6.out.cell (2 * r) (by simp; omega)
  have f0 := HO6.out.thaw (2 * r)
  have c1 := HO6.out.cell (2 * r + 1) (by simp; omega)
  have f1 := HO6.out.thaw (2 * r + 1)
  have hdec : ∀ b : Bool, (b = true ↔ (n = s ∨ (s = 0 ∧ n = 65535))) → decide (red (rest L r l.length + n) = 65535) = b := by
    intro b hb
    have h2 := HG2.out n hn
    rw [← HSD.out] at h2
    rw [Bool.eq_iff_iff, hb, decide_eq_true_iff]
    exact h2
  by_cases q1 : n = s
  · have HD := Lib.hid (hdec true (by simp [q1]))
    have k1 : ((n : Int) == (s : Int)) = true := by rw [beq_iff_eq]; omega
    clear hdec q1
    go_wp2_with fail
    rw [b8_hi n hn, b8_lo n]
    have HO7 := Lib.hid (HO6.out.set2 (2 * r) (2 * r + 1) (UInt8.ofNat (n / 256)) (UInt8.ofNat (n % 256)))
    have H7 := Lib.hid ((H6.out.set (g := g) (j := 2 * r) hg (b8 (UInt8.ofNat (n / 256)))).set (g := g) (j := 2 * r + 1) hg (b8 (UInt8.ofNat (n % 256))))
    have HC7 := C.good _ _ _ HO7.out.bs (by simp; omega)
    rw [sum_set2 _ r l.length _ _ (by simp [hL]) (by omega), rest_set2 _ _ _ _ _ (by simp; omega), rest_set2 _ _ _ _ _ hr2, hi_lo n hn, HD.out] at HC7
    clear c0 f0 c1 f1 HO6 H6
    refine HC7.mono ?_
    rintro e w8 ⟨rfl, hs⟩
    have H8 := Lib.hid (H7.out.trans hs)
    clear HO7 H7 hs
    go_wp2_with fail
    refine (chk_lives C w8).mono ?_
    rintro e w9 ⟨rfl, hs⟩
    have H9 := Lib.hid (H8.out.trans hs)
    clear H8 hs
    go_wp2_with fail
    go_ret
    exact ⟨rfl, H9.out⟩
  have k1 : ((n : Int) == (s : Int)) = false := by rw [beq_eq_false_iff_ne]; omega
  by_cases q2 : s = 0
  · have k2 : ((s : Int) == 0) = true := by rw [beq_iff_eq]; omega
    by_cases q3 : n = 65535
    · have HD := Lib.hid (hdec true (by simp [q2, q3]))
      have k3 : ((n : Int) == 65535) = true := by rw [beq_iff_eq]; omega
      clear hdec q1 q2 q3
      go_wp2_with fail
      rw [b8_hi n hn, b8_lo n]
      have HO7 := Lib.hid (HO6.out.set2 (2 * r) (2 * r + 1) (UInt8.ofNat (n / 256)) (UInt8.ofNat (n % 256)))
      have H7 := Lib.hid ((H6.out.set (g := g) (j := 2 * r) hg (b8 (UInt8.ofNat (n / 256)))).set (g := g) (j := 2 * r + 1) hg (b8 (UInt8.ofNat (n % 256))))
      have HC7 := C.good _ _ _ HO7.out.bs (by simp; omega)
      rw [sum_set2 _ r l.length _ _ (by simp [hL]) (by omega), rest_set2 _ _ _ _ _ (by simp; omega), rest_set2 _ _ _ _ _ hr2, hi_lo n hn, HD.out] at HC7
      clear c0 f0 c1 f1 HO6 H6
      refine HC7.mono ?_
      rintro e w8 ⟨rfl, hs⟩
      have H8 := Lib.hid (H7.out.trans hs)
      clear HO7 H7 hs
      go_wp2_with fail
      refine (chk_lives C w8).mono ?_
      rintro e w9 ⟨rfl, hs⟩
      have H9 := Lib.hid (H8.out.trans hs)
      clear H8 hs
      go_wp2_with fail
      go_ret
      exact ⟨rfl, H9.out⟩
    · have HD := Lib.hid (hdec false (by simp [q1, q3]))
      have k3 : ((n : Int) == 65535) = false := by rw [beq_eq_false_iff_ne]; omega
      clear hdec q1 q2 q3
      go_wp2_with fail
      rw [b8_hi n hn, b8_lo n]
      have HO7 := Lib.hid (HO6.out.set2 (2 * r) (2 * r + 1) (UInt8.ofNat (n / 256)) (UInt8.ofNat (n % 256)))
      have H7 := Lib.hid ((H6.out.set (g := g) (j := 2 * r) hg (b8 (UInt8.ofNat (n / 256)))).set (g := g) (j := 2 * r + 1) hg (b8 (UInt8.ofNat (n % 256))))
      have HC7 := C.good _ _ _ HO7.out.bs (by simp; omega)
      rw [sum_set2 _ r l.length _ _ (by simp [hL]) (by omega), rest_set2 _ _ _ _ _ (by simp; omega), rest_set2 _ _ _ _ _ hr2, hi_lo n hn, HD.out] at HC7
      clear c0 f0 c1 f1 HO6 H6
      refine HC7.mono ?_
      rintro e w8 ⟨rfl, hs⟩
      have H8 := Lib.hid (H7.out.trans hs)
      clear HO7 H7 hs
      go_wp2_with fail
      refine (chk_lives C w8).mono ?_
      rintro e w9 ⟨rfl, hs⟩
      have H9 := Lib.hid (H8.out.trans hs)
      clear H8 hs
      go_wp2_with fail
      go_ret
      exact ⟨rfl, H9.out⟩
  · have k2 : ((s : Int) == 0) = false := by rw [beq_eq_false_iff_ne]; omega
    have HD := Lib.hid (hdec false (by simp [q1, q2]))
    clear hdec q1 q2
    go_wp2_with fail
    rw [b8_hi n hn, b8_lo n]
    have HO7 := Lib.hid (HO6.out.set2 (2 * r) (2 * r + 1) (UInt8.ofNat (n / 256)) (UInt8.ofNat (n % 256)))
    have H7 := Lib.hid ((H6.out.set (g := g) (j := 2 * r) hg (b8 (UInt8.ofNat (n / 256)))).set (g := g) (j := 2 * r + 1) hg (b8 (UInt8.ofNat (n % 256))))
    have HC7 := C.good _ _ _ HO7.out.bs (by simp; omega)
    rw [sum_set2 _ r l.length _ _ (by simp [hL]) (by omega), rest_set2 _ _ _ _ _ (by simp; omega), rest_set2 _ _ _ _ _ hr2, hi_lo n hn, HD.out] at HC7
    clear c0 f0 c1 f1 HO6 H6
    refine HC7.mono ?_
    rintro e w8 ⟨rfl, hs⟩
    have H8 := Lib.hid (H7.out.trans hs)
    clear HO7 H7 hs
    go_wp2_with fail
    refine (chk_lives C w8).mono ?_
    rintro e w9 ⟨rfl, hs⟩
    have H9 := Lib.hid (H8.out.trans hs)
    clear H8 hs
    go_wp2_with fail
    go_ret
    exact ⟨rfl, H9.out⟩
end Go.Proofs.Ytibaelaffkfnhaa
