/- The walk of PrefixOrder. No condition. -/
import Derived.Test.YtmlabaaelkghlaaPfxL
namespace Go.Proofs.Ytmlabaaelkghlaa
open Go.RowKit
set_option linter.unusedVariables false
set_option maxRecDepth 100000
attribute [local go_sem ↓] fld0 fld1

attribute [local go_sem ↓] neq_pfx_same

theorem box3 (a n b m c k : Int) (w : World) : ∀ w', Same (((w.alloc (pfxO a n)).alloc (pfxO b m)).alloc (pfxO c k)) w' → w'.cell? ⟨w.heap.size, 0, none⟩ = some (.int .u32 a) ∧ w'.cell? ⟨w.heap.size, 1, none⟩ = some (.int .i64 n) ∧
    w'.cell? ⟨w.heap.size + 1, 0, none⟩ = some (.int .u32 b) ∧ w'.cell? ⟨w.heap.size + 1, 1, none⟩ = some (.int .i64 m) ∧ w'.cell? ⟨w.heap.size + 2, 0, none⟩ = some (.int .u32 c) ∧ w'.cell? ⟨w.heap.size + 2, 1, none⟩ = some (.int .i64 k) := by
  intro w' h
  obtain ⟨h1, h2, h3, h4⟩ := box2 a n b m w w' ((Same.alloc _ _).trans h)
  have h5 := box1 c k ((w.alloc (pfxO a n)).alloc (pfxO b m)) w' h
  simp [Nat.add_assoc] at h5
  exact ⟨h1, h2, h3, h4, h5.1, h5.2⟩

def winB (a n b m : Int) : Bool := decide (nearN n ≤ nearN m) && decide (canA (canA b m) n = canA a n)

theorem xor_mask (m : Int) : bits .xor .u32 (if IntKind.u32.signed = true then -1 else IntKind.u32.max) (maskN m) = 4294967295 - maskN m := by
  unfold maskN
  have h1 := nearN_le m
  obtain ⟨k, hk, hk2⟩ : ∃ k : Nat, (32 - nearN m).toNat = k ∧ k ≤ 32 := ⟨_, rfl, by omega⟩
  rw [hk]
  have h : ∀ j : Fin 33, bits .xor .u32 (if IntKind.u32.signed = true then -1 else IntKind.u32.max) (4294967296 - 2 ^ j.val) = 4294967295 - (4294967296 - 2 ^ j.val) := by decide
  exact h ⟨k, by omega⟩
theorem ediv_mul_split (x p q : Int) (hp : 0 ≤ p) : x / (p * q) = x / p / q := (Int.ediv_ediv_of_nonneg hp).symm

/-- a, b begin alike: nothing else counts -/
theorem canA_eq_iff (a b n : Int) (ha : 0 ≤ a ∧ a ≤ 4294967295) (hb : 0 ≤ b ∧ b ≤ 4294967295) : canA a n = canA b n ↔ a / 2 ^ (32 - nearN n).toNat = b / 2 ^ (32 - nearN n).toNat := by
  rw [canA_div a n ha.1 ha.2, canA_div b n hb.1 hb.2]
  have hp : (0 : Int) < 2 ^ (32 - nearN n).toNat := Int.pow_pos (by omega)
  generalize (2 : Int) ^ (32 - nearN n).toNat = p at *
  constructor
  · intro h
    exact Int.eq_of_mul_eq_mul_right (by omega) h
  · intro h; rw [h]
theorem canA_in (a n : Int) (ha : 0 ≤ a ∧ a ≤ 4294967295) : 0 ≤ canA a n ∧ canA a n ≤ 4294967295 := by
  have := canA_range a n ha.1 ha.2; omega
/-- a longer mask first -/
theorem canA_div_of_le (b n m : Int) (hb : 0 ≤ b ∧ b ≤ 4294967295) (h : nearN n ≤ nearN m) (r : Int) (hr0 : 0 ≤ r) (hr : r < 2 ^ (32 - nearN m).toNat) :
    (canA b m + r) / 2 ^ (32 - nearN n).toNat = b / 2 ^ (32 - nearN n).toNat := by
  rw [canA_div b m hb.1 hb.2]
  have h1 := nearN_le n
  have h2 := nearN_le m
  obtain ⟨d, hd⟩ : ∃ d : Nat, (32 - nearN n).toNat = (32 - nearN m).toNat + d := ⟨(32 - nearN n).toNat - (32 - nearN m).toNat, by omega⟩
  rw [hd, Int.pow_add]
  have hp : (0 : Int) < 2 ^ (32 - nearN m).toNat := Int.pow_pos (by omega)
  generalize (2 : Int) ^ (32 - nearN m).toNat = p at *
  rw [ediv_mul_split _ p _ (by omega), ediv_mul_split b p _ (by omega)]
  congr 1
  rw [Int.add_comm, Int.add_mul_ediv_right _ _ (by omega), Int.ediv_eq_zero_of_lt hr0 hr]
  omega
theorem win_iff (a n b m : Int) (ha : 0 ≤ a ∧ a ≤ 4294967295) (hb : 0 ≤ b ∧ b ≤ 4294967295) : winB a n b m = true ↔ nearN n ≤ nearN m ∧ b / 2 ^ (32 - nearN n).toNat = a / 2 ^ (32 - nearN n).toNat := by
  unfold winB
  simp only [Bool.and_eq_true, decide_eq_true_eq]
  constructor
  · rintro ⟨h1, h2⟩
    refine ⟨h1, ?_⟩
    rw [canA_eq_iff _ _ n (canA_in b m hb) ha] at h2
    have := canA_div_of_le b n m hb h1 0 (by omega) (Int.pow_pos (by omega))
    rw [Int.add_zero] at this
    rw [← this, h2]
  · rintro ⟨h1, h2⟩
    refine ⟨h1, ?_⟩
    rw [canA_eq_iff _ _ n (canA_in b m hb) ha]
    have := canA_div_of_le b n m hb h1 0 (by omega) (Int.pow_pos (by omega))
    rw [Int.add_zero] at this
    rw [this, h2]
theorem within_self (a n : Int) (ha : 0 ≤ a ∧ a ≤ 4294967295) : winB a n a n = true := (win_iff a n a n ha ha).2 ⟨Int.le_refl _, rfl⟩
theorem holds_self (a n : Int) (ha : 0 ≤ a ∧ a ≤ 4294967295) : decide (canA (canA a n) n = canA a n) = true := by
  have := within_self a n ha
  unfold winB at this
  simp only [Bool.and_eq_true] at this
  exact this.2
theorem within_trans (a n b m c k : Int) (ha : 0 ≤ a ∧ a ≤ 4294967295) (hb : 0 ≤ b ∧ b ≤ 4294967295) (hc : 0 ≤ c ∧ c ≤ 4294967295) (h1 : winB a n b m = true) (h2 : winB b m c k = true) : winB a n c k = true := by
  rw [win_iff a n b m ha hb] at h1
  rw [win_iff b m c k hb hc] at h2
  rw [win_iff a n c k ha hc]
  refine ⟨Int.le_trans h1.1 h2.1, ?_⟩
  rw [← h1.2]
  have e1 := nearN_le n
  have e2 := nearN_le m
  obtain ⟨d, hd⟩ : ∃ d : Nat, (32 - nearN n).toNat = (32 - nearN m).toNat + d := ⟨(32 - nearN n).toNat - (32 - nearN m).toNat, by omega⟩
  rw [hd, Int.pow_add]
  have hp : (0 : Int) < 2 ^ (32 - nearN m).toNat := Int.pow_pos (by omega)
  rw [ediv_mul_split c _ _ (by omega), ediv_mul_split b _ _ (by omega), h2.2]
theorem within_both (a n b m : Int) (ha : 0 ≤ a ∧ a ≤ 4294967295) (hb : 0 ≤ b ∧ b ≤ 4294967295) (h1 : winB a n b m = true) (h2 : winB b m a n = true) : canA a n = canA b m ∧ nearN n = nearN m := by
  rw [win_iff a n b m ha hb] at h1
  rw [win_iff b m a n hb ha] at h2
  have e : nearN n = nearN m := Int.le_antisymm h1.1 h2.1
  refine ⟨?_, e⟩
  rw [canA_div a n ha.1 ha.2, canA_div b m hb.1 hb.2, ← e, h1.2]
theorem or_low (x k : Nat) (hx : x < 2 ^ 32) (hk : k ≤ 32) : (x / 2 ^ k * 2 ^ k) ||| (2 ^ k - 1) = x / 2 ^ k * 2 ^ k + (2 ^ k - 1) := by
  have e2 : x / 2 ^ k * 2 ^ k = (x / 2 ^ k) <<< k := by rw [Nat.shiftLeft_eq]
  have hp : 0 < 2 ^ k := Nat.pow_pos (by omega)
  rw [e2, Nat.shiftLeft_add_eq_or_of_lt (by omega)]
theorem bits_or (x y : Nat) (hx : x < 4294967296) (hy : y < 4294967296) : bits .or .u32 (x : Int) (y : Int) = ((x ||| y : Nat) : Int) := by
  show IntKind.u32.wrap ((BitVec.ofInt 32 x ||| BitVec.ofInt 32 y).toNat : Nat) = _
  have h : x ||| y < 4294967296 := Nat.or_lt_two_pow (n := 32) hx hy
  rw [BitVec.toNat_or, BitVec.toNat_ofInt, BitVec.toNat_ofInt, IntKind.wrap_u32]
  have e1 : ((x : Int) % ((2 ^ 32 : Nat) : Int)).toNat = x := by omega
  have e2 : ((y : Int) % ((2 ^ 32 : Nat) : Int)).toNat = y := by omega
  rw [e1, e2]
  omega
theorem or_rest (b m : Int) (hb : 0 ≤ b ∧ b ≤ 4294967295) : bits .or .u32 (canA b m) (4294967295 - maskN m) = canA b m + (2 ^ (32 - nearN m).toNat - 1) := by
  rw [canA_div b m hb.1 hb.2]
  unfold maskN
  have h1 := nearN_le m
  obtain ⟨x, rfl⟩ : ∃ x : Nat, b = x := ⟨b.toNat, by omega⟩
  obtain ⟨k, hk, hk2⟩ : ∃ k : Nat, (32 - nearN m).toNat = k ∧ k ≤ 32 := ⟨_, rfl, by omega⟩
  rw [hk]
  have hp : 2 ^ k ≤ 4294967296 := Nat.le_trans (Nat.pow_le_pow_right (show 0 < 2 by omega) hk2) (by decide)
  have hp0 : 0 < 2 ^ k := Nat.pow_pos (by omega)
  have e1 : ((x : Int) / 2 ^ k * 2 ^ k) = ((x / 2 ^ k * 2 ^ k : Nat) : Int) := by simp
  have e2 : (4294967295 - (4294967296 - 2 ^ k) : Int) = ((2 ^ k - 1 : Nat) : Int) := by
    have e : ((2 ^ k : Nat) : Int) = 2 ^ k := by simp
    rw [← e]; omega
  have e3 : ((2 : Int) ^ k - 1) = ((2 ^ k - 1 : Nat) : Int) := by
    have e : ((2 ^ k : Nat) : Int) = 2 ^ k := by simp
    rw [← e]; omega
  rw [e1, e2, e3, bits_or _ _ (Nat.lt_of_le_of_lt (Nat.div_mul_le_self x (2 ^ k)) (by omega)) (by omega), or_low x k (by omega) hk2]
  simp
theorem within_holds (a n b m : Int) (ha : 0 ≤ a ∧ a ≤ 4294967295) (hb : 0 ≤ b ∧ b ≤ 4294967295) (h1 : winB a n b m = true) :
    decide (canA (canA b m) n = canA a n) = true ∧ decide (canA (bits .or .u32 (canA b m) (4294967295 - maskN m)) n = canA a n) = true := by
  have hp : (0 : Int) < 2 ^ (32 - nearN m).toNat := Int.pow_pos (by omega)
  have hq : (2 : Int) ^ (32 - nearN m).toNat ≤ 4294967296 := by
    obtain ⟨k, hk, hk2⟩ : ∃ k : Nat, (32 - nearN m).toNat = k ∧ k ≤ 32 := ⟨_, rfl, by have := nearN_le m; omega⟩
    rw [hk]
    have : 2 ^ k ≤ 4294967296 := Nat.le_trans (Nat.pow_le_pow_right (show 0 < 2 by omega) hk2) (by decide)
    have e : ((2 ^ k : Nat) : Int) = 2 ^ k := by simp
    rw [← e]; omega
  constructor
  · unfold winB at h1
    simp only [Bool.and_eq_true] at h1
    exact h1.2
  · rw [decide_eq_true_iff, or_rest b m hb]
    rw [win_iff a n b m ha hb] at h1
    have hr : canA b m + (2 ^ (32 - nearN m).toNat - 1) ≤ 4294967295 := by
      have hc := canA_div b m hb.1 hb.2
      obtain ⟨k, hk, hk2⟩ : ∃ k : Nat, (32 - nearN m).toNat = k ∧ k ≤ 32 := ⟨_, rfl, by have := nearN_le m; omega⟩
      rw [hk] at hc hp hq ⊢
      rw [hc]
      obtain ⟨j, hj⟩ : ∃ j : Nat, 32 = j + k := ⟨32 - k, by omega⟩
      have e32 : (4294967296 : Int) = 2 ^ j * 2 ^ k := by rw [← Int.pow_add, ← hj]; decide
      have hlt : b / 2 ^ k < 2 ^ j := by
        refine Int.ediv_lt_of_lt_mul hp ?_
        rw [← e32]; omega
      have := Int.mul_le_mul_of_nonneg_right (show b / 2 ^ k + 1 ≤ 2 ^ j by omega) (show (0 : Int) ≤ 2 ^ k by omega)
      rw [← e32, Int.add_mul, Int.one_mul] at this
      omega
    rw [canA_eq_iff _ _ n ⟨by have := (canA_in b m hb).1; omega, hr⟩ ha]
    rw [canA_div_of_le b n m hb h1.1 _ (by omega) (by omega), h1.2]

set_option maxHeartbeats 2000000 in
theorem order_walk (a n b m c k : Int) (w : World) (ha : 0 ≤ a ∧ a ≤ 4294967295) (hb : 0 ≤ b ∧ b ≤ 4294967295) (hc : 0 ≤ c ∧ c ≤ 4294967295) :
    Calls Try.prog 6 #[.agg #[.int .u32 a, .int .i64 n], .agg #[.int .u32 b, .int .i64 m], .agg #[.int .u32 c, .int .i64 k]] w fun e w' => e = .returned (.bool true) ∧ Same w w' := by
  have HPQ := fun w => Lib.hid (Within_any a n b m w)
  have HQR := fun w => Lib.hid (Within_any b m c k w)
  have HPR := fun w => Lib.hid (Within_any a n c k w)
  have HQP := fun w => Lib.hid (Within_any b m a n w)
  have HPP := fun w => Lib.hid (Within_any a n a n w)
  have HCP := fun w => Lib.hid (Canon_any a n w)
  have HCQ := fun w => Lib.hid (Canon_any b m w)
  have HHP := fun w => Lib.hid (Holds_any a n (canA a n) w)
  have HHQ := fun w => Lib.hid (Holds_any a n (canA b m) w)
  have HHZ := fun w => Lib.hid (Holds_any a n (bits .or .u32 (canA b m) (bits .xor .u32 (if IntKind.u32.signed = true then -1 else IntKind.u32.max) (maskN m))) w)
  have HM := fun w => Lib.hid (Mask_same (nearN m) w)
  rw [maskN_near] at HM
  have fpp : (decide (nearN n ≤ nearN n) && decide (canA (canA a n) n = canA a n)) = true := within_self a n ha
  have fhp : decide (canA (canA a n) n = canA a n) = true := holds_self a n ha
  rw [fpp] at HPP
  rw [fhp] at HHP
  have HT := Lib.hid (within_trans a n b m c k ha hb hc)
  have HE := Lib.hid (within_both a n b m ha hb)
  have HZ := Lib.hid (within_holds a n b m ha hb)
  have HA := Lib.hid (box3 a n b m c k w)
  have H0 := Lib.hid (((Same.alloc w (pfxO a n)).trans (Same.alloc _ (pfxO b m))).trans (Same.alloc _ (pfxO c k)))
  clear fpp fhp
  obtain ⟨pq, hpq⟩ : ∃ x, x = winB a n b m := ⟨_, rfl⟩
  obtain ⟨qr, hqr⟩ : ∃ x, x = winB b m c k := ⟨_, rfl⟩
  obtain ⟨qp, hqp⟩ : ∃ x, x = winB b m a n := ⟨_, rfl⟩
  change ∀ w, Hid (Calls _ _ _ _ fun e w' => e = .returned (.bool (winB a n b m)) ∧ _) at HPQ
  change ∀ w, Hid (Calls _ _ _ _ fun e w' => e = .returned (.bool (winB b m c k)) ∧ _) at HQR
  change ∀ w, Hid (Calls _ _ _ _ fun e w' => e = .returned (.bool (winB b m a n)) ∧ _) at HQP
  change ∀ w, Hid (Calls _ _ _ _ fun e w' => e = .returned (.bool (winB a n c k)) ∧ _) at HPR
  rw [← hpq] at HPQ
  rw [← hqr] at HQR
  rw [← hqp] at HQP
  cases pq
  · clear hpq hqr hqp HT HE HZ
    obtain ⟨a1, n1, b1, m1, e1, e2, e3, e4⟩ : ∃ a1 n1 b1 m1, a1 = canA a n ∧ n1 = nearN n ∧ b1 = canA b m ∧ m1 = nearN m := ⟨_, _, _, _, rfl, rfl, rfl, rfl⟩
    rw [← e1] at HCP HHP
    rw [← e2] at HCP
    rw [← e3] at HCQ HHQ HHZ
    rw [← e4] at HCQ HM
    clear e1 e2 e3 e4
    go_enter Try.func6, Try.ntmps6
    obtain ⟨c0, c1, c2, c3, c4, c5⟩ := HA.out _ (Same.refl _)
    go_wp2_with fail
    generalize (((w.alloc (pfxO a n)).alloc (pfxO b m)).alloc (pfxO c k)) = V at *
    clear c0 c1 c2 c3 c4 c5
    refine ((HPQ _).out).mono ?_
    rintro e x1 ⟨rfl, hx1⟩
    have HX1 := Lib.hid ((Same.refl V).trans hx1)
    obtain ⟨c0, c1, c2, c3, c4, c5⟩ := HA.out x1 HX1.out
    go_wp2_with fail
    clear c0 c1 c2 c3 c4 c5
    refine reg_start (fun w' => Same V w') (by kernel_rfl) ?_
    refine reg_take (v := ?_) 0 (some 22) rfl rfl (by kernel_rfl) (fun _ _ _ h => h) (by kernel_rfl) (HX1.out.drew) ?_ ?_
    rotate_left
    · (intro w' hw'; obtain ⟨c0, c1, c2, c3, c4, c5⟩ := HA.out w' hw'; go_simp; try with_reducible rfl)
    try simp only [Act.put, List.setIfInBounds_toArray, List.set_cons_zero, List.set_cons_succ]
    refine reg_take (v := ?_) 1 (some 23) rfl rfl (by kernel_rfl) (fun _ _ _ h => h) (by kernel_rfl) (HX1.out.drew) ?_ ?_
    rotate_left
    · (intro w' hw'; obtain ⟨c0, c1, c2, c3, c4, c5⟩ := HA.out w' hw'; go_simp; try with_reducible rfl)
    try simp only [Act.put, List.setIfInBounds_toArray, List.set_cons_zero, List.set_cons_succ]
    refine reg_one 2 rfl (by kernel_rfl) (by kernel_rfl) ?_
    go_simp
    refine ((HPQ _).out).mono ?_
    rintro e u1 ⟨rfl, hs1⟩
    have hS1 := (HX1.out.drew).trans hs1
    skip
    refine ⟨hS1, ?_⟩
    try simp only [Act.put, List.setIfInBounds_toArray, List.set_cons_zero, List.set_cons_succ]
    refine reg_take (v := ?_) 3 (some 25) rfl rfl (by kernel_rfl) (fun _ _ _ h => h) (by kernel_rfl) (hS1) ?_ ?_
    rotate_left
    · (intro w' hw'; obtain ⟨c0, c1, c2, c3, c4, c5⟩ := HA.out w' hw'; go_simp; try with_reducible rfl)
    try simp only [Act.put, List.setIfInBounds_toArray, List.set_cons_zero, List.set_cons_succ]
    refine reg_skip 4 (some 26) rfl rfl (by kernel_rfl) (fun _ _ _ h => h) (by kernel_rfl) (hS1) ?_
    try simp only [Act.put, List.setIfInBounds_toArray, List.set_cons_zero, List.set_cons_succ]
    refine reg_skip 5 (some 27) rfl rfl (by kernel_rfl) (fun _ _ _ h => h) (by kernel_rfl) (hS1) ?_
    try simp only [Act.put, List.setIfInBounds_toArray, List.set_cons_zero, List.set_cons_succ]
    refine reg_skip 6 (some 28) rfl rfl (by kernel_rfl) (fun _ _ _ h => h) (by kernel_rfl) (hS1) ?_
    try simp only [Act.put, List.setIfInBounds_toArray, List.set_cons_zero, List.set_cons_succ]
    refine reg_take (v := ?_) 7 (some 29) rfl rfl (by kernel_rfl) (fun _ _ _ h => h) (by kernel_rfl) (hS1) ?_ ?_
    rotate_left
    · (intro w' hw'; obtain ⟨c0, c1, c2, c3, c4, c5⟩ := HA.out w' hw'; go_simp; try with_reducible rfl)
    try simp only [Act.put, List.setIfInBounds_toArray, List.set_cons_zero, List.set_cons_succ]
    refine reg_take (v := ?_) 8 (some 30) rfl rfl (by kernel_rfl) (fun _ _ _ h => h) (by kernel_rfl) (hS1) ?_ ?_
    rotate_left
    · (intro w' hw'; obtain ⟨c0, c1, c2, c3, c4, c5⟩ := HA.out w' hw'; go_simp; try with_reducible rfl)
    try simp only [Act.put, List.setIfInBounds_toArray, List.set_cons_zero, List.set_cons_succ]
    refine reg_skip 9 (some 31) rfl rfl (by kernel_rfl) (fun _ _ _ h => h) (by kernel_rfl) (hS1) ?_
    try simp only [Act.put, List.setIfInBounds_toArray, List.set_cons_zero, List.set_cons_succ]
    refine reg_skip 10 (some 32) rfl rfl (by kernel_rfl) (fun _ _ _ h => h) (by kernel_rfl) (hS1) ?_
    try simp only [Act.put, List.setIfInBounds_toArray, List.set_cons_zero, List.set_cons_succ]
    refine reg_skip 11 (some 33) rfl rfl (by kernel_rfl) (fun _ _ _ h => h) (by kernel_rfl) (hS1) ?_
    try simp only [Act.put, List.setIfInBounds_toArray, List.set_cons_zero, List.set_cons_succ]
    refine reg_skip 12 (some 34) rfl rfl (by kernel_rfl) (fun _ _ _ h => h) (by kernel_rfl) (hS1) ?_
    try simp only [Act.put, List.setIfInBounds_toArray, List.set_cons_zero, List.set_cons_succ]
    refine reg_skip 13 (some 35) rfl rfl (by kernel_rfl) (fun _ _ _ h => h) (by kernel_rfl) (hS1) ?_
    try simp only [Act.put, List.setIfInBounds_toArray, List.set_cons_zero, List.set_cons_succ]
    refine reg_take (v := ?_) 14 (some 36) rfl rfl (by kernel_rfl) (fun _ _ _ h => h) (by kernel_rfl) (hS1) ?_ ?_
    rotate_left
    · (intro w' hw'; obtain ⟨c0, c1, c2, c3, c4, c5⟩ := HA.out w' hw'; go_simp; try with_reducible rfl)
    try simp only [Act.put, List.setIfInBounds_toArray, List.set_cons_zero, List.set_cons_succ]
    refine reg_done (by kernel_rfl) ?_
    have HX2 := Lib.hid hS1
    go_wp2_with fail
    refine reg_start (fun w' => Same V w') (by kernel_rfl) ?_
    refine reg_take (v := ?_) 0 (some 37) rfl rfl (by kernel_rfl) (fun _ _ _ h => h) (by kernel_rfl) (HX2.out.drew) ?_ ?_
    rotate_left
    · (intro w' hw'; obtain ⟨c0, c1, c2, c3, c4, c5⟩ := HA.out w' hw'; go_simp; try with_reducible rfl)
    try simp only [Act.put, List.setIfInBounds_toArray, List.set_cons_zero, List.set_cons_succ]
    refine reg_take (v := ?_) 1 (some 38) rfl rfl (by kernel_rfl) (fun _ _ _ h => h) (by kernel_rfl) (HX2.out.drew) ?_ ?_
    rotate_left
    · (intro w' hw'; obtain ⟨c0, c1, c2, c3, c4, c5⟩ := HA.out w' hw'; go_simp; try with_reducible rfl)
    try simp only [Act.put, List.setIfInBounds_toArray, List.set_cons_zero, List.set_cons_succ]
    refine reg_one 2 rfl (by kernel_rfl) (by kernel_rfl) ?_
    go_simp
    refine ((HPP _).out).mono ?_
    rintro e u1 ⟨rfl, hs1⟩
    have hS1 := (HX2.out.drew).trans hs1
    skip
    refine ⟨hS1, ?_⟩
    try simp only [Act.put, List.setIfInBounds_toArray, List.set_cons_zero, List.set_cons_succ]
    refine reg_take (v := ?_) 3 (some 40) rfl rfl (by kernel_rfl) (fun _ _ _ h => h) (by kernel_rfl) (hS1) ?_ ?_
    rotate_left
    · (intro w' hw'; obtain ⟨c0, c1, c2, c3, c4, c5⟩ := HA.out w' hw'; go_simp; try with_reducible rfl)
    try simp only [Act.put, List.setIfInBounds_toArray, List.set_cons_zero, List.set_cons_succ]
    refine reg_take (v := ?_) 4 (some 41) rfl rfl (by kernel_rfl) (fun _ _ _ h => h) (by kernel_rfl) (hS1) ?_ ?_
    rotate_left
    · (intro w' hw'; obtain ⟨c0, c1, c2, c3, c4, c5⟩ := HA.out w' hw'; go_simp; try with_reducible rfl)
    try simp only [Act.put, List.setIfInBounds_toArray, List.set_cons_zero, List.set_cons_succ]
    refine reg_take (v := ?_) 5 (some 42) rfl rfl (by kernel_rfl) (fun _ _ _ h => h) (by kernel_rfl) (hS1) ?_ ?_
    rotate_left
    · (intro w' hw'; obtain ⟨c0, c1, c2, c3, c4, c5⟩ := HA.out w' hw'; go_simp; try with_reducible rfl)
    try simp only [Act.put, List.setIfInBounds_toArray, List.set_cons_zero, List.set_cons_succ]
    refine reg_take (v := ?_) 6 (some 43) rfl rfl (by kernel_rfl) (fun _ _ _ h => h) (by kernel_rfl) (hS1) ?_ ?_
    rotate_left
    · (intro w' hw'; obtain ⟨c0, c1, c2, c3, c4, c5⟩ := HA.out w' hw'; go_simp; try with_reducible rfl)
    try simp only [Act.put, List.setIfInBounds_toArray, List.set_cons_zero, List.set_cons_succ]
    refine reg_one 7 rfl (by kernel_rfl) (by kernel_rfl) ?_
    go_simp
    refine ((HCP _).out).mono ?_
    rintro e u2 ⟨rfl, hs2⟩
    have hS2 := (hS1).trans hs2
    skip
    refine ⟨hS2, ?_⟩
    try simp only [Act.put, List.setIfInBounds_toArray, List.set_cons_zero, List.set_cons_succ]
    refine reg_take (v := ?_) 8 (some 45) rfl rfl (by kernel_rfl) (fun _ _ _ h => h) (by kernel_rfl) (hS2) ?_ ?_
    rotate_left
    · (intro w' hw'; obtain ⟨c0, c1, c2, c3, c4, c5⟩ := HA.out w' hw'; go_simp; try with_reducible rfl)
    try simp only [Act.put, List.setIfInBounds_toArray, List.set_cons_zero, List.set_cons_succ]
    refine reg_one 9 rfl (by kernel_rfl) (by kernel_rfl) ?_
    go_simp
    refine ((HHP _).out).mono ?_
    rintro e u3 ⟨rfl, hs3⟩
    have hS3 := (hS2).trans hs3
    skip
    refine ⟨hS3, ?_⟩
    try simp only [Act.put, List.setIfInBounds_toArray, List.set_cons_zero, List.set_cons_succ]
    refine reg_take (v := ?_) 10 (some 47) rfl rfl (by kernel_rfl) (fun _ _ _ h => h) (by kernel_rfl) (hS3) ?_ ?_
    rotate_left
    · (intro w' hw'; obtain ⟨c0, c1, c2, c3, c4, c5⟩ := HA.out w' hw'; go_simp; try with_reducible rfl)
    try simp only [Act.put, List.setIfInBounds_toArray, List.set_cons_zero, List.set_cons_succ]
    refine reg_take (v := ?_) 11 (some 48) rfl rfl (by kernel_rfl) (fun _ _ _ h => h) (by kernel_rfl) (hS3) ?_ ?_
    rotate_left
    · (intro w' hw'; obtain ⟨c0, c1, c2, c3, c4, c5⟩ := HA.out w' hw'; go_simp; try with_reducible rfl)
    try simp only [Act.put, List.setIfInBounds_toArray, List.set_cons_zero, List.set_cons_succ]
    refine reg_done (by kernel_rfl) ?_
    have HX3 := Lib.hid hS3
    obtain ⟨c0, c1, c2, c3, c4, c5⟩ := HA.out _ HX3.out
    go_wp2_with fail
    refine ((HCQ _).out).mono ?_
    rintro e x4 ⟨rfl, hx4⟩
    have HX4 := Lib.hid (HX3.out.trans hx4)
    obtain ⟨c0, c1, c2, c3, c4, c5⟩ := HA.out x4 HX4.out
    go_wp2_with fail
    clear c0 c1 c2 c3 c4 c5
    have HB := Lib.hid (box1 b1 m1 x4)
    have HY := Lib.hid (HX4.out.trans (Same.alloc x4 (pfxO b1 m1)))
    have HA2 : Hid (∀ w', Same (x4.alloc (pfxO b1 m1)) w' → _) := fun w' h => HA.out w' (HY.out.trans h)
    generalize x4.alloc (pfxO b1 m1) = U at *
    refine reg_start (fun w' => Same U w') (by kernel_rfl) ?_
    refine reg_take (v := ?_) 0 (some 51) rfl rfl (by kernel_rfl) (fun _ _ _ h => h) (by kernel_rfl) ((Same.refl U).drew) ?_ ?_
    rotate_left
    · (intro w' hw'; obtain ⟨c0, c1, c2, c3, c4, c5⟩ := HA2.out w' hw'; obtain ⟨b0, b1⟩ := HB.out w' hw'; go_simp; try with_reducible rfl)
    try simp only [Act.put, List.setIfInBounds_toArray, List.set_cons_zero, List.set_cons_succ]
    refine reg_take (v := ?_) 1 (some 52) rfl rfl (by kernel_rfl) (fun _ _ _ h => h) (by kernel_rfl) ((Same.refl U).drew) ?_ ?_
    rotate_left
    · (intro w' hw'; obtain ⟨c0, c1, c2, c3, c4, c5⟩ := HA2.out w' hw'; obtain ⟨b0, b1⟩ := HB.out w' hw'; go_simp; try with_reducible rfl)
    try simp only [Act.put, List.setIfInBounds_toArray, List.set_cons_zero, List.set_cons_succ]
    refine reg_one 2 rfl (by kernel_rfl) (by kernel_rfl) ?_
    go_simp
    refine ((HPQ _).out).mono ?_
    rintro e u1 ⟨rfl, hs1⟩
    have hS1 := ((Same.refl U).drew).trans hs1
    skip
    refine ⟨hS1, ?_⟩
    try simp only [Act.put, List.setIfInBounds_toArray, List.set_cons_zero, List.set_cons_succ]
    refine reg_take (v := ?_) 3 (some 54) rfl rfl (by kernel_rfl) (fun _ _ _ h => h) (by kernel_rfl) (hS1) ?_ ?_
    rotate_left
    · (intro w' hw'; obtain ⟨c0, c1, c2, c3, c4, c5⟩ := HA2.out w' hw'; obtain ⟨b0, b1⟩ := HB.out w' hw'; go_simp; try with_reducible rfl)
    try simp only [Act.put, List.setIfInBounds_toArray, List.set_cons_zero, List.set_cons_succ]
    refine reg_take (v := ?_) 4 (some 55) rfl rfl (by kernel_rfl) (fun _ _ _ h => h) (by kernel_rfl) (hS1) ?_ ?_
    rotate_left
    · (intro w' hw'; obtain ⟨c0, c1, c2, c3, c4, c5⟩ := HA2.out w' hw'; obtain ⟨b0, b1⟩ := HB.out w' hw'; go_simp; try with_reducible rfl)
    try simp only [Act.put, List.setIfInBounds_toArray, List.set_cons_zero, List.set_cons_succ]
    refine reg_skip 5 (some 56) rfl rfl (by kernel_rfl) (fun _ _ _ h => h) (by kernel_rfl) (hS1) ?_
    try simp only [Act.put, List.setIfInBounds_toArray, List.set_cons_zero, List.set_cons_succ]
    refine reg_skip 6 (some 57) rfl rfl (by kernel_rfl) (fun _ _ _ h => h) (by kernel_rfl) (hS1) ?_
    try simp only [Act.put, List.setIfInBounds_toArray, List.set_cons_zero, List.set_cons_succ]
    refine reg_skip 7 (some 58) rfl rfl (by kernel_rfl) (fun _ _ _ h => h) (by kernel_rfl) (hS1) ?_
    try simp only [Act.put, List.setIfInBounds_toArray, List.set_cons_zero, List.set_cons_succ]
    refine reg_skip 8 (some 59) rfl rfl (by kernel_rfl) (fun _ _ _ h => h) (by kernel_rfl) (hS1) ?_
    try simp only [Act.put, List.setIfInBounds_toArray, List.set_cons_zero, List.set_cons_succ]
    refine reg_skip 9 (some 60) rfl rfl (by kernel_rfl) (fun _ _ _ h => h) (by kernel_rfl) (hS1) ?_
    try simp only [Act.put, List.setIfInBounds_toArray, List.set_cons_zero, List.set_cons_succ]
    refine reg_skip 10 (some 61) rfl rfl (by kernel_rfl) (fun _ _ _ h => h) (by kernel_rfl) (hS1) ?_
    try simp only [Act.put, List.setIfInBounds_toArray, List.set_cons_zero, List.set_cons_succ]
    refine reg_skip 11 (some 62) rfl rfl (by kernel_rfl) (fun _ _ _ h => h) (by kernel_rfl) (hS1) ?_
    try simp only [Act.put, List.setIfInBounds_toArray, List.set_cons_zero, List.set_cons_succ]
    refine reg_skip 12 (some 63) rfl rfl (by kernel_rfl) (fun _ _ _ h => h) (by kernel_rfl) (hS1) ?_
    try simp only [Act.put, List.setIfInBounds_toArray, List.set_cons_zero, List.set_cons_succ]
    refine reg_skip 13 (some 64) rfl rfl (by kernel_rfl) (fun _ _ _ h => h) (by kernel_rfl) (hS1) ?_
    try simp only [Act.put, List.setIfInBounds_toArray, List.set_cons_zero, List.set_cons_succ]
    refine reg_skip 14 (some 65) rfl rfl (by kernel_rfl) (fun _ _ _ h => h) (by kernel_rfl) (hS1) ?_
    try simp only [Act.put, List.setIfInBounds_toArray, List.set_cons_zero, List.set_cons_succ]
    refine reg_skip 15 (some 66) rfl rfl (by kernel_rfl) (fun _ _ _ h => h) (by kernel_rfl) (hS1) ?_
    try simp only [Act.put, List.setIfInBounds_toArray, List.set_cons_zero, List.set_cons_succ]
    refine reg_skip 16 (some 67) rfl rfl (by kernel_rfl) (fun _ _ _ h => h) (by kernel_rfl) (hS1) ?_
    try simp only [Act.put, List.setIfInBounds_toArray, List.set_cons_zero, List.set_cons_succ]
    refine reg_skip 17 (some 68) rfl rfl (by kernel_rfl) (fun _ _ _ h => h) (by kernel_rfl) (hS1) ?_
    try simp only [Act.put, List.setIfInBounds_toArray, List.set_cons_zero, List.set_cons_succ]
    refine reg_skip 18 (some 69) rfl rfl (by kernel_rfl) (fun _ _ _ h => h) (by kernel_rfl) (hS1) ?_
    try simp only [Act.put, List.setIfInBounds_toArray, List.set_cons_zero, List.set_cons_succ]
    refine reg_skip 19 (some 70) rfl rfl (by kernel_rfl) (fun _ _ _ h => h) (by kernel_rfl) (hS1) ?_
    try simp only [Act.put, List.setIfInBounds_toArray, List.set_cons_zero, List.set_cons_succ]
    refine reg_take (v := ?_) 20 (some 71) rfl rfl (by kernel_rfl) (fun _ _ _ h => h) (by kernel_rfl) (hS1) ?_ ?_
    rotate_left
    · (intro w' hw'; obtain ⟨c0, c1, c2, c3, c4, c5⟩ := HA2.out w' hw'; obtain ⟨b0, b1⟩ := HB.out w' hw'; go_simp; try with_reducible rfl)
    try simp only [Act.put, List.setIfInBounds_toArray, List.set_cons_zero, List.set_cons_succ]
    refine reg_take (v := ?_) 21 (some 72) rfl rfl (by kernel_rfl) (fun _ _ _ h => h) (by kernel_rfl) (hS1) ?_ ?_
    rotate_left
    · (intro w' hw'; obtain ⟨c0, c1, c2, c3, c4, c5⟩ := HA2.out w' hw'; obtain ⟨b0, b1⟩ := HB.out w' hw'; go_simp; try with_reducible rfl)
    try simp only [Act.put, List.setIfInBounds_toArray, List.set_cons_zero, List.set_cons_succ]
    refine reg_one 22 rfl (by kernel_rfl) (by kernel_rfl) ?_
    go_simp
    refine (pfx_lives _).mono ?_
    rintro e u2 ⟨rfl, hs2⟩
    have hS2 := (hS1).trans hs2
    skip
    refine ⟨hS2, ?_⟩
    try simp only [Act.put, List.setIfInBounds_toArray, List.set_cons_zero, List.set_cons_succ]
    refine reg_take (v := ?_) 23 (some 74) rfl rfl (by kernel_rfl) (fun _ _ _ h => h) (by kernel_rfl) (hS2) ?_ ?_
    rotate_left
    · (intro w' hw'; obtain ⟨c0, c1, c2, c3, c4, c5⟩ := HA2.out w' hw'; obtain ⟨b0, b1⟩ := HB.out w' hw'; go_simp; try with_reducible rfl)
    try simp only [Act.put, List.setIfInBounds_toArray, List.set_cons_zero, List.set_cons_succ]
    refine reg_take (v := ?_) 24 (some 6) rfl rfl (by kernel_rfl) (fun _ _ _ h => h) (by kernel_rfl) (hS2) ?_ ?_
    rotate_left
    · (intro w' hw'; obtain ⟨c0, c1, c2, c3, c4, c5⟩ := HA2.out w' hw'; obtain ⟨b0, b1⟩ := HB.out w' hw'; go_simp; try with_reducible rfl)
    try simp only [Act.put, List.setIfInBounds_toArray, List.set_cons_zero, List.set_cons_succ]
    refine reg_done (by kernel_rfl) ?_
    go_wp2_with fail
    go_ret
    exact ⟨rfl, (H0.out.trans HY.out).trans hS2⟩
  · have hz1 := HZ.out hpq.symm
    rw [hz1.1] at HHQ
    have hz2 : decide (canA (bits .or .u32 (canA b m) (bits .xor .u32 (if IntKind.u32.signed = true then -1 else IntKind.u32.max) (maskN m))) n = canA a n) = true := by rw [xor_mask]; exact hz1.2
    rw [hz2] at HHZ
    clear hz1 hz2
    obtain ⟨z, ez⟩ : ∃ z, z = maskN m := ⟨_, rfl⟩
    rw [← ez] at HHZ HM
    clear ez
    cases qr
    · cases qp
      · clear hpq hqr hqp HT HE HZ
        obtain ⟨a1, n1, b1, m1, e1, e2, e3, e4⟩ : ∃ a1 n1 b1 m1, a1 = canA a n ∧ n1 = nearN n ∧ b1 = canA b m ∧ m1 = nearN m := ⟨_, _, _, _, rfl, rfl, rfl, rfl⟩
        rw [← e1] at HCP HHP
        rw [← e2] at HCP
        rw [← e3] at HCQ HHQ HHZ
        rw [← e4] at HCQ HM
        clear e1 e2 e3 e4
        go_enter Try.func6, Try.ntmps6
        obtain ⟨c0, c1, c2, c3, c4, c5⟩ := HA.out _ (Same.refl _)
        go_wp2_with fail
        generalize (((w.alloc (pfxO a n)).alloc (pfxO b m)).alloc (pfxO c k)) = V at *
        clear c0 c1 c2 c3 c4 c5
        refine ((HPQ _).out).mono ?_
        rintro e x1 ⟨rfl, hx1⟩
        have HX1 := Lib.hid ((Same.refl V).trans hx1)
        obtain ⟨c0, c1, c2, c3, c4, c5⟩ := HA.out x1 HX1.out
        go_wp2_with fail
        clear c0 c1 c2 c3 c4 c5
        refine ((HQR _).out).mono ?_
        rintro e x2 ⟨rfl, hx2⟩
        have HX2 := Lib.hid (HX1.out.trans hx2)
        obtain ⟨c0, c1, c2, c3, c4, c5⟩ := HA.out x2 HX2.out
        go_wp2_with fail
        clear c0 c1 c2 c3 c4 c5
        refine reg_start (fun w' => Same V w') (by kernel_rfl) ?_
        refine reg_take (v := ?_) 0 (some 22) rfl rfl (by kernel_rfl) (fun _ _ _ h => h) (by kernel_rfl) (HX2.out.drew) ?_ ?_
        rotate_left
        · (intro w' hw'; obtain ⟨c0, c1, c2, c3, c4, c5⟩ := HA.out w' hw'; go_simp; try with_reducible rfl)
        try simp only [Act.put, List.setIfInBounds_toArray, List.set_cons_zero, List.set_cons_succ]
        refine reg_take (v := ?_) 1 (some 23) rfl rfl (by kernel_rfl) (fun _ _ _ h => h) (by kernel_rfl) (HX2.out.drew) ?_ ?_
        rotate_left
        · (intro w' hw'; obtain ⟨c0, c1, c2, c3, c4, c5⟩ := HA.out w' hw'; go_simp; try with_reducible rfl)
        try simp only [Act.put, List.setIfInBounds_toArray, List.set_cons_zero, List.set_cons_succ]
        refine reg_one 2 rfl (by kernel_rfl) (by kernel_rfl) ?_
        go_simp
        refine ((HPQ _).out).mono ?_
        rintro e u1 ⟨rfl, hs1⟩
        have hS1 := (HX2.out.drew).trans hs1
        skip
        refine ⟨hS1, ?_⟩
        try simp only [Act.put, List.setIfInBounds_toArray, List.set_cons_zero, List.set_cons_succ]
        refine reg_take (v := ?_) 3 (some 25) rfl rfl (by kernel_rfl) (fun _ _ _ h => h) (by kernel_rfl) (hS1) ?_ ?_
        rotate_left
        · (intro w' hw'; obtain ⟨c0, c1, c2, c3, c4, c5⟩ := HA.out w' hw'; go_simp; try with_reducible rfl)
        try simp only [Act.put, List.setIfInBounds_toArray, List.set_cons_zero, List.set_cons_succ]
        refine reg_take (v := ?_) 4 (some 26) rfl rfl (by kernel_rfl) (fun _ _ _ h => h) (by kernel_rfl) (hS1) ?_ ?_
        rotate_left
        · (intro w' hw'; obtain ⟨c0, c1, c2, c3, c4, c5⟩ := HA.out w' hw'; go_simp; try with_reducible rfl)
        try simp only [Act.put, List.setIfInBounds_toArray, List.set_cons_zero, List.set_cons_succ]
        refine reg_take (v := ?_) 5 (some 27) rfl rfl (by kernel_rfl) (fun _ _ _ h => h) (by kernel_rfl) (hS1) ?_ ?_
        rotate_left
        · (intro w' hw'; obtain ⟨c0, c1, c2, c3, c4, c5⟩ := HA.out w' hw'; go_simp; try with_reducible rfl)
        try simp only [Act.put, List.setIfInBounds_toArray, List.set_cons_zero, List.set_cons_succ]
        refine reg_one 6 rfl (by kernel_rfl) (by kernel_rfl) ?_
        go_simp
        refine ((HQP _).out).mono ?_
        rintro e u2 ⟨rfl, hs2⟩
        have hS2 := (hS1).trans hs2
        skip
        refine ⟨hS2, ?_⟩
        try simp only [Act.put, List.setIfInBounds_toArray, List.set_cons_zero, List.set_cons_succ]
        refine reg_take (v := ?_) 7 (some 29) rfl rfl (by kernel_rfl) (fun _ _ _ h => h) (by kernel_rfl) (hS2) ?_ ?_
        rotate_left
        · (intro w' hw'; obtain ⟨c0, c1, c2, c3, c4, c5⟩ := HA.out w' hw'; go_simp; try with_reducible rfl)
        try simp only [Act.put, List.setIfInBounds_toArray, List.set_cons_zero, List.set_cons_succ]
        refine reg_take (v := ?_) 8 (some 30) rfl rfl (by kernel_rfl) (fun _ _ _ h => h) (by kernel_rfl) (hS2) ?_ ?_
        rotate_left
        · (intro w' hw'; obtain ⟨c0, c1, c2, c3, c4, c5⟩ := HA.out w' hw'; go_simp; try with_reducible rfl)
        try simp only [Act.put, List.setIfInBounds_toArray, List.set_cons_zero, List.set_cons_succ]
        refine reg_skip 9 (some 31) rfl rfl (by kernel_rfl) (fun _ _ _ h => h) (by kernel_rfl) (hS2) ?_
        try simp only [Act.put, List.setIfInBounds_toArray, List.set_cons_zero, List.set_cons_succ]
        refine reg_skip 10 (some 32) rfl rfl (by kernel_rfl) (fun _ _ _ h => h) (by kernel_rfl) (hS2) ?_
        try simp only [Act.put, List.setIfInBounds_toArray, List.set_cons_zero, List.set_cons_succ]
        refine reg_skip 11 (some 33) rfl rfl (by kernel_rfl) (fun _ _ _ h => h) (by kernel_rfl) (hS2) ?_
        try simp only [Act.put, List.setIfInBounds_toArray, List.set_cons_zero, List.set_cons_succ]
        refine reg_skip 12 (some 34) rfl rfl (by kernel_rfl) (fun _ _ _ h => h) (by kernel_rfl) (hS2) ?_
        try simp only [Act.put, List.setIfInBounds_toArray, List.set_cons_zero, List.set_cons_succ]
        refine reg_skip 13 (some 35) rfl rfl (by kernel_rfl) (fun _ _ _ h => h) (by kernel_rfl) (hS2) ?_
        try simp only [Act.put, List.setIfInBounds_toArray, List.set_cons_zero, List.set_cons_succ]
        refine reg_take (v := ?_) 14 (some 36) rfl rfl (by kernel_rfl) (fun _ _ _ h => h) (by kernel_rfl) (hS2) ?_ ?_
        rotate_left
        · (intro w' hw'; obtain ⟨c0, c1, c2, c3, c4, c5⟩ := HA.out w' hw'; go_simp; try with_reducible rfl)
        try simp only [Act.put, List.setIfInBounds_toArray, List.set_cons_zero, List.set_cons_succ]
        refine reg_done (by kernel_rfl) ?_
        have HX3 := Lib.hid hS2
        go_wp2_with fail
        refine reg_start (fun w' => Same V w') (by kernel_rfl) ?_
        refine reg_take (v := ?_) 0 (some 37) rfl rfl (by kernel_rfl) (fun _ _ _ h => h) (by kernel_rfl) (HX3.out.drew) ?_ ?_
        rotate_left
        · (intro w' hw'; obtain ⟨c0, c1, c2, c3, c4, c5⟩ := HA.out w' hw'; go_simp; try with_reducible rfl)
        try simp only [Act.put, List.setIfInBounds_toArray, List.set_cons_zero, List.set_cons_succ]
        refine reg_take (v := ?_) 1 (some 38) rfl rfl (by kernel_rfl) (fun _ _ _ h => h) (by kernel_rfl) (HX3.out.drew) ?_ ?_
        rotate_left
        · (intro w' hw'; obtain ⟨c0, c1, c2, c3, c4, c5⟩ := HA.out w' hw'; go_simp; try with_reducible rfl)
        try simp only [Act.put, List.setIfInBounds_toArray, List.set_cons_zero, List.set_cons_succ]
        refine reg_one 2 rfl (by kernel_rfl) (by kernel_rfl) ?_
        go_simp
        refine ((HPP _).out).mono ?_
        rintro e u1 ⟨rfl, hs1⟩
        have hS1 := (HX3.out.drew).trans hs1
        skip
        refine ⟨hS1, ?_⟩
        try simp only [Act.put, List.setIfInBounds_toArray, List.set_cons_zero, List.set_cons_succ]
        refine reg_take (v := ?_) 3 (some 40) rfl rfl (by kernel_rfl) (fun _ _ _ h => h) (by kernel_rfl) (hS1) ?_ ?_
        rotate_left
        · (intro w' hw'; obtain ⟨c0, c1, c2, c3, c4, c5⟩ := HA.out w' hw'; go_simp; try with_reducible rfl)
        try simp only [Act.put, List.setIfInBounds_toArray, List.set_cons_zero, List.set_cons_succ]
        refine reg_take (v := ?_) 4 (some 41) rfl rfl (by kernel_rfl) (fun _ _ _ h => h) (by kernel_rfl) (hS1) ?_ ?_
        rotate_left
        · (intro w' hw'; obtain ⟨c0, c1, c2, c3, c4, c5⟩ := HA.out w' hw'; go_simp; try with_reducible rfl)
        try simp only [Act.put, List.setIfInBounds_toArray, List.set_cons_zero, List.set_cons_succ]
        refine reg_take (v := ?_) 5 (some 42) rfl rfl (by kernel_rfl) (fun _ _ _ h => h) (by kernel_rfl) (hS1) ?_ ?_
        rotate_left
        · (intro w' hw'; obtain ⟨c0, c1, c2, c3, c4, c5⟩ := HA.out w' hw'; go_simp; try with_reducible rfl)
        try simp only [Act.put, List.setIfInBounds_toArray, List.set_cons_zero, List.set_cons_succ]
        refine reg_take (v := ?_) 6 (some 43) rfl rfl (by kernel_rfl) (fun _ _ _ h => h) (by kernel_rfl) (hS1) ?_ ?_
        rotate_left
        · (intro w' hw'; obtain ⟨c0, c1, c2, c3, c4, c5⟩ := HA.out w' hw'; go_simp; try with_reducible rfl)
        try simp only [Act.put, List.setIfInBounds_toArray, List.set_cons_zero, List.set_cons_succ]
        refine reg_one 7 rfl (by kernel_rfl) (by kernel_rfl) ?_
        go_simp
        refine ((HCP _).out).mono ?_
        rintro e u2 ⟨rfl, hs2⟩
        have hS2 := (hS1).trans hs2
        skip
        refine ⟨hS2, ?_⟩
        try simp only [Act.put, List.setIfInBounds_toArray, List.set_cons_zero, List.set_cons_succ]
        refine reg_take (v := ?_) 8 (some 45) rfl rfl (by kernel_rfl) (fun _ _ _ h => h) (by kernel_rfl) (hS2) ?_ ?_
        rotate_left
        · (intro w' hw'; obtain ⟨c0, c1, c2, c3, c4, c5⟩ := HA.out w' hw'; go_simp; try with_reducible rfl)
        try simp only [Act.put, List.setIfInBounds_toArray, List.set_cons_zero, List.set_cons_succ]
        refine reg_one 9 rfl (by kernel_rfl) (by kernel_rfl) ?_
        go_simp
        refine ((HHP _).out).mono ?_
        rintro e u3 ⟨rfl, hs3⟩
        have hS3 := (hS2).trans hs3
        skip
        refine ⟨hS3, ?_⟩
        try simp only [Act.put, List.setIfInBounds_toArray, List.set_cons_zero, List.set_cons_succ]
        refine reg_take (v := ?_) 10 (some 47) rfl rfl (by kernel_rfl) (fun _ _ _ h => h) (by kernel_rfl) (hS3) ?_ ?_
        rotate_left
        · (intro w' hw'; obtain ⟨c0, c1, c2, c3, c4, c5⟩ := HA.out w' hw'; go_simp; try with_reducible rfl)
        try simp only [Act.put, List.setIfInBounds_toArray, List.set_cons_zero, List.set_cons_succ]
        refine reg_take (v := ?_) 11 (some 48) rfl rfl (by kernel_rfl) (fun _ _ _ h => h) (by kernel_rfl) (hS3) ?_ ?_
        rotate_left
        · (intro w' hw'; obtain ⟨c0, c1, c2, c3, c4, c5⟩ := HA.out w' hw'; go_simp; try with_reducible rfl)
        try simp only [Act.put, List.setIfInBounds_toArray, List.set_cons_zero, List.set_cons_succ]
        refine reg_done (by kernel_rfl) ?_
        have HX4 := Lib.hid hS3
        obtain ⟨c0, c1, c2, c3, c4, c5⟩ := HA.out _ HX4.out
        go_wp2_with fail
        refine ((HCQ _).out).mono ?_
        rintro e x5 ⟨rfl, hx5⟩
        have HX5 := Lib.hid (HX4.out.trans hx5)
        obtain ⟨c0, c1, c2, c3, c4, c5⟩ := HA.out x5 HX5.out
        go_wp2_with fail
        clear c0 c1 c2 c3 c4 c5
        have HB := Lib.hid (box1 b1 m1 x5)
        have HY := Lib.hid (HX5.out.trans (Same.alloc x5 (pfxO b1 m1)))
        have HA2 : Hid (∀ w', Same (x5.alloc (pfxO b1 m1)) w' → _) := fun w' h => HA.out w' (HY.out.trans h)
        generalize x5.alloc (pfxO b1 m1) = U at *
        refine reg_start (fun w' => Same U w') (by kernel_rfl) ?_
        refine reg_take (v := ?_) 0 (some 51) rfl rfl (by kernel_rfl) (fun _ _ _ h => h) (by kernel_rfl) ((Same.refl U).drew) ?_ ?_
        rotate_left
        · (intro w' hw'; obtain ⟨c0, c1, c2, c3, c4, c5⟩ := HA2.out w' hw'; obtain ⟨b0, b1⟩ := HB.out w' hw'; go_simp; try with_reducible rfl)
        try simp only [Act.put, List.setIfInBounds_toArray, List.set_cons_zero, List.set_cons_succ]
        refine reg_take (v := ?_) 1 (some 52) rfl rfl (by kernel_rfl) (fun _ _ _ h => h) (by kernel_rfl) ((Same.refl U).drew) ?_ ?_
        rotate_left
        · (intro w' hw'; obtain ⟨c0, c1, c2, c3, c4, c5⟩ := HA2.out w' hw'; obtain ⟨b0, b1⟩ := HB.out w' hw'; go_simp; try with_reducible rfl)
        try simp only [Act.put, List.setIfInBounds_toArray, List.set_cons_zero, List.set_cons_succ]
        refine reg_one 2 rfl (by kernel_rfl) (by kernel_rfl) ?_
        go_simp
        refine ((HPQ _).out).mono ?_
        rintro e u1 ⟨rfl, hs1⟩
        have hS1 := ((Same.refl U).drew).trans hs1
        skip
        refine ⟨hS1, ?_⟩
        try simp only [Act.put, List.setIfInBounds_toArray, List.set_cons_zero, List.set_cons_succ]
        refine reg_take (v := ?_) 3 (some 54) rfl rfl (by kernel_rfl) (fun _ _ _ h => h) (by kernel_rfl) (hS1) ?_ ?_
        rotate_left
        · (intro w' hw'; obtain ⟨c0, c1, c2, c3, c4, c5⟩ := HA2.out w' hw'; obtain ⟨b0, b1⟩ := HB.out w' hw'; go_simp; try with_reducible rfl)
        try simp only [Act.put, List.setIfInBounds_toArray, List.set_cons_zero, List.set_cons_succ]
        refine reg_take (v := ?_) 4 (some 55) rfl rfl (by kernel_rfl) (fun _ _ _ h => h) (by kernel_rfl) (hS1) ?_ ?_
        rotate_left
        · (intro w' hw'; obtain ⟨c0, c1, c2, c3, c4, c5⟩ := HA2.out w' hw'; obtain ⟨b0, b1⟩ := HB.out w' hw'; go_simp; try with_reducible rfl)
        try simp only [Act.put, List.setIfInBounds_toArray, List.set_cons_zero, List.set_cons_succ]
        refine reg_take (v := ?_) 5 (some 56) rfl rfl (by kernel_rfl) (fun _ _ _ h => h) (by kernel_rfl) (hS1) ?_ ?_
        rotate_left
        · (intro w' hw'; obtain ⟨c0, c1, c2, c3, c4, c5⟩ := HA2.out w' hw'; obtain ⟨b0, b1⟩ := HB.out w' hw'; go_simp; try with_reducible rfl)
        try simp only [Act.put, List.setIfInBounds_toArray, List.set_cons_zero, List.set_cons_succ]
        refine reg_take (v := ?_) 6 (some 57) rfl rfl (by kernel_rfl) (fun _ _ _ h => h) (by kernel_rfl) (hS1) ?_ ?_
        rotate_left
        · (intro w' hw'; obtain ⟨c0, c1, c2, c3, c4, c5⟩ := HA2.out w' hw'; obtain ⟨b0, b1⟩ := HB.out w' hw'; go_simp; try with_reducible rfl)
        try simp only [Act.put, List.setIfInBounds_toArray, List.set_cons_zero, List.set_cons_succ]
        refine reg_take (v := ?_) 7 (some 58) rfl rfl (by kernel_rfl) (fun _ _ _ h => h) (by kernel_rfl) (hS1) ?_ ?_
        rotate_left
        · (intro w' hw'; obtain ⟨c0, c1, c2, c3, c4, c5⟩ := HA2.out w' hw'; obtain ⟨b0, b1⟩ := HB.out w' hw'; go_simp; try with_reducible rfl)
        try simp only [Act.put, List.setIfInBounds_toArray, List.set_cons_zero, List.set_cons_succ]
        refine reg_one 8 rfl (by kernel_rfl) (by kernel_rfl) ?_
        go_simp
        refine ((HHQ _).out).mono ?_
        rintro e u2 ⟨rfl, hs2⟩
        have hS2 := (hS1).trans hs2
        skip
        refine ⟨hS2, ?_⟩
        try simp only [Act.put, List.setIfInBounds_toArray, List.set_cons_zero, List.set_cons_succ]
        refine reg_take (v := ?_) 9 (some 60) rfl rfl (by kernel_rfl) (fun _ _ _ h => h) (by kernel_rfl) (hS2) ?_ ?_
        rotate_left
        · (intro w' hw'; obtain ⟨c0, c1, c2, c3, c4, c5⟩ := HA2.out w' hw'; obtain ⟨b0, b1⟩ := HB.out w' hw'; go_simp; try with_reducible rfl)
        try simp only [Act.put, List.setIfInBounds_toArray, List.set_cons_zero, List.set_cons_succ]
        refine reg_take (v := ?_) 10 (some 61) rfl rfl (by kernel_rfl) (fun _ _ _ h => h) (by kernel_rfl) (hS2) ?_ ?_
        rotate_left
        · (intro w' hw'; obtain ⟨c0, c1, c2, c3, c4, c5⟩ := HA2.out w' hw'; obtain ⟨b0, b1⟩ := HB.out w' hw'; go_simp; try with_reducible rfl)
        try simp only [Act.put, List.setIfInBounds_toArray, List.set_cons_zero, List.set_cons_succ]
        refine reg_take (v := ?_) 11 (some 62) rfl rfl (by kernel_rfl) (fun _ _ _ h => h) (by kernel_rfl) (hS2) ?_ ?_
        rotate_left
        · (intro w' hw'; obtain ⟨c0, c1, c2, c3, c4, c5⟩ := HA2.out w' hw'; obtain ⟨b0, b1⟩ := HB.out w' hw'; go_simp; try with_reducible rfl)
        try simp only [Act.put, List.setIfInBounds_toArray, List.set_cons_zero, List.set_cons_succ]
        refine reg_take (v := ?_) 12 (some 63) rfl rfl (by kernel_rfl) (fun _ _ _ h => h) (by kernel_rfl) (hS2) ?_ ?_
        rotate_left
        · (intro w' hw'; obtain ⟨c0, c1, c2, c3, c4, c5⟩ := HA2.out w' hw'; obtain ⟨b0, b1⟩ := HB.out w' hw'; go_simp; try with_reducible rfl)
        try simp only [Act.put, List.setIfInBounds_toArray, List.set_cons_zero, List.set_cons_succ]
        refine reg_take (v := ?_) 13 (some 64) rfl rfl (by kernel_rfl) (fun _ _ _ h => h) (by kernel_rfl) (hS2) ?_ ?_
        rotate_left
        · (intro w' hw'; obtain ⟨c0, c1, c2, c3, c4, c5⟩ := HA2.out w' hw'; obtain ⟨b0, b1⟩ := HB.out w' hw'; go_simp; try with_reducible rfl)
        try simp only [Act.put, List.setIfInBounds_toArray, List.set_cons_zero, List.set_cons_succ]
        refine reg_take (v := ?_) 14 (some 65) rfl rfl (by kernel_rfl) (fun _ _ _ h => h) (by kernel_rfl) (hS2) ?_ ?_
        rotate_left
        · (intro w' hw'; obtain ⟨c0, c1, c2, c3, c4, c5⟩ := HA2.out w' hw'; obtain ⟨b0, b1⟩ := HB.out w' hw'; go_simp; try with_reducible rfl)
        try simp only [Act.put, List.setIfInBounds_toArray, List.set_cons_zero, List.set_cons_succ]
        refine reg_one 15 rfl (by kernel_rfl) (by kernel_rfl) ?_
        go_simp
        refine ((HM _).out).mono ?_
        rintro e u3 ⟨rfl, hs3⟩
        have hS3 := (hS2).trans hs3
        skip
        refine ⟨hS3, ?_⟩
        try simp only [Act.put, List.setIfInBounds_toArray, List.set_cons_zero, List.set_cons_succ]
        refine reg_take (v := ?_) 16 (some 67) rfl rfl (by kernel_rfl) (fun _ _ _ h => h) (by kernel_rfl) (hS3) ?_ ?_
        rotate_left
        · (intro w' hw'; obtain ⟨c0, c1, c2, c3, c4, c5⟩ := HA2.out w' hw'; obtain ⟨b0, b1⟩ := HB.out w' hw'; go_simp; try with_reducible rfl)
        try simp only [Act.put, List.setIfInBounds_toArray, List.set_cons_zero, List.set_cons_succ]
        refine reg_take (v := ?_) 17 (some 68) rfl rfl (by kernel_rfl) (fun _ _ _ h => h) (by kernel_rfl) (hS3) ?_ ?_
        rotate_left
        · (intro w' hw'; obtain ⟨c0, c1, c2, c3, c4, c5⟩ := HA2.out w' hw'; obtain ⟨b0, b1⟩ := HB.out w' hw'; go_simp; try with_reducible rfl)
        try simp only [Act.put, List.setIfInBounds_toArray, List.set_cons_zero, List.set_cons_succ]
        refine reg_one 18 rfl (by kernel_rfl) (by kernel_rfl) ?_
        go_simp
        refine ((HHZ _).out).mono ?_
        rintro e u4 ⟨rfl, hs4⟩
        have hS4 := (hS3).trans hs4
        skip
        refine ⟨hS4, ?_⟩
        try simp only [Act.put, List.setIfInBounds_toArray, List.set_cons_zero, List.set_cons_succ]
        refine reg_take (v := ?_) 19 (some 70) rfl rfl (by kernel_rfl) (fun _ _ _ h => h) (by kernel_rfl) (hS4) ?_ ?_
        rotate_left
        · (intro w' hw'; obtain ⟨c0, c1, c2, c3, c4, c5⟩ := HA2.out w' hw'; obtain ⟨b0, b1⟩ := HB.out w' hw'; go_simp; try with_reducible rfl)
        try simp only [Act.put, List.setIfInBounds_toArray, List.set_cons_zero, List.set_cons_succ]
        refine reg_take (v := ?_) 20 (some 71) rfl rfl (by kernel_rfl) (fun _ _ _ h => h) (by kernel_rfl) (hS4) ?_ ?_
        rotate_left
        · (intro w' hw'; obtain ⟨c0, c1, c2, c3, c4, c5⟩ := HA2.out w' hw'; obtain ⟨b0, b1⟩ := HB.out w' hw'; go_simp; try with_reducible rfl)
        try simp only [Act.put, List.setIfInBounds_toArray, List.set_cons_zero, List.set_cons_succ]
        refine reg_take (v := ?_) 21 (some 72) rfl rfl (by kernel_rfl) (fun _ _ _ h => h) (by kernel_rfl) (hS4) ?_ ?_
        rotate_left
        · (intro w' hw'; obtain ⟨c0, c1, c2, c3, c4, c5⟩ := HA2.out w' hw'; obtain ⟨b0, b1⟩ := HB.out w' hw'; go_simp; try with_reducible rfl)
        try simp only [Act.put, List.setIfInBounds_toArray, List.set_cons_zero, List.set_cons_succ]
        refine reg_one 22 rfl (by kernel_rfl) (by kernel_rfl) ?_
        go_simp
        refine (pfx_lives _).mono ?_
        rintro e u5 ⟨rfl, hs5⟩
        have hS5 := (hS4).trans hs5
        skip
        refine ⟨hS5, ?_⟩
        try simp only [Act.put, List.setIfInBounds_toArray, List.set_cons_zero, List.set_cons_succ]
        refine reg_take (v := ?_) 23 (some 74) rfl rfl (by kernel_rfl) (fun _ _ _ h => h) (by kernel_rfl) (hS5) ?_ ?_
        rotate_left
        · (intro w' hw'; obtain ⟨c0, c1, c2, c3, c4, c5⟩ := HA2.out w' hw'; obtain ⟨b0, b1⟩ := HB.out w' hw'; go_simp; try with_reducible rfl)
        try simp only [Act.put, List.setIfInBounds_toArray, List.set_cons_zero, List.set_cons_succ]
        refine reg_take (v := ?_) 24 (some 6) rfl rfl (by kernel_rfl) (fun _ _ _ h => h) (by kernel_rfl) (hS5) ?_ ?_
        rotate_left
        · (intro w' hw'; obtain ⟨c0, c1, c2, c3, c4, c5⟩ := HA2.out w' hw'; obtain ⟨b0, b1⟩ := HB.out w' hw'; go_simp; try with_reducible rfl)
        try simp only [Act.put, List.setIfInBounds_toArray, List.set_cons_zero, List.set_cons_succ]
        refine reg_done (by kernel_rfl) ?_
        go_wp2_with fail
        go_ret
        exact ⟨rfl, (H0.out.trans HY.out).trans hS5⟩
      · have he1 := HE.out hpq.symm hqp.symm
        rw [← he1.1, ← he1.2] at HCQ
        rw [← he1.1] at HHQ HHZ
        rw [← he1.2] at HM
        clear hpq hqr hqp HT HE HZ he1
        obtain ⟨b1, m1, e3, e4⟩ : ∃ b1 m1, b1 = canA a n ∧ m1 = nearN n := ⟨_, _, rfl, rfl⟩
        rw [← e3] at HCP HHP HCQ HHQ HHZ
        rw [← e4] at HCP HCQ HM
        clear e3 e4
        go_enter Try.func6, Try.ntmps6
        obtain ⟨c0, c1, c2, c3, c4, c5⟩ := HA.out _ (Same.refl _)
        go_wp2_with fail
        generalize (((w.alloc (pfxO a n)).alloc (pfxO b m)).alloc (pfxO c k)) = V at *
        clear c0 c1 c2 c3 c4 c5
        refine ((HPQ _).out).mono ?_
        rintro e x1 ⟨rfl, hx1⟩
        have HX1 := Lib.hid ((Same.refl V).trans hx1)
        obtain ⟨c0, c1, c2, c3, c4, c5⟩ := HA.out x1 HX1.out
        go_wp2_with fail
        clear c0 c1 c2 c3 c4 c5
        refine ((HQR _).out).mono ?_
        rintro e x2 ⟨rfl, hx2⟩
        have HX2 := Lib.hid (HX1.out.trans hx2)
        obtain ⟨c0, c1, c2, c3, c4, c5⟩ := HA.out x2 HX2.out
        go_wp2_with fail
        clear c0 c1 c2 c3 c4 c5
        refine reg_start (fun w' => Same V w') (by kernel_rfl) ?_
        refine reg_take (v := ?_) 0 (some 22) rfl rfl (by kernel_rfl) (fun _ _ _ h => h) (by kernel_rfl) (HX2.out.drew) ?_ ?_
        rotate_left
        · (intro w' hw'; obtain ⟨c0, c1, c2, c3, c4, c5⟩ := HA.out w' hw'; go_simp; try with_reducible rfl)
        try simp only [Act.put, List.setIfInBounds_toArray, List.set_cons_zero, List.set_cons_succ]
        refine reg_take (v := ?_) 1 (some 23) rfl rfl (by kernel_rfl) (fun _ _ _ h => h) (by kernel_rfl) (HX2.out.drew) ?_ ?_
        rotate_left
        · (intro w' hw'; obtain ⟨c0, c1, c2, c3, c4, c5⟩ := HA.out w' hw'; go_simp; try with_reducible rfl)
        try simp only [Act.put, List.setIfInBounds_toArray, List.set_cons_zero, List.set_cons_succ]
        refine reg_one 2 rfl (by kernel_rfl) (by kernel_rfl) ?_
        go_simp
        refine ((HPQ _).out).mono ?_
        rintro e u1 ⟨rfl, hs1⟩
        have hS1 := (HX2.out.drew).trans hs1
        skip
        refine ⟨hS1, ?_⟩
        try simp only [Act.put, List.setIfInBounds_toArray, List.set_cons_zero, List.set_cons_succ]
        refine reg_take (v := ?_) 3 (some 25) rfl rfl (by kernel_rfl) (fun _ _ _ h => h) (by kernel_rfl) (hS1) ?_ ?_
        rotate_left
        · (intro w' hw'; obtain ⟨c0, c1, c2, c3, c4, c5⟩ := HA.out w' hw'; go_simp; try with_reducible rfl)
        try simp only [Act.put, List.setIfInBounds_toArray, List.set_cons_zero, List.set_cons_succ]
        refine reg_take (v := ?_) 4 (some 26) rfl rfl (by kernel_rfl) (fun _ _ _ h => h) (by kernel_rfl) (hS1) ?_ ?_
        rotate_left
        · (intro w' hw'; obtain ⟨c0, c1, c2, c3, c4, c5⟩ := HA.out w' hw'; go_simp; try with_reducible rfl)
        try simp only [Act.put, List.setIfInBounds_toArray, List.set_cons_zero, List.set_cons_succ]
        refine reg_take (v := ?_) 5 (some 27) rfl rfl (by kernel_rfl) (fun _ _ _ h => h) (by kernel_rfl) (hS1) ?_ ?_
        rotate_left
        · (intro w' hw'; obtain ⟨c0, c1, c2, c3, c4, c5⟩ := HA.out w' hw'; go_simp; try with_reducible rfl)
        try simp only [Act.put, List.setIfInBounds_toArray, List.set_cons_zero, List.set_cons_succ]
        refine reg_one 6 rfl (by kernel_rfl) (by kernel_rfl) ?_
        go_simp
        refine ((HQP _).out).mono ?_
        rintro e u2 ⟨rfl, hs2⟩
        have hS2 := (hS1).trans hs2
        skip
        refine ⟨hS2, ?_⟩
        try simp only [Act.put, List.setIfInBounds_toArray, List.set_cons_zero, List.set_cons_succ]
        refine reg_take (v := ?_) 7 (some 29) rfl rfl (by kernel_rfl) (fun _ _ _ h => h) (by kernel_rfl) (hS2) ?_ ?_
        rotate_left
        · (intro w' hw'; obtain ⟨c0, c1, c2, c3, c4, c5⟩ := HA.out w' hw'; go_simp; try with_reducible rfl)
        try simp only [Act.put, List.setIfInBounds_toArray, List.set_cons_zero, List.set_cons_succ]
        refine reg_take (v := ?_) 8 (some 30) rfl rfl (by kernel_rfl) (fun _ _ _ h => h) (by kernel_rfl) (hS2) ?_ ?_
        rotate_left
        · (intro w' hw'; obtain ⟨c0, c1, c2, c3, c4, c5⟩ := HA.out w' hw'; go_simp; try with_reducible rfl)
        try simp only [Act.put, List.setIfInBounds_toArray, List.set_cons_zero, List.set_cons_succ]
        refine reg_take (v := ?_) 9 (some 31) rfl rfl (by kernel_rfl) (fun _ _ _ h => h) (by kernel_rfl) (hS2) ?_ ?_
        rotate_left
        · (intro w' hw'; obtain ⟨c0, c1, c2, c3, c4, c5⟩ := HA.out w' hw'; go_simp; try with_reducible rfl)
        try simp only [Act.put, List.setIfInBounds_toArray, List.set_cons_zero, List.set_cons_succ]
        refine reg_take (v := ?_) 11 (some 33) rfl rfl (by kernel_rfl) (fun _ _ _ h => h) (by kernel_rfl) (hS2) ?_ ?_
        rotate_left
        · (intro w' hw'; obtain ⟨c0, c1, c2, c3, c4, c5⟩ := HA.out w' hw'; go_simp; try with_reducible rfl)
        try simp only [Act.put, List.setIfInBounds_toArray, List.set_cons_zero, List.set_cons_succ]
        refine reg_one 10 rfl (by kernel_rfl) (by kernel_rfl) ?_
        go_simp
        refine ((HCP _).out).mono ?_
        rintro e u3 ⟨rfl, hs3⟩
        have hS3 := (hS2).trans hs3
        skip
        refine ⟨hS3, ?_⟩
        try simp only [Act.put, List.setIfInBounds_toArray, List.set_cons_zero, List.set_cons_succ]
        refine reg_one 12 rfl (by kernel_rfl) (by kernel_rfl) ?_
        go_simp
        refine ((HCQ _).out).mono ?_
        rintro e u4 ⟨rfl, hs4⟩
        have hS4 := (hS3).trans hs4
        skip
        refine ⟨hS4, ?_⟩
        try simp only [Act.put, List.setIfInBounds_toArray, List.set_cons_zero, List.set_cons_succ]
        refine reg_take (v := ?_) 13 (some 35) rfl rfl (by kernel_rfl) (fun _ _ _ h => h) (by kernel_rfl) (hS4) ?_ ?_
        rotate_left
        · (intro w' hw'; obtain ⟨c0, c1, c2, c3, c4, c5⟩ := HA.out w' hw'; go_simp; try with_reducible rfl)
        try simp only [Act.put, List.setIfInBounds_toArray, List.set_cons_zero, List.set_cons_succ]
        refine reg_take (v := ?_) 14 (some 36) rfl rfl (by kernel_rfl) (fun _ _ _ h => h) (by kernel_rfl) (hS4) ?_ ?_
        rotate_left
        · (intro w' hw'; obtain ⟨c0, c1, c2, c3, c4, c5⟩ := HA.out w' hw'; go_simp; try with_reducible rfl)
        try simp only [Act.put, List.setIfInBounds_toArray, List.set_cons_zero, List.set_cons_succ]
        refine reg_done (by kernel_rfl) ?_
        have HX3 := Lib.hid hS4
        go_wp2_with fail
        refine reg_start (fun w' => Same V w') (by kernel_rfl) ?_
        refine reg_take (v := ?_) 0 (some 37) rfl rfl (by kernel_rfl) (fun _ _ _ h => h) (by kernel_rfl) (HX3.out.drew) ?_ ?_
        rotate_left
        · (intro w' hw'; obtain ⟨c0, c1, c2, c3, c4, c5⟩ := HA.out w' hw'; go_simp; try with_reducible rfl)
        try simp only [Act.put, List.setIfInBounds_toArray, List.set_cons_zero, List.set_cons_succ]
        refine reg_take (v := ?_) 1 (some 38) rfl rfl (by kernel_rfl) (fun _ _ _ h => h) (by kernel_rfl) (HX3.out.drew) ?_ ?_
        rotate_left
        · (intro w' hw'; obtain ⟨c0, c1, c2, c3, c4, c5⟩ := HA.out w' hw'; go_simp; try with_reducible rfl)
        try simp only [Act.put, List.setIfInBounds_toArray, List.set_cons_zero, List.set_cons_succ]
        refine reg_one 2 rfl (by kernel_rfl) (by kernel_rfl) ?_
        go_simp
        refine ((HPP _).out).mono ?_
        rintro e u1 ⟨rfl, hs1⟩
        have hS1 := (HX3.out.drew).trans hs1
        skip
        refine ⟨hS1, ?_⟩
        try simp only [Act.put, List.setIfInBounds_toArray, List.set_cons_zero, List.set_cons_succ]
        refine reg_take (v := ?_) 3 (some 40) rfl rfl (by kernel_rfl) (fun _ _ _ h => h) (by kernel_rfl) (hS1) ?_ ?_
        rotate_left
        · (intro w' hw'; obtain ⟨c0, c1, c2, c3, c4, c5⟩ := HA.out w' hw'; go_simp; try with_reducible rfl)
        try simp only [Act.put, List.setIfInBounds_toArray, List.set_cons_zero, List.set_cons_succ]
        refine reg_take (v := ?_) 4 (some 41) rfl rfl (by kernel_rfl) (fun _ _ _ h => h) (by kernel_rfl) (hS1) ?_ ?_
        rotate_left
        · (intro w' hw'; obtain ⟨c0, c1, c2, c3, c4, c5⟩ := HA.out w' hw'; go_simp; try with_reducible rfl)
        try simp only [Act.put, List.setIfInBounds_toArray, List.set_cons_zero, List.set_cons_succ]
        refine reg_take (v := ?_) 5 (some 42) rfl rfl (by kernel_rfl) (fun _ _ _ h => h) (by kernel_rfl) (hS1) ?_ ?_
        rotate_left
        · (intro w' hw'; obtain ⟨c0, c1, c2, c3, c4, c5⟩ := HA.out w' hw'; go_simp; try with_reducible rfl)
        try simp only [Act.put, List.setIfInBounds_toArray, List.set_cons_zero, List.set_cons_succ]
        refine reg_take (v := ?_) 6 (some 43) rfl rfl (by kernel_rfl) (fun _ _ _ h => h) (by kernel_rfl) (hS1) ?_ ?_
        rotate_left
        · (intro w' hw'; obtain ⟨c0, c1, c2, c3, c4, c5⟩ := HA.out w' hw'; go_simp; try with_reducible rfl)
        try simp only [Act.put, List.setIfInBounds_toArray, List.set_cons_zero, List.set_cons_succ]
        refine reg_one 7 rfl (by kernel_rfl) (by kernel_rfl) ?_
        go_simp
        refine ((HCP _).out).mono ?_
        rintro e u2 ⟨rfl, hs2⟩
        have hS2 := (hS1).trans hs2
        skip
        refine ⟨hS2, ?_⟩
        try simp only [Act.put, List.setIfInBounds_toArray, List.set_cons_zero, List.set_cons_succ]
        refine reg_take (v := ?_) 8 (some 45) rfl rfl (by kernel_rfl) (fun _ _ _ h => h) (by kernel_rfl) (hS2) ?_ ?_
        rotate_left
        · (intro w' hw'; obtain ⟨c0, c1, c2, c3, c4, c5⟩ := HA.out w' hw'; go_simp; try with_reducible rfl)
        try simp only [Act.put, List.setIfInBounds_toArray, List.set_cons_zero, List.set_cons_succ]
        refine reg_one 9 rfl (by kernel_rfl) (by kernel_rfl) ?_
        go_simp
        refine ((HHP _).out).mono ?_
        rintro e u3 ⟨rfl, hs3⟩
        have hS3 := (hS2).trans hs3
        skip
        refine ⟨hS3, ?_⟩
        try simp only [Act.put, List.setIfInBounds_toArray, List.set_cons_zero, List.set_cons_succ]
        refine reg_take (v := ?_) 10 (some 47) rfl rfl (by kernel_rfl) (fun _ _ _ h => h) (by kernel_rfl) (hS3) ?_ ?_
        rotate_left
        · (intro w' hw'; obtain ⟨c0, c1, c2, c3, c4, c5⟩ := HA.out w' hw'; go_simp; try with_reducible rfl)
        try simp only [Act.put, List.setIfInBounds_toArray, List.set_cons_zero, List.set_cons_succ]
        refine reg_take (v := ?_) 11 (some 48) rfl rfl (by kernel_rfl) (fun _ _ _ h => h) (by kernel_rfl) (hS3) ?_ ?_
        rotate_left
        · (intro w' hw'; obtain ⟨c0, c1, c2, c3, c4, c5⟩ := HA.out w' hw'; go_simp; try with_reducible rfl)
        try simp only [Act.put, List.setIfInBounds_toArray, List.set_cons_zero, List.set_cons_succ]
        refine reg_done (by kernel_rfl) ?_
        have HX4 := Lib.hid hS3
        obtain ⟨c0, c1, c2, c3, c4, c5⟩ := HA.out _ HX4.out
        go_wp2_with fail
        refine ((HCQ _).out).mono ?_
        rintro e x5 ⟨rfl, hx5⟩
        have HX5 := Lib.hid (HX4.out.trans hx5)
        obtain ⟨c0, c1, c2, c3, c4, c5⟩ := HA.out x5 HX5.out
        go_wp2_with fail
        clear c0 c1 c2 c3 c4 c5
        have HB := Lib.hid (box1 b1 m1 x5)
        have HY := Lib.hid (HX5.out.trans (Same.alloc x5 (pfxO b1 m1)))
        have HA2 : Hid (∀ w', Same (x5.alloc (pfxO b1 m1)) w' → _) := fun w' h => HA.out w' (HY.out.trans h)
        generalize x5.alloc (pfxO b1 m1) = U at *
        refine reg_start (fun w' => Same U w') (by kernel_rfl) ?_
        refine reg_take (v := ?_) 0 (some 51) rfl rfl (by kernel_rfl) (fun _ _ _ h => h) (by kernel_rfl) ((Same.refl U).drew) ?_ ?_
        rotate_left
        · (intro w' hw'; obtain ⟨c0, c1, c2, c3, c4, c5⟩ := HA2.out w' hw'; obtain ⟨b0, b1⟩ := HB.out w' hw'; go_simp; try with_reducible rfl)
        try simp only [Act.put, List.setIfInBounds_toArray, List.set_cons_zero, List.set_cons_succ]
        refine reg_take (v := ?_) 1 (some 52) rfl rfl (by kernel_rfl) (fun _ _ _ h => h) (by kernel_rfl) ((Same.refl U).drew) ?_ ?_
        rotate_left
        · (intro w' hw'; obtain ⟨c0, c1, c2, c3, c4, c5⟩ := HA2.out w' hw'; obtain ⟨b0, b1⟩ := HB.out w' hw'; go_simp; try with_reducible rfl)
        try simp only [Act.put, List.setIfInBounds_toArray, List.set_cons_zero, List.set_cons_succ]
        refine reg_one 2 rfl (by kernel_rfl) (by kernel_rfl) ?_
        go_simp
        refine ((HPQ _).out).mono ?_
        rintro e u1 ⟨rfl, hs1⟩
        have hS1 := ((Same.refl U).drew).trans hs1
        skip
        refine ⟨hS1, ?_⟩
        try simp only [Act.put, List.setIfInBounds_toArray, List.set_cons_zero, List.set_cons_succ]
        refine reg_take (v := ?_) 3 (some 54) rfl rfl (by kernel_rfl) (fun _ _ _ h => h) (by kernel_rfl) (hS1) ?_ ?_
        rotate_left
        · (intro w' hw'; obtain ⟨c0, c1, c2, c3, c4, c5⟩ := HA2.out w' hw'; obtain ⟨b0, b1⟩ := HB.out w' hw'; go_simp; try with_reducible rfl)
        try simp only [Act.put, List.setIfInBounds_toArray, List.set_cons_zero, List.set_cons_succ]
        refine reg_take (v := ?_) 4 (some 55) rfl rfl (by kernel_rfl) (fun _ _ _ h => h) (by kernel_rfl) (hS1) ?_ ?_
        rotate_left
        · (intro w' hw'; obtain ⟨c0, c1, c2, c3, c4, c5⟩ := HA2.out w' hw'; obtain ⟨b0, b1⟩ := HB.out w' hw'; go_simp; try with_reducible rfl)
        try simp only [Act.put, List.setIfInBounds_toArray, List.set_cons_zero, List.set_cons_succ]
        refine reg_take (v := ?_) 5 (some 56) rfl rfl (by kernel_rfl) (fun _ _ _ h => h) (by kernel_rfl) (hS1) ?_ ?_
        rotate_left
        · (intro w' hw'; obtain ⟨c0, c1, c2, c3, c4, c5⟩ := HA2.out w' hw'; obtain ⟨b0, b1⟩ := HB.out w' hw'; go_simp; try with_reducible rfl)
        try simp only [Act.put, List.setIfInBounds_toArray, List.set_cons_zero, List.set_cons_succ]
        refine reg_take (v := ?_) 6 (some 57) rfl rfl (by kernel_rfl) (fun _ _ _ h => h) (by kernel_rfl) (hS1) ?_ ?_
        rotate_left
        · (intro w' hw'; obtain ⟨c0, c1, c2, c3, c4, c5⟩ := HA2.out w' hw'; obtain ⟨b0, b1⟩ := HB.out w' hw'; go_simp; try with_reducible rfl)
        try simp only [Act.put, List.setIfInBounds_toArray, List.set_cons_zero, List.set_cons_succ]
        refine reg_take (v := ?_) 7 (some 58) rfl rfl (by kernel_rfl) (fun _ _ _ h => h) (by kernel_rfl) (hS1) ?_ ?_
        rotate_left
        · (intro w' hw'; obtain ⟨c0, c1, c2, c3, c4, c5⟩ := HA2.out w' hw'; obtain ⟨b0, b1⟩ := HB.out w' hw'; go_simp; try with_reducible rfl)
        try simp only [Act.put, List.setIfInBounds_toArray, List.set_cons_zero, List.set_cons_succ]
        refine reg_one 8 rfl (by kernel_rfl) (by kernel_rfl) ?_
        go_simp
        refine ((HHQ _).out).mono ?_
        rintro e u2 ⟨rfl, hs2⟩
        have hS2 := (hS1).trans hs2
        skip
        refine ⟨hS2, ?_⟩
        try simp only [Act.put, List.setIfInBounds_toArray, List.set_cons_zero, List.set_cons_succ]
        refine reg_take (v := ?_) 9 (some 60) rfl rfl (by kernel_rfl) (fun _ _ _ h => h) (by kernel_rfl) (hS2) ?_ ?_
        rotate_left
        · (intro w' hw'; obtain ⟨c0, c1, c2, c3, c4, c5⟩ := HA2.out w' hw'; obtain ⟨b0, b1⟩ := HB.out w' hw'; go_simp; try with_reducible rfl)
        try simp only [Act.put, List.setIfInBounds_toArray, List.set_cons_zero, List.set_cons_succ]
        refine reg_take (v := ?_) 10 (some 61) rfl rfl (by kernel_rfl) (fun _ _ _ h => h) (by kernel_rfl) (hS2) ?_ ?_
        rotate_left
        · (intro w' hw'; obtain ⟨c0, c1, c2, c3, c4, c5⟩ := HA2.out w' hw'; obtain ⟨b0, b1⟩ := HB.out w' hw'; go_simp; try with_reducible rfl)
        try simp only [Act.put, List.setIfInBounds_toArray, List.set_cons_zero, List.set_cons_succ]
        refine reg_take (v := ?_) 11 (some 62) rfl rfl (by kernel_rfl) (fun _ _ _ h => h) (by kernel_rfl) (hS2) ?_ ?_
        rotate_left
        · (intro w' hw'; obtain ⟨c0, c1, c2, c3, c4, c5⟩ := HA2.out w' hw'; obtain ⟨b0, b1⟩ := HB.out w' hw'; go_simp; try with_reducible rfl)
        try simp only [Act.put, List.setIfInBounds_toArray, List.set_cons_zero, List.set_cons_succ]
        refine reg_take (v := ?_) 12 (some 63) rfl rfl (by kernel_rfl) (fun _ _ _ h => h) (by kernel_rfl) (hS2) ?_ ?_
        rotate_left
        · (intro w' hw'; obtain ⟨c0, c1, c2, c3, c4, c5⟩ := HA2.out w' hw'; obtain ⟨b0, b1⟩ := HB.out w' hw'; go_simp; try with_reducible rfl)
        try simp only [Act.put, List.setIfInBounds_toArray, List.set_cons_zero, List.set_cons_succ]
        refine reg_take (v := ?_) 13 (some 64) rfl rfl (by kernel_rfl) (fun _ _ _ h => h) (by kernel_rfl) (hS2) ?_ ?_
        rotate_left
        · (intro w' hw'; obtain ⟨c0, c1, c2, c3, c4, c5⟩ := HA2.out w' hw'; obtain ⟨b0, b1⟩ := HB.out w' hw'; go_simp; try with_reducible rfl)
        try simp only [Act.put, List.setIfInBounds_toArray, List.set_cons_zero, List.set_cons_succ]
        refine reg_take (v := ?_) 14 (some 65) rfl rfl (by kernel_rfl) (fun _ _ _ h => h) (by kernel_rfl) (hS2) ?_ ?_
        rotate_left
        · (intro w' hw'; obtain ⟨c0, c1, c2, c3, c4, c5⟩ := HA2.out w' hw'; obtain ⟨b0, b1⟩ := HB.out w' hw'; go_simp; try with_reducible rfl)
        try simp only [Act.put, List.setIfInBounds_toArray, List.set_cons_zero, List.set_cons_succ]
        refine reg_one 15 rfl (by kernel_rfl) (by kernel_rfl) ?_
        go_simp
        refine ((HM _).out).mono ?_
        rintro e u3 ⟨rfl, hs3⟩
        have hS3 := (hS2).trans hs3
        skip
        refine ⟨hS3, ?_⟩
        try simp only [Act.put, List.setIfInBounds_toArray, List.set_cons_zero, List.set_cons_succ]
        refine reg_take (v := ?_) 16 (some 67) rfl rfl (by kernel_rfl) (fun _ _ _ h => h) (by kernel_rfl) (hS3) ?_ ?_
        rotate_left
        · (intro w' hw'; obtain ⟨c0, c1, c2, c3, c4, c5⟩ := HA2.out w' hw'; obtain ⟨b0, b1⟩ := HB.out w' hw'; go_simp; try with_reducible rfl)
        try simp only [Act.put, List.setIfInBounds_toArray, List.set_cons_zero, List.set_cons_succ]
        refine reg_take (v := ?_) 17 (some 68) rfl rfl (by kernel_rfl) (fun _ _ _ h => h) (by kernel_rfl) (hS3) ?_ ?_
        rotate_left
        · (intro w' hw'; obtain ⟨c0, c1, c2, c3, c4, c5⟩ := HA2.out w' hw'; obtain ⟨b0, b1⟩ := HB.out w' hw'; go_simp; try with_reducible rfl)
        try simp only [Act.put, List.setIfInBounds_toArray, List.set_cons_zero, List.set_cons_succ]
        refine reg_one 18 rfl (by kernel_rfl) (by kernel_rfl) ?_
        go_simp
        refine ((HHZ _).out).mono ?_
        rintro e u4 ⟨rfl, hs4⟩
        have hS4 := (hS3).trans hs4
        skip
        refine ⟨hS4, ?_⟩
        try simp only [Act.put, List.setIfInBounds_toArray, List.set_cons_zero, List.set_cons_succ]
        refine reg_take (v := ?_) 19 (some 70) rfl rfl (by kernel_rfl) (fun _ _ _ h => h) (by kernel_rfl) (hS4) ?_ ?_
        rotate_left
        · (intro w' hw'; obtain ⟨c0, c1, c2, c3, c4, c5⟩ := HA2.out w' hw'; obtain ⟨b0, b1⟩ := HB.out w' hw'; go_simp; try with_reducible rfl)
        try simp only [Act.put, List.setIfInBounds_toArray, List.set_cons_zero, List.set_cons_succ]
        refine reg_take (v := ?_) 20 (some 71) rfl rfl (by kernel_rfl) (fun _ _ _ h => h) (by kernel_rfl) (hS4) ?_ ?_
        rotate_left
        · (intro w' hw'; obtain ⟨c0, c1, c2, c3, c4, c5⟩ := HA2.out w' hw'; obtain ⟨b0, b1⟩ := HB.out w' hw'; go_simp; try with_reducible rfl)
        try simp only [Act.put, List.setIfInBounds_toArray, List.set_cons_zero, List.set_cons_succ]
        refine reg_take (v := ?_) 21 (some 72) rfl rfl (by kernel_rfl) (fun _ _ _ h => h) (by kernel_rfl) (hS4) ?_ ?_
        rotate_left
        · (intro w' hw'; obtain ⟨c0, c1, c2, c3, c4, c5⟩ := HA2.out w' hw'; obtain ⟨b0, b1⟩ := HB.out w' hw'; go_simp; try with_reducible rfl)
        try simp only [Act.put, List.setIfInBounds_toArray, List.set_cons_zero, List.set_cons_succ]
        refine reg_one 22 rfl (by kernel_rfl) (by kernel_rfl) ?_
        go_simp
        refine (pfx_lives _).mono ?_
        rintro e u5 ⟨rfl, hs5⟩
        have hS5 := (hS4).trans hs5
        skip
        refine ⟨hS5, ?_⟩
        try simp only [Act.put, List.setIfInBounds_toArray, List.set_cons_zero, List.set_cons_succ]
        refine reg_take (v := ?_) 23 (some 74) rfl rfl (by kernel_rfl) (fun _ _ _ h => h) (by kernel_rfl) (hS5) ?_ ?_
        rotate_left
        · (intro w' hw'; obtain ⟨c0, c1, c2, c3, c4, c5⟩ := HA2.out w' hw'; obtain ⟨b0, b1⟩ := HB.out w' hw'; go_simp; try with_reducible rfl)
        try simp only [Act.put, List.setIfInBounds_toArray, List.set_cons_zero, List.set_cons_succ]
        refine reg_take (v := ?_) 24 (some 6) rfl rfl (by kernel_rfl) (fun _ _ _ h => h) (by kernel_rfl) (hS5) ?_ ?_
        rotate_left
        · (intro w' hw'; obtain ⟨c0, c1, c2, c3, c4, c5⟩ := HA2.out w' hw'; obtain ⟨b0, b1⟩ := HB.out w' hw'; go_simp; try with_reducible rfl)
        try simp only [Act.put, List.setIfInBounds_toArray, List.set_cons_zero, List.set_cons_succ]
        refine reg_done (by kernel_rfl) ?_
        go_wp2_with fail
        go_ret
        exact ⟨rfl, (H0.out.trans HY.out).trans hS5⟩
    · have ht1 := HT.out hpq.symm hqr.symm
      rw [ht1] at HPR
      clear ht1
      cases qp
      · clear hpq hqr hqp HT HE HZ
        obtain ⟨a1, n1, b1, m1, e1, e2, e3, e4⟩ : ∃ a1 n1 b1 m1, a1 = canA a n ∧ n1 = nearN n ∧ b1 = canA b m ∧ m1 = nearN m := ⟨_, _, _, _, rfl, rfl, rfl, rfl⟩
        rw [← e1] at HCP HHP
        rw [← e2] at HCP
        rw [← e3] at HCQ HHQ HHZ
        rw [← e4] at HCQ HM
        clear e1 e2 e3 e4
        go_enter Try.func6, Try.ntmps6
        obtain ⟨c0, c1, c2, c3, c4, c5⟩ := HA.out _ (Same.refl _)
        go_wp2_with fail
        generalize (((w.alloc (pfxO a n)).alloc (pfxO b m)).alloc (pfxO c k)) = V at *
        clear c0 c1 c2 c3 c4 c5
        refine ((HPQ _).out).mono ?_
        rintro e x1 ⟨rfl, hx1⟩
        have HX1 := Lib.hid ((Same.refl V).trans hx1)
        obtain ⟨c0, c1, c2, c3, c4, c5⟩ := HA.out x1 HX1.out
        go_wp2_with fail
        clear c0 c1 c2 c3 c4 c5
        refine ((HQR _).out).mono ?_
        rintro e x2 ⟨rfl, hx2⟩
        have HX2 := Lib.hid (HX1.out.trans hx2)
        obtain ⟨c0, c1, c2, c3, c4, c5⟩ := HA.out x2 HX2.out
        go_wp2_with fail
        clear c0 c1 c2 c3 c4 c5
        refine ((HPR _).out).mono ?_
        rintro e x3 ⟨rfl, hx3⟩
        have HX3 := Lib.hid (HX2.out.trans hx3)
        obtain ⟨c0, c1, c2, c3, c4, c5⟩ := HA.out x3 HX3.out
        go_wp2_with fail
        clear c0 c1 c2 c3 c4 c5
        refine reg_start (fun w' => Same V w') (by kernel_rfl) ?_
        refine reg_take (v := ?_) 0 (some 22) rfl rfl (by kernel_rfl) (fun _ _ _ h => h) (by kernel_rfl) (HX3.out.drew) ?_ ?_
        rotate_left
        · (intro w' hw'; obtain ⟨c0, c1, c2, c3, c4, c5⟩ := HA.out w' hw'; go_simp; try with_reducible rfl)
        try simp only [Act.put, List.setIfInBounds_toArray, List.set_cons_zero, List.set_cons_succ]
        refine reg_take (v := ?_) 1 (some 23) rfl rfl (by kernel_rfl) (fun _ _ _ h => h) (by kernel_rfl) (HX3.out.drew) ?_ ?_
        rotate_left
        · (intro w' hw'; obtain ⟨c0, c1, c2, c3, c4, c5⟩ := HA.out w' hw'; go_simp; try with_reducible rfl)
        try simp only [Act.put, List.setIfInBounds_toArray, List.set_cons_zero, List.set_cons_succ]
        refine reg_one 2 rfl (by kernel_rfl) (by kernel_rfl) ?_
        go_simp
        refine ((HPQ _).out).mono ?_
        rintro e u1 ⟨rfl, hs1⟩
        have hS1 := (HX3.out.drew).trans hs1
        skip
        refine ⟨hS1, ?_⟩
        try simp only [Act.put, List.setIfInBounds_toArray, List.set_cons_zero, List.set_cons_succ]
        refine reg_take (v := ?_) 3 (some 25) rfl rfl (by kernel_rfl) (fun _ _ _ h => h) (by kernel_rfl) (hS1) ?_ ?_
        rotate_left
        · (intro w' hw'; obtain ⟨c0, c1, c2, c3, c4, c5⟩ := HA.out w' hw'; go_simp; try with_reducible rfl)
        try simp only [Act.put, List.setIfInBounds_toArray, List.set_cons_zero, List.set_cons_succ]
        refine reg_take (v := ?_) 4 (some 26) rfl rfl (by kernel_rfl) (fun _ _ _ h => h) (by kernel_rfl) (hS1) ?_ ?_
        rotate_left
        · (intro w' hw'; obtain ⟨c0, c1, c2, c3, c4, c5⟩ := HA.out w' hw'; go_simp; try with_reducible rfl)
        try simp only [Act.put, List.setIfInBounds_toArray, List.set_cons_zero, List.set_cons_succ]
        refine reg_take (v := ?_) 5 (some 27) rfl rfl (by kernel_rfl) (fun _ _ _ h => h) (by kernel_rfl) (hS1) ?_ ?_
        rotate_left
        · (intro w' hw'; obtain ⟨c0, c1, c2, c3, c4, c5⟩ := HA.out w' hw'; go_simp; try with_reducible rfl)
        try simp only [Act.put, List.setIfInBounds_toArray, List.set_cons_zero, List.set_cons_succ]
        refine reg_one 6 rfl (by kernel_rfl) (by kernel_rfl) ?_
        go_simp
        refine ((HQP _).out).mono ?_
        rintro e u2 ⟨rfl, hs2⟩
        have hS2 := (hS1).trans hs2
        skip
        refine ⟨hS2, ?_⟩
        try simp only [Act.put, List.setIfInBounds_toArray, List.set_cons_zero, List.set_cons_succ]
        refine reg_take (v := ?_) 7 (some 29) rfl rfl (by kernel_rfl) (fun _ _ _ h => h) (by kernel_rfl) (hS2) ?_ ?_
        rotate_left
        · (intro w' hw'; obtain ⟨c0, c1, c2, c3, c4, c5⟩ := HA.out w' hw'; go_simp; try with_reducible rfl)
        try simp only [Act.put, List.setIfInBounds_toArray, List.set_cons_zero, List.set_cons_succ]
        refine reg_take (v := ?_) 8 (some 30) rfl rfl (by kernel_rfl) (fun _ _ _ h => h) (by kernel_rfl) (hS2) ?_ ?_
        rotate_left
        · (intro w' hw'; obtain ⟨c0, c1, c2, c3, c4, c5⟩ := HA.out w' hw'; go_simp; try with_reducible rfl)
        try simp only [Act.put, List.setIfInBounds_toArray, List.set_cons_zero, List.set_cons_succ]
        refine reg_skip 9 (some 31) rfl rfl (by kernel_rfl) (fun _ _ _ h => h) (by kernel_rfl) (hS2) ?_
        try simp only [Act.put, List.setIfInBounds_toArray, List.set_cons_zero, List.set_cons_succ]
        refine reg_skip 10 (some 32) rfl rfl (by kernel_rfl) (fun _ _ _ h => h) (by kernel_rfl) (hS2) ?_
        try simp only [Act.put, List.setIfInBounds_toArray, List.set_cons_zero, List.set_cons_succ]
        refine reg_skip 11 (some 33) rfl rfl (by kernel_rfl) (fun _ _ _ h => h) (by kernel_rfl) (hS2) ?_
        try simp only [Act.put, List.setIfInBounds_toArray, List.set_cons_zero, List.set_cons_succ]
        refine reg_skip 12 (some 34) rfl rfl (by kernel_rfl) (fun _ _ _ h => h) (by kernel_rfl) (hS2) ?_
        try simp only [Act.put, List.setIfInBounds_toArray, List.set_cons_zero, List.set_cons_succ]
        refine reg_skip 13 (some 35) rfl rfl (by kernel_rfl) (fun _ _ _ h => h) (by kernel_rfl) (hS2) ?_
        try simp only [Act.put, List.setIfInBounds_toArray, List.set_cons_zero, List.set_cons_succ]
        refine reg_take (v := ?_) 14 (some 36) rfl rfl (by kernel_rfl) (fun _ _ _ h => h) (by kernel_rfl) (hS2) ?_ ?_
        rotate_left
        · (intro w' hw'; obtain ⟨c0, c1, c2, c3, c4, c5⟩ := HA.out w' hw'; go_simp; try with_reducible rfl)
        try simp only [Act.put, List.setIfInBounds_toArray, List.set_cons_zero, List.set_cons_succ]
        refine reg_done (by kernel_rfl) ?_
        have HX4 := Lib.hid hS2
        go_wp2_with fail
        refine reg_start (fun w' => Same V w') (by kernel_rfl) ?_
        refine reg_take (v := ?_) 0 (some 37) rfl rfl (by kernel_rfl) (fun _ _ _ h => h) (by kernel_rfl) (HX4.out.drew) ?_ ?_
        rotate_left
        · (intro w' hw'; obtain ⟨c0, c1, c2, c3, c4, c5⟩ := HA.out w' hw'; go_simp; try with_reducible rfl)
        try simp only [Act.put, List.setIfInBounds_toArray, List.set_cons_zero, List.set_cons_succ]
        refine reg_take (v := ?_) 1 (some 38) rfl rfl (by kernel_rfl) (fun _ _ _ h => h) (by kernel_rfl) (HX4.out.drew) ?_ ?_
        rotate_left
        · (intro w' hw'; obtain ⟨c0, c1, c2, c3, c4, c5⟩ := HA.out w' hw'; go_simp; try with_reducible rfl)
        try simp only [Act.put, List.setIfInBounds_toArray, List.set_cons_zero, List.set_cons_succ]
        refine reg_one 2 rfl (by kernel_rfl) (by kernel_rfl) ?_
        go_simp
        refine ((HPP _).out).mono ?_
        rintro e u1 ⟨rfl, hs1⟩
        have hS1 := (HX4.out.drew).trans hs1
        skip
        refine ⟨hS1, ?_⟩
        try simp only [Act.put, List.setIfInBounds_toArray, List.set_cons_zero, List.set_cons_succ]
        refine reg_take (v := ?_) 3 (some 40) rfl rfl (by kernel_rfl) (fun _ _ _ h => h) (by kernel_rfl) (hS1) ?_ ?_
        rotate_left
        · (intro w' hw'; obtain ⟨c0, c1, c2, c3, c4, c5⟩ := HA.out w' hw'; go_simp; try with_reducible rfl)
        try simp only [Act.put, List.setIfInBounds_toArray, List.set_cons_zero, List.set_cons_succ]
        refine reg_take (v := ?_) 4 (some 41) rfl rfl (by kernel_rfl) (fun _ _ _ h => h) (by kernel_rfl) (hS1) ?_ ?_
        rotate_left
        · (intro w' hw'; obtain ⟨c0, c1, c2, c3, c4, c5⟩ := HA.out w' hw'; go_simp; try with_reducible rfl)
        try simp only [Act.put, List.setIfInBounds_toArray, List.set_cons_zero, List.set_cons_succ]
        refine reg_take (v := ?_) 5 (some 42) rfl rfl (by kernel_rfl) (fun _ _ _ h => h) (by kernel_rfl) (hS1) ?_ ?_
        rotate_left
        · (intro w' hw'; obtain ⟨c0, c1, c2, c3, c4, c5⟩ := HA.out w' hw'; go_simp; try with_reducible rfl)
        try simp only [Act.put, List.setIfInBounds_toArray, List.set_cons_zero, List.set_cons_succ]
        refine reg_take (v := ?_) 6 (some 43) rfl rfl (by kernel_rfl) (fun _ _ _ h => h) (by kernel_rfl) (hS1) ?_ ?_
        rotate_left
        · (intro w' hw'; obtain ⟨c0, c1, c2, c3, c4, c5⟩ := HA.out w' hw'; go_simp; try with_reducible rfl)
        try simp only [Act.put, List.setIfInBounds_toArray, List.set_cons_zero, List.set_cons_succ]
        refine reg_one 7 rfl (by kernel_rfl) (by kernel_rfl) ?_
        go_simp
        refine ((HCP _).out).mono ?_
        rintro e u2 ⟨rfl, hs2⟩
        have hS2 := (hS1).trans hs2
        skip
        refine ⟨hS2, ?_⟩
        try simp only [Act.put, List.setIfInBounds_toArray, List.set_cons_zero, List.set_cons_succ]
        refine reg_take (v := ?_) 8 (some 45) rfl rfl (by kernel_rfl) (fun _ _ _ h => h) (by kernel_rfl) (hS2) ?_ ?_
        rotate_left
        · (intro w' hw'; obtain ⟨c0, c1, c2, c3, c4, c5⟩ := HA.out w' hw'; go_simp; try with_reducible rfl)
        try simp only [Act.put, List.setIfInBounds_toArray, List.set_cons_zero, List.set_cons_succ]
        refine reg_one 9 rfl (by kernel_rfl) (by kernel_rfl) ?_
        go_simp
        refine ((HHP _).out).mono ?_
        rintro e u3 ⟨rfl, hs3⟩
        have hS3 := (hS2).trans hs3
        skip
        refine ⟨hS3, ?_⟩
        try simp only [Act.put, List.setIfInBounds_toArray, List.set_cons_zero, List.set_cons_succ]
        refine reg_take (v := ?_) 10 (some 47) rfl rfl (by kernel_rfl) (fun _ _ _ h => h) (by kernel_rfl) (hS3) ?_ ?_
        rotate_left
        · (intro w' hw'; obtain ⟨c0, c1, c2, c3, c4, c5⟩ := HA.out w' hw'; go_simp; try with_reducible rfl)
        try simp only [Act.put, List.setIfInBounds_toArray, List.set_cons_zero, List.set_cons_succ]
        refine reg_take (v := ?_) 11 (some 48) rfl rfl (by kernel_rfl) (fun _ _ _ h => h) (by kernel_rfl) (hS3) ?_ ?_
        rotate_left
        · (intro w' hw'; obtain ⟨c0, c1, c2, c3, c4, c5⟩ := HA.out w' hw'; go_simp; try with_reducible rfl)
        try simp only [Act.put, List.setIfInBounds_toArray, List.set_cons_zero, List.set_cons_succ]
        refine reg_done (by kernel_rfl) ?_
        have HX5 := Lib.hid hS3
        obtain ⟨c0, c1, c2, c3, c4, c5⟩ := HA.out _ HX5.out
        go_wp2_with fail
        refine ((HCQ _).out).mono ?_
        rintro e x6 ⟨rfl, hx6⟩
        have HX6 := Lib.hid (HX5.out.trans hx6)
        obtain ⟨c0, c1, c2, c3, c4, c5⟩ := HA.out x6 HX6.out
        go_wp2_with fail
        clear c0 c1 c2 c3 c4 c5
        have HB := Lib.hid (box1 b1 m1 x6)
        have HY := Lib.hid (HX6.out.trans (Same.alloc x6 (pfxO b1 m1)))
        have HA2 : Hid (∀ w', Same (x6.alloc (pfxO b1 m1)) w' → _) := fun w' h => HA.out w' (HY.out.trans h)
        generalize x6.alloc (pfxO b1 m1) = U at *
        refine reg_start (fun w' => Same U w') (by kernel_rfl) ?_
        refine reg_take (v := ?_) 0 (some 51) rfl rfl (by kernel_rfl) (fun _ _ _ h => h) (by kernel_rfl) ((Same.refl U).drew) ?_ ?_
        rotate_left
        · (intro w' hw'; obtain ⟨c0, c1, c2, c3, c4, c5⟩ := HA2.out w' hw'; obtain ⟨b0, b1⟩ := HB.out w' hw'; go_simp; try with_reducible rfl)
        try simp only [Act.put, List.setIfInBounds_toArray, List.set_cons_zero, List.set_cons_succ]
        refine reg_take (v := ?_) 1 (some 52) rfl rfl (by kernel_rfl) (fun _ _ _ h => h) (by kernel_rfl) ((Same.refl U).drew) ?_ ?_
        rotate_left
        · (intro w' hw'; obtain ⟨c0, c1, c2, c3, c4, c5⟩ := HA2.out w' hw'; obtain ⟨b0, b1⟩ := HB.out w' hw'; go_simp; try with_reducible rfl)
        try simp only [Act.put, List.setIfInBounds_toArray, List.set_cons_zero, List.set_cons_succ]
        refine reg_one 2 rfl (by kernel_rfl) (by kernel_rfl) ?_
        go_simp
        refine ((HPQ _).out).mono ?_
        rintro e u1 ⟨rfl, hs1⟩
        have hS1 := ((Same.refl U).drew).trans hs1
        skip
        refine ⟨hS1, ?_⟩
        try simp only [Act.put, List.setIfInBounds_toArray, List.set_cons_zero, List.set_cons_succ]
        refine reg_take (v := ?_) 3 (some 54) rfl rfl (by kernel_rfl) (fun _ _ _ h => h) (by kernel_rfl) (hS1) ?_ ?_
        rotate_left
        · (intro w' hw'; obtain ⟨c0, c1, c2, c3, c4, c5⟩ := HA2.out w' hw'; obtain ⟨b0, b1⟩ := HB.out w' hw'; go_simp; try with_reducible rfl)
        try simp only [Act.put, List.setIfInBounds_toArray, List.set_cons_zero, List.set_cons_succ]
        refine reg_take (v := ?_) 4 (some 55) rfl rfl (by kernel_rfl) (fun _ _ _ h => h) (by kernel_rfl) (hS1) ?_ ?_
        rotate_left
        · (intro w' hw'; obtain ⟨c0, c1, c2, c3, c4, c5⟩ := HA2.out w' hw'; obtain ⟨b0, b1⟩ := HB.out w' hw'; go_simp; try with_reducible rfl)
        try simp only [Act.put, List.setIfInBounds_toArray, List.set_cons_zero, List.set_cons_succ]
        refine reg_take (v := ?_) 5 (some 56) rfl rfl (by kernel_rfl) (fun _ _ _ h => h) (by kernel_rfl) (hS1) ?_ ?_
        rotate_left
        · (intro w' hw'; obtain ⟨c0, c1, c2, c3, c4, c5⟩ := HA2.out w' hw'; obtain ⟨b0, b1⟩ := HB.out w' hw'; go_simp; try with_reducible rfl)
        try simp only [Act.put, List.setIfInBounds_toArray, List.set_cons_zero, List.set_cons_succ]
        refine reg_take (v := ?_) 6 (some 57) rfl rfl (by kernel_rfl) (fun _ _ _ h => h) (by kernel_rfl) (hS1) ?_ ?_
        rotate_left
        · (intro w' hw'; obtain ⟨c0, c1, c2, c3, c4, c5⟩ := HA2.out w' hw'; obtain ⟨b0, b1⟩ := HB.out w' hw'; go_simp; try with_reducible rfl)
        try simp only [Act.put, List.setIfInBounds_toArray, List.set_cons_zero, List.set_cons_succ]
        refine reg_take (v := ?_) 7 (some 58) rfl rfl (by kernel_rfl) (fun _ _ _ h => h) (by kernel_rfl) (hS1) ?_ ?_
        rotate_left
        · (intro w' hw'; obtain ⟨c0, c1, c2, c3, c4, c5⟩ := HA2.out w' hw'; obtain ⟨b0, b1⟩ := HB.out w' hw'; go_simp; try with_reducible rfl)
        try simp only [Act.put, List.setIfInBounds_toArray, List.set_cons_zero, List.set_cons_succ]
        refine reg_one 8 rfl (by kernel_rfl) (by kernel_rfl) ?_
        go_simp
        refine ((HHQ _).out).mono ?_
        rintro e u2 ⟨rfl, hs2⟩
        have hS2 := (hS1).trans hs2
        skip
        refine ⟨hS2, ?_⟩
        try simp only [Act.put, List.setIfInBounds_toArray, List.set_cons_zero, List.set_cons_succ]
        refine reg_take (v := ?_) 9 (some 60) rfl rfl (by kernel_rfl) (fun _ _ _ h => h) (by kernel_rfl) (hS2) ?_ ?_
        rotate_left
        · (intro w' hw'; obtain ⟨c0, c1, c2, c3, c4, c5⟩ := HA2.out w' hw'; obtain ⟨b0, b1⟩ := HB.out w' hw'; go_simp; try with_reducible rfl)
        try simp only [Act.put, List.setIfInBounds_toArray, List.set_cons_zero, List.set_cons_succ]
        refine reg_take (v := ?_) 10 (some 61) rfl rfl (by kernel_rfl) (fun _ _ _ h => h) (by kernel_rfl) (hS2) ?_ ?_
        rotate_left
        · (intro w' hw'; obtain ⟨c0, c1, c2, c3, c4, c5⟩ := HA2.out w' hw'; obtain ⟨b0, b1⟩ := HB.out w' hw'; go_simp; try with_reducible rfl)
        try simp only [Act.put, List.setIfInBounds_toArray, List.set_cons_zero, List.set_cons_succ]
        refine reg_take (v := ?_) 11 (some 62) rfl rfl (by kernel_rfl) (fun _ _ _ h => h) (by kernel_rfl) (hS2) ?_ ?_
        rotate_left
        · (intro w' hw'; obtain ⟨c0, c1, c2, c3, c4, c5⟩ := HA2.out w' hw'; obtain ⟨b0, b1⟩ := HB.out w' hw'; go_simp; try with_reducible rfl)
        try simp only [Act.put, List.setIfInBounds_toArray, List.set_cons_zero, List.set_cons_succ]
        refine reg_take (v := ?_) 12 (some 63) rfl rfl (by kernel_rfl) (fun _ _ _ h => h) (by kernel_rfl) (hS2) ?_ ?_
        rotate_left
        · (intro w' hw'; obtain ⟨c0, c1, c2, c3, c4, c5⟩ := HA2.out w' hw'; obtain ⟨b0, b1⟩ := HB.out w' hw'; go_simp; try with_reducible rfl)
        try simp only [Act.put, List.setIfInBounds_toArray, List.set_cons_zero, List.set_cons_succ]
        refine reg_take (v := ?_) 13 (some 64) rfl rfl (by kernel_rfl) (fun _ _ _ h => h) (by kernel_rfl) (hS2) ?_ ?_
        rotate_left
        · (intro w' hw'; obtain ⟨c0, c1, c2, c3, c4, c5⟩ := HA2.out w' hw'; obtain ⟨b0, b1⟩ := HB.out w' hw'; go_simp; try with_reducible rfl)
        try simp only [Act.put, List.setIfInBounds_toArray, List.set_cons_zero, List.set_cons_succ]
        refine reg_take (v := ?_) 14 (some 65) rfl rfl (by kernel_rfl) (fun _ _ _ h => h) (by kernel_rfl) (hS2) ?_ ?_
        rotate_left
        · (intro w' hw'; obtain ⟨c0, c1, c2, c3, c4, c5⟩ := HA2.out w' hw'; obtain ⟨b0, b1⟩ := HB.out w' hw'; go_simp; try with_reducible rfl)
        try simp only [Act.put, List.setIfInBounds_toArray, List.set_cons_zero, List.set_cons_succ]
        refine reg_one 15 rfl (by kernel_rfl) (by kernel_rfl) ?_
        go_simp
        refine ((HM _).out).mono ?_
        rintro e u3 ⟨rfl, hs3⟩
        have hS3 := (hS2).trans hs3
        skip
        refine ⟨hS3, ?_⟩
        try simp only [Act.put, List.setIfInBounds_toArray, List.set_cons_zero, List.set_cons_succ]
        refine reg_take (v := ?_) 16 (some 67) rfl rfl (by kernel_rfl) (fun _ _ _ h => h) (by kernel_rfl) (hS3) ?_ ?_
        rotate_left
        · (intro w' hw'; obtain ⟨c0, c1, c2, c3, c4, c5⟩ := HA2.out w' hw'; obtain ⟨b0, b1⟩ := HB.out w' hw'; go_simp; try with_reducible rfl)
        try simp only [Act.put, List.setIfInBounds_toArray, List.set_cons_zero, List.set_cons_succ]
        refine reg_take (v := ?_) 17 (some 68) rfl rfl (by kernel_rfl) (fun _ _ _ h => h) (by kernel_rfl) (hS3) ?_ ?_
        rotate_left
        · (intro w' hw'; obtain ⟨c0, c1, c2, c3, c4, c5⟩ := HA2.out w' hw'; obtain ⟨b0, b1⟩ := HB.out w' hw'; go_simp; try with_reducible rfl)
        try simp only [Act.put, List.setIfInBounds_toArray, List.set_cons_zero, List.set_cons_succ]
        refine reg_one 18 rfl (by kernel_rfl) (by kernel_rfl) ?_
        go_simp
        refine ((HHZ _).out).mono ?_
        rintro e u4 ⟨rfl, hs4⟩
        have hS4 := (hS3).trans hs4
        skip
        refine ⟨hS4, ?_⟩
        try simp only [Act.put, List.setIfInBounds_toArray, List.set_cons_zero, List.set_cons_succ]
        refine reg_take (v := ?_) 19 (some 70) rfl rfl (by kernel_rfl) (fun _ _ _ h => h) (by kernel_rfl) (hS4) ?_ ?_
        rotate_left
        · (intro w' hw'; obtain ⟨c0, c1, c2, c3, c4, c5⟩ := HA2.out w' hw'; obtain ⟨b0, b1⟩ := HB.out w' hw'; go_simp; try with_reducible rfl)
        try simp only [Act.put, List.setIfInBounds_toArray, List.set_cons_zero, List.set_cons_succ]
        refine reg_take (v := ?_) 20 (some 71) rfl rfl (by kernel_rfl) (fun _ _ _ h => h) (by kernel_rfl) (hS4) ?_ ?_
        rotate_left
        · (intro w' hw'; obtain ⟨c0, c1, c2, c3, c4, c5⟩ := HA2.out w' hw'; obtain ⟨b0, b1⟩ := HB.out w' hw'; go_simp; try with_reducible rfl)
        try simp only [Act.put, List.setIfInBounds_toArray, List.set_cons_zero, List.set_cons_succ]
        refine reg_take (v := ?_) 21 (some 72) rfl rfl (by kernel_rfl) (fun _ _ _ h => h) (by kernel_rfl) (hS4) ?_ ?_
        rotate_left
        · (intro w' hw'; obtain ⟨c0, c1, c2, c3, c4, c5⟩ := HA2.out w' hw'; obtain ⟨b0, b1⟩ := HB.out w' hw'; go_simp; try with_reducible rfl)
        try simp only [Act.put, List.setIfInBounds_toArray, List.set_cons_zero, List.set_cons_succ]
        refine reg_one 22 rfl (by kernel_rfl) (by kernel_rfl) ?_
        go_simp
        refine (pfx_lives _).mono ?_
        rintro e u5 ⟨rfl, hs5⟩
        have hS5 := (hS4).trans hs5
        skip
        refine ⟨hS5, ?_⟩
        try simp only [Act.put, List.setIfInBounds_toArray, List.set_cons_zero, List.set_cons_succ]
        refine reg_take (v := ?_) 23 (some 74) rfl rfl (by kernel_rfl) (fun _ _ _ h => h) (by kernel_rfl) (hS5) ?_ ?_
        rotate_left
        · (intro w' hw'; obtain ⟨c0, c1, c2, c3, c4, c5⟩ := HA2.out w' hw'; obtain ⟨b0, b1⟩ := HB.out w' hw'; go_simp; try with_reducible rfl)
        try simp only [Act.put, List.setIfInBounds_toArray, List.set_cons_zero, List.set_cons_succ]
        refine reg_take (v := ?_) 24 (some 6) rfl rfl (by kernel_rfl) (fun _ _ _ h => h) (by kernel_rfl) (hS5) ?_ ?_
        rotate_left
        · (intro w' hw'; obtain ⟨c0, c1, c2, c3, c4, c5⟩ := HA2.out w' hw'; obtain ⟨b0, b1⟩ := HB.out w' hw'; go_simp; try with_reducible rfl)
        try simp only [Act.put, List.setIfInBounds_toArray, List.set_cons_zero, List.set_cons_succ]
        refine reg_done (by kernel_rfl) ?_
        go_wp2_with fail
        go_ret
        exact ⟨rfl, (H0.out.trans HY.out).trans hS5⟩
      · have he1 := HE.out hpq.symm hqp.symm
        rw [← he1.1, ← he1.2] at HCQ
        rw [← he1.1] at HHQ HHZ
        rw [← he1.2] at HM
        clear hpq hqr hqp HT HE HZ he1
        obtain ⟨b1, m1, e3, e4⟩ : ∃ b1 m1, b1 = canA a n ∧ m1 = nearN n := ⟨_, _, rfl, rfl⟩
        rw [← e3] at HCP HHP HCQ HHQ HHZ
        rw [← e4] at HCP HCQ HM
        clear e3 e4
        go_enter Try.func6, Try.ntmps6
        obtain ⟨c0, c1, c2, c3, c4, c5⟩ := HA.out _ (Same.refl _)
        go_wp2_with fail
        generalize (((w.alloc (pfxO a n)).alloc (pfxO b m)).alloc (pfxO c k)) = V at *
        clear c0 c1 c2 c3 c4 c5
        refine ((HPQ _).out).mono ?_
        rintro e x1 ⟨rfl, hx1⟩
        have HX1 := Lib.hid ((Same.refl V).trans hx1)
        obtain ⟨c0, c1, c2, c3, c4, c5⟩ := HA.out x1 HX1.out
        go_wp2_with fail
        clear c0 c1 c2 c3 c4 c5
        refine ((HQR _).out).mono ?_
        rintro e x2 ⟨rfl, hx2⟩
        have HX2 := Lib.hid (HX1.out.trans hx2)
        obtain ⟨c0, c1, c2, c3, c4, c5⟩ := HA.out x2 HX2.out
        go_wp2_with fail
        clear c0 c1 c2 c3 c4 c5
        refine ((HPR _).out).mono ?_
        rintro e x3 ⟨rfl, hx3⟩
        have HX3 := Lib.hid (HX2.out.trans hx3)
        obtain ⟨c0, c1, c2, c3, c4, c5⟩ := HA.out x3 HX3.out
        go_wp2_with fail
        clear c0 c1 c2 c3 c4 c5
        refine reg_start (fun w' => Same V w') (by kernel_rfl) ?_
        refine reg_take (v := ?_) 0 (some 22) rfl rfl (by kernel_rfl) (fun _ _ _ h => h) (by kernel_rfl) (HX3.out.drew) ?_ ?_
        rotate_left
        · (intro w' hw'; obtain ⟨c0, c1, c2, c3, c4, c5⟩ := HA.out w' hw'; go_simp; try with_reducible rfl)
        try simp only [Act.put, List.setIfInBounds_toArray, List.set_cons_zero, List.set_cons_succ]
        refine reg_take (v := ?_) 1 (some 23) rfl rfl (by kernel_rfl) (fun _ _ _ h => h) (by kernel_rfl) (HX3.out.drew) ?_ ?_
        rotate_left
        · (intro w' hw'; obtain ⟨c0, c1, c2, c3, c4, c5⟩ := HA.out w' hw'; go_simp; try with_reducible rfl)
        try simp only [Act.put, List.setIfInBounds_toArray, List.set_cons_zero, List.set_cons_succ]
        refine reg_one 2 rfl (by kernel_rfl) (by kernel_rfl) ?_
        go_simp
        refine ((HPQ _).out).mono ?_
        rintro e u1 ⟨rfl, hs1⟩
        have hS1 := (HX3.out.drew).trans hs1
        skip
        refine ⟨hS1, ?_⟩
        try simp only [Act.put, List.setIfInBounds_toArray, List.set_cons_zero, List.set_cons_succ]
        refine reg_take (v := ?_) 3 (some 25) rfl rfl (by kernel_rfl) (fun _ _ _ h => h) (by kernel_rfl) (hS1) ?_ ?_
        rotate_left
        · (intro w' hw'; obtain ⟨c0, c1, c2, c3, c4, c5⟩ := HA.out w' hw'; go_simp; try with_reducible rfl)
        try simp only [Act.put, List.setIfInBounds_toArray, List.set_cons_zero, List.set_cons_succ]
        refine reg_take (v := ?_) 4 (some 26) rfl rfl (by kernel_rfl) (fun _ _ _ h => h) (by kernel_rfl) (hS1) ?_ ?_
        rotate_left
        · (intro w' hw'; obtain ⟨c0, c1, c2, c3, c4, c5⟩ := HA.out w' hw'; go_simp; try with_reducible rfl)
        try simp only [Act.put, List.setIfInBounds_toArray, List.set_cons_zero, List.set_cons_succ]
        refine reg_take (v := ?_) 5 (some 27) rfl rfl (by kernel_rfl) (fun _ _ _ h => h) (by kernel_rfl) (hS1) ?_ ?_
        rotate_left
        · (intro w' hw'; obtain ⟨c0, c1, c2, c3, c4, c5⟩ := HA.out w' hw'; go_simp; try with_reducible rfl)
        try simp only [Act.put, List.setIfInBounds_toArray, List.set_cons_zero, List.set_cons_succ]
        refine reg_one 6 rfl (by kernel_rfl) (by kernel_rfl) ?_
        go_simp
        refine ((HQP _).out).mono ?_
        rintro e u2 ⟨rfl, hs2⟩
        have hS2 := (hS1).trans hs2
        skip
        refine ⟨hS2, ?_⟩
        try simp only [Act.put, List.setIfInBounds_toArray, List.set_cons_zero, List.set_cons_succ]
        refine reg_take (v := ?_) 7 (some 29) rfl rfl (by kernel_rfl) (fun _ _ _ h => h) (by kernel_rfl) (hS2) ?_ ?_
        rotate_left
        · (intro w' hw'; obtain ⟨c0, c1, c2, c3, c4, c5⟩ := HA.out w' hw'; go_simp; try with_reducible rfl)
        try simp only [Act.put, List.setIfInBounds_toArray, List.set_cons_zero, List.set_cons_succ]
        refine reg_take (v := ?_) 8 (some 30) rfl rfl (by kernel_rfl) (fun _ _ _ h => h) (by kernel_rfl) (hS2) ?_ ?_
        rotate_left
        · (intro w' hw'; obtain ⟨c0, c1, c2, c3, c4, c5⟩ := HA.out w' hw'; go_simp; try with_reducible rfl)
        try simp only [Act.put, List.setIfInBounds_toArray, List.set_cons_zero, List.set_cons_succ]
        refine reg_take (v := ?_) 9 (some 31) rfl rfl (by kernel_rfl) (fun _ _ _ h => h) (by kernel_rfl) (hS2) ?_ ?_
        rotate_left
        · (intro w' hw'; obtain ⟨c0, c1, c2, c3, c4, c5⟩ := HA.out w' hw'; go_simp; try with_reducible rfl)
        try simp only [Act.put, List.setIfInBounds_toArray, List.set_cons_zero, List.set_cons_succ]
        refine reg_take (v := ?_) 11 (some 33) rfl rfl (by kernel_rfl) (fun _ _ _ h => h) (by kernel_rfl) (hS2) ?_ ?_
        rotate_left
        · (intro w' hw'; obtain ⟨c0, c1, c2, c3, c4, c5⟩ := HA.out w' hw'; go_simp; try with_reducible rfl)
        try simp only [Act.put, List.setIfInBounds_toArray, List.set_cons_zero, List.set_cons_succ]
        refine reg_one 10 rfl (by kernel_rfl) (by kernel_rfl) ?_
        go_simp
        refine ((HCP _).out).mono ?_
        rintro e u3 ⟨rfl, hs3⟩
        have hS3 := (hS2).trans hs3
        skip
        refine ⟨hS3, ?_⟩
        try simp only [Act.put, List.setIfInBounds_toArray, List.set_cons_zero, List.set_cons_succ]
        refine reg_one 12 rfl (by kernel_rfl) (by kernel_rfl) ?_
        go_simp
        refine ((HCQ _).out).mono ?_
        rintro e u4 ⟨rfl, hs4⟩
        have hS4 := (hS3).trans hs4
        skip
        refine ⟨hS4, ?_⟩
        try simp only [Act.put, List.setIfInBounds_toArray, List.set_cons_zero, List.set_cons_succ]
        refine reg_take (v := ?_) 13 (some 35) rfl rfl (by kernel_rfl) (fun _ _ _ h => h) (by kernel_rfl) (hS4) ?_ ?_
        rotate_left
        · (intro w' hw'; obtain ⟨c0, c1, c2, c3, c4, c5⟩ := HA.out w' hw'; go_simp; try with_reducible rfl)
        try simp only [Act.put, List.setIfInBounds_toArray, List.set_cons_zero, List.set_cons_succ]
        refine reg_take (v := ?_) 14 (some 36) rfl rfl (by kernel_rfl) (fun _ _ _ h => h) (by kernel_rfl) (hS4) ?_ ?_
        rotate_left
        · (intro w' hw'; obtain ⟨c0, c1, c2, c3, c4, c5⟩ := HA.out w' hw'; go_simp; try with_reducible rfl)
        try simp only [Act.put, List.setIfInBounds_toArray, List.set_cons_zero, List.set_cons_succ]
        refine reg_done (by kernel_rfl) ?_
        have HX4 := Lib.hid hS4
        go_wp2_with fail
        refine reg_start (fun w' => Same V w') (by kernel_rfl) ?_
        refine reg_take (v := ?_) 0 (some 37) rfl rfl (by kernel_rfl) (fun _ _ _ h => h) (by kernel_rfl) (HX4.out.drew) ?_ ?_
        rotate_left
        · (intro w' hw'; obtain ⟨c0, c1, c2, c3, c4, c5⟩ := HA.out w' hw'; go_simp; try with_reducible rfl)
        try simp only [Act.put, List.setIfInBounds_toArray, List.set_cons_zero, List.set_cons_succ]
        refine reg_take (v := ?_) 1 (some 38) rfl rfl (by kernel_rfl) (fun _ _ _ h => h) (by kernel_rfl) (HX4.out.drew) ?_ ?_
        rotate_left
        · (intro w' hw'; obtain ⟨c0, c1, c2, c3, c4, c5⟩ := HA.out w' hw'; go_simp; try with_reducible rfl)
        try simp only [Act.put, List.setIfInBounds_toArray, List.set_cons_zero, List.set_cons_succ]
        refine reg_one 2 rfl (by kernel_rfl) (by kernel_rfl) ?_
        go_simp
        refine ((HPP _).out).mono ?_
        rintro e u1 ⟨rfl, hs1⟩
        have hS1 := (HX4.out.drew).trans hs1
        skip
        refine ⟨hS1, ?_⟩
        try simp only [Act.put, List.setIfInBounds_toArray, List.set_cons_zero, List.set_cons_succ]
        refine reg_take (v := ?_) 3 (some 40) rfl rfl (by kernel_rfl) (fun _ _ _ h => h) (by kernel_rfl) (hS1) ?_ ?_
        rotate_left
        · (intro w' hw'; obtain ⟨c0, c1, c2, c3, c4, c5⟩ := HA.out w' hw'; go_simp; try with_reducible rfl)
        try simp only [Act.put, List.setIfInBounds_toArray, List.set_cons_zero, List.set_cons_succ]
        refine reg_take (v := ?_) 4 (some 41) rfl rfl (by kernel_rfl) (fun _ _ _ h => h) (by kernel_rfl) (hS1) ?_ ?_
        rotate_left
        · (intro w' hw'; obtain ⟨c0, c1, c2, c3, c4, c5⟩ := HA.out w' hw'; go_simp; try with_reducible rfl)
        try simp only [Act.put, List.setIfInBounds_toArray, List.set_cons_zero, List.set_cons_succ]
        refine reg_take (v := ?_) 5 (some 42) rfl rfl (by kernel_rfl) (fun _ _ _ h => h) (by kernel_rfl) (hS1) ?_ ?_
        rotate_left
        · (intro w' hw'; obtain ⟨c0, c1, c2, c3, c4, c5⟩ := HA.out w' hw'; go_simp; try with_reducible rfl)
        try simp only [Act.put, List.setIfInBounds_toArray, List.set_cons_zero, List.set_cons_succ]
        refine reg_take (v := ?_) 6 (some 43) rfl rfl (by kernel_rfl) (fun _ _ _ h => h) (by kernel_rfl) (hS1) ?_ ?_
        rotate_left
        · (intro w' hw'; obtain ⟨c0, c1, c2, c3, c4, c5⟩ := HA.out w' hw'; go_simp; try with_reducible rfl)
        try simp only [Act.put, List.setIfInBounds_toArray, List.set_cons_zero, List.set_cons_succ]
        refine reg_one 7 rfl (by kernel_rfl) (by kernel_rfl) ?_
        go_simp
        refine ((HCP _).out).mono ?_
        rintro e u2 ⟨rfl, hs2⟩
        have hS2 := (hS1).trans hs2
        skip
        refine ⟨hS2, ?_⟩
        try simp only [Act.put, List.setIfInBounds_toArray, List.set_cons_zero, List.set_cons_succ]
        refine reg_take (v := ?_) 8 (some 45) rfl rfl (by kernel_rfl) (fun _ _ _ h => h) (by kernel_rfl) (hS2) ?_ ?_
        rotate_left
        · (intro w' hw'; obtain ⟨c0, c1, c2, c3, c4, c5⟩ := HA.out w' hw'; go_simp; try with_reducible rfl)
        try simp only [Act.put, List.setIfInBounds_toArray, List.set_cons_zero, List.set_cons_succ]
        refine reg_one 9 rfl (by kernel_rfl) (by kernel_rfl) ?_
        go_simp
        refine ((HHP _).out).mono ?_
        rintro e u3 ⟨rfl, hs3⟩
        have hS3 := (hS2).trans hs3
        skip
        refine ⟨hS3, ?_⟩
        try simp only [Act.put, List.setIfInBounds_toArray, List.set_cons_zero, List.set_cons_succ]
        refine reg_take (v := ?_) 10 (some 47) rfl rfl (by kernel_rfl) (fun _ _ _ h => h) (by kernel_rfl) (hS3) ?_ ?_
        rotate_left
        · (intro w' hw'; obtain ⟨c0, c1, c2, c3, c4, c5⟩ := HA.out w' hw'; go_simp; try with_reducible rfl)
        try simp only [Act.put, List.setIfInBounds_toArray, List.set_cons_zero, List.set_cons_succ]
        refine reg_take (v := ?_) 11 (some 48) rfl rfl (by kernel_rfl) (fun _ _ _ h => h) (by kernel_rfl) (hS3) ?_ ?_
        rotate_left
        · (intro w' hw'; obtain ⟨c0, c1, c2, c3, c4, c5⟩ := HA.out w' hw'; go_simp; try with_reducible rfl)
        try simp only [Act.put, List.setIfInBounds_toArray, List.set_cons_zero, List.set_cons_succ]
        refine reg_done (by kernel_rfl) ?_
        have HX5 := Lib.hid hS3
        obtain ⟨c0, c1, c2, c3, c4, c5⟩ := HA.out _ HX5.out
        go_wp2_with fail
        refine ((HCQ _).out).mono ?_
        rintro e x6 ⟨rfl, hx6⟩
        have HX6 := Lib.hid (HX5.out.trans hx6)
        obtain ⟨c0, c1, c2, c3, c4, c5⟩ := HA.out x6 HX6.out
        go_wp2_with fail
        clear c0 c1 c2 c3 c4 c5
        have HB := Lib.hid (box1 b1 m1 x6)
        have HY := Lib.hid (HX6.out.trans (Same.alloc x6 (pfxO b1 m1)))
        have HA2 : Hid (∀ w', Same (x6.alloc (pfxO b1 m1)) w' → _) := fun w' h => HA.out w' (HY.out.trans h)
        generalize x6.alloc (pfxO b1 m1) = U at *
        refine reg_start (fun w' => Same U w') (by kernel_rfl) ?_
        refine reg_take (v := ?_) 0 (some 51) rfl rfl (by kernel_rfl) (fun _ _ _ h => h) (by kernel_rfl) ((Same.refl U).drew) ?_ ?_
        rotate_left
        · (intro w' hw'; obtain ⟨c0, c1, c2, c3, c4, c5⟩ := HA2.out w' hw'; obtain ⟨b0, b1⟩ := HB.out w' hw'; go_simp; try with_reducible rfl)
        try simp only [Act.put, List.setIfInBounds_toArray, List.set_cons_zero, List.set_cons_succ]
        refine reg_take (v := ?_) 1 (some 52) rfl rfl (by kernel_rfl) (fun _ _ _ h => h) (by kernel_rfl) ((Same.refl U).drew) ?_ ?_
        rotate_left
        · (intro w' hw'; obtain ⟨c0, c1, c2, c3, c4, c5⟩ := HA2.out w' hw'; obtain ⟨b0, b1⟩ := HB.out w' hw'; go_simp; try with_reducible rfl)
        try simp only [Act.put, List.setIfInBounds_toArray, List.set_cons_zero, List.set_cons_succ]
        refine reg_one 2 rfl (by kernel_rfl) (by kernel_rfl) ?_
        go_simp
        refine ((HPQ _).out).mono ?_
        rintro e u1 ⟨rfl, hs1⟩
        have hS1 := ((Same.refl U).drew).trans hs1
        skip
        refine ⟨hS1, ?_⟩
        try simp only [Act.put, List.setIfInBounds_toArray, List.set_cons_zero, List.set_cons_succ]
        refine reg_take (v := ?_) 3 (some 54) rfl rfl (by kernel_rfl) (fun _ _ _ h => h) (by kernel_rfl) (hS1) ?_ ?_
        rotate_left
        · (intro w' hw'; obtain ⟨c0, c1, c2, c3, c4, c5⟩ := HA2.out w' hw'; obtain ⟨b0, b1⟩ := HB.out w' hw'; go_simp; try with_reducible rfl)
        try simp only [Act.put, List.setIfInBounds_toArray, List.set_cons_zero, List.set_cons_succ]
        refine reg_take (v := ?_) 4 (some 55) rfl rfl (by kernel_rfl) (fun _ _ _ h => h) (by kernel_rfl) (hS1) ?_ ?_
        rotate_left
        · (intro w' hw'; obtain ⟨c0, c1, c2, c3, c4, c5⟩ := HA2.out w' hw'; obtain ⟨b0, b1⟩ := HB.out w' hw'; go_simp; try with_reducible rfl)
        try simp only [Act.put, List.setIfInBounds_toArray, List.set_cons_zero, List.set_cons_succ]
        refine reg_take (v := ?_) 5 (some 56) rfl rfl (by kernel_rfl) (fun _ _ _ h => h) (by kernel_rfl) (hS1) ?_ ?_
        rotate_left
        · (intro w' hw'; obtain ⟨c0, c1, c2, c3, c4, c5⟩ := HA2.out w' hw'; obtain ⟨b0, b1⟩ := HB.out w' hw'; go_simp; try with_reducible rfl)
        try simp only [Act.put, List.setIfInBounds_toArray, List.set_cons_zero, List.set_cons_succ]
        refine reg_take (v := ?_) 6 (some 57) rfl rfl (by kernel_rfl) (fun _ _ _ h => h) (by kernel_rfl) (hS1) ?_ ?_
        rotate_left
        · (intro w' hw'; obtain ⟨c0, c1, c2, c3, c4, c5⟩ := HA2.out w' hw'; obtain ⟨b0, b1⟩ := HB.out w' hw'; go_simp; try with_reducible rfl)
        try simp only [Act.put, List.setIfInBounds_toArray, List.set_cons_zero, List.set_cons_succ]
        refine reg_take (v := ?_) 7 (some 58) rfl rfl (by kernel_rfl) (fun _ _ _ h => h) (by kernel_rfl) (hS1) ?_ ?_
        rotate_left
        · (intro w' hw'; obtain ⟨c0, c1, c2, c3, c4, c5⟩ := HA2.out w' hw'; obtain ⟨b0, b1⟩ := HB.out w' hw'; go_simp; try with_reducible rfl)
        try simp only [Act.put, List.setIfInBounds_toArray, List.set_cons_zero, List.set_cons_succ]
        refine reg_one 8 rfl (by kernel_rfl) (by kernel_rfl) ?_
        go_simp
        refine ((HHQ _).out).mono ?_
        rintro e u2 ⟨rfl, hs2⟩
        have hS2 := (hS1).trans hs2
        skip
        refine ⟨hS2, ?_⟩
        try simp only [Act.put, List.setIfInBounds_toArray, List.set_cons_zero, List.set_cons_succ]
        refine reg_take (v := ?_) 9 (some 60) rfl rfl (by kernel_rfl) (fun _ _ _ h => h) (by kernel_rfl) (hS2) ?_ ?_
        rotate_left
        · (intro w' hw'; obtain ⟨c0, c1, c2, c3, c4, c5⟩ := HA2.out w' hw'; obtain ⟨b0, b1⟩ := HB.out w' hw'; go_simp; try with_reducible rfl)
        try simp only [Act.put, List.setIfInBounds_toArray, List.set_cons_zero, List.set_cons_succ]
        refine reg_take (v := ?_) 10 (some 61) rfl rfl (by kernel_rfl) (fun _ _ _ h => h) (by kernel_rfl) (hS2) ?_ ?_
        rotate_left
        · (intro w' hw'; obtain ⟨c0, c1, c2, c3, c4, c5⟩ := HA2.out w' hw'; obtain ⟨b0, b1⟩ := HB.out w' hw'; go_simp; try with_reducible rfl)
        try simp only [Act.put, List.setIfInBounds_toArray, List.set_cons_zero, List.set_cons_succ]
        refine reg_take (v := ?_) 11 (some 62) rfl rfl (by kernel_rfl) (fun _ _ _ h => h) (by kernel_rfl) (hS2) ?_ ?_
        rotate_left
        · (intro w' hw'; obtain ⟨c0, c1, c2, c3, c4, c5⟩ := HA2.out w' hw'; obtain ⟨b0, b1⟩ := HB.out w' hw'; go_simp; try with_reducible rfl)
        try simp only [Act.put, List.setIfInBounds_toArray, List.set_cons_zero, List.set_cons_succ]
        refine reg_take (v := ?_) 12 (some 63) rfl rfl (by kernel_rfl) (fun _ _ _ h => h) (by kernel_rfl) (hS2) ?_ ?_
        rotate_left
        · (intro w' hw'; obtain ⟨c0, c1, c2, c3, c4, c5⟩ := HA2.out w' hw'; obtain ⟨b0, b1⟩ := HB.out w' hw'; go_simp; try with_reducible rfl)
        try simp only [Act.put, List.setIfInBounds_toArray, List.set_cons_zero, List.set_cons_succ]
        refine reg_take (v := ?_) 13 (some 64) rfl rfl (by kernel_rfl) (fun _ _ _ h => h) (by kernel_rfl) (hS2) ?_ ?_
        rotate_left
        · (intro w' hw'; obtain ⟨c0, c1, c2, c3, c4, c5⟩ := HA2.out w' hw'; obtain ⟨b0, b1⟩ := HB.out w' hw'; go_simp; try with_reducible rfl)
        try simp only [Act.put, List.setIfInBounds_toArray, List.set_cons_zero, List.set_cons_succ]
        refine reg_take (v := ?_) 14 (some 65) rfl rfl (by kernel_rfl) (fun _ _ _ h => h) (by kernel_rfl) (hS2) ?_ ?_
        rotate_left
        · (intro w' hw'; obtain ⟨c0, c1, c2, c3, c4, c5⟩ := HA2.out w' hw'; obtain ⟨b0, b1⟩ := HB.out w' hw'; go_simp; try with_reducible rfl)
        try simp only [Act.put, List.setIfInBounds_toArray, List.set_cons_zero, List.set_cons_succ]
        refine reg_one 15 rfl (by kernel_rfl) (by kernel_rfl) ?_
        go_simp
        refine ((HM _).out).mono ?_
        rintro e u3 ⟨rfl, hs3⟩
        have hS3 := (hS2).trans hs3
        skip
        refine ⟨hS3, ?_⟩
        try simp only [Act.put, List.setIfInBounds_toArray, List.set_cons_zero, List.set_cons_succ]
        refine reg_take (v := ?_) 16 (some 67) rfl rfl (by kernel_rfl) (fun _ _ _ h => h) (by kernel_rfl) (hS3) ?_ ?_
        rotate_left
        · (intro w' hw'; obtain ⟨c0, c1, c2, c3, c4, c5⟩ := HA2.out w' hw'; obtain ⟨b0, b1⟩ := HB.out w' hw'; go_simp; try with_reducible rfl)
        try simp only [Act.put, List.setIfInBounds_toArray, List.set_cons_zero, List.set_cons_succ]
        refine reg_take (v := ?_) 17 (some 68) rfl rfl (by kernel_rfl) (fun _ _ _ h => h) (by kernel_rfl) (hS3) ?_ ?_
        rotate_left
        · (intro w' hw'; obtain ⟨c0, c1, c2, c3, c4, c5⟩ := HA2.out w' hw'; obtain ⟨b0, b1⟩ := HB.out w' hw'; go_simp; try with_reducible rfl)
        try simp only [Act.put, List.setIfInBounds_toArray, List.set_cons_zero, List.set_cons_succ]
        refine reg_one 18 rfl (by kernel_rfl) (by kernel_rfl) ?_
        go_simp
        refine ((HHZ _).out).mono ?_
        rintro e u4 ⟨rfl, hs4⟩
        have hS4 := (hS3).trans hs4
        skip
        refine ⟨hS4, ?_⟩
        try simp only [Act.put, List.setIfInBounds_toArray, List.set_cons_zero, List.set_cons_succ]
        refine reg_take (v := ?_) 19 (some 70) rfl rfl (by kernel_rfl) (fun _ _ _ h => h) (by kernel_rfl) (hS4) ?_ ?_
        rotate_left
        · (intro w' hw'; obtain ⟨c0, c1, c2, c3, c4, c5⟩ := HA2.out w' hw'; obtain ⟨b0, b1⟩ := HB.out w' hw'; go_simp; try with_reducible rfl)
        try simp only [Act.put, List.setIfInBounds_toArray, List.set_cons_zero, List.set_cons_succ]
        refine reg_take (v := ?_) 20 (some 71) rfl rfl (by kernel_rfl) (fun _ _ _ h => h) (by kernel_rfl) (hS4) ?_ ?_
        rotate_left
        · (intro w' hw'; obtain ⟨c0, c1, c2, c3, c4, c5⟩ := HA2.out w' hw'; obtain ⟨b0, b1⟩ := HB.out w' hw'; go_simp; try with_reducible rfl)
        try simp only [Act.put, List.setIfInBounds_toArray, List.set_cons_zero, List.set_cons_succ]
        refine reg_take (v := ?_) 21 (some 72) rfl rfl (by kernel_rfl) (fun _ _ _ h => h) (by kernel_rfl) (hS4) ?_ ?_
        rotate_left
        · (intro w' hw'; obtain ⟨c0, c1, c2, c3, c4, c5⟩ := HA2.out w' hw'; obtain ⟨b0, b1⟩ := HB.out w' hw'; go_simp; try with_reducible rfl)
        try simp only [Act.put, List.setIfInBounds_toArray, List.set_cons_zero, List.set_cons_succ]
        refine reg_one 22 rfl (by kernel_rfl) (by kernel_rfl) ?_
        go_simp
        refine (pfx_lives _).mono ?_
        rintro e u5 ⟨rfl, hs5⟩
        have hS5 := (hS4).trans hs5
        skip
        refine ⟨hS5, ?_⟩
        try simp only [Act.put, List.setIfInBounds_toArray, List.set_cons_zero, List.set_cons_succ]
        refine reg_take (v := ?_) 23 (some 74) rfl rfl (by kernel_rfl) (fun _ _ _ h => h) (by kernel_rfl) (hS5) ?_ ?_
        rotate_left
        · (intro w' hw'; obtain ⟨c0, c1, c2, c3, c4, c5⟩ := HA2.out w' hw'; obtain ⟨b0, b1⟩ := HB.out w' hw'; go_simp; try with_reducible rfl)
        try simp only [Act.put, List.setIfInBounds_toArray, List.set_cons_zero, List.set_cons_succ]
        refine reg_take (v := ?_) 24 (some 6) rfl rfl (by kernel_rfl) (fun _ _ _ h => h) (by kernel_rfl) (hS5) ?_ ?_
        rotate_left
        · (intro w' hw'; obtain ⟨c0, c1, c2, c3, c4, c5⟩ := HA2.out w' hw'; obtain ⟨b0, b1⟩ := HB.out w' hw'; go_simp; try with_reducible rfl)
        try simp only [Act.put, List.setIfInBounds_toArray, List.set_cons_zero, List.set_cons_succ]
        refine reg_done (by kernel_rfl) ?_
        go_wp2_with fail
        go_ret
        exact ⟨rfl, (H0.out.trans HY.out).trans hS5⟩
end Go.Proofs.Ytmlabaaelkghlaa
