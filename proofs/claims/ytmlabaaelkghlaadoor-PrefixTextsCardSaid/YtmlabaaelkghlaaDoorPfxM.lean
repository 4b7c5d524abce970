/- Plain facts: bytes and texts of prefixes lead back. No condition beyond what each names. -/
import Derived.Test.YtmlabaaelkghlaaDoorPfxN
import Derived.Test.YtmlabaaelkghlaaDoorPfxP
import Derived.Test.YtmlabaaelkghlaaDoorPfxD
import Derived.Test.YtmlabaaelkghlaaDoorPfxY
import Derived.Test.YtmlabaaelkghlaaDoorPfxTx
namespace Go.Proofs.YtmlabaaelkghlaaDoor
open Go.RowKit
set_option linter.unusedVariables false
set_option maxRecDepth 100000

theorem canA_mul (a n : Int) (ha : 0 ≤ a ∧ a ≤ 4294967295) : ∃ Y : Int, 0 ≤ Y ∧ canA a n = Y * 2 ^ (32 - nearN n).toNat := by
  refine ⟨a / 2 ^ (32 - nearN n).toNat, Int.ediv_nonneg ha.1 (Int.le_of_lt (Int.pow_pos (by omega))), canA_div a n ha.1 ha.2⟩
theorem canA_same (c n : Int) (Y : Int) (hc : 0 ≤ c ∧ c ≤ 4294967295) (h : c = Y * 2 ^ (32 - nearN n).toNat) : canA c n = c := by
  have hp : (0 : Int) < 2 ^ (32 - nearN n).toNat := Int.pow_pos (by omega)
  rw [canA_div c n hc.1 hc.2, h, Int.mul_ediv_cancel _ (by omega)]
theorem canA_rng (a n : Int) (ha : 0 ≤ a ∧ a ≤ 4294967295) : 0 ≤ canA a n ∧ canA a n ≤ 4294967295 := by
  have := canA_range a n ha.1 ha.2; omega
theorem canA_near (a n : Int) : canA a (nearN n) = canA a n := by unfold canA; rw [maskN_near]
theorem canA_idem (a n : Int) (ha : 0 ≤ a ∧ a ≤ 4294967295) : canA (canA a n) (nearN n) = canA a n := by
  obtain ⟨Y, -, hY⟩ := canA_mul a n ha
  rw [canA_near]
  exact canA_same _ n Y (canA_rng a n ha) hY
theorem goodB_can (a n : Int) (ha : 0 ≤ a ∧ a ≤ 4294967295) : goodB (canA a n) (nearN n) = true := by
  unfold goodB
  rw [canA_idem a n ha, nearN_near]
  simp

theorem dgt (d : Nat) (h : d < 10) : (UInt8.ofNat (48 + d)).toNat = 48 + d := by rw [UInt8.toNat_ofNat']; omega
/-- behind a number stands nothing, or no digit -/
def NoDig (rest : List UInt8) : Prop := ∀ c t, rest = c :: t → ¬ (48 ≤ c.toNat ∧ c.toNat ≤ 57)
theorem cutGo_rest (most n : Nat) (rest : List UInt8) (hr : NoDig rest) : cutGo most n true rest = (n, rest, true) := by
  cases rest with
  | nil => rfl
  | cons c t => exact cutGo_stop most n true c t (hr c t rfl)
theorem cutGo_dig (most n d : Nat) (st : Bool) (t : List UInt8) (hd : d < 10) (h1 : ¬ (st = true ∧ n = 0)) (h2 : n * 10 + d ≤ most) : cutGo most n st (UInt8.ofNat (48 + d) :: t) = cutGo most (n * 10 + d) true t := by
  have hdd := dgt d hd
  rw [cutGo_go most n st _ t (by omega) (by rw [hdd]; intro h; rcases h with h | h; exact h1 h; omega), hdd, show 48 + d - 48 = d from by omega]
theorem cutN_dec (most u : Nat) (hu : u ≤ most) (hm : most ≤ 255) (rest : List UInt8) (hr : NoDig rest) : cutN most (Lib.decDigits u ++ rest) = (u, rest, true) := by
  unfold cutN
  by_cases h1 : u < 10
  · rw [Lib.decDigits_one h1]
    show cutGo most 0 false (UInt8.ofNat (48 + u) :: rest) = _
    rw [cutGo_dig most 0 u false rest h1 (by simp) (by omega), cutGo_rest _ _ _ hr]
    simp
  · by_cases h2 : u < 100
    · rw [Lib.decDigits_two h1 h2]
      show cutGo most 0 false (UInt8.ofNat (48 + u / 10) :: UInt8.ofNat (48 + u % 10) :: rest) = _
      rw [cutGo_dig most 0 (u / 10) false _ (by omega) (by simp) (by omega), cutGo_dig most _ (u % 10) true rest (by omega) (by omega) (by omega), cutGo_rest _ _ _ hr]
      congr 1; omega
    · rw [Lib.decDigits, dif_neg h1, Lib.decDigits_two (by omega) (by omega)]
      show cutGo most 0 false (UInt8.ofNat (48 + u / 10 / 10) :: UInt8.ofNat (48 + u / 10 % 10) :: UInt8.ofNat (48 + u % 10) :: rest) = _
      rw [cutGo_dig most 0 (u / 10 / 10) false _ (by omega) (by simp) (by omega), cutGo_dig most _ (u / 10 % 10) true _ (by omega) (by omega) (by omega), cutGo_dig most _ (u % 10) true rest (by omega) (by omega) (by omega), cutGo_rest _ _ _ hr]
      congr 1; omega
theorem noDig_nil : NoDig [] := fun c t h => by cases h
theorem noDig_dot (t : List UInt8) : NoDig (46 :: t) := fun c t h => by cases h; decide
theorem finA_dot (k u A : Nat) (hu : u ≤ 255) (rest : List UInt8) : finA (k + 2) (Lib.decDigits u ++ 46 :: rest) A = finA (k + 1) rest (A + u * 256 ^ (k + 1)) := by
  have hc := cutN_dec 255 u hu (Nat.le_refl _) (46 :: rest) (noDig_dot rest)
  have hp : Lib.hasPrefix (46 :: rest) [46] = true := by simp [Lib.hasPrefix]
  have ht : Lib.trimPrefix (46 :: rest) [46] = rest := by unfold Lib.trimPrefix; rw [if_pos hp]; rfl
  rw [finA, hc]
  dsimp only
  rw [if_pos rfl, if_neg (by omega), if_pos hp, ht]
theorem finA_last (u A : Nat) (hu : u ≤ 255) : finA 1 (Lib.decDigits u) A = some (A + u) := by
  have hc := cutN_dec 255 u hu (Nat.le_refl _) [] noDig_nil
  rw [List.append_nil] at hc
  rw [finA, hc]
  dsimp only
  rw [if_pos rfl, if_pos rfl, finA, if_pos rfl]
  simp
theorem finA_addr (a : Int) (h0 : 0 ≤ a) (h1 : a ≤ 4294967295) : ∃ x : Nat, finA 4 (addrL a) 0 = some x ∧ (x : Int) = a := by
  have e : addrL a = Lib.decDigits (octet a 3) ++ 46 :: (Lib.decDigits (octet a 2) ++ 46 :: (Lib.decDigits (octet a 1) ++ 46 :: Lib.decDigits (octet a 0))) := by
    unfold addrL; simp
  rw [e, finA_dot 2 _ _ (octet_le a 3), finA_dot 1 _ _ (octet_le a 2), finA_dot 0 _ _ (octet_le a 1), finA_last _ _ (octet_le a 0)]
  refine ⟨_, rfl, ?_⟩
  unfold octet
  simp only [show (256 : Int) ^ 3 = 16777216 from by decide, show (256 : Int) ^ 2 = 65536 from by decide, show (256 : Int) ^ 1 = 256 from by decide, show (256 : Int) ^ 0 = 1 from by decide]
  omega

theorem cutB_at (x y : List UInt8) (h : ∀ c ∈ x, c ≠ 47) : cutB 47 (x ++ 47 :: y) = (x, y, true) := by
  induction x with
  | nil => simp [cutB]
  | cons c t ih =>
    have := ih (fun d hd => h d (List.mem_cons_of_mem _ hd))
    have hc := h c (List.mem_cons_self ..)
    simp [cutB, this, hc]
theorem dec_no47 (u : Nat) (h : u ≤ 255) : ∀ c ∈ Lib.decDigits u, c ≠ 47 := by
  intro c hc h47
  subst h47
  have key : ∀ d, d < 10 → (47 : UInt8) ≠ UInt8.ofNat (48 + d) := fun d hd he => by
    have := congrArg UInt8.toNat he
    rw [dgt d hd] at this
    simp at this
    omega
  by_cases h1 : u < 10
  · rw [Lib.decDigits_one h1] at hc; simp only [List.mem_cons, List.not_mem_nil, or_false] at hc; exact key _ h1 hc
  · by_cases h2 : u < 100
    · rw [Lib.decDigits_two h1 h2] at hc
      simp only [List.mem_cons, List.not_mem_nil, or_false] at hc
      rcases hc with hc | hc
      · exact key _ (by omega) hc
      · exact key _ (by omega) hc
    · rw [Lib.decDigits, dif_neg h1, Lib.decDigits_two (by omega) (by omega)] at hc
      simp only [List.mem_append, List.mem_cons, List.not_mem_nil, or_false] at hc
      rcases hc with (hc | hc) | hc
      · exact key _ (by omega) hc
      · exact key _ (by omega) hc
      · exact key _ (by omega) hc
theorem addr_no47 (a : Int) : ∀ c ∈ addrL a, c ≠ 47 := by
  intro c hc
  unfold addrL at hc
  simp only [List.mem_append, List.mem_cons, List.not_mem_nil, or_false, false_or] at hc
  rcases hc with (((((hc | hc) | hc) | hc) | hc) | hc) | hc
  · exact dec_no47 _ (octet_le a 3) c hc
  · rw [hc]; decide
  · exact dec_no47 _ (octet_le a 2) c hc
  · rw [hc]; decide
  · exact dec_no47 _ (octet_le a 1) c hc
  · rw [hc]; decide
  · exact dec_no47 _ (octet_le a 0) c hc

/-- a prefix's text leads back -/
theorem parT_text (a n : Int) (ha : 0 ≤ a ∧ a ≤ 4294967295) : parT (textL a n) = some (canA a n, nearN n) := by
  obtain ⟨hc0, hc1⟩ := canA_rng a n ha
  obtain ⟨x, hx, hxa⟩ := finA_addr (canA a n) hc0 hc1
  have hn := nearN_le n
  have hcut : cutB 47 (textL a n) = (addrL (canA a n), Lib.decDigits (nearN n).toNat, true) := by
    unfold textL
    rw [List.append_assoc]
    exact cutB_at _ _ (addr_no47 _)
  have hnum := cutN_dec 32 (nearN n).toNat (by omega) (by omega) [] noDig_nil
  rw [List.append_nil] at hnum
  have hnn : (((nearN n).toNat : Nat) : Int) = nearN n := by omega
  unfold parT
  rw [hcut]
  dsimp only
  rw [hx, hnum]
  dsimp only
  rw [hxa, hnn, if_pos ⟨rfl, rfl, goodB_can a n ha⟩]

/-- the bytes of an address that has nothing behind its first bits -/
def top4 (c : Int) : List UInt8 := [byteAt c 3, byteAt c 2, byteAt c 1, byteAt c 0]
theorem byte_nat (c : Int) (i : Nat) : (byteAt c i).toNat = (c / 256 ^ i % 256).toNat := by
  have := byteAt_int c i
  omega
theorem begun_top (c : Int) (hc : 0 ≤ c ∧ c ≤ 4294967295) (q : Nat) (hq : q ≤ 4) (Y : Int) (hY : c = Y * 2 ^ (8 * (4 - q))) : (begunN ((top4 c).take q) : Int) = c := by
  unfold begunN top4
  have h0 := byte_nat c 0
  have h1 := byte_nat c 1
  have h2 := byte_nat c 2
  have h3 := byte_nat c 3
  simp only [show (256 : Int) ^ 3 = 16777216 from by decide, show (256 : Int) ^ 2 = 65536 from by decide, show (256 : Int) ^ 1 = 256 from by decide, show (256 : Int) ^ 0 = 1 from by decide] at h0 h1 h2 h3
  obtain rfl | rfl | rfl | rfl | rfl := (show q = 0 ∨ q = 1 ∨ q = 2 ∨ q = 3 ∨ q = 4 by omega)
  · simp only [show (2 : Int) ^ (8 * (4 - 0)) = 4294967296 from by decide] at hY
    simp [numOf]; omega
  · simp only [show (2 : Int) ^ (8 * (4 - 1)) = 16777216 from by decide] at hY
    simp [numOf]; omega
  · simp only [show (2 : Int) ^ (8 * (4 - 2)) = 65536 from by decide] at hY
    simp [numOf]; omega
  · simp only [show (2 : Int) ^ (8 * (4 - 3)) = 256 from by decide] at hY
    simp [numOf]; omega
  · simp [numOf]; omega

theorem bytesL_eq (a n : Int) : bytesL a n = byteAt (nearN n) 0 :: (top4 (canA a n)).take ((nearN n + 7) / 8).toNat := by
  have hn := nearN_le n
  unfold bytesL top4
  rw [show (1 + (nearN n + 7) / 8).toNat = ((nearN n + 7) / 8).toNat + 1 from by omega, List.take_succ_cons]

theorem readM_bytes (pre suf : List UInt8) (a n : Int) (ha : 0 ≤ a ∧ a ≤ 4294967295) :
    readM (pre ++ (bytesL a n ++ suf)) pre.length = some (canA a n, nearN n, pre.length + (bytesL a n).length) := by
  have hn := nearN_le n
  have hc := canA_rng a n ha
  obtain ⟨Y, -, hY⟩ := canA_mul a n ha
  obtain ⟨q, hq⟩ : ∃ q : Nat, q = ((nearN n + 7) / 8).toNat := ⟨_, rfl⟩
  have hq4 : q ≤ 4 := by omega
  have hb := bytesL_eq a n
  rw [← hq] at hb
  have hbl : (bytesL a n).length = 1 + q := by rw [hb]; simp [top4]; omega
  obtain ⟨l, hl⟩ : ∃ l, l = pre ++ (bytesL a n ++ suf) := ⟨_, rfl⟩
  have hll : l.length = pre.length + (1 + q) + suf.length := by rw [hl]; simp [hbl]; omega
  have hd0 : l.drop pre.length = byteAt (nearN n) 0 :: ((top4 (canA a n)).take q ++ suf) := by rw [hl, List.drop_left, hb]; rfl
  have hd1 : l.drop (pre.length + 1) = (top4 (canA a n)).take q ++ suf := by rw [← List.drop_drop, hd0]; rfl
  have s1 : stepOut l pre.length 0 1 = some [byteAt (nearN n) 0] := by
    unfold stepOut
    rw [if_pos ⟨rfl, by omega, by omega⟩, hd0]; rfl
  have s2 : stepAt l pre.length 0 1 = pre.length + 1 := by unfold stepAt; rw [if_pos ⟨rfl, by omega, by omega⟩]; rfl
  have s3 : stepErr l pre.length 0 1 = 0 := by unfold stepErr; rw [if_pos rfl, if_neg (by omega), if_neg (by omega)]
  have s4 : numOut (some [byteAt (nearN n) 0]) = (nearN n).toNat := by
    unfold numOut numOf
    have := byte_nat (nearN n) 0
    rw [show (256 : Int) ^ 0 = 1 from by decide] at this
    simp
    omega
  have s5 : ((nearN n).toNat + 7) / 8 = q := by omega
  have s6 : stepErr l (pre.length + 1) 0 (q : Nat) = 0 := by unfold stepErr; rw [if_pos rfl, if_neg (by omega), if_neg (by omega)]
  have s7 : stepOut l (pre.length + 1) 0 (q : Nat) = some ((top4 (canA a n)).take q) := by
    unfold stepOut
    rw [if_pos ⟨rfl, by omega, by omega⟩, hd1]
    have htl : ((top4 (canA a n)).take q).length = q := by simp [top4]; omega
    congr 1
    rw [Int.toNat_natCast]
    rw [List.take_append_of_le_length (by omega), List.take_of_length_le (by omega)]
  have s8 : stepAt l (pre.length + 1) 0 (q : Nat) = pre.length + 1 + q := by unfold stepAt; rw [if_pos ⟨rfl, by omega, by omega⟩]; simp
  have hnn : (((nearN n).toNat : Nat) : Int) = nearN n := by omega
  have hbg : (begunN ((top4 (canA a n)).take q) : Int) = canA a n := by
    refine begun_top _ hc q hq4 (Y * 2 ^ ((32 - nearN n).toNat - 8 * (4 - q))) ?_
    rw [Int.mul_assoc, ← Int.pow_add, show (32 - nearN n).toNat - 8 * (4 - q) + 8 * (4 - q) = (32 - nearN n).toNat from by omega]
    exact hY
  rw [← hl]
  unfold readM
  rw [s1, s2, s3, s4, s5, s6, s7, s8]
  rw [if_neg (by omega), if_neg (by simp)]
  show some (canA (begunN ((top4 (canA a n)).take q) : Int) (((nearN n).toNat : Nat) : Int), _, _) = _
  rw [hbg, hnn, canA_idem a n ha, hbl]
  congr 3
  omega

theorem parseM_all (suf : List (Int × Int)) : ∀ (pre : List UInt8) (acc : List (Int × Int)) (f : Nat), (∀ p ∈ suf, 0 ≤ p.1 ∧ p.1 ≤ 4294967295) → (pre ++ allL suf).length ≤ pre.length + f →
    parseM (pre ++ allL suf) f pre.length acc = some (acc ++ suf.map fun p => (canA p.1 p.2, nearN p.2)) := by
  induction suf with
  | nil =>
    intro pre acc f _ _
    rw [parseM_end _ _ _ _ (by simp [allL])]
    simp
  | cons p t ih =>
    intro pre acc f hr hf
    have hal : allL (p :: t) = bytesL p.1 p.2 ++ allL t := by simp [allL]
    have hbl : 1 ≤ (bytesL p.1 p.2).length := by rw [bytesL_eq]; simp
    rw [hal] at hf ⊢
    obtain ⟨f', rfl⟩ : ∃ f', f = f' + 1 := ⟨f - 1, by simp at hf; omega⟩
    have hrm := readM_bytes pre (allL t) p.1 p.2 (hr p (List.mem_cons_self ..))
    rw [parseM, if_neg (by simp; omega), hrm]
    have := ih (pre ++ bytesL p.1 p.2) (acc ++ [(canA p.1 p.2, nearN p.2)]) f' (fun q hq => hr q (List.mem_cons_of_mem _ hq)) (by simp at hf ⊢; omega)
    rw [List.append_assoc, List.length_append] at this
    dsimp only
    rw [this]
    simp
/-- rows lead back from their bytes -/
theorem parseR_all (ps : List (Int × Int)) (h : ∀ p ∈ ps, 0 ≤ p.1 ∧ p.1 ≤ 4294967295) : parseR (allL ps) = some (ps.map fun p => (canA p.1 p.2, nearN p.2)) := by
  have := parseM_all ps [] [] (allL ps).length h (by simp)
  simpa [parseR] using this
end Go.Proofs.YtmlabaaelkghlaaDoor
