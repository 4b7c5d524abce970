/- Plain facts: the two ways of reading an address's text, and a prefix's, are one. No condition. -/
import Derived.Test.YtmlabaaelkghlaaDoorPfxUR
import Derived.Test.YtmlabaaelkghlaaDoorPfxM
namespace Go.Proofs.YtmlabaaelkghlaaDoor
open Go.RowKit
set_option linter.unusedVariables false
set_option maxRecDepth 100000

theorem refGo_lt : ∀ (l : List UInt8) (a n p d : Nat) (x m : Nat), refGo l a n p d = some (x, m) → x < 4294967296
  | [], a, n, p, d, x, m, h => by
    rw [refGo] at h
    split at h
    · cases h
    · simp only [Option.some.injEq, Prod.mk.injEq] at h
      omega
  | c :: t, a, n, p, d, x, m, h => by
    rw [refGo] at h
    split at h
    · split at h
      · cases h
      · exact refGo_lt t _ _ _ _ x m h
    · split at h
      · cases h
      · exact refGo_lt t _ _ _ _ x m h
theorem refM_sound (l : List UInt8) (a : Nat) (h : refM l = some a) : addrL a = l ∧ a < 4294967296 := by
  unfold refM at h
  split at h
  · cases h
  · rename_i x n hx
    split at h
    · rename_i hc
      simp only [Option.some.injEq] at h
      subst h
      exact ⟨hc.2, refGo_lt l _ _ _ _ _ _ hx⟩
    · cases h
theorem refGo_dig (d A N p dg : Nat) (t : List UInt8) (hd : d < 10) (hg : dg ≤ 2) : refGo (UInt8.ofNat (48 + d) :: t) A N p dg = refGo t A N (10 * p + d) (dg + 1) := by
  have hdd := dgt d hd
  rw [refGo, if_neg (by omega), if_neg (by omega), hdd, show 48 + d - 48 = d from by omega]
theorem refGo_dec (u A N : Nat) (hu : u ≤ 255) (rest : List UInt8) : ∃ dg, 0 < dg ∧ refGo (Lib.decDigits u ++ rest) A N 0 0 = refGo rest A N u dg := by
  by_cases h1 : u < 10
  · refine ⟨1, by omega, ?_⟩
    rw [Lib.decDigits_one h1]
    show refGo (UInt8.ofNat (48 + u) :: rest) A N 0 0 = _
    rw [refGo_dig u A N 0 0 rest h1 (by omega)]
    simp
  · by_cases h2 : u < 100
    · refine ⟨2, by omega, ?_⟩
      rw [Lib.decDigits_two h1 h2]
      show refGo (UInt8.ofNat (48 + u / 10) :: UInt8.ofNat (48 + u % 10) :: rest) A N 0 0 = _
      rw [refGo_dig _ A N 0 0 _ (by omega) (by omega), refGo_dig _ A N _ _ rest (by omega) (by omega)]
      congr 1; omega
    · refine ⟨3, by omega, ?_⟩
      rw [Lib.decDigits, dif_neg h1, Lib.decDigits_two (by omega) (by omega)]
      show refGo (UInt8.ofNat (48 + u / 10 / 10) :: UInt8.ofNat (48 + u / 10 % 10) :: UInt8.ofNat (48 + u % 10) :: rest) A N 0 0 = _
      rw [refGo_dig _ A N 0 0 _ (by omega) (by omega), refGo_dig _ A N _ _ _ (by omega) (by omega), refGo_dig _ A N _ _ rest (by omega) (by omega)]
      congr 1; omega
theorem refGo_dot (u A N : Nat) (hu : u ≤ 255) (rest : List UInt8) : refGo (Lib.decDigits u ++ 46 :: rest) A N 0 0 = refGo rest (A * 256 % 4294967296 + u) (N + 1) 0 0 := by
  obtain ⟨dg, h0, h⟩ := refGo_dec u A N hu (46 :: rest)
  rw [h, refGo, if_pos (by decide), if_neg (by omega)]
theorem refGo_last (u A N : Nat) (hu : u ≤ 255) : refGo (Lib.decDigits u) A N 0 0 = some (A * 256 % 4294967296 + u, N + 1) := by
  obtain ⟨dg, h0, h⟩ := refGo_dec u A N hu []
  rw [List.append_nil] at h
  rw [h, refGo, if_neg (by omega)]
theorem addrL_eq (a : Int) : addrL a = Lib.decDigits (octet a 3) ++ 46 :: (Lib.decDigits (octet a 2) ++ 46 :: (Lib.decDigits (octet a 1) ++ 46 :: Lib.decDigits (octet a 0))) := by
  unfold addrL; simp
theorem octets (a : Nat) (h : a < 4294967296) : octet a 3 * 16777216 + octet a 2 * 65536 + octet a 1 * 256 + octet a 0 = a := by
  unfold octet
  simp only [show (256 : Int) ^ 3 = 16777216 from by decide, show (256 : Int) ^ 2 = 65536 from by decide, show (256 : Int) ^ 1 = 256 from by decide, show (256 : Int) ^ 0 = 1 from by decide]
  omega
theorem refM_addr (a : Nat) (h : a < 4294967296) : refM (addrL a) = some a := by
  have o3 := octet_le a 3
  have o2 := octet_le a 2
  have o1 := octet_le a 1
  have o0 := octet_le a 0
  have ho := octets a h
  have hg : refGo (addrL a) 0 0 0 0 = some (a, 4) := by
    rw [addrL_eq, refGo_dot _ _ _ o3, refGo_dot _ _ _ o2, refGo_dot _ _ _ o1, refGo_last _ _ _ o0]
    congr 2
    omega
  unfold refM
  rw [hg]
  dsimp only
  rw [if_pos ⟨rfl, rfl⟩]

/-- digits behind digits -/
theorem decDigits_snoc (n d : Nat) (h0 : n ≠ 0) (hd : d < 10) : Lib.decDigits (n * 10 + d) = Lib.decDigits n ++ [UInt8.ofNat (48 + d)] := by
  rw [Lib.decDigits, dif_neg (by omega), show (n * 10 + d) / 10 = n from by omega, show (n * 10 + d) % 10 = d from by omega]
theorem u8_of (c : UInt8) (h : 48 ≤ c.toNat) : c = UInt8.ofNat (48 + (c.toNat - 48)) := by
  rw [show 48 + (c.toNat - 48) = c.toNat from by omega]; simp
theorem cutGo_sound (most : Nat) : ∀ (l : List UInt8) (n m : Nat) (rest : List UInt8), cutGo most n true l = (m, rest, true) → Lib.decDigits n ++ l = Lib.decDigits m ++ rest
  | [], n, m, rest, h => by
    rw [cutGo] at h
    simp only [Prod.mk.injEq] at h
    obtain ⟨rfl, rfl, -⟩ := h
    rfl
  | c :: t, n, m, rest, h => by
    rw [cutGo] at h
    split at h
    · rename_i hdig
      split at h
      · simp at h
      · rename_i hno
        have hn0 : n ≠ 0 := fun e => hno (.inl ⟨rfl, e⟩)
        have := cutGo_sound most t _ m rest h
        rw [decDigits_snoc n _ hn0 (by omega), ← u8_of c hdig.1] at this
        rw [← this]; simp
    · simp only [Prod.mk.injEq] at h
      obtain ⟨rfl, rfl, -⟩ := h
      rfl
theorem cutN_sound (most : Nat) (l : List UInt8) (m : Nat) (rest : List UInt8) (h : cutN most l = (m, rest, true)) : l = Lib.decDigits m ++ rest := by
  unfold cutN at h
  cases l with
  | nil => rw [cutGo] at h; simp at h
  | cons c t =>
    rw [cutGo] at h
    split at h
    · rename_i hdig
      split at h
      · simp at h
      · have := cutGo_sound most t _ m rest h
        rw [← this, Lib.decDigits_one (show 0 * 10 + (c.toNat - 48) < 10 by omega)]
        have := u8_of c hdig.1
        rw [show 48 + (0 * 10 + (c.toNat - 48)) = 48 + (c.toNat - 48) from by omega, ← this]
        rfl
    · simp at h
theorem cutN_eta (most : Nat) (l : List UInt8) (h : (cutN most l).2.2 = true) : cutN most l = ((cutN most l).1, (cutN most l).2.1, true) := by
  rw [← h]
theorem pre_dot (l : List UInt8) (h : Lib.hasPrefix l [46] = true) : l = 46 :: Lib.trimPrefix l [46] := by
  unfold Lib.trimPrefix
  rw [if_pos h]
  unfold Lib.hasPrefix at h
  cases l with
  | nil => simp at h
  | cons c t =>
    simp at h
    subst h
    rfl
theorem finA_step (k : Nat) (l : List UInt8) (A a : Nat) (h : finA (k + 2) l A = some a) : ∃ n tr, n ≤ 255 ∧ l = Lib.decDigits n ++ 46 :: tr ∧ finA (k + 1) tr (A + n * 256 ^ (k + 1)) = some a := by
  rw [finA] at h
  split at h
  · rename_i hok
    rw [if_neg (by omega)] at h
    split at h
    · rename_i hpf
      refine ⟨(cutN 255 l).1, Lib.trimPrefix (cutN 255 l).2.1 [46], (cutN_le 255 l).1, ?_, h⟩
      rw [← pre_dot _ hpf]
      exact cutN_sound 255 l _ _ (cutN_eta 255 l hok)
    · cases h
  · cases h
theorem finA_end (l : List UInt8) (A a : Nat) (h : finA 1 l A = some a) : ∃ n, n ≤ 255 ∧ l = Lib.decDigits n ∧ a = A + n := by
  rw [finA] at h
  split at h
  · rename_i hok
    rw [if_pos rfl, finA] at h
    split at h
    · rename_i hr
      simp only [Option.some.injEq] at h
      have := cutN_sound 255 l _ _ (cutN_eta 255 l hok)
      rw [hr, List.append_nil] at this
      exact ⟨_, (cutN_le 255 l).1, this, by rw [← h]; simp⟩
    · cases h
  · cases h
theorem finA_sound (l : List UInt8) (a : Nat) (h : finA 4 l 0 = some a) : addrL a = l ∧ a < 4294967296 := by
  obtain ⟨n3, t3, h3, rfl, g3⟩ := finA_step 2 _ _ _ h
  obtain ⟨n2, t2, h2, rfl, g2⟩ := finA_step 1 _ _ _ g3
  obtain ⟨n1, t1, h1, rfl, g1⟩ := finA_step 0 _ _ _ g2
  obtain ⟨n0, h0, rfl, g0⟩ := finA_end _ _ _ g1
  have e3 : octet a 3 = n3 := by unfold octet; rw [show (256 : Int) ^ 3 = 16777216 from by decide]; omega
  have e2 : octet a 2 = n2 := by unfold octet; rw [show (256 : Int) ^ 2 = 65536 from by decide]; omega
  have e1 : octet a 1 = n1 := by unfold octet; rw [show (256 : Int) ^ 1 = 256 from by decide]; omega
  have e0 : octet a 0 = n0 := by unfold octet; rw [show (256 : Int) ^ 0 = 1 from by decide]; omega
  exact ⟨by rw [addrL_eq, e3, e2, e1, e0], by omega⟩

/-- the two readings of an address's text are one -/
theorem refM_eq (l : List UInt8) : refM l = finA 4 l 0 := by
  rcases h : finA 4 l 0 with _ | a
  · rcases h2 : refM l with _ | b
    · rfl
    · obtain ⟨e, hb⟩ := refM_sound l b h2
      obtain ⟨x, hx, -⟩ := finA_addr b (by omega) (by omega)
      rw [e, h] at hx
      cases hx
  · obtain ⟨e, ha⟩ := finA_sound l a h
    rw [← e]
    exact refM_addr a ha
end Go.Proofs.YtmlabaaelkghlaaDoor
