/- Contracts of what reads numbers at a place of bytes. No condition beyond what each names. -/
import Derived.Test.YteoleblnhcnpkaaSrc
namespace Go.Proofs.Yteoleblnhcnpkaa
open Go.RowKit
set_option linter.unusedVariables false

theorem get_neg (v : Value) (l : List UInt8) (a : Int) (k : Nat) (w : World) (h : Bs w v l) (hk : (k : Int) ≤ 4) (hn : a < 0) :
    Calls Try.prog 56 #[v, .int .i64 a, .int .i64 k] w fun e w' => e = .returned (.tuple #[.int .u32 0, .bool false]) ∧ w' = w := by
  obtain ⟨ao, cap, rfl, b1, b2, b3, b4⟩ := h
  clear b4 b3
  go_enter Try.func56, Try.ntmps56
  go_wp2_with fail
  go_ret2
  exact ⟨rfl, rfl⟩

theorem get_far (v : Value) (l : List UInt8) (a : Int) (k : Nat) (w : World) (h : Bs w v l) (hk : (k : Int) ≤ 4) (hn : ¬ a < 0) (hf : (l.length : Int) - k < a) :
    Calls Try.prog 56 #[v, .int .i64 a, .int .i64 k] w fun e w' => e = .returned (.tuple #[.int .u32 0, .bool false]) ∧ w' = w := by
  obtain ⟨ao, cap, rfl, b1, b2, b3, b4⟩ := h
  clear b4 b3
  go_enter Try.func56, Try.ntmps56
  go_wp2_with fail
  go_ret2
  exact ⟨rfl, rfl⟩

theorem get_in (v : Value) (l : List UInt8) (a k : Nat) (w : World) (h : Bs w v l) (hk : (k : Int) ≤ 4) (hf : (a : Int) ≤ (l.length : Int) - k) :
    Calls Try.prog 56 #[v, .int .i64 a, .int .i64 k] w fun e w' => e = .returned (.tuple #[.int .u32 (numOf ((l.drop a).take k)), .bool true]) ∧ w' = w := by
  have H := Lib.hid h
  obtain ⟨ao, cap, rfl, b1, b2, b3, b4⟩ := h
  clear b4 b3
  have HN := number_any _ _ w (H.out.cut a k (by omega)).1 (by simp; omega)
  have b5 : (a : Int) + k ≤ cap := by omega
  have b6 : (l.length : Int) ≤ cap := by omega
  generalize numOf ((l.drop a).take k) = q at *
  by_cases hc : cap = a
  · subst hc
    obtain rfl : k = 0 := by omega
    rw [if_pos rfl, Nat.sub_self] at HN
    have HN' := Lib.hid HN
    clear HN
    go_enter Try.func56, Try.ntmps56
    go_wp2_with fail
    refine HN'.out.mono ?_
    rintro e w1 ⟨rfl, rfl⟩
    go_wp2_with fail
    go_ret2
    exact ⟨rfl, rfl⟩
  · rw [if_neg hc] at HN
    have HN' := Lib.hid HN
    clear HN
    go_enter Try.func56, Try.ntmps56
    go_wp2_with fail
    refine HN'.out.mono ?_
    rintro e w1 ⟨rfl, rfl⟩
    go_wp2_with fail
    go_ret2
    exact ⟨rfl, rfl⟩

theorem get_any (v : Value) (l : List UInt8) (a : Int) (k : Nat) (w : World) (h : Bs w v l) (hk : k ≤ 4) :
    Calls Try.prog 56 #[v, .int .i64 a, .int .i64 k] w fun e w' => e = .returned (.tuple #[.int .u32 (numOut (getOut l a k)), .bool (getOut l a k).isSome]) ∧ w' = w := by
  by_cases hn : a < 0
  · have e : getOut l a k = none := if_neg (by omega)
    rw [e]
    exact get_neg v l a k w h (by omega) hn
  · by_cases hf : (l.length : Int) - k < a
    · have e : getOut l a k = none := if_neg (by omega)
      rw [e]
      exact get_far v l a k w h (by omega) hn hf
    · obtain ⟨n, rfl⟩ := Int.eq_ofNat_of_zero_le (show 0 ≤ a by omega)
      have e : getOut l (n : Int) k = some ((l.drop n).take k) := by rw [getOut, if_pos (by omega)]; simp
      rw [e]
      exact get_in v l n k w h (by omega) (by omega)

theorem numOut_lt (l : List UInt8) (a : Int) (k : Nat) (hk : k ≤ 4) : numOut (getOut l a k) < 4294967296 := by
  unfold getOut
  split
  · simp only [numOut]
    have h1 := numOf_lt ((l.drop a.toNat).take k)
    have h2 : 256 ^ ((l.drop a.toNat).take k).length ≤ 256 ^ 4 := Nat.pow_le_pow_right (by omega) (by simp; omega)
    omega
  · simp [numOut]

theorem Get16_any (v : Value) (l : List UInt8) (a : Int) (w : World) (h : Bs w v l) :
    Calls Try.prog 33 #[v, .int .i64 a] w fun e w' => e = .returned (.tuple #[.int .i64 (numOut (getOut l a 2)), .bool (getOut l a 2).isSome]) ∧ w' = w := by
  have HG := Lib.hid (get_any v l a 2 w h (by omega))
  have hlt : (numOut (getOut l a 2) : Int) < 4294967296 := by have := numOut_lt l a 2 (by omega); omega
  obtain ⟨ao, cap, rfl, b1, b2, b3, b4⟩ := h
  clear b4 b3
  generalize numOut (getOut l a 2) = q at *
  generalize (getOut l a 2).isSome = b at *
  go_enter Try.func33, Try.ntmps33
  go_wp2_with fail
  refine HG.out.mono ?_
  rintro e w1 ⟨rfl, rfl⟩
  go_wp2_with fail
  go_ret2
  exact ⟨rfl, rfl⟩

end Go.Proofs.Yteoleblnhcnpkaa
