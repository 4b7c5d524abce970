/- Contracts of the document's own answers for layer 2 (check sums). No condition beyond what each names. -/
import Derived.Test.YteoleblnhcnpkaaProg
import Derived.Test.YteoleblnhcnpkaaBase
import Derived.Test.YteoleblnhcnpkaaChkA
import Derived.LoopTactic
import Derived.LoopN
import Derived.Laws.Bits128
namespace Go.Proofs.Yteoleblnhcnpkaa
open Go.RowKit
set_option linter.unusedVariables false

theorem i64_and65535 (n : Int) : bits .and .i64 n 65535 = n % 65536 := by
  have h16 : (BitVec.ofInt 64 65535).toNat = 2 ^ 16 - 1 := by decide
  have key : (BitVec.ofInt 64 n &&& BitVec.ofInt 64 65535).toNat = (n % ((2 ^ 64 : Nat) : Int)).toNat % 2 ^ 16 := by
    rw [BitVec.toNat_and, BitVec.toNat_ofInt, h16, Nat.and_two_pow_sub_one_eq_mod]
  show IntKind.i64.wrap ((BitVec.ofInt 64 n &&& BitVec.ofInt 64 65535).toNat : Nat) = n % 65536
  rw [key, IntKind.wrap_i64]
  omega

theorem addr_add {b o n : Nat} : (⟨b, o, none⟩ : Addr).add n = ⟨b, o + n, none⟩ := by
  by_cases h : n = 0 <;> simp [Addr.add, h]

/-- a number's word -/
def wd (n : Int) : Nat := (n % 65536).toNat
theorem wd_le (n : Int) : wd n ≤ 65535 := by unfold wd; omega
theorem wd_nat {n : Nat} (h : n ≤ 65535) : wd (n : Int) = n := by unfold wd; omega
/-- the words of bytes: of an odd last one its own 256 times -/
def wordAt (l : List UInt8) (k : Nat) : Nat := 256 * (l.getD (2 * k) 0).toNat + (l.getD (2 * k + 1) 0).toNat
theorem wordAt_le (l : List UInt8) (k : Nat) : wordAt l k ≤ 65535 := by
  unfold wordAt
  have h1 := (l.getD (2 * k) 0).toNat_lt
  have h2 := (l.getD (2 * k + 1) 0).toNat_lt
  omega
/-- the sum of bytes -/
def sumB (l : List UInt8) : Nat := red (tot (wordAt l) ((l.length + 1) / 2))
theorem sumB_le (l : List UInt8) : sumB l ≤ 65535 := red_le _

theorem word_any (n : Int) (w : World) : Calls Try.prog 80 #[.int .i64 n] w fun e w' => e = .returned (.int .i64 (n % 65536)) ∧ w = w' := by
  have hb := i64_and65535 n
  go_enter Try.func80, Try.ntmps80
  go_wp2_with fail
  go_ret
  exact ⟨rfl, rfl⟩

theorem rAdd_any (a b : Int) (w : World) : Calls Try.prog 62 #[.int .i64 a, .int .i64 b] w fun e w' => e = .returned (.int .i64 (addw (wd a) (wd b))) ∧ w = w' := by
  have HA := Lib.hid (word_any a w)
  have HB := Lib.hid (word_any b w)
  have ha : (a % 65536) = (wd a : Int) := by unfold wd; omega
  have hb : (b % 65536) = (wd b : Int) := by unfold wd; omega
  rw [ha] at HA
  rw [hb] at HB
  have la : (wd a : Int) ≤ 65535 := by have := wd_le a; omega
  have lb : (wd b : Int) ≤ 65535 := by have := wd_le b; omega
  clear ha hb
  have hq : Hid (((addw (wd a) (wd b) : Nat) : Int) = if 65535 < (wd a : Int) + wd b then (wd a : Int) + wd b - 65535 else (wd a : Int) + wd b) := by
    show _ = _; unfold addw; split <;> split <;> omega
  generalize addw (wd a) (wd b) = q at *
  generalize wd a = x at *
  generalize wd b = y at *
  by_cases h : 65535 < (x : Int) + y
  · have HQ := Lib.hid (hq.out.trans (if_pos h))
    clear hq
    go_enter Try.func62, Try.ntmps62
    go_wp2_with fail
    refine HA.out.mono ?_
    rintro e w1 ⟨rfl, rfl⟩
    go_wp2_with fail
    refine HB.out.mono ?_
    rintro e w1 ⟨rfl, rfl⟩
    go_wp2_with fail
    go_ret
    exact ⟨by rw [HQ.out]; rfl, rfl⟩
  · have HQ := Lib.hid (hq.out.trans (if_neg h))
    clear hq
    go_enter Try.func62, Try.ntmps62
    go_wp2_with fail
    refine HA.out.mono ?_
    rintro e w1 ⟨rfl, rfl⟩
    go_wp2_with fail
    refine HB.out.mono ?_
    rintro e w1 ⟨rfl, rfl⟩
    go_wp2_with fail
    go_ret
    exact ⟨by rw [HQ.out]; rfl, rfl⟩

theorem rSum_any (v : Value) (l : List UInt8) (w : World) (hb : Bs w v l) (hl : (l.length : Int) ≤ 140737488355328) :
    Calls Try.prog 37 #[v] w fun e w' => e = .returned (.int .i64 (sumB l)) ∧ w = w' := by
  have HB := Lib.hid hb
  obtain ⟨ao, cap, rfl, b1, b2, b3, b4⟩ := hb
  clear b4
  have HADD : Hid (∀ (k : Nat) (x : Int), x = (wordAt l k : Nat) → Calls Try.prog 62 #[.int .i64 (red (tot (wordAt l) k) : Nat), .int .i64 x] w fun e w' => e = .returned (.int .i64 (red (tot (wordAt l) (k + 1)) : Nat)) ∧ w = w') := by
    intro k x hx
    subst hx
    have := rAdd_any (red (tot (wordAt l) k) : Nat) (wordAt l k : Nat) w
    rw [wd_nat (red_le _), wd_nat (wordAt_le l k), addw_red _ _ (wordAt_le l k)] at this
    exact this
  have HE : Hid (∀ k : Nat, ¬ 2 * (k : Int) < l.length → 2 * (k : Int) ≤ (l.length : Int) + 1 → red (tot (wordAt l) k) = sumB l) := by
    intro k h1 h2
    have : (l.length + 1) / 2 = k := by omega
    rw [sumB, this]
  go_enter Try.func37, Try.ntmps37
  go_wp2_with fail
  go_loop [3, 4] (fun s i => ∃ k : Nat, 2 * (k : Int) ≤ (l.length : Int) + 1 ∧ i = .int .i64 (2 * (k : Int)) ∧ s = .int .i64 (red (tot (wordAt l) k) : Nat)) (fun _ i => l.length + 1 - (intOf i).toNat)
  case atStart => exact ⟨0, by omega, rfl, rfl⟩
  case round =>
    obtain ⟨k, hk, rfl, rfl⟩ := hrel
    have hq := red_le (tot (wordAt l) k)
    by_cases hlt : 2 * (k : Int) < l.length
    · obtain ⟨ab, o, sp, rfl⟩ : ∃ ab o sp, ao = some ⟨ab, o, sp⟩ := by
        cases ao with
        | none => have := b3 rfl; omega
        | some ad => exact ⟨ad.block, ad.off, ad.spot, rfl⟩
      obtain ⟨x1, x2, x3, x4, x5, x6, x7⟩ := HB.out
      cases x3
      have hk2 : 2 * k < l.length := by omega
      obtain rfl : sp = none := (x7 _ rfl).1 (by intro he; subst he; simp at hk2)
      have c0 := (x7 _ rfl).2 (2 * k) l[2 * k] (by simp [hk2])
      rw [addr_add] at c0
      have g0 : l.getD (2 * k) 0 = l[2 * k] := by simp [List.getD, hk2]
      have r0 := l[2 * k].toNat_lt
      by_cases hlt2 : 2 * (k : Int) + 1 < l.length
      · -- a whole word
        have hk3 : 2 * k + 1 < l.length := by omega
        have c1 := (x7 _ rfl).2 (2 * k + 1) l[2 * k + 1] (by simp [hk3])
        rw [addr_add] at c1
        have g1 : l.getD (2 * k + 1) 0 = l[2 * k + 1] := by simp [List.getD, hk3]
        have r1 := l[2 * k + 1].toNat_lt
        have HC := Lib.hid (HADD.out k (256 * (l[2 * k].toNat : Int) + l[2 * k + 1].toNat) (by rw [wordAt, g0, g1]; omega))
        unfold b8 at c0 c1
        clear x7 g0 g1
        generalize l[2 * k].toNat = y0 at *
        generalize l[2 * k + 1].toNat = y1 at *
        have hqn := red_le (tot (wordAt l) (k + 1))
        generalize red (tot (wordAt l) k) = rr at *
        have hn : Hid (∃ nn, nn = red (tot (wordAt l) (k + 1))) := ⟨_, rfl⟩
        go_wp2_with fail
        refine HC.out.mono ?_
        rintro e w1 ⟨rfl, rfl⟩
        go_wp2_with fail
        exact ⟨⟨k + 1, by omega, by congr 1, rfl⟩, by simp [intOf]; omega⟩
      · -- the last byte of an odd number
        have g1 : l.getD (2 * k + 1) 0 = 0 := by simp [List.getD, List.getElem?_eq_none (show l.length ≤ 2 * k + 1 by omega)]
        have HC := Lib.hid (HADD.out k (256 * (l[2 * k].toNat : Int)) (by rw [wordAt, g0, g1]; simp))
        unfold b8 at c0
        clear x7 g0 g1
        generalize l[2 * k].toNat = y0 at *
        have hqn := red_le (tot (wordAt l) (k + 1))
        generalize red (tot (wordAt l) k) = rr at *
        have hn : Hid (∃ nn, nn = red (tot (wordAt l) (k + 1))) := ⟨_, rfl⟩
        go_wp2_with fail
        refine HC.out.mono ?_
        rintro e w1 ⟨rfl, rfl⟩
        go_wp2_with fail
        exact ⟨⟨k + 1, by omega, by congr 1, rfl⟩, by simp [intOf]; omega⟩
    · have HR := Lib.hid (HE.out k (by omega) hk)
      go_wp2_with fail
      go_ret
      exact ⟨by rw [HR.out]; rfl, rfl⟩

theorem rOf_any (v : Value) (l : List UInt8) (w : World) (hb : Bs w v l) (hl : (l.length : Int) ≤ 140737488355328) :
    Calls Try.prog 45 #[v] w fun e w' => e = .returned (.int .i64 (65535 - sumB l : Nat)) ∧ w = w' := by
  have HS := Lib.hid (rSum_any v l w hb hl)
  have h1 : (sumB l : Int) ≤ 65535 := by have := sumB_le l; omega
  have hq : Hid (((65535 - sumB l : Nat) : Int) = 65535 - sumB l) := by show _ = _; omega
  generalize (65535 - sumB l : Nat) = q at *
  generalize sumB l = x at *
  obtain ⟨ao, cap, rfl, b1, b2, b3, b4⟩ := hb
  clear b3 b4
  go_enter Try.func45, Try.ntmps45
  go_wp2_with fail
  refine HS.out.mono ?_
  rintro e w1 ⟨rfl, rfl⟩
  go_wp2_with fail
  go_ret
  exact ⟨by rw [hq.out]; rfl, rfl⟩

/-- an updated sum -/
def updW (s f t : Int) : Nat := 65535 - addw (addw (65535 - wd s) (65535 - wd f)) (wd t)

/-- a head that is not sent, in bytes -/
def pseudoB (s d p n : Int) : List UInt8 := [byteAt s 3, byteAt s 2, byteAt s 1, byteAt s 0, byteAt d 3, byteAt d 2, byteAt d 1, byteAt d 0, 0, byteAt p 0, byteAt (n % 65536) 1, byteAt (n % 65536) 0]

theorem pseudo_cells (s d p m : Int) (h0 : 0 ≤ m) (h1 : m ≤ 65535) : (([byteAt s 3, byteAt s 2, byteAt s 1, byteAt s 0, byteAt d 3, byteAt d 2, byteAt d 1, byteAt d 0, 0, byteAt p 0, byteAt m 1, byteAt m 0] : List UInt8).map b8).toArray =
    #[.int .u8 (s / 16777216 % 256), .int .u8 (s / 65536 % 256), .int .u8 (s / 256 % 256), .int .u8 (s % 256), .int .u8 (d / 16777216 % 256), .int .u8 (d / 65536 % 256), .int .u8 (d / 256 % 256), .int .u8 (d % 256), .int .u8 0, .int .u8 (p % 256), .int .u8 (m / 256), .int .u8 (m % 256)] := by
  have e : m / 256 = m / 256 % 256 := by omega
  rw [e]
  simp only [List.map_cons, List.map_nil, b8_byteAt]
  simp [b8]

end Go.Proofs.Yteoleblnhcnpkaa
