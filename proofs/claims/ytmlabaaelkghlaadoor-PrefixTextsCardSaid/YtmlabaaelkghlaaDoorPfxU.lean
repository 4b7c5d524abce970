/- The developers' ParseAddr, at every text. No condition beyond what it names. -/
import Derived.Test.YtmlabaaelkghlaaDoorPfxV
import Derived.LoopTactic
namespace Go.Proofs.YtmlabaaelkghlaaDoor
open Go.RowKit
set_option linter.unusedVariables false
set_option maxRecDepth 100000

theorem bitsO (x y : Nat) (hx : x < 4294967296) (hy : y < 4294967296) : bits .or .u32 (x : Int) (y : Int) = ((x ||| y : Nat) : Int) := by
  show IntKind.u32.wrap ((BitVec.ofInt 32 x ||| BitVec.ofInt 32 y).toNat : Nat) = _
  have h : x ||| y < 4294967296 := Nat.or_lt_two_pow (n := 32) hx hy
  rw [BitVec.toNat_or, BitVec.toNat_ofInt, BitVec.toNat_ofInt, IntKind.wrap_u32]
  have e1 : ((x : Int) % ((2 ^ 32 : Nat) : Int)).toNat = x := by omega
  have e2 : ((y : Int) % ((2 ^ 32 : Nat) : Int)).toNat = y := by omega
  rw [e1, e2]
  omega
theorem orD (X y i : Nat) (hy : y < 2 ^ i) : (X * 2 ^ i) ||| y = X * 2 ^ i + y := by
  rw [← Nat.shiftLeft_eq, Nat.shiftLeft_add_eq_or_of_lt hy]
/-- one more number of an address -/
theorem or_num (A n j : Nat) (hA : A < 4294967296) (hn : n ≤ 255) (hj : j ≤ 3) (hX : ∃ X, A = X * 256 ^ (j + 1)) :
    bits .or .u32 (A : Int) ((n : Int) * 2 ^ (8 * j) % 4294967296) = ((A + n * 256 ^ j : Nat) : Int) ∧ A + n * 256 ^ j < 4294967296 ∧ ∃ X, A + n * 256 ^ j = X * 256 ^ j := by
  obtain ⟨X, hX⟩ := hX
  have hp : (256 : Nat) ^ (j + 1) = 256 * 256 ^ j := by rw [Nat.pow_succ, Nat.mul_comm]
  have h2 : (2 : Nat) ^ (8 * (j + 1)) = 256 ^ (j + 1) := by rw [Nat.pow_mul]
  have h3 : (2 : Int) ^ (8 * j) = ((256 ^ j : Nat) : Int) := by rw [Int.pow_mul]; simp
  have hsm : n * 256 ^ j < 256 ^ (j + 1) := by
    rw [hp]
    exact Nat.mul_lt_mul_of_pos_right (by omega) (Nat.pow_pos (by omega))
  have h4 : (256 : Nat) ^ (j + 1) ≤ 4294967296 := Nat.le_trans (Nat.pow_le_pow_right (by omega) (show j + 1 ≤ 4 by omega)) (by decide)
  have e : ((n : Int) * 2 ^ (8 * j) % 4294967296) = ((n * 256 ^ j : Nat) : Int) := by
    rw [h3, ← Int.natCast_mul]; omega
  have hsum : A + n * 256 ^ j < 4294967296 := by
    have hd : (4294967296 : Nat) = 256 ^ (3 - j) * 256 ^ (j + 1) := by rw [← Nat.pow_add, show 3 - j + (j + 1) = 4 by omega]
    rw [hX, hd] at hA
    have hXl : X < 256 ^ (3 - j) := Nat.lt_of_mul_lt_mul_right hA
    have : (X + 1) * 256 ^ (j + 1) ≤ 256 ^ (3 - j) * 256 ^ (j + 1) := Nat.mul_le_mul_right _ hXl
    rw [Nat.add_mul, Nat.one_mul] at this
    rw [hX, hd]; omega
  refine ⟨?_, hsum, 256 * X + n, ?_⟩
  · rw [e, bitsO A _ hA (by omega), hX, ← h2, orD X _ _ (by rw [h2]; exact hsm)]
  · rw [hX, hp, Nat.add_mul]
    congr 1
    rw [Nat.mul_comm 256 X, Nat.mul_assoc]

/-- what is left of an address's text: k more numbers -/
def finA : Nat → List UInt8 → Nat → Option Nat
  | 0, l, A => if l = [] then some A else none
  | k + 1, l, A =>
    if (cutN 255 l).2.2 = true then
      if k = 0 then finA 0 (cutN 255 l).2.1 (A + (cutN 255 l).1 * 256 ^ k)
      else if Lib.hasPrefix (cutN 255 l).2.1 [46] = true then finA k (Lib.trimPrefix (cutN 255 l).2.1 [46]) (A + (cutN 255 l).1 * 256 ^ k) else none
    else none
def paV : Option Nat → Value
  | none => .tuple #[.int .u32 0, .bool false]
  | some a => .tuple #[.int .u32 a, .bool true]
theorem trim_len (l q : List UInt8) : (Lib.trimPrefix l q).length ≤ l.length := by unfold Lib.trimPrefix; split <;> simp

set_option maxHeartbeats 3000000 in
theorem ParseAddr_any (s : ByteArray) (hs : s.size ≤ 140737488355328) (w : World) :
    Calls Tryd.prog 6 #[.string s] w fun e w' => e = .returned (paV (finA 4 s.data.toList 0)) ∧ Same w w' := by
  obtain ⟨R, hR⟩ : ∃ R, R = finA 4 s.data.toList 0 := ⟨_, rfl⟩
  rw [← hR]
  have hss : (⟨s.data.toList.toArray⟩ : ByteArray) = s := by cases s; rfl
  have hsl : s.data.toList.length = s.size := Array.length_toList
  go_enter Tryd.func6, Tryd.ntmps6
  go_wp2_with fail
  go_loopw [0, 4, 5] (fun sv av tv wr => ∃ (k : Nat) (T : Int) (l : List UInt8) (A : Nat), k ≤ 4 ∧ sv = .string ⟨l.toArray⟩ ∧ l.length ≤ 140737488355328 ∧ av = .int .u32 A ∧ tv = .int .i64 T ∧ T = 8 * (k : Int) - 8 ∧ A < 4294967296 ∧ (∃ X, A = X * 256 ^ k) ∧ Same w wr ∧ finA k l A = R) (fun _ _ tv _ => (intOf tv + 8).toNat)
  case atStart => exact ⟨4, 24, s.data.toList, 0, Nat.le_refl _, by cases s; rfl, by omega, rfl, rfl, by omega, by omega, ⟨0, by simp⟩, Same.refl _, hR.symm⟩
  case round =>
    obtain ⟨k, T, l, A, hk, rfl, hl, rfl, rfl, hT, hA, hX, hsm, hfin⟩ := hrel
    have HS := Lib.hid hsm
    clear hsm
    have HC := fun w => Lib.hid (cutNumber_any 255 (by omega) ⟨l.toArray⟩ (by simpa [ByteArray.size] using hl) w)
    rw [show (⟨l.toArray⟩ : ByteArray).data.toList = l from rfl] at HC
    obtain ⟨hn, hrl⟩ := cutN_le 255 l
    have HN := Lib.hid hn
    have HRL := Lib.hid hrl
    clear hn hrl
    obtain rfl | rfl | rfl | rfl | rfl := (show k = 4 ∨ k = 3 ∨ k = 2 ∨ k = 1 ∨ k = 0 by omega)
    · obtain rfl : T = 24 := by omega
      clear hT
      rw [finA] at hfin
      have HO := Lib.hid (or_num A (cutN 255 l).1 3 hA HN.out (by omega) hX)
      rcases hok : (cutN 255 l).2.2 with _ | _
      · rw [hok] at HC hfin
        rw [if_neg (by simp)] at hfin
        subst hfin
        generalize (cutN 255 l).1 = n at *
        generalize (cutN 255 l).2.1 = rest at *
        go_wp2_with fail
        refine (HC _).out.mono ?_
        rintro e u ⟨rfl, hu⟩
        go_wp2_with fail
        go_ret2
        exact ⟨rfl, HS.out.trans hu⟩
      · rw [hok] at HC hfin
        rw [if_pos rfl] at hfin
        rw [if_neg (by omega)] at hfin
        have HCP := fun w => Lib.hid (CutPrefix_any ⟨(cutN 255 l).2.1.toArray⟩ ⟨#[46]⟩ w)
        rw [show (⟨(cutN 255 l).2.1.toArray⟩ : ByteArray).data.toList = (cutN 255 l).2.1 from rfl, show (⟨#[46]⟩ : ByteArray).data.toList = [46] from rfl] at HCP
        have HTL := Lib.hid (trim_len (cutN 255 l).2.1 [46])
        generalize (cutN 255 l).1 = n at *
        generalize (cutN 255 l).2.1 = rest at *
        have hn255 : (n : Int) ≤ 255 := by have := HN.out; omega
        obtain ⟨ho1, ho2, ho3⟩ := HO.out
        have ho1' : bits .or .u32 (A : Int) ((n : Int) * 16777216) = ((A + n * 256 ^ 3 : Nat) : Int) := by (rw [← ho1, show ((2 : Int) ^ (8 * 3)) = 16777216 from by decide, Int.emod_eq_of_lt (by omega) (by omega)])
        generalize hA2 : A + n * 256 ^ 3 = A2 at *
        have HO1 := Lib.hid ho1'
        clear ho1 ho1' hA2 HO
        rcases hpf : Lib.hasPrefix rest [46] with _ | _
        · rw [hpf] at HCP hfin
          rw [if_neg (by simp)] at hfin
          subst hfin
          generalize Lib.trimPrefix rest [46] = tr at *
          go_wp2_with fail
          refine (HC _).out.mono ?_
          rintro e u ⟨rfl, hu⟩
          go_wp2_with fail
          refine (HCP _).out.mono ?_
          rintro e u2 ⟨rfl, hu2⟩
          go_wp2_with fail
          go_ret2
          exact ⟨rfl, HS.out.trans (hu.trans hu2)⟩
        · rw [hpf] at HCP hfin
          rw [if_pos rfl] at hfin
          generalize Lib.trimPrefix rest [46] = tr at *
          go_wp2_with fail
          refine (HC _).out.mono ?_
          rintro e u ⟨rfl, hu⟩
          go_wp2_with fail
          refine (HCP _).out.mono ?_
          rintro e u2 ⟨rfl, hu2⟩
          go_wp2_with fail
          exact ⟨⟨3, 16, tr, A2, by omega, rfl, by have := HRL.out; have := HTL.out; omega, by first | rfl | (congr 1; done) | (congr 1; exact HO1.out) | (congr 1; simpa using HO1.out), rfl, by omega, ho2, ho3, HS.out.trans (hu.trans hu2), hfin⟩, by simp [intOf]⟩
    · obtain rfl : T = 16 := by omega
      clear hT
      rw [finA] at hfin
      have HO := Lib.hid (or_num A (cutN 255 l).1 2 hA HN.out (by omega) hX)
      rcases hok : (cutN 255 l).2.2 with _ | _
      · rw [hok] at HC hfin
        rw [if_neg (by simp)] at hfin
        subst hfin
        generalize (cutN 255 l).1 = n at *
        generalize (cutN 255 l).2.1 = rest at *
        go_wp2_with fail
        refine (HC _).out.mono ?_
        rintro e u ⟨rfl, hu⟩
        go_wp2_with fail
        go_ret2
        exact ⟨rfl, HS.out.trans hu⟩
      · rw [hok] at HC hfin
        rw [if_pos rfl] at hfin
        rw [if_neg (by omega)] at hfin
        have HCP := fun w => Lib.hid (CutPrefix_any ⟨(cutN 255 l).2.1.toArray⟩ ⟨#[46]⟩ w)
        rw [show (⟨(cutN 255 l).2.1.toArray⟩ : ByteArray).data.toList = (cutN 255 l).2.1 from rfl, show (⟨#[46]⟩ : ByteArray).data.toList = [46] from rfl] at HCP
        have HTL := Lib.hid (trim_len (cutN 255 l).2.1 [46])
        generalize (cutN 255 l).1 = n at *
        generalize (cutN 255 l).2.1 = rest at *
        have hn255 : (n : Int) ≤ 255 := by have := HN.out; omega
        obtain ⟨ho1, ho2, ho3⟩ := HO.out
        have ho1' : bits .or .u32 (A : Int) ((n : Int) * 65536) = ((A + n * 256 ^ 2 : Nat) : Int) := by (rw [← ho1, show ((2 : Int) ^ (8 * 2)) = 65536 from by decide, Int.emod_eq_of_lt (by omega) (by omega)])
        generalize hA2 : A + n * 256 ^ 2 = A2 at *
        have HO1 := Lib.hid ho1'
        clear ho1 ho1' hA2 HO
        rcases hpf : Lib.hasPrefix rest [46] with _ | _
        · rw [hpf] at HCP hfin
          rw [if_neg (by simp)] at hfin
          subst hfin
          generalize Lib.trimPrefix rest [46] = tr at *
          go_wp2_with fail
          refine (HC _).out.mono ?_
          rintro e u ⟨rfl, hu⟩
          go_wp2_with fail
          refine (HCP _).out.mono ?_
          rintro e u2 ⟨rfl, hu2⟩
          go_wp2_with fail
          go_ret2
          exact ⟨rfl, HS.out.trans (hu.trans hu2)⟩
        · rw [hpf] at HCP hfin
          rw [if_pos rfl] at hfin
          generalize Lib.trimPrefix rest [46] = tr at *
          go_wp2_with fail
          refine (HC _).out.mono ?_
          rintro e u ⟨rfl, hu⟩
          go_wp2_with fail
          refine (HCP _).out.mono ?_
          rintro e u2 ⟨rfl, hu2⟩
          go_wp2_with fail
          exact ⟨⟨2, 8, tr, A2, by omega, rfl, by have := HRL.out; have := HTL.out; omega, by first | rfl | (congr 1; done) | (congr 1; exact HO1.out) | (congr 1; simpa using HO1.out), rfl, by omega, ho2, ho3, HS.out.trans (hu.trans hu2), hfin⟩, by simp [intOf]⟩
    · obtain rfl : T = 8 := by omega
      clear hT
      rw [finA] at hfin
      have HO := Lib.hid (or_num A (cutN 255 l).1 1 hA HN.out (by omega) hX)
      rcases hok : (cutN 255 l).2.2 with _ | _
      · rw [hok] at HC hfin
        rw [if_neg (by simp)] at hfin
        subst hfin
        generalize (cutN 255 l).1 = n at *
        generalize (cutN 255 l).2.1 = rest at *
        go_wp2_with fail
        refine (HC _).out.mono ?_
        rintro e u ⟨rfl, hu⟩
        go_wp2_with fail
        go_ret2
        exact ⟨rfl, HS.out.trans hu⟩
      · rw [hok] at HC hfin
        rw [if_pos rfl] at hfin
        rw [if_neg (by omega)] at hfin
        have HCP := fun w => Lib.hid (CutPrefix_any ⟨(cutN 255 l).2.1.toArray⟩ ⟨#[46]⟩ w)
        rw [show (⟨(cutN 255 l).2.1.toArray⟩ : ByteArray).data.toList = (cutN 255 l).2.1 from rfl, show (⟨#[46]⟩ : ByteArray).data.toList = [46] from rfl] at HCP
        have HTL := Lib.hid (trim_len (cutN 255 l).2.1 [46])
        generalize (cutN 255 l).1 = n at *
        generalize (cutN 255 l).2.1 = rest at *
        have hn255 : (n : Int) ≤ 255 := by have := HN.out; omega
        obtain ⟨ho1, ho2, ho3⟩ := HO.out
        have ho1' : bits .or .u32 (A : Int) ((n : Int) * 256) = ((A + n * 256 ^ 1 : Nat) : Int) := by (rw [← ho1, show ((2 : Int) ^ (8 * 1)) = 256 from by decide, Int.emod_eq_of_lt (by omega) (by omega)])
        generalize hA2 : A + n * 256 ^ 1 = A2 at *
        have HO1 := Lib.hid ho1'
        clear ho1 ho1' hA2 HO
        rcases hpf : Lib.hasPrefix rest [46] with _ | _
        · rw [hpf] at HCP hfin
          rw [if_neg (by simp)] at hfin
          subst hfin
          generalize Lib.trimPrefix rest [46] = tr at *
          go_wp2_with fail
          refine (HC _).out.mono ?_
          rintro e u ⟨rfl, hu⟩
          go_wp2_with fail
          refine (HCP _).out.mono ?_
          rintro e u2 ⟨rfl, hu2⟩
          go_wp2_with fail
          go_ret2
          exact ⟨rfl, HS.out.trans (hu.trans hu2)⟩
        · rw [hpf] at HCP hfin
          rw [if_pos rfl] at hfin
          generalize Lib.trimPrefix rest [46] = tr at *
          go_wp2_with fail
          refine (HC _).out.mono ?_
          rintro e u ⟨rfl, hu⟩
          go_wp2_with fail
          refine (HCP _).out.mono ?_
          rintro e u2 ⟨rfl, hu2⟩
          go_wp2_with fail
          exact ⟨⟨1, 0, tr, A2, by omega, rfl, by have := HRL.out; have := HTL.out; omega, by first | rfl | (congr 1; done) | (congr 1; exact HO1.out) | (congr 1; simpa using HO1.out), rfl, by omega, ho2, ho3, HS.out.trans (hu.trans hu2), hfin⟩, by simp [intOf]⟩
    · obtain rfl : T = 0 := by omega
      clear hT
      rw [finA] at hfin
      have HO := Lib.hid (or_num A (cutN 255 l).1 0 hA HN.out (by omega) hX)
      rcases hok : (cutN 255 l).2.2 with _ | _
      · rw [hok] at HC hfin
        rw [if_neg (by simp)] at hfin
        subst hfin
        generalize (cutN 255 l).1 = n at *
        generalize (cutN 255 l).2.1 = rest at *
        go_wp2_with fail
        refine (HC _).out.mono ?_
        rintro e u ⟨rfl, hu⟩
        go_wp2_with fail
        go_ret2
        exact ⟨rfl, HS.out.trans hu⟩
      · rw [hok] at HC hfin
        rw [if_pos rfl] at hfin
        rw [if_pos rfl] at hfin
        generalize (cutN 255 l).1 = n at *
        generalize (cutN 255 l).2.1 = rest at *
        have hn255 : (n : Int) ≤ 255 := by have := HN.out; omega
        obtain ⟨ho1, ho2, ho3⟩ := HO.out
        have ho1' : bits .or .u32 (A : Int) ((n : Int) * 1) = ((A + n * 256 ^ 0 : Nat) : Int) := by (rw [← ho1, show ((2 : Int) ^ (8 * 0)) = 1 from by decide, Int.emod_eq_of_lt (by omega) (by omega)])
        generalize hA2 : A + n * 256 ^ 0 = A2 at *
        have HO1 := Lib.hid ho1'
        clear ho1 ho1' hA2 HO
        go_wp2_with fail
        refine (HC _).out.mono ?_
        rintro e u ⟨rfl, hu⟩
        go_wp2_with fail
        exact ⟨⟨0, -8, rest, A2, by omega, rfl, by have := HRL.out; omega, by first | rfl | (congr 1; done) | (congr 1; exact HO1.out) | (congr 1; simpa using HO1.out), rfl, by omega, ho2, ho3, HS.out.trans hu, hfin⟩, by simp [intOf]⟩
    · have hT8 : T < 0 := by omega
      clear HC HN HRL hT
      rw [finA] at hfin
      have hte : (⟨l.toArray⟩ : ByteArray).toList = l := by rw [ByteArray.toList_eq]
      by_cases hle : l = []
      · subst hle
        rw [if_pos rfl] at hfin
        subst hfin
        go_wp2_with fail
        go_ret2
        exact ⟨rfl, HS.out⟩
      · rw [if_neg hle] at hfin
        subst hfin
        obtain ⟨c, t, rfl⟩ : ∃ c t, l = c :: t := List.exists_cons_of_ne_nil hle
        clear hle
        have hem : List.isEmpty (c :: t) = false := rfl
        go_wp2_with fail
        go_ret2
        exact ⟨rfl, HS.out⟩
end Go.Proofs.YtmlabaaelkghlaaDoor
