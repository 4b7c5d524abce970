/- The document's own ParseAddr, at every text. No condition beyond what it names. -/
import Derived.Test.YtmlabaaelkghlaaDoorPfxYR
import Derived.Test.YtmlabaaelkghlaaDoorPfxU
import Derived.LoopTactic
namespace Go.Proofs.YtmlabaaelkghlaaDoor
open Go.RowKit
set_option linter.unusedVariables false
set_option maxRecDepth 100000

def refGo : List UInt8 → Nat → Nat → Nat → Nat → Option (Nat × Nat)
  | [], a, n, part, dg => if dg = 0 ∨ 255 < part then none else some (a * 256 % 4294967296 + part, n + 1)
  | c :: t, a, n, part, dg =>
    if c.toNat = 46 then (if dg = 0 ∨ 255 < part then none else refGo t (a * 256 % 4294967296 + part) (n + 1) 0 0)
    else if c.toNat < 48 ∨ 57 < c.toNat ∨ 2 < dg then none else refGo t a n (10 * part + (c.toNat - 48)) (dg + 1)
def refM (l : List UInt8) : Option Nat := match refGo l 0 0 0 0 with
  | none => none
  | some (a, n) => if n = 4 ∧ addrL a = l then some a else none

theorem or_part (a p : Nat) (ha : a < 4294967296) (hp : p ≤ 255) : bits .or .u32 ((a : Int) * 256 % 4294967296) (p : Int) = ((a * 256 % 4294967296 + p : Nat) : Int) := by
  have e : ((a : Int) * 256 % 4294967296) = ((a * 256 % 4294967296 : Nat) : Int) := by omega
  rw [e, bitsO _ _ (Nat.mod_lt _ (by omega)) (by omega)]
  obtain ⟨X, hX⟩ : ∃ X, a * 256 % 4294967296 = X * 2 ^ 8 := ⟨a * 256 % 4294967296 / 256, by omega⟩
  rw [hX, orD X p 8 (by omega)]

theorem rParseAddr_any (s : ByteArray) (hs : s.size ≤ 1000) (w : World) :
    Calls Tryd.prog 7 #[.string s] w fun e w' => e = .returned (paV (refM s.data.toList)) ∧ Same w w' := by
  obtain ⟨R, hR⟩ : ∃ R, R = refGo s.data.toList 0 0 0 0 := ⟨_, rfl⟩
  have hsl : s.data.toList.length = s.size := Array.length_toList
  have HSL := Lib.hid hsl
  have hsb : (s.size : Int) ≤ 1000 := by omega
  unfold refM
  rw [← hR]
  obtain ⟨RM, hRM0⟩ : ∃ RM, RM = (match R with
    | none => none
    | some (a, n) => if n = 4 ∧ addrL a = s.data.toList then some a else none : Option Nat) := ⟨_, rfl⟩
  rw [← hRM0]
  have hRM := Lib.hid hRM0
  clear hsl hRM0
  go_enter Tryd.func7, Tryd.ntmps7
  go_wp2_with fail
  go_loop [4, 5, 6, 7, 8] (fun av nv pv dv iv => ∃ pos A N p d : Nat, pos ≤ s.size + 1 ∧ av = .int .u32 A ∧ nv = .int .i64 N ∧ pv = .int .i64 p ∧ dv = .int .i64 d ∧ iv = .int .i64 pos ∧ A < 4294967296 ∧ N ≤ 1001 ∧ N ≤ pos ∧ d ≤ 3 ∧ p < 10 ^ d ∧ (pos ≤ s.size → refGo (s.data.toList.drop pos) A N p d = R) ∧ (pos = s.size + 1 → R = some (A, N))) (fun _ _ _ _ iv => s.size + 1 - (intOf iv).toNat)
  case atStart => exact ⟨0, 0, 0, 0, 0, by omega, rfl, rfl, rfl, rfl, rfl, by omega, by omega, by omega, by omega, by decide, fun _ => hR.symm, fun h => by omega⟩
  case round =>
    obtain ⟨pos, A, N, p, d, hpos, rfl, rfl, rfl, rfl, rfl, hA, hN, hNp, hd, hpd, hgo, hend⟩ := hrel
    by_cases hle : pos ≤ s.size
    · have hgo := hgo hle
      clear hend
      have hp999 : p < 1000 := Nat.lt_of_lt_of_le hpd (Nat.le_trans (Nat.pow_le_pow_right (by omega) hd) (by decide))
      have hle' : (pos : Int) ≤ s.size := by omega
      by_cases heq : pos = s.size
      · have heq' : ((pos : Int) == (s.size : Int)) = true := by rw [beq_iff_eq]; omega
        rw [List.drop_of_length_le (by have := HSL.out; omega), refGo] at hgo
        by_cases hd0 : d = 0
        · have hd0' : ((d : Int) == 0) = true := by rw [beq_iff_eq]; omega
          rw [if_pos (.inl hd0)] at hgo
          subst hgo
          have hRM := hRM.out
          subst hRM
          go_wp2_with fail
          go_ret2
          exact ⟨rfl, Same.refl _⟩
        · have hd0' : ((d : Int) == 0) = false := by rw [beq_eq_false_iff_ne]; omega
          by_cases hp : 255 < p
          · have hp' : (255 : Int) < p := by omega
            rw [if_pos (.inr hp)] at hgo
            subst hgo
            have hRM := hRM.out
            subst hRM
            go_wp2_with fail
            go_ret2
            exact ⟨rfl, Same.refl _⟩
          · have hp' : (p : Int) ≤ 255 := by omega
            rw [if_neg (by omega)] at hgo
            have ho := Lib.hid (or_part A p hA (by omega))
            have hA2 : A * 256 % 4294967296 + p < 4294967296 := by omega
            have hA2e := Lib.hid hA2
            generalize hAA : A * 256 % 4294967296 + p = A2 at *
            have hp4 : (p : Int) % 4294967296 = p := by omega
            have hNi : (N : Int) ≤ 1001 := by omega
            clear hAA hpd hp999
            go_wp2_with fail
            exact ⟨⟨s.size + 1, A2, N + 1, 0, 0, by omega, by rw [ho.out], by go_num, rfl, rfl, by go_num, hA2e.out, by omega, by omega, by omega, by decide, fun h => by omega, fun _ => hgo.symm⟩, by simp [intOf]; omega⟩
      · have heq' : ((pos : Int) == (s.size : Int)) = false := by rw [beq_eq_false_iff_ne]; omega
        have hlt : pos < s.size := by omega
        have hlt' : (pos : Int) < s.size := by omega
        clear heq
        have hdrop : s.data.toList.drop pos = s[pos] :: s.data.toList.drop (pos + 1) := by
          rw [List.drop_eq_getElem_cons (by have := HSL.out; omega)]; rfl
        rw [hdrop, refGo] at hgo
        clear hdrop
        by_cases h46 : s[pos].toNat = 46
        · have h46' : ((s[pos].toNat : Int) == 46) = true := by rw [beq_iff_eq]; omega
          rw [if_pos h46] at hgo
          by_cases hd0 : d = 0
          · have hd0' : ((d : Int) == 0) = true := by rw [beq_iff_eq]; omega
            rw [if_pos (.inl hd0)] at hgo
            subst hgo
            have hRM := hRM.out
            subst hRM
            go_wp2_with fail
            go_ret2
            exact ⟨rfl, Same.refl _⟩
          · have hd0' : ((d : Int) == 0) = false := by rw [beq_eq_false_iff_ne]; omega
            by_cases hp : 255 < p
            · have hp' : (255 : Int) < p := by omega
              rw [if_pos (.inr hp)] at hgo
              subst hgo
              have hRM := hRM.out
              subst hRM
              go_wp2_with fail
              go_ret2
              exact ⟨rfl, Same.refl _⟩
            · have hp' : (p : Int) ≤ 255 := by omega
              rw [if_neg (by omega)] at hgo
              have ho := Lib.hid (or_part A p hA (by omega))
              have hA2 : A * 256 % 4294967296 + p < 4294967296 := by omega
              have hA2e := Lib.hid hA2
              generalize hAA : A * 256 % 4294967296 + p = A2 at *
              have hp4 : (p : Int) % 4294967296 = p := by omega
              have hNi : (N : Int) ≤ 1001 := by omega
              clear hAA hpd hp999
              go_wp2_with fail
              exact ⟨⟨pos + 1, A2, N + 1, 0, 0, by omega, by rw [ho.out], by go_num, rfl, rfl, by go_num, hA2e.out, by omega, by omega, by omega, by decide, fun _ => hgo, fun h => by omega⟩, by simp [intOf]; omega⟩
        · have h46' : ((s[pos].toNat : Int) == 46) = false := by rw [beq_eq_false_iff_ne]; omega
          rw [if_neg h46] at hgo
          have hcu := s[pos].toNat_lt
          by_cases h48 : s[pos].toNat < 48
          · have h48' : (s[pos].toNat : Int) < 48 := by omega
            rw [if_pos (.inl h48)] at hgo
            subst hgo
            have hRM := hRM.out
            subst hRM
            go_wp2_with fail
            go_ret2
            exact ⟨rfl, Same.refl _⟩
          · by_cases h57 : 57 < s[pos].toNat
            · have h57' : (57 : Int) < (s[pos].toNat : Int) := by omega
              have h48' : decide ((s[pos].toNat : Int) < 48) = false := by rw [decide_eq_false_iff_not]; omega
              rw [if_pos (.inr (.inl h57))] at hgo
              subst hgo
              have hRM := hRM.out
              subst hRM
              go_wp2_with fail
              go_ret2
              exact ⟨rfl, Same.refl _⟩
            · have h57' : decide ((57 : Int) < (s[pos].toNat : Int)) = false := by rw [decide_eq_false_iff_not]; omega
              have h48' : decide ((s[pos].toNat : Int) < 48) = false := by rw [decide_eq_false_iff_not]; omega
              by_cases hd2 : 2 < d
              · have hd2' : (2 : Int) < (d : Int) := by omega
                rw [if_pos (.inr (.inr hd2))] at hgo
                subst hgo
                have hRM := hRM.out
                subst hRM
                go_wp2_with fail
                go_ret2
                exact ⟨rfl, Same.refl _⟩
              · have hd2' : decide ((2 : Int) < (d : Int)) = false := by rw [decide_eq_false_iff_not]; omega
                rw [if_neg (by omega)] at hgo
                obtain ⟨x, hx⟩ : ∃ x, s[pos].toNat = 48 + x := ⟨s[pos].toNat - 48, by omega⟩
                have hx9 : x ≤ 9 := by omega
                rw [show s[pos].toNat - 48 = x from by omega] at hgo
                have hsub : IntKind.u8.wrap ((s[pos].toNat : Int) - 48) = x := by rw [IntKind.wrap_u8]; omega
                have hsub2 : ((s[pos].toNat : Int) - 48) % 256 = x := by omega
                have hpd2 : 10 * p + x < 10 ^ (d + 1) := by rw [Nat.pow_succ]; omega
                have hp1000 : (p : Int) ≤ 1000 := by omega
                have hx9i : (x : Int) ≤ 9 := by omega
                have hx0 : (s[pos].toNat : Int) - 48 = x := by omega
                have hPD := Lib.hid hpd2
                clear hpd hpd2
                go_wp2_with fail
                exact ⟨⟨pos + 1, A, N, 10 * p + x, d + 1, by omega, rfl, rfl, by go_num, by go_num, by go_num, hA, hN, by omega, by omega, hPD.out, fun _ => hgo, fun h => by omega⟩, by simp [intOf]; omega⟩
    · have hp1 : pos = s.size + 1 := by omega
      have hend := hend hp1
      clear hgo
      have hle' : decide ((pos : Int) ≤ s.size) = false := by rw [decide_eq_false_iff_not]; omega
      have hRM := hRM.out
      rw [hend] at hRM
      dsimp only at hRM
      by_cases hN4 : N = 4
      · subst hN4
        have HA := fun w => Lib.hid (rAddr_any A (by omega) (by omega) w)
        by_cases hal : addrL A = s.data.toList
        · rw [if_pos ⟨rfl, hal⟩] at hRM
          subst hRM
          rw [hal] at HA
          have hss : (⟨s.data.toList.toArray⟩ : ByteArray) = s := by cases s; rfl
          rw [hss] at HA
          clear hss hal
          go_wp2_with fail
          refine (HA _).out.mono ?_
          rintro e u ⟨rfl, rfl⟩
          go_wp2_with fail
          go_ret2
          exact ⟨rfl, Same.refl _⟩
        · rw [if_neg (fun h => hal h.2)] at hRM
          subst hRM
          have hne : ((⟨(addrL A).toArray⟩ : ByteArray).toList == s.toList) = false := by
            rw [ByteArray.toList_eq, ByteArray.toList_eq, beq_eq_false_iff_ne]
            exact hal
          generalize (⟨(addrL A).toArray⟩ : ByteArray) = sb at *
          go_wp2_with fail
          refine (HA _).out.mono ?_
          rintro e u ⟨rfl, rfl⟩
          go_wp2_with fail
          go_ret2
          exact ⟨rfl, Same.refl _⟩
      · have hN4' : ((N : Int) != 4) = true := by rw [bne_iff_ne]; omega
        rw [if_neg (fun h => hN4 h.1)] at hRM
        subst hRM
        go_wp2_with fail
        go_ret2
        exact ⟨rfl, Same.refl _⟩
end Go.Proofs.YtmlabaaelkghlaaDoor
