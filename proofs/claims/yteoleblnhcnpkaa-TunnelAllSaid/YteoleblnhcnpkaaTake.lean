/- Contracts of the calls of a source that a call made. No condition beyond what each names. -/
import Derived.Test.YteoleblnhcnpkaaGet
namespace Go.Proofs.Yteoleblnhcnpkaa
open Go.RowKit
set_option linter.unusedVariables false

/-- what End tells -/
def endOf (l : List UInt8) (a : Nat) (er : Int) : Int := if er = 0 ∧ a < l.length then 4 else er

theorem step_cases (l : List UInt8) (a : Nat) (er n : Int) : stepOut l a er n = none ∨ ∃ k : Nat, n = k ∧ er = 0 ∧ a + k ≤ l.length := by
  unfold stepOut
  by_cases h : er = 0 ∧ 0 ≤ n ∧ n ≤ (l.length : Int) - a
  · exact .inr ⟨n.toNat, by omega, h.1, by omega⟩
  · exact .inl (if_neg h)

theorem cutCell (w : World) (s : Nat) : (w.alloc (.cells #[.pointer (some ⟨s, 0, none⟩)] 84)).cell? ⟨w.heap.size, 0, none⟩ = some (.pointer (some ⟨s, 0, none⟩)) := by simp

theorem numOf_lt4 (l : List UInt8) (h : l.length ≤ 4) : numOf l < 4294967296 := by
  have h1 := numOf_lt l
  have h2 : 256 ^ l.length ≤ 256 ^ 4 := Nat.pow_le_pow_right (by omega) h
  omega

theorem U8_made (s : Nat) (all : Value) (l : List UInt8) (a : Nat) (er : Int) (w : World) (h : SrcB w s all l a er) :
    Calls Try.prog 48 #[.pointer (some ⟨s, 0, none⟩)] w fun e w' => e = .returned (.int .i64 (numOut (stepOut l a er 1))) ∧ Mod s w w' ∧ SrcB w' s all l (stepAt l a er 1) (stepErr l a er 1) := by
  have hsm := Lib.hid (Same.alloc w (.cells #[.pointer (some ⟨s, 0, none⟩)] 84))
  rcases step_cases l a er 1 with hno | ⟨k, hk, rfl, hle⟩
  · have HC := Lib.hid (next_no_U s w.heap.size all l a er 1 _ (h.same hsm.out) hno)
    rw [hno]
    clear hno
    go_enter Try.func48, Try.ntmps48
    go_wp2_with fail
    refine (cut_any _ _).mono ?_
    rintro e w1 ⟨rfl, rfl⟩
    go_wp2_with fail
    refine HC.out.mono ?_
    rintro e w2 ⟨rfl, hm, hs⟩
    go_wp2_with fail
    go_ret
    exact ⟨rfl, (Mod.of_same hsm.out).trans hm, hs⟩
  · obtain rfl : k = 1 := by omega
    have e1 : stepOut l a 0 1 = _ := (step_yes hle).1
    have e2 : stepAt l a 0 1 = _ := (step_yes hle).2.1
    have e3 : stepErr l a 0 1 = _ := (step_yes hle).2.2
    have HC := Lib.hid (nextU_yes s w.heap.size all l a 1 (by omega) _ (h.same hsm.out) (cutCell w s) hle)
    have hlt := numOf_lt4 ((l.drop a).take 1) (by simp; omega)
    rw [e1, e2, e3, numOut]
    clear e1 e2 e3 hk
    generalize numOf ((l.drop a).take 1) = q at *
    go_enter Try.func48, Try.ntmps48
    go_wp2_with fail
    refine (cut_any _ _).mono ?_
    rintro e w1 ⟨rfl, rfl⟩
    go_wp2_with fail
    refine HC.out.mono ?_
    rintro e w2 ⟨rfl, hm, hs⟩
    go_wp2_with fail
    go_ret
    exact ⟨rfl, (Mod.of_same hsm.out).trans hm, hs⟩

theorem U16_made (s : Nat) (all : Value) (l : List UInt8) (a : Nat) (er : Int) (w : World) (h : SrcB w s all l a er) :
    Calls Try.prog 49 #[.pointer (some ⟨s, 0, none⟩)] w fun e w' => e = .returned (.int .i64 (numOut (stepOut l a er 2))) ∧ Mod s w w' ∧ SrcB w' s all l (stepAt l a er 2) (stepErr l a er 2) := by
  have hsm := Lib.hid (Same.alloc w (.cells #[.pointer (some ⟨s, 0, none⟩)] 84))
  rcases step_cases l a er 2 with hno | ⟨k, hk, rfl, hle⟩
  · have HC := Lib.hid (next_no_U s w.heap.size all l a er 2 _ (h.same hsm.out) hno)
    rw [hno]
    clear hno
    go_enter Try.func49, Try.ntmps49
    go_wp2_with fail
    refine (cut_any _ _).mono ?_
    rintro e w1 ⟨rfl, rfl⟩
    go_wp2_with fail
    refine HC.out.mono ?_
    rintro e w2 ⟨rfl, hm, hs⟩
    go_wp2_with fail
    go_ret
    exact ⟨rfl, (Mod.of_same hsm.out).trans hm, hs⟩
  · obtain rfl : k = 2 := by omega
    have e1 : stepOut l a 0 2 = _ := (step_yes hle).1
    have e2 : stepAt l a 0 2 = _ := (step_yes hle).2.1
    have e3 : stepErr l a 0 2 = _ := (step_yes hle).2.2
    have HC := Lib.hid (nextU_yes s w.heap.size all l a 2 (by omega) _ (h.same hsm.out) (cutCell w s) hle)
    have hlt := numOf_lt4 ((l.drop a).take 2) (by simp; omega)
    rw [e1, e2, e3, numOut]
    clear e1 e2 e3 hk
    generalize numOf ((l.drop a).take 2) = q at *
    go_enter Try.func49, Try.ntmps49
    go_wp2_with fail
    refine (cut_any _ _).mono ?_
    rintro e w1 ⟨rfl, rfl⟩
    go_wp2_with fail
    refine HC.out.mono ?_
    rintro e w2 ⟨rfl, hm, hs⟩
    go_wp2_with fail
    go_ret
    exact ⟨rfl, (Mod.of_same hsm.out).trans hm, hs⟩

theorem U32_made (s : Nat) (all : Value) (l : List UInt8) (a : Nat) (er : Int) (w : World) (h : SrcB w s all l a er) :
    Calls Try.prog 50 #[.pointer (some ⟨s, 0, none⟩)] w fun e w' => e = .returned (.int .u32 (numOut (stepOut l a er 4))) ∧ Mod s w w' ∧ SrcB w' s all l (stepAt l a er 4) (stepErr l a er 4) := by
  have hsm := Lib.hid (Same.alloc w (.cells #[.pointer (some ⟨s, 0, none⟩)] 84))
  rcases step_cases l a er 4 with hno | ⟨k, hk, rfl, hle⟩
  · have HC := Lib.hid (next_no_U s w.heap.size all l a er 4 _ (h.same hsm.out) hno)
    rw [hno]
    clear hno
    go_enter Try.func50, Try.ntmps50
    go_wp2_with fail
    refine (cut_any _ _).mono ?_
    rintro e w1 ⟨rfl, rfl⟩
    go_wp2_with fail
    refine HC.out.mono ?_
    rintro e w2 ⟨rfl, hm, hs⟩
    go_wp2_with fail
    go_ret
    exact ⟨rfl, (Mod.of_same hsm.out).trans hm, hs⟩
  · obtain rfl : k = 4 := by omega
    have e1 : stepOut l a 0 4 = _ := (step_yes hle).1
    have e2 : stepAt l a 0 4 = _ := (step_yes hle).2.1
    have e3 : stepErr l a 0 4 = _ := (step_yes hle).2.2
    have HC := Lib.hid (nextU_yes s w.heap.size all l a 4 (by omega) _ (h.same hsm.out) (cutCell w s) hle)
    have hlt := numOf_lt4 ((l.drop a).take 4) (by simp; omega)
    rw [e1, e2, e3, numOut]
    clear e1 e2 e3 hk
    generalize numOf ((l.drop a).take 4) = q at *
    go_enter Try.func50, Try.ntmps50
    go_wp2_with fail
    refine (cut_any _ _).mono ?_
    rintro e w1 ⟨rfl, rfl⟩
    go_wp2_with fail
    refine HC.out.mono ?_
    rintro e w2 ⟨rfl, hm, hs⟩
    go_wp2_with fail
    go_ret
    exact ⟨rfl, (Mod.of_same hsm.out).trans hm, hs⟩

theorem Left_made (s : Nat) (all : Value) (l : List UInt8) (a : Nat) (er : Int) (w : World) (h : SrcB w s all l a er) :
    Calls Try.prog 74 #[.pointer (some ⟨s, 0, none⟩)] w fun e w' => e = .returned (.int .i64 (if er = 0 then (l.length : Int) - a else 0)) ∧ Same w w' := by
  obtain ⟨ao, cap, he, b1, b2, b3, b4⟩ := id h.bs
  subst he
  by_cases her : er = 0
  · subst her
    rw [if_pos rfl]
    exact left_ok s ao l.length cap a w h.src h.le (by omega)
  · rw [if_neg her]
    exact left_err s _ a er w h.src (by simpa using her) (by simpa using her)

/-- what is left -/
def restOf (l : List UInt8) (a : Nat) (er : Int) : List UInt8 := if er = 0 then l.drop a else []

theorem Rest_made (s : Nat) (all : Value) (l : List UInt8) (a : Nat) (er : Int) (w : World) (h : SrcB w s all l a er) (hl : l.length ≤ 140737488355328) :
    Calls Try.prog 51 #[.pointer (some ⟨s, 0, none⟩)] w fun e w' => ∃ v, e = .returned v ∧ OwnB w' w.heap.size v (restOf l a er) ∧ Mod s w w' ∧ SrcB w' s all l (if er = 0 then l.length else a) er := by
  have HL := Lib.hid (Left_made s all l a er w h)
  have hle := h.le
  by_cases her : er = 0
  · subst her
    rw [restOf, if_pos rfl, if_pos rfl]
    rw [if_pos rfl] at HL
    obtain ⟨k, hk⟩ : ∃ k : Nat, l.length = a + k := ⟨l.length - a, by omega⟩
    have HN : Hid (∀ w1, Same w w1 → Calls Try.prog 73 #[.pointer (some ⟨s, 0, none⟩), .int .i64 k, .func (.func 75) #[cutFn w1.heap.size] #[]] (w1.alloc (.cells #[.pointer (some ⟨s, 0, none⟩)] 84)) fun e w' => ∃ v, e = .returned v ∧ OwnB w' (w1.alloc (.cells #[.pointer (some ⟨s, 0, none⟩)] 84)).heap.size v ((l.drop a).take k) ∧ Mod s (w1.alloc (.cells #[.pointer (some ⟨s, 0, none⟩)] 84)) w' ∧ SrcB w' s all l (a + k) 0) :=
      fun w1 hs1 => nextB_yes s w1.heap.size all l a k (by omega) _ ((h.same hs1).same (Same.alloc _ _)) (cutCell w1 s) (by omega)
    rw [List.take_of_length_le (by simp; omega)] at HN
    rw [hk]
    rw [show (l.length : Int) - a = (k : Int) from by omega] at HL
    clear hk
    go_enter Try.func51, Try.ntmps51
    go_wp2_with fail
    refine HL.out.mono ?_
    rintro e w1 ⟨rfl, hs1⟩
    go_wp2_with fail
    refine (cut_any _ _).mono ?_
    rintro e w2 ⟨rfl, rfl⟩
    go_wp2_with fail
    refine (HN.out w1 hs1).mono ?_
    rintro e w2 ⟨v, rfl, ho, hm, hs⟩
    go_wp2_with fail
    go_ret
    exact ⟨_, rfl, ho.mono (hs1.trans (Same.alloc _ _)).size, (Mod.of_same (hs1.trans (Same.alloc _ _))).trans hm, hs⟩
  · rw [restOf, if_neg her, if_neg her]
    rw [if_neg her] at HL
    have hno : stepOut l a er 0 = none := if_neg fun hh => her hh.1
    have e2 : stepAt l a er 0 = a := if_neg fun hh => her hh.1
    have e3 : stepErr l a er 0 = er := if_neg her
    have HN : Hid (∀ w1, Same w w1 → _) := fun w1 hs1 => (next_no_B s w1.heap.size all l a er 0 (w1.alloc (.cells #[.pointer (some ⟨s, 0, none⟩)] 84)) ((h.same hs1).same (Same.alloc _ _)) hno)
    rw [e2, e3] at HN
    clear hno e2 e3 her
    go_enter Try.func51, Try.ntmps51
    go_wp2_with fail
    refine HL.out.mono ?_
    rintro e w1 ⟨rfl, hs1⟩
    go_wp2_with fail
    refine (cut_any _ _).mono ?_
    rintro e w2 ⟨rfl, rfl⟩
    go_wp2_with fail
    refine (HN.out w1 hs1).mono ?_
    rintro e w2 ⟨rfl, hm, hs⟩
    go_wp2_with fail
    go_ret
    exact ⟨_, rfl, OwnB.nil _ _, (Mod.of_same (hs1.trans (Same.alloc _ _))).trans hm, hs⟩

theorem Read_any (v : Value) (l : List UInt8) (w : World) (hb : Bs w v l) (hl : l.length ≤ 140737488355328) :
    Calls Try.prog 47 #[v] w fun e w' => ∃ t v', e = .returned (.pointer (some ⟨t, 0, none⟩)) ∧ w.heap.size ≤ t ∧ SrcB w' t v' l 0 0 ∧ Same w w' ∧ ∀ g, v'.ownBlock = some g → w.heap.size ≤ g := by
  obtain ⟨ao, cap, he, b1, b2, b3, b4⟩ := id hb
  have HC := Lib.hid (clone_any v l w hb hl)
  clear b4 b3
  subst he
  go_enter Try.func47, Try.ntmps47
  go_wp2_with fail
  refine HC.out.mono ?_
  rintro e w1 ⟨v1, rfl, ho, hs1⟩
  go_wp2_with fail
  refine (source_bs v1 l w1 ho.bs (fun g hg => (ho.lt g hg).2)).mono ?_
  rintro e w2 ⟨rfl, hs2, hsr⟩
  go_wp2_with fail
  go_ret
  exact ⟨_, _, rfl, hs1.size, hsr, hs1.trans hs2, fun g hg => (ho.lt g hg).1⟩

end Go.Proofs.Yteoleblnhcnpkaa
