/- Contracts of the calls of a source that a call made. No condition beyond what each names. -/
import Derived.Test.YtidijoncngfppaaGet
namespace Go.Proofs.Ytidijoncngfppaa
open Go.RowKit
set_option linter.unusedVariables false

/-- what End tells -/
def endOf (l : List UInt8) (a : Nat) (er : Int) : Int := if er = 0 ∧ a < l.length then 4 else er

theorem step_cases (l : List UInt8) (a : Nat) (er n : Int) : stepOut l a er n = none ∨ ∃ k : Nat, n = k ∧ er = 0 ∧ a + k ≤ l.length := by
  unfold stepOut
  by_cases h : er = 0 ∧ 0 ≤ n ∧ n ≤ (l.length : Int) - a
  · exact .inr ⟨n.toNat, by omega, h.1, by omega⟩
  · exact .inl (if_neg h)

theorem cutCell (w : World) (s : Nat) : (w.alloc (.cells #[.pointer (some ⟨s, 0, none⟩)] 69)).cell? ⟨w.heap.size, 0, none⟩ = some (.pointer (some ⟨s, 0, none⟩)) := by simp

theorem numOf_lt4 (l : List UInt8) (h : l.length ≤ 4) : numOf l < 4294967296 := by
  have h1 := numOf_lt l
  have h2 : 256 ^ l.length ≤ 256 ^ 4 := Nat.pow_le_pow_right (by omega) h
  omega

theorem U8_made (s : Nat) (all : Value) (l : List UInt8) (a : Nat) (er : Int) (w : World) (h : SrcB w s all l a er) :
    Calls Try.prog 55 #[.pointer (some ⟨s, 0, none⟩)] w fun e w' => e = .returned (.int .i64 (numOut (stepOut l a er 1))) ∧ Mod s w w' ∧ SrcB w' s all l (stepAt l a er 1) (stepErr l a er 1) := by
  have hsm := Lib.hid (Same.alloc w (.cells #[.pointer (some ⟨s, 0, none⟩)] 69))
  rcases step_cases l a er 1 with hno | ⟨k, hk, rfl, hle⟩
  · have HC := Lib.hid (next_no_U s w.heap.size all l a er 1 _ (h.same hsm.out) hno)
    rw [hno]
    clear hno
    go_enter Try.func55, Try.ntmps55
    go_wp2_with fail
    refine (cut_any _ _).mono ?_
    rintro e w1 ⟨rfl, rfl⟩
    go_wp2_with fail
    refine HC.out.mono ?_
    rintro e w2 ⟨rfl, hm, hs⟩
    go_wp2_with fail
    go_ret
    exact ⟨rfl, (Mod.of_same hsm.out).trans hm, hs⟩
  · obtain rfl : k = 1 := by omega
    have e1 : stepOut l a 0 1 = _ := (step_yes hle).1
    have e2 : stepAt l a 0 1 = _ := (step_yes hle).2.1
    have e3 : stepErr l a 0 1 = _ := (step_yes hle).2.2
    have HC := Lib.hid (nextU_yes s w.heap.size all l a 1 (by omega) _ (h.same hsm.out) (cutCell w s) hle)
    have hlt := numOf_lt4 ((l.drop a).take 1) (by simp; omega)
    rw [e1, e2, e3, numOut]
    clear e1 e2 e3 hk
    generalize numOf ((l.drop a).take 1) = q at *
    go_enter Try.func55, Try.ntmps55
    go_wp2_with fail
    refine (cut_any _ _).mono ?_
    rintro e w1 ⟨rfl, rfl⟩
    go_wp2_with fail
    refine HC.out.mono ?_
    rintro e w2 ⟨rfl, hm, hs⟩
    go_wp2_with fail
    go_ret
    exact ⟨rfl, (Mod.of_same hsm.out).trans hm, hs⟩

theorem U16_made (s : Nat) (all : Value) (l : List UInt8) (a : Nat) (er : Int) (w : World) (h : SrcB w s all l a er) :
    Calls Try.prog 56 #[.pointer (some ⟨s, 0, none⟩)] w fun e w' => e = .returned (.int .i64 (numOut (stepOut l a er 2))) ∧ Mod s w w' ∧ SrcB w' s all l (stepAt l a er 2) (stepErr l a er 2) := by
  have hsm := Lib.hid (Same.alloc w (.cells #[.pointer (some ⟨s, 0, none⟩)] 69))
  rcases step_cases l a er 2 with hno | ⟨k, hk, rfl, hle⟩
  · have HC := Lib.hid (next_no_U s w.heap.size all l a er 2 _ (h.same hsm.out) hno)
    rw [hno]
    clear hno
    go_enter Try.func56, Try.ntmps56
    go_wp2_with fail
    refine (cut_any _ _).mono ?_
    rintro e w1 ⟨rfl, rfl⟩
    go_wp2_with fail
    refine HC.out.mono ?_
    rintro e w2 ⟨rfl, hm, hs⟩
    go_wp2_with fail
    go_ret
    exact ⟨rfl, (Mod.of_same hsm.out).trans hm, hs⟩
  · obtain rfl : k = 2 := by omega
    have e1 : stepOut l a 0 2 = _ := (step_yes hle).1
    have e2 : stepAt l a 0 2 = _ := (step_yes hle).2.1
    have e3 : stepErr l a 0 2 = _ := (step_yes hle).2.2
    have HC := Lib.hid (nextU_yes s w.heap.size all l a 2 (by omega) _ (h.same hsm.out) (cutCell w s) hle)
    have hlt := numOf_lt4 ((l.drop a).take 2) (by simp; omega)
    rw [e1, e2, e3, numOut]
    clear e1 e2 e3 hk
    generalize numOf ((l.drop a).take 2) = q at *
    go_enter Try.func56, Try.ntmps56
    go_wp2_with fail
    refine (cut_any _ _).mono ?_
    rintro e w1 ⟨rfl, rfl⟩
    go_wp2_with fail
    refine HC.out.mono ?_
    rintro e w2 ⟨rfl, hm, hs⟩
    go_wp2_with fail
    go_ret
    exact ⟨rfl, (Mod.of_same hsm.out).trans hm, hs⟩

theorem U32_made (s : Nat) (all : Value) (l : List UInt8) (a : Nat) (er : Int) (w : World) (h : SrcB w s all l a er) :
    Calls Try.prog 57 #[.pointer (some ⟨s, 0, none⟩)] w fun e w' => e = .returned (.int .u32 (numOut (stepOut l a er 4))) ∧ Mod s w w' ∧ SrcB w' s all l (stepAt l a er 4) (stepErr l a er 4) := by
  have hsm := Lib.hid (Same.alloc w (.cells #[.pointer (some ⟨s, 0, none⟩)] 69))
  rcases step_cases l a er 4 with hno | ⟨k, hk, rfl, hle⟩
  · have HC := Lib.hid (next_no_U s w.heap.size all l a er 4 _ (h.same hsm.out) hno)
    rw [hno]
    clear hno
    go_enter Try.func57, Try.ntmps57
    go_wp2_with fail
    refine (cut_any _ _).mono ?_
    rintro e w1 ⟨rfl, rfl⟩
    go_wp2_with fail
    refine HC.out.mono ?_
    rintro e w2 ⟨rfl, hm, hs⟩
    go_wp2_with fail
    go_ret
    exact ⟨rfl, (Mod.of_same hsm.out).trans hm, hs⟩
  · obtain rfl : k = 4 := by omega
    have e1 : stepOut l a 0 4 = _ := (step_yes hle).1
    have e2 : stepAt l a 0 4 = _ := (step_yes hle).2.1
    have e3 : stepErr l a 0 4 = _ := (step_yes hle).2.2
    have HC := Lib.hid (nextU_yes s w.heap.size all l a 4 (by omega) _ (h.same hsm.out) (cutCell w s) hle)
    have hlt := numOf_lt4 ((l.drop a).take 4) (by simp; omega)
    rw [e1, e2, e3, numOut]
    clear e1 e2 e3 hk
    generalize numOf ((l.drop a).take 4) = q at *
    go_enter Try.func57, Try.ntmps57
    go_wp2_with fail
    refine (cut_any _ _).mono ?_
    rintro e w1 ⟨rfl, rfl⟩
    go_wp2_with fail
    refine HC.out.mono ?_
    rintro e w2 ⟨rfl, hm, hs⟩
    go_wp2_with fail
    go_ret
    exact ⟨rfl, (Mod.of_same hsm.out).trans hm, hs⟩

theorem Bytes_made (s : Nat) (all : Value) (l : List UInt8) (a : Nat) (er n : Int) (w : World) (h : SrcB w s all l a er) (hl : l.length ≤ 140737488355328) :
    Calls Try.prog 60 #[.pointer (some ⟨s, 0, none⟩), .int .i64 n] w fun e w' => ∃ v, e = .returned v ∧ OwnB w' w.heap.size v (listOut (stepOut l a er n)) ∧ Mod s w w' ∧ SrcB w' s all l (stepAt l a er n) (stepErr l a er n) := by
  have hsm := Lib.hid (Same.alloc w (.cells #[.pointer (some ⟨s, 0, none⟩)] 69))
  rcases step_cases l a er n with hno | ⟨k, rfl, rfl, hle⟩
  · have HC := Lib.hid (next_no_B s w.heap.size all l a er n _ (h.same hsm.out) hno)
    rw [hno]
    clear hno
    go_enter Try.func60, Try.ntmps60
    go_wp2_with fail
    refine (cut_any _ _).mono ?_
    rintro e w1 ⟨rfl, rfl⟩
    go_wp2_with fail
    refine HC.out.mono ?_
    rintro e w2 ⟨rfl, hm, hs⟩
    go_wp2_with fail
    go_ret
    exact ⟨_, rfl, OwnB.nil _ _, (Mod.of_same hsm.out).trans hm, hs⟩
  · obtain ⟨e1, e2, e3⟩ := step_yes hle
    have HC := Lib.hid (nextB_yes s w.heap.size all l a k (by omega) _ (h.same hsm.out) (cutCell w s) hle)
    rw [e1, e2, e3, listOut]
    clear e1 e2 e3
    go_enter Try.func60, Try.ntmps60
    go_wp2_with fail
    refine (cut_any _ _).mono ?_
    rintro e w1 ⟨rfl, rfl⟩
    go_wp2_with fail
    refine HC.out.mono ?_
    rintro e w2 ⟨v, rfl, ho, hm, hs⟩
    go_wp2_with fail
    go_ret
    exact ⟨_, rfl, ho.mono hsm.out.size, (Mod.of_same hsm.out).trans hm, hs⟩

theorem Left_made (s : Nat) (all : Value) (l : List UInt8) (a : Nat) (er : Int) (w : World) (h : SrcB w s all l a er) :
    Calls Try.prog 37 #[.pointer (some ⟨s, 0, none⟩)] w fun e w' => e = .returned (.int .i64 (if er = 0 then (l.length : Int) - a else 0)) ∧ Same w w' := by
  obtain ⟨ao, cap, he, b1, b2, b3, b4⟩ := id h.bs
  subst he
  by_cases her : er = 0
  · subst her
    rw [if_pos rfl]
    exact left_ok s ao l.length cap a w h.src h.le (by omega)
  · rw [if_neg her]
    exact left_err s _ a er w h.src (by simpa using her) (by simpa using her)

/-- what is left -/
def restOf (l : List UInt8) (a : Nat) (er : Int) : List UInt8 := if er = 0 then l.drop a else []

theorem Read_any (v : Value) (l : List UInt8) (w : World) (hb : Bs w v l) (hl : l.length ≤ 140737488355328) :
    Calls Try.prog 35 #[v] w fun e w' => ∃ t v', e = .returned (.pointer (some ⟨t, 0, none⟩)) ∧ w.heap.size ≤ t ∧ SrcB w' t v' l 0 0 ∧ Same w w' ∧ ∀ g, v'.ownBlock = some g → w.heap.size ≤ g := by
  obtain ⟨ao, cap, he, b1, b2, b3, b4⟩ := id hb
  have HC := Lib.hid (clone_any v l w hb hl)
  clear b4 b3
  subst he
  go_enter Try.func35, Try.ntmps35
  go_wp2_with fail
  refine HC.out.mono ?_
  rintro e w1 ⟨v1, rfl, ho, hs1⟩
  go_wp2_with fail
  refine (source_bs v1 l w1 ho.bs (fun g hg => (ho.lt g hg).2)).mono ?_
  rintro e w2 ⟨rfl, hs2, hsr⟩
  go_wp2_with fail
  go_ret
  exact ⟨_, _, rfl, hs1.size, hsr, hs1.trans hs2, fun g hg => (ho.lt g hg).1⟩

theorem Sub_made (s : Nat) (all : Value) (l : List UInt8) (a : Nat) (er n : Int) (w : World) (h : SrcB w s all l a er) :
    Calls Try.prog 59 #[.pointer (some ⟨s, 0, none⟩), .int .i64 n] w fun e w' => ∃ t v, e = .returned (.pointer (some ⟨t, 0, none⟩)) ∧ w.heap.size ≤ t ∧ SrcB w' t v (listOut (stepOut l a er n)) 0 0 ∧ Mod s w w' ∧ SrcB w' s all l (stepAt l a er n) (stepErr l a er n) ∧ ∀ g, v.ownBlock = some g → all.ownBlock = some g := by
  have hsm := Lib.hid (Same.alloc w (.cells #[.pointer (some ⟨s, 0, none⟩)] 69))
  rcases step_cases l a er n with hno | ⟨k, rfl, rfl, hle⟩
  · have HC := Lib.hid (next_no_S s w.heap.size all l a er n _ (h.same hsm.out) hno)
    rw [hno]
    clear hno
    go_enter Try.func59, Try.ntmps59
    go_wp2_with fail
    refine (cut_any _ _).mono ?_
    rintro e w1 ⟨rfl, rfl⟩
    go_wp2_with fail
    refine HC.out.mono ?_
    rintro e w2 ⟨rfl, hm, hs⟩
    go_wp2_with fail
    refine (isMade_yes s true w2 hs.src.cells.1).mono ?_
    rintro e w3 ⟨rfl, rfl⟩
    go_wp2_with fail
    refine (source_bs _ [] w2 (Bs.nil w2) (by simp [Value.ownBlock])).mono ?_
    rintro e w3 ⟨rfl, hs3, hsr⟩
    go_wp2_with fail
    go_ret
    exact ⟨_, _, rfl, ((Mod.of_same hsm.out).trans hm).size, hsr, ((Mod.of_same hsm.out).trans hm).trans (Mod.of_same hs3), hs.same hs3, fun g hg => by simp [Value.ownBlock] at hg⟩
  · obtain ⟨e1, e2, e3⟩ := step_yes hle
    have HC := Lib.hid (nextS_yes s w.heap.size all l a k _ (h.same hsm.out) (cutCell w s) hle)
    rw [e1, e2, e3, listOut]
    clear e1 e2 e3
    go_enter Try.func59, Try.ntmps59
    go_wp2_with fail
    refine (cut_any _ _).mono ?_
    rintro e w1 ⟨rfl, rfl⟩
    go_wp2_with fail
    refine HC.out.mono ?_
    rintro e w2 ⟨t, v, rfl, ht, ho, hm, hs, hv⟩
    go_wp2_with fail
    go_ret
    exact ⟨_, _, rfl, Nat.le_trans hsm.out.size ht, ho, (Mod.of_same hsm.out).trans hm, hs, fun g hg => by rw [← hv]; exact hg⟩

end Go.Proofs.Ytidijoncngfppaa
