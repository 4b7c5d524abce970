/- Contracts of what takes from a source of bytes: next, and the steps. No condition beyond what each names. -/
import Derived.Test.YtidijoncngfppaaSrc
import Derived.Test.YtidijoncngfppaaClone
namespace Go.Proofs.Ytidijoncngfppaa
open Go.RowKit
set_option linter.unusedVariables false

/-- what a step with n bytes gives, and leaves -/
def stepOut (l : List UInt8) (a : Nat) (er n : Int) : Option (List UInt8) := if er = 0 ∧ 0 ≤ n ∧ n ≤ (l.length : Int) - a then some ((l.drop a).take n.toNat) else none
def stepAt (l : List UInt8) (a : Nat) (er n : Int) : Nat := if er = 0 ∧ 0 ≤ n ∧ n ≤ (l.length : Int) - a then a + n.toNat else a
def stepErr (l : List UInt8) (a : Nat) (er n : Int) : Int := if er = 0 then (if n < 0 then 2 else if (l.length : Int) - a < n then 3 else 0) else er

/-- block s is a source of the bytes l, of which a are left behind -/
structure SrcB (w : World) (s : Nat) (all : Value) (l : List UInt8) (a : Nat) (er : Int) : Prop where
  src : Src w s all a er
  bs : Bs w all l
  ne : all.ownBlock ≠ some s
  lt : ∀ g, all.ownBlock = some g → g < w.heap.size
  le : a ≤ l.length

theorem SrcB.same {w w' : World} {s : Nat} {all : Value} {l : List UInt8} {a : Nat} {er : Int} (hs : Same w w') (h : SrcB w s all l a er) : SrcB w' s all l a er :=
  ⟨h.src.same hs, h.bs.same hs, h.ne, fun g hg => Nat.lt_of_lt_of_le (h.lt g hg) hs.size, h.le⟩
theorem SrcB.mod {w w' : World} {s : Nat} {all : Value} {l : List UInt8} {a : Nat} {er : Int} (hs : Mod s w w') (h : SrcB w s all l a er) {a' : Nat} {er' : Int} (hs' : Src w' s all a' er') (hl : a' ≤ l.length) : SrcB w' s all l a' er' :=
  ⟨hs', h.bs.mod hs h.ne, h.ne, fun g hg => Nat.lt_of_lt_of_le (h.lt g hg) hs.size, hl⟩
/-- another source changes -/
theorem SrcB.other {w w' : World} {s t : Nat} {all : Value} {l : List UInt8} {a : Nat} {er : Int} (hs : Mod t w w') (hne : s ≠ t) (ht : all.ownBlock ≠ some t) (h : SrcB w s all l a er) : SrcB w' s all l a er :=
  ⟨by have := h.src; unfold Src at *; rw [hs.block s h.src.lt hne]; exact this, h.bs.mod hs ht, h.ne, fun g hg => Nat.lt_of_lt_of_le (h.lt g hg) hs.size, h.le⟩

theorem cut1_bs (s c : Nat) (all : Value) (l : List UInt8) (a : Nat) (n : Int) (k : Nat) (hk : n = k) (w : World) (h : SrcB w s all l a 0) (hc : w.cell? ⟨c, 0, none⟩ = some (.pointer (some ⟨s, 0, none⟩))) (h1 : a + k ≤ l.length) :
    Calls Try.prog 73 #[.int .i64 n, .pointer (some ⟨c, 0, none⟩)] w fun e w' => ∃ v, e = .returned v ∧ Bs w' v ((l.drop a).take k) ∧ v.ownBlock = all.ownBlock ∧ Mod s w w' ∧ SrcB w' s all l (a + k) 0 := by
  obtain ⟨ao, cap, he, b1, b2, b3, b4⟩ := id h.bs
  subst he
  refine (cut1_ok s c ao l.length cap a n k hk 0 w h.src hc (by omega) (by omega) (by omega)).mono fun e w' ⟨he, hm, hs⟩ => ?_
  obtain ⟨hb, ho⟩ := h.bs.sub a k h1
  refine ⟨_, he, hb.mod hm (by rw [ho]; exact h.ne), ho, hm, h.mod hm hs h1⟩

theorem can_no (s : Nat) (all : Value) (l : List UInt8) (a : Nat) (er n : Int) (w : World) (h : SrcB w s all l a er) (hno : stepOut l a er n = none) :
    Calls Try.prog 72 #[.pointer (some ⟨s, 0, none⟩), .int .i64 n] w fun e w' => e = .returned (.bool false) ∧ Mod s w w' ∧ SrcB w' s all l (stepAt l a er n) (stepErr l a er n) := by
  obtain ⟨ao, cap, he, b1, b2, b3, b4⟩ := id h.bs
  subst he
  unfold stepOut at hno
  have hle := h.le
  by_cases her : er = 0
  · subst her
    have hn' : ¬ (0 ≤ n ∧ n ≤ (l.length : Int) - a) := by intro hh; rw [if_pos ⟨rfl, hh⟩] at hno; cases hno
    by_cases hneg : n < 0
    · refine (can_arg s _ a n w h.src hneg).mono fun e w' ⟨he, hm, hs⟩ => ⟨he, hm, ?_⟩
      rw [stepAt, if_neg (fun hh => hn' hh.2), stepErr, if_pos rfl, if_pos hneg]
      exact h.mod hm hs hle
    · refine (can_short s ao l.length cap a n w h.src hle (by omega) hneg (by omega)).mono fun e w' ⟨he, hm, hs⟩ => ⟨he, hm, ?_⟩
      rw [stepAt, if_neg (fun hh => hn' hh.2), stepErr, if_pos rfl, if_neg hneg, if_pos (by omega)]
      exact h.mod hm hs hle
  · refine (can_err s _ a er n w h.src (by simpa using her) (by simpa using her)).mono fun e w' ⟨he, hs⟩ => ⟨he, Mod.of_same hs, ?_⟩
    rw [stepAt, if_neg (fun hh => her hh.1), stepErr, if_neg her]
    exact h.same hs

theorem can_yes (s : Nat) (all : Value) (l : List UInt8) (a : Nat) (n : Int) (w : World) (h : SrcB w s all l a 0) (hn : 0 ≤ n) (hle : n ≤ (l.length : Int) - a) :
    Calls Try.prog 72 #[.pointer (some ⟨s, 0, none⟩), .int .i64 n] w fun e w' => e = .returned (.bool true) ∧ Same w w' := by
  obtain ⟨ao, cap, he, b1, b2, b3, b4⟩ := id h.bs
  subst he
  exact can_ok s ao l.length cap a n w h.src h.le (by omega) (by omega) hle

/-- the function value that cut makes -/
abbrev cutFn (c : Nat) : Value := .func (.func 73) #[] #[.pointer (some ⟨c, 0, none⟩)]

theorem cnum_ok (s c : Nat) (all : Value) (l : List UInt8) (a : Nat) (n : Int) (k : Nat) (hk : n = k) (h4 : k ≤ 4) (w : World) (h : SrcB w s all l a 0) (hc : w.cell? ⟨c, 0, none⟩ = some (.pointer (some ⟨s, 0, none⟩))) (h1 : a + k ≤ l.length) :
    Calls Try.prog 65 #[cutFn c, .int .i64 n] w fun e w' => e = .returned (.int .u32 (numOf ((l.drop a).take k))) ∧ Mod s w w' ∧ SrcB w' s all l (a + k) 0 := by
  subst hk
  go_enter Try.func65, Try.ntmps65
  go_wp2_with fail
  refine (cut1_bs s c all l a _ k rfl w h hc h1).mono ?_
  rintro e w1 ⟨v, rfl, hb, ho, hm, hs⟩
  go_wp2_with fail
  refine (number_any v _ w1 hb (by simp; omega)).mono ?_
  rintro e w2 ⟨rfl, rfl⟩
  go_wp2_with fail
  go_ret
  exact ⟨rfl, hm, hs⟩

theorem clist_ok (s c : Nat) (all : Value) (l : List UInt8) (a : Nat) (n : Int) (k : Nat) (hk : n = k) (h4 : k ≤ 140737488355328) (w : World) (h : SrcB w s all l a 0) (hc : w.cell? ⟨c, 0, none⟩ = some (.pointer (some ⟨s, 0, none⟩))) (h1 : a + k ≤ l.length) :
    Calls Try.prog 70 #[cutFn c, .int .i64 n] w fun e w' => ∃ v, e = .returned v ∧ OwnB w' w.heap.size v ((l.drop a).take k) ∧ Mod s w w' ∧ SrcB w' s all l (a + k) 0 := by
  subst hk
  go_enter Try.func70, Try.ntmps70
  go_wp2_with fail
  refine (cut1_bs s c all l a _ k rfl w h hc h1).mono ?_
  rintro e w1 ⟨v, rfl, hb, ho, hm, hs⟩
  go_wp2_with fail
  refine (clone_any v _ w1 hb (by simp; omega)).mono ?_
  rintro e w2 ⟨v2, rfl, ho2, hs2⟩
  go_wp2_with fail
  go_ret
  exact ⟨_, rfl, ho2.mono hm.size, hm.trans (Mod.of_same hs2), hs.same hs2⟩

theorem source_any (ao : Option Addr) (m cap : Nat) (w : World) : Calls Try.prog 53 #[.slice ao m cap] w fun e w' => e = .returned (.pointer (some ⟨w.heap.size, 0, none⟩)) ∧ w' = w.alloc (.cells #[.bool true, .slice ao m cap, .int .i64 0, .int .i64 0] 89) := by
  go_enter Try.func53, Try.ntmps53
  go_wp2
  go_ret
  exact ⟨rfl, rfl⟩

theorem source_bs (v : Value) (l : List UInt8) (w : World) (hb : Bs w v l) (hlt : ∀ g, v.ownBlock = some g → g < w.heap.size) :
    Calls Try.prog 53 #[v] w fun e w' => e = .returned (.pointer (some ⟨w.heap.size, 0, none⟩)) ∧ Same w w' ∧ SrcB w' w.heap.size v l 0 0 := by
  obtain ⟨ao, cap, rfl, b1, b2, b3, b4⟩ := id hb
  refine (source_any _ _ _ w).mono fun e w' ⟨he, hw⟩ => ⟨he, ?_⟩
  subst hw
  have hsm := Same.alloc w (.cells #[.bool true, .slice ao l.length cap, .int .i64 0, .int .i64 0] 89)
  refine ⟨hsm, ?_, hb.same hsm, ?_, ?_, by omega⟩
  · exact heap_alloc_new w _
  · intro he; have := hlt _ he; omega
  · intro g hg; have := hlt _ hg; simp; omega

theorem csrc_ok (s c : Nat) (all : Value) (l : List UInt8) (a : Nat) (n : Int) (k : Nat) (hk : n = k) (w : World) (h : SrcB w s all l a 0) (hc : w.cell? ⟨c, 0, none⟩ = some (.pointer (some ⟨s, 0, none⟩))) (h1 : a + k ≤ l.length) :
    Calls Try.prog 68 #[cutFn c, .int .i64 n] w fun e w' => ∃ t v, e = .returned (.pointer (some ⟨t, 0, none⟩)) ∧ w.heap.size ≤ t ∧ SrcB w' t v ((l.drop a).take k) 0 0 ∧ Mod s w w' ∧ SrcB w' s all l (a + k) 0 ∧ v.ownBlock = all.ownBlock := by
  subst hk
  go_enter Try.func68, Try.ntmps68
  go_wp2_with fail
  refine (cut1_bs s c all l a _ k rfl w h hc h1).mono ?_
  rintro e w1 ⟨v, rfl, hb, ho, hm, hs⟩
  go_wp2_with fail
  refine (source_bs v _ w1 hb (fun g hg => by rw [ho] at hg; exact hs.lt _ hg)).mono ?_
  rintro e w2 ⟨rfl, hsm, hsr⟩
  go_wp2_with fail
  go_ret
  exact ⟨_, _, rfl, hm.size, hsr, hm.trans (Mod.of_same hsm), hs.same hsm, ho⟩

theorem next_no_U (s c : Nat) (all : Value) (l : List UInt8) (a : Nat) (er n : Int) (w : World) (h : SrcB w s all l a er) (hno : stepOut l a er n = none) :
    Calls Try.prog 63 #[.pointer (some ⟨s, 0, none⟩), .int .i64 n, .func (.func 65) #[cutFn c] #[]] w fun e w' => e = .returned (.int .u32 0) ∧ Mod s w w' ∧ SrcB w' s all l (stepAt l a er n) (stepErr l a er n) := by
  have HC := Lib.hid (can_no s all l a er n w h hno)
  clear hno
  go_enter Try.func63, Try.ntmps63
  go_wp2_with fail
  refine HC.out.mono ?_
  rintro e w1 ⟨rfl, hm, hs⟩
  go_wp2_with fail
  go_ret
  exact ⟨rfl, hm, hs⟩

theorem next_no_B (s c : Nat) (all : Value) (l : List UInt8) (a : Nat) (er n : Int) (w : World) (h : SrcB w s all l a er) (hno : stepOut l a er n = none) :
    Calls Try.prog 69 #[.pointer (some ⟨s, 0, none⟩), .int .i64 n, .func (.func 70) #[cutFn c] #[]] w fun e w' => e = .returned (.slice none 0 0) ∧ Mod s w w' ∧ SrcB w' s all l (stepAt l a er n) (stepErr l a er n) := by
  have HC := Lib.hid (can_no s all l a er n w h hno)
  clear hno
  go_enter Try.func69, Try.ntmps69
  go_wp2_with fail
  refine HC.out.mono ?_
  rintro e w1 ⟨rfl, hm, hs⟩
  go_wp2_with fail
  go_ret
  exact ⟨rfl, hm, hs⟩

theorem next_no_S (s c : Nat) (all : Value) (l : List UInt8) (a : Nat) (er n : Int) (w : World) (h : SrcB w s all l a er) (hno : stepOut l a er n = none) :
    Calls Try.prog 67 #[.pointer (some ⟨s, 0, none⟩), .int .i64 n, .func (.func 68) #[cutFn c] #[]] w fun e w' => e = .returned (.pointer none) ∧ Mod s w w' ∧ SrcB w' s all l (stepAt l a er n) (stepErr l a er n) := by
  have HC := Lib.hid (can_no s all l a er n w h hno)
  clear hno
  go_enter Try.func67, Try.ntmps67
  go_wp2_with fail
  refine HC.out.mono ?_
  rintro e w1 ⟨rfl, hm, hs⟩
  go_wp2_with fail
  go_ret
  exact ⟨rfl, hm, hs⟩

theorem step_yes {l : List UInt8} {a : Nat} {k : Nat} (h1 : a + k ≤ l.length) : stepOut l a 0 k = some ((l.drop a).take k) ∧ stepAt l a 0 k = a + k ∧ stepErr l a 0 k = 0 := by
  have hc : (0 : Int) = 0 ∧ 0 ≤ (k : Int) ∧ (k : Int) ≤ (l.length : Int) - a := ⟨rfl, by omega, by omega⟩
  refine ⟨?_, ?_, ?_⟩
  · rw [stepOut, if_pos hc]; simp
  · rw [stepAt, if_pos hc]; simp
  · rw [stepErr, if_pos rfl, if_neg (by omega), if_neg (by omega)]

theorem nextU_yes (s c : Nat) (all : Value) (l : List UInt8) (a : Nat) (k : Nat) (h4 : k ≤ 4) (w : World) (h : SrcB w s all l a 0) (hc : w.cell? ⟨c, 0, none⟩ = some (.pointer (some ⟨s, 0, none⟩))) (h1 : a + k ≤ l.length) :
    Calls Try.prog 63 #[.pointer (some ⟨s, 0, none⟩), .int .i64 k, .func (.func 65) #[cutFn c] #[]] w fun e w' => e = .returned (.int .u32 (numOf ((l.drop a).take k))) ∧ Mod s w w' ∧ SrcB w' s all l (a + k) 0 := by
  have HC := Lib.hid (can_yes s all l a k w h (by omega) (by omega))
  go_enter Try.func63, Try.ntmps63
  go_wp2_with fail
  refine HC.out.mono ?_
  rintro e w1 ⟨rfl, hs1⟩
  go_wp2_with fail
  refine (cnum_ok s c all l a k k rfl h4 w1 (h.same hs1) (by rw [Below.cell hs1 (World.block_lt_of_cell? w _ hc)]; exact hc) h1).mono ?_
  rintro e w2 ⟨rfl, hm, hs⟩
  go_wp2_with fail
  go_ret
  exact ⟨rfl, (Mod.of_same hs1).trans hm, hs⟩

theorem nextB_yes (s c : Nat) (all : Value) (l : List UInt8) (a : Nat) (k : Nat) (h4 : k ≤ 140737488355328) (w : World) (h : SrcB w s all l a 0) (hc : w.cell? ⟨c, 0, none⟩ = some (.pointer (some ⟨s, 0, none⟩))) (h1 : a + k ≤ l.length) :
    Calls Try.prog 69 #[.pointer (some ⟨s, 0, none⟩), .int .i64 k, .func (.func 70) #[cutFn c] #[]] w fun e w' => ∃ v, e = .returned v ∧ OwnB w' w.heap.size v ((l.drop a).take k) ∧ Mod s w w' ∧ SrcB w' s all l (a + k) 0 := by
  have HC := Lib.hid (can_yes s all l a k w h (by omega) (by omega))
  go_enter Try.func69, Try.ntmps69
  go_wp2_with fail
  refine HC.out.mono ?_
  rintro e w1 ⟨rfl, hs1⟩
  go_wp2_with fail
  refine (clist_ok s c all l a k k rfl h4 w1 (h.same hs1) (by rw [Below.cell hs1 (World.block_lt_of_cell? w _ hc)]; exact hc) h1).mono ?_
  rintro e w2 ⟨v, rfl, ho, hm, hs⟩
  go_wp2_with fail
  go_ret
  exact ⟨_, rfl, ho.mono hs1.size, (Mod.of_same hs1).trans hm, hs⟩

theorem nextS_yes (s c : Nat) (all : Value) (l : List UInt8) (a : Nat) (k : Nat)  (w : World) (h : SrcB w s all l a 0) (hc : w.cell? ⟨c, 0, none⟩ = some (.pointer (some ⟨s, 0, none⟩))) (h1 : a + k ≤ l.length) :
    Calls Try.prog 67 #[.pointer (some ⟨s, 0, none⟩), .int .i64 k, .func (.func 68) #[cutFn c] #[]] w fun e w' => ∃ t v, e = .returned (.pointer (some ⟨t, 0, none⟩)) ∧ w.heap.size ≤ t ∧ SrcB w' t v ((l.drop a).take k) 0 0 ∧ Mod s w w' ∧ SrcB w' s all l (a + k) 0 ∧ v.ownBlock = all.ownBlock := by
  have HC := Lib.hid (can_yes s all l a k w h (by omega) (by omega))
  go_enter Try.func67, Try.ntmps67
  go_wp2_with fail
  refine HC.out.mono ?_
  rintro e w1 ⟨rfl, hs1⟩
  go_wp2_with fail
  refine (csrc_ok s c all l a k k rfl w1 (h.same hs1) (by rw [Below.cell hs1 (World.block_lt_of_cell? w _ hc)]; exact hc) h1).mono ?_
  rintro e w2 ⟨t, v, rfl, ht, ho, hm, hs, hv⟩
  go_wp2_with fail
  go_ret
  exact ⟨_, _, rfl, Nat.le_trans hs1.size ht, ho, (Mod.of_same hs1).trans hm, hs, hv⟩

end Go.Proofs.Ytidijoncngfppaa
