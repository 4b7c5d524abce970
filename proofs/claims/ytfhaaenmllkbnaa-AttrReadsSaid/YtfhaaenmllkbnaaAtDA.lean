/- The developers' layer 7: a step is asked for a value. No condition beyond what each names. -/
import Derived.Test.YtfhaaenmllkbnaaAtDQ
import Derived.Test.YtfhaaenmllkbnaaAtRQ
namespace Go.Proofs.Ytfhaaenmllkbnaa
open Go.RowKit
set_option linter.unusedVariables false
set_option maxRecDepth 100000

theorem unless_any (b : Bool) (n : Int) (w : World) : Calls Try.prog 54 #[.bool b, .int .i64 n] w fun e w' => e = .returned (.int .i64 (if b = true then 0 else n)) ∧ w = w' := by
  cases b
  · go_enter Try.func54, Try.ntmps54
    go_wp2_with fail
    go_ret
    exact ⟨rfl, rfl⟩
  · go_enter Try.func54, Try.ntmps54
    go_wp2_with fail
    go_ret
    exact ⟨rfl, rfl⟩

theorem ask_flags (fl ty : Int) (ao : Option Addr) (n cap : Nat) (want sz q : Int) (fv : Value) (w : World) (hq : bits .andNot .i64 fl 16 = q) (hne : (q != want) = true) :
    Calls Try.prog 52 #[.agg #[.int .i64 fl, .int .i64 ty, .slice ao n cap], .int .i64 want, .int .i64 sz, fv] w fun e w' => e = .returned (.int .i64 4) ∧ Same w w' := by
  have HA := Lib.hid (Same.alloc w (.cells #[.int .i64 fl, .int .i64 ty, .slice ao n cap] 59))
  go_enter Try.func52, Try.ntmps52
  go_wp2_with fail
  go_ret
  exact ⟨rfl, HA.out⟩

theorem ask_size (fl ty : Int) (ao : Option Addr) (n cap : Nat) (want sz q : Int) (fv : Value) (w : World) (hq : bits .andNot .i64 fl 16 = q) (hne : (q != want) = false) (hs : (sz != -1) = true) (hn : ((n : Int) != sz) = true) :
    Calls Try.prog 52 #[.agg #[.int .i64 fl, .int .i64 ty, .slice ao n cap], .int .i64 want, .int .i64 sz, fv] w fun e w' => e = .returned (.int .i64 5) ∧ Same w w' := by
  have HA := Lib.hid (Same.alloc w (.cells #[.int .i64 fl, .int .i64 ty, .slice ao n cap] 59))
  go_enter Try.func52, Try.ntmps52
  go_wp2_with fail
  go_ret
  exact ⟨rfl, HA.out⟩

theorem ask_step1 (w : World) (fl ty : Int) (vl : List UInt8) (ao : Option Addr) (n cap : Nat) (hb : Bs w (.slice ao n cap) vl) (hl : vl.length ≤ 140737488355328) (want sz q : Int) (C : Nat) (P : Int → World → Prop) (hq : bits .andNot .i64 fl 16 = q) (hne : (q != want) = false)
    (hs : (sz != -1) = true) (hn : ((n : Int) != sz) = false)
    (hstep : ∀ w1 s sv, Same w w1 → w.heap.size ≤ s → SrcB w1 s sv vl 0 0 → (∀ g, sv.ownBlock = some g → w.heap.size ≤ g) →
      Calls Try.prog 53 #[.pointer (some ⟨s, 0, none⟩), .pointer (some ⟨C, 0, none⟩)] w1 fun e w' => ∃ k, e = .returned (.int .i64 k) ∧ P k w') :
    Calls Try.prog 52 #[.agg #[.int .i64 fl, .int .i64 ty, .slice ao n cap], .int .i64 want, .int .i64 sz, .func (.func 53) #[] #[.pointer (some ⟨C, 0, none⟩)]] w fun e w' => ∃ k, e = .returned (.int .i64 k) ∧ P k w' := by
  have HA := Lib.hid (Same.alloc w (.cells #[.int .i64 fl, .int .i64 ty, .slice ao n cap] 59))
  have HR := fun w' hs => Lib.hid (Read_any (.slice ao n cap) vl w' (hb.same hs) hl)
  have HStep := fun w1 s sv a b c d => Lib.hid (hstep w1 s sv a b c d)
  clear hstep hb hl
  go_enter Try.func52, Try.ntmps52
  go_wp2_with fail
  refine (HR _ HA.out).out.mono ?_
  rintro e w1 ⟨s, sv, rfl, h1, h2, h3, h4⟩
  have HC := HStep w1 s sv (HA.out.trans h3) (Nat.le_trans HA.out.size h1) h2 (fun g hg => Nat.le_trans HA.out.size (h4 g hg))
  clear h1 h2 h3 h4
  go_wp2_with fail
  refine HC.out.mono ?_
  rintro e w2 ⟨k, rfl, hp⟩
  have HPk := Lib.hid hp
  clear hp
  go_wp2_with fail
  go_ret
  exact ⟨_, rfl, HPk.out⟩

theorem ask_step2 (w : World) (fl ty : Int) (vl : List UInt8) (ao : Option Addr) (n cap : Nat) (hb : Bs w (.slice ao n cap) vl) (hl : vl.length ≤ 140737488355328) (want sz q : Int) (C : Nat) (P : Int → World → Prop) (hq : bits .andNot .i64 fl 16 = q) (hne : (q != want) = false)
    (hs : (sz != -1) = false)
    (hstep : ∀ w1 s sv, Same w w1 → w.heap.size ≤ s → SrcB w1 s sv vl 0 0 → (∀ g, sv.ownBlock = some g → w.heap.size ≤ g) →
      Calls Try.prog 55 #[.pointer (some ⟨s, 0, none⟩), .pointer (some ⟨C, 0, none⟩)] w1 fun e w' => ∃ k, e = .returned (.int .i64 k) ∧ P k w') :
    Calls Try.prog 52 #[.agg #[.int .i64 fl, .int .i64 ty, .slice ao n cap], .int .i64 want, .int .i64 sz, .func (.func 55) #[] #[.pointer (some ⟨C, 0, none⟩)]] w fun e w' => ∃ k, e = .returned (.int .i64 k) ∧ P k w' := by
  have HA := Lib.hid (Same.alloc w (.cells #[.int .i64 fl, .int .i64 ty, .slice ao n cap] 59))
  have HR := fun w' hs => Lib.hid (Read_any (.slice ao n cap) vl w' (hb.same hs) hl)
  have HStep := fun w1 s sv a b c d => Lib.hid (hstep w1 s sv a b c d)
  clear hstep hb hl
  go_enter Try.func52, Try.ntmps52
  go_wp2_with fail
  refine (HR _ HA.out).out.mono ?_
  rintro e w1 ⟨s, sv, rfl, h1, h2, h3, h4⟩
  have HC := HStep w1 s sv (HA.out.trans h3) (Nat.le_trans HA.out.size h1) h2 (fun g hg => Nat.le_trans HA.out.size (h4 g hg))
  clear h1 h2 h3 h4
  go_wp2_with fail
  refine HC.out.mono ?_
  rintro e w2 ⟨k, rfl, hp⟩
  have HPk := Lib.hid hp
  clear hp
  go_wp2_with fail
  go_ret
  exact ⟨_, rfl, HPk.out⟩

theorem ask_step3 (w : World) (fl ty : Int) (vl : List UInt8) (ao : Option Addr) (n cap : Nat) (hb : Bs w (.slice ao n cap) vl) (hl : vl.length ≤ 140737488355328) (want sz q : Int) (C : Nat) (P : Int → World → Prop) (hq : bits .andNot .i64 fl 16 = q) (hne : (q != want) = false)
    (hs : (sz != -1) = true) (hn : ((n : Int) != sz) = false)
    (hstep : ∀ w1 s sv, Same w w1 → w.heap.size ≤ s → SrcB w1 s sv vl 0 0 → (∀ g, sv.ownBlock = some g → w.heap.size ≤ g) →
      Calls Try.prog 57 #[.pointer (some ⟨s, 0, none⟩), .pointer (some ⟨C, 0, none⟩)] w1 fun e w' => ∃ k, e = .returned (.int .i64 k) ∧ P k w') :
    Calls Try.prog 52 #[.agg #[.int .i64 fl, .int .i64 ty, .slice ao n cap], .int .i64 want, .int .i64 sz, .func (.func 57) #[] #[.pointer (some ⟨C, 0, none⟩)]] w fun e w' => ∃ k, e = .returned (.int .i64 k) ∧ P k w' := by
  have HA := Lib.hid (Same.alloc w (.cells #[.int .i64 fl, .int .i64 ty, .slice ao n cap] 59))
  have HR := fun w' hs => Lib.hid (Read_any (.slice ao n cap) vl w' (hb.same hs) hl)
  have HStep := fun w1 s sv a b c d => Lib.hid (hstep w1 s sv a b c d)
  clear hstep hb hl
  go_enter Try.func52, Try.ntmps52
  go_wp2_with fail
  refine (HR _ HA.out).out.mono ?_
  rintro e w1 ⟨s, sv, rfl, h1, h2, h3, h4⟩
  have HC := HStep w1 s sv (HA.out.trans h3) (Nat.le_trans HA.out.size h1) h2 (fun g hg => Nat.le_trans HA.out.size (h4 g hg))
  clear h1 h2 h3 h4
  go_wp2_with fail
  refine HC.out.mono ?_
  rintro e w2 ⟨k, rfl, hp⟩
  have HPk := Lib.hid hp
  clear hp
  go_wp2_with fail
  go_ret
  exact ⟨_, rfl, HPk.out⟩

theorem ask_step4 (w : World) (fl ty : Int) (vl : List UInt8) (ao : Option Addr) (n cap : Nat) (hb : Bs w (.slice ao n cap) vl) (hl : vl.length ≤ 140737488355328) (want sz q : Int) (C : Nat) (P : Int → World → Prop) (hq : bits .andNot .i64 fl 16 = q) (hne : (q != want) = false)
    (hs : (sz != -1) = true) (hn : ((n : Int) != sz) = false)
    (hstep : ∀ w1 s sv, Same w w1 → w.heap.size ≤ s → SrcB w1 s sv vl 0 0 → (∀ g, sv.ownBlock = some g → w.heap.size ≤ g) →
      Calls Try.prog 59 #[.pointer (some ⟨s, 0, none⟩), .pointer (some ⟨C, 0, none⟩)] w1 fun e w' => ∃ k, e = .returned (.int .i64 k) ∧ P k w') :
    Calls Try.prog 52 #[.agg #[.int .i64 fl, .int .i64 ty, .slice ao n cap], .int .i64 want, .int .i64 sz, .func (.func 59) #[] #[.pointer (some ⟨C, 0, none⟩)]] w fun e w' => ∃ k, e = .returned (.int .i64 k) ∧ P k w' := by
  have HA := Lib.hid (Same.alloc w (.cells #[.int .i64 fl, .int .i64 ty, .slice ao n cap] 59))
  have HR := fun w' hs => Lib.hid (Read_any (.slice ao n cap) vl w' (hb.same hs) hl)
  have HStep := fun w1 s sv a b c d => Lib.hid (hstep w1 s sv a b c d)
  clear hstep hb hl
  go_enter Try.func52, Try.ntmps52
  go_wp2_with fail
  refine (HR _ HA.out).out.mono ?_
  rintro e w1 ⟨s, sv, rfl, h1, h2, h3, h4⟩
  have HC := HStep w1 s sv (HA.out.trans h3) (Nat.le_trans HA.out.size h1) h2 (fun g hg => Nat.le_trans HA.out.size (h4 g hg))
  clear h1 h2 h3 h4
  go_wp2_with fail
  refine HC.out.mono ?_
  rintro e w2 ⟨k, rfl, hp⟩
  have HPk := Lib.hid hp
  clear hp
  go_wp2_with fail
  go_ret
  exact ⟨_, rfl, HPk.out⟩

end Go.Proofs.Ytfhaaenmllkbnaa
