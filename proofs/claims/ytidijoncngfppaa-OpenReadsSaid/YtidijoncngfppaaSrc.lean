/- Contracts of the methods of a source of bytes. No condition beyond what each names. -/
import Derived.Test.YtidijoncngfppaaProg
import Derived.Test.YtidijoncngfppaaBase
import Derived.BigQuiet
import Derived.Outline
import Derived.LoopTactic
namespace Go.Proofs.Ytidijoncngfppaa
open Go.RowKit
set_option linter.unusedVariables false

/-- block s is a source that a call made -/
def Src (w : World) (s : Nat) (all : Value) (at_ : Nat) (er : Int) : Prop :=
  w.heap[s]? = some (.cells #[.bool true, all, .int .i64 (at_ : Int), .int .i64 er] 89 (0, 0))

theorem Src.cells {w : World} {s : Nat} {all : Value} {at_ : Nat} {er : Int} (h : Src w s all at_ er) :
    w.cell? ⟨s, 0, none⟩ = some (.bool true) ∧ w.cell? ⟨s, 1, none⟩ = some all ∧ w.cell? ⟨s, 2, none⟩ = some (.int .i64 at_) ∧ w.cell? ⟨s, 3, none⟩ = some (.int .i64 er) ∧
    w.frozen? ⟨s, 2, none⟩ = false ∧ w.frozen? ⟨s, 3, none⟩ = false := by
  unfold Src at h
  simp [World.cell?, World.frozen?, h]

theorem Src.lt {w : World} {s : Nat} {all : Value} {at_ : Nat} {er : Int} (h : Src w s all at_ er) : s < w.heap.size := (Array.getElem?_eq_some_iff.1 h).1

theorem Src.same {w w' : World} {s : Nat} {all : Value} {at_ : Nat} {er : Int} (h : Same w w') (hs : Src w s all at_ er) : Src w' s all at_ er := Same.block h hs

theorem Src.setErr {w : World} {s : Nat} {all : Value} {at_ : Nat} {er : Int} (h : Src w s all at_ er) (n : Int) : Src (w.setCell ⟨s, 3, none⟩ (.int .i64 n)) s all at_ n := by
  unfold Src at *
  simp [World.setCell, Array.getElem?_modify, h]
theorem Src.setAt {w : World} {s : Nat} {all : Value} {at_ : Nat} {er : Int} (h : Src w s all at_ er) (n : Nat) : Src (w.setCell ⟨s, 2, none⟩ (.int .i64 n)) s all n er := by
  unfold Src at *
  simp [World.setCell, Array.getElem?_modify, h]

theorem isMade_nil (w : World) : Calls Try.prog 66 #[.pointer none] w fun e w' => e = .returned (.bool false) ∧ w = w' := by
  go_enter Try.func66, Try.ntmps66
  go_wp2
  go_ret
  exact ⟨rfl, rfl⟩

theorem isMade_yes (s : Nat) (b : Bool) (w : World) (h : w.cell? ⟨s, 0, none⟩ = some (.bool b)) : Calls Try.prog 66 #[.pointer (some ⟨s, 0, none⟩)] w fun e w' => e = .returned (.bool b) ∧ w = w' := by
  go_enter Try.func66, Try.ntmps66
  go_wp2
  go_ret
  exact ⟨rfl, rfl⟩

theorem err_made (s : Nat) (all : Value) (at_ : Nat) (er : Int) (w : World) (h : Src w s all at_ er) : Calls Try.prog 58 #[.pointer (some ⟨s, 0, none⟩)] w fun e w' => e = .returned (.int .i64 er) ∧ w = w' := by
  obtain ⟨c0, c1, c2, c3, f2, f3⟩ := h.cells
  go_enter Try.func58, Try.ntmps58
  go_wp2_with (go_at_call 66; refine (isMade_yes _ true _ (by assumption)).mono ?_; rintro e w' ⟨rfl, rfl⟩)
  go_ret
  exact ⟨rfl, rfl⟩

theorem left_err (s : Nat) (all : Value) (at_ : Nat) (er : Int) (w : World) (h : Src w s all at_ er) (he : (er == 0) = false) (he' : (er != 0) = true) :
    Calls Try.prog 37 #[.pointer (some ⟨s, 0, none⟩)] w fun e w' => e = .returned (.int .i64 0) ∧ Same w w' := by
  go_enter Try.func37, Try.ntmps37
  go_wp2_with (go_at_call 58; refine (err_made _ _ _ _ _ h).mono ?_; rintro e w' ⟨rfl, rfl⟩)
  go_ret
  exact ⟨rfl, Same.refl _⟩

theorem left_ok (s : Nat) (ao : Option Addr) (n cap : Nat) (at_ : Nat) (w : World) (h : Src w s (.slice ao n cap) at_ 0) (h1 : at_ ≤ n) (h2 : (n : Int) ≤ 9223372036854775807) :
    Calls Try.prog 37 #[.pointer (some ⟨s, 0, none⟩)] w fun e w' => e = .returned (.int .i64 ((n : Int) - at_)) ∧ Same w w' := by
  obtain ⟨c0, c1, c2, c3, f2, f3⟩ := h.cells
  have g : (at_ : Int) ≤ n := by omega
  go_enter Try.func37, Try.ntmps37
  go_wp2_with (go_at_call 58; refine (err_made _ _ _ _ _ h).mono ?_; rintro e w' ⟨rfl, rfl⟩)
  go_quiet (fail)
  go_wp2
  go_ret
  exact ⟨rfl, (Same.refl _).drewN _⟩

theorem can_err (s : Nat) (all : Value) (at_ : Nat) (er n : Int) (w : World) (h : Src w s all at_ er) (he : (er == 0) = false) (he' : (er != 0) = true) :
    Calls Try.prog 72 #[.pointer (some ⟨s, 0, none⟩), .int .i64 n] w fun e w' => e = .returned (.bool false) ∧ Same w w' := by
  go_enter Try.func72, Try.ntmps72
  go_wp2_with (go_at_call 58; refine (err_made _ _ _ _ _ h).mono ?_; rintro e w' ⟨rfl, rfl⟩)
  go_ret
  exact ⟨rfl, Same.refl _⟩

theorem can_arg (s : Nat) (all : Value) (at_ : Nat) (n : Int) (w : World) (h : Src w s all at_ 0) (hn : n < 0) :
    Calls Try.prog 72 #[.pointer (some ⟨s, 0, none⟩), .int .i64 n] w fun e w' => e = .returned (.bool false) ∧ Mod s w w' ∧ Src w' s all at_ 2 := by
  obtain ⟨c0, c1, c2, c3, f2, f3⟩ := h.cells
  go_enter Try.func72, Try.ntmps72
  go_wp2_with (go_at_call 58; refine (err_made _ _ _ _ _ h).mono ?_; rintro e w' ⟨rfl, rfl⟩)
  go_ret
  exact ⟨rfl, Mod.setCell _ _ _ _, h.setErr 2⟩

theorem can_short (s : Nat) (ao : Option Addr) (m cap : Nat) (at_ : Nat) (n : Int) (w : World) (h : Src w s (.slice ao m cap) at_ 0) (h1 : at_ ≤ m) (h2 : (m : Int) ≤ 9223372036854775807) (hn : ¬ n < 0) (hs : (m : Int) - at_ < n) :
    Calls Try.prog 72 #[.pointer (some ⟨s, 0, none⟩), .int .i64 n] w fun e w' => e = .returned (.bool false) ∧ Mod s w w' ∧ Src w' s (.slice ao m cap) at_ 3 := by
  go_enter Try.func72, Try.ntmps72
  go_wp2_with (first | (go_at_call 58; refine (err_made _ _ _ _ _ h).mono ?_; rintro e w' ⟨rfl, rfl⟩) | (go_at_call 37; refine (left_ok _ _ _ _ _ _ h h1 h2).mono ?_; rintro e w1 ⟨rfl, hs1⟩; have h3 := h.same hs1; obtain ⟨c0, c1, c2, c3, f2, f3⟩ := h3.cells))
  go_ret
  exact ⟨rfl, (Mod.of_same ‹_›).trans (Mod.setCell _ _ _ _), (h.same ‹_›).setErr 3⟩

theorem can_ok (s : Nat) (ao : Option Addr) (m cap : Nat) (at_ : Nat) (n : Int) (w : World) (h : Src w s (.slice ao m cap) at_ 0) (h1 : at_ ≤ m) (h2 : (m : Int) ≤ 9223372036854775807) (hn : ¬ n < 0) (hs : n ≤ (m : Int) - at_) :
    Calls Try.prog 72 #[.pointer (some ⟨s, 0, none⟩), .int .i64 n] w fun e w' => e = .returned (.bool true) ∧ Same w w' := by
  go_enter Try.func72, Try.ntmps72
  go_wp2_with (first | (go_at_call 58; refine (err_made _ _ _ _ _ h).mono ?_; rintro e w' ⟨rfl, rfl⟩) | (go_at_call 37; refine (left_ok _ _ _ _ _ _ h h1 h2).mono ?_; rintro e w1 ⟨rfl, hs1⟩; have h3 := h.same hs1; obtain ⟨c0, c1, c2, c3, f2, f3⟩ := h3.cells))
  go_ret
  exact ⟨rfl, ‹_›⟩

theorem cut_any (a : Option Addr) (w : World) : Calls Try.prog 64 #[.pointer a] w fun e w' => e = .returned (.func (.func 73) #[] #[.pointer (some ⟨w.heap.size, 0, none⟩)]) ∧ w' = w.alloc (.cells #[.pointer a] 69) := by
  go_enter Try.func64, Try.ntmps64
  go_wp2
  go_ret
  exact ⟨rfl, rfl⟩

theorem cut1_ok (s c : Nat) (ao : Option Addr) (m cap : Nat) (at_ : Nat) (n : Int) (k : Nat) (hk : n = k) (er : Int) (w : World) (h : Src w s (.slice ao m cap) at_ er) (hc : w.cell? ⟨c, 0, none⟩ = some (.pointer (some ⟨s, 0, none⟩)))
    (h1 : (at_ : Int) + k ≤ m) (h2 : (m : Int) ≤ cap) (h3 : (cap : Int) ≤ 9223372036854775807) :
    Calls Try.prog 73 #[.int .i64 n, .pointer (some ⟨c, 0, none⟩)] w fun e w' => e = .returned (.slice (if k = 0 then ao else ao.map (·.add at_)) k k) ∧ Mod s w w' ∧ Src w' s (.slice ao m cap) (at_ + k) er := by
  subst hk
  have hsrc := Lib.hid h
  obtain ⟨c0, c1, c2, c3, f2, f3⟩ := h.cells
  clear h
  have g : (at_ : Int) + k ≤ cap := by omega
  by_cases hk0 : k = 0
  · subst hk0
    go_enter Try.func73, Try.ntmps73
    go_wp2
    go_quiet (fail)
    go_wp2
    go_ret
    refine ⟨rfl, ?_, ?_⟩
    · have := (Mod.setCell s 2 w (.int .i64 (at_ : Int)))
      exact ⟨this.os, this.tape, this.output, by rw [drewN_heap]; exact this.size, by rw [drewN_heap]; exact this.block⟩
    · have := hsrc.out.setAt at_
      unfold Src at *; rw [drewN_heap]; exact this
  · go_enter Try.func73, Try.ntmps73
    go_wp2
    go_quiet (fail)
    go_wp2
    go_ret
    refine ⟨rfl, ?_, ?_⟩
    · have := (Mod.setCell s 2 w (.int .i64 ((at_ : Int) + k)))
      exact ⟨this.os, this.tape, this.output, by rw [drewN_heap]; exact this.size, by rw [drewN_heap]; exact this.block⟩
    · have := hsrc.out.setAt (at_ + k)
      unfold Src at *; rw [drewN_heap]; exact this

theorem number_any (v : Value) (l : List UInt8) (w : World) (h : Bs w v l) (hl : l.length ≤ 4) :
    Calls Try.prog 74 #[v] w fun e w' => e = .returned (.int .u32 (numOf l)) ∧ w' = w := by
  obtain ⟨ao, cap, rfl, h1, h2, h3, h4⟩ := h
  go_enter Try.func74, Try.ntmps74
  go_wp2
  go_loop [3, 8] (fun t i => ∃ k : Nat, k ≤ l.length ∧ i = .int .i64 k ∧ t = .int .u32 (numOf (l.take k))) (fun _ i => l.length - (intOf i).toNat)
  case atStart => exact ⟨0, Nat.zero_le _, rfl, rfl⟩
  case round =>
    obtain ⟨k, hk, rfl, rfl⟩ := hrel
    by_cases hlt : k < l.length
    · obtain ⟨ad, rfl⟩ : ∃ ad, ao = some ad := by
        cases ao with
        | none => have := h3 rfl; omega
        | some ad => exact ⟨ad, rfl⟩
      have hc := (h4 ad rfl).2 k l[k] (by simp [hlt])
      clear h4 h3
      go_wp2
      exact ⟨⟨k + 1, by omega, by go_num, by rw [numOf_take_u32 l k hlt hl]⟩, by simp [intOf]; omega⟩
    · go_wp2
      go_ret
      obtain rfl : k = l.length := by omega
      exact ⟨by simp, rfl⟩
end Go.Proofs.Ytidijoncngfppaa
