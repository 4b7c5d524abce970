/- The walk of WireGets: whatever is asked, the source tells what the document's tells. No condition. -/
import Derived.Test.YtphhnjfkniahdaaGetsB
import Derived.LoopTactic
namespace Go.Proofs.Ytphhnjfkniahdaa
open Go.RowKit
set_option linter.unusedVariables false

/-- whatever is asked: true, and both go on alike -/
theorem get_any (k n : Int) (s t B : Nat) (l : List UInt8) (a : Nat) (er : Int) (w : World) (h : Both B w s t l a er) (hl : l.length ≤ 140737488355328) :
    Calls Try.prog 17 #[.pointer (some ⟨s, 0, none⟩), .pointer (some ⟨t, 0, none⟩), .agg #[.int .i64 k, .int .i64 n]] w fun e w' => e = .returned (.bool true) ∧ ∃ a' er', Below B w w' ∧ Both B w' s t l a' er' := by
  by_cases h0 : k = 0
  · subst h0; exact (get_U8 n s t B l a er w h hl).mono fun e w' ⟨he, hb, hw⟩ => ⟨he, _, _, hb, hw⟩
  by_cases h1 : k = 1
  · subst h1; exact (get_U16 n s t B l a er w h hl).mono fun e w' ⟨he, hb, hw⟩ => ⟨he, _, _, hb, hw⟩
  by_cases h2 : k = 2
  · subst h2; exact (get_U32 n s t B l a er w h hl).mono fun e w' ⟨he, hb, hw⟩ => ⟨he, _, _, hb, hw⟩
  by_cases h3 : k = 3
  · subst h3; exact (get_Bytes n s t B l a er w h hl).mono fun e w' ⟨he, hb, hw⟩ => ⟨he, _, _, hb, hw⟩
  by_cases h4 : k = 4
  · subst h4; exact (get_Rest n s t B l a er w h hl).mono fun e w' ⟨he, hb, hw⟩ => ⟨he, _, _, hb, hw⟩
  exact (get_Sub k n (by simpa using h0) (by simpa using h1) (by simpa using h2) (by simpa using h3) (by simpa using h4) s t B l a er w h hl).mono fun e w' ⟨he, hb, hw⟩ => ⟨he, _, _, hb, hw⟩

/-- what is left, of both: the same number -/
def LeftBoth (w : World) (s t : Nat) : Prop := ∃ q : Int, (Calls Try.prog 19 #[.pointer (some ⟨s, 0, none⟩)] w fun e w' => e = .returned (.int .i64 q) ∧ Same w w') ∧
  ∀ w4, Same w w4 → Calls Try.prog 20 #[.pointer (some ⟨t, 0, none⟩)] w4 fun e w' => e = .returned (.int .i64 q) ∧ Same w4 w'
theorem left_both {w : World} {s t : Nat} {y1 y2 : Value} {l : List UInt8} {a : Nat} {er : Int} (z1 : SrcB w s y1 l a er) (z3 : RSrcB w t y2 l a er) : Hid (LeftBoth w s t) :=
  ⟨_, Left_made s y1 l a er w z1, fun w4 hs => rLeft_any t y2 l a er w4 (z3.same hs)⟩

set_option maxHeartbeats 3200000 in
theorem gets_walk (ao : Option Addr) (m cap : Nat) (K N : Nat → Int) (b : Value) (l : List UInt8) (w : World)
    (hz : ∀ ab o sp, ao = some ⟨ab, o, sp⟩ → ∀ j, j < m → w.cell? ⟨ab, o + j * 2, none⟩ = some (.int .i64 (K j)) ∧ w.cell? ⟨ab, o + j * 2 + 1, none⟩ = some (.int .i64 (N j)) ∧ sp = none) (hn : ao = none → m = 0) (hb : Bs w b l)
    (h60 : (m : Int) ≤ 60) (h300 : (l.length : Int) ≤ 300) :
    Calls Try.prog 4 #[b, .slice ao m cap] w fun e w' => e = .returned (.bool true) ∧ Same w w' := by
  have HB := Lib.hid hb
  have HZ := Lib.hid hz
  have HR := Lib.hid (Read_any b l w hb (by omega))
  obtain ⟨bo, bcap, rfl, b1, b2, b3, b4⟩ := hb
  clear b3 b4 hz
  go_enter Try.func4, Try.ntmps4
  go_wp2_with fail
  refine HR.out.mono ?_
  rintro e w1 ⟨s, v1, rfl, hs, hsr, hs1, hf1⟩
  have HS1 := Lib.hid hs1
  have HSR := Lib.hid hsr
  have HF1 := Lib.hid hf1
  have HLE := Lib.hid hs
  clear hs1 hsr hf1 hs
  go_wp2_with fail
  refine (rRead_any _ l w1 (HB.out.same HS1.out) (by omega)).mono ?_
  rintro e w2 ⟨t, v2, rfl, ht, htr, hs2, hf2⟩
  have HBO : Hid (Both w.heap.size w2 s t l 0 0) := by
    have q1 := HSR.out.src.lt
    have q2 := HS1.out.size
    have q3 := hs2.size
    have q4 := HLE.out
    refine ⟨⟨v1, HSR.out.same hs2, fun he => ?_⟩, ⟨v2, htr, fun he => ?_⟩, by omega, by omega, by omega, by omega⟩
    · have := HSR.out.lt _ he; omega
    · have := hf2 _ he; omega
  have HBL : Hid (Below w.heap.size w w2) := HS1.out.trans hs2
  clear hs2 htr ht hf2 HSR HF1 HLE
  have hl2 : l.length ≤ 140737488355328 := by omega
  go_wp2_with fail
  go_loopw [24] (fun i wr => ∃ (k a : Nat) (er : Int), k ≤ m ∧ i = .int .i64 k ∧ Both w.heap.size wr s t l a er ∧ Below w.heap.size w wr) (fun i _ => m - (intOf i).toNat)
  case atStart => exact ⟨0, 0, 0, Nat.zero_le _, rfl, HBO.out, HBL.out⟩
  case round =>
    obtain ⟨k, a, er, hk, rfl, hbo, hbl⟩ := hrel
    have HB1 := Lib.hid hbo
    have HL1 := Lib.hid hbl
    clear hbo hbl HBO HBL
    by_cases hlt : k < m
    · obtain ⟨ab, o, sp, rfl⟩ : ∃ ab o sp, ao = some ⟨ab, o, sp⟩ := by
        cases ao with
        | none => have := hn rfl; omega
        | some ad => exact ⟨ad.block, ad.off, ad.spot, rfl⟩
      obtain ⟨c0, c1, hsp⟩ := HZ.out ab o sp rfl k hlt
      subst hsp
      have d0 : wr.cell? ⟨ab, o + k * 2, none⟩ = some (.int .i64 (K k)) := by rw [Below.cell HL1.out (World.block_lt_of_cell? w _ c0)]; exact c0
      have d1 : wr.cell? ⟨ab, o + k * 2 + 1, none⟩ = some (.int .i64 (N k)) := by rw [Below.cell HL1.out (World.block_lt_of_cell? w _ c1)]; exact c1
      clear c0 c1
      generalize K k = kk at *
      generalize N k = nn at *
      go_wp2_with fail
      have hsm := (Same.alloc wr (.cells #[.int .i64 kk, .int .i64 nn] 42)).drew
      have HG := Lib.hid (get_any kk nn s t w.heap.size l a er _ (HB1.out.same hsm) hl2)
      have HL2 := Lib.hid (HL1.out.trans (hsm.below HB1.out.leB))
      clear hsm
      go_region_with (first
        | (go_at_call 17; go_must (refine HG.out.mono ?_; rintro e wg ⟨rfl, a', er', hbl', hbo'⟩; obtain ⟨⟨y1, z1, z2⟩, ⟨y2, z3, z4⟩, n1, n2, n3, n4⟩ := id hbo'; obtain ⟨C0, C1, C2, F1, F2⟩ := z3.src.cells; have Z1 := Lib.hid z1; have Z3 := Lib.hid z3; have HBO := Lib.hid hbo'; have HBL := Lib.hid (HL2.out.trans hbl'); have HQ := left_both z1 z3; have e0 := beq_self_eq_true er'; have e1 := bne_self_eq_false' (a := er'); clear z1 z3 hbo' hbl' z2 z4 n1 n2 n3 n4))
        | (go_at_call 18; go_must (refine (err_made s y1 a' er' _ Z1.out.src).mono ?_; rintro e we ⟨rfl, rfl⟩))
        | (go_at_call 19; go_must (obtain ⟨q, hq1, hq2⟩ := HQ.out; refine hq1.mono ?_; rintro e w4 ⟨rfl, hs4⟩; have HS4 := Lib.hid hs4; have HQ2 := Lib.hid (hq2 w4 hs4); clear hs4 hq1 hq2))
        | (go_at_call 20; go_must (refine HQ2.out.mono ?_; rintro e w5 ⟨rfl, hs5⟩; have HS5 := Lib.hid (HS4.out.trans hs5); have D1 := cell_same (HS4.out.trans hs5) C1; clear hs5))
        | (go_at_call 21; go_must (refine (at_made s y1 a' er' _ (Z1.out.same HS5.out).src).mono ?_; rintro e w6 ⟨rfl, rfl⟩)))
      all_goals (go_wp2_with fail; exact ⟨⟨k + 1, a', er', by omega, by go_num, HBO.out.same HS5.out, HBL.out.trans (HS5.out.below HBO.out.leB)⟩, by simp [intOf]; omega⟩)
    · obtain rfl : k = m := by omega
      clear hk hlt
      obtain ⟨⟨y1, z1, z2⟩, ⟨y2, z3, z4⟩, n1, n2, n3, n4⟩ := id HB1.out
      have HE1 := Lib.hid (End_made s y1 l a er wr z1)
      have HE2 : Hid (∀ w4, Same wr w4 → Calls Try.prog 23 #[.pointer (some ⟨t, 0, none⟩)] w4 fun e w' => e = .returned (.int .i64 (endOf l a er)) ∧ Same w4 w') := fun w4 hs => rEnd_any t y2 l a er w4 (z3.same hs)
      clear z1 z2 z3 z4 n1 n2 n3
      generalize endOf l a er = q at *
      have e0 := beq_self_eq_true q
      go_wp2_with fail
      refine HE1.out.mono ?_
      rintro e w4 ⟨rfl, hs4⟩
      have HS4 := Lib.hid hs4
      clear hs4
      go_wp2_with fail
      refine (HE2.out w4 HS4.out).mono ?_
      rintro e w5 ⟨rfl, hs5⟩
      have HS5 := Lib.hid (HS4.out.trans hs5)
      clear hs5
      go_wp2_with fail
      refine (lives_true w5).mono ?_
      rintro e w6 ⟨rfl, hs6⟩
      have HS6 := Lib.hid (HS5.out.trans hs6)
      clear hs6
      go_wp2_with fail
      go_ret
      exact ⟨rfl, HL1.out.trans (HS6.out.below n4)⟩
end Go.Proofs.Ytphhnjfkniahdaa
