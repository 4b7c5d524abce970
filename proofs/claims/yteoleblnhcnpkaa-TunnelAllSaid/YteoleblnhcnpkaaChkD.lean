/- Contracts of the program's own layer 2 (check sums): words told by a range over a function, sums folded. No condition beyond what each names. -/
import Derived.Test.YteoleblnhcnpkaaChkC
import Derived.RangeFuncNested
import Derived.RangeFuncBound
import Derived.RangeFuncBox
import Derived.RangeFuncCalls
import Derived.RangeFuncLeaves
import Derived.Shelf.Abstract
import Derived.Shelf.RegionOpen
import Derived.WalkKit
import Derived.OwnWalkIn
import Derived.TacticsInMore
import Derived.LoopNIn
import Derived.LoopIn
namespace Go.Proofs.Yteoleblnhcnpkaa
open Go.RowKit Go.Shelf
set_option linter.unusedVariables false
attribute [local go_sem] Oper.semAt_some

theorem cword_any (n : Int) (w : World) : Calls Try.prog 94 #[.int .i64 n] w fun e w' => e = .returned (.int .i64 (wd n : Nat)) ∧ w = w' := by
  have hb := i64_and65535 n
  have hw : Hid ((n % 65536) = (wd n : Int)) := by show _ = _; unfold wd; omega
  go_enter Try.func94, Try.ntmps94
  go_wp2_with fail
  go_ret
  exact ⟨by rw [← hw.out]; rfl, rfl⟩

theorem cnot_any (n : Int) (w : World) : Calls Try.prog 88 #[.int .i64 n] w fun e w' => e = .returned (.int .i64 (65535 - wd n : Nat)) ∧ w = w' := by
  have H := Lib.hid (cword_any n w)
  have hl : (wd n : Int) ≤ 65535 := by have := wd_le n; omega
  have hq : Hid (((65535 - wd n : Nat) : Int) = 65535 - wd n) := by show _ = _; omega
  generalize (65535 - wd n : Nat) = q at *
  generalize wd n = x at *
  go_enter Try.func88, Try.ntmps88
  go_wp2_with fail
  refine H.out.mono ?_
  rintro e w1 ⟨rfl, rfl⟩
  go_wp2_with fail
  go_ret
  exact ⟨by rw [hq.out]; rfl, rfl⟩

theorem shr16_small (x : Int) (h0 : 0 ≤ x) (h1 : x ≤ 65535) : x / 65536 = 0 := by omega

/-- a sum of two words, folded -/
theorem cfold_any (s : Nat) (hs : s ≤ 131070) (w : World) : Calls Try.prog 95 #[.int .i64 s] w fun e w' => e = .returned (.int .i64 (if 65535 < s then s - 65535 else s : Nat)) ∧ w = w' := by
  have H := Lib.hid (cword_any (s : Int) w)
  have hw : Hid ((wd (s : Int) : Int) = (s : Int) % 65536) := by show _ = _; unfold wd; omega
  have hr : Hid (∀ x : Int, (x = s ∨ (65535 < s ∧ x = (s : Int) - 65535)) → x / 65536 = 0 → x = ((if 65535 < s then s - 65535 else s : Nat) : Int)) := by
    intro x hx h0
    split <;> omega
  generalize (if 65535 < s then s - 65535 else s : Nat) = r at *
  go_enter Try.func95, Try.ntmps95
  go_wp2_with fail
  go_step3
  go_wp2_with fail
  go_step3
  go_wp2_with fail
  go_loop [0] (fun v => ∃ x : Int, v = .int .i64 x ∧ (x = s ∨ (65535 < s ∧ x = (s : Int) - 65535))) (fun v => (intOf v).toNat)
  case atStart => exact ⟨s, rfl, .inl rfl⟩
  case round =>
    obtain ⟨x, rfl, hx⟩ := hrel
    by_cases h0 : x / 65536 = 0
    · have hx2 := Lib.hid (hr.out x hx h0)
      go_wp2_with fail
      go_ret
      exact ⟨by rw [← hx2.out]; rfl, rfl⟩
    · rcases hx with rfl | ⟨h1, h2⟩
      · have q1 : (s : Int) / 65536 = 1 := by omega
        have q2 : (wd (s : Int) : Int) = s - 65536 := by have := hw.out; omega
        have q3 : (s : Int) ≤ 131070 := by omega
        have q4 : 65536 ≤ (s : Int) := by omega
        clear h0 hr hw
        generalize (wd (s : Int) : Int) = y at *
        go_wp2_with fail
        refine H.out.mono ?_
        rintro e w1 ⟨rfl, rfl⟩
        go_wp2_with fail
        exact ⟨⟨_, rfl, .inr ⟨by omega, by omega⟩⟩, by simp [intOf]; omega⟩
      · omega

theorem cAdd_any (a b : Int) (w : World) : Calls Try.prog 89 #[.int .i64 a, .int .i64 b] w fun e w' => e = .returned (.int .i64 (addw (wd a) (wd b) : Nat)) ∧ w = w' := by
  have HA := Lib.hid (cword_any a w)
  have HB := Lib.hid (cword_any b w)
  have la : (wd a : Int) ≤ 65535 := by have := wd_le a; omega
  have lb : (wd b : Int) ≤ 65535 := by have := wd_le b; omega
  have HF := cfold_any (wd a + wd b) (by omega) w
  rw [show (if 65535 < wd a + wd b then wd a + wd b - 65535 else wd a + wd b) = addw (wd a) (wd b) from rfl] at HF
  rw [show (((wd a + wd b : Nat)) : Int) = (wd a : Int) + wd b from by omega] at HF
  have HF := Lib.hid HF
  generalize addw (wd a) (wd b) = q at *
  generalize wd a = x at *
  generalize wd b = y at *
  go_enter Try.func89, Try.ntmps89
  go_wp2_with fail
  refine HA.out.mono ?_
  rintro e w1 ⟨rfl, rfl⟩
  go_wp2_with fail
  refine HB.out.mono ?_
  rintro e w1 ⟨rfl, rfl⟩
  go_wp2_with fail
  refine HF.out.mono ?_
  rintro e w1 ⟨rfl, rfl⟩
  go_wp2_with fail
  go_ret
  exact ⟨rfl, rfl⟩

theorem or_hi_lo (x y : Nat) (hx : x < 256) (hy : y < 256) : bits .or .i64 ((x : Int) * 256) (y : Int) = 256 * (x : Int) + y := by
  have e1 : (BitVec.ofInt 64 ((x : Int) * 256)).toNat = 2 ^ 8 * x := by rw [BitVec.toNat_ofInt]; omega
  have e2 : (BitVec.ofInt 64 (y : Int)).toNat = y := by rw [BitVec.toNat_ofInt]; omega
  have key : (BitVec.ofInt 64 ((x : Int) * 256) ||| BitVec.ofInt 64 (y : Int)).toNat = 2 ^ 8 * x + y := by
    rw [BitVec.toNat_or, e1, e2, Nat.two_pow_add_eq_or_of_lt (by omega)]
  show IntKind.i64.wrap ((BitVec.ofInt 64 ((x : Int) * 256) ||| BitVec.ofInt 64 (y : Int)).toNat : Nat) = _
  rw [key, IntKind.wrap_i64]
  omega

/-- a word of bytes -/
theorem cwordAt_any (v : Value) (l : List UInt8) (w : World) (hb : Bs w v l) (hl : (l.length : Int) ≤ 140737488355328) (k : Nat) (hk : 2 * k < l.length) :
    Calls Try.prog 91 #[v, .int .i64 (2 * (k : Int))] w fun e w' => e = .returned (.int .i64 (wordAt l k : Nat)) ∧ w = w' := by
  obtain ⟨ao, cap, rfl, b1, b2, b3, b4⟩ := hb
  obtain ⟨ab, o, sp, rfl⟩ : ∃ ab o sp, ao = some ⟨ab, o, sp⟩ := by
    cases ao with
    | none => have := b3 rfl; omega
    | some ad => exact ⟨ad.block, ad.off, ad.spot, rfl⟩
  obtain rfl : sp = none := (b4 _ rfl).1 (by intro he; subst he; simp at hk)
  have c0 := (b4 _ rfl).2 (2 * k) l[2 * k] (by simp [hk])
  rw [addr_add] at c0
  have g0 : l.getD (2 * k) 0 = l[2 * k] := by simp [List.getD, hk]
  have r0 := l[2 * k].toNat_lt
  by_cases hlt2 : 2 * (k : Int) + 1 < l.length
  · have hk3 : 2 * k + 1 < l.length := by omega
    have c1 := (b4 _ rfl).2 (2 * k + 1) l[2 * k + 1] (by simp [hk3])
    rw [addr_add] at c1
    have g1 : l.getD (2 * k + 1) 0 = l[2 * k + 1] := by simp [List.getD, hk3]
    have r1 := l[2 * k + 1].toNat_lt
    have hq : Hid (((wordAt l k : Nat) : Int) = 256 * (l[2 * k].toNat : Int) + l[2 * k + 1].toNat) := by show _ = _; rw [wordAt, g0, g1]; omega
    have ho := or_hi_lo _ _ r0 r1
    generalize wordAt l k = q at *
    unfold b8 at c0 c1
    clear b4 g0 g1
    generalize l[2 * k].toNat = y0 at *
    generalize l[2 * k + 1].toNat = y1 at *
    go_enter Try.func91, Try.ntmps91
    go_wp2_with fail
    go_ret
    exact ⟨by rw [hq.out]; rfl, rfl⟩
  · have g1 : l.getD (2 * k + 1) 0 = 0 := by simp [List.getD, List.getElem?_eq_none (show l.length ≤ 2 * k + 1 by omega)]
    have hq : Hid (((wordAt l k : Nat) : Int) = (l[2 * k].toNat : Int) * 256) := by show _ = _; rw [wordAt, g0, g1]; simp; omega
    generalize wordAt l k = q at *
    unfold b8 at c0
    clear b4 g0 g1
    generalize l[2 * k].toNat = y0 at *
    go_enter Try.func91, Try.ntmps91
    go_wp2_with fail
    go_ret
    exact ⟨by rw [hq.out]; rfl, rfl⟩

/-- the words of bytes, told one by one -/
def wordsB (l : List UInt8) : List Int := (List.range ((l.length + 1) / 2)).map fun k => (wordAt l k : Int)
def wordsTo (l : List UInt8) (k : Nat) : List Int := (List.range k).map fun k => (wordAt l k : Int)
theorem wordsTo_succ (l : List UInt8) (k : Nat) : wordsTo l (k + 1) = wordsTo l k ++ [(wordAt l k : Int)] := by simp [wordsTo, List.range_succ]
theorem wordsTo_length (l : List UInt8) (k : Nat) : (wordsTo l k).length = k := by simp [wordsTo]

theorem words_any (ao : Option Addr) (n cap : Nat) (w : World) : Calls Try.prog 83 #[.slice ao n cap] w fun e w' => e = .returned (.func (.func 90) #[] #[.pointer (some ⟨w.heap.size, 0, none⟩)]) ∧ w' = w.alloc (.cells #[.slice ao n cap] 22) := by
  go_enter Try.func83, Try.ntmps83
  go_wp2_with fail
  go_ret
  exact ⟨rfl, rfl⟩

set_option maxRecDepth 100000 in
set_option maxHeartbeats 2000000 in
theorem words1_in (n : Nat) (hn : 1 ≤ n) (l Bx n₀ : Nat) (ao : Option Addr) (cap : Nat) (bs : List UInt8) (hl : (bs.length : Int) ≤ 140737488355328) (J Jx : List Int → World → Prop)
    (hY : ∀ pre x W, J pre W → pre.length < (bs.length + 1) / 2 → YieldAt Fence.wide (n - 1) Try.prog l #[.int .i64 x] W fun e W' =>
      (e = .returned (.bool true) ∧ J (pre ++ [x]) W' ∧ Below n₀ W W') ∨ (e = .returned (.bool false) ∧ Jx (pre ++ [x]) W'))
    (W : World) (hx : ∀ W', Below n₀ W W' → W'.cell? ⟨Bx, 0, none⟩ = some (.slice ao bs.length cap) ∧ Bs W' (.slice ao bs.length cap) bs) (h0 : J [] W) :
    CallsIn Fence.wide n Try.prog 90 #[.func (.yield l) #[] #[], .pointer (some ⟨Bx, 0, none⟩)] W fun e W' => (∃ v, e = .returned v) ∧
      ((∃ ys, ys = wordsTo bs ((bs.length + 1) / 2) ∧ J ys W') ∨ (∃ pre, (∃ k, k ≤ (bs.length + 1) / 2 ∧ pre = wordsTo bs k) ∧ Jx pre W')) := by
  refine callsIn_of_wp Try.func90 rfl trivial ?_ rfl
  simp only [Try.ntmps90, List.size_toArray, List.length_cons, List.length_nil, Nat.reduceAdd, Nat.reduceSub, Array.replicate_succ, Array.replicate_zero, List.push_toArray, List.append_toArray, List.nil_append, List.cons_append]
  gi_wp2
  gi_loopw [3] (fun i wr => ∃ k : Nat, 2 * (k : Int) ≤ (bs.length : Int) + 1 ∧ i = .int .i64 (2 * (k : Int)) ∧ J (wordsTo bs k) wr ∧ Below n₀ W wr)
    (fun i _ => bs.length + 1 - (intOf i).toNat)
  case atStart => exact ⟨0, by omega, rfl, h0, Below.refl _ _⟩
  case round =>
    obtain ⟨k, hk, rfl, hJs, hnx⟩ := hrel
    obtain ⟨hbx, hbb⟩ := hx wr hnx
    by_cases hlt : 2 * (k : Int) < bs.length
    · have HW := Lib.hid (cwordAt_any _ bs wr hbb hl k (by omega))
      obtain ⟨fn, tmps, assign, body, hy, hR⟩ := hY _ (wordAt bs k : Nat) wr hJs (by rw [wordsTo_length]; omega)
      clear hbb
      gi_wp2_with (refine ⟨trivial, ?_⟩; gi_at_call 91; refine (callsIn_wide.2 HW.out).mono ?_; rintro e w' ⟨rfl, rfl⟩)
      refine hR.mono ?_
      rintro e W3 (⟨rfl, hJ3, hk3⟩ | ⟨rfl, hJx3⟩)
      · gi_wp2
        go_roundw
        case rel => exact ⟨k + 1, by omega, by congr 1, by rw [wordsTo_succ]; exact hJ3, hnx.trans hk3⟩
        case measure => simp [intOf]; omega
      · gi_wp2
        go_end0
        exact ⟨⟨_, rfl⟩, .inr ⟨_, ⟨k + 1, by omega, (wordsTo_succ _ _).symm⟩, hJx3⟩⟩
    · obtain rfl : k = (bs.length + 1) / 2 := by omega
      clear hbb
      gi_wp2
      refine ⟨trivial, ?_⟩
      gi_wp2
      refine ⟨fun _ h => (by cases h), ?_⟩
      gi_wp2
      go_end0
      exact ⟨⟨_, rfl⟩, .inl ⟨_, rfl, hJs⟩⟩

theorem values_any (ao : Option Addr) (n cap : Nat) (w : World) : Calls Try.prog 87 #[.slice ao n cap] w fun e w' => e = .returned (.func (.func 93) #[] #[.pointer (some ⟨w.heap.size, 0, none⟩)]) ∧ w' = w.alloc (.cells #[.slice ao n cap] 122) := by
  go_enter Try.func87, Try.ntmps87
  go_wp2_with fail
  go_ret
  exact ⟨rfl, rfl⟩

/-- what has come when k rounds are over -/
def firstOf (zs : List Int) (k : Nat) : List Int := (List.range k).map fun j => zs[j]?.getD 0
theorem firstOf_succ (zs : List Int) (k : Nat) : firstOf zs (k + 1) = firstOf zs k ++ [zs[k]?.getD 0] := by simp [firstOf, List.range_succ]
theorem firstOf_length (zs : List Int) (k : Nat) : (firstOf zs k).length = k := by simp [firstOf]
theorem firstOf_all (zs : List Int) : firstOf zs zs.length = zs := by
  apply List.ext_getElem
  · simp [firstOf]
  · intro i h1 h2
    simp [firstOf, h2]

set_option maxRecDepth 100000 in
set_option maxHeartbeats 2000000 in
theorem values1_in (n : Nat) (hn : 1 ≤ n) (l Bx n₀ b cap : Nat) (zs : List Int) (hreach : zs.length * 8 ≤ 140737488351232) (J Jx : List Int → World → Prop)
    (hY : ∀ pre x W, J pre W → pre.length < zs.length → YieldAt Fence.wide (n - 1) Try.prog l #[.int .i64 x] W fun e W' =>
      (e = .returned (.bool true) ∧ J (pre ++ [x]) W' ∧ Below n₀ W W') ∨ (e = .returned (.bool false) ∧ Jx (pre ++ [x]) W'))
    (W : World) (hx : W.cell? ⟨Bx, 0, none⟩ = some (.slice (some ⟨b, 0, none⟩) zs.length cap)) (hc : ∀ W', Below n₀ W W' → ∀ j, j < zs.length → W'.cell? ⟨b, j, none⟩ = some (.int .i64 (zs[j]?.getD 0))) (h0 : J [] W) :
    CallsIn Fence.wide n Try.prog 93 #[.func (.yield l) #[] #[], .pointer (some ⟨Bx, 0, none⟩)] W fun e W' => (∃ v, e = .returned v) ∧
      ((∃ ys, ys = firstOf zs zs.length ∧ J ys W') ∨ (∃ pre, (∃ k, k ≤ zs.length ∧ pre = firstOf zs k) ∧ Jx pre W')) := by
  refine callsIn_of_wp Try.func93 rfl trivial ?_ rfl
  simp only [Try.ntmps93, List.size_toArray, List.length_cons, List.length_nil, Nat.reduceAdd, Nat.reduceSub, Array.replicate_succ, Array.replicate_zero, List.push_toArray, List.append_toArray, List.nil_append, List.cons_append]
  gi_wp2
  gi_loopw [7] (fun i wr => ∃ k : Nat, k ≤ zs.length ∧ i = .int .i64 k ∧ J (firstOf zs k) wr ∧ Below n₀ W wr)
    (fun i _ => zs.length - (intOf i).toNat)
  case atStart => exact ⟨0, Nat.zero_le _, rfl, h0, Below.refl _ _⟩
  case round =>
    obtain ⟨k, hk, rfl, hJs, hnx⟩ := hrel
    by_cases hlt : k < zs.length
    · have hcx := hc wr hnx k hlt
      have hsu := firstOf_succ zs k
      clear hc
      generalize zs[k]?.getD 0 = z at *
      obtain ⟨fn, tmps, assign, body, hy, hR⟩ := hY _ z wr hJs (by rw [firstOf_length]; exact hlt)
      gi_wp2
      refine hR.mono ?_
      rintro e W3 (⟨rfl, hJ3, hk3⟩ | ⟨rfl, hJx3⟩)
      · gi_wp2
        go_roundw
        case rel => exact ⟨k + 1, by omega, by simp, by rw [hsu]; exact hJ3, hnx.trans hk3⟩
        case measure => simp [intOf]; omega
      · gi_wp2
        refine bodyPost_ret (results_none rfl _ _ _) rfl ?_
        exact ⟨⟨_, rfl⟩, .inr ⟨_, ⟨k + 1, by omega, hsu.symm⟩, hJx3⟩⟩
    · obtain rfl : k = zs.length := by omega
      gi_wp2
      go_end0
      exact ⟨⟨_, rfl⟩, .inl ⟨_, rfl, hJs⟩⟩

/-- what numbers come to, added one by one -/
def addsI (zs : List Int) : Nat := zs.foldl (fun s z => addw s (wd z)) 0
theorem addsI_snoc (zs : List Int) (z : Int) : addsI (zs ++ [z]) = addw (addsI zs) (wd z) := by simp [addsI]
theorem addsI_le (zs : List Int) : addsI zs ≤ 65535 := by
  suffices h : ∀ (zs : List Int) (s : Nat), s ≤ 65535 → zs.foldl (fun s z => addw s (wd z)) s ≤ 65535 from h zs 0 (by omega)
  intro zs
  induction zs with
  | nil => intro s hs; exact hs
  | cons z zs ih => intro s hs; refine ih (addw s (wd z)) ?_; have := wd_le z; unfold addw; split <;> omega

set_option maxRecDepth 100000 in
set_option maxHeartbeats 2000000 in
/-- numbers that an iterator tells, added one by one -/
theorem added_any (gf : Nat) (lb : Array Value) (zs : List Int) (w : World) (eg : ∀ args w, (callFunc gf args).run Try.prog w = .ok (.enter gf args) w)
    (hseq : ∀ w1, Below w.heap.size w w1 → SeqStopsK Fence.wide 4 Try.prog gf lb (fun x : Int => #[.int .i64 x]) (Below w.heap.size) (fun ys => ys = zs) (fun pre => True) zs.length w1) :
    Calls Try.prog 82 #[.func (.func gf) #[] lb] w fun e w' => e = .returned (.int .i64 (addsI zs : Nat)) ∧ Same w w' := by
  refine (callsIn_wide (n := 5)).1 ?_
  refine callsIn_of_wp_marks Try.func82 rfl trivial ?_ rfl
  simp only [Try.ntmps82, List.size_toArray, List.length_cons, List.length_nil, Nat.reduceAdd, Nat.reduceSub, Array.replicate_succ, Array.replicate_zero, List.push_toArray, List.append_toArray, List.nil_append, List.cons_append]
  gi_wp2
  have bS := Boxed.new w 3 (.int .i64 0)
  have hB0 : Below w.heap.size w (w.alloc (.cells #[.int .i64 0] 3)) := (Below.refl _ w).alloc (Nat.le_refl _) _
  refine wpIn_rangeFunc_ownG rfl (by omega) (gf := gf) (lb := lb) rfl trivial eg
    (hseq _ hB0) belowK_t (belowK_b (by simp)) (Below.refl _ _) (fun _ => rfl)
    (fun pre W => (W.cell? ⟨w.heap.size, 0, none⟩ = some (.int .i64 (addsI pre : Nat)) ∧ W.frozen? ⟨w.heap.size, 0, none⟩ = false) ∧ Below w.heap.size w W)
    (fun _ _ _ => False)
    (OwnFrom.and (Own.from (fun s A B row hs hg hr => ⟨cell_kept hs.1 hg hr, (frozen_kept hs.1 hg hr).trans hs.2⟩) _) (ownFrom_below (Nat.le_refl _) (by simp)))
    (fun _ _ _ _ _ hs _ _ => hs)
    ⟨⟨bS.cell, bS.frozen⟩, hB0⟩
    (fun x => { tmps := #[.func (.func gf) #[] lb, undef, .int .i64 0, .pointer (some ⟨w.heap.size, 0, none⟩), .int .i64 x, .func (.func gf) #[] lb, .int .i64 x, undef, undef, undef, undef], defers := [] }) ?assign ?body ?done ?stop
  case assign =>
    intro l x W K hK
    gi_wp2
    exact hK
  case body =>
    rintro l pre x W ⟨⟨hc, hf⟩, hB⟩ _
    have HA := cAdd_any (addsI pre : Nat) x W
    rw [wd_nat (addsI_le pre), ← addsI_snoc] at HA
    gi_wp2_with (refine ⟨trivial, ?_⟩; gi_at_call 89; refine (CallsIn.inRound l (callsIn_wide.2 HA)).mono ?_; rintro e w' ⟨rfl, rfl⟩)
    exact ⟨(KeepsOthers.setCell _ _ _).from _, (Below.refl w.heap.size W).setCell (p := ⟨w.heap.size, 0, none⟩) (Nat.le_refl _) _, ⟨World.cell?_setCell_same' _ _ _ (by rw [hc]; rfl), by rw [World.frozen?_setCell]; exact hf⟩, hB.setCell (p := ⟨w.heap.size, 0, none⟩) (Nat.le_refl _) _⟩
  case done =>
    rintro D ys W hD rfl ⟨⟨hc, _⟩, hB⟩ hK
    gi_wp2
    refine ⟨by simp, .inl ⟨_, _, rfl, run_takeDeferred hK, ?_⟩⟩
    exact ⟨_, results_tmp rfl _ _ _, rfl, hB.trans (belowK_b (w := w) (Nat.le_refl _) W D _ _ (by simp at hD; omega) hK rfl rfl)⟩
  case stop =>
    rintro D c pre W _ _ h _
    exact h.elim

theorem addsI_words (l : List UInt8) (k : Nat) : addsI (wordsTo l k) = red (tot (wordAt l) k) := by
  induction k with
  | zero => rfl
  | succ k ih => rw [wordsTo_succ, addsI_snoc, ih, wd_nat (wordAt_le l k), addw_red _ _ (wordAt_le l k)]; rfl

theorem Bs.below {n : Nat} {w w' : World} {v : Value} {l : List UInt8} (h : Below n w w') (hv : ∀ g, v.ownBlock = some g → l ≠ [] → g < n) (hb : Bs w v l) : Bs w' v l := by
  obtain ⟨ao, cap, rfl, h1, h2, h3, h4⟩ := hb
  refine ⟨ao, cap, rfl, h1, h2, h3, fun ad had => ⟨(h4 ad had).1, fun j u hu => ?_⟩⟩
  have := (h4 ad had).2 j u hu
  subst had
  rw [Below.cell h (p := ad.add j) (by rw [Addr.add_block]; exact hv _ (by simp [Value.ownBlock]) (by intro he; subst he; simp at hu))]; exact this

theorem Bs.low {w : World} {v : Value} {l : List UInt8} (hb : Bs w v l) : ∀ g, v.ownBlock = some g → l ≠ [] → g < w.heap.size := by
  obtain ⟨ao, cap, rfl, h1, h2, h3, h4⟩ := hb
  intro g hg hl
  cases ao with
  | none => simp [Value.ownBlock] at hg
  | some ad =>
    simp [Value.ownBlock] at hg
    subst hg
    cases l with
    | nil => exact absurd rfl hl
    | cons u l =>
      have := World.block_lt_of_cell? w _ ((h4 ad rfl).2 0 u rfl)
      rwa [Addr.add_block] at this

theorem cSum_any (v : Value) (l : List UInt8) (w : World) (hb : Bs w v l) (hl : (l.length : Int) ≤ 140737488355328) :
    Calls Try.prog 68 #[v] w fun e w' => e = .returned (.int .i64 (sumB l)) ∧ Same w w' := by
  have HB := Lib.hid hb
  have HL := Lib.hid hb.low
  obtain ⟨ao, cap, rfl, b1, b2, b3, b4⟩ := hb
  have hA : Hid (Same w (w.alloc (.cells #[.slice ao l.length cap] 22))) := Same.alloc w _
  have HA := Lib.hid (added_any 90 #[.pointer (some ⟨w.heap.size, 0, none⟩)] (wordsTo l ((l.length + 1) / 2)) (w.alloc (.cells #[.slice ao l.length cap] 22)) (enters_of Try.func90 (by kernel_rfl) rfl)
    (fun w1 hw1 l0 J Jx W hW _ _ hY h0 => by
      rw [wordsTo_length] at hY
      have h2 : Below (w.alloc (.cells #[.slice ao l.length cap] 22)).heap.size (w.alloc (.cells #[.slice ao l.length cap] 22)) W := hw1.trans (hW.mono hw1.size)
      refine (words1_in 4 (by omega) l0 w.heap.size _ ao cap l hl J Jx hY W (fun W' hW' => ?_) h0).mono ?_
      · have h3 := h2.trans hW'
        refine ⟨?_, (HB.out.same hA.out).below h3 (fun g hg hne => ?_)⟩
        · rw [h3.cell (p := ⟨w.heap.size, 0, none⟩) (by simp)]
          exact World.cell?_alloc_new w _ _ 0
        · have := HL.out g hg hne; simp; omega
      · rintro e W' ⟨he, ⟨ys, rfl, hj⟩ | ⟨pre, ⟨k, hk, rfl⟩, hj⟩⟩
        · exact ⟨he, .inl ⟨_, rfl, hj⟩⟩
        · exact ⟨he, .inr ⟨_, trivial, hj⟩⟩))
  rw [addsI_words] at HA
  have HQ : Hid (sumB l = red (tot (wordAt l) ((l.length + 1) / 2))) := rfl
  rw [← HQ.out] at HA
  generalize sumB l = q at *
  clear b3 b4 HL
  go_enter Try.func68, Try.ntmps68
  go_wp2_with fail
  refine (words_any ao l.length cap w).mono ?_
  rintro e w1 ⟨rfl, rfl⟩
  go_wp2_with fail
  refine HA.out.mono ?_
  rintro e w2 ⟨rfl, h2⟩
  have H2 := Lib.hid (hA.out.trans h2)
  clear h2
  go_wp2_with fail
  go_ret
  exact ⟨rfl, H2.out⟩

theorem cOf_any (v : Value) (l : List UInt8) (w : World) (hb : Bs w v l) (hl : (l.length : Int) ≤ 140737488355328) :
    Calls Try.prog 78 #[v] w fun e w' => e = .returned (.int .i64 (65535 - sumB l : Nat)) ∧ Same w w' := by
  have HS := Lib.hid (cSum_any v l w hb hl)
  have H2 := cnot_any (sumB l : Nat)
  rw [wd_nat (sumB_le l)] at H2
  have H2 := Lib.hid H2
  generalize (65535 - sumB l : Nat) = q at *
  generalize sumB l = x at *
  obtain ⟨ao, cap, rfl, b1, b2, b3, b4⟩ := hb
  clear b3 b4
  go_enter Try.func78, Try.ntmps78
  go_wp2_with fail
  refine HS.out.mono ?_
  rintro e w1 ⟨rfl, h1⟩
  have H1 := Lib.hid h1
  clear h1
  go_wp2_with fail
  refine (H2.out w1).mono ?_
  rintro e w2 ⟨rfl, rfl⟩
  go_wp2_with fail
  go_ret
  exact ⟨rfl, H1.out⟩

theorem cGood_any (v : Value) (l : List UInt8) (w : World) (hb : Bs w v l) (hl : (l.length : Int) ≤ 140737488355328) :
    Calls Try.prog 46 #[v] w fun e w' => e = .returned (.bool (decide (sumB l = 65535))) ∧ Same w w' := by
  have HS := Lib.hid (cSum_any v l w hb hl)
  have hq : Hid (decide (sumB l = 65535) = ((sumB l : Int) == 65535)) := by
    show _ = _
    rw [Bool.eq_iff_iff, decide_eq_true_iff, beq_iff_eq]; omega
  generalize decide (sumB l = 65535) = q at *
  generalize sumB l = x at *
  obtain ⟨ao, cap, rfl, b1, b2, b3, b4⟩ := hb
  clear b3 b4
  go_enter Try.func46, Try.ntmps46
  go_wp2_with fail
  refine HS.out.mono ?_
  rintro e w1 ⟨rfl, h1⟩
  have H1 := Lib.hid h1
  clear h1
  go_wp2_with fail
  go_ret
  exact ⟨by rw [hq.out]; rfl, H1.out⟩

theorem i64_and255 (n : Int) : bits .and .i64 n 255 = n % 256 := by
  have h16 : (BitVec.ofInt 64 255).toNat = 2 ^ 8 - 1 := by decide
  have key : (BitVec.ofInt 64 n &&& BitVec.ofInt 64 255).toNat = (n % ((2 ^ 64 : Nat) : Int)).toNat % 2 ^ 8 := by
    rw [BitVec.toNat_and, BitVec.toNat_ofInt, h16, Nat.and_two_pow_sub_one_eq_mod]
  show IntKind.i64.wrap ((BitVec.ofInt 64 n &&& BitVec.ofInt 64 255).toNat : Nat) = n % 256
  rw [key, IntKind.wrap_i64]
  omega

theorem byteAt_nat (n : Int) (i : Nat) : (byteAt n i).toNat = (n / 256 ^ i % 256).toNat := by
  have := byteAt_int n i
  omega

theorem adds_pseudo (s d p n : Int) (hs : 0 ≤ s ∧ s ≤ 4294967295) (hd : 0 ≤ d ∧ d ≤ 4294967295) :
    addsI [s / 65536, s, d / 65536, d, p % 256, n] = sumB (pseudoB s d p n) := by
  have w0 : wordAt (pseudoB s d p n) 0 = wd (s / 65536) := by
    simp only [wordAt, pseudoB, List.getD_cons_succ, List.getD_cons_zero, byteAt_nat, Nat.mul_zero, Nat.zero_add, wd]; omega
  have w1 : wordAt (pseudoB s d p n) 1 = wd s := by
    simp only [wordAt, pseudoB, List.getD_cons_succ, List.getD_cons_zero, byteAt_nat, Nat.reduceMul, Nat.reduceAdd, wd]; omega
  have w2 : wordAt (pseudoB s d p n) 2 = wd (d / 65536) := by
    simp only [wordAt, pseudoB, List.getD_cons_succ, List.getD_cons_zero, byteAt_nat, Nat.reduceMul, Nat.reduceAdd, wd]; omega
  have w3 : wordAt (pseudoB s d p n) 3 = wd d := by
    simp only [wordAt, pseudoB, List.getD_cons_succ, List.getD_cons_zero, byteAt_nat, Nat.reduceMul, Nat.reduceAdd, wd]; omega
  have w4 : wordAt (pseudoB s d p n) 4 = wd (p % 256) := by
    simp only [wordAt, pseudoB, List.getD_cons_succ, List.getD_cons_zero, byteAt_nat, Nat.reduceMul, Nat.reduceAdd, wd]
    rw [show (0 : UInt8).toNat = 0 from rfl]; omega
  have w5 : wordAt (pseudoB s d p n) 5 = wd n := by
    simp only [wordAt, pseudoB, List.getD_cons_succ, List.getD_cons_zero, byteAt_nat, Nat.reduceMul, Nat.reduceAdd, wd]; omega
  have hl : ((pseudoB s d p n).length + 1) / 2 = 6 := by simp only [pseudoB, List.length_cons, List.length_nil]
  rw [sumB, hl]
  simp only [tot, w0, w1, w2, w3, w4, w5]
  rw [← addw_red _ _ (wd_le _), ← addw_red _ _ (wd_le _), ← addw_red _ _ (wd_le _), ← addw_red _ _ (wd_le _), ← addw_red _ _ (wd_le _), ← addw_red _ _ (wd_le _), red_zero]
  rfl

theorem cPseudo_any (s d p n : Int) (w : World) (hs : 0 ≤ s ∧ s ≤ 4294967295) (hd : 0 ≤ d ∧ d ≤ 4294967295) :
    Calls Try.prog 77 #[.int .u32 s, .int .u32 d, .int .i64 p, .int .i64 n] w fun e w' => e = .returned (.int .i64 (sumB (pseudoB s d p n))) ∧ Same w w' := by
  obtain ⟨zs, hz⟩ : ∃ zs, zs = [s / 65536, s, d / 65536, d, p % 256, n] := ⟨_, rfl⟩
  have hzl : zs.length = 6 := by rw [hz]; rfl
  obtain ⟨w0, hw0⟩ : ∃ w0, w0 = w.alloc (.cells #[.int .i64 (s / 65536), .int .i64 s, .int .i64 (d / 65536), .int .i64 d, .int .i64 (p % 256), .int .i64 n] 3) := ⟨_, rfl⟩
  have hsz : w0.heap.size = w.heap.size + 1 := by rw [hw0]; simp
  have hA : Hid (Same w (w0.alloc (.cells #[.slice (some ⟨w.heap.size, 0, none⟩) 6 6] 122))) := by
    refine Same.trans ?_ (Same.alloc w0 _)
    rw [hw0]; exact Same.alloc w _
  have hcz : ∀ j, j < 6 → w0.cell? ⟨w.heap.size, j, none⟩ = some (.int .i64 (zs[j]?.getD 0)) := by
    intro j hj
    rw [hw0, World.cell?_alloc_new, hz]
    match j, hj with
    | 0, _ => rfl
    | 1, _ => rfl
    | 2, _ => rfl
    | 3, _ => rfl
    | 4, _ => rfl
    | 5, _ => rfl
  have HA := Lib.hid (added_any 93 #[.pointer (some ⟨w0.heap.size, 0, none⟩)] zs (w0.alloc (.cells #[.slice (some ⟨w.heap.size, 0, none⟩) 6 6] 122)) (enters_of Try.func93 (by kernel_rfl) rfl)
    (fun w1 hw1 l0 J Jx W hW _ _ hY h0 => by
      have h2 : Below (w0.alloc (.cells #[.slice (some ⟨w.heap.size, 0, none⟩) 6 6] 122)).heap.size (w0.alloc (.cells #[.slice (some ⟨w.heap.size, 0, none⟩) 6 6] 122)) W := hw1.trans (hW.mono hw1.size)
      refine (values1_in 4 (by omega) l0 w0.heap.size _ w.heap.size 6 zs (by omega) J Jx hY W ?_ (fun W' hW' j hj => ?_) h0).mono ?_
      · rw [h2.cell (p := ⟨w0.heap.size, 0, none⟩) (by simp), hzl]
        exact World.cell?_alloc_new w0 _ _ 0
      · have h3 := h2.trans hW'
        rw [h3.cell (p := ⟨w.heap.size, j, none⟩) (by simp [hsz]; omega)]
        rw [hzl] at hj
        rw [Below.cell (B := w0.heap.size) (Same.alloc w0 _) (p := ⟨w.heap.size, j, none⟩) (by simp [hsz])]
        exact hcz j hj
      · rintro e W' ⟨he, ⟨ys, rfl, hj⟩ | ⟨pre, ⟨k, hk, rfl⟩, hj⟩⟩
        · exact ⟨he, .inl ⟨_, firstOf_all zs, hj⟩⟩
        · exact ⟨he, .inr ⟨_, trivial, hj⟩⟩))
  have hz2 := hz
  rw [hz, adds_pseudo s d p n hs hd] at HA
  have y1 : IntKind.i64.wrap (s / 65536) = s / 65536 := IntWalk.i64_in _ (by omega)
  have y2 : IntKind.i64.wrap s = s := IntWalk.i64_in _ (by omega)
  have y3 : IntKind.i64.wrap (d / 65536) = d / 65536 := IntWalk.i64_in _ (by omega)
  have y4 : IntKind.i64.wrap d = d := IntWalk.i64_in _ (by omega)
  have y5 := i64_and255 p
  generalize sumB (pseudoB s d p n) = q at *
  clear hcz hz hz2 hzl
  rw [hw0] at HA hA
  clear hsz hw0
  go_enter Try.func77, Try.ntmps77
  go_wp2_with fail
  refine (values_any _ 6 6 _).mono ?_
  rintro e w1 ⟨rfl, rfl⟩
  go_wp2_with fail
  simp only [World.size_alloc] at HA
  refine HA.out.mono ?_
  rintro e w2 ⟨rfl, h2⟩
  have H2 := Lib.hid (hA.out.trans h2)
  clear h2
  go_wp2_with fail
  go_ret
  exact ⟨rfl, H2.out⟩

end Go.Proofs.Yteoleblnhcnpkaa
