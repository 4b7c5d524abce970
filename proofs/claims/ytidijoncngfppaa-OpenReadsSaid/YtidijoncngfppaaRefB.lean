/- Contracts of the document's own answers for layer 1, continued. No condition beyond what each names. -/
import Derived.Test.YtidijoncngfppaaRef
import Derived.Test.YtidijoncngfppaaTake
namespace Go.Proofs.Ytidijoncngfppaa
open Go.RowKit
set_option linter.unusedVariables false

theorem rBytes_err (s : Nat) (all : Value) (a : Nat) (er n : Int) (w : World) (h : RSrc w s all a er) (he : (er == 0) = false) (he' : (er != 0) = true) :
    Calls Try.prog 45 #[.pointer (some ⟨s, 0, none⟩), .int .i64 n] w fun e w' => e = .returned (.slice none 0 0) ∧ w = w' := by
  obtain ⟨c0, c1, c2, f1, f2⟩ := h.cells
  clear h
  go_enter Try.func45, Try.ntmps45
  go_wp2_with fail
  go_ret
  exact ⟨rfl, rfl⟩

theorem rBytes_arg (s : Nat) (all : Value) (a : Nat) (n : Int) (w : World) (h : RSrc w s all a 0) (hn : n < 0) :
    Calls Try.prog 45 #[.pointer (some ⟨s, 0, none⟩), .int .i64 n] w fun e w' => e = .returned (.slice none 0 0) ∧ Mod s w w' ∧ RSrc w' s all a 2 := by
  obtain ⟨c0, c1, c2, f1, f2⟩ := h.cells
  have H := Lib.hid h
  clear h
  go_enter Try.func45, Try.ntmps45
  go_wp2_with fail
  go_ret
  exact ⟨rfl, Mod.setCell _ _ _ _, H.out.setErr 2⟩

theorem rBytes_short (s : Nat) (ao : Option Addr) (m cap a : Nat) (n : Int) (w : World) (h : RSrc w s (.slice ao m cap) a 0) (hle : a ≤ m) (hm : (m : Int) ≤ 140737488355328) (hn : ¬ n < 0) (hs : (m : Int) - a < n) :
    Calls Try.prog 45 #[.pointer (some ⟨s, 0, none⟩), .int .i64 n] w fun e w' => e = .returned (.slice none 0 0) ∧ Mod s w w' ∧ RSrc w' s (.slice ao m cap) a 3 := by
  obtain ⟨c0, c1, c2, f1, f2⟩ := h.cells
  have H := Lib.hid h
  clear h
  have z1 : (0 : Int) ≤ (m : Int) - a := by omega
  go_enter Try.func45, Try.ntmps45
  go_wp2_with fail
  go_quiet (fail)
  have hq : Hid (Same w (w.drewN nq)) := (Same.refl w).drewN nq
  have HW := Lib.hid (H.out.same hq.out)
  obtain ⟨C0, C1, C2, F1, F2⟩ := HW.out.cells
  clear c0 c1 c2 f1 f2
  generalize w.drewN nq = W at *
  go_wp2_with fail
  go_ret
  exact ⟨rfl, (Mod.of_same hq.out).trans (Mod.setCell _ _ _ _), HW.out.setErr 3⟩

theorem rBytes_any (s : Nat) (all : Value) (l : List UInt8) (a : Nat) (er n : Int) (w : World) (h : RSrcB w s all l a er) (hl : l.length ≤ 140737488355328) :
    Calls Try.prog 45 #[.pointer (some ⟨s, 0, none⟩), .int .i64 n] w fun e w' => ∃ v, e = .returned v ∧ OwnB w' w.heap.size v (listOut (stepOut l a er n)) ∧ Mod s w w' ∧ RSrcB w' s all l (stepAt l a er n) (stepErr l a er n) := by
  have hle := h.le
  rcases step_cases l a er n with hno | ⟨k, rfl, rfl, hk⟩
  · rw [hno]
    unfold stepOut at hno
    by_cases her : er = 0
    · subst her
      have hn' : ¬ (0 ≤ n ∧ n ≤ (l.length : Int) - a) := by intro hh; rw [if_pos ⟨rfl, hh⟩] at hno; cases hno
      by_cases hneg : n < 0
      · refine (rBytes_arg s _ a n w h.src hneg).mono fun e w' ⟨he, hm, hs⟩ => ⟨_, he, OwnB.nil _ _, hm, ?_⟩
        rw [stepAt, if_neg (fun hh => hn' hh.2), stepErr, if_pos rfl, if_pos hneg]
        exact h.mod hm hs hle
      · obtain ⟨ao, cap, he, b1, b2, b3, b4⟩ := id h.bs
        subst he
        refine (rBytes_short s ao l.length cap a n w h.src hle (by omega) hneg (by omega)).mono fun e w' ⟨he, hm, hs⟩ => ⟨_, he, OwnB.nil _ _, hm, ?_⟩
        rw [stepAt, if_neg (fun hh => hn' hh.2), stepErr, if_pos rfl, if_neg hneg, if_pos (by omega)]
        exact h.mod hm hs hle
    · refine (rBytes_err s _ a er n w h.src (by simpa using her) (by simpa using her)).mono fun e w' ⟨he, hs⟩ => ⟨_, he, OwnB.nil _ _, ?_, ?_⟩
      · subst hs; exact Mod.refl _ _
      · subst hs
        rw [stepAt, if_neg (fun hh => her hh.1), stepErr, if_neg her]
        exact h
  · obtain ⟨e1, e2, e3⟩ := step_yes hk
    rw [e1, e2, e3]
    exact rBytes_ok s all l a k w h hk hl

theorem rLeft_any (s : Nat) (all : Value) (l : List UInt8) (a : Nat) (er : Int) (w : World) (h : RSrcB w s all l a er) :
    Calls Try.prog 43 #[.pointer (some ⟨s, 0, none⟩)] w fun e w' => e = .returned (.int .i64 (if er = 0 then (l.length : Int) - a else 0)) ∧ Same w w' := by
  obtain ⟨c0, c1, c2, f1, f2⟩ := h.src.cells
  obtain ⟨ao, cap, he, b1, b2, b3, b4⟩ := h.bs
  have hle := h.le
  subst he
  clear h b3 b4
  by_cases her : er = 0
  · subst her
    rw [if_pos rfl]
    have z1 : (a : Int) ≤ l.length := by omega
    have z2 : (l.length : Int) ≤ 9223372036854775807 := by omega
    go_enter Try.func43, Try.ntmps43
    go_wp2_with fail
    go_quiet (fail)
    go_wp2_with fail
    go_ret
    exact ⟨rfl, (Same.refl _).drewN _⟩
  · rw [if_neg her]
    have e1 : (er == 0) = false := by simpa using her
    have e2 : (er != 0) = true := by simpa using her
    go_enter Try.func43, Try.ntmps43
    go_wp2_with fail
    go_ret
    exact ⟨rfl, Same.refl _⟩

theorem rSub_any (s : Nat) (all : Value) (l : List UInt8) (a : Nat) (er n : Int) (w : World) (h : RSrcB w s all l a er) (hl : l.length ≤ 140737488355328) :
    Calls Try.prog 44 #[.pointer (some ⟨s, 0, none⟩), .int .i64 n] w fun e w' => ∃ t v, e = .returned (.pointer (some ⟨t, 0, none⟩)) ∧ w.heap.size ≤ t ∧ RSrcB w' t v (listOut (stepOut l a er n)) 0 0 ∧ Mod s w w' ∧ RSrcB w' s all l (stepAt l a er n) (stepErr l a er n) ∧ ∀ g, v.ownBlock = some g → w.heap.size ≤ g := by
  have HB := Lib.hid (rBytes_any s all l a er n w h hl)
  have hlen : (listOut (stepOut l a er n)).length ≤ 140737488355328 := by
    unfold stepOut
    split
    · simp only [listOut, List.length_take, List.length_drop]; omega
    · simp [listOut]
  generalize listOut (stepOut l a er n) = out at *
  generalize stepAt l a er n = at2 at *
  generalize stepErr l a er n = er2 at *
  go_enter Try.func44, Try.ntmps44
  go_wp2_with fail
  refine HB.out.mono ?_
  rintro e w1 ⟨v, rfl, ho, hm, hs⟩
  go_wp2_with fail
  refine (rRead_any v out w1 ho.bs hlen).mono ?_
  rintro e w2 ⟨t, v2, rfl, ht, hr, hs2, hf⟩
  go_wp2_with fail
  go_ret
  exact ⟨_, _, rfl, Nat.le_trans hm.size ht, hr, hm.trans (Mod.of_same hs2), hs.same hs2, fun g hg => Nat.le_trans hm.size (hf g hg)⟩

/-- the number of eight bytes at the most, at a place -/
theorem rGet_in (v : Value) (l : List UInt8) (a k : Nat) (w : World) (h : Bs w v l) (hk : k ≤ 8) (hf : (a : Int) ≤ (l.length : Int) - k) :
    Calls Try.prog 71 #[v, .int .i64 a, .int .i64 k] w fun e w' => e = .returned (.tuple #[.int .u64 (numOf ((l.drop a).take k)), .bool true]) ∧ w' = w := by
  have H := Lib.hid h
  obtain ⟨ao, cap, rfl, b1, b2, b3, b4⟩ := h
  clear b4 b3
  have hb := (H.out.cut a k (by omega)).1
  have hlen : ((l.drop a).take k).length = k := by simp; omega
  have b5 : (a : Int) + k ≤ cap := by omega
  have b6 : (l.length : Int) ≤ cap := by omega
  have b7 : ¬ (l.length : Int) < a := by omega
  have b8' : ¬ (l.length : Int) - a < k := by omega
  generalize (l.drop a).take k = q at *
  obtain ⟨ao2, cap2, he, d1, d2, d3, d4⟩ := id hb
  have HV := Lib.hid he
  have HB := Lib.hid hb
  clear he d4 d3 hb
  by_cases hc : cap = a
  · subst hc
    obtain rfl : k = 0 := by omega
    obtain rfl : q = [] := List.eq_nil_of_length_eq_zero hlen
    go_enter Try.func71, Try.ntmps71
    go_wp2_with fail
    refine wp_loop_rounds 1 ?_
    rw [rounds_succ]
    go_wp2_with fail
    go_ret2
    exact ⟨rfl, rfl⟩
  · rw [if_neg hc] at HB HV
    have hd : ∀ ad, ao.map (·.add a) = some ad → ∀ j u, q[j]? = some u → w.cell? (ad.add j) = some (b8 u) := by
      obtain ⟨x1, x2, x3, x4, x5, x6, x7⟩ := HB.out
      cases x3
      intro ad had
      exact (x7 ad had).2
    have HD := Lib.hid hd
    clear hd HV
    go_enter Try.func71, Try.ntmps71
    go_wp2_with fail
    go_loop [8, 34] (fun t i => ∃ j : Nat, j ≤ k ∧ i = .int .i64 j ∧ t = .int .u64 (numOf (q.take j))) (fun _ i => k - (intOf i).toNat)
    case atStart => exact ⟨0, Nat.zero_le _, rfl, rfl⟩
    case round =>
      obtain ⟨j, hj, rfl, rfl⟩ := hrel
      by_cases hlt : j < k
      · have hjq : j < q.length := by omega
        obtain ⟨ad, rfl⟩ : ∃ ad, ao = some ad := by
          cases ao with
          | none =>
            exfalso
            obtain ⟨x1, x2, x3, x4, x5, x6, x7⟩ := HB.out
            cases x3
            have := x6 rfl
            omega
          | some ad => exact ⟨ad, rfl⟩
        have hc1 := HD.out (ad.add a) rfl j q[j] (by simp [hjq])
        go_wp2_with fail
        exact ⟨⟨j + 1, by omega, by go_num, by rw [IntKind.wrap_u64, IntKind.wrap_u64, numOf_take_u64 q j hjq (by omega)]⟩, by simp [intOf]; omega⟩
      · obtain rfl : j = k := by omega
        rw [← hlen, List.take_length]
        rw [hlen]
        go_wp2_with fail
        go_ret2
        exact ⟨rfl, rfl⟩

theorem rGet_any (v : Value) (l : List UInt8) (a : Int) (k : Nat) (w : World) (h : Bs w v l) (hk : k ≤ 8) (hl : (l.length : Int) ≤ 140737488355328) :
    Calls Try.prog 71 #[v, .int .i64 a, .int .i64 k] w fun e w' => e = .returned (.tuple #[.int .u64 (numOut (getOut l a k)), .bool (getOut l a k).isSome]) ∧ w' = w := by
  by_cases hin : 0 ≤ a ∧ a ≤ (l.length : Int) - k
  · obtain ⟨n, rfl⟩ := Int.eq_ofNat_of_zero_le hin.1
    have e : getOut l (n : Int) k = some ((l.drop n).take k) := by rw [getOut, if_pos hin]; simp
    rw [e]
    exact rGet_in v l n k w h hk hin.2
  · have e : getOut l a k = none := if_neg hin
    rw [e]
    simp only [numOut, Option.isSome_none]
    obtain ⟨ao, cap, rfl, b1, b2, b3, b4⟩ := h
    clear b4 b3 e
    by_cases h1 : a < 0
    · go_enter Try.func71, Try.ntmps71
      go_wp2_with fail
      go_ret2
      exact ⟨rfl, rfl⟩
    · by_cases h2 : (l.length : Int) < a
      · go_enter Try.func71, Try.ntmps71
        go_wp2_with fail
        go_ret2
        exact ⟨rfl, rfl⟩
      · have h3 : (l.length : Int) - a < k := by omega
        have h4 : (k : Int) ≤ 8 := by omega
        clear hin
        go_enter Try.func71, Try.ntmps71
        go_wp2_with fail
        go_ret2
        exact ⟨rfl, rfl⟩

theorem rnum_any (s : Nat) (all : Value) (l : List UInt8) (a : Nat) (er : Int) (k : Nat) (w : World) (h : RSrcB w s all l a er) (hl : l.length ≤ 140737488355328) (hk : k ≤ 4) :
    Calls Try.prog 61 #[.pointer (some ⟨s, 0, none⟩), .int .i64 k] w fun e w' => e = .returned (.int .u64 (numOut (stepOut l a er k))) ∧ Mod s w w' ∧ RSrcB w' s all l (stepAt l a er k) (stepErr l a er k) := by
  have HB := Lib.hid (rBytes_any s all l a er k w h hl)
  have HG : Hid (∀ v w1, Bs w1 v (listOut (stepOut l a er k)) → Calls Try.prog 71 #[v, .int .i64 0, .int .i64 k] w1 fun e w' => e = .returned (.tuple #[.int .u64 (numOut (stepOut l a er k)), .bool (getOut (listOut (stepOut l a er k)) 0 k).isSome]) ∧ w' = w1) := by
    intro v w1 hb
    rcases step_cases l a er k with hno | ⟨k', hk', rfl, hle⟩
    · rw [hno] at hb ⊢
      have hg := rGet_any v [] 0 k w1 hb (by omega) (by simp)
      have e : numOut (getOut [] 0 k) = 0 := by unfold getOut; split <;> simp [numOut, numOf]
      rw [e] at hg
      exact hg
    · obtain rfl : k = k' := by omega
      have e := (step_yes hle).1
      rw [e] at hb ⊢
      have hlen : ((l.drop a).take k).length = k := by simp; omega
      have hg := rGet_any v _ 0 k w1 hb (by omega) (by rw [listOut, hlen]; omega)
      have e2 : getOut (listOut (some ((l.drop a).take k))) 0 k = some ((l.drop a).take k) := by
        rw [listOut, getOut, if_pos (by rw [hlen]; omega), show (0 : Int).toNat = 0 from rfl, List.drop_zero, List.take_of_length_le (Nat.le_of_eq hlen)]
      rw [e2] at hg ⊢
      exact hg
  generalize numOut (stepOut l a er k) = n at *
  generalize listOut (stepOut l a er k) = out at *
  generalize stepAt l a er k = at2 at *
  generalize stepErr l a er k = er2 at *
  generalize (getOut out 0 k).isSome = ok at *
  go_enter Try.func61, Try.ntmps61
  go_wp2_with fail
  refine HB.out.mono ?_
  rintro e w1 ⟨v, rfl, ho, hm, hs⟩
  go_wp2_with fail
  refine (HG.out v w1 ho.bs).mono ?_
  rintro e w2 ⟨rfl, rfl⟩
  go_wp2_with fail
  go_ret
  exact ⟨rfl, hm, hs⟩

theorem numOut_step_lt (l : List UInt8) (a : Nat) (er : Int) (k : Nat) (hk : k ≤ 4) : numOut (stepOut l a er k) < 4294967296 := by
  rcases step_cases l a er k with hno | ⟨k', hk', rfl, hle⟩
  · rw [hno]; simp [numOut]
  · obtain rfl : k = k' := by omega
    rw [(step_yes hle).1]
    exact numOf_lt4 _ (by simp; omega)

theorem rU8_any (s : Nat) (all : Value) (l : List UInt8) (a : Nat) (er : Int) (w : World) (h : RSrcB w s all l a er) (hl : l.length ≤ 140737488355328) :
    Calls Try.prog 40 #[.pointer (some ⟨s, 0, none⟩)] w fun e w' => e = .returned (.int .i64 (numOut (stepOut l a er 1))) ∧ Mod s w w' ∧ RSrcB w' s all l (stepAt l a er 1) (stepErr l a er 1) := by
  have hn := rnum_any s all l a er 1 w h hl (by omega)
  have hlt := numOut_step_lt l a er 1 (by omega)
  have e0 : ((1 : Nat) : Int) = 1 := rfl
  rw [e0] at hn hlt
  have HN := Lib.hid hn
  clear hn
  have hlt' : (numOut (stepOut l a er 1) : Int) < 4294967296 := by omega
  generalize numOut (stepOut l a er 1) = n at *
  generalize stepAt l a er 1 = at2 at *
  generalize stepErr l a er 1 = er2 at *
  clear e0 hlt
  go_enter Try.func40, Try.ntmps40
  go_wp2_with fail
  refine HN.out.mono ?_
  rintro e w1 ⟨rfl, hm, hs⟩
  go_wp2_with fail
  go_ret
  exact ⟨rfl, hm, hs⟩

theorem rU16_any (s : Nat) (all : Value) (l : List UInt8) (a : Nat) (er : Int) (w : World) (h : RSrcB w s all l a er) (hl : l.length ≤ 140737488355328) :
    Calls Try.prog 41 #[.pointer (some ⟨s, 0, none⟩)] w fun e w' => e = .returned (.int .i64 (numOut (stepOut l a er 2))) ∧ Mod s w w' ∧ RSrcB w' s all l (stepAt l a er 2) (stepErr l a er 2) := by
  have hn := rnum_any s all l a er 2 w h hl (by omega)
  have hlt := numOut_step_lt l a er 2 (by omega)
  have e0 : ((2 : Nat) : Int) = 2 := rfl
  rw [e0] at hn hlt
  have HN := Lib.hid hn
  clear hn
  have hlt' : (numOut (stepOut l a er 2) : Int) < 4294967296 := by omega
  generalize numOut (stepOut l a er 2) = n at *
  generalize stepAt l a er 2 = at2 at *
  generalize stepErr l a er 2 = er2 at *
  clear e0 hlt
  go_enter Try.func41, Try.ntmps41
  go_wp2_with fail
  refine HN.out.mono ?_
  rintro e w1 ⟨rfl, hm, hs⟩
  go_wp2_with fail
  go_ret
  exact ⟨rfl, hm, hs⟩

theorem rU32_any (s : Nat) (all : Value) (l : List UInt8) (a : Nat) (er : Int) (w : World) (h : RSrcB w s all l a er) (hl : l.length ≤ 140737488355328) :
    Calls Try.prog 42 #[.pointer (some ⟨s, 0, none⟩)] w fun e w' => e = .returned (.int .u32 (numOut (stepOut l a er 4))) ∧ Mod s w w' ∧ RSrcB w' s all l (stepAt l a er 4) (stepErr l a er 4) := by
  have hn := rnum_any s all l a er 4 w h hl (by omega)
  have hlt := numOut_step_lt l a er 4 (by omega)
  have e0 : ((4 : Nat) : Int) = 4 := rfl
  rw [e0] at hn hlt
  have HN := Lib.hid hn
  clear hn
  have hlt' : (numOut (stepOut l a er 4) : Int) < 4294967296 := by omega
  generalize numOut (stepOut l a er 4) = n at *
  generalize stepAt l a er 4 = at2 at *
  generalize stepErr l a er 4 = er2 at *
  clear e0 hlt
  go_enter Try.func42, Try.ntmps42
  go_wp2_with fail
  refine HN.out.mono ?_
  rintro e w1 ⟨rfl, hm, hs⟩
  go_wp2_with fail
  go_ret
  exact ⟨rfl, hm, hs⟩

end Go.Proofs.Ytidijoncngfppaa
