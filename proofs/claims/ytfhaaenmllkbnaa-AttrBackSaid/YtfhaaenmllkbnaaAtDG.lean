/- The developers' layer 7: what may be said of a path, and what is alike. No condition beyond what each names. -/
import Derived.Test.YtfhaaenmllkbnaaAtQ
import Derived.Test.YtfhaaenmllkbnaaAtM
import Derived.Test.YtfhaaenmllkbnaaPfxN
namespace Go.Proofs.Ytfhaaenmllkbnaa
open Go.RowKit
set_option linter.unusedVariables false
set_option maxRecDepth 100000

/-- a number that a path may have -/
def asOk (n : Int) : Prop := 1 ≤ n ∧ n ≤ 65535
instance (n : Int) : Decidable (asOk n) := by unfold asOk; infer_instance
def pathOk (l : List Int) : Prop := l.length ≤ 16 ∧ ∀ n, n ∈ l → asOk n
instance (l : List Int) : Decidable (pathOk l) := by unfold pathOk; infer_instance

theorem wrong_any (n : Int) (w : World) : Calls Try.prog 67 #[.int .i64 n] w fun e w' => e = .returned (.bool (decide (¬ asOk n))) ∧ w = w' := by
  unfold asOk
  by_cases h1 : n < 1
  · rw [show decide (¬ (1 ≤ n ∧ n ≤ 65535)) = true from by simp; omega]
    go_enter Try.func67, Try.ntmps67
    go_wp2_with fail
    go_ret
    exact ⟨rfl, rfl⟩
  · rw [show decide (¬ (1 ≤ n ∧ n ≤ 65535)) = decide (65535 < n) from by rw [decide_eq_decide]; omega]
    go_enter Try.func67, Try.ntmps67
    go_wp2_with fail
    go_ret
    exact ⟨rfl, rfl⟩

theorem indexF_any (l : List Int) (v : Value) (w : World) (h : Rs intLay w v l) :
    Calls Try.prog 77 #[v, .func (.func 67) #[] #[]] w fun e w' => ∃ i : Int, e = .returned (.int .i64 i) ∧ ((i = -1 ∧ ∀ n, n ∈ l → asOk n) ∨ (0 ≤ i ∧ ¬ ∀ n, n ∈ l → asOk n)) ∧ w = w' := by
  obtain ⟨n, hn⟩ : ∃ n, l.length = n := ⟨_, rfl⟩
  have HN := Lib.hid hn
  have HP : Hid (0 < n → ∃ b o cap, v = .slice (some ⟨b, o, none⟩) n cap ∧ (∀ w', Same w w' → ∀ j n, l[j]? = some n → w'.cell? ⟨b, o + j, none⟩ = some (.int .i64 n))) := fun hh => by
    obtain ⟨b, o, cap, hv, _, _, hc⟩ := h.ints (by omega)
    exact ⟨b, o, cap, by rw [hv, hn], hc⟩
  have i0 : (n : Int) ≤ 9223372036854775807 := by
    obtain ⟨_, cap, _, h1, h2, _⟩ := h
    omega
  obtain ⟨a1, c1, rfl⟩ := h.form hn
  have HW := fun z w => Lib.hid (wrong_any z w)
  clear h hn
  go_enter Try.func77, Try.ntmps77
  go_wp2_with fail
  go_loopw [8] (fun i wr => ∃ k : Nat, k ≤ n ∧ i = .int .i64 k ∧ (∀ z, z ∈ l.take k → asOk z) ∧ w = wr) (fun i _ => n - (intOf i).toNat)
  case atStart => exact ⟨0, by omega, rfl, by simp, rfl⟩
  case round =>
    obtain ⟨k, hk, rfl, hall, rfl⟩ := hrel
    have HALL := Lib.hid hall
    clear hall
    by_cases h8 : k = n
    · subst h8
      go_wp2_with fail
      go_ret
      have := HALL.out
      rw [List.take_of_length_le (by have := HN.out; omega)] at this
      exact ⟨_, rfl, .inl ⟨rfl, this⟩, rfl⟩
    · have hk8 : (k : Int) < n := by omega
      have hkn : k < l.length := by have := HN.out; omega
      obtain ⟨b, o1, cap, e1, HC1⟩ := HP.out (by omega)
      cases e1
      have hg := Lib.hid (show l[k]? = some l[k] from List.getElem?_eq_getElem hkn)
      have hm := Lib.hid (List.getElem_mem hkn)
      have htk := Lib.hid (List.take_succ_eq_append_getElem hkn)
      generalize l[k] = z at hg hm htk
      have hz := HC1 w (Same.refl w) k z hg.out
      clear h8 hkn HP HC1
      go_wp2_with fail
      refine (HW _ _).out.mono ?_
      rintro e w1 ⟨rfl, rfl⟩
      by_cases hw : asOk z
      · have hd : decide (¬ asOk z) = false := by simp [hw]
        rw [hd]
        have hnext : Hid (∀ y, y ∈ l.take (k + 1) → asOk y) := by
          intro y hy
          rw [htk.out] at hy
          rcases List.mem_append.1 hy with hy | hy
          · exact HALL.out y hy
          · rw [List.mem_singleton.1 hy]; exact hw
        go_wp2_with fail
        exact ⟨⟨k + 1, by omega, rfl, hnext.out, trivial⟩, by simp [intOf]; omega⟩
      · have hd : decide (¬ asOk z) = true := by simp [hw]
        rw [hd]
        go_wp2_with fail
        go_ret
        exact ⟨_, rfl, .inr ⟨by omega, fun hx => hw (hx z hm.out)⟩, rfl⟩

theorem contF_any (l : List Int) (v : Value) (w : World) (h : Rs intLay w v l) :
    Calls Try.prog 68 #[v, .func (.func 67) #[] #[]] w fun e w' => e = .returned (.bool (decide (¬ ∀ n, n ∈ l → asOk n))) ∧ w = w' := by
  have HI := Lib.hid (indexF_any l v w h)
  obtain ⟨n, hn⟩ : ∃ n, l.length = n := ⟨_, rfl⟩
  obtain ⟨a1, c1, rfl⟩ := h.form hn
  clear h
  by_cases hd : ∀ n, n ∈ l → asOk n
  · rw [decide_eq_false (fun hx => hx hd)]
    have HD := Lib.hid hd
    clear hd
    go_enter Try.func68, Try.ntmps68
    go_wp2_with fail
    refine HI.out.mono ?_
    rintro e w1 ⟨i, rfl, hi, rfl⟩
    obtain rfl : i = -1 := by
      rcases hi with hi | hi
      · exact hi.1
      · exact (hi.2 HD.out).elim
    clear hi
    go_wp2_with fail
    go_ret
    exact ⟨rfl, rfl⟩
  · rw [decide_eq_true hd]
    have HD := Lib.hid hd
    clear hd
    go_enter Try.func68, Try.ntmps68
    go_wp2_with fail
    refine HI.out.mono ?_
    rintro e w1 ⟨i, rfl, hi, rfl⟩
    have h0 : 0 ≤ i := by
      rcases hi with hi | hi
      · exact (HD.out hi.2).elim
      · exact hi.1
    clear hi
    go_wp2_with fail
    go_ret
    exact ⟨rfl, rfl⟩

theorem goodPath_any (l : List Int) (v : Value) (w : World) (h : Rs intLay w v l) :
    Calls Try.prog 41 #[v] w fun e w' => e = .returned (.bool (decide (pathOk l))) ∧ w = w' := by
  have HI := Lib.hid (contF_any l v w h)
  obtain ⟨n, hn⟩ : ∃ n, l.length = n := ⟨_, rfl⟩
  obtain ⟨a1, c1, rfl⟩ := h.form hn
  have i0 : (n : Int) ≤ 9223372036854775807 := by
    obtain ⟨_, cap, _, h1, h2, _⟩ := h
    omega
  clear h
  by_cases hd : n ≤ 16
  · have e1 : decide (pathOk l) = !decide (¬ ∀ n, n ∈ l → asOk n) := by
      rw [← decide_not, decide_eq_decide]
      exact ⟨fun h => fun hx => hx h.2, fun h => ⟨by omega, Decidable.not_not.1 h⟩⟩
    rw [e1]
    clear e1 hn
    generalize decide (¬ ∀ n, n ∈ l → asOk n) = q at *
    go_enter Try.func41, Try.ntmps41
    go_wp2_with fail
    refine HI.out.mono ?_
    rintro e w1 ⟨rfl, rfl⟩
    go_wp2_with fail
    go_ret
    exact ⟨rfl, rfl⟩
  · rw [show decide (pathOk l) = false from decide_eq_false (fun hx => hd (hn ▸ hx.1))]
    clear hn
    go_enter Try.func41, Try.ntmps41
    go_wp2_with fail
    go_ret
    exact ⟨rfl, rfl⟩

theorem hop_div (a : Int) (h : 0 ≤ a ∧ a ≤ 4294967295) : decide (canA a 8 = canA 2130706432 8) = decide (a / 16777216 = 127) ∧ decide (canA a 3 = canA 3758096384 3) = decide (a / 536870912 = 7) := by
  have e1 : (32 - nearN 8).toNat = 24 := by decide
  have e2 : (32 - nearN 3).toNat = 29 := by decide
  constructor
  · rw [decide_eq_decide, canA_div a 8 h.1 h.2, canA_div 2130706432 8 (by omega) (by omega), e1]
    omega
  · rw [decide_eq_decide, canA_div a 3 h.1 h.2, canA_div 3758096384 3 (by omega) (by omega), e2]
    omega

theorem Hop_any (a : Int) (h : 0 ≤ a ∧ a ≤ 4294967295) (w : World) : Calls Try.prog 42 #[.int .u32 a] w fun e w' => e = .returned (.bool (decide (hopOk a))) ∧ Same w w' := by
  obtain ⟨d1, d2⟩ := hop_div a h
  have H1 := fun w => Lib.hid (d1 ▸ Holds_any 2130706432 8 a w)
  have H2 := fun w => Lib.hid (d2 ▸ Holds_any 3758096384 3 a w)
  clear d1 d2
  have HA := Lib.hid ((Same.alloc w (.cells #[.int .u32 2130706432, .int .i64 8] 105)).trans (Same.alloc _ (.cells #[.int .u32 3758096384, .int .i64 3] 105)))
  unfold hopOk
  by_cases h0 : a = 0
  · subst h0
    clear H1 H2
    go_enter Try.func42, Try.ntmps42
    go_wp2_with fail
    go_ret
    exact ⟨rfl, HA.out⟩
  · by_cases h1 : a / 16777216 = 127
    · have H1 := fun w => Lib.hid ((decide_eq_true h1) ▸ (H1 w).out)
      rw [show decide (a ≠ 0 ∧ a ≠ 4294967295 ∧ a / 16777216 ≠ 127 ∧ a / 536870912 ≠ 7) = false from decide_eq_false (fun hx => hx.2.2.1 h1)]
      clear h1
      go_enter Try.func42, Try.ntmps42
      go_wp2_with fail
      refine (H1 _).out.mono ?_
      rintro e w1 ⟨rfl, hs1⟩
      have HS1 := Lib.hid (HA.out.trans hs1)
      clear hs1
      go_wp2_with fail
      go_ret
      exact ⟨rfl, HS1.out⟩
    · have e1 : decide (a ≠ 0 ∧ a ≠ 4294967295 ∧ a / 16777216 ≠ 127 ∧ a / 536870912 ≠ 7) = !decide (a / 536870912 = 7) := by
        rw [← decide_not, decide_eq_decide]
        exact ⟨fun hx => hx.2.2.2, fun hx => ⟨h0, by omega, h1, hx⟩⟩
      rw [e1]
      have H1 := fun w => Lib.hid ((decide_eq_false h1) ▸ (H1 w).out)
      clear h1 e1
      generalize decide (a / 536870912 = 7) = q at *
      have HB := Lib.hid (box2 2130706432 8 3758096384 3 w)
      go_enter Try.func42, Try.ntmps42
      go_wp2_with fail
      refine (H1 _).out.mono ?_
      rintro e w1 ⟨rfl, hs1⟩
      obtain ⟨-, -, c0, c1⟩ := HB.out w1 hs1
      have HS1 := Lib.hid (HA.out.trans hs1)
      clear hs1
      go_wp2_with fail
      refine (H2 _).out.mono ?_
      rintro e w2 ⟨rfl, hs2⟩
      have HS2 := Lib.hid (HS1.out.trans hs2)
      clear hs2 c0 c1
      go_wp2_with fail
      go_ret
      exact ⟨by simp [h0], HS2.out⟩

def medOk (a : At) : Prop := (0 ≤ a.med ∧ a.med ≤ 4294967295) ∧ (a.has = true ∨ a.med = 0)
instance (a : At) : Decidable (medOk a) := by unfold medOk; infer_instance

theorem goodMed_any (a : At) (vp : Value) (w : World) (hv : ∃ ao n cap, vp = .slice ao n cap) : Calls Try.prog 43 #[atV a vp] w fun e w' => e = .returned (.bool (decide (medOk a))) ∧ Same w w' := by
  obtain ⟨o, p, h, m, hs⟩ := a
  obtain ⟨ao, n, cap, rfl⟩ := hv
  unfold medOk
  dsimp only
  have HA := Lib.hid (Same.alloc w (atO 35 ⟨o, p, h, m, hs⟩ (.slice ao n cap)))
  cases hs
  · rw [show decide ((0 ≤ m ∧ m ≤ 4294967295) ∧ (false = true ∨ m = 0)) = decide (m = 0) from by rw [decide_eq_decide]; constructor; (intro hx; exact hx.2.resolve_left (by decide)); (intro hx; exact ⟨by omega, .inr hx⟩)]
    go_enter Try.func43, Try.ntmps43
    go_wp2_with fail
    go_ret
    exact ⟨rfl, HA.out⟩
  · rw [show decide ((0 ≤ m ∧ m ≤ 4294967295) ∧ (true = true ∨ m = 0)) = (decide (0 ≤ m) && decide (m ≤ 4294967295)) from by simp]
    by_cases h0 : 0 ≤ m
    · rw [decide_eq_true h0, Bool.true_and]
      go_enter Try.func43, Try.ntmps43
      go_wp2_with fail
      go_ret
      exact ⟨rfl, HA.out⟩
    · rw [decide_eq_false h0, Bool.false_and]
      go_enter Try.func43, Try.ntmps43
      go_wp2_with fail
      go_ret
      exact ⟨rfl, HA.out⟩

theorem good_split (a : At) : decide (goodA a) = (((decide (0 ≤ a.origin) && decide (a.origin ≤ 2)) && (decide (pathOk a.path) && decide (hopOk a.hop))) && decide (medOk a)) := by
  rw [← Bool.decide_and, ← Bool.decide_and, ← Bool.decide_and, ← Bool.decide_and, decide_eq_decide]
  unfold goodA pathOk medOk asOk
  constructor
  · rintro ⟨h1, h2, h3, h4, h5, h6⟩
    exact ⟨⟨h2, ⟨h3, h1⟩, h4⟩, h5, h6⟩
  · rintro ⟨⟨h2, ⟨h3, h1⟩, h4⟩, h5, h6⟩
    exact ⟨h1, h2, h3, h4, h5, h6⟩

set_option maxHeartbeats 1000000 in
theorem dGood_any (a : At) (vp : Value) (w : World) (h : Rs intLay w vp a.path) (hr : hopR a) :
    Calls Try.prog 20 #[atV a vp] w fun e w' => e = .returned (.bool (decide (goodA a))) ∧ Same w w' := by
  rw [good_split]
  have HP := fun w' (hs : Same w w') => Lib.hid (goodPath_any a.path vp w' (h.same hs))
  have HH := fun w => Lib.hid (Hop_any a.hop hr w)
  obtain ⟨n, hn⟩ : ∃ n, a.path.length = n := ⟨_, rfl⟩
  obtain ⟨a1, c1, rfl⟩ := h.form hn
  have HM := fun w => Lib.hid (goodMed_any a (.slice a1 n c1) w ⟨_, _, _, rfl⟩)
  clear h hn hr
  generalize decide (pathOk a.path) = q1 at *
  generalize decide (hopOk a.hop) = q2 at *
  generalize decide (medOk a) = q3 at *
  obtain ⟨o, p, hp, m, hs⟩ := a
  dsimp only at HP HH HM ⊢
  have HA := Lib.hid (Same.alloc w (atO 35 ⟨o, p, hp, m, hs⟩ (.slice a1 n c1)))
  have HX : Hid (∀ w', Same (w.alloc (atO 35 ⟨o, p, hp, m, hs⟩ (.slice a1 n c1))) w' → AtAt w' w.heap.size ⟨o, p, hp, m, hs⟩ (.slice a1 n c1)) := fun w' hw => AtAt.of (hw.block (heap_alloc_new w _))
  obtain ⟨x0, x1, x2, x3, x4⟩ := HX.out _ (Same.refl _)
  by_cases h0 : 0 ≤ o
  · by_cases h2 : o ≤ 2
    · rw [decide_eq_true h0, decide_eq_true h2]
      simp only [Bool.true_and]
      cases q1
      · go_enter Try.func20, Try.ntmps20
        go_wp2_with fail
        refine (HP _ HA.out).out.mono ?_
        rintro e w1 ⟨rfl, rfl⟩
        go_wp2_with fail
        go_ret
        exact ⟨rfl, HA.out⟩
      · simp only [Bool.true_and]
        cases q2
        · go_enter Try.func20, Try.ntmps20
          go_wp2_with fail
          refine (HP _ HA.out).out.mono ?_
          rintro e w1 ⟨rfl, rfl⟩
          go_wp2_with fail
          refine (HH _).out.mono ?_
          rintro e w2 ⟨rfl, hs2⟩
          have HS2 := Lib.hid (HA.out.trans hs2)
          clear hs2
          go_wp2_with fail
          go_ret
          exact ⟨rfl, HS2.out⟩
        · simp only [Bool.true_and]
          go_enter Try.func20, Try.ntmps20
          go_wp2_with fail
          refine (HP _ HA.out).out.mono ?_
          rintro e w1 ⟨rfl, rfl⟩
          go_wp2_with fail
          refine (HH _).out.mono ?_
          rintro e w2 ⟨rfl, hs2⟩
          clear x0 x1 x2 x3 x4
          obtain ⟨x0, x1, x2, x3, x4⟩ := HX.out _ hs2
          have HS2 := Lib.hid (HA.out.trans hs2)
          clear hs2
          go_wp2_with fail
          refine (HM _).out.mono ?_
          rintro e w3 ⟨rfl, hs3⟩
          have HS3 := Lib.hid (HS2.out.trans hs3)
          clear hs3 x0 x1 x2 x3 x4
          go_wp2_with fail
          go_ret
          exact ⟨rfl, HS3.out⟩
    · rw [decide_eq_false h2, Bool.and_false, Bool.false_and, Bool.false_and]
      go_enter Try.func20, Try.ntmps20
      go_wp2_with fail
      go_ret
      exact ⟨rfl, HA.out⟩
  · rw [decide_eq_false h0, Bool.false_and, Bool.false_and, Bool.false_and]
    go_enter Try.func20, Try.ntmps20
    go_wp2_with fail
    go_ret
    exact ⟨rfl, HA.out⟩

set_option maxHeartbeats 1000000 in
theorem eqInts_same (l : List Int) (va vb : Value) (w : World) (ha : Rs intLay w va l) (hb : Rs intLay w vb l) :
    Calls Try.prog 44 #[va, vb] w fun e w' => e = .returned (.bool true) ∧ Same w w' := by
  obtain ⟨n, hn⟩ : ∃ n, l.length = n := ⟨_, rfl⟩
  have HN := Lib.hid hn
  have HP : Hid (0 < n → ∃ b o cap, va = .slice (some ⟨b, o, none⟩) n cap ∧ (∀ w', Same w w' → ∀ j n, l[j]? = some n → w'.cell? ⟨b, o + j, none⟩ = some (.int .i64 n))) := fun h => by
    obtain ⟨b, o, cap, hv, _, _, hc⟩ := ha.ints (by omega)
    exact ⟨b, o, cap, by rw [hv, hn], hc⟩
  have HQ : Hid (0 < n → ∃ b o cap, vb = .slice (some ⟨b, o, none⟩) n cap ∧ (∀ w', Same w w' → ∀ j n, l[j]? = some n → w'.cell? ⟨b, o + j, none⟩ = some (.int .i64 n))) := fun h => by
    obtain ⟨b, o, cap, hv, _, _, hc⟩ := hb.ints (by omega)
    exact ⟨b, o, cap, by rw [hv, hn], hc⟩
  have i0 : (n : Int) ≤ 9223372036854775807 := by
    obtain ⟨_, cap, _, h1, h2, _⟩ := ha
    omega
  obtain ⟨a1, c1, rfl⟩ := ha.form hn
  obtain ⟨a2, c2, rfl⟩ := hb.form hn
  clear ha hb hn
  go_enter Try.func44, Try.ntmps44
  go_wp2_with fail
  go_loopw [13] (fun i wr => ∃ k : Nat, k ≤ n ∧ i = .int .i64 k ∧ Same w wr) (fun i _ => n - (intOf i).toNat)
  case atStart => exact ⟨0, by omega, rfl, Same.refl w⟩
  case round =>
    obtain ⟨k, hk, rfl, hsr⟩ := hrel
    have HSR := Lib.hid hsr
    clear hsr
    by_cases h8 : k = n
    · subst h8
      go_wp2_with fail
      go_ret
      exact ⟨rfl, HSR.out⟩
    · have hk8 : (k : Int) < n := by omega
      have hkn : k < l.length := by have := HN.out; omega
      obtain ⟨b, o1, cap, e1, HC1⟩ := HP.out (by omega)
      obtain ⟨b', o2, cap', e2, HC2⟩ := HQ.out (by omega)
      cases e1
      cases e2
      have HC1 := Lib.hid HC1
      have HC2 := Lib.hid HC2
      have hg := Lib.hid (show l[k]? = some l[k] from List.getElem?_eq_getElem hkn)
      generalize l[k] = z at hg
      clear h8 hkn HP HQ
      go_wp2_with fail
      refine reg_start (fun w' => Same wr w') (by kernel_rfl) ?_
      refine reg_take (v := ?_) 0 (some 16) rfl rfl (by kernel_rfl) (fun _ _ _ h => h) (by kernel_rfl) ((Same.refl wr).drew) ?_ ?_
      rotate_left
      · (intro w' hw'; have hz1 := HC1.out w' (HSR.out.trans hw') k z hg.out; have hz2 := HC2.out w' (HSR.out.trans hw') k z hg.out; go_simp; try with_reducible rfl)
      try simp only [Act.put, List.setIfInBounds_toArray, List.set_cons_zero, List.set_cons_succ]
      refine reg_take (v := ?_) 1 (some 17) rfl rfl (by kernel_rfl) (fun _ _ _ h => h) (by kernel_rfl) ((Same.refl wr).drew) ?_ ?_
      rotate_left
      · (intro w' hw'; have hz1 := HC1.out w' (HSR.out.trans hw') k z hg.out; have hz2 := HC2.out w' (HSR.out.trans hw') k z hg.out; go_simp; try with_reducible rfl)
      try simp only [Act.put, List.setIfInBounds_toArray, List.set_cons_zero, List.set_cons_succ]
      refine reg_take (v := ?_) 2 (some 18) rfl rfl (by kernel_rfl) (fun _ _ _ h => h) (by kernel_rfl) ((Same.refl wr).drew) ?_ ?_
      rotate_left
      · (intro w' hw'; have hz1 := HC1.out w' (HSR.out.trans hw') k z hg.out; have hz2 := HC2.out w' (HSR.out.trans hw') k z hg.out; go_simp; try with_reducible rfl)
      try simp only [Act.put, List.setIfInBounds_toArray, List.set_cons_zero, List.set_cons_succ]
      refine reg_take (v := ?_) 3 (some 19) rfl rfl (by kernel_rfl) (fun _ _ _ h => h) (by kernel_rfl) ((Same.refl wr).drew) ?_ ?_
      rotate_left
      · (intro w' hw'; have hz1 := HC1.out w' (HSR.out.trans hw') k z hg.out; have hz2 := HC2.out w' (HSR.out.trans hw') k z hg.out; go_simp; try with_reducible rfl)
      try simp only [Act.put, List.setIfInBounds_toArray, List.set_cons_zero, List.set_cons_succ]
      refine reg_take (v := ?_) 4 (some 20) rfl rfl (by kernel_rfl) (fun _ _ _ h => h) (by kernel_rfl) ((Same.refl wr).drew) ?_ ?_
      rotate_left
      · (intro w' hw'; have hz1 := HC1.out w' (HSR.out.trans hw') k z hg.out; have hz2 := HC2.out w' (HSR.out.trans hw') k z hg.out; go_simp; try with_reducible rfl)
      try simp only [Act.put, List.setIfInBounds_toArray, List.set_cons_zero, List.set_cons_succ]
      refine reg_take (v := ?_) 5 (some 21) rfl rfl (by kernel_rfl) (fun _ _ _ h => h) (by kernel_rfl) ((Same.refl wr).drew) ?_ ?_
      rotate_left
      · (intro w' hw'; have hz1 := HC1.out w' (HSR.out.trans hw') k z hg.out; have hz2 := HC2.out w' (HSR.out.trans hw') k z hg.out; go_simp; try with_reducible rfl)
      try simp only [Act.put, List.setIfInBounds_toArray, List.set_cons_zero, List.set_cons_succ]
      refine reg_take (v := ?_) 6 (some 22) rfl rfl (by kernel_rfl) (fun _ _ _ h => h) (by kernel_rfl) ((Same.refl wr).drew) ?_ ?_
      rotate_left
      · (intro w' hw'; have hz1 := HC1.out w' (HSR.out.trans hw') k z hg.out; have hz2 := HC2.out w' (HSR.out.trans hw') k z hg.out; go_simp; try with_reducible rfl)
      try simp only [Act.put, List.setIfInBounds_toArray, List.set_cons_zero, List.set_cons_succ]
      refine reg_take (v := ?_) 7 (some 23) rfl rfl (by kernel_rfl) (fun _ _ _ h => h) (by kernel_rfl) ((Same.refl wr).drew) ?_ ?_
      rotate_left
      · (intro w' hw'; have hz1 := HC1.out w' (HSR.out.trans hw') k z hg.out; have hz2 := HC2.out w' (HSR.out.trans hw') k z hg.out; go_simp; try with_reducible rfl)
      try simp only [Act.put, List.setIfInBounds_toArray, List.set_cons_zero, List.set_cons_succ]
      refine reg_take (v := ?_) 8 (some 24) rfl rfl (by kernel_rfl) (fun _ _ _ h => h) (by kernel_rfl) ((Same.refl wr).drew) ?_ ?_
      rotate_left
      · (intro w' hw'; have hz1 := HC1.out w' (HSR.out.trans hw') k z hg.out; have hz2 := HC2.out w' (HSR.out.trans hw') k z hg.out; go_simp; try with_reducible rfl)
      try simp only [Act.put, List.setIfInBounds_toArray, List.set_cons_zero, List.set_cons_succ]
      refine reg_done (by kernel_rfl) ?_
      go_wp2_with fail
      exact ⟨⟨k + 1, by omega, rfl, HSR.out.drew⟩, by simp [intOf]; omega⟩

set_option maxHeartbeats 1000000 in
theorem dSame_any (a : At) (va vb : Value) (w : World) (ha : Rs intLay w va a.path) (hb : Rs intLay w vb a.path) :
    Calls Try.prog 21 #[atV a va, atV a vb] w fun e w' => e = .returned (.bool true) ∧ Same w w' := by
  have HE := fun w' (hs : Same w w') => Lib.hid (eqInts_same a.path va vb w' (ha.same hs) (hb.same hs))
  obtain ⟨o, p, h, m, hs⟩ := a
  simp only at ha hb HE
  obtain ⟨n, hn⟩ : ∃ n, p.length = n := ⟨_, rfl⟩
  obtain ⟨a1, c1, rfl⟩ := ha.form hn
  obtain ⟨a2, c2, rfl⟩ := hb.form hn
  clear ha hb hn
  have H0 := Lib.hid (Same.alloc w (atO 35 ⟨o, p, h, m, hs⟩ (.slice a1 n c1)))
  have H1 := Lib.hid (Same.alloc (w.alloc (atO 35 ⟨o, p, h, m, hs⟩ (.slice a1 n c1))) (atO 35 ⟨o, p, h, m, hs⟩ (.slice a2 n c2)))
  have HX : Hid (∀ w', Same ((w.alloc (atO 35 ⟨o, p, h, m, hs⟩ (.slice a1 n c1))).alloc (atO 35 ⟨o, p, h, m, hs⟩ (.slice a2 n c2))) w' → AtAt w' w.heap.size ⟨o, p, h, m, hs⟩ (.slice a1 n c1)) := fun w' hw => AtAt.of ((H1.out.trans hw).block (heap_alloc_new w _))
  have HY : Hid (∀ w', Same ((w.alloc (atO 35 ⟨o, p, h, m, hs⟩ (.slice a1 n c1))).alloc (atO 35 ⟨o, p, h, m, hs⟩ (.slice a2 n c2))) w' → AtAt w' (w.heap.size + 1) ⟨o, p, h, m, hs⟩ (.slice a2 n c2)) := fun w' hw => by
    have := AtAt.of (hw.block (heap_alloc_new (w.alloc (atO 35 ⟨o, p, h, m, hs⟩ (.slice a1 n c1))) (atO 35 ⟨o, p, h, m, hs⟩ (.slice a2 n c2))))
    rw [show (w.alloc (atO 35 ⟨o, p, h, m, hs⟩ (.slice a1 n c1))).heap.size = w.heap.size + 1 from by simp] at this
    exact this
  obtain ⟨x0, x1, x2, x3, x4⟩ := HX.out _ (Same.refl _)
  obtain ⟨y0, y1, y2, y3, y4⟩ := HY.out _ (Same.refl _)
  go_enter Try.func21, Try.ntmps21
  go_wp2_with fail
  refine (HE _ (H0.out.trans H1.out)).out.mono ?_
  rintro e w1 ⟨rfl, hs1⟩
  clear x0 x1 x2 x3 x4 y0 y1 y2 y3 y4
  obtain ⟨x0, x1, x2, x3, x4⟩ := HX.out _ hs1
  obtain ⟨y0, y1, y2, y3, y4⟩ := HY.out _ hs1
  have HS1 := Lib.hid ((H0.out.trans H1.out).trans hs1)
  clear hs1
  go_wp2_with fail
  go_ret
  exact ⟨rfl, HS1.out⟩
end Go.Proofs.Ytfhaaenmllkbnaa
