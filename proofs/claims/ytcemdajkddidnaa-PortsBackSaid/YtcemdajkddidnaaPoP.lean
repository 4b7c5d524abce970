/- Contracts of layer 5: the ports of bytes, the developers' and the document's. No condition beyond what each names. -/
import Derived.Test.YtcemdajkddidnaaPoF
namespace Go.Proofs.Ytcemdajkddidnaa
open Go.RowKit
set_option linter.unusedVariables false

theorem poLeast_any (p : Int) (w : World) : Calls Try.prog 23 #[.int .i64 p] w fun e w' => e = .returned (.int .i64 (leastP p)) ∧ w = w' := by
  unfold leastP
  by_cases h6 : p = 6
  · subst h6
    go_enter Try.func23, Try.ntmps23
    go_wp2
    go_ret
    exact ⟨rfl, rfl⟩
  · by_cases h7 : p = 17
    · subst h7
      go_enter Try.func23, Try.ntmps23
      go_wp2
      go_ret
      exact ⟨rfl, rfl⟩
    · rw [if_neg h6, if_neg h7]
      have k6 : (p == 6) = false := by simpa using h6
      have k7 : (p == 17) = false := by simpa using h7
      go_enter Try.func23, Try.ntmps23
      go_wp2
      go_ret
      exact ⟨rfl, rfl⟩

theorem get_at (l : List UInt8) (a : Nat) (k : Nat) (h : a + k ≤ l.length) : numOut (getOut l a k) = fld l a k := by
  unfold getOut
  rw [if_pos (by omega)]
  rfl

theorem poTold_any (p : Int) (v : Value) (l : List UInt8) (w : World) (hb : Bs w v l) (hl : leastP p ≤ l.length) (hp : p = 6 ∨ p = 17) :
    Calls Try.prog 30 #[.int .i64 p, v] w fun e w' => e = .returned (.int .i64 (toldP p l : Nat)) ∧ w = w' := by
  unfold leastP at hl
  rcases hp with rfl | rfl
  · rw [if_pos rfl] at hl
    obtain ⟨b, o, cap, rfl, h1, h2, h3⟩ := hb.form (by omega)
    have g : l[12]? = some l[12] := List.getElem?_eq_getElem (by omega)
    have c := h3 w (Same.refl w) 12 _ g
    have hq := fld_one l 12 _ g
    have hlt := l[12].toNat_lt
    have e : toldP 6 l = l[12].toNat / 16 * 4 := by rw [toldP, if_pos rfl, hq]
    rw [e]
    have n12 : (12 : Int) < l.length := by omega
    clear h3 g hq e
    generalize l[12].toNat = x at *
    generalize l.length = n at *
    have hx : (x : Int) / 16 < 16 := by omega
    have hx0 : 0 ≤ (x : Int) / 16 := by omega
    have z : IntKind.i64.wrap ((x : Int) / 16 * 4) = (x : Int) / 16 * 4 := IntWalk.i64_in _ (by omega)
    go_enter Try.func30, Try.ntmps30
    go_wp2_with fail
    go_ret
    exact ⟨by congr 2, rfl⟩
  · have hG := Lib.hid (Get16_any v l 4 w hb)
    have e : toldP 17 l = numOut (getOut l 4 2) := by
      rw [toldP, if_neg (by decide)]
      exact (get_at l 4 2 (by rw [if_neg (by decide), if_pos rfl] at hl; omega)).symm
    rw [e]
    obtain ⟨ao, cap, rfl, -, -, -, -⟩ := hb
    clear e hl
    generalize numOut (getOut l 4 2) = q at *
    generalize (getOut l 4 2).isSome = b at *
    go_enter Try.func30, Try.ntmps30
    go_wp2_with fail
    refine hG.out.mono ?_
    rintro e w1 ⟨rfl, rfl⟩
    go_wp2_with fail
    go_ret
    exact ⟨rfl, rfl⟩

theorem poFlags_any (p : Int) (v : Value) (l : List UInt8) (w : World) (hb : Bs w v l) (hl : p = 6 → 14 ≤ l.length) :
    Calls Try.prog 19 #[.int .i64 p, v] w fun e w' => e = .returned (.int .i64 (if p = 6 then (fld l 13 1 : Nat) else 0)) ∧ w = w' := by
  by_cases h6 : p = 6
  · subst h6
    have hl := hl rfl
    obtain ⟨b, o, cap, rfl, h1, h2, h3⟩ := hb.form (by omega)
    have g : l[13]? = some l[13] := List.getElem?_eq_getElem (by omega)
    have c := h3 w (Same.refl w) 13 _ g
    have hq := fld_one l 13 _ g
    have n12 : (13 : Int) < l.length := by omega
    have hlt := l[13].toNat_lt
    rw [if_pos rfl, hq]
    clear h3 g hq
    generalize l[13].toNat = x at *
    generalize l.length = n at *
    have hx : (x : Int) < 256 := by omega
    go_enter Try.func19, Try.ntmps19
    go_wp2_with fail
    go_ret
    exact ⟨rfl, rfl⟩
  · have k6 : (p == 6) = false := by simpa using h6
    obtain ⟨ao, cap, rfl, -, -, -, -⟩ := hb
    rw [if_neg h6]
    go_enter Try.func19, Try.ntmps19
    go_wp2_with fail
    go_ret
    exact ⟨rfl, rfl⟩

theorem poCheck_any (p : Int) (v : Value) (l : List UInt8) (w : World) (hb : Bs w v l) :
    Calls Try.prog 16 #[.int .i64 p, v] w fun e w' => e = .returned (.int .i64 (pE p l)) ∧ w = w' := by
  have HL := Lib.hid (poLeast_any p w)
  have HT := fun h1 h2 => Lib.hid (poTold_any p v l w hb h1 h2)
  have HT := Lib.hid HT
  obtain ⟨ao, cap, rfl, -, -, -, -⟩ := hb
  unfold pE
  by_cases h0 : leastP p = 0
  · rw [if_pos h0]
    rw [h0] at HL
    go_enter Try.func16, Try.ntmps16
    go_wp2_with fail
    refine HL.out.mono ?_
    rintro e w1 ⟨rfl, rfl⟩
    go_wp2_with fail
    go_ret
    exact ⟨rfl, rfl⟩
  · have hp : p = 6 ∨ p = 17 := by
      unfold leastP at h0
      by_cases h6 : p = 6
      · exact .inl h6
      · by_cases h7 : p = 17
        · exact .inr h7
        · rw [if_neg h6, if_neg h7] at h0; exact absurd rfl h0
    have HP := Lib.hid hp
    have hk : (leastP p == 0) = false := by simpa using h0
    have hs : leastP p ≤ 20 := by
      unfold leastP
      split
      · omega
      · split <;> omega
    rw [if_neg h0]
    clear hp h0
    by_cases h1 : (l.length : Int) < leastP p
    · rw [if_pos h1]
      clear HT
      generalize leastP p = q at *
      go_enter Try.func16, Try.ntmps16
      go_wp2_with fail
      refine HL.out.mono ?_
      rintro e w1 ⟨rfl, rfl⟩
      go_wp2_with fail
      go_ret
      exact ⟨rfl, rfl⟩
    · rw [if_neg h1]
      have HT1 := HT.out (by omega) HP.out
      clear HT
      generalize toldP p l = t at *
      generalize leastP p = q at *
      generalize l.length = n at *
      by_cases h2 : (t : Int) < q
      · rw [if_pos (.inl h2)]
        go_enter Try.func16, Try.ntmps16
        go_wp2_with fail
        refine HL.out.mono ?_
        rintro e w1 ⟨rfl, rfl⟩
        go_wp2_with fail
        refine HT1.out.mono ?_
        rintro e w1 ⟨rfl, rfl⟩
        go_wp2_with fail
        go_ret
        exact ⟨rfl, rfl⟩
      · by_cases h3 : (n : Int) < t
        · rw [if_pos (.inr h3)]
          go_enter Try.func16, Try.ntmps16
          go_wp2_with fail
          refine HL.out.mono ?_
          rintro e w1 ⟨rfl, rfl⟩
          go_wp2_with fail
          refine HT1.out.mono ?_
          rintro e w1 ⟨rfl, rfl⟩
          go_wp2_with fail
          go_ret
          exact ⟨rfl, rfl⟩
        · rw [if_neg (by omega)]
          go_enter Try.func16, Try.ntmps16
          go_wp2_with fail
          refine HL.out.mono ?_
          rintro e w1 ⟨rfl, rfl⟩
          go_wp2_with fail
          refine HT1.out.mono ?_
          rintro e w1 ⟨rfl, rfl⟩
          go_wp2_with fail
          go_ret
          exact ⟨rfl, rfl⟩

theorem poParse_any (p : Int) (v : Value) (l : List UInt8) (w : World) (hb : Bs w v l) (hl : l.length ≤ 140737488355328) :
    Calls Try.prog 7 #[.int .i64 p, v] w fun e w' => e = .returned (ptV p l) ∧ Same w w' := by
  have HC := Lib.hid (poCheck_any p v l w hb)
  have HB := Lib.hid hb
  have hcs := pE_cases p l
  by_cases h0 : pE p l = 0
  · have h4 : 4 ≤ l.length := by omega
    have h14 : p = 6 → 14 ≤ l.length := by omega
    have HR := Lib.hid (Read_any v l w hb hl)
    have HG := fun w hb => Lib.hid (poFlags_any p v l w hb h14)
    have e : ptV p l = .tuple #[.int .i64 (fld l 0 2), .int .i64 (fld l 2 2), .int .i64 (if p = 6 then (fld l 13 1 : Nat) else 0), .int .i64 0] := by
      unfold ptV pS pD pG
      rw [h0]
      by_cases h6 : p = 6 <;> simp [h6]
    rw [e]
    rw [h0] at HC
    clear hcs e h0
    generalize (if p = 6 then ((fld l 13 1 : Nat) : Int) else 0) = fg at *
    have HU := fun s all a w h hk => Lib.hid (U16_at s all l a w h hk)
    obtain ⟨ao, cap, rfl, -, -, -, -⟩ := hb
    go_enter Try.func7, Try.ntmps7
    go_wp2_with fail
    refine HC.out.mono ?_
    rintro e w1 ⟨rfl, rfl⟩
    go_wp2_with fail
    refine HR.out.mono ?_
    rintro e w1 ⟨s, v', rfl, hs, hsrc, hsm, hown⟩
    have HSr := Lib.hid hsrc
    have HSm := Lib.hid hsm
    have HSs := Lib.hid hs
    clear hsrc hsm hown hs
    go_wp2_with fail
    refine (HU s v' 0 _ HSr.out (by omega)).out.mono ?_
    rintro e w2 ⟨rfl, hm2, hs2⟩
    have HS2 := Lib.hid hs2
    have HM2 := Lib.hid hm2
    clear hs2 hm2
    go_wp2_with fail
    refine (HU s v' 2 _ HS2.out (by omega)).out.mono ?_
    rintro e w3 ⟨rfl, hm3, hs3⟩
    have HM3 : Hid (Same w w3) := Below.trans HSm.out (((HM2.out.trans hm3).below HSs.out HSm.out.size))
    clear hs3 hm3
    go_wp2_with fail
    refine (HG _ (HB.out.same HM3.out)).out.mono ?_
    rintro e w4 ⟨rfl, rfl⟩
    go_wp2_with fail
    refine bodyPost_ret (v := .tuple #[.int .i64 (fld l 0 2), .int .i64 (fld l 2 2), .int .i64 fg, .int .i64 0]) ?_ rfl ⟨rfl, HM3.out⟩
    simp [results, Try.results7, go_sem]
  · rw [ptV_bad rfl h0]
    have hk : (pE p l != 0) = true := by simpa using h0
    obtain ⟨ao, cap, rfl, -, -, -, -⟩ := hb
    clear hcs h0
    generalize pE p l = E at *
    go_enter Try.func7, Try.ntmps7
    go_wp2_with fail
    refine HC.out.mono ?_
    rintro e w1 ⟨rfl, rfl⟩
    go_wp2_with fail
    refine bodyPost_ret (v := .tuple #[.int .i64 0, .int .i64 0, .int .i64 0, .int .i64 E]) ?_ rfl ⟨rfl, Same.refl _⟩
    simp [results, Try.results7, go_sem]

/-- the cells of the bytes at a place -/
theorem two_at {w : World} {l : List UInt8} {b o : Nat} (H : ∀ w', Same w w' → ∀ j u, l[j]? = some u → w'.cell? ⟨b, o + j, none⟩ = some (.int .u8 (u.toNat : Int))) (a : Nat) (ha : a + 1 < l.length) :
    ∃ x y : Nat, x < 256 ∧ y < 256 ∧ fld l a 2 = 256 * x + y ∧ ∀ w', Same w w' → w'.cell? ⟨b, o + a, none⟩ = some (.int .u8 (x : Int)) ∧ w'.cell? ⟨b, o + (a + 1), none⟩ = some (.int .u8 (y : Int)) := by
  have g0 : l[a]? = some l[a] := List.getElem?_eq_getElem (by omega)
  have g1 : l[a + 1]? = some l[a + 1] := List.getElem?_eq_getElem (by omega)
  exact ⟨l[a].toNat, l[a + 1].toNat, l[a].toNat_lt, l[a + 1].toNat_lt, fld_two l a _ _ g0 g1, fun w' hs => ⟨H w' hs a _ g0, H w' hs (a + 1) _ g1⟩⟩

set_option maxRecDepth 100000 in
set_option maxHeartbeats 2000000 in
theorem roParse_tcp (v : Value) (l : List UInt8) (w : World) (hb : Bs w v l) :
    Calls Try.prog 8 #[.int .i64 6, v] w fun e w' => e = .returned (ptV 6 l) ∧ Same w w' := by
  have hcs := pE_cases 6 l
  by_cases h20 : l.length < 20
  · rw [ptV_bad (e := 3) (by omega) (by decide)]
    obtain ⟨ao, cap, rfl, -, -, -, -⟩ := hb
    have k : (l.length : Int) < 20 := by omega
    clear hcs h20
    generalize l.length = n at *
    go_enter Try.func8, Try.ntmps8
    go_wp2_with fail
    refine bodyPost_ret (v := .tuple #[.int .i64 0, .int .i64 0, .int .i64 0, .int .i64 3]) ?_ rfl ⟨rfl, Same.refl _⟩
    simp [results, Try.results8, go_sem]
  · obtain ⟨b, o, cap, rfl, h1, h2, h3⟩ := hb.form (by omega)
    have g12 : l[12]? = some l[12] := List.getElem?_eq_getElem (by omega)
    have g13 : l[13]? = some l[13] := List.getElem?_eq_getElem (by omega)
    have c12 := h3 w (Same.refl w) 12 _ g12
    have c13 := h3 w (Same.refl w) 13 _ g13
    have q12 := fld_one l 12 _ g12
    have q13 := fld_one l 13 _ g13
    have l12 := l[12].toNat_lt
    have l13 := l[13].toNat_lt
    have k20 : ¬ (l.length : Int) < 20 := by omega
    have k12 : (12 : Int) < l.length := by omega
    have k13 : (13 : Int) < l.length := by omega
    have n0 : 0 < l.length := by omega
    have n1 : (1 : Int) < l.length := by omega
    have n2 : (2 : Int) < l.length := by omega
    have n3 : (3 : Int) < l.length := by omega
    rw [q12] at hcs
    by_cases hbad : l[12].toNat / 16 * 4 < 20 ∨ l.length < l[12].toNat / 16 * 4
    · rw [ptV_bad (e := 4) (by omega) (by decide)]
      clear h3 g12 g13 q12 q13 hcs
      generalize l[12].toNat = x at *
      generalize l[13].toNat = y at *
      generalize l.length = n at *
      have hx : (x : Int) / 16 < 16 := by omega
      have hx0 : 0 ≤ (x : Int) / 16 := by omega
      have z : IntKind.i64.wrap (4 * ((x : Int) / 16)) = 4 * ((x : Int) / 16) := IntWalk.i64_in _ (by omega)
      by_cases hA : 4 * ((x : Int) / 16) < 20
      · go_enter Try.func8, Try.ntmps8
        go_wp2_with fail
        refine bodyPost_ret (v := .tuple #[.int .i64 0, .int .i64 0, .int .i64 0, .int .i64 4]) ?_ rfl ⟨rfl, Same.refl _⟩
        simp [results, Try.results8, go_sem]
      · have hB : (n : Int) < 4 * ((x : Int) / 16) := by omega
        go_enter Try.func8, Try.ntmps8
        go_wp2_with fail
        refine bodyPost_ret (v := .tuple #[.int .i64 0, .int .i64 0, .int .i64 0, .int .i64 4]) ?_ rfl ⟨rfl, Same.refl _⟩
        simp [results, Try.results8, go_sem]
    · rw [ptV_tcp (by omega), q13]
      obtain ⟨x0, x1, r0, r1, e0, C0⟩ := two_at h3 0 (by omega)
      obtain ⟨x2, x3, r2, r3, e2, C2⟩ := two_at h3 2 (by omega)
      have HC0 := Lib.hid C0
      have HC2 := Lib.hid C2
      rw [e0, e2]
      clear h3 g12 g13 q12 q13 hcs C0 C2 e0 e2
      generalize l[12].toNat = x at *
      generalize l[13].toNat = y at *
      generalize l.length = n at *
      have hx : (x : Int) / 16 < 16 := by omega
      have hx0 : 0 ≤ (x : Int) / 16 := by omega
      have z : IntKind.i64.wrap (4 * ((x : Int) / 16)) = 4 * ((x : Int) / 16) := IntWalk.i64_in _ (by omega)
      have hA : ¬ 4 * ((x : Int) / 16) < 20 := by omega
      have hB : ¬ (n : Int) < 4 * ((x : Int) / 16) := by omega
      have hy : (y : Int) < 256 := by omega
      have s0 : (x0 : Int) < 256 := by omega
      have s1 : (x1 : Int) < 256 := by omega
      have s2 : (x2 : Int) < 256 := by omega
      have s3 : (x3 : Int) < 256 := by omega
      rw [show ((256 * x0 + x1 : Nat) : Int) = 256 * (x0 : Int) + x1 by omega, show ((256 * x2 + x3 : Nat) : Int) = 256 * (x2 : Int) + x3 by omega]
      have w0 : IntKind.i64.wrap (x0 : Int) = x0 := IntWalk.i64_in _ (by omega)
      have w1 : IntKind.i64.wrap (x1 : Int) = x1 := IntWalk.i64_in _ (by omega)
      have w2 : IntKind.i64.wrap (x2 : Int) = x2 := IntWalk.i64_in _ (by omega)
      have w3 : IntKind.i64.wrap (x3 : Int) = x3 := IntWalk.i64_in _ (by omega)
      have w4 : IntKind.i64.wrap (256 * (x0 : Int)) = 256 * x0 := IntWalk.i64_in _ (by omega)
      have w5 : IntKind.i64.wrap (256 * (x2 : Int)) = 256 * x2 := IntWalk.i64_in _ (by omega)
      have w6 : IntKind.i64.wrap (256 * (x0 : Int) + x1) = 256 * x0 + x1 := IntWalk.i64_in _ (by omega)
      have w7 : IntKind.i64.wrap (256 * (x2 : Int) + x3) = 256 * x2 + x3 := IntWalk.i64_in _ (by omega)
      clear hbad h20 r0 r1 r2 r3 l12 l13
      go_enter Try.func8, Try.ntmps8
      go_wp2_with fail
      refine reg_start (fun w' => Same w w') (by kernel_rfl) ?_
      refine reg_take (v := ?_) 0 (some 58) rfl rfl (by kernel_rfl) (fun _ _ _ h => h) (by kernel_rfl) ((Same.refl w).drew) ?_ ?_
      rotate_left
      · (intro w' hw'; obtain ⟨d0, d1⟩ := HC0.out w' hw'; rw [Nat.add_zero] at d0; obtain ⟨d2, d3⟩ := HC2.out w' hw'; go_simp; try with_reducible rfl)
      try simp only [Act.put, List.setIfInBounds_toArray, List.set_cons_zero, List.set_cons_succ]
      refine reg_take (v := ?_) 1 (some 59) rfl rfl (by kernel_rfl) (fun _ _ _ h => h) (by kernel_rfl) ((Same.refl w).drew) ?_ ?_
      rotate_left
      · (intro w' hw'; obtain ⟨d0, d1⟩ := HC0.out w' hw'; rw [Nat.add_zero] at d0; obtain ⟨d2, d3⟩ := HC2.out w' hw'; go_simp; try with_reducible rfl)
      try simp only [Act.put, List.setIfInBounds_toArray, List.set_cons_zero, List.set_cons_succ]
      refine reg_take (v := ?_) 2 (some 60) rfl rfl (by kernel_rfl) (fun _ _ _ h => h) (by kernel_rfl) ((Same.refl w).drew) ?_ ?_
      rotate_left
      · (intro w' hw'; obtain ⟨d0, d1⟩ := HC0.out w' hw'; rw [Nat.add_zero] at d0; obtain ⟨d2, d3⟩ := HC2.out w' hw'; go_simp; try with_reducible rfl)
      try simp only [Act.put, List.setIfInBounds_toArray, List.set_cons_zero, List.set_cons_succ]
      refine reg_take (v := ?_) 3 (some 61) rfl rfl (by kernel_rfl) (fun _ _ _ h => h) (by kernel_rfl) ((Same.refl w).drew) ?_ ?_
      rotate_left
      · (intro w' hw'; obtain ⟨d0, d1⟩ := HC0.out w' hw'; rw [Nat.add_zero] at d0; obtain ⟨d2, d3⟩ := HC2.out w' hw'; go_simp; try with_reducible rfl)
      try simp only [Act.put, List.setIfInBounds_toArray, List.set_cons_zero, List.set_cons_succ]
      refine reg_take (v := ?_) 4 (some 62) rfl rfl (by kernel_rfl) (fun _ _ _ h => h) (by kernel_rfl) ((Same.refl w).drew) ?_ ?_
      rotate_left
      · (intro w' hw'; obtain ⟨d0, d1⟩ := HC0.out w' hw'; rw [Nat.add_zero] at d0; obtain ⟨d2, d3⟩ := HC2.out w' hw'; go_simp; try with_reducible rfl)
      try simp only [Act.put, List.setIfInBounds_toArray, List.set_cons_zero, List.set_cons_succ]
      refine reg_take (v := ?_) 5 (some 63) rfl rfl (by kernel_rfl) (fun _ _ _ h => h) (by kernel_rfl) ((Same.refl w).drew) ?_ ?_
      rotate_left
      · (intro w' hw'; obtain ⟨d0, d1⟩ := HC0.out w' hw'; rw [Nat.add_zero] at d0; obtain ⟨d2, d3⟩ := HC2.out w' hw'; go_simp; try with_reducible rfl)
      try simp only [Act.put, List.setIfInBounds_toArray, List.set_cons_zero, List.set_cons_succ]
      refine reg_take (v := ?_) 6 (some 64) rfl rfl (by kernel_rfl) (fun _ _ _ h => h) (by kernel_rfl) ((Same.refl w).drew) ?_ ?_
      rotate_left
      · (intro w' hw'; obtain ⟨d0, d1⟩ := HC0.out w' hw'; rw [Nat.add_zero] at d0; obtain ⟨d2, d3⟩ := HC2.out w' hw'; go_simp; try with_reducible rfl)
      try simp only [Act.put, List.setIfInBounds_toArray, List.set_cons_zero, List.set_cons_succ]
      refine reg_take (v := ?_) 7 (some 65) rfl rfl (by kernel_rfl) (fun _ _ _ h => h) (by kernel_rfl) ((Same.refl w).drew) ?_ ?_
      rotate_left
      · (intro w' hw'; obtain ⟨d0, d1⟩ := HC0.out w' hw'; rw [Nat.add_zero] at d0; obtain ⟨d2, d3⟩ := HC2.out w' hw'; go_simp; try with_reducible rfl)
      try simp only [Act.put, List.setIfInBounds_toArray, List.set_cons_zero, List.set_cons_succ]
      refine reg_take (v := ?_) 8 (some 66) rfl rfl (by kernel_rfl) (fun _ _ _ h => h) (by kernel_rfl) ((Same.refl w).drew) ?_ ?_
      rotate_left
      · (intro w' hw'; obtain ⟨d0, d1⟩ := HC0.out w' hw'; rw [Nat.add_zero] at d0; obtain ⟨d2, d3⟩ := HC2.out w' hw'; go_simp; try with_reducible rfl)
      try simp only [Act.put, List.setIfInBounds_toArray, List.set_cons_zero, List.set_cons_succ]
      refine reg_take (v := ?_) 9 (some 67) rfl rfl (by kernel_rfl) (fun _ _ _ h => h) (by kernel_rfl) ((Same.refl w).drew) ?_ ?_
      rotate_left
      · (intro w' hw'; obtain ⟨d0, d1⟩ := HC0.out w' hw'; rw [Nat.add_zero] at d0; obtain ⟨d2, d3⟩ := HC2.out w' hw'; go_simp; try with_reducible rfl)
      try simp only [Act.put, List.setIfInBounds_toArray, List.set_cons_zero, List.set_cons_succ]
      refine reg_take (v := ?_) 10 (some 68) rfl rfl (by kernel_rfl) (fun _ _ _ h => h) (by kernel_rfl) ((Same.refl w).drew) ?_ ?_
      rotate_left
      · (intro w' hw'; obtain ⟨d0, d1⟩ := HC0.out w' hw'; rw [Nat.add_zero] at d0; obtain ⟨d2, d3⟩ := HC2.out w' hw'; go_simp; try with_reducible rfl)
      try simp only [Act.put, List.setIfInBounds_toArray, List.set_cons_zero, List.set_cons_succ]
      refine reg_take (v := ?_) 11 (some 69) rfl rfl (by kernel_rfl) (fun _ _ _ h => h) (by kernel_rfl) ((Same.refl w).drew) ?_ ?_
      rotate_left
      · (intro w' hw'; obtain ⟨d0, d1⟩ := HC0.out w' hw'; rw [Nat.add_zero] at d0; obtain ⟨d2, d3⟩ := HC2.out w' hw'; go_simp; try with_reducible rfl)
      try simp only [Act.put, List.setIfInBounds_toArray, List.set_cons_zero, List.set_cons_succ]
      refine reg_take (v := ?_) 12 (some 70) rfl rfl (by kernel_rfl) (fun _ _ _ h => h) (by kernel_rfl) ((Same.refl w).drew) ?_ ?_
      rotate_left
      · (intro w' hw'; obtain ⟨d0, d1⟩ := HC0.out w' hw'; rw [Nat.add_zero] at d0; obtain ⟨d2, d3⟩ := HC2.out w' hw'; go_simp; try with_reducible rfl)
      try simp only [Act.put, List.setIfInBounds_toArray, List.set_cons_zero, List.set_cons_succ]
      refine reg_take (v := ?_) 13 (some 71) rfl rfl (by kernel_rfl) (fun _ _ _ h => h) (by kernel_rfl) ((Same.refl w).drew) ?_ ?_
      rotate_left
      · (intro w' hw'; obtain ⟨d0, d1⟩ := HC0.out w' hw'; rw [Nat.add_zero] at d0; obtain ⟨d2, d3⟩ := HC2.out w' hw'; go_simp; try with_reducible rfl)
      try simp only [Act.put, List.setIfInBounds_toArray, List.set_cons_zero, List.set_cons_succ]
      refine reg_take (v := ?_) 14 (some 72) rfl rfl (by kernel_rfl) (fun _ _ _ h => h) (by kernel_rfl) ((Same.refl w).drew) ?_ ?_
      rotate_left
      · (intro w' hw'; obtain ⟨d0, d1⟩ := HC0.out w' hw'; rw [Nat.add_zero] at d0; obtain ⟨d2, d3⟩ := HC2.out w' hw'; go_simp; try with_reducible rfl)
      try simp only [Act.put, List.setIfInBounds_toArray, List.set_cons_zero, List.set_cons_succ]
      refine reg_take (v := ?_) 15 (some 73) rfl rfl (by kernel_rfl) (fun _ _ _ h => h) (by kernel_rfl) ((Same.refl w).drew) ?_ ?_
      rotate_left
      · (intro w' hw'; obtain ⟨d0, d1⟩ := HC0.out w' hw'; rw [Nat.add_zero] at d0; obtain ⟨d2, d3⟩ := HC2.out w' hw'; go_simp; try with_reducible rfl)
      try simp only [Act.put, List.setIfInBounds_toArray, List.set_cons_zero, List.set_cons_succ]
      refine reg_take (v := ?_) 16 (some 74) rfl rfl (by kernel_rfl) (fun _ _ _ h => h) (by kernel_rfl) ((Same.refl w).drew) ?_ ?_
      rotate_left
      · (intro w' hw'; obtain ⟨d0, d1⟩ := HC0.out w' hw'; rw [Nat.add_zero] at d0; obtain ⟨d2, d3⟩ := HC2.out w' hw'; go_simp; try with_reducible rfl)
      try simp only [Act.put, List.setIfInBounds_toArray, List.set_cons_zero, List.set_cons_succ]
      refine reg_take (v := ?_) 17 (some 75) rfl rfl (by kernel_rfl) (fun _ _ _ h => h) (by kernel_rfl) ((Same.refl w).drew) ?_ ?_
      rotate_left
      · (intro w' hw'; obtain ⟨d0, d1⟩ := HC0.out w' hw'; rw [Nat.add_zero] at d0; obtain ⟨d2, d3⟩ := HC2.out w' hw'; go_simp; try with_reducible rfl)
      try simp only [Act.put, List.setIfInBounds_toArray, List.set_cons_zero, List.set_cons_succ]
      refine reg_take (v := ?_) 18 (some 76) rfl rfl (by kernel_rfl) (fun _ _ _ h => h) (by kernel_rfl) ((Same.refl w).drew) ?_ ?_
      rotate_left
      · (intro w' hw'; obtain ⟨d0, d1⟩ := HC0.out w' hw'; rw [Nat.add_zero] at d0; obtain ⟨d2, d3⟩ := HC2.out w' hw'; go_simp; try with_reducible rfl)
      try simp only [Act.put, List.setIfInBounds_toArray, List.set_cons_zero, List.set_cons_succ]
      refine reg_take (v := ?_) 19 (some 77) rfl rfl (by kernel_rfl) (fun _ _ _ h => h) (by kernel_rfl) ((Same.refl w).drew) ?_ ?_
      rotate_left
      · (intro w' hw'; obtain ⟨d0, d1⟩ := HC0.out w' hw'; rw [Nat.add_zero] at d0; obtain ⟨d2, d3⟩ := HC2.out w' hw'; go_simp; try with_reducible rfl)
      try simp only [Act.put, List.setIfInBounds_toArray, List.set_cons_zero, List.set_cons_succ]
      refine reg_take (v := ?_) 20 (some 78) rfl rfl (by kernel_rfl) (fun _ _ _ h => h) (by kernel_rfl) ((Same.refl w).drew) ?_ ?_
      rotate_left
      · (intro w' hw'; obtain ⟨d0, d1⟩ := HC0.out w' hw'; rw [Nat.add_zero] at d0; obtain ⟨d2, d3⟩ := HC2.out w' hw'; go_simp; try with_reducible rfl)
      try simp only [Act.put, List.setIfInBounds_toArray, List.set_cons_zero, List.set_cons_succ]
      refine reg_take (v := ?_) 21 (some 4) rfl rfl (by kernel_rfl) (fun _ _ _ h => h) (by kernel_rfl) ((Same.refl w).drew) ?_ ?_
      rotate_left
      · (intro w' hw'; obtain ⟨d0, d1⟩ := HC0.out w' hw'; rw [Nat.add_zero] at d0; obtain ⟨d2, d3⟩ := HC2.out w' hw'; go_simp; try with_reducible rfl)
      try simp only [Act.put, List.setIfInBounds_toArray, List.set_cons_zero, List.set_cons_succ]
      refine reg_take (v := ?_) 22 (some 5) rfl rfl (by kernel_rfl) (fun _ _ _ h => h) (by kernel_rfl) ((Same.refl w).drew) ?_ ?_
      rotate_left
      · (intro w' hw'; obtain ⟨d0, d1⟩ := HC0.out w' hw'; rw [Nat.add_zero] at d0; obtain ⟨d2, d3⟩ := HC2.out w' hw'; go_simp; try with_reducible rfl)
      try simp only [Act.put, List.setIfInBounds_toArray, List.set_cons_zero, List.set_cons_succ]
      refine reg_take (v := ?_) 23 (some 6) rfl rfl (by kernel_rfl) (fun _ _ _ h => h) (by kernel_rfl) ((Same.refl w).drew) ?_ ?_
      rotate_left
      · (intro w' hw'; obtain ⟨d0, d1⟩ := HC0.out w' hw'; rw [Nat.add_zero] at d0; obtain ⟨d2, d3⟩ := HC2.out w' hw'; go_simp; try with_reducible rfl)
      try simp only [Act.put, List.setIfInBounds_toArray, List.set_cons_zero, List.set_cons_succ]
      refine reg_take (v := ?_) 24 (some 7) rfl rfl (by kernel_rfl) (fun _ _ _ h => h) (by kernel_rfl) ((Same.refl w).drew) ?_ ?_
      rotate_left
      · (intro w' hw'; obtain ⟨d0, d1⟩ := HC0.out w' hw'; rw [Nat.add_zero] at d0; obtain ⟨d2, d3⟩ := HC2.out w' hw'; go_simp; try with_reducible rfl)
      try simp only [Act.put, List.setIfInBounds_toArray, List.set_cons_zero, List.set_cons_succ]
      refine reg_done (by kernel_rfl) ?_
      go_wp2_with fail
      refine bodyPost_ret (v := .tuple #[.int .i64 (256 * (x0 : Int) + x1), .int .i64 (256 * (x2 : Int) + x3), .int .i64 y, .int .i64 0]) ?_ rfl ⟨rfl, (Same.refl w).drew⟩
      simp [results, Try.results8, go_sem]

set_option maxRecDepth 100000 in
set_option maxHeartbeats 2000000 in
theorem roParse_udp (v : Value) (l : List UInt8) (w : World) (hb : Bs w v l) :
    Calls Try.prog 8 #[.int .i64 17, v] w fun e w' => e = .returned (ptV 17 l) ∧ Same w w' := by
  have hcs := pE_cases 17 l
  by_cases h8 : l.length < 8
  · rw [ptV_bad (e := 3) (by omega) (by decide)]
    obtain ⟨ao, cap, rfl, -, -, -, -⟩ := hb
    have k : (l.length : Int) < 8 := by omega
    clear hcs h8
    generalize l.length = n at *
    go_enter Try.func8, Try.ntmps8
    go_wp2_with fail
    refine bodyPost_ret (v := .tuple #[.int .i64 0, .int .i64 0, .int .i64 0, .int .i64 3]) ?_ rfl ⟨rfl, Same.refl _⟩
    simp [results, Try.results8, go_sem]
  · obtain ⟨b, o, cap, rfl, h1, h2, h3⟩ := hb.form (by omega)
    obtain ⟨x4, x5, r4, r5, e4, C4⟩ := two_at h3 4 (by omega)
    obtain ⟨x0, x1, r0, r1, e0, C0⟩ := two_at h3 0 (by omega)
    obtain ⟨x2, x3, r2, r3, e2, C2⟩ := two_at h3 2 (by omega)
    have HC0 := Lib.hid C0
    have HC2 := Lib.hid C2
    have HC4 := Lib.hid C4
    have k8 : ¬ (l.length : Int) < 8 := by omega
    have n4 : (4 : Int) < l.length := by omega
    have n5 : (5 : Int) < l.length := by omega
    have n0 : 0 < l.length := by omega
    have n1 : (1 : Int) < l.length := by omega
    have n2 : (2 : Int) < l.length := by omega
    have n3 : (3 : Int) < l.length := by omega
    rw [e4] at hcs
    have w0 : IntKind.i64.wrap (x0 : Int) = x0 := IntWalk.i64_in _ (by omega)
    have w1 : IntKind.i64.wrap (x1 : Int) = x1 := IntWalk.i64_in _ (by omega)
    have w2 : IntKind.i64.wrap (x2 : Int) = x2 := IntWalk.i64_in _ (by omega)
    have w3 : IntKind.i64.wrap (x3 : Int) = x3 := IntWalk.i64_in _ (by omega)
    have w4 : IntKind.i64.wrap (256 * (x0 : Int)) = 256 * x0 := IntWalk.i64_in _ (by omega)
    have w5 : IntKind.i64.wrap (256 * (x2 : Int)) = 256 * x2 := IntWalk.i64_in _ (by omega)
    have w6 : IntKind.i64.wrap (256 * (x0 : Int) + x1) = 256 * x0 + x1 := IntWalk.i64_in _ (by omega)
    have w7 : IntKind.i64.wrap (256 * (x2 : Int) + x3) = 256 * x2 + x3 := IntWalk.i64_in _ (by omega)
    have v0 : IntKind.i64.wrap (x4 : Int) = x4 := IntWalk.i64_in _ (by omega)
    have v1 : IntKind.i64.wrap (x5 : Int) = x5 := IntWalk.i64_in _ (by omega)
    have v2 : IntKind.i64.wrap (256 * (x4 : Int)) = 256 * x4 := IntWalk.i64_in _ (by omega)
    have v3 : IntKind.i64.wrap (256 * (x4 : Int) + x5) = 256 * x4 + x5 := IntWalk.i64_in _ (by omega)
    by_cases hbad : 256 * x4 + x5 < 8 ∨ l.length < 256 * x4 + x5
    · rw [ptV_bad (e := 4) (by omega) (by decide)]
      clear h3 hcs C0 C2 C4 e0 e2 e4 HC0 HC2 w0 w1 w2 w3 w4 w5 w6 w7
      generalize l.length = n at *
      by_cases hA : 256 * (x4 : Int) + x5 < 8
      · go_enter Try.func8, Try.ntmps8
        go_wp2_with fail
        refine reg_start (fun w' => Same w w') (by kernel_rfl) ?_
        refine reg_take (v := ?_) 0 (some 40) rfl rfl (by kernel_rfl) (fun _ _ _ h => h) (by kernel_rfl) ((Same.refl w).drew) ?_ ?_
        rotate_left
        · (intro w' hw'; obtain ⟨d0, d1⟩ := HC4.out w' hw'; go_simp; try with_reducible rfl)
        try simp only [Act.put, List.setIfInBounds_toArray, List.set_cons_zero, List.set_cons_succ]
        refine reg_take (v := ?_) 1 (some 41) rfl rfl (by kernel_rfl) (fun _ _ _ h => h) (by kernel_rfl) ((Same.refl w).drew) ?_ ?_
        rotate_left
        · (intro w' hw'; obtain ⟨d0, d1⟩ := HC4.out w' hw'; go_simp; try with_reducible rfl)
        try simp only [Act.put, List.setIfInBounds_toArray, List.set_cons_zero, List.set_cons_succ]
        refine reg_take (v := ?_) 2 (some 42) rfl rfl (by kernel_rfl) (fun _ _ _ h => h) (by kernel_rfl) ((Same.refl w).drew) ?_ ?_
        rotate_left
        · (intro w' hw'; obtain ⟨d0, d1⟩ := HC4.out w' hw'; go_simp; try with_reducible rfl)
        try simp only [Act.put, List.setIfInBounds_toArray, List.set_cons_zero, List.set_cons_succ]
        refine reg_take (v := ?_) 3 (some 43) rfl rfl (by kernel_rfl) (fun _ _ _ h => h) (by kernel_rfl) ((Same.refl w).drew) ?_ ?_
        rotate_left
        · (intro w' hw'; obtain ⟨d0, d1⟩ := HC4.out w' hw'; go_simp; try with_reducible rfl)
        try simp only [Act.put, List.setIfInBounds_toArray, List.set_cons_zero, List.set_cons_succ]
        refine reg_take (v := ?_) 4 (some 44) rfl rfl (by kernel_rfl) (fun _ _ _ h => h) (by kernel_rfl) ((Same.refl w).drew) ?_ ?_
        rotate_left
        · (intro w' hw'; obtain ⟨d0, d1⟩ := HC4.out w' hw'; go_simp; try with_reducible rfl)
        try simp only [Act.put, List.setIfInBounds_toArray, List.set_cons_zero, List.set_cons_succ]
        refine reg_take (v := ?_) 5 (some 45) rfl rfl (by kernel_rfl) (fun _ _ _ h => h) (by kernel_rfl) ((Same.refl w).drew) ?_ ?_
        rotate_left
        · (intro w' hw'; obtain ⟨d0, d1⟩ := HC4.out w' hw'; go_simp; try with_reducible rfl)
        try simp only [Act.put, List.setIfInBounds_toArray, List.set_cons_zero, List.set_cons_succ]
        refine reg_take (v := ?_) 6 (some 46) rfl rfl (by kernel_rfl) (fun _ _ _ h => h) (by kernel_rfl) ((Same.refl w).drew) ?_ ?_
        rotate_left
        · (intro w' hw'; obtain ⟨d0, d1⟩ := HC4.out w' hw'; go_simp; try with_reducible rfl)
        try simp only [Act.put, List.setIfInBounds_toArray, List.set_cons_zero, List.set_cons_succ]
        refine reg_take (v := ?_) 7 (some 47) rfl rfl (by kernel_rfl) (fun _ _ _ h => h) (by kernel_rfl) ((Same.refl w).drew) ?_ ?_
        rotate_left
        · (intro w' hw'; obtain ⟨d0, d1⟩ := HC4.out w' hw'; go_simp; try with_reducible rfl)
        try simp only [Act.put, List.setIfInBounds_toArray, List.set_cons_zero, List.set_cons_succ]
        refine reg_take (v := ?_) 8 (some 48) rfl rfl (by kernel_rfl) (fun _ _ _ h => h) (by kernel_rfl) ((Same.refl w).drew) ?_ ?_
        rotate_left
        · (intro w' hw'; obtain ⟨d0, d1⟩ := HC4.out w' hw'; go_simp; try with_reducible rfl)
        try simp only [Act.put, List.setIfInBounds_toArray, List.set_cons_zero, List.set_cons_succ]
        refine reg_take (v := ?_) 9 (some 49) rfl rfl (by kernel_rfl) (fun _ _ _ h => h) (by kernel_rfl) ((Same.refl w).drew) ?_ ?_
        rotate_left
        · (intro w' hw'; obtain ⟨d0, d1⟩ := HC4.out w' hw'; go_simp; try with_reducible rfl)
        try simp only [Act.put, List.setIfInBounds_toArray, List.set_cons_zero, List.set_cons_succ]
        refine reg_take (v := ?_) 10 (some 10) rfl rfl (by kernel_rfl) (fun _ _ _ h => h) (by kernel_rfl) ((Same.refl w).drew) ?_ ?_
        rotate_left
        · (intro w' hw'; obtain ⟨d0, d1⟩ := HC4.out w' hw'; go_simp; try with_reducible rfl)
        try simp only [Act.put, List.setIfInBounds_toArray, List.set_cons_zero, List.set_cons_succ]
        refine reg_done (by kernel_rfl) ?_
        go_wp2_with fail
        refine bodyPost_ret (v := .tuple #[.int .i64 0, .int .i64 0, .int .i64 0, .int .i64 4]) ?_ rfl ⟨rfl, (Same.refl w).drew⟩
        simp [results, Try.results8, go_sem]
      · have hB : (n : Int) < 256 * (x4 : Int) + x5 := by omega
        go_enter Try.func8, Try.ntmps8
        go_wp2_with fail
        refine reg_start (fun w' => Same w w') (by kernel_rfl) ?_
        refine reg_take (v := ?_) 0 (some 40) rfl rfl (by kernel_rfl) (fun _ _ _ h => h) (by kernel_rfl) ((Same.refl w).drew) ?_ ?_
        rotate_left
        · (intro w' hw'; obtain ⟨d0, d1⟩ := HC4.out w' hw'; go_simp; try with_reducible rfl)
        try simp only [Act.put, List.setIfInBounds_toArray, List.set_cons_zero, List.set_cons_succ]
        refine reg_take (v := ?_) 1 (some 41) rfl rfl (by kernel_rfl) (fun _ _ _ h => h) (by kernel_rfl) ((Same.refl w).drew) ?_ ?_
        rotate_left
        · (intro w' hw'; obtain ⟨d0, d1⟩ := HC4.out w' hw'; go_simp; try with_reducible rfl)
        try simp only [Act.put, List.setIfInBounds_toArray, List.set_cons_zero, List.set_cons_succ]
        refine reg_take (v := ?_) 2 (some 42) rfl rfl (by kernel_rfl) (fun _ _ _ h => h) (by kernel_rfl) ((Same.refl w).drew) ?_ ?_
        rotate_left
        · (intro w' hw'; obtain ⟨d0, d1⟩ := HC4.out w' hw'; go_simp; try with_reducible rfl)
        try simp only [Act.put, List.setIfInBounds_toArray, List.set_cons_zero, List.set_cons_succ]
        refine reg_take (v := ?_) 3 (some 43) rfl rfl (by kernel_rfl) (fun _ _ _ h => h) (by kernel_rfl) ((Same.refl w).drew) ?_ ?_
        rotate_left
        · (intro w' hw'; obtain ⟨d0, d1⟩ := HC4.out w' hw'; go_simp; try with_reducible rfl)
        try simp only [Act.put, List.setIfInBounds_toArray, List.set_cons_zero, List.set_cons_succ]
        refine reg_take (v := ?_) 4 (some 44) rfl rfl (by kernel_rfl) (fun _ _ _ h => h) (by kernel_rfl) ((Same.refl w).drew) ?_ ?_
        rotate_left
        · (intro w' hw'; obtain ⟨d0, d1⟩ := HC4.out w' hw'; go_simp; try with_reducible rfl)
        try simp only [Act.put, List.setIfInBounds_toArray, List.set_cons_zero, List.set_cons_succ]
        refine reg_take (v := ?_) 5 (some 45) rfl rfl (by kernel_rfl) (fun _ _ _ h => h) (by kernel_rfl) ((Same.refl w).drew) ?_ ?_
        rotate_left
        · (intro w' hw'; obtain ⟨d0, d1⟩ := HC4.out w' hw'; go_simp; try with_reducible rfl)
        try simp only [Act.put, List.setIfInBounds_toArray, List.set_cons_zero, List.set_cons_succ]
        refine reg_take (v := ?_) 6 (some 46) rfl rfl (by kernel_rfl) (fun _ _ _ h => h) (by kernel_rfl) ((Same.refl w).drew) ?_ ?_
        rotate_left
        · (intro w' hw'; obtain ⟨d0, d1⟩ := HC4.out w' hw'; go_simp; try with_reducible rfl)
        try simp only [Act.put, List.setIfInBounds_toArray, List.set_cons_zero, List.set_cons_succ]
        refine reg_take (v := ?_) 7 (some 47) rfl rfl (by kernel_rfl) (fun _ _ _ h => h) (by kernel_rfl) ((Same.refl w).drew) ?_ ?_
        rotate_left
        · (intro w' hw'; obtain ⟨d0, d1⟩ := HC4.out w' hw'; go_simp; try with_reducible rfl)
        try simp only [Act.put, List.setIfInBounds_toArray, List.set_cons_zero, List.set_cons_succ]
        refine reg_take (v := ?_) 8 (some 48) rfl rfl (by kernel_rfl) (fun _ _ _ h => h) (by kernel_rfl) ((Same.refl w).drew) ?_ ?_
        rotate_left
        · (intro w' hw'; obtain ⟨d0, d1⟩ := HC4.out w' hw'; go_simp; try with_reducible rfl)
        try simp only [Act.put, List.setIfInBounds_toArray, List.set_cons_zero, List.set_cons_succ]
        refine reg_take (v := ?_) 9 (some 49) rfl rfl (by kernel_rfl) (fun _ _ _ h => h) (by kernel_rfl) ((Same.refl w).drew) ?_ ?_
        rotate_left
        · (intro w' hw'; obtain ⟨d0, d1⟩ := HC4.out w' hw'; go_simp; try with_reducible rfl)
        try simp only [Act.put, List.setIfInBounds_toArray, List.set_cons_zero, List.set_cons_succ]
        refine reg_take (v := ?_) 10 (some 10) rfl rfl (by kernel_rfl) (fun _ _ _ h => h) (by kernel_rfl) ((Same.refl w).drew) ?_ ?_
        rotate_left
        · (intro w' hw'; obtain ⟨d0, d1⟩ := HC4.out w' hw'; go_simp; try with_reducible rfl)
        try simp only [Act.put, List.setIfInBounds_toArray, List.set_cons_zero, List.set_cons_succ]
        refine reg_done (by kernel_rfl) ?_
        go_wp2_with fail
        refine bodyPost_ret (v := .tuple #[.int .i64 0, .int .i64 0, .int .i64 0, .int .i64 4]) ?_ rfl ⟨rfl, (Same.refl w).drew⟩
        simp [results, Try.results8, go_sem]
    · rw [ptV_udp (by omega)]
      rw [e0, e2]
      clear h3 hcs C0 C2 C4 e0 e2 e4
      generalize l.length = n at *
      have hA : ¬ 256 * (x4 : Int) + x5 < 8 := by omega
      have hB : ¬ (n : Int) < 256 * (x4 : Int) + x5 := by omega
      rw [show ((256 * x0 + x1 : Nat) : Int) = 256 * (x0 : Int) + x1 by omega, show ((256 * x2 + x3 : Nat) : Int) = 256 * (x2 : Int) + x3 by omega]
      clear hbad h8 r0 r1 r2 r3 r4 r5
      go_enter Try.func8, Try.ntmps8
      go_wp2_with fail
      refine reg_start (fun w' => Same w w') (by kernel_rfl) ?_
      refine reg_take (v := ?_) 0 (some 40) rfl rfl (by kernel_rfl) (fun _ _ _ h => h) (by kernel_rfl) ((Same.refl w).drew) ?_ ?_
      rotate_left
      · (intro w' hw'; obtain ⟨d0, d1⟩ := HC4.out w' hw'; go_simp; try with_reducible rfl)
      try simp only [Act.put, List.setIfInBounds_toArray, List.set_cons_zero, List.set_cons_succ]
      refine reg_take (v := ?_) 1 (some 41) rfl rfl (by kernel_rfl) (fun _ _ _ h => h) (by kernel_rfl) ((Same.refl w).drew) ?_ ?_
      rotate_left
      · (intro w' hw'; obtain ⟨d0, d1⟩ := HC4.out w' hw'; go_simp; try with_reducible rfl)
      try simp only [Act.put, List.setIfInBounds_toArray, List.set_cons_zero, List.set_cons_succ]
      refine reg_take (v := ?_) 2 (some 42) rfl rfl (by kernel_rfl) (fun _ _ _ h => h) (by kernel_rfl) ((Same.refl w).drew) ?_ ?_
      rotate_left
      · (intro w' hw'; obtain ⟨d0, d1⟩ := HC4.out w' hw'; go_simp; try with_reducible rfl)
      try simp only [Act.put, List.setIfInBounds_toArray, List.set_cons_zero, List.set_cons_succ]
      refine reg_take (v := ?_) 3 (some 43) rfl rfl (by kernel_rfl) (fun _ _ _ h => h) (by kernel_rfl) ((Same.refl w).drew) ?_ ?_
      rotate_left
      · (intro w' hw'; obtain ⟨d0, d1⟩ := HC4.out w' hw'; go_simp; try with_reducible rfl)
      try simp only [Act.put, List.setIfInBounds_toArray, List.set_cons_zero, List.set_cons_succ]
      refine reg_take (v := ?_) 4 (some 44) rfl rfl (by kernel_rfl) (fun _ _ _ h => h) (by kernel_rfl) ((Same.refl w).drew) ?_ ?_
      rotate_left
      · (intro w' hw'; obtain ⟨d0, d1⟩ := HC4.out w' hw'; go_simp; try with_reducible rfl)
      try simp only [Act.put, List.setIfInBounds_toArray, List.set_cons_zero, List.set_cons_succ]
      refine reg_take (v := ?_) 5 (some 45) rfl rfl (by kernel_rfl) (fun _ _ _ h => h) (by kernel_rfl) ((Same.refl w).drew) ?_ ?_
      rotate_left
      · (intro w' hw'; obtain ⟨d0, d1⟩ := HC4.out w' hw'; go_simp; try with_reducible rfl)
      try simp only [Act.put, List.setIfInBounds_toArray, List.set_cons_zero, List.set_cons_succ]
      refine reg_take (v := ?_) 6 (some 46) rfl rfl (by kernel_rfl) (fun _ _ _ h => h) (by kernel_rfl) ((Same.refl w).drew) ?_ ?_
      rotate_left
      · (intro w' hw'; obtain ⟨d0, d1⟩ := HC4.out w' hw'; go_simp; try with_reducible rfl)
      try simp only [Act.put, List.setIfInBounds_toArray, List.set_cons_zero, List.set_cons_succ]
      refine reg_take (v := ?_) 7 (some 47) rfl rfl (by kernel_rfl) (fun _ _ _ h => h) (by kernel_rfl) ((Same.refl w).drew) ?_ ?_
      rotate_left
      · (intro w' hw'; obtain ⟨d0, d1⟩ := HC4.out w' hw'; go_simp; try with_reducible rfl)
      try simp only [Act.put, List.setIfInBounds_toArray, List.set_cons_zero, List.set_cons_succ]
      refine reg_take (v := ?_) 8 (some 48) rfl rfl (by kernel_rfl) (fun _ _ _ h => h) (by kernel_rfl) ((Same.refl w).drew) ?_ ?_
      rotate_left
      · (intro w' hw'; obtain ⟨d0, d1⟩ := HC4.out w' hw'; go_simp; try with_reducible rfl)
      try simp only [Act.put, List.setIfInBounds_toArray, List.set_cons_zero, List.set_cons_succ]
      refine reg_take (v := ?_) 9 (some 49) rfl rfl (by kernel_rfl) (fun _ _ _ h => h) (by kernel_rfl) ((Same.refl w).drew) ?_ ?_
      rotate_left
      · (intro w' hw'; obtain ⟨d0, d1⟩ := HC4.out w' hw'; go_simp; try with_reducible rfl)
      try simp only [Act.put, List.setIfInBounds_toArray, List.set_cons_zero, List.set_cons_succ]
      refine reg_take (v := ?_) 10 (some 10) rfl rfl (by kernel_rfl) (fun _ _ _ h => h) (by kernel_rfl) ((Same.refl w).drew) ?_ ?_
      rotate_left
      · (intro w' hw'; obtain ⟨d0, d1⟩ := HC4.out w' hw'; go_simp; try with_reducible rfl)
      try simp only [Act.put, List.setIfInBounds_toArray, List.set_cons_zero, List.set_cons_succ]
      refine reg_done (by kernel_rfl) ?_
      go_wp2_with fail
      refine reg_start (fun w' => Same w.drew w') (by kernel_rfl) ?_
      refine reg_take (v := ?_) 0 (some 58) rfl rfl (by kernel_rfl) (fun _ _ _ h => h) (by kernel_rfl) ((Same.refl w.drew).drew) ?_ ?_
      rotate_left
      · (intro w' hw'; obtain ⟨d0, d1⟩ := HC0.out w' ((Same.refl w).drew.trans hw'); rw [Nat.add_zero] at d0; obtain ⟨d2, d3⟩ := HC2.out w' ((Same.refl w).drew.trans hw'); go_simp; try with_reducible rfl)
      try simp only [Act.put, List.setIfInBounds_toArray, List.set_cons_zero, List.set_cons_succ]
      refine reg_take (v := ?_) 1 (some 59) rfl rfl (by kernel_rfl) (fun _ _ _ h => h) (by kernel_rfl) ((Same.refl w.drew).drew) ?_ ?_
      rotate_left
      · (intro w' hw'; obtain ⟨d0, d1⟩ := HC0.out w' ((Same.refl w).drew.trans hw'); rw [Nat.add_zero] at d0; obtain ⟨d2, d3⟩ := HC2.out w' ((Same.refl w).drew.trans hw'); go_simp; try with_reducible rfl)
      try simp only [Act.put, List.setIfInBounds_toArray, List.set_cons_zero, List.set_cons_succ]
      refine reg_take (v := ?_) 2 (some 60) rfl rfl (by kernel_rfl) (fun _ _ _ h => h) (by kernel_rfl) ((Same.refl w.drew).drew) ?_ ?_
      rotate_left
      · (intro w' hw'; obtain ⟨d0, d1⟩ := HC0.out w' ((Same.refl w).drew.trans hw'); rw [Nat.add_zero] at d0; obtain ⟨d2, d3⟩ := HC2.out w' ((Same.refl w).drew.trans hw'); go_simp; try with_reducible rfl)
      try simp only [Act.put, List.setIfInBounds_toArray, List.set_cons_zero, List.set_cons_succ]
      refine reg_take (v := ?_) 3 (some 61) rfl rfl (by kernel_rfl) (fun _ _ _ h => h) (by kernel_rfl) ((Same.refl w.drew).drew) ?_ ?_
      rotate_left
      · (intro w' hw'; obtain ⟨d0, d1⟩ := HC0.out w' ((Same.refl w).drew.trans hw'); rw [Nat.add_zero] at d0; obtain ⟨d2, d3⟩ := HC2.out w' ((Same.refl w).drew.trans hw'); go_simp; try with_reducible rfl)
      try simp only [Act.put, List.setIfInBounds_toArray, List.set_cons_zero, List.set_cons_succ]
      refine reg_take (v := ?_) 4 (some 62) rfl rfl (by kernel_rfl) (fun _ _ _ h => h) (by kernel_rfl) ((Same.refl w.drew).drew) ?_ ?_
      rotate_left
      · (intro w' hw'; obtain ⟨d0, d1⟩ := HC0.out w' ((Same.refl w).drew.trans hw'); rw [Nat.add_zero] at d0; obtain ⟨d2, d3⟩ := HC2.out w' ((Same.refl w).drew.trans hw'); go_simp; try with_reducible rfl)
      try simp only [Act.put, List.setIfInBounds_toArray, List.set_cons_zero, List.set_cons_succ]
      refine reg_take (v := ?_) 5 (some 63) rfl rfl (by kernel_rfl) (fun _ _ _ h => h) (by kernel_rfl) ((Same.refl w.drew).drew) ?_ ?_
      rotate_left
      · (intro w' hw'; obtain ⟨d0, d1⟩ := HC0.out w' ((Same.refl w).drew.trans hw'); rw [Nat.add_zero] at d0; obtain ⟨d2, d3⟩ := HC2.out w' ((Same.refl w).drew.trans hw'); go_simp; try with_reducible rfl)
      try simp only [Act.put, List.setIfInBounds_toArray, List.set_cons_zero, List.set_cons_succ]
      refine reg_take (v := ?_) 6 (some 64) rfl rfl (by kernel_rfl) (fun _ _ _ h => h) (by kernel_rfl) ((Same.refl w.drew).drew) ?_ ?_
      rotate_left
      · (intro w' hw'; obtain ⟨d0, d1⟩ := HC0.out w' ((Same.refl w).drew.trans hw'); rw [Nat.add_zero] at d0; obtain ⟨d2, d3⟩ := HC2.out w' ((Same.refl w).drew.trans hw'); go_simp; try with_reducible rfl)
      try simp only [Act.put, List.setIfInBounds_toArray, List.set_cons_zero, List.set_cons_succ]
      refine reg_take (v := ?_) 7 (some 65) rfl rfl (by kernel_rfl) (fun _ _ _ h => h) (by kernel_rfl) ((Same.refl w.drew).drew) ?_ ?_
      rotate_left
      · (intro w' hw'; obtain ⟨d0, d1⟩ := HC0.out w' ((Same.refl w).drew.trans hw'); rw [Nat.add_zero] at d0; obtain ⟨d2, d3⟩ := HC2.out w' ((Same.refl w).drew.trans hw'); go_simp; try with_reducible rfl)
      try simp only [Act.put, List.setIfInBounds_toArray, List.set_cons_zero, List.set_cons_succ]
      refine reg_take (v := ?_) 8 (some 66) rfl rfl (by kernel_rfl) (fun _ _ _ h => h) (by kernel_rfl) ((Same.refl w.drew).drew) ?_ ?_
      rotate_left
      · (intro w' hw'; obtain ⟨d0, d1⟩ := HC0.out w' ((Same.refl w).drew.trans hw'); rw [Nat.add_zero] at d0; obtain ⟨d2, d3⟩ := HC2.out w' ((Same.refl w).drew.trans hw'); go_simp; try with_reducible rfl)
      try simp only [Act.put, List.setIfInBounds_toArray, List.set_cons_zero, List.set_cons_succ]
      refine reg_take (v := ?_) 9 (some 67) rfl rfl (by kernel_rfl) (fun _ _ _ h => h) (by kernel_rfl) ((Same.refl w.drew).drew) ?_ ?_
      rotate_left
      · (intro w' hw'; obtain ⟨d0, d1⟩ := HC0.out w' ((Same.refl w).drew.trans hw'); rw [Nat.add_zero] at d0; obtain ⟨d2, d3⟩ := HC2.out w' ((Same.refl w).drew.trans hw'); go_simp; try with_reducible rfl)
      try simp only [Act.put, List.setIfInBounds_toArray, List.set_cons_zero, List.set_cons_succ]
      refine reg_take (v := ?_) 10 (some 68) rfl rfl (by kernel_rfl) (fun _ _ _ h => h) (by kernel_rfl) ((Same.refl w.drew).drew) ?_ ?_
      rotate_left
      · (intro w' hw'; obtain ⟨d0, d1⟩ := HC0.out w' ((Same.refl w).drew.trans hw'); rw [Nat.add_zero] at d0; obtain ⟨d2, d3⟩ := HC2.out w' ((Same.refl w).drew.trans hw'); go_simp; try with_reducible rfl)
      try simp only [Act.put, List.setIfInBounds_toArray, List.set_cons_zero, List.set_cons_succ]
      refine reg_take (v := ?_) 11 (some 69) rfl rfl (by kernel_rfl) (fun _ _ _ h => h) (by kernel_rfl) ((Same.refl w.drew).drew) ?_ ?_
      rotate_left
      · (intro w' hw'; obtain ⟨d0, d1⟩ := HC0.out w' ((Same.refl w).drew.trans hw'); rw [Nat.add_zero] at d0; obtain ⟨d2, d3⟩ := HC2.out w' ((Same.refl w).drew.trans hw'); go_simp; try with_reducible rfl)
      try simp only [Act.put, List.setIfInBounds_toArray, List.set_cons_zero, List.set_cons_succ]
      refine reg_take (v := ?_) 12 (some 70) rfl rfl (by kernel_rfl) (fun _ _ _ h => h) (by kernel_rfl) ((Same.refl w.drew).drew) ?_ ?_
      rotate_left
      · (intro w' hw'; obtain ⟨d0, d1⟩ := HC0.out w' ((Same.refl w).drew.trans hw'); rw [Nat.add_zero] at d0; obtain ⟨d2, d3⟩ := HC2.out w' ((Same.refl w).drew.trans hw'); go_simp; try with_reducible rfl)
      try simp only [Act.put, List.setIfInBounds_toArray, List.set_cons_zero, List.set_cons_succ]
      refine reg_take (v := ?_) 13 (some 71) rfl rfl (by kernel_rfl) (fun _ _ _ h => h) (by kernel_rfl) ((Same.refl w.drew).drew) ?_ ?_
      rotate_left
      · (intro w' hw'; obtain ⟨d0, d1⟩ := HC0.out w' ((Same.refl w).drew.trans hw'); rw [Nat.add_zero] at d0; obtain ⟨d2, d3⟩ := HC2.out w' ((Same.refl w).drew.trans hw'); go_simp; try with_reducible rfl)
      try simp only [Act.put, List.setIfInBounds_toArray, List.set_cons_zero, List.set_cons_succ]
      refine reg_take (v := ?_) 14 (some 72) rfl rfl (by kernel_rfl) (fun _ _ _ h => h) (by kernel_rfl) ((Same.refl w.drew).drew) ?_ ?_
      rotate_left
      · (intro w' hw'; obtain ⟨d0, d1⟩ := HC0.out w' ((Same.refl w).drew.trans hw'); rw [Nat.add_zero] at d0; obtain ⟨d2, d3⟩ := HC2.out w' ((Same.refl w).drew.trans hw'); go_simp; try with_reducible rfl)
      try simp only [Act.put, List.setIfInBounds_toArray, List.set_cons_zero, List.set_cons_succ]
      refine reg_take (v := ?_) 15 (some 73) rfl rfl (by kernel_rfl) (fun _ _ _ h => h) (by kernel_rfl) ((Same.refl w.drew).drew) ?_ ?_
      rotate_left
      · (intro w' hw'; obtain ⟨d0, d1⟩ := HC0.out w' ((Same.refl w).drew.trans hw'); rw [Nat.add_zero] at d0; obtain ⟨d2, d3⟩ := HC2.out w' ((Same.refl w).drew.trans hw'); go_simp; try with_reducible rfl)
      try simp only [Act.put, List.setIfInBounds_toArray, List.set_cons_zero, List.set_cons_succ]
      refine reg_take (v := ?_) 16 (some 74) rfl rfl (by kernel_rfl) (fun _ _ _ h => h) (by kernel_rfl) ((Same.refl w.drew).drew) ?_ ?_
      rotate_left
      · (intro w' hw'; obtain ⟨d0, d1⟩ := HC0.out w' ((Same.refl w).drew.trans hw'); rw [Nat.add_zero] at d0; obtain ⟨d2, d3⟩ := HC2.out w' ((Same.refl w).drew.trans hw'); go_simp; try with_reducible rfl)
      try simp only [Act.put, List.setIfInBounds_toArray, List.set_cons_zero, List.set_cons_succ]
      refine reg_take (v := ?_) 17 (some 75) rfl rfl (by kernel_rfl) (fun _ _ _ h => h) (by kernel_rfl) ((Same.refl w.drew).drew) ?_ ?_
      rotate_left
      · (intro w' hw'; obtain ⟨d0, d1⟩ := HC0.out w' ((Same.refl w).drew.trans hw'); rw [Nat.add_zero] at d0; obtain ⟨d2, d3⟩ := HC2.out w' ((Same.refl w).drew.trans hw'); go_simp; try with_reducible rfl)
      try simp only [Act.put, List.setIfInBounds_toArray, List.set_cons_zero, List.set_cons_succ]
      refine reg_take (v := ?_) 18 (some 76) rfl rfl (by kernel_rfl) (fun _ _ _ h => h) (by kernel_rfl) ((Same.refl w.drew).drew) ?_ ?_
      rotate_left
      · (intro w' hw'; obtain ⟨d0, d1⟩ := HC0.out w' ((Same.refl w).drew.trans hw'); rw [Nat.add_zero] at d0; obtain ⟨d2, d3⟩ := HC2.out w' ((Same.refl w).drew.trans hw'); go_simp; try with_reducible rfl)
      try simp only [Act.put, List.setIfInBounds_toArray, List.set_cons_zero, List.set_cons_succ]
      refine reg_take (v := ?_) 19 (some 77) rfl rfl (by kernel_rfl) (fun _ _ _ h => h) (by kernel_rfl) ((Same.refl w.drew).drew) ?_ ?_
      rotate_left
      · (intro w' hw'; obtain ⟨d0, d1⟩ := HC0.out w' ((Same.refl w).drew.trans hw'); rw [Nat.add_zero] at d0; obtain ⟨d2, d3⟩ := HC2.out w' ((Same.refl w).drew.trans hw'); go_simp; try with_reducible rfl)
      try simp only [Act.put, List.setIfInBounds_toArray, List.set_cons_zero, List.set_cons_succ]
      refine reg_take (v := ?_) 20 (some 78) rfl rfl (by kernel_rfl) (fun _ _ _ h => h) (by kernel_rfl) ((Same.refl w.drew).drew) ?_ ?_
      rotate_left
      · (intro w' hw'; obtain ⟨d0, d1⟩ := HC0.out w' ((Same.refl w).drew.trans hw'); rw [Nat.add_zero] at d0; obtain ⟨d2, d3⟩ := HC2.out w' ((Same.refl w).drew.trans hw'); go_simp; try with_reducible rfl)
      try simp only [Act.put, List.setIfInBounds_toArray, List.set_cons_zero, List.set_cons_succ]
      refine reg_take (v := ?_) 21 (some 4) rfl rfl (by kernel_rfl) (fun _ _ _ h => h) (by kernel_rfl) ((Same.refl w.drew).drew) ?_ ?_
      rotate_left
      · (intro w' hw'; obtain ⟨d0, d1⟩ := HC0.out w' ((Same.refl w).drew.trans hw'); rw [Nat.add_zero] at d0; obtain ⟨d2, d3⟩ := HC2.out w' ((Same.refl w).drew.trans hw'); go_simp; try with_reducible rfl)
      try simp only [Act.put, List.setIfInBounds_toArray, List.set_cons_zero, List.set_cons_succ]
      refine reg_take (v := ?_) 22 (some 5) rfl rfl (by kernel_rfl) (fun _ _ _ h => h) (by kernel_rfl) ((Same.refl w.drew).drew) ?_ ?_
      rotate_left
      · (intro w' hw'; obtain ⟨d0, d1⟩ := HC0.out w' ((Same.refl w).drew.trans hw'); rw [Nat.add_zero] at d0; obtain ⟨d2, d3⟩ := HC2.out w' ((Same.refl w).drew.trans hw'); go_simp; try with_reducible rfl)
      try simp only [Act.put, List.setIfInBounds_toArray, List.set_cons_zero, List.set_cons_succ]
      refine reg_take (v := ?_) 23 (some 6) rfl rfl (by kernel_rfl) (fun _ _ _ h => h) (by kernel_rfl) ((Same.refl w.drew).drew) ?_ ?_
      rotate_left
      · (intro w' hw'; obtain ⟨d0, d1⟩ := HC0.out w' ((Same.refl w).drew.trans hw'); rw [Nat.add_zero] at d0; obtain ⟨d2, d3⟩ := HC2.out w' ((Same.refl w).drew.trans hw'); go_simp; try with_reducible rfl)
      try simp only [Act.put, List.setIfInBounds_toArray, List.set_cons_zero, List.set_cons_succ]
      refine reg_take (v := ?_) 24 (some 7) rfl rfl (by kernel_rfl) (fun _ _ _ h => h) (by kernel_rfl) ((Same.refl w.drew).drew) ?_ ?_
      rotate_left
      · (intro w' hw'; obtain ⟨d0, d1⟩ := HC0.out w' ((Same.refl w).drew.trans hw'); rw [Nat.add_zero] at d0; obtain ⟨d2, d3⟩ := HC2.out w' ((Same.refl w).drew.trans hw'); go_simp; try with_reducible rfl)
      try simp only [Act.put, List.setIfInBounds_toArray, List.set_cons_zero, List.set_cons_succ]
      refine reg_done (by kernel_rfl) ?_
      go_wp2_with fail
      refine bodyPost_ret (v := .tuple #[.int .i64 (256 * (x0 : Int) + x1), .int .i64 (256 * (x2 : Int) + x3), .int .i64 0, .int .i64 0]) ?_ rfl ⟨rfl, (Same.refl w).drew.drew⟩
      simp [results, Try.results8, go_sem]

theorem roParse_any (p : Int) (v : Value) (l : List UInt8) (w : World) (hb : Bs w v l) :
    Calls Try.prog 8 #[.int .i64 p, v] w fun e w' => e = .returned (ptV p l) ∧ Same w w' := by
  by_cases h6 : p = 6
  · subst h6; exact roParse_tcp v l w hb
  by_cases h7 : p = 17
  · subst h7; exact roParse_udp v l w hb
  have hcs := pE_cases p l
  rw [ptV_bad (e := 2) (by omega) (by decide)]
  obtain ⟨ao, cap, rfl, -, -, -, -⟩ := hb
  have k6 : (p == 6) = false := by simpa using h6
  have k7 : (p == 17) = false := by simpa using h7
  clear hcs
  go_enter Try.func8, Try.ntmps8
  go_wp2_with fail
  refine bodyPost_ret (v := .tuple #[.int .i64 0, .int .i64 0, .int .i64 0, .int .i64 2]) ?_ rfl ⟨rfl, Same.refl _⟩
  simp [results, Try.results8, go_sem]
end Go.Proofs.Ytcemdajkddidnaa
