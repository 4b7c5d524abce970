/- Contracts of layer 5: the ports of bytes, the developers' and the document's. No condition beyond what each names. -/
import Derived.Test.YtcemdajkddidnaaGreatDoorQPoF
namespace Go.Proofs.YtcemdajkddidnaaGreatDoor
open Go.RowKit
set_option linter.unusedVariables false

theorem poLeast_any (p : Int) (w : World) : Calls Tryz.prog 27 #[.int .i64 p] w fun e w' => e = .returned (.int .i64 (leastP p)) ∧ w = w' := by
  unfold leastP
  by_cases h6 : p = 6
  · subst h6
    go_enter Tryz.func27, Tryz.ntmps27
    go_wp2
    go_ret
    exact ⟨rfl, rfl⟩
  · by_cases h7 : p = 17
    · subst h7
      go_enter Tryz.func27, Tryz.ntmps27
      go_wp2
      go_ret
      exact ⟨rfl, rfl⟩
    · rw [if_neg h6, if_neg h7]
      have k6 : (p == 6) = false := by simpa using h6
      have k7 : (p == 17) = false := by simpa using h7
      go_enter Tryz.func27, Tryz.ntmps27
      go_wp2
      go_ret
      exact ⟨rfl, rfl⟩

theorem get_at (l : List UInt8) (a : Nat) (k : Nat) (h : a + k ≤ l.length) : numOut (getOut l a k) = fld l a k := by
  unfold getOut
  rw [if_pos (by omega)]
  rfl

theorem poTold_any (p : Int) (v : Value) (l : List UInt8) (w : World) (hb : Bs w v l) (hl : leastP p ≤ l.length) (hp : p = 6 ∨ p = 17) :
    Calls Tryz.prog 77 #[.int .i64 p, v] w fun e w' => e = .returned (.int .i64 (toldP p l : Nat)) ∧ w = w' := by
  unfold leastP at hl
  rcases hp with rfl | rfl
  · rw [if_pos rfl] at hl
    obtain ⟨b, o, cap, rfl, h1, h2, h3⟩ := hb.form (by omega)
    have g : l[12]? = some l[12] := List.getElem?_eq_getElem (by omega)
    have c := h3 w (Same.refl w) 12 _ g
    have hq := fld_one l 12 _ g
    have hlt := l[12].toNat_lt
    have e : toldP 6 l = l[12].toNat / 16 * 4 := by rw [toldP, if_pos rfl, hq]
    rw [e]
    have n12 : (12 : Int) < l.length := by omega
    clear h3 g hq e
    generalize l[12].toNat = x at *
    generalize l.length = n at *
    have hx : (x : Int) / 16 < 16 := by omega
    have hx0 : 0 ≤ (x : Int) / 16 := by omega
    have z : IntKind.i64.wrap ((x : Int) / 16 * 4) = (x : Int) / 16 * 4 := IntWalk.i64_in _ (by omega)
    go_enter Tryz.func77, Tryz.ntmps77
    go_wp2_with fail
    go_ret
    exact ⟨by congr 2, rfl⟩
  · have hG := Lib.hid (Get16_any v l 4 w hb)
    have e : toldP 17 l = numOut (getOut l 4 2) := by
      rw [toldP, if_neg (by decide)]
      exact (get_at l 4 2 (by rw [if_neg (by decide), if_pos rfl] at hl; omega)).symm
    rw [e]
    obtain ⟨ao, cap, rfl, -, -, -, -⟩ := hb
    clear e hl
    generalize numOut (getOut l 4 2) = q at *
    generalize (getOut l 4 2).isSome = b at *
    go_enter Tryz.func77, Tryz.ntmps77
    go_wp2_with fail
    refine hG.out.mono ?_
    rintro e w1 ⟨rfl, rfl⟩
    go_wp2_with fail
    go_ret
    exact ⟨rfl, rfl⟩

theorem poFlags_any (p : Int) (v : Value) (l : List UInt8) (w : World) (hb : Bs w v l) (hl : p = 6 → 14 ≤ l.length) :
    Calls Tryz.prog 58 #[.int .i64 p, v] w fun e w' => e = .returned (.int .i64 (if p = 6 then (fld l 13 1 : Nat) else 0)) ∧ w = w' := by
  by_cases h6 : p = 6
  · subst h6
    have hl := hl rfl
    obtain ⟨b, o, cap, rfl, h1, h2, h3⟩ := hb.form (by omega)
    have g : l[13]? = some l[13] := List.getElem?_eq_getElem (by omega)
    have c := h3 w (Same.refl w) 13 _ g
    have hq := fld_one l 13 _ g
    have n12 : (13 : Int) < l.length := by omega
    have hlt := l[13].toNat_lt
    rw [if_pos rfl, hq]
    clear h3 g hq
    generalize l[13].toNat = x at *
    generalize l.length = n at *
    have hx : (x : Int) < 256 := by omega
    go_enter Tryz.func58, Tryz.ntmps58
    go_wp2_with fail
    go_ret
    exact ⟨rfl, rfl⟩
  · have k6 : (p == 6) = false := by simpa using h6
    obtain ⟨ao, cap, rfl, -, -, -, -⟩ := hb
    rw [if_neg h6]
    go_enter Tryz.func58, Tryz.ntmps58
    go_wp2_with fail
    go_ret
    exact ⟨rfl, rfl⟩

theorem poCheck_any (p : Int) (v : Value) (l : List UInt8) (w : World) (hb : Bs w v l) :
    Calls Tryz.prog 55 #[.int .i64 p, v] w fun e w' => e = .returned (.int .i64 (pE p l)) ∧ w = w' := by
  have HL := Lib.hid (poLeast_any p w)
  have HT := fun h1 h2 => Lib.hid (poTold_any p v l w hb h1 h2)
  have HT := Lib.hid HT
  obtain ⟨ao, cap, rfl, -, -, -, -⟩ := hb
  unfold pE
  by_cases h0 : leastP p = 0
  · rw [if_pos h0]
    rw [h0] at HL
    go_enter Tryz.func55, Tryz.ntmps55
    go_wp2_with fail
    refine HL.out.mono ?_
    rintro e w1 ⟨rfl, rfl⟩
    go_wp2_with fail
    go_ret
    exact ⟨rfl, rfl⟩
  · have hp : p = 6 ∨ p = 17 := by
      unfold leastP at h0
      by_cases h6 : p = 6
      · exact .inl h6
      · by_cases h7 : p = 17
        · exact .inr h7
        · rw [if_neg h6, if_neg h7] at h0; exact absurd rfl h0
    have HP := Lib.hid hp
    have hk : (leastP p == 0) = false := by simpa using h0
    have hs : leastP p ≤ 20 := by
      unfold leastP
      split
      · omega
      · split <;> omega
    rw [if_neg h0]
    clear hp h0
    by_cases h1 : (l.length : Int) < leastP p
    · rw [if_pos h1]
      clear HT
      generalize leastP p = q at *
      go_enter Tryz.func55, Tryz.ntmps55
      go_wp2_with fail
      refine HL.out.mono ?_
      rintro e w1 ⟨rfl, rfl⟩
      go_wp2_with fail
      go_ret
      exact ⟨rfl, rfl⟩
    · rw [if_neg h1]
      have HT1 := HT.out (by omega) HP.out
      clear HT
      generalize toldP p l = t at *
      generalize leastP p = q at *
      generalize l.length = n at *
      by_cases h2 : (t : Int) < q
      · rw [if_pos (.inl h2)]
        go_enter Tryz.func55, Tryz.ntmps55
        go_wp2_with fail
        refine HL.out.mono ?_
        rintro e w1 ⟨rfl, rfl⟩
        go_wp2_with fail
        refine HT1.out.mono ?_
        rintro e w1 ⟨rfl, rfl⟩
        go_wp2_with fail
        go_ret
        exact ⟨rfl, rfl⟩
      · by_cases h3 : (n : Int) < t
        · rw [if_pos (.inr h3)]
          go_enter Tryz.func55, Tryz.ntmps55
          go_wp2_with fail
          refine HL.out.mono ?_
          rintro e w1 ⟨rfl, rfl⟩
          go_wp2_with fail
          refine HT1.out.mono ?_
          rintro e w1 ⟨rfl, rfl⟩
          go_wp2_with fail
          go_ret
          exact ⟨rfl, rfl⟩
        · rw [if_neg (by omega)]
          go_enter Tryz.func55, Tryz.ntmps55
          go_wp2_with fail
          refine HL.out.mono ?_
          rintro e w1 ⟨rfl, rfl⟩
          go_wp2_with fail
          refine HT1.out.mono ?_
          rintro e w1 ⟨rfl, rfl⟩
          go_wp2_with fail
          go_ret
          exact ⟨rfl, rfl⟩

theorem poParse_any (p : Int) (v : Value) (l : List UInt8) (w : World) (hb : Bs w v l) (hl : l.length ≤ 140737488355328) :
    Calls Tryz.prog 36 #[.int .i64 p, v] w fun e w' => e = .returned (ptV p l) ∧ Same w w' := by
  have HC := Lib.hid (poCheck_any p v l w hb)
  have HB := Lib.hid hb
  have hcs := pE_cases p l
  by_cases h0 : pE p l = 0
  · have h4 : 4 ≤ l.length := by omega
    have h14 : p = 6 → 14 ≤ l.length := by omega
    have HR := Lib.hid (Read_any v l w hb hl)
    have HG := fun w hb => Lib.hid (poFlags_any p v l w hb h14)
    have e : ptV p l = .tuple #[.int .i64 (fld l 0 2), .int .i64 (fld l 2 2), .int .i64 (if p = 6 then (fld l 13 1 : Nat) else 0), .int .i64 0] := by
      unfold ptV pS pD pG
      rw [h0]
      by_cases h6 : p = 6 <;> simp [h6]
    rw [e]
    rw [h0] at HC
    clear hcs e h0
    generalize (if p = 6 then ((fld l 13 1 : Nat) : Int) else 0) = fg at *
    have HU := fun s all a w h hk => Lib.hid (U16_at s all l a w h hk)
    obtain ⟨ao, cap, rfl, -, -, -, -⟩ := hb
    go_enter Tryz.func36, Tryz.ntmps36
    go_wp2_with fail
    refine HC.out.mono ?_
    rintro e w1 ⟨rfl, rfl⟩
    go_wp2_with fail
    refine HR.out.mono ?_
    rintro e w1 ⟨s, v', rfl, hs, hsrc, hsm, hown⟩
    have HSr := Lib.hid hsrc
    have HSm := Lib.hid hsm
    have HSs := Lib.hid hs
    clear hsrc hsm hown hs
    go_wp2_with fail
    refine (HU s v' 0 _ HSr.out (by omega)).out.mono ?_
    rintro e w2 ⟨rfl, hm2, hs2⟩
    have HS2 := Lib.hid hs2
    have HM2 := Lib.hid hm2
    clear hs2 hm2
    go_wp2_with fail
    refine (HU s v' 2 _ HS2.out (by omega)).out.mono ?_
    rintro e w3 ⟨rfl, hm3, hs3⟩
    have HM3 : Hid (Same w w3) := Below.trans HSm.out (((HM2.out.trans hm3).below HSs.out HSm.out.size))
    clear hs3 hm3
    go_wp2_with fail
    refine (HG _ (HB.out.same HM3.out)).out.mono ?_
    rintro e w4 ⟨rfl, rfl⟩
    go_wp2_with fail
    refine bodyPost_ret (v := .tuple #[.int .i64 (fld l 0 2), .int .i64 (fld l 2 2), .int .i64 fg, .int .i64 0]) ?_ rfl ⟨rfl, HM3.out⟩
    simp [results, Tryz.results36, go_sem]
  · rw [ptV_bad rfl h0]
    have hk : (pE p l != 0) = true := by simpa using h0
    obtain ⟨ao, cap, rfl, -, -, -, -⟩ := hb
    clear hcs h0
    generalize pE p l = E at *
    go_enter Tryz.func36, Tryz.ntmps36
    go_wp2_with fail
    refine HC.out.mono ?_
    rintro e w1 ⟨rfl, rfl⟩
    go_wp2_with fail
    refine bodyPost_ret (v := .tuple #[.int .i64 0, .int .i64 0, .int .i64 0, .int .i64 E]) ?_ rfl ⟨rfl, Same.refl _⟩
    simp [results, Tryz.results36, go_sem]

/-- the cells of the bytes at a place -/
theorem two_at {w : World} {l : List UInt8} {b o : Nat} (H : ∀ w', Same w w' → ∀ j u, l[j]? = some u → w'.cell? ⟨b, o + j, none⟩ = some (.int .u8 (u.toNat : Int))) (a : Nat) (ha : a + 1 < l.length) :
    ∃ x y : Nat, x < 256 ∧ y < 256 ∧ fld l a 2 = 256 * x + y ∧ ∀ w', Same w w' → w'.cell? ⟨b, o + a, none⟩ = some (.int .u8 (x : Int)) ∧ w'.cell? ⟨b, o + (a + 1), none⟩ = some (.int .u8 (y : Int)) := by
  have g0 : l[a]? = some l[a] := List.getElem?_eq_getElem (by omega)
  have g1 : l[a + 1]? = some l[a + 1] := List.getElem?_eq_getElem (by omega)
  exact ⟨l[a].toNat, l[a + 1].toNat, l[a].toNat_lt, l[a + 1].toNat_lt, fld_two l a _ _ g0 g1, fun w' hs => ⟨H w' hs a _ g0, H w' hs (a + 1) _ g1⟩⟩

end Go.Proofs.YtcemdajkddidnaaGreatDoor
