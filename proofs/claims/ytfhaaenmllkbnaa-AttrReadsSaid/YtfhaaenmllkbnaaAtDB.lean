/- The developers' layer 7: the bytes of what is said. No condition beyond what each names. -/
import Derived.Test.YtfhaaenmllkbnaaAtDS
import Derived.Test.YtfhaaenmllkbnaaAtDG
namespace Go.Proofs.Ytfhaaenmllkbnaa
open Go.RowKit
set_option linter.unusedVariables false
set_option maxRecDepth 100000

/-- a row just made, element by element -/
theorem OwnR.lit {α : Type} (L : Lay α) (w : World) (xs : List α) (cs : Array Value) (n : Nat) (hx : xs.length = n) (hc : cs.toList = L.row xs) (hn : n ≤ 1000000) :
    OwnR L (w.alloc (.cells cs L.e)) w.heap.size (.slice (some ⟨w.heap.size, 0, none⟩) n n) xs := by
  subst hx
  have h := World.ownsRow_lit (base := w.heap.size) (e := L.e) (size := L.k) w cs xs.length (Nat.le_refl _) (by unfold maxLen; omega) (by rw [← Array.length_toList, hc, L.row_length])
  rw [hc] at h
  exact h

def pnB (p : List Int) : List UInt8 := (p.map fun n => [byteAt n 1, byteAt n 0]).flatten
theorem pnB_length (p : List Int) : (pnB p).length = 2 * p.length := by
  induction p with
  | nil => rfl
  | cons n p ih =>
    have : pnB (n :: p) = [byteAt n 1, byteAt n 0] ++ pnB p := by simp [pnB]
    rw [this, List.length_append, ih]; simp; omega

set_option maxHeartbeats 1000000 in
theorem dPathB_any (p : List Int) (v : Value) (w : World) (h : Rs intLay w v p) (hl : p.length ≤ 1000000) :
    Calls Try.prog 39 #[v] w fun e w' => ∃ v', e = .returned v' ∧ Bs w' v' (pathB p) ∧ (∀ g, v'.ownBlock = some g → w.heap.size ≤ g ∧ g < w'.heap.size) ∧ Same w w' := by
  obtain ⟨n, hn⟩ : ∃ n, p.length = n := ⟨_, rfl⟩
  have HN := Lib.hid hn
  have HP : Hid (0 < n → ∃ b o cap, v = .slice (some ⟨b, o, none⟩) n cap ∧ (∀ w', Same w w' → ∀ j n, p[j]? = some n → w'.cell? ⟨b, o + j, none⟩ = some (.int .i64 n))) := fun hh => by
    obtain ⟨b, o, cap, hv, _, _, hc⟩ := h.ints (by omega)
    exact ⟨b, o, cap, by rw [hv, hn], hc⟩
  have i0 : (n : Int) ≤ 1000000 := by omega
  obtain ⟨a1, c1, rfl⟩ := h.form hn
  by_cases h0 : n = 0
  · subst h0
    have hp : p = [] := List.eq_nil_of_length_eq_zero hn
    subst hp
    clear h hn
    go_enter Try.func39, Try.ntmps39
    go_wp2_with fail
    go_ret
    exact ⟨_, rfl, Bs.nil _, fun g hg => by simp [Value.ownBlock] at hg, Same.refl _⟩
  · have hpp : pathB p = ([byteAt 2 0] ++ [byteAt n 0]) ++ pnB p := by
      unfold pathB
      rw [if_neg (fun e => h0 (by rw [← hn, e]; rfl)), hn]
      rfl
    have HPP := Lib.hid hpp
    have i1 : ¬ ((n : Int) = 0) := by omega
    clear h hn hpp
    have HP1 := fun w => Lib.hid (Put8_any (.slice none 0 0) [] 2 w (Bs.nil w) (by simp))
    have HP2 := fun v w h => Lib.hid (Put8_any v [byteAt 2 0] n w h (by simp))
    have HP3 := fun v w j z h => Lib.hid (Put16_any v (([byteAt 2 0] ++ [byteAt n 0]) ++ pnB (p.take j)) z w h (by simp [pnB_length]; have := HN.out; omega))
    simp only [List.nil_append] at HP1
    go_enter Try.func39, Try.ntmps39
    go_wp2_with fail
    refine (HP1 _).out.mono ?_
    rintro e w1 ⟨v1, rfl, ho1, hs1⟩
    have HO1 := Lib.hid ho1.bs
    have HS1 := Lib.hid hs1
    clear ho1 hs1
    go_wp2_with fail
    refine (HP2 _ _ HO1.out).out.mono ?_
    rintro e w2 ⟨v2, rfl, ho2, hs2⟩
    have HO2 := Lib.hid (ho2.mono HS1.out.size)
    have HS2 := Lib.hid (HS1.out.trans hs2)
    clear ho2 hs2 HO1 HS1
    go_wp2_with fail
    go_loopw [3, 15] (fun bv i wr => ∃ k : Nat, k ≤ n ∧ i = .int .i64 k ∧ OwnB wr w.heap.size bv (([byteAt 2 0] ++ [byteAt n 0]) ++ pnB (p.take k)) ∧ Same w wr) (fun _ i _ => n - (intOf i).toNat)
    case atStart => exact ⟨0, by omega, rfl, by simpa [pnB] using HO2.out, HS2.out⟩
    case round =>
      obtain ⟨k, hk, rfl, hbv, hsr⟩ := hrel
      have HSR := Lib.hid hsr
      have HBV := Lib.hid hbv
      clear hsr hbv
      by_cases h8 : k = n
      · subst h8
        go_wp2_with fail
        go_ret
        have ho := HBV.out
        rw [List.take_of_length_le (by have := HN.out; omega), ← HPP.out] at ho
        exact ⟨_, rfl, ho.bs, ho.lt, HSR.out⟩
      · have hk8 : (k : Int) < n := by omega
        have hkn : k < p.length := by have := HN.out; omega
        obtain ⟨b, o1, cap, e1, HC1⟩ := HP.out (by omega)
        cases e1
        have hg := Lib.hid (show p[k]? = some p[k] from List.getElem?_eq_getElem hkn)
        have htk := Lib.hid (List.take_succ_eq_append_getElem hkn)
        generalize p[k] = z at hg htk
        have hz := HC1 wr HSR.out k z hg.out
        have HTK : Hid (pnB (p.take (k + 1)) = pnB (p.take k) ++ [byteAt z 1, byteAt z 0]) := by
          show _ = _
          rw [htk.out]
          simp [pnB]
        clear h8 hkn HP HC1 hg htk
        go_wp2_with fail
        refine (HP3 _ _ k z HBV.out.bs).out.mono ?_
        rintro e w3 ⟨v3, rfl, ho3, hs3⟩
        have HS3 := Lib.hid (HSR.out.trans hs3)
        have HO3 := Lib.hid (ho3.mono HSR.out.size)
        clear ho3 hs3
        go_wp2_with fail
        exact ⟨⟨k + 1, by omega, rfl, by rw [HTK.out, ← List.append_assoc]; exact HO3.out, HS3.out⟩, by simp [intOf]; omega⟩

/-- three attributes in a row just made -/
theorem raws_three (w : World) (v1 v2 v3 : List UInt8) (o1 o2 o3 : Option Addr) (c1 c2 c3 n1 n2 n3 : Nat) (h1 : v1.length = n1) (h2 : v2.length = n2) (h3 : v3.length = n3) :
    OwnR (rawLay 59) (w.alloc (.cells #[.int .i64 64, .int .i64 1, .slice o1 n1 c1, .int .i64 64, .int .i64 2, .slice o2 n2 c2, .int .i64 64, .int .i64 3, .slice o3 n3 c3] 59)) w.heap.size (.slice (some ⟨w.heap.size, 0, none⟩) 3 3)
      [(⟨64, 1, v1⟩, ⟨o1, c1⟩), (⟨64, 2, v2⟩, ⟨o2, c2⟩), (⟨64, 3, v3⟩, ⟨o3, c3⟩)] := by
  subst h1 h2 h3
  exact OwnR.lit (rawLay 59) w _ _ 3 rfl rfl (by omega)

set_option maxHeartbeats 2000000 in
theorem dBytes_any (a : At) (vp : Value) (w : World) (h : Rs intLay w vp a.path) (hr : hopR a) :
    Calls Try.prog 19 #[atV a vp] w fun e w' => ∃ v', e = .returned v' ∧ Bs w' v' (attrB a) ∧ Same w w' := by
  have HG := fun w' (hs : Same w w') => Lib.hid (dGood_any a vp w' (h.same hs) hr)
  have HAB : Hid (attrB a = if goodA a then joinB (rawsA a) else []) := rfl
  generalize attrB a = AB at *
  by_cases hg : goodA a
  · have hd : decide (goodA a) = true := decide_eq_true hg
    have HG := fun w' hs => Lib.hid (hd ▸ (HG w' hs).out)
    have hab : AB = joinB (rawsA a) := by rw [HAB.out, if_pos hg]
    obtain ⟨-, -, hp16, -, hmed, -⟩ := hg
    have HPB := fun w' (hs : Same w w') => Lib.hid (dPathB_any a.path vp w' (h.same hs) (by omega))
    clear HAB hd
    obtain ⟨n, hn⟩ : ∃ n, a.path.length = n := ⟨_, rfl⟩
    obtain ⟨ao, cap, rfl⟩ := h.form hn
    clear h hr hn
    obtain ⟨o, p, hp, m, hs⟩ := a
    dsimp only at HPB HG hp16 hmed
    have hra : rawsA ⟨o, p, hp, m, hs⟩ = [⟨64, 1, [byteAt o 0]⟩, ⟨64, 2, pathB p⟩, ⟨64, 3, [byteAt hp 3, byteAt hp 2, byteAt hp 1, byteAt hp 0]⟩] ++
      (if hs then [⟨128, 4, [byteAt m 3, byteAt m 2, byteAt m 1, byteAt m 0]⟩] else []) := rfl
    rw [hra] at hab
    clear hra
    have HAB := Lib.hid hab
    clear hab
    generalize pathB p = PB at *
    obtain ⟨q, hq⟩ : ∃ q, PB.length = q := ⟨_, rfl⟩
    have HQ := Lib.hid hq
    clear hq
    have HA := Lib.hid (Same.alloc w (atO 35 ⟨o, p, hp, m, hs⟩ (.slice ao n cap)))
    have HX : Hid (∀ w', Same (w.alloc (atO 35 ⟨o, p, hp, m, hs⟩ (.slice ao n cap))) w' → AtAt w' w.heap.size ⟨o, p, hp, m, hs⟩ (.slice ao n cap)) := fun w' hw => AtAt.of (hw.block (heap_alloc_new w _))
    obtain ⟨x0, x1, x2, x3, x4⟩ := HX.out _ (Same.refl _)
    have HP1 := fun w => Lib.hid (Put8_any (.slice none 0 0) [] o w (Bs.nil w) (by simp))
    have HP3 := fun w => Lib.hid (Put32_any (.slice none 0 0) [] hp w (Bs.nil w) (by simp))
    have HP4 := fun w => Lib.hid (Put32_any (.slice none 0 0) [] m w (Bs.nil w) (by simp))
    simp only [List.nil_append] at HP1 HP3 HP4
    go_enter Try.func19, Try.ntmps19
    go_wp2_with fail
    refine (HG _ HA.out).out.mono ?_
    rintro e W ⟨rfl, hsW⟩
    have HSW := Lib.hid hsW
    clear hsW x0 x1 x2 x3 x4
    go_wp2_with fail
    refine reg_start (fun w' => Same W w') (by kernel_rfl) ?_
    refine reg_take (v := ?_) 0 (some 7) rfl rfl (by kernel_rfl) (fun _ _ _ h => h) (by kernel_rfl) ((Same.refl W).drew) ?_ ?_
    rotate_left
    · (intro w' hw'; obtain ⟨x0, x1, x2, x3, x4⟩ := HX.out w' (HSW.out.trans hw'); go_simp; try with_reducible rfl)
    try simp only [Act.put, List.setIfInBounds_toArray, List.set_cons_zero, List.set_cons_succ]
    refine reg_take (v := ?_) 1 (some 8) rfl rfl (by kernel_rfl) (fun _ _ _ h => h) (by kernel_rfl) ((Same.refl W).drew) ?_ ?_
    rotate_left
    · (intro w' hw'; obtain ⟨x0, x1, x2, x3, x4⟩ := HX.out w' (HSW.out.trans hw'); go_simp; try with_reducible rfl)
    try simp only [Act.put, List.setIfInBounds_toArray, List.set_cons_zero, List.set_cons_succ]
    refine reg_take (v := ?_) 4 (some 11) rfl rfl (by kernel_rfl) (fun _ _ _ h => h) (by kernel_rfl) ((Same.refl W).drew) ?_ ?_
    rotate_left
    · (intro w' hw'; obtain ⟨x0, x1, x2, x3, x4⟩ := HX.out w' (HSW.out.trans hw'); go_simp; try with_reducible rfl)
    try simp only [Act.put, List.setIfInBounds_toArray, List.set_cons_zero, List.set_cons_succ]
    refine reg_take (v := ?_) 5 (some 12) rfl rfl (by kernel_rfl) (fun _ _ _ h => h) (by kernel_rfl) ((Same.refl W).drew) ?_ ?_
    rotate_left
    · (intro w' hw'; obtain ⟨x0, x1, x2, x3, x4⟩ := HX.out w' (HSW.out.trans hw'); go_simp; try with_reducible rfl)
    try simp only [Act.put, List.setIfInBounds_toArray, List.set_cons_zero, List.set_cons_succ]
    refine reg_take (v := ?_) 8 (some 15) rfl rfl (by kernel_rfl) (fun _ _ _ h => h) (by kernel_rfl) ((Same.refl W).drew) ?_ ?_
    rotate_left
    · (intro w' hw'; obtain ⟨x0, x1, x2, x3, x4⟩ := HX.out w' (HSW.out.trans hw'); go_simp; try with_reducible rfl)
    try simp only [Act.put, List.setIfInBounds_toArray, List.set_cons_zero, List.set_cons_succ]
    refine reg_take (v := ?_) 9 (some 16) rfl rfl (by kernel_rfl) (fun _ _ _ h => h) (by kernel_rfl) ((Same.refl W).drew) ?_ ?_
    rotate_left
    · (intro w' hw'; obtain ⟨x0, x1, x2, x3, x4⟩ := HX.out w' (HSW.out.trans hw'); go_simp; try with_reducible rfl)
    try simp only [Act.put, List.setIfInBounds_toArray, List.set_cons_zero, List.set_cons_succ]
    refine reg_one 2 rfl (by kernel_rfl) (by kernel_rfl) ?_
    go_simp
    refine ((HP1 _).out).mono ?_
    rintro e u1 ⟨v1, rfl, ho1, hs1⟩
    have hS1 := ((Same.refl W).drew).trans hs1
    have HO1 := Lib.hid ho1
    obtain ⟨b1, c1, rfl⟩ := ho1.bs.form0 (n := 1) rfl
    clear ho1
    refine ⟨hS1, ?_⟩
    try simp only [Act.put, List.setIfInBounds_toArray, List.set_cons_zero, List.set_cons_succ]
    refine reg_take (v := ?_) 3 (some 10) rfl rfl (by kernel_rfl) (fun _ _ _ h => h) (by kernel_rfl) (hS1) ?_ ?_
    rotate_left
    · (intro w' hw'; obtain ⟨x0, x1, x2, x3, x4⟩ := HX.out w' (HSW.out.trans hw'); go_simp; try with_reducible rfl)
    try simp only [Act.put, List.setIfInBounds_toArray, List.set_cons_zero, List.set_cons_succ]
    refine reg_one 6 rfl (by kernel_rfl) (by kernel_rfl) ?_
    go_simp
    refine ((HPB _ ((HA.out.trans HSW.out).trans ((Same.refl W).drew.trans hs1))).out).mono ?_
    rintro e u2 ⟨v2, rfl, hb2, hl2, hs2⟩
    have hS2 := (hS1).trans hs2
    have HB2 := Lib.hid hb2
    have HL2 := Lib.hid hl2
    obtain ⟨b2, c2, rfl⟩ := hb2.form0 HQ.out
    clear hb2 hl2
    refine ⟨hS2, ?_⟩
    try simp only [Act.put, List.setIfInBounds_toArray, List.set_cons_zero, List.set_cons_succ]
    refine reg_take (v := ?_) 7 (some 14) rfl rfl (by kernel_rfl) (fun _ _ _ h => h) (by kernel_rfl) (hS2) ?_ ?_
    rotate_left
    · (intro w' hw'; obtain ⟨x0, x1, x2, x3, x4⟩ := HX.out w' (HSW.out.trans hw'); go_simp; try with_reducible rfl)
    try simp only [Act.put, List.setIfInBounds_toArray, List.set_cons_zero, List.set_cons_succ]
    refine reg_one 10 rfl (by kernel_rfl) (by kernel_rfl) ?_
    go_simp
    refine ((HP3 _).out).mono ?_
    rintro e u3 ⟨v3, rfl, ho3, hs3⟩
    have hS3 := (hS2).trans hs3
    have HO3 := Lib.hid ho3
    obtain ⟨b3, c3, rfl⟩ := ho3.bs.form0 (n := 4) rfl
    clear ho3
    refine ⟨hS3, ?_⟩
    try simp only [Act.put, List.setIfInBounds_toArray, List.set_cons_zero, List.set_cons_succ]
    refine reg_take (v := ?_) 11 (some 18) rfl rfl (by kernel_rfl) (fun _ _ _ h => h) (by kernel_rfl) (hS3) ?_ ?_
    rotate_left
    · (intro w' hw'; obtain ⟨x0, x1, x2, x3, x4⟩ := HX.out w' (HSW.out.trans hw'); go_simp; try with_reducible rfl)
    try simp only [Act.put, List.setIfInBounds_toArray, List.set_cons_zero, List.set_cons_succ]
    refine reg_one 12 rfl (by kernel_rfl) (by kernel_rfl) ?_
    go_simp
    refine ⟨hS3.trans (Same.alloc u3 _), ?_⟩
    try simp only [Act.put, List.setIfInBounds_toArray, List.set_cons_zero, List.set_cons_succ]
    refine reg_take (v := ?_) 13 (some 3) rfl rfl (by kernel_rfl) (fun _ _ _ h => h) (by kernel_rfl) (hS3.trans (Same.alloc u3 _)) ?_ ?_
    rotate_left
    · (intro w' hw'; obtain ⟨x0, x1, x2, x3, x4⟩ := HX.out w' (HSW.out.trans hw'); go_simp; try with_reducible rfl)
    try simp only [Act.put, List.setIfInBounds_toArray, List.set_cons_zero, List.set_cons_succ]
    refine reg_done (by kernel_rfl) ?_
    have HL3 := Lib.hid (raws_three u3 [byteAt o 0] PB [byteAt hp 3, byteAt hp 2, byteAt hp 1, byteAt hp 0] b1 b2 b3 c1 c2 c3 1 q 4 rfl HQ.out rfl)
    have HA3 := Lib.hid (Same.alloc u3 (.cells #[.int .i64 64, .int .i64 1, .slice b1 1 c1, .int .i64 64, .int .i64 2, .slice b2 q c2, .int .i64 64, .int .i64 3, .slice b3 4 c3] 59))
    have HUS : Hid (u3.heap.size < (u3.alloc (.cells #[.int .i64 64, .int .i64 1, .slice b1 1 c1, .int .i64 64, .int .i64 2, .slice b2 q c2, .int .i64 64, .int .i64 3, .slice b3 4 c3] 59)).heap.size) := by show _ < _; simp
    generalize u3.alloc (.cells #[.int .i64 64, .int .i64 1, .slice b1 1 c1, .int .i64 64, .int .i64 2, .slice b2 q c2, .int .i64 64, .int .i64 3, .slice b3 4 c3] 59) = U at *
    have HSU := Lib.hid (HSW.out.trans (hS3.trans HA3.out))
    have HB1 := Lib.hid (HO1.out.bs.same ((hs2.trans hs3).trans HA3.out))
    have HB2' := Lib.hid (HB2.out.same (hs3.trans HA3.out))
    have HB3 := Lib.hid (HO3.out.bs.same HA3.out)
    have HBX : Hid (∀ x, x ∈ [((⟨64, 1, [byteAt o 0]⟩, ⟨b1, c1⟩) : Rw × Sl), (⟨64, 2, PB⟩, ⟨b2, c2⟩), (⟨64, 3, [byteAt hp 3, byteAt hp 2, byteAt hp 1, byteAt hp 0]⟩, ⟨b3, c3⟩)] → Bs U (svV x.1 x.2) x.1.value) := by
      intro x hx
      simp only [List.mem_cons, List.not_mem_nil, or_false] at hx
      rcases hx with rfl | rfl | rfl
      · exact HB1.out
      · have := HB2'.out; rw [← HQ.out] at this; exact this
      · exact HB3.out
    have HNe : Hid (∀ x, x ∈ [((⟨64, 1, [byteAt o 0]⟩, ⟨b1, c1⟩) : Rw × Sl), (⟨64, 2, PB⟩, ⟨b2, c2⟩), (⟨64, 3, [byteAt hp 3, byteAt hp 2, byteAt hp 1, byteAt hp 0]⟩, ⟨b3, c3⟩)] → ∀ g, (svV x.1 x.2).ownBlock = some g → g ≠ u3.heap.size) := by
      intro x hx g hg
      have z2 := hs2.size
      have z3 := hs3.size
      simp only [List.mem_cons, List.not_mem_nil, or_false] at hx
      rcases hx with rfl | rfl | rfl
      · have := (HO1.out.lt g hg).2; omega
      · have hh := HL2.out; rw [← HQ.out] at hh; have := (hh g hg).2; omega
      · have := (HO3.out.lt g hg).2; omega
    have HSZ : Hid (w.heap.size ≤ u3.heap.size) := (HA.out.trans (HSW.out.trans hS3)).size
    clear hS1 hS2 hS3 hs1 hs2 hs3 HO1 HB2 HO3 HB1 HB2' HB3 HL2
    obtain ⟨x0, x1, x2, x3, x4⟩ := HX.out _ HSU.out
    cases hs
    · have HJ := Lib.hid (dJoin_any _ _ U ⟨_, rfl, HL3.out.rs, HBX.out⟩ (by simp))
      go_wp2_with fail
      refine HJ.out.mono ?_
      rintro e w4 ⟨v4, rfl, ho4, hs4⟩
      have HS4 := Lib.hid ((HA.out.trans HSU.out).trans hs4)
      have HO4 := Lib.hid ho4.bs
      clear ho4 hs4
      go_wp2_with fail
      go_ret
      refine ⟨_, rfl, ?_, HS4.out⟩
      rw [HAB.out]
      exact HO4.out
    · have i1 : m % 4294967296 = m := by omega
      go_wp2_with fail
      refine (HP4 _).out.mono ?_
      rintro e w4 ⟨v4, rfl, ho4, hs4⟩
      obtain ⟨b4, c4, rfl⟩ := ho4.bs.form0 (n := 4) rfl
      have HS4 := Lib.hid ((HA.out.trans HSU.out).trans hs4)
      have HO4 := Lib.hid ho4.bs
      have HNe4 : Hid (∀ g, (Value.slice b4 4 c4).ownBlock = some g → g ≠ u3.heap.size) := fun g hg => by have := (ho4.lt g hg).1; have := HUS.out; omega
      have HL4 := Lib.hid (HL3.out.same hs4)
      have HBX4 := Lib.hid (fun x hx => (HBX.out x hx).same hs4)
      have HZ4 : Hid (u3.heap.size ≤ w4.heap.size) := Nat.le_trans HA3.out.size hs4.size
      clear ho4 hs4 HL3 HBX x0 x1 x2 x3 x4
      have HX4 : Hid (Rs (rawLay 59) (w4.alloc (.cells #[.int .i64 128, .int .i64 4, .slice b4 4 c4] 59)) (.slice (some ⟨w4.heap.size, 0, none⟩) 1 1) [((⟨128, 4, [byteAt m 3, byteAt m 2, byteAt m 1, byteAt m 0]⟩, ⟨b4, c4⟩) : Rw × Sl)]) :=
        Rs.one (rawLay 59) w4 ((⟨128, 4, [byteAt m 3, byteAt m 2, byteAt m 1, byteAt m 0]⟩, ⟨b4, c4⟩) : Rw × Sl) #[.int .i64 128, .int .i64 4, .slice b4 4 c4] rfl
      have HA4 := Lib.hid (Same.alloc w4 (.cells #[.int .i64 128, .int .i64 4, .slice b4 4 c4] 59))
      have HL5 := Lib.hid (HL4.out.same HA4.out)
      have HBX5 := Lib.hid (fun x hx => (HBX4.out x hx).same HA4.out)
      have HO5 := Lib.hid (HO4.out.same HA4.out)
      have HS5 := Lib.hid (HS4.out.trans HA4.out)
      have HZ5 : Hid (u3.heap.size ≤ (w4.alloc (.cells #[.int .i64 128, .int .i64 4, .slice b4 4 c4] 59)).heap.size) := Nat.le_trans HZ4.out HA4.out.size
      go_wp2_with (at_builtin; refine wpList_append_r2 (rawLay 59) Try.underlying24 rawInfoD rfl (by decide) (by decide) rfl _ _ rfl u3.heap.size HZ5.out (.slice (some ⟨u3.heap.size, 0, none⟩) 3 3) _ rfl HL5.out _ _ rfl HX4.out (by simp) ?_; intro v9 w9 ho9 hg9 hl9)
      have HKg : Kept [u3.heap.size] (w4.alloc (.cells #[.int .i64 128, .int .i64 4, .slice b4 4 c4] 59)) w9 := (Kept.refl _ _).grown hg9 (fun s hs => .inl (List.mem_singleton.2 (by simpa [Value.ownBlock, eq_comm] using hs)))
      have HS9 : Hid (Same w w9) := Below.trans HS5.out (HKg.below (fun s hs => by simp at hs; have := HSZ.out; omega) HS5.out.size)
      have HW9 : RawsW 59 w9 v9 ([⟨64, 1, [byteAt o 0]⟩, ⟨64, 2, PB⟩, ⟨64, 3, [byteAt hp 3, byteAt hp 2, byteAt hp 1, byteAt hp 0]⟩] ++ [⟨128, 4, [byteAt m 3, byteAt m 2, byteAt m 1, byteAt m 0]⟩]) := by
        refine ⟨_, rfl, ho9.rs, fun x hx => ?_⟩
        rcases List.mem_append.1 hx with hx | hx
        · exact (HBX5.out x hx).kept HKg (fun g hg h => HNe.out x hx g hg (by simpa using h))
        · obtain rfl := List.mem_singleton.1 hx
          exact HO5.out.kept HKg (fun g hg h => HNe4.out g hg (by simpa using h))
      obtain ⟨ar, cr, rfl⟩ := HW9.form (n := 4) rfl
      have HJ := Lib.hid (dJoin_any _ _ w9 HW9 (by simp))
      go_wp2_with fail
      refine HJ.out.mono ?_
      rintro e w10 ⟨v10, rfl, ho10, hs10⟩
      have HS10 := Lib.hid (HS9.out.trans hs10)
      have HO10 := Lib.hid ho10.bs
      clear ho10 hs10
      go_wp2_with fail
      go_ret
      refine ⟨_, rfl, ?_, HS10.out⟩
      rw [HAB.out]
      exact HO10.out
  · have hd : decide (goodA a) = false := decide_eq_false hg
    have HG := fun w' hs => Lib.hid (hd ▸ (HG w' hs).out)
    have hab : AB = [] := by rw [HAB.out, if_neg hg]
    subst hab
    clear HAB hd hg
    obtain ⟨n, hn⟩ : ∃ n, a.path.length = n := ⟨_, rfl⟩
    obtain ⟨ao, cap, rfl⟩ := h.form hn
    clear h hr hn
    obtain ⟨o, p, hp, m, hs⟩ := a
    have HA := Lib.hid (Same.alloc w (atO 35 ⟨o, p, hp, m, hs⟩ (.slice ao n cap)))
    obtain ⟨x0, x1, x2, x3, x4⟩ := AtAt.of (heap_alloc_new w (atO 35 ⟨o, p, hp, m, hs⟩ (.slice ao n cap)))
    go_enter Try.func19, Try.ntmps19
    go_wp2_with fail
    refine (HG _ HA.out).out.mono ?_
    rintro e w2 ⟨rfl, hs2⟩
    have HS2 := Lib.hid (HA.out.trans hs2)
    clear hs2
    go_wp2_with fail
    go_ret
    exact ⟨_, rfl, Bs.nil _, HS2.out⟩
end Go.Proofs.Ytfhaaenmllkbnaa
