/- Layer 7: AttrBack's walk over AttrC. No condition beyond what it names. -/
import Derived.Test.YtfhaaenmllkbnaaAtC
import Derived.Test.YtfhaaenmllkbnaaSplit
namespace Go.Proofs.Ytfhaaenmllkbnaa
open Go.RowKit
set_option linter.unusedVariables false

theorem attrB_le (a : At) (hg : goodA a) : (attrB a).length ≤ 300000 := by
  rw [show attrB a = joinB (rawsA a) from if_pos hg]
  have h := joinB_length (rawsA a)
  have h2 : (rawsA a).length ≤ 4 := by unfold rawsA; split <;> simp
  have := Nat.mul_le_mul_right 65539 h2
  omega

theorem Bs.front7 {w : World} {ao : Option Addr} {m cap : Nat} {l : List UInt8} (h : Bs w (.slice ao m cap) l) (k : Nat) (hk : k ≤ l.length) : Bs w (.slice ao k cap) (l.take k) := by
  obtain ⟨ao', cap', he, h1, h2, h3, h4⟩ := h
  cases he
  refine ⟨ao, cap, by simp [Nat.min_eq_left hk], by simp; omega, h2, h3, fun ad had => ⟨fun hne => (h4 ad had).1 (by intro he; subst he; simp at hne), fun j u hu => (h4 ad had).2 j u ?_⟩⟩
  rw [List.getElem?_take] at hu
  split at hu
  · exact hu
  · cases hu
abbrev A3 (v : Value) : Value := atV ⟨0, [], 0, 0, false⟩ v
abbrev F3 (d : Value) : Value := ftV ⟨3, 1, []⟩ d
abbrev T3 (v d : Value) : Value := .tuple #[A3 v, F3 d]

/-- what region 8 leaves -/
def backF (U0 : World) (us : List Value) (u : World) : Prop := ∃ x0 x1 x2 x3 x4 x5 x6 x7 x8 x9 x10 B d, us = [x0, x1, x2, x3, x4, x5, x6, x7, x8, x9, x10, .pointer (some ⟨B, 0, none⟩)] ∧ Same U0 u ∧ u.heap[B]? = some (ftO 26 ⟨3, 1, []⟩ d)

set_option maxRecDepth 100000 in
theorem aback_long (C : AttrC) (a : At) (vp : Value) (at' : Int) (w : World) (hp : Rs intLay w vp a.path) (hr : hopR a) (hl : 300 < a.path.length) :
    Calls Try.prog 5 #[atV a vp, .int .u64 at'] w fun e w' => e = .returned (.bool true) ∧ Same w w' := by
  have HL := fun w => Lib.hid (at_lives C w)
  obtain ⟨n, hn⟩ : ∃ n, a.path.length = n := ⟨_, rfl⟩
  obtain ⟨pa, pc, rfl⟩ := hp.form hn
  rw [hn] at hl
  go_enter Try.func5, Try.ntmps5
  go_wp2_with fail
  refine (HL _).out.mono ?_
  rintro e w1 ⟨rfl, hs⟩
  have HS := Lib.hid ((Same.alloc w _).trans hs)
  clear hs
  go_wp2_with fail
  go_ret
  exact ⟨rfl, HS.out⟩

set_option maxRecDepth 100000 in
set_option maxHeartbeats 4000000 in
theorem aback_bad (C : AttrC) (a : At) (vp : Value) (at' : Int) (w : World) (hp : Rs intLay w vp a.path) (hr : hopR a) (hg : ¬ goodA a) (hl : a.path.length ≤ 300) :
    Calls Try.prog 5 #[atV a vp, .int .u64 at'] w fun e w' => e = .returned (.bool true) ∧ Same w w' := by
  have HL := fun w => Lib.hid (at_lives C w)
  have HBy := fun w hp => Lib.hid (C.bytes a vp w hp hr hl)
  have HGo := fun w hp => Lib.hid (C.good a vp w hp hr)
  rw [show attrB a = [] from if_neg hg] at HBy
  rw [decide_eq_false hg] at HGo
  obtain ⟨n, hn⟩ : ∃ n, a.path.length = n := ⟨_, rfl⟩
  rw [hn] at hl
  have HP := Lib.hid hp
  obtain ⟨pa, pc, rfl⟩ := hp.form hn
  clear hp hn
  obtain ⟨p0, p1, p2, p3, p4⟩ := a
  simp only at HBy HGo HP
  have HA := Lib.hid (Same.alloc w (atO 35 ⟨p0, p1, p2, p3, p4⟩ (.slice pa n pc)))
  have HK := Lib.hid (heap_alloc_new w (atO 35 ⟨p0, p1, p2, p3, p4⟩ (.slice pa n pc)))
  go_enter Try.func5, Try.ntmps5
  go_wp2_with fail
  refine (HBy _ (HP.out.same HA.out)).out.mono ?_
  rintro e w1 ⟨v1, rfl, hb1, hs1⟩
  have HS1 := Lib.hid (HA.out.trans hs1)
  have HK1 := Lib.hid (hs1.block HK.out)
  obtain ⟨a1, c1, rfl⟩ := hb1.form0 (n := 0) rfl
  obtain ⟨k0, k1, k2, k3, k4⟩ := AtAt.of HK1.out
  clear hs1 hb1
  go_wp2_with fail
  refine (HGo _ (HP.out.same HS1.out)).out.mono ?_
  rintro e w2 ⟨rfl, hs2⟩
  have HS2 := Lib.hid (HS1.out.trans hs2)
  clear hs2
  go_wp2_with fail
  refine (HL _).out.mono ?_
  rintro e w3 ⟨rfl, hs3⟩
  have HS3 := Lib.hid (HS2.out.trans hs3)
  clear hs3
  go_wp2_with fail
  go_ret
  exact ⟨rfl, HS3.out⟩

set_option maxRecDepth 100000 in
set_option maxHeartbeats 4000000 in
theorem aback_walk (C : AttrC) (a : At) (vp : Value) (at' : Int) (w : World) (hp : Rs intLay w vp a.path) (hr : hopR a) (hg : goodA a) (ha : 0 ≤ at' ∧ at' ≤ 18446744073709551615) :
    Calls Try.prog 5 #[atV a vp, .int .u64 at'] w fun e w' => e = .returned (.bool true) ∧ Same w w' := by
  have HL := fun w => Lib.hid (at_lives C w)
  have HBy := fun w hp => Lib.hid (C.bytes a vp w hp hr (Nat.le_trans hg.2.2.1 (by decide)))
  have hX14 := attrB_length a hg
  have hXle := attrB_le a hg
  have e1 : parseT (attrB a) = (a, ⟨0, 0, []⟩) := parse_back a hg hr
  have e2 := fun k hk => parse_cut7 a hg hr k hk
  have e3 : parseT (attrB a ++ [64, 1, 1, byteAt a.origin 0]) = (⟨0, [], 0, 0, false⟩, ⟨3, 1, []⟩) := parse_twice a hg hr
  have e4 : parseT (joinB (rawsA a).tail) = (⟨0, [], 0, 0, false⟩, ⟨3, 3, [1]⟩) := parse_tail a hg hr
  have e5 := attrB_four a hg
  have e6 : (attrB a).take 4 = [64, 1, 1, byteAt a.origin 0] := by rw [e5]; rfl
  have e7 : (attrB a).drop 4 = joinB (rawsA a).tail := by rw [e5]; rfl
  rw [← e6] at e3
  rw [← e7] at e4
  obtain ⟨n, hn⟩ : ∃ n, a.path.length = n := ⟨_, rfl⟩
  have hn16 : n ≤ 16 := by rw [← hn]; exact hg.2.2.1
  have HP := Lib.hid hp
  have HN := Lib.hid hn
  obtain ⟨pa, pc, rfl⟩ := hp.form hn
  clear hp hn e5 e6 e7
  generalize attrB a = X at *
  obtain ⟨nX, hnX⟩ : ∃ k, X.length = k := ⟨_, rfl⟩
  rw [hnX] at hX14 hXle e2
  obtain ⟨k, hk⟩ : ∃ k : Nat, at' % (nX : Int) = k := ⟨(at' % (nX : Int)).toNat, by have := Int.emod_nonneg at' (b := (nX : Int)) (by omega); omega⟩
  have hkX : k < nX := by have := Int.emod_lt_of_pos at' (b := (nX : Int)) (by omega); omega
  have e2 := e2 k hkX
  have HP1 := fun v w hb => Lib.hid (C.parse v X w hb (by omega))
  have HP2 := fun v w hb => Lib.hid (C.parse v (X.take k) w hb (by rw [List.length_take]; omega))
  have HZ3 := fun v w hb => Lib.hid (C.parse v (X ++ X.take 4) w hb (by rw [List.length_append, List.length_take]; omega))
  have HP4 := fun v w hb => Lib.hid (C.parse v (X.drop 4) w hb (by rw [List.length_drop]; omega))
  rw [e1] at HP1
  rw [e3] at HZ3
  rw [e4] at HP4
  generalize parseT (X.take k) = Z at *
  obtain ⟨Y, G⟩ := Z
  obtain ⟨g0, g1, g2⟩ := G
  obtain ⟨y0, y1, y2, y3, y4⟩ := Y
  obtain ⟨ng, hng⟩ : ∃ n, g2.length = n := ⟨_, rfl⟩
  obtain ⟨ny, hny⟩ : ∃ n, y1.length = n := ⟨_, rfl⟩
  obtain ⟨p0, p1, p2, p3, p4⟩ := a
  simp only at HBy HP HP1 HP2 HZ3 HP4 e2 HN
  have E2 := Lib.hid e2
  have HNX := Lib.hid hnX
  have HNG := Lib.hid hng
  have HNY := Lib.hid hny
  clear e1 e2 e3 e4 hnX hng hny
  have HA := Lib.hid (Same.alloc w (atO 35 ⟨p0, p1, p2, p3, p4⟩ (.slice pa n pc)))
  have HK := Lib.hid (heap_alloc_new w (atO 35 ⟨p0, p1, p2, p3, p4⟩ (.slice pa n pc)))
  go_enter Try.func5, Try.ntmps5
  go_wp2_with fail
  refine (HBy _ (HP.out.same HA.out)).out.mono ?_
  rintro e w1 ⟨v1, rfl, hb1, hs1⟩
  have HS1 := Lib.hid (HA.out.trans hs1)
  have HK1 := Lib.hid (hs1.block HK.out)
  have HB1 := Lib.hid hb1
  obtain ⟨b1, o1, c1, rfl, hcap, -, -⟩ := hb1.form (by rw [HNX.out]; omega)
  simp only [HNX.out] at HB1 hcap ⊢
  clear hs1 hb1
  go_wp2_with fail
  refine (HP1 _ _ HB1.out).out.mono ?_
  rintro e w2 ⟨v2, d2, rfl, hr2, hd2, hs2, -⟩
  have HS2 := Lib.hid (HS1.out.trans hs2)
  have HK2 := Lib.hid (hs2.block HK1.out)
  have HR2 := Lib.hid hr2
  obtain ⟨pa2, pc2, rfl⟩ := hr2.form HN.out
  obtain ⟨da2, dc2, rfl⟩ := hd2.form0 (n := 0) rfl
  have HB2 := Lib.hid (HB1.out.same hs2)
  clear hs2 hr2 hd2
  have HA2 := Lib.hid ((Same.alloc w2 (atO 35 ⟨p0, p1, p2, p3, p4⟩ (.slice pa2 n pc2))).trans (Same.alloc (w2.alloc (atO 35 ⟨p0, p1, p2, p3, p4⟩ (.slice pa2 n pc2))) (ftO 26 ⟨0, 0, []⟩ (.slice da2 0 dc2))))
  have HX2 := Lib.hid ((Same.alloc (w2.alloc (atO 35 ⟨p0, p1, p2, p3, p4⟩ (.slice pa2 n pc2))) (ftO 26 ⟨0, 0, []⟩ (.slice da2 0 dc2))).block (heap_alloc_new w2 (atO 35 ⟨p0, p1, p2, p3, p4⟩ (.slice pa2 n pc2))))
  have HF2 : Hid (((w2.alloc (atO 35 ⟨p0, p1, p2, p3, p4⟩ (.slice pa2 n pc2))).alloc (ftO 26 ⟨0, 0, []⟩ (.slice da2 0 dc2))).heap[w2.heap.size + 1]? = some (ftO 26 ⟨0, 0, []⟩ (.slice da2 0 dc2))) := by
    have := heap_alloc_new (w2.alloc (atO 35 ⟨p0, p1, p2, p3, p4⟩ (.slice pa2 n pc2))) (ftO 26 ⟨0, 0, []⟩ (.slice da2 0 dc2))
    rw [show (w2.alloc (atO 35 ⟨p0, p1, p2, p3, p4⟩ (.slice pa2 n pc2))).heap.size = w2.heap.size + 1 from by simp] at this
    exact this
  have HB3 := Lib.hid (HB2.out.same HA2.out)
  have HK := Lib.hid (HB3.out.front7 k (by rw [HNX.out]; omega))
  go_wp2_with fail
  refine (HP2 _ _ HK.out).out.mono ?_
  rintro e w3 ⟨v3, d3, rfl, hr3, hd3, hs3, hown3⟩
  have HT3 := Lib.hid (HA2.out.trans hs3)
  have hs3x := Lib.hid hs3
  have HS3 := Lib.hid (HS2.out.trans HT3.out)
  have HK3 := Lib.hid (HT3.out.block HK2.out)
  have HX2a := Lib.hid (hs3.block HX2.out)
  have HF2a := Lib.hid (hs3.block HF2.out)
  have HR3 := Lib.hid hr3
  obtain ⟨pa3, pc3, rfl⟩ := hr3.form HNY.out
  have HO3 : Hid (Value.ownBlock (.slice pa3 ny pc3) ≠ some w.heap.size) := Lib.hid (fun e => absurd (hown3 _ e) (by have h1 := (Array.getElem?_eq_some_iff.1 HK2.out).1; have h2 := HA2.out.size; omega))
  obtain ⟨da3, dc3, rfl⟩ := hd3.form0 HNG.out
  clear hs3 hr3 hd3 hown3
  have HA3 := Lib.hid ((Same.alloc w3 (atO 35 ⟨y0, y1, y2, y3, y4⟩ (.slice pa3 ny pc3))).trans (Same.alloc (w3.alloc (atO 35 ⟨y0, y1, y2, y3, y4⟩ (.slice pa3 ny pc3))) (ftO 26 ⟨g0, g1, g2⟩ (.slice da3 ng dc3))))
  have HX3 := Lib.hid ((Same.alloc (w3.alloc (atO 35 ⟨y0, y1, y2, y3, y4⟩ (.slice pa3 ny pc3))) (ftO 26 ⟨g0, g1, g2⟩ (.slice da3 ng dc3))).block (heap_alloc_new w3 (atO 35 ⟨y0, y1, y2, y3, y4⟩ (.slice pa3 ny pc3))))
  have HF3 : Hid (((w3.alloc (atO 35 ⟨y0, y1, y2, y3, y4⟩ (.slice pa3 ny pc3))).alloc (ftO 26 ⟨g0, g1, g2⟩ (.slice da3 ng dc3))).heap[w3.heap.size + 1]? = some (ftO 26 ⟨g0, g1, g2⟩ (.slice da3 ng dc3))) := by
    have := heap_alloc_new (w3.alloc (atO 35 ⟨y0, y1, y2, y3, y4⟩ (.slice pa3 ny pc3))) (ftO 26 ⟨g0, g1, g2⟩ (.slice da3 ng dc3))
    rw [show (w3.alloc (atO 35 ⟨y0, y1, y2, y3, y4⟩ (.slice pa3 ny pc3))).heap.size = w3.heap.size + 1 from by simp] at this
    exact this
  go_wp2_with fail
  have HS4 := Lib.hid (HS3.out.trans HA3.out)
  have HX2b := Lib.hid (HA3.out.block HX2a.out)
  have HF2b := Lib.hid (HA3.out.block HF2a.out)
  have HK4 := Lib.hid (HA3.out.block HK3.out)
  have HBU := Lib.hid (HB3.out.same (hs3x.out.trans HA3.out))
  generalize (w3.alloc (atO 35 ⟨y0, y1, y2, y3, y4⟩ (.slice pa3 ny pc3))).alloc (ftO 26 ⟨g0, g1, g2⟩ (.slice da3 ng dc3)) = U0 at *
  have HBU4 := Lib.hid (HBU.out.front7 4 (by rw [HNX.out]; omega))
  have HS0 := Lib.hid ((Same.refl U0).drew)
  have HLe1 : Hid (([] : List UInt8).length + X.length ≤ 140737488355328) := by show _ ≤ _; rw [HNX.out]; simp; omega
  have HLe2 : Hid ((([] : List UInt8) ++ X).length + (X.take 4).length ≤ 140737488355328) := by show _ ≤ _; rw [List.nil_append, List.length_take, HNX.out]; omega
  have hc4 : 4 ≤ c1 := by omega
  refine wp_out [48, 49, 50, 51, 52, 53, 54, 47, 55, 56, 10, 11] (backF U0) ?_ ?_
  · refine reg_start (fun w' => Same U0 w') (by kernel_rfl) ?_
    generalize U0.drew = W0 at *
-- @tree
    refine reg_take (v := ?_) 1 (some 49) rfl rfl (by kernel_rfl) (fun _ _ _ h => by cases h.1) (by kernel_rfl) HS0.out ?_ ?_
    rotate_left
    · (intro w' hw'; go_simp; try with_reducible rfl)
    try simp only [Act.put, List.setIfInBounds_toArray, List.set_cons_zero, List.set_cons_succ]
    refine reg_take (v := ?_) 3 (some 51) rfl rfl (by kernel_rfl) (fun _ _ _ h => by cases h.1) (by kernel_rfl) HS0.out ?_ ?_
    rotate_left
    · (intro w' hw'; go_simp; try with_reducible rfl)
    try simp only [Act.put, List.setIfInBounds_toArray, List.set_cons_zero, List.set_cons_succ]
    refine reg_take (v := ?_) 4 (some 52) rfl rfl (by kernel_rfl) (fun _ _ _ h => by cases h.1) (by kernel_rfl) HS0.out ?_ ?_
    rotate_left
    · (intro w' hw'; go_simp; rw [if_pos (by omega)])
    try simp only [Act.put, List.setIfInBounds_toArray, List.set_cons_zero, List.set_cons_succ]
    refine reg_three 0 10 11 rfl rfl rfl (by kernel_rfl) (by kernel_rfl) (by kernel_rfl) (by kernel_rfl) ?_ ?_ ?_
    · go_simp
      have HS1 := Lib.hid (HS0.out.trans (Same.alloc W0 (Obj.cells #[] 5)))
      refine ⟨HS1.out, ?_⟩
      try simp only [Act.put, List.setIfInBounds_toArray, List.set_cons_zero, List.set_cons_succ]
      have HO1 := Lib.hid ((OwnB.empty W0).mono HS0.out.size)
      generalize W0.alloc (Obj.cells #[] 5) = W1 at *
      refine reg_three 2 10 11 rfl rfl rfl (by kernel_rfl) (by kernel_rfl) (by kernel_rfl) (by kernel_rfl) ?_ ?_ ?_
      · refine wp_append_bsg _ _ rfl U0.heap.size HS1.out.size (.slice (some ⟨W0.heap.size, 0, none⟩) 0 0) ([] : List UInt8) rfl HO1.out (.slice (some ⟨b1, o1, none⟩) nX c1) X rfl (HBU.out.same HS1.out) HLe1.out ?_
        intro v50 W2 hO hg
        have HS2 := Lib.hid (HS1.out.grown hg (fun k e => (HO1.out.lt k e).1))
        have HO2 := Lib.hid hO
        clear hO hg
        refine ⟨HS2.out, ?_⟩
        try simp only [Act.put, List.setIfInBounds_toArray, List.set_cons_zero, List.set_cons_succ]
        refine reg_three 5 10 11 rfl rfl rfl (by kernel_rfl) (by kernel_rfl) (by kernel_rfl) (by kernel_rfl) ?_ ?_ ?_
        · refine wp_append_bsg _ _ rfl U0.heap.size HS2.out.size v50 (([] : List UInt8) ++ X) rfl HO2.out (.slice (some ⟨b1, o1, none⟩) 4 c1) (X.take 4) rfl (HBU4.out.same HS2.out) HLe2.out ?_
          intro v53 W3 hO hg
          have HS3 := Lib.hid (HS2.out.grown hg (fun k e => (HO2.out.lt k e).1))
          have HO3 := Lib.hid hO
          clear hO hg
          refine ⟨HS3.out, ?_⟩
          try simp only [Act.put, List.setIfInBounds_toArray, List.set_cons_zero, List.set_cons_succ]
          refine reg_three 6 10 11 rfl rfl rfl (by kernel_rfl) (by kernel_rfl) (by kernel_rfl) (by kernel_rfl) ?_ ?_ ?_
          · go_simp
            refine (HZ3 _ _ HO3.out.bs).out.mono ?_
            rintro e W4 ⟨v3, d3, rfl, hr3, hd3, hs3, -⟩
            have HS4 := Lib.hid (HS3.out.trans hs3)
            obtain ⟨pa5, pc5, rfl⟩ := hr3.form (n := 0) rfl
            obtain ⟨da5, dc5, rfl⟩ := hd3.form0 (n := 0) rfl
            clear hs3 hr3 hd3
            refine ⟨HS4.out, ?_⟩
            try simp only [Act.put, List.setIfInBounds_toArray, List.set_cons_zero, List.set_cons_succ]
            refine reg_take (v := ?_) 7 (some 47) rfl rfl (by kernel_rfl) (fun _ _ _ h => by cases h.1) (by kernel_rfl) HS4.out ?_ ?_
            rotate_left
            · (intro w' hw'; go_simp; try with_reducible rfl)
            try simp only [Act.put, List.setIfInBounds_toArray, List.set_cons_zero, List.set_cons_succ]
            refine reg_take (v := ?_) 8 (some 55) rfl rfl (by kernel_rfl) (fun _ _ _ h => by cases h.1) (by kernel_rfl) HS4.out ?_ ?_
            rotate_left
            · (intro w' hw'; go_simp; try with_reducible rfl)
            try simp only [Act.put, List.setIfInBounds_toArray, List.set_cons_zero, List.set_cons_succ]
            refine reg_take (v := ?_) 9 (some 56) rfl rfl (by kernel_rfl) (fun _ _ _ h => by cases h.1) (by kernel_rfl) HS4.out ?_ ?_
            rotate_left
            · (intro w' hw'; go_simp; try with_reducible rfl)
            try simp only [Act.put, List.setIfInBounds_toArray, List.set_cons_zero, List.set_cons_succ]
            refine reg_two 10 11 rfl rfl (by kernel_rfl) (by kernel_rfl) (by kernel_rfl) ?_ ?_
            · go_simp
              have HS5 := Lib.hid (HS4.out.trans (Same.alloc W4 (atO 35 ⟨0, [], 0, 0, false⟩ (.slice none 0 0))))
              refine ⟨HS5.out, ?_⟩
              try simp only [Act.put, List.setIfInBounds_toArray, List.set_cons_zero, List.set_cons_succ]
              have HP5 := Lib.hid (heap_alloc_new W4 (atO 35 ⟨0, [], 0, 0, false⟩ (.slice none 0 0)))
              have HBP := Lib.hid HS4.out.size
              generalize W4.alloc (atO 35 ⟨0, [], 0, 0, false⟩ (.slice none 0 0)) = W5 at *
              refine reg_one 11 rfl (by kernel_rfl) (by kernel_rfl) ?_
              · go_simp
                have HS6 := Lib.hid (HS5.out.trans (Same.alloc W5 (ftO 26 ⟨0, 0, []⟩ (.slice none 0 0))))
                refine ⟨HS6.out, ?_⟩
                try simp only [Act.put, List.setIfInBounds_toArray, List.set_cons_zero, List.set_cons_succ]
                have HP6 := Lib.hid ((Same.alloc W5 (ftO 26 ⟨0, 0, []⟩ (.slice none 0 0))).block HP5.out)
                have HQ6 := Lib.hid (heap_alloc_new W5 (ftO 26 ⟨0, 0, []⟩ (.slice none 0 0)))
                have HBQ := Lib.hid HS5.out.size
                have HNE := Lib.hid (Nat.ne_of_gt (Array.getElem?_eq_some_iff.1 HP5.out).1)
                generalize W5.alloc (ftO 26 ⟨0, 0, []⟩ (.slice none 0 0)) = W6 at *
                refine reg_one 12 rfl (by kernel_rfl) (by kernel_rfl) ?_
                refine wp_store_row 35 _ _ (by rfl) (W4.heap.size) #[.int .i64 0, .slice pa5 0 pc5, .int .u32 0, .int .i64 0, .bool false] (by rfl) (by rfl) 35 _ HP6.out (by kernel_rfl) (by rfl) (by simp [Value.oneCell']) ?_
                have hQ2 := (setRow_other W6 (W4.heap.size) (W5.heap.size) #[.int .i64 0, .slice pa5 0 pc5, .int .u32 0, .int .i64 0, .bool false] (Ne.symm (Ne.symm HNE.out))).trans HQ6.out
                have hS2 := ((Kept.refl [W4.heap.size] W6).mod (setRow_mod (W4.heap.size) W6 #[.int .i64 0, .slice pa5 0 pc5, .int .u32 0, .int .i64 0, .bool false]) (.inl (by simp))).to_same HS6.out (fun s hs => by rw [List.mem_singleton.1 hs]; exact HBP.out)
                refine ⟨hS2, ?_⟩
                try simp only [Act.put]
                generalize W6.setRow (W4.heap.size) #[.int .i64 0, .slice pa5 0 pc5, .int .u32 0, .int .i64 0, .bool false] = V2 at *
                refine reg_one 13 rfl (by kernel_rfl) (by kernel_rfl) ?_
                refine wp_store_row 26 _ _ (by rfl) (W5.heap.size) #[.int .i64 3, .int .i64 1, .slice da5 0 dc5] (by rfl) (by rfl) 26 _ hQ2 (by kernel_rfl) (by rfl) (by simp [Value.oneCell']) ?_
                have hQ3 := setRow_heap V2 (W5.heap.size) _ #[.int .i64 3, .int .i64 1, .slice da5 0 dc5] _ _ hQ2
                have hS3 := ((Kept.refl [W5.heap.size] V2).mod (setRow_mod (W5.heap.size) V2 #[.int .i64 3, .int .i64 1, .slice da5 0 dc5]) (.inl (by simp))).to_same hS2 (fun s hs => by rw [List.mem_singleton.1 hs]; exact HBQ.out)
                refine ⟨hS3, ?_⟩
                try simp only [Act.put]
                refine reg_done (by kernel_rfl) ?_
                refine ⟨rfl, [(.slice (some ⟨W0.heap.size, 0, none⟩) 0 0), (.slice (some ⟨b1, o1, none⟩) nX c1), v50, (.slice (some ⟨b1, o1, none⟩) nX c1), (.slice (some ⟨b1, o1, none⟩) 4 c1), v53, T3 (.slice pa5 0 pc5) (.slice da5 0 dc5), T3 (.slice pa5 0 pc5) (.slice da5 0 dc5), A3 (.slice pa5 0 pc5), F3 (.slice da5 0 dc5), .pointer (some ⟨W4.heap.size, 0, none⟩), .pointer (some ⟨W5.heap.size, 0, none⟩)], ?_, _, _, _, _, _, _, _, _, _, _, _, _, _, rfl, hS3, hQ3⟩
                simp only [putAll, List.zip_cons_cons, List.zip_nil_left, Act.put, List.setIfInBounds_toArray, List.set_cons_zero, List.set_cons_succ, T3, A3, F3]
            · go_simp
              have HS5 := Lib.hid (HS4.out.trans (Same.alloc W4 (ftO 26 ⟨0, 0, []⟩ (.slice none 0 0))))
              refine ⟨HS5.out, ?_⟩
              try simp only [Act.put, List.setIfInBounds_toArray, List.set_cons_zero, List.set_cons_succ]
              have HQ5 := Lib.hid (heap_alloc_new W4 (ftO 26 ⟨0, 0, []⟩ (.slice none 0 0)))
              have HBQ := Lib.hid HS4.out.size
              generalize W4.alloc (ftO 26 ⟨0, 0, []⟩ (.slice none 0 0)) = W5 at *
              refine reg_one 10 rfl (by kernel_rfl) (by kernel_rfl) ?_
              · go_simp
                have HS6 := Lib.hid (HS5.out.trans (Same.alloc W5 (atO 35 ⟨0, [], 0, 0, false⟩ (.slice none 0 0))))
                refine ⟨HS6.out, ?_⟩
                try simp only [Act.put, List.setIfInBounds_toArray, List.set_cons_zero, List.set_cons_succ]
                have HQ6 := Lib.hid ((Same.alloc W5 (atO 35 ⟨0, [], 0, 0, false⟩ (.slice none 0 0))).block HQ5.out)
                have HP6 := Lib.hid (heap_alloc_new W5 (atO 35 ⟨0, [], 0, 0, false⟩ (.slice none 0 0)))
                have HBP := Lib.hid HS5.out.size
                have HNE := Lib.hid (Nat.ne_of_gt (Array.getElem?_eq_some_iff.1 HQ5.out).1)
                generalize W5.alloc (atO 35 ⟨0, [], 0, 0, false⟩ (.slice none 0 0)) = W6 at *
                refine reg_one 12 rfl (by kernel_rfl) (by kernel_rfl) ?_
                refine wp_store_row 35 _ _ (by rfl) (W5.heap.size) #[.int .i64 0, .slice pa5 0 pc5, .int .u32 0, .int .i64 0, .bool false] (by rfl) (by rfl) 35 _ HP6.out (by kernel_rfl) (by rfl) (by simp [Value.oneCell']) ?_
                have hQ2 := (setRow_other W6 (W5.heap.size) (W4.heap.size) #[.int .i64 0, .slice pa5 0 pc5, .int .u32 0, .int .i64 0, .bool false] (Ne.symm HNE.out)).trans HQ6.out
                have hS2 := ((Kept.refl [W5.heap.size] W6).mod (setRow_mod (W5.heap.size) W6 #[.int .i64 0, .slice pa5 0 pc5, .int .u32 0, .int .i64 0, .bool false]) (.inl (by simp))).to_same HS6.out (fun s hs => by rw [List.mem_singleton.1 hs]; exact HBP.out)
                refine ⟨hS2, ?_⟩
                try simp only [Act.put]
                generalize W6.setRow (W5.heap.size) #[.int .i64 0, .slice pa5 0 pc5, .int .u32 0, .int .i64 0, .bool false] = V2 at *
                refine reg_one 13 rfl (by kernel_rfl) (by kernel_rfl) ?_
                refine wp_store_row 26 _ _ (by rfl) (W4.heap.size) #[.int .i64 3, .int .i64 1, .slice da5 0 dc5] (by rfl) (by rfl) 26 _ hQ2 (by kernel_rfl) (by rfl) (by simp [Value.oneCell']) ?_
                have hQ3 := setRow_heap V2 (W4.heap.size) _ #[.int .i64 3, .int .i64 1, .slice da5 0 dc5] _ _ hQ2
                have hS3 := ((Kept.refl [W4.heap.size] V2).mod (setRow_mod (W4.heap.size) V2 #[.int .i64 3, .int .i64 1, .slice da5 0 dc5]) (.inl (by simp))).to_same hS2 (fun s hs => by rw [List.mem_singleton.1 hs]; exact HBQ.out)
                refine ⟨hS3, ?_⟩
                try simp only [Act.put]
                refine reg_done (by kernel_rfl) ?_
                refine ⟨rfl, [(.slice (some ⟨W0.heap.size, 0, none⟩) 0 0), (.slice (some ⟨b1, o1, none⟩) nX c1), v50, (.slice (some ⟨b1, o1, none⟩) nX c1), (.slice (some ⟨b1, o1, none⟩) 4 c1), v53, T3 (.slice pa5 0 pc5) (.slice da5 0 dc5), T3 (.slice pa5 0 pc5) (.slice da5 0 dc5), A3 (.slice pa5 0 pc5), F3 (.slice da5 0 dc5), .pointer (some ⟨W5.heap.size, 0, none⟩), .pointer (some ⟨W4.heap.size, 0, none⟩)], ?_, _, _, _, _, _, _, _, _, _, _, _, _, _, rfl, hS3, hQ3⟩
                simp only [putAll, List.zip_cons_cons, List.zip_nil_left, Act.put, List.setIfInBounds_toArray, List.set_cons_zero, List.set_cons_succ, T3, A3, F3]
          · go_simp
            have HS4 := Lib.hid (HS3.out.trans (Same.alloc W3 (atO 35 ⟨0, [], 0, 0, false⟩ (.slice none 0 0))))
            refine ⟨HS4.out, ?_⟩
            try simp only [Act.put, List.setIfInBounds_toArray, List.set_cons_zero, List.set_cons_succ]
            have HO4 := Lib.hid (HO3.out.same (Same.alloc W3 (atO 35 ⟨0, [], 0, 0, false⟩ (.slice none 0 0))))
            have HP4 := Lib.hid (heap_alloc_new W3 (atO 35 ⟨0, [], 0, 0, false⟩ (.slice none 0 0)))
            have HBP := Lib.hid HS3.out.size
            generalize W3.alloc (atO 35 ⟨0, [], 0, 0, false⟩ (.slice none 0 0)) = W4 at *
            refine reg_two 6 11 rfl rfl (by kernel_rfl) (by kernel_rfl) (by kernel_rfl) ?_ ?_
            · go_simp
              refine (HZ3 _ _ HO4.out.bs).out.mono ?_
              rintro e W5 ⟨v3, d3, rfl, hr3, hd3, hs3, -⟩
              have HS5 := Lib.hid (HS4.out.trans hs3)
              have HP5 := Lib.hid (hs3.block HP4.out)
              obtain ⟨pa5, pc5, rfl⟩ := hr3.form (n := 0) rfl
              obtain ⟨da5, dc5, rfl⟩ := hd3.form0 (n := 0) rfl
              clear hs3 hr3 hd3
              refine ⟨HS5.out, ?_⟩
              try simp only [Act.put, List.setIfInBounds_toArray, List.set_cons_zero, List.set_cons_succ]
              refine reg_take (v := ?_) 7 (some 47) rfl rfl (by kernel_rfl) (fun _ _ _ h => by cases h.1) (by kernel_rfl) HS5.out ?_ ?_
              rotate_left
              · (intro w' hw'; go_simp; try with_reducible rfl)
              try simp only [Act.put, List.setIfInBounds_toArray, List.set_cons_zero, List.set_cons_succ]
              refine reg_take (v := ?_) 8 (some 55) rfl rfl (by kernel_rfl) (fun _ _ _ h => by cases h.1) (by kernel_rfl) HS5.out ?_ ?_
              rotate_left
              · (intro w' hw'; go_simp; try with_reducible rfl)
              try simp only [Act.put, List.setIfInBounds_toArray, List.set_cons_zero, List.set_cons_succ]
              refine reg_take (v := ?_) 9 (some 56) rfl rfl (by kernel_rfl) (fun _ _ _ h => by cases h.1) (by kernel_rfl) HS5.out ?_ ?_
              rotate_left
              · (intro w' hw'; go_simp; try with_reducible rfl)
              try simp only [Act.put, List.setIfInBounds_toArray, List.set_cons_zero, List.set_cons_succ]
              refine reg_one 11 rfl (by kernel_rfl) (by kernel_rfl) ?_
              · go_simp
                have HS6 := Lib.hid (HS5.out.trans (Same.alloc W5 (ftO 26 ⟨0, 0, []⟩ (.slice none 0 0))))
                refine ⟨HS6.out, ?_⟩
                try simp only [Act.put, List.setIfInBounds_toArray, List.set_cons_zero, List.set_cons_succ]
                have HP6 := Lib.hid ((Same.alloc W5 (ftO 26 ⟨0, 0, []⟩ (.slice none 0 0))).block HP5.out)
                have HQ6 := Lib.hid (heap_alloc_new W5 (ftO 26 ⟨0, 0, []⟩ (.slice none 0 0)))
                have HBQ := Lib.hid HS5.out.size
                have HNE := Lib.hid (Nat.ne_of_gt (Array.getElem?_eq_some_iff.1 HP5.out).1)
                generalize W5.alloc (ftO 26 ⟨0, 0, []⟩ (.slice none 0 0)) = W6 at *
                refine reg_one 12 rfl (by kernel_rfl) (by kernel_rfl) ?_
                refine wp_store_row 35 _ _ (by rfl) (W3.heap.size) #[.int .i64 0, .slice pa5 0 pc5, .int .u32 0, .int .i64 0, .bool false] (by rfl) (by rfl) 35 _ HP6.out (by kernel_rfl) (by rfl) (by simp [Value.oneCell']) ?_
                have hQ2 := (setRow_other W6 (W3.heap.size) (W5.heap.size) #[.int .i64 0, .slice pa5 0 pc5, .int .u32 0, .int .i64 0, .bool false] (Ne.symm (Ne.symm HNE.out))).trans HQ6.out
                have hS2 := ((Kept.refl [W3.heap.size] W6).mod (setRow_mod (W3.heap.size) W6 #[.int .i64 0, .slice pa5 0 pc5, .int .u32 0, .int .i64 0, .bool false]) (.inl (by simp))).to_same HS6.out (fun s hs => by rw [List.mem_singleton.1 hs]; exact HBP.out)
                refine ⟨hS2, ?_⟩
                try simp only [Act.put]
                generalize W6.setRow (W3.heap.size) #[.int .i64 0, .slice pa5 0 pc5, .int .u32 0, .int .i64 0, .bool false] = V2 at *
                refine reg_one 13 rfl (by kernel_rfl) (by kernel_rfl) ?_
                refine wp_store_row 26 _ _ (by rfl) (W5.heap.size) #[.int .i64 3, .int .i64 1, .slice da5 0 dc5] (by rfl) (by rfl) 26 _ hQ2 (by kernel_rfl) (by rfl) (by simp [Value.oneCell']) ?_
                have hQ3 := setRow_heap V2 (W5.heap.size) _ #[.int .i64 3, .int .i64 1, .slice da5 0 dc5] _ _ hQ2
                have hS3 := ((Kept.refl [W5.heap.size] V2).mod (setRow_mod (W5.heap.size) V2 #[.int .i64 3, .int .i64 1, .slice da5 0 dc5]) (.inl (by simp))).to_same hS2 (fun s hs => by rw [List.mem_singleton.1 hs]; exact HBQ.out)
                refine ⟨hS3, ?_⟩
                try simp only [Act.put]
                refine reg_done (by kernel_rfl) ?_
                refine ⟨rfl, [(.slice (some ⟨W0.heap.size, 0, none⟩) 0 0), (.slice (some ⟨b1, o1, none⟩) nX c1), v50, (.slice (some ⟨b1, o1, none⟩) nX c1), (.slice (some ⟨b1, o1, none⟩) 4 c1), v53, T3 (.slice pa5 0 pc5) (.slice da5 0 dc5), T3 (.slice pa5 0 pc5) (.slice da5 0 dc5), A3 (.slice pa5 0 pc5), F3 (.slice da5 0 dc5), .pointer (some ⟨W3.heap.size, 0, none⟩), .pointer (some ⟨W5.heap.size, 0, none⟩)], ?_, _, _, _, _, _, _, _, _, _, _, _, _, _, rfl, hS3, hQ3⟩
                simp only [putAll, List.zip_cons_cons, List.zip_nil_left, Act.put, List.setIfInBounds_toArray, List.set_cons_zero, List.set_cons_succ, T3, A3, F3]
            · go_simp
              have HS5 := Lib.hid (HS4.out.trans (Same.alloc W4 (ftO 26 ⟨0, 0, []⟩ (.slice none 0 0))))
              refine ⟨HS5.out, ?_⟩
              try simp only [Act.put, List.setIfInBounds_toArray, List.set_cons_zero, List.set_cons_succ]
              have HO5 := Lib.hid (HO4.out.same (Same.alloc W4 (ftO 26 ⟨0, 0, []⟩ (.slice none 0 0))))
              have HP5 := Lib.hid ((Same.alloc W4 (ftO 26 ⟨0, 0, []⟩ (.slice none 0 0))).block HP4.out)
              have HQ5 := Lib.hid (heap_alloc_new W4 (ftO 26 ⟨0, 0, []⟩ (.slice none 0 0)))
              have HBQ := Lib.hid HS4.out.size
              have HNE := Lib.hid (Nat.ne_of_gt (Array.getElem?_eq_some_iff.1 HP4.out).1)
              generalize W4.alloc (ftO 26 ⟨0, 0, []⟩ (.slice none 0 0)) = W5 at *
              refine reg_one 6 rfl (by kernel_rfl) (by kernel_rfl) ?_
              · go_simp
                refine (HZ3 _ _ HO5.out.bs).out.mono ?_
                rintro e W6 ⟨v3, d3, rfl, hr3, hd3, hs3, -⟩
                have HS6 := Lib.hid (HS5.out.trans hs3)
                have HP6 := Lib.hid (hs3.block HP5.out)
                have HQ6 := Lib.hid (hs3.block HQ5.out)
                obtain ⟨pa5, pc5, rfl⟩ := hr3.form (n := 0) rfl
                obtain ⟨da5, dc5, rfl⟩ := hd3.form0 (n := 0) rfl
                clear hs3 hr3 hd3
                refine ⟨HS6.out, ?_⟩
                try simp only [Act.put, List.setIfInBounds_toArray, List.set_cons_zero, List.set_cons_succ]
                refine reg_take (v := ?_) 7 (some 47) rfl rfl (by kernel_rfl) (fun _ _ _ h => by cases h.1) (by kernel_rfl) HS6.out ?_ ?_
                rotate_left
                · (intro w' hw'; go_simp; try with_reducible rfl)
                try simp only [Act.put, List.setIfInBounds_toArray, List.set_cons_zero, List.set_cons_succ]
                refine reg_take (v := ?_) 8 (some 55) rfl rfl (by kernel_rfl) (fun _ _ _ h => by cases h.1) (by kernel_rfl) HS6.out ?_ ?_
                rotate_left
                · (intro w' hw'; go_simp; try with_reducible rfl)
                try simp only [Act.put, List.setIfInBounds_toArray, List.set_cons_zero, List.set_cons_succ]
                refine reg_take (v := ?_) 9 (some 56) rfl rfl (by kernel_rfl) (fun _ _ _ h => by cases h.1) (by kernel_rfl) HS6.out ?_ ?_
                rotate_left
                · (intro w' hw'; go_simp; try with_reducible rfl)
                try simp only [Act.put, List.setIfInBounds_toArray, List.set_cons_zero, List.set_cons_succ]
                refine reg_one 12 rfl (by kernel_rfl) (by kernel_rfl) ?_
                refine wp_store_row 35 _ _ (by rfl) (W3.heap.size) #[.int .i64 0, .slice pa5 0 pc5, .int .u32 0, .int .i64 0, .bool false] (by rfl) (by rfl) 35 _ HP6.out (by kernel_rfl) (by rfl) (by simp [Value.oneCell']) ?_
                have hQ2 := (setRow_other W6 (W3.heap.size) (W4.heap.size) #[.int .i64 0, .slice pa5 0 pc5, .int .u32 0, .int .i64 0, .bool false] (Ne.symm (Ne.symm HNE.out))).trans HQ6.out
                have hS2 := ((Kept.refl [W3.heap.size] W6).mod (setRow_mod (W3.heap.size) W6 #[.int .i64 0, .slice pa5 0 pc5, .int .u32 0, .int .i64 0, .bool false]) (.inl (by simp))).to_same HS6.out (fun s hs => by rw [List.mem_singleton.1 hs]; exact HBP.out)
                refine ⟨hS2, ?_⟩
                try simp only [Act.put]
                generalize W6.setRow (W3.heap.size) #[.int .i64 0, .slice pa5 0 pc5, .int .u32 0, .int .i64 0, .bool false] = V2 at *
                refine reg_one 13 rfl (by kernel_rfl) (by kernel_rfl) ?_
                refine wp_store_row 26 _ _ (by rfl) (W4.heap.size) #[.int .i64 3, .int .i64 1, .slice da5 0 dc5] (by rfl) (by rfl) 26 _ hQ2 (by kernel_rfl) (by rfl) (by simp [Value.oneCell']) ?_
                have hQ3 := setRow_heap V2 (W4.heap.size) _ #[.int .i64 3, .int .i64 1, .slice da5 0 dc5] _ _ hQ2
                have hS3 := ((Kept.refl [W4.heap.size] V2).mod (setRow_mod (W4.heap.size) V2 #[.int .i64 3, .int .i64 1, .slice da5 0 dc5]) (.inl (by simp))).to_same hS2 (fun s hs => by rw [List.mem_singleton.1 hs]; exact HBQ.out)
                refine ⟨hS3, ?_⟩
                try simp only [Act.put]
                refine reg_done (by kernel_rfl) ?_
                refine ⟨rfl, [(.slice (some ⟨W0.heap.size, 0, none⟩) 0 0), (.slice (some ⟨b1, o1, none⟩) nX c1), v50, (.slice (some ⟨b1, o1, none⟩) nX c1), (.slice (some ⟨b1, o1, none⟩) 4 c1), v53, T3 (.slice pa5 0 pc5) (.slice da5 0 dc5), T3 (.slice pa5 0 pc5) (.slice da5 0 dc5), A3 (.slice pa5 0 pc5), F3 (.slice da5 0 dc5), .pointer (some ⟨W3.heap.size, 0, none⟩), .pointer (some ⟨W4.heap.size, 0, none⟩)], ?_, _, _, _, _, _, _, _, _, _, _, _, _, _, rfl, hS3, hQ3⟩
                simp only [putAll, List.zip_cons_cons, List.zip_nil_left, Act.put, List.setIfInBounds_toArray, List.set_cons_zero, List.set_cons_succ, T3, A3, F3]
          · go_simp
            have HS4 := Lib.hid (HS3.out.trans (Same.alloc W3 (ftO 26 ⟨0, 0, []⟩ (.slice none 0 0))))
            refine ⟨HS4.out, ?_⟩
            try simp only [Act.put, List.setIfInBounds_toArray, List.set_cons_zero, List.set_cons_succ]
            have HO4 := Lib.hid (HO3.out.same (Same.alloc W3 (ftO 26 ⟨0, 0, []⟩ (.slice none 0 0))))
            have HQ4 := Lib.hid (heap_alloc_new W3 (ftO 26 ⟨0, 0, []⟩ (.slice none 0 0)))
            have HBQ := Lib.hid HS3.out.size
            generalize W3.alloc (ftO 26 ⟨0, 0, []⟩ (.slice none 0 0)) = W4 at *
            refine reg_two 6 10 rfl rfl (by kernel_rfl) (by kernel_rfl) (by kernel_rfl) ?_ ?_
            · go_simp
              refine (HZ3 _ _ HO4.out.bs).out.mono ?_
              rintro e W5 ⟨v3, d3, rfl, hr3, hd3, hs3, -⟩
              have HS5 := Lib.hid (HS4.out.trans hs3)
              have HQ5 := Lib.hid (hs3.block HQ4.out)
              obtain ⟨pa5, pc5, rfl⟩ := hr3.form (n := 0) rfl
              obtain ⟨da5, dc5, rfl⟩ := hd3.form0 (n := 0) rfl
              clear hs3 hr3 hd3
              refine ⟨HS5.out, ?_⟩
              try simp only [Act.put, List.setIfInBounds_toArray, List.set_cons_zero, List.set_cons_succ]
              refine reg_take (v := ?_) 7 (some 47) rfl rfl (by kernel_rfl) (fun _ _ _ h => by cases h.1) (by kernel_rfl) HS5.out ?_ ?_
              rotate_left
              · (intro w' hw'; go_simp; try with_reducible rfl)
              try simp only [Act.put, List.setIfInBounds_toArray, List.set_cons_zero, List.set_cons_succ]
              refine reg_take (v := ?_) 8 (some 55) rfl rfl (by kernel_rfl) (fun _ _ _ h => by cases h.1) (by kernel_rfl) HS5.out ?_ ?_
              rotate_left
              · (intro w' hw'; go_simp; try with_reducible rfl)
              try simp only [Act.put, List.setIfInBounds_toArray, List.set_cons_zero, List.set_cons_succ]
              refine reg_take (v := ?_) 9 (some 56) rfl rfl (by kernel_rfl) (fun _ _ _ h => by cases h.1) (by kernel_rfl) HS5.out ?_ ?_
              rotate_left
              · (intro w' hw'; go_simp; try with_reducible rfl)
              try simp only [Act.put, List.setIfInBounds_toArray, List.set_cons_zero, List.set_cons_succ]
              refine reg_one 10 rfl (by kernel_rfl) (by kernel_rfl) ?_
              · go_simp
                have HS6 := Lib.hid (HS5.out.trans (Same.alloc W5 (atO 35 ⟨0, [], 0, 0, false⟩ (.slice none 0 0))))
                refine ⟨HS6.out, ?_⟩
                try simp only [Act.put, List.setIfInBounds_toArray, List.set_cons_zero, List.set_cons_succ]
                have HQ6 := Lib.hid ((Same.alloc W5 (atO 35 ⟨0, [], 0, 0, false⟩ (.slice none 0 0))).block HQ5.out)
                have HP6 := Lib.hid (heap_alloc_new W5 (atO 35 ⟨0, [], 0, 0, false⟩ (.slice none 0 0)))
                have HBP := Lib.hid HS5.out.size
                have HNE := Lib.hid (Nat.ne_of_gt (Array.getElem?_eq_some_iff.1 HQ5.out).1)
                generalize W5.alloc (atO 35 ⟨0, [], 0, 0, false⟩ (.slice none 0 0)) = W6 at *
                refine reg_one 12 rfl (by kernel_rfl) (by kernel_rfl) ?_
                refine wp_store_row 35 _ _ (by rfl) (W5.heap.size) #[.int .i64 0, .slice pa5 0 pc5, .int .u32 0, .int .i64 0, .bool false] (by rfl) (by rfl) 35 _ HP6.out (by kernel_rfl) (by rfl) (by simp [Value.oneCell']) ?_
                have hQ2 := (setRow_other W6 (W5.heap.size) (W3.heap.size) #[.int .i64 0, .slice pa5 0 pc5, .int .u32 0, .int .i64 0, .bool false] (Ne.symm HNE.out)).trans HQ6.out
                have hS2 := ((Kept.refl [W5.heap.size] W6).mod (setRow_mod (W5.heap.size) W6 #[.int .i64 0, .slice pa5 0 pc5, .int .u32 0, .int .i64 0, .bool false]) (.inl (by simp))).to_same HS6.out (fun s hs => by rw [List.mem_singleton.1 hs]; exact HBP.out)
                refine ⟨hS2, ?_⟩
                try simp only [Act.put]
                generalize W6.setRow (W5.heap.size) #[.int .i64 0, .slice pa5 0 pc5, .int .u32 0, .int .i64 0, .bool false] = V2 at *
                refine reg_one 13 rfl (by kernel_rfl) (by kernel_rfl) ?_
                refine wp_store_row 26 _ _ (by rfl) (W3.heap.size) #[.int .i64 3, .int .i64 1, .slice da5 0 dc5] (by rfl) (by rfl) 26 _ hQ2 (by kernel_rfl) (by rfl) (by simp [Value.oneCell']) ?_
                have hQ3 := setRow_heap V2 (W3.heap.size) _ #[.int .i64 3, .int .i64 1, .slice da5 0 dc5] _ _ hQ2
                have hS3 := ((Kept.refl [W3.heap.size] V2).mod (setRow_mod (W3.heap.size) V2 #[.int .i64 3, .int .i64 1, .slice da5 0 dc5]) (.inl (by simp))).to_same hS2 (fun s hs => by rw [List.mem_singleton.1 hs]; exact HBQ.out)
                refine ⟨hS3, ?_⟩
                try simp only [Act.put]
                refine reg_done (by kernel_rfl) ?_
                refine ⟨rfl, [(.slice (some ⟨W0.heap.size, 0, none⟩) 0 0), (.slice (some ⟨b1, o1, none⟩) nX c1), v50, (.slice (some ⟨b1, o1, none⟩) nX c1), (.slice (some ⟨b1, o1, none⟩) 4 c1), v53, T3 (.slice pa5 0 pc5) (.slice da5 0 dc5), T3 (.slice pa5 0 pc5) (.slice da5 0 dc5), A3 (.slice pa5 0 pc5), F3 (.slice da5 0 dc5), .pointer (some ⟨W5.heap.size, 0, none⟩), .pointer (some ⟨W3.heap.size, 0, none⟩)], ?_, _, _, _, _, _, _, _, _, _, _, _, _, _, rfl, hS3, hQ3⟩
                simp only [putAll, List.zip_cons_cons, List.zip_nil_left, Act.put, List.setIfInBounds_toArray, List.set_cons_zero, List.set_cons_succ, T3, A3, F3]
            · go_simp
              have HS5 := Lib.hid (HS4.out.trans (Same.alloc W4 (atO 35 ⟨0, [], 0, 0, false⟩ (.slice none 0 0))))
              refine ⟨HS5.out, ?_⟩
              try simp only [Act.put, List.setIfInBounds_toArray, List.set_cons_zero, List.set_cons_succ]
              have HO5 := Lib.hid (HO4.out.same (Same.alloc W4 (atO 35 ⟨0, [], 0, 0, false⟩ (.slice none 0 0))))
              have HQ5 := Lib.hid ((Same.alloc W4 (atO 35 ⟨0, [], 0, 0, false⟩ (.slice none 0 0))).block HQ4.out)
              have HP5 := Lib.hid (heap_alloc_new W4 (atO 35 ⟨0, [], 0, 0, false⟩ (.slice none 0 0)))
              have HBP := Lib.hid HS4.out.size
              have HNE := Lib.hid (Nat.ne_of_gt (Array.getElem?_eq_some_iff.1 HQ4.out).1)
              generalize W4.alloc (atO 35 ⟨0, [], 0, 0, false⟩ (.slice none 0 0)) = W5 at *
              refine reg_one 6 rfl (by kernel_rfl) (by kernel_rfl) ?_
              · go_simp
                refine (HZ3 _ _ HO5.out.bs).out.mono ?_
                rintro e W6 ⟨v3, d3, rfl, hr3, hd3, hs3, -⟩
                have HS6 := Lib.hid (HS5.out.trans hs3)
                have HP6 := Lib.hid (hs3.block HP5.out)
                have HQ6 := Lib.hid (hs3.block HQ5.out)
                obtain ⟨pa5, pc5, rfl⟩ := hr3.form (n := 0) rfl
                obtain ⟨da5, dc5, rfl⟩ := hd3.form0 (n := 0) rfl
                clear hs3 hr3 hd3
                refine ⟨HS6.out, ?_⟩
                try simp only [Act.put, List.setIfInBounds_toArray, List.set_cons_zero, List.set_cons_succ]
                refine reg_take (v := ?_) 7 (some 47) rfl rfl (by kernel_rfl) (fun _ _ _ h => by cases h.1) (by kernel_rfl) HS6.out ?_ ?_
                rotate_left
                · (intro w' hw'; go_simp; try with_reducible rfl)
                try simp only [Act.put, List.setIfInBounds_toArray, List.set_cons_zero, List.set_cons_succ]
                refine reg_take (v := ?_) 8 (some 55) rfl rfl (by kernel_rfl) (fun _ _ _ h => by cases h.1) (by kernel_rfl) HS6.out ?_ ?_
                rotate_left
                · (intro w' hw'; go_simp; try with_reducible rfl)
                try simp only [Act.put, List.setIfInBounds_toArray, List.set_cons_zero, List.set_cons_succ]
                refine reg_take (v := ?_) 9 (some 56) rfl rfl (by kernel_rfl) (fun _ _ _ h => by cases h.1) (by kernel_rfl) HS6.out ?_ ?_
                rotate_left
                · (intro w' hw'; go_simp; try with_reducible rfl)
                try simp only [Act.put, List.setIfInBounds_toArray, List.set_cons_zero, List.set_cons_succ]
                refine reg_one 12 rfl (by kernel_rfl) (by kernel_rfl) ?_
                refine wp_store_row 35 _ _ (by rfl) (W4.heap.size) #[.int .i64 0, .slice pa5 0 pc5, .int .u32 0, .int .i64 0, .bool false] (by rfl) (by rfl) 35 _ HP6.out (by kernel_rfl) (by rfl) (by simp [Value.oneCell']) ?_
                have hQ2 := (setRow_other W6 (W4.heap.size) (W3.heap.size) #[.int .i64 0, .slice pa5 0 pc5, .int .u32 0, .int .i64 0, .bool false] (Ne.symm HNE.out)).trans HQ6.out
                have hS2 := ((Kept.refl [W4.heap.size] W6).mod (setRow_mod (W4.heap.size) W6 #[.int .i64 0, .slice pa5 0 pc5, .int .u32 0, .int .i64 0, .bool false]) (.inl (by simp))).to_same HS6.out (fun s hs => by rw [List.mem_singleton.1 hs]; exact HBP.out)
                refine ⟨hS2, ?_⟩
                try simp only [Act.put]
                generalize W6.setRow (W4.heap.size) #[.int .i64 0, .slice pa5 0 pc5, .int .u32 0, .int .i64 0, .bool false] = V2 at *
                refine reg_one 13 rfl (by kernel_rfl) (by kernel_rfl) ?_
                refine wp_store_row 26 _ _ (by rfl) (W3.heap.size) #[.int .i64 3, .int .i64 1, .slice da5 0 dc5] (by rfl) (by rfl) 26 _ hQ2 (by kernel_rfl) (by rfl) (by simp [Value.oneCell']) ?_
                have hQ3 := setRow_heap V2 (W3.heap.size) _ #[.int .i64 3, .int .i64 1, .slice da5 0 dc5] _ _ hQ2
                have hS3 := ((Kept.refl [W3.heap.size] V2).mod (setRow_mod (W3.heap.size) V2 #[.int .i64 3, .int .i64 1, .slice da5 0 dc5]) (.inl (by simp))).to_same hS2 (fun s hs => by rw [List.mem_singleton.1 hs]; exact HBQ.out)
                refine ⟨hS3, ?_⟩
                try simp only [Act.put]
                refine reg_done (by kernel_rfl) ?_
                refine ⟨rfl, [(.slice (some ⟨W0.heap.size, 0, none⟩) 0 0), (.slice (some ⟨b1, o1, none⟩) nX c1), v50, (.slice (some ⟨b1, o1, none⟩) nX c1), (.slice (some ⟨b1, o1, none⟩) 4 c1), v53, T3 (.slice pa5 0 pc5) (.slice da5 0 dc5), T3 (.slice pa5 0 pc5) (.slice da5 0 dc5), A3 (.slice pa5 0 pc5), F3 (.slice da5 0 dc5), .pointer (some ⟨W4.heap.size, 0, none⟩), .pointer (some ⟨W3.heap.size, 0, none⟩)], ?_, _, _, _, _, _, _, _, _, _, _, _, _, _, rfl, hS3, hQ3⟩
                simp only [putAll, List.zip_cons_cons, List.zip_nil_left, Act.put, List.setIfInBounds_toArray, List.set_cons_zero, List.set_cons_succ, T3, A3, F3]
        · go_simp
          have HS3 := Lib.hid (HS2.out.trans (Same.alloc W2 (atO 35 ⟨0, [], 0, 0, false⟩ (.slice none 0 0))))
          refine ⟨HS3.out, ?_⟩
          try simp only [Act.put, List.setIfInBounds_toArray, List.set_cons_zero, List.set_cons_succ]
          have HO3 := Lib.hid (HO2.out.same (Same.alloc W2 (atO 35 ⟨0, [], 0, 0, false⟩ (.slice none 0 0))))
          have HP3 := Lib.hid (heap_alloc_new W2 (atO 35 ⟨0, [], 0, 0, false⟩ (.slice none 0 0)))
          have HBP := Lib.hid HS2.out.size
          generalize W2.alloc (atO 35 ⟨0, [], 0, 0, false⟩ (.slice none 0 0)) = W3 at *
          refine reg_two 5 11 rfl rfl (by kernel_rfl) (by kernel_rfl) (by kernel_rfl) ?_ ?_
          · refine wp_append_bsg _ _ rfl U0.heap.size HS3.out.size v50 (([] : List UInt8) ++ X) rfl HO3.out (.slice (some ⟨b1, o1, none⟩) 4 c1) (X.take 4) rfl (HBU4.out.same HS3.out) HLe2.out ?_
            intro v53 W4 hO hg
            have HS4 := Lib.hid (HS3.out.grown hg (fun k e => (HO3.out.lt k e).1))
            have HO4 := Lib.hid hO
            have HP4 := Lib.hid (grown_keep hg HP3.out (own_not HO3.out HP3.out (by decide)))
            clear hO hg
            refine ⟨HS4.out, ?_⟩
            try simp only [Act.put, List.setIfInBounds_toArray, List.set_cons_zero, List.set_cons_succ]
            refine reg_two 6 11 rfl rfl (by kernel_rfl) (by kernel_rfl) (by kernel_rfl) ?_ ?_
            · go_simp
              refine (HZ3 _ _ HO4.out.bs).out.mono ?_
              rintro e W5 ⟨v3, d3, rfl, hr3, hd3, hs3, -⟩
              have HS5 := Lib.hid (HS4.out.trans hs3)
              have HP5 := Lib.hid (hs3.block HP4.out)
              obtain ⟨pa5, pc5, rfl⟩ := hr3.form (n := 0) rfl
              obtain ⟨da5, dc5, rfl⟩ := hd3.form0 (n := 0) rfl
              clear hs3 hr3 hd3
              refine ⟨HS5.out, ?_⟩
              try simp only [Act.put, List.setIfInBounds_toArray, List.set_cons_zero, List.set_cons_succ]
              refine reg_take (v := ?_) 7 (some 47) rfl rfl (by kernel_rfl) (fun _ _ _ h => by cases h.1) (by kernel_rfl) HS5.out ?_ ?_
              rotate_left
              · (intro w' hw'; go_simp; try with_reducible rfl)
              try simp only [Act.put, List.setIfInBounds_toArray, List.set_cons_zero, List.set_cons_succ]
              refine reg_take (v := ?_) 8 (some 55) rfl rfl (by kernel_rfl) (fun _ _ _ h => by cases h.1) (by kernel_rfl) HS5.out ?_ ?_
              rotate_left
              · (intro w' hw'; go_simp; try with_reducible rfl)
              try simp only [Act.put, List.setIfInBounds_toArray, List.set_cons_zero, List.set_cons_succ]
              refine reg_take (v := ?_) 9 (some 56) rfl rfl (by kernel_rfl) (fun _ _ _ h => by cases h.1) (by kernel_rfl) HS5.out ?_ ?_
              rotate_left
              · (intro w' hw'; go_simp; try with_reducible rfl)
              try simp only [Act.put, List.setIfInBounds_toArray, List.set_cons_zero, List.set_cons_succ]
              refine reg_one 11 rfl (by kernel_rfl) (by kernel_rfl) ?_
              · go_simp
                have HS6 := Lib.hid (HS5.out.trans (Same.alloc W5 (ftO 26 ⟨0, 0, []⟩ (.slice none 0 0))))
                refine ⟨HS6.out, ?_⟩
                try simp only [Act.put, List.setIfInBounds_toArray, List.set_cons_zero, List.set_cons_succ]
                have HP6 := Lib.hid ((Same.alloc W5 (ftO 26 ⟨0, 0, []⟩ (.slice none 0 0))).block HP5.out)
                have HQ6 := Lib.hid (heap_alloc_new W5 (ftO 26 ⟨0, 0, []⟩ (.slice none 0 0)))
                have HBQ := Lib.hid HS5.out.size
                have HNE := Lib.hid (Nat.ne_of_gt (Array.getElem?_eq_some_iff.1 HP5.out).1)
                generalize W5.alloc (ftO 26 ⟨0, 0, []⟩ (.slice none 0 0)) = W6 at *
                refine reg_one 12 rfl (by kernel_rfl) (by kernel_rfl) ?_
                refine wp_store_row 35 _ _ (by rfl) (W2.heap.size) #[.int .i64 0, .slice pa5 0 pc5, .int .u32 0, .int .i64 0, .bool false] (by rfl) (by rfl) 35 _ HP6.out (by kernel_rfl) (by rfl) (by simp [Value.oneCell']) ?_
                have hQ2 := (setRow_other W6 (W2.heap.size) (W5.heap.size) #[.int .i64 0, .slice pa5 0 pc5, .int .u32 0, .int .i64 0, .bool false] (Ne.symm (Ne.symm HNE.out))).trans HQ6.out
                have hS2 := ((Kept.refl [W2.heap.size] W6).mod (setRow_mod (W2.heap.size) W6 #[.int .i64 0, .slice pa5 0 pc5, .int .u32 0, .int .i64 0, .bool false]) (.inl (by simp))).to_same HS6.out (fun s hs => by rw [List.mem_singleton.1 hs]; exact HBP.out)
                refine ⟨hS2, ?_⟩
                try simp only [Act.put]
                generalize W6.setRow (W2.heap.size) #[.int .i64 0, .slice pa5 0 pc5, .int .u32 0, .int .i64 0, .bool false] = V2 at *
                refine reg_one 13 rfl (by kernel_rfl) (by kernel_rfl) ?_
                refine wp_store_row 26 _ _ (by rfl) (W5.heap.size) #[.int .i64 3, .int .i64 1, .slice da5 0 dc5] (by rfl) (by rfl) 26 _ hQ2 (by kernel_rfl) (by rfl) (by simp [Value.oneCell']) ?_
                have hQ3 := setRow_heap V2 (W5.heap.size) _ #[.int .i64 3, .int .i64 1, .slice da5 0 dc5] _ _ hQ2
                have hS3 := ((Kept.refl [W5.heap.size] V2).mod (setRow_mod (W5.heap.size) V2 #[.int .i64 3, .int .i64 1, .slice da5 0 dc5]) (.inl (by simp))).to_same hS2 (fun s hs => by rw [List.mem_singleton.1 hs]; exact HBQ.out)
                refine ⟨hS3, ?_⟩
                try simp only [Act.put]
                refine reg_done (by kernel_rfl) ?_
                refine ⟨rfl, [(.slice (some ⟨W0.heap.size, 0, none⟩) 0 0), (.slice (some ⟨b1, o1, none⟩) nX c1), v50, (.slice (some ⟨b1, o1, none⟩) nX c1), (.slice (some ⟨b1, o1, none⟩) 4 c1), v53, T3 (.slice pa5 0 pc5) (.slice da5 0 dc5), T3 (.slice pa5 0 pc5) (.slice da5 0 dc5), A3 (.slice pa5 0 pc5), F3 (.slice da5 0 dc5), .pointer (some ⟨W2.heap.size, 0, none⟩), .pointer (some ⟨W5.heap.size, 0, none⟩)], ?_, _, _, _, _, _, _, _, _, _, _, _, _, _, rfl, hS3, hQ3⟩
                simp only [putAll, List.zip_cons_cons, List.zip_nil_left, Act.put, List.setIfInBounds_toArray, List.set_cons_zero, List.set_cons_succ, T3, A3, F3]
            · go_simp
              have HS5 := Lib.hid (HS4.out.trans (Same.alloc W4 (ftO 26 ⟨0, 0, []⟩ (.slice none 0 0))))
              refine ⟨HS5.out, ?_⟩
              try simp only [Act.put, List.setIfInBounds_toArray, List.set_cons_zero, List.set_cons_succ]
              have HO5 := Lib.hid (HO4.out.same (Same.alloc W4 (ftO 26 ⟨0, 0, []⟩ (.slice none 0 0))))
              have HP5 := Lib.hid ((Same.alloc W4 (ftO 26 ⟨0, 0, []⟩ (.slice none 0 0))).block HP4.out)
              have HQ5 := Lib.hid (heap_alloc_new W4 (ftO 26 ⟨0, 0, []⟩ (.slice none 0 0)))
              have HBQ := Lib.hid HS4.out.size
              have HNE := Lib.hid (Nat.ne_of_gt (Array.getElem?_eq_some_iff.1 HP4.out).1)
              generalize W4.alloc (ftO 26 ⟨0, 0, []⟩ (.slice none 0 0)) = W5 at *
              refine reg_one 6 rfl (by kernel_rfl) (by kernel_rfl) ?_
              · go_simp
                refine (HZ3 _ _ HO5.out.bs).out.mono ?_
                rintro e W6 ⟨v3, d3, rfl, hr3, hd3, hs3, -⟩
                have HS6 := Lib.hid (HS5.out.trans hs3)
                have HP6 := Lib.hid (hs3.block HP5.out)
                have HQ6 := Lib.hid (hs3.block HQ5.out)
                obtain ⟨pa5, pc5, rfl⟩ := hr3.form (n := 0) rfl
                obtain ⟨da5, dc5, rfl⟩ := hd3.form0 (n := 0) rfl
                clear hs3 hr3 hd3
                refine ⟨HS6.out, ?_⟩
                try simp only [Act.put, List.setIfInBounds_toArray, List.set_cons_zero, List.set_cons_succ]
                refine reg_take (v := ?_) 7 (some 47) rfl rfl (by kernel_rfl) (fun _ _ _ h => by cases h.1) (by kernel_rfl) HS6.out ?_ ?_
                rotate_left
                · (intro w' hw'; go_simp; try with_reducible rfl)
                try simp only [Act.put, List.setIfInBounds_toArray, List.set_cons_zero, List.set_cons_succ]
                refine reg_take (v := ?_) 8 (some 55) rfl rfl (by kernel_rfl) (fun _ _ _ h => by cases h.1) (by kernel_rfl) HS6.out ?_ ?_
                rotate_left
                · (intro w' hw'; go_simp; try with_reducible rfl)
                try simp only [Act.put, List.setIfInBounds_toArray, List.set_cons_zero, List.set_cons_succ]
                refine reg_take (v := ?_) 9 (some 56) rfl rfl (by kernel_rfl) (fun _ _ _ h => by cases h.1) (by kernel_rfl) HS6.out ?_ ?_
                rotate_left
                · (intro w' hw'; go_simp; try with_reducible rfl)
                try simp only [Act.put, List.setIfInBounds_toArray, List.set_cons_zero, List.set_cons_succ]
                refine reg_one 12 rfl (by kernel_rfl) (by kernel_rfl) ?_
                refine wp_store_row 35 _ _ (by rfl) (W2.heap.size) #[.int .i64 0, .slice pa5 0 pc5, .int .u32 0, .int .i64 0, .bool false] (by rfl) (by rfl) 35 _ HP6.out (by kernel_rfl) (by rfl) (by simp [Value.oneCell']) ?_
                have hQ2 := (setRow_other W6 (W2.heap.size) (W4.heap.size) #[.int .i64 0, .slice pa5 0 pc5, .int .u32 0, .int .i64 0, .bool false] (Ne.symm (Ne.symm HNE.out))).trans HQ6.out
                have hS2 := ((Kept.refl [W2.heap.size] W6).mod (setRow_mod (W2.heap.size) W6 #[.int .i64 0, .slice pa5 0 pc5, .int .u32 0, .int .i64 0, .bool false]) (.inl (by simp))).to_same HS6.out (fun s hs => by rw [List.mem_singleton.1 hs]; exact HBP.out)
                refine ⟨hS2, ?_⟩
                try simp only [Act.put]
                generalize W6.setRow (W2.heap.size) #[.int .i64 0, .slice pa5 0 pc5, .int .u32 0, .int .i64 0, .bool false] = V2 at *
                refine reg_one 13 rfl (by kernel_rfl) (by kernel_rfl) ?_
                refine wp_store_row 26 _ _ (by rfl) (W4.heap.size) #[.int .i64 3, .int .i64 1, .slice da5 0 dc5] (by rfl) (by rfl) 26 _ hQ2 (by kernel_rfl) (by rfl) (by simp [Value.oneCell']) ?_
                have hQ3 := setRow_heap V2 (W4.heap.size) _ #[.int .i64 3, .int .i64 1, .slice da5 0 dc5] _ _ hQ2
                have hS3 := ((Kept.refl [W4.heap.size] V2).mod (setRow_mod (W4.heap.size) V2 #[.int .i64 3, .int .i64 1, .slice da5 0 dc5]) (.inl (by simp))).to_same hS2 (fun s hs => by rw [List.mem_singleton.1 hs]; exact HBQ.out)
                refine ⟨hS3, ?_⟩
                try simp only [Act.put]
                refine reg_done (by kernel_rfl) ?_
                refine ⟨rfl, [(.slice (some ⟨W0.heap.size, 0, none⟩) 0 0), (.slice (some ⟨b1, o1, none⟩) nX c1), v50, (.slice (some ⟨b1, o1, none⟩) nX c1), (.slice (some ⟨b1, o1, none⟩) 4 c1), v53, T3 (.slice pa5 0 pc5) (.slice da5 0 dc5), T3 (.slice pa5 0 pc5) (.slice da5 0 dc5), A3 (.slice pa5 0 pc5), F3 (.slice da5 0 dc5), .pointer (some ⟨W2.heap.size, 0, none⟩), .pointer (some ⟨W4.heap.size, 0, none⟩)], ?_, _, _, _, _, _, _, _, _, _, _, _, _, _, rfl, hS3, hQ3⟩
                simp only [putAll, List.zip_cons_cons, List.zip_nil_left, Act.put, List.setIfInBounds_toArray, List.set_cons_zero, List.set_cons_succ, T3, A3, F3]
          · go_simp
            have HS4 := Lib.hid (HS3.out.trans (Same.alloc W3 (ftO 26 ⟨0, 0, []⟩ (.slice none 0 0))))
            refine ⟨HS4.out, ?_⟩
            try simp only [Act.put, List.setIfInBounds_toArray, List.set_cons_zero, List.set_cons_succ]
            have HO4 := Lib.hid (HO3.out.same (Same.alloc W3 (ftO 26 ⟨0, 0, []⟩ (.slice none 0 0))))
            have HP4 := Lib.hid ((Same.alloc W3 (ftO 26 ⟨0, 0, []⟩ (.slice none 0 0))).block HP3.out)
            have HQ4 := Lib.hid (heap_alloc_new W3 (ftO 26 ⟨0, 0, []⟩ (.slice none 0 0)))
            have HBQ := Lib.hid HS3.out.size
            have HNE := Lib.hid (Nat.ne_of_gt (Array.getElem?_eq_some_iff.1 HP3.out).1)
            generalize W3.alloc (ftO 26 ⟨0, 0, []⟩ (.slice none 0 0)) = W4 at *
            refine reg_one 5 rfl (by kernel_rfl) (by kernel_rfl) ?_
            · refine wp_append_bsg _ _ rfl U0.heap.size HS4.out.size v50 (([] : List UInt8) ++ X) rfl HO4.out (.slice (some ⟨b1, o1, none⟩) 4 c1) (X.take 4) rfl (HBU4.out.same HS4.out) HLe2.out ?_
              intro v53 W5 hO hg
              have HS5 := Lib.hid (HS4.out.grown hg (fun k e => (HO4.out.lt k e).1))
              have HO5 := Lib.hid hO
              have HP5 := Lib.hid (grown_keep hg HP4.out (own_not HO4.out HP4.out (by decide)))
              have HQ5 := Lib.hid (grown_keep hg HQ4.out (own_not HO4.out HQ4.out (by decide)))
              clear hO hg
              refine ⟨HS5.out, ?_⟩
              try simp only [Act.put, List.setIfInBounds_toArray, List.set_cons_zero, List.set_cons_succ]
              refine reg_one 6 rfl (by kernel_rfl) (by kernel_rfl) ?_
              · go_simp
                refine (HZ3 _ _ HO5.out.bs).out.mono ?_
                rintro e W6 ⟨v3, d3, rfl, hr3, hd3, hs3, -⟩
                have HS6 := Lib.hid (HS5.out.trans hs3)
                have HP6 := Lib.hid (hs3.block HP5.out)
                have HQ6 := Lib.hid (hs3.block HQ5.out)
                obtain ⟨pa5, pc5, rfl⟩ := hr3.form (n := 0) rfl
                obtain ⟨da5, dc5, rfl⟩ := hd3.form0 (n := 0) rfl
                clear hs3 hr3 hd3
                refine ⟨HS6.out, ?_⟩
                try simp only [Act.put, List.setIfInBounds_toArray, List.set_cons_zero, List.set_cons_succ]
                refine reg_take (v := ?_) 7 (some 47) rfl rfl (by kernel_rfl) (fun _ _ _ h => by cases h.1) (by kernel_rfl) HS6.out ?_ ?_
                rotate_left
                · (intro w' hw'; go_simp; try with_reducible rfl)
                try simp only [Act.put, List.setIfInBounds_toArray, List.set_cons_zero, List.set_cons_succ]
                refine reg_take (v := ?_) 8 (some 55) rfl rfl (by kernel_rfl) (fun _ _ _ h => by cases h.1) (by kernel_rfl) HS6.out ?_ ?_
                rotate_left
                · (intro w' hw'; go_simp; try with_reducible rfl)
                try simp only [Act.put, List.setIfInBounds_toArray, List.set_cons_zero, List.set_cons_succ]
                refine reg_take (v := ?_) 9 (some 56) rfl rfl (by kernel_rfl) (fun _ _ _ h => by cases h.1) (by kernel_rfl) HS6.out ?_ ?_
                rotate_left
                · (intro w' hw'; go_simp; try with_reducible rfl)
                try simp only [Act.put, List.setIfInBounds_toArray, List.set_cons_zero, List.set_cons_succ]
                refine reg_one 12 rfl (by kernel_rfl) (by kernel_rfl) ?_
                refine wp_store_row 35 _ _ (by rfl) (W2.heap.size) #[.int .i64 0, .slice pa5 0 pc5, .int .u32 0, .int .i64 0, .bool false] (by rfl) (by rfl) 35 _ HP6.out (by kernel_rfl) (by rfl) (by simp [Value.oneCell']) ?_
                have hQ2 := (setRow_other W6 (W2.heap.size) (W3.heap.size) #[.int .i64 0, .slice pa5 0 pc5, .int .u32 0, .int .i64 0, .bool false] (Ne.symm (Ne.symm HNE.out))).trans HQ6.out
                have hS2 := ((Kept.refl [W2.heap.size] W6).mod (setRow_mod (W2.heap.size) W6 #[.int .i64 0, .slice pa5 0 pc5, .int .u32 0, .int .i64 0, .bool false]) (.inl (by simp))).to_same HS6.out (fun s hs => by rw [List.mem_singleton.1 hs]; exact HBP.out)
                refine ⟨hS2, ?_⟩
                try simp only [Act.put]
                generalize W6.setRow (W2.heap.size) #[.int .i64 0, .slice pa5 0 pc5, .int .u32 0, .int .i64 0, .bool false] = V2 at *
                refine reg_one 13 rfl (by kernel_rfl) (by kernel_rfl) ?_
                refine wp_store_row 26 _ _ (by rfl) (W3.heap.size) #[.int .i64 3, .int .i64 1, .slice da5 0 dc5] (by rfl) (by rfl) 26 _ hQ2 (by kernel_rfl) (by rfl) (by simp [Value.oneCell']) ?_
                have hQ3 := setRow_heap V2 (W3.heap.size) _ #[.int .i64 3, .int .i64 1, .slice da5 0 dc5] _ _ hQ2
                have hS3 := ((Kept.refl [W3.heap.size] V2).mod (setRow_mod (W3.heap.size) V2 #[.int .i64 3, .int .i64 1, .slice da5 0 dc5]) (.inl (by simp))).to_same hS2 (fun s hs => by rw [List.mem_singleton.1 hs]; exact HBQ.out)
                refine ⟨hS3, ?_⟩
                try simp only [Act.put]
                refine reg_done (by kernel_rfl) ?_
                refine ⟨rfl, [(.slice (some ⟨W0.heap.size, 0, none⟩) 0 0), (.slice (some ⟨b1, o1, none⟩) nX c1), v50, (.slice (some ⟨b1, o1, none⟩) nX c1), (.slice (some ⟨b1, o1, none⟩) 4 c1), v53, T3 (.slice pa5 0 pc5) (.slice da5 0 dc5), T3 (.slice pa5 0 pc5) (.slice da5 0 dc5), A3 (.slice pa5 0 pc5), F3 (.slice da5 0 dc5), .pointer (some ⟨W2.heap.size, 0, none⟩), .pointer (some ⟨W3.heap.size, 0, none⟩)], ?_, _, _, _, _, _, _, _, _, _, _, _, _, _, rfl, hS3, hQ3⟩
                simp only [putAll, List.zip_cons_cons, List.zip_nil_left, Act.put, List.setIfInBounds_toArray, List.set_cons_zero, List.set_cons_succ, T3, A3, F3]
        · go_simp
          have HS3 := Lib.hid (HS2.out.trans (Same.alloc W2 (ftO 26 ⟨0, 0, []⟩ (.slice none 0 0))))
          refine ⟨HS3.out, ?_⟩
          try simp only [Act.put, List.setIfInBounds_toArray, List.set_cons_zero, List.set_cons_succ]
          have HO3 := Lib.hid (HO2.out.same (Same.alloc W2 (ftO 26 ⟨0, 0, []⟩ (.slice none 0 0))))
          have HQ3 := Lib.hid (heap_alloc_new W2 (ftO 26 ⟨0, 0, []⟩ (.slice none 0 0)))
          have HBQ := Lib.hid HS2.out.size
          generalize W2.alloc (ftO 26 ⟨0, 0, []⟩ (.slice none 0 0)) = W3 at *
          refine reg_two 5 10 rfl rfl (by kernel_rfl) (by kernel_rfl) (by kernel_rfl) ?_ ?_
          · refine wp_append_bsg _ _ rfl U0.heap.size HS3.out.size v50 (([] : List UInt8) ++ X) rfl HO3.out (.slice (some ⟨b1, o1, none⟩) 4 c1) (X.take 4) rfl (HBU4.out.same HS3.out) HLe2.out ?_
            intro v53 W4 hO hg
            have HS4 := Lib.hid (HS3.out.grown hg (fun k e => (HO3.out.lt k e).1))
            have HO4 := Lib.hid hO
            have HQ4 := Lib.hid (grown_keep hg HQ3.out (own_not HO3.out HQ3.out (by decide)))
            clear hO hg
            refine ⟨HS4.out, ?_⟩
            try simp only [Act.put, List.setIfInBounds_toArray, List.set_cons_zero, List.set_cons_succ]
            refine reg_two 6 10 rfl rfl (by kernel_rfl) (by kernel_rfl) (by kernel_rfl) ?_ ?_
            · go_simp
              refine (HZ3 _ _ HO4.out.bs).out.mono ?_
              rintro e W5 ⟨v3, d3, rfl, hr3, hd3, hs3, -⟩
              have HS5 := Lib.hid (HS4.out.trans hs3)
              have HQ5 := Lib.hid (hs3.block HQ4.out)
              obtain ⟨pa5, pc5, rfl⟩ := hr3.form (n := 0) rfl
              obtain ⟨da5, dc5, rfl⟩ := hd3.form0 (n := 0) rfl
              clear hs3 hr3 hd3
              refine ⟨HS5.out, ?_⟩
              try simp only [Act.put, List.setIfInBounds_toArray, List.set_cons_zero, List.set_cons_succ]
              refine reg_take (v := ?_) 7 (some 47) rfl rfl (by kernel_rfl) (fun _ _ _ h => by cases h.1) (by kernel_rfl) HS5.out ?_ ?_
              rotate_left
              · (intro w' hw'; go_simp; try with_reducible rfl)
              try simp only [Act.put, List.setIfInBounds_toArray, List.set_cons_zero, List.set_cons_succ]
              refine reg_take (v := ?_) 8 (some 55) rfl rfl (by kernel_rfl) (fun _ _ _ h => by cases h.1) (by kernel_rfl) HS5.out ?_ ?_
              rotate_left
              · (intro w' hw'; go_simp; try with_reducible rfl)
              try simp only [Act.put, List.setIfInBounds_toArray, List.set_cons_zero, List.set_cons_succ]
              refine reg_take (v := ?_) 9 (some 56) rfl rfl (by kernel_rfl) (fun _ _ _ h => by cases h.1) (by kernel_rfl) HS5.out ?_ ?_
              rotate_left
              · (intro w' hw'; go_simp; try with_reducible rfl)
              try simp only [Act.put, List.setIfInBounds_toArray, List.set_cons_zero, List.set_cons_succ]
              refine reg_one 10 rfl (by kernel_rfl) (by kernel_rfl) ?_
              · go_simp
                have HS6 := Lib.hid (HS5.out.trans (Same.alloc W5 (atO 35 ⟨0, [], 0, 0, false⟩ (.slice none 0 0))))
                refine ⟨HS6.out, ?_⟩
                try simp only [Act.put, List.setIfInBounds_toArray, List.set_cons_zero, List.set_cons_succ]
                have HQ6 := Lib.hid ((Same.alloc W5 (atO 35 ⟨0, [], 0, 0, false⟩ (.slice none 0 0))).block HQ5.out)
                have HP6 := Lib.hid (heap_alloc_new W5 (atO 35 ⟨0, [], 0, 0, false⟩ (.slice none 0 0)))
                have HBP := Lib.hid HS5.out.size
                have HNE := Lib.hid (Nat.ne_of_gt (Array.getElem?_eq_some_iff.1 HQ5.out).1)
                generalize W5.alloc (atO 35 ⟨0, [], 0, 0, false⟩ (.slice none 0 0)) = W6 at *
                refine reg_one 12 rfl (by kernel_rfl) (by kernel_rfl) ?_
                refine wp_store_row 35 _ _ (by rfl) (W5.heap.size) #[.int .i64 0, .slice pa5 0 pc5, .int .u32 0, .int .i64 0, .bool false] (by rfl) (by rfl) 35 _ HP6.out (by kernel_rfl) (by rfl) (by simp [Value.oneCell']) ?_
                have hQ2 := (setRow_other W6 (W5.heap.size) (W2.heap.size) #[.int .i64 0, .slice pa5 0 pc5, .int .u32 0, .int .i64 0, .bool false] (Ne.symm HNE.out)).trans HQ6.out
                have hS2 := ((Kept.refl [W5.heap.size] W6).mod (setRow_mod (W5.heap.size) W6 #[.int .i64 0, .slice pa5 0 pc5, .int .u32 0, .int .i64 0, .bool false]) (.inl (by simp))).to_same HS6.out (fun s hs => by rw [List.mem_singleton.1 hs]; exact HBP.out)
                refine ⟨hS2, ?_⟩
                try simp only [Act.put]
                generalize W6.setRow (W5.heap.size) #[.int .i64 0, .slice pa5 0 pc5, .int .u32 0, .int .i64 0, .bool false] = V2 at *
                refine reg_one 13 rfl (by kernel_rfl) (by kernel_rfl) ?_
                refine wp_store_row 26 _ _ (by rfl) (W2.heap.size) #[.int .i64 3, .int .i64 1, .slice da5 0 dc5] (by rfl) (by rfl) 26 _ hQ2 (by kernel_rfl) (by rfl) (by simp [Value.oneCell']) ?_
                have hQ3 := setRow_heap V2 (W2.heap.size) _ #[.int .i64 3, .int .i64 1, .slice da5 0 dc5] _ _ hQ2
                have hS3 := ((Kept.refl [W2.heap.size] V2).mod (setRow_mod (W2.heap.size) V2 #[.int .i64 3, .int .i64 1, .slice da5 0 dc5]) (.inl (by simp))).to_same hS2 (fun s hs => by rw [List.mem_singleton.1 hs]; exact HBQ.out)
                refine ⟨hS3, ?_⟩
                try simp only [Act.put]
                refine reg_done (by kernel_rfl) ?_
                refine ⟨rfl, [(.slice (some ⟨W0.heap.size, 0, none⟩) 0 0), (.slice (some ⟨b1, o1, none⟩) nX c1), v50, (.slice (some ⟨b1, o1, none⟩) nX c1), (.slice (some ⟨b1, o1, none⟩) 4 c1), v53, T3 (.slice pa5 0 pc5) (.slice da5 0 dc5), T3 (.slice pa5 0 pc5) (.slice da5 0 dc5), A3 (.slice pa5 0 pc5), F3 (.slice da5 0 dc5), .pointer (some ⟨W5.heap.size, 0, none⟩), .pointer (some ⟨W2.heap.size, 0, none⟩)], ?_, _, _, _, _, _, _, _, _, _, _, _, _, _, rfl, hS3, hQ3⟩
                simp only [putAll, List.zip_cons_cons, List.zip_nil_left, Act.put, List.setIfInBounds_toArray, List.set_cons_zero, List.set_cons_succ, T3, A3, F3]
            · go_simp
              have HS5 := Lib.hid (HS4.out.trans (Same.alloc W4 (atO 35 ⟨0, [], 0, 0, false⟩ (.slice none 0 0))))
              refine ⟨HS5.out, ?_⟩
              try simp only [Act.put, List.setIfInBounds_toArray, List.set_cons_zero, List.set_cons_succ]
              have HO5 := Lib.hid (HO4.out.same (Same.alloc W4 (atO 35 ⟨0, [], 0, 0, false⟩ (.slice none 0 0))))
              have HQ5 := Lib.hid ((Same.alloc W4 (atO 35 ⟨0, [], 0, 0, false⟩ (.slice none 0 0))).block HQ4.out)
              have HP5 := Lib.hid (heap_alloc_new W4 (atO 35 ⟨0, [], 0, 0, false⟩ (.slice none 0 0)))
              have HBP := Lib.hid HS4.out.size
              have HNE := Lib.hid (Nat.ne_of_gt (Array.getElem?_eq_some_iff.1 HQ4.out).1)
              generalize W4.alloc (atO 35 ⟨0, [], 0, 0, false⟩ (.slice none 0 0)) = W5 at *
              refine reg_one 6 rfl (by kernel_rfl) (by kernel_rfl) ?_
              · go_simp
                refine (HZ3 _ _ HO5.out.bs).out.mono ?_
                rintro e W6 ⟨v3, d3, rfl, hr3, hd3, hs3, -⟩
                have HS6 := Lib.hid (HS5.out.trans hs3)
                have HP6 := Lib.hid (hs3.block HP5.out)
                have HQ6 := Lib.hid (hs3.block HQ5.out)
                obtain ⟨pa5, pc5, rfl⟩ := hr3.form (n := 0) rfl
                obtain ⟨da5, dc5, rfl⟩ := hd3.form0 (n := 0) rfl
                clear hs3 hr3 hd3
                refine ⟨HS6.out, ?_⟩
                try simp only [Act.put, List.setIfInBounds_toArray, List.set_cons_zero, List.set_cons_succ]
                refine reg_take (v := ?_) 7 (some 47) rfl rfl (by kernel_rfl) (fun _ _ _ h => by cases h.1) (by kernel_rfl) HS6.out ?_ ?_
                rotate_left
                · (intro w' hw'; go_simp; try with_reducible rfl)
                try simp only [Act.put, List.setIfInBounds_toArray, List.set_cons_zero, List.set_cons_succ]
                refine reg_take (v := ?_) 8 (some 55) rfl rfl (by kernel_rfl) (fun _ _ _ h => by cases h.1) (by kernel_rfl) HS6.out ?_ ?_
                rotate_left
                · (intro w' hw'; go_simp; try with_reducible rfl)
                try simp only [Act.put, List.setIfInBounds_toArray, List.set_cons_zero, List.set_cons_succ]
                refine reg_take (v := ?_) 9 (some 56) rfl rfl (by kernel_rfl) (fun _ _ _ h => by cases h.1) (by kernel_rfl) HS6.out ?_ ?_
                rotate_left
                · (intro w' hw'; go_simp; try with_reducible rfl)
                try simp only [Act.put, List.setIfInBounds_toArray, List.set_cons_zero, List.set_cons_succ]
                refine reg_one 12 rfl (by kernel_rfl) (by kernel_rfl) ?_
                refine wp_store_row 35 _ _ (by rfl) (W4.heap.size) #[.int .i64 0, .slice pa5 0 pc5, .int .u32 0, .int .i64 0, .bool false] (by rfl) (by rfl) 35 _ HP6.out (by kernel_rfl) (by rfl) (by simp [Value.oneCell']) ?_
                have hQ2 := (setRow_other W6 (W4.heap.size) (W2.heap.size) #[.int .i64 0, .slice pa5 0 pc5, .int .u32 0, .int .i64 0, .bool false] (Ne.symm HNE.out)).trans HQ6.out
                have hS2 := ((Kept.refl [W4.heap.size] W6).mod (setRow_mod (W4.heap.size) W6 #[.int .i64 0, .slice pa5 0 pc5, .int .u32 0, .int .i64 0, .bool false]) (.inl (by simp))).to_same HS6.out (fun s hs => by rw [List.mem_singleton.1 hs]; exact HBP.out)
                refine ⟨hS2, ?_⟩
                try simp only [Act.put]
                generalize W6.setRow (W4.heap.size) #[.int .i64 0, .slice pa5 0 pc5, .int .u32 0, .int .i64 0, .bool false] = V2 at *
                refine reg_one 13 rfl (by kernel_rfl) (by kernel_rfl) ?_
                refine wp_store_row 26 _ _ (by rfl) (W2.heap.size) #[.int .i64 3, .int .i64 1, .slice da5 0 dc5] (by rfl) (by rfl) 26 _ hQ2 (by kernel_rfl) (by rfl) (by simp [Value.oneCell']) ?_
                have hQ3 := setRow_heap V2 (W2.heap.size) _ #[.int .i64 3, .int .i64 1, .slice da5 0 dc5] _ _ hQ2
                have hS3 := ((Kept.refl [W2.heap.size] V2).mod (setRow_mod (W2.heap.size) V2 #[.int .i64 3, .int .i64 1, .slice da5 0 dc5]) (.inl (by simp))).to_same hS2 (fun s hs => by rw [List.mem_singleton.1 hs]; exact HBQ.out)
                refine ⟨hS3, ?_⟩
                try simp only [Act.put]
                refine reg_done (by kernel_rfl) ?_
                refine ⟨rfl, [(.slice (some ⟨W0.heap.size, 0, none⟩) 0 0), (.slice (some ⟨b1, o1, none⟩) nX c1), v50, (.slice (some ⟨b1, o1, none⟩) nX c1), (.slice (some ⟨b1, o1, none⟩) 4 c1), v53, T3 (.slice pa5 0 pc5) (.slice da5 0 dc5), T3 (.slice pa5 0 pc5) (.slice da5 0 dc5), A3 (.slice pa5 0 pc5), F3 (.slice da5 0 dc5), .pointer (some ⟨W4.heap.size, 0, none⟩), .pointer (some ⟨W2.heap.size, 0, none⟩)], ?_, _, _, _, _, _, _, _, _, _, _, _, _, _, rfl, hS3, hQ3⟩
                simp only [putAll, List.zip_cons_cons, List.zip_nil_left, Act.put, List.setIfInBounds_toArray, List.set_cons_zero, List.set_cons_succ, T3, A3, F3]
          · go_simp
            have HS4 := Lib.hid (HS3.out.trans (Same.alloc W3 (atO 35 ⟨0, [], 0, 0, false⟩ (.slice none 0 0))))
            refine ⟨HS4.out, ?_⟩
            try simp only [Act.put, List.setIfInBounds_toArray, List.set_cons_zero, List.set_cons_succ]
            have HO4 := Lib.hid (HO3.out.same (Same.alloc W3 (atO 35 ⟨0, [], 0, 0, false⟩ (.slice none 0 0))))
            have HQ4 := Lib.hid ((Same.alloc W3 (atO 35 ⟨0, [], 0, 0, false⟩ (.slice none 0 0))).block HQ3.out)
            have HP4 := Lib.hid (heap_alloc_new W3 (atO 35 ⟨0, [], 0, 0, false⟩ (.slice none 0 0)))
            have HBP := Lib.hid HS3.out.size
            have HNE := Lib.hid (Nat.ne_of_gt (Array.getElem?_eq_some_iff.1 HQ3.out).1)
            generalize W3.alloc (atO 35 ⟨0, [], 0, 0, false⟩ (.slice none 0 0)) = W4 at *
            refine reg_one 5 rfl (by kernel_rfl) (by kernel_rfl) ?_
            · refine wp_append_bsg _ _ rfl U0.heap.size HS4.out.size v50 (([] : List UInt8) ++ X) rfl HO4.out (.slice (some ⟨b1, o1, none⟩) 4 c1) (X.take 4) rfl (HBU4.out.same HS4.out) HLe2.out ?_
              intro v53 W5 hO hg
              have HS5 := Lib.hid (HS4.out.grown hg (fun k e => (HO4.out.lt k e).1))
              have HO5 := Lib.hid hO
              have HP5 := Lib.hid (grown_keep hg HP4.out (own_not HO4.out HP4.out (by decide)))
              have HQ5 := Lib.hid (grown_keep hg HQ4.out (own_not HO4.out HQ4.out (by decide)))
              clear hO hg
              refine ⟨HS5.out, ?_⟩
              try simp only [Act.put, List.setIfInBounds_toArray, List.set_cons_zero, List.set_cons_succ]
              refine reg_one 6 rfl (by kernel_rfl) (by kernel_rfl) ?_
              · go_simp
                refine (HZ3 _ _ HO5.out.bs).out.mono ?_
                rintro e W6 ⟨v3, d3, rfl, hr3, hd3, hs3, -⟩
                have HS6 := Lib.hid (HS5.out.trans hs3)
                have HP6 := Lib.hid (hs3.block HP5.out)
                have HQ6 := Lib.hid (hs3.block HQ5.out)
                obtain ⟨pa5, pc5, rfl⟩ := hr3.form (n := 0) rfl
                obtain ⟨da5, dc5, rfl⟩ := hd3.form0 (n := 0) rfl
                clear hs3 hr3 hd3
                refine ⟨HS6.out, ?_⟩
                try simp only [Act.put, List.setIfInBounds_toArray, List.set_cons_zero, List.set_cons_succ]
                refine reg_take (v := ?_) 7 (some 47) rfl rfl (by kernel_rfl) (fun _ _ _ h => by cases h.1) (by kernel_rfl) HS6.out ?_ ?_
                rotate_left
                · (intro w' hw'; go_simp; try with_reducible rfl)
                try simp only [Act.put, List.setIfInBounds_toArray, List.set_cons_zero, List.set_cons_succ]
                refine reg_take (v := ?_) 8 (some 55) rfl rfl (by kernel_rfl) (fun _ _ _ h => by cases h.1) (by kernel_rfl) HS6.out ?_ ?_
                rotate_left
                · (intro w' hw'; go_simp; try with_reducible rfl)
                try simp only [Act.put, List.setIfInBounds_toArray, List.set_cons_zero, List.set_cons_succ]
                refine reg_take (v := ?_) 9 (some 56) rfl rfl (by kernel_rfl) (fun _ _ _ h => by cases h.1) (by kernel_rfl) HS6.out ?_ ?_
                rotate_left
                · (intro w' hw'; go_simp; try with_reducible rfl)
                try simp only [Act.put, List.setIfInBounds_toArray, List.set_cons_zero, List.set_cons_succ]
                refine reg_one 12 rfl (by kernel_rfl) (by kernel_rfl) ?_
                refine wp_store_row 35 _ _ (by rfl) (W3.heap.size) #[.int .i64 0, .slice pa5 0 pc5, .int .u32 0, .int .i64 0, .bool false] (by rfl) (by rfl) 35 _ HP6.out (by kernel_rfl) (by rfl) (by simp [Value.oneCell']) ?_
                have hQ2 := (setRow_other W6 (W3.heap.size) (W2.heap.size) #[.int .i64 0, .slice pa5 0 pc5, .int .u32 0, .int .i64 0, .bool false] (Ne.symm HNE.out)).trans HQ6.out
                have hS2 := ((Kept.refl [W3.heap.size] W6).mod (setRow_mod (W3.heap.size) W6 #[.int .i64 0, .slice pa5 0 pc5, .int .u32 0, .int .i64 0, .bool false]) (.inl (by simp))).to_same HS6.out (fun s hs => by rw [List.mem_singleton.1 hs]; exact HBP.out)
                refine ⟨hS2, ?_⟩
                try simp only [Act.put]
                generalize W6.setRow (W3.heap.size) #[.int .i64 0, .slice pa5 0 pc5, .int .u32 0, .int .i64 0, .bool false] = V2 at *
                refine reg_one 13 rfl (by kernel_rfl) (by kernel_rfl) ?_
                refine wp_store_row 26 _ _ (by rfl) (W2.heap.size) #[.int .i64 3, .int .i64 1, .slice da5 0 dc5] (by rfl) (by rfl) 26 _ hQ2 (by kernel_rfl) (by rfl) (by simp [Value.oneCell']) ?_
                have hQ3 := setRow_heap V2 (W2.heap.size) _ #[.int .i64 3, .int .i64 1, .slice da5 0 dc5] _ _ hQ2
                have hS3 := ((Kept.refl [W2.heap.size] V2).mod (setRow_mod (W2.heap.size) V2 #[.int .i64 3, .int .i64 1, .slice da5 0 dc5]) (.inl (by simp))).to_same hS2 (fun s hs => by rw [List.mem_singleton.1 hs]; exact HBQ.out)
                refine ⟨hS3, ?_⟩
                try simp only [Act.put]
                refine reg_done (by kernel_rfl) ?_
                refine ⟨rfl, [(.slice (some ⟨W0.heap.size, 0, none⟩) 0 0), (.slice (some ⟨b1, o1, none⟩) nX c1), v50, (.slice (some ⟨b1, o1, none⟩) nX c1), (.slice (some ⟨b1, o1, none⟩) 4 c1), v53, T3 (.slice pa5 0 pc5) (.slice da5 0 dc5), T3 (.slice pa5 0 pc5) (.slice da5 0 dc5), A3 (.slice pa5 0 pc5), F3 (.slice da5 0 dc5), .pointer (some ⟨W3.heap.size, 0, none⟩), .pointer (some ⟨W2.heap.size, 0, none⟩)], ?_, _, _, _, _, _, _, _, _, _, _, _, _, _, rfl, hS3, hQ3⟩
                simp only [putAll, List.zip_cons_cons, List.zip_nil_left, Act.put, List.setIfInBounds_toArray, List.set_cons_zero, List.set_cons_succ, T3, A3, F3]
      · go_simp
        have HS2 := Lib.hid (HS1.out.trans (Same.alloc W1 (atO 35 ⟨0, [], 0, 0, false⟩ (.slice none 0 0))))
        refine ⟨HS2.out, ?_⟩
        try simp only [Act.put, List.setIfInBounds_toArray, List.set_cons_zero, List.set_cons_succ]
        have HO2 := Lib.hid (HO1.out.same (Same.alloc W1 (atO 35 ⟨0, [], 0, 0, false⟩ (.slice none 0 0))))
        have HP2 := Lib.hid (heap_alloc_new W1 (atO 35 ⟨0, [], 0, 0, false⟩ (.slice none 0 0)))
        have HBP := Lib.hid HS1.out.size
        generalize W1.alloc (atO 35 ⟨0, [], 0, 0, false⟩ (.slice none 0 0)) = W2 at *
        refine reg_two 2 11 rfl rfl (by kernel_rfl) (by kernel_rfl) (by kernel_rfl) ?_ ?_
        · refine wp_append_bsg _ _ rfl U0.heap.size HS2.out.size (.slice (some ⟨W0.heap.size, 0, none⟩) 0 0) ([] : List UInt8) rfl HO2.out (.slice (some ⟨b1, o1, none⟩) nX c1) X rfl (HBU.out.same HS2.out) HLe1.out ?_
          intro v50 W3 hO hg
          have HS3 := Lib.hid (HS2.out.grown hg (fun k e => (HO2.out.lt k e).1))
          have HO3 := Lib.hid hO
          have HP3 := Lib.hid (grown_keep hg HP2.out (own_not HO2.out HP2.out (by decide)))
          clear hO hg
          refine ⟨HS3.out, ?_⟩
          try simp only [Act.put, List.setIfInBounds_toArray, List.set_cons_zero, List.set_cons_succ]
          refine reg_two 5 11 rfl rfl (by kernel_rfl) (by kernel_rfl) (by kernel_rfl) ?_ ?_
          · refine wp_append_bsg _ _ rfl U0.heap.size HS3.out.size v50 (([] : List UInt8) ++ X) rfl HO3.out (.slice (some ⟨b1, o1, none⟩) 4 c1) (X.take 4) rfl (HBU4.out.same HS3.out) HLe2.out ?_
            intro v53 W4 hO hg
            have HS4 := Lib.hid (HS3.out.grown hg (fun k e => (HO3.out.lt k e).1))
            have HO4 := Lib.hid hO
            have HP4 := Lib.hid (grown_keep hg HP3.out (own_not HO3.out HP3.out (by decide)))
            clear hO hg
            refine ⟨HS4.out, ?_⟩
            try simp only [Act.put, List.setIfInBounds_toArray, List.set_cons_zero, List.set_cons_succ]
            refine reg_two 6 11 rfl rfl (by kernel_rfl) (by kernel_rfl) (by kernel_rfl) ?_ ?_
            · go_simp
              refine (HZ3 _ _ HO4.out.bs).out.mono ?_
              rintro e W5 ⟨v3, d3, rfl, hr3, hd3, hs3, -⟩
              have HS5 := Lib.hid (HS4.out.trans hs3)
              have HP5 := Lib.hid (hs3.block HP4.out)
              obtain ⟨pa5, pc5, rfl⟩ := hr3.form (n := 0) rfl
              obtain ⟨da5, dc5, rfl⟩ := hd3.form0 (n := 0) rfl
              clear hs3 hr3 hd3
              refine ⟨HS5.out, ?_⟩
              try simp only [Act.put, List.setIfInBounds_toArray, List.set_cons_zero, List.set_cons_succ]
              refine reg_take (v := ?_) 7 (some 47) rfl rfl (by kernel_rfl) (fun _ _ _ h => by cases h.1) (by kernel_rfl) HS5.out ?_ ?_
              rotate_left
              · (intro w' hw'; go_simp; try with_reducible rfl)
              try simp only [Act.put, List.setIfInBounds_toArray, List.set_cons_zero, List.set_cons_succ]
              refine reg_take (v := ?_) 8 (some 55) rfl rfl (by kernel_rfl) (fun _ _ _ h => by cases h.1) (by kernel_rfl) HS5.out ?_ ?_
              rotate_left
              · (intro w' hw'; go_simp; try with_reducible rfl)
              try simp only [Act.put, List.setIfInBounds_toArray, List.set_cons_zero, List.set_cons_succ]
              refine reg_take (v := ?_) 9 (some 56) rfl rfl (by kernel_rfl) (fun _ _ _ h => by cases h.1) (by kernel_rfl) HS5.out ?_ ?_
              rotate_left
              · (intro w' hw'; go_simp; try with_reducible rfl)
              try simp only [Act.put, List.setIfInBounds_toArray, List.set_cons_zero, List.set_cons_succ]
              refine reg_one 11 rfl (by kernel_rfl) (by kernel_rfl) ?_
              · go_simp
                have HS6 := Lib.hid (HS5.out.trans (Same.alloc W5 (ftO 26 ⟨0, 0, []⟩ (.slice none 0 0))))
                refine ⟨HS6.out, ?_⟩
                try simp only [Act.put, List.setIfInBounds_toArray, List.set_cons_zero, List.set_cons_succ]
                have HP6 := Lib.hid ((Same.alloc W5 (ftO 26 ⟨0, 0, []⟩ (.slice none 0 0))).block HP5.out)
                have HQ6 := Lib.hid (heap_alloc_new W5 (ftO 26 ⟨0, 0, []⟩ (.slice none 0 0)))
                have HBQ := Lib.hid HS5.out.size
                have HNE := Lib.hid (Nat.ne_of_gt (Array.getElem?_eq_some_iff.1 HP5.out).1)
                generalize W5.alloc (ftO 26 ⟨0, 0, []⟩ (.slice none 0 0)) = W6 at *
                refine reg_one 12 rfl (by kernel_rfl) (by kernel_rfl) ?_
                refine wp_store_row 35 _ _ (by rfl) (W1.heap.size) #[.int .i64 0, .slice pa5 0 pc5, .int .u32 0, .int .i64 0, .bool false] (by rfl) (by rfl) 35 _ HP6.out (by kernel_rfl) (by rfl) (by simp [Value.oneCell']) ?_
                have hQ2 := (setRow_other W6 (W1.heap.size) (W5.heap.size) #[.int .i64 0, .slice pa5 0 pc5, .int .u32 0, .int .i64 0, .bool false] (Ne.symm (Ne.symm HNE.out))).trans HQ6.out
                have hS2 := ((Kept.refl [W1.heap.size] W6).mod (setRow_mod (W1.heap.size) W6 #[.int .i64 0, .slice pa5 0 pc5, .int .u32 0, .int .i64 0, .bool false]) (.inl (by simp))).to_same HS6.out (fun s hs => by rw [List.mem_singleton.1 hs]; exact HBP.out)
                refine ⟨hS2, ?_⟩
                try simp only [Act.put]
                generalize W6.setRow (W1.heap.size) #[.int .i64 0, .slice pa5 0 pc5, .int .u32 0, .int .i64 0, .bool false] = V2 at *
                refine reg_one 13 rfl (by kernel_rfl) (by kernel_rfl) ?_
                refine wp_store_row 26 _ _ (by rfl) (W5.heap.size) #[.int .i64 3, .int .i64 1, .slice da5 0 dc5] (by rfl) (by rfl) 26 _ hQ2 (by kernel_rfl) (by rfl) (by simp [Value.oneCell']) ?_
                have hQ3 := setRow_heap V2 (W5.heap.size) _ #[.int .i64 3, .int .i64 1, .slice da5 0 dc5] _ _ hQ2
                have hS3 := ((Kept.refl [W5.heap.size] V2).mod (setRow_mod (W5.heap.size) V2 #[.int .i64 3, .int .i64 1, .slice da5 0 dc5]) (.inl (by simp))).to_same hS2 (fun s hs => by rw [List.mem_singleton.1 hs]; exact HBQ.out)
                refine ⟨hS3, ?_⟩
                try simp only [Act.put]
                refine reg_done (by kernel_rfl) ?_
                refine ⟨rfl, [(.slice (some ⟨W0.heap.size, 0, none⟩) 0 0), (.slice (some ⟨b1, o1, none⟩) nX c1), v50, (.slice (some ⟨b1, o1, none⟩) nX c1), (.slice (some ⟨b1, o1, none⟩) 4 c1), v53, T3 (.slice pa5 0 pc5) (.slice da5 0 dc5), T3 (.slice pa5 0 pc5) (.slice da5 0 dc5), A3 (.slice pa5 0 pc5), F3 (.slice da5 0 dc5), .pointer (some ⟨W1.heap.size, 0, none⟩), .pointer (some ⟨W5.heap.size, 0, none⟩)], ?_, _, _, _, _, _, _, _, _, _, _, _, _, _, rfl, hS3, hQ3⟩
                simp only [putAll, List.zip_cons_cons, List.zip_nil_left, Act.put, List.setIfInBounds_toArray, List.set_cons_zero, List.set_cons_succ, T3, A3, F3]
            · go_simp
              have HS5 := Lib.hid (HS4.out.trans (Same.alloc W4 (ftO 26 ⟨0, 0, []⟩ (.slice none 0 0))))
              refine ⟨HS5.out, ?_⟩
              try simp only [Act.put, List.setIfInBounds_toArray, List.set_cons_zero, List.set_cons_succ]
              have HO5 := Lib.hid (HO4.out.same (Same.alloc W4 (ftO 26 ⟨0, 0, []⟩ (.slice none 0 0))))
              have HP5 := Lib.hid ((Same.alloc W4 (ftO 26 ⟨0, 0, []⟩ (.slice none 0 0))).block HP4.out)
              have HQ5 := Lib.hid (heap_alloc_new W4 (ftO 26 ⟨0, 0, []⟩ (.slice none 0 0)))
              have HBQ := Lib.hid HS4.out.size
              have HNE := Lib.hid (Nat.ne_of_gt (Array.getElem?_eq_some_iff.1 HP4.out).1)
              generalize W4.alloc (ftO 26 ⟨0, 0, []⟩ (.slice none 0 0)) = W5 at *
              refine reg_one 6 rfl (by kernel_rfl) (by kernel_rfl) ?_
              · go_simp
                refine (HZ3 _ _ HO5.out.bs).out.mono ?_
                rintro e W6 ⟨v3, d3, rfl, hr3, hd3, hs3, -⟩
                have HS6 := Lib.hid (HS5.out.trans hs3)
                have HP6 := Lib.hid (hs3.block HP5.out)
                have HQ6 := Lib.hid (hs3.block HQ5.out)
                obtain ⟨pa5, pc5, rfl⟩ := hr3.form (n := 0) rfl
                obtain ⟨da5, dc5, rfl⟩ := hd3.form0 (n := 0) rfl
                clear hs3 hr3 hd3
                refine ⟨HS6.out, ?_⟩
                try simp only [Act.put, List.setIfInBounds_toArray, List.set_cons_zero, List.set_cons_succ]
                refine reg_take (v := ?_) 7 (some 47) rfl rfl (by kernel_rfl) (fun _ _ _ h => by cases h.1) (by kernel_rfl) HS6.out ?_ ?_
                rotate_left
                · (intro w' hw'; go_simp; try with_reducible rfl)
                try simp only [Act.put, List.setIfInBounds_toArray, List.set_cons_zero, List.set_cons_succ]
                refine reg_take (v := ?_) 8 (some 55) rfl rfl (by kernel_rfl) (fun _ _ _ h => by cases h.1) (by kernel_rfl) HS6.out ?_ ?_
                rotate_left
                · (intro w' hw'; go_simp; try with_reducible rfl)
                try simp only [Act.put, List.setIfInBounds_toArray, List.set_cons_zero, List.set_cons_succ]
                refine reg_take (v := ?_) 9 (some 56) rfl rfl (by kernel_rfl) (fun _ _ _ h => by cases h.1) (by kernel_rfl) HS6.out ?_ ?_
                rotate_left
                · (intro w' hw'; go_simp; try with_reducible rfl)
                try simp only [Act.put, List.setIfInBounds_toArray, List.set_cons_zero, List.set_cons_succ]
                refine reg_one 12 rfl (by kernel_rfl) (by kernel_rfl) ?_
                refine wp_store_row 35 _ _ (by rfl) (W1.heap.size) #[.int .i64 0, .slice pa5 0 pc5, .int .u32 0, .int .i64 0, .bool false] (by rfl) (by rfl) 35 _ HP6.out (by kernel_rfl) (by rfl) (by simp [Value.oneCell']) ?_
                have hQ2 := (setRow_other W6 (W1.heap.size) (W4.heap.size) #[.int .i64 0, .slice pa5 0 pc5, .int .u32 0, .int .i64 0, .bool false] (Ne.symm (Ne.symm HNE.out))).trans HQ6.out
                have hS2 := ((Kept.refl [W1.heap.size] W6).mod (setRow_mod (W1.heap.size) W6 #[.int .i64 0, .slice pa5 0 pc5, .int .u32 0, .int .i64 0, .bool false]) (.inl (by simp))).to_same HS6.out (fun s hs => by rw [List.mem_singleton.1 hs]; exact HBP.out)
                refine ⟨hS2, ?_⟩
                try simp only [Act.put]
                generalize W6.setRow (W1.heap.size) #[.int .i64 0, .slice pa5 0 pc5, .int .u32 0, .int .i64 0, .bool false] = V2 at *
                refine reg_one 13 rfl (by kernel_rfl) (by kernel_rfl) ?_
                refine wp_store_row 26 _ _ (by rfl) (W4.heap.size) #[.int .i64 3, .int .i64 1, .slice da5 0 dc5] (by rfl) (by rfl) 26 _ hQ2 (by kernel_rfl) (by rfl) (by simp [Value.oneCell']) ?_
                have hQ3 := setRow_heap V2 (W4.heap.size) _ #[.int .i64 3, .int .i64 1, .slice da5 0 dc5] _ _ hQ2
                have hS3 := ((Kept.refl [W4.heap.size] V2).mod (setRow_mod (W4.heap.size) V2 #[.int .i64 3, .int .i64 1, .slice da5 0 dc5]) (.inl (by simp))).to_same hS2 (fun s hs => by rw [List.mem_singleton.1 hs]; exact HBQ.out)
                refine ⟨hS3, ?_⟩
                try simp only [Act.put]
                refine reg_done (by kernel_rfl) ?_
                refine ⟨rfl, [(.slice (some ⟨W0.heap.size, 0, none⟩) 0 0), (.slice (some ⟨b1, o1, none⟩) nX c1), v50, (.slice (some ⟨b1, o1, none⟩) nX c1), (.slice (some ⟨b1, o1, none⟩) 4 c1), v53, T3 (.slice pa5 0 pc5) (.slice da5 0 dc5), T3 (.slice pa5 0 pc5) (.slice da5 0 dc5), A3 (.slice pa5 0 pc5), F3 (.slice da5 0 dc5), .pointer (some ⟨W1.heap.size, 0, none⟩), .pointer (some ⟨W4.heap.size, 0, none⟩)], ?_, _, _, _, _, _, _, _, _, _, _, _, _, _, rfl, hS3, hQ3⟩
                simp only [putAll, List.zip_cons_cons, List.zip_nil_left, Act.put, List.setIfInBounds_toArray, List.set_cons_zero, List.set_cons_succ, T3, A3, F3]
          · go_simp
            have HS4 := Lib.hid (HS3.out.trans (Same.alloc W3 (ftO 26 ⟨0, 0, []⟩ (.slice none 0 0))))
            refine ⟨HS4.out, ?_⟩
            try simp only [Act.put, List.setIfInBounds_toArray, List.set_cons_zero, List.set_cons_succ]
            have HO4 := Lib.hid (HO3.out.same (Same.alloc W3 (ftO 26 ⟨0, 0, []⟩ (.slice none 0 0))))
            have HP4 := Lib.hid ((Same.alloc W3 (ftO 26 ⟨0, 0, []⟩ (.slice none 0 0))).block HP3.out)
            have HQ4 := Lib.hid (heap_alloc_new W3 (ftO 26 ⟨0, 0, []⟩ (.slice none 0 0)))
            have HBQ := Lib.hid HS3.out.size
            have HNE := Lib.hid (Nat.ne_of_gt (Array.getElem?_eq_some_iff.1 HP3.out).1)
            generalize W3.alloc (ftO 26 ⟨0, 0, []⟩ (.slice none 0 0)) = W4 at *
            refine reg_one 5 rfl (by kernel_rfl) (by kernel_rfl) ?_
            · refine wp_append_bsg _ _ rfl U0.heap.size HS4.out.size v50 (([] : List UInt8) ++ X) rfl HO4.out (.slice (some ⟨b1, o1, none⟩) 4 c1) (X.take 4) rfl (HBU4.out.same HS4.out) HLe2.out ?_
              intro v53 W5 hO hg
              have HS5 := Lib.hid (HS4.out.grown hg (fun k e => (HO4.out.lt k e).1))
              have HO5 := Lib.hid hO
              have HP5 := Lib.hid (grown_keep hg HP4.out (own_not HO4.out HP4.out (by decide)))
              have HQ5 := Lib.hid (grown_keep hg HQ4.out (own_not HO4.out HQ4.out (by decide)))
              clear hO hg
              refine ⟨HS5.out, ?_⟩
              try simp only [Act.put, List.setIfInBounds_toArray, List.set_cons_zero, List.set_cons_succ]
              refine reg_one 6 rfl (by kernel_rfl) (by kernel_rfl) ?_
              · go_simp
                refine (HZ3 _ _ HO5.out.bs).out.mono ?_
                rintro e W6 ⟨v3, d3, rfl, hr3, hd3, hs3, -⟩
                have HS6 := Lib.hid (HS5.out.trans hs3)
                have HP6 := Lib.hid (hs3.block HP5.out)
                have HQ6 := Lib.hid (hs3.block HQ5.out)
                obtain ⟨pa5, pc5, rfl⟩ := hr3.form (n := 0) rfl
                obtain ⟨da5, dc5, rfl⟩ := hd3.form0 (n := 0) rfl
                clear hs3 hr3 hd3
                refine ⟨HS6.out, ?_⟩
                try simp only [Act.put, List.setIfInBounds_toArray, List.set_cons_zero, List.set_cons_succ]
                refine reg_take (v := ?_) 7 (some 47) rfl rfl (by kernel_rfl) (fun _ _ _ h => by cases h.1) (by kernel_rfl) HS6.out ?_ ?_
                rotate_left
                · (intro w' hw'; go_simp; try with_reducible rfl)
                try simp only [Act.put, List.setIfInBounds_toArray, List.set_cons_zero, List.set_cons_succ]
                refine reg_take (v := ?_) 8 (some 55) rfl rfl (by kernel_rfl) (fun _ _ _ h => by cases h.1) (by kernel_rfl) HS6.out ?_ ?_
                rotate_left
                · (intro w' hw'; go_simp; try with_reducible rfl)
                try simp only [Act.put, List.setIfInBounds_toArray, List.set_cons_zero, List.set_cons_succ]
                refine reg_take (v := ?_) 9 (some 56) rfl rfl (by kernel_rfl) (fun _ _ _ h => by cases h.1) (by kernel_rfl) HS6.out ?_ ?_
                rotate_left
                · (intro w' hw'; go_simp; try with_reducible rfl)
                try simp only [Act.put, List.setIfInBounds_toArray, List.set_cons_zero, List.set_cons_succ]
                refine reg_one 12 rfl (by kernel_rfl) (by kernel_rfl) ?_
                refine wp_store_row 35 _ _ (by rfl) (W1.heap.size) #[.int .i64 0, .slice pa5 0 pc5, .int .u32 0, .int .i64 0, .bool false] (by rfl) (by rfl) 35 _ HP6.out (by kernel_rfl) (by rfl) (by simp [Value.oneCell']) ?_
                have hQ2 := (setRow_other W6 (W1.heap.size) (W3.heap.size) #[.int .i64 0, .slice pa5 0 pc5, .int .u32 0, .int .i64 0, .bool false] (Ne.symm (Ne.symm HNE.out))).trans HQ6.out
                have hS2 := ((Kept.refl [W1.heap.size] W6).mod (setRow_mod (W1.heap.size) W6 #[.int .i64 0, .slice pa5 0 pc5, .int .u32 0, .int .i64 0, .bool false]) (.inl (by simp))).to_same HS6.out (fun s hs => by rw [List.mem_singleton.1 hs]; exact HBP.out)
                refine ⟨hS2, ?_⟩
                try simp only [Act.put]
                generalize W6.setRow (W1.heap.size) #[.int .i64 0, .slice pa5 0 pc5, .int .u32 0, .int .i64 0, .bool false] = V2 at *
                refine reg_one 13 rfl (by kernel_rfl) (by kernel_rfl) ?_
                refine wp_store_row 26 _ _ (by rfl) (W3.heap.size) #[.int .i64 3, .int .i64 1, .slice da5 0 dc5] (by rfl) (by rfl) 26 _ hQ2 (by kernel_rfl) (by rfl) (by simp [Value.oneCell']) ?_
                have hQ3 := setRow_heap V2 (W3.heap.size) _ #[.int .i64 3, .int .i64 1, .slice da5 0 dc5] _ _ hQ2
                have hS3 := ((Kept.refl [W3.heap.size] V2).mod (setRow_mod (W3.heap.size) V2 #[.int .i64 3, .int .i64 1, .slice da5 0 dc5]) (.inl (by simp))).to_same hS2 (fun s hs => by rw [List.mem_singleton.1 hs]; exact HBQ.out)
                refine ⟨hS3, ?_⟩
                try simp only [Act.put]
                refine reg_done (by kernel_rfl) ?_
                refine ⟨rfl, [(.slice (some ⟨W0.heap.size, 0, none⟩) 0 0), (.slice (some ⟨b1, o1, none⟩) nX c1), v50, (.slice (some ⟨b1, o1, none⟩) nX c1), (.slice (some ⟨b1, o1, none⟩) 4 c1), v53, T3 (.slice pa5 0 pc5) (.slice da5 0 dc5), T3 (.slice pa5 0 pc5) (.slice da5 0 dc5), A3 (.slice pa5 0 pc5), F3 (.slice da5 0 dc5), .pointer (some ⟨W1.heap.size, 0, none⟩), .pointer (some ⟨W3.heap.size, 0, none⟩)], ?_, _, _, _, _, _, _, _, _, _, _, _, _, _, rfl, hS3, hQ3⟩
                simp only [putAll, List.zip_cons_cons, List.zip_nil_left, Act.put, List.setIfInBounds_toArray, List.set_cons_zero, List.set_cons_succ, T3, A3, F3]
        · go_simp
          have HS3 := Lib.hid (HS2.out.trans (Same.alloc W2 (ftO 26 ⟨0, 0, []⟩ (.slice none 0 0))))
          refine ⟨HS3.out, ?_⟩
          try simp only [Act.put, List.setIfInBounds_toArray, List.set_cons_zero, List.set_cons_succ]
          have HO3 := Lib.hid (HO2.out.same (Same.alloc W2 (ftO 26 ⟨0, 0, []⟩ (.slice none 0 0))))
          have HP3 := Lib.hid ((Same.alloc W2 (ftO 26 ⟨0, 0, []⟩ (.slice none 0 0))).block HP2.out)
          have HQ3 := Lib.hid (heap_alloc_new W2 (ftO 26 ⟨0, 0, []⟩ (.slice none 0 0)))
          have HBQ := Lib.hid HS2.out.size
          have HNE := Lib.hid (Nat.ne_of_gt (Array.getElem?_eq_some_iff.1 HP2.out).1)
          generalize W2.alloc (ftO 26 ⟨0, 0, []⟩ (.slice none 0 0)) = W3 at *
          refine reg_one 2 rfl (by kernel_rfl) (by kernel_rfl) ?_
          · refine wp_append_bsg _ _ rfl U0.heap.size HS3.out.size (.slice (some ⟨W0.heap.size, 0, none⟩) 0 0) ([] : List UInt8) rfl HO3.out (.slice (some ⟨b1, o1, none⟩) nX c1) X rfl (HBU.out.same HS3.out) HLe1.out ?_
            intro v50 W4 hO hg
            have HS4 := Lib.hid (HS3.out.grown hg (fun k e => (HO3.out.lt k e).1))
            have HO4 := Lib.hid hO
            have HP4 := Lib.hid (grown_keep hg HP3.out (own_not HO3.out HP3.out (by decide)))
            have HQ4 := Lib.hid (grown_keep hg HQ3.out (own_not HO3.out HQ3.out (by decide)))
            clear hO hg
            refine ⟨HS4.out, ?_⟩
            try simp only [Act.put, List.setIfInBounds_toArray, List.set_cons_zero, List.set_cons_succ]
            refine reg_one 5 rfl (by kernel_rfl) (by kernel_rfl) ?_
            · refine wp_append_bsg _ _ rfl U0.heap.size HS4.out.size v50 (([] : List UInt8) ++ X) rfl HO4.out (.slice (some ⟨b1, o1, none⟩) 4 c1) (X.take 4) rfl (HBU4.out.same HS4.out) HLe2.out ?_
              intro v53 W5 hO hg
              have HS5 := Lib.hid (HS4.out.grown hg (fun k e => (HO4.out.lt k e).1))
              have HO5 := Lib.hid hO
              have HP5 := Lib.hid (grown_keep hg HP4.out (own_not HO4.out HP4.out (by decide)))
              have HQ5 := Lib.hid (grown_keep hg HQ4.out (own_not HO4.out HQ4.out (by decide)))
              clear hO hg
              refine ⟨HS5.out, ?_⟩
              try simp only [Act.put, List.setIfInBounds_toArray, List.set_cons_zero, List.set_cons_succ]
              refine reg_one 6 rfl (by kernel_rfl) (by kernel_rfl) ?_
              · go_simp
                refine (HZ3 _ _ HO5.out.bs).out.mono ?_
                rintro e W6 ⟨v3, d3, rfl, hr3, hd3, hs3, -⟩
                have HS6 := Lib.hid (HS5.out.trans hs3)
                have HP6 := Lib.hid (hs3.block HP5.out)
                have HQ6 := Lib.hid (hs3.block HQ5.out)
                obtain ⟨pa5, pc5, rfl⟩ := hr3.form (n := 0) rfl
                obtain ⟨da5, dc5, rfl⟩ := hd3.form0 (n := 0) rfl
                clear hs3 hr3 hd3
                refine ⟨HS6.out, ?_⟩
                try simp only [Act.put, List.setIfInBounds_toArray, List.set_cons_zero, List.set_cons_succ]
                refine reg_take (v := ?_) 7 (some 47) rfl rfl (by kernel_rfl) (fun _ _ _ h => by cases h.1) (by kernel_rfl) HS6.out ?_ ?_
                rotate_left
                · (intro w' hw'; go_simp; try with_reducible rfl)
                try simp only [Act.put, List.setIfInBounds_toArray, List.set_cons_zero, List.set_cons_succ]
                refine reg_take (v := ?_) 8 (some 55) rfl rfl (by kernel_rfl) (fun _ _ _ h => by cases h.1) (by kernel_rfl) HS6.out ?_ ?_
                rotate_left
                · (intro w' hw'; go_simp; try with_reducible rfl)
                try simp only [Act.put, List.setIfInBounds_toArray, List.set_cons_zero, List.set_cons_succ]
                refine reg_take (v := ?_) 9 (some 56) rfl rfl (by kernel_rfl) (fun _ _ _ h => by cases h.1) (by kernel_rfl) HS6.out ?_ ?_
                rotate_left
                · (intro w' hw'; go_simp; try with_reducible rfl)
                try simp only [Act.put, List.setIfInBounds_toArray, List.set_cons_zero, List.set_cons_succ]
                refine reg_one 12 rfl (by kernel_rfl) (by kernel_rfl) ?_
                refine wp_store_row 35 _ _ (by rfl) (W1.heap.size) #[.int .i64 0, .slice pa5 0 pc5, .int .u32 0, .int .i64 0, .bool false] (by rfl) (by rfl) 35 _ HP6.out (by kernel_rfl) (by rfl) (by simp [Value.oneCell']) ?_
                have hQ2 := (setRow_other W6 (W1.heap.size) (W2.heap.size) #[.int .i64 0, .slice pa5 0 pc5, .int .u32 0, .int .i64 0, .bool false] (Ne.symm (Ne.symm HNE.out))).trans HQ6.out
                have hS2 := ((Kept.refl [W1.heap.size] W6).mod (setRow_mod (W1.heap.size) W6 #[.int .i64 0, .slice pa5 0 pc5, .int .u32 0, .int .i64 0, .bool false]) (.inl (by simp))).to_same HS6.out (fun s hs => by rw [List.mem_singleton.1 hs]; exact HBP.out)
                refine ⟨hS2, ?_⟩
                try simp only [Act.put]
                generalize W6.setRow (W1.heap.size) #[.int .i64 0, .slice pa5 0 pc5, .int .u32 0, .int .i64 0, .bool false] = V2 at *
                refine reg_one 13 rfl (by kernel_rfl) (by kernel_rfl) ?_
                refine wp_store_row 26 _ _ (by rfl) (W2.heap.size) #[.int .i64 3, .int .i64 1, .slice da5 0 dc5] (by rfl) (by rfl) 26 _ hQ2 (by kernel_rfl) (by rfl) (by simp [Value.oneCell']) ?_
                have hQ3 := setRow_heap V2 (W2.heap.size) _ #[.int .i64 3, .int .i64 1, .slice da5 0 dc5] _ _ hQ2
                have hS3 := ((Kept.refl [W2.heap.size] V2).mod (setRow_mod (W2.heap.size) V2 #[.int .i64 3, .int .i64 1, .slice da5 0 dc5]) (.inl (by simp))).to_same hS2 (fun s hs => by rw [List.mem_singleton.1 hs]; exact HBQ.out)
                refine ⟨hS3, ?_⟩
                try simp only [Act.put]
                refine reg_done (by kernel_rfl) ?_
                refine ⟨rfl, [(.slice (some ⟨W0.heap.size, 0, none⟩) 0 0), (.slice (some ⟨b1, o1, none⟩) nX c1), v50, (.slice (some ⟨b1, o1, none⟩) nX c1), (.slice (some ⟨b1, o1, none⟩) 4 c1), v53, T3 (.slice pa5 0 pc5) (.slice da5 0 dc5), T3 (.slice pa5 0 pc5) (.slice da5 0 dc5), A3 (.slice pa5 0 pc5), F3 (.slice da5 0 dc5), .pointer (some ⟨W1.heap.size, 0, none⟩), .pointer (some ⟨W2.heap.size, 0, none⟩)], ?_, _, _, _, _, _, _, _, _, _, _, _, _, _, rfl, hS3, hQ3⟩
                simp only [putAll, List.zip_cons_cons, List.zip_nil_left, Act.put, List.setIfInBounds_toArray, List.set_cons_zero, List.set_cons_succ, T3, A3, F3]
      · go_simp
        have HS2 := Lib.hid (HS1.out.trans (Same.alloc W1 (ftO 26 ⟨0, 0, []⟩ (.slice none 0 0))))
        refine ⟨HS2.out, ?_⟩
        try simp only [Act.put, List.setIfInBounds_toArray, List.set_cons_zero, List.set_cons_succ]
        have HO2 := Lib.hid (HO1.out.same (Same.alloc W1 (ftO 26 ⟨0, 0, []⟩ (.slice none 0 0))))
        have HQ2 := Lib.hid (heap_alloc_new W1 (ftO 26 ⟨0, 0, []⟩ (.slice none 0 0)))
        have HBQ := Lib.hid HS1.out.size
        generalize W1.alloc (ftO 26 ⟨0, 0, []⟩ (.slice none 0 0)) = W2 at *
        refine reg_two 2 10 rfl rfl (by kernel_rfl) (by kernel_rfl) (by kernel_rfl) ?_ ?_
        · refine wp_append_bsg _ _ rfl U0.heap.size HS2.out.size (.slice (some ⟨W0.heap.size, 0, none⟩) 0 0) ([] : List UInt8) rfl HO2.out (.slice (some ⟨b1, o1, none⟩) nX c1) X rfl (HBU.out.same HS2.out) HLe1.out ?_
          intro v50 W3 hO hg
          have HS3 := Lib.hid (HS2.out.grown hg (fun k e => (HO2.out.lt k e).1))
          have HO3 := Lib.hid hO
          have HQ3 := Lib.hid (grown_keep hg HQ2.out (own_not HO2.out HQ2.out (by decide)))
          clear hO hg
          refine ⟨HS3.out, ?_⟩
          try simp only [Act.put, List.setIfInBounds_toArray, List.set_cons_zero, List.set_cons_succ]
          refine reg_two 5 10 rfl rfl (by kernel_rfl) (by kernel_rfl) (by kernel_rfl) ?_ ?_
          · refine wp_append_bsg _ _ rfl U0.heap.size HS3.out.size v50 (([] : List UInt8) ++ X) rfl HO3.out (.slice (some ⟨b1, o1, none⟩) 4 c1) (X.take 4) rfl (HBU4.out.same HS3.out) HLe2.out ?_
            intro v53 W4 hO hg
            have HS4 := Lib.hid (HS3.out.grown hg (fun k e => (HO3.out.lt k e).1))
            have HO4 := Lib.hid hO
            have HQ4 := Lib.hid (grown_keep hg HQ3.out (own_not HO3.out HQ3.out (by decide)))
            clear hO hg
            refine ⟨HS4.out, ?_⟩
            try simp only [Act.put, List.setIfInBounds_toArray, List.set_cons_zero, List.set_cons_succ]
            refine reg_two 6 10 rfl rfl (by kernel_rfl) (by kernel_rfl) (by kernel_rfl) ?_ ?_
            · go_simp
              refine (HZ3 _ _ HO4.out.bs).out.mono ?_
              rintro e W5 ⟨v3, d3, rfl, hr3, hd3, hs3, -⟩
              have HS5 := Lib.hid (HS4.out.trans hs3)
              have HQ5 := Lib.hid (hs3.block HQ4.out)
              obtain ⟨pa5, pc5, rfl⟩ := hr3.form (n := 0) rfl
              obtain ⟨da5, dc5, rfl⟩ := hd3.form0 (n := 0) rfl
              clear hs3 hr3 hd3
              refine ⟨HS5.out, ?_⟩
              try simp only [Act.put, List.setIfInBounds_toArray, List.set_cons_zero, List.set_cons_succ]
              refine reg_take (v := ?_) 7 (some 47) rfl rfl (by kernel_rfl) (fun _ _ _ h => by cases h.1) (by kernel_rfl) HS5.out ?_ ?_
              rotate_left
              · (intro w' hw'; go_simp; try with_reducible rfl)
              try simp only [Act.put, List.setIfInBounds_toArray, List.set_cons_zero, List.set_cons_succ]
              refine reg_take (v := ?_) 8 (some 55) rfl rfl (by kernel_rfl) (fun _ _ _ h => by cases h.1) (by kernel_rfl) HS5.out ?_ ?_
              rotate_left
              · (intro w' hw'; go_simp; try with_reducible rfl)
              try simp only [Act.put, List.setIfInBounds_toArray, List.set_cons_zero, List.set_cons_succ]
              refine reg_take (v := ?_) 9 (some 56) rfl rfl (by kernel_rfl) (fun _ _ _ h => by cases h.1) (by kernel_rfl) HS5.out ?_ ?_
              rotate_left
              · (intro w' hw'; go_simp; try with_reducible rfl)
              try simp only [Act.put, List.setIfInBounds_toArray, List.set_cons_zero, List.set_cons_succ]
              refine reg_one 10 rfl (by kernel_rfl) (by kernel_rfl) ?_
              · go_simp
                have HS6 := Lib.hid (HS5.out.trans (Same.alloc W5 (atO 35 ⟨0, [], 0, 0, false⟩ (.slice none 0 0))))
                refine ⟨HS6.out, ?_⟩
                try simp only [Act.put, List.setIfInBounds_toArray, List.set_cons_zero, List.set_cons_succ]
                have HQ6 := Lib.hid ((Same.alloc W5 (atO 35 ⟨0, [], 0, 0, false⟩ (.slice none 0 0))).block HQ5.out)
                have HP6 := Lib.hid (heap_alloc_new W5 (atO 35 ⟨0, [], 0, 0, false⟩ (.slice none 0 0)))
                have HBP := Lib.hid HS5.out.size
                have HNE := Lib.hid (Nat.ne_of_gt (Array.getElem?_eq_some_iff.1 HQ5.out).1)
                generalize W5.alloc (atO 35 ⟨0, [], 0, 0, false⟩ (.slice none 0 0)) = W6 at *
                refine reg_one 12 rfl (by kernel_rfl) (by kernel_rfl) ?_
                refine wp_store_row 35 _ _ (by rfl) (W5.heap.size) #[.int .i64 0, .slice pa5 0 pc5, .int .u32 0, .int .i64 0, .bool false] (by rfl) (by rfl) 35 _ HP6.out (by kernel_rfl) (by rfl) (by simp [Value.oneCell']) ?_
                have hQ2 := (setRow_other W6 (W5.heap.size) (W1.heap.size) #[.int .i64 0, .slice pa5 0 pc5, .int .u32 0, .int .i64 0, .bool false] (Ne.symm HNE.out)).trans HQ6.out
                have hS2 := ((Kept.refl [W5.heap.size] W6).mod (setRow_mod (W5.heap.size) W6 #[.int .i64 0, .slice pa5 0 pc5, .int .u32 0, .int .i64 0, .bool false]) (.inl (by simp))).to_same HS6.out (fun s hs => by rw [List.mem_singleton.1 hs]; exact HBP.out)
                refine ⟨hS2, ?_⟩
                try simp only [Act.put]
                generalize W6.setRow (W5.heap.size) #[.int .i64 0, .slice pa5 0 pc5, .int .u32 0, .int .i64 0, .bool false] = V2 at *
                refine reg_one 13 rfl (by kernel_rfl) (by kernel_rfl) ?_
                refine wp_store_row 26 _ _ (by rfl) (W1.heap.size) #[.int .i64 3, .int .i64 1, .slice da5 0 dc5] (by rfl) (by rfl) 26 _ hQ2 (by kernel_rfl) (by rfl) (by simp [Value.oneCell']) ?_
                have hQ3 := setRow_heap V2 (W1.heap.size) _ #[.int .i64 3, .int .i64 1, .slice da5 0 dc5] _ _ hQ2
                have hS3 := ((Kept.refl [W1.heap.size] V2).mod (setRow_mod (W1.heap.size) V2 #[.int .i64 3, .int .i64 1, .slice da5 0 dc5]) (.inl (by simp))).to_same hS2 (fun s hs => by rw [List.mem_singleton.1 hs]; exact HBQ.out)
                refine ⟨hS3, ?_⟩
                try simp only [Act.put]
                refine reg_done (by kernel_rfl) ?_
                refine ⟨rfl, [(.slice (some ⟨W0.heap.size, 0, none⟩) 0 0), (.slice (some ⟨b1, o1, none⟩) nX c1), v50, (.slice (some ⟨b1, o1, none⟩) nX c1), (.slice (some ⟨b1, o1, none⟩) 4 c1), v53, T3 (.slice pa5 0 pc5) (.slice da5 0 dc5), T3 (.slice pa5 0 pc5) (.slice da5 0 dc5), A3 (.slice pa5 0 pc5), F3 (.slice da5 0 dc5), .pointer (some ⟨W5.heap.size, 0, none⟩), .pointer (some ⟨W1.heap.size, 0, none⟩)], ?_, _, _, _, _, _, _, _, _, _, _, _, _, _, rfl, hS3, hQ3⟩
                simp only [putAll, List.zip_cons_cons, List.zip_nil_left, Act.put, List.setIfInBounds_toArray, List.set_cons_zero, List.set_cons_succ, T3, A3, F3]
            · go_simp
              have HS5 := Lib.hid (HS4.out.trans (Same.alloc W4 (atO 35 ⟨0, [], 0, 0, false⟩ (.slice none 0 0))))
              refine ⟨HS5.out, ?_⟩
              try simp only [Act.put, List.setIfInBounds_toArray, List.set_cons_zero, List.set_cons_succ]
              have HO5 := Lib.hid (HO4.out.same (Same.alloc W4 (atO 35 ⟨0, [], 0, 0, false⟩ (.slice none 0 0))))
              have HQ5 := Lib.hid ((Same.alloc W4 (atO 35 ⟨0, [], 0, 0, false⟩ (.slice none 0 0))).block HQ4.out)
              have HP5 := Lib.hid (heap_alloc_new W4 (atO 35 ⟨0, [], 0, 0, false⟩ (.slice none 0 0)))
              have HBP := Lib.hid HS4.out.size
              have HNE := Lib.hid (Nat.ne_of_gt (Array.getElem?_eq_some_iff.1 HQ4.out).1)
              generalize W4.alloc (atO 35 ⟨0, [], 0, 0, false⟩ (.slice none 0 0)) = W5 at *
              refine reg_one 6 rfl (by kernel_rfl) (by kernel_rfl) ?_
              · go_simp
                refine (HZ3 _ _ HO5.out.bs).out.mono ?_
                rintro e W6 ⟨v3, d3, rfl, hr3, hd3, hs3, -⟩
                have HS6 := Lib.hid (HS5.out.trans hs3)
                have HP6 := Lib.hid (hs3.block HP5.out)
                have HQ6 := Lib.hid (hs3.block HQ5.out)
                obtain ⟨pa5, pc5, rfl⟩ := hr3.form (n := 0) rfl
                obtain ⟨da5, dc5, rfl⟩ := hd3.form0 (n := 0) rfl
                clear hs3 hr3 hd3
                refine ⟨HS6.out, ?_⟩
                try simp only [Act.put, List.setIfInBounds_toArray, List.set_cons_zero, List.set_cons_succ]
                refine reg_take (v := ?_) 7 (some 47) rfl rfl (by kernel_rfl) (fun _ _ _ h => by cases h.1) (by kernel_rfl) HS6.out ?_ ?_
                rotate_left
                · (intro w' hw'; go_simp; try with_reducible rfl)
                try simp only [Act.put, List.setIfInBounds_toArray, List.set_cons_zero, List.set_cons_succ]
                refine reg_take (v := ?_) 8 (some 55) rfl rfl (by kernel_rfl) (fun _ _ _ h => by cases h.1) (by kernel_rfl) HS6.out ?_ ?_
                rotate_left
                · (intro w' hw'; go_simp; try with_reducible rfl)
                try simp only [Act.put, List.setIfInBounds_toArray, List.set_cons_zero, List.set_cons_succ]
                refine reg_take (v := ?_) 9 (some 56) rfl rfl (by kernel_rfl) (fun _ _ _ h => by cases h.1) (by kernel_rfl) HS6.out ?_ ?_
                rotate_left
                · (intro w' hw'; go_simp; try with_reducible rfl)
                try simp only [Act.put, List.setIfInBounds_toArray, List.set_cons_zero, List.set_cons_succ]
                refine reg_one 12 rfl (by kernel_rfl) (by kernel_rfl) ?_
                refine wp_store_row 35 _ _ (by rfl) (W4.heap.size) #[.int .i64 0, .slice pa5 0 pc5, .int .u32 0, .int .i64 0, .bool false] (by rfl) (by rfl) 35 _ HP6.out (by kernel_rfl) (by rfl) (by simp [Value.oneCell']) ?_
                have hQ2 := (setRow_other W6 (W4.heap.size) (W1.heap.size) #[.int .i64 0, .slice pa5 0 pc5, .int .u32 0, .int .i64 0, .bool false] (Ne.symm HNE.out)).trans HQ6.out
                have hS2 := ((Kept.refl [W4.heap.size] W6).mod (setRow_mod (W4.heap.size) W6 #[.int .i64 0, .slice pa5 0 pc5, .int .u32 0, .int .i64 0, .bool false]) (.inl (by simp))).to_same HS6.out (fun s hs => by rw [List.mem_singleton.1 hs]; exact HBP.out)
                refine ⟨hS2, ?_⟩
                try simp only [Act.put]
                generalize W6.setRow (W4.heap.size) #[.int .i64 0, .slice pa5 0 pc5, .int .u32 0, .int .i64 0, .bool false] = V2 at *
                refine reg_one 13 rfl (by kernel_rfl) (by kernel_rfl) ?_
                refine wp_store_row 26 _ _ (by rfl) (W1.heap.size) #[.int .i64 3, .int .i64 1, .slice da5 0 dc5] (by rfl) (by rfl) 26 _ hQ2 (by kernel_rfl) (by rfl) (by simp [Value.oneCell']) ?_
                have hQ3 := setRow_heap V2 (W1.heap.size) _ #[.int .i64 3, .int .i64 1, .slice da5 0 dc5] _ _ hQ2
                have hS3 := ((Kept.refl [W1.heap.size] V2).mod (setRow_mod (W1.heap.size) V2 #[.int .i64 3, .int .i64 1, .slice da5 0 dc5]) (.inl (by simp))).to_same hS2 (fun s hs => by rw [List.mem_singleton.1 hs]; exact HBQ.out)
                refine ⟨hS3, ?_⟩
                try simp only [Act.put]
                refine reg_done (by kernel_rfl) ?_
                refine ⟨rfl, [(.slice (some ⟨W0.heap.size, 0, none⟩) 0 0), (.slice (some ⟨b1, o1, none⟩) nX c1), v50, (.slice (some ⟨b1, o1, none⟩) nX c1), (.slice (some ⟨b1, o1, none⟩) 4 c1), v53, T3 (.slice pa5 0 pc5) (.slice da5 0 dc5), T3 (.slice pa5 0 pc5) (.slice da5 0 dc5), A3 (.slice pa5 0 pc5), F3 (.slice da5 0 dc5), .pointer (some ⟨W4.heap.size, 0, none⟩), .pointer (some ⟨W1.heap.size, 0, none⟩)], ?_, _, _, _, _, _, _, _, _, _, _, _, _, _, rfl, hS3, hQ3⟩
                simp only [putAll, List.zip_cons_cons, List.zip_nil_left, Act.put, List.setIfInBounds_toArray, List.set_cons_zero, List.set_cons_succ, T3, A3, F3]
          · go_simp
            have HS4 := Lib.hid (HS3.out.trans (Same.alloc W3 (atO 35 ⟨0, [], 0, 0, false⟩ (.slice none 0 0))))
            refine ⟨HS4.out, ?_⟩
            try simp only [Act.put, List.setIfInBounds_toArray, List.set_cons_zero, List.set_cons_succ]
            have HO4 := Lib.hid (HO3.out.same (Same.alloc W3 (atO 35 ⟨0, [], 0, 0, false⟩ (.slice none 0 0))))
            have HQ4 := Lib.hid ((Same.alloc W3 (atO 35 ⟨0, [], 0, 0, false⟩ (.slice none 0 0))).block HQ3.out)
            have HP4 := Lib.hid (heap_alloc_new W3 (atO 35 ⟨0, [], 0, 0, false⟩ (.slice none 0 0)))
            have HBP := Lib.hid HS3.out.size
            have HNE := Lib.hid (Nat.ne_of_gt (Array.getElem?_eq_some_iff.1 HQ3.out).1)
            generalize W3.alloc (atO 35 ⟨0, [], 0, 0, false⟩ (.slice none 0 0)) = W4 at *
            refine reg_one 5 rfl (by kernel_rfl) (by kernel_rfl) ?_
            · refine wp_append_bsg _ _ rfl U0.heap.size HS4.out.size v50 (([] : List UInt8) ++ X) rfl HO4.out (.slice (some ⟨b1, o1, none⟩) 4 c1) (X.take 4) rfl (HBU4.out.same HS4.out) HLe2.out ?_
              intro v53 W5 hO hg
              have HS5 := Lib.hid (HS4.out.grown hg (fun k e => (HO4.out.lt k e).1))
              have HO5 := Lib.hid hO
              have HP5 := Lib.hid (grown_keep hg HP4.out (own_not HO4.out HP4.out (by decide)))
              have HQ5 := Lib.hid (grown_keep hg HQ4.out (own_not HO4.out HQ4.out (by decide)))
              clear hO hg
              refine ⟨HS5.out, ?_⟩
              try simp only [Act.put, List.setIfInBounds_toArray, List.set_cons_zero, List.set_cons_succ]
              refine reg_one 6 rfl (by kernel_rfl) (by kernel_rfl) ?_
              · go_simp
                refine (HZ3 _ _ HO5.out.bs).out.mono ?_
                rintro e W6 ⟨v3, d3, rfl, hr3, hd3, hs3, -⟩
                have HS6 := Lib.hid (HS5.out.trans hs3)
                have HP6 := Lib.hid (hs3.block HP5.out)
                have HQ6 := Lib.hid (hs3.block HQ5.out)
                obtain ⟨pa5, pc5, rfl⟩ := hr3.form (n := 0) rfl
                obtain ⟨da5, dc5, rfl⟩ := hd3.form0 (n := 0) rfl
                clear hs3 hr3 hd3
                refine ⟨HS6.out, ?_⟩
                try simp only [Act.put, List.setIfInBounds_toArray, List.set_cons_zero, List.set_cons_succ]
                refine reg_take (v := ?_) 7 (some 47) rfl rfl (by kernel_rfl) (fun _ _ _ h => by cases h.1) (by kernel_rfl) HS6.out ?_ ?_
                rotate_left
                · (intro w' hw'; go_simp; try with_reducible rfl)
                try simp only [Act.put, List.setIfInBounds_toArray, List.set_cons_zero, List.set_cons_succ]
                refine reg_take (v := ?_) 8 (some 55) rfl rfl (by kernel_rfl) (fun _ _ _ h => by cases h.1) (by kernel_rfl) HS6.out ?_ ?_
                rotate_left
                · (intro w' hw'; go_simp; try with_reducible rfl)
                try simp only [Act.put, List.setIfInBounds_toArray, List.set_cons_zero, List.set_cons_succ]
                refine reg_take (v := ?_) 9 (some 56) rfl rfl (by kernel_rfl) (fun _ _ _ h => by cases h.1) (by kernel_rfl) HS6.out ?_ ?_
                rotate_left
                · (intro w' hw'; go_simp; try with_reducible rfl)
                try simp only [Act.put, List.setIfInBounds_toArray, List.set_cons_zero, List.set_cons_succ]
                refine reg_one 12 rfl (by kernel_rfl) (by kernel_rfl) ?_
                refine wp_store_row 35 _ _ (by rfl) (W3.heap.size) #[.int .i64 0, .slice pa5 0 pc5, .int .u32 0, .int .i64 0, .bool false] (by rfl) (by rfl) 35 _ HP6.out (by kernel_rfl) (by rfl) (by simp [Value.oneCell']) ?_
                have hQ2 := (setRow_other W6 (W3.heap.size) (W1.heap.size) #[.int .i64 0, .slice pa5 0 pc5, .int .u32 0, .int .i64 0, .bool false] (Ne.symm HNE.out)).trans HQ6.out
                have hS2 := ((Kept.refl [W3.heap.size] W6).mod (setRow_mod (W3.heap.size) W6 #[.int .i64 0, .slice pa5 0 pc5, .int .u32 0, .int .i64 0, .bool false]) (.inl (by simp))).to_same HS6.out (fun s hs => by rw [List.mem_singleton.1 hs]; exact HBP.out)
                refine ⟨hS2, ?_⟩
                try simp only [Act.put]
                generalize W6.setRow (W3.heap.size) #[.int .i64 0, .slice pa5 0 pc5, .int .u32 0, .int .i64 0, .bool false] = V2 at *
                refine reg_one 13 rfl (by kernel_rfl) (by kernel_rfl) ?_
                refine wp_store_row 26 _ _ (by rfl) (W1.heap.size) #[.int .i64 3, .int .i64 1, .slice da5 0 dc5] (by rfl) (by rfl) 26 _ hQ2 (by kernel_rfl) (by rfl) (by simp [Value.oneCell']) ?_
                have hQ3 := setRow_heap V2 (W1.heap.size) _ #[.int .i64 3, .int .i64 1, .slice da5 0 dc5] _ _ hQ2
                have hS3 := ((Kept.refl [W1.heap.size] V2).mod (setRow_mod (W1.heap.size) V2 #[.int .i64 3, .int .i64 1, .slice da5 0 dc5]) (.inl (by simp))).to_same hS2 (fun s hs => by rw [List.mem_singleton.1 hs]; exact HBQ.out)
                refine ⟨hS3, ?_⟩
                try simp only [Act.put]
                refine reg_done (by kernel_rfl) ?_
                refine ⟨rfl, [(.slice (some ⟨W0.heap.size, 0, none⟩) 0 0), (.slice (some ⟨b1, o1, none⟩) nX c1), v50, (.slice (some ⟨b1, o1, none⟩) nX c1), (.slice (some ⟨b1, o1, none⟩) 4 c1), v53, T3 (.slice pa5 0 pc5) (.slice da5 0 dc5), T3 (.slice pa5 0 pc5) (.slice da5 0 dc5), A3 (.slice pa5 0 pc5), F3 (.slice da5 0 dc5), .pointer (some ⟨W3.heap.size, 0, none⟩), .pointer (some ⟨W1.heap.size, 0, none⟩)], ?_, _, _, _, _, _, _, _, _, _, _, _, _, _, rfl, hS3, hQ3⟩
                simp only [putAll, List.zip_cons_cons, List.zip_nil_left, Act.put, List.setIfInBounds_toArray, List.set_cons_zero, List.set_cons_succ, T3, A3, F3]
        · go_simp
          have HS3 := Lib.hid (HS2.out.trans (Same.alloc W2 (atO 35 ⟨0, [], 0, 0, false⟩ (.slice none 0 0))))
          refine ⟨HS3.out, ?_⟩
          try simp only [Act.put, List.setIfInBounds_toArray, List.set_cons_zero, List.set_cons_succ]
          have HO3 := Lib.hid (HO2.out.same (Same.alloc W2 (atO 35 ⟨0, [], 0, 0, false⟩ (.slice none 0 0))))
          have HQ3 := Lib.hid ((Same.alloc W2 (atO 35 ⟨0, [], 0, 0, false⟩ (.slice none 0 0))).block HQ2.out)
          have HP3 := Lib.hid (heap_alloc_new W2 (atO 35 ⟨0, [], 0, 0, false⟩ (.slice none 0 0)))
          have HBP := Lib.hid HS2.out.size
          have HNE := Lib.hid (Nat.ne_of_gt (Array.getElem?_eq_some_iff.1 HQ2.out).1)
          generalize W2.alloc (atO 35 ⟨0, [], 0, 0, false⟩ (.slice none 0 0)) = W3 at *
          refine reg_one 2 rfl (by kernel_rfl) (by kernel_rfl) ?_
          · refine wp_append_bsg _ _ rfl U0.heap.size HS3.out.size (.slice (some ⟨W0.heap.size, 0, none⟩) 0 0) ([] : List UInt8) rfl HO3.out (.slice (some ⟨b1, o1, none⟩) nX c1) X rfl (HBU.out.same HS3.out) HLe1.out ?_
            intro v50 W4 hO hg
            have HS4 := Lib.hid (HS3.out.grown hg (fun k e => (HO3.out.lt k e).1))
            have HO4 := Lib.hid hO
            have HP4 := Lib.hid (grown_keep hg HP3.out (own_not HO3.out HP3.out (by decide)))
            have HQ4 := Lib.hid (grown_keep hg HQ3.out (own_not HO3.out HQ3.out (by decide)))
            clear hO hg
            refine ⟨HS4.out, ?_⟩
            try simp only [Act.put, List.setIfInBounds_toArray, List.set_cons_zero, List.set_cons_succ]
            refine reg_one 5 rfl (by kernel_rfl) (by kernel_rfl) ?_
            · refine wp_append_bsg _ _ rfl U0.heap.size HS4.out.size v50 (([] : List UInt8) ++ X) rfl HO4.out (.slice (some ⟨b1, o1, none⟩) 4 c1) (X.take 4) rfl (HBU4.out.same HS4.out) HLe2.out ?_
              intro v53 W5 hO hg
              have HS5 := Lib.hid (HS4.out.grown hg (fun k e => (HO4.out.lt k e).1))
              have HO5 := Lib.hid hO
              have HP5 := Lib.hid (grown_keep hg HP4.out (own_not HO4.out HP4.out (by decide)))
              have HQ5 := Lib.hid (grown_keep hg HQ4.out (own_not HO4.out HQ4.out (by decide)))
              clear hO hg
              refine ⟨HS5.out, ?_⟩
              try simp only [Act.put, List.setIfInBounds_toArray, List.set_cons_zero, List.set_cons_succ]
              refine reg_one 6 rfl (by kernel_rfl) (by kernel_rfl) ?_
              · go_simp
                refine (HZ3 _ _ HO5.out.bs).out.mono ?_
                rintro e W6 ⟨v3, d3, rfl, hr3, hd3, hs3, -⟩
                have HS6 := Lib.hid (HS5.out.trans hs3)
                have HP6 := Lib.hid (hs3.block HP5.out)
                have HQ6 := Lib.hid (hs3.block HQ5.out)
                obtain ⟨pa5, pc5, rfl⟩ := hr3.form (n := 0) rfl
                obtain ⟨da5, dc5, rfl⟩ := hd3.form0 (n := 0) rfl
                clear hs3 hr3 hd3
                refine ⟨HS6.out, ?_⟩
                try simp only [Act.put, List.setIfInBounds_toArray, List.set_cons_zero, List.set_cons_succ]
                refine reg_take (v := ?_) 7 (some 47) rfl rfl (by kernel_rfl) (fun _ _ _ h => by cases h.1) (by kernel_rfl) HS6.out ?_ ?_
                rotate_left
                · (intro w' hw'; go_simp; try with_reducible rfl)
                try simp only [Act.put, List.setIfInBounds_toArray, List.set_cons_zero, List.set_cons_succ]
                refine reg_take (v := ?_) 8 (some 55) rfl rfl (by kernel_rfl) (fun _ _ _ h => by cases h.1) (by kernel_rfl) HS6.out ?_ ?_
                rotate_left
                · (intro w' hw'; go_simp; try with_reducible rfl)
                try simp only [Act.put, List.setIfInBounds_toArray, List.set_cons_zero, List.set_cons_succ]
                refine reg_take (v := ?_) 9 (some 56) rfl rfl (by kernel_rfl) (fun _ _ _ h => by cases h.1) (by kernel_rfl) HS6.out ?_ ?_
                rotate_left
                · (intro w' hw'; go_simp; try with_reducible rfl)
                try simp only [Act.put, List.setIfInBounds_toArray, List.set_cons_zero, List.set_cons_succ]
                refine reg_one 12 rfl (by kernel_rfl) (by kernel_rfl) ?_
                refine wp_store_row 35 _ _ (by rfl) (W2.heap.size) #[.int .i64 0, .slice pa5 0 pc5, .int .u32 0, .int .i64 0, .bool false] (by rfl) (by rfl) 35 _ HP6.out (by kernel_rfl) (by rfl) (by simp [Value.oneCell']) ?_
                have hQ2 := (setRow_other W6 (W2.heap.size) (W1.heap.size) #[.int .i64 0, .slice pa5 0 pc5, .int .u32 0, .int .i64 0, .bool false] (Ne.symm HNE.out)).trans HQ6.out
                have hS2 := ((Kept.refl [W2.heap.size] W6).mod (setRow_mod (W2.heap.size) W6 #[.int .i64 0, .slice pa5 0 pc5, .int .u32 0, .int .i64 0, .bool false]) (.inl (by simp))).to_same HS6.out (fun s hs => by rw [List.mem_singleton.1 hs]; exact HBP.out)
                refine ⟨hS2, ?_⟩
                try simp only [Act.put]
                generalize W6.setRow (W2.heap.size) #[.int .i64 0, .slice pa5 0 pc5, .int .u32 0, .int .i64 0, .bool false] = V2 at *
                refine reg_one 13 rfl (by kernel_rfl) (by kernel_rfl) ?_
                refine wp_store_row 26 _ _ (by rfl) (W1.heap.size) #[.int .i64 3, .int .i64 1, .slice da5 0 dc5] (by rfl) (by rfl) 26 _ hQ2 (by kernel_rfl) (by rfl) (by simp [Value.oneCell']) ?_
                have hQ3 := setRow_heap V2 (W1.heap.size) _ #[.int .i64 3, .int .i64 1, .slice da5 0 dc5] _ _ hQ2
                have hS3 := ((Kept.refl [W1.heap.size] V2).mod (setRow_mod (W1.heap.size) V2 #[.int .i64 3, .int .i64 1, .slice da5 0 dc5]) (.inl (by simp))).to_same hS2 (fun s hs => by rw [List.mem_singleton.1 hs]; exact HBQ.out)
                refine ⟨hS3, ?_⟩
                try simp only [Act.put]
                refine reg_done (by kernel_rfl) ?_
                refine ⟨rfl, [(.slice (some ⟨W0.heap.size, 0, none⟩) 0 0), (.slice (some ⟨b1, o1, none⟩) nX c1), v50, (.slice (some ⟨b1, o1, none⟩) nX c1), (.slice (some ⟨b1, o1, none⟩) 4 c1), v53, T3 (.slice pa5 0 pc5) (.slice da5 0 dc5), T3 (.slice pa5 0 pc5) (.slice da5 0 dc5), A3 (.slice pa5 0 pc5), F3 (.slice da5 0 dc5), .pointer (some ⟨W2.heap.size, 0, none⟩), .pointer (some ⟨W1.heap.size, 0, none⟩)], ?_, _, _, _, _, _, _, _, _, _, _, _, _, _, rfl, hS3, hQ3⟩
                simp only [putAll, List.zip_cons_cons, List.zip_nil_left, Act.put, List.setIfInBounds_toArray, List.set_cons_zero, List.set_cons_succ, T3, A3, F3]
    · go_simp
      have HS1 := Lib.hid (HS0.out.trans (Same.alloc W0 (atO 35 ⟨0, [], 0, 0, false⟩ (.slice none 0 0))))
      refine ⟨HS1.out, ?_⟩
      try simp only [Act.put, List.setIfInBounds_toArray, List.set_cons_zero, List.set_cons_succ]
      have HP1 := Lib.hid (heap_alloc_new W0 (atO 35 ⟨0, [], 0, 0, false⟩ (.slice none 0 0)))
      have HBP := Lib.hid HS0.out.size
      generalize W0.alloc (atO 35 ⟨0, [], 0, 0, false⟩ (.slice none 0 0)) = W1 at *
      refine reg_two 0 11 rfl rfl (by kernel_rfl) (by kernel_rfl) (by kernel_rfl) ?_ ?_
      · go_simp
        have HS2 := Lib.hid (HS1.out.trans (Same.alloc W1 (Obj.cells #[] 5)))
        refine ⟨HS2.out, ?_⟩
        try simp only [Act.put, List.setIfInBounds_toArray, List.set_cons_zero, List.set_cons_succ]
        have HP2 := Lib.hid ((Same.alloc W1 (Obj.cells #[] 5)).block HP1.out)
        have HO2 := Lib.hid ((OwnB.empty W1).mono HS1.out.size)
        generalize W1.alloc (Obj.cells #[] 5) = W2 at *
        refine reg_two 2 11 rfl rfl (by kernel_rfl) (by kernel_rfl) (by kernel_rfl) ?_ ?_
        · refine wp_append_bsg _ _ rfl U0.heap.size HS2.out.size (.slice (some ⟨W1.heap.size, 0, none⟩) 0 0) ([] : List UInt8) rfl HO2.out (.slice (some ⟨b1, o1, none⟩) nX c1) X rfl (HBU.out.same HS2.out) HLe1.out ?_
          intro v50 W3 hO hg
          have HS3 := Lib.hid (HS2.out.grown hg (fun k e => (HO2.out.lt k e).1))
          have HO3 := Lib.hid hO
          have HP3 := Lib.hid (grown_keep hg HP2.out (own_not HO2.out HP2.out (by decide)))
          clear hO hg
          refine ⟨HS3.out, ?_⟩
          try simp only [Act.put, List.setIfInBounds_toArray, List.set_cons_zero, List.set_cons_succ]
          refine reg_two 5 11 rfl rfl (by kernel_rfl) (by kernel_rfl) (by kernel_rfl) ?_ ?_
          · refine wp_append_bsg _ _ rfl U0.heap.size HS3.out.size v50 (([] : List UInt8) ++ X) rfl HO3.out (.slice (some ⟨b1, o1, none⟩) 4 c1) (X.take 4) rfl (HBU4.out.same HS3.out) HLe2.out ?_
            intro v53 W4 hO hg
            have HS4 := Lib.hid (HS3.out.grown hg (fun k e => (HO3.out.lt k e).1))
            have HO4 := Lib.hid hO
            have HP4 := Lib.hid (grown_keep hg HP3.out (own_not HO3.out HP3.out (by decide)))
            clear hO hg
            refine ⟨HS4.out, ?_⟩
            try simp only [Act.put, List.setIfInBounds_toArray, List.set_cons_zero, List.set_cons_succ]
            refine reg_two 6 11 rfl rfl (by kernel_rfl) (by kernel_rfl) (by kernel_rfl) ?_ ?_
            · go_simp
              refine (HZ3 _ _ HO4.out.bs).out.mono ?_
              rintro e W5 ⟨v3, d3, rfl, hr3, hd3, hs3, -⟩
              have HS5 := Lib.hid (HS4.out.trans hs3)
              have HP5 := Lib.hid (hs3.block HP4.out)
              obtain ⟨pa5, pc5, rfl⟩ := hr3.form (n := 0) rfl
              obtain ⟨da5, dc5, rfl⟩ := hd3.form0 (n := 0) rfl
              clear hs3 hr3 hd3
              refine ⟨HS5.out, ?_⟩
              try simp only [Act.put, List.setIfInBounds_toArray, List.set_cons_zero, List.set_cons_succ]
              refine reg_take (v := ?_) 7 (some 47) rfl rfl (by kernel_rfl) (fun _ _ _ h => by cases h.1) (by kernel_rfl) HS5.out ?_ ?_
              rotate_left
              · (intro w' hw'; go_simp; try with_reducible rfl)
              try simp only [Act.put, List.setIfInBounds_toArray, List.set_cons_zero, List.set_cons_succ]
              refine reg_take (v := ?_) 8 (some 55) rfl rfl (by kernel_rfl) (fun _ _ _ h => by cases h.1) (by kernel_rfl) HS5.out ?_ ?_
              rotate_left
              · (intro w' hw'; go_simp; try with_reducible rfl)
              try simp only [Act.put, List.setIfInBounds_toArray, List.set_cons_zero, List.set_cons_succ]
              refine reg_take (v := ?_) 9 (some 56) rfl rfl (by kernel_rfl) (fun _ _ _ h => by cases h.1) (by kernel_rfl) HS5.out ?_ ?_
              rotate_left
              · (intro w' hw'; go_simp; try with_reducible rfl)
              try simp only [Act.put, List.setIfInBounds_toArray, List.set_cons_zero, List.set_cons_succ]
              refine reg_one 11 rfl (by kernel_rfl) (by kernel_rfl) ?_
              · go_simp
                have HS6 := Lib.hid (HS5.out.trans (Same.alloc W5 (ftO 26 ⟨0, 0, []⟩ (.slice none 0 0))))
                refine ⟨HS6.out, ?_⟩
                try simp only [Act.put, List.setIfInBounds_toArray, List.set_cons_zero, List.set_cons_succ]
                have HP6 := Lib.hid ((Same.alloc W5 (ftO 26 ⟨0, 0, []⟩ (.slice none 0 0))).block HP5.out)
                have HQ6 := Lib.hid (heap_alloc_new W5 (ftO 26 ⟨0, 0, []⟩ (.slice none 0 0)))
                have HBQ := Lib.hid HS5.out.size
                have HNE := Lib.hid (Nat.ne_of_gt (Array.getElem?_eq_some_iff.1 HP5.out).1)
                generalize W5.alloc (ftO 26 ⟨0, 0, []⟩ (.slice none 0 0)) = W6 at *
                refine reg_one 12 rfl (by kernel_rfl) (by kernel_rfl) ?_
                refine wp_store_row 35 _ _ (by rfl) (W0.heap.size) #[.int .i64 0, .slice pa5 0 pc5, .int .u32 0, .int .i64 0, .bool false] (by rfl) (by rfl) 35 _ HP6.out (by kernel_rfl) (by rfl) (by simp [Value.oneCell']) ?_
                have hQ2 := (setRow_other W6 (W0.heap.size) (W5.heap.size) #[.int .i64 0, .slice pa5 0 pc5, .int .u32 0, .int .i64 0, .bool false] (Ne.symm (Ne.symm HNE.out))).trans HQ6.out
                have hS2 := ((Kept.refl [W0.heap.size] W6).mod (setRow_mod (W0.heap.size) W6 #[.int .i64 0, .slice pa5 0 pc5, .int .u32 0, .int .i64 0, .bool false]) (.inl (by simp))).to_same HS6.out (fun s hs => by rw [List.mem_singleton.1 hs]; exact HBP.out)
                refine ⟨hS2, ?_⟩
                try simp only [Act.put]
                generalize W6.setRow (W0.heap.size) #[.int .i64 0, .slice pa5 0 pc5, .int .u32 0, .int .i64 0, .bool false] = V2 at *
                refine reg_one 13 rfl (by kernel_rfl) (by kernel_rfl) ?_
                refine wp_store_row 26 _ _ (by rfl) (W5.heap.size) #[.int .i64 3, .int .i64 1, .slice da5 0 dc5] (by rfl) (by rfl) 26 _ hQ2 (by kernel_rfl) (by rfl) (by simp [Value.oneCell']) ?_
                have hQ3 := setRow_heap V2 (W5.heap.size) _ #[.int .i64 3, .int .i64 1, .slice da5 0 dc5] _ _ hQ2
                have hS3 := ((Kept.refl [W5.heap.size] V2).mod (setRow_mod (W5.heap.size) V2 #[.int .i64 3, .int .i64 1, .slice da5 0 dc5]) (.inl (by simp))).to_same hS2 (fun s hs => by rw [List.mem_singleton.1 hs]; exact HBQ.out)
                refine ⟨hS3, ?_⟩
                try simp only [Act.put]
                refine reg_done (by kernel_rfl) ?_
                refine ⟨rfl, [(.slice (some ⟨W1.heap.size, 0, none⟩) 0 0), (.slice (some ⟨b1, o1, none⟩) nX c1), v50, (.slice (some ⟨b1, o1, none⟩) nX c1), (.slice (some ⟨b1, o1, none⟩) 4 c1), v53, T3 (.slice pa5 0 pc5) (.slice da5 0 dc5), T3 (.slice pa5 0 pc5) (.slice da5 0 dc5), A3 (.slice pa5 0 pc5), F3 (.slice da5 0 dc5), .pointer (some ⟨W0.heap.size, 0, none⟩), .pointer (some ⟨W5.heap.size, 0, none⟩)], ?_, _, _, _, _, _, _, _, _, _, _, _, _, _, rfl, hS3, hQ3⟩
                simp only [putAll, List.zip_cons_cons, List.zip_nil_left, Act.put, List.setIfInBounds_toArray, List.set_cons_zero, List.set_cons_succ, T3, A3, F3]
            · go_simp
              have HS5 := Lib.hid (HS4.out.trans (Same.alloc W4 (ftO 26 ⟨0, 0, []⟩ (.slice none 0 0))))
              refine ⟨HS5.out, ?_⟩
              try simp only [Act.put, List.setIfInBounds_toArray, List.set_cons_zero, List.set_cons_succ]
              have HO5 := Lib.hid (HO4.out.same (Same.alloc W4 (ftO 26 ⟨0, 0, []⟩ (.slice none 0 0))))
              have HP5 := Lib.hid ((Same.alloc W4 (ftO 26 ⟨0, 0, []⟩ (.slice none 0 0))).block HP4.out)
              have HQ5 := Lib.hid (heap_alloc_new W4 (ftO 26 ⟨0, 0, []⟩ (.slice none 0 0)))
              have HBQ := Lib.hid HS4.out.size
              have HNE := Lib.hid (Nat.ne_of_gt (Array.getElem?_eq_some_iff.1 HP4.out).1)
              generalize W4.alloc (ftO 26 ⟨0, 0, []⟩ (.slice none 0 0)) = W5 at *
              refine reg_one 6 rfl (by kernel_rfl) (by kernel_rfl) ?_
              · go_simp
                refine (HZ3 _ _ HO5.out.bs).out.mono ?_
                rintro e W6 ⟨v3, d3, rfl, hr3, hd3, hs3, -⟩
                have HS6 := Lib.hid (HS5.out.trans hs3)
                have HP6 := Lib.hid (hs3.block HP5.out)
                have HQ6 := Lib.hid (hs3.block HQ5.out)
                obtain ⟨pa5, pc5, rfl⟩ := hr3.form (n := 0) rfl
                obtain ⟨da5, dc5, rfl⟩ := hd3.form0 (n := 0) rfl
                clear hs3 hr3 hd3
                refine ⟨HS6.out, ?_⟩
                try simp only [Act.put, List.setIfInBounds_toArray, List.set_cons_zero, List.set_cons_succ]
                refine reg_take (v := ?_) 7 (some 47) rfl rfl (by kernel_rfl) (fun _ _ _ h => by cases h.1) (by kernel_rfl) HS6.out ?_ ?_
                rotate_left
                · (intro w' hw'; go_simp; try with_reducible rfl)
                try simp only [Act.put, List.setIfInBounds_toArray, List.set_cons_zero, List.set_cons_succ]
                refine reg_take (v := ?_) 8 (some 55) rfl rfl (by kernel_rfl) (fun _ _ _ h => by cases h.1) (by kernel_rfl) HS6.out ?_ ?_
                rotate_left
                · (intro w' hw'; go_simp; try with_reducible rfl)
                try simp only [Act.put, List.setIfInBounds_toArray, List.set_cons_zero, List.set_cons_succ]
                refine reg_take (v := ?_) 9 (some 56) rfl rfl (by kernel_rfl) (fun _ _ _ h => by cases h.1) (by kernel_rfl) HS6.out ?_ ?_
                rotate_left
                · (intro w' hw'; go_simp; try with_reducible rfl)
                try simp only [Act.put, List.setIfInBounds_toArray, List.set_cons_zero, List.set_cons_succ]
                refine reg_one 12 rfl (by kernel_rfl) (by kernel_rfl) ?_
                refine wp_store_row 35 _ _ (by rfl) (W0.heap.size) #[.int .i64 0, .slice pa5 0 pc5, .int .u32 0, .int .i64 0, .bool false] (by rfl) (by rfl) 35 _ HP6.out (by kernel_rfl) (by rfl) (by simp [Value.oneCell']) ?_
                have hQ2 := (setRow_other W6 (W0.heap.size) (W4.heap.size) #[.int .i64 0, .slice pa5 0 pc5, .int .u32 0, .int .i64 0, .bool false] (Ne.symm (Ne.symm HNE.out))).trans HQ6.out
                have hS2 := ((Kept.refl [W0.heap.size] W6).mod (setRow_mod (W0.heap.size) W6 #[.int .i64 0, .slice pa5 0 pc5, .int .u32 0, .int .i64 0, .bool false]) (.inl (by simp))).to_same HS6.out (fun s hs => by rw [List.mem_singleton.1 hs]; exact HBP.out)
                refine ⟨hS2, ?_⟩
                try simp only [Act.put]
                generalize W6.setRow (W0.heap.size) #[.int .i64 0, .slice pa5 0 pc5, .int .u32 0, .int .i64 0, .bool false] = V2 at *
                refine reg_one 13 rfl (by kernel_rfl) (by kernel_rfl) ?_
                refine wp_store_row 26 _ _ (by rfl) (W4.heap.size) #[.int .i64 3, .int .i64 1, .slice da5 0 dc5] (by rfl) (by rfl) 26 _ hQ2 (by kernel_rfl) (by rfl) (by simp [Value.oneCell']) ?_
                have hQ3 := setRow_heap V2 (W4.heap.size) _ #[.int .i64 3, .int .i64 1, .slice da5 0 dc5] _ _ hQ2
                have hS3 := ((Kept.refl [W4.heap.size] V2).mod (setRow_mod (W4.heap.size) V2 #[.int .i64 3, .int .i64 1, .slice da5 0 dc5]) (.inl (by simp))).to_same hS2 (fun s hs => by rw [List.mem_singleton.1 hs]; exact HBQ.out)
                refine ⟨hS3, ?_⟩
                try simp only [Act.put]
                refine reg_done (by kernel_rfl) ?_
                refine ⟨rfl, [(.slice (some ⟨W1.heap.size, 0, none⟩) 0 0), (.slice (some ⟨b1, o1, none⟩) nX c1), v50, (.slice (some ⟨b1, o1, none⟩) nX c1), (.slice (some ⟨b1, o1, none⟩) 4 c1), v53, T3 (.slice pa5 0 pc5) (.slice da5 0 dc5), T3 (.slice pa5 0 pc5) (.slice da5 0 dc5), A3 (.slice pa5 0 pc5), F3 (.slice da5 0 dc5), .pointer (some ⟨W0.heap.size, 0, none⟩), .pointer (some ⟨W4.heap.size, 0, none⟩)], ?_, _, _, _, _, _, _, _, _, _, _, _, _, _, rfl, hS3, hQ3⟩
                simp only [putAll, List.zip_cons_cons, List.zip_nil_left, Act.put, List.setIfInBounds_toArray, List.set_cons_zero, List.set_cons_succ, T3, A3, F3]
          · go_simp
            have HS4 := Lib.hid (HS3.out.trans (Same.alloc W3 (ftO 26 ⟨0, 0, []⟩ (.slice none 0 0))))
            refine ⟨HS4.out, ?_⟩
            try simp only [Act.put, List.setIfInBounds_toArray, List.set_cons_zero, List.set_cons_succ]
            have HO4 := Lib.hid (HO3.out.same (Same.alloc W3 (ftO 26 ⟨0, 0, []⟩ (.slice none 0 0))))
            have HP4 := Lib.hid ((Same.alloc W3 (ftO 26 ⟨0, 0, []⟩ (.slice none 0 0))).block HP3.out)
            have HQ4 := Lib.hid (heap_alloc_new W3 (ftO 26 ⟨0, 0, []⟩ (.slice none 0 0)))
            have HBQ := Lib.hid HS3.out.size
            have HNE := Lib.hid (Nat.ne_of_gt (Array.getElem?_eq_some_iff.1 HP3.out).1)
            generalize W3.alloc (ftO 26 ⟨0, 0, []⟩ (.slice none 0 0)) = W4 at *
            refine reg_one 5 rfl (by kernel_rfl) (by kernel_rfl) ?_
            · refine wp_append_bsg _ _ rfl U0.heap.size HS4.out.size v50 (([] : List UInt8) ++ X) rfl HO4.out (.slice (some ⟨b1, o1, none⟩) 4 c1) (X.take 4) rfl (HBU4.out.same HS4.out) HLe2.out ?_
              intro v53 W5 hO hg
              have HS5 := Lib.hid (HS4.out.grown hg (fun k e => (HO4.out.lt k e).1))
              have HO5 := Lib.hid hO
              have HP5 := Lib.hid (grown_keep hg HP4.out (own_not HO4.out HP4.out (by decide)))
              have HQ5 := Lib.hid (grown_keep hg HQ4.out (own_not HO4.out HQ4.out (by decide)))
              clear hO hg
              refine ⟨HS5.out, ?_⟩
              try simp only [Act.put, List.setIfInBounds_toArray, List.set_cons_zero, List.set_cons_succ]
              refine reg_one 6 rfl (by kernel_rfl) (by kernel_rfl) ?_
              · go_simp
                refine (HZ3 _ _ HO5.out.bs).out.mono ?_
                rintro e W6 ⟨v3, d3, rfl, hr3, hd3, hs3, -⟩
                have HS6 := Lib.hid (HS5.out.trans hs3)
                have HP6 := Lib.hid (hs3.block HP5.out)
                have HQ6 := Lib.hid (hs3.block HQ5.out)
                obtain ⟨pa5, pc5, rfl⟩ := hr3.form (n := 0) rfl
                obtain ⟨da5, dc5, rfl⟩ := hd3.form0 (n := 0) rfl
                clear hs3 hr3 hd3
                refine ⟨HS6.out, ?_⟩
                try simp only [Act.put, List.setIfInBounds_toArray, List.set_cons_zero, List.set_cons_succ]
                refine reg_take (v := ?_) 7 (some 47) rfl rfl (by kernel_rfl) (fun _ _ _ h => by cases h.1) (by kernel_rfl) HS6.out ?_ ?_
                rotate_left
                · (intro w' hw'; go_simp; try with_reducible rfl)
                try simp only [Act.put, List.setIfInBounds_toArray, List.set_cons_zero, List.set_cons_succ]
                refine reg_take (v := ?_) 8 (some 55) rfl rfl (by kernel_rfl) (fun _ _ _ h => by cases h.1) (by kernel_rfl) HS6.out ?_ ?_
                rotate_left
                · (intro w' hw'; go_simp; try with_reducible rfl)
                try simp only [Act.put, List.setIfInBounds_toArray, List.set_cons_zero, List.set_cons_succ]
                refine reg_take (v := ?_) 9 (some 56) rfl rfl (by kernel_rfl) (fun _ _ _ h => by cases h.1) (by kernel_rfl) HS6.out ?_ ?_
                rotate_left
                · (intro w' hw'; go_simp; try with_reducible rfl)
                try simp only [Act.put, List.setIfInBounds_toArray, List.set_cons_zero, List.set_cons_succ]
                refine reg_one 12 rfl (by kernel_rfl) (by kernel_rfl) ?_
                refine wp_store_row 35 _ _ (by rfl) (W0.heap.size) #[.int .i64 0, .slice pa5 0 pc5, .int .u32 0, .int .i64 0, .bool false] (by rfl) (by rfl) 35 _ HP6.out (by kernel_rfl) (by rfl) (by simp [Value.oneCell']) ?_
                have hQ2 := (setRow_other W6 (W0.heap.size) (W3.heap.size) #[.int .i64 0, .slice pa5 0 pc5, .int .u32 0, .int .i64 0, .bool false] (Ne.symm (Ne.symm HNE.out))).trans HQ6.out
                have hS2 := ((Kept.refl [W0.heap.size] W6).mod (setRow_mod (W0.heap.size) W6 #[.int .i64 0, .slice pa5 0 pc5, .int .u32 0, .int .i64 0, .bool false]) (.inl (by simp))).to_same HS6.out (fun s hs => by rw [List.mem_singleton.1 hs]; exact HBP.out)
                refine ⟨hS2, ?_⟩
                try simp only [Act.put]
                generalize W6.setRow (W0.heap.size) #[.int .i64 0, .slice pa5 0 pc5, .int .u32 0, .int .i64 0, .bool false] = V2 at *
                refine reg_one 13 rfl (by kernel_rfl) (by kernel_rfl) ?_
                refine wp_store_row 26 _ _ (by rfl) (W3.heap.size) #[.int .i64 3, .int .i64 1, .slice da5 0 dc5] (by rfl) (by rfl) 26 _ hQ2 (by kernel_rfl) (by rfl) (by simp [Value.oneCell']) ?_
                have hQ3 := setRow_heap V2 (W3.heap.size) _ #[.int .i64 3, .int .i64 1, .slice da5 0 dc5] _ _ hQ2
                have hS3 := ((Kept.refl [W3.heap.size] V2).mod (setRow_mod (W3.heap.size) V2 #[.int .i64 3, .int .i64 1, .slice da5 0 dc5]) (.inl (by simp))).to_same hS2 (fun s hs => by rw [List.mem_singleton.1 hs]; exact HBQ.out)
                refine ⟨hS3, ?_⟩
                try simp only [Act.put]
                refine reg_done (by kernel_rfl) ?_
                refine ⟨rfl, [(.slice (some ⟨W1.heap.size, 0, none⟩) 0 0), (.slice (some ⟨b1, o1, none⟩) nX c1), v50, (.slice (some ⟨b1, o1, none⟩) nX c1), (.slice (some ⟨b1, o1, none⟩) 4 c1), v53, T3 (.slice pa5 0 pc5) (.slice da5 0 dc5), T3 (.slice pa5 0 pc5) (.slice da5 0 dc5), A3 (.slice pa5 0 pc5), F3 (.slice da5 0 dc5), .pointer (some ⟨W0.heap.size, 0, none⟩), .pointer (some ⟨W3.heap.size, 0, none⟩)], ?_, _, _, _, _, _, _, _, _, _, _, _, _, _, rfl, hS3, hQ3⟩
                simp only [putAll, List.zip_cons_cons, List.zip_nil_left, Act.put, List.setIfInBounds_toArray, List.set_cons_zero, List.set_cons_succ, T3, A3, F3]
        · go_simp
          have HS3 := Lib.hid (HS2.out.trans (Same.alloc W2 (ftO 26 ⟨0, 0, []⟩ (.slice none 0 0))))
          refine ⟨HS3.out, ?_⟩
          try simp only [Act.put, List.setIfInBounds_toArray, List.set_cons_zero, List.set_cons_succ]
          have HO3 := Lib.hid (HO2.out.same (Same.alloc W2 (ftO 26 ⟨0, 0, []⟩ (.slice none 0 0))))
          have HP3 := Lib.hid ((Same.alloc W2 (ftO 26 ⟨0, 0, []⟩ (.slice none 0 0))).block HP2.out)
          have HQ3 := Lib.hid (heap_alloc_new W2 (ftO 26 ⟨0, 0, []⟩ (.slice none 0 0)))
          have HBQ := Lib.hid HS2.out.size
          have HNE := Lib.hid (Nat.ne_of_gt (Array.getElem?_eq_some_iff.1 HP2.out).1)
          generalize W2.alloc (ftO 26 ⟨0, 0, []⟩ (.slice none 0 0)) = W3 at *
          refine reg_one 2 rfl (by kernel_rfl) (by kernel_rfl) ?_
          · refine wp_append_bsg _ _ rfl U0.heap.size HS3.out.size (.slice (some ⟨W1.heap.size, 0, none⟩) 0 0) ([] : List UInt8) rfl HO3.out (.slice (some ⟨b1, o1, none⟩) nX c1) X rfl (HBU.out.same HS3.out) HLe1.out ?_
            intro v50 W4 hO hg
            have HS4 := Lib.hid (HS3.out.grown hg (fun k e => (HO3.out.lt k e).1))
            have HO4 := Lib.hid hO
            have HP4 := Lib.hid (grown_keep hg HP3.out (own_not HO3.out HP3.out (by decide)))
            have HQ4 := Lib.hid (grown_keep hg HQ3.out (own_not HO3.out HQ3.out (by decide)))
            clear hO hg
            refine ⟨HS4.out, ?_⟩
            try simp only [Act.put, List.setIfInBounds_toArray, List.set_cons_zero, List.set_cons_succ]
            refine reg_one 5 rfl (by kernel_rfl) (by kernel_rfl) ?_
            · refine wp_append_bsg _ _ rfl U0.heap.size HS4.out.size v50 (([] : List UInt8) ++ X) rfl HO4.out (.slice (some ⟨b1, o1, none⟩) 4 c1) (X.take 4) rfl (HBU4.out.same HS4.out) HLe2.out ?_
              intro v53 W5 hO hg
              have HS5 := Lib.hid (HS4.out.grown hg (fun k e => (HO4.out.lt k e).1))
              have HO5 := Lib.hid hO
              have HP5 := Lib.hid (grown_keep hg HP4.out (own_not HO4.out HP4.out (by decide)))
              have HQ5 := Lib.hid (grown_keep hg HQ4.out (own_not HO4.out HQ4.out (by decide)))
              clear hO hg
              refine ⟨HS5.out, ?_⟩
              try simp only [Act.put, List.setIfInBounds_toArray, List.set_cons_zero, List.set_cons_succ]
              refine reg_one 6 rfl (by kernel_rfl) (by kernel_rfl) ?_
              · go_simp
                refine (HZ3 _ _ HO5.out.bs).out.mono ?_
                rintro e W6 ⟨v3, d3, rfl, hr3, hd3, hs3, -⟩
                have HS6 := Lib.hid (HS5.out.trans hs3)
                have HP6 := Lib.hid (hs3.block HP5.out)
                have HQ6 := Lib.hid (hs3.block HQ5.out)
                obtain ⟨pa5, pc5, rfl⟩ := hr3.form (n := 0) rfl
                obtain ⟨da5, dc5, rfl⟩ := hd3.form0 (n := 0) rfl
                clear hs3 hr3 hd3
                refine ⟨HS6.out, ?_⟩
                try simp only [Act.put, List.setIfInBounds_toArray, List.set_cons_zero, List.set_cons_succ]
                refine reg_take (v := ?_) 7 (some 47) rfl rfl (by kernel_rfl) (fun _ _ _ h => by cases h.1) (by kernel_rfl) HS6.out ?_ ?_
                rotate_left
                · (intro w' hw'; go_simp; try with_reducible rfl)
                try simp only [Act.put, List.setIfInBounds_toArray, List.set_cons_zero, List.set_cons_succ]
                refine reg_take (v := ?_) 8 (some 55) rfl rfl (by kernel_rfl) (fun _ _ _ h => by cases h.1) (by kernel_rfl) HS6.out ?_ ?_
                rotate_left
                · (intro w' hw'; go_simp; try with_reducible rfl)
                try simp only [Act.put, List.setIfInBounds_toArray, List.set_cons_zero, List.set_cons_succ]
                refine reg_take (v := ?_) 9 (some 56) rfl rfl (by kernel_rfl) (fun _ _ _ h => by cases h.1) (by kernel_rfl) HS6.out ?_ ?_
                rotate_left
                · (intro w' hw'; go_simp; try with_reducible rfl)
                try simp only [Act.put, List.setIfInBounds_toArray, List.set_cons_zero, List.set_cons_succ]
                refine reg_one 12 rfl (by kernel_rfl) (by kernel_rfl) ?_
                refine wp_store_row 35 _ _ (by rfl) (W0.heap.size) #[.int .i64 0, .slice pa5 0 pc5, .int .u32 0, .int .i64 0, .bool false] (by rfl) (by rfl) 35 _ HP6.out (by kernel_rfl) (by rfl) (by simp [Value.oneCell']) ?_
                have hQ2 := (setRow_other W6 (W0.heap.size) (W2.heap.size) #[.int .i64 0, .slice pa5 0 pc5, .int .u32 0, .int .i64 0, .bool false] (Ne.symm (Ne.symm HNE.out))).trans HQ6.out
                have hS2 := ((Kept.refl [W0.heap.size] W6).mod (setRow_mod (W0.heap.size) W6 #[.int .i64 0, .slice pa5 0 pc5, .int .u32 0, .int .i64 0, .bool false]) (.inl (by simp))).to_same HS6.out (fun s hs => by rw [List.mem_singleton.1 hs]; exact HBP.out)
                refine ⟨hS2, ?_⟩
                try simp only [Act.put]
                generalize W6.setRow (W0.heap.size) #[.int .i64 0, .slice pa5 0 pc5, .int .u32 0, .int .i64 0, .bool false] = V2 at *
                refine reg_one 13 rfl (by kernel_rfl) (by kernel_rfl) ?_
                refine wp_store_row 26 _ _ (by rfl) (W2.heap.size) #[.int .i64 3, .int .i64 1, .slice da5 0 dc5] (by rfl) (by rfl) 26 _ hQ2 (by kernel_rfl) (by rfl) (by simp [Value.oneCell']) ?_
                have hQ3 := setRow_heap V2 (W2.heap.size) _ #[.int .i64 3, .int .i64 1, .slice da5 0 dc5] _ _ hQ2
                have hS3 := ((Kept.refl [W2.heap.size] V2).mod (setRow_mod (W2.heap.size) V2 #[.int .i64 3, .int .i64 1, .slice da5 0 dc5]) (.inl (by simp))).to_same hS2 (fun s hs => by rw [List.mem_singleton.1 hs]; exact HBQ.out)
                refine ⟨hS3, ?_⟩
                try simp only [Act.put]
                refine reg_done (by kernel_rfl) ?_
                refine ⟨rfl, [(.slice (some ⟨W1.heap.size, 0, none⟩) 0 0), (.slice (some ⟨b1, o1, none⟩) nX c1), v50, (.slice (some ⟨b1, o1, none⟩) nX c1), (.slice (some ⟨b1, o1, none⟩) 4 c1), v53, T3 (.slice pa5 0 pc5) (.slice da5 0 dc5), T3 (.slice pa5 0 pc5) (.slice da5 0 dc5), A3 (.slice pa5 0 pc5), F3 (.slice da5 0 dc5), .pointer (some ⟨W0.heap.size, 0, none⟩), .pointer (some ⟨W2.heap.size, 0, none⟩)], ?_, _, _, _, _, _, _, _, _, _, _, _, _, _, rfl, hS3, hQ3⟩
                simp only [putAll, List.zip_cons_cons, List.zip_nil_left, Act.put, List.setIfInBounds_toArray, List.set_cons_zero, List.set_cons_succ, T3, A3, F3]
      · go_simp
        have HS2 := Lib.hid (HS1.out.trans (Same.alloc W1 (ftO 26 ⟨0, 0, []⟩ (.slice none 0 0))))
        refine ⟨HS2.out, ?_⟩
        try simp only [Act.put, List.setIfInBounds_toArray, List.set_cons_zero, List.set_cons_succ]
        have HP2 := Lib.hid ((Same.alloc W1 (ftO 26 ⟨0, 0, []⟩ (.slice none 0 0))).block HP1.out)
        have HQ2 := Lib.hid (heap_alloc_new W1 (ftO 26 ⟨0, 0, []⟩ (.slice none 0 0)))
        have HBQ := Lib.hid HS1.out.size
        have HNE := Lib.hid (Nat.ne_of_gt (Array.getElem?_eq_some_iff.1 HP1.out).1)
        generalize W1.alloc (ftO 26 ⟨0, 0, []⟩ (.slice none 0 0)) = W2 at *
        refine reg_one 0 rfl (by kernel_rfl) (by kernel_rfl) ?_
        · go_simp
          have HS3 := Lib.hid (HS2.out.trans (Same.alloc W2 (Obj.cells #[] 5)))
          refine ⟨HS3.out, ?_⟩
          try simp only [Act.put, List.setIfInBounds_toArray, List.set_cons_zero, List.set_cons_succ]
          have HP3 := Lib.hid ((Same.alloc W2 (Obj.cells #[] 5)).block HP2.out)
          have HQ3 := Lib.hid ((Same.alloc W2 (Obj.cells #[] 5)).block HQ2.out)
          have HO3 := Lib.hid ((OwnB.empty W2).mono HS2.out.size)
          generalize W2.alloc (Obj.cells #[] 5) = W3 at *
          refine reg_one 2 rfl (by kernel_rfl) (by kernel_rfl) ?_
          · refine wp_append_bsg _ _ rfl U0.heap.size HS3.out.size (.slice (some ⟨W2.heap.size, 0, none⟩) 0 0) ([] : List UInt8) rfl HO3.out (.slice (some ⟨b1, o1, none⟩) nX c1) X rfl (HBU.out.same HS3.out) HLe1.out ?_
            intro v50 W4 hO hg
            have HS4 := Lib.hid (HS3.out.grown hg (fun k e => (HO3.out.lt k e).1))
            have HO4 := Lib.hid hO
            have HP4 := Lib.hid (grown_keep hg HP3.out (own_not HO3.out HP3.out (by decide)))
            have HQ4 := Lib.hid (grown_keep hg HQ3.out (own_not HO3.out HQ3.out (by decide)))
            clear hO hg
            refine ⟨HS4.out, ?_⟩
            try simp only [Act.put, List.setIfInBounds_toArray, List.set_cons_zero, List.set_cons_succ]
            refine reg_one 5 rfl (by kernel_rfl) (by kernel_rfl) ?_
            · refine wp_append_bsg _ _ rfl U0.heap.size HS4.out.size v50 (([] : List UInt8) ++ X) rfl HO4.out (.slice (some ⟨b1, o1, none⟩) 4 c1) (X.take 4) rfl (HBU4.out.same HS4.out) HLe2.out ?_
              intro v53 W5 hO hg
              have HS5 := Lib.hid (HS4.out.grown hg (fun k e => (HO4.out.lt k e).1))
              have HO5 := Lib.hid hO
              have HP5 := Lib.hid (grown_keep hg HP4.out (own_not HO4.out HP4.out (by decide)))
              have HQ5 := Lib.hid (grown_keep hg HQ4.out (own_not HO4.out HQ4.out (by decide)))
              clear hO hg
              refine ⟨HS5.out, ?_⟩
              try simp only [Act.put, List.setIfInBounds_toArray, List.set_cons_zero, List.set_cons_succ]
              refine reg_one 6 rfl (by kernel_rfl) (by kernel_rfl) ?_
              · go_simp
                refine (HZ3 _ _ HO5.out.bs).out.mono ?_
                rintro e W6 ⟨v3, d3, rfl, hr3, hd3, hs3, -⟩
                have HS6 := Lib.hid (HS5.out.trans hs3)
                have HP6 := Lib.hid (hs3.block HP5.out)
                have HQ6 := Lib.hid (hs3.block HQ5.out)
                obtain ⟨pa5, pc5, rfl⟩ := hr3.form (n := 0) rfl
                obtain ⟨da5, dc5, rfl⟩ := hd3.form0 (n := 0) rfl
                clear hs3 hr3 hd3
                refine ⟨HS6.out, ?_⟩
                try simp only [Act.put, List.setIfInBounds_toArray, List.set_cons_zero, List.set_cons_succ]
                refine reg_take (v := ?_) 7 (some 47) rfl rfl (by kernel_rfl) (fun _ _ _ h => by cases h.1) (by kernel_rfl) HS6.out ?_ ?_
                rotate_left
                · (intro w' hw'; go_simp; try with_reducible rfl)
                try simp only [Act.put, List.setIfInBounds_toArray, List.set_cons_zero, List.set_cons_succ]
                refine reg_take (v := ?_) 8 (some 55) rfl rfl (by kernel_rfl) (fun _ _ _ h => by cases h.1) (by kernel_rfl) HS6.out ?_ ?_
                rotate_left
                · (intro w' hw'; go_simp; try with_reducible rfl)
                try simp only [Act.put, List.setIfInBounds_toArray, List.set_cons_zero, List.set_cons_succ]
                refine reg_take (v := ?_) 9 (some 56) rfl rfl (by kernel_rfl) (fun _ _ _ h => by cases h.1) (by kernel_rfl) HS6.out ?_ ?_
                rotate_left
                · (intro w' hw'; go_simp; try with_reducible rfl)
                try simp only [Act.put, List.setIfInBounds_toArray, List.set_cons_zero, List.set_cons_succ]
                refine reg_one 12 rfl (by kernel_rfl) (by kernel_rfl) ?_
                refine wp_store_row 35 _ _ (by rfl) (W0.heap.size) #[.int .i64 0, .slice pa5 0 pc5, .int .u32 0, .int .i64 0, .bool false] (by rfl) (by rfl) 35 _ HP6.out (by kernel_rfl) (by rfl) (by simp [Value.oneCell']) ?_
                have hQ2 := (setRow_other W6 (W0.heap.size) (W1.heap.size) #[.int .i64 0, .slice pa5 0 pc5, .int .u32 0, .int .i64 0, .bool false] (Ne.symm (Ne.symm HNE.out))).trans HQ6.out
                have hS2 := ((Kept.refl [W0.heap.size] W6).mod (setRow_mod (W0.heap.size) W6 #[.int .i64 0, .slice pa5 0 pc5, .int .u32 0, .int .i64 0, .bool false]) (.inl (by simp))).to_same HS6.out (fun s hs => by rw [List.mem_singleton.1 hs]; exact HBP.out)
                refine ⟨hS2, ?_⟩
                try simp only [Act.put]
                generalize W6.setRow (W0.heap.size) #[.int .i64 0, .slice pa5 0 pc5, .int .u32 0, .int .i64 0, .bool false] = V2 at *
                refine reg_one 13 rfl (by kernel_rfl) (by kernel_rfl) ?_
                refine wp_store_row 26 _ _ (by rfl) (W1.heap.size) #[.int .i64 3, .int .i64 1, .slice da5 0 dc5] (by rfl) (by rfl) 26 _ hQ2 (by kernel_rfl) (by rfl) (by simp [Value.oneCell']) ?_
                have hQ3 := setRow_heap V2 (W1.heap.size) _ #[.int .i64 3, .int .i64 1, .slice da5 0 dc5] _ _ hQ2
                have hS3 := ((Kept.refl [W1.heap.size] V2).mod (setRow_mod (W1.heap.size) V2 #[.int .i64 3, .int .i64 1, .slice da5 0 dc5]) (.inl (by simp))).to_same hS2 (fun s hs => by rw [List.mem_singleton.1 hs]; exact HBQ.out)
                refine ⟨hS3, ?_⟩
                try simp only [Act.put]
                refine reg_done (by kernel_rfl) ?_
                refine ⟨rfl, [(.slice (some ⟨W2.heap.size, 0, none⟩) 0 0), (.slice (some ⟨b1, o1, none⟩) nX c1), v50, (.slice (some ⟨b1, o1, none⟩) nX c1), (.slice (some ⟨b1, o1, none⟩) 4 c1), v53, T3 (.slice pa5 0 pc5) (.slice da5 0 dc5), T3 (.slice pa5 0 pc5) (.slice da5 0 dc5), A3 (.slice pa5 0 pc5), F3 (.slice da5 0 dc5), .pointer (some ⟨W0.heap.size, 0, none⟩), .pointer (some ⟨W1.heap.size, 0, none⟩)], ?_, _, _, _, _, _, _, _, _, _, _, _, _, _, rfl, hS3, hQ3⟩
                simp only [putAll, List.zip_cons_cons, List.zip_nil_left, Act.put, List.setIfInBounds_toArray, List.set_cons_zero, List.set_cons_succ, T3, A3, F3]
    · go_simp
      have HS1 := Lib.hid (HS0.out.trans (Same.alloc W0 (ftO 26 ⟨0, 0, []⟩ (.slice none 0 0))))
      refine ⟨HS1.out, ?_⟩
      try simp only [Act.put, List.setIfInBounds_toArray, List.set_cons_zero, List.set_cons_succ]
      have HQ1 := Lib.hid (heap_alloc_new W0 (ftO 26 ⟨0, 0, []⟩ (.slice none 0 0)))
      have HBQ := Lib.hid HS0.out.size
      generalize W0.alloc (ftO 26 ⟨0, 0, []⟩ (.slice none 0 0)) = W1 at *
      refine reg_two 0 10 rfl rfl (by kernel_rfl) (by kernel_rfl) (by kernel_rfl) ?_ ?_
      · go_simp
        have HS2 := Lib.hid (HS1.out.trans (Same.alloc W1 (Obj.cells #[] 5)))
        refine ⟨HS2.out, ?_⟩
        try simp only [Act.put, List.setIfInBounds_toArray, List.set_cons_zero, List.set_cons_succ]
        have HQ2 := Lib.hid ((Same.alloc W1 (Obj.cells #[] 5)).block HQ1.out)
        have HO2 := Lib.hid ((OwnB.empty W1).mono HS1.out.size)
        generalize W1.alloc (Obj.cells #[] 5) = W2 at *
        refine reg_two 2 10 rfl rfl (by kernel_rfl) (by kernel_rfl) (by kernel_rfl) ?_ ?_
        · refine wp_append_bsg _ _ rfl U0.heap.size HS2.out.size (.slice (some ⟨W1.heap.size, 0, none⟩) 0 0) ([] : List UInt8) rfl HO2.out (.slice (some ⟨b1, o1, none⟩) nX c1) X rfl (HBU.out.same HS2.out) HLe1.out ?_
          intro v50 W3 hO hg
          have HS3 := Lib.hid (HS2.out.grown hg (fun k e => (HO2.out.lt k e).1))
          have HO3 := Lib.hid hO
          have HQ3 := Lib.hid (grown_keep hg HQ2.out (own_not HO2.out HQ2.out (by decide)))
          clear hO hg
          refine ⟨HS3.out, ?_⟩
          try simp only [Act.put, List.setIfInBounds_toArray, List.set_cons_zero, List.set_cons_succ]
          refine reg_two 5 10 rfl rfl (by kernel_rfl) (by kernel_rfl) (by kernel_rfl) ?_ ?_
          · refine wp_append_bsg _ _ rfl U0.heap.size HS3.out.size v50 (([] : List UInt8) ++ X) rfl HO3.out (.slice (some ⟨b1, o1, none⟩) 4 c1) (X.take 4) rfl (HBU4.out.same HS3.out) HLe2.out ?_
            intro v53 W4 hO hg
            have HS4 := Lib.hid (HS3.out.grown hg (fun k e => (HO3.out.lt k e).1))
            have HO4 := Lib.hid hO
            have HQ4 := Lib.hid (grown_keep hg HQ3.out (own_not HO3.out HQ3.out (by decide)))
            clear hO hg
            refine ⟨HS4.out, ?_⟩
            try simp only [Act.put, List.setIfInBounds_toArray, List.set_cons_zero, List.set_cons_succ]
            refine reg_two 6 10 rfl rfl (by kernel_rfl) (by kernel_rfl) (by kernel_rfl) ?_ ?_
            · go_simp
              refine (HZ3 _ _ HO4.out.bs).out.mono ?_
              rintro e W5 ⟨v3, d3, rfl, hr3, hd3, hs3, -⟩
              have HS5 := Lib.hid (HS4.out.trans hs3)
              have HQ5 := Lib.hid (hs3.block HQ4.out)
              obtain ⟨pa5, pc5, rfl⟩ := hr3.form (n := 0) rfl
              obtain ⟨da5, dc5, rfl⟩ := hd3.form0 (n := 0) rfl
              clear hs3 hr3 hd3
              refine ⟨HS5.out, ?_⟩
              try simp only [Act.put, List.setIfInBounds_toArray, List.set_cons_zero, List.set_cons_succ]
              refine reg_take (v := ?_) 7 (some 47) rfl rfl (by kernel_rfl) (fun _ _ _ h => by cases h.1) (by kernel_rfl) HS5.out ?_ ?_
              rotate_left
              · (intro w' hw'; go_simp; try with_reducible rfl)
              try simp only [Act.put, List.setIfInBounds_toArray, List.set_cons_zero, List.set_cons_succ]
              refine reg_take (v := ?_) 8 (some 55) rfl rfl (by kernel_rfl) (fun _ _ _ h => by cases h.1) (by kernel_rfl) HS5.out ?_ ?_
              rotate_left
              · (intro w' hw'; go_simp; try with_reducible rfl)
              try simp only [Act.put, List.setIfInBounds_toArray, List.set_cons_zero, List.set_cons_succ]
              refine reg_take (v := ?_) 9 (some 56) rfl rfl (by kernel_rfl) (fun _ _ _ h => by cases h.1) (by kernel_rfl) HS5.out ?_ ?_
              rotate_left
              · (intro w' hw'; go_simp; try with_reducible rfl)
              try simp only [Act.put, List.setIfInBounds_toArray, List.set_cons_zero, List.set_cons_succ]
              refine reg_one 10 rfl (by kernel_rfl) (by kernel_rfl) ?_
              · go_simp
                have HS6 := Lib.hid (HS5.out.trans (Same.alloc W5 (atO 35 ⟨0, [], 0, 0, false⟩ (.slice none 0 0))))
                refine ⟨HS6.out, ?_⟩
                try simp only [Act.put, List.setIfInBounds_toArray, List.set_cons_zero, List.set_cons_succ]
                have HQ6 := Lib.hid ((Same.alloc W5 (atO 35 ⟨0, [], 0, 0, false⟩ (.slice none 0 0))).block HQ5.out)
                have HP6 := Lib.hid (heap_alloc_new W5 (atO 35 ⟨0, [], 0, 0, false⟩ (.slice none 0 0)))
                have HBP := Lib.hid HS5.out.size
                have HNE := Lib.hid (Nat.ne_of_gt (Array.getElem?_eq_some_iff.1 HQ5.out).1)
                generalize W5.alloc (atO 35 ⟨0, [], 0, 0, false⟩ (.slice none 0 0)) = W6 at *
                refine reg_one 12 rfl (by kernel_rfl) (by kernel_rfl) ?_
                refine wp_store_row 35 _ _ (by rfl) (W5.heap.size) #[.int .i64 0, .slice pa5 0 pc5, .int .u32 0, .int .i64 0, .bool false] (by rfl) (by rfl) 35 _ HP6.out (by kernel_rfl) (by rfl) (by simp [Value.oneCell']) ?_
                have hQ2 := (setRow_other W6 (W5.heap.size) (W0.heap.size) #[.int .i64 0, .slice pa5 0 pc5, .int .u32 0, .int .i64 0, .bool false] (Ne.symm HNE.out)).trans HQ6.out
                have hS2 := ((Kept.refl [W5.heap.size] W6).mod (setRow_mod (W5.heap.size) W6 #[.int .i64 0, .slice pa5 0 pc5, .int .u32 0, .int .i64 0, .bool false]) (.inl (by simp))).to_same HS6.out (fun s hs => by rw [List.mem_singleton.1 hs]; exact HBP.out)
                refine ⟨hS2, ?_⟩
                try simp only [Act.put]
                generalize W6.setRow (W5.heap.size) #[.int .i64 0, .slice pa5 0 pc5, .int .u32 0, .int .i64 0, .bool false] = V2 at *
                refine reg_one 13 rfl (by kernel_rfl) (by kernel_rfl) ?_
                refine wp_store_row 26 _ _ (by rfl) (W0.heap.size) #[.int .i64 3, .int .i64 1, .slice da5 0 dc5] (by rfl) (by rfl) 26 _ hQ2 (by kernel_rfl) (by rfl) (by simp [Value.oneCell']) ?_
                have hQ3 := setRow_heap V2 (W0.heap.size) _ #[.int .i64 3, .int .i64 1, .slice da5 0 dc5] _ _ hQ2
                have hS3 := ((Kept.refl [W0.heap.size] V2).mod (setRow_mod (W0.heap.size) V2 #[.int .i64 3, .int .i64 1, .slice da5 0 dc5]) (.inl (by simp))).to_same hS2 (fun s hs => by rw [List.mem_singleton.1 hs]; exact HBQ.out)
                refine ⟨hS3, ?_⟩
                try simp only [Act.put]
                refine reg_done (by kernel_rfl) ?_
                refine ⟨rfl, [(.slice (some ⟨W1.heap.size, 0, none⟩) 0 0), (.slice (some ⟨b1, o1, none⟩) nX c1), v50, (.slice (some ⟨b1, o1, none⟩) nX c1), (.slice (some ⟨b1, o1, none⟩) 4 c1), v53, T3 (.slice pa5 0 pc5) (.slice da5 0 dc5), T3 (.slice pa5 0 pc5) (.slice da5 0 dc5), A3 (.slice pa5 0 pc5), F3 (.slice da5 0 dc5), .pointer (some ⟨W5.heap.size, 0, none⟩), .pointer (some ⟨W0.heap.size, 0, none⟩)], ?_, _, _, _, _, _, _, _, _, _, _, _, _, _, rfl, hS3, hQ3⟩
                simp only [putAll, List.zip_cons_cons, List.zip_nil_left, Act.put, List.setIfInBounds_toArray, List.set_cons_zero, List.set_cons_succ, T3, A3, F3]
            · go_simp
              have HS5 := Lib.hid (HS4.out.trans (Same.alloc W4 (atO 35 ⟨0, [], 0, 0, false⟩ (.slice none 0 0))))
              refine ⟨HS5.out, ?_⟩
              try simp only [Act.put, List.setIfInBounds_toArray, List.set_cons_zero, List.set_cons_succ]
              have HO5 := Lib.hid (HO4.out.same (Same.alloc W4 (atO 35 ⟨0, [], 0, 0, false⟩ (.slice none 0 0))))
              have HQ5 := Lib.hid ((Same.alloc W4 (atO 35 ⟨0, [], 0, 0, false⟩ (.slice none 0 0))).block HQ4.out)
              have HP5 := Lib.hid (heap_alloc_new W4 (atO 35 ⟨0, [], 0, 0, false⟩ (.slice none 0 0)))
              have HBP := Lib.hid HS4.out.size
              have HNE := Lib.hid (Nat.ne_of_gt (Array.getElem?_eq_some_iff.1 HQ4.out).1)
              generalize W4.alloc (atO 35 ⟨0, [], 0, 0, false⟩ (.slice none 0 0)) = W5 at *
              refine reg_one 6 rfl (by kernel_rfl) (by kernel_rfl) ?_
              · go_simp
                refine (HZ3 _ _ HO5.out.bs).out.mono ?_
                rintro e W6 ⟨v3, d3, rfl, hr3, hd3, hs3, -⟩
                have HS6 := Lib.hid (HS5.out.trans hs3)
                have HP6 := Lib.hid (hs3.block HP5.out)
                have HQ6 := Lib.hid (hs3.block HQ5.out)
                obtain ⟨pa5, pc5, rfl⟩ := hr3.form (n := 0) rfl
                obtain ⟨da5, dc5, rfl⟩ := hd3.form0 (n := 0) rfl
                clear hs3 hr3 hd3
                refine ⟨HS6.out, ?_⟩
                try simp only [Act.put, List.setIfInBounds_toArray, List.set_cons_zero, List.set_cons_succ]
                refine reg_take (v := ?_) 7 (some 47) rfl rfl (by kernel_rfl) (fun _ _ _ h => by cases h.1) (by kernel_rfl) HS6.out ?_ ?_
                rotate_left
                · (intro w' hw'; go_simp; try with_reducible rfl)
                try simp only [Act.put, List.setIfInBounds_toArray, List.set_cons_zero, List.set_cons_succ]
                refine reg_take (v := ?_) 8 (some 55) rfl rfl (by kernel_rfl) (fun _ _ _ h => by cases h.1) (by kernel_rfl) HS6.out ?_ ?_
                rotate_left
                · (intro w' hw'; go_simp; try with_reducible rfl)
                try simp only [Act.put, List.setIfInBounds_toArray, List.set_cons_zero, List.set_cons_succ]
                refine reg_take (v := ?_) 9 (some 56) rfl rfl (by kernel_rfl) (fun _ _ _ h => by cases h.1) (by kernel_rfl) HS6.out ?_ ?_
                rotate_left
                · (intro w' hw'; go_simp; try with_reducible rfl)
                try simp only [Act.put, List.setIfInBounds_toArray, List.set_cons_zero, List.set_cons_succ]
                refine reg_one 12 rfl (by kernel_rfl) (by kernel_rfl) ?_
                refine wp_store_row 35 _ _ (by rfl) (W4.heap.size) #[.int .i64 0, .slice pa5 0 pc5, .int .u32 0, .int .i64 0, .bool false] (by rfl) (by rfl) 35 _ HP6.out (by kernel_rfl) (by rfl) (by simp [Value.oneCell']) ?_
                have hQ2 := (setRow_other W6 (W4.heap.size) (W0.heap.size) #[.int .i64 0, .slice pa5 0 pc5, .int .u32 0, .int .i64 0, .bool false] (Ne.symm HNE.out)).trans HQ6.out
                have hS2 := ((Kept.refl [W4.heap.size] W6).mod (setRow_mod (W4.heap.size) W6 #[.int .i64 0, .slice pa5 0 pc5, .int .u32 0, .int .i64 0, .bool false]) (.inl (by simp))).to_same HS6.out (fun s hs => by rw [List.mem_singleton.1 hs]; exact HBP.out)
                refine ⟨hS2, ?_⟩
                try simp only [Act.put]
                generalize W6.setRow (W4.heap.size) #[.int .i64 0, .slice pa5 0 pc5, .int .u32 0, .int .i64 0, .bool false] = V2 at *
                refine reg_one 13 rfl (by kernel_rfl) (by kernel_rfl) ?_
                refine wp_store_row 26 _ _ (by rfl) (W0.heap.size) #[.int .i64 3, .int .i64 1, .slice da5 0 dc5] (by rfl) (by rfl) 26 _ hQ2 (by kernel_rfl) (by rfl) (by simp [Value.oneCell']) ?_
                have hQ3 := setRow_heap V2 (W0.heap.size) _ #[.int .i64 3, .int .i64 1, .slice da5 0 dc5] _ _ hQ2
                have hS3 := ((Kept.refl [W0.heap.size] V2).mod (setRow_mod (W0.heap.size) V2 #[.int .i64 3, .int .i64 1, .slice da5 0 dc5]) (.inl (by simp))).to_same hS2 (fun s hs => by rw [List.mem_singleton.1 hs]; exact HBQ.out)
                refine ⟨hS3, ?_⟩
                try simp only [Act.put]
                refine reg_done (by kernel_rfl) ?_
                refine ⟨rfl, [(.slice (some ⟨W1.heap.size, 0, none⟩) 0 0), (.slice (some ⟨b1, o1, none⟩) nX c1), v50, (.slice (some ⟨b1, o1, none⟩) nX c1), (.slice (some ⟨b1, o1, none⟩) 4 c1), v53, T3 (.slice pa5 0 pc5) (.slice da5 0 dc5), T3 (.slice pa5 0 pc5) (.slice da5 0 dc5), A3 (.slice pa5 0 pc5), F3 (.slice da5 0 dc5), .pointer (some ⟨W4.heap.size, 0, none⟩), .pointer (some ⟨W0.heap.size, 0, none⟩)], ?_, _, _, _, _, _, _, _, _, _, _, _, _, _, rfl, hS3, hQ3⟩
                simp only [putAll, List.zip_cons_cons, List.zip_nil_left, Act.put, List.setIfInBounds_toArray, List.set_cons_zero, List.set_cons_succ, T3, A3, F3]
          · go_simp
            have HS4 := Lib.hid (HS3.out.trans (Same.alloc W3 (atO 35 ⟨0, [], 0, 0, false⟩ (.slice none 0 0))))
            refine ⟨HS4.out, ?_⟩
            try simp only [Act.put, List.setIfInBounds_toArray, List.set_cons_zero, List.set_cons_succ]
            have HO4 := Lib.hid (HO3.out.same (Same.alloc W3 (atO 35 ⟨0, [], 0, 0, false⟩ (.slice none 0 0))))
            have HQ4 := Lib.hid ((Same.alloc W3 (atO 35 ⟨0, [], 0, 0, false⟩ (.slice none 0 0))).block HQ3.out)
            have HP4 := Lib.hid (heap_alloc_new W3 (atO 35 ⟨0, [], 0, 0, false⟩ (.slice none 0 0)))
            have HBP := Lib.hid HS3.out.size
            have HNE := Lib.hid (Nat.ne_of_gt (Array.getElem?_eq_some_iff.1 HQ3.out).1)
            generalize W3.alloc (atO 35 ⟨0, [], 0, 0, false⟩ (.slice none 0 0)) = W4 at *
            refine reg_one 5 rfl (by kernel_rfl) (by kernel_rfl) ?_
            · refine wp_append_bsg _ _ rfl U0.heap.size HS4.out.size v50 (([] : List UInt8) ++ X) rfl HO4.out (.slice (some ⟨b1, o1, none⟩) 4 c1) (X.take 4) rfl (HBU4.out.same HS4.out) HLe2.out ?_
              intro v53 W5 hO hg
              have HS5 := Lib.hid (HS4.out.grown hg (fun k e => (HO4.out.lt k e).1))
              have HO5 := Lib.hid hO
              have HP5 := Lib.hid (grown_keep hg HP4.out (own_not HO4.out HP4.out (by decide)))
              have HQ5 := Lib.hid (grown_keep hg HQ4.out (own_not HO4.out HQ4.out (by decide)))
              clear hO hg
              refine ⟨HS5.out, ?_⟩
              try simp only [Act.put, List.setIfInBounds_toArray, List.set_cons_zero, List.set_cons_succ]
              refine reg_one 6 rfl (by kernel_rfl) (by kernel_rfl) ?_
              · go_simp
                refine (HZ3 _ _ HO5.out.bs).out.mono ?_
                rintro e W6 ⟨v3, d3, rfl, hr3, hd3, hs3, -⟩
                have HS6 := Lib.hid (HS5.out.trans hs3)
                have HP6 := Lib.hid (hs3.block HP5.out)
                have HQ6 := Lib.hid (hs3.block HQ5.out)
                obtain ⟨pa5, pc5, rfl⟩ := hr3.form (n := 0) rfl
                obtain ⟨da5, dc5, rfl⟩ := hd3.form0 (n := 0) rfl
                clear hs3 hr3 hd3
                refine ⟨HS6.out, ?_⟩
                try simp only [Act.put, List.setIfInBounds_toArray, List.set_cons_zero, List.set_cons_succ]
                refine reg_take (v := ?_) 7 (some 47) rfl rfl (by kernel_rfl) (fun _ _ _ h => by cases h.1) (by kernel_rfl) HS6.out ?_ ?_
                rotate_left
                · (intro w' hw'; go_simp; try with_reducible rfl)
                try simp only [Act.put, List.setIfInBounds_toArray, List.set_cons_zero, List.set_cons_succ]
                refine reg_take (v := ?_) 8 (some 55) rfl rfl (by kernel_rfl) (fun _ _ _ h => by cases h.1) (by kernel_rfl) HS6.out ?_ ?_
                rotate_left
                · (intro w' hw'; go_simp; try with_reducible rfl)
                try simp only [Act.put, List.setIfInBounds_toArray, List.set_cons_zero, List.set_cons_succ]
                refine reg_take (v := ?_) 9 (some 56) rfl rfl (by kernel_rfl) (fun _ _ _ h => by cases h.1) (by kernel_rfl) HS6.out ?_ ?_
                rotate_left
                · (intro w' hw'; go_simp; try with_reducible rfl)
                try simp only [Act.put, List.setIfInBounds_toArray, List.set_cons_zero, List.set_cons_succ]
                refine reg_one 12 rfl (by kernel_rfl) (by kernel_rfl) ?_
                refine wp_store_row 35 _ _ (by rfl) (W3.heap.size) #[.int .i64 0, .slice pa5 0 pc5, .int .u32 0, .int .i64 0, .bool false] (by rfl) (by rfl) 35 _ HP6.out (by kernel_rfl) (by rfl) (by simp [Value.oneCell']) ?_
                have hQ2 := (setRow_other W6 (W3.heap.size) (W0.heap.size) #[.int .i64 0, .slice pa5 0 pc5, .int .u32 0, .int .i64 0, .bool false] (Ne.symm HNE.out)).trans HQ6.out
                have hS2 := ((Kept.refl [W3.heap.size] W6).mod (setRow_mod (W3.heap.size) W6 #[.int .i64 0, .slice pa5 0 pc5, .int .u32 0, .int .i64 0, .bool false]) (.inl (by simp))).to_same HS6.out (fun s hs => by rw [List.mem_singleton.1 hs]; exact HBP.out)
                refine ⟨hS2, ?_⟩
                try simp only [Act.put]
                generalize W6.setRow (W3.heap.size) #[.int .i64 0, .slice pa5 0 pc5, .int .u32 0, .int .i64 0, .bool false] = V2 at *
                refine reg_one 13 rfl (by kernel_rfl) (by kernel_rfl) ?_
                refine wp_store_row 26 _ _ (by rfl) (W0.heap.size) #[.int .i64 3, .int .i64 1, .slice da5 0 dc5] (by rfl) (by rfl) 26 _ hQ2 (by kernel_rfl) (by rfl) (by simp [Value.oneCell']) ?_
                have hQ3 := setRow_heap V2 (W0.heap.size) _ #[.int .i64 3, .int .i64 1, .slice da5 0 dc5] _ _ hQ2
                have hS3 := ((Kept.refl [W0.heap.size] V2).mod (setRow_mod (W0.heap.size) V2 #[.int .i64 3, .int .i64 1, .slice da5 0 dc5]) (.inl (by simp))).to_same hS2 (fun s hs => by rw [List.mem_singleton.1 hs]; exact HBQ.out)
                refine ⟨hS3, ?_⟩
                try simp only [Act.put]
                refine reg_done (by kernel_rfl) ?_
                refine ⟨rfl, [(.slice (some ⟨W1.heap.size, 0, none⟩) 0 0), (.slice (some ⟨b1, o1, none⟩) nX c1), v50, (.slice (some ⟨b1, o1, none⟩) nX c1), (.slice (some ⟨b1, o1, none⟩) 4 c1), v53, T3 (.slice pa5 0 pc5) (.slice da5 0 dc5), T3 (.slice pa5 0 pc5) (.slice da5 0 dc5), A3 (.slice pa5 0 pc5), F3 (.slice da5 0 dc5), .pointer (some ⟨W3.heap.size, 0, none⟩), .pointer (some ⟨W0.heap.size, 0, none⟩)], ?_, _, _, _, _, _, _, _, _, _, _, _, _, _, rfl, hS3, hQ3⟩
                simp only [putAll, List.zip_cons_cons, List.zip_nil_left, Act.put, List.setIfInBounds_toArray, List.set_cons_zero, List.set_cons_succ, T3, A3, F3]
        · go_simp
          have HS3 := Lib.hid (HS2.out.trans (Same.alloc W2 (atO 35 ⟨0, [], 0, 0, false⟩ (.slice none 0 0))))
          refine ⟨HS3.out, ?_⟩
          try simp only [Act.put, List.setIfInBounds_toArray, List.set_cons_zero, List.set_cons_succ]
          have HO3 := Lib.hid (HO2.out.same (Same.alloc W2 (atO 35 ⟨0, [], 0, 0, false⟩ (.slice none 0 0))))
          have HQ3 := Lib.hid ((Same.alloc W2 (atO 35 ⟨0, [], 0, 0, false⟩ (.slice none 0 0))).block HQ2.out)
          have HP3 := Lib.hid (heap_alloc_new W2 (atO 35 ⟨0, [], 0, 0, false⟩ (.slice none 0 0)))
          have HBP := Lib.hid HS2.out.size
          have HNE := Lib.hid (Nat.ne_of_gt (Array.getElem?_eq_some_iff.1 HQ2.out).1)
          generalize W2.alloc (atO 35 ⟨0, [], 0, 0, false⟩ (.slice none 0 0)) = W3 at *
          refine reg_one 2 rfl (by kernel_rfl) (by kernel_rfl) ?_
          · refine wp_append_bsg _ _ rfl U0.heap.size HS3.out.size (.slice (some ⟨W1.heap.size, 0, none⟩) 0 0) ([] : List UInt8) rfl HO3.out (.slice (some ⟨b1, o1, none⟩) nX c1) X rfl (HBU.out.same HS3.out) HLe1.out ?_
            intro v50 W4 hO hg
            have HS4 := Lib.hid (HS3.out.grown hg (fun k e => (HO3.out.lt k e).1))
            have HO4 := Lib.hid hO
            have HP4 := Lib.hid (grown_keep hg HP3.out (own_not HO3.out HP3.out (by decide)))
            have HQ4 := Lib.hid (grown_keep hg HQ3.out (own_not HO3.out HQ3.out (by decide)))
            clear hO hg
            refine ⟨HS4.out, ?_⟩
            try simp only [Act.put, List.setIfInBounds_toArray, List.set_cons_zero, List.set_cons_succ]
            refine reg_one 5 rfl (by kernel_rfl) (by kernel_rfl) ?_
            · refine wp_append_bsg _ _ rfl U0.heap.size HS4.out.size v50 (([] : List UInt8) ++ X) rfl HO4.out (.slice (some ⟨b1, o1, none⟩) 4 c1) (X.take 4) rfl (HBU4.out.same HS4.out) HLe2.out ?_
              intro v53 W5 hO hg
              have HS5 := Lib.hid (HS4.out.grown hg (fun k e => (HO4.out.lt k e).1))
              have HO5 := Lib.hid hO
              have HP5 := Lib.hid (grown_keep hg HP4.out (own_not HO4.out HP4.out (by decide)))
              have HQ5 := Lib.hid (grown_keep hg HQ4.out (own_not HO4.out HQ4.out (by decide)))
              clear hO hg
              refine ⟨HS5.out, ?_⟩
              try simp only [Act.put, List.setIfInBounds_toArray, List.set_cons_zero, List.set_cons_succ]
              refine reg_one 6 rfl (by kernel_rfl) (by kernel_rfl) ?_
              · go_simp
                refine (HZ3 _ _ HO5.out.bs).out.mono ?_
                rintro e W6 ⟨v3, d3, rfl, hr3, hd3, hs3, -⟩
                have HS6 := Lib.hid (HS5.out.trans hs3)
                have HP6 := Lib.hid (hs3.block HP5.out)
                have HQ6 := Lib.hid (hs3.block HQ5.out)
                obtain ⟨pa5, pc5, rfl⟩ := hr3.form (n := 0) rfl
                obtain ⟨da5, dc5, rfl⟩ := hd3.form0 (n := 0) rfl
                clear hs3 hr3 hd3
                refine ⟨HS6.out, ?_⟩
                try simp only [Act.put, List.setIfInBounds_toArray, List.set_cons_zero, List.set_cons_succ]
                refine reg_take (v := ?_) 7 (some 47) rfl rfl (by kernel_rfl) (fun _ _ _ h => by cases h.1) (by kernel_rfl) HS6.out ?_ ?_
                rotate_left
                · (intro w' hw'; go_simp; try with_reducible rfl)
                try simp only [Act.put, List.setIfInBounds_toArray, List.set_cons_zero, List.set_cons_succ]
                refine reg_take (v := ?_) 8 (some 55) rfl rfl (by kernel_rfl) (fun _ _ _ h => by cases h.1) (by kernel_rfl) HS6.out ?_ ?_
                rotate_left
                · (intro w' hw'; go_simp; try with_reducible rfl)
                try simp only [Act.put, List.setIfInBounds_toArray, List.set_cons_zero, List.set_cons_succ]
                refine reg_take (v := ?_) 9 (some 56) rfl rfl (by kernel_rfl) (fun _ _ _ h => by cases h.1) (by kernel_rfl) HS6.out ?_ ?_
                rotate_left
                · (intro w' hw'; go_simp; try with_reducible rfl)
                try simp only [Act.put, List.setIfInBounds_toArray, List.set_cons_zero, List.set_cons_succ]
                refine reg_one 12 rfl (by kernel_rfl) (by kernel_rfl) ?_
                refine wp_store_row 35 _ _ (by rfl) (W2.heap.size) #[.int .i64 0, .slice pa5 0 pc5, .int .u32 0, .int .i64 0, .bool false] (by rfl) (by rfl) 35 _ HP6.out (by kernel_rfl) (by rfl) (by simp [Value.oneCell']) ?_
                have hQ2 := (setRow_other W6 (W2.heap.size) (W0.heap.size) #[.int .i64 0, .slice pa5 0 pc5, .int .u32 0, .int .i64 0, .bool false] (Ne.symm HNE.out)).trans HQ6.out
                have hS2 := ((Kept.refl [W2.heap.size] W6).mod (setRow_mod (W2.heap.size) W6 #[.int .i64 0, .slice pa5 0 pc5, .int .u32 0, .int .i64 0, .bool false]) (.inl (by simp))).to_same HS6.out (fun s hs => by rw [List.mem_singleton.1 hs]; exact HBP.out)
                refine ⟨hS2, ?_⟩
                try simp only [Act.put]
                generalize W6.setRow (W2.heap.size) #[.int .i64 0, .slice pa5 0 pc5, .int .u32 0, .int .i64 0, .bool false] = V2 at *
                refine reg_one 13 rfl (by kernel_rfl) (by kernel_rfl) ?_
                refine wp_store_row 26 _ _ (by rfl) (W0.heap.size) #[.int .i64 3, .int .i64 1, .slice da5 0 dc5] (by rfl) (by rfl) 26 _ hQ2 (by kernel_rfl) (by rfl) (by simp [Value.oneCell']) ?_
                have hQ3 := setRow_heap V2 (W0.heap.size) _ #[.int .i64 3, .int .i64 1, .slice da5 0 dc5] _ _ hQ2
                have hS3 := ((Kept.refl [W0.heap.size] V2).mod (setRow_mod (W0.heap.size) V2 #[.int .i64 3, .int .i64 1, .slice da5 0 dc5]) (.inl (by simp))).to_same hS2 (fun s hs => by rw [List.mem_singleton.1 hs]; exact HBQ.out)
                refine ⟨hS3, ?_⟩
                try simp only [Act.put]
                refine reg_done (by kernel_rfl) ?_
                refine ⟨rfl, [(.slice (some ⟨W1.heap.size, 0, none⟩) 0 0), (.slice (some ⟨b1, o1, none⟩) nX c1), v50, (.slice (some ⟨b1, o1, none⟩) nX c1), (.slice (some ⟨b1, o1, none⟩) 4 c1), v53, T3 (.slice pa5 0 pc5) (.slice da5 0 dc5), T3 (.slice pa5 0 pc5) (.slice da5 0 dc5), A3 (.slice pa5 0 pc5), F3 (.slice da5 0 dc5), .pointer (some ⟨W2.heap.size, 0, none⟩), .pointer (some ⟨W0.heap.size, 0, none⟩)], ?_, _, _, _, _, _, _, _, _, _, _, _, _, _, rfl, hS3, hQ3⟩
                simp only [putAll, List.zip_cons_cons, List.zip_nil_left, Act.put, List.setIfInBounds_toArray, List.set_cons_zero, List.set_cons_succ, T3, A3, F3]
      · go_simp
        have HS2 := Lib.hid (HS1.out.trans (Same.alloc W1 (atO 35 ⟨0, [], 0, 0, false⟩ (.slice none 0 0))))
        refine ⟨HS2.out, ?_⟩
        try simp only [Act.put, List.setIfInBounds_toArray, List.set_cons_zero, List.set_cons_succ]
        have HQ2 := Lib.hid ((Same.alloc W1 (atO 35 ⟨0, [], 0, 0, false⟩ (.slice none 0 0))).block HQ1.out)
        have HP2 := Lib.hid (heap_alloc_new W1 (atO 35 ⟨0, [], 0, 0, false⟩ (.slice none 0 0)))
        have HBP := Lib.hid HS1.out.size
        have HNE := Lib.hid (Nat.ne_of_gt (Array.getElem?_eq_some_iff.1 HQ1.out).1)
        generalize W1.alloc (atO 35 ⟨0, [], 0, 0, false⟩ (.slice none 0 0)) = W2 at *
        refine reg_one 0 rfl (by kernel_rfl) (by kernel_rfl) ?_
        · go_simp
          have HS3 := Lib.hid (HS2.out.trans (Same.alloc W2 (Obj.cells #[] 5)))
          refine ⟨HS3.out, ?_⟩
          try simp only [Act.put, List.setIfInBounds_toArray, List.set_cons_zero, List.set_cons_succ]
          have HP3 := Lib.hid ((Same.alloc W2 (Obj.cells #[] 5)).block HP2.out)
          have HQ3 := Lib.hid ((Same.alloc W2 (Obj.cells #[] 5)).block HQ2.out)
          have HO3 := Lib.hid ((OwnB.empty W2).mono HS2.out.size)
          generalize W2.alloc (Obj.cells #[] 5) = W3 at *
          refine reg_one 2 rfl (by kernel_rfl) (by kernel_rfl) ?_
          · refine wp_append_bsg _ _ rfl U0.heap.size HS3.out.size (.slice (some ⟨W2.heap.size, 0, none⟩) 0 0) ([] : List UInt8) rfl HO3.out (.slice (some ⟨b1, o1, none⟩) nX c1) X rfl (HBU.out.same HS3.out) HLe1.out ?_
            intro v50 W4 hO hg
            have HS4 := Lib.hid (HS3.out.grown hg (fun k e => (HO3.out.lt k e).1))
            have HO4 := Lib.hid hO
            have HP4 := Lib.hid (grown_keep hg HP3.out (own_not HO3.out HP3.out (by decide)))
            have HQ4 := Lib.hid (grown_keep hg HQ3.out (own_not HO3.out HQ3.out (by decide)))
            clear hO hg
            refine ⟨HS4.out, ?_⟩
            try simp only [Act.put, List.setIfInBounds_toArray, List.set_cons_zero, List.set_cons_succ]
            refine reg_one 5 rfl (by kernel_rfl) (by kernel_rfl) ?_
            · refine wp_append_bsg _ _ rfl U0.heap.size HS4.out.size v50 (([] : List UInt8) ++ X) rfl HO4.out (.slice (some ⟨b1, o1, none⟩) 4 c1) (X.take 4) rfl (HBU4.out.same HS4.out) HLe2.out ?_
              intro v53 W5 hO hg
              have HS5 := Lib.hid (HS4.out.grown hg (fun k e => (HO4.out.lt k e).1))
              have HO5 := Lib.hid hO
              have HP5 := Lib.hid (grown_keep hg HP4.out (own_not HO4.out HP4.out (by decide)))
              have HQ5 := Lib.hid (grown_keep hg HQ4.out (own_not HO4.out HQ4.out (by decide)))
              clear hO hg
              refine ⟨HS5.out, ?_⟩
              try simp only [Act.put, List.setIfInBounds_toArray, List.set_cons_zero, List.set_cons_succ]
              refine reg_one 6 rfl (by kernel_rfl) (by kernel_rfl) ?_
              · go_simp
                refine (HZ3 _ _ HO5.out.bs).out.mono ?_
                rintro e W6 ⟨v3, d3, rfl, hr3, hd3, hs3, -⟩
                have HS6 := Lib.hid (HS5.out.trans hs3)
                have HP6 := Lib.hid (hs3.block HP5.out)
                have HQ6 := Lib.hid (hs3.block HQ5.out)
                obtain ⟨pa5, pc5, rfl⟩ := hr3.form (n := 0) rfl
                obtain ⟨da5, dc5, rfl⟩ := hd3.form0 (n := 0) rfl
                clear hs3 hr3 hd3
                refine ⟨HS6.out, ?_⟩
                try simp only [Act.put, List.setIfInBounds_toArray, List.set_cons_zero, List.set_cons_succ]
                refine reg_take (v := ?_) 7 (some 47) rfl rfl (by kernel_rfl) (fun _ _ _ h => by cases h.1) (by kernel_rfl) HS6.out ?_ ?_
                rotate_left
                · (intro w' hw'; go_simp; try with_reducible rfl)
                try simp only [Act.put, List.setIfInBounds_toArray, List.set_cons_zero, List.set_cons_succ]
                refine reg_take (v := ?_) 8 (some 55) rfl rfl (by kernel_rfl) (fun _ _ _ h => by cases h.1) (by kernel_rfl) HS6.out ?_ ?_
                rotate_left
                · (intro w' hw'; go_simp; try with_reducible rfl)
                try simp only [Act.put, List.setIfInBounds_toArray, List.set_cons_zero, List.set_cons_succ]
                refine reg_take (v := ?_) 9 (some 56) rfl rfl (by kernel_rfl) (fun _ _ _ h => by cases h.1) (by kernel_rfl) HS6.out ?_ ?_
                rotate_left
                · (intro w' hw'; go_simp; try with_reducible rfl)
                try simp only [Act.put, List.setIfInBounds_toArray, List.set_cons_zero, List.set_cons_succ]
                refine reg_one 12 rfl (by kernel_rfl) (by kernel_rfl) ?_
                refine wp_store_row 35 _ _ (by rfl) (W1.heap.size) #[.int .i64 0, .slice pa5 0 pc5, .int .u32 0, .int .i64 0, .bool false] (by rfl) (by rfl) 35 _ HP6.out (by kernel_rfl) (by rfl) (by simp [Value.oneCell']) ?_
                have hQ2 := (setRow_other W6 (W1.heap.size) (W0.heap.size) #[.int .i64 0, .slice pa5 0 pc5, .int .u32 0, .int .i64 0, .bool false] (Ne.symm HNE.out)).trans HQ6.out
                have hS2 := ((Kept.refl [W1.heap.size] W6).mod (setRow_mod (W1.heap.size) W6 #[.int .i64 0, .slice pa5 0 pc5, .int .u32 0, .int .i64 0, .bool false]) (.inl (by simp))).to_same HS6.out (fun s hs => by rw [List.mem_singleton.1 hs]; exact HBP.out)
                refine ⟨hS2, ?_⟩
                try simp only [Act.put]
                generalize W6.setRow (W1.heap.size) #[.int .i64 0, .slice pa5 0 pc5, .int .u32 0, .int .i64 0, .bool false] = V2 at *
                refine reg_one 13 rfl (by kernel_rfl) (by kernel_rfl) ?_
                refine wp_store_row 26 _ _ (by rfl) (W0.heap.size) #[.int .i64 3, .int .i64 1, .slice da5 0 dc5] (by rfl) (by rfl) 26 _ hQ2 (by kernel_rfl) (by rfl) (by simp [Value.oneCell']) ?_
                have hQ3 := setRow_heap V2 (W0.heap.size) _ #[.int .i64 3, .int .i64 1, .slice da5 0 dc5] _ _ hQ2
                have hS3 := ((Kept.refl [W0.heap.size] V2).mod (setRow_mod (W0.heap.size) V2 #[.int .i64 3, .int .i64 1, .slice da5 0 dc5]) (.inl (by simp))).to_same hS2 (fun s hs => by rw [List.mem_singleton.1 hs]; exact HBQ.out)
                refine ⟨hS3, ?_⟩
                try simp only [Act.put]
                refine reg_done (by kernel_rfl) ?_
                refine ⟨rfl, [(.slice (some ⟨W2.heap.size, 0, none⟩) 0 0), (.slice (some ⟨b1, o1, none⟩) nX c1), v50, (.slice (some ⟨b1, o1, none⟩) nX c1), (.slice (some ⟨b1, o1, none⟩) 4 c1), v53, T3 (.slice pa5 0 pc5) (.slice da5 0 dc5), T3 (.slice pa5 0 pc5) (.slice da5 0 dc5), A3 (.slice pa5 0 pc5), F3 (.slice da5 0 dc5), .pointer (some ⟨W1.heap.size, 0, none⟩), .pointer (some ⟨W0.heap.size, 0, none⟩)], ?_, _, _, _, _, _, _, _, _, _, _, _, _, _, rfl, hS3, hQ3⟩
                simp only [putAll, List.zip_cons_cons, List.zip_nil_left, Act.put, List.setIfInBounds_toArray, List.set_cons_zero, List.set_cons_succ, T3, A3, F3]
-- @tree end
  rintro us U1 ⟨x0, x1, x2, x3, x4, x5, x6, x7, x8, x9, x10, B, dB, rfl, hs5, hB⟩
  simp only [putAll, List.zip_cons_cons, List.zip_nil_left, Act.put, List.setIfInBounds_toArray, List.set_cons_zero, List.set_cons_succ]
  have HS5 := Lib.hid (HS4.out.trans hs5)
  have HX2c := Lib.hid (hs5.block HX2b.out)
  have HF2c := Lib.hid (hs5.block HF2b.out)
  have HX3c := Lib.hid (hs5.block HX3.out)
  have HF3c := Lib.hid (hs5.block HF3.out)
  have HK5 := Lib.hid (hs5.block HK4.out)
  have HR3c := Lib.hid (HR3.out.same (HA3.out.trans hs5))
  have HBV := Lib.hid (HBU.out.same hs5)
  have HFB := Lib.hid hB
  have hs5x := Lib.hid hs5
  clear hs5 hB
  have HBD : Hid (Bs U1 (.slice (some ⟨b1, o1 + 4, none⟩) (nX - 4) (c1 - 4)) (X.drop 4)) := by
    have h := (HBV.out.cut 4 (nX - 4) (by rw [HNX.out]; omega)).1
    rw [if_neg (by omega), List.take_of_length_le (by rw [List.length_drop, HNX.out]; omega)] at h
    exact h
  go_wp2_with fail
  refine (HP4 _ _ HBD.out).out.mono ?_
  rintro e w6 ⟨v6, d6, rfl, hr6, hd6, hs6, -⟩
  obtain ⟨pa6, pc6, rfl⟩ := hr6.form (n := 0) rfl
  have HD6 := Lib.hid hd6
  obtain ⟨da6, dc6, rfl⟩ := hd6.form0 (n := 1) rfl
  have HA6 := Lib.hid ((Same.alloc w6 (atO 35 ⟨0, [], 0, 0, false⟩ (.slice pa6 0 pc6))).trans (Same.alloc (w6.alloc (atO 35 ⟨0, [], 0, 0, false⟩ (.slice pa6 0 pc6))) (ftO 26 ⟨3, 3, [1]⟩ (.slice da6 1 dc6))))
  have HX6 := Lib.hid ((Same.alloc (w6.alloc (atO 35 ⟨0, [], 0, 0, false⟩ (.slice pa6 0 pc6))) (ftO 26 ⟨3, 3, [1]⟩ (.slice da6 1 dc6))).block (heap_alloc_new w6 (atO 35 ⟨0, [], 0, 0, false⟩ (.slice pa6 0 pc6))))
  have HF6 : Hid (((w6.alloc (atO 35 ⟨0, [], 0, 0, false⟩ (.slice pa6 0 pc6))).alloc (ftO 26 ⟨3, 3, [1]⟩ (.slice da6 1 dc6))).heap[w6.heap.size + 1]? = some (ftO 26 ⟨3, 3, [1]⟩ (.slice da6 1 dc6))) := by
    have := heap_alloc_new (w6.alloc (atO 35 ⟨0, [], 0, 0, false⟩ (.slice pa6 0 pc6))) (ftO 26 ⟨3, 3, [1]⟩ (.slice da6 1 dc6))
    rw [show (w6.alloc (atO 35 ⟨0, [], 0, 0, false⟩ (.slice pa6 0 pc6))).heap.size = w6.heap.size + 1 from by simp] at this
    exact this
  have HS6 := Lib.hid ((HS5.out.trans hs6).trans HA6.out)
  have HX2d := Lib.hid ((hs6.trans HA6.out).block HX2c.out)
  have HF2d := Lib.hid ((hs6.trans HA6.out).block HF2c.out)
  have HX3d := Lib.hid ((hs6.trans HA6.out).block HX3c.out)
  have HF3d := Lib.hid ((hs6.trans HA6.out).block HF3c.out)
  have HK6 := Lib.hid ((hs6.trans HA6.out).block HK5.out)
  have HFBd := Lib.hid ((hs6.trans HA6.out).block HFB.out)
  have HR3d := Lib.hid (HR3c.out.same (hs6.trans HA6.out))
  have HD6a := Lib.hid (HD6.out.same HA6.out)
  have HPd := Lib.hid (HP.out.same HS6.out)
  have HR2d := Lib.hid (HR2.out.same (((((HA2.out.trans hs3x.out).trans HA3.out).trans hs5x.out).trans hs6).trans HA6.out))
  have HSm := fun w h1 h2 => Lib.hid (C.same ⟨p0, p1, p2, p3, p4⟩ (.slice pa2 n pc2) (.slice pa n pc) w h1 h2 hr)
  obtain ⟨c0, c1', c2, c3, c4⟩ := AtAt.of HX2d.out
  obtain ⟨b0, b1', b2, b3, b4⟩ := AtAt.of HK6.out
  obtain ⟨f0, f1, f2⟩ := FtAt.of HF2d.out
  clear hs6 hr6 hd6
  go_wp2_with fail
  clear c0 c1' c2 c3 c4 b0 b1' b2 b3 b4 f0 f1 f2
  refine (HSm _ HR2d.out HPd.out).out.mono ?_
  rintro e w7 ⟨rfl, hs7⟩
  have HS7 := Lib.hid (HS6.out.trans hs7)
  have HX3e := Lib.hid (hs7.block HX3d.out)
  have HF3e := Lib.hid (hs7.block HF3d.out)
  have HK7 := Lib.hid (hs7.block HK6.out)
  obtain ⟨i0, i1, i2⟩ := FtAt.of (hs7.block HFBd.out)
  obtain ⟨j0, j1, j2⟩ := FtAt.of (hs7.block HF6.out)
  have hst := run_str w7 _ _ (HD6a.out.same hs7)
  have HR3e := Lib.hid (HR3d.out.same hs7)
  clear hs7
  have hlt := (Array.getElem?_eq_some_iff.1 HK3.out).1
  obtain ⟨b0, b1', b2, b3, b4⟩ := AtAt.of HK7.out
  have hfz := nofr HK7.out
  have hq := sets_cells w.heap.size 35 [.int .i64 0, .bool false] w7 [.int .i64 p0, .slice pa n pc, .int .u32 p2] [.int .i64 p3, .bool p4] HK7.out rfl
  dsimp only [setsC, Nat.reduceAdd, List.length_cons, List.length_nil] at hq
  have HV3 := Lib.hid (((Kept.refl [w.heap.size] w7).mod hq.1 (.inl (by simp))).to_same HS7.out (fun s hs => by rw [List.mem_singleton.1 hs]; exact Nat.le_refl _))
  have HR3f := Lib.hid (HR3e.out.mod hq.1 (fun e => HO3.out e))
  have HP3f := Lib.hid (HP.out.same HV3.out)
  have hkG := (hq.1.block (w3.heap.size + 1) (Array.getElem?_eq_some_iff.1 HF3e.out).1 (by omega)).trans HF3e.out
  have hkY := (hq.1.block w3.heap.size (Array.getElem?_eq_some_iff.1 HX3e.out).1 (by omega)).trans HX3e.out
  obtain ⟨g0', g1', g2'⟩ := FtAt.of (f := ⟨g0, g1, g2⟩) hkG
  obtain ⟨y0', y1', y2', y3', y4'⟩ := AtAt.of (a := ⟨y0, y1, y2, y3, y4⟩) hkY
  obtain ⟨z0', z1', z2', z3', z4'⟩ := AtAt.of (a := ⟨p0, p1, p2, 0, false⟩) (vp := .slice pa n pc) hq.2
  have HSn := fun w h1 h2 => Lib.hid (C.same ⟨p0, p1, p2, 0, false⟩ (.slice pa3 ny pc3) (.slice pa n pc) w h1 h2 hr)
  clear hq hkG hkY
  rcases E2.out with hG | ⟨hG, hY⟩
  · subst hG
    go_wp2_with fail
    refine (HL _).out.mono ?_
    rintro e w8 ⟨rfl, hs8⟩
    have HS8 := Lib.hid (HV3.out.trans hs8)
    clear hs8
    go_wp2_with fail
    go_ret
    exact ⟨rfl, HS8.out⟩
  · subst hG
    obtain ⟨rfl, rfl, rfl, rfl, rfl⟩ : y0 = p0 ∧ y1 = p1 ∧ y2 = p2 ∧ y3 = 0 ∧ y4 = false := by simpa using hY
    go_wp2_with fail
    refine (HSn _ HR3f.out HP3f.out).out.mono ?_
    rintro e w8 ⟨rfl, hs8⟩
    have HS8 := Lib.hid (HV3.out.trans hs8)
    clear hs8
    go_wp2_with fail
    refine (HL _).out.mono ?_
    rintro e w9 ⟨rfl, hs9⟩
    have HS9 := Lib.hid (HS8.out.trans hs9)
    clear hs9
    go_wp2_with fail
    go_ret
    exact ⟨rfl, HS9.out⟩
end Go.Proofs.Ytfhaaenmllkbnaa
