/- The developers' layer 8: the bytes of a body. No condition beyond what each names. -/
import Derived.Test.YtidijoncngfppaaOpDG
import Derived.Test.YtidijoncngfppaaPut
import Derived.Test.YtidijoncngfppaaReg
namespace Go.Proofs.Ytidijoncngfppaa
open Go.RowKit
set_option linter.unusedVariables false
set_option maxRecDepth 100000

/-- two byte slices, one behind the other -/
theorem cat_pair (v1 v2 : Value) (l1 l2 : List UInt8) (w : World) (h1 : Bs w v1 l1) (h2 : Bs w v2 l2) (hl : l1.length + l2.length ≤ 140737488355328) :
    Calls Try.prog 26 #[.slice (some ⟨w.heap.size, 0, none⟩) 2 2] (w.alloc (.cells #[v1, v2] 28 (0, 0))) fun e w' => ∃ v, e = .returned v ∧ OwnB w' w.heap.size v (l1 ++ l2) ∧ Same w w' := by
  have hsm := Same.alloc w (.cells #[v1, v2] 28 (0, 0))
  refine (concat_two w.heap.size v1 v2 l1 l2 _ (h1.same hsm) (h2.same hsm) hl (heap_alloc_new w _)).mono ?_
  rintro e w' ⟨v, rfl, ho, hs⟩
  exact ⟨v, rfl, ho.mono hsm.size, hsm.trans hs⟩

theorem oCounted_any (v : Value) (l : List UInt8) (w : World) (hb : Bs w v l) (hl : l.length ≤ 1000000) :
    Calls Try.prog 27 #[v] w fun e w' => ∃ v', e = .returned v' ∧ OwnB w' w.heap.size v' ([byteAt (l.length : Nat) 0] ++ l) ∧ Same w w' := by
  have HB := Lib.hid hb
  obtain ⟨n, hn⟩ : ∃ n, l.length = n := ⟨_, rfl⟩
  obtain ⟨ao, cap, rfl⟩ := hb.form0 hn
  have HN := Lib.hid hn
  rw [hn]
  have HL : Hid (n ≤ 1000000) := by show _ ≤ _; omega
  clear hb hn hl
  go_enter Try.func27, Try.ntmps27
  go_wp2_with fail
  refine (Put8_any _ [] n w (Bs.nil w) (by simp)).mono ?_
  rintro e w1 ⟨v1, rfl, ho1, hs1⟩
  obtain ⟨p1, q1, rfl⟩ := ho1.bs.form0 (n := 1) rfl
  have HC := Lib.hid (cat_pair _ _ _ _ w1 ho1.bs (HB.out.same hs1) (by have := HN.out; have := HL.out; simp; omega))
  have HS1 := Lib.hid hs1
  clear ho1 hs1
  go_wp2_with fail
  refine HC.out.mono ?_
  rintro e w2 ⟨v2, rfl, ho2, hs2⟩
  have HO2 := Lib.hid ho2
  have HS2 := Lib.hid hs2
  clear ho2 hs2
  go_wp2_with fail
  go_ret
  exact ⟨_, rfl, HO2.out.mono HS1.out.size, HS1.out.trans HS2.out⟩

theorem oCapB_any (cd : Int) (so : Option Addr) (q sc : Nat) (vl : List UInt8) (w : World) (hb : Bs w (.slice so q sc) vl) (hl : vl.length ≤ 1000000) :
    Calls Try.prog 62 #[.agg #[.int .i64 cd, .slice so q sc]] w fun e w' => ∃ v', e = .returned v' ∧ OwnB w' w.heap.size v' (capB ⟨cd, vl⟩) ∧ Same w w' := by
  have HE : Hid (([] ++ [byteAt cd 0]) ++ ([byteAt (vl.length : Nat) 0] ++ vl) = capB ⟨cd, vl⟩) := by show _ = _; simp [capB]
  have HL : Hid (vl.length ≤ 1000000) := hl
  generalize capB ⟨cd, vl⟩ = CB at HE ⊢
  have HBW : Hid (∀ w', Same w w' → Bs w' (.slice so q sc) vl) := fun w' hs => hb.same hs
  have HA := Lib.hid (Same.alloc w (cpO 30 ⟨cd, vl⟩ (.slice so q sc)))
  have HX : Hid (∀ w', Same (w.alloc (cpO 30 ⟨cd, vl⟩ (.slice so q sc))) w' → CpAt w' w.heap.size ⟨cd, vl⟩ (.slice so q sc)) := fun w' hw => CpAt.of (hw.block (heap_alloc_new w _))
  have HP1 := fun w' => Lib.hid (Put8_any _ [] cd w' (Bs.nil w') (by simp))
  have HP2 := fun w' hs => Lib.hid (oCounted_any _ vl w' (HBW.out w' hs) hl)
  clear hb hl
  go_enter Try.func62, Try.ntmps62
  go_wp2_with fail
  generalize hW : w.alloc (.cells #[.int .i64 cd, .slice so q sc] 30) = W at *
  clear hW
  refine reg_start (fun w' => Same W w') (by kernel_rfl) ?_
  refine reg_take (v := ?_) 0 (some 3) rfl rfl (by kernel_rfl) (fun _ _ _ h => h) (by kernel_rfl) ((Same.refl W).drew) ?_ ?_
  rotate_left
  · (intro w' hw'; obtain ⟨c0, c1⟩ := HX.out w' hw'; go_simp; try with_reducible rfl)
  try simp only [Act.put, List.setIfInBounds_toArray, List.set_cons_zero, List.set_cons_succ]
  refine reg_take (v := ?_) 1 (some 4) rfl rfl (by kernel_rfl) (fun _ _ _ h => h) (by kernel_rfl) ((Same.refl W).drew) ?_ ?_
  rotate_left
  · (intro w' hw'; obtain ⟨c0, c1⟩ := HX.out w' hw'; go_simp; try with_reducible rfl)
  try simp only [Act.put, List.setIfInBounds_toArray, List.set_cons_zero, List.set_cons_succ]
  refine reg_take (v := ?_) 3 (some 6) rfl rfl (by kernel_rfl) (fun _ _ _ h => h) (by kernel_rfl) ((Same.refl W).drew) ?_ ?_
  rotate_left
  · (intro w' hw'; obtain ⟨c0, c1⟩ := HX.out w' hw'; go_simp; try with_reducible rfl)
  try simp only [Act.put, List.setIfInBounds_toArray, List.set_cons_zero, List.set_cons_succ]
  refine reg_take (v := ?_) 4 (some 7) rfl rfl (by kernel_rfl) (fun _ _ _ h => h) (by kernel_rfl) ((Same.refl W).drew) ?_ ?_
  rotate_left
  · (intro w' hw'; obtain ⟨c0, c1⟩ := HX.out w' hw'; go_simp; try with_reducible rfl)
  try simp only [Act.put, List.setIfInBounds_toArray, List.set_cons_zero, List.set_cons_succ]
  refine reg_one 2 rfl (by kernel_rfl) (by kernel_rfl) ?_
  go_simp
  refine ((HP1 _).out).mono ?_
  rintro e u1 ⟨v1, rfl, ho1, hs1⟩
  have hS1 := ((Same.refl W).drew).trans hs1
  have HO1 := Lib.hid ho1; clear ho1; obtain ⟨p1, q1, rfl⟩ := HO1.out.bs.form0 (n := 1) rfl
  refine ⟨hS1, ?_⟩
  try simp only [Act.put, List.setIfInBounds_toArray, List.set_cons_zero, List.set_cons_succ]
  refine reg_one 5 rfl (by kernel_rfl) (by kernel_rfl) ?_
  go_simp
  refine ((HP2 _ (HA.out.trans hS1)).out).mono ?_
  rintro e u2 ⟨v2, rfl, ho2, hs2⟩
  have hS2 := (hS1).trans hs2
  have HO2 := Lib.hid ho2; clear ho2; have HB1 := Lib.hid (HO1.out.bs.same hs2); obtain ⟨n2, hn2⟩ : ∃ n2, ([byteAt (vl.length : Nat) 0] ++ vl).length = n2 := ⟨_, rfl⟩; obtain ⟨p2, q2, rfl⟩ := HO2.out.bs.form0 hn2; clear hn2
  refine ⟨hS2, ?_⟩
  try simp only [Act.put, List.setIfInBounds_toArray, List.set_cons_zero, List.set_cons_succ]
  refine reg_one 6 rfl (by kernel_rfl) (by kernel_rfl) ?_
  go_simp
  have HCP := Lib.hid (cat_pair _ _ _ _ u2 HB1.out HO2.out.bs (by have := HL.out; simp; omega))
  have hS6 := hS2.trans (Same.alloc u2 (.cells #[.slice p1 1 q1, .slice p2 n2 q2] 28 (0, 0)))
  have hSz : Hid (W.heap.size ≤ u2.heap.size) := hS2.size
  refine ⟨hS6, ?_⟩
  try simp only [Act.put, List.setIfInBounds_toArray, List.set_cons_zero, List.set_cons_succ]
  refine reg_one 7 rfl (by kernel_rfl) (by kernel_rfl) ?_
  go_simp
  refine HCP.out.mono ?_
  rintro e u4 ⟨v3, rfl, ho3, hs4⟩
  have hS4 := hS2.trans hs4
  refine ⟨hS4, ?_⟩
  try simp only [Act.put, List.setIfInBounds_toArray, List.set_cons_zero, List.set_cons_succ]
  refine reg_take (v := ?_) 8 (some 2) rfl rfl (by kernel_rfl) (fun _ _ _ h => h) (by kernel_rfl) (hS4) ?_ ?_
  rotate_left
  · (intro w' hw'; obtain ⟨c0, c1⟩ := HX.out w' hw'; go_simp; try with_reducible rfl)
  try simp only [Act.put, List.setIfInBounds_toArray, List.set_cons_zero, List.set_cons_succ]
  refine reg_done (by kernel_rfl) ?_
  have HO3 := Lib.hid ho3
  have HS3 := Lib.hid hs4
  have HS2 := Lib.hid hS2
  clear hS1 hS2 hs1 hs2 hs4 hS4 hS6 ho3
  go_wp2_with fail
  go_ret
  refine ⟨_, rfl, ?_, HA.out.trans (HS2.out.trans HS3.out)⟩
  rw [← HE.out]
  exact HO3.out.mono (Nat.le_trans HA.out.size hSz.out)

set_option maxHeartbeats 2000000 in
theorem oCapsB_any (l : List Cp) (vc : Value) (w : World) (h : CapsW 30 w vc l) (hv : ∀ c, c ∈ l → c.value.length ≤ 100) (hl : (capsB l).length ≤ 1000000) :
    Calls Try.prog 51 #[vc] w fun e w' => ∃ v', e = .returned v' ∧ OwnB w' w.heap.size v' (capsB l) ∧ Same w w' := by
  obtain ⟨xs, hxl, hxn, hxb, hP⟩ := h.one
  have i0 := h.cap
  obtain ⟨n, hn⟩ : ∃ n, l.length = n := ⟨_, rfl⟩
  obtain ⟨a1, c1, rfl⟩ := h.form hn
  rw [hn] at hP hxn i0
  have HP := Lib.hid hP
  have HXN := Lib.hid hxn
  have HXB := Lib.hid hxb
  have HXL := Lib.hid hxl
  have HN := Lib.hid hn
  have HV := Lib.hid hv
  have HLB : Hid ((capsB l).length ≤ 1000000) := hl
  obtain ⟨R, hR⟩ : ∃ R, capsB l = R := ⟨_, rfl⟩
  rw [hR]
  have HR := Lib.hid hR
  clear h hn hP hxn hxb hxl hR hv hl
  go_enter Try.func51, Try.ntmps51
  go_wp2_with fail
  go_loopw [3, 8] (fun bv i wr => ∃ k : Nat, k ≤ n ∧ i = .int .i64 k ∧ OwnB wr w.heap.size bv (capsB (l.take k)) ∧ Same w wr) (fun _ i _ => n - (intOf i).toNat)
  case atStart => exact ⟨0, by omega, rfl, by simpa [capsB] using OwnB.nil _ _, Same.refl w⟩
  case round =>
    obtain ⟨k, hk, rfl, hov, hsr⟩ := hrel
    have HSR := Lib.hid hsr
    obtain ⟨m, hm⟩ : ∃ m, (capsB (l.take k)).length = m := ⟨_, rfl⟩
    have HM := Lib.hid hm
    obtain ⟨ba, bc, rfl⟩ := hov.bs.form0 hm
    have HOV := Lib.hid hov
    clear hsr hov hm
    by_cases h8 : k = n
    · subst h8
      have hf : capsB (l.take k) = R := by
        rw [← HR.out, List.take_of_length_le (by have := HN.out; omega)]
      rw [hf] at HOV
      go_wp2_with fail
      go_ret
      exact ⟨_, rfl, HOV.out, HSR.out⟩
    · have hk8 : (k : Int) < n := by omega
      have hkx : k < xs.length := by have := HXN.out; omega
      obtain ⟨b, o1, cap, e1, HC1⟩ := HP.out (by omega)
      cases e1
      obtain ⟨x, hx⟩ : ∃ x, xs[k]? = some x := ⟨_, List.getElem?_eq_getElem hkx⟩
      obtain ⟨x0, x1⟩ := HC1 wr HSR.out k x hx
      have hlx : l[k]? = some x.1 := by rw [← HXL.out, List.getElem?_map, hx]; rfl
      have hbx := Lib.hid (HXB.out _ (List.mem_of_getElem? hx))
      obtain ⟨⟨cd, vl⟩, ⟨so, sc⟩⟩ := x
      dsimp only [cvV] at x0 x1 hlx hbx
      have htk : capsB (l.take (k + 1)) = capsB (l.take k) ++ capB ⟨cd, vl⟩ := by rw [List.take_add_one, hlx, capsB_append]; simp [capsB]
      have HTK := Lib.hid htk
      have hvl : vl.length ≤ 100 := HV.out _ (List.mem_of_getElem? hlx)
      have HLE : Hid ((capsB (l.take k)).length + (capB ⟨cd, vl⟩).length ≤ 140737488355328) := by
        have h1 := capsB_take l (k + 1)
        have h2 := HLB.out
        rw [htk, List.length_append] at h1
        show _ ≤ _
        omega
      have HCB := fun w' hs => Lib.hid (oCapB_any cd so vl.length sc vl w' (hbx.out.same hs) (by omega))
      clear h8 hkx HP hx HC1 hlx htk hbx hvl
      generalize vl.length = q at *
      go_wp2_with fail
      refine (HCB _ (HSR.out.trans (Same.alloc _ _))).out.mono ?_
      rintro e w1 ⟨v1, rfl, ho1, hs1⟩
      have HS1 := Lib.hid (HSR.out.trans ((Same.alloc _ _).trans hs1))
      have HO1 := Lib.hid (HOV.out.same ((Same.alloc _ _).trans hs1))
      have HX1 := Lib.hid ho1.bs
      clear ho1 hs1 x0 x1
      go_wp2_with (at_builtin; refine wpList_append_bs rfl _ _ rfl w HS1.out _ _ rfl HO1.out _ _ rfl HX1.out HLE.out ?_; intro v2 w2 ho2 hs2)
      exact ⟨⟨k + 1, by omega, rfl, by rw [HTK.out]; exact ho2, hs2⟩, by simp [intOf]; omega⟩

theorem capsB_none {l : List Cp} (h : l ≠ []) : 0 < l.length := by
  cases l with
  | nil => exact (h rfl).elim
  | cons c l => simp

/-- what a body has behind its identifier -/
def parB (l : List Cp) : List UInt8 := if l = [] then [] else [byteAt 2 0] ++ ([byteAt (capsB l).length 0] ++ capsB l)
theorem parB_tail (l : List Cp) : [byteAt ((parB l).length : Nat) 0] ++ parB l = tailO l := by
  unfold parB tailO
  by_cases h : l = []
  · rw [if_pos h, if_pos h]; decide
  · rw [if_neg h, if_neg h]
    have e : ([byteAt 2 0] ++ ([byteAt ((capsB l).length : Nat) 0] ++ capsB l)).length = 2 + (capsB l).length := by simp; omega
    rw [e, show byteAt 2 0 = 2 by decide]
    rfl

theorem oParam_any (l : List Cp) (vc : Value) (w : World) (h : CapsW 30 w vc l) (hv : ∀ c, c ∈ l → c.value.length ≤ 100) (hl : (capsB l).length ≤ 200) :
    Calls Try.prog 28 #[vc] w fun e w' => ∃ v', e = .returned v' ∧ OwnB w' w.heap.size v' (parB l) ∧ Same w w' := by
  have HCs := fun w' hs => Lib.hid (oCapsB_any l vc w' (h.same hs) hv (by omega))
  obtain ⟨n, hn⟩ : ∃ n, l.length = n := ⟨_, rfl⟩
  obtain ⟨a1, c1, rfl⟩ := h.form hn
  obtain ⟨R, hR⟩ : ∃ R, parB l = R := ⟨_, rfl⟩
  rw [hR]
  by_cases h0 : l = []
  · subst h0
    obtain rfl : n = 0 := by rw [← hn]; rfl
    obtain rfl : [] = R := by rw [← hR]; rfl
    clear h hn hR HCs hv hl
    go_enter Try.func28, Try.ntmps28
    go_wp2_with fail
    go_ret
    exact ⟨_, rfl, OwnB.nil _ _, Same.refl _⟩
  have h1 : ((n : Int) == 0) = false := by have := capsB_none h0; simp; omega
  have HR : Hid ([byteAt 2 0] ++ ([byteAt (capsB l).length 0] ++ capsB l) = R) := by show _ = _; rw [← hR]; unfold parB; rw [if_neg h0]
  have HL : Hid ((capsB l).length ≤ 200) := hl
  clear h hn hR h0 hv hl
  generalize capsB l = CL at *
  go_enter Try.func28, Try.ntmps28
  go_wp2_with fail
  refine (Put8_any _ [] 2 w (Bs.nil w) (by simp)).mono ?_
  rintro e w1 ⟨v1, rfl, ho1, hs1⟩
  obtain ⟨p1, q1, rfl⟩ := ho1.bs.form0 (n := 1) rfl
  have HO1 := Lib.hid ho1.bs
  have HS1 := Lib.hid hs1
  clear ho1 hs1
  go_wp2_with fail
  refine (HCs _ HS1.out).out.mono ?_
  rintro e w2 ⟨v2, rfl, ho2, hs2⟩
  have HO2 := Lib.hid ho2.bs
  have HS2 := Lib.hid hs2
  clear ho2 hs2
  go_wp2_with fail
  refine (oCounted_any v2 CL w2 HO2.out (by have := HL.out; omega)).mono ?_
  rintro e w3 ⟨v3, rfl, ho3, hs3⟩
  obtain ⟨n3, hn3⟩ : ∃ n3, ([byteAt (CL.length : Nat) 0] ++ CL).length = n3 := ⟨_, rfl⟩
  obtain ⟨p3, q3, rfl⟩ := ho3.bs.form0 hn3
  have HC := Lib.hid (cat_pair _ _ _ _ w3 (HO1.out.same (HS2.out.trans hs3)) ho3.bs (by have := HL.out; simp; omega))
  have HS3 := Lib.hid (HS1.out.trans (HS2.out.trans hs3))
  clear ho3 hs3 hn3
  go_wp2_with fail
  refine HC.out.mono ?_
  rintro e w4 ⟨v4, rfl, ho4, hs4⟩
  have HO4 := Lib.hid ho4
  have HS4 := Lib.hid hs4
  clear ho4 hs4
  go_wp2_with fail
  go_ret
  refine ⟨_, rfl, ?_, HS3.out.trans HS4.out⟩
  rw [← HR.out]
  exact HO4.out.mono HS3.out.size

set_option maxHeartbeats 2000000 in
theorem oBytes_any (o : Oq) (vc : Value) (w : World) (h : CapsW 30 w vc o.caps) (hl : o.caps.length ≤ 100) (hr : 0 ≤ o.ident ∧ o.ident ≤ 4294967295) :
    Calls Try.prog 11 #[oqV o vc] w fun e w' => ∃ v', e = .returned v' ∧ Bs w' v' (openB o) ∧ Same w w' := by
  have HG := fun w' hs => Lib.hid (oGood_any o vc w' (h.same hs) hl)
  have HAB : Hid (openB o = if goodO o then headO o ++ tailO o.caps else []) := rfl
  generalize openB o = AB at *
  by_cases hg : goodO o
  · have hd : decide (goodO o) = true := decide_eq_true hg
    have HG := fun w' hs => Lib.hid (hd ▸ (HG w' hs).out)
    have hab : AB = headO o ++ tailO o.caps := by rw [HAB.out, if_pos hg]
    obtain ⟨hcs, hns⟩ := hg
    have HPa := fun w' hs => Lib.hid (oParam_any o.caps vc w' (h.same hs) (fun c hc => (hcs.1 c hc).2) hcs.2)
    have HPB : Hid ([byteAt ((parB o.caps).length : Nat) 0] ++ parB o.caps = tailO o.caps) := parB_tail o.caps
    have HPL : Hid ((parB o.caps).length ≤ 202) := by
      have := hcs.2
      show _ ≤ _
      unfold parB
      split <;> simp
      omega
    clear HAB hd
    obtain ⟨oa, oh, oi, l⟩ := o
    simp only at h hr HG hcs hab HPa HPB HPL
    obtain ⟨n, hn⟩ : ∃ n, l.length = n := ⟨_, rfl⟩
    obtain ⟨a1, c1, rfl⟩ := h.form hn
    have HAB : Hid (((((([] ++ [byteAt 4 0]) ++ [byteAt oa 1, byteAt oa 0]) ++ [byteAt oh 1, byteAt oh 0]) ++ [byteAt oi 3, byteAt oi 2, byteAt oi 1, byteAt oi 0]) ++ tailO l) = AB) := by show _ = _; rw [hab]; unfold headO; rw [show byteAt 4 0 = 4 by decide]; simp
    have HA := Lib.hid (Same.alloc w (oqO 25 ⟨oa, oh, oi, l⟩ (.slice a1 n c1)))
    have HX : Hid (∀ w', Same (w.alloc (oqO 25 ⟨oa, oh, oi, l⟩ (.slice a1 n c1))) w' → OqAt w' w.heap.size ⟨oa, oh, oi, l⟩ (.slice a1 n c1)) := fun w' hw => OqAt.of (hw.block (heap_alloc_new w _))
    obtain ⟨z0, z1, z2, z3⟩ := HX.out _ (Same.refl _)
    clear h hn hcs hab hns hl hr
    generalize parB l = PL at *
    generalize tailO l = TL at *
    go_enter Try.func11, Try.ntmps11
    go_wp2_with fail
    clear z0 z1 z2 z3
    refine (HG _ HA.out).out.mono ?_
    rintro e W ⟨rfl, hsW⟩
    have HSW := Lib.hid (HA.out.trans hsW)
    have HXW := Lib.hid (fun w' (hs : Same W w') => HX.out w' (hsW.trans hs))
    clear hsW HX HG
    go_wp2_with fail
    refine (Put8_any _ [] 4 W (Bs.nil W) (by simp)).mono ?_
    rintro e w1 ⟨v1, rfl, ho1, hs1⟩
    have HO1 := Lib.hid ho1.bs
    have HS1 := Lib.hid hs1
    clear ho1 hs1
    obtain ⟨z0, z1, z2, z3⟩ := HXW.out _ HS1.out
    go_wp2_with fail
    clear z0 z1 z2 z3
    refine (Put16_any _ _ oa _ HO1.out (by simp)).mono ?_
    rintro e w2 ⟨v2, rfl, ho2, hs2⟩
    have HO2 := Lib.hid ho2.bs
    have HS2 := Lib.hid (HS1.out.trans hs2)
    clear ho2 hs2 HO1 HS1
    obtain ⟨z0, z1, z2, z3⟩ := HXW.out _ HS2.out
    go_wp2_with fail
    clear z0 z1 z2 z3
    refine (Put16_any _ _ oh _ HO2.out (by simp)).mono ?_
    rintro e w3 ⟨v3, rfl, ho3, hs3⟩
    have HO3 := Lib.hid ho3.bs
    have HS3 := Lib.hid (HS2.out.trans hs3)
    clear ho3 hs3 HO2 HS2
    obtain ⟨z0, z1, z2, z3⟩ := HXW.out _ HS3.out
    go_wp2_with fail
    clear z0 z1 z2 z3
    refine (Put32_any _ _ oi _ HO3.out (by simp)).mono ?_
    rintro e w4 ⟨v4, rfl, ho4, hs4⟩
    obtain ⟨p4, q4, rfl⟩ := ho4.bs.form0 (n := 9) rfl
    have HO4 := Lib.hid ho4.bs
    have HS4 := Lib.hid (HS3.out.trans hs4)
    clear ho4 hs4 HO3 HS3
    obtain ⟨z0, z1, z2, z3⟩ := HXW.out _ HS4.out
    go_wp2_with fail
    clear z0 z1 z2 z3
    refine (HPa _ (HSW.out.trans HS4.out)).out.mono ?_
    rintro e w5 ⟨v5, rfl, ho5, hs5⟩
    have HO5 := Lib.hid ho5.bs
    have HS5 := Lib.hid hs5
    clear ho5 hs5
    go_wp2_with fail
    refine (oCounted_any v5 PL w5 HO5.out (by have := HPL.out; omega)).mono ?_
    rintro e w6 ⟨v6, rfl, ho6, hs6⟩
    obtain ⟨n6, hn6⟩ : ∃ n6, ([byteAt (PL.length : Nat) 0] ++ PL).length = n6 := ⟨_, rfl⟩
    obtain ⟨p6, q6, rfl⟩ := ho6.bs.form0 hn6
    have HC := Lib.hid (cat_pair _ _ _ _ w6 (HO4.out.same (HS5.out.trans hs6)) ho6.bs (by have := HPL.out; simp; omega))
    have HS6 := Lib.hid (HSW.out.trans (HS4.out.trans (HS5.out.trans hs6)))
    clear ho6 hs6 hn6
    go_wp2_with fail
    refine HC.out.mono ?_
    rintro e w7 ⟨v7, rfl, ho7, hs7⟩
    have HO7 := Lib.hid ho7
    have HS7 := Lib.hid hs7
    clear ho7 hs7
    go_wp2_with fail
    go_ret
    refine ⟨_, rfl, ?_, HS6.out.trans HS7.out⟩
    rw [← HAB.out, ← HPB.out]
    exact HO7.out.bs
  · have hd : decide (goodO o) = false := decide_eq_false hg
    have HG := fun w' hs => Lib.hid (hd ▸ (HG w' hs).out)
    have hab : AB = [] := by rw [HAB.out, if_neg hg]
    subst hab
    clear HAB hd hg
    obtain ⟨oa, oh, oi, l⟩ := o
    simp only at h hr HG
    obtain ⟨n, hn⟩ : ∃ n, l.length = n := ⟨_, rfl⟩
    obtain ⟨a1, c1, rfl⟩ := h.form hn
    clear h hn hr hl
    have HA := Lib.hid (Same.alloc w (oqO 25 ⟨oa, oh, oi, l⟩ (.slice a1 n c1)))
    obtain ⟨z0, z1, z2, z3⟩ := OqAt.of (heap_alloc_new w (oqO 25 ⟨oa, oh, oi, l⟩ (.slice a1 n c1)))
    go_enter Try.func11, Try.ntmps11
    go_wp2_with fail
    clear z0 z1 z2 z3
    refine (HG _ HA.out).out.mono ?_
    rintro e W ⟨rfl, hsW⟩
    have HSW := Lib.hid (HA.out.trans hsW)
    clear hsW
    go_wp2_with fail
    go_ret
    exact ⟨_, rfl, Bs.nil _, HSW.out⟩
end Go.Proofs.Ytidijoncngfppaa
