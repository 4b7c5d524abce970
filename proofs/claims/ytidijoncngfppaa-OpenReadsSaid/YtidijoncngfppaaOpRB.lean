/- Contract of the document's own Bytes of layer 8. No condition beyond what it names. -/
import Derived.Test.YtidijoncngfppaaOpRL
import Derived.Test.YtidijoncngfppaaSplit
import Derived.Test.YtidijoncngfppaaRefP
namespace Go.Proofs.Ytidijoncngfppaa
open Go.RowKit
set_option linter.unusedVariables false
set_option maxRecDepth 100000

theorem rPut8_two (v : Value) (l : List UInt8) (n : Int) (w : World) (hb : Bs w v l) (hl : l.length + 2 ≤ 140737488355328) (h0 : 0 ≤ n) (h1 : n ≤ 65535) :
    Calls Try.prog 29 #[v, .int .u64 (IntKind.u64.wrap n), .int .i64 2] w fun e w' => ∃ v', e = .returned v' ∧ OwnB w' w.heap.size v' (l ++ [byteAt n 1, byteAt n 0]) ∧ Same w w' := by
  rw [IntKind.wrap_u64, Int.emod_eq_of_lt h0 (by omega)]
  exact rPut_two v l n w hb hl h0 (by omega)

/-- what a round keeps: all that was there, and the capability in its cell -/
def capS (W : World) (B : Nat) (c : Cp) (vo : Value) (w' : World) : Prop := Same W w' ∧ w'.heap[B]? = some (cpO 55 c vo)
theorem capS.drew {W w : World} {B : Nat} {c : Cp} {vo : Value} (h : capS W B c vo w) : capS W B c vo w.drew := ⟨h.1.drew, h.2⟩
theorem one_bs (w : World) (x : Int) (h : 0 ≤ x ∧ x ≤ 255) : OwnB (w.alloc (.cells #[.int .u8 x] 5)) w.heap.size (.slice (some ⟨w.heap.size, 0, none⟩) 1 1) [byteAt x 0] := by
  have := World.ownsRow_lit (base := w.heap.size) (e := 5) (size := 1) w #[.int .u8 x] 1 (Nat.le_refl _) (by unfold maxLen; omega) (by simp)
  unfold OwnB
  have e : b8 (byteAt x 0) = .int .u8 x := by rw [b8_byteAt]; simp; omega
  simpa [e] using this
theorem row_bs (w : World) (xs : List Int) (h : ∀ x, x ∈ xs → 0 ≤ x ∧ x ≤ 255) (n : Nat) (hn : xs.length = n) (h2 : n ≤ 1000000) (cs : Array Value) (hc : cs.toList = xs.map fun x => .int .u8 x) : OwnB (w.alloc (.cells cs 5)) w.heap.size (.slice (some ⟨w.heap.size, 0, none⟩) n n) (xs.map fun x => byteAt x 0) := by
  subst hn
  have := World.ownsRow_lit (base := w.heap.size) (e := 5) (size := 1) w cs xs.length (Nat.le_refl _) (by unfold maxLen; omega) (by rw [← Array.length_toList, hc, List.length_map]; omega)
  unfold OwnB
  rw [List.length_map, List.map_map, show (b8 ∘ fun x => byteAt x 0) = fun x : Int => b8 (byteAt x 0) from rfl]
  have e : xs.map (fun x : Int => b8 (byteAt x 0)) = xs.map fun x => .int .u8 x := List.map_congr_left fun x hx => by
    have := h x hx
    rw [b8_byteAt]; simp; omega
  rw [e, ← hc]
  exact this

theorem capS.alloc {W w : World} {B : Nat} {c : Cp} {vo : Value} (h : capS W B c vo w) (o : Obj) : capS W B c vo (w.alloc o) := ⟨h.1.trans (Same.alloc w o), (Same.alloc w o).block h.2⟩

set_option maxHeartbeats 4000000 in
theorem rBytes8_any (o : Oq) (vc : Value) (w : World) (h : CapsW 55 w vc o.caps) (hr : 0 ≤ o.ident ∧ o.ident ≤ 4294967295) :
    Calls Try.prog 12 #[oqV o vc] w fun e w' => ∃ v', e = .returned v' ∧ Bs w' v' (openB o) ∧ Same w w' := by
  have HG := fun w' hs => Lib.hid (rGood8_any o vc w' (h.same hs))
  have HAB : Hid (openB o = if goodO o then headO o ++ tailO o.caps else []) := rfl
  generalize openB o = AB at *
  by_cases hg : goodO o
  · have hd : decide (goodO o) = true := decide_eq_true hg
    have HG := fun w' hs => Lib.hid (hd ▸ (HG w' hs).out)
    have hab : AB = headO o ++ tailO o.caps := by rw [HAB.out, if_pos hg]
    obtain ⟨hcs, hns⟩ := hg
    clear HAB hd
    obtain ⟨oa, oh, oi, l⟩ := o
    have hns' : (1 ≤ oa ∧ oa ≤ 65535) ∧ (oh = 0 ∨ (3 ≤ oh ∧ oh ≤ 65535)) ∧ oi ≠ 0 := hns
    simp only at h hr HG hcs hab
    obtain ⟨xs, hxl, hxn, hxb, hP⟩ := h.one
    obtain ⟨n, hn⟩ : ∃ n, l.length = n := ⟨_, rfl⟩
    obtain ⟨a1, c1, rfl⟩ := h.form hn
    rw [hn] at hP hxn
    have hn2 : n ≤ 100 := by have := capsB_two l; have := hcs.2; omega
    have HP := Lib.hid hP
    have HXN := Lib.hid hxn
    have HXB := Lib.hid hxb
    have HXL := Lib.hid hxl
    have HN := Lib.hid hn
    have HCS := Lib.hid hcs
    have HAB := Lib.hid hab
    have HA := Lib.hid (Same.alloc w (oqO 34 ⟨oa, oh, oi, l⟩ (.slice a1 n c1)))
    have HX : Hid (∀ w', Same (w.alloc (oqO 34 ⟨oa, oh, oi, l⟩ (.slice a1 n c1))) w' → OqAt w' w.heap.size ⟨oa, oh, oi, l⟩ (.slice a1 n c1)) := fun w' hw => OqAt.of (hw.block (heap_alloc_new w _))
    obtain ⟨z0, z1, z2, z3⟩ := HX.out _ (Same.refl _)
    clear h hn hP hxn hxb hxl hcs hab hns
    go_enter Try.func12, Try.ntmps12
    go_wp2_with fail
    clear z0 z1 z2 z3
    refine (HG _ HA.out).out.mono ?_
    rintro e W ⟨rfl, hsW⟩
    have HSW := Lib.hid (HA.out.trans hsW)
    have HXW := Lib.hid (fun w' (hs : Same W w') => HX.out w' (hsW.trans hs))
    clear hsW HX HG
    obtain ⟨z0, z1, z2, z3⟩ := HXW.out _ (Same.refl _)
    go_wp2_with fail
    clear z0 z1 z2 z3
    go_loopw [3, 13] (fun bv i wr => ∃ k : Nat, k ≤ n ∧ i = .int .i64 k ∧ OwnB wr W.heap.size bv (capsB (l.take k)) ∧ Same W wr) (fun _ i _ => n - (intOf i).toNat)
    case atStart => exact ⟨0, by omega, rfl, by simpa [capsB] using OwnB.nil _ _, Same.refl W⟩
    case round =>
      obtain ⟨k, hk, rfl, hov, hsr⟩ := hrel
      have HSR := Lib.hid hsr
      obtain ⟨m, hm⟩ : ∃ m, (capsB (l.take k)).length = m := ⟨_, rfl⟩
      have HM := Lib.hid hm
      obtain ⟨ba, bc, rfl⟩ := hov.bs.form0 hm
      have HOV := Lib.hid hov
      clear hsr hov hm
      by_cases h8 : k = n
      · subst h8
        go_wp2_with fail
        have HW4 : Hid (Same W wr.drew) := HSR.out.drew
        have HB4 : Hid (OwnB (wr.alloc (.cells #[.int .u8 4] 5)).drew wr.heap.size (.slice (some ⟨wr.heap.size, 0, none⟩) 1 1) [byteAt 4 0]) := (one_bs wr 4 (by omega)).same (Same.refl _).drew
        refine reg_start (fun w' => Same W w') (by kernel_rfl) ?_
        refine reg_take (v := ?_) 1 (some 32) rfl rfl (by kernel_rfl) (fun _ _ _ h => h) (by kernel_rfl) (HW4.out) ?_ ?_
        rotate_left
        · (intro w' hw'; obtain ⟨z0, z1, z2, z3⟩ := HXW.out w' hw'; go_simp; try with_reducible rfl)
        try simp only [Act.put, List.setIfInBounds_toArray, List.set_cons_zero, List.set_cons_succ]
        refine reg_take (v := ?_) 2 (some 33) rfl rfl (by kernel_rfl) (fun _ _ _ h => h) (by kernel_rfl) (HW4.out) ?_ ?_
        rotate_left
        · (intro w' hw'; obtain ⟨z0, z1, z2, z3⟩ := HXW.out w' hw'; go_simp; try with_reducible rfl)
        try simp only [Act.put, List.setIfInBounds_toArray, List.set_cons_zero, List.set_cons_succ]
        refine reg_take (v := ?_) 3 (some 34) rfl rfl (by kernel_rfl) (fun _ _ _ h => h) (by kernel_rfl) (HW4.out) ?_ ?_
        rotate_left
        · (intro w' hw'; obtain ⟨z0, z1, z2, z3⟩ := HXW.out w' hw'; go_simp; try with_reducible rfl)
        try simp only [Act.put, List.setIfInBounds_toArray, List.set_cons_zero, List.set_cons_succ]
        refine reg_take (v := ?_) 5 (some 36) rfl rfl (by kernel_rfl) (fun _ _ _ h => h) (by kernel_rfl) (HW4.out) ?_ ?_
        rotate_left
        · (intro w' hw'; obtain ⟨z0, z1, z2, z3⟩ := HXW.out w' hw'; go_simp; try with_reducible rfl)
        try simp only [Act.put, List.setIfInBounds_toArray, List.set_cons_zero, List.set_cons_succ]
        refine reg_take (v := ?_) 6 (some 37) rfl rfl (by kernel_rfl) (fun _ _ _ h => h) (by kernel_rfl) (HW4.out) ?_ ?_
        rotate_left
        · (intro w' hw'; obtain ⟨z0, z1, z2, z3⟩ := HXW.out w' hw'; go_simp; try with_reducible rfl)
        try simp only [Act.put, List.setIfInBounds_toArray, List.set_cons_zero, List.set_cons_succ]
        refine reg_take (v := ?_) 7 (some 38) rfl rfl (by kernel_rfl) (fun _ _ _ h => h) (by kernel_rfl) (HW4.out) ?_ ?_
        rotate_left
        · (intro w' hw'; obtain ⟨z0, z1, z2, z3⟩ := HXW.out w' hw'; go_simp; try with_reducible rfl)
        try simp only [Act.put, List.setIfInBounds_toArray, List.set_cons_zero, List.set_cons_succ]
        refine reg_one 0 rfl (by kernel_rfl) (by kernel_rfl) ?_
        go_simp
        have hS0 : Same W (wr.alloc (.cells #[.int .u8 4] 5)).drew := (HSR.out.trans (Same.alloc _ _)).drew
        have hw4 : Same wr (wr.alloc (.cells #[.int .u8 4] 5)).drew := (Same.alloc _ _).drew
        refine ⟨hS0, ?_⟩
        try simp only [Act.put, List.setIfInBounds_toArray, List.set_cons_zero, List.set_cons_succ]
        generalize (wr.alloc (.cells #[.int .u8 4] 5)).drew = W4 at *
        refine reg_one 4 rfl (by kernel_rfl) (by kernel_rfl) ?_
        go_simp
        refine ((rPut8_two _ [byteAt 4 0] oa _ HB4.out.bs (by simp) (by omega) (by omega))).mono ?_
        rintro e u2 ⟨v1, rfl, ho1, hs2⟩
        have hS2 := (hS0).trans hs2
        skip
        refine ⟨hS2, ?_⟩
        try simp only [Act.put, List.setIfInBounds_toArray, List.set_cons_zero, List.set_cons_succ]
        refine reg_one 8 rfl (by kernel_rfl) (by kernel_rfl) ?_
        go_simp
        refine ((rPut8_two _ ([byteAt 4 0] ++ [byteAt oa 1, byteAt oa 0]) oh _ ho1.bs (by simp) (by omega) (by omega))).mono ?_
        rintro e u3 ⟨v2, rfl, ho2, hs3⟩
        have hS3 := (hS2).trans hs3
        skip
        refine ⟨hS3, ?_⟩
        try simp only [Act.put, List.setIfInBounds_toArray, List.set_cons_zero, List.set_cons_succ]
        refine reg_take (v := ?_) 9 (some 6) rfl rfl (by kernel_rfl) (fun _ _ _ h => h) (by kernel_rfl) (hS3) ?_ ?_
        rotate_left
        · (intro w' hw'; obtain ⟨z0, z1, z2, z3⟩ := HXW.out w' hw'; go_simp; try with_reducible rfl)
        try simp only [Act.put, List.setIfInBounds_toArray, List.set_cons_zero, List.set_cons_succ]
        refine reg_done (by kernel_rfl) ?_
        have HO2 := Lib.hid ho2
        have HS2 := Lib.hid hS3
        have HCw : Hid (OwnB u3 W.heap.size (.slice ba m bc) (capsB l)) := by
          have h1 := HOV.out
          rw [List.take_of_length_le (by have := HN.out; omega)] at h1
          exact h1.same (hw4.trans (hs2.trans hs3))
        have hm : (capsB l).length = m := by
          have h1 := HM.out
          rw [List.take_of_length_le (by have := HN.out; omega)] at h1
          exact h1
        have hm2 : m ≤ 200 := by have := HCS.out.2; omega
        have HMM := Lib.hid hm
        clear hS0 hw4 hs2 hs3 ho1 ho2 hS2 hS3 HB4 HW4 hm
        obtain ⟨z0, z1, z2, z3⟩ := HXW.out _ HS2.out
        go_wp2_with fail
        clear z0 z1 z2 z3
        refine (rPut_four _ _ oi _ HO2.out.bs (by simp) hr.1 (by omega)).mono ?_
        rintro e w3 ⟨v3, rfl, ho3, hs3⟩
        obtain ⟨p3, q3, rfl⟩ := ho3.bs.form0 (n := 9) rfl
        have HO3 := Lib.hid ho3
        have HS3 := Lib.hid hs3
        have HSW3 := Lib.hid (HSW.out.trans (HS2.out.trans hs3))
        have HHd : Hid ((([byteAt 4 0] ++ [byteAt oa 1, byteAt oa 0]) ++ [byteAt oh 1, byteAt oh 0]) ++ [byteAt oi 3, byteAt oi 2, byteAt oi 1, byteAt oi 0] = headO ⟨oa, oh, oi, l⟩) := by show _ = _; unfold headO; rw [show byteAt 4 0 = 4 by decide]
        obtain ⟨z0, z1, z2, z3⟩ := HXW.out _ (HS2.out.trans hs3)
        clear ho3 hs3
        by_cases h0 : k = 0
        · subst h0
          have hl : l = [] := List.eq_nil_of_length_eq_zero HN.out
          have HTl : Hid (tailO l = [byteAt 0 0]) := by rw [hl]; rfl
          have HB5 := Lib.hid (one_bs w3 0 (by omega))
          go_wp2_with (at_builtin; refine wpList_append_bs rfl _ _ rfl u3 (HS3.out.trans (Same.alloc _ _)) _ _ rfl (HO3.out.same (Same.alloc _ _)) _ [byteAt 0 0] rfl HB5.out.bs (by simp) ?_; intro v5 w5 ho5 hs5)
          go_ret
          refine ⟨_, rfl, ?_, HSW.out.trans (HS2.out.trans hs5)⟩
          rw [HAB.out, HTl.out, ← HHd.out]
          exact ho5.bs
        · have h0' : ((k : Int) == 0) = false := by simp; omega
          have hl : l ≠ [] := fun e => h0 (by rw [← HN.out, e]; rfl)
          have HTl : Hid (tailO l = [byteAt (2 + (m : Int)) 0, byteAt 2 0, byteAt (m : Int) 0] ++ capsB l) := by
            show _ = _
            unfold tailO
            rw [if_neg hl, HMM.out, Int.natCast_add]
            rfl
          have k1 : (2 + (m : Int)) % 256 = 2 + m := by omega
          have k2 : (m : Int) % 256 = m := by omega
          have HB5 := Lib.hid (row_bs w3 [2 + (m : Int), 2, (m : Int)] (fun x hx => by simp at hx; rcases hx with rfl | rfl | rfl <;> omega) 3 rfl (by omega) #[.int .u8 (2 + (m : Int)), .int .u8 2, .int .u8 m] rfl).bs
          have HL6 : Hid (((((([byteAt 4 0] ++ [byteAt oa 1, byteAt oa 0]) ++ [byteAt oh 1, byteAt oh 0]) ++ [byteAt oi 3, byteAt oi 2, byteAt oi 1, byteAt oi 0])) ++ [byteAt (2 + (m : Int)) 0, byteAt 2 0, byteAt (m : Int) 0]).length + (capsB l).length ≤ 140737488355328) := by show _ ≤ _; rw [HMM.out]; simp; omega
          go_wp2_with (first | (at_builtin; refine wpList_append_bs rfl _ _ rfl u3 (HS3.out.trans (Same.alloc _ _)) _ _ rfl (HO3.out.same (Same.alloc _ _)) _ [byteAt (2 + (m : Int)) 0, byteAt 2 0, byteAt (m : Int) 0] rfl HB5.out (by simp) ?_; intro v5 w5 ho5 hs5) | (at_builtin; refine wpList_append_bs rfl _ _ rfl u3 hs5 _ _ rfl ho5 _ (capsB l) rfl (HCw.out.bs.same hs5) HL6.out ?_; intro v6 w6 ho6 hs6))
          go_ret
          refine ⟨_, rfl, ?_, HSW.out.trans (HS2.out.trans hs6)⟩
          rw [HAB.out, HTl.out, ← HHd.out, ← List.append_assoc]
          exact ho6.bs
      · have hk8 : (k : Int) < n := by omega
        have hkx : k < xs.length := by have := HXN.out; omega
        obtain ⟨b, o1, cap, e1, HC1⟩ := HP.out (by omega)
        cases e1
        obtain ⟨x, hx⟩ : ∃ x, xs[k]? = some x := ⟨_, List.getElem?_eq_getElem hkx⟩
        obtain ⟨x0, x1⟩ := HC1 wr (HSW.out.trans HSR.out) k x hx
        have hlx : l[k]? = some x.1 := by rw [← HXL.out, List.getElem?_map, hx]; rfl
        obtain ⟨⟨cd, vl⟩, ⟨so, sc⟩⟩ := x
        dsimp only [cvV] at x0 x1 hlx
        have hbx := Lib.hid (HXB.out _ (List.mem_of_getElem? hx))
        have hok := HCS.out.1 _ (List.mem_of_getElem? hlx)
        have hcd : 0 ≤ cd ∧ cd ≤ 255 := hok.1
        have hvl : vl.length ≤ 100 := hok.2
        have HTK : Hid (capsB (l.take (k + 1)) = (capsB (l.take k) ++ [byteAt cd 0, byteAt vl.length 0]) ++ vl) := by
          show _ = _
          rw [List.take_add_one, hlx, capsB_append, List.append_assoc]
          simp [capsB, capB]
        have HTL : Hid ((capsB (l.take k)).length ≤ 200) := by have := capsB_take l k; have := HCS.out.2; show _ ≤ _; omega
        have HAC := Lib.hid (Same.alloc wr (cpO 55 ⟨cd, vl⟩ (.slice so vl.length sc)))
        have HKC := Lib.hid (heap_alloc_new wr (cpO 55 ⟨cd, vl⟩ (.slice so vl.length sc)))
        have HBX : Hid (∀ w', Same W w' → Bs w' (.slice so vl.length sc) vl) := fun w' hs => hbx.out.same (HSW.out.trans hs)
        obtain ⟨q, hq⟩ : ∃ q, vl.length = q := ⟨_, rfl⟩
        have HQ := Lib.hid hq
        rw [hq] at x1 hvl HTK HAC HKC HBX
        clear h8 hkx HP hx HC1 hlx hok hq hbx
        go_wp2_with fail
        generalize hW0 : wr.alloc (.cells #[.int .i64 cd, .slice so q sc] 55) = W0 at HAC HKC ⊢
        clear hW0
        have HWc : Hid (IntKind.u8.wrap cd = cd) := by show _ = _; rw [IntKind.wrap_u8]; omega
        have HWq : Hid (IntKind.u8.wrap (q : Int) = q) := by show _ = _; rw [IntKind.wrap_u8]; omega
        have HS0 : Hid (capS W wr.heap.size ⟨cd, vl⟩ (.slice so q sc) W0) := ⟨HSR.out.trans HAC.out, HKC.out⟩
        have HO8 : Hid (OwnB (W0.alloc (.cells #[.int .u8 cd, .int .u8 q] 5)).drew W.heap.size (.slice ba m bc) (capsB (l.take k))) := ((HOV.out.same HAC.out).same (Same.alloc _ _)).same (Same.refl _).drew
        have HB8 : Hid (Bs (W0.alloc (.cells #[.int .u8 cd, .int .u8 q] 5)).drew (.slice (some ⟨W0.heap.size, 0, none⟩) 2 2) [byteAt cd 0, byteAt q 0]) := (row_bs W0 [cd, (q : Int)] (fun x hx => by simp at hx; rcases hx with rfl | rfl <;> omega) 2 rfl (by omega) #[.int .u8 cd, .int .u8 q] rfl).bs.same (Same.refl _).drew
        have HL9 : Hid ((capsB (l.take k)).length + [byteAt cd 0, byteAt (q : Int) 0].length ≤ 140737488355328) := by have := HTL.out; show _ ≤ _; simp; omega
        have HL12 : Hid ((capsB (l.take k) ++ [byteAt cd 0, byteAt (q : Int) 0]).length + vl.length ≤ 140737488355328) := by have := HTL.out; have := HQ.out; show _ ≤ _; rw [List.length_append]; simp; omega
        refine reg_start (capS W wr.heap.size ⟨cd, vl⟩ (.slice so q sc)) (by kernel_rfl) ?_
        refine reg_take (v := ?_) 0 (some 17) rfl rfl (by kernel_rfl) (fun _ _ _ h => h) (by kernel_rfl) (HS0.out.drew) ?_ ?_
        rotate_left
        · (intro w' hw'; obtain ⟨c0, c1⟩ := CpAt.of hw'.2; go_simp; try with_reducible rfl)
        try simp only [Act.put, List.setIfInBounds_toArray, List.set_cons_zero, List.set_cons_succ]
        refine reg_take (v := ?_) 1 (some 18) rfl rfl (by kernel_rfl) (fun _ _ _ h => h) (by kernel_rfl) (HS0.out.drew) ?_ ?_
        rotate_left
        · (intro w' hw'; obtain ⟨c0, c1⟩ := CpAt.of hw'.2; go_simp; try with_reducible rfl)
        try simp only [Act.put, List.setIfInBounds_toArray, List.set_cons_zero, List.set_cons_succ]
        refine reg_take (v := ?_) 2 (some 19) rfl rfl (by kernel_rfl) (fun _ _ _ h => h) (by kernel_rfl) (HS0.out.drew) ?_ ?_
        rotate_left
        · (intro w' hw'; obtain ⟨c0, c1⟩ := CpAt.of hw'.2; go_simp; try with_reducible rfl)
        try simp only [Act.put, List.setIfInBounds_toArray, List.set_cons_zero, List.set_cons_succ]
        refine reg_take (v := ?_) 3 (some 20) rfl rfl (by kernel_rfl) (fun _ _ _ h => h) (by kernel_rfl) (HS0.out.drew) ?_ ?_
        rotate_left
        · (intro w' hw'; obtain ⟨c0, c1⟩ := CpAt.of hw'.2; go_simp; try with_reducible rfl)
        try simp only [Act.put, List.setIfInBounds_toArray, List.set_cons_zero, List.set_cons_succ]
        refine reg_take (v := ?_) 4 (some 21) rfl rfl (by kernel_rfl) (fun _ _ _ h => h) (by kernel_rfl) (HS0.out.drew) ?_ ?_
        rotate_left
        · (intro w' hw'; obtain ⟨c0, c1⟩ := CpAt.of hw'.2; go_simp; try with_reducible rfl)
        try simp only [Act.put, List.setIfInBounds_toArray, List.set_cons_zero, List.set_cons_succ]
        refine reg_take (v := ?_) 5 (some 22) rfl rfl (by kernel_rfl) (fun _ _ _ h => h) (by kernel_rfl) (HS0.out.drew) ?_ ?_
        rotate_left
        · (intro w' hw'; obtain ⟨c0, c1⟩ := CpAt.of hw'.2; go_simp; try with_reducible rfl)
        try simp only [Act.put, List.setIfInBounds_toArray, List.set_cons_zero, List.set_cons_succ]
        refine reg_take (v := ?_) 6 (some 23) rfl rfl (by kernel_rfl) (fun _ _ _ h => h) (by kernel_rfl) (HS0.out.drew) ?_ ?_
        rotate_left
        · (intro w' hw'; obtain ⟨c0, c1⟩ := CpAt.of hw'.2; go_simp; try with_reducible rfl)
        try simp only [Act.put, List.setIfInBounds_toArray, List.set_cons_zero, List.set_cons_succ]
        refine reg_take (v := ?_) 7 (some 24) rfl rfl (by kernel_rfl) (fun _ _ _ h => h) (by kernel_rfl) (HS0.out.drew) ?_ ?_
        rotate_left
        · (intro w' hw'; obtain ⟨c0, c1⟩ := CpAt.of hw'.2; go_simp; try with_reducible rfl)
        try simp only [Act.put, List.setIfInBounds_toArray, List.set_cons_zero, List.set_cons_succ]
        refine reg_take (v := ?_) 10 (some 27) rfl rfl (by kernel_rfl) (fun _ _ _ h => h) (by kernel_rfl) (HS0.out.drew) ?_ ?_
        rotate_left
        · (intro w' hw'; obtain ⟨c0, c1⟩ := CpAt.of hw'.2; go_simp; try with_reducible rfl)
        try simp only [Act.put, List.setIfInBounds_toArray, List.set_cons_zero, List.set_cons_succ]
        refine reg_take (v := ?_) 11 (some 28) rfl rfl (by kernel_rfl) (fun _ _ _ h => h) (by kernel_rfl) (HS0.out.drew) ?_ ?_
        rotate_left
        · (intro w' hw'; obtain ⟨c0, c1⟩ := CpAt.of hw'.2; go_simp; try with_reducible rfl)
        try simp only [Act.put, List.setIfInBounds_toArray, List.set_cons_zero, List.set_cons_succ]
        refine reg_one 8 rfl (by kernel_rfl) (by kernel_rfl) ?_
        go_simp
        rw [HWc.out, HWq.out]
        have hS8 := (HS0.out.alloc (.cells #[.int .u8 cd, .int .u8 q] 5)).drew
        refine ⟨hS8, ?_⟩
        try simp only [Act.put, List.setIfInBounds_toArray, List.set_cons_zero, List.set_cons_succ]
        generalize (W0.alloc (.cells #[.int .u8 cd, .int .u8 q] 5)).drew = W8 at *
        refine reg_one 9 rfl (by kernel_rfl) (by kernel_rfl) ?_
        refine wp_append_bsg _ _ rfl W.heap.size hS8.1.size (.slice ba m bc) (capsB (l.take k)) rfl HO8.out (.slice (some ⟨W0.heap.size, 0, none⟩) 2 2) [byteAt cd 0, byteAt (q : Int) 0] rfl HB8.out HL9.out ?_
        intro v9 w9 hO9 hg9
        have hS9 : capS W wr.heap.size ⟨cd, vl⟩ (.slice so q sc) w9 := ⟨hS8.1.grown hg9 (fun k e => (HO8.out.lt k e).1), grown_keep hg9 hS8.2 (own_not HO8.out hS8.2 (by decide))⟩
        refine ⟨hS9, ?_⟩
        try simp only [Act.put, List.setIfInBounds_toArray, List.set_cons_zero, List.set_cons_succ]
        refine reg_one 12 rfl (by kernel_rfl) (by kernel_rfl) ?_
        refine wp_append_bsg _ _ rfl W.heap.size hS9.1.size v9 (capsB (l.take k) ++ [byteAt cd 0, byteAt (q : Int) 0]) rfl hO9 (.slice so q sc) vl rfl (HBX.out _ hS9.1) HL12.out ?_
        intro v12 w12 hO12 hg12
        have hS12 : capS W wr.heap.size ⟨cd, vl⟩ (.slice so q sc) w12 := ⟨hS9.1.grown hg12 (fun k e => (hO9.lt k e).1), grown_keep hg12 hS9.2 (own_not hO9 hS9.2 (by decide))⟩
        refine ⟨hS12, ?_⟩
        try simp only [Act.put, List.setIfInBounds_toArray, List.set_cons_zero, List.set_cons_succ]
        refine reg_take (v := ?_) 13 (some 3) rfl rfl (by kernel_rfl) (fun _ _ _ h => h) (by kernel_rfl) (hS12) ?_ ?_
        rotate_left
        · (intro w' hw'; obtain ⟨c0, c1⟩ := CpAt.of hw'.2; go_simp; try with_reducible rfl)
        try simp only [Act.put, List.setIfInBounds_toArray, List.set_cons_zero, List.set_cons_succ]
        refine reg_done (by kernel_rfl) ?_
        have HO12 := Lib.hid hO12
        have HS12 := Lib.hid hS12.1
        clear hO9 hg9 hO12 hg12 hS8 hS9 hS12
        go_wp2_with fail
        exact ⟨⟨k + 1, by omega, rfl, by rw [HTK.out]; exact HO12.out, HS12.out⟩, by simp [intOf]; omega⟩
  · have hd : decide (goodO o) = false := decide_eq_false hg
    have HG := fun w' hs => Lib.hid (hd ▸ (HG w' hs).out)
    have hab : AB = [] := by rw [HAB.out, if_neg hg]
    subst hab
    clear HAB hd hg
    obtain ⟨oa, oh, oi, l⟩ := o
    simp only at h hr
    obtain ⟨n, hn⟩ : ∃ n, l.length = n := ⟨_, rfl⟩
    obtain ⟨a1, c1, rfl⟩ := h.form hn
    clear h hn hr
    have HA := Lib.hid (Same.alloc w (oqO 34 ⟨oa, oh, oi, l⟩ (.slice a1 n c1)))
    obtain ⟨z0, z1, z2, z3⟩ := OqAt.of (heap_alloc_new w (oqO 34 ⟨oa, oh, oi, l⟩ (.slice a1 n c1)))
    go_enter Try.func12, Try.ntmps12
    go_wp2_with fail
    refine (HG _ HA.out).out.mono ?_
    rintro e w1 ⟨rfl, hs1⟩
    have HS1 := Lib.hid (HA.out.trans hs1)
    clear hs1
    go_wp2_with fail
    go_ret
    exact ⟨_, rfl, Bs.nil _, HS1.out⟩
end Go.Proofs.Ytidijoncngfppaa
