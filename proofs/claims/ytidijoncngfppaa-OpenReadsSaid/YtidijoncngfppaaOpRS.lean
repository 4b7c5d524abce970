/- Contract of the document's own Same of layer 8, of any two. No condition beyond what it names. -/
import Derived.Test.YtidijoncngfppaaOpRA
namespace Go.Proofs.Ytidijoncngfppaa
open Go.RowKit
set_option linter.unusedVariables false
set_option maxRecDepth 100000

/-- a string's bytes, one by one -/
theorem ba_loop (l : List UInt8) : ∀ (n i : Nat) (r : List UInt8), l.length - i = n → ByteArray.toList.loop ⟨l.toArray⟩ i r = r.reverse ++ l.drop i := by
  intro n
  induction n with
  | zero =>
    intro i r h
    unfold ByteArray.toList.loop
    rw [if_neg (by show ¬ i < l.toArray.size; simp; omega), List.drop_of_length_le (by omega)]
    simp
  | succ n ih =>
    intro i r h
    have hi : i < l.length := by omega
    unfold ByteArray.toList.loop
    rw [if_pos (by show i < l.toArray.size; simp; omega), ih (i + 1) _ (by omega), List.drop_eq_getElem_cons hi]
    have : (⟨l.toArray⟩ : ByteArray).get! i = l[i] := by
      show l.toArray[i]! = l[i]
      simp [hi]
    rw [this]
    simp
theorem ba_list (l : List UInt8) : (⟨l.toArray⟩ : ByteArray).toList = l := by
  unfold ByteArray.toList
  rw [ba_loop l l.length 0 [] (by omega)]
  simp
theorem ba_ne {l m : List UInt8} (h : l ≠ m) : ((⟨l.toArray⟩ : ByteArray).toList == (⟨m.toArray⟩ : ByteArray).toList) = false := by
  rw [ba_list, ba_list]
  simpa using h

set_option maxHeartbeats 4000000 in
theorem rSame8_any (a b : Oq) (va vb : Value) (w : World) (ha : CapsW 55 w va a.caps) (hb : CapsW 55 w vb b.caps) :
    Calls Try.prog 14 #[oqV a va, oqV b vb] w fun e w' => e = .returned (.bool (decide (sameO a b))) ∧ Same w w' := by
  obtain ⟨oa, oh, oi, l⟩ := a
  obtain ⟨pa, ph, pi, m⟩ := b
  simp only at ha hb
  obtain ⟨xs, hxl, hxn, hxb, hP⟩ := ha.one
  obtain ⟨ys, hyl, hyn, hyb, hQ⟩ := hb.one
  have i0 := ha.cap
  have i1 := hb.cap
  obtain ⟨n, hn⟩ : ∃ n, l.length = n := ⟨_, rfl⟩
  obtain ⟨n', hn'⟩ : ∃ n, m.length = n := ⟨_, rfl⟩
  obtain ⟨a1, c1, rfl⟩ := ha.form hn
  obtain ⟨a2, c2, rfl⟩ := hb.form hn'
  rw [hn] at hP hxn i0
  rw [hn'] at hQ hyn i1
  have HP := Lib.hid hP
  have HQ := Lib.hid hQ
  have HXN := Lib.hid hxn
  have HYN := Lib.hid hyn
  have HXB := Lib.hid hxb
  have HYB := Lib.hid hyb
  have HXL := Lib.hid hxl
  have HYL := Lib.hid hyl
  have HN := Lib.hid hn
  have HN' := Lib.hid hn'
  obtain ⟨R, hR⟩ : ∃ R, decide (sameO ⟨oa, oh, oi, l⟩ ⟨pa, ph, pi, m⟩) = R := ⟨_, rfl⟩
  rw [hR]
  have HG : Hid (∀ b : Bool, (sameO ⟨oa, oh, oi, l⟩ ⟨pa, ph, pi, m⟩ ↔ b = true) → b = R) := fun b hb => by
    rw [← hR]
    cases b
    · exact (decide_eq_false (fun hg => by simpa using hb.1 hg)).symm
    · exact (decide_eq_true (hb.2 rfl)).symm
  have HF : Hid (¬ sameO ⟨oa, oh, oi, l⟩ ⟨pa, ph, pi, m⟩ → false = R) := fun hb => HG.out false ⟨fun h => absurd h hb, fun h => by cases h⟩
  have HA := Lib.hid ((Same.alloc w (oqO 34 ⟨oa, oh, oi, l⟩ (.slice a1 n c1))).trans (Same.alloc _ (oqO 34 ⟨pa, ph, pi, m⟩ (.slice a2 n' c2))))
  have HX : Hid (∀ w', Same ((w.alloc (oqO 34 ⟨oa, oh, oi, l⟩ (.slice a1 n c1))).alloc (oqO 34 ⟨pa, ph, pi, m⟩ (.slice a2 n' c2))) w' → OqAt w' w.heap.size ⟨oa, oh, oi, l⟩ (.slice a1 n c1) ∧ OqAt w' (w.heap.size + 1) ⟨pa, ph, pi, m⟩ (.slice a2 n' c2)) := fun w' hw => by
    refine ⟨OqAt.of (((Same.alloc _ _).trans hw).block (heap_alloc_new w _)), ?_⟩
    have := OqAt.of (hw.block (heap_alloc_new (w.alloc (oqO 34 ⟨oa, oh, oi, l⟩ (.slice a1 n c1))) (oqO 34 ⟨pa, ph, pi, m⟩ (.slice a2 n' c2))))
    rw [show (w.alloc (oqO 34 ⟨oa, oh, oi, l⟩ (.slice a1 n c1))).heap.size = w.heap.size + 1 from by simp] at this
    exact this
  obtain ⟨⟨z0, z1, z2, z3⟩, y0, y1, y2, y3⟩ := HX.out _ (Same.refl _)
  clear ha hb hn hn' hP hQ hxn hyn hxb hyb hxl hyl hR
  by_cases g1 : oa = pa
  · by_cases g2 : oh = ph
    · by_cases g3 : oi = pi
      · by_cases g4 : n = n'
        · subst g1 g2 g3 g4
          go_enter Try.func14, Try.ntmps14
          go_wp2_with fail
          generalize hW : (w.alloc (.cells #[.int .i64 oa, .int .i64 oh, .int .u32 oi, .slice a1 n c1] 34)).alloc (.cells #[.int .i64 oa, .int .i64 oh, .int .u32 oi, .slice a2 n c2] 34) = W at *
          clear hW z0 z1 z2 z3 y0 y1 y2 y3
          go_loopw [37] (fun i wr => ∃ k : Nat, k ≤ n ∧ i = .int .i64 k ∧ (l.take k).map (·.code) = (m.take k).map (·.code) ∧ (l.take k).map (·.value) = (m.take k).map (·.value) ∧ Same W wr) (fun i _ => n - (intOf i).toNat)
          case atStart => exact ⟨0, by omega, rfl, by simp, by simp, Same.refl W⟩
          case round =>
            obtain ⟨k, hk, rfl, hcs, hvs, hsr⟩ := hrel
            have HSR := Lib.hid hsr
            have HCS := Lib.hid hcs
            have HVS := Lib.hid hvs
            clear hsr hcs hvs
            by_cases h8 : k = n
            · subst h8
              have ht : true = R := HG.out true ⟨fun _ => rfl, fun _ => by
                have h1 := HCS.out
                have h2 := HVS.out
                rw [List.take_of_length_le (by have := HN.out; omega), List.take_of_length_le (by have := HN'.out; omega)] at h1 h2
                exact ⟨rfl, rfl, rfl, h1, h2⟩⟩
              have HT := Lib.hid ht
              clear ht
              go_wp2_with fail
              go_ret
              exact ⟨by obtain rfl := HT.out; rfl, HA.out.trans HSR.out⟩
            · have hk8 : (k : Int) < n := by omega
              have hkx : k < xs.length := by have := HXN.out; omega
              have hky : k < ys.length := by have := HYN.out; omega
              obtain ⟨b, o1, cap, e1, HC1⟩ := HP.out (by omega)
              cases e1
              obtain ⟨b', o2, cap', e2, HC2⟩ := HQ.out (by omega)
              cases e2
              obtain ⟨x, hx⟩ : ∃ x, xs[k]? = some x := ⟨_, List.getElem?_eq_getElem hkx⟩
              obtain ⟨y, hy⟩ : ∃ y, ys[k]? = some y := ⟨_, List.getElem?_eq_getElem hky⟩
              have HCX := Lib.hid (fun w' (hs : Same W w') => HC1 w' (HA.out.trans hs) k x hx)
              have HCY := Lib.hid (fun w' (hs : Same W w') => HC2 w' (HA.out.trans hs) k y hy)
              have hlx : l[k]? = some x.1 := by rw [← HXL.out, List.getElem?_map, hx]; rfl
              have hly : m[k]? = some y.1 := by rw [← HYL.out, List.getElem?_map, hy]; rfl
              have hbx := Lib.hid (HXB.out _ (List.mem_of_getElem? hx))
              have hby := Lib.hid (HYB.out _ (List.mem_of_getElem? hy))
              obtain ⟨⟨cd, vl⟩, ⟨so, sc⟩⟩ := x
              obtain ⟨⟨ce, vm⟩, ⟨to, tc⟩⟩ := y
              dsimp only [cvV] at HCX HCY hlx hly hbx hby
              have HTX : Hid (l.take (k + 1) = l.take k ++ [⟨cd, vl⟩]) := by show _ = _; rw [List.take_add_one, hlx]; rfl
              have HTY : Hid (m.take (k + 1) = m.take k ++ [⟨ce, vm⟩]) := by show _ = _; rw [List.take_add_one, hly]; rfl
              have HDF : Hid (cd ≠ ce ∨ vl ≠ vm → ¬ sameO ⟨oa, oh, oi, l⟩ ⟨oa, oh, oi, m⟩) := fun hd hs => by
                obtain ⟨-, -, -, s1, s2⟩ := hs
                have t1 := congrArg (fun z => z[k]?) s1
                have t2 := congrArg (fun z => z[k]?) s2
                simp only [List.getElem?_map, hlx, hly, Option.map_some, Option.some.injEq] at t1 t2
                rcases hd with hd | hd
                · exact hd t1
                · exact hd t2
              clear h8 hkx hky HP HQ hx hy HC1 HC2 hlx hly
              by_cases hcd : cd = ce
              · subst hcd
                by_cases hvl : vl = vm
                · subst hvl
                  have HYx := fun w' (h : Same W w') => Lib.hid (run_str w' _ _ (hbx.out.same (HA.out.trans h)))
                  have HYy := fun w' (h : Same W w') => Lib.hid (run_str w' _ _ (hby.out.same (HA.out.trans h)))
                  generalize (⟨vl.toArray⟩ : ByteArray) = sa at HYx HYy
                  go_wp2_with fail
                  refine reg_start (fun w' => Same wr w') (by kernel_rfl) ?_
                  refine reg_take (v := ?_) 0 (some 40) rfl rfl (by kernel_rfl) (fun _ _ _ h => h) (by kernel_rfl) ((Same.refl wr).drew) ?_ ?_
                  rotate_left
                  · (intro w' hw'; obtain ⟨⟨z0, z1, z2, z3⟩, y0, y1, y2, y3⟩ := HX.out w' (HSR.out.trans hw'); obtain ⟨c0, c1⟩ := HCX.out w' (HSR.out.trans hw'); obtain ⟨d0, d1⟩ := HCY.out w' (HSR.out.trans hw'); go_simp; try with_reducible rfl)
                  try simp only [Act.put, List.setIfInBounds_toArray, List.set_cons_zero, List.set_cons_succ]
                  refine reg_take (v := ?_) 1 (some 41) rfl rfl (by kernel_rfl) (fun _ _ _ h => h) (by kernel_rfl) ((Same.refl wr).drew) ?_ ?_
                  rotate_left
                  · (intro w' hw'; obtain ⟨⟨z0, z1, z2, z3⟩, y0, y1, y2, y3⟩ := HX.out w' (HSR.out.trans hw'); obtain ⟨c0, c1⟩ := HCX.out w' (HSR.out.trans hw'); obtain ⟨d0, d1⟩ := HCY.out w' (HSR.out.trans hw'); go_simp; try with_reducible rfl)
                  try simp only [Act.put, List.setIfInBounds_toArray, List.set_cons_zero, List.set_cons_succ]
                  refine reg_take (v := ?_) 2 (some 42) rfl rfl (by kernel_rfl) (fun _ _ _ h => h) (by kernel_rfl) ((Same.refl wr).drew) ?_ ?_
                  rotate_left
                  · (intro w' hw'; obtain ⟨⟨z0, z1, z2, z3⟩, y0, y1, y2, y3⟩ := HX.out w' (HSR.out.trans hw'); obtain ⟨c0, c1⟩ := HCX.out w' (HSR.out.trans hw'); obtain ⟨d0, d1⟩ := HCY.out w' (HSR.out.trans hw'); go_simp; try with_reducible rfl)
                  try simp only [Act.put, List.setIfInBounds_toArray, List.set_cons_zero, List.set_cons_succ]
                  refine reg_take (v := ?_) 3 (some 43) rfl rfl (by kernel_rfl) (fun _ _ _ h => h) (by kernel_rfl) ((Same.refl wr).drew) ?_ ?_
                  rotate_left
                  · (intro w' hw'; obtain ⟨⟨z0, z1, z2, z3⟩, y0, y1, y2, y3⟩ := HX.out w' (HSR.out.trans hw'); obtain ⟨c0, c1⟩ := HCX.out w' (HSR.out.trans hw'); obtain ⟨d0, d1⟩ := HCY.out w' (HSR.out.trans hw'); go_simp; try with_reducible rfl)
                  try simp only [Act.put, List.setIfInBounds_toArray, List.set_cons_zero, List.set_cons_succ]
                  refine reg_take (v := ?_) 4 (some 44) rfl rfl (by kernel_rfl) (fun _ _ _ h => h) (by kernel_rfl) ((Same.refl wr).drew) ?_ ?_
                  rotate_left
                  · (intro w' hw'; obtain ⟨⟨z0, z1, z2, z3⟩, y0, y1, y2, y3⟩ := HX.out w' (HSR.out.trans hw'); obtain ⟨c0, c1⟩ := HCX.out w' (HSR.out.trans hw'); obtain ⟨d0, d1⟩ := HCY.out w' (HSR.out.trans hw'); go_simp; try with_reducible rfl)
                  try simp only [Act.put, List.setIfInBounds_toArray, List.set_cons_zero, List.set_cons_succ]
                  refine reg_take (v := ?_) 5 (some 45) rfl rfl (by kernel_rfl) (fun _ _ _ h => h) (by kernel_rfl) ((Same.refl wr).drew) ?_ ?_
                  rotate_left
                  · (intro w' hw'; obtain ⟨⟨z0, z1, z2, z3⟩, y0, y1, y2, y3⟩ := HX.out w' (HSR.out.trans hw'); obtain ⟨c0, c1⟩ := HCX.out w' (HSR.out.trans hw'); obtain ⟨d0, d1⟩ := HCY.out w' (HSR.out.trans hw'); go_simp; try with_reducible rfl)
                  try simp only [Act.put, List.setIfInBounds_toArray, List.set_cons_zero, List.set_cons_succ]
                  refine reg_take (v := ?_) 6 (some 46) rfl rfl (by kernel_rfl) (fun _ _ _ h => h) (by kernel_rfl) ((Same.refl wr).drew) ?_ ?_
                  rotate_left
                  · (intro w' hw'; obtain ⟨⟨z0, z1, z2, z3⟩, y0, y1, y2, y3⟩ := HX.out w' (HSR.out.trans hw'); obtain ⟨c0, c1⟩ := HCX.out w' (HSR.out.trans hw'); obtain ⟨d0, d1⟩ := HCY.out w' (HSR.out.trans hw'); go_simp; try with_reducible rfl)
                  try simp only [Act.put, List.setIfInBounds_toArray, List.set_cons_zero, List.set_cons_succ]
                  refine reg_take (v := ?_) 7 (some 47) rfl rfl (by kernel_rfl) (fun _ _ _ h => h) (by kernel_rfl) ((Same.refl wr).drew) ?_ ?_
                  rotate_left
                  · (intro w' hw'; obtain ⟨⟨z0, z1, z2, z3⟩, y0, y1, y2, y3⟩ := HX.out w' (HSR.out.trans hw'); obtain ⟨c0, c1⟩ := HCX.out w' (HSR.out.trans hw'); obtain ⟨d0, d1⟩ := HCY.out w' (HSR.out.trans hw'); go_simp; try with_reducible rfl)
                  try simp only [Act.put, List.setIfInBounds_toArray, List.set_cons_zero, List.set_cons_succ]
                  refine reg_take (v := ?_) 8 (some 48) rfl rfl (by kernel_rfl) (fun _ _ _ h => h) (by kernel_rfl) ((Same.refl wr).drew) ?_ ?_
                  rotate_left
                  · (intro w' hw'; obtain ⟨⟨z0, z1, z2, z3⟩, y0, y1, y2, y3⟩ := HX.out w' (HSR.out.trans hw'); obtain ⟨c0, c1⟩ := HCX.out w' (HSR.out.trans hw'); obtain ⟨d0, d1⟩ := HCY.out w' (HSR.out.trans hw'); go_simp; try with_reducible rfl)
                  try simp only [Act.put, List.setIfInBounds_toArray, List.set_cons_zero, List.set_cons_succ]
                  refine reg_take (v := ?_) 9 (some 49) rfl rfl (by kernel_rfl) (fun _ _ _ h => h) (by kernel_rfl) ((Same.refl wr).drew) ?_ ?_
                  rotate_left
                  · (intro w' hw'; obtain ⟨⟨z0, z1, z2, z3⟩, y0, y1, y2, y3⟩ := HX.out w' (HSR.out.trans hw'); obtain ⟨c0, c1⟩ := HCX.out w' (HSR.out.trans hw'); obtain ⟨d0, d1⟩ := HCY.out w' (HSR.out.trans hw'); go_simp; try with_reducible rfl)
                  try simp only [Act.put, List.setIfInBounds_toArray, List.set_cons_zero, List.set_cons_succ]
                  refine reg_take (v := ?_) 10 (some 50) rfl rfl (by kernel_rfl) (fun _ _ _ h => h) (by kernel_rfl) ((Same.refl wr).drew) ?_ ?_
                  rotate_left
                  · (intro w' hw'; obtain ⟨⟨z0, z1, z2, z3⟩, y0, y1, y2, y3⟩ := HX.out w' (HSR.out.trans hw'); obtain ⟨c0, c1⟩ := HCX.out w' (HSR.out.trans hw'); obtain ⟨d0, d1⟩ := HCY.out w' (HSR.out.trans hw'); go_simp; try with_reducible rfl)
                  try simp only [Act.put, List.setIfInBounds_toArray, List.set_cons_zero, List.set_cons_succ]
                  refine reg_take (v := ?_) 11 (some 51) rfl rfl (by kernel_rfl) (fun _ _ _ h => h) (by kernel_rfl) ((Same.refl wr).drew) ?_ ?_
                  rotate_left
                  · (intro w' hw'; obtain ⟨⟨z0, z1, z2, z3⟩, y0, y1, y2, y3⟩ := HX.out w' (HSR.out.trans hw'); obtain ⟨c0, c1⟩ := HCX.out w' (HSR.out.trans hw'); obtain ⟨d0, d1⟩ := HCY.out w' (HSR.out.trans hw'); go_simp; try with_reducible rfl)
                  try simp only [Act.put, List.setIfInBounds_toArray, List.set_cons_zero, List.set_cons_succ]
                  refine reg_take (v := ?_) 12 (some 52) rfl rfl (by kernel_rfl) (fun _ _ _ h => h) (by kernel_rfl) ((Same.refl wr).drew) ?_ ?_
                  rotate_left
                  · (intro w' hw'; obtain ⟨⟨z0, z1, z2, z3⟩, y0, y1, y2, y3⟩ := HX.out w' (HSR.out.trans hw'); obtain ⟨c0, c1⟩ := HCX.out w' (HSR.out.trans hw'); obtain ⟨d0, d1⟩ := HCY.out w' (HSR.out.trans hw'); go_simp; try with_reducible rfl)
                  try simp only [Act.put, List.setIfInBounds_toArray, List.set_cons_zero, List.set_cons_succ]
                  refine reg_take (v := ?_) 13 (some 53) rfl rfl (by kernel_rfl) (fun _ _ _ h => h) (by kernel_rfl) ((Same.refl wr).drew) ?_ ?_
                  rotate_left
                  · (intro w' hw'; obtain ⟨⟨z0, z1, z2, z3⟩, y0, y1, y2, y3⟩ := HX.out w' (HSR.out.trans hw'); obtain ⟨c0, c1⟩ := HCX.out w' (HSR.out.trans hw'); obtain ⟨d0, d1⟩ := HCY.out w' (HSR.out.trans hw'); go_simp; try with_reducible rfl)
                  try simp only [Act.put, List.setIfInBounds_toArray, List.set_cons_zero, List.set_cons_succ]
                  refine reg_take (v := ?_) 14 (some 54) rfl rfl (by kernel_rfl) (fun _ _ _ h => h) (by kernel_rfl) ((Same.refl wr).drew) ?_ ?_
                  rotate_left
                  · (intro w' hw'; obtain ⟨⟨z0, z1, z2, z3⟩, y0, y1, y2, y3⟩ := HX.out w' (HSR.out.trans hw'); obtain ⟨c0, c1⟩ := HCX.out w' (HSR.out.trans hw'); obtain ⟨d0, d1⟩ := HCY.out w' (HSR.out.trans hw'); go_simp; try with_reducible rfl)
                  try simp only [Act.put, List.setIfInBounds_toArray, List.set_cons_zero, List.set_cons_succ]
                  refine reg_take (v := ?_) 15 (some 55) rfl rfl (by kernel_rfl) (fun _ _ _ h => h) (by kernel_rfl) ((Same.refl wr).drew) ?_ ?_
                  rotate_left
                  · (intro w' hw'; obtain ⟨⟨z0, z1, z2, z3⟩, y0, y1, y2, y3⟩ := HX.out w' (HSR.out.trans hw'); obtain ⟨c0, c1⟩ := HCX.out w' (HSR.out.trans hw'); obtain ⟨d0, d1⟩ := HCY.out w' (HSR.out.trans hw'); go_simp; try with_reducible rfl)
                  try simp only [Act.put, List.setIfInBounds_toArray, List.set_cons_zero, List.set_cons_succ]
                  refine reg_take (v := ?_) 16 (some 56) rfl rfl (by kernel_rfl) (fun _ _ _ h => h) (by kernel_rfl) ((Same.refl wr).drew) ?_ ?_
                  rotate_left
                  · (intro w' hw'; obtain ⟨⟨z0, z1, z2, z3⟩, y0, y1, y2, y3⟩ := HX.out w' (HSR.out.trans hw'); obtain ⟨c0, c1⟩ := HCX.out w' (HSR.out.trans hw'); obtain ⟨d0, d1⟩ := HCY.out w' (HSR.out.trans hw'); go_simp; try with_reducible rfl)
                  try simp only [Act.put, List.setIfInBounds_toArray, List.set_cons_zero, List.set_cons_succ]
                  refine reg_take (v := ?_) 17 (some 57) rfl rfl (by kernel_rfl) (fun _ _ _ h => h) (by kernel_rfl) ((Same.refl wr).drew) ?_ ?_
                  rotate_left
                  · (intro w' hw'; obtain ⟨⟨z0, z1, z2, z3⟩, y0, y1, y2, y3⟩ := HX.out w' (HSR.out.trans hw'); obtain ⟨c0, c1⟩ := HCX.out w' (HSR.out.trans hw'); obtain ⟨d0, d1⟩ := HCY.out w' (HSR.out.trans hw'); go_simp; try with_reducible rfl)
                  try simp only [Act.put, List.setIfInBounds_toArray, List.set_cons_zero, List.set_cons_succ]
                  refine reg_take (v := ?_) 18 (some 58) rfl rfl (by kernel_rfl) (fun _ _ _ h => h) (by kernel_rfl) ((Same.refl wr).drew) ?_ ?_
                  rotate_left
                  · (intro w' hw'; obtain ⟨⟨z0, z1, z2, z3⟩, y0, y1, y2, y3⟩ := HX.out w' (HSR.out.trans hw'); obtain ⟨c0, c1⟩ := HCX.out w' (HSR.out.trans hw'); obtain ⟨d0, d1⟩ := HCY.out w' (HSR.out.trans hw'); go_simp; try with_reducible rfl)
                  try simp only [Act.put, List.setIfInBounds_toArray, List.set_cons_zero, List.set_cons_succ]
                  refine reg_take (v := ?_) 19 (some 59) rfl rfl (by kernel_rfl) (fun _ _ _ h => h) (by kernel_rfl) ((Same.refl wr).drew) ?_ ?_
                  rotate_left
                  · (intro w' hw'; obtain ⟨⟨z0, z1, z2, z3⟩, y0, y1, y2, y3⟩ := HX.out w' (HSR.out.trans hw'); obtain ⟨c0, c1⟩ := HCX.out w' (HSR.out.trans hw'); obtain ⟨d0, d1⟩ := HCY.out w' (HSR.out.trans hw'); go_simp; try with_reducible rfl)
                  try simp only [Act.put, List.setIfInBounds_toArray, List.set_cons_zero, List.set_cons_succ]
                  refine reg_take (v := ?_) 20 (some 60) rfl rfl (by kernel_rfl) (fun _ _ _ h => h) (by kernel_rfl) ((Same.refl wr).drew) ?_ ?_
                  rotate_left
                  · (intro w' hw'; have hr := (HYx w' (HSR.out.trans hw')).out; go_simp; try with_reducible rfl)
                  try simp only [Act.put, List.setIfInBounds_toArray, List.set_cons_zero, List.set_cons_succ]
                  refine reg_take (v := ?_) 21 (some 61) rfl rfl (by kernel_rfl) (fun _ _ _ h => h) (by kernel_rfl) ((Same.refl wr).drew) ?_ ?_
                  rotate_left
                  · (intro w' hw'; obtain ⟨⟨z0, z1, z2, z3⟩, y0, y1, y2, y3⟩ := HX.out w' (HSR.out.trans hw'); obtain ⟨c0, c1⟩ := HCX.out w' (HSR.out.trans hw'); obtain ⟨d0, d1⟩ := HCY.out w' (HSR.out.trans hw'); go_simp; try with_reducible rfl)
                  try simp only [Act.put, List.setIfInBounds_toArray, List.set_cons_zero, List.set_cons_succ]
                  refine reg_take (v := ?_) 22 (some 62) rfl rfl (by kernel_rfl) (fun _ _ _ h => h) (by kernel_rfl) ((Same.refl wr).drew) ?_ ?_
                  rotate_left
                  · (intro w' hw'; obtain ⟨⟨z0, z1, z2, z3⟩, y0, y1, y2, y3⟩ := HX.out w' (HSR.out.trans hw'); obtain ⟨c0, c1⟩ := HCX.out w' (HSR.out.trans hw'); obtain ⟨d0, d1⟩ := HCY.out w' (HSR.out.trans hw'); go_simp; try with_reducible rfl)
                  try simp only [Act.put, List.setIfInBounds_toArray, List.set_cons_zero, List.set_cons_succ]
                  refine reg_take (v := ?_) 23 (some 63) rfl rfl (by kernel_rfl) (fun _ _ _ h => h) (by kernel_rfl) ((Same.refl wr).drew) ?_ ?_
                  rotate_left
                  · (intro w' hw'; obtain ⟨⟨z0, z1, z2, z3⟩, y0, y1, y2, y3⟩ := HX.out w' (HSR.out.trans hw'); obtain ⟨c0, c1⟩ := HCX.out w' (HSR.out.trans hw'); obtain ⟨d0, d1⟩ := HCY.out w' (HSR.out.trans hw'); go_simp; try with_reducible rfl)
                  try simp only [Act.put, List.setIfInBounds_toArray, List.set_cons_zero, List.set_cons_succ]
                  refine reg_take (v := ?_) 24 (some 64) rfl rfl (by kernel_rfl) (fun _ _ _ h => h) (by kernel_rfl) ((Same.refl wr).drew) ?_ ?_
                  rotate_left
                  · (intro w' hw'; obtain ⟨⟨z0, z1, z2, z3⟩, y0, y1, y2, y3⟩ := HX.out w' (HSR.out.trans hw'); obtain ⟨c0, c1⟩ := HCX.out w' (HSR.out.trans hw'); obtain ⟨d0, d1⟩ := HCY.out w' (HSR.out.trans hw'); go_simp; try with_reducible rfl)
                  try simp only [Act.put, List.setIfInBounds_toArray, List.set_cons_zero, List.set_cons_succ]
                  refine reg_take (v := ?_) 25 (some 65) rfl rfl (by kernel_rfl) (fun _ _ _ h => h) (by kernel_rfl) ((Same.refl wr).drew) ?_ ?_
                  rotate_left
                  · (intro w' hw'; obtain ⟨⟨z0, z1, z2, z3⟩, y0, y1, y2, y3⟩ := HX.out w' (HSR.out.trans hw'); obtain ⟨c0, c1⟩ := HCX.out w' (HSR.out.trans hw'); obtain ⟨d0, d1⟩ := HCY.out w' (HSR.out.trans hw'); go_simp; try with_reducible rfl)
                  try simp only [Act.put, List.setIfInBounds_toArray, List.set_cons_zero, List.set_cons_succ]
                  refine reg_take (v := ?_) 26 (some 66) rfl rfl (by kernel_rfl) (fun _ _ _ h => h) (by kernel_rfl) ((Same.refl wr).drew) ?_ ?_
                  rotate_left
                  · (intro w' hw'; obtain ⟨⟨z0, z1, z2, z3⟩, y0, y1, y2, y3⟩ := HX.out w' (HSR.out.trans hw'); obtain ⟨c0, c1⟩ := HCX.out w' (HSR.out.trans hw'); obtain ⟨d0, d1⟩ := HCY.out w' (HSR.out.trans hw'); go_simp; try with_reducible rfl)
                  try simp only [Act.put, List.setIfInBounds_toArray, List.set_cons_zero, List.set_cons_succ]
                  refine reg_take (v := ?_) 27 (some 67) rfl rfl (by kernel_rfl) (fun _ _ _ h => h) (by kernel_rfl) ((Same.refl wr).drew) ?_ ?_
                  rotate_left
                  · (intro w' hw'; have hr := (HYy w' (HSR.out.trans hw')).out; go_simp; try with_reducible rfl)
                  try simp only [Act.put, List.setIfInBounds_toArray, List.set_cons_zero, List.set_cons_succ]
                  refine reg_take (v := ?_) 28 (some 68) rfl rfl (by kernel_rfl) (fun _ _ _ h => h) (by kernel_rfl) ((Same.refl wr).drew) ?_ ?_
                  rotate_left
                  · (intro w' hw'; obtain ⟨⟨z0, z1, z2, z3⟩, y0, y1, y2, y3⟩ := HX.out w' (HSR.out.trans hw'); obtain ⟨c0, c1⟩ := HCX.out w' (HSR.out.trans hw'); obtain ⟨d0, d1⟩ := HCY.out w' (HSR.out.trans hw'); go_simp; try with_reducible rfl)
                  try simp only [Act.put, List.setIfInBounds_toArray, List.set_cons_zero, List.set_cons_succ]
                  refine reg_take (v := ?_) 29 (some 69) rfl rfl (by kernel_rfl) (fun _ _ _ h => h) (by kernel_rfl) ((Same.refl wr).drew) ?_ ?_
                  rotate_left
                  · (intro w' hw'; obtain ⟨⟨z0, z1, z2, z3⟩, y0, y1, y2, y3⟩ := HX.out w' (HSR.out.trans hw'); obtain ⟨c0, c1⟩ := HCX.out w' (HSR.out.trans hw'); obtain ⟨d0, d1⟩ := HCY.out w' (HSR.out.trans hw'); go_simp; try with_reducible rfl)
                  try simp only [Act.put, List.setIfInBounds_toArray, List.set_cons_zero, List.set_cons_succ]
                  refine reg_done (by kernel_rfl) ?_
                  go_wp2_with fail
                  exact ⟨⟨k + 1, by omega, rfl, by rw [HTX.out, HTY.out, List.map_append, List.map_append, HCS.out], by rw [HTX.out, HTY.out, List.map_append, List.map_append, HVS.out], HSR.out.drew⟩, by simp [intOf]; omega⟩
                · have hff : false = R := HF.out (HDF.out (.inr hvl))
                  have HFF := Lib.hid hff
                  have HYx := fun w' (h : Same W w') => Lib.hid (run_str w' _ _ (hbx.out.same (HA.out.trans h)))
                  have HYy := fun w' (h : Same W w') => Lib.hid (run_str w' _ _ (hby.out.same (HA.out.trans h)))
                  have hse := ba_ne hvl
                  generalize (⟨vl.toArray⟩ : ByteArray) = sa at HYx hse
                  generalize (⟨vm.toArray⟩ : ByteArray) = sb at HYy hse
                  have HNE := Lib.hid hse
                  clear hff hvl hse
                  go_wp2_with fail
                  refine reg_start (fun w' => Same wr w') (by kernel_rfl) ?_
                  refine reg_take (v := ?_) 0 (some 40) rfl rfl (by kernel_rfl) (fun _ _ _ h => h) (by kernel_rfl) ((Same.refl wr).drew) ?_ ?_
                  rotate_left
                  · (intro w' hw'; obtain ⟨⟨z0, z1, z2, z3⟩, y0, y1, y2, y3⟩ := HX.out w' (HSR.out.trans hw'); obtain ⟨c0, c1⟩ := HCX.out w' (HSR.out.trans hw'); obtain ⟨d0, d1⟩ := HCY.out w' (HSR.out.trans hw'); go_simp; try with_reducible rfl)
                  try simp only [Act.put, List.setIfInBounds_toArray, List.set_cons_zero, List.set_cons_succ]
                  refine reg_take (v := ?_) 1 (some 41) rfl rfl (by kernel_rfl) (fun _ _ _ h => h) (by kernel_rfl) ((Same.refl wr).drew) ?_ ?_
                  rotate_left
                  · (intro w' hw'; obtain ⟨⟨z0, z1, z2, z3⟩, y0, y1, y2, y3⟩ := HX.out w' (HSR.out.trans hw'); obtain ⟨c0, c1⟩ := HCX.out w' (HSR.out.trans hw'); obtain ⟨d0, d1⟩ := HCY.out w' (HSR.out.trans hw'); go_simp; try with_reducible rfl)
                  try simp only [Act.put, List.setIfInBounds_toArray, List.set_cons_zero, List.set_cons_succ]
                  refine reg_take (v := ?_) 2 (some 42) rfl rfl (by kernel_rfl) (fun _ _ _ h => h) (by kernel_rfl) ((Same.refl wr).drew) ?_ ?_
                  rotate_left
                  · (intro w' hw'; obtain ⟨⟨z0, z1, z2, z3⟩, y0, y1, y2, y3⟩ := HX.out w' (HSR.out.trans hw'); obtain ⟨c0, c1⟩ := HCX.out w' (HSR.out.trans hw'); obtain ⟨d0, d1⟩ := HCY.out w' (HSR.out.trans hw'); go_simp; try with_reducible rfl)
                  try simp only [Act.put, List.setIfInBounds_toArray, List.set_cons_zero, List.set_cons_succ]
                  refine reg_take (v := ?_) 3 (some 43) rfl rfl (by kernel_rfl) (fun _ _ _ h => h) (by kernel_rfl) ((Same.refl wr).drew) ?_ ?_
                  rotate_left
                  · (intro w' hw'; obtain ⟨⟨z0, z1, z2, z3⟩, y0, y1, y2, y3⟩ := HX.out w' (HSR.out.trans hw'); obtain ⟨c0, c1⟩ := HCX.out w' (HSR.out.trans hw'); obtain ⟨d0, d1⟩ := HCY.out w' (HSR.out.trans hw'); go_simp; try with_reducible rfl)
                  try simp only [Act.put, List.setIfInBounds_toArray, List.set_cons_zero, List.set_cons_succ]
                  refine reg_take (v := ?_) 4 (some 44) rfl rfl (by kernel_rfl) (fun _ _ _ h => h) (by kernel_rfl) ((Same.refl wr).drew) ?_ ?_
                  rotate_left
                  · (intro w' hw'; obtain ⟨⟨z0, z1, z2, z3⟩, y0, y1, y2, y3⟩ := HX.out w' (HSR.out.trans hw'); obtain ⟨c0, c1⟩ := HCX.out w' (HSR.out.trans hw'); obtain ⟨d0, d1⟩ := HCY.out w' (HSR.out.trans hw'); go_simp; try with_reducible rfl)
                  try simp only [Act.put, List.setIfInBounds_toArray, List.set_cons_zero, List.set_cons_succ]
                  refine reg_take (v := ?_) 5 (some 45) rfl rfl (by kernel_rfl) (fun _ _ _ h => h) (by kernel_rfl) ((Same.refl wr).drew) ?_ ?_
                  rotate_left
                  · (intro w' hw'; obtain ⟨⟨z0, z1, z2, z3⟩, y0, y1, y2, y3⟩ := HX.out w' (HSR.out.trans hw'); obtain ⟨c0, c1⟩ := HCX.out w' (HSR.out.trans hw'); obtain ⟨d0, d1⟩ := HCY.out w' (HSR.out.trans hw'); go_simp; try with_reducible rfl)
                  try simp only [Act.put, List.setIfInBounds_toArray, List.set_cons_zero, List.set_cons_succ]
                  refine reg_take (v := ?_) 6 (some 46) rfl rfl (by kernel_rfl) (fun _ _ _ h => h) (by kernel_rfl) ((Same.refl wr).drew) ?_ ?_
                  rotate_left
                  · (intro w' hw'; obtain ⟨⟨z0, z1, z2, z3⟩, y0, y1, y2, y3⟩ := HX.out w' (HSR.out.trans hw'); obtain ⟨c0, c1⟩ := HCX.out w' (HSR.out.trans hw'); obtain ⟨d0, d1⟩ := HCY.out w' (HSR.out.trans hw'); go_simp; try with_reducible rfl)
                  try simp only [Act.put, List.setIfInBounds_toArray, List.set_cons_zero, List.set_cons_succ]
                  refine reg_take (v := ?_) 7 (some 47) rfl rfl (by kernel_rfl) (fun _ _ _ h => h) (by kernel_rfl) ((Same.refl wr).drew) ?_ ?_
                  rotate_left
                  · (intro w' hw'; obtain ⟨⟨z0, z1, z2, z3⟩, y0, y1, y2, y3⟩ := HX.out w' (HSR.out.trans hw'); obtain ⟨c0, c1⟩ := HCX.out w' (HSR.out.trans hw'); obtain ⟨d0, d1⟩ := HCY.out w' (HSR.out.trans hw'); go_simp; try with_reducible rfl)
                  try simp only [Act.put, List.setIfInBounds_toArray, List.set_cons_zero, List.set_cons_succ]
                  refine reg_take (v := ?_) 8 (some 48) rfl rfl (by kernel_rfl) (fun _ _ _ h => h) (by kernel_rfl) ((Same.refl wr).drew) ?_ ?_
                  rotate_left
                  · (intro w' hw'; obtain ⟨⟨z0, z1, z2, z3⟩, y0, y1, y2, y3⟩ := HX.out w' (HSR.out.trans hw'); obtain ⟨c0, c1⟩ := HCX.out w' (HSR.out.trans hw'); obtain ⟨d0, d1⟩ := HCY.out w' (HSR.out.trans hw'); go_simp; try with_reducible rfl)
                  try simp only [Act.put, List.setIfInBounds_toArray, List.set_cons_zero, List.set_cons_succ]
                  refine reg_take (v := ?_) 9 (some 49) rfl rfl (by kernel_rfl) (fun _ _ _ h => h) (by kernel_rfl) ((Same.refl wr).drew) ?_ ?_
                  rotate_left
                  · (intro w' hw'; obtain ⟨⟨z0, z1, z2, z3⟩, y0, y1, y2, y3⟩ := HX.out w' (HSR.out.trans hw'); obtain ⟨c0, c1⟩ := HCX.out w' (HSR.out.trans hw'); obtain ⟨d0, d1⟩ := HCY.out w' (HSR.out.trans hw'); go_simp; try with_reducible rfl)
                  try simp only [Act.put, List.setIfInBounds_toArray, List.set_cons_zero, List.set_cons_succ]
                  refine reg_take (v := ?_) 10 (some 50) rfl rfl (by kernel_rfl) (fun _ _ _ h => h) (by kernel_rfl) ((Same.refl wr).drew) ?_ ?_
                  rotate_left
                  · (intro w' hw'; obtain ⟨⟨z0, z1, z2, z3⟩, y0, y1, y2, y3⟩ := HX.out w' (HSR.out.trans hw'); obtain ⟨c0, c1⟩ := HCX.out w' (HSR.out.trans hw'); obtain ⟨d0, d1⟩ := HCY.out w' (HSR.out.trans hw'); go_simp; try with_reducible rfl)
                  try simp only [Act.put, List.setIfInBounds_toArray, List.set_cons_zero, List.set_cons_succ]
                  refine reg_take (v := ?_) 11 (some 51) rfl rfl (by kernel_rfl) (fun _ _ _ h => h) (by kernel_rfl) ((Same.refl wr).drew) ?_ ?_
                  rotate_left
                  · (intro w' hw'; obtain ⟨⟨z0, z1, z2, z3⟩, y0, y1, y2, y3⟩ := HX.out w' (HSR.out.trans hw'); obtain ⟨c0, c1⟩ := HCX.out w' (HSR.out.trans hw'); obtain ⟨d0, d1⟩ := HCY.out w' (HSR.out.trans hw'); go_simp; try with_reducible rfl)
                  try simp only [Act.put, List.setIfInBounds_toArray, List.set_cons_zero, List.set_cons_succ]
                  refine reg_take (v := ?_) 12 (some 52) rfl rfl (by kernel_rfl) (fun _ _ _ h => h) (by kernel_rfl) ((Same.refl wr).drew) ?_ ?_
                  rotate_left
                  · (intro w' hw'; obtain ⟨⟨z0, z1, z2, z3⟩, y0, y1, y2, y3⟩ := HX.out w' (HSR.out.trans hw'); obtain ⟨c0, c1⟩ := HCX.out w' (HSR.out.trans hw'); obtain ⟨d0, d1⟩ := HCY.out w' (HSR.out.trans hw'); go_simp; try with_reducible rfl)
                  try simp only [Act.put, List.setIfInBounds_toArray, List.set_cons_zero, List.set_cons_succ]
                  refine reg_take (v := ?_) 13 (some 53) rfl rfl (by kernel_rfl) (fun _ _ _ h => h) (by kernel_rfl) ((Same.refl wr).drew) ?_ ?_
                  rotate_left
                  · (intro w' hw'; obtain ⟨⟨z0, z1, z2, z3⟩, y0, y1, y2, y3⟩ := HX.out w' (HSR.out.trans hw'); obtain ⟨c0, c1⟩ := HCX.out w' (HSR.out.trans hw'); obtain ⟨d0, d1⟩ := HCY.out w' (HSR.out.trans hw'); go_simp; try with_reducible rfl)
                  try simp only [Act.put, List.setIfInBounds_toArray, List.set_cons_zero, List.set_cons_succ]
                  refine reg_take (v := ?_) 14 (some 54) rfl rfl (by kernel_rfl) (fun _ _ _ h => h) (by kernel_rfl) ((Same.refl wr).drew) ?_ ?_
                  rotate_left
                  · (intro w' hw'; obtain ⟨⟨z0, z1, z2, z3⟩, y0, y1, y2, y3⟩ := HX.out w' (HSR.out.trans hw'); obtain ⟨c0, c1⟩ := HCX.out w' (HSR.out.trans hw'); obtain ⟨d0, d1⟩ := HCY.out w' (HSR.out.trans hw'); go_simp; try with_reducible rfl)
                  try simp only [Act.put, List.setIfInBounds_toArray, List.set_cons_zero, List.set_cons_succ]
                  refine reg_take (v := ?_) 15 (some 55) rfl rfl (by kernel_rfl) (fun _ _ _ h => h) (by kernel_rfl) ((Same.refl wr).drew) ?_ ?_
                  rotate_left
                  · (intro w' hw'; obtain ⟨⟨z0, z1, z2, z3⟩, y0, y1, y2, y3⟩ := HX.out w' (HSR.out.trans hw'); obtain ⟨c0, c1⟩ := HCX.out w' (HSR.out.trans hw'); obtain ⟨d0, d1⟩ := HCY.out w' (HSR.out.trans hw'); go_simp; try with_reducible rfl)
                  try simp only [Act.put, List.setIfInBounds_toArray, List.set_cons_zero, List.set_cons_succ]
                  refine reg_take (v := ?_) 16 (some 56) rfl rfl (by kernel_rfl) (fun _ _ _ h => h) (by kernel_rfl) ((Same.refl wr).drew) ?_ ?_
                  rotate_left
                  · (intro w' hw'; obtain ⟨⟨z0, z1, z2, z3⟩, y0, y1, y2, y3⟩ := HX.out w' (HSR.out.trans hw'); obtain ⟨c0, c1⟩ := HCX.out w' (HSR.out.trans hw'); obtain ⟨d0, d1⟩ := HCY.out w' (HSR.out.trans hw'); go_simp; try with_reducible rfl)
                  try simp only [Act.put, List.setIfInBounds_toArray, List.set_cons_zero, List.set_cons_succ]
                  refine reg_take (v := ?_) 17 (some 57) rfl rfl (by kernel_rfl) (fun _ _ _ h => h) (by kernel_rfl) ((Same.refl wr).drew) ?_ ?_
                  rotate_left
                  · (intro w' hw'; obtain ⟨⟨z0, z1, z2, z3⟩, y0, y1, y2, y3⟩ := HX.out w' (HSR.out.trans hw'); obtain ⟨c0, c1⟩ := HCX.out w' (HSR.out.trans hw'); obtain ⟨d0, d1⟩ := HCY.out w' (HSR.out.trans hw'); go_simp; try with_reducible rfl)
                  try simp only [Act.put, List.setIfInBounds_toArray, List.set_cons_zero, List.set_cons_succ]
                  refine reg_take (v := ?_) 18 (some 58) rfl rfl (by kernel_rfl) (fun _ _ _ h => h) (by kernel_rfl) ((Same.refl wr).drew) ?_ ?_
                  rotate_left
                  · (intro w' hw'; obtain ⟨⟨z0, z1, z2, z3⟩, y0, y1, y2, y3⟩ := HX.out w' (HSR.out.trans hw'); obtain ⟨c0, c1⟩ := HCX.out w' (HSR.out.trans hw'); obtain ⟨d0, d1⟩ := HCY.out w' (HSR.out.trans hw'); go_simp; try with_reducible rfl)
                  try simp only [Act.put, List.setIfInBounds_toArray, List.set_cons_zero, List.set_cons_succ]
                  refine reg_take (v := ?_) 19 (some 59) rfl rfl (by kernel_rfl) (fun _ _ _ h => h) (by kernel_rfl) ((Same.refl wr).drew) ?_ ?_
                  rotate_left
                  · (intro w' hw'; obtain ⟨⟨z0, z1, z2, z3⟩, y0, y1, y2, y3⟩ := HX.out w' (HSR.out.trans hw'); obtain ⟨c0, c1⟩ := HCX.out w' (HSR.out.trans hw'); obtain ⟨d0, d1⟩ := HCY.out w' (HSR.out.trans hw'); go_simp; try with_reducible rfl)
                  try simp only [Act.put, List.setIfInBounds_toArray, List.set_cons_zero, List.set_cons_succ]
                  refine reg_take (v := ?_) 20 (some 60) rfl rfl (by kernel_rfl) (fun _ _ _ h => h) (by kernel_rfl) ((Same.refl wr).drew) ?_ ?_
                  rotate_left
                  · (intro w' hw'; have hr := (HYx w' (HSR.out.trans hw')).out; go_simp; try with_reducible rfl)
                  try simp only [Act.put, List.setIfInBounds_toArray, List.set_cons_zero, List.set_cons_succ]
                  refine reg_take (v := ?_) 21 (some 61) rfl rfl (by kernel_rfl) (fun _ _ _ h => h) (by kernel_rfl) ((Same.refl wr).drew) ?_ ?_
                  rotate_left
                  · (intro w' hw'; obtain ⟨⟨z0, z1, z2, z3⟩, y0, y1, y2, y3⟩ := HX.out w' (HSR.out.trans hw'); obtain ⟨c0, c1⟩ := HCX.out w' (HSR.out.trans hw'); obtain ⟨d0, d1⟩ := HCY.out w' (HSR.out.trans hw'); go_simp; try with_reducible rfl)
                  try simp only [Act.put, List.setIfInBounds_toArray, List.set_cons_zero, List.set_cons_succ]
                  refine reg_take (v := ?_) 22 (some 62) rfl rfl (by kernel_rfl) (fun _ _ _ h => h) (by kernel_rfl) ((Same.refl wr).drew) ?_ ?_
                  rotate_left
                  · (intro w' hw'; obtain ⟨⟨z0, z1, z2, z3⟩, y0, y1, y2, y3⟩ := HX.out w' (HSR.out.trans hw'); obtain ⟨c0, c1⟩ := HCX.out w' (HSR.out.trans hw'); obtain ⟨d0, d1⟩ := HCY.out w' (HSR.out.trans hw'); go_simp; try with_reducible rfl)
                  try simp only [Act.put, List.setIfInBounds_toArray, List.set_cons_zero, List.set_cons_succ]
                  refine reg_take (v := ?_) 23 (some 63) rfl rfl (by kernel_rfl) (fun _ _ _ h => h) (by kernel_rfl) ((Same.refl wr).drew) ?_ ?_
                  rotate_left
                  · (intro w' hw'; obtain ⟨⟨z0, z1, z2, z3⟩, y0, y1, y2, y3⟩ := HX.out w' (HSR.out.trans hw'); obtain ⟨c0, c1⟩ := HCX.out w' (HSR.out.trans hw'); obtain ⟨d0, d1⟩ := HCY.out w' (HSR.out.trans hw'); go_simp; try with_reducible rfl)
                  try simp only [Act.put, List.setIfInBounds_toArray, List.set_cons_zero, List.set_cons_succ]
                  refine reg_take (v := ?_) 24 (some 64) rfl rfl (by kernel_rfl) (fun _ _ _ h => h) (by kernel_rfl) ((Same.refl wr).drew) ?_ ?_
                  rotate_left
                  · (intro w' hw'; obtain ⟨⟨z0, z1, z2, z3⟩, y0, y1, y2, y3⟩ := HX.out w' (HSR.out.trans hw'); obtain ⟨c0, c1⟩ := HCX.out w' (HSR.out.trans hw'); obtain ⟨d0, d1⟩ := HCY.out w' (HSR.out.trans hw'); go_simp; try with_reducible rfl)
                  try simp only [Act.put, List.setIfInBounds_toArray, List.set_cons_zero, List.set_cons_succ]
                  refine reg_take (v := ?_) 25 (some 65) rfl rfl (by kernel_rfl) (fun _ _ _ h => h) (by kernel_rfl) ((Same.refl wr).drew) ?_ ?_
                  rotate_left
                  · (intro w' hw'; obtain ⟨⟨z0, z1, z2, z3⟩, y0, y1, y2, y3⟩ := HX.out w' (HSR.out.trans hw'); obtain ⟨c0, c1⟩ := HCX.out w' (HSR.out.trans hw'); obtain ⟨d0, d1⟩ := HCY.out w' (HSR.out.trans hw'); go_simp; try with_reducible rfl)
                  try simp only [Act.put, List.setIfInBounds_toArray, List.set_cons_zero, List.set_cons_succ]
                  refine reg_take (v := ?_) 26 (some 66) rfl rfl (by kernel_rfl) (fun _ _ _ h => h) (by kernel_rfl) ((Same.refl wr).drew) ?_ ?_
                  rotate_left
                  · (intro w' hw'; obtain ⟨⟨z0, z1, z2, z3⟩, y0, y1, y2, y3⟩ := HX.out w' (HSR.out.trans hw'); obtain ⟨c0, c1⟩ := HCX.out w' (HSR.out.trans hw'); obtain ⟨d0, d1⟩ := HCY.out w' (HSR.out.trans hw'); go_simp; try with_reducible rfl)
                  try simp only [Act.put, List.setIfInBounds_toArray, List.set_cons_zero, List.set_cons_succ]
                  refine reg_take (v := ?_) 27 (some 67) rfl rfl (by kernel_rfl) (fun _ _ _ h => h) (by kernel_rfl) ((Same.refl wr).drew) ?_ ?_
                  rotate_left
                  · (intro w' hw'; have hr := (HYy w' (HSR.out.trans hw')).out; go_simp; try with_reducible rfl)
                  try simp only [Act.put, List.setIfInBounds_toArray, List.set_cons_zero, List.set_cons_succ]
                  refine reg_take (v := ?_) 28 (some 68) rfl rfl (by kernel_rfl) (fun _ _ _ h => h) (by kernel_rfl) ((Same.refl wr).drew) ?_ ?_
                  rotate_left
                  · (intro w' hw'; obtain ⟨⟨z0, z1, z2, z3⟩, y0, y1, y2, y3⟩ := HX.out w' (HSR.out.trans hw'); obtain ⟨c0, c1⟩ := HCX.out w' (HSR.out.trans hw'); obtain ⟨d0, d1⟩ := HCY.out w' (HSR.out.trans hw'); go_simp; rw [HNE.out])
                  try simp only [Act.put, List.setIfInBounds_toArray, List.set_cons_zero, List.set_cons_succ]
                  refine reg_take (v := ?_) 29 (some 69) rfl rfl (by kernel_rfl) (fun _ _ _ h => h) (by kernel_rfl) ((Same.refl wr).drew) ?_ ?_
                  rotate_left
                  · (intro w' hw'; obtain ⟨⟨z0, z1, z2, z3⟩, y0, y1, y2, y3⟩ := HX.out w' (HSR.out.trans hw'); obtain ⟨c0, c1⟩ := HCX.out w' (HSR.out.trans hw'); obtain ⟨d0, d1⟩ := HCY.out w' (HSR.out.trans hw'); go_simp; try with_reducible rfl)
                  try simp only [Act.put, List.setIfInBounds_toArray, List.set_cons_zero, List.set_cons_succ]
                  refine reg_done (by kernel_rfl) ?_
                  go_wp2_with fail
                  go_ret
                  exact ⟨by obtain rfl := HFF.out; rfl, HA.out.trans HSR.out.drew⟩
              · have hff : false = R := HF.out (HDF.out (.inl hcd))
                have HFF := Lib.hid hff
                have hcd' : (cd != ce) = true := by simpa using hcd
                clear hff
                go_wp2_with fail
                refine reg_start (fun w' => Same wr w') (by kernel_rfl) ?_
                refine reg_take (v := ?_) 0 (some 40) rfl rfl (by kernel_rfl) (fun _ _ _ h => h) (by kernel_rfl) ((Same.refl wr).drew) ?_ ?_
                rotate_left
                · (intro w' hw'; obtain ⟨⟨z0, z1, z2, z3⟩, y0, y1, y2, y3⟩ := HX.out w' (HSR.out.trans hw'); obtain ⟨c0, c1⟩ := HCX.out w' (HSR.out.trans hw'); obtain ⟨d0, d1⟩ := HCY.out w' (HSR.out.trans hw'); go_simp; try with_reducible rfl)
                try simp only [Act.put, List.setIfInBounds_toArray, List.set_cons_zero, List.set_cons_succ]
                refine reg_take (v := ?_) 1 (some 41) rfl rfl (by kernel_rfl) (fun _ _ _ h => h) (by kernel_rfl) ((Same.refl wr).drew) ?_ ?_
                rotate_left
                · (intro w' hw'; obtain ⟨⟨z0, z1, z2, z3⟩, y0, y1, y2, y3⟩ := HX.out w' (HSR.out.trans hw'); obtain ⟨c0, c1⟩ := HCX.out w' (HSR.out.trans hw'); obtain ⟨d0, d1⟩ := HCY.out w' (HSR.out.trans hw'); go_simp; try with_reducible rfl)
                try simp only [Act.put, List.setIfInBounds_toArray, List.set_cons_zero, List.set_cons_succ]
                refine reg_take (v := ?_) 2 (some 42) rfl rfl (by kernel_rfl) (fun _ _ _ h => h) (by kernel_rfl) ((Same.refl wr).drew) ?_ ?_
                rotate_left
                · (intro w' hw'; obtain ⟨⟨z0, z1, z2, z3⟩, y0, y1, y2, y3⟩ := HX.out w' (HSR.out.trans hw'); obtain ⟨c0, c1⟩ := HCX.out w' (HSR.out.trans hw'); obtain ⟨d0, d1⟩ := HCY.out w' (HSR.out.trans hw'); go_simp; try with_reducible rfl)
                try simp only [Act.put, List.setIfInBounds_toArray, List.set_cons_zero, List.set_cons_succ]
                refine reg_take (v := ?_) 3 (some 43) rfl rfl (by kernel_rfl) (fun _ _ _ h => h) (by kernel_rfl) ((Same.refl wr).drew) ?_ ?_
                rotate_left
                · (intro w' hw'; obtain ⟨⟨z0, z1, z2, z3⟩, y0, y1, y2, y3⟩ := HX.out w' (HSR.out.trans hw'); obtain ⟨c0, c1⟩ := HCX.out w' (HSR.out.trans hw'); obtain ⟨d0, d1⟩ := HCY.out w' (HSR.out.trans hw'); go_simp; try with_reducible rfl)
                try simp only [Act.put, List.setIfInBounds_toArray, List.set_cons_zero, List.set_cons_succ]
                refine reg_take (v := ?_) 4 (some 44) rfl rfl (by kernel_rfl) (fun _ _ _ h => h) (by kernel_rfl) ((Same.refl wr).drew) ?_ ?_
                rotate_left
                · (intro w' hw'; obtain ⟨⟨z0, z1, z2, z3⟩, y0, y1, y2, y3⟩ := HX.out w' (HSR.out.trans hw'); obtain ⟨c0, c1⟩ := HCX.out w' (HSR.out.trans hw'); obtain ⟨d0, d1⟩ := HCY.out w' (HSR.out.trans hw'); go_simp; try with_reducible rfl)
                try simp only [Act.put, List.setIfInBounds_toArray, List.set_cons_zero, List.set_cons_succ]
                refine reg_take (v := ?_) 5 (some 45) rfl rfl (by kernel_rfl) (fun _ _ _ h => h) (by kernel_rfl) ((Same.refl wr).drew) ?_ ?_
                rotate_left
                · (intro w' hw'; obtain ⟨⟨z0, z1, z2, z3⟩, y0, y1, y2, y3⟩ := HX.out w' (HSR.out.trans hw'); obtain ⟨c0, c1⟩ := HCX.out w' (HSR.out.trans hw'); obtain ⟨d0, d1⟩ := HCY.out w' (HSR.out.trans hw'); go_simp; try with_reducible rfl)
                try simp only [Act.put, List.setIfInBounds_toArray, List.set_cons_zero, List.set_cons_succ]
                refine reg_take (v := ?_) 6 (some 46) rfl rfl (by kernel_rfl) (fun _ _ _ h => h) (by kernel_rfl) ((Same.refl wr).drew) ?_ ?_
                rotate_left
                · (intro w' hw'; obtain ⟨⟨z0, z1, z2, z3⟩, y0, y1, y2, y3⟩ := HX.out w' (HSR.out.trans hw'); obtain ⟨c0, c1⟩ := HCX.out w' (HSR.out.trans hw'); obtain ⟨d0, d1⟩ := HCY.out w' (HSR.out.trans hw'); go_simp; try with_reducible rfl)
                try simp only [Act.put, List.setIfInBounds_toArray, List.set_cons_zero, List.set_cons_succ]
                refine reg_take (v := ?_) 7 (some 47) rfl rfl (by kernel_rfl) (fun _ _ _ h => h) (by kernel_rfl) ((Same.refl wr).drew) ?_ ?_
                rotate_left
                · (intro w' hw'; obtain ⟨⟨z0, z1, z2, z3⟩, y0, y1, y2, y3⟩ := HX.out w' (HSR.out.trans hw'); obtain ⟨c0, c1⟩ := HCX.out w' (HSR.out.trans hw'); obtain ⟨d0, d1⟩ := HCY.out w' (HSR.out.trans hw'); go_simp; try with_reducible rfl)
                try simp only [Act.put, List.setIfInBounds_toArray, List.set_cons_zero, List.set_cons_succ]
                refine reg_take (v := ?_) 8 (some 48) rfl rfl (by kernel_rfl) (fun _ _ _ h => h) (by kernel_rfl) ((Same.refl wr).drew) ?_ ?_
                rotate_left
                · (intro w' hw'; obtain ⟨⟨z0, z1, z2, z3⟩, y0, y1, y2, y3⟩ := HX.out w' (HSR.out.trans hw'); obtain ⟨c0, c1⟩ := HCX.out w' (HSR.out.trans hw'); obtain ⟨d0, d1⟩ := HCY.out w' (HSR.out.trans hw'); go_simp; try with_reducible rfl)
                try simp only [Act.put, List.setIfInBounds_toArray, List.set_cons_zero, List.set_cons_succ]
                refine reg_take (v := ?_) 9 (some 49) rfl rfl (by kernel_rfl) (fun _ _ _ h => h) (by kernel_rfl) ((Same.refl wr).drew) ?_ ?_
                rotate_left
                · (intro w' hw'; obtain ⟨⟨z0, z1, z2, z3⟩, y0, y1, y2, y3⟩ := HX.out w' (HSR.out.trans hw'); obtain ⟨c0, c1⟩ := HCX.out w' (HSR.out.trans hw'); obtain ⟨d0, d1⟩ := HCY.out w' (HSR.out.trans hw'); go_simp; try with_reducible rfl)
                try simp only [Act.put, List.setIfInBounds_toArray, List.set_cons_zero, List.set_cons_succ]
                refine reg_take (v := ?_) 10 (some 50) rfl rfl (by kernel_rfl) (fun _ _ _ h => h) (by kernel_rfl) ((Same.refl wr).drew) ?_ ?_
                rotate_left
                · (intro w' hw'; obtain ⟨⟨z0, z1, z2, z3⟩, y0, y1, y2, y3⟩ := HX.out w' (HSR.out.trans hw'); obtain ⟨c0, c1⟩ := HCX.out w' (HSR.out.trans hw'); obtain ⟨d0, d1⟩ := HCY.out w' (HSR.out.trans hw'); go_simp; try with_reducible rfl)
                try simp only [Act.put, List.setIfInBounds_toArray, List.set_cons_zero, List.set_cons_succ]
                refine reg_take (v := ?_) 11 (some 51) rfl rfl (by kernel_rfl) (fun _ _ _ h => h) (by kernel_rfl) ((Same.refl wr).drew) ?_ ?_
                rotate_left
                · (intro w' hw'; obtain ⟨⟨z0, z1, z2, z3⟩, y0, y1, y2, y3⟩ := HX.out w' (HSR.out.trans hw'); obtain ⟨c0, c1⟩ := HCX.out w' (HSR.out.trans hw'); obtain ⟨d0, d1⟩ := HCY.out w' (HSR.out.trans hw'); go_simp; try with_reducible rfl)
                try simp only [Act.put, List.setIfInBounds_toArray, List.set_cons_zero, List.set_cons_succ]
                refine reg_take (v := ?_) 12 (some 52) rfl rfl (by kernel_rfl) (fun _ _ _ h => h) (by kernel_rfl) ((Same.refl wr).drew) ?_ ?_
                rotate_left
                · (intro w' hw'; obtain ⟨⟨z0, z1, z2, z3⟩, y0, y1, y2, y3⟩ := HX.out w' (HSR.out.trans hw'); obtain ⟨c0, c1⟩ := HCX.out w' (HSR.out.trans hw'); obtain ⟨d0, d1⟩ := HCY.out w' (HSR.out.trans hw'); go_simp; try with_reducible rfl)
                try simp only [Act.put, List.setIfInBounds_toArray, List.set_cons_zero, List.set_cons_succ]
                refine reg_take (v := ?_) 13 (some 53) rfl rfl (by kernel_rfl) (fun _ _ _ h => h) (by kernel_rfl) ((Same.refl wr).drew) ?_ ?_
                rotate_left
                · (intro w' hw'; obtain ⟨⟨z0, z1, z2, z3⟩, y0, y1, y2, y3⟩ := HX.out w' (HSR.out.trans hw'); obtain ⟨c0, c1⟩ := HCX.out w' (HSR.out.trans hw'); obtain ⟨d0, d1⟩ := HCY.out w' (HSR.out.trans hw'); go_simp; try with_reducible rfl)
                try simp only [Act.put, List.setIfInBounds_toArray, List.set_cons_zero, List.set_cons_succ]
                refine reg_skip 14 (some 54) rfl rfl (by kernel_rfl) (fun _ _ _ h => h) (by kernel_rfl) ((Same.refl wr).drew) ?_
                try simp only [Act.put, List.setIfInBounds_toArray, List.set_cons_zero, List.set_cons_succ]
                refine reg_skip 15 (some 55) rfl rfl (by kernel_rfl) (fun _ _ _ h => h) (by kernel_rfl) ((Same.refl wr).drew) ?_
                try simp only [Act.put, List.setIfInBounds_toArray, List.set_cons_zero, List.set_cons_succ]
                refine reg_skip 16 (some 56) rfl rfl (by kernel_rfl) (fun _ _ _ h => h) (by kernel_rfl) ((Same.refl wr).drew) ?_
                try simp only [Act.put, List.setIfInBounds_toArray, List.set_cons_zero, List.set_cons_succ]
                refine reg_skip 17 (some 57) rfl rfl (by kernel_rfl) (fun _ _ _ h => h) (by kernel_rfl) ((Same.refl wr).drew) ?_
                try simp only [Act.put, List.setIfInBounds_toArray, List.set_cons_zero, List.set_cons_succ]
                refine reg_skip 18 (some 58) rfl rfl (by kernel_rfl) (fun _ _ _ h => h) (by kernel_rfl) ((Same.refl wr).drew) ?_
                try simp only [Act.put, List.setIfInBounds_toArray, List.set_cons_zero, List.set_cons_succ]
                refine reg_skip 19 (some 59) rfl rfl (by kernel_rfl) (fun _ _ _ h => h) (by kernel_rfl) ((Same.refl wr).drew) ?_
                try simp only [Act.put, List.setIfInBounds_toArray, List.set_cons_zero, List.set_cons_succ]
                refine reg_skip 20 (some 60) rfl rfl (by kernel_rfl) (fun _ _ _ h => h) (by kernel_rfl) ((Same.refl wr).drew) ?_
                try simp only [Act.put, List.setIfInBounds_toArray, List.set_cons_zero, List.set_cons_succ]
                refine reg_skip 21 (some 61) rfl rfl (by kernel_rfl) (fun _ _ _ h => h) (by kernel_rfl) ((Same.refl wr).drew) ?_
                try simp only [Act.put, List.setIfInBounds_toArray, List.set_cons_zero, List.set_cons_succ]
                refine reg_skip 22 (some 62) rfl rfl (by kernel_rfl) (fun _ _ _ h => h) (by kernel_rfl) ((Same.refl wr).drew) ?_
                try simp only [Act.put, List.setIfInBounds_toArray, List.set_cons_zero, List.set_cons_succ]
                refine reg_skip 23 (some 63) rfl rfl (by kernel_rfl) (fun _ _ _ h => h) (by kernel_rfl) ((Same.refl wr).drew) ?_
                try simp only [Act.put, List.setIfInBounds_toArray, List.set_cons_zero, List.set_cons_succ]
                refine reg_skip 24 (some 64) rfl rfl (by kernel_rfl) (fun _ _ _ h => h) (by kernel_rfl) ((Same.refl wr).drew) ?_
                try simp only [Act.put, List.setIfInBounds_toArray, List.set_cons_zero, List.set_cons_succ]
                refine reg_skip 25 (some 65) rfl rfl (by kernel_rfl) (fun _ _ _ h => h) (by kernel_rfl) ((Same.refl wr).drew) ?_
                try simp only [Act.put, List.setIfInBounds_toArray, List.set_cons_zero, List.set_cons_succ]
                refine reg_skip 26 (some 66) rfl rfl (by kernel_rfl) (fun _ _ _ h => h) (by kernel_rfl) ((Same.refl wr).drew) ?_
                try simp only [Act.put, List.setIfInBounds_toArray, List.set_cons_zero, List.set_cons_succ]
                refine reg_skip 27 (some 67) rfl rfl (by kernel_rfl) (fun _ _ _ h => h) (by kernel_rfl) ((Same.refl wr).drew) ?_
                try simp only [Act.put, List.setIfInBounds_toArray, List.set_cons_zero, List.set_cons_succ]
                refine reg_skip 28 (some 68) rfl rfl (by kernel_rfl) (fun _ _ _ h => h) (by kernel_rfl) ((Same.refl wr).drew) ?_
                try simp only [Act.put, List.setIfInBounds_toArray, List.set_cons_zero, List.set_cons_succ]
                refine reg_take (v := ?_) 29 (some 69) rfl rfl (by kernel_rfl) (fun _ _ _ h => h) (by kernel_rfl) ((Same.refl wr).drew) ?_ ?_
                rotate_left
                · (intro w' hw'; obtain ⟨⟨z0, z1, z2, z3⟩, y0, y1, y2, y3⟩ := HX.out w' (HSR.out.trans hw'); obtain ⟨c0, c1⟩ := HCX.out w' (HSR.out.trans hw'); obtain ⟨d0, d1⟩ := HCY.out w' (HSR.out.trans hw'); go_simp; try with_reducible rfl)
                try simp only [Act.put, List.setIfInBounds_toArray, List.set_cons_zero, List.set_cons_succ]
                refine reg_done (by kernel_rfl) ?_
                go_wp2_with fail
                go_ret
                exact ⟨by obtain rfl := HFF.out; rfl, HA.out.trans HSR.out.drew⟩
        · have hff : false = R := HF.out (fun hs => g4 (by have := congrArg List.length hs.2.2.2.1; simpa [HN.out, HN'.out] using this))
          have HFF := Lib.hid hff
          have g4' : ((n : Int) != n') = true := by simp; omega
          clear hff
          subst g1 g2 g3
          go_enter Try.func14, Try.ntmps14
          go_wp2_with fail
          go_ret
          exact ⟨by obtain rfl := HFF.out; rfl, HA.out⟩
      · have hff : false = R := HF.out (fun hs => g3 hs.2.2.1)
        have HFF := Lib.hid hff
        have g3' : (oi != pi) = true := by simpa using g3
        clear hff
        subst g1 g2
        go_enter Try.func14, Try.ntmps14
        go_wp2_with fail
        go_ret
        exact ⟨by obtain rfl := HFF.out; rfl, HA.out⟩
    · have hff : false = R := HF.out (fun hs => g2 hs.2.1)
      have HFF := Lib.hid hff
      have g2' : (oh != ph) = true := by simpa using g2
      clear hff
      subst g1
      go_enter Try.func14, Try.ntmps14
      go_wp2_with fail
      go_ret
      exact ⟨by obtain rfl := HFF.out; rfl, HA.out⟩
  · have hff : false = R := HF.out (fun hs => g1 hs.1)
    have HFF := Lib.hid hff
    have g1' : (oa != pa) = true := by simpa using g1
    clear hff
    go_enter Try.func14, Try.ntmps14
    go_wp2_with fail
    go_ret
    exact ⟨by obtain rfl := HFF.out; rfl, HA.out⟩
end Go.Proofs.Ytidijoncngfppaa
