/- Contracts of the document's own answers for layer 7: Same and Raws of what is the same, plain, light, Join. No condition beyond what each names. -/
import Derived.Test.YtfhaaenmllkbnaaAtRA
import Derived.Test.YtfhaaenmllkbnaaReg
namespace Go.Proofs.Ytfhaaenmllkbnaa
open Go.RowKit
set_option linter.unusedVariables false

set_option maxRecDepth 100000 in
set_option maxHeartbeats 1000000 in
theorem rSame7_same (a : At) (va vb : Value) (w : World) (ha : Rs intLay w va a.path) (hb : Rs intLay w vb a.path) :
    Calls Try.prog 15 #[atV a va, atV a vb] w fun e w' => e = .returned (.bool true) ∧ Same w w' := by
  obtain ⟨o, p, h, m, hs⟩ := a
  simp only at ha hb
  obtain ⟨n, hn⟩ : ∃ n, p.length = n := ⟨_, rfl⟩
  have HN := Lib.hid hn
  have HP : Hid (0 < n → ∃ b o cap, va = .slice (some ⟨b, o, none⟩) n cap ∧ (∀ w', Same w w' → ∀ j n, p[j]? = some n → w'.cell? ⟨b, o + j, none⟩ = some (.int .i64 n))) := fun h => by
    obtain ⟨b, o, cap, hv, _, _, hc⟩ := ha.ints (by omega)
    exact ⟨b, o, cap, by rw [hv, hn], hc⟩
  have HQ : Hid (0 < n → ∃ b o cap, vb = .slice (some ⟨b, o, none⟩) n cap ∧ (∀ w', Same w w' → ∀ j n, p[j]? = some n → w'.cell? ⟨b, o + j, none⟩ = some (.int .i64 n))) := fun h => by
    obtain ⟨b, o, cap, hv, _, _, hc⟩ := hb.ints (by omega)
    exact ⟨b, o, cap, by rw [hv, hn], hc⟩
  have i0 : (n : Int) ≤ 9223372036854775807 := by
    obtain ⟨_, cap, _, h1, h2, _⟩ := ha
    omega
  obtain ⟨a1, c1, rfl⟩ := ha.form hn
  obtain ⟨a2, c2, rfl⟩ := hb.form hn
  clear ha hb hn
  have H0 := Lib.hid (Same.alloc w (atO 38 ⟨o, p, h, m, hs⟩ (.slice a1 n c1)))
  have H1 := Lib.hid (Same.alloc (w.alloc (atO 38 ⟨o, p, h, m, hs⟩ (.slice a1 n c1))) (atO 38 ⟨o, p, h, m, hs⟩ (.slice a2 n c2)))
  have HX : Hid (∀ w', Same ((w.alloc (atO 38 ⟨o, p, h, m, hs⟩ (.slice a1 n c1))).alloc (atO 38 ⟨o, p, h, m, hs⟩ (.slice a2 n c2))) w' → AtAt w' w.heap.size ⟨o, p, h, m, hs⟩ (.slice a1 n c1)) := fun w' hw => AtAt.of ((H1.out.trans hw).block (heap_alloc_new w _))
  have HY : Hid (∀ w', Same ((w.alloc (atO 38 ⟨o, p, h, m, hs⟩ (.slice a1 n c1))).alloc (atO 38 ⟨o, p, h, m, hs⟩ (.slice a2 n c2))) w' → AtAt w' (w.heap.size + 1) ⟨o, p, h, m, hs⟩ (.slice a2 n c2)) := fun w' hw => by
    have := AtAt.of (hw.block (heap_alloc_new (w.alloc (atO 38 ⟨o, p, h, m, hs⟩ (.slice a1 n c1))) (atO 38 ⟨o, p, h, m, hs⟩ (.slice a2 n c2))))
    rw [show (w.alloc (atO 38 ⟨o, p, h, m, hs⟩ (.slice a1 n c1))).heap.size = w.heap.size + 1 from by simp] at this
    exact this
  obtain ⟨x0, x1, x2, x3, x4⟩ := HX.out _ (Same.refl _)
  obtain ⟨y0, y1, y2, y3, y4⟩ := HY.out _ (Same.refl _)
  go_enter Try.func15, Try.ntmps15
  go_wp2_with fail
  generalize hW : ((w.alloc (atO 38 ⟨o, p, h, m, hs⟩ (.slice a1 n c1))).alloc (atO 38 ⟨o, p, h, m, hs⟩ (.slice a2 n c2))) = W at *
  have HWW : Hid (Same w W) := by rw [← hW]; exact H0.out.trans (by rw [hW]; exact H1.out)
  clear hW H0 H1 x0 x1 x2 x3 x4 y0 y1 y2 y3 y4
  go_loopw [44] (fun i wr => ∃ k : Nat, k ≤ n ∧ i = .int .i64 k ∧ Same W wr) (fun i _ => n - (intOf i).toNat)
  case atStart => exact ⟨0, by omega, rfl, Same.refl W⟩
  case round =>
    obtain ⟨k, hk, rfl, hsr⟩ := hrel
    have HSR := Lib.hid hsr
    clear hsr
    by_cases h8 : k = n
    · subst h8
      go_wp2_with fail
      go_ret
      exact ⟨rfl, HWW.out.trans HSR.out⟩
    · have hk8 : (k : Int) < n := by omega
      have hkn : k < p.length := by have := HN.out; omega
      obtain ⟨b, o1, cap, e1, HC1⟩ := HP.out (by omega)
      obtain ⟨b', o2, cap', e2, HC2⟩ := HQ.out (by omega)
      cases e1
      cases e2
      have HC1 := Lib.hid HC1
      have HC2 := Lib.hid HC2
      have hg := Lib.hid (show p[k]? = some p[k] from List.getElem?_eq_getElem hkn)
      generalize p[k] = z at hg
      clear h8 hkn HP HQ
      go_wp2_with fail
      refine reg_start (fun w' => Same wr w') (by kernel_rfl) ?_
      refine reg_take (v := ?_) 0 (some 47) rfl rfl (by kernel_rfl) (fun _ _ _ h => h) (by kernel_rfl) ((Same.refl wr).drew) ?_ ?_
      rotate_left
      · (intro w' hw'; obtain ⟨x0, x1, x2, x3, x4⟩ := HX.out w' (HSR.out.trans hw'); obtain ⟨y0, y1, y2, y3, y4⟩ := HY.out w' (HSR.out.trans hw'); have hz1 := HC1.out w' (HWW.out.trans (HSR.out.trans hw')) k z hg.out; have hz2 := HC2.out w' (HWW.out.trans (HSR.out.trans hw')) k z hg.out; go_simp; try with_reducible rfl)
      try simp only [Act.put, List.setIfInBounds_toArray, List.set_cons_zero, List.set_cons_succ]
      refine reg_take (v := ?_) 1 (some 48) rfl rfl (by kernel_rfl) (fun _ _ _ h => h) (by kernel_rfl) ((Same.refl wr).drew) ?_ ?_
      rotate_left
      · (intro w' hw'; obtain ⟨x0, x1, x2, x3, x4⟩ := HX.out w' (HSR.out.trans hw'); obtain ⟨y0, y1, y2, y3, y4⟩ := HY.out w' (HSR.out.trans hw'); have hz1 := HC1.out w' (HWW.out.trans (HSR.out.trans hw')) k z hg.out; have hz2 := HC2.out w' (HWW.out.trans (HSR.out.trans hw')) k z hg.out; go_simp; try with_reducible rfl)
      try simp only [Act.put, List.setIfInBounds_toArray, List.set_cons_zero, List.set_cons_succ]
      refine reg_take (v := ?_) 2 (some 49) rfl rfl (by kernel_rfl) (fun _ _ _ h => h) (by kernel_rfl) ((Same.refl wr).drew) ?_ ?_
      rotate_left
      · (intro w' hw'; obtain ⟨x0, x1, x2, x3, x4⟩ := HX.out w' (HSR.out.trans hw'); obtain ⟨y0, y1, y2, y3, y4⟩ := HY.out w' (HSR.out.trans hw'); have hz1 := HC1.out w' (HWW.out.trans (HSR.out.trans hw')) k z hg.out; have hz2 := HC2.out w' (HWW.out.trans (HSR.out.trans hw')) k z hg.out; go_simp; try with_reducible rfl)
      try simp only [Act.put, List.setIfInBounds_toArray, List.set_cons_zero, List.set_cons_succ]
      refine reg_take (v := ?_) 3 (some 50) rfl rfl (by kernel_rfl) (fun _ _ _ h => h) (by kernel_rfl) ((Same.refl wr).drew) ?_ ?_
      rotate_left
      · (intro w' hw'; obtain ⟨x0, x1, x2, x3, x4⟩ := HX.out w' (HSR.out.trans hw'); obtain ⟨y0, y1, y2, y3, y4⟩ := HY.out w' (HSR.out.trans hw'); have hz1 := HC1.out w' (HWW.out.trans (HSR.out.trans hw')) k z hg.out; have hz2 := HC2.out w' (HWW.out.trans (HSR.out.trans hw')) k z hg.out; go_simp; try with_reducible rfl)
      try simp only [Act.put, List.setIfInBounds_toArray, List.set_cons_zero, List.set_cons_succ]
      refine reg_take (v := ?_) 4 (some 51) rfl rfl (by kernel_rfl) (fun _ _ _ h => h) (by kernel_rfl) ((Same.refl wr).drew) ?_ ?_
      rotate_left
      · (intro w' hw'; obtain ⟨x0, x1, x2, x3, x4⟩ := HX.out w' (HSR.out.trans hw'); obtain ⟨y0, y1, y2, y3, y4⟩ := HY.out w' (HSR.out.trans hw'); have hz1 := HC1.out w' (HWW.out.trans (HSR.out.trans hw')) k z hg.out; have hz2 := HC2.out w' (HWW.out.trans (HSR.out.trans hw')) k z hg.out; go_simp; try with_reducible rfl)
      try simp only [Act.put, List.setIfInBounds_toArray, List.set_cons_zero, List.set_cons_succ]
      refine reg_take (v := ?_) 5 (some 52) rfl rfl (by kernel_rfl) (fun _ _ _ h => h) (by kernel_rfl) ((Same.refl wr).drew) ?_ ?_
      rotate_left
      · (intro w' hw'; obtain ⟨x0, x1, x2, x3, x4⟩ := HX.out w' (HSR.out.trans hw'); obtain ⟨y0, y1, y2, y3, y4⟩ := HY.out w' (HSR.out.trans hw'); have hz1 := HC1.out w' (HWW.out.trans (HSR.out.trans hw')) k z hg.out; have hz2 := HC2.out w' (HWW.out.trans (HSR.out.trans hw')) k z hg.out; go_simp; try with_reducible rfl)
      try simp only [Act.put, List.setIfInBounds_toArray, List.set_cons_zero, List.set_cons_succ]
      refine reg_take (v := ?_) 6 (some 53) rfl rfl (by kernel_rfl) (fun _ _ _ h => h) (by kernel_rfl) ((Same.refl wr).drew) ?_ ?_
      rotate_left
      · (intro w' hw'; obtain ⟨x0, x1, x2, x3, x4⟩ := HX.out w' (HSR.out.trans hw'); obtain ⟨y0, y1, y2, y3, y4⟩ := HY.out w' (HSR.out.trans hw'); have hz1 := HC1.out w' (HWW.out.trans (HSR.out.trans hw')) k z hg.out; have hz2 := HC2.out w' (HWW.out.trans (HSR.out.trans hw')) k z hg.out; go_simp; try with_reducible rfl)
      try simp only [Act.put, List.setIfInBounds_toArray, List.set_cons_zero, List.set_cons_succ]
      refine reg_take (v := ?_) 7 (some 54) rfl rfl (by kernel_rfl) (fun _ _ _ h => h) (by kernel_rfl) ((Same.refl wr).drew) ?_ ?_
      rotate_left
      · (intro w' hw'; obtain ⟨x0, x1, x2, x3, x4⟩ := HX.out w' (HSR.out.trans hw'); obtain ⟨y0, y1, y2, y3, y4⟩ := HY.out w' (HSR.out.trans hw'); have hz1 := HC1.out w' (HWW.out.trans (HSR.out.trans hw')) k z hg.out; have hz2 := HC2.out w' (HWW.out.trans (HSR.out.trans hw')) k z hg.out; go_simp; try with_reducible rfl)
      try simp only [Act.put, List.setIfInBounds_toArray, List.set_cons_zero, List.set_cons_succ]
      refine reg_take (v := ?_) 8 (some 55) rfl rfl (by kernel_rfl) (fun _ _ _ h => h) (by kernel_rfl) ((Same.refl wr).drew) ?_ ?_
      rotate_left
      · (intro w' hw'; obtain ⟨x0, x1, x2, x3, x4⟩ := HX.out w' (HSR.out.trans hw'); obtain ⟨y0, y1, y2, y3, y4⟩ := HY.out w' (HSR.out.trans hw'); have hz1 := HC1.out w' (HWW.out.trans (HSR.out.trans hw')) k z hg.out; have hz2 := HC2.out w' (HWW.out.trans (HSR.out.trans hw')) k z hg.out; go_simp; try with_reducible rfl)
      try simp only [Act.put, List.setIfInBounds_toArray, List.set_cons_zero, List.set_cons_succ]
      refine reg_take (v := ?_) 9 (some 56) rfl rfl (by kernel_rfl) (fun _ _ _ h => h) (by kernel_rfl) ((Same.refl wr).drew) ?_ ?_
      rotate_left
      · (intro w' hw'; obtain ⟨x0, x1, x2, x3, x4⟩ := HX.out w' (HSR.out.trans hw'); obtain ⟨y0, y1, y2, y3, y4⟩ := HY.out w' (HSR.out.trans hw'); have hz1 := HC1.out w' (HWW.out.trans (HSR.out.trans hw')) k z hg.out; have hz2 := HC2.out w' (HWW.out.trans (HSR.out.trans hw')) k z hg.out; go_simp; try with_reducible rfl)
      try simp only [Act.put, List.setIfInBounds_toArray, List.set_cons_zero, List.set_cons_succ]
      refine reg_take (v := ?_) 10 (some 57) rfl rfl (by kernel_rfl) (fun _ _ _ h => h) (by kernel_rfl) ((Same.refl wr).drew) ?_ ?_
      rotate_left
      · (intro w' hw'; obtain ⟨x0, x1, x2, x3, x4⟩ := HX.out w' (HSR.out.trans hw'); obtain ⟨y0, y1, y2, y3, y4⟩ := HY.out w' (HSR.out.trans hw'); have hz1 := HC1.out w' (HWW.out.trans (HSR.out.trans hw')) k z hg.out; have hz2 := HC2.out w' (HWW.out.trans (HSR.out.trans hw')) k z hg.out; go_simp; try with_reducible rfl)
      try simp only [Act.put, List.setIfInBounds_toArray, List.set_cons_zero, List.set_cons_succ]
      refine reg_done (by kernel_rfl) ?_
      go_wp2_with fail
      exact ⟨⟨k + 1, by omega, rfl, HSR.out.drew⟩, by simp [intOf]; omega⟩

set_option maxRecDepth 100000 in
set_option maxHeartbeats 1000000 in
theorem rRaws_same (l : List Rw) (va vb : Value) (w : World) (ha : RawsW 66 w va l) (hb : RawsW 66 w vb l) :
    Calls Try.prog 12 #[va, vb] w fun e w' => e = .returned (.bool true) ∧ Same w w' := by
  obtain ⟨n, hn⟩ : ∃ n, l.length = n := ⟨_, rfl⟩
  have HN := Lib.hid hn
  have HP : Hid (0 < n → ∃ b o cap, va = .slice (some ⟨b, o, none⟩) n cap ∧ ∀ j r, l[j]? = some r → ∃ s : Sl, ∀ w', Same w w' → Bs w' (svV r s) r.value ∧ w'.cell? ⟨b, o + j * 3, none⟩ = some (.int .i64 r.flags) ∧ w'.cell? ⟨b, o + j * 3 + 1, none⟩ = some (.int .i64 r.type) ∧ w'.cell? ⟨b, o + j * 3 + 2, none⟩ = some (svV r s)) := fun h => by
    obtain ⟨b, o, cap, hv, _, _, hc⟩ := ha.at (by omega)
    exact ⟨b, o, cap, by rw [hv, hn], hc⟩
  have HQ : Hid (0 < n → ∃ b o cap, vb = .slice (some ⟨b, o, none⟩) n cap ∧ ∀ j r, l[j]? = some r → ∃ s : Sl, ∀ w', Same w w' → Bs w' (svV r s) r.value ∧ w'.cell? ⟨b, o + j * 3, none⟩ = some (.int .i64 r.flags) ∧ w'.cell? ⟨b, o + j * 3 + 1, none⟩ = some (.int .i64 r.type) ∧ w'.cell? ⟨b, o + j * 3 + 2, none⟩ = some (svV r s)) := fun h => by
    obtain ⟨b, o, cap, hv, _, _, hc⟩ := hb.at (by omega)
    exact ⟨b, o, cap, by rw [hv, hn], hc⟩
  have i0 : (n : Int) ≤ 9223372036854775807 := by
    obtain ⟨xs, h0, ⟨_, cap, _, h1, h2, _⟩, _⟩ := ha
    rw [← h0, List.length_map] at hn
    omega
  obtain ⟨a1, c1, rfl⟩ := ha.form hn
  obtain ⟨a2, c2, rfl⟩ := hb.form hn
  clear ha hb hn
  go_enter Try.func12, Try.ntmps12
  go_wp2_with fail
  go_loopw [13] (fun i wr => ∃ k : Nat, k ≤ n ∧ i = .int .i64 k ∧ Same w wr) (fun i _ => n - (intOf i).toNat)
  case atStart => exact ⟨0, by omega, rfl, Same.refl w⟩
  case round =>
    obtain ⟨k, hk, rfl, hsr⟩ := hrel
    have HSR := Lib.hid hsr
    clear hsr
    by_cases h8 : k = n
    · subst h8
      go_wp2_with fail
      go_ret
      exact ⟨rfl, HSR.out⟩
    · have hk8 : (k : Int) < n := by omega
      have hkn : k < l.length := by have := HN.out; omega
      obtain ⟨b, o1, cap, e1, HC1⟩ := HP.out (by omega)
      obtain ⟨b', o2, cap', e2, HC2⟩ := HQ.out (by omega)
      cases e1
      cases e2
      obtain ⟨r, hr⟩ : ∃ r, l[k]? = some r := ⟨_, List.getElem?_eq_getElem hkn⟩
      obtain ⟨s1, HC1⟩ := HC1 k r hr
      obtain ⟨s2, HC2⟩ := HC2 k r hr
      have HC1 := Lib.hid HC1
      have HC2 := Lib.hid HC2
      clear h8 hkn HP HQ hr
      go_wp2_with fail
      refine reg_start (fun w' => Same wr w') (by kernel_rfl) ?_
      refine reg_take (v := ?_) 0 (some 16) rfl rfl (by kernel_rfl) (fun _ _ _ h => h) (by kernel_rfl) ((Same.refl wr).drew) ?_ ?_
      rotate_left
      · (intro w' hw'; obtain ⟨hb1, x0, x1, x2⟩ := HC1.out w' (HSR.out.trans hw'); obtain ⟨hb2, y0, y1, y2⟩ := HC2.out w' (HSR.out.trans hw'); have hr1 := run_str w' _ _ hb1; have hr2 := run_str w' _ _ hb2; go_simp; try with_reducible rfl)
      try simp only [Act.put, List.setIfInBounds_toArray, List.set_cons_zero, List.set_cons_succ]
      refine reg_take (v := ?_) 1 (some 17) rfl rfl (by kernel_rfl) (fun _ _ _ h => h) (by kernel_rfl) ((Same.refl wr).drew) ?_ ?_
      rotate_left
      · (intro w' hw'; obtain ⟨hb1, x0, x1, x2⟩ := HC1.out w' (HSR.out.trans hw'); obtain ⟨hb2, y0, y1, y2⟩ := HC2.out w' (HSR.out.trans hw'); have hr1 := run_str w' _ _ hb1; have hr2 := run_str w' _ _ hb2; go_simp; try with_reducible rfl)
      try simp only [Act.put, List.setIfInBounds_toArray, List.set_cons_zero, List.set_cons_succ]
      refine reg_take (v := ?_) 2 (some 18) rfl rfl (by kernel_rfl) (fun _ _ _ h => h) (by kernel_rfl) ((Same.refl wr).drew) ?_ ?_
      rotate_left
      · (intro w' hw'; obtain ⟨hb1, x0, x1, x2⟩ := HC1.out w' (HSR.out.trans hw'); obtain ⟨hb2, y0, y1, y2⟩ := HC2.out w' (HSR.out.trans hw'); have hr1 := run_str w' _ _ hb1; have hr2 := run_str w' _ _ hb2; go_simp; try with_reducible rfl)
      try simp only [Act.put, List.setIfInBounds_toArray, List.set_cons_zero, List.set_cons_succ]
      refine reg_take (v := ?_) 3 (some 19) rfl rfl (by kernel_rfl) (fun _ _ _ h => h) (by kernel_rfl) ((Same.refl wr).drew) ?_ ?_
      rotate_left
      · (intro w' hw'; obtain ⟨hb1, x0, x1, x2⟩ := HC1.out w' (HSR.out.trans hw'); obtain ⟨hb2, y0, y1, y2⟩ := HC2.out w' (HSR.out.trans hw'); have hr1 := run_str w' _ _ hb1; have hr2 := run_str w' _ _ hb2; go_simp; try with_reducible rfl)
      try simp only [Act.put, List.setIfInBounds_toArray, List.set_cons_zero, List.set_cons_succ]
      refine reg_take (v := ?_) 4 (some 20) rfl rfl (by kernel_rfl) (fun _ _ _ h => h) (by kernel_rfl) ((Same.refl wr).drew) ?_ ?_
      rotate_left
      · (intro w' hw'; obtain ⟨hb1, x0, x1, x2⟩ := HC1.out w' (HSR.out.trans hw'); obtain ⟨hb2, y0, y1, y2⟩ := HC2.out w' (HSR.out.trans hw'); have hr1 := run_str w' _ _ hb1; have hr2 := run_str w' _ _ hb2; go_simp; try with_reducible rfl)
      try simp only [Act.put, List.setIfInBounds_toArray, List.set_cons_zero, List.set_cons_succ]
      refine reg_take (v := ?_) 5 (some 21) rfl rfl (by kernel_rfl) (fun _ _ _ h => h) (by kernel_rfl) ((Same.refl wr).drew) ?_ ?_
      rotate_left
      · (intro w' hw'; obtain ⟨hb1, x0, x1, x2⟩ := HC1.out w' (HSR.out.trans hw'); obtain ⟨hb2, y0, y1, y2⟩ := HC2.out w' (HSR.out.trans hw'); have hr1 := run_str w' _ _ hb1; have hr2 := run_str w' _ _ hb2; go_simp; try with_reducible rfl)
      try simp only [Act.put, List.setIfInBounds_toArray, List.set_cons_zero, List.set_cons_succ]
      refine reg_take (v := ?_) 6 (some 22) rfl rfl (by kernel_rfl) (fun _ _ _ h => h) (by kernel_rfl) ((Same.refl wr).drew) ?_ ?_
      rotate_left
      · (intro w' hw'; obtain ⟨hb1, x0, x1, x2⟩ := HC1.out w' (HSR.out.trans hw'); obtain ⟨hb2, y0, y1, y2⟩ := HC2.out w' (HSR.out.trans hw'); have hr1 := run_str w' _ _ hb1; have hr2 := run_str w' _ _ hb2; go_simp; try with_reducible rfl)
      try simp only [Act.put, List.setIfInBounds_toArray, List.set_cons_zero, List.set_cons_succ]
      refine reg_take (v := ?_) 7 (some 23) rfl rfl (by kernel_rfl) (fun _ _ _ h => h) (by kernel_rfl) ((Same.refl wr).drew) ?_ ?_
      rotate_left
      · (intro w' hw'; obtain ⟨hb1, x0, x1, x2⟩ := HC1.out w' (HSR.out.trans hw'); obtain ⟨hb2, y0, y1, y2⟩ := HC2.out w' (HSR.out.trans hw'); have hr1 := run_str w' _ _ hb1; have hr2 := run_str w' _ _ hb2; go_simp; try with_reducible rfl)
      try simp only [Act.put, List.setIfInBounds_toArray, List.set_cons_zero, List.set_cons_succ]
      refine reg_take (v := ?_) 8 (some 24) rfl rfl (by kernel_rfl) (fun _ _ _ h => h) (by kernel_rfl) ((Same.refl wr).drew) ?_ ?_
      rotate_left
      · (intro w' hw'; obtain ⟨hb1, x0, x1, x2⟩ := HC1.out w' (HSR.out.trans hw'); obtain ⟨hb2, y0, y1, y2⟩ := HC2.out w' (HSR.out.trans hw'); have hr1 := run_str w' _ _ hb1; have hr2 := run_str w' _ _ hb2; go_simp; try with_reducible rfl)
      try simp only [Act.put, List.setIfInBounds_toArray, List.set_cons_zero, List.set_cons_succ]
      refine reg_take (v := ?_) 9 (some 25) rfl rfl (by kernel_rfl) (fun _ _ _ h => h) (by kernel_rfl) ((Same.refl wr).drew) ?_ ?_
      rotate_left
      · (intro w' hw'; obtain ⟨hb1, x0, x1, x2⟩ := HC1.out w' (HSR.out.trans hw'); obtain ⟨hb2, y0, y1, y2⟩ := HC2.out w' (HSR.out.trans hw'); have hr1 := run_str w' _ _ hb1; have hr2 := run_str w' _ _ hb2; go_simp; try with_reducible rfl)
      try simp only [Act.put, List.setIfInBounds_toArray, List.set_cons_zero, List.set_cons_succ]
      refine reg_take (v := ?_) 10 (some 26) rfl rfl (by kernel_rfl) (fun _ _ _ h => h) (by kernel_rfl) ((Same.refl wr).drew) ?_ ?_
      rotate_left
      · (intro w' hw'; obtain ⟨hb1, x0, x1, x2⟩ := HC1.out w' (HSR.out.trans hw'); obtain ⟨hb2, y0, y1, y2⟩ := HC2.out w' (HSR.out.trans hw'); have hr1 := run_str w' _ _ hb1; have hr2 := run_str w' _ _ hb2; go_simp; try with_reducible rfl)
      try simp only [Act.put, List.setIfInBounds_toArray, List.set_cons_zero, List.set_cons_succ]
      refine reg_take (v := ?_) 11 (some 27) rfl rfl (by kernel_rfl) (fun _ _ _ h => h) (by kernel_rfl) ((Same.refl wr).drew) ?_ ?_
      rotate_left
      · (intro w' hw'; obtain ⟨hb1, x0, x1, x2⟩ := HC1.out w' (HSR.out.trans hw'); obtain ⟨hb2, y0, y1, y2⟩ := HC2.out w' (HSR.out.trans hw'); have hr1 := run_str w' _ _ hb1; have hr2 := run_str w' _ _ hb2; go_simp; try with_reducible rfl)
      try simp only [Act.put, List.setIfInBounds_toArray, List.set_cons_zero, List.set_cons_succ]
      refine reg_take (v := ?_) 12 (some 28) rfl rfl (by kernel_rfl) (fun _ _ _ h => h) (by kernel_rfl) ((Same.refl wr).drew) ?_ ?_
      rotate_left
      · (intro w' hw'; obtain ⟨hb1, x0, x1, x2⟩ := HC1.out w' (HSR.out.trans hw'); obtain ⟨hb2, y0, y1, y2⟩ := HC2.out w' (HSR.out.trans hw'); have hr1 := run_str w' _ _ hb1; have hr2 := run_str w' _ _ hb2; go_simp; try with_reducible rfl)
      try simp only [Act.put, List.setIfInBounds_toArray, List.set_cons_zero, List.set_cons_succ]
      refine reg_take (v := ?_) 13 (some 29) rfl rfl (by kernel_rfl) (fun _ _ _ h => h) (by kernel_rfl) ((Same.refl wr).drew) ?_ ?_
      rotate_left
      · (intro w' hw'; obtain ⟨hb1, x0, x1, x2⟩ := HC1.out w' (HSR.out.trans hw'); obtain ⟨hb2, y0, y1, y2⟩ := HC2.out w' (HSR.out.trans hw'); have hr1 := run_str w' _ _ hb1; have hr2 := run_str w' _ _ hb2; go_simp; try with_reducible rfl)
      try simp only [Act.put, List.setIfInBounds_toArray, List.set_cons_zero, List.set_cons_succ]
      refine reg_take (v := ?_) 14 (some 30) rfl rfl (by kernel_rfl) (fun _ _ _ h => h) (by kernel_rfl) ((Same.refl wr).drew) ?_ ?_
      rotate_left
      · (intro w' hw'; obtain ⟨hb1, x0, x1, x2⟩ := HC1.out w' (HSR.out.trans hw'); obtain ⟨hb2, y0, y1, y2⟩ := HC2.out w' (HSR.out.trans hw'); have hr1 := run_str w' _ _ hb1; have hr2 := run_str w' _ _ hb2; go_simp; try with_reducible rfl)
      try simp only [Act.put, List.setIfInBounds_toArray, List.set_cons_zero, List.set_cons_succ]
      refine reg_take (v := ?_) 15 (some 31) rfl rfl (by kernel_rfl) (fun _ _ _ h => h) (by kernel_rfl) ((Same.refl wr).drew) ?_ ?_
      rotate_left
      · (intro w' hw'; obtain ⟨hb1, x0, x1, x2⟩ := HC1.out w' (HSR.out.trans hw'); obtain ⟨hb2, y0, y1, y2⟩ := HC2.out w' (HSR.out.trans hw'); have hr1 := run_str w' _ _ hb1; have hr2 := run_str w' _ _ hb2; go_simp; try with_reducible rfl)
      try simp only [Act.put, List.setIfInBounds_toArray, List.set_cons_zero, List.set_cons_succ]
      refine reg_take (v := ?_) 16 (some 32) rfl rfl (by kernel_rfl) (fun _ _ _ h => h) (by kernel_rfl) ((Same.refl wr).drew) ?_ ?_
      rotate_left
      · (intro w' hw'; obtain ⟨hb1, x0, x1, x2⟩ := HC1.out w' (HSR.out.trans hw'); obtain ⟨hb2, y0, y1, y2⟩ := HC2.out w' (HSR.out.trans hw'); have hr1 := run_str w' _ _ hb1; have hr2 := run_str w' _ _ hb2; go_simp; try with_reducible rfl)
      try simp only [Act.put, List.setIfInBounds_toArray, List.set_cons_zero, List.set_cons_succ]
      refine reg_take (v := ?_) 17 (some 33) rfl rfl (by kernel_rfl) (fun _ _ _ h => h) (by kernel_rfl) ((Same.refl wr).drew) ?_ ?_
      rotate_left
      · (intro w' hw'; obtain ⟨hb1, x0, x1, x2⟩ := HC1.out w' (HSR.out.trans hw'); obtain ⟨hb2, y0, y1, y2⟩ := HC2.out w' (HSR.out.trans hw'); have hr1 := run_str w' _ _ hb1; have hr2 := run_str w' _ _ hb2; go_simp; try with_reducible rfl)
      try simp only [Act.put, List.setIfInBounds_toArray, List.set_cons_zero, List.set_cons_succ]
      refine reg_take (v := ?_) 18 (some 34) rfl rfl (by kernel_rfl) (fun _ _ _ h => h) (by kernel_rfl) ((Same.refl wr).drew) ?_ ?_
      rotate_left
      · (intro w' hw'; obtain ⟨hb1, x0, x1, x2⟩ := HC1.out w' (HSR.out.trans hw'); obtain ⟨hb2, y0, y1, y2⟩ := HC2.out w' (HSR.out.trans hw'); have hr1 := run_str w' _ _ hb1; have hr2 := run_str w' _ _ hb2; go_simp; try with_reducible rfl)
      try simp only [Act.put, List.setIfInBounds_toArray, List.set_cons_zero, List.set_cons_succ]
      refine reg_take (v := ?_) 19 (some 35) rfl rfl (by kernel_rfl) (fun _ _ _ h => h) (by kernel_rfl) ((Same.refl wr).drew) ?_ ?_
      rotate_left
      · (intro w' hw'; obtain ⟨hb1, x0, x1, x2⟩ := HC1.out w' (HSR.out.trans hw'); obtain ⟨hb2, y0, y1, y2⟩ := HC2.out w' (HSR.out.trans hw'); have hr1 := run_str w' _ _ hb1; have hr2 := run_str w' _ _ hb2; go_simp; try with_reducible rfl)
      try simp only [Act.put, List.setIfInBounds_toArray, List.set_cons_zero, List.set_cons_succ]
      refine reg_take (v := ?_) 20 (some 36) rfl rfl (by kernel_rfl) (fun _ _ _ h => h) (by kernel_rfl) ((Same.refl wr).drew) ?_ ?_
      rotate_left
      · (intro w' hw'; obtain ⟨hb1, x0, x1, x2⟩ := HC1.out w' (HSR.out.trans hw'); obtain ⟨hb2, y0, y1, y2⟩ := HC2.out w' (HSR.out.trans hw'); have hr1 := run_str w' _ _ hb1; have hr2 := run_str w' _ _ hb2; go_simp; try with_reducible rfl)
      try simp only [Act.put, List.setIfInBounds_toArray, List.set_cons_zero, List.set_cons_succ]
      refine reg_take (v := ?_) 21 (some 37) rfl rfl (by kernel_rfl) (fun _ _ _ h => h) (by kernel_rfl) ((Same.refl wr).drew) ?_ ?_
      rotate_left
      · (intro w' hw'; obtain ⟨hb1, x0, x1, x2⟩ := HC1.out w' (HSR.out.trans hw'); obtain ⟨hb2, y0, y1, y2⟩ := HC2.out w' (HSR.out.trans hw'); have hr1 := run_str w' _ _ hb1; have hr2 := run_str w' _ _ hb2; go_simp; try with_reducible rfl)
      try simp only [Act.put, List.setIfInBounds_toArray, List.set_cons_zero, List.set_cons_succ]
      refine reg_take (v := ?_) 22 (some 38) rfl rfl (by kernel_rfl) (fun _ _ _ h => h) (by kernel_rfl) ((Same.refl wr).drew) ?_ ?_
      rotate_left
      · (intro w' hw'; obtain ⟨hb1, x0, x1, x2⟩ := HC1.out w' (HSR.out.trans hw'); obtain ⟨hb2, y0, y1, y2⟩ := HC2.out w' (HSR.out.trans hw'); have hr1 := run_str w' _ _ hb1; have hr2 := run_str w' _ _ hb2; go_simp; try with_reducible rfl)
      try simp only [Act.put, List.setIfInBounds_toArray, List.set_cons_zero, List.set_cons_succ]
      refine reg_take (v := ?_) 23 (some 39) rfl rfl (by kernel_rfl) (fun _ _ _ h => h) (by kernel_rfl) ((Same.refl wr).drew) ?_ ?_
      rotate_left
      · (intro w' hw'; obtain ⟨hb1, x0, x1, x2⟩ := HC1.out w' (HSR.out.trans hw'); obtain ⟨hb2, y0, y1, y2⟩ := HC2.out w' (HSR.out.trans hw'); have hr1 := run_str w' _ _ hb1; have hr2 := run_str w' _ _ hb2; go_simp; try with_reducible rfl)
      try simp only [Act.put, List.setIfInBounds_toArray, List.set_cons_zero, List.set_cons_succ]
      refine reg_take (v := ?_) 24 (some 40) rfl rfl (by kernel_rfl) (fun _ _ _ h => h) (by kernel_rfl) ((Same.refl wr).drew) ?_ ?_
      rotate_left
      · (intro w' hw'; obtain ⟨hb1, x0, x1, x2⟩ := HC1.out w' (HSR.out.trans hw'); obtain ⟨hb2, y0, y1, y2⟩ := HC2.out w' (HSR.out.trans hw'); have hr1 := run_str w' _ _ hb1; have hr2 := run_str w' _ _ hb2; go_simp; try with_reducible rfl)
      try simp only [Act.put, List.setIfInBounds_toArray, List.set_cons_zero, List.set_cons_succ]
      refine reg_take (v := ?_) 25 (some 41) rfl rfl (by kernel_rfl) (fun _ _ _ h => h) (by kernel_rfl) ((Same.refl wr).drew) ?_ ?_
      rotate_left
      · (intro w' hw'; obtain ⟨hb1, x0, x1, x2⟩ := HC1.out w' (HSR.out.trans hw'); obtain ⟨hb2, y0, y1, y2⟩ := HC2.out w' (HSR.out.trans hw'); have hr1 := run_str w' _ _ hb1; have hr2 := run_str w' _ _ hb2; go_simp; try with_reducible rfl)
      try simp only [Act.put, List.setIfInBounds_toArray, List.set_cons_zero, List.set_cons_succ]
      refine reg_take (v := ?_) 26 (some 42) rfl rfl (by kernel_rfl) (fun _ _ _ h => h) (by kernel_rfl) ((Same.refl wr).drew) ?_ ?_
      rotate_left
      · (intro w' hw'; obtain ⟨hb1, x0, x1, x2⟩ := HC1.out w' (HSR.out.trans hw'); obtain ⟨hb2, y0, y1, y2⟩ := HC2.out w' (HSR.out.trans hw'); have hr1 := run_str w' _ _ hb1; have hr2 := run_str w' _ _ hb2; go_simp; try with_reducible rfl)
      try simp only [Act.put, List.setIfInBounds_toArray, List.set_cons_zero, List.set_cons_succ]
      refine reg_take (v := ?_) 27 (some 43) rfl rfl (by kernel_rfl) (fun _ _ _ h => h) (by kernel_rfl) ((Same.refl wr).drew) ?_ ?_
      rotate_left
      · (intro w' hw'; obtain ⟨hb1, x0, x1, x2⟩ := HC1.out w' (HSR.out.trans hw'); obtain ⟨hb2, y0, y1, y2⟩ := HC2.out w' (HSR.out.trans hw'); have hr1 := run_str w' _ _ hb1; have hr2 := run_str w' _ _ hb2; go_simp; try with_reducible rfl)
      try simp only [Act.put, List.setIfInBounds_toArray, List.set_cons_zero, List.set_cons_succ]
      refine reg_take (v := ?_) 28 (some 44) rfl rfl (by kernel_rfl) (fun _ _ _ h => h) (by kernel_rfl) ((Same.refl wr).drew) ?_ ?_
      rotate_left
      · (intro w' hw'; obtain ⟨hb1, x0, x1, x2⟩ := HC1.out w' (HSR.out.trans hw'); obtain ⟨hb2, y0, y1, y2⟩ := HC2.out w' (HSR.out.trans hw'); have hr1 := run_str w' _ _ hb1; have hr2 := run_str w' _ _ hb2; go_simp; try with_reducible rfl)
      try simp only [Act.put, List.setIfInBounds_toArray, List.set_cons_zero, List.set_cons_succ]
      refine reg_take (v := ?_) 29 (some 45) rfl rfl (by kernel_rfl) (fun _ _ _ h => h) (by kernel_rfl) ((Same.refl wr).drew) ?_ ?_
      rotate_left
      · (intro w' hw'; obtain ⟨hb1, x0, x1, x2⟩ := HC1.out w' (HSR.out.trans hw'); obtain ⟨hb2, y0, y1, y2⟩ := HC2.out w' (HSR.out.trans hw'); have hr1 := run_str w' _ _ hb1; have hr2 := run_str w' _ _ hb2; go_simp; try with_reducible rfl)
      try simp only [Act.put, List.setIfInBounds_toArray, List.set_cons_zero, List.set_cons_succ]
      refine reg_take (v := ?_) 30 (some 46) rfl rfl (by kernel_rfl) (fun _ _ _ h => h) (by kernel_rfl) ((Same.refl wr).drew) ?_ ?_
      rotate_left
      · (intro w' hw'; obtain ⟨hb1, x0, x1, x2⟩ := HC1.out w' (HSR.out.trans hw'); obtain ⟨hb2, y0, y1, y2⟩ := HC2.out w' (HSR.out.trans hw'); have hr1 := run_str w' _ _ hb1; have hr2 := run_str w' _ _ hb2; go_simp; try with_reducible rfl)
      try simp only [Act.put, List.setIfInBounds_toArray, List.set_cons_zero, List.set_cons_succ]
      refine reg_take (v := ?_) 31 (some 47) rfl rfl (by kernel_rfl) (fun _ _ _ h => h) (by kernel_rfl) ((Same.refl wr).drew) ?_ ?_
      rotate_left
      · (intro w' hw'; obtain ⟨hb1, x0, x1, x2⟩ := HC1.out w' (HSR.out.trans hw'); obtain ⟨hb2, y0, y1, y2⟩ := HC2.out w' (HSR.out.trans hw'); have hr1 := run_str w' _ _ hb1; have hr2 := run_str w' _ _ hb2; go_simp; try with_reducible rfl)
      try simp only [Act.put, List.setIfInBounds_toArray, List.set_cons_zero, List.set_cons_succ]
      refine reg_take (v := ?_) 32 (some 48) rfl rfl (by kernel_rfl) (fun _ _ _ h => h) (by kernel_rfl) ((Same.refl wr).drew) ?_ ?_
      rotate_left
      · (intro w' hw'; obtain ⟨hb1, x0, x1, x2⟩ := HC1.out w' (HSR.out.trans hw'); obtain ⟨hb2, y0, y1, y2⟩ := HC2.out w' (HSR.out.trans hw'); have hr1 := run_str w' _ _ hb1; have hr2 := run_str w' _ _ hb2; go_simp; try with_reducible rfl)
      try simp only [Act.put, List.setIfInBounds_toArray, List.set_cons_zero, List.set_cons_succ]
      refine reg_take (v := ?_) 33 (some 49) rfl rfl (by kernel_rfl) (fun _ _ _ h => h) (by kernel_rfl) ((Same.refl wr).drew) ?_ ?_
      rotate_left
      · (intro w' hw'; obtain ⟨hb1, x0, x1, x2⟩ := HC1.out w' (HSR.out.trans hw'); obtain ⟨hb2, y0, y1, y2⟩ := HC2.out w' (HSR.out.trans hw'); have hr1 := run_str w' _ _ hb1; have hr2 := run_str w' _ _ hb2; go_simp; try with_reducible rfl)
      try simp only [Act.put, List.setIfInBounds_toArray, List.set_cons_zero, List.set_cons_succ]
      refine reg_take (v := ?_) 34 (some 50) rfl rfl (by kernel_rfl) (fun _ _ _ h => h) (by kernel_rfl) ((Same.refl wr).drew) ?_ ?_
      rotate_left
      · (intro w' hw'; obtain ⟨hb1, x0, x1, x2⟩ := HC1.out w' (HSR.out.trans hw'); obtain ⟨hb2, y0, y1, y2⟩ := HC2.out w' (HSR.out.trans hw'); have hr1 := run_str w' _ _ hb1; have hr2 := run_str w' _ _ hb2; go_simp; try with_reducible rfl)
      try simp only [Act.put, List.setIfInBounds_toArray, List.set_cons_zero, List.set_cons_succ]
      refine reg_take (v := ?_) 35 (some 51) rfl rfl (by kernel_rfl) (fun _ _ _ h => h) (by kernel_rfl) ((Same.refl wr).drew) ?_ ?_
      rotate_left
      · (intro w' hw'; obtain ⟨hb1, x0, x1, x2⟩ := HC1.out w' (HSR.out.trans hw'); obtain ⟨hb2, y0, y1, y2⟩ := HC2.out w' (HSR.out.trans hw'); have hr1 := run_str w' _ _ hb1; have hr2 := run_str w' _ _ hb2; go_simp; try with_reducible rfl)
      try simp only [Act.put, List.setIfInBounds_toArray, List.set_cons_zero, List.set_cons_succ]
      refine reg_take (v := ?_) 36 (some 52) rfl rfl (by kernel_rfl) (fun _ _ _ h => h) (by kernel_rfl) ((Same.refl wr).drew) ?_ ?_
      rotate_left
      · (intro w' hw'; obtain ⟨hb1, x0, x1, x2⟩ := HC1.out w' (HSR.out.trans hw'); obtain ⟨hb2, y0, y1, y2⟩ := HC2.out w' (HSR.out.trans hw'); have hr1 := run_str w' _ _ hb1; have hr2 := run_str w' _ _ hb2; go_simp; try with_reducible rfl)
      try simp only [Act.put, List.setIfInBounds_toArray, List.set_cons_zero, List.set_cons_succ]
      refine reg_take (v := ?_) 37 (some 53) rfl rfl (by kernel_rfl) (fun _ _ _ h => h) (by kernel_rfl) ((Same.refl wr).drew) ?_ ?_
      rotate_left
      · (intro w' hw'; obtain ⟨hb1, x0, x1, x2⟩ := HC1.out w' (HSR.out.trans hw'); obtain ⟨hb2, y0, y1, y2⟩ := HC2.out w' (HSR.out.trans hw'); have hr1 := run_str w' _ _ hb1; have hr2 := run_str w' _ _ hb2; go_simp; try with_reducible rfl)
      try simp only [Act.put, List.setIfInBounds_toArray, List.set_cons_zero, List.set_cons_succ]
      refine reg_take (v := ?_) 38 (some 54) rfl rfl (by kernel_rfl) (fun _ _ _ h => h) (by kernel_rfl) ((Same.refl wr).drew) ?_ ?_
      rotate_left
      · (intro w' hw'; obtain ⟨hb1, x0, x1, x2⟩ := HC1.out w' (HSR.out.trans hw'); obtain ⟨hb2, y0, y1, y2⟩ := HC2.out w' (HSR.out.trans hw'); have hr1 := run_str w' _ _ hb1; have hr2 := run_str w' _ _ hb2; go_simp; try with_reducible rfl)
      try simp only [Act.put, List.setIfInBounds_toArray, List.set_cons_zero, List.set_cons_succ]
      refine reg_done (by kernel_rfl) ?_
      go_wp2_with fail
      exact ⟨⟨k + 1, by omega, rfl, HSR.out.drew⟩, by simp [intOf]; omega⟩
end Go.Proofs.Ytfhaaenmllkbnaa
