/- Contracts of the document's own answers for layer 4: Build; a header in the document's form. No condition beyond what each names. -/
import Derived.Test.YteoleblnhcnpkaaIpRB
namespace Go.Proofs.Yteoleblnhcnpkaa
open Go.RowKit
set_option linter.unusedVariables false

/-- append of bytes, in a region that draws -/
theorem wp_append_bs {w : World} {o : Oper} {a : Act} {K : Act → World → Prop} {Q : Exit → Act → World → Prop} (sl xo : Operand)
    (ho : o.op = .call { callee := .builtin .append, args := #[sl, xo], argTypes := #[22, 22] })
    (A : World) (hA : Same A w) (v : Value) (l : List UInt8) (hs : a.eval sl = v) (hown : OwnB w A.heap.size v l) (x : Value) (m : List UInt8) (hxe : a.eval xo = x) (hx : Bs w x m) (hlen : l.length + m.length ≤ 140737488355328)
    (h : ∀ v' w', OwnB w' A.heap.size v' (l ++ m) → Same A w' → K (a.put o.dst v') w') : Oper.wp Try.prog o a w K Q := by
  obtain ⟨v', w', hr, h1, h2⟩ := run_append_bs w o.type _ v l hown x m hx hlen hA.size
  exact Lib.wp_append_run w sl xo _ _ ho v x hs hxe v' w' hr (h v' w' h1 (hA.grown h2 (fun k hk => (hown.lt k hk).1)))

theorem riOf_any (v : Value) (l : List UInt8) (w : World) (hb : Bs w v l) (hl : (l.length : Int) ≤ 140737488355328) :
    Calls Try.prog 45 #[v] w fun e w' => e = .returned (.int .i64 (65535 - sumB l : Nat)) ∧ Same w w' :=
  (rOf_any v l w hb hl).mono fun _ _ h => ⟨h.1, h.2 ▸ Same.refl _⟩

/-- the addresses are such -/
def HdR (h : Hd) : Prop := (0 ≤ h.src ∧ h.src ≤ 4294967295) ∧ (0 ≤ h.dst ∧ h.dst ≤ 4294967295)

set_option maxRecDepth 100000 in
set_option maxHeartbeats 1000000 in
theorem riBuild_any (h : Hd) (hr : HdR h) (p : List UInt8) (vo vp : Value) (w : World) (hb : Bs w vo h.opts) (hp : Bs w vp p) :
    Calls Try.prog 22 #[hdV h vo, vp] w fun e w' => ∃ v, e = .returned v ∧ OwnB w' w.heap.size v (buildB h p) ∧ Same w w' := by
  have HR := Lib.hid hr
  have HB := Lib.hid hb
  have HP := Lib.hid hp
  have HGc := fun ao cap w => Lib.hid (riGood_any h ao cap w)
  have HHd := fun (hg : goodH h) (n s : Int) hn hs vo w hb => Lib.hid (riHead_any h hg hr.1 hr.2 n s hn hs vo w hb)
  have HHd := Lib.hid HHd
  obtain ⟨ao, cap, rfl, q1, q2, -, -⟩ := hb
  obtain ⟨ap, caq, rfl, r1, r2, -, -⟩ := hp
  obtain ⟨tos, id, flags, frag, ttl, proto, src, dst, opts⟩ := h
  simp only at q1
  obtain ⟨W0, hW⟩ : ∃ W0, W0 = w.alloc (hdO 34 ⟨tos, id, flags, frag, ttl, proto, src, dst, opts⟩ (.slice ao opts.length cap)) := ⟨_, rfl⟩
  have HX : Hid (∀ w', Same W0 w' → HdAt w' w.heap.size ⟨tos, id, flags, frag, ttl, proto, src, dst, opts⟩ (.slice ao opts.length cap)) := by rw [hW]; exact hd_box 34 ⟨tos, id, flags, frag, ttl, proto, src, dst, opts⟩ _ w
  have H0 : Hid (Same w W0) := by rw [hW]; exact Same.alloc w _
  have HW := Lib.hid hW
  clear hW
  by_cases hg : goodH ⟨tos, id, flags, frag, ttl, proto, src, dst, opts⟩
  · have HGo := Lib.hid hg
    rw [show decide (goodH ⟨tos, id, flags, frag, ttl, proto, src, dst, opts⟩) = true from decide_eq_true hg] at HGc
    obtain ⟨-, -, -, -, -, -, g1, -⟩ := hg
    simp only at g1
    by_cases hs : 20 + opts.length + p.length ≤ 9000
    · have hle : ¬ (8980 - (opts.length : Int) < p.length) := by omega
      have hq : Hid (buildB ⟨tos, id, flags, frag, ttl, proto, src, dst, opts⟩ p = sealH ⟨tos, id, flags, frag, ttl, proto, src, dst, opts⟩ (20 + (opts.length : Int) + (p.length : Int)) ++ p) := by
        show _ = _
        rw [buildB, if_pos ⟨HGo.out, hs⟩, sizeH]
        push_cast
        rfl
      rw [hq.out]
      clear hq
      go_enter Try.func22, Try.ntmps22
      go_wp2_with fail
      refine (HGc _ _ _).out.mono ?_
      rintro e w1 ⟨rfl, hs1⟩
      have HS1 : Hid (Same W0 w1) := by rw [HW.out]; exact hs1
      clear hs1
      obtain ⟨c0, c1, c2, c3, c4, c5, c6, c7, c8⟩ := HX.out w1 HS1.out
      go_wp2_with fail
      have HN := Lib.hid (show (0 : Int) ≤ 20 + (opts.length : Int) + (p.length : Int) ∧ 20 + (opts.length : Int) + (p.length : Int) ≤ 65535 by omega)
      generalize hnn : 20 + (opts.length : Int) + (p.length : Int) = N at *
      have HNN := Lib.hid hnn
      have HB1 : Hid (∀ w', Same w1 w' → Bs w' (.slice ao opts.length cap) opts) := fun w' hw => HB.out.same ((H0.out.trans HS1.out).trans hw)
      have HP1 : Hid (∀ w', Same w1 w' → Bs w' (.slice ap p.length caq) p) := fun w' hw => HP.out.same ((H0.out.trans HS1.out).trans hw)
      have HS : Hid (w.heap.size ≤ w1.heap.size) := (H0.out.trans HS1.out).size
      clear c0 c1 c2 c3 c4 c5 c6 c7 c8 hnn hle
      refine reg_start (fun w' => Same w1 w') (by kernel_rfl) ?_
      refine reg_take (v := ?_) 0 (some 25) rfl rfl (by kernel_rfl) (fun _ _ _ h => h) (by kernel_rfl) ((Same.refl w1).drew) ?_ ?_
      rotate_left
      · (intro w' hw'; obtain ⟨c0, c1, c2, c3, c4, c5, c6, c7, c8⟩ := HX.out w' (HS1.out.trans hw'); go_simp; try with_reducible rfl)
      try simp only [Act.put, List.setIfInBounds_toArray, List.set_cons_zero, List.set_cons_succ]
      refine reg_take (v := ?_) 1 (some 26) rfl rfl (by kernel_rfl) (fun _ _ _ h => h) (by kernel_rfl) ((Same.refl w1).drew) ?_ ?_
      rotate_left
      · (intro w' hw'; obtain ⟨c0, c1, c2, c3, c4, c5, c6, c7, c8⟩ := HX.out w' (HS1.out.trans hw'); go_simp; try with_reducible rfl)
      try simp only [Act.put, List.setIfInBounds_toArray, List.set_cons_zero, List.set_cons_succ]
      refine reg_take (v := ?_) 2 (some 27) rfl rfl (by kernel_rfl) (fun _ _ _ h => h) (by kernel_rfl) ((Same.refl w1).drew) ?_ ?_
      rotate_left
      · (intro w' hw'; obtain ⟨c0, c1, c2, c3, c4, c5, c6, c7, c8⟩ := HX.out w' (HS1.out.trans hw'); go_simp; try with_reducible rfl)
      try simp only [Act.put, List.setIfInBounds_toArray, List.set_cons_zero, List.set_cons_succ]
      refine reg_take (v := ?_) 3 (some 28) rfl rfl (by kernel_rfl) (fun _ _ _ h => h) (by kernel_rfl) ((Same.refl w1).drew) ?_ ?_
      rotate_left
      · (intro w' hw'; obtain ⟨c0, c1, c2, c3, c4, c5, c6, c7, c8⟩ := HX.out w' (HS1.out.trans hw'); go_simp; try with_reducible rfl)
      try simp only [Act.put, List.setIfInBounds_toArray, List.set_cons_zero, List.set_cons_succ]
      refine reg_take (v := ?_) 7 (some 32) rfl rfl (by kernel_rfl) (fun _ _ _ h => h) (by kernel_rfl) ((Same.refl w1).drew) ?_ ?_
      rotate_left
      · (intro w' hw'; obtain ⟨c0, c1, c2, c3, c4, c5, c6, c7, c8⟩ := HX.out w' (HS1.out.trans hw'); go_simp; try with_reducible rfl)
      try simp only [Act.put, List.setIfInBounds_toArray, List.set_cons_zero, List.set_cons_succ]
      refine reg_one 4 rfl (by kernel_rfl) (by kernel_rfl) ?_
      go_simp
      refine ((HHd.out HGo.out N 0 HN.out (by omega) _ _ (HB1.out _ (Same.refl w1).drew)).out).mono ?_
      rintro e u1 ⟨v2, rfl, ho2, hs1⟩
      have hS1 := ((Same.refl w1).drew).trans hs1
      have HO2 := Lib.hid ho2; clear ho2
      refine ⟨hS1, ?_⟩
      try simp only [Act.put, List.setIfInBounds_toArray, List.set_cons_zero, List.set_cons_succ]
      refine reg_one 5 rfl (by kernel_rfl) (by kernel_rfl) ?_
      go_simp
      refine ((riOf_any _ _ _ HO2.out.bs (by simp only [headB_length]; omega))).mono ?_
      rintro e u2 ⟨rfl, hs2⟩
      have hS2 := (hS1).trans hs2
      skip
      refine ⟨hS2, ?_⟩
      try simp only [Act.put, List.setIfInBounds_toArray, List.set_cons_zero, List.set_cons_succ]
      refine reg_one 6 rfl (by kernel_rfl) (by kernel_rfl) ?_
      go_simp
      refine ((HHd.out HGo.out N _ HN.out (by omega) _ _ (HB1.out _ hS2)).out).mono ?_
      rintro e u3 ⟨v3, rfl, ho3, hs3⟩
      have hS3 := (hS2).trans hs3
      have HO3 := Lib.hid ho3; clear ho3
      refine ⟨hS3, ?_⟩
      try simp only [Act.put, List.setIfInBounds_toArray, List.set_cons_zero, List.set_cons_succ]
      refine reg_one 8 rfl (by kernel_rfl) (by kernel_rfl) ?_
      refine wp_append_bs _ _ (by rfl) u2 hs3 _ _ (by rfl) HO3.out _ p (by rfl) (HP1.out _ hS3) (by rw [headB_length]; simp only; omega) ?_
      intro v4 u4 ho4 hs4
      have hS4 := hS2.trans hs4
      have HO4 := Lib.hid ho4; clear ho4
      refine ⟨hS4, ?_⟩
      try simp only [Act.put, List.setIfInBounds_toArray, List.set_cons_zero, List.set_cons_succ]
      refine reg_take (v := ?_) 9 (some 4) rfl rfl (by kernel_rfl) (fun _ _ _ h => h) (by kernel_rfl) (hS4) ?_ ?_
      rotate_left
      · (intro w' hw'; obtain ⟨c0, c1, c2, c3, c4, c5, c6, c7, c8⟩ := HX.out w' (HS1.out.trans hw'); go_simp; try with_reducible rfl)
      try simp only [Act.put, List.setIfInBounds_toArray, List.set_cons_zero, List.set_cons_succ]
      refine reg_done (by kernel_rfl) ?_
      go_wp2_with fail
      go_ret
      rw [HNN.out]
      exact ⟨v4, rfl, (HO4.out.mono (Nat.le_trans HS.out hS2.size)), (H0.out.trans HS1.out).trans hS4⟩
    · have hle : 8980 - (opts.length : Int) < p.length := by omega
      have hq : buildB ⟨tos, id, flags, frag, ttl, proto, src, dst, opts⟩ p = [] := if_neg fun h => hs h.2
      rw [hq]
      clear hq hs
      go_enter Try.func22, Try.ntmps22
      go_wp2_with fail
      refine (HGc _ _ _).out.mono ?_
      rintro e w1 ⟨rfl, hs1⟩
      have HS1 : Hid (Same W0 w1) := by rw [HW.out]; exact hs1
      clear hs1
      obtain ⟨c0, c1, c2, c3, c4, c5, c6, c7, c8⟩ := HX.out w1 HS1.out
      go_wp2_with fail
      go_ret
      exact ⟨_, rfl, OwnB.nil _ _, H0.out.trans HS1.out⟩
  · have hq : buildB ⟨tos, id, flags, frag, ttl, proto, src, dst, opts⟩ p = [] := if_neg fun h => hg h.1
    rw [hq]
    clear hq
    rw [show decide (goodH ⟨tos, id, flags, frag, ttl, proto, src, dst, opts⟩) = false from decide_eq_false hg] at HGc
    clear hg HHd
    go_enter Try.func22, Try.ntmps22
    go_wp2_with fail
    refine (HGc _ _ _).out.mono ?_
    rintro e w1 ⟨rfl, hs1⟩
    have HS1 : Hid (Same W0 w1) := by rw [HW.out]; exact hs1
    clear hs1
    obtain ⟨c0, c1, c2, c3, c4, c5, c6, c7, c8⟩ := HX.out w1 HS1.out
    go_wp2_with fail
    go_ret
    exact ⟨_, rfl, OwnB.nil _ _, H0.out.trans HS1.out⟩
end Go.Proofs.Yteoleblnhcnpkaa
