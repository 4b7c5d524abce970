/- Contracts of the document's own answers for layer 6: whole, Wrap. No condition beyond what each names. -/
import Derived.Test.YteoleblnhcnpkaaTuF
import Derived.Test.YteoleblnhcnpkaaIpRF
namespace Go.Proofs.Yteoleblnhcnpkaa
open Go.RowKit
set_option linter.unusedVariables false

set_option maxRecDepth 100000 in
set_option maxHeartbeats 1000000 in
theorem riWhole_any (v : Value) (l : List UInt8) (w : World) (hb : Bs w v l) (h0 : parseE l = 0) :
    Calls Try.prog 23 #[v] w fun e w' => ∃ v', e = .returned v' ∧ OwnB w' w.heap.size v' (wholeP l) ∧ Same w w' := by
  obtain ⟨e1, hN, hN0, hN1, hN2⟩ := whole_length h0
  have h20 := (parse_ok h0).1
  have HB := Lib.hid hb
  obtain ⟨b, o, cap, rfl, hcap, hcm, b0, b2, b3, hb0, hb2, hb3, e0, e2, HC⟩ := heads hb h20
  have HCC := Lib.hid HC
  have eN : lenH l = 256 * b2 + b3 := e2
  rw [eN] at e1 hN hN0 hN1 hN2
  have HBF : Hid (∀ w', Same w w' → Bs w' (.slice (some ⟨b, o, none⟩) (256 * b2 + b3) cap) (wholeP l)) := fun w' hw => by
    have := ((HB.out.same hw).cut 0 (256 * b2 + b3) (by omega)).1
    rw [if_neg (by omega), List.drop_zero, ← e1] at this
    simpa [Addr.add] using this
  generalize wholeP l = P at *
  have HN := Lib.hid hN
  obtain ⟨n, hn⟩ : ∃ n, l.length = n := ⟨_, rfl⟩
  rw [hn] at hcap hN2 ⊢
  clear e0 e1 e2 eN HC hN h0 h20 HB hn
  obtain ⟨N, hNN⟩ : ∃ N, 256 * b2 + b3 = N := ⟨_, rfl⟩
  have hNi : 256 * (b2 : Int) + b3 = N := by omega
  rw [hNN] at hN0 hN1 hN2 HBF HN
  have x1 : (2 : Int) < n := by omega
  have x2 : (3 : Int) < n := by omega
  have x3 : (N : Int) ≤ cap := by omega
  have hWr : IntKind.i64.wrap (IntKind.i64.wrap (256 * IntKind.i64.wrap (b2 : Int)) + IntKind.i64.wrap (b3 : Int)) = (N : Int) := by simp only [IntKind.wrap_i64]; omega
  go_enter Try.func23, Try.ntmps23
  go_wp2_with fail
  refine reg_start (fun w' => Same w w') (by kernel_rfl) ?_
  refine reg_take (v := ?_) 1 (some 4) rfl rfl (by kernel_rfl) (fun _ _ _ h => h) (by kernel_rfl) ((Same.refl w).drew) ?_ ?_
  rotate_left
  · (intro w' hw'; obtain ⟨c0, c2, c3⟩ := HCC.out w' hw'; go_simp; try with_reducible rfl)
  try simp only [Act.put, List.setIfInBounds_toArray, List.set_cons_zero, List.set_cons_succ]
  refine reg_take (v := ?_) 2 (some 5) rfl rfl (by kernel_rfl) (fun _ _ _ h => h) (by kernel_rfl) ((Same.refl w).drew) ?_ ?_
  rotate_left
  · (intro w' hw'; obtain ⟨c0, c2, c3⟩ := HCC.out w' hw'; go_simp; try with_reducible rfl)
  try simp only [Act.put, List.setIfInBounds_toArray, List.set_cons_zero, List.set_cons_succ]
  refine reg_take (v := ?_) 3 (some 6) rfl rfl (by kernel_rfl) (fun _ _ _ h => h) (by kernel_rfl) ((Same.refl w).drew) ?_ ?_
  rotate_left
  · (intro w' hw'; obtain ⟨c0, c2, c3⟩ := HCC.out w' hw'; go_simp; try with_reducible rfl)
  try simp only [Act.put, List.setIfInBounds_toArray, List.set_cons_zero, List.set_cons_succ]
  refine reg_take (v := ?_) 4 (some 7) rfl rfl (by kernel_rfl) (fun _ _ _ h => h) (by kernel_rfl) ((Same.refl w).drew) ?_ ?_
  rotate_left
  · (intro w' hw'; obtain ⟨c0, c2, c3⟩ := HCC.out w' hw'; go_simp; try with_reducible rfl)
  try simp only [Act.put, List.setIfInBounds_toArray, List.set_cons_zero, List.set_cons_succ]
  refine reg_take (v := ?_) 5 (some 8) rfl rfl (by kernel_rfl) (fun _ _ _ h => h) (by kernel_rfl) ((Same.refl w).drew) ?_ ?_
  rotate_left
  · (intro w' hw'; obtain ⟨c0, c2, c3⟩ := HCC.out w' hw'; go_simp; try with_reducible rfl)
  try simp only [Act.put, List.setIfInBounds_toArray, List.set_cons_zero, List.set_cons_succ]
  refine reg_take (v := ?_) 6 (some 9) rfl rfl (by kernel_rfl) (fun _ _ _ h => h) (by kernel_rfl) ((Same.refl w).drew) ?_ ?_
  rotate_left
  · (intro w' hw'; obtain ⟨c0, c2, c3⟩ := HCC.out w' hw'; go_simp; try with_reducible rfl)
  try simp only [Act.put, List.setIfInBounds_toArray, List.set_cons_zero, List.set_cons_succ]
  refine reg_take (v := ?_) 7 (some 10) rfl rfl (by kernel_rfl) (fun _ _ _ h => h) (by kernel_rfl) ((Same.refl w).drew) ?_ ?_
  rotate_left
  · (intro w' hw'; obtain ⟨c0, c2, c3⟩ := HCC.out w' hw'; go_simp; try with_reducible rfl)
  try simp only [Act.put, List.setIfInBounds_toArray, List.set_cons_zero, List.set_cons_succ]
  refine reg_take (v := ?_) 8 (some 11) rfl rfl (by kernel_rfl) (fun _ _ _ h => h) (by kernel_rfl) ((Same.refl w).drew) ?_ ?_
  rotate_left
  · (intro w' hw'; obtain ⟨c0, c2, c3⟩ := HCC.out w' hw'; go_simp; try with_reducible rfl)
  try simp only [Act.put, List.setIfInBounds_toArray, List.set_cons_zero, List.set_cons_succ]
  refine reg_take (v := ?_) 9 (some 12) rfl rfl (by kernel_rfl) (fun _ _ _ h => h) (by kernel_rfl) ((Same.refl w).drew) ?_ ?_
  rotate_left
  · (intro w' hw'; obtain ⟨c0, c2, c3⟩ := HCC.out w' hw'; go_simp; try with_reducible rfl)
  try simp only [Act.put, List.setIfInBounds_toArray, List.set_cons_zero, List.set_cons_succ]
  refine reg_take (v := ?_) 10 (some 13) rfl rfl (by kernel_rfl) (fun _ _ _ h => h) (by kernel_rfl) ((Same.refl w).drew) ?_ ?_
  rotate_left
  · (intro w' hw'; obtain ⟨c0, c2, c3⟩ := HCC.out w' hw'; go_simp; try with_reducible rfl)
  try simp only [Act.put, List.setIfInBounds_toArray, List.set_cons_zero, List.set_cons_succ]
  refine reg_take (v := ?_) 11 (some 14) rfl rfl (by kernel_rfl) (fun _ _ _ h => h) (by kernel_rfl) ((Same.refl w).drew) ?_ ?_
  rotate_left
  · (intro w' hw'; obtain ⟨c0, c2, c3⟩ := HCC.out w' hw'; go_simp; try with_reducible rfl)
  try simp only [Act.put, List.setIfInBounds_toArray, List.set_cons_zero, List.set_cons_succ]
  refine reg_take (v := ?_) 12 (some 15) rfl rfl (by kernel_rfl) (fun _ _ _ h => h) (by kernel_rfl) ((Same.refl w).drew) ?_ ?_
  rotate_left
  · (intro w' hw'; obtain ⟨c0, c2, c3⟩ := HCC.out w' hw'; go_simp; try with_reducible rfl)
  try simp only [Act.put, List.setIfInBounds_toArray, List.set_cons_zero, List.set_cons_succ]
  refine reg_one 0 rfl (by kernel_rfl) (by kernel_rfl) ?_
  generalize hD : w.drew = D at *
  have HD : Hid (Same w D) := by rw [← hD]; exact (Same.refl w).drew
  clear hD
  go_simp
  refine ⟨HD.out.trans (Same.alloc D _), ?_⟩
  try simp only [Act.put, List.setIfInBounds_toArray, List.set_cons_zero, List.set_cons_succ]
  refine reg_one 13 rfl (by kernel_rfl) (by kernel_rfl) ?_
  refine wp_append_bs _ _ (by rfl) D (Same.alloc D _) _ [] (by rfl) (OwnB.empty D) _ P (by rfl) (HBF.out _ (HD.out.trans (Same.alloc D _))) (by have := HN.out; simp only [List.length_nil]; omega) ?_
  intro v5 w5 ho5 hs5
  rw [List.nil_append] at ho5
  have HO5 := Lib.hid ho5
  have HS5 := Lib.hid (HD.out.trans hs5)
  clear ho5
  refine ⟨HS5.out, ?_⟩
  try simp only [Act.put, List.setIfInBounds_toArray, List.set_cons_zero, List.set_cons_succ]
  refine reg_take (v := ?_) 14 (some 2) rfl rfl (by kernel_rfl) (fun _ _ _ h => h) (by kernel_rfl) (HS5.out) ?_ ?_
  rotate_left
  · (intro w' hw'; obtain ⟨c0, c2, c3⟩ := HCC.out w' hw'; go_simp; try with_reducible rfl)
  try simp only [Act.put, List.setIfInBounds_toArray, List.set_cons_zero, List.set_cons_succ]
  refine reg_done (by kernel_rfl) ?_
  go_wp2_with fail
  go_ret
  exact ⟨v5, rfl, HO5.out.mono HD.out.size, HS5.out⟩

set_option maxRecDepth 100000 in
set_option maxHeartbeats 1000000 in
theorem riBuild_long (h : Hd) (hg : goodH h) (p : List UInt8) (vo vp : Value) (w : World) (hb : Bs w vo h.opts) (hp : Bs w vp p) (hs : 9000 < sizeH h p) :
    Calls Try.prog 22 #[hdV h vo, vp] w fun e w' => e = .returned nilV ∧ Same w w' := by
  have HGc := fun ao cap w => Lib.hid (riGood_any h ao cap w)
  rw [show decide (goodH h) = true from decide_eq_true hg] at HGc
  obtain ⟨-, -, -, -, -, -, g1, -⟩ := hg
  obtain ⟨ao, cap, rfl, q1, q2, -, -⟩ := hb
  obtain ⟨ap, caq, rfl, r1, r2, -, -⟩ := hp
  obtain ⟨tos, id, flags, frag, ttl, proto, src, dst, opts⟩ := h
  unfold sizeH at hs
  simp only at hs g1
  obtain ⟨W0, hW⟩ : ∃ W0, W0 = w.alloc (hdO 34 ⟨tos, id, flags, frag, ttl, proto, src, dst, opts⟩ (.slice ao opts.length cap)) := ⟨_, rfl⟩
  have HX : Hid (∀ w', Same W0 w' → HdAt w' w.heap.size ⟨tos, id, flags, frag, ttl, proto, src, dst, opts⟩ (.slice ao opts.length cap)) := by rw [hW]; exact hd_box 34 ⟨tos, id, flags, frag, ttl, proto, src, dst, opts⟩ _ w
  have H0 : Hid (Same w W0) := by rw [hW]; exact Same.alloc w _
  have HW := Lib.hid hW
  clear hW
  have hle : 8980 - (opts.length : Int) < p.length := by omega
  clear hs
  go_enter Try.func22, Try.ntmps22
  go_wp2_with fail
  refine (HGc _ _ _).out.mono ?_
  rintro e w1 ⟨rfl, hs1⟩
  have HS1 : Hid (Same W0 w1) := by rw [HW.out]; exact hs1
  clear hs1
  obtain ⟨c0, c1, c2, c3, c4, c5, c6, c7, c8⟩ := HX.out w1 HS1.out
  go_wp2_with fail
  go_ret
  exact ⟨rfl, H0.out.trans HS1.out⟩

theorem buildB_length (h : Hd) (hg : goodH h) (p : List UInt8) : (buildB h p).length = if sizeH h p ≤ 9000 then sizeH h p else 0 := by
  unfold buildB
  by_cases k : sizeH h p ≤ 9000
  · rw [if_pos ⟨hg, k⟩, if_pos k, List.length_append, sealH_length]; rfl
  · rw [if_neg (fun x => k x.2), if_neg k]; rfl

/-- Build of a Good header: nil where there is no packet -/
theorem riBuildN_any (h : Hd) (hg : goodH h) (hr : HdR h) (p : List UInt8) (vo vp : Value) (w : World) (hb : Bs w vo h.opts) (hp : Bs w vp p) :
    Calls Try.prog 22 #[hdV h vo, vp] w fun e w' => ∃ v, e = .returned v ∧ OwnB w' w.heap.size v (buildB h p) ∧ ((buildB h p).length = 0 → v = nilV) ∧ Same w w' := by
  by_cases k : sizeH h p ≤ 9000
  · refine (riBuild_any h hr p vo vp w hb hp).mono ?_
    rintro e w' ⟨v, he, ho, hs⟩
    refine ⟨v, he, ho, fun h0 => ?_, hs⟩
    rw [buildB_length h hg p, if_pos k] at h0
    unfold sizeH at h0
    omega
  · refine (riBuild_long h hg p vo vp w hb hp (by omega)).mono ?_
    rintro e w' ⟨he, hs⟩
    have e : buildB h p = [] := if_neg fun x => k x.2
    rw [e]
    exact ⟨nilV, he, OwnB.nil _ _, fun _ => rfl, hs⟩

set_option maxRecDepth 100000 in
set_option maxHeartbeats 1000000 in
theorem riWrap_any (v : Value) (l : List UInt8) (src dst : Int) (hs : 0 ≤ src ∧ src ≤ 4294967295) (hd : 0 ≤ dst ∧ dst ≤ 4294967295) (w : World) (hb : Bs w v l) :
    Calls Try.prog 8 #[v, .int .u32 src, .int .u32 dst] w fun e w' => ∃ v', e = .returned (.tuple #[v', .int .i64 (wrapE l)]) ∧ OwnB w' w.heap.size v' (wrapB l src dst) ∧ Same w w' := by
  have HP := fun w hb => Lib.hid (riParse_any v l w hb)
  have HB := Lib.hid hb
  by_cases h0 : parseE l = 0
  · have HWh := fun w hb => Lib.hid (riWhole_any v l w hb h0)
    have HBu := fun vp w hp => Lib.hid (riBuildN_any (arH (parseH l) src dst) (arH_good h0 src dst) ⟨hs, hd⟩ (wholeP l) nilV vp w (Bs.nil w) hp)
    rw [← show wrapB l src dst = buildB (arH (parseH l) src dst) (wholeP l) from if_pos h0] at HBu
    rw [wrapE_iff h0 src dst]
    rw [h0] at HP
    have z2 := i64_and2t (parseH l).flags (parseH_flags l).1 (parseH_flags l).2
    generalize parseH l = H at *
    obtain ⟨q0, q1, q2, q3, q4, q5, q6, q7, q8⟩ := H
    obtain ⟨f, hf2⟩ : ∃ f : Int, f = if q2 / 2 % 2 = 1 then 2 else 0 := ⟨_, rfl⟩
    rw [show arH ⟨q0, q1, q2, q3, q4, q5, q6, q7, q8⟩ src dst = ⟨q0, q1, if q2 / 2 % 2 = 1 then 2 else 0, 0, 64, 4, src, dst, []⟩ from rfl, ← hf2] at HBu
    simp only at z2
    rw [← hf2] at z2
    obtain ⟨n8, hn8⟩ : ∃ n, q8.length = n := ⟨_, rfl⟩
    have HN8 := Lib.hid hn8
    generalize wrapB l src dst = X at *
    generalize wholeP l = P at *
    generalize parseP l = p at *
    clear h0 hn8 hf2
    obtain ⟨ao, cap, rfl, -, -, -, -⟩ := hb
    go_enter Try.func8, Try.ntmps8
    go_wp2_with fail
    refine (HP _ HB.out).out.mono ?_
    rintro e w1 ⟨vo, vp, rfl, ho, hp, hs1⟩
    have HS1 := Lib.hid hs1
    obtain ⟨a1, c1, hv1, -, -, -, -⟩ := ho.bs
    rw [HN8.out] at hv1
    subst hv1
    obtain ⟨b1, d1, rfl, -, -, -, -⟩ := hp.bs
    clear hs1 ho hp
    have HA1 := Lib.hid (Same.alloc w1 (hdO 34 ⟨q0, q1, q2, q3, q4, q5, q6, q7, q8⟩ (.slice a1 n8 c1)))
    have HX1 := Lib.hid (hd_box 34 ⟨q0, q1, q2, q3, q4, q5, q6, q7, q8⟩ (.slice a1 n8 c1) w1)
    generalize p.length = np at *
    go_wp2_with fail
    generalize (w1.alloc (hdO 34 ⟨q0, q1, q2, q3, q4, q5, q6, q7, q8⟩ (.slice a1 n8 c1))) = w2 at *
    refine reg_start (fun w' => Same w2 w') (by kernel_rfl) ?_
    refine reg_take (v := ?_) 0 (some 21) rfl rfl (by kernel_rfl) (fun _ _ _ h => h) (by kernel_rfl) ((Same.refl w2).drew) ?_ ?_
    rotate_left
    · (intro w' hw'; obtain ⟨c0, c1, c2, c3, c4, c5, c6, c7, c8⟩ := HX1.out w' hw'; go_simp; try with_reducible rfl)
    try simp only [Act.put, List.setIfInBounds_toArray, List.set_cons_zero, List.set_cons_succ]
    refine reg_take (v := ?_) 1 (some 22) rfl rfl (by kernel_rfl) (fun _ _ _ h => h) (by kernel_rfl) ((Same.refl w2).drew) ?_ ?_
    rotate_left
    · (intro w' hw'; obtain ⟨c0, c1, c2, c3, c4, c5, c6, c7, c8⟩ := HX1.out w' hw'; go_simp; try with_reducible rfl)
    try simp only [Act.put, List.setIfInBounds_toArray, List.set_cons_zero, List.set_cons_succ]
    refine reg_take (v := ?_) 2 (some 23) rfl rfl (by kernel_rfl) (fun _ _ _ h => h) (by kernel_rfl) ((Same.refl w2).drew) ?_ ?_
    rotate_left
    · (intro w' hw'; obtain ⟨c0, c1, c2, c3, c4, c5, c6, c7, c8⟩ := HX1.out w' hw'; go_simp; try with_reducible rfl)
    try simp only [Act.put, List.setIfInBounds_toArray, List.set_cons_zero, List.set_cons_succ]
    refine reg_take (v := ?_) 3 (some 24) rfl rfl (by kernel_rfl) (fun _ _ _ h => h) (by kernel_rfl) ((Same.refl w2).drew) ?_ ?_
    rotate_left
    · (intro w' hw'; obtain ⟨c0, c1, c2, c3, c4, c5, c6, c7, c8⟩ := HX1.out w' hw'; go_simp; try with_reducible rfl)
    try simp only [Act.put, List.setIfInBounds_toArray, List.set_cons_zero, List.set_cons_succ]
    refine reg_take (v := ?_) 4 (some 25) rfl rfl (by kernel_rfl) (fun _ _ _ h => h) (by kernel_rfl) ((Same.refl w2).drew) ?_ ?_
    rotate_left
    · (intro w' hw'; obtain ⟨c0, c1, c2, c3, c4, c5, c6, c7, c8⟩ := HX1.out w' hw'; go_simp; try with_reducible rfl)
    try simp only [Act.put, List.setIfInBounds_toArray, List.set_cons_zero, List.set_cons_succ]
    refine reg_take (v := ?_) 5 (some 26) rfl rfl (by kernel_rfl) (fun _ _ _ h => h) (by kernel_rfl) ((Same.refl w2).drew) ?_ ?_
    rotate_left
    · (intro w' hw'; obtain ⟨c0, c1, c2, c3, c4, c5, c6, c7, c8⟩ := HX1.out w' hw'; go_simp; try with_reducible rfl)
    try simp only [Act.put, List.setIfInBounds_toArray, List.set_cons_zero, List.set_cons_succ]
    refine reg_take (v := ?_) 6 (some 27) rfl rfl (by kernel_rfl) (fun _ _ _ h => h) (by kernel_rfl) ((Same.refl w2).drew) ?_ ?_
    rotate_left
    · (intro w' hw'; obtain ⟨c0, c1, c2, c3, c4, c5, c6, c7, c8⟩ := HX1.out w' hw'; go_simp; try with_reducible rfl)
    try simp only [Act.put, List.setIfInBounds_toArray, List.set_cons_zero, List.set_cons_succ]
    refine reg_take (v := ?_) 7 (some 28) rfl rfl (by kernel_rfl) (fun _ _ _ h => h) (by kernel_rfl) ((Same.refl w2).drew) ?_ ?_
    rotate_left
    · (intro w' hw'; obtain ⟨c0, c1, c2, c3, c4, c5, c6, c7, c8⟩ := HX1.out w' hw'; go_simp; try with_reducible rfl)
    try simp only [Act.put, List.setIfInBounds_toArray, List.set_cons_zero, List.set_cons_succ]
    refine reg_take (v := ?_) 8 (some 29) rfl rfl (by kernel_rfl) (fun _ _ _ h => h) (by kernel_rfl) ((Same.refl w2).drew) ?_ ?_
    rotate_left
    · (intro w' hw'; obtain ⟨c0, c1, c2, c3, c4, c5, c6, c7, c8⟩ := HX1.out w' hw'; go_simp; try with_reducible rfl)
    try simp only [Act.put, List.setIfInBounds_toArray, List.set_cons_zero, List.set_cons_succ]
    refine reg_take (v := ?_) 9 (some 30) rfl rfl (by kernel_rfl) (fun _ _ _ h => h) (by kernel_rfl) ((Same.refl w2).drew) ?_ ?_
    rotate_left
    · (intro w' hw'; obtain ⟨c0, c1, c2, c3, c4, c5, c6, c7, c8⟩ := HX1.out w' hw'; go_simp; try with_reducible rfl)
    try simp only [Act.put, List.setIfInBounds_toArray, List.set_cons_zero, List.set_cons_succ]
    refine reg_take (v := ?_) 10 (some 31) rfl rfl (by kernel_rfl) (fun _ _ _ h => h) (by kernel_rfl) ((Same.refl w2).drew) ?_ ?_
    rotate_left
    · (intro w' hw'; obtain ⟨c0, c1, c2, c3, c4, c5, c6, c7, c8⟩ := HX1.out w' hw'; go_simp; try with_reducible rfl)
    try simp only [Act.put, List.setIfInBounds_toArray, List.set_cons_zero, List.set_cons_succ]
    refine reg_one 11 rfl (by kernel_rfl) (by kernel_rfl) ?_
    go_simp
    refine ((HWh _ (HB.out.same ((HS1.out.trans HA1.out).trans (Same.refl w2).drew))).out).mono ?_
    rintro e u1 ⟨v3, rfl, ho3, hs1⟩
    have hS1 := ((Same.refl w2).drew).trans hs1
    have HO3 := Lib.hid ho3; clear ho3
    refine ⟨hS1, ?_⟩
    try simp only [Act.put, List.setIfInBounds_toArray, List.set_cons_zero, List.set_cons_succ]
    refine reg_one 12 rfl (by kernel_rfl) (by kernel_rfl) ?_
    go_simp
    refine ((HBu _ _ HO3.out.bs).out).mono ?_
    rintro e u2 ⟨v4, rfl, ho4, hz4, hs2⟩
    have hS2 := (hS1).trans hs2
    have HO4 := Lib.hid ho4; have HZ4 := Lib.hid hz4; clear ho4 hz4
    refine ⟨hS2, ?_⟩
    try simp only [Act.put, List.setIfInBounds_toArray, List.set_cons_zero, List.set_cons_succ]
    refine reg_take (v := ?_) 13 (some 11) rfl rfl (by kernel_rfl) (fun _ _ _ h => h) (by kernel_rfl) (hS2) ?_ ?_
    rotate_left
    · (intro w' hw'; obtain ⟨c0, c1, c2, c3, c4, c5, c6, c7, c8⟩ := HX1.out w' hw'; go_simp; try with_reducible rfl)
    try simp only [Act.put, List.setIfInBounds_toArray, List.set_cons_zero, List.set_cons_succ]
    refine reg_done (by kernel_rfl) ?_
    have HSw := Lib.hid ((HS1.out.trans HA1.out).trans hS2)
    have HOX : Hid (OwnB u2 w.heap.size v4 X) := HO4.out.mono (by have := (HS1.out.trans HA1.out).size; have := hS1.size; omega)
    by_cases k : X.length = 0
    · have hz := HZ4.out k
      subst hz
      obtain rfl : X = [] := List.eq_nil_of_length_eq_zero k
      clear k HOX HO4 HZ4
      have hr := fun (w : World) => Lib.run_eql_slice_nil (P := Try.prog) w 22 _ none 0 0 0 0 Try.underlying22
      go_wp2_with fail
      refine bodyPost_ret (v := .tuple #[nilV, .int .i64 10]) ?_ rfl ⟨_, rfl, OwnB.nil _ _, HSw.out⟩
      simp [results, Try.results8, go_sem]
    · obtain ⟨g, cg, hv4, hcg, -⟩ := HOX.out.form (by omega)
      have HOX2 := Lib.hid HOX.out
      have HK := Lib.hid k
      obtain ⟨nX, hnX⟩ : ∃ n, X.length = n := ⟨_, rfl⟩
      rw [hnX] at hv4
      subst hv4
      clear HO4 HZ4 HOX k hcg hnX
      have hr := fun (w : World) => Lib.run_eql_slice_nil (P := Try.prog) w 22 _ (some ⟨g, 0, none⟩) nX cg 0 0 Try.underlying22
      go_wp2_with fail
      refine bodyPost_ret (v := .tuple #[.slice (some ⟨g, 0, none⟩) nX cg, .int .i64 0]) ?_ rfl ⟨_, by first | rfl | rw [if_neg HK.out], HOX2.out, HSw.out⟩
      simp [results, Try.results8, go_sem]
  · rw [show wrapE l = parseE l from if_pos h0, show wrapB l src dst = [] from if_neg h0]
    have e1 : parseH l = zeroH := if_neg h0
    rw [e1] at HP
    have hE : (parseE l != 0) = true := by simpa using h0
    generalize parseE l = E at *
    generalize parseP l = p at *
    clear h0 e1
    obtain ⟨ao, cap, rfl, -, -, -, -⟩ := hb
    go_enter Try.func8, Try.ntmps8
    go_wp2_with fail
    refine (HP _ HB.out).out.mono ?_
    rintro e w1 ⟨vo, vp, rfl, ho, hp, hs1⟩
    have HS1 := Lib.hid hs1
    obtain ⟨a1, c1, hv1, -, -, -, -⟩ := ho.bs
    rw [show zeroH.opts.length = 0 from rfl] at hv1
    subst hv1
    obtain ⟨b1, d1, rfl, -, -, -, -⟩ := hp.bs
    clear hs1 ho hp
    have HA1 := Lib.hid (Same.alloc w1 (hdO 34 zeroH (.slice a1 0 c1)))
    go_wp2_with fail
    refine bodyPost_ret (v := .tuple #[nilV, .int .i64 E]) ?_ rfl ⟨_, rfl, OwnB.nil _ _, HS1.out.trans HA1.out⟩
    simp [results, Try.results8, go_sem]
end Go.Proofs.Yteoleblnhcnpkaa
