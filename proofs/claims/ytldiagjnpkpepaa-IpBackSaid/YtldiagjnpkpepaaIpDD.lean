/- Contracts of the developers' layer 4: Same; the document's example. No condition beyond what each names. -/
import Derived.Test.YtldiagjnpkpepaaIpDC
import Derived.Laws.StructEq
namespace Go.Proofs.Ytldiagjnpkpepaa
open Go.RowKit
set_option linter.unusedVariables false

theorem all_range_nums : ∀ (xs ys : List Int), xs.length = ys.length → ((List.range xs.length).all fun i => xs.getD i 0 == ys.getD i 0) = (xs == ys)
  | [], [], _ => rfl
  | x :: xs, y :: ys, h => by
    have ih := all_range_nums xs ys (by simpa using h)
    rw [List.length_cons, List.range_succ_eq_map, List.all_cons, List.all_map]
    simp only [List.getD_cons_zero, Function.comp_def, List.getD_cons_succ, ih]
    simp [List.cons_beq_cons]
  | [], _ :: _, h => by simp at h
  | _ :: _, [], h => by simp at h

/-- arrays of numbers held against each other -/
theorem run_eql_nums {P : Program} (w : World) (t e : TypeId) (n : Nat) (ht : P.underlying t = some (.array n e)) (he : P.underlying e = some (.int .i64)) (hsz : ∀ w, (sizeOf e).run P w = .ok 1 w)
    (xs ys : List Int) (hx : xs.length = n) (hy : ys.length = n) :
    (binOp .eql t (.agg (xs.map (Value.int .i64)).toArray) (.agg (ys.map (Value.int .i64)).toArray)).run P w = .ok (.bool (xs == ys)) w := by
  have key : (Op.equalIn (9998 + 2) t (.agg (xs.map (Value.int .i64)).toArray) (.agg (ys.map (Value.int .i64)).toArray)).run P w = .ok (xs == ys) w := by
    rw [← all_range_nums xs ys (hx.trans hy.symm), hx, List.range_eq_range', Op.equalIn]
    simp only [Sem.run_bind, run_underlying ht, Result.andThen_ok, hsz, Std.Legacy.Range.forIn_eq_forIn_range', Std.Legacy.Range.size, Nat.sub_zero, Nat.add_sub_cancel, Nat.div_one]
    have hl : ∀ i ∈ List.range' 0 n 1, i < n := fun i hi => by simpa using (List.mem_range'_1.1 hi).2
    generalize List.range' 0 n 1 = l at hl ⊢
    induction l with
    | nil => simp
    | cons i l ih =>
      have hi : i < n := hl i (by simp)
      have px : (part e (xs.map (Value.int .i64)).toArray (i * 1)).run P w = .ok (.int .i64 (xs.getD i 0)) w := by
        simp [part, isAgg, run_underlying he, List.getD, List.getElem?_eq_getElem (show i < xs.length by omega)]
      have py : (part e (ys.map (Value.int .i64)).toArray (i * 1)).run P w = .ok (.int .i64 (ys.getD i 0)) w := by
        simp [part, isAgg, run_underlying he, List.getD, List.getElem?_eq_getElem (show i < ys.length by omega)]
      have pe : (Op.equalIn (9998 + 1) e (.int .i64 (xs.getD i 0)) (.int .i64 (ys.getD i 0))).run P w = .ok (xs.getD i 0 == ys.getD i 0) w := by
        rw [run_equalIn_int w 9998 e .i64 .i64 _ _ he]
      simp only [List.forIn_cons, Sem.run_bind, px, py, pe, Result.andThen_ok, List.all_cons]
      cases hb : (xs.getD i 0 == ys.getD i 0)
      · simp
      · simp only [Bool.not_true, Bool.false_eq_true, if_false, Sem.run_pure, Result.andThen_ok, Bool.true_and]
        exact ih fun j hj => hl j (by simp [hj])
  rw [run_eql_struct, key]
  rfl

/-- all but the options -/
abbrev numsV (h : Hd) : Value := .agg #[.int .i64 h.tos, .int .i64 h.id, .int .i64 h.flags, .int .i64 h.frag, .int .i64 h.ttl, .int .i64 h.proto, .int .i64 h.src, .int .i64 h.dst]
def numsL (h : Hd) : List Int := [h.tos, h.id, h.flags, h.frag, h.ttl, h.proto, h.src, h.dst]
theorem int_size : (Try.prog.info? 3).map (·.size) = some 1 := by kernel_rfl
theorem run_eql_hd (h g : Hd) (w : World) : (binOp .eql 68 (numsV h) (numsV g)).run Try.prog w = .ok (.bool (numsL h == numsL g)) w := by
  have hsz : ∀ w, (sizeOf 3).run Try.prog w = .ok 1 w := fun w => by
    cases hq : Try.prog.info? 3 with
    | none => have := int_size; rw [hq] at this; cases this
    | some i => have := int_size; rw [hq] at this; simp at this; simp [sizeOf, typeInfo, hq, this]
  exact run_eql_nums w 68 3 8 Try.underlying68 Try.underlying3 hsz (numsL h) (numsL g) rfl rfl

theorem ipNums_any (h : Hd) (hr : HdR h) (ao : Option Addr) (n cap : Nat) (w : World) : Calls Try.prog 43 #[hdV h (.slice ao n cap)] w fun e w' => e = .returned (numsV h) ∧ Same w w' := by
  obtain ⟨tos, id, flags, frag, ttl, proto, src, dst, opts⟩ := h
  obtain ⟨⟨p1, p2⟩, p3, p4⟩ := hr
  simp only at p1 p2 p3 p4
  go_enter Try.func43, Try.ntmps43
  go_wp2_with fail
  refine bodyPost_ret (v := numsV ⟨tos, id, flags, frag, ttl, proto, src, dst, opts⟩) ?_ rfl ⟨rfl, (Same.alloc w _).trans (Same.alloc _ _)⟩
  simp [results, Try.results43, go_sem]

theorem ipEqual_any (v u : Value) (l m : List UInt8) (w : World) (hb : Bs w v l) (hc : Bs w u m) : Calls Try.prog 44 #[v, u] w fun e w' => e = .returned (.bool (decide (l = m))) ∧ Same w w' := by
  have hr1 := run_str w v l hb
  have hr2 := run_str w u m hc
  have hs := str_eq l m
  obtain ⟨ao, cap, rfl, -, -, -, -⟩ := hb
  obtain ⟨ap, caq, rfl, -, -, -, -⟩ := hc
  rw [← hs]
  clear hs
  generalize (⟨l.toArray⟩ : ByteArray) = s1 at *
  generalize (⟨m.toArray⟩ : ByteArray) = s2 at *
  go_enter Try.func44, Try.ntmps44
  go_wp2_with fail
  go_ret
  exact ⟨rfl, Same.refl _⟩

theorem sameH_nums (h g : Hd) : sameH h g = ((numsL h == numsL g) && decide (h.opts = g.opts)) := by
  obtain ⟨a0, a1, a2, a3, a4, a5, a6, a7, a8⟩ := h
  obtain ⟨b0, b1, b2, b3, b4, b5, b6, b7, b8⟩ := g
  simp only [sameH, numsL, List.cons_beq_cons, Bool.and_assoc]
  simp

set_option maxRecDepth 100000 in
theorem ipSame_any (h g : Hd) (hr : HdR h) (gr : HdR g) (vo vp : Value) (w : World) (hb : Bs w vo h.opts) (hc : Bs w vp g.opts) : Calls Try.prog 20 #[hdV h vo, hdV g vp] w fun e w' => e = .returned (.bool (sameH h g)) ∧ Same w w' := by
  rw [sameH_nums]
  have HN1 := fun ao n cap w => Lib.hid (ipNums_any h hr ao n cap w)
  have HN2 := fun ao n cap w => Lib.hid (ipNums_any g gr ao n cap w)
  have HEQ := fun w => run_eql_hd h g w
  have HB := Lib.hid hb
  have HC := Lib.hid hc
  obtain ⟨ao, cap, rfl, -, -, -, -⟩ := hb
  obtain ⟨ap, caq, rfl, -, -, -, -⟩ := hc
  generalize (numsL h == numsL g) = q at *
  obtain ⟨a0, a1, a2, a3, a4, a5, a6, a7, a8⟩ := h
  obtain ⟨b0, b1, b2, b3, b4, b5, b6, b7, b8⟩ := g
  obtain ⟨W0, hW⟩ : ∃ W0, W0 = (w.alloc (hdO 31 ⟨a0, a1, a2, a3, a4, a5, a6, a7, a8⟩ (.slice ao a8.length cap))).alloc (hdO 31 ⟨b0, b1, b2, b3, b4, b5, b6, b7, b8⟩ (.slice ap b8.length caq)) := ⟨_, rfl⟩
  have H0 : Hid (Same w W0) := by rw [hW]; exact (Same.alloc w _).trans (Same.alloc _ _)
  have HX : Hid (∀ w', Same W0 w' → HdAt w' w.heap.size ⟨a0, a1, a2, a3, a4, a5, a6, a7, a8⟩ (.slice ao a8.length cap)) := by
    rw [hW]; exact fun w' hs => hd_box 31 _ _ w w' ((Same.alloc _ _).trans hs)
  have HY : Hid (∀ w', Same W0 w' → HdAt w' (w.heap.size + 1) ⟨b0, b1, b2, b3, b4, b5, b6, b7, b8⟩ (.slice ap b8.length caq)) := by
    rw [hW]; intro w' hs
    have := hd_box 31 ⟨b0, b1, b2, b3, b4, b5, b6, b7, b8⟩ (.slice ap b8.length caq) _ w' hs
    simpa using this
  cases q
  · go_enter Try.func20, Try.ntmps20
    go_wp2_with fail
    rw [← hW]
    clear hW
    refine reg_start (fun w' => Same W0 w') (by kernel_rfl) ?_
    refine reg_take (v := ?_) 0 (some 5) rfl rfl (by kernel_rfl) (fun _ _ _ h => h) (by kernel_rfl) ((Same.refl W0).drew) ?_ ?_
    rotate_left
    · (intro w' hw'; obtain ⟨c0, c1, c2, c3, c4, c5, c6, c7, c8⟩ := HX.out w' hw'; obtain ⟨d0, d1, d2, d3, d4, d5, d6, d7, d8⟩ := HY.out w' hw'; go_simp; try with_reducible rfl)
    try simp only [Act.put, List.setIfInBounds_toArray, List.set_cons_zero, List.set_cons_succ]
    refine reg_take (v := ?_) 2 (some 7) rfl rfl (by kernel_rfl) (fun _ _ _ h => h) (by kernel_rfl) ((Same.refl W0).drew) ?_ ?_
    rotate_left
    · (intro w' hw'; obtain ⟨c0, c1, c2, c3, c4, c5, c6, c7, c8⟩ := HX.out w' hw'; obtain ⟨d0, d1, d2, d3, d4, d5, d6, d7, d8⟩ := HY.out w' hw'; go_simp; try with_reducible rfl)
    try simp only [Act.put, List.setIfInBounds_toArray, List.set_cons_zero, List.set_cons_succ]
    refine reg_one 1 rfl (by kernel_rfl) (by kernel_rfl) ?_
    go_simp
    refine ((HN1 _ _ _ _).out).mono ?_
    rintro e u1 ⟨rfl, hs1⟩
    have hS1 := ((Same.refl W0).drew).trans hs1
    skip
    refine ⟨hS1, ?_⟩
    try simp only [Act.put, List.setIfInBounds_toArray, List.set_cons_zero, List.set_cons_succ]
    refine reg_one 3 rfl (by kernel_rfl) (by kernel_rfl) ?_
    go_simp
    refine ((HN2 _ _ _ _).out).mono ?_
    rintro e u2 ⟨rfl, hs2⟩
    have hS2 := (hS1).trans hs2
    skip
    refine ⟨hS2, ?_⟩
    try simp only [Act.put, List.setIfInBounds_toArray, List.set_cons_zero, List.set_cons_succ]
    refine reg_take (v := ?_) 4 (some 9) rfl rfl (by kernel_rfl) (fun _ _ _ h => h) (by kernel_rfl) (hS2) ?_ ?_
    rotate_left
    · (intro w' hw'; obtain ⟨c0, c1, c2, c3, c4, c5, c6, c7, c8⟩ := HX.out w' hw'; obtain ⟨d0, d1, d2, d3, d4, d5, d6, d7, d8⟩ := HY.out w' hw'; go_simp; try with_reducible rfl)
    try simp only [Act.put, List.setIfInBounds_toArray, List.set_cons_zero, List.set_cons_succ]
    refine reg_take (v := ?_) 5 (some 10) rfl rfl (by kernel_rfl) (fun _ _ _ h => h) (by kernel_rfl) (hS2) ?_ ?_
    rotate_left
    · (intro w' hw'; obtain ⟨c0, c1, c2, c3, c4, c5, c6, c7, c8⟩ := HX.out w' hw'; obtain ⟨d0, d1, d2, d3, d4, d5, d6, d7, d8⟩ := HY.out w' hw'; go_simp; try with_reducible rfl)
    try simp only [Act.put, List.setIfInBounds_toArray, List.set_cons_zero, List.set_cons_succ]
    refine reg_skip 6 (some 11) rfl rfl (by kernel_rfl) (fun _ _ _ h => h) (by kernel_rfl) (hS2) ?_
    try simp only [Act.put, List.setIfInBounds_toArray, List.set_cons_zero, List.set_cons_succ]
    refine reg_skip 7 (some 12) rfl rfl (by kernel_rfl) (fun _ _ _ h => h) (by kernel_rfl) (hS2) ?_
    try simp only [Act.put, List.setIfInBounds_toArray, List.set_cons_zero, List.set_cons_succ]
    refine reg_skip 8 (some 13) rfl rfl (by kernel_rfl) (fun _ _ _ h => h) (by kernel_rfl) (hS2) ?_
    try simp only [Act.put, List.setIfInBounds_toArray, List.set_cons_zero, List.set_cons_succ]
    refine reg_skip 9 (some 14) rfl rfl (by kernel_rfl) (fun _ _ _ h => h) (by kernel_rfl) (hS2) ?_
    try simp only [Act.put, List.setIfInBounds_toArray, List.set_cons_zero, List.set_cons_succ]
    refine reg_skip 10 (some 15) rfl rfl (by kernel_rfl) (fun _ _ _ h => h) (by kernel_rfl) (hS2) ?_
    try simp only [Act.put, List.setIfInBounds_toArray, List.set_cons_zero, List.set_cons_succ]
    refine reg_take (v := ?_) 11 (some 16) rfl rfl (by kernel_rfl) (fun _ _ _ h => h) (by kernel_rfl) (hS2) ?_ ?_
    rotate_left
    · (intro w' hw'; obtain ⟨c0, c1, c2, c3, c4, c5, c6, c7, c8⟩ := HX.out w' hw'; obtain ⟨d0, d1, d2, d3, d4, d5, d6, d7, d8⟩ := HY.out w' hw'; go_simp; try with_reducible rfl)
    try simp only [Act.put, List.setIfInBounds_toArray, List.set_cons_zero, List.set_cons_succ]
    refine reg_take (v := ?_) 12 (some 4) rfl rfl (by kernel_rfl) (fun _ _ _ h => h) (by kernel_rfl) (hS2) ?_ ?_
    rotate_left
    · (intro w' hw'; obtain ⟨c0, c1, c2, c3, c4, c5, c6, c7, c8⟩ := HX.out w' hw'; obtain ⟨d0, d1, d2, d3, d4, d5, d6, d7, d8⟩ := HY.out w' hw'; go_simp; try with_reducible rfl)
    try simp only [Act.put, List.setIfInBounds_toArray, List.set_cons_zero, List.set_cons_succ]
    refine reg_done (by kernel_rfl) ?_
    go_wp2_with fail
    go_ret
    exact ⟨by simp, H0.out.trans hS2⟩
  · go_enter Try.func20, Try.ntmps20
    go_wp2_with fail
    rw [← hW]
    clear hW
    refine reg_start (fun w' => Same W0 w') (by kernel_rfl) ?_
    refine reg_take (v := ?_) 0 (some 5) rfl rfl (by kernel_rfl) (fun _ _ _ h => h) (by kernel_rfl) ((Same.refl W0).drew) ?_ ?_
    rotate_left
    · (intro w' hw'; obtain ⟨c0, c1, c2, c3, c4, c5, c6, c7, c8⟩ := HX.out w' hw'; obtain ⟨d0, d1, d2, d3, d4, d5, d6, d7, d8⟩ := HY.out w' hw'; go_simp; try with_reducible rfl)
    try simp only [Act.put, List.setIfInBounds_toArray, List.set_cons_zero, List.set_cons_succ]
    refine reg_take (v := ?_) 2 (some 7) rfl rfl (by kernel_rfl) (fun _ _ _ h => h) (by kernel_rfl) ((Same.refl W0).drew) ?_ ?_
    rotate_left
    · (intro w' hw'; obtain ⟨c0, c1, c2, c3, c4, c5, c6, c7, c8⟩ := HX.out w' hw'; obtain ⟨d0, d1, d2, d3, d4, d5, d6, d7, d8⟩ := HY.out w' hw'; go_simp; try with_reducible rfl)
    try simp only [Act.put, List.setIfInBounds_toArray, List.set_cons_zero, List.set_cons_succ]
    refine reg_one 1 rfl (by kernel_rfl) (by kernel_rfl) ?_
    go_simp
    refine ((HN1 _ _ _ _).out).mono ?_
    rintro e u1 ⟨rfl, hs1⟩
    have hS1 := ((Same.refl W0).drew).trans hs1
    skip
    refine ⟨hS1, ?_⟩
    try simp only [Act.put, List.setIfInBounds_toArray, List.set_cons_zero, List.set_cons_succ]
    refine reg_one 3 rfl (by kernel_rfl) (by kernel_rfl) ?_
    go_simp
    refine ((HN2 _ _ _ _).out).mono ?_
    rintro e u2 ⟨rfl, hs2⟩
    have hS2 := (hS1).trans hs2
    skip
    refine ⟨hS2, ?_⟩
    try simp only [Act.put, List.setIfInBounds_toArray, List.set_cons_zero, List.set_cons_succ]
    refine reg_take (v := ?_) 4 (some 9) rfl rfl (by kernel_rfl) (fun _ _ _ h => h) (by kernel_rfl) (hS2) ?_ ?_
    rotate_left
    · (intro w' hw'; obtain ⟨c0, c1, c2, c3, c4, c5, c6, c7, c8⟩ := HX.out w' hw'; obtain ⟨d0, d1, d2, d3, d4, d5, d6, d7, d8⟩ := HY.out w' hw'; go_simp; try with_reducible rfl)
    try simp only [Act.put, List.setIfInBounds_toArray, List.set_cons_zero, List.set_cons_succ]
    refine reg_take (v := ?_) 5 (some 10) rfl rfl (by kernel_rfl) (fun _ _ _ h => h) (by kernel_rfl) (hS2) ?_ ?_
    rotate_left
    · (intro w' hw'; obtain ⟨c0, c1, c2, c3, c4, c5, c6, c7, c8⟩ := HX.out w' hw'; obtain ⟨d0, d1, d2, d3, d4, d5, d6, d7, d8⟩ := HY.out w' hw'; go_simp; try with_reducible rfl)
    try simp only [Act.put, List.setIfInBounds_toArray, List.set_cons_zero, List.set_cons_succ]
    refine reg_take (v := ?_) 6 (some 11) rfl rfl (by kernel_rfl) (fun _ _ _ h => h) (by kernel_rfl) (hS2) ?_ ?_
    rotate_left
    · (intro w' hw'; obtain ⟨c0, c1, c2, c3, c4, c5, c6, c7, c8⟩ := HX.out w' hw'; obtain ⟨d0, d1, d2, d3, d4, d5, d6, d7, d8⟩ := HY.out w' hw'; go_simp; try with_reducible rfl)
    try simp only [Act.put, List.setIfInBounds_toArray, List.set_cons_zero, List.set_cons_succ]
    refine reg_take (v := ?_) 7 (some 12) rfl rfl (by kernel_rfl) (fun _ _ _ h => h) (by kernel_rfl) (hS2) ?_ ?_
    rotate_left
    · (intro w' hw'; obtain ⟨c0, c1, c2, c3, c4, c5, c6, c7, c8⟩ := HX.out w' hw'; obtain ⟨d0, d1, d2, d3, d4, d5, d6, d7, d8⟩ := HY.out w' hw'; go_simp; try with_reducible rfl)
    try simp only [Act.put, List.setIfInBounds_toArray, List.set_cons_zero, List.set_cons_succ]
    refine reg_take (v := ?_) 8 (some 13) rfl rfl (by kernel_rfl) (fun _ _ _ h => h) (by kernel_rfl) (hS2) ?_ ?_
    rotate_left
    · (intro w' hw'; obtain ⟨c0, c1, c2, c3, c4, c5, c6, c7, c8⟩ := HX.out w' hw'; obtain ⟨d0, d1, d2, d3, d4, d5, d6, d7, d8⟩ := HY.out w' hw'; go_simp; try with_reducible rfl)
    try simp only [Act.put, List.setIfInBounds_toArray, List.set_cons_zero, List.set_cons_succ]
    refine reg_take (v := ?_) 9 (some 14) rfl rfl (by kernel_rfl) (fun _ _ _ h => h) (by kernel_rfl) (hS2) ?_ ?_
    rotate_left
    · (intro w' hw'; obtain ⟨c0, c1, c2, c3, c4, c5, c6, c7, c8⟩ := HX.out w' hw'; obtain ⟨d0, d1, d2, d3, d4, d5, d6, d7, d8⟩ := HY.out w' hw'; go_simp; try with_reducible rfl)
    try simp only [Act.put, List.setIfInBounds_toArray, List.set_cons_zero, List.set_cons_succ]
    refine reg_one 10 rfl (by kernel_rfl) (by kernel_rfl) ?_
    go_simp
    refine ((ipEqual_any _ _ a8 b8 _ (HB.out.same (H0.out.trans hS2)) (HC.out.same (H0.out.trans hS2)))).mono ?_
    rintro e u3 ⟨rfl, hs3⟩
    have hS3 := (hS2).trans hs3
    skip
    refine ⟨hS3, ?_⟩
    try simp only [Act.put, List.setIfInBounds_toArray, List.set_cons_zero, List.set_cons_succ]
    refine reg_take (v := ?_) 11 (some 16) rfl rfl (by kernel_rfl) (fun _ _ _ h => h) (by kernel_rfl) (hS3) ?_ ?_
    rotate_left
    · (intro w' hw'; obtain ⟨c0, c1, c2, c3, c4, c5, c6, c7, c8⟩ := HX.out w' hw'; obtain ⟨d0, d1, d2, d3, d4, d5, d6, d7, d8⟩ := HY.out w' hw'; go_simp; try with_reducible rfl)
    try simp only [Act.put, List.setIfInBounds_toArray, List.set_cons_zero, List.set_cons_succ]
    refine reg_take (v := ?_) 12 (some 4) rfl rfl (by kernel_rfl) (fun _ _ _ h => h) (by kernel_rfl) (hS3) ?_ ?_
    rotate_left
    · (intro w' hw'; obtain ⟨c0, c1, c2, c3, c4, c5, c6, c7, c8⟩ := HX.out w' hw'; obtain ⟨d0, d1, d2, d3, d4, d5, d6, d7, d8⟩ := HY.out w' hw'; go_simp; try with_reducible rfl)
    try simp only [Act.put, List.setIfInBounds_toArray, List.set_cons_zero, List.set_cons_succ]
    refine reg_done (by kernel_rfl) ?_
    go_wp2_with fail
    go_ret
    exact ⟨by simp, H0.out.trans hS3⟩
end Go.Proofs.Ytldiagjnpkpepaa
