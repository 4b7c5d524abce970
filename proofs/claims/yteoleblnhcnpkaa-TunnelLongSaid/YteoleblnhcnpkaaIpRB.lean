/- Contracts of the document's own answers for layer 4: a head's bytes, Build. No condition beyond what each names. -/
import Derived.Test.YteoleblnhcnpkaaIpRA
import Derived.Test.YteoleblnhcnpkaaRefP
namespace Go.Proofs.Yteoleblnhcnpkaa
open Go.RowKit
set_option linter.unusedVariables false

/-- the cells of a boxed header -/
def HdAt (w : World) (B : Nat) (h : Hd) (vo : Value) : Prop :=
  w.cell? ⟨B, 0, none⟩ = some (.int .i64 h.tos) ∧ w.cell? ⟨B, 1, none⟩ = some (.int .i64 h.id) ∧ w.cell? ⟨B, 2, none⟩ = some (.int .i64 h.flags) ∧ w.cell? ⟨B, 3, none⟩ = some (.int .i64 h.frag) ∧
  w.cell? ⟨B, 4, none⟩ = some (.int .i64 h.ttl) ∧ w.cell? ⟨B, 5, none⟩ = some (.int .i64 h.proto) ∧ w.cell? ⟨B, 6, none⟩ = some (.int .u32 h.src) ∧ w.cell? ⟨B, 7, none⟩ = some (.int .u32 h.dst) ∧ w.cell? ⟨B, 8, none⟩ = some vo
theorem HdAt.of {w : World} {B : Nat} {t : TypeId} {h : Hd} {vo : Value} (hk : w.heap[B]? = some (hdO t h vo)) : HdAt w B h vo := by
  refine ⟨?_, ?_, ?_, ?_, ?_, ?_, ?_, ?_, ?_⟩ <;> simp [World.cell?, hk]
theorem hd_box (t : TypeId) (h : Hd) (vo : Value) (w w' : World) (hs : Same (w.alloc (hdO t h vo)) w') : HdAt w' w.heap.size h vo := HdAt.of (hs.block (heap_alloc_new w _))
theorem HdAt.same {w w' : World} {B : Nat} {h : Hd} {vo : Value} (hs : Same w w') (hk : HdAt w B h vo) : HdAt w' B h vo := by
  obtain ⟨k0, k1, k2, k3, k4, k5, k6, k7, k8⟩ := hk
  have f : ∀ {j v}, w.cell? ⟨B, j, none⟩ = some v → w'.cell? ⟨B, j, none⟩ = some v := fun {j v} hc => by rw [Below.cell hs (World.block_lt_of_cell? w _ hc)]; exact hc
  exact ⟨f k0, f k1, f k2, f k3, f k4, f k5, f k6, f k7, f k8⟩

theorem u64_id {n : Int} (h0 : 0 ≤ n) (h1 : n ≤ 18446744073709551615) : IntKind.u64.wrap n = n := by rw [IntKind.wrap_u64]; omega
theorem Bs.two (w : World) (a b : UInt8) : Bs (w.alloc (.cells #[b8 a, b8 b] 5)) (.slice (some ⟨w.heap.size, 0, none⟩) 2 2) [a, b] := by simpa using Bs.made w [a, b] 5 (by simp)
theorem OwnB.two (w : World) (a b : UInt8) : OwnB (w.alloc (.cells #[b8 a, b8 b] 5)) w.heap.size (.slice (some ⟨w.heap.size, 0, none⟩) 2 2) [a, b] := by
  have := World.ownsRow_lit (base := w.heap.size) (e := 5) (size := 1) w #[b8 a, b8 b] 2 (Nat.le_refl _) (by unfold maxLen; omega) (by simp)
  simpa [OwnB] using this
theorem u8v {n : Int} (h0 : 0 ≤ n) (h1 : n ≤ 255) : b8 (byteAt n 0) = .int .u8 n := by rw [b8_byteAt]; congr 1; omega
theorem rPut_u32 (v : Value) (l : List UInt8) (n : Int) (w : World) (hb : Bs w v l) (hl : l.length + 4 ≤ 140737488355328) (h0 : 0 ≤ n) (h1 : n ≤ 4294967295) :
    Calls Try.prog 67 #[v, .int .u64 (IntKind.u64.wrap n), .int .i64 4] w fun e w' => ∃ v', e = .returned v' ∧ OwnB w' w.heap.size v' (l ++ [byteAt n 3, byteAt n 2, byteAt n 1, byteAt n 0]) ∧ Same w w' := by
  rw [u64_id h0 (by omega)]
  exact rPut_four v l n w hb hl h0 (by omega)

set_option maxRecDepth 100000 in
set_option maxHeartbeats 1000000 in
theorem riHead_any (h : Hd) (hg : goodH h) (hsrc : 0 ≤ h.src ∧ h.src ≤ 4294967295) (hdst : 0 ≤ h.dst ∧ h.dst ≤ 4294967295) (n s : Int) (hn : 0 ≤ n ∧ n ≤ 65535) (hs : 0 ≤ s ∧ s ≤ 65535) (vo : Value) (w : World) (hb : Bs w vo h.opts) :
    Calls Try.prog 44 #[hdV h vo, .int .i64 n, .int .i64 s] w fun e w' => ∃ v, e = .returned v ∧ OwnB w' w.heap.size v (headB h n s) ∧ Same w w' := by
  obtain ⟨tos, id, flags, frag, ttl, proto, src, dst, opts⟩ := h
  have HG := Lib.hid hg
  have HB := Lib.hid hb
  obtain ⟨⟨g0, g1⟩, ⟨g2, g3⟩, ⟨g4, g5⟩, ⟨g6, g7⟩, ⟨g8, g9⟩, ⟨g10, g11⟩, g12, g13⟩ := hg
  obtain ⟨p1, p2⟩ := hsrc
  obtain ⟨p3, p4⟩ := hdst
  obtain ⟨p5, p6⟩ := hn
  obtain ⟨p7, p8⟩ := hs
  simp only at g0 g1 g2 g3 g4 g5 g6 g7 g8 g9 g10 g11 g12 g13 p1 p2 p3 p4
  obtain ⟨ao, cap, rfl, q1, q2, -, -⟩ := hb
  obtain ⟨W0, hW⟩ : ∃ W0, W0 = w.alloc (hdO 34 ⟨tos, id, flags, frag, ttl, proto, src, dst, opts⟩ (.slice ao opts.length cap)) := ⟨_, rfl⟩
  have HX : Hid (∀ w', Same W0 w' → HdAt w' w.heap.size ⟨tos, id, flags, frag, ttl, proto, src, dst, opts⟩ (.slice ao opts.length cap)) := by rw [hW]; exact hd_box 34 ⟨tos, id, flags, frag, ttl, proto, src, dst, opts⟩ _ w
  have H0 : Hid (Same w W0) := by rw [hW]; exact Same.alloc w _
  have HZ : Hid (W0.heap.size = w.heap.size + 1) := by rw [hW]; simp [Hid]
  have HW := Lib.hid hW
  clear hW
  have v1 : b8 (byteAt (64 + (20 + (opts.length : Int)) / 4) 0) = .int .u8 (64 + (20 + (opts.length : Int)) / 4) := u8v (by omega) (by omega)
  have v2 : b8 (byteAt tos 0) = .int .u8 tos := u8v g0 g1
  have v3 : b8 (byteAt ttl 0) = .int .u8 ttl := u8v g2 g3
  have v4 : b8 (byteAt proto 0) = .int .u8 proto := u8v g4 g5
  have HT : Hid (Bs ((w.alloc (hdO 34 ⟨tos, id, flags, frag, ttl, proto, src, dst, opts⟩ (.slice ao opts.length cap))).alloc (.cells #[.int .u8 (64 + (20 + (opts.length : Int)) / 4), .int .u8 tos] 5)) (.slice (some ⟨w.heap.size + 1, 0, none⟩) 2 2) [byteAt (64 + (20 + (opts.length : Int)) / 4) 0, byteAt tos 0]) := by
    have := Bs.two (w.alloc (hdO 34 ⟨tos, id, flags, frag, ttl, proto, src, dst, opts⟩ (.slice ao opts.length cap))) (byteAt (64 + (20 + (opts.length : Int)) / 4) 0) (byteAt tos 0)
    rw [v1, v2, show (w.alloc (hdO 34 ⟨tos, id, flags, frag, ttl, proto, src, dst, opts⟩ (.slice ao opts.length cap))).heap.size = w.heap.size + 1 from by simp] at this
    exact this
  have HT5 : Hid (∀ W : World, Bs (W.alloc (.cells #[.int .u8 ttl, .int .u8 proto] 5)) (.slice (some ⟨W.heap.size, 0, none⟩) 2 2) [byteAt ttl 0, byteAt proto 0]) := fun W => by
    have := Bs.two W (byteAt ttl 0) (byteAt proto 0)
    rw [v3, v4] at this
    exact this
  have V1 := Lib.hid v1
  clear v1 v2 v3 v4
  go_enter Try.func44, Try.ntmps44
  go_wp2_with fail
  refine (rPut_two _ _ n _ HT.out (by simp) p5 (by omega)).mono ?_
  rintro e w1 ⟨v1, rfl, ho1, hs1⟩
  have HS1 : Hid (Same W0 w1) := by rw [HW.out]; exact (Same.alloc _ _).trans hs1
  have HO1 := Lib.hid (ho1.mono (B' := W0.heap.size) (by rw [HZ.out]; simp))
  obtain ⟨c0, c1, c2, c3, c4, c5, c6, c7, c8⟩ := HX.out w1 HS1.out
  clear ho1 hs1
  go_wp2_with fail
  refine (rPut_two _ _ id _ HO1.out.bs (by simp) g6 (by omega)).mono ?_
  rintro e w2 ⟨v2, rfl, ho2, hs2⟩
  have HS2 := Lib.hid (HS1.out.trans hs2)
  have HO2 := Lib.hid (ho2.mono (B' := W0.heap.size) HS1.out.size)
  clear ho2 hs2 c0 c1 c2 c3 c4 c5 c6 c7 c8 HS1
  obtain ⟨c0, c1, c2, c3, c4, c5, c6, c7, c8⟩ := HX.out w2 HS2.out
  go_wp2_with fail
  refine (rPut_two _ _ (flags * 8192 + frag) _ HO2.out.bs (by simp) (by omega) (by omega)).mono ?_
  rintro e w3 ⟨v3, rfl, ho3, hs3⟩
  have HS3 := Lib.hid (HS2.out.trans hs3)
  have HO3 := Lib.hid (ho3.mono (B' := W0.heap.size) HS2.out.size)
  clear ho3 hs3 c0 c1 c2 c3 c4 c5 c6 c7 c8 HS2
  obtain ⟨c0, c1, c2, c3, c4, c5, c6, c7, c8⟩ := HX.out w3 HS3.out
  have HL := Lib.hid (show ((([byteAt (64 + (20 + (opts.length : Int)) / 4) 0, byteAt tos 0] ++ [byteAt n 1, byteAt n 0]) ++ [byteAt id 1, byteAt id 0]) ++ [byteAt (flags * 8192 + frag) 1, byteAt (flags * 8192 + frag) 0]).length + [byteAt ttl 0, byteAt proto 0].length ≤ 140737488355328 by simp)
  go_wp2_with (at_builtin; refine wpList_append_bs rfl _ _ rfl W0 (HS3.out.trans (Same.alloc _ _)) _ _ rfl (HO3.out.same (Same.alloc _ _)) _ [byteAt ttl 0, byteAt proto 0] rfl (HT5.out w3) HL.out ?_; intro v4 w4 ho4 hs4)
  have HS4 := Lib.hid hs4
  have HO4 := Lib.hid ho4
  clear ho4 hs4 c0 c1 c2 c3 c4 c5 c6 c7 c8 HS3 HL
  obtain ⟨c0, c1, c2, c3, c4, c5, c6, c7, c8⟩ := HX.out w4 HS4.out
  refine (rPut_two _ _ s _ HO4.out.bs (by simp) p7 (by omega)).mono ?_
  rintro e w5 ⟨v5, rfl, ho5, hs5⟩
  have HS5 := Lib.hid (HS4.out.trans hs5)
  have HO5 := Lib.hid (ho5.mono (B' := W0.heap.size) HS4.out.size)
  clear ho5 hs5 c0 c1 c2 c3 c4 c5 c6 c7 c8 HS4
  go_wp2_with fail
  refine reg_start (fun w' => Same w5 w') (by kernel_rfl) ?_
  refine reg_take (v := ?_) 0 (some 50) rfl rfl (by kernel_rfl) (fun _ _ _ h => h) (by kernel_rfl) ((Same.refl w5).drew) ?_ ?_
  rotate_left
  · (intro w' hw'; obtain ⟨c0, c1, c2, c3, c4, c5, c6, c7, c8⟩ := HX.out w' (HS5.out.trans hw'); go_simp; try with_reducible rfl)
  try simp only [Act.put, List.setIfInBounds_toArray, List.set_cons_zero, List.set_cons_succ]
  refine reg_take (v := ?_) 1 (some 51) rfl rfl (by kernel_rfl) (fun _ _ _ h => h) (by kernel_rfl) ((Same.refl w5).drew) ?_ ?_
  rotate_left
  · (intro w' hw'; obtain ⟨c0, c1, c2, c3, c4, c5, c6, c7, c8⟩ := HX.out w' (HS5.out.trans hw'); go_simp; try with_reducible rfl)
  try simp only [Act.put, List.setIfInBounds_toArray, List.set_cons_zero, List.set_cons_succ]
  refine reg_take (v := ?_) 2 (some 52) rfl rfl (by kernel_rfl) (fun _ _ _ h => h) (by kernel_rfl) ((Same.refl w5).drew) ?_ ?_
  rotate_left
  · (intro w' hw'; obtain ⟨c0, c1, c2, c3, c4, c5, c6, c7, c8⟩ := HX.out w' (HS5.out.trans hw'); go_simp; try with_reducible rfl)
  try simp only [Act.put, List.setIfInBounds_toArray, List.set_cons_zero, List.set_cons_succ]
  refine reg_take (v := ?_) 3 (some 53) rfl rfl (by kernel_rfl) (fun _ _ _ h => h) (by kernel_rfl) ((Same.refl w5).drew) ?_ ?_
  rotate_left
  · (intro w' hw'; obtain ⟨c0, c1, c2, c3, c4, c5, c6, c7, c8⟩ := HX.out w' (HS5.out.trans hw'); go_simp; try with_reducible rfl)
  try simp only [Act.put, List.setIfInBounds_toArray, List.set_cons_zero, List.set_cons_succ]
  refine reg_take (v := ?_) 5 (some 55) rfl rfl (by kernel_rfl) (fun _ _ _ h => h) (by kernel_rfl) ((Same.refl w5).drew) ?_ ?_
  rotate_left
  · (intro w' hw'; obtain ⟨c0, c1, c2, c3, c4, c5, c6, c7, c8⟩ := HX.out w' (HS5.out.trans hw'); go_simp; try with_reducible rfl)
  try simp only [Act.put, List.setIfInBounds_toArray, List.set_cons_zero, List.set_cons_succ]
  refine reg_take (v := ?_) 6 (some 56) rfl rfl (by kernel_rfl) (fun _ _ _ h => h) (by kernel_rfl) ((Same.refl w5).drew) ?_ ?_
  rotate_left
  · (intro w' hw'; obtain ⟨c0, c1, c2, c3, c4, c5, c6, c7, c8⟩ := HX.out w' (HS5.out.trans hw'); go_simp; try with_reducible rfl)
  try simp only [Act.put, List.setIfInBounds_toArray, List.set_cons_zero, List.set_cons_succ]
  refine reg_take (v := ?_) 7 (some 57) rfl rfl (by kernel_rfl) (fun _ _ _ h => h) (by kernel_rfl) ((Same.refl w5).drew) ?_ ?_
  rotate_left
  · (intro w' hw'; obtain ⟨c0, c1, c2, c3, c4, c5, c6, c7, c8⟩ := HX.out w' (HS5.out.trans hw'); go_simp; try with_reducible rfl)
  try simp only [Act.put, List.setIfInBounds_toArray, List.set_cons_zero, List.set_cons_succ]
  refine reg_one 4 rfl (by kernel_rfl) (by kernel_rfl) ?_
  go_simp
  refine ((rPut_u32 _ _ src _ (HO5.out.same (Same.refl w5).drew).bs (by simp) p1 p2)).mono ?_
  rintro e u1 ⟨v6, rfl, ho6, hs1⟩
  have hS1 := ((Same.refl w5).drew).trans hs1
  have HO6 := Lib.hid ho6; clear ho6
  refine ⟨hS1, ?_⟩
  try simp only [Act.put, List.setIfInBounds_toArray, List.set_cons_zero, List.set_cons_succ]
  refine reg_one 8 rfl (by kernel_rfl) (by kernel_rfl) ?_
  go_simp
  refine ((rPut_u32 _ _ dst _ HO6.out.bs (by simp) p3 p4)).mono ?_
  rintro e u2 ⟨v7, rfl, ho7, hs2⟩
  have hS2 := (hS1).trans hs2
  have HO7 := Lib.hid (ho7.mono (B' := W0.heap.size) (HS5.out.trans hS1).size); clear ho7
  refine ⟨hS2, ?_⟩
  try simp only [Act.put, List.setIfInBounds_toArray, List.set_cons_zero, List.set_cons_succ]
  refine reg_take (v := ?_) 9 (some 7) rfl rfl (by kernel_rfl) (fun _ _ _ h => h) (by kernel_rfl) (hS2) ?_ ?_
  rotate_left
  · (intro w' hw'; obtain ⟨c0, c1, c2, c3, c4, c5, c6, c7, c8⟩ := HX.out w' (HS5.out.trans hw'); go_simp; try with_reducible rfl)
  try simp only [Act.put, List.setIfInBounds_toArray, List.set_cons_zero, List.set_cons_succ]
  refine reg_done (by kernel_rfl) ?_
  have HS7 := Lib.hid (HS5.out.trans hS2)
  clear HO5 HO6
  obtain ⟨c0, c1, c2, c3, c4, c5, c6, c7, c8⟩ := HX.out u2 HS7.out
  have HL := Lib.hid (show ((((((([byteAt (64 + (20 + (opts.length : Int)) / 4) 0, byteAt tos 0] ++ [byteAt n 1, byteAt n 0]) ++ [byteAt id 1, byteAt id 0]) ++ [byteAt (flags * 8192 + frag) 1, byteAt (flags * 8192 + frag) 0]) ++ [byteAt ttl 0, byteAt proto 0]) ++ [byteAt s 1, byteAt s 0]) ++ [byteAt src 3, byteAt src 2, byteAt src 1, byteAt src 0]) ++ [byteAt dst 3, byteAt dst 2, byteAt dst 1, byteAt dst 0]).length + opts.length ≤ 140737488355328 by simp; omega)
  go_wp2_with (at_builtin; refine wpList_append_bs rfl _ _ rfl W0 HS7.out _ _ rfl HO7.out _ opts rfl (HB.out.same (H0.out.trans HS7.out)) HL.out ?_; intro v8 w8 ho8 hs8)
  have HO8 := Lib.hid (ho8.mono H0.out.size)
  have HS8 := Lib.hid (H0.out.trans hs8)
  clear ho8 hs8
  go_ret
  exact ⟨_, rfl, by simpa [headB, List.append_assoc] using HO8.out, HS8.out⟩
end Go.Proofs.Yteoleblnhcnpkaa
