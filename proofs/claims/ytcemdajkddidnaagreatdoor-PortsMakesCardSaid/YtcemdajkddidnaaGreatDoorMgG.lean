/- Contracts of the document's own answers for layer 4: Good, Same. No condition beyond what each names. Contracts of the document's own answers for layer 4: a head's bytes, Build. No condition beyond what each names. Contracts of the document's own answers for layer 4: Build; a header in the document's form. No condition beyond what each names. -/
import Derived.Test.YtcemdajkddidnaaGreatDoorQIpF
import Derived.Test.YtcemdajkddidnaaGreatDoorQReg
import Derived.Test.YtcemdajkddidnaaGreatDoorQRefB
import Derived.Test.YtcemdajkddidnaaGreatDoorQLives
import Derived.Test.YtcemdajkddidnaaGreatDoorQRefP
namespace Go.Proofs.YtcemdajkddidnaaGreatDoor
open Go.RowKit
set_option linter.unusedVariables false

/-- a header as a value, its options apart -/
abbrev hdV (h : Hd) (vo : Value) : Value := .agg #[.int .i64 h.tos, .int .i64 h.id, .int .i64 h.flags, .int .i64 h.frag, .int .i64 h.ttl, .int .i64 h.proto, .int .u32 h.src, .int .u32 h.dst, vo]
abbrev hdO (t : TypeId) (h : Hd) (vo : Value) : Obj := .cells #[.int .i64 h.tos, .int .i64 h.id, .int .i64 h.flags, .int .i64 h.frag, .int .i64 h.ttl, .int .i64 h.proto, .int .u32 h.src, .int .u32 h.dst, vo] t

/-- from 0 to m -/
def inR (n m : Int) : Bool := decide (0 ≤ n ∧ n ≤ m)

theorem riIn_any (n m : Int) (w : World) : Calls Tryz.prog 89 #[.int .i64 n, .int .i64 m] w fun e w' => e = .returned (.bool (inR n m)) ∧ w = w' := by
  unfold inR
  by_cases h : 0 ≤ n
  · have hd : decide (0 ≤ n) = true := by simpa using h
    go_enter Tryz.func89, Tryz.ntmps89
    go_wp2
    go_ret
    exact ⟨by first | (simp; done) | simp [h], rfl⟩
  · have hd : decide (0 ≤ n) = false := by simpa using h
    go_enter Tryz.func89, Tryz.ntmps89
    go_wp2
    go_ret
    exact ⟨by first | (simp; done) | simp [h], rfl⟩

theorem first_false6 (a b c d e f : Bool) : a = false ∨ (a = true ∧ b = false) ∨ (a = true ∧ b = true ∧ c = false) ∨ (a = true ∧ b = true ∧ c = true ∧ d = false) ∨ (a = true ∧ b = true ∧ c = true ∧ d = true ∧ e = false) ∨
    (a = true ∧ b = true ∧ c = true ∧ d = true ∧ e = true ∧ f = false) ∨ (a = true ∧ b = true ∧ c = true ∧ d = true ∧ e = true ∧ f = true) := by
  cases a <;> cases b <;> cases c <;> cases d <;> cases e <;> cases f <;> decide

theorem good_of (h : Hd) : decide (goodH h) = (inR h.tos 255 && inR h.ttl 255 && inR h.proto 255 && inR h.id 65535 && inR h.flags 7 &&
    inR h.frag 8191 && decide ((h.opts.length : Int) ≤ 40) && decide ((h.opts.length : Int) % 4 = 0)) := by
  rw [Bool.eq_iff_iff, decide_eq_true_iff]
  simp only [goodH, inR, Bool.and_eq_true, decide_eq_true_iff]
  constructor
  · rintro ⟨a, b, c, d, e, f, g, i⟩
    exact ⟨⟨⟨⟨⟨⟨⟨a, b⟩, c⟩, d⟩, e⟩, f⟩, by omega⟩, by omega⟩
  · rintro ⟨⟨⟨⟨⟨⟨⟨a, b⟩, c⟩, d⟩, e⟩, f⟩, g⟩, i⟩
    exact ⟨a, b, c, d, e, f, by omega, by omega⟩

theorem riGood_any (h : Hd) (ao : Option Addr) (cap : Nat) (w : World) : Calls Tryz.prog 64 #[hdV h (.slice ao h.opts.length cap)] w fun e w' => e = .returned (.bool (decide (goodH h))) ∧ Same w w' := by
  rw [good_of]
  obtain ⟨tos, id, flags, frag, ttl, proto, src, dst, opts⟩ := h
  have H0 := Lib.hid (Same.alloc w (hdO 67 ⟨tos, id, flags, frag, ttl, proto, src, dst, opts⟩ (.slice ao opts.length cap)))
  simp only
  generalize opts.length = n at *
  have hb := first_false6 (inR tos 255) (inR ttl 255) (inR proto 255) (inR id 65535) (inR flags 7) (inR frag 8191)
  rcases hb with e1 | ⟨e1, e2⟩ | ⟨e1, e2, e3⟩ | ⟨e1, e2, e3, e4⟩ | ⟨e1, e2, e3, e4, e5⟩ | ⟨e1, e2, e3, e4, e5, e6⟩ | ⟨e1, e2, e3, e4, e5, e6⟩
  iterate 6
    · go_enter Tryz.func64, Tryz.ntmps64
      go_wp2_with (go_at_call 89; refine (riIn_any _ _ _).mono ?_; rintro e w1 ⟨rfl, rfl⟩)
      go_ret
      exact ⟨by simp [*], H0.out⟩
  by_cases hn : n ≤ 40
  · have hd : decide ((n : Int) ≤ 40) = true := by simp; omega
    go_enter Tryz.func64, Tryz.ntmps64
    go_wp2_with (go_at_call 89; refine (riIn_any _ _ _).mono ?_; rintro e w1 ⟨rfl, rfl⟩)
    go_ret
    refine ⟨?_, H0.out⟩
    simp [*]
    rw [Bool.eq_iff_iff]; simp
  · have hd : decide ((n : Int) ≤ 40) = false := by simp; omega
    go_enter Tryz.func64, Tryz.ntmps64
    go_wp2_with (go_at_call 89; refine (riIn_any _ _ _).mono ?_; rintro e w1 ⟨rfl, rfl⟩)
    go_ret
    exact ⟨by simp [*], H0.out⟩

/-- are two headers alike? -/
def sameH (h g : Hd) : Bool := (h.tos == g.tos) && (h.id == g.id) && (h.flags == g.flags) && (h.frag == g.frag) && (h.ttl == g.ttl) && (h.proto == g.proto) && (h.src == g.src) && (h.dst == g.dst) && decide (h.opts = g.opts)
theorem sameH_iff (h g : Hd) : sameH h g = true ↔ h = g := by
  obtain ⟨a0, a1, a2, a3, a4, a5, a6, a7, a8⟩ := h
  obtain ⟨b0, b1, b2, b3, b4, b5, b6, b7, b8⟩ := g
  simp only [sameH, Bool.and_eq_true, beq_iff_eq, decide_eq_true_iff, Hd.mk.injEq]
  constructor
  · rintro ⟨⟨⟨⟨⟨⟨⟨⟨a, b⟩, c⟩, d⟩, e⟩, f⟩, g⟩, i⟩, j⟩
    exact ⟨a, b, c, d, e, f, g, i, j⟩
  · rintro ⟨a, b, c, d, e, f, g, i, j⟩
    exact ⟨⟨⟨⟨⟨⟨⟨⟨a, b⟩, c⟩, d⟩, e⟩, f⟩, g⟩, i⟩, j⟩
theorem sameH_self (h : Hd) : sameH h h = true := (sameH_iff h h).2 rfl

theorem first_false8 (a b c d e f g h : Bool) : a = false ∨ (a = true ∧ b = false) ∨ (a = true ∧ b = true ∧ c = false) ∨ (a = true ∧ b = true ∧ c = true ∧ d = false) ∨ (a = true ∧ b = true ∧ c = true ∧ d = true ∧ e = false) ∨
    (a = true ∧ b = true ∧ c = true ∧ d = true ∧ e = true ∧ f = false) ∨ (a = true ∧ b = true ∧ c = true ∧ d = true ∧ e = true ∧ f = true ∧ g = false) ∨ (a = true ∧ b = true ∧ c = true ∧ d = true ∧ e = true ∧ f = true ∧ g = true ∧ h = false) ∨
    (a = true ∧ b = true ∧ c = true ∧ d = true ∧ e = true ∧ f = true ∧ g = true ∧ h = true) := by
  cases a <;> cases b <;> cases c <;> cases d <;> simp <;> cases e <;> cases f <;> cases g <;> cases h <;> simp

theorem str_eq (l m : List UInt8) : ((⟨l.toArray⟩ : ByteArray).toList == (⟨m.toArray⟩ : ByteArray).toList) = decide (l = m) := by
  rw [ByteArray.toList_eq, ByteArray.toList_eq, Bool.eq_iff_iff, beq_iff_eq, decide_eq_true_iff]

end Go.Proofs.YtcemdajkddidnaaGreatDoor
namespace Go.Proofs.YtcemdajkddidnaaGreatDoor
open Go.RowKit
set_option linter.unusedVariables false

/-- the cells of a boxed header -/
def HdAt (w : World) (B : Nat) (h : Hd) (vo : Value) : Prop :=
  w.cell? ⟨B, 0, none⟩ = some (.int .i64 h.tos) ∧ w.cell? ⟨B, 1, none⟩ = some (.int .i64 h.id) ∧ w.cell? ⟨B, 2, none⟩ = some (.int .i64 h.flags) ∧ w.cell? ⟨B, 3, none⟩ = some (.int .i64 h.frag) ∧
  w.cell? ⟨B, 4, none⟩ = some (.int .i64 h.ttl) ∧ w.cell? ⟨B, 5, none⟩ = some (.int .i64 h.proto) ∧ w.cell? ⟨B, 6, none⟩ = some (.int .u32 h.src) ∧ w.cell? ⟨B, 7, none⟩ = some (.int .u32 h.dst) ∧ w.cell? ⟨B, 8, none⟩ = some vo
theorem HdAt.of {w : World} {B : Nat} {t : TypeId} {h : Hd} {vo : Value} (hk : w.heap[B]? = some (hdO t h vo)) : HdAt w B h vo := by
  refine ⟨?_, ?_, ?_, ?_, ?_, ?_, ?_, ?_, ?_⟩ <;> simp [World.cell?, hk]
theorem hd_box (t : TypeId) (h : Hd) (vo : Value) (w w' : World) (hs : Same (w.alloc (hdO t h vo)) w') : HdAt w' w.heap.size h vo := HdAt.of (hs.block (heap_alloc_new w _))
theorem HdAt.same {w w' : World} {B : Nat} {h : Hd} {vo : Value} (hs : Same w w') (hk : HdAt w B h vo) : HdAt w' B h vo := by
  obtain ⟨k0, k1, k2, k3, k4, k5, k6, k7, k8⟩ := hk
  have f : ∀ {j v}, w.cell? ⟨B, j, none⟩ = some v → w'.cell? ⟨B, j, none⟩ = some v := fun {j v} hc => by rw [Below.cell hs (World.block_lt_of_cell? w _ hc)]; exact hc
  exact ⟨f k0, f k1, f k2, f k3, f k4, f k5, f k6, f k7, f k8⟩

theorem u64_id {n : Int} (h0 : 0 ≤ n) (h1 : n ≤ 18446744073709551615) : IntKind.u64.wrap n = n := by rw [IntKind.wrap_u64]; omega
theorem Bs.two (w : World) (a b : UInt8) : Bs (w.alloc (.cells #[b8 a, b8 b] 5)) (.slice (some ⟨w.heap.size, 0, none⟩) 2 2) [a, b] := by simpa using Bs.made w [a, b] 5 (by simp)
theorem OwnB.two (w : World) (a b : UInt8) : OwnB (w.alloc (.cells #[b8 a, b8 b] 5)) w.heap.size (.slice (some ⟨w.heap.size, 0, none⟩) 2 2) [a, b] := by
  have := World.ownsRow_lit (base := w.heap.size) (e := 5) (size := 1) w #[b8 a, b8 b] 2 (Nat.le_refl _) (by unfold maxLen; omega) (by simp)
  simpa [OwnB] using this
theorem u8v {n : Int} (h0 : 0 ≤ n) (h1 : n ≤ 255) : b8 (byteAt n 0) = .int .u8 n := by rw [b8_byteAt]; congr 1; omega
theorem rPut_u32 (v : Value) (l : List UInt8) (n : Int) (w : World) (hb : Bs w v l) (hl : l.length + 4 ≤ 140737488355328) (h0 : 0 ≤ n) (h1 : n ≤ 4294967295) :
    Calls Tryz.prog 25 #[v, .int .u64 (IntKind.u64.wrap n), .int .i64 4] w fun e w' => ∃ v', e = .returned v' ∧ OwnB w' w.heap.size v' (l ++ [byteAt n 3, byteAt n 2, byteAt n 1, byteAt n 0]) ∧ Same w w' := by
  rw [u64_id h0 (by omega)]
  exact rPut_four v l n w hb hl h0 (by omega)

set_option maxRecDepth 100000 in
set_option maxHeartbeats 1000000 in
theorem riHead_any (h : Hd) (hg : goodH h) (hsrc : 0 ≤ h.src ∧ h.src ≤ 4294967295) (hdst : 0 ≤ h.dst ∧ h.dst ≤ 4294967295) (n s : Int) (hn : 0 ≤ n ∧ n ≤ 65535) (hs : 0 ≤ s ∧ s ≤ 65535) (vo : Value) (w : World) (hb : Bs w vo h.opts) :
    Calls Tryz.prog 65 #[hdV h vo, .int .i64 n, .int .i64 s] w fun e w' => ∃ v, e = .returned v ∧ OwnB w' w.heap.size v (headB h n s) ∧ Same w w' := by
  obtain ⟨tos, id, flags, frag, ttl, proto, src, dst, opts⟩ := h
  have HG := Lib.hid hg
  have HB := Lib.hid hb
  obtain ⟨⟨g0, g1⟩, ⟨g2, g3⟩, ⟨g4, g5⟩, ⟨g6, g7⟩, ⟨g8, g9⟩, ⟨g10, g11⟩, g12, g13⟩ := hg
  obtain ⟨p1, p2⟩ := hsrc
  obtain ⟨p3, p4⟩ := hdst
  obtain ⟨p5, p6⟩ := hn
  obtain ⟨p7, p8⟩ := hs
  simp only at g0 g1 g2 g3 g4 g5 g6 g7 g8 g9 g10 g11 g12 g13 p1 p2 p3 p4
  obtain ⟨ao, cap, rfl, q1, q2, -, -⟩ := hb
  obtain ⟨W0, hW⟩ : ∃ W0, W0 = w.alloc (hdO 67 ⟨tos, id, flags, frag, ttl, proto, src, dst, opts⟩ (.slice ao opts.length cap)) := ⟨_, rfl⟩
  have HX : Hid (∀ w', Same W0 w' → HdAt w' w.heap.size ⟨tos, id, flags, frag, ttl, proto, src, dst, opts⟩ (.slice ao opts.length cap)) := by rw [hW]; exact hd_box 67 ⟨tos, id, flags, frag, ttl, proto, src, dst, opts⟩ _ w
  have H0 : Hid (Same w W0) := by rw [hW]; exact Same.alloc w _
  have HZ : Hid (W0.heap.size = w.heap.size + 1) := by rw [hW]; simp [Hid]
  have HW := Lib.hid hW
  clear hW
  have v1 : b8 (byteAt (64 + (20 + (opts.length : Int)) / 4) 0) = .int .u8 (64 + (20 + (opts.length : Int)) / 4) := u8v (by omega) (by omega)
  have v2 : b8 (byteAt tos 0) = .int .u8 tos := u8v g0 g1
  have v3 : b8 (byteAt ttl 0) = .int .u8 ttl := u8v g2 g3
  have v4 : b8 (byteAt proto 0) = .int .u8 proto := u8v g4 g5
  have HT : Hid (Bs ((w.alloc (hdO 67 ⟨tos, id, flags, frag, ttl, proto, src, dst, opts⟩ (.slice ao opts.length cap))).alloc (.cells #[.int .u8 (64 + (20 + (opts.length : Int)) / 4), .int .u8 tos] 5)) (.slice (some ⟨w.heap.size + 1, 0, none⟩) 2 2) [byteAt (64 + (20 + (opts.length : Int)) / 4) 0, byteAt tos 0]) := by
    have := Bs.two (w.alloc (hdO 67 ⟨tos, id, flags, frag, ttl, proto, src, dst, opts⟩ (.slice ao opts.length cap))) (byteAt (64 + (20 + (opts.length : Int)) / 4) 0) (byteAt tos 0)
    rw [v1, v2, show (w.alloc (hdO 67 ⟨tos, id, flags, frag, ttl, proto, src, dst, opts⟩ (.slice ao opts.length cap))).heap.size = w.heap.size + 1 from by simp] at this
    exact this
  have HT5 : Hid (∀ W : World, Bs (W.alloc (.cells #[.int .u8 ttl, .int .u8 proto] 5)) (.slice (some ⟨W.heap.size, 0, none⟩) 2 2) [byteAt ttl 0, byteAt proto 0]) := fun W => by
    have := Bs.two W (byteAt ttl 0) (byteAt proto 0)
    rw [v3, v4] at this
    exact this
  have V1 := Lib.hid v1
  clear v1 v2 v3 v4
  go_enter Tryz.func65, Tryz.ntmps65
  go_wp2_with fail
  refine (rPut_two _ _ n _ HT.out (by simp) p5 (by omega)).mono ?_
  rintro e w1 ⟨v1, rfl, ho1, hs1⟩
  have HS1 : Hid (Same W0 w1) := by rw [HW.out]; exact (Same.alloc _ _).trans hs1
  have HO1 := Lib.hid (ho1.mono (B' := W0.heap.size) (by rw [HZ.out]; simp))
  obtain ⟨c0, c1, c2, c3, c4, c5, c6, c7, c8⟩ := HX.out w1 HS1.out
  clear ho1 hs1
  go_wp2_with fail
  refine (rPut_two _ _ id _ HO1.out.bs (by simp) g6 (by omega)).mono ?_
  rintro e w2 ⟨v2, rfl, ho2, hs2⟩
  have HS2 := Lib.hid (HS1.out.trans hs2)
  have HO2 := Lib.hid (ho2.mono (B' := W0.heap.size) HS1.out.size)
  clear ho2 hs2 c0 c1 c2 c3 c4 c5 c6 c7 c8 HS1
  obtain ⟨c0, c1, c2, c3, c4, c5, c6, c7, c8⟩ := HX.out w2 HS2.out
  go_wp2_with fail
  refine (rPut_two _ _ (flags * 8192 + frag) _ HO2.out.bs (by simp) (by omega) (by omega)).mono ?_
  rintro e w3 ⟨v3, rfl, ho3, hs3⟩
  have HS3 := Lib.hid (HS2.out.trans hs3)
  have HO3 := Lib.hid (ho3.mono (B' := W0.heap.size) HS2.out.size)
  clear ho3 hs3 c0 c1 c2 c3 c4 c5 c6 c7 c8 HS2
  obtain ⟨c0, c1, c2, c3, c4, c5, c6, c7, c8⟩ := HX.out w3 HS3.out
  have HL := Lib.hid (show ((([byteAt (64 + (20 + (opts.length : Int)) / 4) 0, byteAt tos 0] ++ [byteAt n 1, byteAt n 0]) ++ [byteAt id 1, byteAt id 0]) ++ [byteAt (flags * 8192 + frag) 1, byteAt (flags * 8192 + frag) 0]).length + [byteAt ttl 0, byteAt proto 0].length ≤ 140737488355328 by simp)
  go_wp2_with (at_builtin; refine wpList_append_bs rfl _ _ rfl W0 (HS3.out.trans (Same.alloc _ _)) _ _ rfl (HO3.out.same (Same.alloc _ _)) _ [byteAt ttl 0, byteAt proto 0] rfl (HT5.out w3) HL.out ?_; intro v4 w4 ho4 hs4)
  have HS4 := Lib.hid hs4
  have HO4 := Lib.hid ho4
  clear ho4 hs4 c0 c1 c2 c3 c4 c5 c6 c7 c8 HS3 HL
  obtain ⟨c0, c1, c2, c3, c4, c5, c6, c7, c8⟩ := HX.out w4 HS4.out
  refine (rPut_two _ _ s _ HO4.out.bs (by simp) p7 (by omega)).mono ?_
  rintro e w5 ⟨v5, rfl, ho5, hs5⟩
  have HS5 := Lib.hid (HS4.out.trans hs5)
  have HO5 := Lib.hid (ho5.mono (B' := W0.heap.size) HS4.out.size)
  clear ho5 hs5 c0 c1 c2 c3 c4 c5 c6 c7 c8 HS4
  go_wp2_with fail
  refine reg_start (fun w' => Same w5 w') (by kernel_rfl) ?_
  refine reg_take (v := ?_) 0 (some 50) rfl rfl (by kernel_rfl) (fun _ _ _ h => h) (by kernel_rfl) ((Same.refl w5).drew) ?_ ?_
  rotate_left
  · (intro w' hw'; obtain ⟨c0, c1, c2, c3, c4, c5, c6, c7, c8⟩ := HX.out w' (HS5.out.trans hw'); go_simp; try with_reducible rfl)
  try simp only [Act.put, List.setIfInBounds_toArray, List.set_cons_zero, List.set_cons_succ]
  refine reg_take (v := ?_) 1 (some 51) rfl rfl (by kernel_rfl) (fun _ _ _ h => h) (by kernel_rfl) ((Same.refl w5).drew) ?_ ?_
  rotate_left
  · (intro w' hw'; obtain ⟨c0, c1, c2, c3, c4, c5, c6, c7, c8⟩ := HX.out w' (HS5.out.trans hw'); go_simp; try with_reducible rfl)
  try simp only [Act.put, List.setIfInBounds_toArray, List.set_cons_zero, List.set_cons_succ]
  refine reg_take (v := ?_) 2 (some 52) rfl rfl (by kernel_rfl) (fun _ _ _ h => h) (by kernel_rfl) ((Same.refl w5).drew) ?_ ?_
  rotate_left
  · (intro w' hw'; obtain ⟨c0, c1, c2, c3, c4, c5, c6, c7, c8⟩ := HX.out w' (HS5.out.trans hw'); go_simp; try with_reducible rfl)
  try simp only [Act.put, List.setIfInBounds_toArray, List.set_cons_zero, List.set_cons_succ]
  refine reg_take (v := ?_) 3 (some 53) rfl rfl (by kernel_rfl) (fun _ _ _ h => h) (by kernel_rfl) ((Same.refl w5).drew) ?_ ?_
  rotate_left
  · (intro w' hw'; obtain ⟨c0, c1, c2, c3, c4, c5, c6, c7, c8⟩ := HX.out w' (HS5.out.trans hw'); go_simp; try with_reducible rfl)
  try simp only [Act.put, List.setIfInBounds_toArray, List.set_cons_zero, List.set_cons_succ]
  refine reg_take (v := ?_) 5 (some 55) rfl rfl (by kernel_rfl) (fun _ _ _ h => h) (by kernel_rfl) ((Same.refl w5).drew) ?_ ?_
  rotate_left
  · (intro w' hw'; obtain ⟨c0, c1, c2, c3, c4, c5, c6, c7, c8⟩ := HX.out w' (HS5.out.trans hw'); go_simp; try with_reducible rfl)
  try simp only [Act.put, List.setIfInBounds_toArray, List.set_cons_zero, List.set_cons_succ]
  refine reg_take (v := ?_) 6 (some 56) rfl rfl (by kernel_rfl) (fun _ _ _ h => h) (by kernel_rfl) ((Same.refl w5).drew) ?_ ?_
  rotate_left
  · (intro w' hw'; obtain ⟨c0, c1, c2, c3, c4, c5, c6, c7, c8⟩ := HX.out w' (HS5.out.trans hw'); go_simp; try with_reducible rfl)
  try simp only [Act.put, List.setIfInBounds_toArray, List.set_cons_zero, List.set_cons_succ]
  refine reg_take (v := ?_) 7 (some 57) rfl rfl (by kernel_rfl) (fun _ _ _ h => h) (by kernel_rfl) ((Same.refl w5).drew) ?_ ?_
  rotate_left
  · (intro w' hw'; obtain ⟨c0, c1, c2, c3, c4, c5, c6, c7, c8⟩ := HX.out w' (HS5.out.trans hw'); go_simp; try with_reducible rfl)
  try simp only [Act.put, List.setIfInBounds_toArray, List.set_cons_zero, List.set_cons_succ]
  refine reg_one 4 rfl (by kernel_rfl) (by kernel_rfl) ?_
  go_simp
  refine ((rPut_u32 _ _ src _ (HO5.out.same (Same.refl w5).drew).bs (by simp) p1 p2)).mono ?_
  rintro e u1 ⟨v6, rfl, ho6, hs1⟩
  have hS1 := ((Same.refl w5).drew).trans hs1
  have HO6 := Lib.hid ho6; clear ho6
  refine ⟨hS1, ?_⟩
  try simp only [Act.put, List.setIfInBounds_toArray, List.set_cons_zero, List.set_cons_succ]
  refine reg_one 8 rfl (by kernel_rfl) (by kernel_rfl) ?_
  go_simp
  refine ((rPut_u32 _ _ dst _ HO6.out.bs (by simp) p3 p4)).mono ?_
  rintro e u2 ⟨v7, rfl, ho7, hs2⟩
  have hS2 := (hS1).trans hs2
  have HO7 := Lib.hid (ho7.mono (B' := W0.heap.size) (HS5.out.trans hS1).size); clear ho7
  refine ⟨hS2, ?_⟩
  try simp only [Act.put, List.setIfInBounds_toArray, List.set_cons_zero, List.set_cons_succ]
  refine reg_take (v := ?_) 9 (some 7) rfl rfl (by kernel_rfl) (fun _ _ _ h => h) (by kernel_rfl) (hS2) ?_ ?_
  rotate_left
  · (intro w' hw'; obtain ⟨c0, c1, c2, c3, c4, c5, c6, c7, c8⟩ := HX.out w' (HS5.out.trans hw'); go_simp; try with_reducible rfl)
  try simp only [Act.put, List.setIfInBounds_toArray, List.set_cons_zero, List.set_cons_succ]
  refine reg_done (by kernel_rfl) ?_
  have HS7 := Lib.hid (HS5.out.trans hS2)
  clear HO5 HO6
  obtain ⟨c0, c1, c2, c3, c4, c5, c6, c7, c8⟩ := HX.out u2 HS7.out
  have HL := Lib.hid (show ((((((([byteAt (64 + (20 + (opts.length : Int)) / 4) 0, byteAt tos 0] ++ [byteAt n 1, byteAt n 0]) ++ [byteAt id 1, byteAt id 0]) ++ [byteAt (flags * 8192 + frag) 1, byteAt (flags * 8192 + frag) 0]) ++ [byteAt ttl 0, byteAt proto 0]) ++ [byteAt s 1, byteAt s 0]) ++ [byteAt src 3, byteAt src 2, byteAt src 1, byteAt src 0]) ++ [byteAt dst 3, byteAt dst 2, byteAt dst 1, byteAt dst 0]).length + opts.length ≤ 140737488355328 by simp; omega)
  go_wp2_with (at_builtin; refine wpList_append_bs rfl _ _ rfl W0 HS7.out _ _ rfl HO7.out _ opts rfl (HB.out.same (H0.out.trans HS7.out)) HL.out ?_; intro v8 w8 ho8 hs8)
  have HO8 := Lib.hid (ho8.mono H0.out.size)
  have HS8 := Lib.hid (H0.out.trans hs8)
  clear ho8 hs8
  go_ret
  exact ⟨_, rfl, by simpa [headB, List.append_assoc] using HO8.out, HS8.out⟩
end Go.Proofs.YtcemdajkddidnaaGreatDoor
namespace Go.Proofs.YtcemdajkddidnaaGreatDoor
open Go.RowKit
set_option linter.unusedVariables false

/-- append of bytes, in a region that draws -/
theorem wp_append_bs {w : World} {o : Oper} {a : Act} {K : Act → World → Prop} {Q : Exit → Act → World → Prop} (sl xo : Operand)
    (ho : o.op = .call { callee := .builtin .append, args := #[sl, xo], argTypes := #[25, 25] })
    (A : World) (hA : Same A w) (v : Value) (l : List UInt8) (hs : a.eval sl = v) (hown : OwnB w A.heap.size v l) (x : Value) (m : List UInt8) (hxe : a.eval xo = x) (hx : Bs w x m) (hlen : l.length + m.length ≤ 140737488355328)
    (h : ∀ v' w', OwnB w' A.heap.size v' (l ++ m) → Same A w' → K (a.put o.dst v') w') : Oper.wp Tryz.prog o a w K Q := by
  obtain ⟨v', w', hr, h1, h2⟩ := run_append_bs w o.type _ v l hown x m hx hlen hA.size
  exact Lib.wp_append_run w sl xo _ _ ho v x hs hxe v' w' hr (h v' w' h1 (hA.grown h2 (fun k hk => (hown.lt k hk).1)))

theorem riOf_any (v : Value) (l : List UInt8) (w : World) (hb : Bs w v l) (hl : (l.length : Int) ≤ 140737488355328) :
    Calls Tryz.prog 66 #[v] w fun e w' => e = .returned (.int .i64 (65535 - sumB l : Nat)) ∧ Same w w' :=
  (rOf_any v l w hb hl).mono fun _ _ h => ⟨h.1, h.2 ▸ Same.refl _⟩

/-- the addresses are such -/
def HdR (h : Hd) : Prop := (0 ≤ h.src ∧ h.src ≤ 4294967295) ∧ (0 ≤ h.dst ∧ h.dst ≤ 4294967295)

set_option maxRecDepth 100000 in
set_option maxHeartbeats 1000000 in
theorem riBuild_any (h : Hd) (hr : HdR h) (p : List UInt8) (vo vp : Value) (w : World) (hb : Bs w vo h.opts) (hp : Bs w vp p) :
    Calls Tryz.prog 40 #[hdV h vo, vp] w fun e w' => ∃ v, e = .returned v ∧ OwnB w' w.heap.size v (buildB h p) ∧ Same w w' := by
  have HR := Lib.hid hr
  have HB := Lib.hid hb
  have HP := Lib.hid hp
  have HGc := fun ao cap w => Lib.hid (riGood_any h ao cap w)
  have HHd := fun (hg : goodH h) (n s : Int) hn hs vo w hb => Lib.hid (riHead_any h hg hr.1 hr.2 n s hn hs vo w hb)
  have HHd := Lib.hid HHd
  obtain ⟨ao, cap, rfl, q1, q2, -, -⟩ := hb
  obtain ⟨ap, caq, rfl, r1, r2, -, -⟩ := hp
  obtain ⟨tos, id, flags, frag, ttl, proto, src, dst, opts⟩ := h
  simp only at q1
  obtain ⟨W0, hW⟩ : ∃ W0, W0 = w.alloc (hdO 67 ⟨tos, id, flags, frag, ttl, proto, src, dst, opts⟩ (.slice ao opts.length cap)) := ⟨_, rfl⟩
  have HX : Hid (∀ w', Same W0 w' → HdAt w' w.heap.size ⟨tos, id, flags, frag, ttl, proto, src, dst, opts⟩ (.slice ao opts.length cap)) := by rw [hW]; exact hd_box 67 ⟨tos, id, flags, frag, ttl, proto, src, dst, opts⟩ _ w
  have H0 : Hid (Same w W0) := by rw [hW]; exact Same.alloc w _
  have HW := Lib.hid hW
  clear hW
  by_cases hg : goodH ⟨tos, id, flags, frag, ttl, proto, src, dst, opts⟩
  · have HGo := Lib.hid hg
    rw [show decide (goodH ⟨tos, id, flags, frag, ttl, proto, src, dst, opts⟩) = true from decide_eq_true hg] at HGc
    obtain ⟨-, -, -, -, -, -, g1, -⟩ := hg
    simp only at g1
    by_cases hs : 20 + opts.length + p.length ≤ 9000
    · have hle : ¬ (8980 - (opts.length : Int) < p.length) := by omega
      have hq : Hid (buildB ⟨tos, id, flags, frag, ttl, proto, src, dst, opts⟩ p = sealH ⟨tos, id, flags, frag, ttl, proto, src, dst, opts⟩ (20 + (opts.length : Int) + (p.length : Int)) ++ p) := by
        show _ = _
        rw [buildB, if_pos ⟨HGo.out, hs⟩, sizeH]
        push_cast
        rfl
      rw [hq.out]
      clear hq
      go_enter Tryz.func40, Tryz.ntmps40
      go_wp2_with fail
      refine (HGc _ _ _).out.mono ?_
      rintro e w1 ⟨rfl, hs1⟩
      have HS1 : Hid (Same W0 w1) := by rw [HW.out]; exact hs1
      clear hs1
      obtain ⟨c0, c1, c2, c3, c4, c5, c6, c7, c8⟩ := HX.out w1 HS1.out
      go_wp2_with fail
      have HN := Lib.hid (show (0 : Int) ≤ 20 + (opts.length : Int) + (p.length : Int) ∧ 20 + (opts.length : Int) + (p.length : Int) ≤ 65535 by omega)
      generalize hnn : 20 + (opts.length : Int) + (p.length : Int) = N at *
      have HNN := Lib.hid hnn
      have HB1 : Hid (∀ w', Same w1 w' → Bs w' (.slice ao opts.length cap) opts) := fun w' hw => HB.out.same ((H0.out.trans HS1.out).trans hw)
      have HP1 : Hid (∀ w', Same w1 w' → Bs w' (.slice ap p.length caq) p) := fun w' hw => HP.out.same ((H0.out.trans HS1.out).trans hw)
      have HS : Hid (w.heap.size ≤ w1.heap.size) := (H0.out.trans HS1.out).size
      clear c0 c1 c2 c3 c4 c5 c6 c7 c8 hnn hle
      refine reg_start (fun w' => Same w1 w') (by kernel_rfl) ?_
      refine reg_take (v := ?_) 0 (some 25) rfl rfl (by kernel_rfl) (fun _ _ _ h => h) (by kernel_rfl) ((Same.refl w1).drew) ?_ ?_
      rotate_left
      · (intro w' hw'; obtain ⟨c0, c1, c2, c3, c4, c5, c6, c7, c8⟩ := HX.out w' (HS1.out.trans hw'); go_simp; try with_reducible rfl)
      try simp only [Act.put, List.setIfInBounds_toArray, List.set_cons_zero, List.set_cons_succ]
      refine reg_take (v := ?_) 1 (some 26) rfl rfl (by kernel_rfl) (fun _ _ _ h => h) (by kernel_rfl) ((Same.refl w1).drew) ?_ ?_
      rotate_left
      · (intro w' hw'; obtain ⟨c0, c1, c2, c3, c4, c5, c6, c7, c8⟩ := HX.out w' (HS1.out.trans hw'); go_simp; try with_reducible rfl)
      try simp only [Act.put, List.setIfInBounds_toArray, List.set_cons_zero, List.set_cons_succ]
      refine reg_take (v := ?_) 2 (some 27) rfl rfl (by kernel_rfl) (fun _ _ _ h => h) (by kernel_rfl) ((Same.refl w1).drew) ?_ ?_
      rotate_left
      · (intro w' hw'; obtain ⟨c0, c1, c2, c3, c4, c5, c6, c7, c8⟩ := HX.out w' (HS1.out.trans hw'); go_simp; try with_reducible rfl)
      try simp only [Act.put, List.setIfInBounds_toArray, List.set_cons_zero, List.set_cons_succ]
      refine reg_take (v := ?_) 3 (some 28) rfl rfl (by kernel_rfl) (fun _ _ _ h => h) (by kernel_rfl) ((Same.refl w1).drew) ?_ ?_
      rotate_left
      · (intro w' hw'; obtain ⟨c0, c1, c2, c3, c4, c5, c6, c7, c8⟩ := HX.out w' (HS1.out.trans hw'); go_simp; try with_reducible rfl)
      try simp only [Act.put, List.setIfInBounds_toArray, List.set_cons_zero, List.set_cons_succ]
      refine reg_take (v := ?_) 7 (some 32) rfl rfl (by kernel_rfl) (fun _ _ _ h => h) (by kernel_rfl) ((Same.refl w1).drew) ?_ ?_
      rotate_left
      · (intro w' hw'; obtain ⟨c0, c1, c2, c3, c4, c5, c6, c7, c8⟩ := HX.out w' (HS1.out.trans hw'); go_simp; try with_reducible rfl)
      try simp only [Act.put, List.setIfInBounds_toArray, List.set_cons_zero, List.set_cons_succ]
      refine reg_one 4 rfl (by kernel_rfl) (by kernel_rfl) ?_
      go_simp
      refine ((HHd.out HGo.out N 0 HN.out (by omega) _ _ (HB1.out _ (Same.refl w1).drew)).out).mono ?_
      rintro e u1 ⟨v2, rfl, ho2, hs1⟩
      have hS1 := ((Same.refl w1).drew).trans hs1
      have HO2 := Lib.hid ho2; clear ho2
      refine ⟨hS1, ?_⟩
      try simp only [Act.put, List.setIfInBounds_toArray, List.set_cons_zero, List.set_cons_succ]
      refine reg_one 5 rfl (by kernel_rfl) (by kernel_rfl) ?_
      go_simp
      refine ((riOf_any _ _ _ HO2.out.bs (by simp only [headB_length]; omega))).mono ?_
      rintro e u2 ⟨rfl, hs2⟩
      have hS2 := (hS1).trans hs2
      skip
      refine ⟨hS2, ?_⟩
      try simp only [Act.put, List.setIfInBounds_toArray, List.set_cons_zero, List.set_cons_succ]
      refine reg_one 6 rfl (by kernel_rfl) (by kernel_rfl) ?_
      go_simp
      refine ((HHd.out HGo.out N _ HN.out (by omega) _ _ (HB1.out _ hS2)).out).mono ?_
      rintro e u3 ⟨v3, rfl, ho3, hs3⟩
      have hS3 := (hS2).trans hs3
      have HO3 := Lib.hid ho3; clear ho3
      refine ⟨hS3, ?_⟩
      try simp only [Act.put, List.setIfInBounds_toArray, List.set_cons_zero, List.set_cons_succ]
      refine reg_one 8 rfl (by kernel_rfl) (by kernel_rfl) ?_
      refine wp_append_bs _ _ (by rfl) u2 hs3 _ _ (by rfl) HO3.out _ p (by rfl) (HP1.out _ hS3) (by rw [headB_length]; simp only; omega) ?_
      intro v4 u4 ho4 hs4
      have hS4 := hS2.trans hs4
      have HO4 := Lib.hid ho4; clear ho4
      refine ⟨hS4, ?_⟩
      try simp only [Act.put, List.setIfInBounds_toArray, List.set_cons_zero, List.set_cons_succ]
      refine reg_take (v := ?_) 9 (some 4) rfl rfl (by kernel_rfl) (fun _ _ _ h => h) (by kernel_rfl) (hS4) ?_ ?_
      rotate_left
      · (intro w' hw'; obtain ⟨c0, c1, c2, c3, c4, c5, c6, c7, c8⟩ := HX.out w' (HS1.out.trans hw'); go_simp; try with_reducible rfl)
      try simp only [Act.put, List.setIfInBounds_toArray, List.set_cons_zero, List.set_cons_succ]
      refine reg_done (by kernel_rfl) ?_
      go_wp2_with fail
      go_ret
      rw [HNN.out]
      exact ⟨v4, rfl, (HO4.out.mono (Nat.le_trans HS.out hS2.size)), (H0.out.trans HS1.out).trans hS4⟩
    · have hle : 8980 - (opts.length : Int) < p.length := by omega
      have hq : buildB ⟨tos, id, flags, frag, ttl, proto, src, dst, opts⟩ p = [] := if_neg fun h => hs h.2
      rw [hq]
      clear hq hs
      go_enter Tryz.func40, Tryz.ntmps40
      go_wp2_with fail
      refine (HGc _ _ _).out.mono ?_
      rintro e w1 ⟨rfl, hs1⟩
      have HS1 : Hid (Same W0 w1) := by rw [HW.out]; exact hs1
      clear hs1
      obtain ⟨c0, c1, c2, c3, c4, c5, c6, c7, c8⟩ := HX.out w1 HS1.out
      go_wp2_with fail
      go_ret
      exact ⟨_, rfl, OwnB.nil _ _, H0.out.trans HS1.out⟩
  · have hq : buildB ⟨tos, id, flags, frag, ttl, proto, src, dst, opts⟩ p = [] := if_neg fun h => hg h.1
    rw [hq]
    clear hq
    rw [show decide (goodH ⟨tos, id, flags, frag, ttl, proto, src, dst, opts⟩) = false from decide_eq_false hg] at HGc
    clear hg HHd
    go_enter Tryz.func40, Tryz.ntmps40
    go_wp2_with fail
    refine (HGc _ _ _).out.mono ?_
    rintro e w1 ⟨rfl, hs1⟩
    have HS1 : Hid (Same W0 w1) := by rw [HW.out]; exact hs1
    clear hs1
    obtain ⟨c0, c1, c2, c3, c4, c5, c6, c7, c8⟩ := HX.out w1 HS1.out
    go_wp2_with fail
    go_ret
    exact ⟨_, rfl, OwnB.nil _ _, H0.out.trans HS1.out⟩
end Go.Proofs.YtcemdajkddidnaaGreatDoor
