/- Contracts of the developers' layer 4: cut of any bytes, what a head says, Parse. No condition beyond what each names. -/
import Derived.Test.YteoleblnhcnpkaaIpDE
import Derived.Test.YteoleblnhcnpkaaIpRF
import Derived.Test.YteoleblnhcnpkaaTake
namespace Go.Proofs.Yteoleblnhcnpkaa
open Go.RowKit
set_option linter.unusedVariables false

theorem U8_at (s : Nat) (all : Value) (l : List UInt8) (a : Nat) (w : World) (h : SrcB w s all l a 0) (hk : a + 1 ≤ l.length) :
    Calls Try.prog 48 #[.pointer (some ⟨s, 0, none⟩)] w fun e w' => e = .returned (.int .i64 (fld l a 1)) ∧ Mod s w w' ∧ SrcB w' s all l (a + 1) 0 := by
  have H := U8_made s all l a 0 w h
  have e1 : stepOut l a 0 1 = _ := (step_yes hk).1
  have e2 : stepAt l a 0 1 = _ := (step_yes hk).2.1
  have e3 : stepErr l a 0 1 = _ := (step_yes hk).2.2
  rw [e1, e2, e3, numOut] at H
  exact H
theorem U16_at (s : Nat) (all : Value) (l : List UInt8) (a : Nat) (w : World) (h : SrcB w s all l a 0) (hk : a + 2 ≤ l.length) :
    Calls Try.prog 49 #[.pointer (some ⟨s, 0, none⟩)] w fun e w' => e = .returned (.int .i64 (fld l a 2)) ∧ Mod s w w' ∧ SrcB w' s all l (a + 2) 0 := by
  have H := U16_made s all l a 0 w h
  have e1 : stepOut l a 0 2 = _ := (step_yes hk).1
  have e2 : stepAt l a 0 2 = _ := (step_yes hk).2.1
  have e3 : stepErr l a 0 2 = _ := (step_yes hk).2.2
  rw [e1, e2, e3, numOut] at H
  exact H
theorem U32_at (s : Nat) (all : Value) (l : List UInt8) (a : Nat) (w : World) (h : SrcB w s all l a 0) (hk : a + 4 ≤ l.length) :
    Calls Try.prog 50 #[.pointer (some ⟨s, 0, none⟩)] w fun e w' => e = .returned (.int .u32 (fld l a 4)) ∧ Mod s w w' ∧ SrcB w' s all l (a + 4) 0 := by
  have H := U32_made s all l a 0 w h
  have e1 : stepOut l a 0 4 = _ := (step_yes hk).1
  have e2 : stepAt l a 0 4 = _ := (step_yes hk).2.1
  have e3 : stepErr l a 0 4 = _ := (step_yes hk).2.2
  rw [e1, e2, e3, numOut] at H
  exact H

theorem i64_and8191 (n : Int) : bits .and .i64 n 8191 = n % 8192 := by
  have h16 : (BitVec.ofInt 64 8191).toNat = 2 ^ 13 - 1 := by decide
  have key : (BitVec.ofInt 64 n &&& BitVec.ofInt 64 8191).toNat = (n % ((2 ^ 64 : Nat) : Int)).toNat % 2 ^ 13 := by
    rw [BitVec.toNat_and, BitVec.toNat_ofInt, h16, Nat.and_two_pow_sub_one_eq_mod]
  show IntKind.i64.wrap ((BitVec.ofInt 64 n &&& BitVec.ofInt 64 8191).toNat : Nat) = n % 8192
  rw [key, IntKind.wrap_i64]
  omega

theorem World.heap_set1 (w : World) (g i : Nat) (cs : Array Value) (t : TypeId) (v : Value) (hg : w.heap[g]? = some (.cells cs t (0, 0))) :
    (w.setCell ⟨g, i, none⟩ v).heap[g]? = some (.cells (cs.setIfInBounds i v) t (0, 0)) := by simp [World.setCell, Array.getElem?_modify, hg]

/-- a header stored, cell by cell -/
abbrev hdSet (u : World) (R : Nat) (h : Hd) (vo : Value) : World :=
  ((((((((u.setCell ⟨R, 0, none⟩ (.int .i64 h.tos)).setCell ⟨R, 1, none⟩ (.int .i64 h.id)).setCell ⟨R, 2, none⟩ (.int .i64 h.flags)).setCell ⟨R, 3, none⟩ (.int .i64 h.frag)).setCell ⟨R, 4, none⟩ (.int .i64 h.ttl)).setCell ⟨R, 5, none⟩ (.int .i64 h.proto)).setCell ⟨R, 6, none⟩ (.int .u32 h.src)).setCell ⟨R, 7, none⟩ (.int .u32 h.dst)).setCell ⟨R, 8, none⟩ vo
set_option maxRecDepth 100000 in
theorem hd_set (t : TypeId) (u : World) (R : Nat) (h0 h : Hd) (vo0 vo : Value) (hk : u.heap[R]? = some (hdO t h0 vo0)) : Mod R u (hdSet u R h vo) ∧ (hdSet u R h vo).heap[R]? = some (hdO t h vo) := by
  unfold hdSet
  have m0 := Mod.setCell R 0 u (.int .i64 h.tos)
  have k0 : (u.setCell ⟨R, 0, none⟩ (.int .i64 h.tos)).heap[R]? = some (.cells #[.int .i64 h.tos, .int .i64 h0.id, .int .i64 h0.flags, .int .i64 h0.frag, .int .i64 h0.ttl, .int .i64 h0.proto, .int .u32 h0.src, .int .u32 h0.dst, vo0] t (0, 0)) := by
    have := World.heap_set1 u R 0 #[.int .i64 h0.tos, .int .i64 h0.id, .int .i64 h0.flags, .int .i64 h0.frag, .int .i64 h0.ttl, .int .i64 h0.proto, .int .u32 h0.src, .int .u32 h0.dst, vo0] t (.int .i64 h.tos) hk
    exact this
  generalize u.setCell ⟨R, 0, none⟩ (.int .i64 h.tos) = u1 at *
  have m1 := Mod.setCell R 1 u1 (.int .i64 h.id)
  have k1 : (u1.setCell ⟨R, 1, none⟩ (.int .i64 h.id)).heap[R]? = some (.cells #[.int .i64 h.tos, .int .i64 h.id, .int .i64 h0.flags, .int .i64 h0.frag, .int .i64 h0.ttl, .int .i64 h0.proto, .int .u32 h0.src, .int .u32 h0.dst, vo0] t (0, 0)) := by
    have := World.heap_set1 u1 R 1 #[.int .i64 h.tos, .int .i64 h0.id, .int .i64 h0.flags, .int .i64 h0.frag, .int .i64 h0.ttl, .int .i64 h0.proto, .int .u32 h0.src, .int .u32 h0.dst, vo0] t (.int .i64 h.id) k0
    exact this
  generalize u1.setCell ⟨R, 1, none⟩ (.int .i64 h.id) = u2 at *
  have m2 := Mod.setCell R 2 u2 (.int .i64 h.flags)
  have k2 : (u2.setCell ⟨R, 2, none⟩ (.int .i64 h.flags)).heap[R]? = some (.cells #[.int .i64 h.tos, .int .i64 h.id, .int .i64 h.flags, .int .i64 h0.frag, .int .i64 h0.ttl, .int .i64 h0.proto, .int .u32 h0.src, .int .u32 h0.dst, vo0] t (0, 0)) := by
    have := World.heap_set1 u2 R 2 #[.int .i64 h.tos, .int .i64 h.id, .int .i64 h0.flags, .int .i64 h0.frag, .int .i64 h0.ttl, .int .i64 h0.proto, .int .u32 h0.src, .int .u32 h0.dst, vo0] t (.int .i64 h.flags) k1
    exact this
  generalize u2.setCell ⟨R, 2, none⟩ (.int .i64 h.flags) = u3 at *
  have m3 := Mod.setCell R 3 u3 (.int .i64 h.frag)
  have k3 : (u3.setCell ⟨R, 3, none⟩ (.int .i64 h.frag)).heap[R]? = some (.cells #[.int .i64 h.tos, .int .i64 h.id, .int .i64 h.flags, .int .i64 h.frag, .int .i64 h0.ttl, .int .i64 h0.proto, .int .u32 h0.src, .int .u32 h0.dst, vo0] t (0, 0)) := by
    have := World.heap_set1 u3 R 3 #[.int .i64 h.tos, .int .i64 h.id, .int .i64 h.flags, .int .i64 h0.frag, .int .i64 h0.ttl, .int .i64 h0.proto, .int .u32 h0.src, .int .u32 h0.dst, vo0] t (.int .i64 h.frag) k2
    exact this
  generalize u3.setCell ⟨R, 3, none⟩ (.int .i64 h.frag) = u4 at *
  have m4 := Mod.setCell R 4 u4 (.int .i64 h.ttl)
  have k4 : (u4.setCell ⟨R, 4, none⟩ (.int .i64 h.ttl)).heap[R]? = some (.cells #[.int .i64 h.tos, .int .i64 h.id, .int .i64 h.flags, .int .i64 h.frag, .int .i64 h.ttl, .int .i64 h0.proto, .int .u32 h0.src, .int .u32 h0.dst, vo0] t (0, 0)) := by
    have := World.heap_set1 u4 R 4 #[.int .i64 h.tos, .int .i64 h.id, .int .i64 h.flags, .int .i64 h.frag, .int .i64 h0.ttl, .int .i64 h0.proto, .int .u32 h0.src, .int .u32 h0.dst, vo0] t (.int .i64 h.ttl) k3
    exact this
  generalize u4.setCell ⟨R, 4, none⟩ (.int .i64 h.ttl) = u5 at *
  have m5 := Mod.setCell R 5 u5 (.int .i64 h.proto)
  have k5 : (u5.setCell ⟨R, 5, none⟩ (.int .i64 h.proto)).heap[R]? = some (.cells #[.int .i64 h.tos, .int .i64 h.id, .int .i64 h.flags, .int .i64 h.frag, .int .i64 h.ttl, .int .i64 h.proto, .int .u32 h0.src, .int .u32 h0.dst, vo0] t (0, 0)) := by
    have := World.heap_set1 u5 R 5 #[.int .i64 h.tos, .int .i64 h.id, .int .i64 h.flags, .int .i64 h.frag, .int .i64 h.ttl, .int .i64 h0.proto, .int .u32 h0.src, .int .u32 h0.dst, vo0] t (.int .i64 h.proto) k4
    exact this
  generalize u5.setCell ⟨R, 5, none⟩ (.int .i64 h.proto) = u6 at *
  have m6 := Mod.setCell R 6 u6 (.int .u32 h.src)
  have k6 : (u6.setCell ⟨R, 6, none⟩ (.int .u32 h.src)).heap[R]? = some (.cells #[.int .i64 h.tos, .int .i64 h.id, .int .i64 h.flags, .int .i64 h.frag, .int .i64 h.ttl, .int .i64 h.proto, .int .u32 h.src, .int .u32 h0.dst, vo0] t (0, 0)) := by
    have := World.heap_set1 u6 R 6 #[.int .i64 h.tos, .int .i64 h.id, .int .i64 h.flags, .int .i64 h.frag, .int .i64 h.ttl, .int .i64 h.proto, .int .u32 h0.src, .int .u32 h0.dst, vo0] t (.int .u32 h.src) k5
    exact this
  generalize u6.setCell ⟨R, 6, none⟩ (.int .u32 h.src) = u7 at *
  have m7 := Mod.setCell R 7 u7 (.int .u32 h.dst)
  have k7 : (u7.setCell ⟨R, 7, none⟩ (.int .u32 h.dst)).heap[R]? = some (.cells #[.int .i64 h.tos, .int .i64 h.id, .int .i64 h.flags, .int .i64 h.frag, .int .i64 h.ttl, .int .i64 h.proto, .int .u32 h.src, .int .u32 h.dst, vo0] t (0, 0)) := by
    have := World.heap_set1 u7 R 7 #[.int .i64 h.tos, .int .i64 h.id, .int .i64 h.flags, .int .i64 h.frag, .int .i64 h.ttl, .int .i64 h.proto, .int .u32 h.src, .int .u32 h0.dst, vo0] t (.int .u32 h.dst) k6
    exact this
  generalize u7.setCell ⟨R, 7, none⟩ (.int .u32 h.dst) = u8 at *
  have m8 := Mod.setCell R 8 u8 vo
  have k8 : (u8.setCell ⟨R, 8, none⟩ vo).heap[R]? = some (.cells #[.int .i64 h.tos, .int .i64 h.id, .int .i64 h.flags, .int .i64 h.frag, .int .i64 h.ttl, .int .i64 h.proto, .int .u32 h.src, .int .u32 h.dst, vo] t (0, 0)) := by
    have := World.heap_set1 u8 R 8 #[.int .i64 h.tos, .int .i64 h.id, .int .i64 h.flags, .int .i64 h.frag, .int .i64 h.ttl, .int .i64 h.proto, .int .u32 h.src, .int .u32 h.dst, vo0] t vo k7
    exact this
  generalize u8.setCell ⟨R, 8, none⟩ vo = u9 at *
  exact ⟨m0.trans (m1.trans (m2.trans (m3.trans (m4.trans (m5.trans (m6.trans (m7.trans m8))))))), k8⟩
theorem readH_eq (l : List UInt8) : readH l = ⟨fld l 1 1, fld l 4 2, (fld l 6 2 : Int) / 8192, (fld l 6 2 : Int) % 8192, fld l 8 1, fld l 9 1, fld l 12 4, fld l 16 4, l.drop 20⟩ := by
  have e1 : ((fld l 6 2 / 8192 : Nat) : Int) = (fld l 6 2 : Int) / 8192 := by omega
  have e2 : ((fld l 6 2 % 8192 : Nat) : Int) = (fld l 6 2 : Int) % 8192 := by omega
  rw [readH, e1, e2]

/-- on the way through read: s is the source of the head, R the result's cell -/
structure RD (w u : World) (s R : Nat) (all : Value) (l : List UInt8) (a : Nat) : Prop where
  same : Same w u
  src : SrcB u s all l a 0
  res : u.heap[R]? = some (zeroO 31)
  sR : R < s
  wR : w.heap.size ≤ R
theorem RD.step {w u u' : World} {s R : Nat} {all : Value} {l : List UInt8} {a a' : Nat} (x : RD w u s R all l a) (hm : Mod s u u') (hs : SrcB u' s all l a' 0) : RD w u' s R all l a' := by
  have hR := (Array.getElem?_eq_some_iff.1 x.res).1
  exact ⟨Below.trans x.same (hm.below (Nat.le_trans x.wR (Nat.le_of_lt x.sR)) x.same.size), hs, by rw [hm.block R hR (by have := x.sR; omega)]; exact x.res, x.sR, x.wR⟩

set_option maxRecDepth 100000 in
set_option maxHeartbeats 2000000 in
theorem ipRead_any (v : Value) (l : List UInt8) (w : World) (hb : Bs w v l) (h20 : 20 ≤ l.length) (hl : l.length ≤ 65535) :
    Calls Try.prog 26 #[v] w fun e w' => ∃ vo, e = .returned (hdV (readH l) vo) ∧ OwnB w' w.heap.size vo (l.drop 20) ∧ Same w w' := by
  have HB := Lib.hid hb
  have H20 := Lib.hid h20
  have HL := Lib.hid hl
  obtain ⟨ao, cap, rfl, -, -, -, -⟩ := hb
  clear h20 hl
  have HK : Hid ((w.alloc (zeroO 31)).heap[w.heap.size]? = some (zeroO 31)) := heap_alloc_new w _
  have hfl : (fld l 6 2 : Int) < 65536 := by have := fld_lt l 6 2; omega
  have hand := i64_and8191 (fld l 6 2)
  go_enter Try.func26, Try.ntmps26
  go_wp2_with fail
  refine (Read_any _ l _ (HB.out.same (Same.alloc w _)) (by have := HL.out; omega)).mono ?_
  rintro e u0 ⟨s, all, rfl, hsz, hsrc, hsm, hown⟩
  have X0 : Hid (RD w u0 s w.heap.size all l 0) := ⟨(Same.alloc w _).trans hsm, hsrc, hsm.block HK.out, by simp at hsz; omega, Nat.le_refl _⟩
  clear hsz hsrc hsm hown
  go_wp2_with fail
  refine (U8_at s all l 0 _ X0.out.src (by have := H20.out; omega)).mono ?_
  rintro e u1 ⟨rfl, hm, hs⟩
  have X1 := Lib.hid (X0.out.step hm hs)
  clear hm hs X0
  go_wp2_with fail
  refine (U8_at s all l 1 _ X1.out.src (by have := H20.out; omega)).mono ?_
  rintro e u2 ⟨rfl, hm, hs⟩
  have X2 := Lib.hid (X1.out.step hm hs)
  clear hm hs X1
  go_wp2_with fail
  refine (U16_at s all l 2 _ X2.out.src (by have := H20.out; omega)).mono ?_
  rintro e u3 ⟨rfl, hm, hs⟩
  have X3 := Lib.hid (X2.out.step hm hs)
  clear hm hs X2
  go_wp2_with fail
  refine (U16_at s all l 4 _ X3.out.src (by have := H20.out; omega)).mono ?_
  rintro e u4 ⟨rfl, hm, hs⟩
  have X4 := Lib.hid (X3.out.step hm hs)
  clear hm hs X3
  go_wp2_with fail
  refine (U16_at s all l 6 _ X4.out.src (by have := H20.out; omega)).mono ?_
  rintro e u5 ⟨rfl, hm, hs⟩
  have X5 := Lib.hid (X4.out.step hm hs)
  clear hm hs X4
  go_wp2_with fail
  refine (U8_at s all l 8 _ X5.out.src (by have := H20.out; omega)).mono ?_
  rintro e u6 ⟨rfl, hm, hs⟩
  have X6 := Lib.hid (X5.out.step hm hs)
  clear hm hs X5
  go_wp2_with fail
  refine (U8_at s all l 9 _ X6.out.src (by have := H20.out; omega)).mono ?_
  rintro e u7 ⟨rfl, hm, hs⟩
  have X7 := Lib.hid (X6.out.step hm hs)
  clear hm hs X6
  go_wp2_with fail
  refine (U16_at s all l 10 _ X7.out.src (by have := H20.out; omega)).mono ?_
  rintro e u8 ⟨rfl, hm, hs⟩
  have X8 := Lib.hid (X7.out.step hm hs)
  clear hm hs X7
  go_wp2_with fail
  refine (U32_at s all l 12 _ X8.out.src (by have := H20.out; omega)).mono ?_
  rintro e u9 ⟨rfl, hm, hs⟩
  have X9 := Lib.hid (X8.out.step hm hs)
  clear hm hs X8
  go_wp2_with fail
  refine (U32_at s all l 16 _ X9.out.src (by have := H20.out; omega)).mono ?_
  rintro e u10 ⟨rfl, hm, hs⟩
  have X10 := Lib.hid (X9.out.step hm hs)
  clear hm hs X9
  go_wp2_with fail
  refine (Rest_made s all l 20 0 _ X10.out.src (by have := HL.out; omega)).mono ?_
  rintro e u11 ⟨vo, rfl, ho, hm, hs⟩
  have ho' : OwnB u11 u10.heap.size vo (l.drop 20) := by rw [restOf, if_pos rfl] at ho; exact ho
  have X11 := Lib.hid (X10.out.step hm hs)
  have HO := Lib.hid ho'
  have HRu : Hid (w.heap.size < u10.heap.size) := (Array.getElem?_eq_some_iff.1 X10.out.res).1
  clear hm hs ho X10
  obtain ⟨vao, vcap, hvv, -, -, -, -⟩ := ho'.bs
  obtain ⟨no, hno⟩ : ∃ no, (l.drop 20).length = no := ⟨_, rfl⟩
  rw [hno] at hvv
  subst hvv
  clear ho' hno
  have HR := Lib.hid X11.out.res
  have HS := Lib.hid X11.out.same
  obtain ⟨c0, c1, c2, c3, c4, c5, c6, c7, c8⟩ := HdAt.of (h := zeroH) (vo := nilV) HR.out
  have hfz : ∀ j, u11.frozen? ⟨w.heap.size, j, none⟩ = false := fun j => by simp [World.frozen?, HR.out]
  clear X11
  go_wp2_with fail
  have HH := hd_set 31 u11 w.heap.size zeroH ⟨fld l 1 1, fld l 4 2, (fld l 6 2 : Int) / 8192, (fld l 6 2 : Int) % 8192, fld l 8 1, fld l 9 1, fld l 12 4, fld l 16 4, l.drop 20⟩ nilV (.slice vao no vcap) HR.out
  dsimp only [hdSet] at HH
  have HM := Lib.hid HH.1
  have HE := Lib.hid HH.2
  clear HH c0 c1 c2 c3 c4 c5 c6 c7 c8 hfz
  generalize World.setCell _ ⟨w.heap.size, 8, none⟩ (.slice vao no vcap) = E at *
  have HOE : Hid (OwnB E w.heap.size (.slice vao no vcap) (l.drop 20)) := (OwnB.mod HM.out (fun he => by have h1 := (HO.out.lt _ he).1; have h2 := HRu.out; omega) HO.out).mono (Nat.le_of_lt HRu.out)
  have HSE : Hid (Same w E) := Below.trans HS.out (HM.out.below (Nat.le_refl _) HS.out.size)
  rw [readH_eq]
  obtain ⟨c0, c1, c2, c3, c4, c5, c6, c7, c8⟩ := HdAt.of HE.out
  refine bodyPost_ret (v := hdV ⟨fld l 1 1, fld l 4 2, (fld l 6 2 : Int) / 8192, (fld l 6 2 : Int) % 8192, fld l 8 1, fld l 9 1, fld l 12 4, fld l 16 4, l.drop 20⟩ (.slice vao no vcap)) ?_ rfl ⟨_, rfl, HOE.out, HSE.out⟩
  simp [results, Try.results26, go_sem, c0, c1, c2, c3, c4, c5, c6, c7, c8]

/-- the head of a packet that is right -/
def headP (l : List UInt8) : List UInt8 := if parseE l = 0 then l.take (endH l) else []

theorem ipCut_any (v : Value) (l : List UInt8) (w : World) (hb : Bs w v l) :
    Calls Try.prog 25 #[v] w fun e w' => ∃ vh vp, e = .returned (cutV vh vp (parseE l)) ∧ Bs w' vh (headP l) ∧ Bs w' vp (parseP l) ∧ Same w w' := by
  have bad : ∀ E : Int, E ≠ 0 → parseE l = E → Calls Try.prog 25 #[v] w (fun e w' => e = .returned (cutV nilV nilV E) ∧ Same w w') →
      Calls Try.prog 25 #[v] w fun e w' => ∃ vh vp, e = .returned (cutV vh vp (parseE l)) ∧ Bs w' vh (headP l) ∧ Bs w' vp (parseP l) ∧ Same w w' := by
    intro E hE he hc
    have h1 : headP l = [] := if_neg (by rw [he]; exact hE)
    have h2 : parseP l = [] := if_neg (by rw [he]; exact hE)
    rw [h1, h2, he]
    exact hc.mono fun e w' ⟨h, k⟩ => ⟨nilV, nilV, h, Bs.nil _, Bs.nil _, k⟩
  by_cases h : l.length < 20
  · exact bad 3 (by decide) (if_pos h) (ipCut_short v l w hb h)
  obtain ⟨b, o, cap, rfl, hcap, hcm, b0, b2, b3, hb0, hb2, hb3, e0, e2, HC⟩ := heads hb (by omega)
  have eE : endH l = 4 * (b0 % 16) := by rw [endH, e0]
  have eN : lenH l = 256 * b2 + b3 := by rw [lenH, e2]
  by_cases h2 : b0 / 16 ≠ 4 ∨ 4 * (b0 % 16) < 20
  · refine bad 4 (by decide) ?_ (ipCut_bad b o l.length cap b0 b2 b3 w (by omega) hb0 h2 HC)
    rw [parseE, if_neg h, e0, eE, if_pos h2]
  have hI : ParseIn l.length b0 b2 b3 (b0 % 16) (256 * b2 + b3) := ⟨by omega, hb0, hb2, hb3, rfl, by omega, by omega, rfl⟩
  by_cases h3 : l.length < 4 * (b0 % 16) ∨ l.length < 256 * b2 + b3
  · refine bad 3 (by decide) ?_ (ipCut_short2 b o l.length cap b0 b2 b3 _ _ l w hI rfl e2 hb h3 HC)
    rw [parseE, if_neg h, e0, eE, if_neg h2, eN, if_pos h3]
  by_cases h4 : 256 * b2 + b3 < 4 * (b0 % 16) ∨ 9000 < 256 * b2 + b3
  · refine bad 4 (by decide) ?_ (ipCut_bad2 b o l.length cap b0 b2 b3 _ _ l w hI rfl e2 hb (by omega) (by omega) h4 HC)
    rw [parseE, if_neg h, e0, eE, if_neg h2, eN, if_neg h3, if_pos h4]
  have HL := ipCut_last b o l.length cap b0 b2 b3 _ _ (4 * (b0 % 16)) rfl l w hI rfl e2 hb hcap hcm (by omega) (by omega) (by omega) (by omega) HC
  by_cases h5 : sumB (l.take (4 * (b0 % 16))) = 65535
  · have hE : parseE l = 0 := by rw [parseE, if_neg h, e0, eE, if_neg h2, eN, if_neg h3, if_neg h4, if_neg (by simpa using h5)]
    have e1 : headP l = l.take (4 * (b0 % 16)) := by rw [headP, if_pos hE, eE]
    have e3 : parseP l = (l.take (256 * b2 + b3)).drop (4 * (b0 % 16)) := by rw [parseP, if_pos hE, eE, eN]
    rw [e1, e3, hE]
    rw [if_pos h5, if_pos h5, if_pos h5] at HL
    exact HL
  · rw [if_neg h5, if_neg h5, if_neg h5] at HL
    have hE : parseE l = 5 := by rw [parseE, if_neg h, e0, eE, if_neg h2, eN, if_neg h3, if_neg h4, if_pos h5]
    have e1 : headP l = [] := if_neg (by rw [hE]; decide)
    have e3 : parseP l = [] := if_neg (by rw [hE]; decide)
    rw [e1, e3, hE]
    exact HL
end Go.Proofs.Yteoleblnhcnpkaa
