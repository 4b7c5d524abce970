/- Contract of the document's own Parse of layer 4: the sum, and what a head says. No condition beyond what it names. -/
import Derived.Test.YteoleblnhcnpkaaIpRD
import Derived.Laws.CopyOwn
namespace Go.Proofs.Yteoleblnhcnpkaa
open Go.RowKit
set_option linter.unusedVariables false

set_option maxRecDepth 100000 in
set_option maxHeartbeats 2000000 in
theorem riParse_sum (b o n cap b0 b2 b3 m N : Nat) (l : List UInt8) (w : World) (hI : ParseIn n b0 b2 b3 m N) (hl : l.length = n) (hb : Bs w (.slice (some ⟨b, o, none⟩) n cap) l) (hcap : n ≤ cap) (hcm : cap ≤ 9223372036854775807) (hk : 4 * m ≤ n) (hNn : N ≤ n) (hkN : 4 * m ≤ N) (hbig : N ≤ 9000) (hbad : sumB (l.take (4 * m)) ≠ 65535)
    (HC : ∀ w', Same w w' → w'.cell? ⟨b, o, none⟩ = some (.int .u8 (b0 : Int)) ∧ w'.cell? ⟨b, o + 2, none⟩ = some (.int .u8 (b2 : Int)) ∧ w'.cell? ⟨b, o + 3, none⟩ = some (.int .u8 (b3 : Int))) :
    Calls Try.prog 21 #[.slice (some ⟨b, o, none⟩) n cap] w fun e w' => e = .returned (parV zeroH nilV nilV 5) ∧ Same w w' := by
  obtain ⟨hn, h0, h2, h3, hm, hf, hv, hN⟩ := hI
  have h' : ¬ (n : Int) < 20 := by omega
  have h'' : (20 : Int) ≤ n := by omega
  have z0 := i8_and15 b0 h0
  rw [hm] at z0
  have hm15 : (m : Int) ≤ 15 := by omega
  have hm5 : (20 : Int) ≤ 4 * m := by omega
  have hm6 : ¬ (4 * (m : Int) < 20) := by omega
  have hf' : (b0 : Int) / 16 = 4 := by omega
  have hN' : 256 * (b2 : Int) + b3 = N := by omega
  have h2' : (b2 : Int) < 256 := by omega
  have h3' : (b3 : Int) < 256 := by omega
  have n2 : (2 : Int) < n := by omega
  have n3 : (3 : Int) < n := by omega
  have z1 : IntKind.i64.wrap (256 * (b2 : Int)) = 256 * b2 := IntWalk.i64_in _ (by omega)
  have z2 : IntKind.i64.wrap (256 * (b2 : Int) + b3) = N := by rw [hN']; exact IntWalk.i64_in _ (by omega)
  have k1 : ¬ ((n : Int) < 4 * m) := by omega
  have k2 : ¬ ((n : Int) < N) := by omega
  have k3 : ¬ ((N : Int) < 4 * m) := by omega
  have k4 : ¬ ((9000 : Int) < N) := by omega
  have k5 : (4 : Int) * m ≤ cap := by omega
  have HBC : Hid (Bs w (.slice (some ⟨b, o, none⟩) (4 * m) cap) (l.take (4 * m))) := by
    have := (hb.cut 0 (4 * m) (by rw [hl]; omega)).1
    rw [if_neg (by omega)] at this
    have h2 : Bs w (.slice (some ⟨b, o, none⟩) (4 * m) cap) (l.take (4 * m)) := by simpa [Addr.add] using this
    exact h2
  have HLT : Hid (((l.take (4 * m)).length : Int) ≤ 140737488355328) := by show _ ≤ _; simp; omega
  have hq : ((sumB (l.take (4 * m)) : Int) != 65535) = true := by simpa using (fun h => hbad (by omega))
  have HC0 := Lib.hid HC
  have HA : Hid (Same w (w.alloc (zeroO 34))) := Same.alloc w _
  have HK : Hid ((w.alloc (zeroO 34)).heap[w.heap.size]? = some (zeroO 34)) := heap_alloc_new w _
  obtain ⟨c0, c2, c3⟩ := HC _ (Same.alloc w (zeroO 34))
  clear HC
  go_enter Try.func21, Try.ntmps21
  go_wp2_with fail
  refine reg_start (fun w' => Same (w.alloc (zeroO 34)) w') (by kernel_rfl) ?_
  refine reg_take (v := ?_) 0 (some 30) rfl rfl (by kernel_rfl) (fun _ _ _ h => h) (by kernel_rfl) ((Same.refl _).drew) ?_ ?_
  rotate_left
  · (intro w' hw'; obtain ⟨c0, c2, c3⟩ := HC0.out w' (HA.out.trans hw'); go_simp; try with_reducible rfl)
  try simp only [Act.put, List.setIfInBounds_toArray, List.set_cons_zero, List.set_cons_succ]
  refine reg_take (v := ?_) 1 (some 31) rfl rfl (by kernel_rfl) (fun _ _ _ h => h) (by kernel_rfl) ((Same.refl _).drew) ?_ ?_
  rotate_left
  · (intro w' hw'; obtain ⟨c0, c2, c3⟩ := HC0.out w' (HA.out.trans hw'); go_simp; try with_reducible rfl)
  try simp only [Act.put, List.setIfInBounds_toArray, List.set_cons_zero, List.set_cons_succ]
  refine reg_take (v := ?_) 2 (some 32) rfl rfl (by kernel_rfl) (fun _ _ _ h => h) (by kernel_rfl) ((Same.refl _).drew) ?_ ?_
  rotate_left
  · (intro w' hw'; obtain ⟨c0, c2, c3⟩ := HC0.out w' (HA.out.trans hw'); go_simp; try with_reducible rfl)
  try simp only [Act.put, List.setIfInBounds_toArray, List.set_cons_zero, List.set_cons_succ]
  refine reg_take (v := ?_) 3 (some 33) rfl rfl (by kernel_rfl) (fun _ _ _ h => h) (by kernel_rfl) ((Same.refl _).drew) ?_ ?_
  rotate_left
  · (intro w' hw'; obtain ⟨c0, c2, c3⟩ := HC0.out w' (HA.out.trans hw'); go_simp; try with_reducible rfl)
  try simp only [Act.put, List.setIfInBounds_toArray, List.set_cons_zero, List.set_cons_succ]
  refine reg_take (v := ?_) 4 (some 34) rfl rfl (by kernel_rfl) (fun _ _ _ h => h) (by kernel_rfl) ((Same.refl _).drew) ?_ ?_
  rotate_left
  · (intro w' hw'; obtain ⟨c0, c2, c3⟩ := HC0.out w' (HA.out.trans hw'); go_simp; try with_reducible rfl)
  try simp only [Act.put, List.setIfInBounds_toArray, List.set_cons_zero, List.set_cons_succ]
  refine reg_take (v := ?_) 5 (some 35) rfl rfl (by kernel_rfl) (fun _ _ _ h => h) (by kernel_rfl) ((Same.refl _).drew) ?_ ?_
  rotate_left
  · (intro w' hw'; obtain ⟨c0, c2, c3⟩ := HC0.out w' (HA.out.trans hw'); go_simp; try with_reducible rfl)
  try simp only [Act.put, List.setIfInBounds_toArray, List.set_cons_zero, List.set_cons_succ]
  refine reg_take (v := ?_) 6 (some 36) rfl rfl (by kernel_rfl) (fun _ _ _ h => h) (by kernel_rfl) ((Same.refl _).drew) ?_ ?_
  rotate_left
  · (intro w' hw'; obtain ⟨c0, c2, c3⟩ := HC0.out w' (HA.out.trans hw'); go_simp; try with_reducible rfl)
  try simp only [Act.put, List.setIfInBounds_toArray, List.set_cons_zero, List.set_cons_succ]
  refine reg_take (v := ?_) 7 (some 37) rfl rfl (by kernel_rfl) (fun _ _ _ h => h) (by kernel_rfl) ((Same.refl _).drew) ?_ ?_
  rotate_left
  · (intro w' hw'; obtain ⟨c0, c2, c3⟩ := HC0.out w' (HA.out.trans hw'); go_simp; try with_reducible rfl)
  try simp only [Act.put, List.setIfInBounds_toArray, List.set_cons_zero, List.set_cons_succ]
  refine reg_take (v := ?_) 8 (some 38) rfl rfl (by kernel_rfl) (fun _ _ _ h => h) (by kernel_rfl) ((Same.refl _).drew) ?_ ?_
  rotate_left
  · (intro w' hw'; obtain ⟨c0, c2, c3⟩ := HC0.out w' (HA.out.trans hw'); go_simp; try with_reducible rfl)
  try simp only [Act.put, List.setIfInBounds_toArray, List.set_cons_zero, List.set_cons_succ]
  refine reg_take (v := ?_) 9 (some 39) rfl rfl (by kernel_rfl) (fun _ _ _ h => h) (by kernel_rfl) ((Same.refl _).drew) ?_ ?_
  rotate_left
  · (intro w' hw'; obtain ⟨c0, c2, c3⟩ := HC0.out w' (HA.out.trans hw'); go_simp; try with_reducible rfl)
  try simp only [Act.put, List.setIfInBounds_toArray, List.set_cons_zero, List.set_cons_succ]
  refine reg_take (v := ?_) 10 (some 6) rfl rfl (by kernel_rfl) (fun _ _ _ h => h) (by kernel_rfl) ((Same.refl _).drew) ?_ ?_
  rotate_left
  · (intro w' hw'; obtain ⟨c0, c2, c3⟩ := HC0.out w' (HA.out.trans hw'); go_simp; try with_reducible rfl)
  try simp only [Act.put, List.setIfInBounds_toArray, List.set_cons_zero, List.set_cons_succ]
  refine reg_done (by kernel_rfl) ?_
  go_wp2_with fail
  refine (rSum_any _ (l.take (4 * m)) _ (HBC.out.same HA.out.drew) HLT.out).mono ?_
  rintro e w1 ⟨rfl, rfl⟩
  generalize sumB (l.take (4 * m)) = q at *
  go_wp2_with fail
  refine bodyPost_ret (v := parV zeroH nilV nilV 5) ?_ rfl ⟨rfl, HA.out.drew⟩
  simp [results, Try.results21, go_sem, zeroH]

theorem OwnB.mod {w w' : World} {B s : Nat} {v : Value} {l : List UInt8} (h : Mod s w w') (hs : v.ownBlock ≠ some s) (hb : OwnB w B v l) : OwnB w' B v l :=
  World.ownsRow.kept (row := some s) hb ⟨h.os, h.tape, h.output, h.size, fun k hk hks => h.block k hk (fun e => hks (by rw [e]))⟩ (by
    by_cases h : v.ownBlock = none
    · exact .inl h
    · exact .inr hs)
theorem Mod.setRow (s : Nat) (w : World) (cs : Array Value) : Mod s w (w.setRow s cs) := ⟨rfl, rfl, rfl, by simp [World.setRow], fun k _ hs => setRow_other w s k cs hs⟩

theorem hd_one (h : Hd) (ao : Option Addr) (n c : Nat) : (#[.int .i64 h.tos, .int .i64 h.id, .int .i64 h.flags, .int .i64 h.frag, .int .i64 h.ttl, .int .i64 h.proto, .int .u32 h.src, .int .u32 h.dst, .slice ao n c] : Array Value).all (·.oneCell') = true := by
  simp [Value.oneCell']

/-- on the way through Parse: s is the source of the head, H the header that is filled, R the result's cell -/
structure RP (w u : World) (s H R : Nat) (all : Value) (l : List UInt8) (a : Nat) (h : Hd) (vo : Value) : Prop where
  same : Same w u
  src : RSrcB u s all l a 0
  hd : u.heap[H]? = some (hdO 34 h vo)
  res : u.heap[R]? = some (zeroO 34)
  sR : R < s
  sH : s < H
  wR : w.heap.size ≤ R
  bs : ∀ g, all.ownBlock = some g → g < H
theorem RP.step {w u u' : World} {s H R : Nat} {all : Value} {l : List UInt8} {a a' : Nat} {h : Hd} {vo : Value} (x : RP w u s H R all l a h vo) (hm : Mod s u u') (hs : RSrcB u' s all l a' 0) : RP w u' s H R all l a' h vo := by
  have hH := (Array.getElem?_eq_some_iff.1 x.hd).1
  have hR := (Array.getElem?_eq_some_iff.1 x.res).1
  exact ⟨Below.trans x.same (hm.below (Nat.le_trans x.wR (Nat.le_of_lt x.sR)) x.same.size), hs, by rw [hm.block H hH (by have := x.sH; omega)]; exact x.hd, by rw [hm.block R hR (by have := x.sR; omega)]; exact x.res, x.sR, x.sH, x.wR, x.bs⟩
theorem RP.put {w u : World} {s H R : Nat} {all : Value} {l : List UInt8} {a : Nat} {h : Hd} {vo : Value} (x : RP w u s H R all l a h vo) (j : Nat) (v : Value) (h' : Hd) (vo' : Value)
    (he : (u.setCell ⟨H, j, none⟩ v).heap[H]? = some (hdO 34 h' vo')) : RP w (u.setCell ⟨H, j, none⟩ v) s H R all l a h' vo' := by
  have hm := Mod.setCell H j u v
  have hR := (Array.getElem?_eq_some_iff.1 x.res).1
  have hsH : s ≠ H := by have := x.sH; omega
  refine ⟨Below.trans x.same (hm.below (by have := x.wR; have := x.sR; have := x.sH; omega) x.same.size), x.src.other hm hsH ?_, he, ?_, x.sR, x.sH, x.wR, x.bs⟩
  · intro hh; have := x.bs _ hh; omega
  · rw [hm.block R hR (by have := x.sR; have := x.sH; omega)]; exact x.res
theorem RP.cells {w u : World} {s H R : Nat} {all : Value} {l : List UInt8} {a : Nat} {h : Hd} {vo : Value} (x : RP w u s H R all l a h vo) : HdAt u H h vo ∧ ∀ j, u.frozen? ⟨H, j, none⟩ = false := by
  refine ⟨HdAt.of x.hd, fun j => ?_⟩
  simp [World.frozen?, x.hd]

set_option maxRecDepth 100000 in
set_option maxHeartbeats 2000000 in
theorem riParse_ok (b o n cap b0 b2 b3 m N : Nat) (l : List UInt8) (w : World) (hI : ParseIn n b0 b2 b3 m N) (hl : l.length = n) (hb : Bs w (.slice (some ⟨b, o, none⟩) n cap) l) (hcap : n ≤ cap) (hcm : cap ≤ 9223372036854775807) (hk : 4 * m ≤ n) (hNn : N ≤ n) (hkN : 4 * m ≤ N) (hbig : N ≤ 9000) (hgood : sumB (l.take (4 * m)) = 65535)
    (HC : ∀ w', Same w w' → w'.cell? ⟨b, o, none⟩ = some (.int .u8 (b0 : Int)) ∧ w'.cell? ⟨b, o + 2, none⟩ = some (.int .u8 (b2 : Int)) ∧ w'.cell? ⟨b, o + 3, none⟩ = some (.int .u8 (b3 : Int))) :
    Calls Try.prog 21 #[.slice (some ⟨b, o, none⟩) n cap] w fun e w' => ∃ vo vp, e = .returned (parV (readH (l.take (4 * m))) vo vp 0) ∧ OwnB w' w.heap.size vo ((l.take (4 * m)).drop 20) ∧ OwnB w' w.heap.size vp ((l.take N).drop (4 * m)) ∧ Same w w' := by
  obtain ⟨hn, h0, h2, h3, hm, hf, hv, hN⟩ := hI
  have h' : ¬ (n : Int) < 20 := by omega
  have h'' : (20 : Int) ≤ n := by omega
  have z0 := i8_and15 b0 h0
  rw [hm] at z0
  have hm15 : (m : Int) ≤ 15 := by omega
  have hm5 : (20 : Int) ≤ 4 * m := by omega
  have hm6 : ¬ (4 * (m : Int) < 20) := by omega
  have hf' : (b0 : Int) / 16 = 4 := by omega
  have hN' : 256 * (b2 : Int) + b3 = N := by omega
  have h2' : (b2 : Int) < 256 := by omega
  have h3' : (b3 : Int) < 256 := by omega
  have n2 : (2 : Int) < n := by omega
  have n3 : (3 : Int) < n := by omega
  have z1 : IntKind.i64.wrap (256 * (b2 : Int)) = 256 * b2 := IntWalk.i64_in _ (by omega)
  have z2 : IntKind.i64.wrap (256 * (b2 : Int) + b3) = N := by rw [hN']; exact IntWalk.i64_in _ (by omega)
  have k1 : ¬ ((n : Int) < 4 * m) := by omega
  have k2 : ¬ ((n : Int) < N) := by omega
  have k3 : ¬ ((N : Int) < 4 * m) := by omega
  have k4 : ¬ ((9000 : Int) < N) := by omega
  have k5 : (4 : Int) * m ≤ cap := by omega
  have HBC : Hid (Bs w (.slice (some ⟨b, o, none⟩) (4 * m) cap) (l.take (4 * m))) := by
    have := (hb.cut 0 (4 * m) (by rw [hl]; omega)).1
    rw [if_neg (by omega)] at this
    have h2 : Bs w (.slice (some ⟨b, o, none⟩) (4 * m) cap) (l.take (4 * m)) := by simpa [Addr.add] using this
    exact h2
  have HLT : Hid (((l.take (4 * m)).length : Int) ≤ 140737488355328) := by show _ ≤ _; simp; omega
  have hq : ((sumB (l.take (4 * m)) : Int) != 65535) = false := by simpa using (show (sumB (l.take (4 * m)) : Int) = 65535 by omega)
  have HC0 := Lib.hid HC
  have HA : Hid (Same w (w.alloc (zeroO 34))) := Same.alloc w _
  have HK : Hid ((w.alloc (zeroO 34)).heap[w.heap.size]? = some (zeroO 34)) := heap_alloc_new w _
  obtain ⟨c0, c2, c3⟩ := HC _ (Same.alloc w (zeroO 34))
  clear HC
  go_enter Try.func21, Try.ntmps21
  go_wp2_with fail
  refine reg_start (fun w' => Same (w.alloc (zeroO 34)) w') (by kernel_rfl) ?_
  refine reg_take (v := ?_) 0 (some 30) rfl rfl (by kernel_rfl) (fun _ _ _ h => h) (by kernel_rfl) ((Same.refl _).drew) ?_ ?_
  rotate_left
  · (intro w' hw'; obtain ⟨c0, c2, c3⟩ := HC0.out w' (HA.out.trans hw'); go_simp; try with_reducible rfl)
  try simp only [Act.put, List.setIfInBounds_toArray, List.set_cons_zero, List.set_cons_succ]
  refine reg_take (v := ?_) 1 (some 31) rfl rfl (by kernel_rfl) (fun _ _ _ h => h) (by kernel_rfl) ((Same.refl _).drew) ?_ ?_
  rotate_left
  · (intro w' hw'; obtain ⟨c0, c2, c3⟩ := HC0.out w' (HA.out.trans hw'); go_simp; try with_reducible rfl)
  try simp only [Act.put, List.setIfInBounds_toArray, List.set_cons_zero, List.set_cons_succ]
  refine reg_take (v := ?_) 2 (some 32) rfl rfl (by kernel_rfl) (fun _ _ _ h => h) (by kernel_rfl) ((Same.refl _).drew) ?_ ?_
  rotate_left
  · (intro w' hw'; obtain ⟨c0, c2, c3⟩ := HC0.out w' (HA.out.trans hw'); go_simp; try with_reducible rfl)
  try simp only [Act.put, List.setIfInBounds_toArray, List.set_cons_zero, List.set_cons_succ]
  refine reg_take (v := ?_) 3 (some 33) rfl rfl (by kernel_rfl) (fun _ _ _ h => h) (by kernel_rfl) ((Same.refl _).drew) ?_ ?_
  rotate_left
  · (intro w' hw'; obtain ⟨c0, c2, c3⟩ := HC0.out w' (HA.out.trans hw'); go_simp; try with_reducible rfl)
  try simp only [Act.put, List.setIfInBounds_toArray, List.set_cons_zero, List.set_cons_succ]
  refine reg_take (v := ?_) 4 (some 34) rfl rfl (by kernel_rfl) (fun _ _ _ h => h) (by kernel_rfl) ((Same.refl _).drew) ?_ ?_
  rotate_left
  · (intro w' hw'; obtain ⟨c0, c2, c3⟩ := HC0.out w' (HA.out.trans hw'); go_simp; try with_reducible rfl)
  try simp only [Act.put, List.setIfInBounds_toArray, List.set_cons_zero, List.set_cons_succ]
  refine reg_take (v := ?_) 5 (some 35) rfl rfl (by kernel_rfl) (fun _ _ _ h => h) (by kernel_rfl) ((Same.refl _).drew) ?_ ?_
  rotate_left
  · (intro w' hw'; obtain ⟨c0, c2, c3⟩ := HC0.out w' (HA.out.trans hw'); go_simp; try with_reducible rfl)
  try simp only [Act.put, List.setIfInBounds_toArray, List.set_cons_zero, List.set_cons_succ]
  refine reg_take (v := ?_) 6 (some 36) rfl rfl (by kernel_rfl) (fun _ _ _ h => h) (by kernel_rfl) ((Same.refl _).drew) ?_ ?_
  rotate_left
  · (intro w' hw'; obtain ⟨c0, c2, c3⟩ := HC0.out w' (HA.out.trans hw'); go_simp; try with_reducible rfl)
  try simp only [Act.put, List.setIfInBounds_toArray, List.set_cons_zero, List.set_cons_succ]
  refine reg_take (v := ?_) 7 (some 37) rfl rfl (by kernel_rfl) (fun _ _ _ h => h) (by kernel_rfl) ((Same.refl _).drew) ?_ ?_
  rotate_left
  · (intro w' hw'; obtain ⟨c0, c2, c3⟩ := HC0.out w' (HA.out.trans hw'); go_simp; try with_reducible rfl)
  try simp only [Act.put, List.setIfInBounds_toArray, List.set_cons_zero, List.set_cons_succ]
  refine reg_take (v := ?_) 8 (some 38) rfl rfl (by kernel_rfl) (fun _ _ _ h => h) (by kernel_rfl) ((Same.refl _).drew) ?_ ?_
  rotate_left
  · (intro w' hw'; obtain ⟨c0, c2, c3⟩ := HC0.out w' (HA.out.trans hw'); go_simp; try with_reducible rfl)
  try simp only [Act.put, List.setIfInBounds_toArray, List.set_cons_zero, List.set_cons_succ]
  refine reg_take (v := ?_) 9 (some 39) rfl rfl (by kernel_rfl) (fun _ _ _ h => h) (by kernel_rfl) ((Same.refl _).drew) ?_ ?_
  rotate_left
  · (intro w' hw'; obtain ⟨c0, c2, c3⟩ := HC0.out w' (HA.out.trans hw'); go_simp; try with_reducible rfl)
  try simp only [Act.put, List.setIfInBounds_toArray, List.set_cons_zero, List.set_cons_succ]
  refine reg_take (v := ?_) 10 (some 6) rfl rfl (by kernel_rfl) (fun _ _ _ h => h) (by kernel_rfl) ((Same.refl _).drew) ?_ ?_
  rotate_left
  · (intro w' hw'; obtain ⟨c0, c2, c3⟩ := HC0.out w' (HA.out.trans hw'); go_simp; try with_reducible rfl)
  try simp only [Act.put, List.setIfInBounds_toArray, List.set_cons_zero, List.set_cons_succ]
  refine reg_done (by kernel_rfl) ?_
  go_wp2_with fail
  refine (rSum_any _ (l.take (4 * m)) _ (HBC.out.same HA.out.drew) HLT.out).mono ?_
  rintro e w1 ⟨rfl, rfl⟩
  go_wp2_with fail
  refine (rRead_any _ (l.take (4 * m)) _ (HBC.out.same HA.out.drew) (by have := HLT.out; omega)).mono ?_
  rintro e w2 ⟨s, all, rfl, hsz, hsrc, hsm, hown⟩
  have HS := Lib.hid hsrc
  have HM := Lib.hid hsm
  have HZ := Lib.hid hsz
  have HO := Lib.hid hown
  clear hsrc hsm hsz hown
  have ht20 : Hid (20 ≤ (l.take (4 * m)).length) := by show _ ≤ _; simp; omega
  have HL' := Lib.hid (show (l.take (4 * m)).length ≤ 140737488355328 by have := HLT.out; omega)
  obtain ⟨L, hL⟩ : ∃ L, L = l.take (4 * m) := ⟨_, rfl⟩
  rw [← hL] at HS HL' ht20
  have HLQ := Lib.hid hL
  clear hL
  go_wp2_with fail
  refine (rU8_at s all _ 0 w2 HS.out HL'.out (by have := ht20.out; omega)).mono ?_
  rintro e w3 ⟨rfl, hm3, hs3⟩
  go_wp2_with fail
  refine (rU8_at s all _ 1 w3 hs3 HL'.out (by have := ht20.out; omega)).mono ?_
  rintro e w4 ⟨rfl, hm4, hs4⟩
  have hRs : w.heap.size < s := by have := HZ.out; simp at this; have h2 : (w.alloc (zeroO 34)).drew.heap.size = w.heap.size + 1 := by simp [World.drew]
                                   omega
  have X0 : Hid (RP w (w4.alloc (hdO 34 ⟨fld L 1 1, 0, 0, 0, 0, 0, 0, 0, []⟩ nilV)) s w4.heap.size w.heap.size all L 2 ⟨fld L 1 1, 0, 0, 0, 0, 0, 0, 0, []⟩ nilV) := by
    have hs2 : Same w w2 := HA.out.drew.trans HM.out
    have hm : Mod s w2 w4 := hm3.trans hm4
    have hk2 : w2.heap[w.heap.size]? = some (zeroO 34) := HM.out.block HK.out
    have hk4 : w4.heap[w.heap.size]? = some (zeroO 34) := by rw [hm.block _ (Array.getElem?_eq_some_iff.1 hk2).1 (by omega)]; exact hk2
    exact ⟨(show Same w w4 from Below.trans hs2 (hm.below (Nat.le_of_lt hRs) hs2.size)).trans (Same.alloc w4 _), hs4.same (Same.alloc w4 _), heap_alloc_new w4 _, (Same.alloc w4 _).block hk4, hRs, hs4.src.lt, Nat.le_refl _, fun g hg => hs4.lt g hg⟩
  clear hm3 hs3 hm4 hs4 HS hRs
  go_wp2_with fail
  generalize w4.heap.size = H at *
  generalize (w4.alloc (hdO 34 ⟨fld L 1 1, 0, 0, 0, 0, 0, 0, 0, []⟩ nilV)) = u0 at *
  refine (rU16_at s all _ 2 _ X0.out.src HL'.out (by have := ht20.out; omega)).mono ?_
  rintro e u1 ⟨rfl, hm1, hs1⟩
  have X1 := Lib.hid (X0.out.step hm1 hs1)
  clear hm1 hs1 X0
  obtain ⟨⟨c0, c1, c2, c3, c4, c5, c6, c7, c8⟩, hfz⟩ := X1.out.cells
  go_wp2_with fail
  clear c0 c1 c2 c3 c4 c5 c6 c7 c8 hfz
  refine (rU16_at s all _ 4 _ X1.out.src HL'.out (by have := ht20.out; omega)).mono ?_
  rintro e u2 ⟨rfl, hm2, hs2⟩
  have X2 := Lib.hid (X1.out.step hm2 hs2)
  clear hm2 hs2 X1
  obtain ⟨⟨c0, c1, c2, c3, c4, c5, c6, c7, c8⟩, hfz⟩ := X2.out.cells
  go_wp2_with fail
  clear c0 c1 c2 c3 c4 c5 c6 c7 c8 hfz
  have X3 := Lib.hid (X2.out.put 1 (.int .i64 (fld L 4 2 : Nat)) ⟨fld L 1 1, fld L 4 2, 0, 0, 0, 0, 0, 0, []⟩ nilV (by simp [World.setCell, Array.getElem?_modify, X2.out.hd]))
  clear X2
  generalize World.setCell _ ⟨H, 1, none⟩ (.int .i64 (fld L 4 2 : Nat)) = u3 at *
  refine (rU16_at s all _ 6 _ X3.out.src HL'.out (by have := ht20.out; omega)).mono ?_
  rintro e u4 ⟨rfl, hm4, hs4⟩
  have X4 := Lib.hid (X3.out.step hm4 hs4)
  clear hm4 hs4 X3
  obtain ⟨⟨c0, c1, c2, c3, c4, c5, c6, c7, c8⟩, hfz⟩ := X4.out.cells
  have hfl : (fld L 6 2 : Int) < 65536 := by have := fld_lt L 6 2; omega
  go_wp2_with fail
  have X5 := Lib.hid (X4.out.put 2 (.int .i64 ((fld L 6 2 : Int) / 8192)) ⟨fld L 1 1, fld L 4 2, (fld L 6 2 : Int) / 8192, 0, 0, 0, 0, 0, []⟩ nilV (by simp [World.setCell, Array.getElem?_modify, X4.out.hd]))
  clear X4 c0 c1 c2 c3 c4 c5 c6 c7 c8 hfz
  generalize World.setCell _ ⟨H, 2, none⟩ (.int .i64 ((fld L 6 2 : Int) / 8192)) = u5 at *
  have X6 := Lib.hid (X5.out.put 3 (.int .i64 ((fld L 6 2 : Int) % 8192)) ⟨fld L 1 1, fld L 4 2, (fld L 6 2 : Int) / 8192, (fld L 6 2 : Int) % 8192, 0, 0, 0, 0, []⟩ nilV (by simp [World.setCell, Array.getElem?_modify, X5.out.hd]))
  clear X5
  generalize World.setCell _ ⟨H, 3, none⟩ (.int .i64 ((fld L 6 2 : Int) % 8192)) = u6 at *
  refine (rU8_at s all _ 8 _ X6.out.src HL'.out (by have := ht20.out; omega)).mono ?_
  rintro e u7 ⟨rfl, hm7, hs7⟩
  have X7 := Lib.hid (X6.out.step hm7 hs7)
  clear hm7 hs7 X6
  obtain ⟨⟨c0, c1, c2, c3, c4, c5, c6, c7, c8⟩, hfz⟩ := X7.out.cells
  go_wp2_with fail
  have X8 := Lib.hid (X7.out.put 4 (.int .i64 (fld L 8 1 : Nat)) ⟨fld L 1 1, fld L 4 2, (fld L 6 2 : Int) / 8192, (fld L 6 2 : Int) % 8192, fld L 8 1, 0, 0, 0, []⟩ nilV (by simp [World.setCell, Array.getElem?_modify, X7.out.hd]))
  clear X7 c0 c1 c2 c3 c4 c5 c6 c7 c8 hfz
  generalize World.setCell _ ⟨H, 4, none⟩ (.int .i64 (fld L 8 1 : Nat)) = u8 at *
  refine (rU8_at s all _ 9 _ X8.out.src HL'.out (by have := ht20.out; omega)).mono ?_
  rintro e u9 ⟨rfl, hm9, hs9⟩
  have X9 := Lib.hid (X8.out.step hm9 hs9)
  clear hm9 hs9 X8
  obtain ⟨⟨c0, c1, c2, c3, c4, c5, c6, c7, c8⟩, hfz⟩ := X9.out.cells
  go_wp2_with fail
  have X10 := Lib.hid (X9.out.put 5 (.int .i64 (fld L 9 1 : Nat)) ⟨fld L 1 1, fld L 4 2, (fld L 6 2 : Int) / 8192, (fld L 6 2 : Int) % 8192, fld L 8 1, fld L 9 1, 0, 0, []⟩ nilV (by simp [World.setCell, Array.getElem?_modify, X9.out.hd]))
  clear X9 c0 c1 c2 c3 c4 c5 c6 c7 c8 hfz
  generalize World.setCell _ ⟨H, 5, none⟩ (.int .i64 (fld L 9 1 : Nat)) = u10 at *
  refine (rU16_at s all _ 10 _ X10.out.src HL'.out (by have := ht20.out; omega)).mono ?_
  rintro e u11 ⟨rfl, hm11, hs11⟩
  have X11 := Lib.hid (X10.out.step hm11 hs11)
  clear hm11 hs11 X10
  obtain ⟨⟨c0, c1, c2, c3, c4, c5, c6, c7, c8⟩, hfz⟩ := X11.out.cells
  go_wp2_with fail
  clear c0 c1 c2 c3 c4 c5 c6 c7 c8 hfz
  refine (rU32_at s all _ 12 _ X11.out.src HL'.out (by have := ht20.out; omega)).mono ?_
  rintro e u12 ⟨rfl, hm12, hs12⟩
  have X12 := Lib.hid (X11.out.step hm12 hs12)
  clear hm12 hs12 X11
  obtain ⟨⟨c0, c1, c2, c3, c4, c5, c6, c7, c8⟩, hfz⟩ := X12.out.cells
  go_wp2_with fail
  have X13 := Lib.hid (X12.out.put 6 (.int .u32 (fld L 12 4 : Nat)) ⟨fld L 1 1, fld L 4 2, (fld L 6 2 : Int) / 8192, (fld L 6 2 : Int) % 8192, fld L 8 1, fld L 9 1, fld L 12 4, 0, []⟩ nilV (by simp [World.setCell, Array.getElem?_modify, X12.out.hd]))
  clear X12 c0 c1 c2 c3 c4 c5 c6 c7 c8 hfz
  generalize World.setCell _ ⟨H, 6, none⟩ (.int .u32 (fld L 12 4 : Nat)) = u13 at *
  refine (rU32_at s all _ 16 _ X13.out.src HL'.out (by have := ht20.out; omega)).mono ?_
  rintro e u14 ⟨rfl, hm14, hs14⟩
  have X14 := Lib.hid (X13.out.step hm14 hs14)
  clear hm14 hs14 X13
  obtain ⟨⟨c0, c1, c2, c3, c4, c5, c6, c7, c8⟩, hfz⟩ := X14.out.cells
  go_wp2_with fail
  have X15 := Lib.hid (X14.out.put 7 (.int .u32 (fld L 16 4 : Nat)) ⟨fld L 1 1, fld L 4 2, (fld L 6 2 : Int) / 8192, (fld L 6 2 : Int) % 8192, fld L 8 1, fld L 9 1, fld L 12 4, fld L 16 4, []⟩ nilV (by simp [World.setCell, Array.getElem?_modify, X14.out.hd]))
  clear X14 c0 c1 c2 c3 c4 c5 c6 c7 c8 hfz
  generalize World.setCell _ ⟨H, 7, none⟩ (.int .u32 (fld L 16 4 : Nat)) = u15 at *
  refine (rRest_any s all _ 20 0 _ X15.out.src HL'.out).mono ?_
  rintro e u16 ⟨vo, rfl, ho16, hm16, hs16⟩
  have ho16' : OwnB u16 u15.heap.size vo (L.drop 20) := by rw [restOf, if_pos rfl] at ho16; exact ho16
  have X16 := Lib.hid (X15.out.step hm16 hs16)
  have hHu : H < u15.heap.size := (Array.getElem?_eq_some_iff.1 X15.out.hd).1
  have HO16 := Lib.hid ho16'
  have HWu := Lib.hid X15.out.same.size
  clear hm16 hs16 X15 ho16
  obtain ⟨vao, vcap, hvv, -, -, -, -⟩ := ho16'.bs
  obtain ⟨no, hno⟩ : ∃ no, (L.drop 20).length = no := ⟨_, rfl⟩
  rw [hno] at hvv
  subst hvv
  clear ho16' hno
  obtain ⟨⟨c0, c1, c2, c3, c4, c5, c6, c7, c8⟩, hfz⟩ := X16.out.cells
  go_wp2_with fail
  have X17 := Lib.hid (X16.out.put 8 (.slice vao no vcap) ⟨fld L 1 1, fld L 4 2, (fld L 6 2 : Int) / 8192, (fld L 6 2 : Int) % 8192, fld L 8 1, fld L 9 1, fld L 12 4, fld L 16 4, L.drop 20⟩ (.slice vao no vcap) (by simp [World.setCell, Array.getElem?_modify, X16.out.hd]))
  have HO17 : Hid (OwnB (u16.setCell ⟨H, 8, none⟩ (.slice vao no vcap)) u15.heap.size (.slice vao no vcap) (L.drop 20)) := ownsRow_setCell_below HO16.out (a := ⟨H, 8, none⟩) hHu _
  clear X16 HO16 c0 c1 c2 c3 c4 c5 c6 c7 c8 hfz
  generalize World.setCell u16 ⟨H, 8, none⟩ _ = u17 at *
  have k6 : 4 * (m : Int) ≤ N := by omega
  have k7 : (N : Int) ≤ cap := by omega
  have k9 : (0 : Int) ≤ 4 * (m : Int) := by omega
  have k10 : (4 * (m : Int)).toNat = 4 * m := by omega
  by_cases hc : cap = 4 * m
  · have k11 : (N : Int) ≤ 4 * m := by omega
    have HP : Hid (Bs w (Value.slice (some ⟨b, o, none⟩) (N - 4 * m) 0) ((l.take N).drop (4 * m))) := by
      have := (hb.cut (4 * m) (N - 4 * m) (by rw [hl]; omega)).1
      rw [if_pos hc, show cap - 4 * m = 0 from by omega] at this
      rw [show (l.take N).drop (4 * m) = (l.drop (4 * m)).take (N - 4 * m) from by rw [List.drop_take]]
      have h2 : Bs w (Value.slice (some ⟨b, o, none⟩) (N - 4 * m) 0) ((l.drop (4 * m)).take (N - 4 * m)) := by simpa [Addr.add] using this
      exact h2
    have HLn := Lib.hid (show ([] : List UInt8).length + ((l.take N).drop (4 * m)).length ≤ 140737488355328 by simp; omega)
    have HRS := Lib.hid X17.out.res
    have HS17 := Lib.hid X17.out.same
    have HRH : Hid (w.heap.size ≠ H) := by have := X17.out.sR; have := X17.out.sH; show _ ≠ _; omega
    have HD : Hid (u17.drew.heap[H]? = some (hdO 34 ⟨fld L 1 1, fld L 4 2, (fld L 6 2 : Int) / 8192, (fld L 6 2 : Int) % 8192, fld L 8 1, fld L 9 1, fld L 12 4, fld L 16 4, L.drop 20⟩ (.slice vao no vcap))) := X17.out.hd
    have HRd : Hid (u17.drew.heap[w.heap.size]? = some (zeroO 34)) := X17.out.res
    have HOd : Hid (OwnB u17.drew u15.heap.size (.slice vao no vcap) (L.drop 20)) := HO17.out.same (Same.refl u17).drew
    have HSd : Hid (Same w u17.drew) := HS17.out.drew
    have HPd := Lib.hid (HP.out.same HSd.out)
    have HRu : Hid (w.heap.size < u15.heap.size) := by have := X17.out.sR; have := X17.out.sH; show _ < _; omega
    clear X17 HP HO17
    refine reg_start (fun w' => w'.heap[H]? = some (hdO 34 ⟨fld L 1 1, fld L 4 2, (fld L 6 2 : Int) / 8192, (fld L 6 2 : Int) % 8192, fld L 8 1, fld L 9 1, fld L 12 4, fld L 16 4, L.drop 20⟩ (.slice vao no vcap))) (by kernel_rfl) ?_
    refine reg_take (v := ?_) 0 (some 107) rfl rfl (by kernel_rfl) (fun _ _ _ h => h) (by kernel_rfl) (HD.out) ?_ ?_
    rotate_left
    · (intro w' hw'; obtain ⟨c0, c1, c2, c3, c4, c5, c6, c7, c8⟩ := HdAt.of hw'; go_simp; try with_reducible rfl)
    try simp only [Act.put, List.setIfInBounds_toArray, List.set_cons_zero, List.set_cons_succ]
    refine reg_take (v := ?_) 2 (some 109) rfl rfl (by kernel_rfl) (fun _ _ _ h => h) (by kernel_rfl) (HD.out) ?_ ?_
    rotate_left
    · (intro w' hw'; obtain ⟨c0, c1, c2, c3, c4, c5, c6, c7, c8⟩ := HdAt.of hw'; go_simp; try with_reducible rfl)
    try simp only [Act.put, List.setIfInBounds_toArray, List.set_cons_zero, List.set_cons_succ]
    refine reg_take (v := ?_) 3 (some 110) rfl rfl (by kernel_rfl) (fun _ _ _ h => h) (by kernel_rfl) (HD.out) ?_ ?_
    rotate_left
    · (intro w' hw'; obtain ⟨c0, c1, c2, c3, c4, c5, c6, c7, c8⟩ := HdAt.of hw'; go_simp; try with_reducible rfl)
    try simp only [Act.put, List.setIfInBounds_toArray, List.set_cons_zero, List.set_cons_succ]
    refine reg_take (v := ?_) 4 (some 111) rfl rfl (by kernel_rfl) (fun _ _ _ h => h) (by kernel_rfl) (HD.out) ?_ ?_
    rotate_left
    · (intro w' hw'; obtain ⟨c0, c1, c2, c3, c4, c5, c6, c7, c8⟩ := HdAt.of hw'; go_simp; try with_reducible rfl)
    try simp only [Act.put, List.setIfInBounds_toArray, List.set_cons_zero, List.set_cons_succ]
    refine reg_take (v := ?_) 5 (some 112) rfl rfl (by kernel_rfl) (fun _ _ _ h => h) (by kernel_rfl) (HD.out) ?_ ?_
    rotate_left
    · (intro w' hw'; obtain ⟨c0, c1, c2, c3, c4, c5, c6, c7, c8⟩ := HdAt.of hw'; go_simp; try with_reducible rfl)
    try simp only [Act.put, List.setIfInBounds_toArray, List.set_cons_zero, List.set_cons_succ]
    refine reg_one 1 rfl (by kernel_rfl) (by kernel_rfl) ?_
    generalize u17.drew = D at *
    go_simp
    refine ⟨(Same.alloc D _).block HD.out, ?_⟩
    try simp only [Act.put, List.setIfInBounds_toArray, List.set_cons_zero, List.set_cons_succ]
    refine reg_one 6 rfl (by kernel_rfl) (by kernel_rfl) ?_
    refine wp_append_bs _ _ (by rfl) D (Same.alloc D _) _ [] (by rfl) (OwnB.empty D) _ ((l.take N).drop (4 * m)) (by rfl) (HPd.out.same (Same.alloc D _)) HLn.out ?_
    intro vp u18 ho18 hs18
    have HD18 := Lib.hid (hs18.block HD.out)
    have HR18 := Lib.hid (hs18.block HRd.out)
    have HP18 := Lib.hid ho18
    have HS18 := Lib.hid hs18
    clear ho18 hs18
    obtain ⟨c0, c1, c2, c3, c4, c5, c6, c7, c8⟩ := HdAt.of (h := zeroH) (vo := nilV) HR18.out
    have hfz : ∀ j, u18.frozen? ⟨w.heap.size, j, none⟩ = false := fun j => by simp [World.frozen?, HR18.out]
    refine ⟨HD18.out, ?_⟩
    try simp only [Act.put, List.setIfInBounds_toArray, List.set_cons_zero, List.set_cons_succ]
    refine reg_one 7 rfl (by kernel_rfl) (by kernel_rfl) ?_
    refine wp_store_row 34 _ _ (by rfl) w.heap.size #[.int .i64 (fld L 1 1 : Nat), .int .i64 (fld L 4 2 : Nat), .int .i64 ((fld L 6 2 : Int) / 8192), .int .i64 ((fld L 6 2 : Int) % 8192), .int .i64 (fld L 8 1 : Nat), .int .i64 (fld L 9 1 : Nat), .int .u32 (fld L 12 4 : Nat), .int .u32 (fld L 16 4 : Nat), .slice vao no vcap] (by rfl) (by rfl) 34 _ HR18.out (by kernel_rfl) (by rfl) (hd_one ⟨fld L 1 1, fld L 4 2, (fld L 6 2 : Int) / 8192, (fld L 6 2 : Int) % 8192, fld L 8 1, fld L 9 1, fld L 12 4, fld L 16 4, L.drop 20⟩ _ _ _) ?_
    have HD19 : Hid ((u18.setRow w.heap.size #[.int .i64 (fld L 1 1 : Nat), .int .i64 (fld L 4 2 : Nat), .int .i64 ((fld L 6 2 : Int) / 8192), .int .i64 ((fld L 6 2 : Int) % 8192), .int .i64 (fld L 8 1 : Nat), .int .i64 (fld L 9 1 : Nat), .int .u32 (fld L 12 4 : Nat), .int .u32 (fld L 16 4 : Nat), .slice vao no vcap]).heap[H]? = some (hdO 34 ⟨fld L 1 1, fld L 4 2, (fld L 6 2 : Int) / 8192, (fld L 6 2 : Int) % 8192, fld L 8 1, fld L 9 1, fld L 12 4, fld L 16 4, L.drop 20⟩ (.slice vao no vcap))) := (setRow_other _ _ _ _ (Ne.symm HRH.out)).trans HD18.out
    refine ⟨HD19.out, ?_⟩
    try simp only [Act.put]
    refine reg_take (v := ?_) 8 (some 3) rfl rfl (by kernel_rfl) (fun _ _ _ h => h) (by kernel_rfl) (HD19.out) ?_ ?_
    rotate_left
    · (intro w' hw'; obtain ⟨c0, c1, c2, c3, c4, c5, c6, c7, c8⟩ := HdAt.of hw'; go_simp; try with_reducible rfl)
    try simp only [Act.put, List.setIfInBounds_toArray, List.set_cons_zero, List.set_cons_succ]
    refine reg_take (v := ?_) 9 (some 4) rfl rfl (by kernel_rfl) (fun _ _ _ h => h) (by kernel_rfl) (HD19.out) ?_ ?_
    rotate_left
    · (intro w' hw'; obtain ⟨c0, c1, c2, c3, c4, c5, c6, c7, c8⟩ := HdAt.of hw'; go_simp; try with_reducible rfl)
    try simp only [Act.put, List.setIfInBounds_toArray, List.set_cons_zero, List.set_cons_succ]
    refine reg_done (by kernel_rfl) ?_
    go_wp2_with fail
    have HR19 := Lib.hid (setRow_heap u18 w.heap.size _ #[.int .i64 (fld L 1 1 : Nat), .int .i64 (fld L 4 2 : Nat), .int .i64 ((fld L 6 2 : Int) / 8192), .int .i64 ((fld L 6 2 : Int) % 8192), .int .i64 (fld L 8 1 : Nat), .int .i64 (fld L 9 1 : Nat), .int .u32 (fld L 12 4 : Nat), .int .u32 (fld L 16 4 : Nat), .slice vao no vcap] _ _ HR18.out)
    have HM19 := Lib.hid (Mod.setRow w.heap.size u18 #[.int .i64 (fld L 1 1 : Nat), .int .i64 (fld L 4 2 : Nat), .int .i64 ((fld L 6 2 : Int) / 8192), .int .i64 ((fld L 6 2 : Int) % 8192), .int .i64 (fld L 8 1 : Nat), .int .i64 (fld L 9 1 : Nat), .int .u32 (fld L 12 4 : Nat), .int .u32 (fld L 16 4 : Nat), .slice vao no vcap])
    have HSw := Lib.hid (below_setRow (HSd.out.trans HS18.out) (Nat.le_refl w.heap.size) #[.int .i64 (fld L 1 1 : Nat), .int .i64 (fld L 4 2 : Nat), .int .i64 ((fld L 6 2 : Int) / 8192), .int .i64 ((fld L 6 2 : Int) % 8192), .int .i64 (fld L 8 1 : Nat), .int .i64 (fld L 9 1 : Nat), .int .u32 (fld L 12 4 : Nat), .int .u32 (fld L 16 4 : Nat), .slice vao no vcap])
    generalize u18.setRow w.heap.size _ = u19 at *
    have HOf : Hid (OwnB u19 w.heap.size (.slice vao no vcap) (L.drop 20)) := by
      refine (OwnB.mod HM19.out ?_ (HOd.out.same HS18.out)).mono (Nat.le_of_lt HRu.out)
      intro he; have h1 := (HOd.out.lt _ he).1; have h2 := HRu.out; omega
    have HPf : Hid (OwnB u19 w.heap.size vp ((l.take N).drop (4 * m))) := by
      have hRD : w.heap.size < D.heap.size := (Array.getElem?_eq_some_iff.1 HRd.out).1
      have := HP18.out
      rw [List.nil_append] at this
      refine (OwnB.mod HM19.out ?_ this).mono (Nat.le_of_lt hRD)
      intro he; have h1 := (this.lt _ he).1; omega
    rw [← HLQ.out]
    obtain ⟨c0, c1, c2, c3, c4, c5, c6, c7, c8⟩ := HdAt.of (h := ⟨fld L 1 1, fld L 4 2, (fld L 6 2 : Int) / 8192, (fld L 6 2 : Int) % 8192, fld L 8 1, fld L 9 1, fld L 12 4, fld L 16 4, L.drop 20⟩) (vo := .slice vao no vcap) HR19.out
    refine bodyPost_ret (v := parV (readH L) (.slice vao no vcap) vp 0) ?_ rfl ⟨_, vp, rfl, HOf.out, HPf.out, HSw.out⟩
    simp [results, Try.results21, go_sem, c0, c1, c2, c3, c4, c5, c6, c7, c8, readH]

  · have HP : Hid (Bs w (Value.slice (some ⟨b, o + 4 * m, none⟩) (N - 4 * m) (cap - 4 * m)) ((l.take N).drop (4 * m))) := by
      have := (hb.cut (4 * m) (N - 4 * m) (by rw [hl]; omega)).1
      rw [if_neg hc, Option.map_some, addr_add] at this
      rw [show (l.take N).drop (4 * m) = (l.drop (4 * m)).take (N - 4 * m) from by rw [List.drop_take]]
      have h2 : Bs w (Value.slice (some ⟨b, o + 4 * m, none⟩) (N - 4 * m) (cap - 4 * m)) ((l.drop (4 * m)).take (N - 4 * m)) := by simpa [Addr.add] using this
      exact h2
    have HLn := Lib.hid (show ([] : List UInt8).length + ((l.take N).drop (4 * m)).length ≤ 140737488355328 by simp; omega)
    have HRS := Lib.hid X17.out.res
    have HS17 := Lib.hid X17.out.same
    have HRH : Hid (w.heap.size ≠ H) := by have := X17.out.sR; have := X17.out.sH; show _ ≠ _; omega
    have HD : Hid (u17.drew.heap[H]? = some (hdO 34 ⟨fld L 1 1, fld L 4 2, (fld L 6 2 : Int) / 8192, (fld L 6 2 : Int) % 8192, fld L 8 1, fld L 9 1, fld L 12 4, fld L 16 4, L.drop 20⟩ (.slice vao no vcap))) := X17.out.hd
    have HRd : Hid (u17.drew.heap[w.heap.size]? = some (zeroO 34)) := X17.out.res
    have HOd : Hid (OwnB u17.drew u15.heap.size (.slice vao no vcap) (L.drop 20)) := HO17.out.same (Same.refl u17).drew
    have HSd : Hid (Same w u17.drew) := HS17.out.drew
    have HPd := Lib.hid (HP.out.same HSd.out)
    have HRu : Hid (w.heap.size < u15.heap.size) := by have := X17.out.sR; have := X17.out.sH; show _ < _; omega
    clear X17 HP HO17
    refine reg_start (fun w' => w'.heap[H]? = some (hdO 34 ⟨fld L 1 1, fld L 4 2, (fld L 6 2 : Int) / 8192, (fld L 6 2 : Int) % 8192, fld L 8 1, fld L 9 1, fld L 12 4, fld L 16 4, L.drop 20⟩ (.slice vao no vcap))) (by kernel_rfl) ?_
    refine reg_take (v := ?_) 0 (some 107) rfl rfl (by kernel_rfl) (fun _ _ _ h => h) (by kernel_rfl) (HD.out) ?_ ?_
    rotate_left
    · (intro w' hw'; obtain ⟨c0, c1, c2, c3, c4, c5, c6, c7, c8⟩ := HdAt.of hw'; go_simp; try with_reducible rfl)
    try simp only [Act.put, List.setIfInBounds_toArray, List.set_cons_zero, List.set_cons_succ]
    refine reg_take (v := ?_) 2 (some 109) rfl rfl (by kernel_rfl) (fun _ _ _ h => h) (by kernel_rfl) (HD.out) ?_ ?_
    rotate_left
    · (intro w' hw'; obtain ⟨c0, c1, c2, c3, c4, c5, c6, c7, c8⟩ := HdAt.of hw'; go_simp; try with_reducible rfl)
    try simp only [Act.put, List.setIfInBounds_toArray, List.set_cons_zero, List.set_cons_succ]
    refine reg_take (v := ?_) 3 (some 110) rfl rfl (by kernel_rfl) (fun _ _ _ h => h) (by kernel_rfl) (HD.out) ?_ ?_
    rotate_left
    · (intro w' hw'; obtain ⟨c0, c1, c2, c3, c4, c5, c6, c7, c8⟩ := HdAt.of hw'; go_simp; try with_reducible rfl)
    try simp only [Act.put, List.setIfInBounds_toArray, List.set_cons_zero, List.set_cons_succ]
    refine reg_take (v := ?_) 4 (some 111) rfl rfl (by kernel_rfl) (fun _ _ _ h => h) (by kernel_rfl) (HD.out) ?_ ?_
    rotate_left
    · (intro w' hw'; obtain ⟨c0, c1, c2, c3, c4, c5, c6, c7, c8⟩ := HdAt.of hw'; go_simp; try with_reducible rfl)
    try simp only [Act.put, List.setIfInBounds_toArray, List.set_cons_zero, List.set_cons_succ]
    refine reg_take (v := ?_) 5 (some 112) rfl rfl (by kernel_rfl) (fun _ _ _ h => h) (by kernel_rfl) (HD.out) ?_ ?_
    rotate_left
    · (intro w' hw'; obtain ⟨c0, c1, c2, c3, c4, c5, c6, c7, c8⟩ := HdAt.of hw'; go_simp; try with_reducible rfl)
    try simp only [Act.put, List.setIfInBounds_toArray, List.set_cons_zero, List.set_cons_succ]
    refine reg_one 1 rfl (by kernel_rfl) (by kernel_rfl) ?_
    generalize u17.drew = D at *
    go_simp
    refine ⟨(Same.alloc D _).block HD.out, ?_⟩
    try simp only [Act.put, List.setIfInBounds_toArray, List.set_cons_zero, List.set_cons_succ]
    refine reg_one 6 rfl (by kernel_rfl) (by kernel_rfl) ?_
    refine wp_append_bs _ _ (by rfl) D (Same.alloc D _) _ [] (by rfl) (OwnB.empty D) _ ((l.take N).drop (4 * m)) (by rfl) (HPd.out.same (Same.alloc D _)) HLn.out ?_
    intro vp u18 ho18 hs18
    have HD18 := Lib.hid (hs18.block HD.out)
    have HR18 := Lib.hid (hs18.block HRd.out)
    have HP18 := Lib.hid ho18
    have HS18 := Lib.hid hs18
    clear ho18 hs18
    obtain ⟨c0, c1, c2, c3, c4, c5, c6, c7, c8⟩ := HdAt.of (h := zeroH) (vo := nilV) HR18.out
    have hfz : ∀ j, u18.frozen? ⟨w.heap.size, j, none⟩ = false := fun j => by simp [World.frozen?, HR18.out]
    refine ⟨HD18.out, ?_⟩
    try simp only [Act.put, List.setIfInBounds_toArray, List.set_cons_zero, List.set_cons_succ]
    refine reg_one 7 rfl (by kernel_rfl) (by kernel_rfl) ?_
    refine wp_store_row 34 _ _ (by rfl) w.heap.size #[.int .i64 (fld L 1 1 : Nat), .int .i64 (fld L 4 2 : Nat), .int .i64 ((fld L 6 2 : Int) / 8192), .int .i64 ((fld L 6 2 : Int) % 8192), .int .i64 (fld L 8 1 : Nat), .int .i64 (fld L 9 1 : Nat), .int .u32 (fld L 12 4 : Nat), .int .u32 (fld L 16 4 : Nat), .slice vao no vcap] (by rfl) (by rfl) 34 _ HR18.out (by kernel_rfl) (by rfl) (hd_one ⟨fld L 1 1, fld L 4 2, (fld L 6 2 : Int) / 8192, (fld L 6 2 : Int) % 8192, fld L 8 1, fld L 9 1, fld L 12 4, fld L 16 4, L.drop 20⟩ _ _ _) ?_
    have HD19 : Hid ((u18.setRow w.heap.size #[.int .i64 (fld L 1 1 : Nat), .int .i64 (fld L 4 2 : Nat), .int .i64 ((fld L 6 2 : Int) / 8192), .int .i64 ((fld L 6 2 : Int) % 8192), .int .i64 (fld L 8 1 : Nat), .int .i64 (fld L 9 1 : Nat), .int .u32 (fld L 12 4 : Nat), .int .u32 (fld L 16 4 : Nat), .slice vao no vcap]).heap[H]? = some (hdO 34 ⟨fld L 1 1, fld L 4 2, (fld L 6 2 : Int) / 8192, (fld L 6 2 : Int) % 8192, fld L 8 1, fld L 9 1, fld L 12 4, fld L 16 4, L.drop 20⟩ (.slice vao no vcap))) := (setRow_other _ _ _ _ (Ne.symm HRH.out)).trans HD18.out
    refine ⟨HD19.out, ?_⟩
    try simp only [Act.put]
    refine reg_take (v := ?_) 8 (some 3) rfl rfl (by kernel_rfl) (fun _ _ _ h => h) (by kernel_rfl) (HD19.out) ?_ ?_
    rotate_left
    · (intro w' hw'; obtain ⟨c0, c1, c2, c3, c4, c5, c6, c7, c8⟩ := HdAt.of hw'; go_simp; try with_reducible rfl)
    try simp only [Act.put, List.setIfInBounds_toArray, List.set_cons_zero, List.set_cons_succ]
    refine reg_take (v := ?_) 9 (some 4) rfl rfl (by kernel_rfl) (fun _ _ _ h => h) (by kernel_rfl) (HD19.out) ?_ ?_
    rotate_left
    · (intro w' hw'; obtain ⟨c0, c1, c2, c3, c4, c5, c6, c7, c8⟩ := HdAt.of hw'; go_simp; try with_reducible rfl)
    try simp only [Act.put, List.setIfInBounds_toArray, List.set_cons_zero, List.set_cons_succ]
    refine reg_done (by kernel_rfl) ?_
    go_wp2_with fail
    have HR19 := Lib.hid (setRow_heap u18 w.heap.size _ #[.int .i64 (fld L 1 1 : Nat), .int .i64 (fld L 4 2 : Nat), .int .i64 ((fld L 6 2 : Int) / 8192), .int .i64 ((fld L 6 2 : Int) % 8192), .int .i64 (fld L 8 1 : Nat), .int .i64 (fld L 9 1 : Nat), .int .u32 (fld L 12 4 : Nat), .int .u32 (fld L 16 4 : Nat), .slice vao no vcap] _ _ HR18.out)
    have HM19 := Lib.hid (Mod.setRow w.heap.size u18 #[.int .i64 (fld L 1 1 : Nat), .int .i64 (fld L 4 2 : Nat), .int .i64 ((fld L 6 2 : Int) / 8192), .int .i64 ((fld L 6 2 : Int) % 8192), .int .i64 (fld L 8 1 : Nat), .int .i64 (fld L 9 1 : Nat), .int .u32 (fld L 12 4 : Nat), .int .u32 (fld L 16 4 : Nat), .slice vao no vcap])
    have HSw := Lib.hid (below_setRow (HSd.out.trans HS18.out) (Nat.le_refl w.heap.size) #[.int .i64 (fld L 1 1 : Nat), .int .i64 (fld L 4 2 : Nat), .int .i64 ((fld L 6 2 : Int) / 8192), .int .i64 ((fld L 6 2 : Int) % 8192), .int .i64 (fld L 8 1 : Nat), .int .i64 (fld L 9 1 : Nat), .int .u32 (fld L 12 4 : Nat), .int .u32 (fld L 16 4 : Nat), .slice vao no vcap])
    generalize u18.setRow w.heap.size _ = u19 at *
    have HOf : Hid (OwnB u19 w.heap.size (.slice vao no vcap) (L.drop 20)) := by
      refine (OwnB.mod HM19.out ?_ (HOd.out.same HS18.out)).mono (Nat.le_of_lt HRu.out)
      intro he; have h1 := (HOd.out.lt _ he).1; have h2 := HRu.out; omega
    have HPf : Hid (OwnB u19 w.heap.size vp ((l.take N).drop (4 * m))) := by
      have hRD : w.heap.size < D.heap.size := (Array.getElem?_eq_some_iff.1 HRd.out).1
      have := HP18.out
      rw [List.nil_append] at this
      refine (OwnB.mod HM19.out ?_ this).mono (Nat.le_of_lt hRD)
      intro he; have h1 := (this.lt _ he).1; omega
    rw [← HLQ.out]
    obtain ⟨c0, c1, c2, c3, c4, c5, c6, c7, c8⟩ := HdAt.of (h := ⟨fld L 1 1, fld L 4 2, (fld L 6 2 : Int) / 8192, (fld L 6 2 : Int) % 8192, fld L 8 1, fld L 9 1, fld L 12 4, fld L 16 4, L.drop 20⟩) (vo := .slice vao no vcap) HR19.out
    refine bodyPost_ret (v := parV (readH L) (.slice vao no vcap) vp 0) ?_ rfl ⟨_, vp, rfl, HOf.out, HPf.out, HSw.out⟩
    simp [results, Try.results21, go_sem, c0, c1, c2, c3, c4, c5, c6, c7, c8, readH]

end Go.Proofs.Yteoleblnhcnpkaa
