/- Contract of the document's own Parse of layer 4. No condition beyond what it names. -/
import Derived.Test.YteoleblnhcnpkaaIpRC
import Derived.Deep.SlicePairs
namespace Go.Proofs.Yteoleblnhcnpkaa
open Go.RowKit
set_option linter.unusedVariables false

theorem rU8_at (s : Nat) (all : Value) (l : List UInt8) (a : Nat) (w : World) (h : RSrcB w s all l a 0) (hl : l.length ≤ 140737488355328) (hk : a + 1 ≤ l.length) :
    Calls Try.prog 39 #[.pointer (some ⟨s, 0, none⟩)] w fun e w' => e = .returned (.int .i64 (fld l a 1)) ∧ Mod s w w' ∧ RSrcB w' s all l (a + 1) 0 := by
  have H := rU8_any s all l a 0 w h hl
  have e1 : stepOut l a 0 1 = _ := (step_yes hk).1
  have e2 : stepAt l a 0 1 = _ := (step_yes hk).2.1
  have e3 : stepErr l a 0 1 = _ := (step_yes hk).2.2
  rw [e1, e2, e3, numOut] at H
  exact H
theorem rU16_at (s : Nat) (all : Value) (l : List UInt8) (a : Nat) (w : World) (h : RSrcB w s all l a 0) (hl : l.length ≤ 140737488355328) (hk : a + 2 ≤ l.length) :
    Calls Try.prog 40 #[.pointer (some ⟨s, 0, none⟩)] w fun e w' => e = .returned (.int .i64 (fld l a 2)) ∧ Mod s w w' ∧ RSrcB w' s all l (a + 2) 0 := by
  have H := rU16_any s all l a 0 w h hl
  have e1 : stepOut l a 0 2 = _ := (step_yes hk).1
  have e2 : stepAt l a 0 2 = _ := (step_yes hk).2.1
  have e3 : stepErr l a 0 2 = _ := (step_yes hk).2.2
  rw [e1, e2, e3, numOut] at H
  exact H
theorem rU32_at (s : Nat) (all : Value) (l : List UInt8) (a : Nat) (w : World) (h : RSrcB w s all l a 0) (hl : l.length ≤ 140737488355328) (hk : a + 4 ≤ l.length) :
    Calls Try.prog 41 #[.pointer (some ⟨s, 0, none⟩)] w fun e w' => e = .returned (.int .u32 (fld l a 4)) ∧ Mod s w w' ∧ RSrcB w' s all l (a + 4) 0 := by
  have H := rU32_any s all l a 0 w h hl
  have e1 : stepOut l a 0 4 = _ := (step_yes hk).1
  have e2 : stepAt l a 0 4 = _ := (step_yes hk).2.1
  have e3 : stepErr l a 0 4 = _ := (step_yes hk).2.2
  rw [e1, e2, e3, numOut] at H
  exact H

theorem i8_and15 (n : Nat) (h : n < 256) : bits .and .u8 (n : Int) 15 = ((n % 16 : Nat) : Int) := by
  have : ∀ k : Fin 256, bits .and .u8 (k.val : Int) 15 = ((k.val % 16 : Nat) : Int) := by decide +kernel
  exact this ⟨n, h⟩

theorem fld_two (l : List UInt8) (a : Nat) (u v : UInt8) (h : l[a]? = some u) (h2 : l[a + 1]? = some v) : fld l a 2 = 256 * u.toNat + v.toNat := by
  obtain ⟨hl, rfl⟩ := List.getElem?_eq_some_iff.1 h
  obtain ⟨hl2, rfl⟩ := List.getElem?_eq_some_iff.1 h2
  unfold fld
  rw [List.drop_eq_getElem_cons hl, List.take_succ_cons, List.drop_eq_getElem_cons hl2, List.take_succ_cons, List.take_zero]
  simp [numOf]; omega

/-- the first bytes of a packet, as its cells -/
theorem heads {w : World} {v : Value} {l : List UInt8} (hb : Bs w v l) (h : 20 ≤ l.length) : ∃ b o cap, v = .slice (some ⟨b, o, none⟩) l.length cap ∧ l.length ≤ cap ∧ cap ≤ 9223372036854775807 ∧
    ∃ b0 b2 b3 : Nat, b0 < 256 ∧ b2 < 256 ∧ b3 < 256 ∧ fld l 0 1 = b0 ∧ fld l 2 2 = 256 * b2 + b3 ∧
      ∀ w', Same w w' → w'.cell? ⟨b, o, none⟩ = some (.int .u8 (b0 : Int)) ∧ w'.cell? ⟨b, o + 2, none⟩ = some (.int .u8 (b2 : Int)) ∧ w'.cell? ⟨b, o + 3, none⟩ = some (.int .u8 (b3 : Int)) := by
  obtain ⟨ao, cap, rfl, h1, h2, h3, h4⟩ := hb
  cases ao with
  | none => have := h3 rfl; omega
  | some ad =>
    obtain ⟨b, o, sp⟩ := ad
    have hsp := (h4 _ rfl).1 (by intro e; subst e; simp at h)
    simp only at hsp
    subst hsp
    have g0 : l[0]? = some l[0] := List.getElem?_eq_getElem (by omega)
    have g2 : l[2]? = some l[2] := List.getElem?_eq_getElem (by omega)
    have g3 : l[3]? = some l[3] := List.getElem?_eq_getElem (by omega)
    have hc0 := (h4 _ rfl).2 0 _ g0
    have hc2 := (h4 _ rfl).2 2 _ g2
    have hc3 := (h4 _ rfl).2 3 _ g3
    rw [addr_add] at hc0 hc2 hc3
    rw [Nat.add_zero] at hc0
    refine ⟨b, o, cap, rfl, h1, h2, l[0].toNat, l[2].toNat, l[3].toNat, l[0].toNat_lt, l[2].toNat_lt, l[3].toNat_lt, fld_one l 0 _ g0, fld_two l 2 _ _ g2 g3, fun w' hs => ?_⟩
    refine ⟨?_, ?_, ?_⟩
    · rw [Below.cell hs (World.block_lt_of_cell? w _ hc0)]; exact hc0
    · rw [Below.cell hs (World.block_lt_of_cell? w _ hc2)]; exact hc2
    · rw [Below.cell hs (World.block_lt_of_cell? w _ hc3)]; exact hc3

abbrev nilV : Value := .slice none 0 0
abbrev zeroO (t : TypeId) : Obj := .cells #[.int .i64 0, .int .i64 0, .int .i64 0, .int .i64 0, .int .i64 0, .int .i64 0, .int .u32 0, .int .u32 0, .slice none 0 0] t
/-- what Parse tells -/
abbrev parV (h : Hd) (vo vp : Value) (e : Int) : Value := .tuple #[hdV h vo, vp, .int .i64 e]

set_option maxRecDepth 100000 in
set_option maxHeartbeats 1000000 in
theorem riParse_short (v : Value) (l : List UInt8) (w : World) (hb : Bs w v l) (h : l.length < 20) :
    Calls Try.prog 21 #[v] w fun e w' => e = .returned (parV zeroH nilV nilV 3) ∧ Same w w' := by
  obtain ⟨ao, cap, rfl, q1, q2, -, -⟩ := hb
  have h' : (l.length : Int) < 20 := by omega
  go_enter Try.func21, Try.ntmps21
  go_wp2_with fail
  refine bodyPost_ret (v := parV zeroH nilV nilV 3) ?_ rfl ⟨rfl, Same.alloc w _⟩
  simp [results, Try.results21, go_sem, zeroH]

set_option maxRecDepth 100000 in
set_option maxHeartbeats 1000000 in
theorem riParse_bad (b o n cap b0 b2 b3 : Nat) (w : World) (hn : 20 ≤ n) (h0 : b0 < 256) (hbad : b0 / 16 ≠ 4 ∨ 4 * (b0 % 16) < 20)
    (HC : ∀ w', Same w w' → w'.cell? ⟨b, o, none⟩ = some (.int .u8 (b0 : Int)) ∧ w'.cell? ⟨b, o + 2, none⟩ = some (.int .u8 (b2 : Int)) ∧ w'.cell? ⟨b, o + 3, none⟩ = some (.int .u8 (b3 : Int))) :
    Calls Try.prog 21 #[.slice (some ⟨b, o, none⟩) n cap] w fun e w' => e = .returned (parV zeroH nilV nilV 4) ∧ Same w w' := by
  have h' : ¬ (n : Int) < 20 := by omega
  have h'' : (20 : Int) ≤ n := by omega
  have z0 := i8_and15 b0 h0
  obtain ⟨m, hm⟩ : ∃ m : Nat, b0 % 16 = m := ⟨_, rfl⟩
  rw [hm] at z0
  have hm15 : (m : Int) ≤ 15 := by omega
  have HC0 := Lib.hid HC
  obtain ⟨c0, c2, c3⟩ := HC _ (Same.alloc w (zeroO 34))
  clear HC
  go_enter Try.func21, Try.ntmps21
  go_wp2_with fail
  all_goals first
    | (refine bodyPost_ret (v := parV zeroH nilV nilV 4) ?_ rfl ⟨rfl, Same.alloc w _⟩
       simp [results, Try.results21, go_sem, zeroH])
    | (exfalso; omega)

/-- where the head is one: the lengths, then the sum -/
structure ParseIn (n b0 b2 b3 m N : Nat) : Prop where
  len : 20 ≤ n
  lt0 : b0 < 256
  lt2 : b2 < 256
  lt3 : b3 < 256
  low : b0 % 16 = m
  four : b0 / 16 = 4
  five : 20 ≤ 4 * m
  num : 256 * b2 + b3 = N

set_option maxRecDepth 100000 in
set_option maxHeartbeats 2000000 in
theorem riParse_short2 (b o n cap b0 b2 b3 m N : Nat) (w : World) (hI : ParseIn n b0 b2 b3 m N) (hbad : n < 4 * m ∨ n < N)
    (HC : ∀ w', Same w w' → w'.cell? ⟨b, o, none⟩ = some (.int .u8 (b0 : Int)) ∧ w'.cell? ⟨b, o + 2, none⟩ = some (.int .u8 (b2 : Int)) ∧ w'.cell? ⟨b, o + 3, none⟩ = some (.int .u8 (b3 : Int))) :
    Calls Try.prog 21 #[.slice (some ⟨b, o, none⟩) n cap] w fun e w' => e = .returned (parV zeroH nilV nilV 3) ∧ Same w w' := by
  obtain ⟨hn, h0, h2, h3, hm, hf, hv, hN⟩ := hI
  have h' : ¬ (n : Int) < 20 := by omega
  have h'' : (20 : Int) ≤ n := by omega
  have z0 := i8_and15 b0 h0
  rw [hm] at z0
  have hm15 : (m : Int) ≤ 15 := by omega
  have hm5 : (20 : Int) ≤ 4 * m := by omega
  have hm6 : ¬ (4 * (m : Int) < 20) := by omega
  have hf' : (b0 : Int) / 16 = 4 := by omega
  have hN' : 256 * (b2 : Int) + b3 = N := by omega
  have h2' : (b2 : Int) < 256 := by omega
  have h3' : (b3 : Int) < 256 := by omega
  have n2 : (2 : Int) < n := by omega
  have n3 : (3 : Int) < n := by omega
  have z1 : IntKind.i64.wrap (256 * (b2 : Int)) = 256 * b2 := IntWalk.i64_in _ (by omega)
  have z2 : IntKind.i64.wrap (256 * (b2 : Int) + b3) = N := by rw [hN']; exact IntWalk.i64_in _ (by omega)
  have HC0 := Lib.hid HC
  have HA : Hid (Same w (w.alloc (zeroO 34))) := Same.alloc w _
  have HK : Hid ((w.alloc (zeroO 34)).heap[w.heap.size]? = some (zeroO 34)) := heap_alloc_new w _
  obtain ⟨c0, c2, c3⟩ := HC _ (Same.alloc w (zeroO 34))
  clear HC
  go_enter Try.func21, Try.ntmps21
  go_wp2_with fail
  refine reg_start (fun w' => Same (w.alloc (zeroO 34)) w') (by kernel_rfl) ?_
  refine reg_take (v := ?_) 0 (some 30) rfl rfl (by kernel_rfl) (fun _ _ _ h => h) (by kernel_rfl) ((Same.refl _).drew) ?_ ?_
  rotate_left
  · (intro w' hw'; obtain ⟨c0, c2, c3⟩ := HC0.out w' (HA.out.trans hw'); go_simp; try with_reducible rfl)
  try simp only [Act.put, List.setIfInBounds_toArray, List.set_cons_zero, List.set_cons_succ]
  refine reg_take (v := ?_) 1 (some 31) rfl rfl (by kernel_rfl) (fun _ _ _ h => h) (by kernel_rfl) ((Same.refl _).drew) ?_ ?_
  rotate_left
  · (intro w' hw'; obtain ⟨c0, c2, c3⟩ := HC0.out w' (HA.out.trans hw'); go_simp; try with_reducible rfl)
  try simp only [Act.put, List.setIfInBounds_toArray, List.set_cons_zero, List.set_cons_succ]
  refine reg_take (v := ?_) 2 (some 32) rfl rfl (by kernel_rfl) (fun _ _ _ h => h) (by kernel_rfl) ((Same.refl _).drew) ?_ ?_
  rotate_left
  · (intro w' hw'; obtain ⟨c0, c2, c3⟩ := HC0.out w' (HA.out.trans hw'); go_simp; try with_reducible rfl)
  try simp only [Act.put, List.setIfInBounds_toArray, List.set_cons_zero, List.set_cons_succ]
  refine reg_take (v := ?_) 3 (some 33) rfl rfl (by kernel_rfl) (fun _ _ _ h => h) (by kernel_rfl) ((Same.refl _).drew) ?_ ?_
  rotate_left
  · (intro w' hw'; obtain ⟨c0, c2, c3⟩ := HC0.out w' (HA.out.trans hw'); go_simp; try with_reducible rfl)
  try simp only [Act.put, List.setIfInBounds_toArray, List.set_cons_zero, List.set_cons_succ]
  refine reg_take (v := ?_) 4 (some 34) rfl rfl (by kernel_rfl) (fun _ _ _ h => h) (by kernel_rfl) ((Same.refl _).drew) ?_ ?_
  rotate_left
  · (intro w' hw'; obtain ⟨c0, c2, c3⟩ := HC0.out w' (HA.out.trans hw'); go_simp; try with_reducible rfl)
  try simp only [Act.put, List.setIfInBounds_toArray, List.set_cons_zero, List.set_cons_succ]
  refine reg_take (v := ?_) 5 (some 35) rfl rfl (by kernel_rfl) (fun _ _ _ h => h) (by kernel_rfl) ((Same.refl _).drew) ?_ ?_
  rotate_left
  · (intro w' hw'; obtain ⟨c0, c2, c3⟩ := HC0.out w' (HA.out.trans hw'); go_simp; try with_reducible rfl)
  try simp only [Act.put, List.setIfInBounds_toArray, List.set_cons_zero, List.set_cons_succ]
  refine reg_take (v := ?_) 6 (some 36) rfl rfl (by kernel_rfl) (fun _ _ _ h => h) (by kernel_rfl) ((Same.refl _).drew) ?_ ?_
  rotate_left
  · (intro w' hw'; obtain ⟨c0, c2, c3⟩ := HC0.out w' (HA.out.trans hw'); go_simp; try with_reducible rfl)
  try simp only [Act.put, List.setIfInBounds_toArray, List.set_cons_zero, List.set_cons_succ]
  refine reg_take (v := ?_) 7 (some 37) rfl rfl (by kernel_rfl) (fun _ _ _ h => h) (by kernel_rfl) ((Same.refl _).drew) ?_ ?_
  rotate_left
  · (intro w' hw'; obtain ⟨c0, c2, c3⟩ := HC0.out w' (HA.out.trans hw'); go_simp; try with_reducible rfl)
  try simp only [Act.put, List.setIfInBounds_toArray, List.set_cons_zero, List.set_cons_succ]
  refine reg_take (v := ?_) 8 (some 38) rfl rfl (by kernel_rfl) (fun _ _ _ h => h) (by kernel_rfl) ((Same.refl _).drew) ?_ ?_
  rotate_left
  · (intro w' hw'; obtain ⟨c0, c2, c3⟩ := HC0.out w' (HA.out.trans hw'); go_simp; try with_reducible rfl)
  try simp only [Act.put, List.setIfInBounds_toArray, List.set_cons_zero, List.set_cons_succ]
  refine reg_take (v := ?_) 9 (some 39) rfl rfl (by kernel_rfl) (fun _ _ _ h => h) (by kernel_rfl) ((Same.refl _).drew) ?_ ?_
  rotate_left
  · (intro w' hw'; obtain ⟨c0, c2, c3⟩ := HC0.out w' (HA.out.trans hw'); go_simp; try with_reducible rfl)
  try simp only [Act.put, List.setIfInBounds_toArray, List.set_cons_zero, List.set_cons_succ]
  refine reg_take (v := ?_) 10 (some 6) rfl rfl (by kernel_rfl) (fun _ _ _ h => h) (by kernel_rfl) ((Same.refl _).drew) ?_ ?_
  rotate_left
  · (intro w' hw'; obtain ⟨c0, c2, c3⟩ := HC0.out w' (HA.out.trans hw'); go_simp; try with_reducible rfl)
  try simp only [Act.put, List.setIfInBounds_toArray, List.set_cons_zero, List.set_cons_succ]
  refine reg_done (by kernel_rfl) ?_
  go_wp2_with fail
  all_goals first
    | (refine bodyPost_ret (v := parV zeroH nilV nilV 3) ?_ rfl ⟨rfl, HA.out.drew⟩
       simp [results, Try.results21, go_sem, zeroH])
    | (exfalso; omega)

set_option maxRecDepth 100000 in
set_option maxHeartbeats 2000000 in
theorem riParse_bad2 (b o n cap b0 b2 b3 m N : Nat) (w : World) (hI : ParseIn n b0 b2 b3 m N) (hk : 4 * m ≤ n) (hNn : N ≤ n) (hbad : N < 4 * m ∨ 9000 < N)
    (HC : ∀ w', Same w w' → w'.cell? ⟨b, o, none⟩ = some (.int .u8 (b0 : Int)) ∧ w'.cell? ⟨b, o + 2, none⟩ = some (.int .u8 (b2 : Int)) ∧ w'.cell? ⟨b, o + 3, none⟩ = some (.int .u8 (b3 : Int))) :
    Calls Try.prog 21 #[.slice (some ⟨b, o, none⟩) n cap] w fun e w' => e = .returned (parV zeroH nilV nilV 4) ∧ Same w w' := by
  obtain ⟨hn, h0, h2, h3, hm, hf, hv, hN⟩ := hI
  have h' : ¬ (n : Int) < 20 := by omega
  have h'' : (20 : Int) ≤ n := by omega
  have z0 := i8_and15 b0 h0
  rw [hm] at z0
  have hm15 : (m : Int) ≤ 15 := by omega
  have hm5 : (20 : Int) ≤ 4 * m := by omega
  have hm6 : ¬ (4 * (m : Int) < 20) := by omega
  have hf' : (b0 : Int) / 16 = 4 := by omega
  have hN' : 256 * (b2 : Int) + b3 = N := by omega
  have h2' : (b2 : Int) < 256 := by omega
  have h3' : (b3 : Int) < 256 := by omega
  have n2 : (2 : Int) < n := by omega
  have n3 : (3 : Int) < n := by omega
  have z1 : IntKind.i64.wrap (256 * (b2 : Int)) = 256 * b2 := IntWalk.i64_in _ (by omega)
  have z2 : IntKind.i64.wrap (256 * (b2 : Int) + b3) = N := by rw [hN']; exact IntWalk.i64_in _ (by omega)
  have k1 : ¬ ((n : Int) < 4 * m) := by omega
  have k2 : ¬ ((n : Int) < N) := by omega
  have HC0 := Lib.hid HC
  have HA : Hid (Same w (w.alloc (zeroO 34))) := Same.alloc w _
  have HK : Hid ((w.alloc (zeroO 34)).heap[w.heap.size]? = some (zeroO 34)) := heap_alloc_new w _
  obtain ⟨c0, c2, c3⟩ := HC _ (Same.alloc w (zeroO 34))
  clear HC
  go_enter Try.func21, Try.ntmps21
  go_wp2_with fail
  refine reg_start (fun w' => Same (w.alloc (zeroO 34)) w') (by kernel_rfl) ?_
  refine reg_take (v := ?_) 0 (some 30) rfl rfl (by kernel_rfl) (fun _ _ _ h => h) (by kernel_rfl) ((Same.refl _).drew) ?_ ?_
  rotate_left
  · (intro w' hw'; obtain ⟨c0, c2, c3⟩ := HC0.out w' (HA.out.trans hw'); go_simp; try with_reducible rfl)
  try simp only [Act.put, List.setIfInBounds_toArray, List.set_cons_zero, List.set_cons_succ]
  refine reg_take (v := ?_) 1 (some 31) rfl rfl (by kernel_rfl) (fun _ _ _ h => h) (by kernel_rfl) ((Same.refl _).drew) ?_ ?_
  rotate_left
  · (intro w' hw'; obtain ⟨c0, c2, c3⟩ := HC0.out w' (HA.out.trans hw'); go_simp; try with_reducible rfl)
  try simp only [Act.put, List.setIfInBounds_toArray, List.set_cons_zero, List.set_cons_succ]
  refine reg_take (v := ?_) 2 (some 32) rfl rfl (by kernel_rfl) (fun _ _ _ h => h) (by kernel_rfl) ((Same.refl _).drew) ?_ ?_
  rotate_left
  · (intro w' hw'; obtain ⟨c0, c2, c3⟩ := HC0.out w' (HA.out.trans hw'); go_simp; try with_reducible rfl)
  try simp only [Act.put, List.setIfInBounds_toArray, List.set_cons_zero, List.set_cons_succ]
  refine reg_take (v := ?_) 3 (some 33) rfl rfl (by kernel_rfl) (fun _ _ _ h => h) (by kernel_rfl) ((Same.refl _).drew) ?_ ?_
  rotate_left
  · (intro w' hw'; obtain ⟨c0, c2, c3⟩ := HC0.out w' (HA.out.trans hw'); go_simp; try with_reducible rfl)
  try simp only [Act.put, List.setIfInBounds_toArray, List.set_cons_zero, List.set_cons_succ]
  refine reg_take (v := ?_) 4 (some 34) rfl rfl (by kernel_rfl) (fun _ _ _ h => h) (by kernel_rfl) ((Same.refl _).drew) ?_ ?_
  rotate_left
  · (intro w' hw'; obtain ⟨c0, c2, c3⟩ := HC0.out w' (HA.out.trans hw'); go_simp; try with_reducible rfl)
  try simp only [Act.put, List.setIfInBounds_toArray, List.set_cons_zero, List.set_cons_succ]
  refine reg_take (v := ?_) 5 (some 35) rfl rfl (by kernel_rfl) (fun _ _ _ h => h) (by kernel_rfl) ((Same.refl _).drew) ?_ ?_
  rotate_left
  · (intro w' hw'; obtain ⟨c0, c2, c3⟩ := HC0.out w' (HA.out.trans hw'); go_simp; try with_reducible rfl)
  try simp only [Act.put, List.setIfInBounds_toArray, List.set_cons_zero, List.set_cons_succ]
  refine reg_take (v := ?_) 6 (some 36) rfl rfl (by kernel_rfl) (fun _ _ _ h => h) (by kernel_rfl) ((Same.refl _).drew) ?_ ?_
  rotate_left
  · (intro w' hw'; obtain ⟨c0, c2, c3⟩ := HC0.out w' (HA.out.trans hw'); go_simp; try with_reducible rfl)
  try simp only [Act.put, List.setIfInBounds_toArray, List.set_cons_zero, List.set_cons_succ]
  refine reg_take (v := ?_) 7 (some 37) rfl rfl (by kernel_rfl) (fun _ _ _ h => h) (by kernel_rfl) ((Same.refl _).drew) ?_ ?_
  rotate_left
  · (intro w' hw'; obtain ⟨c0, c2, c3⟩ := HC0.out w' (HA.out.trans hw'); go_simp; try with_reducible rfl)
  try simp only [Act.put, List.setIfInBounds_toArray, List.set_cons_zero, List.set_cons_succ]
  refine reg_take (v := ?_) 8 (some 38) rfl rfl (by kernel_rfl) (fun _ _ _ h => h) (by kernel_rfl) ((Same.refl _).drew) ?_ ?_
  rotate_left
  · (intro w' hw'; obtain ⟨c0, c2, c3⟩ := HC0.out w' (HA.out.trans hw'); go_simp; try with_reducible rfl)
  try simp only [Act.put, List.setIfInBounds_toArray, List.set_cons_zero, List.set_cons_succ]
  refine reg_take (v := ?_) 9 (some 39) rfl rfl (by kernel_rfl) (fun _ _ _ h => h) (by kernel_rfl) ((Same.refl _).drew) ?_ ?_
  rotate_left
  · (intro w' hw'; obtain ⟨c0, c2, c3⟩ := HC0.out w' (HA.out.trans hw'); go_simp; try with_reducible rfl)
  try simp only [Act.put, List.setIfInBounds_toArray, List.set_cons_zero, List.set_cons_succ]
  refine reg_take (v := ?_) 10 (some 6) rfl rfl (by kernel_rfl) (fun _ _ _ h => h) (by kernel_rfl) ((Same.refl _).drew) ?_ ?_
  rotate_left
  · (intro w' hw'; obtain ⟨c0, c2, c3⟩ := HC0.out w' (HA.out.trans hw'); go_simp; try with_reducible rfl)
  try simp only [Act.put, List.setIfInBounds_toArray, List.set_cons_zero, List.set_cons_succ]
  refine reg_done (by kernel_rfl) ?_
  go_wp2_with fail
  all_goals first
    | (refine bodyPost_ret (v := parV zeroH nilV nilV 4) ?_ rfl ⟨rfl, HA.out.drew⟩
       simp [results, Try.results21, go_sem, zeroH])
    | (exfalso; omega)
end Go.Proofs.Yteoleblnhcnpkaa
