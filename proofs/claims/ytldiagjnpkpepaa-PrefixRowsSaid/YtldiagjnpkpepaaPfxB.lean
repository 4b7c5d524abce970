/- A prefix in bytes: the developers' Bytes. No condition. -/
import Derived.Test.YtldiagjnpkpepaaPfxF
import Derived.Test.YtldiagjnpkpepaaPut
namespace Go.Proofs.Ytldiagjnpkpepaa
open Go.RowKit
set_option linter.unusedVariables false

theorem Bs.front {w : World} {ao : Option Addr} {m cap : Nat} {l : List UInt8} (h : Bs w (.slice ao m cap) l) (k : Nat) (hk : k ≤ l.length) : Bs w (.slice ao k cap) (l.take k) := by
  obtain ⟨ao', cap', he, h1, h2, h3, h4⟩ := h
  cases he
  have hlen : (l.take k).length = k := by simp; omega
  refine ⟨ao, cap, by rw [hlen], by rw [hlen]; omega, by assumption, h3, fun ad had => ⟨fun hne => (h4 ad had).1 (fun e => hne (by subst e; simp)), fun j u hu => ?_⟩⟩
  rw [List.getElem?_take] at hu
  split at hu
  · exact (h4 ad had).2 j u hu
  · cases hu

theorem box1_set (a n a1 n1 : Int) (C : Nat) (u : World) (c2 : u.cell? ⟨C, 0, none⟩ = some (.int .u32 a)) (c3 : u.cell? ⟨C, 1, none⟩ = some (.int .i64 n)) :
    ∀ w', Same ((u.setCell ⟨C, 0, none⟩ (.int .u32 a1)).setCell ⟨C, 1, none⟩ (.int .i64 n1)) w' → w'.cell? ⟨C, 0, none⟩ = some (.int .u32 a1) ∧ w'.cell? ⟨C, 1, none⟩ = some (.int .i64 n1) := by
  have o4 : (⟨C, 1, none⟩ : Addr) ≠ ⟨C, 0, none⟩ := fun h => by cases h
  have e2 : ((u.setCell ⟨C, 0, none⟩ (.int .u32 a1)).setCell ⟨C, 1, none⟩ (.int .i64 n1)).cell? ⟨C, 0, none⟩ = some (.int .u32 a1) := by rw [World.cell?_setCell_other _ _ _ _ o4]; exact World.cell?_setCell_same' _ _ _ (by rw [c2]; rfl)
  have e3 : ((u.setCell ⟨C, 0, none⟩ (.int .u32 a1)).setCell ⟨C, 1, none⟩ (.int .i64 n1)).cell? ⟨C, 1, none⟩ = some (.int .i64 n1) := by
    refine World.cell?_setCell_same' _ _ _ ?_
    rw [World.cell?_setCell_other _ _ _ _ (Ne.symm o4), c3]; rfl
  exact fun w' h => ⟨(h.cell (World.block_lt_of_cell? _ _ e2)).trans e2, (h.cell (World.block_lt_of_cell? _ _ e3)).trans e3⟩

/-- a prefix in bytes -/
def bytesL (a n : Int) : List UInt8 := [byteAt (nearN n) 0, byteAt (canA a n) 3, byteAt (canA a n) 2, byteAt (canA a n) 1, byteAt (canA a n) 0].take (1 + (nearN n + 7) / 8).toNat

theorem size_any (n : Int) (h0 : 0 ≤ n) (h1 : n ≤ 32) (w : World) : Calls Try.prog 61 #[.int .i64 n] w fun e w' => e = .returned (.int .i64 ((n + 7) / 8)) ∧ Same w w' := by
  go_enter Try.func61, Try.ntmps61
  go_wp2_with fail
  go_ret
  exact ⟨rfl, Same.refl _⟩

theorem Bytes_any (a n : Int) (w : World) : Calls Try.prog 28 #[.agg #[.int .u32 a, .int .i64 n]] w fun e w' => ∃ v, e = .returned v ∧ Bs w' v (bytesL a n) ∧ Same w w' := by
  have HC := fun w => Lib.hid (Canon_any a n w)
  have hn := nearN_le n
  unfold bytesL
  generalize nearN n = m at *
  generalize canA a n = c at *
  obtain ⟨hn0, hn1⟩ := hn
  have HZ := fun w => Lib.hid (size_any m hn0 hn1 w)
  obtain ⟨k, hk, hk4⟩ : ∃ k : Nat, (m + 7) / 8 = (k : Int) ∧ k ≤ 4 := ⟨((m + 7) / 8).toNat, by omega, by omega⟩
  rw [hk] at HZ ⊢
  have hk1 : (1 + (k : Int)).toNat = 1 + k := by omega
  have hk2 : IntKind.i64.wrap (1 + (k : Int)) = 1 + k := IntWalk.i64_in _ (by omega)
  rw [hk1]
  have HA := Lib.hid (box1 a n w)
  have H0 := Lib.hid (Same.alloc w (pfxO a n))
  have hbk : (w.alloc (pfxO a n)).heap[w.heap.size]? = some (pfxO a n) := heap_alloc_new w (pfxO a n)
  clear hk
  go_enter Try.func28, Try.ntmps28
  go_wp2_with fail
  generalize hW : w.alloc (.cells #[.int .u32 a, .int .i64 n] 58) = W at *
  refine (HC _).out.mono ?_
  rintro e u ⟨rfl, hu⟩
  obtain ⟨c0, c1⟩ := HA.out u hu
  have hf0 : u.frozen? ⟨w.heap.size, 0, none⟩ = false := by have := hu.block hbk; simp [World.frozen?, this]
  have hf1 : u.frozen? ⟨w.heap.size, 1, none⟩ = false := by have := hu.block hbk; simp [World.frozen?, this]
  have H1 := Lib.hid (((H0.out.trans hu).set (g := w.heap.size) (j := 0) (by omega) (.int .u32 c)).set (g := w.heap.size) (j := 1) (by omega) (.int .i64 m))
  go_wp2_with fail
  have HB := Lib.hid (box1_set a n c m w.heap.size u c0 c1)
  generalize (u.setCell ⟨w.heap.size, 0, none⟩ (.int .u32 c)).setCell ⟨w.heap.size, 1, none⟩ (.int .i64 m) = V at *
  clear c0 c1 hf0 hf1
  refine reg_start (fun w' => Same V w') (by kernel_rfl) ?_
  refine reg_take (v := ?_) 0 (some 5) rfl rfl (by kernel_rfl) (fun _ _ _ h => h) (by kernel_rfl) ((Same.refl V).drew) ?_ ?_
  rotate_left
  · (intro w' hw'; obtain ⟨c0, c1⟩ := HB.out w' hw'; go_simp; try with_reducible rfl)
  try simp only [Act.put, List.setIfInBounds_toArray, List.set_cons_zero, List.set_cons_succ]
  refine reg_take (v := ?_) 1 (some 6) rfl rfl (by kernel_rfl) (fun _ _ _ h => h) (by kernel_rfl) ((Same.refl V).drew) ?_ ?_
  rotate_left
  · (intro w' hw'; obtain ⟨c0, c1⟩ := HB.out w' hw'; go_simp; try with_reducible rfl)
  try simp only [Act.put, List.setIfInBounds_toArray, List.set_cons_zero, List.set_cons_succ]
  refine reg_take (v := ?_) 3 (some 8) rfl rfl (by kernel_rfl) (fun _ _ _ h => h) (by kernel_rfl) ((Same.refl V).drew) ?_ ?_
  rotate_left
  · (intro w' hw'; obtain ⟨c0, c1⟩ := HB.out w' hw'; go_simp; try with_reducible rfl)
  try simp only [Act.put, List.setIfInBounds_toArray, List.set_cons_zero, List.set_cons_succ]
  refine reg_take (v := ?_) 4 (some 9) rfl rfl (by kernel_rfl) (fun _ _ _ h => h) (by kernel_rfl) ((Same.refl V).drew) ?_ ?_
  rotate_left
  · (intro w' hw'; obtain ⟨c0, c1⟩ := HB.out w' hw'; go_simp; try with_reducible rfl)
  try simp only [Act.put, List.setIfInBounds_toArray, List.set_cons_zero, List.set_cons_succ]
  refine reg_take (v := ?_) 6 (some 11) rfl rfl (by kernel_rfl) (fun _ _ _ h => h) (by kernel_rfl) ((Same.refl V).drew) ?_ ?_
  rotate_left
  · (intro w' hw'; obtain ⟨c0, c1⟩ := HB.out w' hw'; go_simp; try with_reducible rfl)
  try simp only [Act.put, List.setIfInBounds_toArray, List.set_cons_zero, List.set_cons_succ]
  refine reg_take (v := ?_) 7 (some 12) rfl rfl (by kernel_rfl) (fun _ _ _ h => h) (by kernel_rfl) ((Same.refl V).drew) ?_ ?_
  rotate_left
  · (intro w' hw'; obtain ⟨c0, c1⟩ := HB.out w' hw'; go_simp; try with_reducible rfl)
  try simp only [Act.put, List.setIfInBounds_toArray, List.set_cons_zero, List.set_cons_succ]
  refine reg_one 2 rfl (by kernel_rfl) (by kernel_rfl) ?_
  go_simp
  refine (Put8_any (.slice none 0 0) [] m _ (Bs.nil _) (by simp)).mono ?_
  rintro e u1 ⟨v1, rfl, ho1, hs1⟩
  have hS1 := ((Same.refl V).drew).trans hs1
  have hb1 := ho1.bs; clear ho1
  refine ⟨hS1, ?_⟩
  try simp only [Act.put, List.setIfInBounds_toArray, List.set_cons_zero, List.set_cons_succ]
  refine reg_one 5 rfl (by kernel_rfl) (by kernel_rfl) ?_
  go_simp
  refine (Put32_any v1 _ c _ hb1 (by simp)).mono ?_
  rintro e u2 ⟨v2, rfl, ho2, hs2⟩
  have hS2 := (hS1).trans hs2
  obtain ⟨g, cap, rfl, hcap, hg⟩ := ho2.form (by simp); have HO2 := Lib.hid ho2.bs; have hcap2 : (1 + (k : Int)) ≤ (cap : Int) := by (simp at hcap; omega)
  have hcap3 : (0 : Int) ≤ 1 + (k : Int) := by omega
  clear ho2 hcap hb1
  refine ⟨hS2, ?_⟩
  try simp only [Act.put, List.setIfInBounds_toArray, List.set_cons_zero, List.set_cons_succ]
  refine reg_one 8 rfl (by kernel_rfl) (by kernel_rfl) ?_
  go_simp
  refine ((HZ _).out).mono ?_
  rintro e u3 ⟨rfl, hs3⟩
  have hS3 := (hS2).trans hs3
  skip
  refine ⟨hS3, ?_⟩
  try simp only [Act.put, List.setIfInBounds_toArray, List.set_cons_zero, List.set_cons_succ]
  refine reg_take (v := ?_) 9 (some 14) rfl rfl (by kernel_rfl) (fun _ _ _ h => h) (by kernel_rfl) (hS3) ?_ ?_
  rotate_left
  · (intro w' hw'; obtain ⟨c0, c1⟩ := HB.out w' hw'; go_simp; try with_reducible rfl)
  try simp only [Act.put, List.setIfInBounds_toArray, List.set_cons_zero, List.set_cons_succ]
  refine reg_take (v := ?_) 10 (some 15) rfl rfl (by kernel_rfl) (fun _ _ _ h => h) (by kernel_rfl) (hS3) ?_ ?_
  rotate_left
  · (intro w' hw'; obtain ⟨c0, c1⟩ := HB.out w' hw'; go_simp; try with_reducible rfl)
  try simp only [Act.put, List.setIfInBounds_toArray, List.set_cons_zero, List.set_cons_succ]
  refine reg_take (v := ?_) 11 (some 2) rfl rfl (by kernel_rfl) (fun _ _ _ h => h) (by kernel_rfl) (hS3) ?_ ?_
  rotate_left
  · (intro w' hw'; obtain ⟨c0, c1⟩ := HB.out w' hw'; go_simp; try with_reducible rfl)
  try simp only [Act.put, List.setIfInBounds_toArray, List.set_cons_zero, List.set_cons_succ]
  refine reg_done (by kernel_rfl) ?_
  go_wp2_with fail
  go_ret
  exact ⟨_, rfl, (HO2.out.front (1 + k) (by simp; omega)).same hs3, H1.out.trans hS3⟩
end Go.Proofs.Ytldiagjnpkpepaa
