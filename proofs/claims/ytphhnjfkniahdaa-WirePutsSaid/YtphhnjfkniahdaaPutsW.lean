/- The walk of WirePuts: a number behind any bytes, and at any place of them. No condition. -/
import Derived.Test.YtphhnjfkniahdaaRefB
import Derived.Test.YtphhnjfkniahdaaRefP
import Derived.Test.YtphhnjfkniahdaaPut
import Derived.Test.YtphhnjfkniahdaaGetAt
import Derived.Test.YtphhnjfkniahdaaLives
import Derived.Test.YtphhnjfkniahdaaReg
import Derived.Deep.RegionWith
import Derived.Deep.DeepMust
import Derived.Deep.DeepCutAuto
import Derived.Room.AppendFits
import Derived.OwnWalk
namespace Go.Proofs.Ytphhnjfkniahdaa
open Go.RowKit
set_option linter.unusedVariables false
set_option linter.unusedSimpArgs false

/-- append of bytes within the capacity -/
theorem wpList_append_room_bs {w : World} {ops : Array Oper} {rest : List Oper} {o : Oper} {a : Act} {Q : Exit → Act → World → Prop} (hgd : o.guard = none) (sl xo : Operand)
    (ho : o.op = .call { callee := .builtin .append, args := #[sl, xo], argTypes := #[22, 22] })
    (B g k cap : Nat) (l : List UInt8) (hk : l.length = k) (hs : a.eval sl = .slice (some ⟨g, 0, none⟩) k cap) (hown : OwnB w B (.slice (some ⟨g, 0, none⟩) k cap) l) (ao : Option Addr) (m c : Nat) (ml : List UInt8) (hm : ml.length = m) (hxe : a.eval xo = .slice ao m c) (hx : Bs w (.slice ao m c) ml) (hroom : k + m ≤ cap)
    (h : ∀ w', OwnB w' B (.slice (some ⟨g, 0, none⟩) (k + m) cap) (l ++ ml) → w.grownBy w' (some g) → wpList Try.prog ops Q rest (a.put o.dst (.slice (some ⟨g, 0, none⟩) (k + m) cap)) w') : wpList Try.prog ops Q (o :: rest) a w := by
  subst hk hm
  obtain ⟨i0, hi, hz0, hz1, hz2⟩ := info_parts u8info
  obtain ⟨ao', cap', he, h1, h2, h3, h4⟩ := hx
  cases he
  refine wpList_append_fits_any w hgd sl xo 22 ho B 5 i0 1 Try.underlying22 hi hz1 g l.length cap (l.map b8) hs hown ao ml.length c (ml.map b8) hxe (by simp) (fun hn => ?_) (fun ad had j u hu => ?_) (fun u hu => ?_) hroom (fun w' h1 h2 => h w' (by simpa [OwnB] using h1) h2)
  · have := h3 hn; exact ⟨by omega, this⟩
  · simp only [List.getElem?_map, Option.map_eq_some_iff] at hu
    obtain ⟨b, hb, rfl⟩ := hu
    exact (h4 ad had).2 j b hb
  · obtain ⟨b, _, rfl⟩ := List.mem_map.1 hu
    rfl

theorem Bs.head {w : World} {ao : Option Addr} {m cap : Nat} {l : List UInt8} (h : Bs w (.slice ao m cap) l) (k : Nat) (hk : k ≤ m) : Bs w (.slice ao k cap) (l.take k) := by
  obtain ⟨ao', cap', he, h1, h2, h3, h4⟩ := h
  cases he
  refine ⟨ao, cap, by simp [Nat.min_eq_left hk], by simp; omega, h2, h3, fun ad had => ⟨fun hne => (h4 ad had).1 (fun hl => hne (by simp [hl])), fun j u hu => (h4 ad had).2 j u ?_⟩⟩
  rw [List.getElem?_take] at hu
  split at hu
  · exact hu
  · cases hu

def spare : List UInt8 := [115, 112, 97, 114, 101]

theorem own_spare {w : World} {B g n : Nat} {l : List UInt8} (h : w.ownsRow B 5 1 (.slice (some ⟨g, 0, none⟩) (l.length + (ByteArray.mk #[115, 112, 97, 114, 101]).size) n) (l.length + (ByteArray.mk #[115, 112, 97, 114, 101]).size) (l.map b8 ++ Lib.strCells ⟨#[115, 112, 97, 114, 101]⟩)) :
    Hid (OwnB w B (.slice (some ⟨g, 0, none⟩) (l.length + 5) n) (l ++ spare)) := by
  have e : (l ++ spare).length = l.length + 5 := by simp [spare]
  show World.ownsRow _ _ _ _ _ _ _
  rw [e]
  have e2 : (l ++ spare).map b8 = l.map b8 ++ Lib.strCells ⟨#[115, 112, 97, 114, 101]⟩ := by rw [List.map_append]; rfl
  rw [e2]
  exact h

theorem byteAt_u64 (n : Int) (i : Nat) (hi : i ≤ 3) : byteAt (IntKind.u64.wrap n) i = byteAt n i := by
  unfold byteAt
  rw [IntKind.wrap_u64]
  have h : i = 0 ∨ i = 1 ∨ i = 2 ∨ i = 3 := by omega
  rcases h with rfl | rfl | rfl | rfl
  · congr 2; simp
  · congr 2; simp; omega
  · congr 2; simp; omega
  · congr 2; simp; omega
theorem byteAt_u32 (n : Int) (i : Nat) (hi : i ≤ 3) : byteAt (IntKind.u32.wrap n) i = byteAt n i := by
  unfold byteAt
  rw [IntKind.wrap_u32]
  have h : i = 0 ∨ i = 1 ∨ i = 2 ∨ i = 3 := by omega
  rcases h with rfl | rfl | rfl | rfl
  · congr 2; simp
  · congr 2; simp; omega
  · congr 2; simp; omega
  · congr 2; simp; omega
theorem u64_range (n : Int) : 0 ≤ IntKind.u64.wrap n ∧ IntKind.u64.wrap n ≤ 18446744073709551615 := by rw [IntKind.wrap_u64]; omega
theorem rPut1 (v : Value) (l : List UInt8) (n : Int) (w : World) (hb : Bs w v l) (hl : l.length + 4 ≤ 140737488355328) :
    Calls Try.prog 12 #[v, .int .u64 (IntKind.u64.wrap n), .int .i64 1] w fun e w' => ∃ v', e = .returned v' ∧ OwnB w' w.heap.size v' (l ++ [byteAt n 0]) ∧ Same w w' := by
  have := rPut_one v l (IntKind.u64.wrap n) w hb (by omega) (u64_range n).1 (u64_range n).2
  rw [byteAt_u64 n 0 (by omega)] at this
  exact this
theorem rPut2 (v : Value) (l : List UInt8) (n : Int) (w : World) (hb : Bs w v l) (hl : l.length + 4 ≤ 140737488355328) :
    Calls Try.prog 12 #[v, .int .u64 (IntKind.u64.wrap n), .int .i64 2] w fun e w' => ∃ v', e = .returned v' ∧ OwnB w' w.heap.size v' (l ++ [byteAt n 1, byteAt n 0]) ∧ Same w w' := by
  have := rPut_two v l (IntKind.u64.wrap n) w hb (by omega) (u64_range n).1 (u64_range n).2
  rw [byteAt_u64 n 0 (by omega), byteAt_u64 n 1 (by omega)] at this
  exact this
theorem rPut4 (v : Value) (l : List UInt8) (n : Int) (w : World) (hb : Bs w v l) (hl : l.length + 4 ≤ 140737488355328) :
    Calls Try.prog 12 #[v, .int .u64 (IntKind.u64.wrap n), .int .i64 4] w fun e w' => ∃ v', e = .returned v' ∧ OwnB w' w.heap.size v' (l ++ [byteAt n 3, byteAt n 2, byteAt n 1, byteAt n 0]) ∧ Same w w' := by
  have := rPut_four v l (IntKind.u64.wrap n) w hb (by omega) (u64_range n).1 (u64_range n).2
  rw [byteAt_u64 n 0 (by omega), byteAt_u64 n 1 (by omega), byteAt_u64 n 2 (by omega), byteAt_u64 n 3 (by omega)] at this
  exact this
theorem Put32w (v : Value) (l : List UInt8) (n : Int) (w : World) (hb : Bs w v l) (hl : l.length + 4 ≤ 140737488355328) :
    Calls Try.prog 14 #[v, .int .u32 (IntKind.u32.wrap n)] w fun e w' => ∃ v', e = .returned v' ∧ OwnB w' w.heap.size v' (l ++ [byteAt n 3, byteAt n 2, byteAt n 1, byteAt n 0]) ∧ Same w w' := by
  have := Put32_any v l (IntKind.u32.wrap n) w hb (by omega)
  rw [byteAt_u32 n 0 (by omega), byteAt_u32 n 1 (by omega), byteAt_u32 n 2 (by omega), byteAt_u32 n 3 (by omega)] at this
  exact this

set_option maxRecDepth 100000 in
set_option maxHeartbeats 32000000 in
theorem puts_walk (b : Value) (l : List UInt8) (n p : Int) (w : World) (hb : Bs w b l) (h300 : (l.length : Int) ≤ 300) (hn : -9223372036854775808 ≤ n ∧ n ≤ 9223372036854775807) (hp : -9223372036854775808 ≤ p ∧ p ≤ 9223372036854775807) :
    Calls Try.prog 3 #[b, .int .i64 n, .int .i64 p] w fun e w' => e = .returned (.bool true) ∧ Same w w' := by
  have HB := Lib.hid hb
  obtain ⟨i0, hi, hz0, hz1, hz2⟩ := info_parts u8info
  obtain ⟨bo, bcap, rfl, b1, b2, b3, b4⟩ := hb
  have HI := Lib.hid (⟨hi, hz0, hz1, hz2⟩ : _ ∧ _ ∧ _ ∧ _)
  clear b3 b4 hi hz0 hz1 hz2
  go_enter Try.func3, Try.ntmps3
  go_wp2_with (first
    | (refine wpList_make_own _ rfl _ _ 22 rfl w.heap.size 5 i0 (.int .u8 0) 1 Try.underlying22 HI.out.1 HI.out.2.1 HI.out.2.2.1 _ _ _ (l.length + 20) rfl rfl ?_ ?_ ?_ (Nat.le_refl _) ?_; (push_cast; rfl); (rw [HI.out.2.2.2]; omega); (unfold maxLen; omega); intro w1 ho1 hg1; have HO1 := Lib.hid ho1; have HS1 := Lib.hid ((Same.refl w).grown hg1 (by intro k hk; cases hk)); clear ho1 hg1)
    | (at_builtin; refine wpList_append_room_bs rfl (.tmp 24) (.tmp 25) rfl w.heap.size w.heap.size 0 (l.length + 20) [] rfl rfl HO1.out bo l.length bcap l rfl rfl (HB.out.same HS1.out) (by omega) ?_; intro w2 ho2 hg2; simp only [Nat.zero_add, List.nil_append] at ho2 ⊢; have HO2 := Lib.hid ho2; have HS2 := Lib.hid (HS1.out.grown hg2 (by intro k hk; cases hk; exact Nat.le_refl _)); clear ho2 hg2)
    | (at_builtin; go_must (refine Lib.wpList_append_fits_string _ rfl (.tmp 26) _ 22 9 rfl w.heap.size 5 i0 Try.underlying22 Try.underlying9 HI.out.1 HI.out.2.2.1 _ l.length (l.length + 20) (l.map b8) rfl HO2.out ⟨#[115, 112, 97, 114, 101]⟩ rfl (by omega) (by show l.length + 5 ≤ _; omega) ?_; intro w3 ho3 hg3; have HO3 : Hid (OwnB w3 w.heap.size (.slice (some ⟨w.heap.size, 0, none⟩) (l.length + 5) (l.length + 20)) (l ++ spare)) := own_spare ho3; have HS3 := Lib.hid (HS2.out.grown hg3 (by intro k hk; cases hk; exact Nat.le_refl _)); clear ho3 hg3)))
  have HBB := Lib.hid (HB.out.same HS3.out)
  have HX1 := Lib.hid (Get16_any _ l p w3 HBB.out)
  have HX2 := Lib.hid (rGet_any _ l p 2 w3 HBB.out (by omega) (by omega))
  have HX3 := Lib.hid (Get32_any _ l p w3 HBB.out)
  have HX4 := Lib.hid (rGet_any _ l p 4 w3 HBB.out (by omega) (by omega))
  have hx2 : (numOut (getOut l p 2) : Int) < 4294967296 := by have := numOut_lt l p 2 (by omega); omega
  have hx4 : (numOut (getOut l p 4) : Int) < 4294967296 := by have := numOut_lt l p 4 (by omega); omega
  generalize numOut (getOut l p 2) = x2 at *
  generalize numOut (getOut l p 4) = x4 at *
  generalize (getOut l p 2).isSome = k2 at *
  generalize (getOut l p 4).isSome = k4 at *
  refine HX1.out.mono ?_
  rintro e w4 ⟨rfl, hw⟩
  obtain rfl : w3 = w4 := hw.symm
  go_wp2_with fail
  refine HX2.out.mono ?_
  rintro e w4 ⟨rfl, hw⟩
  obtain rfl : w3 = w4 := hw.symm
  go_wp2_with fail
  refine HX3.out.mono ?_
  rintro e w4 ⟨rfl, hw⟩
  obtain rfl : w3 = w4 := hw.symm
  go_wp2_with fail
  refine HX4.out.mono ?_
  rintro e w4 ⟨rfl, hw⟩
  obtain rfl : w3 = w4 := hw.symm
  clear HX1 HX2 HX3 HX4
  go_upto_region 8 with fail
  go_cut [16] (fun s16 wx => s16 = .bool true ∧ Same w3 wx)
  case first =>
    have hsm : Hid (Same w3 w3.drew) := (Same.refl w3).drew
    have HGV : Hid (Bs w3.drew (.slice (some ⟨w.heap.size, 0, none⟩) l.length (l.length + 20)) l) := by
      have := (HO3.out.bs.same hsm.out).head l.length (by omega)
      have h2 : Bs w3.drew (.slice (some ⟨w.heap.size, 0, none⟩) l.length (l.length + 20)) l := by simpa using this
      exact h2
    have HBW := Lib.hid (HBB.out.same hsm.out)
    have HM := Lib.hid (show l.length + 4 ≤ 140737488355328 by omega)
    clear hn hp
    have H0 : Hid (Same w3.drew w3.drew) := Same.refl _
    refine reg_start (fun w' => Same w3.drew w') (by kernel_rfl) ?_
    refine reg_take (v := ?_) 0 (some 55) rfl rfl (by kernel_rfl) (fun _ _ _ h => h) (by kernel_rfl) (Same.refl w3.drew) ?_ ?_
    rotate_left
    · (intro w' hw'; go_simp; try with_reducible rfl)
    try simp only [Act.put, List.setIfInBounds_toArray, List.set_cons_zero, List.set_cons_succ]
    refine reg_take (v := ?_) 1 (some 56) rfl rfl (by kernel_rfl) (fun _ _ _ h => h) (by kernel_rfl) (Same.refl w3.drew) ?_ ?_
    rotate_left
    · (intro w' hw'; go_simp; try with_reducible rfl)
    try simp only [Act.put, List.setIfInBounds_toArray, List.set_cons_zero, List.set_cons_succ]
    refine reg_take (v := ?_) 4 (some 59) rfl rfl (by kernel_rfl) (fun _ _ _ h => h) (by kernel_rfl) (Same.refl w3.drew) ?_ ?_
    rotate_left
    · (intro w' hw'; go_simp; try with_reducible rfl)
    try simp only [Act.put, List.setIfInBounds_toArray, List.set_cons_zero, List.set_cons_succ]
    refine reg_take (v := ?_) 5 (some 60) rfl rfl (by kernel_rfl) (fun _ _ _ h => h) (by kernel_rfl) (Same.refl w3.drew) ?_ ?_
    rotate_left
    · (intro w' hw'; go_simp; try with_reducible rfl)
    try simp only [Act.put, List.setIfInBounds_toArray, List.set_cons_zero, List.set_cons_succ]
    refine reg_take (v := ?_) 6 (some 61) rfl rfl (by kernel_rfl) (fun _ _ _ h => h) (by kernel_rfl) (Same.refl w3.drew) ?_ ?_
    rotate_left
    · (intro w' hw'; go_simp; try with_reducible rfl)
    try simp only [Act.put, List.setIfInBounds_toArray, List.set_cons_zero, List.set_cons_succ]
    refine reg_one 2 rfl (by kernel_rfl) (by kernel_rfl) ?_
    go_simp
    refine (Put8_any _ l n _ HGV.out (by have := HM.out; omega)).mono ?_
    rintro e u1 ⟨x1, rfl, ho1, hs1⟩
    have HX1 := Lib.hid ho1.bs
    have H1 := Lib.hid (H0.out.trans hs1)
    refine ⟨hs1, reg_more (fun w' => Same u1 w') (fun w' h => hs1.trans h) _ _ _ _ ?_⟩
    clear ho1 hs1
    try simp only [Act.put, List.setIfInBounds_toArray, List.set_cons_zero, List.set_cons_succ]
    refine reg_take (v := ?_) 3 (some 58) rfl rfl (by kernel_rfl) (fun _ _ _ h => h) (by kernel_rfl) (Same.refl u1) ?_ ?_
    rotate_left
    · (intro w' hw'; have hr := run_str w' x1 _ (HX1.out.same hw'); go_simp; try with_reducible rfl)
    try simp only [Act.put, List.setIfInBounds_toArray, List.set_cons_zero, List.set_cons_succ]
    refine reg_one 7 rfl (by kernel_rfl) (by kernel_rfl) ?_
    go_simp
    refine (rPut1 _ l n _ (HBW.out.same H1.out) HM.out).mono ?_
    rintro e u2 ⟨x2, rfl, ho2, hs2⟩
    have HX2 := Lib.hid ho2.bs
    have H2 := Lib.hid (H1.out.trans hs2)
    refine ⟨hs2, reg_more (fun w' => Same u2 w') (fun w' h => hs2.trans h) _ _ _ _ ?_⟩
    clear ho2 hs2
    try simp only [Act.put, List.setIfInBounds_toArray, List.set_cons_zero, List.set_cons_succ]
    refine reg_take (v := ?_) 8 (some 63) rfl rfl (by kernel_rfl) (fun _ _ _ h => h) (by kernel_rfl) (Same.refl u2) ?_ ?_
    rotate_left
    · (intro w' hw'; have hr := run_str w' x2 _ (HX2.out.same hw'); go_simp; try with_reducible rfl)
    try simp only [Act.put, List.setIfInBounds_toArray, List.set_cons_zero, List.set_cons_succ]
    refine reg_take (v := ?_) 9 (some 64) rfl rfl (by kernel_rfl) (fun _ _ _ h => h) (by kernel_rfl) (Same.refl u2) ?_ ?_
    rotate_left
    · (intro w' hw'; go_simp; try with_reducible rfl)
    try simp only [Act.put, List.setIfInBounds_toArray, List.set_cons_zero, List.set_cons_succ]
    refine reg_take (v := ?_) 10 (some 65) rfl rfl (by kernel_rfl) (fun _ _ _ h => h) (by kernel_rfl) (Same.refl u2) ?_ ?_
    rotate_left
    · (intro w' hw'; go_simp; try with_reducible rfl)
    try simp only [Act.put, List.setIfInBounds_toArray, List.set_cons_zero, List.set_cons_succ]
    refine reg_take (v := ?_) 11 (some 66) rfl rfl (by kernel_rfl) (fun _ _ _ h => h) (by kernel_rfl) (Same.refl u2) ?_ ?_
    rotate_left
    · (intro w' hw'; go_simp; try with_reducible rfl)
    try simp only [Act.put, List.setIfInBounds_toArray, List.set_cons_zero, List.set_cons_succ]
    refine reg_take (v := ?_) 12 (some 67) rfl rfl (by kernel_rfl) (fun _ _ _ h => h) (by kernel_rfl) (Same.refl u2) ?_ ?_
    rotate_left
    · (intro w' hw'; go_simp; try with_reducible rfl)
    try simp only [Act.put, List.setIfInBounds_toArray, List.set_cons_zero, List.set_cons_succ]
    refine reg_take (v := ?_) 15 (some 70) rfl rfl (by kernel_rfl) (fun _ _ _ h => h) (by kernel_rfl) (Same.refl u2) ?_ ?_
    rotate_left
    · (intro w' hw'; go_simp; try with_reducible rfl)
    try simp only [Act.put, List.setIfInBounds_toArray, List.set_cons_zero, List.set_cons_succ]
    refine reg_take (v := ?_) 16 (some 71) rfl rfl (by kernel_rfl) (fun _ _ _ h => h) (by kernel_rfl) (Same.refl u2) ?_ ?_
    rotate_left
    · (intro w' hw'; go_simp; try with_reducible rfl)
    try simp only [Act.put, List.setIfInBounds_toArray, List.set_cons_zero, List.set_cons_succ]
    refine reg_take (v := ?_) 17 (some 72) rfl rfl (by kernel_rfl) (fun _ _ _ h => h) (by kernel_rfl) (Same.refl u2) ?_ ?_
    rotate_left
    · (intro w' hw'; go_simp; try with_reducible rfl)
    try simp only [Act.put, List.setIfInBounds_toArray, List.set_cons_zero, List.set_cons_succ]
    refine reg_one 13 rfl (by kernel_rfl) (by kernel_rfl) ?_
    go_simp
    refine (Put16_any _ l n _ (HGV.out.same H2.out) (by have := HM.out; omega)).mono ?_
    rintro e u3 ⟨x3, rfl, ho3, hs3⟩
    have HX3 := Lib.hid ho3.bs
    have H3 := Lib.hid (H2.out.trans hs3)
    refine ⟨hs3, reg_more (fun w' => Same u3 w') (fun w' h => hs3.trans h) _ _ _ _ ?_⟩
    clear ho3 hs3
    try simp only [Act.put, List.setIfInBounds_toArray, List.set_cons_zero, List.set_cons_succ]
    refine reg_take (v := ?_) 14 (some 69) rfl rfl (by kernel_rfl) (fun _ _ _ h => h) (by kernel_rfl) (Same.refl u3) ?_ ?_
    rotate_left
    · (intro w' hw'; have hr := run_str w' x3 _ (HX3.out.same hw'); go_simp; try with_reducible rfl)
    try simp only [Act.put, List.setIfInBounds_toArray, List.set_cons_zero, List.set_cons_succ]
    refine reg_one 18 rfl (by kernel_rfl) (by kernel_rfl) ?_
    go_simp
    refine (rPut2 _ l n _ (HBW.out.same H3.out) HM.out).mono ?_
    rintro e u4 ⟨x4, rfl, ho4, hs4⟩
    have HX4 := Lib.hid ho4.bs
    have H4 := Lib.hid (H3.out.trans hs4)
    refine ⟨hs4, reg_more (fun w' => Same u4 w') (fun w' h => hs4.trans h) _ _ _ _ ?_⟩
    clear ho4 hs4
    try simp only [Act.put, List.setIfInBounds_toArray, List.set_cons_zero, List.set_cons_succ]
    refine reg_take (v := ?_) 19 (some 74) rfl rfl (by kernel_rfl) (fun _ _ _ h => h) (by kernel_rfl) (Same.refl u4) ?_ ?_
    rotate_left
    · (intro w' hw'; have hr := run_str w' x4 _ (HX4.out.same hw'); go_simp; try with_reducible rfl)
    try simp only [Act.put, List.setIfInBounds_toArray, List.set_cons_zero, List.set_cons_succ]
    refine reg_take (v := ?_) 20 (some 75) rfl rfl (by kernel_rfl) (fun _ _ _ h => h) (by kernel_rfl) (Same.refl u4) ?_ ?_
    rotate_left
    · (intro w' hw'; go_simp; try with_reducible rfl)
    try simp only [Act.put, List.setIfInBounds_toArray, List.set_cons_zero, List.set_cons_succ]
    refine reg_take (v := ?_) 21 (some 76) rfl rfl (by kernel_rfl) (fun _ _ _ h => h) (by kernel_rfl) (Same.refl u4) ?_ ?_
    rotate_left
    · (intro w' hw'; go_simp; try with_reducible rfl)
    try simp only [Act.put, List.setIfInBounds_toArray, List.set_cons_zero, List.set_cons_succ]
    refine reg_take (v := ?_) 22 (some 77) rfl rfl (by kernel_rfl) (fun _ _ _ h => h) (by kernel_rfl) (Same.refl u4) ?_ ?_
    rotate_left
    · (intro w' hw'; go_simp; try with_reducible rfl)
    try simp only [Act.put, List.setIfInBounds_toArray, List.set_cons_zero, List.set_cons_succ]
    refine reg_take (v := ?_) 23 (some 78) rfl rfl (by kernel_rfl) (fun _ _ _ h => h) (by kernel_rfl) (Same.refl u4) ?_ ?_
    rotate_left
    · (intro w' hw'; go_simp; try with_reducible rfl)
    try simp only [Act.put, List.setIfInBounds_toArray, List.set_cons_zero, List.set_cons_succ]
    refine reg_take (v := ?_) 24 (some 79) rfl rfl (by kernel_rfl) (fun _ _ _ h => h) (by kernel_rfl) (Same.refl u4) ?_ ?_
    rotate_left
    · (intro w' hw'; go_simp; try with_reducible rfl)
    try simp only [Act.put, List.setIfInBounds_toArray, List.set_cons_zero, List.set_cons_succ]
    refine reg_take (v := ?_) 25 (some 80) rfl rfl (by kernel_rfl) (fun _ _ _ h => h) (by kernel_rfl) (Same.refl u4) ?_ ?_
    rotate_left
    · (intro w' hw'; go_simp; try with_reducible rfl)
    try simp only [Act.put, List.setIfInBounds_toArray, List.set_cons_zero, List.set_cons_succ]
    refine reg_take (v := ?_) 28 (some 83) rfl rfl (by kernel_rfl) (fun _ _ _ h => h) (by kernel_rfl) (Same.refl u4) ?_ ?_
    rotate_left
    · (intro w' hw'; go_simp; try with_reducible rfl)
    try simp only [Act.put, List.setIfInBounds_toArray, List.set_cons_zero, List.set_cons_succ]
    refine reg_take (v := ?_) 29 (some 84) rfl rfl (by kernel_rfl) (fun _ _ _ h => h) (by kernel_rfl) (Same.refl u4) ?_ ?_
    rotate_left
    · (intro w' hw'; go_simp; try with_reducible rfl)
    try simp only [Act.put, List.setIfInBounds_toArray, List.set_cons_zero, List.set_cons_succ]
    refine reg_take (v := ?_) 30 (some 85) rfl rfl (by kernel_rfl) (fun _ _ _ h => h) (by kernel_rfl) (Same.refl u4) ?_ ?_
    rotate_left
    · (intro w' hw'; go_simp; try with_reducible rfl)
    try simp only [Act.put, List.setIfInBounds_toArray, List.set_cons_zero, List.set_cons_succ]
    refine reg_one 26 rfl (by kernel_rfl) (by kernel_rfl) ?_
    go_simp
    refine (Put32w _ l n _ (HGV.out.same H4.out) HM.out).mono ?_
    rintro e u5 ⟨x5, rfl, ho5, hs5⟩
    have HX5 := Lib.hid ho5.bs
    have H5 := Lib.hid (H4.out.trans hs5)
    refine ⟨hs5, reg_more (fun w' => Same u5 w') (fun w' h => hs5.trans h) _ _ _ _ ?_⟩
    clear ho5 hs5
    try simp only [Act.put, List.setIfInBounds_toArray, List.set_cons_zero, List.set_cons_succ]
    refine reg_take (v := ?_) 27 (some 82) rfl rfl (by kernel_rfl) (fun _ _ _ h => h) (by kernel_rfl) (Same.refl u5) ?_ ?_
    rotate_left
    · (intro w' hw'; have hr := run_str w' x5 _ (HX5.out.same hw'); go_simp; try with_reducible rfl)
    try simp only [Act.put, List.setIfInBounds_toArray, List.set_cons_zero, List.set_cons_succ]
    refine reg_one 31 rfl (by kernel_rfl) (by kernel_rfl) ?_
    go_simp
    refine (rPut4 _ l n _ (HBW.out.same H5.out) HM.out).mono ?_
    rintro e u6 ⟨x6, rfl, ho6, hs6⟩
    have HX6 := Lib.hid ho6.bs
    have H6 := Lib.hid (H5.out.trans hs6)
    refine ⟨hs6, reg_more (fun w' => Same u6 w') (fun w' h => hs6.trans h) _ _ _ _ ?_⟩
    clear ho6 hs6
    try simp only [Act.put, List.setIfInBounds_toArray, List.set_cons_zero, List.set_cons_succ]
    refine reg_take (v := ?_) 32 (some 87) rfl rfl (by kernel_rfl) (fun _ _ _ h => h) (by kernel_rfl) (Same.refl u6) ?_ ?_
    rotate_left
    · (intro w' hw'; have hr := run_str w' x6 _ (HX6.out.same hw'); go_simp; try with_reducible rfl)
    try simp only [Act.put, List.setIfInBounds_toArray, List.set_cons_zero, List.set_cons_succ]
    refine reg_take (v := ?_) 33 (some 88) rfl rfl (by kernel_rfl) (fun _ _ _ h => h) (by kernel_rfl) (Same.refl u6) ?_ ?_
    rotate_left
    · (intro w' hw'; go_simp; try with_reducible rfl)
    try simp only [Act.put, List.setIfInBounds_toArray, List.set_cons_zero, List.set_cons_succ]
    refine reg_take (v := ?_) 34 (some 89) rfl rfl (by kernel_rfl) (fun _ _ _ h => h) (by kernel_rfl) (Same.refl u6) ?_ ?_
    rotate_left
    · (intro w' hw'; go_simp; try with_reducible rfl)
    try simp only [Act.put, List.setIfInBounds_toArray, List.set_cons_zero, List.set_cons_succ]
    refine reg_take (v := ?_) 35 (some 16) rfl rfl (by kernel_rfl) (fun _ _ _ h => h) (by kernel_rfl) (Same.refl u6) ?_ ?_
    rotate_left
    · (intro w' hw'; go_simp; try with_reducible rfl)
    try simp only [Act.put, List.setIfInBounds_toArray, List.set_cons_zero, List.set_cons_succ]
    refine reg_done (by kernel_rfl) ?_
    go_wp2_with fail
    go_meet
    exact ⟨rfl, hsm.out.trans H6.out⟩
  case rest =>
    obtain ⟨rfl, hs⟩ := hcut
    have HS := Lib.hid hs.drew
    have HGV : Hid (Bs wc.drew (.slice (some ⟨w.heap.size, 0, none⟩) (l.length + 5) (l.length + 20)) (l ++ [115, 112, 97, 114, 101])) := HO3.out.bs.same HS.out
    have HBW := Lib.hid (HBB.out.same HS.out)
    clear hs
    have w2 : IntKind.i64.wrap (x2 : Int) = x2 := IntWalk.i64_in _ (by omega)
    have w4 : IntKind.u32.wrap (x4 : Int) = x4 := IntWalk.u32_in _ (by omega)
    have z5 : ¬ 9223372036854775807 < l.length + 5 := by omega
    have f2 := beq_self_eq_true k2
    have f4 := beq_self_eq_true k4
    have z1 : IntKind.i64.wrap ((l.length : Int) + 5) = (l.length : Int) + 5 := IntWalk.i64_in _ (by omega)
    have z2 : (0 : Int) ≤ (l.length : Int) + 5 := by omega
    have z3 : (l.length : Int) + 5 ≤ (l.length : Int) + 20 := by omega
    have z4 : ((l.length : Int) + 5).toNat = l.length + 5 := by omega
    go_wp2_with fail
    refine reg_start (fun w' => Same wc.drew w') (by kernel_rfl) ?_
    refine reg_take (v := ?_) 0 (some 90) rfl rfl (by kernel_rfl) (fun _ _ _ h => h) (by kernel_rfl) (Same.refl wc.drew) ?_ ?_
    rotate_left
    · (intro w' hw'; go_simp; try with_reducible rfl)
    try simp only [Act.put, List.setIfInBounds_toArray, List.set_cons_zero, List.set_cons_succ]
    refine reg_take (v := ?_) 1 (some 91) rfl rfl (by kernel_rfl) (fun _ _ _ h => h) (by kernel_rfl) (Same.refl wc.drew) ?_ ?_
    rotate_left
    · (intro w' hw'; go_simp; try with_reducible rfl)
    try simp only [Act.put, List.setIfInBounds_toArray, List.set_cons_zero, List.set_cons_succ]
    refine reg_take (v := ?_) 2 (some 92) rfl rfl (by kernel_rfl) (fun _ _ _ h => h) (by kernel_rfl) (Same.refl wc.drew) ?_ ?_
    rotate_left
    · (intro w' hw'; go_simp; try with_reducible rfl)
    try simp only [Act.put, List.setIfInBounds_toArray, List.set_cons_zero, List.set_cons_succ]
    refine reg_take (v := ?_) 3 (some 93) rfl rfl (by kernel_rfl) (fun _ _ _ h => h) (by kernel_rfl) (Same.refl wc.drew) ?_ ?_
    rotate_left
    · (intro w' hw'; go_simp; try with_reducible rfl)
    try simp only [Act.put, List.setIfInBounds_toArray, List.set_cons_zero, List.set_cons_succ]
    refine reg_take (v := ?_) 4 (some 94) rfl rfl (by kernel_rfl) (fun _ _ _ h => h) (by kernel_rfl) (Same.refl wc.drew) ?_ ?_
    rotate_left
    · (intro w' hw'; go_simp; try with_reducible rfl)
    try simp only [Act.put, List.setIfInBounds_toArray, List.set_cons_zero, List.set_cons_succ]
    refine reg_take (v := ?_) 5 (some 95) rfl rfl (by kernel_rfl) (fun _ _ _ h => h) (by kernel_rfl) (Same.refl wc.drew) ?_ ?_
    rotate_left
    · (intro w' hw'; go_simp; try with_reducible rfl)
    try simp only [Act.put, List.setIfInBounds_toArray, List.set_cons_zero, List.set_cons_succ]
    refine reg_take (v := ?_) 6 (some 96) rfl rfl (by kernel_rfl) (fun _ _ _ h => h) (by kernel_rfl) (Same.refl wc.drew) ?_ ?_
    rotate_left
    · (intro w' hw'; go_simp; try with_reducible rfl)
    try simp only [Act.put, List.setIfInBounds_toArray, List.set_cons_zero, List.set_cons_succ]
    refine reg_take (v := ?_) 7 (some 97) rfl rfl (by kernel_rfl) (fun _ _ _ h => h) (by kernel_rfl) (Same.refl wc.drew) ?_ ?_
    rotate_left
    · (intro w' hw'; go_simp; try with_reducible rfl)
    try simp only [Act.put, List.setIfInBounds_toArray, List.set_cons_zero, List.set_cons_succ]
    refine reg_take (v := ?_) 8 (some 98) rfl rfl (by kernel_rfl) (fun _ _ _ h => h) (by kernel_rfl) (Same.refl wc.drew) ?_ ?_
    rotate_left
    · (intro w' hw'; go_simp; try with_reducible rfl)
    try simp only [Act.put, List.setIfInBounds_toArray, List.set_cons_zero, List.set_cons_succ]
    refine reg_take (v := ?_) 9 (some 99) rfl rfl (by kernel_rfl) (fun _ _ _ h => h) (by kernel_rfl) (Same.refl wc.drew) ?_ ?_
    rotate_left
    · (intro w' hw'; go_simp; try with_reducible rfl)
    try simp only [Act.put, List.setIfInBounds_toArray, List.set_cons_zero, List.set_cons_succ]
    refine reg_take (v := ?_) 10 (some 100) rfl rfl (by kernel_rfl) (fun _ _ _ h => h) (by kernel_rfl) (Same.refl wc.drew) ?_ ?_
    rotate_left
    · (intro w' hw'; go_simp; try with_reducible rfl)
    try simp only [Act.put, List.setIfInBounds_toArray, List.set_cons_zero, List.set_cons_succ]
    refine reg_take (v := ?_) 11 (some 101) rfl rfl (by kernel_rfl) (fun _ _ _ h => h) (by kernel_rfl) (Same.refl wc.drew) ?_ ?_
    rotate_left
    · (intro w' hw'; go_simp; try with_reducible rfl)
    try simp only [Act.put, List.setIfInBounds_toArray, List.set_cons_zero, List.set_cons_succ]
    refine reg_take (v := ?_) 12 (some 102) rfl rfl (by kernel_rfl) (fun _ _ _ h => h) (by kernel_rfl) (Same.refl wc.drew) ?_ ?_
    rotate_left
    · (intro w' hw'; go_simp; try with_reducible rfl)
    try simp only [Act.put, List.setIfInBounds_toArray, List.set_cons_zero, List.set_cons_succ]
    refine reg_take (v := ?_) 13 (some 103) rfl rfl (by kernel_rfl) (fun _ _ _ h => h) (by kernel_rfl) (Same.refl wc.drew) ?_ ?_
    rotate_left
    · (intro w' hw'; go_simp; try with_reducible rfl)
    try simp only [Act.put, List.setIfInBounds_toArray, List.set_cons_zero, List.set_cons_succ]
    refine reg_take (v := ?_) 14 (some 104) rfl rfl (by kernel_rfl) (fun _ _ _ h => h) (by kernel_rfl) (Same.refl wc.drew) ?_ ?_
    rotate_left
    · (intro w' hw'; go_simp; try with_reducible rfl)
    try simp only [Act.put, List.setIfInBounds_toArray, List.set_cons_zero, List.set_cons_succ]
    refine reg_take (v := ?_) 15 (some 105) rfl rfl (by kernel_rfl) (fun _ _ _ h => h) (by kernel_rfl) (Same.refl wc.drew) ?_ ?_
    rotate_left
    · (intro w' hw'; go_simp; try with_reducible rfl)
    try simp only [Act.put, List.setIfInBounds_toArray, List.set_cons_zero, List.set_cons_succ]
    refine reg_take (v := ?_) 16 (some 106) rfl rfl (by kernel_rfl) (fun _ _ _ h => h) (by kernel_rfl) (Same.refl wc.drew) ?_ ?_
    rotate_left
    · (intro w' hw'; go_simp; try with_reducible rfl)
    try simp only [Act.put, List.setIfInBounds_toArray, List.set_cons_zero, List.set_cons_succ]
    refine reg_take (v := ?_) 17 (some 107) rfl rfl (by kernel_rfl) (fun _ _ _ h => h) (by kernel_rfl) (Same.refl wc.drew) ?_ ?_
    rotate_left
    · (intro w' hw'; go_simp; try with_reducible rfl)
    try simp only [Act.put, List.setIfInBounds_toArray, List.set_cons_zero, List.set_cons_succ]
    refine reg_take (v := ?_) 18 (some 108) rfl rfl (by kernel_rfl) (fun _ _ _ h => h) (by kernel_rfl) (Same.refl wc.drew) ?_ ?_
    rotate_left
    · (intro w' hw'; go_simp; try with_reducible rfl)
    try simp only [Act.put, List.setIfInBounds_toArray, List.set_cons_zero, List.set_cons_succ]
    refine reg_take (v := ?_) 19 (some 109) rfl rfl (by kernel_rfl) (fun _ _ _ h => h) (by kernel_rfl) (Same.refl wc.drew) ?_ ?_
    rotate_left
    · (intro w' hw'; go_simp; try with_reducible rfl)
    try simp only [Act.put, List.setIfInBounds_toArray, List.set_cons_zero, List.set_cons_succ]
    refine reg_take (v := ?_) 20 (some 110) rfl rfl (by kernel_rfl) (fun _ _ _ h => h) (by kernel_rfl) (Same.refl wc.drew) ?_ ?_
    rotate_left
    · (intro w' hw'; go_simp; try with_reducible rfl)
    try simp only [Act.put, List.setIfInBounds_toArray, List.set_cons_zero, List.set_cons_succ]
    refine reg_take (v := ?_) 21 (some 111) rfl rfl (by kernel_rfl) (fun _ _ _ h => h) (by kernel_rfl) (Same.refl wc.drew) ?_ ?_
    rotate_left
    · (intro w' hw'; go_simp; try with_reducible rfl)
    try simp only [Act.put, List.setIfInBounds_toArray, List.set_cons_zero, List.set_cons_succ]
    refine reg_take (v := ?_) 22 (some 112) rfl rfl (by kernel_rfl) (fun _ _ _ h => h) (by kernel_rfl) (Same.refl wc.drew) ?_ ?_
    rotate_left
    · (intro w' hw'; go_simp; try with_reducible rfl)
    try simp only [Act.put, List.setIfInBounds_toArray, List.set_cons_zero, List.set_cons_succ]
    refine reg_take (v := ?_) 23 (some 113) rfl rfl (by kernel_rfl) (fun _ _ _ h => h) (by kernel_rfl) (Same.refl wc.drew) ?_ ?_
    rotate_left
    · (intro w' hw'; go_simp; try with_reducible rfl)
    try simp only [Act.put, List.setIfInBounds_toArray, List.set_cons_zero, List.set_cons_succ]
    refine reg_take (v := ?_) 24 (some 114) rfl rfl (by kernel_rfl) (fun _ _ _ h => h) (by kernel_rfl) (Same.refl wc.drew) ?_ ?_
    rotate_left
    · (intro w' hw'; go_simp; try with_reducible rfl)
    try simp only [Act.put, List.setIfInBounds_toArray, List.set_cons_zero, List.set_cons_succ]
    refine reg_take (v := ?_) 25 (some 115) rfl rfl (by kernel_rfl) (fun _ _ _ h => h) (by kernel_rfl) (Same.refl wc.drew) ?_ ?_
    rotate_left
    · (intro w' hw'; go_simp; try with_reducible rfl)
    try simp only [Act.put, List.setIfInBounds_toArray, List.set_cons_zero, List.set_cons_succ]
    refine reg_take (v := ?_) 26 (some 116) rfl rfl (by kernel_rfl) (fun _ _ _ h => h) (by kernel_rfl) (Same.refl wc.drew) ?_ ?_
    rotate_left
    · (intro w' hw'; go_simp; try with_reducible rfl)
    try simp only [Act.put, List.setIfInBounds_toArray, List.set_cons_zero, List.set_cons_succ]
    refine reg_take (v := ?_) 27 (some 117) rfl rfl (by kernel_rfl) (fun _ _ _ h => h) (by kernel_rfl) (Same.refl wc.drew) ?_ ?_
    rotate_left
    · (intro w' hw'; go_simp; try with_reducible rfl)
    try simp only [Act.put, List.setIfInBounds_toArray, List.set_cons_zero, List.set_cons_succ]
    refine reg_take (v := ?_) 28 (some 118) rfl rfl (by kernel_rfl) (fun _ _ _ h => h) (by kernel_rfl) (Same.refl wc.drew) ?_ ?_
    rotate_left
    · (intro w' hw'; go_simp; try with_reducible rfl)
    try simp only [Act.put, List.setIfInBounds_toArray, List.set_cons_zero, List.set_cons_succ]
    refine reg_take (v := ?_) 29 (some 119) rfl rfl (by kernel_rfl) (fun _ _ _ h => h) (by kernel_rfl) (Same.refl wc.drew) ?_ ?_
    rotate_left
    · (intro w' hw'; have hr := run_str w' _ _ (HGV.out.same hw'); go_simp; try with_reducible rfl)
    try simp only [Act.put, List.setIfInBounds_toArray, List.set_cons_zero, List.set_cons_succ]
    refine reg_take (v := ?_) 30 (some 120) rfl rfl (by kernel_rfl) (fun _ _ _ h => h) (by kernel_rfl) (Same.refl wc.drew) ?_ ?_
    rotate_left
    · (intro w' hw'; go_simp; try with_reducible rfl)
    try simp only [Act.put, List.setIfInBounds_toArray, List.set_cons_zero, List.set_cons_succ]
    refine reg_take (v := ?_) 31 (some 121) rfl rfl (by kernel_rfl) (fun _ _ _ h => h) (by kernel_rfl) (Same.refl wc.drew) ?_ ?_
    rotate_left
    · (intro w' hw'; have hr := run_str w' _ _ (HBW.out.same hw'); go_simp; try with_reducible rfl)
    try simp only [Act.put, List.setIfInBounds_toArray, List.set_cons_zero, List.set_cons_succ]
    refine reg_take (v := ?_) 32 (some 122) rfl rfl (by kernel_rfl) (fun _ _ _ h => h) (by kernel_rfl) (Same.refl wc.drew) ?_ ?_
    rotate_left
    · (intro w' hw'; go_simp; exact congrArg Value.string (ByteArray.mk_append_mk l [115, 112, 97, 114, 101]))
    try simp only [Act.put, List.setIfInBounds_toArray, List.set_cons_zero, List.set_cons_succ]
    refine reg_take (v := ?_) 33 (some 123) rfl rfl (by kernel_rfl) (fun _ _ _ h => h) (by kernel_rfl) (Same.refl wc.drew) ?_ ?_
    rotate_left
    · (intro w' hw'; go_simp; try with_reducible rfl)
    try simp only [Act.put, List.setIfInBounds_toArray, List.set_cons_zero, List.set_cons_succ]
    refine reg_take (v := ?_) 34 (some 124) rfl rfl (by kernel_rfl) (fun _ _ _ h => h) (by kernel_rfl) (Same.refl wc.drew) ?_ ?_
    rotate_left
    · (intro w' hw'; go_simp; try with_reducible rfl)
    try simp only [Act.put, List.setIfInBounds_toArray, List.set_cons_zero, List.set_cons_succ]
    refine reg_take (v := ?_) 35 (some 125) rfl rfl (by kernel_rfl) (fun _ _ _ h => h) (by kernel_rfl) (Same.refl wc.drew) ?_ ?_
    rotate_left
    · (intro w' hw'; go_simp; try with_reducible rfl)
    try simp only [Act.put, List.setIfInBounds_toArray, List.set_cons_zero, List.set_cons_succ]
    refine reg_one 36 rfl (by kernel_rfl) (by kernel_rfl) ?_
    go_simp
    refine (lives_true _).mono ?_
    rintro e u1 ⟨rfl, hs1⟩
    have HL := Lib.hid hs1
    refine ⟨hs1, reg_more (fun w' => Same u1 w') (fun w' h => hs1.trans h) _ _ _ _ ?_⟩
    clear hs1
    try simp only [Act.put, List.setIfInBounds_toArray, List.set_cons_zero, List.set_cons_succ]
    refine reg_take (v := ?_) 37 (some 127) rfl rfl (by kernel_rfl) (fun _ _ _ h => h) (by kernel_rfl) (Same.refl u1) ?_ ?_
    rotate_left
    · (intro w' hw'; go_simp; try with_reducible rfl)
    try simp only [Act.put, List.setIfInBounds_toArray, List.set_cons_zero, List.set_cons_succ]
    refine reg_take (v := ?_) 38 (some 6) rfl rfl (by kernel_rfl) (fun _ _ _ h => h) (by kernel_rfl) (Same.refl u1) ?_ ?_
    rotate_left
    · (intro w' hw'; go_simp; try with_reducible rfl)
    try simp only [Act.put, List.setIfInBounds_toArray, List.set_cons_zero, List.set_cons_succ]
    refine reg_done (by kernel_rfl) ?_
    go_wp2_with fail
    go_ret
    exact ⟨rfl, (HS3.out.trans HS.out).trans HL.out⟩
end Go.Proofs.Ytphhnjfkniahdaa
