/- The walk of PrefixBack. The library's table is asked to be as its own text lays it. -/
import Derived.Test.YtmlabaaelkghlaaDoorPfxL
import Derived.Test.YtmlabaaelkghlaaDoorPfxM
namespace Go.Proofs.YtmlabaaelkghlaaDoor
open Go.RowKit
set_option linter.unusedVariables false
set_option maxRecDepth 100000
attribute [local go_sem ↓] neq_pfx_same eq_pfx

theorem back_long (ao : Option Addr) (n cap : Nat) (a : Int) (w : World) (h : 200 < (n : Int)) :
    Calls Tryd.prog 4 #[.slice ao n cap, .int .u32 a] w fun e w' => e = .returned (.bool true) ∧ Same w w' := by
  go_enter Tryd.func4, Tryd.ntmps4
  go_wp2_with fail
  refine (pfx_lives w).mono ?_
  rintro e w1 ⟨rfl, hs⟩
  go_wp2_with fail
  go_ret
  exact ⟨rfl, hs⟩

def canP (p : Int × Int) : Int × Int := (canA p.1 p.2, nearN p.2)

set_option maxHeartbeats 2000000 in
theorem back_walk (v : Value) (l : List (Int × Int)) (a : Int) (w : World) (hp : Ps w v l) (hr : ∀ q ∈ l, (0 ≤ q.1 ∧ q.1 ≤ 4294967295)) (ha : 0 ≤ a ∧ a ≤ 4294967295) (hl : (l.length : Int) ≤ 200) (ht : Tab w) :
    Calls Tryd.prog 4 #[v, .int .u32 a] w fun e w' => e = .returned (.bool true) ∧ Same w w' := by
  have HP := Lib.hid hp
  have HT := Lib.hid ht
  have HR := Lib.hid hr
  have hal := allL_len l
  have HAl := Lib.hid (All_any v l w hp (by omega))
  have HPa := fun bv w' (hb : Bs w' bv (allL l)) => Lib.hid (pParse_any bv (allL l) w' hb (by omega))
  rw [parseR_all l hr] at HPa
  change ∀ bv w' (hb : Bs w' bv (allL l)), Hid (Calls _ _ _ _ fun e w'' => ∃ u, e = .returned (.tuple #[u, .bool true]) ∧ Ps w'' u (l.map canP) ∧ Same w' w'') at HPa
  obtain ⟨x, hx, hxa⟩ := finA_addr a ha.1 ha.2
  have hpav : paV (some x) = .tuple #[.int .u32 a, .bool true] := by rw [← hxa]; rfl
  have HAd := fun w' h => Lib.hid (Addr_any a ha.1 ha.2 w' h)
  have HPA := fun w' => Lib.hid (ParseAddr_any ⟨(addrL a).toArray⟩ (by show (addrL a).toArray.size ≤ _; rw [List.size_toArray]; have := addrL_len a; omega) w')
  rw [show (⟨(addrL a).toArray⟩ : ByteArray).data.toList = addrL a from rfl, hx, hpav] at HPA
  clear hx hpav hxa hal hr ht
  generalize addrL a = al at *
  have hml : ((l.map canP).length : Int) = l.length := by rw [List.length_map]
  obtain ⟨ao, cap, rfl, b1, b2, b3, b4⟩ := hp
  clear b4
  go_enter Tryd.func4, Tryd.ntmps4
  go_wp2_with fail
  refine HAl.out.mono ?_
  rintro e w1 ⟨bv, rfl, hbs, h1⟩
  go_wp2_with fail
  refine (HPa bv w1 hbs).out.mono ?_
  rintro e w2 ⟨mv, rfl, hpm, h2⟩
  have HS2 := Lib.hid (h1.trans h2)
  have HPM := Lib.hid hpm
  obtain ⟨mo, mcap, rfl, m1, m2, m3, m4⟩ := hpm
  rw [List.length_map] at m1 HPM ⊢
  clear m4 h1 h2 hbs HAl HPa
  go_wp2_with fail
  go_loopw [34] (fun i wr => ∃ k : Nat, k ≤ l.length ∧ i = .int .i64 k ∧ Same w2 wr) (fun i _ => l.length - (intOf i).toNat)
  case atStart => exact ⟨0, Nat.zero_le _, rfl, Same.refl _⟩
  case round =>
    obtain ⟨k, hk, rfl, hs⟩ := hrel
    have HS := Lib.hid hs
    clear hs
    by_cases hlt : k < l.length
    · obtain ⟨ab, o, sp, rfl⟩ : ∃ ab o sp, ao = some ⟨ab, o, sp⟩ := by
        cases ao with
        | none => have := b3 rfl; omega
        | some ad => exact ⟨ad.block, ad.off, ad.spot, rfl⟩
      obtain ⟨mb, mo2, msp, rfl⟩ : ∃ ab o sp, mo = some ⟨ab, o, sp⟩ := by
        cases mo with
        | none => have := m3 rfl; omega
        | some ad => exact ⟨ad.block, ad.off, ad.spot, rfl⟩
      obtain ⟨rfl, -, c0, c1⟩ := (HP.out.same (HS2.out.trans HS.out)).at k hlt
      obtain ⟨rfl, -, -, -⟩ := HPM.out.at k (by simp; exact hlt)
      have HMC : Hid (∀ w', Same wr w' → w'.cell? ⟨mb, mo2 + k * 2, none⟩ = some (.int .u32 (canA l[k].1 l[k].2)) ∧ w'.cell? ⟨mb, mo2 + k * 2 + 1, none⟩ = some (.int .i64 (nearN l[k].2))) := by
        intro w' hw
        obtain ⟨-, -, q0, q1⟩ := (HPM.out.same (HS.out.trans hw)).at k (by simp; exact hlt)
        rw [List.getElem_map] at q0 q1
        exact ⟨q0, q1⟩
      have hlt' : (k : Int) < l.length := by omega
      have hrk := HR.out l[k] (List.getElem_mem hlt)
      have hcr := canA_rng l[k].1 l[k].2 hrk
      have hpt := parT_text l[k].1 l[k].2 hrk
      have hgc := goodB_can l[k].1 l[k].2 hrk
      have HTx := fun w' h => Lib.hid (Text_any l[k].1 l[k].2 hcr w' h)
      have hsz : (textL l[k].1 l[k].2).length ≤ 140737488355328 := by
        have h1 := addrL_len (canA l[k].1 l[k].2)
        have h2 := dec_len (nearN l[k].2).toNat (by have := nearN_le l[k].2; omega)
        unfold textL
        simp only [List.length_append, List.length_cons, List.length_nil]
        omega
      have HPt := fun w' => Lib.hid (ParseText_any ⟨(textL l[k].1 l[k].2).toArray⟩ (by show (textL l[k].1 l[k].2).toArray.size ≤ _; rw [List.size_toArray]; exact hsz) w')
      rw [show (⟨(textL l[k].1 l[k].2).toArray⟩ : ByteArray).data.toList = textL l[k].1 l[k].2 from rfl, hpt] at HPt
      have hptv : ptV (some (canA l[k].1 l[k].2, nearN l[k].2)) = .tuple #[.agg #[.int .u32 (canA l[k].1 l[k].2), .int .i64 (nearN l[k].2)], .bool true] := rfl
      rw [hptv] at HPt
      have HCn := fun w' => Lib.hid (Canon_any l[k].1 l[k].2 w')
      have HGq := fun w' => Lib.hid (Good_any (canA l[k].1 l[k].2) (nearN l[k].2) w')
      unfold goodB at hgc
      rw [hgc] at HGq
      have HGp := fun w' => Lib.hid (Good_any l[k].1 l[k].2 w')
      clear hptv hpt hsz hcr hrk hgc
      generalize textL l[k].1 l[k].2 = tx at *
      generalize canA l[k].1 l[k].2 = c at *
      generalize nearN l[k].2 = nn at *
      generalize l[k].1 = x0 at *
      generalize l[k].2 = y0 at *
      have HTw : Hid (Tab wr) := (HT.out.same (HS2.out.trans HS.out))
      go_wp2_with fail
      refine (HTx _ (HTw.out.same (Same.alloc wr (pfxO x0 y0)))).out.mono ?_
      rintro e u ⟨rfl, h1⟩
      go_wp2_with fail
      refine (HPt _).out.mono ?_
      rintro e u2 ⟨rfl, h2⟩
      have hpb := (h1.trans h2).block (heap_alloc_new wr (pfxO x0 y0))
      have HU := Lib.hid (((Same.alloc wr (pfxO x0 y0)).trans (h1.trans h2)).trans (Same.alloc u2 (pfxO c nn)))
      clear h1 h2 c0 c1
      go_wp2_with fail
      have HQB := Lib.hid (box1 c nn u2)
      have hpb2 := (Same.alloc u2 (pfxO c nn)).block hpb
      have HPB : Hid (∀ w', Same (u2.alloc (pfxO c nn)) w' → w'.cell? ⟨wr.heap.size, 0, none⟩ = some (.int .u32 x0) ∧ w'.cell? ⟨wr.heap.size, 1, none⟩ = some (.int .i64 y0)) := fun w' hw => by
        obtain ⟨q0, q1, -, -⟩ := box_cells' (hw.block hpb2)
        exact ⟨q0, q1⟩
      have HMC2 : Hid (∀ w', Same (u2.alloc (pfxO c nn)) w' → _) := fun w' hw => HMC.out w' (HU.out.trans hw)
      clear hpb hpb2 HMC
      generalize u2.alloc (.cells #[.int .u32 c, .int .i64 nn] 24) = V at *
      refine reg_start (fun w' => Same V w') (by kernel_rfl) ?_
      refine reg_take (v := ?_) 0 (some 45) rfl rfl (by kernel_rfl) (fun _ _ _ h => h) (by kernel_rfl) ((Same.refl V).drew) ?_ ?_
      rotate_left
      · (intro w' hw'; obtain ⟨m0, m1⟩ := HMC2.out w' hw'; obtain ⟨p0, p1⟩ := HPB.out w' hw'; obtain ⟨q0, q1⟩ := HQB.out w' hw'; go_simp; try with_reducible rfl)
      try simp only [Act.put, List.setIfInBounds_toArray, List.set_cons_zero, List.set_cons_succ]
      refine reg_take (v := ?_) 1 (some 46) rfl rfl (by kernel_rfl) (fun _ _ _ h => h) (by kernel_rfl) ((Same.refl V).drew) ?_ ?_
      rotate_left
      · (intro w' hw'; obtain ⟨m0, m1⟩ := HMC2.out w' hw'; obtain ⟨p0, p1⟩ := HPB.out w' hw'; obtain ⟨q0, q1⟩ := HQB.out w' hw'; go_simp; try with_reducible rfl)
      try simp only [Act.put, List.setIfInBounds_toArray, List.set_cons_zero, List.set_cons_succ]
      refine reg_take (v := ?_) 2 (some 47) rfl rfl (by kernel_rfl) (fun _ _ _ h => h) (by kernel_rfl) ((Same.refl V).drew) ?_ ?_
      rotate_left
      · (intro w' hw'; obtain ⟨m0, m1⟩ := HMC2.out w' hw'; obtain ⟨p0, p1⟩ := HPB.out w' hw'; obtain ⟨q0, q1⟩ := HQB.out w' hw'; go_simp; try with_reducible rfl)
      try simp only [Act.put, List.setIfInBounds_toArray, List.set_cons_zero, List.set_cons_succ]
      refine reg_take (v := ?_) 3 (some 48) rfl rfl (by kernel_rfl) (fun _ _ _ h => h) (by kernel_rfl) ((Same.refl V).drew) ?_ ?_
      rotate_left
      · (intro w' hw'; obtain ⟨m0, m1⟩ := HMC2.out w' hw'; obtain ⟨p0, p1⟩ := HPB.out w' hw'; obtain ⟨q0, q1⟩ := HQB.out w' hw'; go_simp; try with_reducible rfl)
      try simp only [Act.put, List.setIfInBounds_toArray, List.set_cons_zero, List.set_cons_succ]
      refine reg_take (v := ?_) 4 (some 49) rfl rfl (by kernel_rfl) (fun _ _ _ h => h) (by kernel_rfl) ((Same.refl V).drew) ?_ ?_
      rotate_left
      · (intro w' hw'; obtain ⟨m0, m1⟩ := HMC2.out w' hw'; obtain ⟨p0, p1⟩ := HPB.out w' hw'; obtain ⟨q0, q1⟩ := HQB.out w' hw'; go_simp; try with_reducible rfl)
      try simp only [Act.put, List.setIfInBounds_toArray, List.set_cons_zero, List.set_cons_succ]
      refine reg_one 5 rfl (by kernel_rfl) (by kernel_rfl) ?_
      go_simp
      refine ((HCn _).out).mono ?_
      rintro e u1 ⟨rfl, hs1⟩
      have hS1 := ((Same.refl V).drew).trans hs1
      skip
      refine ⟨hS1, ?_⟩
      try simp only [Act.put, List.setIfInBounds_toArray, List.set_cons_zero, List.set_cons_succ]
      refine reg_take (v := ?_) 6 (some 51) rfl rfl (by kernel_rfl) (fun _ _ _ h => h) (by kernel_rfl) (hS1) ?_ ?_
      rotate_left
      · (intro w' hw'; obtain ⟨m0, m1⟩ := HMC2.out w' hw'; obtain ⟨p0, p1⟩ := HPB.out w' hw'; obtain ⟨q0, q1⟩ := HQB.out w' hw'; go_simp; try with_reducible rfl)
      try simp only [Act.put, List.setIfInBounds_toArray, List.set_cons_zero, List.set_cons_succ]
      refine reg_take (v := ?_) 7 (some 52) rfl rfl (by kernel_rfl) (fun _ _ _ h => h) (by kernel_rfl) (hS1) ?_ ?_
      rotate_left
      · (intro w' hw'; obtain ⟨m0, m1⟩ := HMC2.out w' hw'; obtain ⟨p0, p1⟩ := HPB.out w' hw'; obtain ⟨q0, q1⟩ := HQB.out w' hw'; go_simp; try with_reducible rfl)
      try simp only [Act.put, List.setIfInBounds_toArray, List.set_cons_zero, List.set_cons_succ]
      refine reg_take (v := ?_) 8 (some 53) rfl rfl (by kernel_rfl) (fun _ _ _ h => h) (by kernel_rfl) (hS1) ?_ ?_
      rotate_left
      · (intro w' hw'; obtain ⟨m0, m1⟩ := HMC2.out w' hw'; obtain ⟨p0, p1⟩ := HPB.out w' hw'; obtain ⟨q0, q1⟩ := HQB.out w' hw'; go_simp; try with_reducible rfl)
      try simp only [Act.put, List.setIfInBounds_toArray, List.set_cons_zero, List.set_cons_succ]
      refine reg_take (v := ?_) 9 (some 54) rfl rfl (by kernel_rfl) (fun _ _ _ h => h) (by kernel_rfl) (hS1) ?_ ?_
      rotate_left
      · (intro w' hw'; obtain ⟨m0, m1⟩ := HMC2.out w' hw'; obtain ⟨p0, p1⟩ := HPB.out w' hw'; obtain ⟨q0, q1⟩ := HQB.out w' hw'; go_simp; try with_reducible rfl)
      try simp only [Act.put, List.setIfInBounds_toArray, List.set_cons_zero, List.set_cons_succ]
      refine reg_take (v := ?_) 10 (some 55) rfl rfl (by kernel_rfl) (fun _ _ _ h => h) (by kernel_rfl) (hS1) ?_ ?_
      rotate_left
      · (intro w' hw'; obtain ⟨m0, m1⟩ := HMC2.out w' hw'; obtain ⟨p0, p1⟩ := HPB.out w' hw'; obtain ⟨q0, q1⟩ := HQB.out w' hw'; go_simp; try with_reducible rfl)
      try simp only [Act.put, List.setIfInBounds_toArray, List.set_cons_zero, List.set_cons_succ]
      refine reg_take (v := ?_) 11 (some 56) rfl rfl (by kernel_rfl) (fun _ _ _ h => h) (by kernel_rfl) (hS1) ?_ ?_
      rotate_left
      · (intro w' hw'; obtain ⟨m0, m1⟩ := HMC2.out w' hw'; obtain ⟨p0, p1⟩ := HPB.out w' hw'; obtain ⟨q0, q1⟩ := HQB.out w' hw'; go_simp; try with_reducible rfl)
      try simp only [Act.put, List.setIfInBounds_toArray, List.set_cons_zero, List.set_cons_succ]
      refine reg_take (v := ?_) 12 (some 57) rfl rfl (by kernel_rfl) (fun _ _ _ h => h) (by kernel_rfl) (hS1) ?_ ?_
      rotate_left
      · (intro w' hw'; obtain ⟨m0, m1⟩ := HMC2.out w' hw'; obtain ⟨p0, p1⟩ := HPB.out w' hw'; obtain ⟨q0, q1⟩ := HQB.out w' hw'; go_simp; try with_reducible rfl)
      try simp only [Act.put, List.setIfInBounds_toArray, List.set_cons_zero, List.set_cons_succ]
      refine reg_take (v := ?_) 13 (some 58) rfl rfl (by kernel_rfl) (fun _ _ _ h => h) (by kernel_rfl) (hS1) ?_ ?_
      rotate_left
      · (intro w' hw'; obtain ⟨m0, m1⟩ := HMC2.out w' hw'; obtain ⟨p0, p1⟩ := HPB.out w' hw'; obtain ⟨q0, q1⟩ := HQB.out w' hw'; go_simp; try with_reducible rfl)
      try simp only [Act.put, List.setIfInBounds_toArray, List.set_cons_zero, List.set_cons_succ]
      refine reg_take (v := ?_) 14 (some 59) rfl rfl (by kernel_rfl) (fun _ _ _ h => h) (by kernel_rfl) (hS1) ?_ ?_
      rotate_left
      · (intro w' hw'; obtain ⟨m0, m1⟩ := HMC2.out w' hw'; obtain ⟨p0, p1⟩ := HPB.out w' hw'; obtain ⟨q0, q1⟩ := HQB.out w' hw'; go_simp; try with_reducible rfl)
      try simp only [Act.put, List.setIfInBounds_toArray, List.set_cons_zero, List.set_cons_succ]
      refine reg_take (v := ?_) 15 (some 60) rfl rfl (by kernel_rfl) (fun _ _ _ h => h) (by kernel_rfl) (hS1) ?_ ?_
      rotate_left
      · (intro w' hw'; obtain ⟨m0, m1⟩ := HMC2.out w' hw'; obtain ⟨p0, p1⟩ := HPB.out w' hw'; obtain ⟨q0, q1⟩ := HQB.out w' hw'; go_simp; try with_reducible rfl)
      try simp only [Act.put, List.setIfInBounds_toArray, List.set_cons_zero, List.set_cons_succ]
      refine reg_take (v := ?_) 16 (some 61) rfl rfl (by kernel_rfl) (fun _ _ _ h => h) (by kernel_rfl) (hS1) ?_ ?_
      rotate_left
      · (intro w' hw'; obtain ⟨m0, m1⟩ := HMC2.out w' hw'; obtain ⟨p0, p1⟩ := HPB.out w' hw'; obtain ⟨q0, q1⟩ := HQB.out w' hw'; go_simp; try with_reducible rfl)
      try simp only [Act.put, List.setIfInBounds_toArray, List.set_cons_zero, List.set_cons_succ]
      refine reg_take (v := ?_) 17 (some 62) rfl rfl (by kernel_rfl) (fun _ _ _ h => h) (by kernel_rfl) (hS1) ?_ ?_
      rotate_left
      · (intro w' hw'; obtain ⟨m0, m1⟩ := HMC2.out w' hw'; obtain ⟨p0, p1⟩ := HPB.out w' hw'; obtain ⟨q0, q1⟩ := HQB.out w' hw'; go_simp; try with_reducible rfl)
      try simp only [Act.put, List.setIfInBounds_toArray, List.set_cons_zero, List.set_cons_succ]
      refine reg_take (v := ?_) 18 (some 63) rfl rfl (by kernel_rfl) (fun _ _ _ h => h) (by kernel_rfl) (hS1) ?_ ?_
      rotate_left
      · (intro w' hw'; obtain ⟨m0, m1⟩ := HMC2.out w' hw'; obtain ⟨p0, p1⟩ := HPB.out w' hw'; obtain ⟨q0, q1⟩ := HQB.out w' hw'; go_simp; try with_reducible rfl)
      try simp only [Act.put, List.setIfInBounds_toArray, List.set_cons_zero, List.set_cons_succ]
      refine reg_take (v := ?_) 19 (some 64) rfl rfl (by kernel_rfl) (fun _ _ _ h => h) (by kernel_rfl) (hS1) ?_ ?_
      rotate_left
      · (intro w' hw'; obtain ⟨m0, m1⟩ := HMC2.out w' hw'; obtain ⟨p0, p1⟩ := HPB.out w' hw'; obtain ⟨q0, q1⟩ := HQB.out w' hw'; go_simp; try with_reducible rfl)
      try simp only [Act.put, List.setIfInBounds_toArray, List.set_cons_zero, List.set_cons_succ]
      refine reg_take (v := ?_) 20 (some 65) rfl rfl (by kernel_rfl) (fun _ _ _ h => h) (by kernel_rfl) (hS1) ?_ ?_
      rotate_left
      · (intro w' hw'; obtain ⟨m0, m1⟩ := HMC2.out w' hw'; obtain ⟨p0, p1⟩ := HPB.out w' hw'; obtain ⟨q0, q1⟩ := HQB.out w' hw'; go_simp; try with_reducible rfl)
      try simp only [Act.put, List.setIfInBounds_toArray, List.set_cons_zero, List.set_cons_succ]
      refine reg_one 21 rfl (by kernel_rfl) (by kernel_rfl) ?_
      go_simp
      refine ((HGq _).out).mono ?_
      rintro e u2 ⟨rfl, hs2⟩
      have hS2 := (hS1).trans hs2
      skip
      refine ⟨hS2, ?_⟩
      try simp only [Act.put, List.setIfInBounds_toArray, List.set_cons_zero, List.set_cons_succ]
      refine reg_take (v := ?_) 22 (some 67) rfl rfl (by kernel_rfl) (fun _ _ _ h => h) (by kernel_rfl) (hS2) ?_ ?_
      rotate_left
      · (intro w' hw'; obtain ⟨m0, m1⟩ := HMC2.out w' hw'; obtain ⟨p0, p1⟩ := HPB.out w' hw'; obtain ⟨q0, q1⟩ := HQB.out w' hw'; go_simp; try with_reducible rfl)
      try simp only [Act.put, List.setIfInBounds_toArray, List.set_cons_zero, List.set_cons_succ]
      refine reg_take (v := ?_) 23 (some 68) rfl rfl (by kernel_rfl) (fun _ _ _ h => h) (by kernel_rfl) (hS2) ?_ ?_
      rotate_left
      · (intro w' hw'; obtain ⟨m0, m1⟩ := HMC2.out w' hw'; obtain ⟨p0, p1⟩ := HPB.out w' hw'; obtain ⟨q0, q1⟩ := HQB.out w' hw'; go_simp; try with_reducible rfl)
      try simp only [Act.put, List.setIfInBounds_toArray, List.set_cons_zero, List.set_cons_succ]
      refine reg_take (v := ?_) 24 (some 69) rfl rfl (by kernel_rfl) (fun _ _ _ h => h) (by kernel_rfl) (hS2) ?_ ?_
      rotate_left
      · (intro w' hw'; obtain ⟨m0, m1⟩ := HMC2.out w' hw'; obtain ⟨p0, p1⟩ := HPB.out w' hw'; obtain ⟨q0, q1⟩ := HQB.out w' hw'; go_simp; try with_reducible rfl)
      try simp only [Act.put, List.setIfInBounds_toArray, List.set_cons_zero, List.set_cons_succ]
      refine reg_take (v := ?_) 25 (some 70) rfl rfl (by kernel_rfl) (fun _ _ _ h => h) (by kernel_rfl) (hS2) ?_ ?_
      rotate_left
      · (intro w' hw'; obtain ⟨m0, m1⟩ := HMC2.out w' hw'; obtain ⟨p0, p1⟩ := HPB.out w' hw'; obtain ⟨q0, q1⟩ := HQB.out w' hw'; go_simp; try with_reducible rfl)
      try simp only [Act.put, List.setIfInBounds_toArray, List.set_cons_zero, List.set_cons_succ]
      refine reg_take (v := ?_) 27 (some 72) rfl rfl (by kernel_rfl) (fun _ _ _ h => h) (by kernel_rfl) (hS2) ?_ ?_
      rotate_left
      · (intro w' hw'; obtain ⟨m0, m1⟩ := HMC2.out w' hw'; obtain ⟨p0, p1⟩ := HPB.out w' hw'; obtain ⟨q0, q1⟩ := HQB.out w' hw'; go_simp; try with_reducible rfl)
      try simp only [Act.put, List.setIfInBounds_toArray, List.set_cons_zero, List.set_cons_succ]
      refine reg_take (v := ?_) 28 (some 73) rfl rfl (by kernel_rfl) (fun _ _ _ h => h) (by kernel_rfl) (hS2) ?_ ?_
      rotate_left
      · (intro w' hw'; obtain ⟨m0, m1⟩ := HMC2.out w' hw'; obtain ⟨p0, p1⟩ := HPB.out w' hw'; obtain ⟨q0, q1⟩ := HQB.out w' hw'; go_simp; try with_reducible rfl)
      try simp only [Act.put, List.setIfInBounds_toArray, List.set_cons_zero, List.set_cons_succ]
      refine reg_take (v := ?_) 29 (some 74) rfl rfl (by kernel_rfl) (fun _ _ _ h => h) (by kernel_rfl) (hS2) ?_ ?_
      rotate_left
      · (intro w' hw'; obtain ⟨m0, m1⟩ := HMC2.out w' hw'; obtain ⟨p0, p1⟩ := HPB.out w' hw'; obtain ⟨q0, q1⟩ := HQB.out w' hw'; go_simp; try with_reducible rfl)
      try simp only [Act.put, List.setIfInBounds_toArray, List.set_cons_zero, List.set_cons_succ]
      refine reg_one 26 rfl (by kernel_rfl) (by kernel_rfl) ?_
      go_simp
      refine ((HGp _).out).mono ?_
      rintro e u3 ⟨rfl, hs3⟩
      have hS3 := (hS2).trans hs3
      skip
      refine ⟨hS3, ?_⟩
      try simp only [Act.put, List.setIfInBounds_toArray, List.set_cons_zero, List.set_cons_succ]
      refine reg_take (v := ?_) 30 (some 75) rfl rfl (by kernel_rfl) (fun _ _ _ h => h) (by kernel_rfl) (hS3) ?_ ?_
      rotate_left
      · (intro w' hw'; obtain ⟨m0, m1⟩ := HMC2.out w' hw'; obtain ⟨p0, p1⟩ := HPB.out w' hw'; obtain ⟨q0, q1⟩ := HQB.out w' hw'; go_simp; try with_reducible rfl)
      try simp only [Act.put, List.setIfInBounds_toArray, List.set_cons_zero, List.set_cons_succ]
      refine reg_take (v := ?_) 31 (some 76) rfl rfl (by kernel_rfl) (fun _ _ _ h => h) (by kernel_rfl) (hS3) ?_ ?_
      rotate_left
      · (intro w' hw'; obtain ⟨m0, m1⟩ := HMC2.out w' hw'; obtain ⟨p0, p1⟩ := HPB.out w' hw'; obtain ⟨q0, q1⟩ := HQB.out w' hw'; go_simp; try with_reducible rfl)
      try simp only [Act.put, List.setIfInBounds_toArray, List.set_cons_zero, List.set_cons_succ]
      refine reg_done (by kernel_rfl) ?_
      go_wp2_with fail
      exact ⟨⟨k + 1, by omega, by go_num, HS.out.trans (HU.out.trans hS3)⟩, by simp [intOf]; omega⟩
    · have hlt' : (l.length : Int) ≤ k := by omega
      go_wp2_with fail
      refine (HAd _ (HT.out.same (HS2.out.trans HS.out))).out.mono ?_
      rintro e u ⟨rfl, h1⟩
      go_wp2_with fail
      refine (HPA _).out.mono ?_
      rintro e u2 ⟨rfl, h2⟩
      go_wp2_with fail
      refine (pfx_lives _).mono ?_
      rintro e u3 ⟨rfl, h3⟩
      go_wp2_with fail
      go_ret
      exact ⟨rfl, (HS2.out.trans HS.out).trans ((h1.trans h2).trans h3)⟩
end Go.Proofs.YtmlabaaelkghlaaDoor
