/- The developers' layer 5: a packet's sum. No condition beyond what each names. The developers' layer 5: a packet made of its parts. No condition beyond what each names. The developers' layer 5: Udp, Tcp. No condition beyond what each names. Layer 5: what a packet that was made tells. No condition beyond what each names. -/
import Derived.Laws.MakeOwn
import Derived.Test.YtcemdajkddidnaaGreatDoorQPoB
import Derived.Test.YtcemdajkddidnaaGreatDoorMgH
namespace Go.Proofs.YtcemdajkddidnaaGreatDoor
open Go.RowKit
set_option linter.unusedVariables false

/-- a word -/
def wdB (n : Int) : List UInt8 := [byteAt n 1, byteAt n 0]
/-- what counts beside a packet's payload -/
def besideF (f : Fl) (n : Int) : Nat := sumB (pseudoB f.src f.dst f.proto n)
/-- what the sum is made of -/
def sumL (f : Fl) (b : List UInt8) : List UInt8 := wdB (besideF f b.length : Int) ++ b
def sumP (f : Fl) (b : List UInt8) : Nat := if 65535 - sumB (sumL f b) = 0 ∧ f.proto = 17 then 65535 else 65535 - sumB (sumL f b)

set_option maxRecDepth 100000 in
set_option maxHeartbeats 1000000 in
theorem poSum_any (f : Fl) (hr : (0 ≤ f.src ∧ f.src ≤ 4294967295) ∧ (0 ≤ f.dst ∧ f.dst ≤ 4294967295)) (v : Value) (b : List UInt8) (w : World) (hb : Bs w v b) (hl : (b.length : Int) ≤ 140737488355000) :
    Calls Tryz.prog 38 #[flV f, v] w fun e w' => e = .returned (.int .i64 (sumP f b : Nat)) ∧ Same w w' := by
  have HPs := fun w => Lib.hid (cPseudo_any f.src f.dst f.proto (b.length : Int) w hr.1 hr.2)
  obtain ⟨ps, hps⟩ : ∃ ps, ps = besideF f b.length := ⟨_, rfl⟩
  rw [show sumB (pseudoB f.src f.dst f.proto (b.length : Int)) = besideF f b.length from rfl, ← hps] at HPs
  have HSL : Hid (sumL f b = ([] ++ [byteAt (ps : Int) 1, byteAt (ps : Int) 0]) ++ (b ++ [])) := by show _ = _; rw [hps]; simp [sumL, wdB]
  have HSP : Hid (sumP f b = if 65535 - sumB (sumL f b) = 0 ∧ f.proto = 17 then 65535 else 65535 - sumB (sumL f b)) := rfl
  have HOf := fun v w hb => Lib.hid (cOf_any v (sumL f b) w hb (by rw [HSL.out]; simp; omega))
  have HPu := fun w => Lib.hid (Put16_any (.slice none 0 0) [] (ps : Int) w (Bs.nil _) (by simp))
  generalize sumP f b = SP at *
  rw [HSL.out] at HSP HOf
  generalize hL1 : ([] : List UInt8) ++ [byteAt (ps : Int) 1, byteAt (ps : Int) 0] = L1 at *
  have HL1 : Hid (L1.length = 2) := by rw [← hL1]; rfl
  clear hL1 hps HSL
  obtain ⟨n, hn⟩ : ∃ n : Nat, n = 65535 - sumB (L1 ++ (b ++ [])) := ⟨_, rfl⟩
  rw [← hn] at HSP HOf
  obtain ⟨q0, q1, q2, q3, q4⟩ := f
  simp only at HSP HPs
  obtain ⟨W0, hW⟩ : ∃ W0, W0 = w.alloc (flO 24 ⟨q0, q1, q2, q3, q4⟩) := ⟨_, rfl⟩
  have HX : Hid (∀ w', Same W0 w' → FlAt w' w.heap.size ⟨q0, q1, q2, q3, q4⟩) := by rw [hW]; exact fl_box 24 ⟨q0, q1, q2, q3, q4⟩ w
  have H0 : Hid (Same w W0) := by rw [hW]; exact Same.alloc w _
  have HW := Lib.hid hW
  have HN := Lib.hid hn
  have HB := Lib.hid hb
  have HLb := Lib.hid hl
  obtain ⟨ao, cap, rfl, -, -, -, -⟩ := hb
  clear hW hn hr hl
  go_enter Tryz.func38, Tryz.ntmps38
  go_wp2_with fail
  refine (HPs _).out.mono ?_
  rintro e w1 ⟨rfl, hs1⟩
  have HS1 : Hid (Same W0 w1) := by rw [HW.out]; exact hs1
  clear hs1
  go_wp2_with fail
  refine (HPu _).out.mono ?_
  rintro e w2 ⟨v2, rfl, ho2, hs2⟩
  have HS2 := Lib.hid (HS1.out.trans hs2)
  have HB2 := Lib.hid ho2.bs
  obtain ⟨a2, n2, p2, rfl⟩ := ho2.slice
  clear ho2 hs2
  go_wp2_with fail
  have HA2 := Lib.hid (Same.alloc w2 (.cells #[.slice a2 n2 p2, .slice ao b.length cap] 25))
  refine (cat_any 2 _ [(.slice a2 n2 p2, L1), (.slice ao b.length cap, b)] rfl _ (List.forall_mem_cons.2 ⟨HB2.out.same HA2.out, List.forall_mem_cons.2 ⟨HB.out.same (H0.out.trans (HS2.out.trans HA2.out)), fun _ h => by cases h⟩⟩) (by have := HLb.out; simp only [catL_cons, catL_nil, List.length_append, HL1.out, List.length_nil]; omega) (by omega) (heap_alloc_new _ _)).mono ?_
  rintro e w3 ⟨v3, rfl, ho3, hs3⟩
  have HS3 := Lib.hid (HS2.out.trans (HA2.out.trans hs3))
  have HB3 := Lib.hid ho3.bs
  clear ho3 hs3
  go_wp2_with fail
  refine (HOf _ _ HB3.out).out.mono ?_
  rintro e w4 ⟨rfl, hs4⟩
  have HS4 := Lib.hid (HS3.out.trans hs4)
  clear hs4 HB3 HS3
  by_cases h0 : n = 0
  · by_cases h7 : q0 = 17
    · have HE : Hid (SP = 65535) := by show _ = _; rw [HSP.out, if_pos ⟨h0, h7⟩]
      subst h0 h7
      obtain ⟨c0, c1, c2, c3, c4⟩ := HX.out w4 HS4.out
      go_wp2_with fail
      go_ret
      exact ⟨by rw [HE.out]; rfl, H0.out.trans HS4.out⟩
    · have HE : Hid (SP = 0) := by show _ = _; rw [HSP.out, if_neg (fun h => h7 h.2)]; exact h0
      have k7 : (q0 == 17) = false := by simpa using h7
      subst h0
      obtain ⟨c0, c1, c2, c3, c4⟩ := HX.out w4 HS4.out
      go_wp2_with fail
      go_ret
      exact ⟨by rw [HE.out]; rfl, H0.out.trans HS4.out⟩
  · have HE : Hid (SP = n) := by show _ = _; rw [HSP.out, if_neg (fun h => h0 h.1)]
    have k0 : ((n : Int) == 0) = false := by simp; omega
    clear h0
    obtain ⟨c0, c1, c2, c3, c4⟩ := HX.out w4 HS4.out
    go_wp2_with fail
    go_ret
    exact ⟨by rw [HE.out]; rfl, H0.out.trans HS4.out⟩
end Go.Proofs.YtcemdajkddidnaaGreatDoor
namespace Go.Proofs.YtcemdajkddidnaaGreatDoor
open Go.RowKit
set_option linter.unusedVariables false

/-- the head of a packet of a flow -/
def headF (f : Fl) : Hd := ⟨0, 0, 0, 0, 64, f.proto, f.src, f.dst, []⟩
/-- a packet of a flow, with its sum at a place -/
def packetB (f : Fl) (at_ : Nat) (b : List UInt8) : List UInt8 := if goodF f then buildB (headF f) (layB b at_ (wdB (sumP f b : Nat))) else []

theorem FlAt.mod {s : Nat} {w w' : World} {B : Nat} {f : Fl} (hs : Mod s w w') (hB : B ≠ s) (hk : FlAt w B f) : FlAt w' B f := by
  obtain ⟨k0, k1, k2, k3, k4⟩ := hk
  have g : ∀ {j v}, w.cell? ⟨B, j, none⟩ = some v → w'.cell? ⟨B, j, none⟩ = some v := fun {j v} hc => by
    rw [World.cell?_of_block (w := w) (hs.block _ (World.block_lt_of_cell? w _ hc) hB)]; exact hc
  exact ⟨g k0, g k1, g k2, g k3, g k4⟩

set_option maxRecDepth 100000 in
set_option maxHeartbeats 1000000 in
theorem poPacket_any (f : Fl) (hr : (0 ≤ f.src ∧ f.src ≤ 4294967295) ∧ (0 ≤ f.dst ∧ f.dst ≤ 4294967295)) (at_ g n : Nat) (xs : List (Value × List UInt8)) (hn : xs.length = n) (hn2 : n ≤ 100) (w : World) (hb : ∀ x, x ∈ xs → Bs w x.1 x.2)
    (hl : ((catL xs).length : Int) ≤ 140737488355000) (hat : at_ + 2 ≤ (catL xs).length) (ha0 : at_ ≠ 0) (hg : w.heap[g]? = some (.cells (xs.map (·.1)).toArray 25 (0, 0))) :
    Calls Tryz.prog 19 #[flV f, .int .i64 at_, .slice (some ⟨g, 0, none⟩) n n] w fun e w' => ∃ v, e = .returned v ∧ OwnB w' w.heap.size v (packetB f at_ (catL xs)) ∧ Same w w' := by
  have HG := fun w => Lib.hid (poGood_any f w)
  obtain ⟨W0, hW⟩ : ∃ W0, W0 = w.alloc (flO 24 f) := ⟨_, rfl⟩
  have HX : Hid (∀ w', Same W0 w' → FlAt w' w.heap.size f) := by rw [hW]; exact fl_box 24 f w
  have H0 : Hid (Same w W0) := by rw [hW]; exact Same.alloc w _
  have HSz : Hid (w.heap.size < W0.heap.size) := by rw [hW]; show _ < _; simp
  have HC := fun w' (hs : Same w w') => Lib.hid (cat_any n g xs hn w' (fun x hx => (hb x hx).same hs) (by omega) (by omega) (hs.block hg))
  have HSm := fun v w hb => Lib.hid (poSum_any f hr v (catL xs) w hb hl)
  have HBd := fun p vp w hp hpl => Lib.hid (ipBuild_any (headF f) hr p (.slice none 0 0) vp w (Bs.nil w) hp (by simp [headF]) hpl)
  have HLb := Lib.hid hl
  have HAt := Lib.hid hat
  have HPk : Hid (packetB f at_ (catL xs) = if goodF f then buildB (headF f) (layB (catL xs) at_ (wdB (sumP f (catL xs) : Nat))) else []) := rfl
  generalize packetB f at_ (catL xs) = PK at *
  generalize catL xs = b at *
  generalize sumP f b = sp at *
  clear hb hg hn hl hr hat
  by_cases hgd : goodF f
  · rw [show decide (goodF f) = true from decide_eq_true hgd] at HG
    rw [if_pos hgd] at HPk
    clear hgd
    obtain ⟨q0, q1, q2, q3, q4⟩ := f
    have HW := Lib.hid hW
    clear hW
    go_enter Tryz.func19, Tryz.ntmps19
    go_wp2_with fail
    have c := FlAt.of (heap_alloc_new w (flO 24 ⟨q0, q1, q2, q3, q4⟩))
    refine (HG _).out.mono ?_
    rintro e w1 ⟨rfl, hs1⟩
    have HS1 : Hid (Same W0 w1) := by rw [HW.out]; exact hs1
    clear hs1
    go_wp2_with fail
    refine (HC _ (H0.out.trans HS1.out)).out.mono ?_
    rintro e w3 ⟨v3, rfl, ho3, hs3⟩
    have HS3 := Lib.hid (HS1.out.trans hs3)
    obtain ⟨gb, cap, rfl, hcap, hgb⟩ := OwnB.forms ho3 (by have := HAt.out; omega)
    have HGb : Hid (w.heap.size < gb) := by have := HSz.out; have := HS1.out.size; show _ < _; omega
    have HOb := Lib.hid ho3
    have hat := HAt.out
    have k1 : (at_ : Int) ≤ b.length := by omega
    have k2 : ¬ (cap = at_) := by omega
    have k3 : (at_ : Int) ≤ cap := by omega
    have k4 : (b.length : Int) ≤ cap := by omega
    obtain ⟨m, hm⟩ : ∃ m, b.length = m := ⟨_, rfl⟩
    have HM := Lib.hid hm
    have HXm : Hid (∀ w', Mod gb w3 w' → FlAt w' w.heap.size ⟨q0, q1, q2, q3, q4⟩) := fun w' hw => (HX.out w3 HS3.out).mod hw (Nat.ne_of_lt HGb.out)
    rw [hm] at HOb k1 k4
    simp only [hm]
    clear hat hcap hgb ho3 hs3 hm
    go_wp2_with fail
    refine reg_start (fun w' => Mod gb w3 w') (by kernel_rfl) ?_
    refine reg_take (v := ?_) 0 (some 13) rfl rfl (by kernel_rfl) (fun _ _ _ h => h) (by kernel_rfl) (Mod.of_same (s := gb) (Same.refl w3).drew) ?_ ?_
    rotate_left
    · (intro w' hw'; obtain ⟨c0, c1, c2, c3, c4⟩ := HXm.out w' hw'; go_simp; try with_reducible rfl)
    try simp only [Act.put, List.setIfInBounds_toArray, List.set_cons_zero, List.set_cons_succ]
    refine reg_take (v := ?_) 1 (some 14) rfl rfl (by kernel_rfl) (fun _ _ _ h => h) (by kernel_rfl) (Mod.of_same (s := gb) (Same.refl w3).drew) ?_ ?_
    rotate_left
    · (intro w' hw'; obtain ⟨c0, c1, c2, c3, c4⟩ := HXm.out w' hw'; go_simp; try with_reducible rfl)
    try simp only [Act.put, List.setIfInBounds_toArray, List.set_cons_zero, List.set_cons_succ]
    refine reg_take (v := ?_) 2 (some 15) rfl rfl (by kernel_rfl) (fun _ _ _ h => h) (by kernel_rfl) (Mod.of_same (s := gb) (Same.refl w3).drew) ?_ ?_
    rotate_left
    · (intro w' hw'; obtain ⟨c0, c1, c2, c3, c4⟩ := HXm.out w' hw'; go_simp; try with_reducible rfl)
    try simp only [Act.put, List.setIfInBounds_toArray, List.set_cons_zero, List.set_cons_succ]
    refine reg_take (v := ?_) 3 (some 16) rfl rfl (by kernel_rfl) (fun _ _ _ h => h) (by kernel_rfl) (Mod.of_same (s := gb) (Same.refl w3).drew) ?_ ?_
    rotate_left
    · (intro w' hw'; obtain ⟨c0, c1, c2, c3, c4⟩ := HXm.out w' hw'; go_simp; try with_reducible rfl)
    try simp only [Act.put, List.setIfInBounds_toArray, List.set_cons_zero, List.set_cons_succ]
    refine reg_take (v := ?_) 4 (some 17) rfl rfl (by kernel_rfl) (fun _ _ _ h => h) (by kernel_rfl) (Mod.of_same (s := gb) (Same.refl w3).drew) ?_ ?_
    rotate_left
    · (intro w' hw'; obtain ⟨c0, c1, c2, c3, c4⟩ := HXm.out w' hw'; go_simp; try with_reducible rfl)
    try simp only [Act.put, List.setIfInBounds_toArray, List.set_cons_zero, List.set_cons_succ]
    refine reg_one 5 rfl (by kernel_rfl) (by kernel_rfl) ?_
    go_simp
    refine ((HSm _ _ (HOb.out.bs.same (Same.refl w3).drew)).out).mono ?_
    rintro e u1 ⟨rfl, hs1⟩
    have hS1 := (Mod.of_same (s := gb) (Same.refl w3).drew).trans (Mod.of_same hs1)
    skip
    refine ⟨hS1, ?_⟩
    try simp only [Act.put, List.setIfInBounds_toArray, List.set_cons_zero, List.set_cons_succ]
    refine reg_one 6 rfl (by kernel_rfl) (by kernel_rfl) ?_
    go_simp
    refine ((Put16_any (.slice none 0 0) [] (sp : Nat) _ (Bs.nil _) (by simp))).mono ?_
    rintro e u2 ⟨v5, rfl, ho5, hs2⟩
    have hS2 := (hS1).trans (Mod.of_same hs2)
    skip
    refine ⟨hS2, ?_⟩
    try simp only [Act.put, List.setIfInBounds_toArray, List.set_cons_zero, List.set_cons_succ]
    refine reg_one 7 rfl (by kernel_rfl) (by kernel_rfl) ?_
    refine wp_copy_h _ _ _ _ (by rfl) Tryz.underlying25 w1.heap.size gb m cap b (HOb.out.same ((Same.refl w3).drew.trans (hs1.trans hs2))) at_ _ HM.out.symm (by rfl) _ (wdB (sp : Nat)) (by rfl) ho5.bs (by simp [wdB]) (by have := HAt.out; simp [wdB]; omega) ?_
    intro w6 ho6 hm6
    have hS6 := hS2.trans hm6
    refine ⟨hS6, ?_⟩
    try simp only [Act.put]
    refine reg_done (by kernel_rfl) ?_
    have HSw : Hid (Same w w6) := Below.trans (H0.out.trans HS3.out) (hS6.below (Nat.le_of_lt HGb.out) (H0.out.trans HS3.out).size)
    have HB6 := Lib.hid ho6.bs
    have HLl : Hid ((layB b at_ (wdB (sp : Nat))).length ≤ 140737488355328) := by
      have h1 := HAt.out
      have h2 := HLb.out
      show _ ≤ _
      rw [layB_length _ _ _ (by simp [wdB]; omega)]; omega
    obtain ⟨c0, c1, c2, c3, c4⟩ := HXm.out w6 hS6
    clear ho5 ho6 hm6 hs1 hs2 hS1 hS2 hS6 c
    go_wp2_with fail
    refine (HBd _ _ _ HB6.out HLl.out).out.mono ?_
    rintro e w7 ⟨v7, rfl, ho7, hs7⟩
    have HO7 := Lib.hid (ho7.mono HSw.out.size)
    have HS7 := Lib.hid (HSw.out.trans hs7)
    clear ho7 hs7
    go_wp2_with fail
    go_ret
    exact ⟨v7, rfl, by rw [HPk.out]; exact HO7.out, HS7.out⟩
  · rw [show decide (goodF f) = false from decide_eq_false hgd] at HG
    rw [if_neg hgd] at HPk
    clear hgd
    obtain ⟨q0, q1, q2, q3, q4⟩ := f
    have HW := Lib.hid hW
    clear hW
    have c := FlAt.of (heap_alloc_new w (flO 24 ⟨q0, q1, q2, q3, q4⟩))
    go_enter Tryz.func19, Tryz.ntmps19
    go_wp2_with fail
    refine (HG _).out.mono ?_
    rintro e w1 ⟨rfl, hs1⟩
    have HS1 : Hid (Same W0 w1) := by rw [HW.out]; exact hs1
    clear hs1
    go_wp2_with fail
    go_ret
    exact ⟨_, rfl, by rw [HPk.out]; exact OwnB.nil _ _, H0.out.trans HS1.out⟩
end Go.Proofs.YtcemdajkddidnaaGreatDoor
namespace Go.Proofs.YtcemdajkddidnaaGreatDoor
open Go.RowKit
set_option linter.unusedVariables false

/-- the packets of a flow -/
def udpL (f : Fl) (p : List UInt8) : List UInt8 := portsL (endsF f) ++ (wdB (8 + (p.length : Int)) ++ ([0, 0] ++ p))
def tcpL (f : Fl) (flags : Int) (p : List UInt8) : List UInt8 := portsL (endsF f) ++ ([0, 0, 0, 0, 0, 0, 0, 0] ++ ([80] ++ ([byteAt flags 0] ++ ([255, 255] ++ ([0, 0, 0, 0] ++ p)))))
def udpB (f : Fl) (p : List UInt8) : List UInt8 := packetB { f with proto := 17 } 6 (udpL f p)
def tcpB (f : Fl) (flags : Int) (p : List UInt8) : List UInt8 := packetB { f with proto := 6 } 16 (tcpL f flags p)

theorem make2 (w : World) : (Instr.makeSlice 25 (.int .i64 2) (.int .i64 2)).run Tryz.prog w = .ok (.slice (some ⟨w.heap.size, 0, none⟩) 2 2) (w.alloc (.cells #[.int .u8 0, .int .u8 0] 5)) := by
  obtain ⟨i0, hi, hz0, hz1, hz2⟩ := info_parts u8info
  have := run_makeSlice (P := Tryz.prog) w 25 5 i0 (.int .u8 0) Tryz.underlying25 hi hz0 .i64 .i64 2 2 (by omega) (by omega) (by rw [hz1]; decide) (by rw [hz2]; decide) (by omega)
  rw [hz1, show madeCells (Value.int .u8 0).cells (Int.toNat 2 * 1) = #[.int .u8 0, .int .u8 0] by kernel_rfl] at this
  exact this
theorem make4 (w : World) : (Instr.makeSlice 25 (.int .i64 4) (.int .i64 4)).run Tryz.prog w = .ok (.slice (some ⟨w.heap.size, 0, none⟩) 4 4) (w.alloc (.cells #[.int .u8 0, .int .u8 0, .int .u8 0, .int .u8 0] 5)) := by
  obtain ⟨i0, hi, hz0, hz1, hz2⟩ := info_parts u8info
  have := run_makeSlice (P := Tryz.prog) w 25 5 i0 (.int .u8 0) Tryz.underlying25 hi hz0 .i64 .i64 4 4 (by omega) (by omega) (by rw [hz1]; decide) (by rw [hz2]; decide) (by omega)
  rw [hz1, show madeCells (Value.int .u8 0).cells (Int.toNat 4 * 1) = #[.int .u8 0, .int .u8 0, .int .u8 0, .int .u8 0] by kernel_rfl] at this
  exact this
theorem make8 (w : World) : (Instr.makeSlice 25 (.int .i64 8) (.int .i64 8)).run Tryz.prog w = .ok (.slice (some ⟨w.heap.size, 0, none⟩) 8 8) (w.alloc (.cells #[.int .u8 0, .int .u8 0, .int .u8 0, .int .u8 0, .int .u8 0, .int .u8 0, .int .u8 0, .int .u8 0] 5)) := by
  obtain ⟨i0, hi, hz0, hz1, hz2⟩ := info_parts u8info
  have := run_makeSlice (P := Tryz.prog) w 25 5 i0 (.int .u8 0) Tryz.underlying25 hi hz0 .i64 .i64 8 8 (by omega) (by omega) (by rw [hz1]; decide) (by rw [hz2]; decide) (by omega)
  rw [hz1, show madeCells (Value.int .u8 0).cells (Int.toNat 8 * 1) = #[.int .u8 0, .int .u8 0, .int .u8 0, .int .u8 0, .int .u8 0, .int .u8 0, .int .u8 0, .int .u8 0] by kernel_rfl] at this
  exact this

set_option maxRecDepth 100000 in
set_option maxHeartbeats 1000000 in
theorem poUdp_any (f : Fl) (hr : (0 ≤ f.src ∧ f.src ≤ 4294967295) ∧ (0 ≤ f.dst ∧ f.dst ≤ 4294967295)) (v : Value) (p : List UInt8) (w : World) (hb : Bs w v p) (hl : (p.length : Int) ≤ 140737488354000) :
    Calls Tryz.prog 7 #[flV f, v] w fun e w' => ∃ v', e = .returned v' ∧ OwnB w' w.heap.size v' (udpB f p) ∧ Same w w' := by
  obtain ⟨q0, q1, q2, q3, q4⟩ := f
  have HB := Lib.hid hb
  obtain ⟨ao, cap, rfl, -, -, -, -⟩ := hb
  have HPk := fun g xs hn w hb hl hat hg => Lib.hid (poPacket_any ⟨17, q1, q2, q3, q4⟩ hr 6 g 4 xs hn (by omega) w hb hl hat (by omega) hg)
  have HPo := fun w => Lib.hid (poPorts_any ⟨17, q1, q2, q3, q4⟩ w)
  have HLP : Hid ((portsL (endsF ⟨17, q1, q2, q3, q4⟩)).length = 4) := portsL_length _
  have HEQ : Hid (udpB ⟨q0, q1, q2, q3, q4⟩ p = packetB ⟨17, q1, q2, q3, q4⟩ 6 (portsL (endsF ⟨17, q1, q2, q3, q4⟩) ++ (wdB (8 + (p.length : Int)) ++ ([0, 0] ++ (p ++ []))))) := by
    show _ = _
    simp [udpB, udpL, endsF]
  rw [HEQ.out]
  generalize portsL (endsF ⟨17, q1, q2, q3, q4⟩) = LP at *
  have HL := Lib.hid hl
  have HM := fun w => make2 w
  have H0 := Lib.hid (Same.alloc w (flO 24 ⟨17, q1, q2, q3, q4⟩))
  have HX := Lib.hid (fl_box 24 ⟨17, q1, q2, q3, q4⟩ w)
  go_enter Tryz.func7, Tryz.ntmps7
  go_wp2_with fail
  refine (Put16_any (.slice none 0 0) [] _ _ (Bs.nil _) (by simp)).mono ?_
  rintro e w2 ⟨v2, rfl, ho2, hs2⟩
  have HB2 : Hid (Bs w2 v2 (wdB (8 + (p.length : Int)))) := ho2.bs
  have HS2 := Lib.hid hs2
  obtain ⟨a2, n2, c2, rfl⟩ := ho2.slice
  clear ho2 hs2
  have hm := make2 w2
  have HB3 : Hid (Bs (w2.alloc (.cells #[.int .u8 0, .int .u8 0] 5)) (.slice (some ⟨w2.heap.size, 0, none⟩) 2 2) [0, 0]) := Bs.made w2 [0, 0] 5 (by simp)
  have HS3 := Lib.hid (Same.alloc w2 (.cells #[.int .u8 0, .int .u8 0] 5))
  go_wp2_with fail
  have HXa : Hid (∀ w', Same (w2.alloc (.cells #[.int .u8 0, .int .u8 0] 5)) w' → FlAt w' w.heap.size ⟨17, q1, q2, q3, q4⟩) := fun w' hw => HX.out w' (HS2.out.trans (HS3.out.trans hw))
  have HSw := Lib.hid (H0.out.trans (HS2.out.trans HS3.out))
  have HB2a := Lib.hid (HB2.out.same HS3.out)
  obtain ⟨g3, hg3⟩ : ∃ g3, w2.heap.size = g3 := ⟨_, rfl⟩
  simp only [hg3] at HB3 ⊢
  generalize (w2.alloc (.cells #[.int .u8 0, .int .u8 0] 5)) = W3 at *
  clear hm hg3 HS3 HX HB2
  refine reg_start (fun w' => Same W3 w') (by kernel_rfl) ?_
  refine reg_take (v := ?_) 0 (some 13) rfl rfl (by kernel_rfl) (fun _ _ _ h => h) (by kernel_rfl) ((Same.refl W3).drew) ?_ ?_
  rotate_left
  · (intro w' hw'; obtain ⟨c0, c1, c2, c3, c4⟩ := HXa.out w' hw'; go_simp; try with_reducible rfl)
  try simp only [Act.put, List.setIfInBounds_toArray, List.set_cons_zero, List.set_cons_succ]
  refine reg_take (v := ?_) 1 (some 14) rfl rfl (by kernel_rfl) (fun _ _ _ h => h) (by kernel_rfl) ((Same.refl W3).drew) ?_ ?_
  rotate_left
  · (intro w' hw'; obtain ⟨c0, c1, c2, c3, c4⟩ := HXa.out w' hw'; go_simp; try with_reducible rfl)
  try simp only [Act.put, List.setIfInBounds_toArray, List.set_cons_zero, List.set_cons_succ]
  refine reg_take (v := ?_) 3 (some 16) rfl rfl (by kernel_rfl) (fun _ _ _ h => h) (by kernel_rfl) ((Same.refl W3).drew) ?_ ?_
  rotate_left
  · (intro w' hw'; obtain ⟨c0, c1, c2, c3, c4⟩ := HXa.out w' hw'; go_simp; try with_reducible rfl)
  try simp only [Act.put, List.setIfInBounds_toArray, List.set_cons_zero, List.set_cons_succ]
  refine reg_take (v := ?_) 4 (some 17) rfl rfl (by kernel_rfl) (fun _ _ _ h => h) (by kernel_rfl) ((Same.refl W3).drew) ?_ ?_
  rotate_left
  · (intro w' hw'; obtain ⟨c0, c1, c2, c3, c4⟩ := HXa.out w' hw'; go_simp; try with_reducible rfl)
  try simp only [Act.put, List.setIfInBounds_toArray, List.set_cons_zero, List.set_cons_succ]
  refine reg_take (v := ?_) 5 (some 18) rfl rfl (by kernel_rfl) (fun _ _ _ h => h) (by kernel_rfl) ((Same.refl W3).drew) ?_ ?_
  rotate_left
  · (intro w' hw'; obtain ⟨c0, c1, c2, c3, c4⟩ := HXa.out w' hw'; go_simp; try with_reducible rfl)
  try simp only [Act.put, List.setIfInBounds_toArray, List.set_cons_zero, List.set_cons_succ]
  refine reg_one 2 rfl (by kernel_rfl) (by kernel_rfl) ?_
  go_simp
  refine ((HPo _).out).mono ?_
  rintro e u1 ⟨v4, rfl, ho4, hs1⟩
  have hS1 := ((Same.refl W3).drew).trans hs1
  have HB4 := Lib.hid ho4.bs
  obtain ⟨a4, n4, p4, rfl⟩ := ho4.slice
  clear ho4
  refine ⟨hS1, ?_⟩
  try simp only [Act.put, List.setIfInBounds_toArray, List.set_cons_zero, List.set_cons_succ]
  refine reg_one 6 rfl (by kernel_rfl) (by kernel_rfl) ?_
  go_simp
  have hS2 := hS1.trans (Same.alloc u1 (.cells #[.slice a4 n4 p4, .slice a2 n2 c2, .slice (some ⟨g3, 0, none⟩) 2 2, .slice ao p.length cap] 25))
  refine ⟨hS2, ?_⟩
  try simp only [Act.put, List.setIfInBounds_toArray, List.set_cons_zero, List.set_cons_succ]
  refine reg_one 7 rfl (by kernel_rfl) (by kernel_rfl) ?_
  go_simp
  refine ((HPk _ [(.slice a4 n4 p4, LP), (.slice a2 n2 c2, wdB (8 + (p.length : Int))), (.slice (some ⟨g3, 0, none⟩) 2 2, [0, 0]), (.slice ao p.length cap, p)] rfl _ (List.forall_mem_cons.2 ⟨HB4.out.same (Same.alloc _ _), List.forall_mem_cons.2 ⟨HB2a.out.same hS2, List.forall_mem_cons.2 ⟨HB3.out.same hS2, List.forall_mem_cons.2 ⟨HB.out.same (HSw.out.trans hS2), fun _ h => by cases h⟩⟩⟩⟩) (by have := HL.out; simp only [catL_cons, catL_nil, List.length_append, HLP.out, List.length_nil, List.length_cons, wdB]; omega) (by simp only [catL_cons, catL_nil, List.length_append, HLP.out, List.length_nil, List.length_cons, wdB]; omega) (heap_alloc_new _ _)).out).mono ?_
  rintro e u3 ⟨v5, rfl, ho5, hs3⟩
  have hS3 := (hS2).trans hs3
  have HO5 := Lib.hid ho5
  clear ho5
  refine ⟨hS3, ?_⟩
  try simp only [Act.put, List.setIfInBounds_toArray, List.set_cons_zero, List.set_cons_succ]
  refine reg_take (v := ?_) 8 (some 4) rfl rfl (by kernel_rfl) (fun _ _ _ h => h) (by kernel_rfl) (hS3) ?_ ?_
  rotate_left
  · (intro w' hw'; obtain ⟨c0, c1, c2, c3, c4⟩ := HXa.out w' hw'; go_simp; try with_reducible rfl)
  try simp only [Act.put, List.setIfInBounds_toArray, List.set_cons_zero, List.set_cons_succ]
  refine reg_done (by kernel_rfl) ?_
  go_wp2_with fail
  go_ret
  exact ⟨v5, rfl, HO5.out.mono (Nat.le_trans HSw.out.size hS2.size), HSw.out.trans hS3⟩

set_option maxRecDepth 100000 in
set_option maxHeartbeats 1000000 in
theorem poTcp_any (f : Fl) (hr : (0 ≤ f.src ∧ f.src ≤ 4294967295) ∧ (0 ≤ f.dst ∧ f.dst ≤ 4294967295)) (flags : Int) (v : Value) (p : List UInt8) (w : World) (hb : Bs w v p) (hl : (p.length : Int) ≤ 140737488354000) :
    Calls Tryz.prog 5 #[flV f, .int .i64 flags, v] w fun e w' => ∃ v', e = .returned v' ∧ OwnB w' w.heap.size v' (tcpB f flags p) ∧ Same w w' := by
  obtain ⟨q0, q1, q2, q3, q4⟩ := f
  have HB := Lib.hid hb
  obtain ⟨ao, cap, rfl, -, -, -, -⟩ := hb
  have HPk := fun g xs hn w hb hl hat hg => Lib.hid (poPacket_any ⟨6, q1, q2, q3, q4⟩ hr 16 g 7 xs hn (by omega) w hb hl hat (by omega) hg)
  have HPo := fun w => Lib.hid (poPorts_any ⟨6, q1, q2, q3, q4⟩ w)
  have HLP : Hid ((portsL (endsF ⟨6, q1, q2, q3, q4⟩)).length = 4) := portsL_length _
  have HEQ : Hid (tcpB ⟨q0, q1, q2, q3, q4⟩ flags p = packetB ⟨6, q1, q2, q3, q4⟩ 16 (portsL (endsF ⟨6, q1, q2, q3, q4⟩) ++ ([0, 0, 0, 0, 0, 0, 0, 0] ++ ([80] ++ ([byteAt flags 0] ++ ([255, 255] ++ ([0, 0, 0, 0] ++ (p ++ [])))))))) := by
    show _ = _
    simp [tcpB, tcpL, endsF]
  rw [HEQ.out]
  generalize portsL (endsF ⟨6, q1, q2, q3, q4⟩) = LP at *
  have HL := Lib.hid hl
  have H0 := Lib.hid (Same.alloc w (flO 24 ⟨6, q1, q2, q3, q4⟩))
  have HX := Lib.hid (fl_box 24 ⟨6, q1, q2, q3, q4⟩ w)
  have hm8 := make8 (w.alloc (flO 24 ⟨6, q1, q2, q3, q4⟩))
  go_enter Tryz.func5, Tryz.ntmps5
  go_wp2_with fail
  generalize hW0 : (w.alloc (flO 24 ⟨6, q1, q2, q3, q4⟩)) = W0 at *
  have HB1 : Hid (Bs (W0.alloc (.cells #[.int .u8 0, .int .u8 0, .int .u8 0, .int .u8 0, .int .u8 0, .int .u8 0, .int .u8 0, .int .u8 0] 5)) (.slice (some ⟨W0.heap.size, 0, none⟩) 8 8) [0, 0, 0, 0, 0, 0, 0, 0]) := Bs.made W0 [0, 0, 0, 0, 0, 0, 0, 0] 5 (by simp)
  have HS1 := Lib.hid (Same.alloc W0 (.cells #[.int .u8 0, .int .u8 0, .int .u8 0, .int .u8 0, .int .u8 0, .int .u8 0, .int .u8 0, .int .u8 0] 5))
  refine (Put8_any (.slice none 0 0) [] 80 _ (Bs.nil _) (by simp)).mono ?_
  rintro e w2 ⟨v2, rfl, ho2, hs2⟩
  have HB2 : Hid (Bs w2 v2 [80]) := ho2.bs
  have HS2 := Lib.hid (HS1.out.trans hs2)
  have HB1a := Lib.hid (HB1.out.same hs2)
  obtain ⟨a2, n2, c2, rfl⟩ := ho2.slice
  clear ho2 hs2 hm8 HB1 HS1
  have hm := make4 w2
  have HB3 : Hid (Bs (w2.alloc (.cells #[.int .u8 0, .int .u8 0, .int .u8 0, .int .u8 0] 5)) (.slice (some ⟨w2.heap.size, 0, none⟩) 4 4) [0, 0, 0, 0]) := Bs.made w2 [0, 0, 0, 0] 5 (by simp)
  have HS3 := Lib.hid (Same.alloc w2 (.cells #[.int .u8 0, .int .u8 0, .int .u8 0, .int .u8 0] 5))
  go_wp2_with fail
  have HXa : Hid (∀ w', Same (w2.alloc (.cells #[.int .u8 0, .int .u8 0, .int .u8 0, .int .u8 0] 5)) w' → FlAt w' w.heap.size ⟨6, q1, q2, q3, q4⟩) := fun w' hw => HX.out w' (HS2.out.trans (HS3.out.trans hw))
  have HSw := Lib.hid (H0.out.trans (HS2.out.trans HS3.out))
  have HB2a := Lib.hid (HB2.out.same HS3.out)
  have HB1b := Lib.hid (HB1a.out.same HS3.out)
  obtain ⟨g3, hg3⟩ : ∃ g3, w2.heap.size = g3 := ⟨_, rfl⟩
  have hg1 : W0.heap.size = w.heap.size + 1 := by rw [← hW0]; simp
  simp only [hg3] at HB3 ⊢
  rw [hg1] at HB1b
  generalize hg2 : w.heap.size + 1 = g1 at HB1b ⊢
  generalize (w2.alloc (.cells #[.int .u8 0, .int .u8 0, .int .u8 0, .int .u8 0] 5)) = W3 at *
  clear hm hg3 hg1 hg2 HS3 HX HB2 HB1a HS2
  refine reg_start (fun w' => Same W3 w') (by kernel_rfl) ?_
  refine reg_take (v := ?_) 0 (some 14) rfl rfl (by kernel_rfl) (fun _ _ _ h => h) (by kernel_rfl) ((Same.refl W3).drew) ?_ ?_
  rotate_left
  · (intro w' hw'; obtain ⟨c0, c1, c2, c3, c4⟩ := HXa.out w' hw'; go_simp; try with_reducible rfl)
  try simp only [Act.put, List.setIfInBounds_toArray, List.set_cons_zero, List.set_cons_succ]
  refine reg_take (v := ?_) 1 (some 15) rfl rfl (by kernel_rfl) (fun _ _ _ h => h) (by kernel_rfl) ((Same.refl W3).drew) ?_ ?_
  rotate_left
  · (intro w' hw'; obtain ⟨c0, c1, c2, c3, c4⟩ := HXa.out w' hw'; go_simp; try with_reducible rfl)
  try simp only [Act.put, List.setIfInBounds_toArray, List.set_cons_zero, List.set_cons_succ]
  refine reg_take (v := ?_) 3 (some 17) rfl rfl (by kernel_rfl) (fun _ _ _ h => h) (by kernel_rfl) ((Same.refl W3).drew) ?_ ?_
  rotate_left
  · (intro w' hw'; obtain ⟨c0, c1, c2, c3, c4⟩ := HXa.out w' hw'; go_simp; try with_reducible rfl)
  try simp only [Act.put, List.setIfInBounds_toArray, List.set_cons_zero, List.set_cons_succ]
  refine reg_take (v := ?_) 4 (some 18) rfl rfl (by kernel_rfl) (fun _ _ _ h => h) (by kernel_rfl) ((Same.refl W3).drew) ?_ ?_
  rotate_left
  · (intro w' hw'; obtain ⟨c0, c1, c2, c3, c4⟩ := HXa.out w' hw'; go_simp; try with_reducible rfl)
  try simp only [Act.put, List.setIfInBounds_toArray, List.set_cons_zero, List.set_cons_succ]
  refine reg_take (v := ?_) 5 (some 19) rfl rfl (by kernel_rfl) (fun _ _ _ h => h) (by kernel_rfl) ((Same.refl W3).drew) ?_ ?_
  rotate_left
  · (intro w' hw'; obtain ⟨c0, c1, c2, c3, c4⟩ := HXa.out w' hw'; go_simp; try with_reducible rfl)
  try simp only [Act.put, List.setIfInBounds_toArray, List.set_cons_zero, List.set_cons_succ]
  refine reg_take (v := ?_) 8 (some 22) rfl rfl (by kernel_rfl) (fun _ _ _ h => h) (by kernel_rfl) ((Same.refl W3).drew) ?_ ?_
  rotate_left
  · (intro w' hw'; obtain ⟨c0, c1, c2, c3, c4⟩ := HXa.out w' hw'; go_simp; try with_reducible rfl)
  try simp only [Act.put, List.setIfInBounds_toArray, List.set_cons_zero, List.set_cons_succ]
  refine reg_take (v := ?_) 9 (some 23) rfl rfl (by kernel_rfl) (fun _ _ _ h => h) (by kernel_rfl) ((Same.refl W3).drew) ?_ ?_
  rotate_left
  · (intro w' hw'; obtain ⟨c0, c1, c2, c3, c4⟩ := HXa.out w' hw'; go_simp; try with_reducible rfl)
  try simp only [Act.put, List.setIfInBounds_toArray, List.set_cons_zero, List.set_cons_succ]
  refine reg_one 2 rfl (by kernel_rfl) (by kernel_rfl) ?_
  go_simp
  refine ((HPo _).out).mono ?_
  rintro e u1 ⟨v4, rfl, ho4, hs1⟩
  have hS1 := ((Same.refl W3).drew).trans hs1
  have HB4 := Lib.hid ho4.bs
  obtain ⟨a4, n4, p4, rfl⟩ := ho4.slice
  clear ho4
  refine ⟨hS1, ?_⟩
  try simp only [Act.put, List.setIfInBounds_toArray, List.set_cons_zero, List.set_cons_succ]
  refine reg_one 6 rfl (by kernel_rfl) (by kernel_rfl) ?_
  go_simp
  refine ((Put8_any (.slice none 0 0) [] flags _ (Bs.nil _) (by simp))).mono ?_
  rintro e u2 ⟨v5, rfl, ho5, hs2⟩
  have hS2 := (hS1).trans hs2
  have HB5 : Hid (Bs u2 v5 [byteAt flags 0]) := ho5.bs
  obtain ⟨a5, n5, p5, rfl⟩ := ho5.slice
  clear ho5
  refine ⟨hS2, ?_⟩
  try simp only [Act.put, List.setIfInBounds_toArray, List.set_cons_zero, List.set_cons_succ]
  refine reg_one 7 rfl (by kernel_rfl) (by kernel_rfl) ?_
  go_simp
  refine ((Put16_any (.slice none 0 0) [] 65535 _ (Bs.nil _) (by simp))).mono ?_
  rintro e u3 ⟨v6, rfl, ho6, hs3⟩
  have hS3 := (hS2).trans hs3
  have HB6 : Hid (Bs u3 v6 [255, 255]) := ho6.bs
  obtain ⟨a6, n6, p6, rfl⟩ := ho6.slice
  clear ho6
  refine ⟨hS3, ?_⟩
  try simp only [Act.put, List.setIfInBounds_toArray, List.set_cons_zero, List.set_cons_succ]
  refine reg_one 10 rfl (by kernel_rfl) (by kernel_rfl) ?_
  go_simp
  have hS4 := hS3.trans (Same.alloc u3 (.cells #[.slice a4 n4 p4, .slice (some ⟨g1, 0, none⟩) 8 8, .slice a2 n2 c2, .slice a5 n5 p5, .slice a6 n6 p6, .slice (some ⟨g3, 0, none⟩) 4 4, .slice ao p.length cap] 25))
  refine ⟨hS4, ?_⟩
  try simp only [Act.put, List.setIfInBounds_toArray, List.set_cons_zero, List.set_cons_succ]
  refine reg_one 11 rfl (by kernel_rfl) (by kernel_rfl) ?_
  go_simp
  refine ((HPk _ [(.slice a4 n4 p4, LP), (.slice (some ⟨g1, 0, none⟩) 8 8, [0, 0, 0, 0, 0, 0, 0, 0]), (.slice a2 n2 c2, [80]), (.slice a5 n5 p5, [byteAt flags 0]), (.slice a6 n6 p6, [255, 255]), (.slice (some ⟨g3, 0, none⟩) 4 4, [0, 0, 0, 0]), (.slice ao p.length cap, p)] rfl _ (List.forall_mem_cons.2 ⟨HB4.out.same (hs2.trans (hs3.trans (Same.alloc _ _))), List.forall_mem_cons.2 ⟨HB1b.out.same hS4, List.forall_mem_cons.2 ⟨HB2a.out.same hS4, List.forall_mem_cons.2 ⟨HB5.out.same (hs3.trans (Same.alloc _ _)), List.forall_mem_cons.2 ⟨HB6.out.same (Same.alloc _ _), List.forall_mem_cons.2 ⟨HB3.out.same hS4, List.forall_mem_cons.2 ⟨HB.out.same (HSw.out.trans hS4), fun _ h => by cases h⟩⟩⟩⟩⟩⟩⟩) (by have := HL.out; simp only [catL_cons, catL_nil, List.length_append, HLP.out, List.length_nil, List.length_cons]; omega) (by simp only [catL_cons, catL_nil, List.length_append, HLP.out, List.length_nil, List.length_cons]; omega) (heap_alloc_new _ _)).out).mono ?_
  rintro e u5 ⟨v7, rfl, ho7, hs5⟩
  have hS5 := (hS4).trans hs5
  have HO5 := Lib.hid ho7
  clear ho7
  refine ⟨hS5, ?_⟩
  try simp only [Act.put, List.setIfInBounds_toArray, List.set_cons_zero, List.set_cons_succ]
  refine reg_take (v := ?_) 12 (some 6) rfl rfl (by kernel_rfl) (fun _ _ _ h => h) (by kernel_rfl) (hS5) ?_ ?_
  rotate_left
  · (intro w' hw'; obtain ⟨c0, c1, c2, c3, c4⟩ := HXa.out w' hw'; go_simp; try with_reducible rfl)
  try simp only [Act.put, List.setIfInBounds_toArray, List.set_cons_zero, List.set_cons_succ]
  refine reg_done (by kernel_rfl) ?_
  go_wp2_with fail
  go_ret
  exact ⟨v7, rfl, HO5.out.mono (Nat.le_trans HSw.out.size hS4.size), HSw.out.trans hS5⟩
end Go.Proofs.YtcemdajkddidnaaGreatDoor
namespace Go.Proofs.YtcemdajkddidnaaGreatDoor
open Go.RowKit
set_option linter.unusedVariables false

theorem udpQ (f : Fl) (p : List UInt8) (s : Int) : layB (udpL f p) 6 (wdB s) = [byteAt f.sport 1, byteAt f.sport 0, byteAt f.dport 1, byteAt f.dport 0, byteAt (8 + (p.length : Int)) 1, byteAt (8 + (p.length : Int)) 0, byteAt s 1, byteAt s 0] ++ p := by
  simp [layB, udpL, portsL, endsF, wdB]
theorem tcpQ (f : Fl) (flags : Int) (p : List UInt8) (s : Int) : layB (tcpL f flags p) 16 (wdB s) =
    [byteAt f.sport 1, byteAt f.sport 0, byteAt f.dport 1, byteAt f.dport 0, 0, 0, 0, 0, 0, 0, 0, 0, 80, byteAt flags 0, 255, 255, byteAt s 1, byteAt s 0, 0, 0] ++ p := by
  simp [layB, tcpL, portsL, endsF, wdB]

theorem headF_good (f : Fl) (h : goodF f) : goodH (headF f) := by
  obtain ⟨h1, _, _⟩ := h
  unfold goodH headF
  simp
  omega

theorem ports_udp (f : Fl) (h : portOk f.sport ∧ portOk f.dport) (p : List UInt8) (s : Int) (hl : 8 + p.length ≤ 65535) :
    pE 17 (layB (udpL f p) 6 (wdB s)) = 0 ∧ pS 17 (layB (udpL f p) 6 (wdB s)) = f.sport ∧ pD 17 (layB (udpL f p) 6 (wdB s)) = f.dport ∧ pG 17 (layB (udpL f p) 6 (wdB s)) = 0 := by
  rw [udpQ]
  obtain ⟨⟨h2, h3⟩, h4, h5⟩ := h
  have e0 : ∀ t : List UInt8, (fld ([byteAt f.sport 1, byteAt f.sport 0, byteAt f.dport 1, byteAt f.dport 0, byteAt (8 + (p.length : Int)) 1, byteAt (8 + (p.length : Int)) 0, byteAt s 1, byteAt s 0] ++ t) 0 2 : Int) = f.sport := by
    intro t
    simp only [fld, List.drop_zero, List.cons_append, List.nil_append, List.take_succ_cons, List.take_zero, numOf, List.foldl, byteAt_lt]
    omega
  have e2 : ∀ t : List UInt8, (fld ([byteAt f.sport 1, byteAt f.sport 0, byteAt f.dport 1, byteAt f.dport 0, byteAt (8 + (p.length : Int)) 1, byteAt (8 + (p.length : Int)) 0, byteAt s 1, byteAt s 0] ++ t) 2 2 : Int) = f.dport := by
    intro t
    simp only [fld, List.drop_zero, List.drop_succ_cons, List.cons_append, List.nil_append, List.take_succ_cons, List.take_zero, numOf, List.foldl, byteAt_lt]
    omega
  have e4 : ∀ t : List UInt8, fld ([byteAt f.sport 1, byteAt f.sport 0, byteAt f.dport 1, byteAt f.dport 0, byteAt (8 + (p.length : Int)) 1, byteAt (8 + (p.length : Int)) 0, byteAt s 1, byteAt s 0] ++ t) 4 2 = 8 + p.length := by
    intro t
    simp only [fld, List.drop_zero, List.drop_succ_cons, List.cons_append, List.nil_append, List.take_succ_cons, List.take_zero, numOf, List.foldl, byteAt_lt]
    omega
  have hE := pE_cases 17 ([byteAt f.sport 1, byteAt f.sport 0, byteAt f.dport 1, byteAt f.dport 0, byteAt (8 + (p.length : Int)) 1, byteAt (8 + (p.length : Int)) 0, byteAt s 1, byteAt s 0] ++ p)
  rw [e4 p] at hE
  have hlen : ([byteAt f.sport 1, byteAt f.sport 0, byteAt f.dport 1, byteAt f.dport 0, byteAt (8 + (p.length : Int)) 1, byteAt (8 + (p.length : Int)) 0, byteAt s 1, byteAt s 0] ++ p).length = 8 + p.length := by simp; omega
  rw [hlen] at hE
  have h0 : pE 17 ([byteAt f.sport 1, byteAt f.sport 0, byteAt f.dport 1, byteAt f.dport 0, byteAt (8 + (p.length : Int)) 1, byteAt (8 + (p.length : Int)) 0, byteAt s 1, byteAt s 0] ++ p) = 0 := by omega
  refine ⟨h0, ?_, ?_, ?_⟩
  · rw [pS, if_pos h0, e0]
  · rw [pD, if_pos h0, e2]
  · rw [pG, if_neg (by simp)]

theorem ports_tcp (f : Fl) (h : portOk f.sport ∧ portOk f.dport) (flags : Int) (p : List UInt8) (s : Int) :
    pE 6 (layB (tcpL f flags p) 16 (wdB s)) = 0 ∧ pS 6 (layB (tcpL f flags p) 16 (wdB s)) = f.sport ∧ pD 6 (layB (tcpL f flags p) 16 (wdB s)) = f.dport ∧ pG 6 (layB (tcpL f flags p) 16 (wdB s)) = flags % 256 := by
  rw [tcpQ]
  obtain ⟨⟨h2, h3⟩, h4, h5⟩ := h
  generalize hq : ([byteAt f.sport 1, byteAt f.sport 0, byteAt f.dport 1, byteAt f.dport 0, 0, 0, 0, 0, 0, 0, 0, 0, 80, byteAt flags 0, 255, 255, byteAt s 1, byteAt s 0, 0, 0] ++ p) = q
  have hlen : q.length = 20 + p.length := by rw [← hq]; simp; omega
  have e0 : (fld q 0 2 : Int) = f.sport := by
    rw [← hq]
    simp only [fld, List.drop_zero, List.cons_append, List.nil_append, List.take_succ_cons, List.take_zero, numOf, List.foldl, byteAt_lt]
    omega
  have e2 : (fld q 2 2 : Int) = f.dport := by
    rw [← hq]
    simp only [fld, List.drop_zero, List.drop_succ_cons, List.cons_append, List.nil_append, List.take_succ_cons, List.take_zero, numOf, List.foldl, byteAt_lt]
    omega
  have e12 : fld q 12 1 = 80 := by
    rw [← hq]
    simp only [fld, List.drop_zero, List.drop_succ_cons, List.cons_append, List.nil_append, List.take_succ_cons, List.take_zero, numOf, List.foldl]
    rfl
  have e13 : (fld q 13 1 : Int) = flags % 256 := by
    rw [← hq]
    simp only [fld, List.drop_zero, List.drop_succ_cons, List.cons_append, List.nil_append, List.take_succ_cons, List.take_zero, numOf, List.foldl, byteAt_lt]
    omega
  have hE := pE_cases 6 q
  rw [e12, hlen] at hE
  have h0 : pE 6 q = 0 := by omega
  refine ⟨h0, ?_, ?_, ?_⟩
  · rw [pS, if_pos h0, e0]
  · rw [pD, if_pos h0, e2]
  · rw [pG, if_pos ⟨h0, rfl⟩, e13]

/-- the packet, whatever its payload -/
theorem packet_parse (f : Fl) (hg : goodF f) (hr : (0 ≤ f.src ∧ f.src ≤ 4294967295) ∧ (0 ≤ f.dst ∧ f.dst ≤ 4294967295)) (at_ : Nat) (b : List UInt8) (hat : at_ + 2 ≤ b.length) (hl : 20 + b.length ≤ 9000) :
    (packetB f at_ b).length = 20 + b.length ∧ parseE (packetB f at_ b) = 0 ∧ parseH (packetB f at_ b) = headF f ∧ parseP (packetB f at_ b) = layB b at_ (wdB (sumP f b : Nat)) := by
  have hlay : (layB b at_ (wdB (sumP f b : Nat))).length = b.length := layB_length _ _ _ (by simpa [wdB] using hat)
  have hsz : sizeH (headF f) (layB b at_ (wdB (sumP f b : Nat))) ≤ 9000 := by unfold sizeH; rw [hlay]; simpa [headF] using hl
  have e : packetB f at_ b = buildB (headF f) (layB b at_ (wdB (sumP f b : Nat))) := if_pos hg
  have h := parse_build (headF f) (headF_good f hg) hr (layB b at_ (wdB (sumP f b : Nat))) [] hsz
  rw [List.append_nil] at h
  rw [e]
  refine ⟨?_, h⟩
  rw [buildB, if_pos ⟨headF_good f hg, hsz⟩, List.length_append, sealH_length, hlay]
  simp [headF]

theorem of_parts {l : List UInt8} {h : Hd} {q : List UInt8} (h2 : parseE l = 0) (h3 : parseH l = h) (h4 : parseP l = q) (hf : h.frag = 0) (hfl : h.flags = 0) (g1 : pE h.proto q = 0) :
    ofE l = 0 ∧ ofG l = ⟨⟨h.proto, h.src, h.dst, pS h.proto q, pD h.proto q⟩, pG h.proto q, q.length⟩ := by
  have e : ofE l = 0 := by
    unfold ofE
    rw [h3, h4, if_neg (by rw [h2]; simp), if_neg (by rw [hf, hfl]; decide), g1]
    rfl
  refine ⟨e, ?_⟩
  rw [ofG, if_pos e, flowOf, h3, h4]

theorem of_udp (f : Fl) (hg : portOk f.sport ∧ portOk f.dport) (hr : (0 ≤ f.src ∧ f.src ≤ 4294967295) ∧ (0 ≤ f.dst ∧ f.dst ≤ 4294967295)) (p : List UInt8) (hl : 28 + p.length ≤ 9000) :
    (udpB f p).length = 28 + p.length ∧ ofE (udpB f p) = 0 ∧ ofG (udpB f p) = ⟨{ f with proto := 17 }, 0, 8 + (p.length : Int)⟩ := by
  have hul : (udpL f p).length = 8 + p.length := by simp [udpL, portsL_length, endsF, wdB]; omega
  obtain ⟨h1, h2, h3, h4⟩ := packet_parse { f with proto := 17 } ⟨.inr rfl, hg⟩ hr 6 (udpL f p) (by omega) (by omega)
  obtain ⟨g1, g2, g3, g4⟩ := ports_udp f hg p (sumP { f with proto := 17 } (udpL f p) : Nat) (by omega)
  obtain ⟨k1, k2⟩ := of_parts h2 h3 h4 rfl rfl g1
  refine ⟨by unfold udpB; rw [h1, hul]; omega, k1, ?_⟩
  have e : ofG (udpB f p) = _ := k2
  rw [e]
  have hq : (layB (udpL f p) 6 (wdB (sumP { f with proto := 17 } (udpL f p) : Nat))).length = 8 + p.length := by rw [layB_length _ _ _ (by simp [wdB]; omega), hul]
  show (⟨⟨17, f.src, f.dst, pS 17 _, pD 17 _⟩, pG 17 _, _⟩ : Sg) = _
  rw [g2, g3, g4, hq]
  simp

theorem of_tcp (f : Fl) (hg : portOk f.sport ∧ portOk f.dport) (hr : (0 ≤ f.src ∧ f.src ≤ 4294967295) ∧ (0 ≤ f.dst ∧ f.dst ≤ 4294967295)) (flags : Int) (p : List UInt8) (hl : 40 + p.length ≤ 9000) :
    (tcpB f flags p).length = 40 + p.length ∧ ofE (tcpB f flags p) = 0 ∧ ofG (tcpB f flags p) = ⟨{ f with proto := 6 }, flags % 256, 20 + (p.length : Int)⟩ := by
  have hul : (tcpL f flags p).length = 20 + p.length := by simp [tcpL, portsL_length, endsF]; omega
  obtain ⟨h1, h2, h3, h4⟩ := packet_parse { f with proto := 6 } ⟨.inl rfl, hg⟩ hr 16 (tcpL f flags p) (by omega) (by omega)
  obtain ⟨g1, g2, g3, g4⟩ := ports_tcp f hg flags p (sumP { f with proto := 6 } (tcpL f flags p) : Nat)
  obtain ⟨k1, k2⟩ := of_parts h2 h3 h4 rfl rfl g1
  refine ⟨by unfold tcpB; rw [h1, hul]; omega, k1, ?_⟩
  have e : ofG (tcpB f flags p) = _ := k2
  rw [e]
  have hq : (layB (tcpL f flags p) 16 (wdB (sumP { f with proto := 6 } (tcpL f flags p) : Nat))).length = 20 + p.length := by rw [layB_length _ _ _ (by simp [wdB]; omega), hul]
  show (⟨⟨6, f.src, f.dst, pS 6 _, pD 6 _⟩, pG 6 _, _⟩ : Sg) = _
  rw [g2, g3, g4, hq]
  simp
end Go.Proofs.YtcemdajkddidnaaGreatDoor
