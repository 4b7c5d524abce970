/- The developers' layer 5: a packet made of its parts. No condition beyond what each names. -/
import Derived.Test.YteoleblnhcnpkaaPoS
namespace Go.Proofs.Yteoleblnhcnpkaa
open Go.RowKit
set_option linter.unusedVariables false

/-- the head of a packet of a flow -/
def headF (f : Fl) : Hd := ⟨0, 0, 0, 0, 64, f.proto, f.src, f.dst, []⟩
/-- a packet of a flow, with its sum at a place -/
def packetB (f : Fl) (at_ : Nat) (b : List UInt8) : List UInt8 := if goodF f then buildB (headF f) (layB b at_ (wdB (sumP f b : Nat))) else []

theorem FlAt.mod {s : Nat} {w w' : World} {B : Nat} {f : Fl} (hs : Mod s w w') (hB : B ≠ s) (hk : FlAt w B f) : FlAt w' B f := by
  obtain ⟨k0, k1, k2, k3, k4⟩ := hk
  have g : ∀ {j v}, w.cell? ⟨B, j, none⟩ = some v → w'.cell? ⟨B, j, none⟩ = some v := fun {j v} hc => by
    rw [World.cell?_of_block (w := w) (hs.block _ (World.block_lt_of_cell? w _ hc) hB)]; exact hc
  exact ⟨g k0, g k1, g k2, g k3, g k4⟩

set_option maxRecDepth 100000 in
set_option maxHeartbeats 1000000 in
theorem poPacket_any (f : Fl) (hr : (0 ≤ f.src ∧ f.src ≤ 4294967295) ∧ (0 ≤ f.dst ∧ f.dst ≤ 4294967295)) (at_ g n : Nat) (xs : List (Value × List UInt8)) (hn : xs.length = n) (hn2 : n ≤ 100) (w : World) (hb : ∀ x, x ∈ xs → Bs w x.1 x.2)
    (hl : ((catL xs).length : Int) ≤ 140737488355000) (hat : at_ + 2 ≤ (catL xs).length) (ha0 : at_ ≠ 0) (hg : w.heap[g]? = some (.cells (xs.map (·.1)).toArray 22 (0, 0))) :
    Calls Try.prog 31 #[flV f, .int .i64 at_, .slice (some ⟨g, 0, none⟩) n n] w fun e w' => ∃ v, e = .returned v ∧ OwnB w' w.heap.size v (packetB f at_ (catL xs)) ∧ Same w w' := by
  have HG := fun w => Lib.hid (poGood_any f w)
  obtain ⟨W0, hW⟩ : ∃ W0, W0 = w.alloc (flO 44 f) := ⟨_, rfl⟩
  have HX : Hid (∀ w', Same W0 w' → FlAt w' w.heap.size f) := by rw [hW]; exact fl_box 44 f w
  have H0 : Hid (Same w W0) := by rw [hW]; exact Same.alloc w _
  have HSz : Hid (w.heap.size < W0.heap.size) := by rw [hW]; show _ < _; simp
  have HC := fun w' (hs : Same w w') => Lib.hid (cat_any n g xs hn w' (fun x hx => (hb x hx).same hs) (by omega) (by omega) (hs.block hg))
  have HSm := fun v w hb => Lib.hid (poSum_any f hr v (catL xs) w hb hl)
  have HBd := fun p vp w hp hpl => Lib.hid (ipBuild_any (headF f) hr p (.slice none 0 0) vp w (Bs.nil w) hp (by simp [headF]) hpl)
  have HLb := Lib.hid hl
  have HAt := Lib.hid hat
  have HPk : Hid (packetB f at_ (catL xs) = if goodF f then buildB (headF f) (layB (catL xs) at_ (wdB (sumP f (catL xs) : Nat))) else []) := rfl
  generalize packetB f at_ (catL xs) = PK at *
  generalize catL xs = b at *
  generalize sumP f b = sp at *
  clear hb hg hn hl hr hat
  by_cases hgd : goodF f
  · rw [show decide (goodF f) = true from decide_eq_true hgd] at HG
    rw [if_pos hgd] at HPk
    clear hgd
    obtain ⟨q0, q1, q2, q3, q4⟩ := f
    have HW := Lib.hid hW
    clear hW
    go_enter Try.func31, Try.ntmps31
    go_wp2_with fail
    have c := FlAt.of (heap_alloc_new w (flO 44 ⟨q0, q1, q2, q3, q4⟩))
    refine (HG _).out.mono ?_
    rintro e w1 ⟨rfl, hs1⟩
    have HS1 : Hid (Same W0 w1) := by rw [HW.out]; exact hs1
    clear hs1
    go_wp2_with fail
    refine (HC _ (H0.out.trans HS1.out)).out.mono ?_
    rintro e w3 ⟨v3, rfl, ho3, hs3⟩
    have HS3 := Lib.hid (HS1.out.trans hs3)
    obtain ⟨gb, cap, rfl, hcap, hgb⟩ := OwnB.forms ho3 (by have := HAt.out; omega)
    have HGb : Hid (w.heap.size < gb) := by have := HSz.out; have := HS1.out.size; show _ < _; omega
    have HOb := Lib.hid ho3
    have hat := HAt.out
    have k1 : (at_ : Int) ≤ b.length := by omega
    have k2 : ¬ (cap = at_) := by omega
    have k3 : (at_ : Int) ≤ cap := by omega
    have k4 : (b.length : Int) ≤ cap := by omega
    obtain ⟨m, hm⟩ : ∃ m, b.length = m := ⟨_, rfl⟩
    have HM := Lib.hid hm
    have HXm : Hid (∀ w', Mod gb w3 w' → FlAt w' w.heap.size ⟨q0, q1, q2, q3, q4⟩) := fun w' hw => (HX.out w3 HS3.out).mod hw (Nat.ne_of_lt HGb.out)
    rw [hm] at HOb k1 k4
    simp only [hm]
    clear hat hcap hgb ho3 hs3 hm
    go_wp2_with fail
    refine reg_start (fun w' => Mod gb w3 w') (by kernel_rfl) ?_
    refine reg_take (v := ?_) 0 (some 13) rfl rfl (by kernel_rfl) (fun _ _ _ h => h) (by kernel_rfl) (Mod.of_same (s := gb) (Same.refl w3).drew) ?_ ?_
    rotate_left
    · (intro w' hw'; obtain ⟨c0, c1, c2, c3, c4⟩ := HXm.out w' hw'; go_simp; try with_reducible rfl)
    try simp only [Act.put, List.setIfInBounds_toArray, List.set_cons_zero, List.set_cons_succ]
    refine reg_take (v := ?_) 1 (some 14) rfl rfl (by kernel_rfl) (fun _ _ _ h => h) (by kernel_rfl) (Mod.of_same (s := gb) (Same.refl w3).drew) ?_ ?_
    rotate_left
    · (intro w' hw'; obtain ⟨c0, c1, c2, c3, c4⟩ := HXm.out w' hw'; go_simp; try with_reducible rfl)
    try simp only [Act.put, List.setIfInBounds_toArray, List.set_cons_zero, List.set_cons_succ]
    refine reg_take (v := ?_) 2 (some 15) rfl rfl (by kernel_rfl) (fun _ _ _ h => h) (by kernel_rfl) (Mod.of_same (s := gb) (Same.refl w3).drew) ?_ ?_
    rotate_left
    · (intro w' hw'; obtain ⟨c0, c1, c2, c3, c4⟩ := HXm.out w' hw'; go_simp; try with_reducible rfl)
    try simp only [Act.put, List.setIfInBounds_toArray, List.set_cons_zero, List.set_cons_succ]
    refine reg_take (v := ?_) 3 (some 16) rfl rfl (by kernel_rfl) (fun _ _ _ h => h) (by kernel_rfl) (Mod.of_same (s := gb) (Same.refl w3).drew) ?_ ?_
    rotate_left
    · (intro w' hw'; obtain ⟨c0, c1, c2, c3, c4⟩ := HXm.out w' hw'; go_simp; try with_reducible rfl)
    try simp only [Act.put, List.setIfInBounds_toArray, List.set_cons_zero, List.set_cons_succ]
    refine reg_take (v := ?_) 4 (some 17) rfl rfl (by kernel_rfl) (fun _ _ _ h => h) (by kernel_rfl) (Mod.of_same (s := gb) (Same.refl w3).drew) ?_ ?_
    rotate_left
    · (intro w' hw'; obtain ⟨c0, c1, c2, c3, c4⟩ := HXm.out w' hw'; go_simp; try with_reducible rfl)
    try simp only [Act.put, List.setIfInBounds_toArray, List.set_cons_zero, List.set_cons_succ]
    refine reg_one 5 rfl (by kernel_rfl) (by kernel_rfl) ?_
    go_simp
    refine ((HSm _ _ (HOb.out.bs.same (Same.refl w3).drew)).out).mono ?_
    rintro e u1 ⟨rfl, hs1⟩
    have hS1 := (Mod.of_same (s := gb) (Same.refl w3).drew).trans (Mod.of_same hs1)
    skip
    refine ⟨hS1, ?_⟩
    try simp only [Act.put, List.setIfInBounds_toArray, List.set_cons_zero, List.set_cons_succ]
    refine reg_one 6 rfl (by kernel_rfl) (by kernel_rfl) ?_
    go_simp
    refine ((Put16_any (.slice none 0 0) [] (sp : Nat) _ (Bs.nil _) (by simp))).mono ?_
    rintro e u2 ⟨v5, rfl, ho5, hs2⟩
    have hS2 := (hS1).trans (Mod.of_same hs2)
    skip
    refine ⟨hS2, ?_⟩
    try simp only [Act.put, List.setIfInBounds_toArray, List.set_cons_zero, List.set_cons_succ]
    refine reg_one 7 rfl (by kernel_rfl) (by kernel_rfl) ?_
    refine wp_copy_h _ _ _ _ (by rfl) Try.underlying22 w1.heap.size gb m cap b (HOb.out.same ((Same.refl w3).drew.trans (hs1.trans hs2))) at_ _ HM.out.symm (by rfl) _ (wdB (sp : Nat)) (by rfl) ho5.bs (by simp [wdB]) (by have := HAt.out; simp [wdB]; omega) ?_
    intro w6 ho6 hm6
    have hS6 := hS2.trans hm6
    refine ⟨hS6, ?_⟩
    try simp only [Act.put]
    refine reg_done (by kernel_rfl) ?_
    have HSw : Hid (Same w w6) := Below.trans (H0.out.trans HS3.out) (hS6.below (Nat.le_of_lt HGb.out) (H0.out.trans HS3.out).size)
    have HB6 := Lib.hid ho6.bs
    have HLl : Hid ((layB b at_ (wdB (sp : Nat))).length ≤ 140737488355328) := by
      have h1 := HAt.out
      have h2 := HLb.out
      show _ ≤ _
      rw [layB_length _ _ _ (by simp [wdB]; omega)]; omega
    obtain ⟨c0, c1, c2, c3, c4⟩ := HXm.out w6 hS6
    clear ho5 ho6 hm6 hs1 hs2 hS1 hS2 hS6 c
    go_wp2_with fail
    refine (HBd _ _ _ HB6.out HLl.out).out.mono ?_
    rintro e w7 ⟨v7, rfl, ho7, hs7⟩
    have HO7 := Lib.hid (ho7.mono HSw.out.size)
    have HS7 := Lib.hid (HSw.out.trans hs7)
    clear ho7 hs7
    go_wp2_with fail
    go_ret
    exact ⟨v7, rfl, by rw [HPk.out]; exact HO7.out, HS7.out⟩
  · rw [show decide (goodF f) = false from decide_eq_false hgd] at HG
    rw [if_neg hgd] at HPk
    clear hgd
    obtain ⟨q0, q1, q2, q3, q4⟩ := f
    have HW := Lib.hid hW
    clear hW
    have c := FlAt.of (heap_alloc_new w (flO 44 ⟨q0, q1, q2, q3, q4⟩))
    go_enter Try.func31, Try.ntmps31
    go_wp2_with fail
    refine (HG _).out.mono ?_
    rintro e w1 ⟨rfl, hs1⟩
    have HS1 : Hid (Same W0 w1) := by rw [HW.out]; exact hs1
    clear hs1
    go_wp2_with fail
    go_ret
    exact ⟨_, rfl, by rw [HPk.out]; exact OwnB.nil _ _, H0.out.trans HS1.out⟩
end Go.Proofs.Yteoleblnhcnpkaa
