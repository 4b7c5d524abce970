/- The document's Same over two rows that hold the same. No condition beyond what it names. -/
import Derived.Test.YtldiagjnpkpepaaMemP
import Derived.Test.YtldiagjnpkpepaaPfxF
import Derived.Test.YtldiagjnpkpepaaReg
import Derived.LoopTactic
namespace Go.Proofs.Ytldiagjnpkpepaa
open Go.RowKit
set_option linter.unusedVariables false
set_option maxRecDepth 100000
attribute [local go_sem ↓] neq_pfx_same

theorem rSame_any (v v' : Value) (ps : List (Int × Int)) (w : World) (hp : Ps w v ps) (hq : Ps w v' ps) (hl : ps.length ≤ 1000000) :
    Calls Try.prog 9 #[v, v'] w fun e w' => e = .returned (.bool true) ∧ Same w w' := by
  have HP := Lib.hid hp
  have HQ := Lib.hid hq
  obtain ⟨ao, cap, rfl, b1, b2, b3, b4⟩ := hp
  obtain ⟨ao', cap', rfl, d1, d2, d3, d4⟩ := hq
  clear b4 d4
  have hb : (ps.length : Int) ≤ 1000000 := by omega
  go_enter Try.func9, Try.ntmps9
  go_wp2_with fail
  go_loopw [13] (fun i wr => ∃ k : Nat, k ≤ ps.length ∧ i = .int .i64 k ∧ Same w wr) (fun i _ => ps.length - (intOf i).toNat)
  case atStart => exact ⟨0, Nat.zero_le _, rfl, Same.refl _⟩
  case round =>
    obtain ⟨k, hk, rfl, hs⟩ := hrel
    have HS := Lib.hid hs
    clear hs
    by_cases hlt : k < ps.length
    · obtain ⟨ab, o, sp, rfl⟩ : ∃ ab o sp, ao = some ⟨ab, o, sp⟩ := by
        cases ao with
        | none => have := b3 rfl; omega
        | some ad => exact ⟨ad.block, ad.off, ad.spot, rfl⟩
      obtain ⟨ab', o', sp', rfl⟩ : ∃ ab o sp, ao' = some ⟨ab, o, sp⟩ := by
        cases ao' with
        | none => have := d3 rfl; omega
        | some ad => exact ⟨ad.block, ad.off, ad.spot, rfl⟩
      have HC : Hid (∀ u, Same wr u → (u.cell? ⟨ab, o + k * 2, none⟩ = some (.int .u32 ps[k].1) ∧ u.cell? ⟨ab, o + k * 2 + 1, none⟩ = some (.int .i64 ps[k].2)) ∧ (u.cell? ⟨ab', o' + k * 2, none⟩ = some (.int .u32 ps[k].1) ∧ u.cell? ⟨ab', o' + k * 2 + 1, none⟩ = some (.int .i64 ps[k].2))) := fun u hu => by
        obtain ⟨rfl, -, c0, c1⟩ := (HP.out.same (HS.out.trans hu)).at k hlt
        obtain ⟨rfl, -, e0, e1⟩ := (HQ.out.same (HS.out.trans hu)).at k hlt
        exact ⟨⟨c0, c1⟩, ⟨e0, e1⟩⟩
      obtain ⟨rfl, -, -, -⟩ := (HP.out.same HS.out).at k hlt
      obtain ⟨rfl, -, -, -⟩ := (HQ.out.same HS.out).at k hlt
      have hlt' : (k : Int) < ps.length := by omega
      have hii : (0 : Int) ≤ (k : Int) ∧ (k : Int) < (ps.length : Int) := by omega
      generalize ps[k].1 = x at *
      generalize ps[k].2 = y at *
      go_wp2_with fail
      refine reg_start (fun w' => Same wr w') (by kernel_rfl) ?_
      refine reg_take (v := ?_) 0 (some 16) rfl rfl (by kernel_rfl) (fun _ _ _ h => h) (by kernel_rfl) ((Same.refl wr).drew) ?_ ?_
      rotate_left
      · (intro w' hw'; obtain ⟨⟨c0, c1⟩, ⟨e0, e1⟩⟩ := HC.out w' hw'; go_simp; try with_reducible rfl)
      try simp only [Act.put, List.setIfInBounds_toArray, List.set_cons_zero, List.set_cons_succ]
      refine reg_take (v := ?_) 1 (some 17) rfl rfl (by kernel_rfl) (fun _ _ _ h => h) (by kernel_rfl) ((Same.refl wr).drew) ?_ ?_
      rotate_left
      · (intro w' hw'; obtain ⟨⟨c0, c1⟩, ⟨e0, e1⟩⟩ := HC.out w' hw'; go_simp; try with_reducible rfl)
      try simp only [Act.put, List.setIfInBounds_toArray, List.set_cons_zero, List.set_cons_succ]
      refine reg_take (v := ?_) 2 (some 18) rfl rfl (by kernel_rfl) (fun _ _ _ h => h) (by kernel_rfl) ((Same.refl wr).drew) ?_ ?_
      rotate_left
      · (intro w' hw'; obtain ⟨⟨c0, c1⟩, ⟨e0, e1⟩⟩ := HC.out w' hw'; go_simp; try with_reducible rfl)
      try simp only [Act.put, List.setIfInBounds_toArray, List.set_cons_zero, List.set_cons_succ]
      refine reg_take (v := ?_) 3 (some 19) rfl rfl (by kernel_rfl) (fun _ _ _ h => h) (by kernel_rfl) ((Same.refl wr).drew) ?_ ?_
      rotate_left
      · (intro w' hw'; obtain ⟨⟨c0, c1⟩, ⟨e0, e1⟩⟩ := HC.out w' hw'; go_simp; try with_reducible rfl)
      try simp only [Act.put, List.setIfInBounds_toArray, List.set_cons_zero, List.set_cons_succ]
      refine reg_take (v := ?_) 4 (some 20) rfl rfl (by kernel_rfl) (fun _ _ _ h => h) (by kernel_rfl) ((Same.refl wr).drew) ?_ ?_
      rotate_left
      · (intro w' hw'; obtain ⟨⟨c0, c1⟩, ⟨e0, e1⟩⟩ := HC.out w' hw'; go_simp; try with_reducible rfl)
      try simp only [Act.put, List.setIfInBounds_toArray, List.set_cons_zero, List.set_cons_succ]
      refine reg_take (v := ?_) 5 (some 21) rfl rfl (by kernel_rfl) (fun _ _ _ h => h) (by kernel_rfl) ((Same.refl wr).drew) ?_ ?_
      rotate_left
      · (intro w' hw'; obtain ⟨⟨c0, c1⟩, ⟨e0, e1⟩⟩ := HC.out w' hw'; go_simp; try with_reducible rfl)
      try simp only [Act.put, List.setIfInBounds_toArray, List.set_cons_zero, List.set_cons_succ]
      refine reg_take (v := ?_) 6 (some 22) rfl rfl (by kernel_rfl) (fun _ _ _ h => h) (by kernel_rfl) ((Same.refl wr).drew) ?_ ?_
      rotate_left
      · (intro w' hw'; obtain ⟨⟨c0, c1⟩, ⟨e0, e1⟩⟩ := HC.out w' hw'; go_simp; try with_reducible rfl)
      try simp only [Act.put, List.setIfInBounds_toArray, List.set_cons_zero, List.set_cons_succ]
      refine reg_take (v := ?_) 7 (some 23) rfl rfl (by kernel_rfl) (fun _ _ _ h => h) (by kernel_rfl) ((Same.refl wr).drew) ?_ ?_
      rotate_left
      · (intro w' hw'; obtain ⟨⟨c0, c1⟩, ⟨e0, e1⟩⟩ := HC.out w' hw'; go_simp; try with_reducible rfl)
      try simp only [Act.put, List.setIfInBounds_toArray, List.set_cons_zero, List.set_cons_succ]
      refine reg_take (v := ?_) 8 (some 24) rfl rfl (by kernel_rfl) (fun _ _ _ h => h) (by kernel_rfl) ((Same.refl wr).drew) ?_ ?_
      rotate_left
      · (intro w' hw'; obtain ⟨⟨c0, c1⟩, ⟨e0, e1⟩⟩ := HC.out w' hw'; go_simp; try with_reducible rfl)
      try simp only [Act.put, List.setIfInBounds_toArray, List.set_cons_zero, List.set_cons_succ]
      refine reg_done (by kernel_rfl) ?_
      go_wp2_with fail
      exact ⟨⟨k + 1, by omega, by go_num, HS.out.trans (Same.refl wr).drew⟩, by simp [intOf]; omega⟩
    · have hlt' : ¬ (k : Int) < ps.length := by omega
      go_wp2_with fail
      go_ret
      exact ⟨rfl, HS.out⟩
end Go.Proofs.Ytldiagjnpkpepaa
