/- The closure that Sort gives to sort.Slice: what sliceM asks of it. No condition beyond what it names. -/
import Derived.Test.YtldiagjnpkpepaaPfxK
import Derived.Test.YtldiagjnpkpepaaSoB
import Derived.Test.YtldiagjnpkpepaaReg
namespace Go.Proofs.Ytldiagjnpkpepaa
open Go.RowKit Go.Sort
set_option linter.unusedVariables false
set_option maxRecDepth 100000

/-- a prefix: its two cells -/
def encP (p : Int × Int) : List Value := [.int .u32 p.1, .int .i64 p.2]
/-- the order -/
def ltP (p q : Int × Int) : Bool := decide (cmpP p.1 p.2 q.1 q.2 < 0)
theorem ltP_iff (p q : Int × Int) : ltP p q = true ↔ (p.1 < q.1 ∨ p.1 = q.1 ∧ p.2 < q.2) := by
  unfold ltP cmpP cmpI
  rw [decide_eq_true_iff]
  split <;> split <;> (try split) <;> (try split) <;> omega
theorem swo_ltP : SWO ltP where
  irrefl := fun x => by rw [Bool.eq_false_iff, ne_eq, ltP_iff]; omega
  trans := fun x y z h1 h2 => by rw [ltP_iff] at *; omega
  ntrans := fun x y z h1 h2 => by rw [Bool.eq_false_iff, ne_eq, ltP_iff] at *; omega

theorem less_any (blk off c Bs size : Nat) (W : World) (dk : Array (Int × Int)) (hs : W.cell? ⟨Bs, 0, none⟩ = some (.slice (some ⟨blk, off, none⟩) size c)) (hB : Bs < W.heap.size) (hb : blk < W.heap.size)
    (hH : HoldsK encP 2 W blk off dk) (hd : dk.size = size) (i j : Nat) (hi : i < size) (hj : j < size) :
    Calls Try.prog 32 #[.int .i64 i, .int .i64 j, .pointer (some ⟨Bs, 0, none⟩)] W fun e w' => e = .returned (.bool (ltP dk[i]! dk[j]!)) ∧ Same W w' := by
  have HC : Hid (∀ w', Same W w' → w'.cell? ⟨Bs, 0, none⟩ = some (.slice (some ⟨blk, off, none⟩) size c) ∧
      (w'.cell? ⟨blk, off + i * 2, none⟩ = some (.int .u32 dk[i]!.1) ∧ w'.cell? ⟨blk, off + i * 2 + 1, none⟩ = some (.int .i64 dk[i]!.2)) ∧
      (w'.cell? ⟨blk, off + j * 2, none⟩ = some (.int .u32 dk[j]!.1) ∧ w'.cell? ⟨blk, off + j * 2 + 1, none⟩ = some (.int .i64 dk[j]!.2))) := fun w' h => by
    have a0 := (hH.cell (i := i) (c := 0) (by omega) (by omega)).1
    have a1 := (hH.cell (i := i) (c := 1) (by omega) (by omega)).1
    have b0 := (hH.cell (i := j) (c := 0) (by omega) (by omega)).1
    have b1 := (hH.cell (i := j) (c := 1) (by omega) (by omega)).1
    rw [More.cell h ⟨Bs, 0, none⟩ hB, More.cell h ⟨blk, off + i * 2, none⟩ hb, More.cell h ⟨blk, off + i * 2 + 1, none⟩ hb, More.cell h ⟨blk, off + j * 2, none⟩ hb, More.cell h ⟨blk, off + j * 2 + 1, none⟩ hb]
    exact ⟨hs, ⟨by simpa [encP] using a0, by simpa [encP] using a1⟩, ⟨by simpa [encP] using b0, by simpa [encP] using b1⟩⟩
  clear hs hH
  unfold ltP
  generalize dk[i]! = p at *
  generalize dk[j]! = q at *
  obtain ⟨a, n⟩ := p
  obtain ⟨b, m⟩ := q
  have HK := fun w => Lib.hid (Cmp_any a n b m w)
  generalize cmpP a n b m = z at *
  go_enter Try.func32, Try.ntmps32
  go_wp2_with fail
  have hii : (0 : Int) ≤ (i : Int) ∧ (i : Int) < (size : Int) := by omega
  have hjj : (0 : Int) ≤ (j : Int) ∧ (j : Int) < (size : Int) := by omega
  refine reg_start (fun w' => Same W w') (by kernel_rfl) ?_
  refine reg_take (v := ?_) 0 (some 6) rfl rfl (by kernel_rfl) (fun _ _ _ h => h) (by kernel_rfl) ((Same.refl W).drew) ?_ ?_
  rotate_left
  · (intro w' hw'; obtain ⟨k0, ⟨a0, a1⟩, ⟨b0, b1⟩⟩ := HC.out w' hw'; go_simp; try with_reducible rfl)
  try simp only [Act.put, List.setIfInBounds_toArray, List.set_cons_zero, List.set_cons_succ]
  refine reg_take (v := ?_) 1 (some 7) rfl rfl (by kernel_rfl) (fun _ _ _ h => h) (by kernel_rfl) ((Same.refl W).drew) ?_ ?_
  rotate_left
  · (intro w' hw'; obtain ⟨k0, ⟨a0, a1⟩, ⟨b0, b1⟩⟩ := HC.out w' hw'; go_simp; try with_reducible rfl)
  try simp only [Act.put, List.setIfInBounds_toArray, List.set_cons_zero, List.set_cons_succ]
  refine reg_take (v := ?_) 2 (some 8) rfl rfl (by kernel_rfl) (fun _ _ _ h => h) (by kernel_rfl) ((Same.refl W).drew) ?_ ?_
  rotate_left
  · (intro w' hw'; obtain ⟨k0, ⟨a0, a1⟩, ⟨b0, b1⟩⟩ := HC.out w' hw'; go_simp; try with_reducible rfl)
  try simp only [Act.put, List.setIfInBounds_toArray, List.set_cons_zero, List.set_cons_succ]
  refine reg_take (v := ?_) 3 (some 9) rfl rfl (by kernel_rfl) (fun _ _ _ h => h) (by kernel_rfl) ((Same.refl W).drew) ?_ ?_
  rotate_left
  · (intro w' hw'; obtain ⟨k0, ⟨a0, a1⟩, ⟨b0, b1⟩⟩ := HC.out w' hw'; go_simp; try with_reducible rfl)
  try simp only [Act.put, List.setIfInBounds_toArray, List.set_cons_zero, List.set_cons_succ]
  refine reg_take (v := ?_) 4 (some 10) rfl rfl (by kernel_rfl) (fun _ _ _ h => h) (by kernel_rfl) ((Same.refl W).drew) ?_ ?_
  rotate_left
  · (intro w' hw'; obtain ⟨k0, ⟨a0, a1⟩, ⟨b0, b1⟩⟩ := HC.out w' hw'; go_simp; try with_reducible rfl)
  try simp only [Act.put, List.setIfInBounds_toArray, List.set_cons_zero, List.set_cons_succ]
  refine reg_take (v := ?_) 5 (some 11) rfl rfl (by kernel_rfl) (fun _ _ _ h => h) (by kernel_rfl) ((Same.refl W).drew) ?_ ?_
  rotate_left
  · (intro w' hw'; obtain ⟨k0, ⟨a0, a1⟩, ⟨b0, b1⟩⟩ := HC.out w' hw'; go_simp; try with_reducible rfl)
  try simp only [Act.put, List.setIfInBounds_toArray, List.set_cons_zero, List.set_cons_succ]
  refine reg_take (v := ?_) 6 (some 12) rfl rfl (by kernel_rfl) (fun _ _ _ h => h) (by kernel_rfl) ((Same.refl W).drew) ?_ ?_
  rotate_left
  · (intro w' hw'; obtain ⟨k0, ⟨a0, a1⟩, ⟨b0, b1⟩⟩ := HC.out w' hw'; go_simp; try with_reducible rfl)
  try simp only [Act.put, List.setIfInBounds_toArray, List.set_cons_zero, List.set_cons_succ]
  refine reg_take (v := ?_) 7 (some 13) rfl rfl (by kernel_rfl) (fun _ _ _ h => h) (by kernel_rfl) ((Same.refl W).drew) ?_ ?_
  rotate_left
  · (intro w' hw'; obtain ⟨k0, ⟨a0, a1⟩, ⟨b0, b1⟩⟩ := HC.out w' hw'; go_simp; try with_reducible rfl)
  try simp only [Act.put, List.setIfInBounds_toArray, List.set_cons_zero, List.set_cons_succ]
  refine reg_one 8 rfl (by kernel_rfl) (by kernel_rfl) ?_
  go_simp
  refine ((HK _).out).mono ?_
  rintro e u1 ⟨rfl, hs1⟩
  have hS1 := ((Same.refl W).drew).trans hs1
  skip
  refine ⟨hS1, ?_⟩
  try simp only [Act.put, List.setIfInBounds_toArray, List.set_cons_zero, List.set_cons_succ]
  refine reg_take (v := ?_) 9 (some 15) rfl rfl (by kernel_rfl) (fun _ _ _ h => h) (by kernel_rfl) (hS1) ?_ ?_
  rotate_left
  · (intro w' hw'; obtain ⟨k0, ⟨a0, a1⟩, ⟨b0, b1⟩⟩ := HC.out w' hw'; go_simp; try with_reducible rfl)
  try simp only [Act.put, List.setIfInBounds_toArray, List.set_cons_zero, List.set_cons_succ]
  refine reg_take (v := ?_) 10 (some 5) rfl rfl (by kernel_rfl) (fun _ _ _ h => h) (by kernel_rfl) (hS1) ?_ ?_
  rotate_left
  · (intro w' hw'; obtain ⟨k0, ⟨a0, a1⟩, ⟨b0, b1⟩⟩ := HC.out w' hw'; go_simp; try with_reducible rfl)
  try simp only [Act.put, List.setIfInBounds_toArray, List.set_cons_zero, List.set_cons_succ]
  refine reg_done (by kernel_rfl) ?_
  go_wp2_with fail
  go_ret
  exact ⟨rfl, hS1⟩
end Go.Proofs.Ytldiagjnpkpepaa
