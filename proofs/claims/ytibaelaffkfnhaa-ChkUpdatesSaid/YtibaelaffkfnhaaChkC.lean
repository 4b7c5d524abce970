/- What is asked of the functions of layer 2, and the document's example over it. No condition beyond what each names. -/
import Derived.Test.YtibaelaffkfnhaaChkR
namespace Go.Proofs.Ytibaelaffkfnhaa
open Go.RowKit
set_option linter.unusedVariables false

/-- the functions of layer 2 answer as the document says, and leave what was there -/
structure ChkC : Prop where
  sum : ∀ (v : Value) (l : List UInt8) (w : World), Bs w v l → (l.length : Int) ≤ 140737488355328 → Calls Try.prog 36 #[v] w fun e w' => e = .returned (.int .i64 (sumB l)) ∧ Same w w'
  off : ∀ (v : Value) (l : List UInt8) (w : World), Bs w v l → (l.length : Int) ≤ 140737488355328 → Calls Try.prog 38 #[v] w fun e w' => e = .returned (.int .i64 (65535 - sumB l : Nat)) ∧ Same w w'
  good : ∀ (v : Value) (l : List UInt8) (w : World), Bs w v l → (l.length : Int) ≤ 140737488355328 → Calls Try.prog 40 #[v] w fun e w' => e = .returned (.bool (decide (sumB l = 65535))) ∧ Same w w'
  add : ∀ (a b : Int) (w : World), Calls Try.prog 41 #[.int .i64 a, .int .i64 b] w fun e w' => e = .returned (.int .i64 (addw (wd a) (wd b))) ∧ Same w w'
  update : ∀ (s f t : Int) (w : World), Calls Try.prog 43 #[.int .i64 s, .int .i64 f, .int .i64 t] w fun e w' => e = .returned (.int .i64 (updW s f t)) ∧ Same w w'
  pseudo : ∀ (s d p n : Int) (w : World), (0 ≤ s ∧ s ≤ 4294967295) → (0 ≤ d ∧ d ≤ 4294967295) → Calls Try.prog 45 #[.int .u32 s, .int .u32 d, .int .i64 p, .int .i64 n] w fun e w' => e = .returned (.int .i64 (sumB (pseudoB s d p n))) ∧ Same w w'

theorem chk_lives (C : ChkC) (w : World) : Calls Try.prog 35 #[] w fun e w' => e = .returned (.bool true) ∧ Same w w' := by
  have hb : Bs (w.alloc (.cells #[.int .u8 1, .int .u8 2, .int .u8 3, .int .u8 4] 5)) (.slice (some ⟨w.heap.size, 0, none⟩) 4 4) [1, 2, 3, 4] := Bs.made w [1, 2, 3, 4] 5 (by simp)
  have HR := Lib.hid (C.off _ _ _ hb (by simp))
  rw [show 65535 - sumB [1, 2, 3, 4] = 64505 from by decide] at HR
  have hsm := Lib.hid (Same.alloc w (.cells #[.int .u8 1, .int .u8 2, .int .u8 3, .int .u8 4] 5))
  clear hb
  go_enter Try.func35, Try.ntmps35
  go_wp2_with fail
  refine HR.out.mono ?_
  rintro e w1 ⟨rfl, h1⟩
  have H1 := Lib.hid (hsm.out.trans h1)
  clear h1 HR
  go_wp2_with fail
  refine (C.good _ [] w1 (Bs.nil w1) (by simp)).mono ?_
  rw [show decide (sumB [] = 65535) = false from by decide]
  rintro e w2 ⟨rfl, h2⟩
  have H2 := Lib.hid (H1.out.trans h2)
  clear h2
  go_wp2_with fail
  go_ret
  exact ⟨rfl, H2.out⟩
end Go.Proofs.Ytibaelaffkfnhaa
