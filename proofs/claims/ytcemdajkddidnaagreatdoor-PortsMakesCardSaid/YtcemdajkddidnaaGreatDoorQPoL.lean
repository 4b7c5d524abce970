/- Layer 5: the document's example; flows compared. No condition beyond what each names. -/
import Derived.Laws.StructEq
import Derived.Test.YtcemdajkddidnaaGreatDoorMgA
import Derived.Test.YtcemdajkddidnaaGreatDoorQPoO
namespace Go.Proofs.YtcemdajkddidnaaGreatDoor
open Go.RowKit
set_option linter.unusedVariables false

theorem eq_fl (a0 a1 a2 a3 a4 b0 b1 b2 b3 b4 : Int) (w : World) : (binOp .eql 24 (.agg #[.int .i64 a0, .int .u32 a1, .int .u32 a2, .int .i64 a3, .int .i64 a4]) (.agg #[.int .i64 b0, .int .u32 b1, .int .u32 b2, .int .i64 b3, .int .i64 b4])).run Tryz.prog w =
    .ok (.bool (decide ((⟨a0, a1, a2, a3, a4⟩ : Fl) = ⟨b0, b1, b2, b3, b4⟩))) w := by
  rw [run_eql_struct]
  by_cases h0 : a0 = b0
  · by_cases h1 : a1 = b1
    · by_cases h2 : a2 = b2
      · by_cases h3 : a3 = b3
        · by_cases h4 : a4 = b4 <;> simp [go_sem, h0, h1, h2, h3, h4]
        · simp [go_sem, h0, h1, h2, h3]
      · simp [go_sem, h0, h1, h2]
    · simp [go_sem, h0, h1]
  · simp [go_sem, h0]
theorem neq_fl (a0 a1 a2 a3 a4 b0 b1 b2 b3 b4 : Int) (w : World) : (binOp .neq 24 (.agg #[.int .i64 a0, .int .u32 a1, .int .u32 a2, .int .i64 a3, .int .i64 a4]) (.agg #[.int .i64 b0, .int .u32 b1, .int .u32 b2, .int .i64 b3, .int .i64 b4])).run Tryz.prog w =
    .ok (.bool (!decide ((⟨a0, a1, a2, a3, a4⟩ : Fl) = ⟨b0, b1, b2, b3, b4⟩))) w := by
  rw [run_neq_struct]
  by_cases h0 : a0 = b0
  · by_cases h1 : a1 = b1
    · by_cases h2 : a2 = b2
      · by_cases h3 : a3 = b3
        · by_cases h4 : a4 = b4 <;> simp [go_sem, h0, h1, h2, h3, h4]
        · simp [go_sem, h0, h1, h2, h3]
      · simp [go_sem, h0, h1, h2]
    · simp [go_sem, h0, h1]
  · simp [go_sem, h0]
theorem eq_fl_same (a0 a1 a2 a3 a4 : Int) (w : World) : (binOp .eql 24 (.agg #[.int .i64 a0, .int .u32 a1, .int .u32 a2, .int .i64 a3, .int .i64 a4]) (.agg #[.int .i64 a0, .int .u32 a1, .int .u32 a2, .int .i64 a3, .int .i64 a4])).run Tryz.prog w = .ok (.bool true) w := by
  rw [eq_fl]; simp
theorem neq_fl_same (a0 a1 a2 a3 a4 : Int) (w : World) : (binOp .neq 24 (.agg #[.int .i64 a0, .int .u32 a1, .int .u32 a2, .int .i64 a3, .int .i64 a4]) (.agg #[.int .i64 a0, .int .u32 a1, .int .u32 a2, .int .i64 a3, .int .i64 a4])).run Tryz.prog w = .ok (.bool false) w := by
  rw [neq_fl]; simp
attribute [local go_sem ↓] eq_fl_same neq_fl_same

/-- the document's example -/
def exF : Fl := ⟨0, 1, 2, 3, 4⟩
theorem exF_ports : portOk exF.sport ∧ portOk exF.dport := by decide

set_option maxRecDepth 100000 in
theorem po_lives (w : World) : Calls Tryz.prog 4 #[] w fun e w' => e = .returned (.bool true) ∧ Same w w' := by
  have HB := Lib.hid (poUdp_any exF ⟨⟨by decide, by decide⟩, ⟨by decide, by decide⟩⟩ (.slice none 0 0) [] w (Bs.nil w) (by simp))
  obtain ⟨h1, h2, h3⟩ := of_udp exF exF_ports ⟨⟨by decide, by decide⟩, ⟨by decide, by decide⟩⟩ [] (by simp)
  have HOf := fun v w hb => Lib.hid (poOf_any v (udpB exF []) w hb)
  rw [show ofV (udpB exF []) = .tuple #[sgV (ofG (udpB exF [])), .int .i64 (ofE (udpB exF []))] from rfl, h2, h3] at HOf
  have H1 := Lib.hid h1
  clear h1 h2 h3
  generalize udpB exF [] = L at *
  unfold exF at HB
  simp only [exF, List.length_nil] at HOf
  go_enter Tryz.func4, Tryz.ntmps4
  go_wp2_with fail
  refine HB.out.mono ?_
  rintro e w1 ⟨v, rfl, ho, hs⟩
  have HS1 := Lib.hid hs
  have HO1 := Lib.hid ho.bs
  obtain ⟨ao, cap, hv, -, -, -, -⟩ := ho.bs
  rw [H1.out] at hv
  subst hv
  clear ho hs
  go_wp2_with fail
  refine (HOf _ _ HO1.out).out.mono ?_
  rintro e w2 ⟨rfl, hs2⟩
  have HS2 := Lib.hid (HS1.out.trans hs2)
  clear hs2
  obtain ⟨c0, c1, c2, c3, c4, c5, c6⟩ := SgAt.of (heap_alloc_new w2 (sgO 35 ⟨⟨17, 1, 2, 3, 4⟩, 0, 8⟩))
  go_wp2_with fail
  go_ret
  exact ⟨rfl, HS2.out.trans (Same.alloc w2 _)⟩
end Go.Proofs.YtcemdajkddidnaaGreatDoor
