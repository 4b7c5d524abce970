/- Layer 5: the document's example; the walk of PortsReads. No condition beyond what each names. -/
import Derived.Test.YtcemdajkddidnaaPoN
import Derived.Test.YtcemdajkddidnaaPoO
import Derived.Laws.StructEq
namespace Go.Proofs.Ytcemdajkddidnaa
open Go.RowKit
set_option linter.unusedVariables false

theorem eq_fl (a0 a1 a2 a3 a4 b0 b1 b2 b3 b4 : Int) (w : World) : (binOp .eql 31 (.agg #[.int .i64 a0, .int .u32 a1, .int .u32 a2, .int .i64 a3, .int .i64 a4]) (.agg #[.int .i64 b0, .int .u32 b1, .int .u32 b2, .int .i64 b3, .int .i64 b4])).run Try.prog w =
    .ok (.bool (decide ((⟨a0, a1, a2, a3, a4⟩ : Fl) = ⟨b0, b1, b2, b3, b4⟩))) w := by
  rw [run_eql_struct]
  by_cases h0 : a0 = b0
  · by_cases h1 : a1 = b1
    · by_cases h2 : a2 = b2
      · by_cases h3 : a3 = b3
        · by_cases h4 : a4 = b4 <;> simp [go_sem, h0, h1, h2, h3, h4]
        · simp [go_sem, h0, h1, h2, h3]
      · simp [go_sem, h0, h1, h2]
    · simp [go_sem, h0, h1]
  · simp [go_sem, h0]
theorem neq_fl (a0 a1 a2 a3 a4 b0 b1 b2 b3 b4 : Int) (w : World) : (binOp .neq 31 (.agg #[.int .i64 a0, .int .u32 a1, .int .u32 a2, .int .i64 a3, .int .i64 a4]) (.agg #[.int .i64 b0, .int .u32 b1, .int .u32 b2, .int .i64 b3, .int .i64 b4])).run Try.prog w =
    .ok (.bool (!decide ((⟨a0, a1, a2, a3, a4⟩ : Fl) = ⟨b0, b1, b2, b3, b4⟩))) w := by
  rw [run_neq_struct]
  by_cases h0 : a0 = b0
  · by_cases h1 : a1 = b1
    · by_cases h2 : a2 = b2
      · by_cases h3 : a3 = b3
        · by_cases h4 : a4 = b4 <;> simp [go_sem, h0, h1, h2, h3, h4]
        · simp [go_sem, h0, h1, h2, h3]
      · simp [go_sem, h0, h1, h2]
    · simp [go_sem, h0, h1]
  · simp [go_sem, h0]
theorem eq_fl_same (a0 a1 a2 a3 a4 : Int) (w : World) : (binOp .eql 31 (.agg #[.int .i64 a0, .int .u32 a1, .int .u32 a2, .int .i64 a3, .int .i64 a4]) (.agg #[.int .i64 a0, .int .u32 a1, .int .u32 a2, .int .i64 a3, .int .i64 a4])).run Try.prog w = .ok (.bool true) w := by
  rw [eq_fl]; simp
theorem neq_fl_same (a0 a1 a2 a3 a4 : Int) (w : World) : (binOp .neq 31 (.agg #[.int .i64 a0, .int .u32 a1, .int .u32 a2, .int .i64 a3, .int .i64 a4]) (.agg #[.int .i64 a0, .int .u32 a1, .int .u32 a2, .int .i64 a3, .int .i64 a4])).run Try.prog w = .ok (.bool false) w := by
  rw [neq_fl]; simp
theorem eq_sg_same (a0 a1 a2 a3 a4 a5 a6 : Int) (w : World) : (binOp .eql 36 (.agg #[.int .i64 a0, .int .u32 a1, .int .u32 a2, .int .i64 a3, .int .i64 a4, .int .i64 a5, .int .i64 a6]) (.agg #[.int .i64 a0, .int .u32 a1, .int .u32 a2, .int .i64 a3, .int .i64 a4, .int .i64 a5, .int .i64 a6])).run Try.prog w = .ok (.bool true) w := by
  rw [run_eql_struct]
  simp [go_sem]
attribute [local go_sem ↓] eq_fl_same neq_fl_same eq_sg_same

/-- the document's example -/
def exF : Fl := ⟨0, 1, 2, 3, 4⟩
theorem exF_ports : portOk exF.sport ∧ portOk exF.dport := by decide

set_option maxRecDepth 100000 in
theorem po_lives (w : World) : Calls Try.prog 6 #[] w fun e w' => e = .returned (.bool true) ∧ Same w w' := by
  have HB := Lib.hid (poUdp_any exF ⟨⟨by decide, by decide⟩, ⟨by decide, by decide⟩⟩ (.slice none 0 0) [] w (Bs.nil w) (by simp))
  obtain ⟨h1, h2, h3⟩ := of_udp exF exF_ports ⟨⟨by decide, by decide⟩, ⟨by decide, by decide⟩⟩ [] (by simp)
  have HOf := fun v w hb => Lib.hid (poOf_any v (udpB exF []) w hb)
  rw [show ofV (udpB exF []) = .tuple #[sgV (ofG (udpB exF [])), .int .i64 (ofE (udpB exF []))] from rfl, h2, h3] at HOf
  have H1 := Lib.hid h1
  clear h1 h2 h3
  generalize udpB exF [] = L at *
  unfold exF at HB
  simp only [exF, List.length_nil] at HOf
  go_enter Try.func6, Try.ntmps6
  go_wp2_with fail
  refine HB.out.mono ?_
  rintro e w1 ⟨v, rfl, ho, hs⟩
  have HS1 := Lib.hid hs
  have HO1 := Lib.hid ho.bs
  obtain ⟨ao, cap, hv, -, -, -, -⟩ := ho.bs
  rw [H1.out] at hv
  subst hv
  clear ho hs
  go_wp2_with fail
  refine (HOf _ _ HO1.out).out.mono ?_
  rintro e w2 ⟨rfl, hs2⟩
  have HS2 := Lib.hid (HS1.out.trans hs2)
  clear hs2
  obtain ⟨c0, c1, c2, c3, c4, c5, c6⟩ := SgAt.of (heap_alloc_new w2 (sgO 33 ⟨⟨17, 1, 2, 3, 4⟩, 0, 8⟩))
  go_wp2_with fail
  go_ret
  exact ⟨rfl, HS2.out.trans (Same.alloc w2 _)⟩

theorem preads_long (p : Int) (v : Value) (l : List UInt8) (w : World) (hb : Bs w v l) (hl : 12000 < (l.length : Int)) :
    Calls Try.prog 3 #[.int .i64 p, v] w fun e w' => e = .returned (.bool true) ∧ Same w w' := by
  obtain ⟨ao, cap, rfl, -, -, -, -⟩ := hb
  go_enter Try.func3, Try.ntmps3
  go_wp2_with fail
  refine (po_lives w).mono ?_
  rintro e w1 ⟨rfl, hs⟩
  have HS := Lib.hid hs
  clear hs
  go_wp2_with fail
  go_ret
  exact ⟨rfl, HS.out⟩

set_option maxRecDepth 100000 in
set_option maxHeartbeats 1000000 in
theorem preads_walk (p : Int) (v : Value) (l : List UInt8) (w : World) (hb : Bs w v l) (hl : ¬ 12000 < (l.length : Int)) :
    Calls Try.prog 3 #[.int .i64 p, v] w fun e w' => e = .returned (.bool true) ∧ Same w w' := by
  have HP := fun w hb => Lib.hid (poParse_any p v l w hb (by omega))
  have HQ := fun w hb => Lib.hid (roParse_any p v l w hb)
  have HF := fun w hb => Lib.hid (poOf_any v l w hb)
  have HG := fun w hb => Lib.hid (roOf_any v l w hb)
  have HB := Lib.hid hb
  have HL := fun w => Lib.hid (po_lives w)
  unfold ptV at HP HQ
  unfold ofV at HF HG
  generalize pS p l = s at *
  generalize pD p l = d at *
  generalize pG p l = g at *
  generalize pE p l = E at *
  generalize ofE l = OE at *
  generalize ofG l = G at *
  obtain ⟨⟨q0, q1, q2, q3, q4⟩, q5, q6⟩ := G
  obtain ⟨ao, cap, rfl, -, -, -, -⟩ := hb
  go_enter Try.func3, Try.ntmps3
  go_wp2_with fail
  refine (HP _ HB.out).out.mono ?_
  rintro e w1 ⟨rfl, hs1⟩
  have HS1 := Lib.hid hs1
  clear hs1
  go_wp2_with fail
  refine (HQ _ (HB.out.same HS1.out)).out.mono ?_
  rintro e w2 ⟨rfl, hs2⟩
  have HS2 := Lib.hid (HS1.out.trans hs2)
  clear hs2
  go_wp2_with fail
  refine (HF _ (HB.out.same HS2.out)).out.mono ?_
  rintro e w3 ⟨rfl, hs3⟩
  have HS3 := Lib.hid (HS2.out.trans hs3)
  clear hs3
  have HA3 := Lib.hid (Same.alloc w3 (sgO 33 ⟨⟨q0, q1, q2, q3, q4⟩, q5, q6⟩))
  have HK3 := Lib.hid (heap_alloc_new w3 (sgO 33 ⟨⟨q0, q1, q2, q3, q4⟩, q5, q6⟩))
  go_wp2_with fail
  refine (HG _ (HB.out.same (HS3.out.trans HA3.out))).out.mono ?_
  rintro e w4 ⟨rfl, hs4⟩
  have HS4 := Lib.hid ((HS3.out.trans HA3.out).trans hs4)
  have HA4 := Lib.hid (Same.alloc w4 (sgO 36 ⟨⟨q0, q1, q2, q3, q4⟩, q5, q6⟩))
  obtain ⟨c0, c1, c2, c3, c4, c5, c6⟩ := SgAt.of (HA4.out.block (hs4.block HK3.out))
  obtain ⟨d0, d1, d2, d3, d4, d5, d6⟩ := SgAt.of (heap_alloc_new w4 (sgO 36 ⟨⟨q0, q1, q2, q3, q4⟩, q5, q6⟩))
  clear hs4
  go_wp2_with fail
  refine (HL _).out.mono ?_
  rintro e w5 ⟨rfl, hs5⟩
  have HS5 := Lib.hid ((HS4.out.trans HA4.out).trans hs5)
  clear hs5
  go_wp2_with fail
  go_ret
  exact ⟨rfl, HS5.out⟩
end Go.Proofs.Ytcemdajkddidnaa
