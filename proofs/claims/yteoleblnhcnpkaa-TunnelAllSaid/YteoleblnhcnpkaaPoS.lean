/- The developers' layer 5: a packet's sum. No condition beyond what each names. -/
import Derived.Test.YteoleblnhcnpkaaPoB
import Derived.Test.YteoleblnhcnpkaaIpDC
namespace Go.Proofs.Yteoleblnhcnpkaa
open Go.RowKit
set_option linter.unusedVariables false

/-- a word -/
def wdB (n : Int) : List UInt8 := [byteAt n 1, byteAt n 0]
/-- what counts beside a packet's payload -/
def besideF (f : Fl) (n : Int) : Nat := sumB (pseudoB f.src f.dst f.proto n)
/-- what the sum is made of -/
def sumL (f : Fl) (b : List UInt8) : List UInt8 := wdB (besideF f b.length : Int) ++ b
def sumP (f : Fl) (b : List UInt8) : Nat := if 65535 - sumB (sumL f b) = 0 ∧ f.proto = 17 then 65535 else 65535 - sumB (sumL f b)

set_option maxRecDepth 100000 in
set_option maxHeartbeats 1000000 in
theorem poSum_any (f : Fl) (hr : (0 ≤ f.src ∧ f.src ≤ 4294967295) ∧ (0 ≤ f.dst ∧ f.dst ≤ 4294967295)) (v : Value) (b : List UInt8) (w : World) (hb : Bs w v b) (hl : (b.length : Int) ≤ 140737488355000) :
    Calls Try.prog 55 #[flV f, v] w fun e w' => e = .returned (.int .i64 (sumP f b : Nat)) ∧ Same w w' := by
  have HPs := fun w => Lib.hid (cPseudo_any f.src f.dst f.proto (b.length : Int) w hr.1 hr.2)
  obtain ⟨ps, hps⟩ : ∃ ps, ps = besideF f b.length := ⟨_, rfl⟩
  rw [show sumB (pseudoB f.src f.dst f.proto (b.length : Int)) = besideF f b.length from rfl, ← hps] at HPs
  have HSL : Hid (sumL f b = ([] ++ [byteAt (ps : Int) 1, byteAt (ps : Int) 0]) ++ (b ++ [])) := by show _ = _; rw [hps]; simp [sumL, wdB]
  have HSP : Hid (sumP f b = if 65535 - sumB (sumL f b) = 0 ∧ f.proto = 17 then 65535 else 65535 - sumB (sumL f b)) := rfl
  have HOf := fun v w hb => Lib.hid (cOf_any v (sumL f b) w hb (by rw [HSL.out]; simp; omega))
  have HPu := fun w => Lib.hid (Put16_any (.slice none 0 0) [] (ps : Int) w (Bs.nil _) (by simp))
  generalize sumP f b = SP at *
  rw [HSL.out] at HSP HOf
  generalize hL1 : ([] : List UInt8) ++ [byteAt (ps : Int) 1, byteAt (ps : Int) 0] = L1 at *
  have HL1 : Hid (L1.length = 2) := by rw [← hL1]; rfl
  clear hL1 hps HSL
  obtain ⟨n, hn⟩ : ∃ n : Nat, n = 65535 - sumB (L1 ++ (b ++ [])) := ⟨_, rfl⟩
  rw [← hn] at HSP HOf
  obtain ⟨q0, q1, q2, q3, q4⟩ := f
  simp only at HSP HPs
  obtain ⟨W0, hW⟩ : ∃ W0, W0 = w.alloc (flO 44 ⟨q0, q1, q2, q3, q4⟩) := ⟨_, rfl⟩
  have HX : Hid (∀ w', Same W0 w' → FlAt w' w.heap.size ⟨q0, q1, q2, q3, q4⟩) := by rw [hW]; exact fl_box 44 ⟨q0, q1, q2, q3, q4⟩ w
  have H0 : Hid (Same w W0) := by rw [hW]; exact Same.alloc w _
  have HW := Lib.hid hW
  have HN := Lib.hid hn
  have HB := Lib.hid hb
  have HLb := Lib.hid hl
  obtain ⟨ao, cap, rfl, -, -, -, -⟩ := hb
  clear hW hn hr hl
  go_enter Try.func55, Try.ntmps55
  go_wp2_with fail
  refine (HPs _).out.mono ?_
  rintro e w1 ⟨rfl, hs1⟩
  have HS1 : Hid (Same W0 w1) := by rw [HW.out]; exact hs1
  clear hs1
  go_wp2_with fail
  refine (HPu _).out.mono ?_
  rintro e w2 ⟨v2, rfl, ho2, hs2⟩
  have HS2 := Lib.hid (HS1.out.trans hs2)
  have HB2 := Lib.hid ho2.bs
  obtain ⟨a2, n2, p2, rfl⟩ := ho2.slice
  clear ho2 hs2
  go_wp2_with fail
  have HA2 := Lib.hid (Same.alloc w2 (.cells #[.slice a2 n2 p2, .slice ao b.length cap] 22))
  refine (cat_any 2 _ [(.slice a2 n2 p2, L1), (.slice ao b.length cap, b)] rfl _ (List.forall_mem_cons.2 ⟨HB2.out.same HA2.out, List.forall_mem_cons.2 ⟨HB.out.same (H0.out.trans (HS2.out.trans HA2.out)), fun _ h => by cases h⟩⟩) (by have := HLb.out; simp only [catL_cons, catL_nil, List.length_append, HL1.out, List.length_nil]; omega) (by omega) (heap_alloc_new _ _)).mono ?_
  rintro e w3 ⟨v3, rfl, ho3, hs3⟩
  have HS3 := Lib.hid (HS2.out.trans (HA2.out.trans hs3))
  have HB3 := Lib.hid ho3.bs
  clear ho3 hs3
  go_wp2_with fail
  refine (HOf _ _ HB3.out).out.mono ?_
  rintro e w4 ⟨rfl, hs4⟩
  have HS4 := Lib.hid (HS3.out.trans hs4)
  clear hs4 HB3 HS3
  by_cases h0 : n = 0
  · by_cases h7 : q0 = 17
    · have HE : Hid (SP = 65535) := by show _ = _; rw [HSP.out, if_pos ⟨h0, h7⟩]
      subst h0 h7
      obtain ⟨c0, c1, c2, c3, c4⟩ := HX.out w4 HS4.out
      go_wp2_with fail
      go_ret
      exact ⟨by rw [HE.out]; rfl, H0.out.trans HS4.out⟩
    · have HE : Hid (SP = 0) := by show _ = _; rw [HSP.out, if_neg (fun h => h7 h.2)]; exact h0
      have k7 : (q0 == 17) = false := by simpa using h7
      subst h0
      obtain ⟨c0, c1, c2, c3, c4⟩ := HX.out w4 HS4.out
      go_wp2_with fail
      go_ret
      exact ⟨by rw [HE.out]; rfl, H0.out.trans HS4.out⟩
  · have HE : Hid (SP = n) := by show _ = _; rw [HSP.out, if_neg (fun h => h0 h.1)]
    have k0 : ((n : Int) == 0) = false := by simp; omega
    clear h0
    obtain ⟨c0, c1, c2, c3, c4⟩ := HX.out w4 HS4.out
    go_wp2_with fail
    go_ret
    exact ⟨by rw [HE.out]; rfl, H0.out.trans HS4.out⟩
end Go.Proofs.Yteoleblnhcnpkaa
