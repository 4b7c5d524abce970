/- Contracts of the developers' layer 4: Good. No condition beyond what each names. -/
import Derived.Test.YteoleblnhcnpkaaIpRC
namespace Go.Proofs.Yteoleblnhcnpkaa
open Go.RowKit
set_option linter.unusedVariables false

theorem ipFits_8 (n : Int) (w : World) : Calls Try.prog 57 #[.int .i64 n, .int .i64 8] w fun e w' => e = .returned (.bool (inR n 255)) ∧ w = w' := by
  unfold inR
  by_cases h : 0 ≤ n
  · have hd : decide (0 ≤ n) = true := by simpa using h
    go_enter Try.func57, Try.ntmps57
    go_wp2
    go_ret
    have hh : decide (n < 256) = decide (0 ≤ n ∧ n ≤ 255) := by rw [decide_eq_decide]; omega
    exact ⟨congrArg (fun b => Ending.returned (Value.bool b)) hh, rfl⟩
  · have hd : decide (0 ≤ n) = false := by simpa using h
    go_enter Try.func57, Try.ntmps57
    go_wp2
    go_ret
    exact ⟨rfl, rfl⟩
theorem ipFits_16 (n : Int) (w : World) : Calls Try.prog 57 #[.int .i64 n, .int .i64 16] w fun e w' => e = .returned (.bool (inR n 65535)) ∧ w = w' := by
  unfold inR
  by_cases h : 0 ≤ n
  · have hd : decide (0 ≤ n) = true := by simpa using h
    go_enter Try.func57, Try.ntmps57
    go_wp2
    go_ret
    have hh : decide (n < 65536) = decide (0 ≤ n ∧ n ≤ 65535) := by rw [decide_eq_decide]; omega
    exact ⟨congrArg (fun b => Ending.returned (Value.bool b)) hh, rfl⟩
  · have hd : decide (0 ≤ n) = false := by simpa using h
    go_enter Try.func57, Try.ntmps57
    go_wp2
    go_ret
    exact ⟨rfl, rfl⟩
theorem ipFits_3 (n : Int) (w : World) : Calls Try.prog 57 #[.int .i64 n, .int .i64 3] w fun e w' => e = .returned (.bool (inR n 7)) ∧ w = w' := by
  unfold inR
  by_cases h : 0 ≤ n
  · have hd : decide (0 ≤ n) = true := by simpa using h
    go_enter Try.func57, Try.ntmps57
    go_wp2
    go_ret
    have hh : decide (n < 8) = decide (0 ≤ n ∧ n ≤ 7) := by rw [decide_eq_decide]; omega
    exact ⟨congrArg (fun b => Ending.returned (Value.bool b)) hh, rfl⟩
  · have hd : decide (0 ≤ n) = false := by simpa using h
    go_enter Try.func57, Try.ntmps57
    go_wp2
    go_ret
    exact ⟨rfl, rfl⟩
theorem ipFits_13 (n : Int) (w : World) : Calls Try.prog 57 #[.int .i64 n, .int .i64 13] w fun e w' => e = .returned (.bool (inR n 8191)) ∧ w = w' := by
  unfold inR
  by_cases h : 0 ≤ n
  · have hd : decide (0 ≤ n) = true := by simpa using h
    go_enter Try.func57, Try.ntmps57
    go_wp2
    go_ret
    have hh : decide (n < 8192) = decide (0 ≤ n ∧ n ≤ 8191) := by rw [decide_eq_decide]; omega
    exact ⟨congrArg (fun b => Ending.returned (Value.bool b)) hh, rfl⟩
  · have hd : decide (0 ≤ n) = false := by simpa using h
    go_enter Try.func57, Try.ntmps57
    go_wp2
    go_ret
    exact ⟨rfl, rfl⟩

/-- has n so many bits? -/
def fitR (n k : Int) : Bool := if k = 8 then inR n 255 else if k = 16 then inR n 65535 else if k = 3 then inR n 7 else inR n 8191
theorem ipFits_any (n k : Int) (hk : k = 8 ∨ k = 16 ∨ k = 3 ∨ k = 13) (w : World) : Calls Try.prog 57 #[.int .i64 n, .int .i64 k] w fun e w' => e = .returned (.bool (fitR n k)) ∧ w = w' := by
  rcases hk with rfl | rfl | rfl | rfl
  · exact ipFits_8 n w
  · exact ipFits_16 n w
  · exact ipFits_3 n w
  · exact ipFits_13 n w

theorem good_of2 (h : Hd) : decide (goodH h) = (fitR h.tos 8 && fitR h.id 16 && fitR h.flags 3 && fitR h.frag 13 && fitR h.ttl 8 && fitR h.proto 8 && decide ((h.opts.length : Int) ≤ 40) && decide ((h.opts.length : Int) % 4 = 0)) := by
  rw [good_of]
  show _ = (inR h.tos 255 && inR h.id 65535 && inR h.flags 7 && inR h.frag 8191 && inR h.ttl 255 && inR h.proto 255 && decide ((h.opts.length : Int) ≤ 40) && decide ((h.opts.length : Int) % 4 = 0))
  generalize inR h.tos 255 = a, inR h.id 65535 = b, inR h.flags 7 = c, inR h.frag 8191 = d, inR h.ttl 255 = e, inR h.proto 255 = f
  cases a <;> cases b <;> cases c <;> cases d <;> cases e <;> cases f <;> simp

theorem ipGood_any (h : Hd) (ao : Option Addr) (cap : Nat) (w : World) : Calls Try.prog 34 #[hdV h (.slice ao h.opts.length cap)] w fun e w' => e = .returned (.bool (decide (goodH h))) ∧ Same w w' := by
  rw [good_of2]
  obtain ⟨tos, id, flags, frag, ttl, proto, src, dst, opts⟩ := h
  have H0 := Lib.hid (Same.alloc w (hdO 31 ⟨tos, id, flags, frag, ttl, proto, src, dst, opts⟩ (.slice ao opts.length cap)))
  simp only
  generalize opts.length = n at *
  have hb := first_false6 (fitR tos 8) (fitR id 16) (fitR flags 3) (fitR frag 13) (fitR ttl 8) (fitR proto 8)
  rcases hb with e1 | ⟨e1, e2⟩ | ⟨e1, e2, e3⟩ | ⟨e1, e2, e3, e4⟩ | ⟨e1, e2, e3, e4, e5⟩ | ⟨e1, e2, e3, e4, e5, e6⟩ | ⟨e1, e2, e3, e4, e5, e6⟩
  iterate 6
    · go_enter Try.func34, Try.ntmps34
      go_wp2_with (go_at_call 57; refine (ipFits_any _ _ (by decide) _).mono ?_; rintro e w1 ⟨rfl, rfl⟩)
      go_ret
      exact ⟨by simp [*], H0.out⟩
  by_cases hn : n ≤ 40
  · have hd : decide ((n : Int) ≤ 40) = true := by simp; omega
    go_enter Try.func34, Try.ntmps34
    go_wp2_with (go_at_call 57; refine (ipFits_any _ _ (by decide) _).mono ?_; rintro e w1 ⟨rfl, rfl⟩)
    go_ret
    refine ⟨?_, H0.out⟩
    simp [*]
    rw [Bool.eq_iff_iff]; simp
  · have hd : decide ((n : Int) ≤ 40) = false := by simp; omega
    go_enter Try.func34, Try.ntmps34
    go_wp2_with (go_at_call 57; refine (ipFits_any _ _ (by decide) _).mono ?_; rintro e w1 ⟨rfl, rfl⟩)
    go_ret
    exact ⟨by simp [*], H0.out⟩
end Go.Proofs.Yteoleblnhcnpkaa
