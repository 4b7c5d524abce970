/- Contracts of the document's own answers for layer 4: Good, Same. No condition beyond what each names. -/
import Derived.Test.YteoleblnhcnpkaaIpF
import Derived.Test.YteoleblnhcnpkaaReg
import Derived.Test.YteoleblnhcnpkaaRefB
import Derived.Test.YteoleblnhcnpkaaLives
namespace Go.Proofs.Yteoleblnhcnpkaa
open Go.RowKit
set_option linter.unusedVariables false

/-- a header as a value, its options apart -/
abbrev hdV (h : Hd) (vo : Value) : Value := .agg #[.int .i64 h.tos, .int .i64 h.id, .int .i64 h.flags, .int .i64 h.frag, .int .i64 h.ttl, .int .i64 h.proto, .int .u32 h.src, .int .u32 h.dst, vo]
abbrev hdO (t : TypeId) (h : Hd) (vo : Value) : Obj := .cells #[.int .i64 h.tos, .int .i64 h.id, .int .i64 h.flags, .int .i64 h.frag, .int .i64 h.ttl, .int .i64 h.proto, .int .u32 h.src, .int .u32 h.dst, vo] t

/-- from 0 to m -/
def inR (n m : Int) : Bool := decide (0 ≤ n ∧ n ≤ m)

theorem riIn_any (n m : Int) (w : World) : Calls Try.prog 66 #[.int .i64 n, .int .i64 m] w fun e w' => e = .returned (.bool (inR n m)) ∧ w = w' := by
  unfold inR
  by_cases h : 0 ≤ n
  · have hd : decide (0 ≤ n) = true := by simpa using h
    go_enter Try.func66, Try.ntmps66
    go_wp2
    go_ret
    exact ⟨by first | (simp; done) | simp [h], rfl⟩
  · have hd : decide (0 ≤ n) = false := by simpa using h
    go_enter Try.func66, Try.ntmps66
    go_wp2
    go_ret
    exact ⟨by first | (simp; done) | simp [h], rfl⟩

theorem first_false6 (a b c d e f : Bool) : a = false ∨ (a = true ∧ b = false) ∨ (a = true ∧ b = true ∧ c = false) ∨ (a = true ∧ b = true ∧ c = true ∧ d = false) ∨ (a = true ∧ b = true ∧ c = true ∧ d = true ∧ e = false) ∨
    (a = true ∧ b = true ∧ c = true ∧ d = true ∧ e = true ∧ f = false) ∨ (a = true ∧ b = true ∧ c = true ∧ d = true ∧ e = true ∧ f = true) := by
  cases a <;> cases b <;> cases c <;> cases d <;> cases e <;> cases f <;> decide

theorem good_of (h : Hd) : decide (goodH h) = (inR h.tos 255 && inR h.ttl 255 && inR h.proto 255 && inR h.id 65535 && inR h.flags 7 &&
    inR h.frag 8191 && decide ((h.opts.length : Int) ≤ 40) && decide ((h.opts.length : Int) % 4 = 0)) := by
  rw [Bool.eq_iff_iff, decide_eq_true_iff]
  simp only [goodH, inR, Bool.and_eq_true, decide_eq_true_iff]
  constructor
  · rintro ⟨a, b, c, d, e, f, g, i⟩
    exact ⟨⟨⟨⟨⟨⟨⟨a, b⟩, c⟩, d⟩, e⟩, f⟩, by omega⟩, by omega⟩
  · rintro ⟨⟨⟨⟨⟨⟨⟨a, b⟩, c⟩, d⟩, e⟩, f⟩, g⟩, i⟩
    exact ⟨a, b, c, d, e, f, by omega, by omega⟩

theorem riGood_any (h : Hd) (ao : Option Addr) (cap : Nat) (w : World) : Calls Try.prog 43 #[hdV h (.slice ao h.opts.length cap)] w fun e w' => e = .returned (.bool (decide (goodH h))) ∧ Same w w' := by
  rw [good_of]
  obtain ⟨tos, id, flags, frag, ttl, proto, src, dst, opts⟩ := h
  have H0 := Lib.hid (Same.alloc w (hdO 34 ⟨tos, id, flags, frag, ttl, proto, src, dst, opts⟩ (.slice ao opts.length cap)))
  simp only
  generalize opts.length = n at *
  have hb := first_false6 (inR tos 255) (inR ttl 255) (inR proto 255) (inR id 65535) (inR flags 7) (inR frag 8191)
  rcases hb with e1 | ⟨e1, e2⟩ | ⟨e1, e2, e3⟩ | ⟨e1, e2, e3, e4⟩ | ⟨e1, e2, e3, e4, e5⟩ | ⟨e1, e2, e3, e4, e5, e6⟩ | ⟨e1, e2, e3, e4, e5, e6⟩
  iterate 6
    · go_enter Try.func43, Try.ntmps43
      go_wp2_with (go_at_call 66; refine (riIn_any _ _ _).mono ?_; rintro e w1 ⟨rfl, rfl⟩)
      go_ret
      exact ⟨by simp [*], H0.out⟩
  by_cases hn : n ≤ 40
  · have hd : decide ((n : Int) ≤ 40) = true := by simp; omega
    go_enter Try.func43, Try.ntmps43
    go_wp2_with (go_at_call 66; refine (riIn_any _ _ _).mono ?_; rintro e w1 ⟨rfl, rfl⟩)
    go_ret
    refine ⟨?_, H0.out⟩
    simp [*]
    rw [Bool.eq_iff_iff]; simp
  · have hd : decide ((n : Int) ≤ 40) = false := by simp; omega
    go_enter Try.func43, Try.ntmps43
    go_wp2_with (go_at_call 66; refine (riIn_any _ _ _).mono ?_; rintro e w1 ⟨rfl, rfl⟩)
    go_ret
    exact ⟨by simp [*], H0.out⟩

/-- are two headers alike? -/
def sameH (h g : Hd) : Bool := (h.tos == g.tos) && (h.id == g.id) && (h.flags == g.flags) && (h.frag == g.frag) && (h.ttl == g.ttl) && (h.proto == g.proto) && (h.src == g.src) && (h.dst == g.dst) && decide (h.opts = g.opts)
theorem sameH_iff (h g : Hd) : sameH h g = true ↔ h = g := by
  obtain ⟨a0, a1, a2, a3, a4, a5, a6, a7, a8⟩ := h
  obtain ⟨b0, b1, b2, b3, b4, b5, b6, b7, b8⟩ := g
  simp only [sameH, Bool.and_eq_true, beq_iff_eq, decide_eq_true_iff, Hd.mk.injEq]
  constructor
  · rintro ⟨⟨⟨⟨⟨⟨⟨⟨a, b⟩, c⟩, d⟩, e⟩, f⟩, g⟩, i⟩, j⟩
    exact ⟨a, b, c, d, e, f, g, i, j⟩
  · rintro ⟨a, b, c, d, e, f, g, i, j⟩
    exact ⟨⟨⟨⟨⟨⟨⟨⟨a, b⟩, c⟩, d⟩, e⟩, f⟩, g⟩, i⟩, j⟩
theorem sameH_self (h : Hd) : sameH h h = true := (sameH_iff h h).2 rfl

theorem first_false8 (a b c d e f g h : Bool) : a = false ∨ (a = true ∧ b = false) ∨ (a = true ∧ b = true ∧ c = false) ∨ (a = true ∧ b = true ∧ c = true ∧ d = false) ∨ (a = true ∧ b = true ∧ c = true ∧ d = true ∧ e = false) ∨
    (a = true ∧ b = true ∧ c = true ∧ d = true ∧ e = true ∧ f = false) ∨ (a = true ∧ b = true ∧ c = true ∧ d = true ∧ e = true ∧ f = true ∧ g = false) ∨ (a = true ∧ b = true ∧ c = true ∧ d = true ∧ e = true ∧ f = true ∧ g = true ∧ h = false) ∨
    (a = true ∧ b = true ∧ c = true ∧ d = true ∧ e = true ∧ f = true ∧ g = true ∧ h = true) := by
  cases a <;> cases b <;> cases c <;> cases d <;> simp <;> cases e <;> cases f <;> cases g <;> cases h <;> simp

theorem str_eq (l m : List UInt8) : ((⟨l.toArray⟩ : ByteArray).toList == (⟨m.toArray⟩ : ByteArray).toList) = decide (l = m) := by
  rw [ByteArray.toList_eq, ByteArray.toList_eq, Bool.eq_iff_iff, beq_iff_eq, decide_eq_true_iff]

set_option maxRecDepth 100000 in
theorem riSame_any (h g : Hd) (vo vp : Value) (w : World) (hb : Bs w vo h.opts) (hc : Bs w vp g.opts) : Calls Try.prog 11 #[hdV h vo, hdV g vp] w fun e w' => e = .returned (.bool (sameH h g)) ∧ Same w w' := by
  obtain ⟨a0, a1, a2, a3, a4, a5, a6, a7, a8⟩ := h
  obtain ⟨b0, b1, b2, b3, b4, b5, b6, b7, b8⟩ := g
  have H0 := Lib.hid ((Same.alloc w (hdO 34 ⟨a0, a1, a2, a3, a4, a5, a6, a7, a8⟩ vo)).trans (Same.alloc _ (hdO 34 ⟨b0, b1, b2, b3, b4, b5, b6, b7, b8⟩ vp)))
  have hr1 := run_str _ vo a8 (hb.same H0.out)
  have hr2 := run_str _ vp b8 (hc.same H0.out)
  obtain ⟨ao, cap, rfl, -, -, -, -⟩ := hb
  obtain ⟨ap, caq, rfl, -, -, -, -⟩ := hc
  simp only at hr1 hr2
  have hs := str_eq a8 b8
  unfold sameH
  simp only
  rw [← hs]
  clear hs
  generalize (⟨a8.toArray⟩ : ByteArray) = s1 at *
  generalize (⟨b8.toArray⟩ : ByteArray) = s2 at *
  generalize a8.length = n1 at *
  generalize b8.length = n2 at *
  rcases first_false8 (a0 == b0) (a1 == b1) (a2 == b2) (a3 == b3) (a4 == b4) (a5 == b5) (a6 == b6) (a7 == b7) with e1 | ⟨e1, e2⟩ | ⟨e1, e2, e3⟩ | ⟨e1, e2, e3, e4⟩ | ⟨e1, e2, e3, e4, e5⟩ | ⟨e1, e2, e3, e4, e5, e6⟩ |
    ⟨e1, e2, e3, e4, e5, e6, e7⟩ | ⟨e1, e2, e3, e4, e5, e6, e7, e8⟩ | ⟨e1, e2, e3, e4, e5, e6, e7, e8⟩
  iterate 9
    · go_enter Try.func11, Try.ntmps11
      go_wp2_with fail
      go_ret
      exact ⟨by simp [*], H0.out⟩
end Go.Proofs.Yteoleblnhcnpkaa
