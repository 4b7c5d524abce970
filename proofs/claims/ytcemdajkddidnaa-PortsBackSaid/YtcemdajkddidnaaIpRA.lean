/- Contracts of the document's own answers for layer 4: Good, Same. No condition beyond what each names. -/
import Derived.Test.YtcemdajkddidnaaIpF
import Derived.Test.YtcemdajkddidnaaReg
import Derived.Test.YtcemdajkddidnaaRefB
import Derived.Test.YtcemdajkddidnaaLives
namespace Go.Proofs.Ytcemdajkddidnaa
open Go.RowKit
set_option linter.unusedVariables false

/-- a header as a value, its options apart -/
abbrev hdV (h : Hd) (vo : Value) : Value := .agg #[.int .i64 h.tos, .int .i64 h.id, .int .i64 h.flags, .int .i64 h.frag, .int .i64 h.ttl, .int .i64 h.proto, .int .u32 h.src, .int .u32 h.dst, vo]
abbrev hdO (t : TypeId) (h : Hd) (vo : Value) : Obj := .cells #[.int .i64 h.tos, .int .i64 h.id, .int .i64 h.flags, .int .i64 h.frag, .int .i64 h.ttl, .int .i64 h.proto, .int .u32 h.src, .int .u32 h.dst, vo] t

/-- from 0 to m -/
def inR (n m : Int) : Bool := decide (0 ≤ n ∧ n ≤ m)

theorem first_false6 (a b c d e f : Bool) : a = false ∨ (a = true ∧ b = false) ∨ (a = true ∧ b = true ∧ c = false) ∨ (a = true ∧ b = true ∧ c = true ∧ d = false) ∨ (a = true ∧ b = true ∧ c = true ∧ d = true ∧ e = false) ∨
    (a = true ∧ b = true ∧ c = true ∧ d = true ∧ e = true ∧ f = false) ∨ (a = true ∧ b = true ∧ c = true ∧ d = true ∧ e = true ∧ f = true) := by
  cases a <;> cases b <;> cases c <;> cases d <;> cases e <;> cases f <;> decide

theorem good_of (h : Hd) : decide (goodH h) = (inR h.tos 255 && inR h.ttl 255 && inR h.proto 255 && inR h.id 65535 && inR h.flags 7 &&
    inR h.frag 8191 && decide ((h.opts.length : Int) ≤ 40) && decide ((h.opts.length : Int) % 4 = 0)) := by
  rw [Bool.eq_iff_iff, decide_eq_true_iff]
  simp only [goodH, inR, Bool.and_eq_true, decide_eq_true_iff]
  constructor
  · rintro ⟨a, b, c, d, e, f, g, i⟩
    exact ⟨⟨⟨⟨⟨⟨⟨a, b⟩, c⟩, d⟩, e⟩, f⟩, by omega⟩, by omega⟩
  · rintro ⟨⟨⟨⟨⟨⟨⟨a, b⟩, c⟩, d⟩, e⟩, f⟩, g⟩, i⟩
    exact ⟨a, b, c, d, e, f, by omega, by omega⟩

/-- are two headers alike? -/
def sameH (h g : Hd) : Bool := (h.tos == g.tos) && (h.id == g.id) && (h.flags == g.flags) && (h.frag == g.frag) && (h.ttl == g.ttl) && (h.proto == g.proto) && (h.src == g.src) && (h.dst == g.dst) && decide (h.opts = g.opts)
theorem sameH_iff (h g : Hd) : sameH h g = true ↔ h = g := by
  obtain ⟨a0, a1, a2, a3, a4, a5, a6, a7, a8⟩ := h
  obtain ⟨b0, b1, b2, b3, b4, b5, b6, b7, b8⟩ := g
  simp only [sameH, Bool.and_eq_true, beq_iff_eq, decide_eq_true_iff, Hd.mk.injEq]
  constructor
  · rintro ⟨⟨⟨⟨⟨⟨⟨⟨a, b⟩, c⟩, d⟩, e⟩, f⟩, g⟩, i⟩, j⟩
    exact ⟨a, b, c, d, e, f, g, i, j⟩
  · rintro ⟨a, b, c, d, e, f, g, i, j⟩
    exact ⟨⟨⟨⟨⟨⟨⟨⟨a, b⟩, c⟩, d⟩, e⟩, f⟩, g⟩, i⟩, j⟩
theorem sameH_self (h : Hd) : sameH h h = true := (sameH_iff h h).2 rfl

theorem first_false8 (a b c d e f g h : Bool) : a = false ∨ (a = true ∧ b = false) ∨ (a = true ∧ b = true ∧ c = false) ∨ (a = true ∧ b = true ∧ c = true ∧ d = false) ∨ (a = true ∧ b = true ∧ c = true ∧ d = true ∧ e = false) ∨
    (a = true ∧ b = true ∧ c = true ∧ d = true ∧ e = true ∧ f = false) ∨ (a = true ∧ b = true ∧ c = true ∧ d = true ∧ e = true ∧ f = true ∧ g = false) ∨ (a = true ∧ b = true ∧ c = true ∧ d = true ∧ e = true ∧ f = true ∧ g = true ∧ h = false) ∨
    (a = true ∧ b = true ∧ c = true ∧ d = true ∧ e = true ∧ f = true ∧ g = true ∧ h = true) := by
  cases a <;> cases b <;> cases c <;> cases d <;> simp <;> cases e <;> cases f <;> cases g <;> cases h <;> simp

theorem str_eq (l m : List UInt8) : ((⟨l.toArray⟩ : ByteArray).toList == (⟨m.toArray⟩ : ByteArray).toList) = decide (l = m) := by
  rw [ByteArray.toList_eq, ByteArray.toList_eq, Bool.eq_iff_iff, beq_iff_eq, decide_eq_true_iff]

end Go.Proofs.Ytcemdajkddidnaa
