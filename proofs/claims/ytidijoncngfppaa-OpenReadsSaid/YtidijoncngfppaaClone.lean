/- A copy of bytes (bytes.Clone). No condition beyond what it names. -/
import Derived.Test.YtidijoncngfppaaMem
namespace Go.Proofs.Ytidijoncngfppaa
open Go.RowKit
set_option linter.unusedVariables false

/-- a copy of bytes; nil of nil -/
theorem clone_any (v : Value) (l : List UInt8) (w : World) (h : Bs w v l) (hl : l.length ≤ 140737488355328) :
    Calls Try.prog 54 #[v] w fun e w' => ∃ v', e = .returned v' ∧ OwnB w' w.heap.size v' l ∧ Same w w' := by
  have H := Lib.hid h
  obtain ⟨ao, cap, rfl, h1, h2, h3, h4⟩ := h
  clear h4
  cases ao with
  | none =>
    have hc := h3 rfl
    have hm : l = [] := List.eq_nil_of_length_eq_zero (by omega)
    subst hm hc
    have hr := fun (w : World) => Lib.run_eql_slice_nil (P := Try.prog) w 28 _ none 0 0 0 0 Try.underlying28
    go_enter Try.func54, Try.ntmps54
    go_wp2
    go_ret
    exact ⟨_, rfl, OwnB.nil _ _, Same.refl _⟩
  | some ad =>
    have hr := fun (w : World) => Lib.run_eql_slice_nil (P := Try.prog) w 28 _ (some ad) l.length cap 0 0 Try.underlying28
    go_enter Try.func54, Try.ntmps54
    go_wp2_with (at_builtin; refine wpList_append_bs rfl _ _ rfl w (Same.alloc _ _) _ [] rfl (OwnB.empty w) _ l rfl ((H.out).same (Same.alloc _ _)) (by simpa using hl) ?_; intro v' w1 ho1 hs1)
    go_ret
    exact ⟨_, rfl, ‹_›, ‹_›⟩
end Go.Proofs.Ytidijoncngfppaa
