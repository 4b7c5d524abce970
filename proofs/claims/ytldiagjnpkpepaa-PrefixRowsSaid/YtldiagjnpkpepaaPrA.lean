/- Rows of prefixes: a copy (slices.Clone). No condition beyond what it names. -/
import Derived.Test.YtldiagjnpkpepaaMemP
namespace Go.Proofs.Ytldiagjnpkpepaa
open Go.RowKit
set_option linter.unusedVariables false

/-- a copy of a row; nil of nil -/
theorem cloneP_any (v : Value) (l : List (Int × Int)) (w : World) (h : Ps w v l) (hl : l.length ≤ 8796093022208) :
    Calls Try.prog 30 #[v] w fun e w' => ∃ v', e = .returned v' ∧ OwnP w' w.heap.size v' l ∧ Same w w' := by
  have H := Lib.hid h
  obtain ⟨ao, cap, rfl, h1, h2, h3, h4⟩ := h
  clear h4
  cases ao with
  | none =>
    have hc := h3 rfl
    have hm : l = [] := List.eq_nil_of_length_eq_zero (by omega)
    subst hm hc
    have hr := fun (w : World) => Lib.run_eql_slice_nil (P := Try.prog) w 22 _ none 0 0 0 0 Try.underlying22
    go_enter Try.func30, Try.ntmps30
    go_wp2
    go_ret
    exact ⟨_, rfl, OwnP.nil _ _, Same.refl _⟩
  | some ad =>
    have hr := fun (w : World) => Lib.run_eql_slice_nil (P := Try.prog) w 22 _ (some ad) l.length cap 0 0 Try.underlying22
    have H0 : OwnP (w.alloc (.cells #[] 58)) w.heap.size (.slice (some ⟨w.heap.size, 0, none⟩) 0 0) [] := by
      have := World.ownsRow_lit (base := w.heap.size) (e := 58) (size := 2) w #[] 0 (Nat.le_refl _) (by unfold maxLen; omega) (by simp)
      simpa [OwnP, pc] using this
    go_enter Try.func30, Try.ntmps30
    go_wp2_with (at_builtin; refine wpList_append_ps rfl _ _ rfl w (Same.alloc _ _) _ [] rfl H0 _ l rfl ((H.out).same (Same.alloc _ _)) (by simpa using hl) ?_; intro v' w1 ho1 hs1 hg1)
    go_ret
    exact ⟨_, rfl, ‹_›, ‹_›⟩
end Go.Proofs.Ytldiagjnpkpepaa
