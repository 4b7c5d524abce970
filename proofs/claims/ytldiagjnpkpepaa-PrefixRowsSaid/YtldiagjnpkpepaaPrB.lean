/- Rules for the document's Sort: append of prefixes in a statement whose order is open, two operations that may come. No condition. -/
import Derived.Test.YtldiagjnpkpepaaMemP
import Derived.Test.YtldiagjnpkpepaaReg
import Derived.Test.YtldiagjnpkpepaaPrG
namespace Go.Proofs.Ytldiagjnpkpepaa
open Go.RowKit
set_option linter.unusedVariables false
set_option maxRecDepth 100000

section
variable {P : Program} {ops : Array Oper} {Q : Exit → Act → World → Prop} {S : World → Prop} {listed : Array Bool} {a : Act} {w : World} {fuel : Nat}
/-- two operations that may come now: either way -/
theorem reg_two (i j : Nat) {oi oj : Oper} (hi' : ops.toList[i]? = some oi) (hj' : ops.toList[j]? = some oj) (hr : Region.ready .any ops listed = [i, j]) (hwi : Region.wanted oi (yielded ops a.tmps) = true) (hwj : Region.wanted oj (yielded ops a.tmps) = true)
    (hI : Oper.wp P oi a w (fun a' w' => S w' ∧ wpAnyH P .any ops Q S fuel (listed.setIfInBounds i true) a' w') Q)
    (hJ : Oper.wp P oj a w (fun a' w' => S w' ∧ wpAnyH P .any ops Q S fuel (listed.setIfInBounds j true) a' w') Q) : wpAnyH P .any ops Q S (fuel + 1) listed a w := by
  have hi : ops[i]? = some oi := by simpa using hi'
  have hj : ops[j]? = some oj := by simpa using hj'
  refine wpAnyH_all hr (by simp) fun q hq => ?_
  have hq2 : q = i ∨ q = j := by simpa using hq
  rcases hq2 with rfl | rfl
  · unfold wpOp
    simp only [hi, hwi, if_true]
    exact .inl hI
  · unfold wpOp
    simp only [hj, hwj, if_true]
    exact .inl hJ
end

theorem wp_append_ps {w : World} {o : Oper} {a : Act} {K : Act → World → Prop} {Q : Exit → Act → World → Prop} (sl xo : Operand)
    (ho : o.op = .call { callee := .builtin .append, args := #[sl, xo], argTypes := #[22, 22] })
    (A : World) (hA : Same A w) (v : Value) (l : List (Int × Int)) (hs : a.eval sl = v) (hown : OwnP w A.heap.size v l) (x : Value) (m : List (Int × Int)) (hxe : a.eval xo = x) (hx : Ps w x m) (hlen : l.length + m.length ≤ 8796093022208)
    (h : ∀ v' w', OwnP w' A.heap.size v' (l ++ m) → Same A w' → w.grownBy w' v.ownBlock → K (a.put o.dst v') w') : Oper.wp Try.prog o a w K Q := by
  obtain ⟨v', w', hr, h1, h2⟩ := run_append_ps w o.type _ v l hown x m hx hlen hA.size
  exact Lib.wp_append_run w sl xo _ _ ho v x hs hxe v' w' hr (h v' w' h1 (hA.grown h2 (fun k hk => (hown.lt k hk).1)) h2)

theorem OwnP.none (w : World) : OwnP (w.alloc (.cells #[] 58)) w.heap.size (.slice (some ⟨w.heap.size, 0, none⟩) 0 0) [] := by
  have := World.ownsRow_lit (base := w.heap.size) (e := 58) (size := 2) w #[] 0 (Nat.le_refl _) (by unfold maxLen; omega) (by simp)
  simpa [OwnP, pc] using this
end Go.Proofs.Ytldiagjnpkpepaa
