/- A statement with many orders, left by one way: what its temporaries and the world are behind it. No condition. -/
import Derived.Test.YtidijoncngfppaaReg2
import Derived.Test.YtidijoncngfppaaKept
namespace Go.Proofs.Ytidijoncngfppaa
open Go.RowKit
set_option linter.unusedVariables false
set_option maxRecDepth 100000

/-- several temporaries set -/
def putAll (a : Act) : List (Tmp × Value) → Act
  | [] => a
  | (d, v) :: l => putAll (a.put (some d) v) l

/-- left in one way (a name of its own, that nothing simplifies) -/
def Outs (D : List Tmp) (F : List Value → World → Prop) (a0 : Act) (e : Exit) (a : Act) (w : World) : Prop := e = .normal ∧ ∃ us : List Value, a = putAll a0 (D.zip us) ∧ F us w

theorem wp_out {P : Program} {c : Code} {Q : Exit → Act → World → Prop} {a0 : Act} {w0 : World} (D : List Tmp) (F : List Value → World → Prop)
    (h : c.wp P (Outs D F a0) a0 w0)
    (k : ∀ us w, F us w → Q .normal (putAll a0 (D.zip us)) w) : c.wp P Q a0 w0 :=
  Code.wp_mono (fun e a w ⟨he, us, ha, hF⟩ => by subst he ha; exact k us w hF) h

section
variable {P : Program} {ops : Array Oper} {Q : Exit → Act → World → Prop} {S : World → Prop} {listed : Array Bool} {a : Act} {w : World} {fuel : Nat}
/-- three operations that may come now -/
theorem reg_three (i j k : Nat) {oi oj ok : Oper} (hi' : ops.toList[i]? = some oi) (hj' : ops.toList[j]? = some oj) (hk' : ops.toList[k]? = some ok) (hr : Region.ready .any ops listed = [i, j, k])
    (hwi : Region.wanted oi (yielded ops a.tmps) = true) (hwj : Region.wanted oj (yielded ops a.tmps) = true) (hwk : Region.wanted ok (yielded ops a.tmps) = true)
    (hI : Oper.wp P oi a w (fun a' w' => S w' ∧ wpAnyH P .any ops Q S fuel (listed.setIfInBounds i true) a' w') Q)
    (hJ : Oper.wp P oj a w (fun a' w' => S w' ∧ wpAnyH P .any ops Q S fuel (listed.setIfInBounds j true) a' w') Q)
    (hK : Oper.wp P ok a w (fun a' w' => S w' ∧ wpAnyH P .any ops Q S fuel (listed.setIfInBounds k true) a' w') Q) : wpAnyH P .any ops Q S (fuel + 1) listed a w := by
  have hi : ops[i]? = some oi := by simpa using hi'
  have hj : ops[j]? = some oj := by simpa using hj'
  have hk : ops[k]? = some ok := by simpa using hk'
  refine wpAnyH_all hr (by simp) fun q hq => ?_
  have hq2 : q = i ∨ q = j ∨ q = k := by simpa using hq
  rcases hq2 with rfl | rfl | rfl
  · unfold wpOp
    simp only [hi, hwi, if_true]
    exact .inl hI
  · unfold wpOp
    simp only [hj, hwj, if_true]
    exact .inl hJ
  · unfold wpOp
    simp only [hk, hwk, if_true]
    exact .inl hK
end

/-- append of bytes, with what grew -/
theorem wp_append_bsg {w : World} {o : Oper} {a : Act} {K : Act → World → Prop} {Q : Exit → Act → World → Prop} (sl xo : Operand)
    (ho : o.op = .call { callee := .builtin .append, args := #[sl, xo], argTypes := #[28, 28] })
    (B : Nat) (hB : B ≤ w.heap.size) (v : Value) (l : List UInt8) (hs : a.eval sl = v) (hown : OwnB w B v l) (x : Value) (m : List UInt8) (hxe : a.eval xo = x) (hx : Bs w x m) (hlen : l.length + m.length ≤ 140737488355328)
    (h : ∀ v' w', OwnB w' B v' (l ++ m) → w.grownBy w' v.ownBlock → K (a.put o.dst v') w') : Oper.wp Try.prog o a w K Q := by
  obtain ⟨v', w', hr, h1, h2⟩ := run_append_bs w o.type _ v l hown x m hx hlen hB
  exact Lib.wp_append_run w sl xo _ _ ho v x hs hxe v' w' hr (h v' w' h1 h2)
/-- a block of another type is no row's of bytes -/
theorem own_not {w : World} {B : Nat} {v : Value} {l : List UInt8} (h : OwnB w B v l) {k : Nat} {cs : Array Value} {t : TypeId} (hk : w.heap[k]? = some (.cells cs t (0, 0))) (ht : t ≠ 5) : v.ownBlock ≠ some k := by
  rcases h.2 with ⟨rfl, _⟩ | ⟨g, cap, cur, rfl, _, hg, _⟩
  · intro e; cases e
  · intro e
    have : g = k := Option.some.inj e
    subst this
    rw [hk] at hg
    cases hg
    exact ht rfl
theorem grown_keep {w w' : World} {v : Value} (hg : w.grownBy w' v.ownBlock) {k : Nat} {o : Obj} (hk : w.heap[k]? = some o) (hn : v.ownBlock ≠ some k) : w'.heap[k]? = some o :=
  (hg.block k (Array.getElem?_eq_some_iff.1 hk).1 (fun e => hn e.symm)).trans hk
end Go.Proofs.Ytidijoncngfppaa
