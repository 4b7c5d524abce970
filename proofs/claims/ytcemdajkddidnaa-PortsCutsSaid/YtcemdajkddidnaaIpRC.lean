/- Contracts of the document's own answers for layer 4: Build; a header in the document's form. No condition beyond what each names. -/
import Derived.Test.YtcemdajkddidnaaIpRB
namespace Go.Proofs.Ytcemdajkddidnaa
open Go.RowKit
set_option linter.unusedVariables false

/-- append of bytes, in a region that draws -/
theorem wp_append_bs {w : World} {o : Oper} {a : Act} {K : Act → World → Prop} {Q : Exit → Act → World → Prop} (sl xo : Operand)
    (ho : o.op = .call { callee := .builtin .append, args := #[sl, xo], argTypes := #[22, 22] })
    (A : World) (hA : Same A w) (v : Value) (l : List UInt8) (hs : a.eval sl = v) (hown : OwnB w A.heap.size v l) (x : Value) (m : List UInt8) (hxe : a.eval xo = x) (hx : Bs w x m) (hlen : l.length + m.length ≤ 140737488355328)
    (h : ∀ v' w', OwnB w' A.heap.size v' (l ++ m) → Same A w' → K (a.put o.dst v') w') : Oper.wp Try.prog o a w K Q := by
  obtain ⟨v', w', hr, h1, h2⟩ := run_append_bs w o.type _ v l hown x m hx hlen hA.size
  exact Lib.wp_append_run w sl xo _ _ ho v x hs hxe v' w' hr (h v' w' h1 (hA.grown h2 (fun k hk => (hown.lt k hk).1)))

/-- the addresses are such -/
def HdR (h : Hd) : Prop := (0 ≤ h.src ∧ h.src ≤ 4294967295) ∧ (0 ≤ h.dst ∧ h.dst ≤ 4294967295)

end Go.Proofs.Ytcemdajkddidnaa
