/- Byte slices that a call owns: append of bytes, the empty slice, a copy of bytes. No condition beyond what each names. -/
import Derived.Test.YtidijoncngfppaaProg
import Derived.Test.YtidijoncngfppaaBase
import Derived.BigQuiet
import Derived.Outline
import Derived.LoopTactic
import Derived.WalkSpells
import Derived.Lib.SliceRun
import Derived.Lib.AppendZeros
namespace Go.Proofs.Ytidijoncngfppaa
open Go.RowKit
set_option linter.unusedVariables false

/-- v is a slice that the call made from block B on, and its bytes are l -/
def OwnB (w : World) (B : Nat) (v : Value) (l : List UInt8) : Prop := w.ownsRow B 5 1 v l.length (l.map b8)

theorem u8info : (Try.prog.info? 5).map (fun i => (i.zero, i.size, i.bytes)) = some (some (.int .u8 0), 1, 1) := by kernel_rfl

theorem OwnB.bs {w : World} {B : Nat} {v : Value} {l : List UInt8} (h : OwnB w B v l) : Bs w v l := by
  rcases h.2 with ⟨rfl, h0⟩ | ⟨g, cap, cur, rfl, hb, hg, h1, h2, h3, h4⟩
  · exact ⟨none, 0, by rw [h0], by omega, by omega, fun _ => rfl, fun _ h => by cases h⟩
  · refine ⟨some ⟨g, 0, none⟩, cap, rfl, h1, by unfold maxLen at h2; exact h2, by simp, fun ad had => ?_⟩
    cases had
    refine ⟨fun _ => rfl, fun j u hu => ?_⟩
    exact World.ownsRow.cells h (g := g) rfl j (b8 u) (by simp [hu])

theorem OwnB.lt {w : World} {B : Nat} {v : Value} {l : List UInt8} (h : OwnB w B v l) : ∀ g, v.ownBlock = some g → B ≤ g ∧ g < w.heap.size := World.ownsRow.lt h
theorem OwnB.mono {w : World} {B B' : Nat} {v : Value} {l : List UInt8} (h : OwnB w B v l) (hB : B' ≤ B) : OwnB w B' v l := by
  obtain ⟨h1, h2⟩ := h
  refine ⟨h1, ?_⟩
  rcases h2 with h2 | ⟨g, cap, cur, hv, hg, r⟩
  · exact .inl h2
  · exact .inr ⟨g, cap, cur, hv, by omega, r⟩
theorem OwnB.nil (w : World) (B : Nat) : OwnB w B (.slice none 0 0) [] := World.ownsRow_nil w B _ 1
theorem OwnB.same {w w' : World} {B : Nat} {v : Value} {l : List UInt8} (h : Same w w') (hb : OwnB w B v l) : OwnB w' B v l :=
  World.ownsRow.kept (row := none) hb ⟨h.os, h.tape, h.output, h.size, fun k hk _ => Below.block h k hk⟩ (by cases v.ownBlock <;> simp)
/-- []byte{} -/
theorem OwnB.empty (w : World) : OwnB (w.alloc (.cells #[] 5)) w.heap.size (.slice (some ⟨w.heap.size, 0, none⟩) 0 0) [] := by
  have := World.ownsRow_lit (base := w.heap.size) (e := 5) (size := 1) w #[] 0 (Nat.le_refl _) (by unfold maxLen; omega) (by simp)
  simpa [OwnB] using this

/-- append of bytes to a slice that the call owns -/
theorem run_append_bs (w : World) (ty : TypeId) (B : Nat) (v : Value) (l : List UInt8) (hown : OwnB w B v l) (x : Value) (m : List UInt8) (hx : Bs w x m) (hlen : l.length + m.length ≤ 140737488355328) (hB : B ≤ w.heap.size) :
    ∃ v' w', (Builtin.append_ #[28, 28] ty #[v, x]).run Try.prog w = .ok v' w' ∧ OwnB w' B v' (l ++ m) ∧ w.grownBy w' v.ownBlock := by
  obtain ⟨i0, hi, hz0, hz1, hz2⟩ := info_parts u8info
  obtain ⟨ao, cap, rfl, h1, h2, h3, h4⟩ := hx
  cases ao with
  | none =>
    have hc := h3 rfl
    have hm : m = [] := List.eq_nil_of_length_eq_zero (by omega)
    subst hm hc
    exact ⟨v, w, run_append_owned_none w B _ ty _ i0 1 Try.underlying28 hi v _ _ hown, by simpa using hown, World.grownBy.refl _ _⟩
  | some ad =>
    obtain ⟨v', w', hr, ho, hg, _⟩ := run_append_own w B 28 ty 5 i0 (.int .u8 0) 1 1 Try.underlying28 hi hz0 hz1 hz2 rfl (by decide) v l.length (l.map b8) hown ad m.length cap (m.map b8) (by simp)
      (fun j u hu => by
        simp only [List.getElem?_map, Option.map_eq_some_iff] at hu
        obtain ⟨b, hb, rfl⟩ := hu
        exact (h4 ad rfl).2 j b hb) (fun u hu => by
        obtain ⟨b, _, rfl⟩ := List.mem_map.1 hu
        rfl) (by unfold maxLen; omega) (by omega) hB
    exact ⟨v', w', hr, by simpa [OwnB] using ho, hg⟩

theorem wpList_append_bs {w : World} {ops : Array Oper} {rest : List Oper} {o : Oper} {a : Act} {Q : Exit → Act → World → Prop} (hgd : o.guard = none) (sl xo : Operand)
    (ho : o.op = .call { callee := .builtin .append, args := #[sl, xo], argTypes := #[28, 28] })
    (A : World) (hA : Same A w) (v : Value) (l : List UInt8) (hs : a.eval sl = v) (hown : OwnB w A.heap.size v l) (x : Value) (m : List UInt8) (hxe : a.eval xo = x) (hx : Bs w x m) (hlen : l.length + m.length ≤ 140737488355328)
    (h : ∀ v' w', OwnB w' A.heap.size v' (l ++ m) → Same A w' → wpList Try.prog ops Q rest (a.put o.dst v') w') : wpList Try.prog ops Q (o :: rest) a w := by
  obtain ⟨v', w', hr, h1, h2⟩ := run_append_bs w o.type _ v l hown x m hx hlen hA.size
  exact Lib.wpList_append_run w hgd sl xo _ _ ho v x hs hxe v' w' hr (h v' w' h1 (hA.grown h2 (fun k hk => (hown.lt k hk).1)))

/-- the same, in a region that draws its order -/
theorem step_append_bs {w : World} {ops : Array Oper} {o : Oper} {a : Act} {K : Act → World → Prop} {Q : Exit → Act → World → Prop} {E : Prop} (hgd : o.guard = none) (sl xo : Operand)
    (ho : o.op = .call { callee := .builtin .append, args := #[sl, xo], argTypes := #[28, 28] })
    (A : World) (hA : Same A w) (v : Value) (l : List UInt8) (hs : a.eval sl = v) (hown : OwnB w A.heap.size v l) (x : Value) (m : List UInt8) (hxe : a.eval xo = x) (hx : Bs w x m) (hlen : l.length + m.length ≤ 140737488355328)
    (h : ∀ v' w', OwnB w' A.heap.size v' (l ++ m) → Same A w' → K (a.put o.dst v') w') : if Region.wanted o (yielded ops a.tmps) = true then Oper.wp Try.prog o a w K Q else E := by
  rw [if_pos (by simp [Region.wanted, hgd])]
  obtain ⟨v', w', hr, h1, h2⟩ := run_append_bs w o.type _ v l hown x m hx hlen hA.size
  exact Lib.wp_append_run w sl xo _ _ ho v x hs hxe v' w' hr (h v' w' h1 (hA.grown h2 (fun k hk => (hown.lt k hk).1)))
end Go.Proofs.Ytidijoncngfppaa
