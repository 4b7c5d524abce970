/- Append of bytes to a slice that the call owns, beside other such slices. No condition beyond what each names. -/
import Derived.Test.YtibaelaffkfnhaaMem
import Derived.Maps.AppendAt
namespace Go.Proofs.Ytibaelaffkfnhaa
open Go.RowKit
set_option linter.unusedVariables false

/-- no cell of the one is a cell of the other -/
def Apart (v u : Value) : Prop := ∀ g, v.ownBlock = some g → u.ownBlock ≠ some g
theorem Apart.symm {v u : Value} (h : Apart v u) : Apart u v := fun g hu hv => h g hv hu
theorem Apart.nil (u : Value) (n c : Nat) : Apart (.slice none n c) u := fun g h => by simp [Value.ownBlock] at h

/-- what a growth of v leaves -/
theorem OwnB.grown {w w' : World} {B : Nat} {v u : Value} {m : List UInt8} (hu : OwnB w B u m) (hg : w.grownBy w' v.ownBlock) (ha : Apart v u) : OwnB w' B u m :=
  World.ownsRow.kept hu hg (by
    by_cases h : u.ownBlock = none
    · exact .inl h
    · right; intro he
      obtain ⟨g, hg⟩ := Option.ne_none_iff_exists'.1 h
      exact ha g (by rw [← he]; exact hg) hg)

theorem run_append_bs2 (w : World) (ty : TypeId) (B : Nat) (v : Value) (l : List UInt8) (hown : OwnB w B v l) (x : Value) (m : List UInt8) (hx : Bs w x m) (hlen : l.length + m.length ≤ 140737488355328) (hB : B ≤ w.heap.size) :
    ∃ v' w', (Builtin.append_ #[22, 22] ty #[v, x]).run Try.prog w = .ok v' w' ∧ OwnB w' B v' (l ++ m) ∧ w.grownBy w' v.ownBlock ∧ (v'.ownBlock = v.ownBlock ∨ v'.ownBlock = some w.heap.size) := by
  obtain ⟨i0, hi, hz0, hz1, hz2⟩ := info_parts u8info
  obtain ⟨ao, cap, rfl, h1, h2, h3, h4⟩ := hx
  cases ao with
  | none =>
    have hc := h3 rfl
    have hm : m = [] := List.eq_nil_of_length_eq_zero (by omega)
    subst hm hc
    exact ⟨v, w, run_append_owned_none w B _ ty _ i0 1 Try.underlying22 hi v _ _ hown, by simpa using hown, World.grownBy.refl _ _, .inl rfl⟩
  | some ad =>
    obtain ⟨v', w', hr, ho, hg, _, h5⟩ := run_append_own_at (P := Try.prog) w B 22 ty 5 i0 (.int .u8 0) 1 1 Try.underlying22 hi hz0 hz1 hz2 rfl (by decide) v l.length (l.map b8) hown ad m.length cap (m.map b8) (by simp)
      (fun j u hu => by
        simp only [List.getElem?_map, Option.map_eq_some_iff] at hu
        obtain ⟨b, hb, rfl⟩ := hu
        exact (h4 ad rfl).2 j b hb) (fun u hu => by
        obtain ⟨b, _, rfl⟩ := List.mem_map.1 hu
        rfl) (by unfold maxLen; omega) (by omega) hB
    exact ⟨v', w', hr, by simpa [OwnB] using ho, hg, h5⟩

theorem wpList_append_bs2 {w : World} {ops : Array Oper} {rest : List Oper} {o : Oper} {a : Act} {Q : Exit → Act → World → Prop} (hgd : o.guard = none) (sl xo : Operand)
    (ho : o.op = .call { callee := .builtin .append, args := #[sl, xo], argTypes := #[22, 22] })
    (A : World) (hA : Same A w) (v : Value) (l : List UInt8) (hs : a.eval sl = v) (hown : OwnB w A.heap.size v l) (x : Value) (m : List UInt8) (hxe : a.eval xo = x) (hx : Bs w x m) (hlen : l.length + m.length ≤ 140737488355328)
    (h : ∀ v' w', OwnB w' A.heap.size v' (l ++ m) → Same A w' → (∀ B u k, OwnB w B u k → Apart v u → OwnB w' B u k ∧ Apart v' u) → wpList Try.prog ops Q rest (a.put o.dst v') w') : wpList Try.prog ops Q (o :: rest) a w := by
  obtain ⟨v', w', hr, h1, h2, h3⟩ := run_append_bs2 w o.type _ v l hown x m hx hlen hA.size
  refine Lib.wpList_append_run w hgd sl xo _ _ ho v x hs hxe v' w' hr (h v' w' h1 (hA.grown h2 (fun k hk => (hown.lt k hk).1)) fun B u k hu ha => ⟨hu.grown h2 ha, ?_⟩)
  intro g hg hug
  rcases h3 with h3 | h3
  · exact ha g (by rw [← h3]; exact hg) hug
  · have := (hu.lt g hug).2
    rw [h3] at hg
    simp at hg
    omega
end Go.Proofs.Ytibaelaffkfnhaa
