/- Rows of prefixes: slices that the call made, and append to them. No condition. -/
import Derived.Test.YtldiagjnpkpepaaMem
import Derived.Test.YtldiagjnpkpepaaPfxO
namespace Go.Proofs.Ytldiagjnpkpepaa
open Go.RowKit
set_option linter.unusedVariables false
set_option maxRecDepth 100000

/-- the cells of a row of prefixes -/
def pc (l : List (Int × Int)) : List Value := l.flatMap fun p => [.int .u32 p.1, .int .i64 p.2]
theorem pc_cons (p : Int × Int) (l : List (Int × Int)) : pc (p :: l) = .int .u32 p.1 :: .int .i64 p.2 :: pc l := rfl
theorem pc_append (l m : List (Int × Int)) : pc (l ++ m) = pc l ++ pc m := by simp [pc]
theorem pc_length (l : List (Int × Int)) : (pc l).length = l.length * 2 := by
  induction l with
  | nil => rfl
  | cons p l ih => rw [pc_cons]; simp [ih]; omega
theorem pc_at : ∀ (l : List (Int × Int)) (j : Nat) (p : Int × Int), l[j]? = some p → (pc l)[j * 2]? = some (.int .u32 p.1) ∧ (pc l)[j * 2 + 1]? = some (.int .i64 p.2)
  | [], j, p, h => by simp at h
  | q :: l, 0, p, h => by
    simp at h
    subst h
    exact ⟨rfl, rfl⟩
  | q :: l, j + 1, p, h => by
    have := pc_at l j p (by simpa using h)
    rw [pc_cons, show (j + 1) * 2 = j * 2 + 1 + 1 from by omega]
    simpa using this
theorem pc_inv : ∀ (l : List (Int × Int)) (k : Nat) (u : Value), (pc l)[k]? = some u → ∃ (j : Nat) (p : Int × Int), l[j]? = some p ∧ ((k = j * 2 ∧ u = .int .u32 p.1) ∨ (k = j * 2 + 1 ∧ u = .int .i64 p.2))
  | [], k, u, h => by simp [pc] at h
  | q :: l, 0, u, h => ⟨0, q, rfl, .inl ⟨rfl, by rw [pc_cons] at h; simp at h; exact h.symm⟩⟩
  | q :: l, 1, u, h => ⟨0, q, rfl, .inr ⟨rfl, by rw [pc_cons] at h; simp at h; exact h.symm⟩⟩
  | q :: l, k + 2, u, h => by
    rw [pc_cons] at h
    obtain ⟨j, p, hj, hc⟩ := pc_inv l k u (by simpa using h)
    refine ⟨j + 1, p, by simpa using hj, ?_⟩
    rcases hc with ⟨h1, h2⟩ | ⟨h1, h2⟩
    · exact .inl ⟨by omega, h2⟩
    · exact .inr ⟨by omega, h2⟩
theorem pc_one (l : List (Int × Int)) : ∀ u ∈ pc l, u.oneCell' = true := by
  intro u hu
  obtain ⟨k, hk⟩ := List.getElem?_of_mem hu
  obtain ⟨j, p, _, ⟨_, rfl⟩ | ⟨_, rfl⟩⟩ := pc_inv l k u hk <;> rfl

/-- a slice of prefixes that the call made (from block B on) -/
def OwnP (w : World) (B : Nat) (v : Value) (l : List (Int × Int)) : Prop := w.ownsRow B 58 2 v l.length (pc l)
theorem pinfo : (Try.prog.info? 58).map (fun i => (i.zero, i.size, i.bytes)) = some (some (.agg #[.int .u32 0, .int .i64 0]), 2, 16) := by kernel_rfl

theorem Ps.same {w w' : World} {v : Value} {l : List (Int × Int)} (h : Same w w') (hb : Ps w v l) : Ps w' v l := by
  obtain ⟨ao, cap, rfl, h1, h2, h3, h4⟩ := hb
  refine ⟨ao, cap, rfl, h1, h2, h3, fun ad had => ⟨(h4 ad had).1, fun j p hj => ?_⟩⟩
  obtain ⟨c0, c1⟩ := (h4 ad had).2 j p hj
  exact ⟨(h.cell (World.block_lt_of_cell? _ _ c0)).trans c0, (h.cell (World.block_lt_of_cell? _ _ c1)).trans c1⟩
theorem Ps.nil (w : World) : Ps w (.slice none 0 0) [] := ⟨none, 0, rfl, Nat.le_refl _, by omega, fun _ => rfl, fun _ h => by cases h⟩

theorem Ps.at {w : World} {ab o n cap : Nat} {sp : Option Nat} {l : List (Int × Int)} (h : Ps w (.slice (some ⟨ab, o, sp⟩) n cap) l) (k : Nat) (hk : k < l.length) :
    sp = none ∧ n = l.length ∧ w.cell? ⟨ab, o + k * 2, none⟩ = some (.int .u32 l[k].1) ∧ w.cell? ⟨ab, o + k * 2 + 1, none⟩ = some (.int .i64 l[k].2) := by
  obtain ⟨ao, cap', he, h1, h2, h3, h4⟩ := h
  cases he
  have hsp : sp = none := (h4 _ rfl).1 (by intro e; subst e; simp at hk)
  subst hsp
  obtain ⟨c0, c1⟩ := (h4 _ rfl).2 k l[k] (by simp [hk])
  rw [pfx_add_of_spot] at c0 c1
  rw [← Nat.add_assoc] at c1
  exact ⟨rfl, rfl, c0, c1⟩
theorem OwnP.ps {w : World} {B : Nat} {v : Value} {l : List (Int × Int)} (h : OwnP w B v l) : Ps w v l := by
  rcases h.2 with ⟨rfl, h0⟩ | ⟨g, cap, cur, rfl, hb, hg, h1, h2, h3, h4⟩
  · exact ⟨none, 0, by rw [h0], by omega, by omega, fun _ => rfl, fun _ h => by cases h⟩
  · refine ⟨some ⟨g, 0, none⟩, cap, rfl, h1, by unfold maxLen at h2; exact h2, by simp, fun ad had => ?_⟩
    cases had
    refine ⟨fun _ => rfl, fun j p hj => ?_⟩
    obtain ⟨q0, q1⟩ := pc_at l j p hj
    exact ⟨World.ownsRow.cells h (g := g) rfl (j * 2) _ q0, World.ownsRow.cells h (g := g) rfl (j * 2 + 1) _ q1⟩
theorem OwnP.lt {w : World} {B : Nat} {v : Value} {l : List (Int × Int)} (h : OwnP w B v l) : ∀ g, v.ownBlock = some g → B ≤ g ∧ g < w.heap.size := World.ownsRow.lt h
theorem OwnP.mono {w : World} {B B' : Nat} {v : Value} {l : List (Int × Int)} (h : OwnP w B v l) (hB : B' ≤ B) : OwnP w B' v l := by
  obtain ⟨h1, h2⟩ := h
  refine ⟨h1, ?_⟩
  rcases h2 with h2 | ⟨g, cap, cur, hv, hg, r⟩
  · exact .inl h2
  · exact .inr ⟨g, cap, cur, hv, by omega, r⟩
theorem OwnP.nil (w : World) (B : Nat) : OwnP w B (.slice none 0 0) [] := World.ownsRow_nil w B _ 2
theorem OwnP.same {w w' : World} {B : Nat} {v : Value} {l : List (Int × Int)} (h : Same w w') (hb : OwnP w B v l) : OwnP w' B v l :=
  World.ownsRow.kept (row := none) hb ⟨h.os, h.tape, h.output, h.size, fun k hk _ => Below.block h k hk⟩ (by cases v.ownBlock <;> simp)
theorem OwnP.mod {w w' : World} {B s : Nat} {v : Value} {l : List (Int × Int)} (h : Mod s w w') (hs : v.ownBlock ≠ some s) (hb : OwnP w B v l) : OwnP w' B v l :=
  World.ownsRow.kept (row := some s) hb ⟨h.os, h.tape, h.output, h.size, fun k hk hn => h.block k hk (fun e => hn (by rw [e]))⟩ (.inr hs)
theorem OwnP.one (w : World) (p : Int × Int) : OwnP (w.alloc (.cells #[.int .u32 p.1, .int .i64 p.2] 58)) w.heap.size (.slice (some ⟨w.heap.size, 0, none⟩) 1 1) [p] := by
  have := World.ownsRow_lit (base := w.heap.size) (e := 58) (size := 2) w #[.int .u32 p.1, .int .i64 p.2] 1 (Nat.le_refl _) (by unfold maxLen; omega) (by simp)
  simpa [OwnP, pc] using this

theorem run_append_ps (w : World) (ty : TypeId) (B : Nat) (v : Value) (l : List (Int × Int)) (hown : OwnP w B v l) (x : Value) (m : List (Int × Int)) (hx : Ps w x m) (hlen : l.length + m.length ≤ 8796093022208) (hB : B ≤ w.heap.size) :
    ∃ v' w', (Builtin.append_ #[22, 22] ty #[v, x]).run Try.prog w = .ok v' w' ∧ OwnP w' B v' (l ++ m) ∧ w.grownBy w' v.ownBlock := by
  obtain ⟨i0, hi, hz0, hz1, hz2⟩ := info_parts pinfo
  obtain ⟨ao, cap, rfl, h1, h2, h3, h4⟩ := hx
  cases ao with
  | none =>
    have hc := h3 rfl
    have hm : m = [] := List.eq_nil_of_length_eq_zero (by omega)
    subst hm hc
    exact ⟨v, w, run_append_owned_none w B _ ty _ i0 2 Try.underlying22 hi v _ _ hown, by simpa using hown, World.grownBy.refl _ _⟩
  | some ad =>
    obtain ⟨v', w', hr, ho, hg, _⟩ := run_append_own w B 22 ty 58 i0 (.agg #[.int .u32 0, .int .i64 0]) 2 16 Try.underlying22 hi hz0 hz1 hz2 rfl (by decide) v l.length (pc l) hown ad m.length cap (pc m) (pc_length m)
      (fun k u hu => by
        obtain ⟨j, p, hj, ⟨rfl, rfl⟩ | ⟨rfl, rfl⟩⟩ := pc_inv m k u hu
        · exact ((h4 ad rfl).2 j p hj).1
        · exact ((h4 ad rfl).2 j p hj).2) (pc_one m) (by unfold maxLen; omega) (by omega) hB
    exact ⟨v', w', hr, by unfold OwnP; rw [List.length_append, pc_append]; exact ho, hg⟩

theorem wpList_append_ps {w : World} {ops : Array Oper} {rest : List Oper} {o : Oper} {a : Act} {Q : Exit → Act → World → Prop} (hgd : o.guard = none) (sl xo : Operand)
    (ho : o.op = .call { callee := .builtin .append, args := #[sl, xo], argTypes := #[22, 22] })
    (A : World) (hA : Same A w) (v : Value) (l : List (Int × Int)) (hs : a.eval sl = v) (hown : OwnP w A.heap.size v l) (x : Value) (m : List (Int × Int)) (hxe : a.eval xo = x) (hx : Ps w x m) (hlen : l.length + m.length ≤ 8796093022208)
    (h : ∀ v' w', OwnP w' A.heap.size v' (l ++ m) → Same A w' → w.grownBy w' v.ownBlock → wpList Try.prog ops Q rest (a.put o.dst v') w') : wpList Try.prog ops Q (o :: rest) a w := by
  obtain ⟨v', w', hr, h1, h2⟩ := run_append_ps w o.type _ v l hown x m hx hlen hA.size
  exact Lib.wpList_append_run w hgd sl xo _ _ ho v x hs hxe v' w' hr (h v' w' h1 (hA.grown h2 (fun k hk => (hown.lt k hk).1)) h2)

/-- append where the rest of the memory is told by the growth alone -/
theorem wpList_append_psB {w : World} {ops : Array Oper} {rest : List Oper} {o : Oper} {a : Act} {Q : Exit → Act → World → Prop} (hgd : o.guard = none) (sl xo : Operand)
    (ho : o.op = .call { callee := .builtin .append, args := #[sl, xo], argTypes := #[22, 22] })
    (B : Nat) (hB : B ≤ w.heap.size) (v : Value) (l : List (Int × Int)) (hs : a.eval sl = v) (hown : OwnP w B v l) (x : Value) (m : List (Int × Int)) (hxe : a.eval xo = x) (hx : Ps w x m) (hlen : l.length + m.length ≤ 8796093022208)
    (h : ∀ v' w', OwnP w' B v' (l ++ m) → w.grownBy w' v.ownBlock → wpList Try.prog ops Q rest (a.put o.dst v') w') : wpList Try.prog ops Q (o :: rest) a w := by
  obtain ⟨v', w', hr, h1, h2⟩ := run_append_ps w o.type _ v l hown x m hx hlen hB
  exact Lib.wpList_append_run w hgd sl xo _ _ ho v x hs hxe v' w' hr (h v' w' h1 h2)
/-- a growth changes at most one old block -/
theorem grown_mod {w w' : World} {v : Value} (hg : w.grownBy w' v.ownBlock) (t : Nat) (ht : v.ownBlock = none ∨ v.ownBlock = some t) : Mod t w w' :=
  ⟨hg.os, hg.tape, hg.output, hg.size, fun k hk hn => hg.block k hk (by rcases ht with h | h <;> rw [h] <;> simp; exact fun e => hn e)⟩
end Go.Proofs.Ytldiagjnpkpepaa
