/- Rows of any element: a slice read as its elements' cells; slices that the call made; append. No condition. -/
import Derived.Test.YtidijoncngfppaaMem
namespace Go.Proofs.Ytidijoncngfppaa
open Go.RowKit
set_option linter.unusedVariables false
set_option maxRecDepth 100000

/-- how an element lies in memory: its type, and its cells, k of them, each one cell -/
structure Lay (α : Type) where
  e : TypeId
  k : Nat
  enc : α → List Value
  len : ∀ a, (enc a).length = k
  one : ∀ a u, u ∈ enc a → u.oneCell' = true

section
variable {α : Type}

/-- the cells of a row -/
def Lay.row (L : Lay α) (l : List α) : List Value := l.flatMap L.enc
theorem Lay.row_nil (L : Lay α) : L.row [] = [] := rfl
theorem Lay.row_cons (L : Lay α) (a : α) (l : List α) : L.row (a :: l) = L.enc a ++ L.row l := rfl
theorem Lay.row_append (L : Lay α) (l m : List α) : L.row (l ++ m) = L.row l ++ L.row m := by simp [Lay.row]
theorem Lay.row_length (L : Lay α) (l : List α) : (L.row l).length = l.length * L.k := by
  induction l with
  | nil => simp [L.row_nil]
  | cons a l ih => rw [L.row_cons, List.length_append, L.len, ih, List.length_cons, Nat.add_mul]; omega
theorem Lay.row_one (L : Lay α) (l : List α) : ∀ u ∈ L.row l, u.oneCell' = true := by
  intro u hu
  obtain ⟨a, _, h⟩ := List.mem_flatMap.1 hu
  exact L.one a u h
theorem Lay.row_at (L : Lay α) : ∀ (l : List α) (j i : Nat) (a : α) (u : Value), l[j]? = some a → (L.enc a)[i]? = some u → (L.row l)[j * L.k + i]? = some u
  | [], j, i, a, u, h, hi => by simp at h
  | b :: l, 0, i, a, u, h, hi => by
    obtain rfl : b = a := by simpa using h
    have hlt : i < (L.enc b).length := (List.getElem?_eq_some_iff.1 hi).1
    rw [L.row_cons, Nat.zero_mul, Nat.zero_add, List.getElem?_append_left hlt]
    exact hi
  | b :: l, j + 1, i, a, u, h, hi => by
    have hr := Lay.row_at L l j i a u (by simpa using h) hi
    rw [L.row_cons, List.getElem?_append_right (by rw [L.len, Nat.add_mul]; omega), L.len]
    rw [show (j + 1) * L.k + i - L.k = j * L.k + i from by rw [Nat.add_mul]; omega]
    exact hr

/-- the value reads as a row of these elements -/
def Rs (L : Lay α) (w : World) (v : Value) (l : List α) : Prop :=
  ∃ ao cap, v = .slice ao l.length cap ∧ l.length ≤ cap ∧ cap ≤ 9223372036854775807 ∧ (ao = none → cap = 0) ∧
    ∀ ad, ao = some ad → (l ≠ [] → ad.spot = none) ∧ ∀ j u, (L.row l)[j]? = some u → w.cell? (ad.add j) = some u

theorem Rs.nil (L : Lay α) (w : World) : Rs L w (.slice none 0 0) [] := ⟨none, 0, rfl, Nat.le_refl _, by omega, fun _ => rfl, fun _ h => by cases h⟩
theorem Rs.same {L : Lay α} {w w' : World} {v : Value} {l : List α} (h : Same w w') (hb : Rs L w v l) : Rs L w' v l := by
  obtain ⟨ao, cap, rfl, h1, h2, h3, h4⟩ := hb
  refine ⟨ao, cap, rfl, h1, h2, h3, fun ad had => ⟨(h4 ad had).1, fun j u hu => ?_⟩⟩
  have := (h4 ad had).2 j u hu
  rw [Below.cell h (World.block_lt_of_cell? w _ this)]; exact this
theorem Rs.mod {L : Lay α} {s : Nat} {w w' : World} {v : Value} {l : List α} (h : Mod s w w') (hs : v.ownBlock ≠ some s) (hb : Rs L w v l) : Rs L w' v l := by
  obtain ⟨ao, cap, rfl, h1, h2, h3, h4⟩ := hb
  refine ⟨ao, cap, rfl, h1, h2, h3, fun ad had => ⟨(h4 ad had).1, fun j u hu => ?_⟩⟩
  have hc := (h4 ad had).2 j u hu
  subst had
  have hne : (ad.add j).block ≠ s := by rw [Addr.add_block]; intro e; exact hs (by simp [Value.ownBlock, e])
  rw [World.cell?_of_block (w := w) (h.block _ (World.block_lt_of_cell? w _ hc) hne)]; exact hc
theorem Rs.form {L : Lay α} {w : World} {v : Value} {l : List α} (h : Rs L w v l) {n : Nat} (hn : l.length = n) : ∃ ao cap, v = .slice ao n cap := by
  obtain ⟨ao, cap, rfl, -, -, -, -⟩ := h
  exact ⟨ao, cap, by rw [hn]⟩
theorem row_add (b o j : Nat) : (⟨b, o, none⟩ : Addr).add j = ⟨b, o + j, none⟩ := by by_cases h : j = 0 <;> simp [Addr.add, h]
/-- where its elements lie -/
theorem Rs.at {L : Lay α} {w : World} {v : Value} {l : List α} (h : Rs L w v l) (hl : 0 < l.length) : ∃ b o cap, v = .slice (some ⟨b, o, none⟩) l.length cap ∧ l.length ≤ cap ∧ cap ≤ 9223372036854775807 ∧
    ∀ w', Same w w' → ∀ j a, l[j]? = some a → ∀ i u, (L.enc a)[i]? = some u → w'.cell? ⟨b, o + (j * L.k + i), none⟩ = some u := by
  obtain ⟨ao, cap, rfl, h1, h2, h3, h4⟩ := h
  cases ao with
  | none => have := h3 rfl; omega
  | some ad =>
    obtain ⟨b, o, sp⟩ := ad
    have hsp := (h4 _ rfl).1 (by intro e; subst e; simp at hl)
    simp only at hsp
    subst hsp
    refine ⟨b, o, cap, rfl, h1, h2, fun w' hs j a hj i u hi => ?_⟩
    have hc := (h4 _ rfl).2 _ u (L.row_at l j i a u hj hi)
    rw [row_add] at hc
    rw [Below.cell hs (World.block_lt_of_cell? w _ hc)]
    exact hc

/-- a row that the call made from block B on -/
def OwnR (L : Lay α) (w : World) (B : Nat) (v : Value) (l : List α) : Prop := w.ownsRow B L.e L.k v l.length (L.row l)
theorem OwnR.rs {L : Lay α} {w : World} {B : Nat} {v : Value} {l : List α} (h : OwnR L w B v l) : Rs L w v l := by
  rcases h.2 with ⟨rfl, h0⟩ | ⟨g, cap, cur, rfl, hb, hg, h1, h2, h3, h4⟩
  · obtain rfl : l = [] := List.eq_nil_of_length_eq_zero h0
    exact Rs.nil L w
  · refine ⟨some ⟨g, 0, none⟩, cap, rfl, h1, by unfold maxLen at h2; exact h2, by simp, fun ad had => ?_⟩
    cases had
    exact ⟨fun _ => rfl, fun j u hu => World.ownsRow.cells h (g := g) rfl j u hu⟩
theorem OwnR.lt {L : Lay α} {w : World} {B : Nat} {v : Value} {l : List α} (h : OwnR L w B v l) : ∀ g, v.ownBlock = some g → B ≤ g ∧ g < w.heap.size := World.ownsRow.lt h
theorem OwnR.mono {L : Lay α} {w : World} {B B' : Nat} {v : Value} {l : List α} (h : OwnR L w B v l) (hB : B' ≤ B) : OwnR L w B' v l := by
  obtain ⟨h1, h2⟩ := h
  refine ⟨h1, ?_⟩
  rcases h2 with h2 | ⟨g, cap, cur, hv, hg, r⟩
  · exact .inl h2
  · exact .inr ⟨g, cap, cur, hv, by omega, r⟩
theorem OwnR.nil (L : Lay α) (w : World) (B : Nat) : OwnR L w B (.slice none 0 0) [] := by
  have := World.ownsRow_nil w B L.e L.k
  exact this
theorem OwnR.same {L : Lay α} {w w' : World} {B : Nat} {v : Value} {l : List α} (h : Same w w') (hb : OwnR L w B v l) : OwnR L w' B v l :=
  World.ownsRow.kept (row := none) hb ⟨h.os, h.tape, h.output, h.size, fun k hk _ => Below.block h k hk⟩ (by cases v.ownBlock <;> simp)
theorem OwnR.mod {L : Lay α} {w w' : World} {B s : Nat} {v : Value} {l : List α} (h : Mod s w w') (hs : v.ownBlock ≠ some s) (hb : OwnR L w B v l) : OwnR L w' B v l :=
  World.ownsRow.kept (row := some s) hb ⟨h.os, h.tape, h.output, h.size, fun k hk hn => h.block k hk (fun e => hn (by rw [e]))⟩ (.inr hs)
theorem OwnR.form {L : Lay α} {w : World} {B : Nat} {v : Value} {l : List α} (h : OwnR L w B v l) {n : Nat} (hn : l.length = n) (h0 : 0 < n) : ∃ g cap, v = .slice (some ⟨g, 0, none⟩) n cap ∧ n ≤ cap ∧ B ≤ g := by
  subst hn
  rcases h.2 with ⟨_, h0'⟩ | ⟨g, cap, cur, hv, hb, hg, h1, _⟩
  · omega
  · exact ⟨g, cap, hv, h1, hb⟩
/-- a row just made, of one element -/
theorem Rs.one (L : Lay α) (w : World) (a : α) (cs : Array Value) (hc : cs.toList = L.enc a) : Rs L (w.alloc (.cells cs L.e)) (.slice (some ⟨w.heap.size, 0, none⟩) 1 1) [a] := by
  have h := World.ownsRow_lit (base := w.heap.size) (e := L.e) (size := L.k) w cs 1 (Nat.le_refl _) (by unfold maxLen; omega) (by rw [← Array.length_toList, hc, L.len]; omega)
  rw [hc] at h
  exact OwnR.rs (L := L) (B := w.heap.size) (l := [a]) (by unfold OwnR; rw [show L.row [a] = L.enc a from List.append_nil _]; exact h)

/-- append of a row to a row that the call made -/
theorem run_append_r (L : Lay α) {t : TypeId} {z : Value} {bytes : Nat} (ht : Try.prog.underlying t = some (.slice L.e)) (hi : (Try.prog.info? L.e).map (fun i => (i.zero, i.size, i.bytes)) = some (some z, L.k, bytes)) (hz : z.cells.size = L.k) (hk : 0 < L.k) (hbt : bytes ≤ 64)
    (w : World) (ty : TypeId) (B : Nat) (v : Value) (l : List α) (hown : OwnR L w B v l) (x : Value) (m : List α) (hx : Rs L w x m) (hlen : l.length + m.length ≤ 1099511627776) (hB : B ≤ w.heap.size) :
    ∃ v' w', (Builtin.append_ #[t, t] ty #[v, x]).run Try.prog w = .ok v' w' ∧ OwnR L w' B v' (l ++ m) ∧ w.grownBy w' v.ownBlock := by
  obtain ⟨i0, hi, hz0, hz1, hz2⟩ := info_parts hi
  obtain ⟨ao, cap, rfl, h1, h2, h3, h4⟩ := hx
  cases ao with
  | none =>
    have hc := h3 rfl
    have hm : m = [] := List.eq_nil_of_length_eq_zero (by omega)
    subst hm hc
    exact ⟨v, w, run_append_owned_none w B _ ty _ i0 L.k ht hi v _ _ hown, by simpa using hown, World.grownBy.refl _ _⟩
  | some ad =>
    obtain ⟨v', w', hr, ho, hg, _⟩ := run_append_own w B t ty L.e i0 z L.k bytes ht hi hz0 hz1 hz2 hz hk v l.length (L.row l) hown ad m.length cap (L.row m) (L.row_length m)
      (fun k u hu => (h4 ad rfl).2 k u hu) (L.row_one m) (by unfold maxLen; omega) (by have := Nat.mul_le_mul hlen hbt; omega) hB
    exact ⟨v', w', hr, by unfold OwnR; rw [List.length_append, L.row_append]; exact ho, hg⟩

theorem wpList_append_r (L : Lay α) {t : TypeId} {z : Value} {bytes : Nat} (ht : Try.prog.underlying t = some (.slice L.e)) (hi : (Try.prog.info? L.e).map (fun i => (i.zero, i.size, i.bytes)) = some (some z, L.k, bytes)) (hz : z.cells.size = L.k) (hk : 0 < L.k) (hbt : bytes ≤ 64)
    {w : World} {ops : Array Oper} {rest : List Oper} {o : Oper} {a : Act} {Q : Exit → Act → World → Prop} (hgd : o.guard = none) (sl xo : Operand)
    (ho : o.op = .call { callee := .builtin .append, args := #[sl, xo], argTypes := #[t, t] })
    (A : World) (hA : Same A w) (v : Value) (l : List α) (hs : a.eval sl = v) (hown : OwnR L w A.heap.size v l) (x : Value) (m : List α) (hxe : a.eval xo = x) (hx : Rs L w x m) (hlen : l.length + m.length ≤ 1099511627776)
    (h : ∀ v' w', OwnR L w' A.heap.size v' (l ++ m) → Same A w' → w.grownBy w' v.ownBlock → wpList Try.prog ops Q rest (a.put o.dst v') w') : wpList Try.prog ops Q (o :: rest) a w := by
  obtain ⟨v', w', hr, h1, h2⟩ := run_append_r L ht hi hz hk hbt w o.type _ v l hown x m hx hlen hA.size
  exact Lib.wpList_append_run w hgd sl xo _ _ ho v x hs hxe v' w' hr (h v' w' h1 (hA.grown h2 (fun k hk => (hown.lt k hk).1)) h2)

theorem wp_append_r (L : Lay α) {t : TypeId} {z : Value} {bytes : Nat} (ht : Try.prog.underlying t = some (.slice L.e)) (hi : (Try.prog.info? L.e).map (fun i => (i.zero, i.size, i.bytes)) = some (some z, L.k, bytes)) (hz : z.cells.size = L.k) (hk : 0 < L.k) (hbt : bytes ≤ 64)
    {w : World} {o : Oper} {a : Act} {K : Act → World → Prop} {Q : Exit → Act → World → Prop} (sl xo : Operand)
    (ho : o.op = .call { callee := .builtin .append, args := #[sl, xo], argTypes := #[t, t] })
    (A : World) (hA : Same A w) (v : Value) (l : List α) (hs : a.eval sl = v) (hown : OwnR L w A.heap.size v l) (x : Value) (m : List α) (hxe : a.eval xo = x) (hx : Rs L w x m) (hlen : l.length + m.length ≤ 1099511627776)
    (h : ∀ v' w', OwnR L w' A.heap.size v' (l ++ m) → Same A w' → w.grownBy w' v.ownBlock → K (a.put o.dst v') w') : Oper.wp Try.prog o a w K Q := by
  obtain ⟨v', w', hr, h1, h2⟩ := run_append_r L ht hi hz hk hbt w o.type _ v l hown x m hx hlen hA.size
  exact Lib.wp_append_run w sl xo _ _ ho v x hs hxe v' w' hr (h v' w' h1 (hA.grown h2 (fun k hk => (hown.lt k hk).1)) h2)
end

/-- a growth of one row leaves all but its block as it was -/
theorem grown_only {w w' : World} {v : Value} (hg : w.grownBy w' v.ownBlock) (t : Nat) (ht : v.ownBlock = none ∨ v.ownBlock = some t) : Mod t w w' :=
  ⟨hg.os, hg.tape, hg.output, hg.size, fun k hk hn => hg.block k hk (by rcases ht with h | h <;> rw [h] <;> simp; exact fun e => hn e)⟩

/-- a row of ints -/
def intLay : Lay Int := ⟨3, 1, fun n => [.int .i64 n], fun _ => rfl, fun a u h => by simp at h; subst h; rfl⟩
theorem intInfo : (Try.prog.info? intLay.e).map (fun i => (i.zero, i.size, i.bytes)) = some (some (.int .i64 0), intLay.k, 8) := by kernel_rfl
end Go.Proofs.Ytidijoncngfppaa
