/- Memory of the developers' layer 4: slices of a head's bytes: append, slices.Grow, slices.Concat, slices.Clone. No condition beyond what each names. -/
import Derived.Test.YteoleblnhcnpkaaMem
import Derived.LoopN
import Derived.Handy
import Derived.Deep.DeepFit
namespace Go.Proofs.Yteoleblnhcnpkaa
open Go.RowKit
set_option linter.unusedVariables false

/-- append of bytes to a head that the call owns -/
theorem run_append_h (w : World) (ty : TypeId) (B : Nat) (v : Value) (l : List UInt8) (hown : OwnB w B v l) (x : Value) (m : List UInt8) (hx : Bs w x m) (hlen : l.length + m.length ≤ 140737488355328) (hB : B ≤ w.heap.size) :
    ∃ v' w', (Builtin.append_ #[56, 56] ty #[v, x]).run Try.prog w = .ok v' w' ∧ OwnB w' B v' (l ++ m) ∧ w.grownBy w' v.ownBlock := by
  obtain ⟨i0, hi, hz0, hz1, hz2⟩ := info_parts u8info
  obtain ⟨ao, cap, rfl, h1, h2, h3, h4⟩ := hx
  cases ao with
  | none =>
    have hc := h3 rfl
    have hm : m = [] := List.eq_nil_of_length_eq_zero (by omega)
    subst hm hc
    exact ⟨v, w, run_append_owned_none w B _ ty _ i0 1 Try.underlying56 hi v _ _ hown, by simpa using hown, World.grownBy.refl _ _⟩
  | some ad =>
    obtain ⟨v', w', hr, ho, hg, _⟩ := run_append_own w B 56 ty 5 i0 (.int .u8 0) 1 1 Try.underlying56 hi hz0 hz1 hz2 rfl (by decide) v l.length (l.map b8) hown ad m.length cap (m.map b8) (by simp)
      (fun j u hu => by
        simp only [List.getElem?_map, Option.map_eq_some_iff] at hu
        obtain ⟨b, hb, rfl⟩ := hu
        exact (h4 ad rfl).2 j b hb) (fun u hu => by
        obtain ⟨b, _, rfl⟩ := List.mem_map.1 hu
        rfl) (by unfold maxLen; omega) (by omega) hB
    exact ⟨v', w', hr, by simpa [OwnB] using ho, hg⟩

theorem wpList_append_h {w : World} {ops : Array Oper} {rest : List Oper} {o : Oper} {a : Act} {Q : Exit → Act → World → Prop} (hgd : o.guard = none) (sl xo : Operand)
    (ho : o.op = .call { callee := .builtin .append, args := #[sl, xo], argTypes := #[56, 56] })
    (A : World) (hA : Same A w) (v : Value) (l : List UInt8) (hs : a.eval sl = v) (hown : OwnB w A.heap.size v l) (x : Value) (m : List UInt8) (hxe : a.eval xo = x) (hx : Bs w x m) (hlen : l.length + m.length ≤ 140737488355328)
    (h : ∀ v' w', OwnB w' A.heap.size v' (l ++ m) → Same A w' → wpList Try.prog ops Q rest (a.put o.dst v') w') : wpList Try.prog ops Q (o :: rest) a w := by
  obtain ⟨v', w', hr, h1, h2⟩ := run_append_h w o.type _ v l hown x m hx hlen hA.size
  exact Lib.wpList_append_run w hgd sl xo _ _ ho v x hs hxe v' w' hr (h v' w' h1 (hA.grown h2 (fun k hk => (hown.lt k hk).1)))

set_option maxRecDepth 100000 in
theorem grow_h (n : Nat) (hn : (n : Int) ≤ 140737488355328) (w : World) :
    Calls Try.prog 58 #[.slice none 0 0, .int .i64 n] w fun e w' => ∃ v, e = .returned v ∧ OwnB w' w.heap.size v [] ∧ Same w w' := by
  by_cases h0 : n = 0
  · subst h0
    go_enter Try.func58, Try.ntmps58
    go_wp2
    go_ret
    exact ⟨_, rfl, OwnB.nil _ _, Same.refl _⟩
  · have hpos : 0 < (n : Int) := by omega
    obtain ⟨i0, hi, hz0, hz1, hz2⟩ := info_parts u8info
    have hr := Lib.run_append_nil_zeros (P := Try.prog) w 56 3 56 5 i0 (.int .u8 0) .i64 .i64 Try.underlying56 Try.underlying3 hi hz0 n (by omega) (by omega) (by omega) (by rw [hz2]; omega)
    have hge := grownCap_ge w n 0 5
    have hle := grownCap_le_maxLen w n 0 5 (by unfold maxLen; omega)
    have ho := World.ownsRow_made (base := w.heap.size) (e := 5) (size := 1) w.drew (Builtin.zeroCells (Value.int .u8 0).cells n ++ Builtin.zeroCells (Value.int .u8 0).cells (grownCap w n 0 5 - n)) (grownCap w n 0 5) (Nat.le_refl _) hle (by simp [size_zeroCells, Value.cells]; omega)
    have hs : Same w (w.drew.alloc (.cells (Builtin.zeroCells (Value.int .u8 0).cells n ++ Builtin.zeroCells (Value.int .u8 0).cells (grownCap w n 0 5 - n)) 5)) := (Same.refl w).drew.trans (Same.alloc _ _)
    unfold maxLen at hle
    have HR := Lib.hid hr
    clear hr hz0 hz1 hz2 hi
    generalize (Builtin.zeroCells (Value.int .u8 0).cells n ++ Builtin.zeroCells (Value.int .u8 0).cells (grownCap w n 0 5 - n)) = cs at *
    generalize grownCap w n 0 5 = cap at *
    have hcap : ¬ cap = 0 := by omega
    have HO := Lib.hid ho
    have HS := Lib.hid hs
    clear ho hs
    go_enter Try.func58, Try.ntmps58
    go_wp2_with (at_builtin; refine Lib.wpList_append_run _ rfl _ _ _ _ rfl _ _ rfl rfl _ _ HR.out ?_)
    go_ret
    exact ⟨_, rfl, HO.out, HS.out⟩

theorem concat_h (g : Nat) (v1 v2 : Value) (l1 l2 : List UInt8) (w : World) (h1 : Bs w v1 l1) (h2 : Bs w v2 l2) (hl : l1.length + l2.length ≤ 140737488355328)
    (hg : w.heap[g]? = some (.cells #[v1, v2] 56 (0, 0))) :
    Calls Try.prog 35 #[.slice (some ⟨g, 0, none⟩) 2 2] w fun e w' => ∃ v, e = .returned v ∧ OwnB w' w.heap.size v (l1 ++ l2) ∧ Same w w' := by
  have H1 := Lib.hid h1
  have H2 := Lib.hid h2
  have HG := Lib.hid hg
  obtain ⟨ao1, cap1, rfl, p1, p2, p3, p4⟩ := h1
  obtain ⟨ao2, cap2, rfl, q1, q2, q3, q4⟩ := h2
  clear p4 q4
  have c0 : w.cell? ⟨g, 0, none⟩ = some (.slice ao1 l1.length cap1) := by simp [World.cell?, hg]
  have c1 : w.cell? ⟨g, 1, none⟩ = some (.slice ao2 l2.length cap2) := by simp [World.cell?, hg]
  clear hg
  have b1 : (l1.length : Int) + l2.length ≤ 140737488355328 := by omega
  have HGrow := grow_h (l1.length + l2.length) (by omega) w
  rw [Int.natCast_add] at HGrow
  have HGrow' := Lib.hid HGrow
  clear HGrow
  go_enter Try.func35, Try.ntmps35
  go_wp2_with fail
  refine wp_loop_rounds 3 ?_
  repeat any_goals (rw [rounds_succ]; go_wp2_with fail)
  refine HGrow'.out.mono ?_
  rintro e w1 ⟨v, rfl, ho, hs⟩
  have c0' : w1.cell? ⟨g, 0, none⟩ = some (.slice ao1 l1.length cap1) := by rw [Below.cell hs (World.block_lt_of_cell? w _ c0)]; exact c0
  have HO := Lib.hid ho
  have HS := Lib.hid hs
  clear ho hs c0
  go_wp2_with fail
  refine wp_loop_rounds 3 ?_
  rw [rounds_succ]
  go_wp2_with (at_builtin; refine wpList_append_h rfl _ _ rfl w HS.out _ [] rfl HO.out _ l1 rfl (H1.out.same HS.out) (by simp; omega) ?_; intro v2 w2 ho2 hs2)
  rw [List.nil_append] at ho2
  have c1' : w2.cell? ⟨g, 1, none⟩ = some (.slice ao2 l2.length cap2) := by rw [Below.cell hs2 (World.block_lt_of_cell? w _ c1)]; exact c1
  have HO2 := Lib.hid ho2
  have HS2 := Lib.hid hs2
  clear ho2 hs2 c1 c0' HO HS
  rw [rounds_succ]
  go_wp2_with (at_builtin; refine wpList_append_h rfl _ _ rfl w HS2.out _ l1 rfl HO2.out _ l2 rfl (H2.out.same HS2.out) hl ?_; intro v3 w3 ho3 hs3)
  have HO3 := Lib.hid ho3
  have HS3 := Lib.hid hs3
  clear ho3 hs3 HO2 HS2 c1'
  rw [rounds_succ]
  go_wp2_with fail
  go_ret
  exact ⟨_, rfl, HO3.out, HS3.out⟩

end Go.Proofs.Yteoleblnhcnpkaa
