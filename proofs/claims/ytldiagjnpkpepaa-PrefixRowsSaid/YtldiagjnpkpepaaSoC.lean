/- The counter behind swaps *int; sort.order2_func, median_func, medianAdjacent_func where less makes memory. No condition. -/
import Derived.Test.YtldiagjnpkpepaaSoB
import Derived.Shelf.SlSortFuncK.PivotK
namespace Go.Proofs.Ytldiagjnpkpepaa
open Go.Proofs Go.Shelf Go.RowKit Go.Lib Go.Sort
set_option linter.unusedVariables false
set_option maxRecDepth 1000000
variable {P : Program} {ρ : Ren} {α : Type} [Inhabited α]

theorem holds_more {enc : α → Value} {W W' : World} {blk off : Nat} {d : Array α} (h : Holds enc W blk off d) (hb : blk < W.heap.size) (m : More W W') : Holds enc W' blk off d := by
  obtain ⟨os, e⟩ := More.eq m
  rw [e]
  exact holds_grow enc { W with drawn := W'.drawn } os blk off d hb h

/-- nothing that lay changes, but the block cb -/
def But (cb : Nat) (W W' : World) : Prop := W.heap.size ≤ W'.heap.size ∧ ∀ a : Addr, a.block < W.heap.size → a.block ≠ cb → W'.cell? a = W.cell? a
theorem But.trans {cb : Nat} {W W1 W2 : World} (h : But cb W W1) (g : But cb W1 W2) : But cb W W2 :=
  ⟨Nat.le_trans h.1 g.1, fun a ha hc => (g.2 a (Nat.lt_of_lt_of_le ha h.1) hc).trans (h.2 a ha hc)⟩
theorem More.but {W W' : World} (h : More W W') (cb : Nat) : But cb W W' := ⟨More.le h, fun a ha _ => More.cell h a ha⟩
theorem But.alloc (cb : Nat) (W : World) (o : Obj) : But cb W (W.alloc o) := ⟨by simp, fun a ha _ => by rw [alloc_eq_grow]; exact cell?_grow _ _ _ ha⟩

/-- the counter: a row of one, new against the base world; the row as it is -/
structure Cnt (enc : α → List Value) (k : Nat) (w0 : World) (blk off : Nat) (d : Array α) (cb co s : Nat) (W : World) : Prop where
  sw : SWD enc k w0 blk off d W
  hs : Holds (Value.int .i64) W cb co (one s)
  new : w0.heap.size ≤ cb
  lt : cb < W.heap.size
section
variable {enc : α → List Value} {k : Nat} {w0 W W' : World} {blk off cb co s : Nat} {d : Array α}
theorem Cnt.alloc (h : Cnt enc k w0 blk off d cb co s W) (o : Obj) : Cnt enc k w0 blk off d cb co s (W.alloc o) :=
  ⟨h.sw.alloc o, by rw [alloc_eq_grow]; exact holds_grow _ W _ cb co _ h.lt h.hs, h.new, by rw [alloc_eq_grow, size_grow]; have := h.lt; omega⟩
theorem Cnt.more (h : Cnt enc k w0 blk off d cb co s W) (m : More W W') : Cnt enc k w0 blk off d cb co s W' :=
  ⟨swk_more h.sw m, holds_more h.hs h.lt m, h.new, Nat.lt_of_lt_of_le h.lt m.le⟩
theorem Cnt.set (h : Cnt enc k w0 blk off d cb co s W) (t : Nat) : Cnt enc k w0 blk off d cb co t (W.setCell ⟨cb, co, none⟩ (.int .i64 t)) ∧ But cb W (W.setCell ⟨cb, co, none⟩ (.int .i64 t)) := by
  refine ⟨⟨h.sw.setCell_new cb co _ h.new, ?_, h.new, by simpa using h.lt⟩, by simp, fun a ha hc => ?_⟩
  · have e := one_set h.hs t
    rw [e]
    exact holds_putRow _ W cb co (one s) (one t) h.hs rfl
  · have e := one_set h.hs t
    rw [e]
    exact cell?_putRow_other _ _ cb co _ _ (Or.inl hc)
end

set_option maxHeartbeats 1000000 in
theorem order2M (L : LaysGg.n39 P ρ) (enc : α → List Value) (k : Nat) (lt : α → α → Bool) (g : Nat) (lb : Array Value) (sfn : Fn) (sa sb : Array Value) (blk off : Nat) (w0 W : World) (d : Array α) (a b cb co s : Nat)
    (eg : ∀ args w, (callFunc g args).run P w = .ok (.enter g args) w) (hL : LessM P g lb enc k lt blk off d.size w0) (hC : Cnt enc k w0 blk off d cb co s W) (ha : a < d.size) (hb : b < d.size) (hs : s < 4611686018427387904) :
    Calls P (ρ.f 39) #[.agg #[.func (.func g) #[] lb, .func sfn sa sb], .int .i64 a, .int .i64 b, .pointer (some ⟨cb, co, none⟩)] W fun e w' =>
      e = .returned (.tuple #[.int .i64 (order2 lt d a b s).1, .int .i64 (order2 lt d a b s).2.1]) ∧ Cnt enc k w0 blk off d cb co (order2 lt d a b s).2.2 w' ∧ But cb W w' := by
  have mixed := L.mixed; have t0 := L.t0; have a0 := L.a0; have z0 := L.z0; have v0 := L.v0; have t3 := L.t3; have a3 := L.a3; have z3 := L.z3; have v3 := L.v3; have t4 := L.t4; have a4 := L.a4; have z4 := L.z4; have v4 := L.v4; have t26 := L.t26; have a26 := L.a26; have z26 := L.z26; have v26 := L.v26; have t37 := L.t37; have a37 := L.a37; have z37 := L.z37; have v37 := L.v37; have t44 := L.t44; have a44 := L.a44; have z44 := L.z44; have v44 := L.v44; have t64 := L.t64; have a64 := L.a64; have z64 := L.z64; have v64 := L.v64
  have u44 := run_underlying L.t44
  have hC1 := hC.alloc (.cells #[.func (.func g) #[] lb, .func sfn sa sb] (ρ.t 44))
  have hB1 := Lib.hid (But.alloc cb W (.cells #[.func (.func g) #[] lb, .func sfn sa sb] (ρ.t 44)))
  have hl := hL _ d rfl hC1.sw b a hb ha
  clear hL
  go_enter L.f39, BodyGg.n39_ntmps ρ
  cases hlv : lt d[b]! d[a]! with
  | true =>
    rw [hlv] at hl
    have e2 : order2 lt d a b s = (b, a, s + 1) := by simp [order2, hlv]
    go_wp2_with (go_at_fn g; refine hl.mono ?_; rintro e w' ⟨rfl, m⟩; have hC2 := hC1.more m; obtain ⟨cs, fs⟩ := one_cell hC2.hs; have hB2 := Lib.hid (hB1.out.trans (More.but m cb)))
    go_ret2
    rw [e2]
    have hC3 := hC2.set (s + 1)
    rw [show (((s + 1 : Nat)) : Int) = (s : Int) + 1 by omega] at hC3
    exact ⟨rfl, hC3.1, hB2.out.trans hC3.2⟩
  | false =>
    rw [hlv] at hl
    have e2 : order2 lt d a b s = (a, b, s) := by simp [order2, hlv]
    go_wp2_with (go_at_fn g; refine hl.mono ?_; rintro e w' ⟨rfl, m⟩; have hC2 := hC1.more m; have hB2 := Lib.hid (hB1.out.trans (More.but m cb)))
    go_ret2
    rw [e2]
    exact ⟨rfl, hC2, hB2.out⟩

set_option maxHeartbeats 1000000 in
theorem medianM (L : LaysGg.n38 P ρ) (enc : α → List Value) (k : Nat) (lt : α → α → Bool) (g : Nat) (lb : Array Value) (sfn : Fn) (sa sb : Array Value) (blk off : Nat) (w0 W : World) (d : Array α) (a b c cb co s : Nat)
    (eg : ∀ args w, (callFunc g args).run P w = .ok (.enter g args) w) (hL : LessM P g lb enc k lt blk off d.size w0) (hC : Cnt enc k w0 blk off d cb co s W) (ha : a < d.size) (hb : b < d.size) (hc : c < d.size) (hs : s + 3 < 4611686018427387904) :
    Calls P (ρ.f 38) #[.agg #[.func (.func g) #[] lb, .func sfn sa sb], .int .i64 a, .int .i64 b, .int .i64 c, .pointer (some ⟨cb, co, none⟩)] W fun e w' =>
      e = .returned (.int .i64 (median lt d a b c s).1) ∧ Cnt enc k w0 blk off d cb co (median lt d a b c s).2 w' ∧ But cb W w' := by
  have mixed := L.mixed; have t0 := L.t0; have a0 := L.a0; have z0 := L.z0; have v0 := L.v0; have t3 := L.t3; have a3 := L.a3; have z3 := L.z3; have v3 := L.v3; have t4 := L.t4; have a4 := L.a4; have z4 := L.z4; have v4 := L.v4; have t26 := L.t26; have a26 := L.a26; have z26 := L.z26; have v26 := L.v26; have t37 := L.t37; have a37 := L.a37; have z37 := L.z37; have v37 := L.v37; have t44 := L.t44; have a44 := L.a44; have z44 := L.z44; have v44 := L.v44; have t64 := L.t64; have a64 := L.a64; have z64 := L.z64; have v64 := L.v64; have t67 := L.t67; have a67 := L.a67; have z67 := L.z67; have v67 := L.v67
  have u44 := run_underlying L.t44
  have e39 : ∀ args w, (callFunc (ρ.f 39) args).run P w = .ok (.enter (ρ.f 39) args) w := enters_of L.f39 (by kernel_rfl) rfl
  have l1 := order2_lt' lt d s ha hb
  have s1 := order2_swaps' lt d a b s
  have l2 := order2_lt' lt d (order2 lt d a b s).2.2 l1.2 hc
  have s2 := order2_swaps' lt d (order2 lt d a b s).2.1 c (order2 lt d a b s).2.2
  have hC1 := Lib.hid (hC.alloc (.cells #[.func (.func g) #[] lb, .func sfn sa sb] (ρ.t 44)))
  have hB1 := Lib.hid (But.alloc cb W (.cells #[.func (.func g) #[] lb, .func sfn sa sb] (ρ.t 44)))
  have hne : W.heap.size ≠ cb := by have := hC.lt; omega
  have b0 : (W.alloc (.cells #[.func (.func g) #[] lb, .func sfn sa sb] (ρ.t 44))).cell? ⟨W.heap.size, 0, none⟩ = some (.func (.func g) #[] lb) := by simp
  have b1 : (W.alloc (.cells #[.func (.func g) #[] lb, .func sfn sa sb] (ρ.t 44))).cell? ⟨W.heap.size, 1, none⟩ = some (.func sfn sa sb) := by simp
  have hlt : W.heap.size < (W.alloc (.cells #[.func (.func g) #[] lb, .func sfn sa sb] (ρ.t 44))).heap.size := by simp
  have step : Hid (∀ (W2 : World) (t a' b' : Nat), Cnt enc k w0 blk off d cb co t W2 → a' < d.size → b' < d.size → t < 4611686018427387904 → _) := fun W2 t a' b' hC2 ha' hb' ht =>
    order2M (P := P) (ρ := ρ) { L with } enc k lt g lb sfn sa sb blk off w0 W2 d a' b' cb co t eg hL hC2 ha' hb' ht
  clear hL
  go_enter L.f38, BodyGg.n38_ntmps ρ
  go_wp2_with (go_at_fn_of (ρ.f 39) (Value.int .i64 (b : Int)); refine (step.out _ s a b hC1.out ha hb (by omega)).mono ?_; rintro e w2 ⟨rfl, hC2', hB2'⟩; have hC2 := Lib.hid hC2'; have hB2 := Lib.hid hB2'; have d0 := (hB2'.2 ⟨W.heap.size, 0, none⟩ hlt hne).trans b0; have d1 := (hB2'.2 ⟨W.heap.size, 1, none⟩ hlt hne).trans b1; have hlt2 := Nat.lt_of_lt_of_le hlt hB2'.1; clear hC2' hB2')
  go_wp2_with (go_at_fn_of (ρ.f 39) (Value.int .i64 (c : Int)); refine (step.out _ _ _ c hC2.out l1.2 hc (by omega)).mono ?_; rintro e w3 ⟨rfl, hC3', hB3'⟩; have hC3 := Lib.hid hC3'; have hB3 := Lib.hid hB3'; have f0 := (hB3'.2 ⟨W.heap.size, 0, none⟩ hlt2 hne).trans d0; have f1 := (hB3'.2 ⟨W.heap.size, 1, none⟩ hlt2 hne).trans d1; clear hC3' hB3')
  go_wp2_with (go_at_fn_of (ρ.f 39) (Value.int .i64 ((order2 lt d a b s).1 : Int)); refine (step.out _ _ _ _ hC3.out l1.1 l2.1 (by omega)).mono ?_; rintro e w4 ⟨rfl, hC4', hB4'⟩; have hC4 := Lib.hid hC4'; have hB4 := Lib.hid hB4'; clear hC4' hB4')
  go_ret
  exact ⟨rfl, hC4.out, hB1.out.trans (hB2.out.trans (hB3.out.trans hB4.out))⟩

set_option maxHeartbeats 1000000 in
theorem medianAdjacentM (L : LaysGg.n37 P ρ) (enc : α → List Value) (k : Nat) (lt : α → α → Bool) (g : Nat) (lb : Array Value) (sfn : Fn) (sa sb : Array Value) (blk off : Nat) (w0 W : World) (d : Array α) (a cb co s : Nat)
    (eg : ∀ args w, (callFunc g args).run P w = .ok (.enter g args) w) (hL : LessM P g lb enc k lt blk off d.size w0) (hC : Cnt enc k w0 blk off d cb co s W) (ha1 : 1 ≤ a) (ha2 : a + 1 < d.size) (hsz : d.size < 4611686018427387904) (hs : s + 3 < 4611686018427387904) :
    Calls P (ρ.f 37) #[.agg #[.func (.func g) #[] lb, .func sfn sa sb], .int .i64 a, .pointer (some ⟨cb, co, none⟩)] W fun e w' =>
      e = .returned (.int .i64 (medianAdjacent lt d a s).1) ∧ Cnt enc k w0 blk off d cb co (medianAdjacent lt d a s).2 w' ∧ But cb W w' := by
  have mixed := L.mixed; have t0 := L.t0; have a0 := L.a0; have z0 := L.z0; have v0 := L.v0; have t3 := L.t3; have a3 := L.a3; have z3 := L.z3; have v3 := L.v3; have t4 := L.t4; have a4 := L.a4; have z4 := L.z4; have v4 := L.v4; have t26 := L.t26; have a26 := L.a26; have z26 := L.z26; have v26 := L.v26; have t37 := L.t37; have a37 := L.a37; have z37 := L.z37; have v37 := L.v37; have t44 := L.t44; have a44 := L.a44; have z44 := L.z44; have v44 := L.v44; have t64 := L.t64; have a64 := L.a64; have z64 := L.z64; have v64 := L.v64; have t67 := L.t67; have a67 := L.a67; have z67 := L.z67; have v67 := L.v67
  have u44 := run_underlying L.t44
  have e38 : ∀ args w, (callFunc (ρ.f 38) args).run P w = .ok (.enter (ρ.f 38) args) w := enters_of L.f38 (by kernel_rfl) rfl
  have hB1 := Lib.hid (But.alloc cb W (.cells #[.func (.func g) #[] lb, .func sfn sa sb] (ρ.t 44)))
  have hm := medianM (P := P) (ρ := ρ) { L with } enc k lt g lb sfn sa sb blk off w0 _ d (a - 1) a (a + 1) cb co s eg hL (hC.alloc (.cells #[.func (.func g) #[] lb, .func sfn sa sb] (ρ.t 44))) (by omega) (by omega) ha2 hs
  rw [show ((a - 1 : Nat) : Int) = (a : Int) - 1 by omega, show ((a + 1 : Nat) : Int) = (a : Int) + 1 by omega] at hm
  clear hL hC
  go_enter L.f37, BodyGg.n37_ntmps ρ
  go_wp2_with (go_at_fn (ρ.f 38); refine hm.mono ?_; rintro e w' ⟨rfl, hC4', hB4'⟩; have hC4 := Lib.hid hC4'; have hB4 := Lib.hid hB4'; clear hC4' hB4')
  go_ret
  exact ⟨rfl, hC4.out, hB1.out.trans hB4.out⟩
end Go.Proofs.Ytldiagjnpkpepaa
