/- The developers' layer 5: both ends of a flow, told by a closure; ports and addresses in bytes; Good. No condition beyond what each names. -/
import Derived.Test.YteoleblnhcnpkaaPoP
import Derived.Test.YteoleblnhcnpkaaChkD
import Derived.Test.YteoleblnhcnpkaaPut
namespace Go.Proofs.Yteoleblnhcnpkaa
open Go.RowKit Go.Shelf
set_option linter.unusedVariables false
attribute [local go_sem] Oper.semAt_some

/-- one of the two ends -/
structure En where
  addr : Int
  port : Int
abbrev enV (e : En) : Value := .agg #[.int .u32 e.addr, .int .i64 e.port]
abbrev enO (e : En) : Obj := .cells #[.int .u32 e.addr, .int .i64 e.port] 66
def endsF (f : Fl) : List En := [⟨f.src, f.sport⟩, ⟨f.dst, f.dport⟩]

theorem Same.keeps {w w' : World} (h : Same w w') : KeepsOthers w w' := ⟨h.size, fun k o hk _ => Same.block h hk⟩

/-- a block of cells lies on where no cells are turned -/
theorem cells_own {β : Type} (B : Nat) (f : β → Obj) (hf : ∀ s, (f s).isCells = true) : Own (fun s W => W.heap[B]? = some (f s)) := fun s X Y row hs hg hrow => by
  have hlt : B < X.heap.size := (Array.getElem?_eq_some_iff.1 hs).1
  refine (hg.block B hlt (fun e => ?_)).trans hs
  obtain ⟨o, ho, hc⟩ := hrow B e.symm
  have hs' : X.heap[B]? = some (f s) := hs
  rw [hs'] at ho
  cases ho
  rw [hf s] at hc
  cases hc

theorem ends_any (f : Fl) (w : World) : Calls Try.prog 28 #[flV f] w fun e w' => e = .returned (.func (.func 52) #[] #[.pointer (some ⟨w.heap.size, 0, none⟩)]) ∧ w' = w.alloc (flO 44 f) := by
  go_enter Try.func28, Try.ntmps28
  go_wp2_with fail
  go_ret
  exact ⟨rfl, rfl⟩

set_option maxRecDepth 100000 in
set_option maxHeartbeats 2000000 in
theorem ends1_in (n : Nat) (hn : 1 ≤ n) (l Bx : Nat) (Kp : World → World → Prop) (f : Fl) (J Jx : List En → World → Prop)
    (hY : ∀ pre x W, J pre W → pre.length < 2 → YieldAt Fence.wide (n - 1) Try.prog l #[enV x] W fun e W' =>
      (e = .returned (.bool true) ∧ J (pre ++ [x]) W' ∧ Kp W W') ∨ (e = .returned (.bool false) ∧ Jx (pre ++ [x]) W'))
    (W : World) (hx0 : FlAt W Bx f) (hx : ∀ W', Kp W W' → FlAt W' Bx f) (h0 : J [] W) :
    CallsIn Fence.wide n Try.prog 52 #[.func (.yield l) #[] #[], .pointer (some ⟨Bx, 0, none⟩)] W fun e W' => (∃ v, e = .returned v) ∧
      ((∃ ys, ys = endsF f ∧ J ys W') ∨ (∃ pre, pre <+: endsF f ∧ Jx pre W')) := by
  refine callsIn_of_wp Try.func52 rfl trivial ?_ rfl
  simp only [Try.ntmps52, List.size_toArray, List.length_cons, List.length_nil, Nat.reduceAdd, Nat.reduceSub, Array.replicate_succ, Array.replicate_zero, List.push_toArray, List.append_toArray, List.nil_append, List.cons_append]
  obtain ⟨c0, c1, c2, c3, c4⟩ := hx0
  obtain ⟨fn, tmps, assign, body, hy, hR⟩ := hY [] ⟨f.src, f.sport⟩ W h0 (by simp)
  dsimp only [enV] at hy
  gi_wp2
  refine hR.mono ?_
  rintro e W3 (⟨rfl, hJ3, hk3⟩ | ⟨rfl, hJx3⟩)
  · obtain ⟨d0, d1, d2, d3, d4⟩ := hx W3 hk3
    obtain ⟨fn2, tmps2, assign2, body2, hy2, hR2⟩ := hY _ ⟨f.dst, f.dport⟩ W3 hJ3 (by simp)
    dsimp only [enV] at hy2
    clear hy hR c0 c1 c2 c3 c4
    gi_wp2
    refine hR2.mono ?_
    rintro e W4 (⟨rfl, hJ4, hk4⟩ | ⟨rfl, hJx4⟩)
    · gi_wp2
      go_end0
      exact ⟨⟨_, rfl⟩, .inl ⟨_, rfl, hJ4⟩⟩
    · gi_wp2
      go_end0
      exact ⟨⟨_, rfl⟩, .inr ⟨_, ⟨[], rfl⟩, hJx4⟩⟩
  · gi_wp2
    go_end0
    exact ⟨⟨_, rfl⟩, .inr ⟨_, ⟨[_], rfl⟩, hJx3⟩⟩

/-- what a round keeps: all that lay below n₀, and one block -/
def KpE (n₀ Bx : Nat) (W W' : World) : Prop := Below n₀ W W' ∧ ∀ o, W.heap[Bx]? = some o → W'.heap[Bx]? = some o
theorem KpE.refl (n₀ Bx : Nat) (W : World) : KpE n₀ Bx W W := ⟨Below.refl _ _, fun _ h => h⟩
theorem KpE.trans {n₀ Bx : Nat} {A B C : World} (h : KpE n₀ Bx A B) (k : KpE n₀ Bx B C) : KpE n₀ Bx A C := ⟨h.1.trans k.1, fun o ho => k.2 o (h.2 o ho)⟩
theorem KpE.same {n₀ Bx : Nat} {A B : World} (h : Same A B) (hn : n₀ ≤ A.heap.size) : KpE n₀ Bx A B := ⟨h.mono hn, fun o ho => h.block ho⟩
theorem KpE.set {n₀ Bx : Nat} {A : World} {B : Nat} (v : Value) (hn : n₀ ≤ B) (hB : B ≠ Bx) : KpE n₀ Bx A (A.setCell ⟨B, 0, none⟩ v) :=
  ⟨(Below.refl n₀ A).setCell (p := ⟨B, 0, none⟩) hn v, fun o ho => by rw [Below.heap_setCell _ _ _ _ (fun e => hB e.symm)]; exact ho⟩
theorem KpE.put {n₀ Bx m : Nat} (hn : n₀ ≤ m) (hB : Bx < m) (W : World) (l : Nat) (o o' : Obj) (hl : m ≤ l) (h : W.heap[l]? = some o) (ho : o.isCells = false) (hw : o.isWalk = false) : KpE n₀ Bx W (W.putObj l o') := by
  refine ⟨⟨rfl, rfl, rfl, by simp, fun k hk => ?_⟩, fun q hq => ?_⟩
  · rw [World.putObj_heap_other (by omega)]
  · rw [World.putObj_heap_other (by omega)]; exact hq

/-- the closure tells both ends -/
theorem ends_stops (n : Nat) (hn : 1 ≤ n) (Bx n₀ : Nat) (f : Fl) (w : World) (hB : w.heap[Bx]? = some (flO 44 f)) :
    SeqStopsK Fence.wide n Try.prog 52 #[.pointer (some ⟨Bx, 0, none⟩)] (fun x : En => #[enV x]) (KpE n₀ Bx) (fun ys => ys = endsF f) (fun pre => pre <+: endsF f) 2 w := fun l J Jx W hW _ _ hY h0 => by
  have hW1 : W.heap[Bx]? = some (flO 44 f) := Same.block hW hB
  exact ends1_in n hn l Bx (KpE n₀ Bx) f J Jx hY W (FlAt.of hW1) (fun W' hW' => FlAt.of (hW'.2 _ hW1)) h0

/-- the ports of ends in bytes, and their addresses -/
def portsL (es : List En) : List UInt8 := (es.map fun e => [byteAt e.port 1, byteAt e.port 0]).flatten
def addrsL (es : List En) : List UInt8 := (es.map fun e => [byteAt e.addr 3, byteAt e.addr 2, byteAt e.addr 1, byteAt e.addr 0]).flatten
theorem portsL_snoc (es : List En) (e : En) : portsL (es ++ [e]) = portsL es ++ [byteAt e.port 1, byteAt e.port 0] := by simp [portsL]
theorem addrsL_snoc (es : List En) (e : En) : addrsL (es ++ [e]) = addrsL es ++ [byteAt e.addr 3, byteAt e.addr 2, byteAt e.addr 1, byteAt e.addr 0] := by simp [addrsL]
theorem portsL_length (es : List En) : (portsL es).length = 2 * es.length := by
  induction es with
  | nil => rfl
  | cons e es ih => simp [portsL] at ih ⊢; omega
theorem addrsL_length (es : List En) : (addrsL es).length = 4 * es.length := by
  induction es with
  | nil => rfl
  | cons e es ih => simp [addrsL] at ih ⊢; omega

set_option maxRecDepth 100000 in
set_option maxHeartbeats 2000000 in
theorem poPorts_any (f : Fl) (w : World) : Calls Try.prog 32 #[flV f] w fun e w' => ∃ v, e = .returned v ∧ OwnB w' w.heap.size v (portsL (endsF f)) ∧ Same w w' := by
  refine (callsIn_wide (n := 5)).1 ?_
  refine callsIn_of_wp_marks Try.func32 rfl trivial ?_ rfl
  simp only [Try.ntmps32, List.size_toArray, List.length_cons, List.length_nil, Nat.reduceAdd, Nat.reduceSub, Array.replicate_succ, Array.replicate_zero, List.push_toArray, List.append_toArray, List.nil_append, List.cons_append]
  have HA := Lib.hid (Same.alloc w (flO 44 f))
  have HB := Lib.hid (Same.alloc (w.alloc (flO 44 f)) (.cells #[.slice none 0 0] 22))
  obtain ⟨c0, c1, c2, c3, c4⟩ := FlAt.of (HB.out.block (heap_alloc_new w (flO 44 f)))
  gi_wp2_with (refine ⟨trivial, ?_⟩; gi_at_call 28; refine (callsIn_wide.2 (ends_any f _)).mono ?_; rintro e w' ⟨rfl, rfl⟩)
  have bS := (Boxed.new (w.alloc (flO 44 f)) 22 (.slice none 0 0)).alloc (flO 44 f)
  have bX := heap_alloc_new ((w.alloc (flO 44 f)).alloc (.cells #[.slice none 0 0] 22)) (flO 44 f)
  simp only [World.size_alloc] at bS bX
  have hB0 : Below w.heap.size w (((w.alloc (flO 44 f)).alloc (.cells #[.slice none 0 0] 22)).alloc (flO 44 f)) := HA.out.trans (HB.out.trans (Same.alloc _ _))
  have hsz : (((w.alloc (flO 44 f)).alloc (.cells #[.slice none 0 0] 22)).alloc (flO 44 f)).heap.size = w.heap.size + 3 := by simp
  obtain ⟨W0, hW0⟩ : ∃ W0, ((w.alloc (flO 44 f)).alloc (.cells #[.slice none 0 0] 22)).alloc (flO 44 f) = W0 := ⟨_, rfl⟩
  rw [hW0] at bS bX hB0 hsz ⊢
  clear hW0 HA HB c0 c1 c2 c3 c4
  refine wpIn_rangeFunc_ownH rfl (by omega) (gf := 52) (lb := #[.pointer (some ⟨w.heap.size + 1 + 1, 0, none⟩)]) rfl trivial (enters_of Try.func52 (by kernel_rfl) rfl)
    (ends_stops 4 (by omega) (w.heap.size + 1 + 1) w.heap.size f W0 bX) KpE.trans (KpE.put (by omega) (by omega)) (Below.refl _ _) (fun _ => rfl)
    (fun pre W => (∃ v, Boxed W (w.heap.size + 1) 22 v ∧ W.ownsRow w.heap.size 5 1 v (portsL pre).length ((portsL pre).map b8) ∧ True) ∧ Below w.heap.size w W)
    (fun _ _ _ => False)
    (OwnFrom.and (Own.from (holdsRow_own w.heap.size (w.heap.size + 1) 22 5 1 (fun pre : List En => (portsL pre).length) (fun pre => (portsL pre).map b8) (fun _ _ => True)) _) (ownFrom_below (Nat.le_refl _) (by omega)))
    (fun _ _ _ _ _ hs _ _ => hs)
    ⟨⟨_, bS, World.ownsRow_nil _ _ _ _, trivial⟩, hB0⟩
    (fun x a' W => ∃ Bx, W.heap[Bx]? = some (enO x) ∧ a' = { tmps := #[flV f, .pointer (some ⟨w.heap.size, 0, none⟩), .slice none 0 0, .pointer (some ⟨w.heap.size + 1, 0, none⟩), .pointer (some ⟨Bx, 0, none⟩), flV f, .func (.func 52) #[] #[.pointer (some ⟨w.heap.size + 1 + 1, 0, none⟩)], enV x, undef, undef, undef, undef, undef], defers := [] })
    (fun x a' _ X Y row hs hg hr => by obtain ⟨Bx, h2, h3⟩ := hs; exact ⟨Bx, cells_own Bx (fun (_ : Unit) => enO x) (fun _ => rfl) () X Y row h2 hg (fun r e => (hr r e).2), h3⟩)
    ?assign ?body ?done ?stop
  case assign =>
    rintro l pre x W K ⟨⟨v, hv, hr, _⟩, hB1⟩ hK
    have hsW := hB1.size
    gi_wp2
    exact hK _ _ ((KeepsOthers.alloc _ _).from _) (KpE.same (Same.alloc W _) hsW) ⟨⟨v, hv.alloc _, OwnB.same (Same.alloc W _) hr, trivial⟩, hB1.trans ((Same.alloc W _).mono hsW)⟩ ⟨W.heap.size, heap_alloc_new W _, rfl⟩
  case body =>
    rintro l pre x a' W hl ⟨r, hr⟩ ⟨⟨v, hv, hrow, _⟩, hB1⟩ ⟨Bx, bX, rfl⟩ hlt
    have hc := hv.cell
    have hf := hv.frozen
    obtain ⟨e0, e1⟩ : W.cell? ⟨Bx, 0, none⟩ = some (.int .u32 x.addr) ∧ W.cell? ⟨Bx, 1, none⟩ = some (.int .i64 x.port) := by constructor <;> simp [World.cell?, bX]
    have HPt := Lib.hid (Put16_any v (portsL pre) x.port W (OwnB.bs (B := w.heap.size) hrow) (by rw [portsL_length]; omega))
    gi_wp2_with (refine ⟨trivial, ?_⟩; gi_at_call 30; refine (CallsIn.inRound l (callsIn_wide.2 HPt.out)).mono ?_; rintro e w' ⟨v', rfl, ho, hs⟩; rw [← portsL_snoc] at ho; obtain ⟨ao, cap, hv', -, -, -, -⟩ := ho.bs; obtain ⟨m, hm⟩ : ∃ m, (portsL (pre ++ [x])).length = m := ⟨_, rfl⟩; rw [hm] at hv'; subst hv'; have hv2 : Boxed w' (w.heap.size + 1) 22 v := Same.block hs hv; have hc2 := hv2.cell; have hf2 := hv2.frozen)
    have ho2 : w'.ownsRow w.heap.size 5 1 (.slice ao m cap) (portsL (pre ++ [x])).length ((portsL (pre ++ [x])).map b8) := ho.mono hB1.size
    exact ⟨(hs.keeps.trans (KeepsOthers.setCell _ _ _)).from _, (KpE.same hs hB1.size).trans (KpE.set (B := w.heap.size + 1) _ (by omega) (by omega)),
      ⟨_, hv2.set _, ho2.kept (grownBy_setCell' w' (w.heap.size + 1) _) (.inr (hv2.not_row (by decide) ho2).symm), trivial⟩,
      hB1.trans ((hs.mono hB1.size).trans ((Below.refl w.heap.size w').setCell (p := ⟨w.heap.size + 1, 0, none⟩) (Nat.le_add_right _ 1) _))⟩
  case done =>
    rintro D ys W hD rfl ⟨⟨v, hv, hrow, _⟩, hB1⟩ hK
    have hc := hv.cell
    gi_wp2
    refine ⟨by simp, .inl ⟨_, _, rfl, run_takeDeferred hK, ?_⟩⟩
    exact ⟨_, results_tmp rfl _ _ _, v, rfl, ownsRow_putObj hrow _ hK rfl, hB1.trans (belowK_b (w := w) (Nat.le_refl _) W D _ _ (by omega) hK rfl rfl)⟩
  case stop =>
    rintro D c pre W _ _ h _
    exact h.elim

theorem goodF_ends (f : Fl) : goodF f ↔ (0 < leastP f.proto ∧ ∀ e, e ∈ endsF f → portOk e.port) := by
  unfold goodF endsF leastP
  by_cases h6 : f.proto = 6
  · simp [h6]
  · by_cases h7 : f.proto = 17
    · simp [h7]
    · simp [h6, h7]

set_option maxRecDepth 100000 in
set_option maxHeartbeats 2000000 in
theorem poGood_any (f : Fl) (w : World) : Calls Try.prog 16 #[flV f] w fun e w' => e = .returned (.bool (decide (goodF f))) ∧ Same w w' := by
  refine (callsIn_wide (n := 5)).1 ?_
  refine callsIn_of_wp_marks Try.func16 rfl trivial ?_ rfl
  simp only [Try.ntmps16, List.size_toArray, List.length_cons, List.length_nil, Nat.reduceAdd, Nat.reduceSub, Array.replicate_succ, Array.replicate_zero, List.push_toArray, List.append_toArray, List.nil_append, List.cons_append]
  have HA := Lib.hid (Same.alloc w (flO 44 f))
  have HB := Lib.hid (Same.alloc (w.alloc (flO 44 f)) (.cells #[.bool false] 4))
  obtain ⟨c0, c1, c2, c3, c4⟩ := FlAt.of (HB.out.block (heap_alloc_new w (flO 44 f)))
  gi_wp2_with (refine ⟨trivial, ?_⟩; gi_at_call 28; refine (callsIn_wide.2 (ends_any f _)).mono ?_; rintro e w' ⟨rfl, rfl⟩)
  have bS := (Boxed.new (w.alloc (flO 44 f)) 4 (.bool false)).alloc (flO 44 f)
  have bX := heap_alloc_new ((w.alloc (flO 44 f)).alloc (.cells #[.bool false] 4)) (flO 44 f)
  have bF := (Same.alloc _ (flO 44 f)).block (HB.out.block (heap_alloc_new w (flO 44 f)))
  simp only [World.size_alloc] at bS bX
  have hB0 : Below w.heap.size w (((w.alloc (flO 44 f)).alloc (.cells #[.bool false] 4)).alloc (flO 44 f)) := HA.out.trans (HB.out.trans (Same.alloc _ _))
  have hsz : (((w.alloc (flO 44 f)).alloc (.cells #[.bool false] 4)).alloc (flO 44 f)).heap.size = w.heap.size + 3 := by simp
  obtain ⟨W0, hW0⟩ : ∃ W0, ((w.alloc (flO 44 f)).alloc (.cells #[.bool false] 4)).alloc (flO 44 f) = W0 := ⟨_, rfl⟩
  rw [hW0] at bS bX bF hB0 hsz ⊢
  clear hW0 HA HB c0 c1 c2 c3 c4
  refine wpIn_rangeFunc_ownH rfl (by omega) (gf := 52) (lb := #[.pointer (some ⟨w.heap.size + 1 + 1, 0, none⟩)]) rfl trivial (enters_of Try.func52 (by kernel_rfl) rfl)
    (ends_stops 4 (by omega) (w.heap.size + 1 + 1) w.heap.size f W0 bX) KpE.trans (KpE.put (by omega) (by omega)) (Below.refl _ _) (fun _ => rfl)
    (fun pre W => (((∀ e, e ∈ pre → portOk e.port) ∧ W.heap[w.heap.size]? = some (flO 44 f)) ∧ Boxed W (w.heap.size + 1) 4 (.bool false)) ∧ Below w.heap.size w W)
    (fun c pre W => ((c = .ret ∧ ∃ e, e ∈ pre ∧ ¬ portOk e.port) ∧ Boxed W (w.heap.size + 1) 4 (.bool false)) ∧ Below w.heap.size w W)
    (OwnFrom.and (OwnFrom.and (OwnFrom.and (ownFrom_pure _ _) (Own.from (cells_own w.heap.size (fun _ => flO 44 f) (fun _ => rfl)) _)) (Own.from (boxed_own _ _ _) _)) (ownFrom_below (Nat.le_refl _) (by omega)))
    (fun c => OwnFrom.and (OwnFrom.and (ownFrom_pure _ (fun (pre : List En) => c = .ret ∧ ∃ e, e ∈ pre ∧ ¬ portOk e.port)) (Own.from (boxed_own _ _ _) _)) (ownFrom_below (Nat.le_refl _) (by omega)))
    ⟨⟨⟨by simp, bF⟩, bS⟩, hB0⟩
    (fun x a' W => ∃ Bx, W.heap[Bx]? = some (enO x) ∧ a' = { tmps := #[flV f, .pointer (some ⟨w.heap.size, 0, none⟩), .pointer (some ⟨w.heap.size + 1, 0, none⟩), .pointer (some ⟨Bx, 0, none⟩), flV f, .func (.func 52) #[] #[.pointer (some ⟨w.heap.size + 1 + 1, 0, none⟩)], enV x, undef, undef, undef, undef, undef, undef, undef, undef, undef, undef, undef, undef], defers := [] })
    (fun x a' _ X Y row hs hg hr => by obtain ⟨Bx, h2, h3⟩ := hs; exact ⟨Bx, cells_own Bx (fun (_ : Unit) => enO x) (fun _ => rfl) () X Y row h2 hg (fun r e => (hr r e).2), h3⟩)
    ?assign ?body ?done ?stop
  case assign =>
    rintro l pre x W K ⟨⟨⟨hp, hF⟩, hv⟩, hB1⟩ hK
    have hsW := hB1.size
    gi_wp2
    exact hK _ _ ((KeepsOthers.alloc _ _).from _) (KpE.same (Same.alloc W _) hsW) ⟨⟨⟨hp, (Same.alloc W _).block hF⟩, hv.alloc _⟩, hB1.trans ((Same.alloc W _).mono hsW)⟩ ⟨W.heap.size, heap_alloc_new W _, rfl⟩
  case body =>
    rintro l pre x a' W hl ⟨r, hr⟩ ⟨⟨⟨hp, hF⟩, hv⟩, hB1⟩ ⟨Bx, bX, rfl⟩ hlt
    have hc := hv.cell
    have hf := hv.frozen
    obtain ⟨e0, e1⟩ : W.cell? ⟨Bx, 0, none⟩ = some (.int .u32 x.addr) ∧ W.cell? ⟨Bx, 1, none⟩ = some (.int .i64 x.port) := by constructor <;> simp [World.cell?, bX]
    by_cases h0 : x.port < 0
    · have hn : ¬ portOk x.port := by unfold portOk; omega
      gi_wp2
      exact ⟨(KeepsOthers.setCell _ _ _).from _, ⟨⟨rfl, x, by simp, hn⟩, hv.set _⟩, hB1.setCell (p := ⟨w.heap.size + 1, 0, none⟩) (Nat.le_add_right _ 1) _⟩
    · by_cases h1 : 65535 < x.port
      · have hn : ¬ portOk x.port := by unfold portOk; omega
        gi_wp2
        exact ⟨(KeepsOthers.setCell _ _ _).from _, ⟨⟨rfl, x, by simp, hn⟩, hv.set _⟩, hB1.setCell (p := ⟨w.heap.size + 1, 0, none⟩) (Nat.le_add_right _ 1) _⟩
      · have hn : portOk x.port := by unfold portOk; omega
        gi_wp2
        exact ⟨(KeepsOthers.refl W).from _, KpE.refl _ _ _, ⟨⟨fun e he => by
          rcases List.mem_append.1 he with h | h
          · exact hp e h
          · obtain rfl := List.mem_singleton.1 h; exact hn, hF⟩, hv⟩, hB1⟩
  case done =>
    rintro D ys W hD rfl ⟨⟨⟨hp, hF⟩, hv⟩, hB1⟩ hK
    have hc := hv.cell
    have hf := hv.frozen
    obtain ⟨c0, c1, c2, c3, c4⟩ := FlAt.of hF
    have hg : decide (goodF f) = decide (0 < leastP f.proto) := by rw [decide_eq_decide, goodF_ends]; exact ⟨fun h => h.1, fun h => ⟨h, hp⟩⟩
    have HG := Lib.hid hg
    clear hg hp
    gi_wp2_with (refine ⟨trivial, ?_⟩; gi_at_call 29; refine (callsIn_wide.2 (poLeast_any f.proto _)).mono ?_; rintro e w' ⟨rfl, rfl⟩)
    have hK2 := (KeepsOthers.setCell W ⟨w.heap.size + 1, 0, none⟩ (.bool (decide (0 < leastP f.proto)))).same D _ hK rfl
    have hv2 := hv.set (.bool (decide (0 < leastP f.proto)))
    have hB2 : Below w.heap.size w (W.setCell ⟨w.heap.size + 1, 0, none⟩ (.bool (decide (0 < leastP f.proto)))) := hB1.setCell (p := ⟨w.heap.size + 1, 0, none⟩) (Nat.le_add_right _ 1) _
    generalize W.setCell ⟨w.heap.size + 1, 0, none⟩ (.bool (decide (0 < leastP f.proto))) = V at *
    have hv3 := hv2.kept (grownBy_putObj' V D (.deferred none)) (by simp; omega)
    have hc3 := hv3.cell
    refine ⟨by simp, .inl ⟨_, _, rfl, run_takeDeferred hK2, .bool (decide (0 < leastP f.proto)), ?_, by rw [HG.out], hB2.trans (belowK_b (w := w) (Nat.le_refl _) V D _ _ (by omega) hK2 rfl rfl)⟩⟩
    simp [results, Try.results16, go_sem, hc3]
  case stop =>
    rintro D c pre W hD hpre ⟨⟨⟨rfl, e, he, hne⟩, hv⟩, hB1⟩ hK
    have hg : decide (goodF f) = false := by
      rw [decide_eq_false_iff_not, goodF_ends]
      exact fun h => hne (h.2 e (hpre.subset he))
    have HG := Lib.hid hg
    clear hg hne he
    gi_wp2
    have hv3 := hv.kept (grownBy_putObj' W D (.deferred none)) (by simp; omega)
    have hc3 := hv3.cell
    refine ⟨by simp, .inl ⟨_, _, rfl, run_takeDeferred hK, .bool false, ?_, by rw [HG.out], hB1.trans (belowK_b (w := w) (Nat.le_refl _) W D _ _ (by omega) hK rfl rfl)⟩⟩
    simp [results, Try.results16, go_sem, hc3]
end Go.Proofs.Yteoleblnhcnpkaa
