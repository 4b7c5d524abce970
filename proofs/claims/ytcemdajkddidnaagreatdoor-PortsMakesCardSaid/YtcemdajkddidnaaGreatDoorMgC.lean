/- The developers' layer 5: Text. It reads a table of the library's: its content is asked. The document's own layer 5: Text. No condition beyond what it names. -/
import Derived.Maps.AppendAt
import Derived.Lib.AppendIntMem
import Derived.Test.YtcemdajkddidnaaGreatDoorQPoE
import Derived.Test.YtcemdajkddidnaaGreatDoorMgD
import Derived.Test.YtcemdajkddidnaaGreatDoorMgF
import Derived.Test.YtcemdajkddidnaaGreatDoorMgE
namespace Go.Proofs.YtcemdajkddidnaaGreatDoor
open Go.RowKit Go.Shelf
set_option linter.unusedVariables false
attribute [local go_sem] Oper.semAt_some

/-- an end that can be -/
abbrev EnT := {e : En // (0 ≤ e.addr ∧ e.addr ≤ 4294967295) ∧ (0 ≤ e.port ∧ e.port ≤ 65535)}

set_option maxRecDepth 100000 in
set_option maxHeartbeats 2000000 in
theorem ends1_inT (n : Nat) (hn : 1 ≤ n) (l Bx : Nat) (Kp : World → World → Prop) (f : Fl) (a b : EnT) (ha : a.1 = ⟨f.src, f.sport⟩) (hb : b.1 = ⟨f.dst, f.dport⟩) (J Jx : List EnT → World → Prop)
    (hY : ∀ pre x W, J pre W → pre.length < 2 → YieldAt Fence.wide (n - 1) Tryz.prog l #[enV x.1] W fun e W' =>
      (e = .returned (.bool true) ∧ J (pre ++ [x]) W' ∧ Kp W W') ∨ (e = .returned (.bool false) ∧ Jx (pre ++ [x]) W'))
    (W : World) (hx0 : FlAt W Bx f) (hx : ∀ W', Kp W W' → FlAt W' Bx f) (h0 : J [] W) :
    CallsIn Fence.wide n Tryz.prog 44 #[.func (.yield l) #[] #[], .pointer (some ⟨Bx, 0, none⟩)] W fun e W' => (∃ v, e = .returned v) ∧
      ((∃ ys, ys = [a, b] ∧ J ys W') ∨ (∃ pre, True ∧ Jx pre W')) := by
  refine callsIn_of_wp Tryz.func44 rfl trivial ?_ rfl
  simp only [Tryz.ntmps44, List.size_toArray, List.length_cons, List.length_nil, Nat.reduceAdd, Nat.reduceSub, Array.replicate_succ, Array.replicate_zero, List.push_toArray, List.append_toArray, List.nil_append, List.cons_append]
  obtain ⟨c0, c1, c2, c3, c4⟩ := hx0
  obtain ⟨fn, tmps, assign, body, hy, hR⟩ := hY [] a W h0 (by simp)
  rw [ha] at hy
  dsimp only [enV] at hy
  gi_wp2
  refine hR.mono ?_
  rintro e W3 (⟨rfl, hJ3, hk3⟩ | ⟨rfl, hJx3⟩)
  · obtain ⟨d0, d1, d2, d3, d4⟩ := hx W3 hk3
    obtain ⟨fn2, tmps2, assign2, body2, hy2, hR2⟩ := hY _ b W3 hJ3 (by simp)
    rw [hb] at hy2
    dsimp only [enV] at hy2
    clear hy hR c0 c1 c2 c3 c4
    gi_wp2
    refine hR2.mono ?_
    rintro e W4 (⟨rfl, hJ4, hk4⟩ | ⟨rfl, hJx4⟩)
    · gi_wp2
      go_end0
      exact ⟨⟨_, rfl⟩, .inl ⟨_, rfl, hJ4⟩⟩
    · gi_wp2
      go_end0
      exact ⟨⟨_, rfl⟩, .inr ⟨_, trivial, hJx4⟩⟩
  · gi_wp2
    go_end0
    exact ⟨⟨_, rfl⟩, .inr ⟨_, trivial, hJx3⟩⟩

theorem ends_stopsT (n : Nat) (hn : 1 ≤ n) (Bx n₀ : Nat) (f : Fl) (a b : EnT) (ha : a.1 = ⟨f.src, f.sport⟩) (hb : b.1 = ⟨f.dst, f.dport⟩) (w : World) (hB : w.heap[Bx]? = some (flO 24 f)) :
    SeqStopsK Fence.wide n Tryz.prog 44 #[.pointer (some ⟨Bx, 0, none⟩)] (fun x : EnT => #[enV x.1]) (KpE n₀ Bx) (fun ys => ys = [a, b]) (fun pre => True) 2 w := fun l J Jx W hW _ _ hY h0 => by
  have hW1 : W.heap[Bx]? = some (flO 24 f) := Same.block hW hB
  exact ends1_inT n hn l Bx (KpE n₀ Bx) f a b ha hb J Jx hY W (FlAt.of hW1) (fun W' hW' => FlAt.of (hW'.2 _ hW1)) h0

/-- strconv.Itoa of a port -/
theorem itoaN_any (u : Nat) (hu : u ≤ 65535) (w : World) (ht : Tab w) : Calls Tryz.prog 31 #[.int .i64 u] w fun e w' => e = .returned (.string ⟨(Lib.decDigits u).toArray⟩) ∧ Same w w' := by
  have h := Any.strconv_Itoa Tryz.layItoaM (u : Int) (by omega) (by omega) w ht
  rw [Lib.itoa_nonneg] at h
  exact h.mono fun e w' ⟨h1, k, os, h2⟩ => ⟨h1, h2 ▸ Lib.below_grow _ w (Nat.le_refl _) k os⟩

theorem strinfo : (Tryz.prog.info? 9).map (fun i => (i.zero, i.size, i.bytes)) = some (some (.string ⟨#[]⟩), 1, 16) := by kernel_rfl

/-- append of one string to a row that the call owns -/
theorem wp_append_str {w : World} {o : Oper} {a : Act} {K : Act → World → Prop} {Q : Exit → Act → World → Prop} (sl xo : Operand)
    (ho : o.op = .call { callee := .builtin .append, args := #[sl, xo], argTypes := #[51, 51] })
    (B : Nat) (hB : B ≤ w.heap.size) (v : Value) (k : Nat) (xs : List Value) (hs : a.eval sl = v) (hown : w.ownsRow B 9 1 v k xs) (g : Nat) (x : Value) (hxe : a.eval xo = .slice (some ⟨g, 0, none⟩) 1 1)
    (hc : ∀ j u, [x][j]? = some u → w.cell? ((⟨g, 0, none⟩ : Addr).add j) = some u) (hx1 : x.oneCell' = true) (hk : k ≤ 1000)
    (h : ∀ v' w', w'.ownsRow B 9 1 v' (k + 1) (xs ++ [x]) → w.grownBy w' v.ownBlock → (v' = .slice none 0 0 ↔ v = .slice none 0 0 ∧ 1 = 0) → K (a.put o.dst v') w') : Oper.wp Tryz.prog o a w K Q := by
  obtain ⟨i0, hi, hz0, hz1, hz2⟩ := info_parts strinfo
  obtain ⟨v', w', hr, h1, h2, h3⟩ := run_append_own w B 51 o.type 9 i0 (.string ⟨#[]⟩) 1 16 Tryz.underlying51 hi hz0 hz1 hz2 rfl (by decide) v k xs hown ⟨g, 0, none⟩ 1 1 [x] rfl hc (by simpa using hx1) (by unfold maxLen; omega) (by omega) hB
  exact Lib.wp_append_run w sl xo _ _ ho v _ hs hxe v' w' hr (h v' w' h1 h2 h3)

/-- an end's text, and a flow's -/
def endL (e : En) : List UInt8 := (addrL e.addr ++ [58]) ++ Lib.decDigits e.port.toNat
def endV (e : EnT) : Value := .string ⟨(endL e.1).toArray⟩
def textF (f : Fl) : List UInt8 := ((endL ⟨f.src, f.sport⟩ ++ [62] ++ endL ⟨f.dst, f.dport⟩) ++ [47]) ++ Lib.decDigits f.proto.toNat
theorem en_at {w : World} {B : Nat} {e : En} (h : w.heap[B]? = some (enO e)) : w.cell? ⟨B, 0, none⟩ = some (.int .u32 e.addr) ∧ w.cell? ⟨B, 1, none⟩ = some (.int .i64 e.port) := by constructor <;> simp [World.cell?, h]

theorem own_ne {W : World} {B base k : Nat} {t : TypeId} {cs : Array Value} {v : Value} {xs : List Value} (h : W.heap[B]? = some (.cells cs t (0, 0))) (ht : t ≠ 9) (hr : W.ownsRow base 9 1 v k xs) : v.ownBlock ≠ some B := by
  rcases hr.2 with ⟨rfl, _⟩ | ⟨g, cap, cur, rfl, _, hgb, _⟩
  · simp [Value.ownBlock]
  · intro e'
    obtain rfl : g = B := by simpa [Value.ownBlock] using e'
    rw [h] at hgb
    simp at hgb
    exact ht hgb.2
theorem own_cells {W : World} {base k : Nat} {v : Value} {xs : List Value} (hr : W.ownsRow base 9 1 v k xs) (j : Nat) (o : Obj) (hj : v.ownBlock = some j) (ho : W.heap[j]? = some o) : o.isCells = true := by
  rcases hr.2 with ⟨rfl, _⟩ | ⟨g, cap, cur, rfl, _, hgb, _⟩
  · simp [Value.ownBlock] at hj
  · obtain rfl : g = j := by simpa [Value.ownBlock] using hj
    rw [hgb] at ho
    cases ho
    rfl
theorem own_same {W D : World} {base k : Nat} {v : Value} {xs : List Value} (hr : W.ownsRow base 9 1 v k xs) (hs : Same W D) : D.ownsRow base 9 1 v k xs :=
  World.ownsRow.kept (row := none) hr ⟨hs.os, hs.tape, hs.output, hs.size, fun k hk _ => Below.block hs k hk⟩ (by cases v.ownBlock <;> simp)

set_option maxRecDepth 100000 in
set_option maxHeartbeats 4000000 in
theorem poText_any (f : Fl) (hg : goodF f) (hr : (0 ≤ f.src ∧ f.src ≤ 4294967295) ∧ (0 ≤ f.dst ∧ f.dst ≤ 4294967295)) (w : World) (ht : Tab w) : Calls Tryz.prog 15 #[flV f] w fun e w' => e = .returned (.string ⟨(textF f).toArray⟩) ∧ Same w w' := by
  obtain ⟨hpp, hsp, hdp⟩ := hg
  obtain ⟨a, ha⟩ : ∃ a : EnT, a.1 = ⟨f.src, f.sport⟩ := ⟨⟨⟨f.src, f.sport⟩, hr.1, hsp⟩, rfl⟩
  obtain ⟨b, hb⟩ : ∃ b : EnT, b.1 = ⟨f.dst, f.dport⟩ := ⟨⟨⟨f.dst, f.dport⟩, hr.2, hdp⟩, rfl⟩
  have HTab := Lib.hid ht
  refine (callsIn_wide (n := 5)).1 ?_
  refine callsIn_of_wp_marks Tryz.func15 rfl trivial ?_ rfl
  simp only [Tryz.ntmps15, List.size_toArray, List.length_cons, List.length_nil, Nat.reduceAdd, Nat.reduceSub, Array.replicate_succ, Array.replicate_zero, List.push_toArray, List.append_toArray, List.nil_append, List.cons_append]
  have HA := Lib.hid (Same.alloc w (flO 24 f))
  have HB := Lib.hid (Same.alloc (w.alloc (flO 24 f)) (.cells #[.slice none 0 0] 51))
  obtain ⟨c0, c1, c2, c3, c4⟩ := FlAt.of (HB.out.block (heap_alloc_new w (flO 24 f)))
  gi_wp2_with (refine ⟨trivial, ?_⟩; gi_at_call 26; refine (callsIn_wide.2 (ends_any f _)).mono ?_; rintro e w' ⟨rfl, rfl⟩)
  have bS := (Boxed.new (w.alloc (flO 24 f)) 51 (.slice none 0 0)).alloc (flO 24 f)
  have bX := heap_alloc_new ((w.alloc (flO 24 f)).alloc (.cells #[.slice none 0 0] 51)) (flO 24 f)
  have bF := (Same.alloc _ (flO 24 f)).block (HB.out.block (heap_alloc_new w (flO 24 f)))
  simp only [World.size_alloc] at bS bX
  have hB0 : Below w.heap.size w (((w.alloc (flO 24 f)).alloc (.cells #[.slice none 0 0] 51)).alloc (flO 24 f)) := HA.out.trans (HB.out.trans (Same.alloc _ _))
  have hsz : (((w.alloc (flO 24 f)).alloc (.cells #[.slice none 0 0] 51)).alloc (flO 24 f)).heap.size = w.heap.size + 3 := by simp
  obtain ⟨W0, hW0⟩ : ∃ W0, ((w.alloc (flO 24 f)).alloc (.cells #[.slice none 0 0] 51)).alloc (flO 24 f) = W0 := ⟨_, rfl⟩
  rw [hW0] at bS bX bF hB0 hsz ⊢
  clear hW0 HA HB c0 c1 c2 c3 c4
  refine wpIn_rangeFunc_ownH rfl (by omega) (gf := 44) (lb := #[.pointer (some ⟨w.heap.size + 1 + 1, 0, none⟩)]) rfl trivial (enters_of Tryz.func44 (by kernel_rfl) rfl)
    (ends_stopsT 4 (by omega) (w.heap.size + 1 + 1) w.heap.size f a b ha hb W0 bX) KpE.trans (KpE.put (by omega) (by omega)) (Below.refl _ _) (fun _ => rfl)
    (fun pre W => ((∃ v, Boxed W (w.heap.size + 1) 51 v ∧ W.ownsRow W0.heap.size 9 1 v pre.length (pre.map endV) ∧ True) ∧ W.heap[w.heap.size]? = some (flO 24 f)) ∧ Below w.heap.size w W)
    (fun _ _ _ => False)
    (OwnFrom.and (OwnFrom.and (Own.from (holdsRow_own W0.heap.size (w.heap.size + 1) 51 9 1 (fun pre : List EnT => pre.length) (fun pre => pre.map endV) (fun _ _ => True)) _) (Own.from (cells_own w.heap.size (fun _ => flO 24 f) (fun _ => rfl)) _)) (ownFrom_below (Nat.le_refl _) (by omega)))
    (fun _ _ _ _ _ hs _ _ => hs)
    ⟨⟨⟨_, bS, World.ownsRow_nil _ _ _ _, trivial⟩, bF⟩, hB0⟩
    (fun x a' W => ∃ Bx, w.heap.size < Bx ∧ W.heap[Bx]? = some (enO x.1) ∧ a' = { tmps := #[flV f, .pointer (some ⟨w.heap.size, 0, none⟩), .string ⟨#[]⟩, .pointer (some ⟨w.heap.size + 1, 0, none⟩), .pointer (some ⟨Bx, 0, none⟩), flV f, .func (.func 44) #[] #[.pointer (some ⟨w.heap.size + 1 + 1, 0, none⟩)], enV x.1, undef, undef, undef, undef, undef, undef, undef, undef, undef, undef, undef, undef, undef, undef, undef, undef, undef, undef], defers := [] })
    (fun x a' _ X Y row hs hg hr => by obtain ⟨Bx, h1, h2, h3⟩ := hs; exact ⟨Bx, h1, cells_own Bx (fun (_ : Unit) => enO x.1) (fun _ => rfl) () X Y row h2 hg (fun r e => (hr r e).2), h3⟩)
    ?assign ?body ?done ?stop
  case assign =>
    rintro l pre x W K ⟨⟨⟨v, hv, hr, _⟩, hF⟩, hB1⟩ hK
    have hsW := hB1.size
    have hlt := hv.lt
    gi_wp2
    refine hK _ _ ((KeepsOthers.alloc _ _).from _) (KpE.same (Same.alloc W _) hsW) ⟨⟨⟨v, hv.alloc _, World.ownsRow.kept (row := none) hr ⟨rfl, rfl, rfl, by simp, fun k hk _ => Below.heap_alloc W _ k hk⟩ (by cases v.ownBlock <;> simp), trivial⟩, (Same.alloc W _).block hF⟩, hB1.trans ((Same.alloc W _).mono hsW)⟩ ⟨W.heap.size, by omega, heap_alloc_new W _, rfl⟩
  case body =>
    rintro l pre x a' W hl ⟨r, hr⟩ ⟨⟨⟨v, hv, hrow, _⟩, hF⟩, hB1⟩ ⟨Bx, hBx, bX1, rfl⟩ hlt
    have HB1 := Lib.hid hB1
    have hW0 : W0.heap.size < W.heap.size := by have := (Array.getElem?_eq_some_iff.1 hr).1; omega
    obtain ⟨⟨ad, po⟩, ⟨x1, x2⟩, x3, x4⟩ := x
    simp only at x1 x2 x3 x4
    obtain ⟨n, rfl⟩ : ∃ n : Nat, po = (n : Int) := ⟨po.toNat, by omega⟩
    have bX2 : W.heap[Bx]? = some (enO ⟨ad, (n : Int)⟩) := bX1
    have HbX := Lib.hid bX2
    have HAd := fun w h => Lib.hid (Addr_any ad x1 x2 w h)
    have HIt := fun w h => Lib.hid (itoaN_any n (by omega) w h)
    have hE : endV ⟨⟨ad, (n : Int)⟩, ⟨x1, x2⟩, x3, x4⟩ = .string ((⟨(addrL ad).toArray⟩ : ByteArray) ++ ⟨#[58]⟩ ++ ⟨(Lib.decDigits n).toArray⟩) := by
      have e58 : (⟨#[58]⟩ : ByteArray) = ⟨([58] : List UInt8).toArray⟩ := rfl
      rw [e58, catB, catB]
      simp [endV, endL]
    have hal := addrL_len ad
    have hdl := dec_len5 n (by omega)
    generalize addrL ad = al at *
    generalize Lib.decDigits n = dl at *
    have HZ1 : Hid (¬ 9223372036854775807 < al.length + 1) := by show ¬ _; omega
    have HZ2 : Hid (¬ 9223372036854775807 < al.length + 1 + dl.length) := by show ¬ _; omega
    have HLn : Hid (pre.length ≤ 1000) := by show _ ≤ _; omega
    have happ : Hid (∀ D, Same W D → W0.heap.size ≤ D.heap.size ∧ D.ownsRow W0.heap.size 9 1 v pre.length (pre.map endV)) := fun D hD => ⟨Nat.le_trans (Nat.le_of_lt hW0) hD.size, own_same hrow hD⟩
    have hafter : Hid (∀ D, Same W D → ∀ v4 w4, w4.ownsRow W0.heap.size 9 1 v4 (pre.length + 1) (pre.map endV ++ [.string ((⟨al.toArray⟩ : ByteArray) ++ ⟨#[58]⟩ ++ ⟨dl.toArray⟩)]) → D.grownBy w4 v.ownBlock →
        (Below w.heap.size w w4 ∧ w4.heap[Bx]? = some (enO ⟨ad, (n : Int)⟩)) ∧ Boxed w4 (w.heap.size + 1) 51 v) := fun D hD v4 w4 hO hG => by
      have hrD := own_same hrow hD
      have hlt := World.ownsRow.lt hrD
      have hBx := hD.block bX2
      have hvD : Boxed D (w.heap.size + 1) 51 v := hD.block hv
      have hsD := hD.size
      refine ⟨⟨(hB1.trans (hD.mono hB1.size)).grown hG (by have := hB1.size; omega) (fun k hk => by have := (hlt k hk).1; omega), ?_⟩, ?_⟩
      · exact (hG.block Bx (Array.getElem?_eq_some_iff.1 hBx).1 (own_ne hBx (by decide) hrD).symm).trans hBx
      · exact hvD.kept hG (fun e => by have := (hlt _ e.symm).1; omega)
    have hlast : Hid (∀ D, Same W D → ∀ v4 w4, w4.ownsRow W0.heap.size 9 1 v4 (pre.length + 1) (pre.map endV ++ [.string ((⟨al.toArray⟩ : ByteArray) ++ ⟨#[58]⟩ ++ ⟨dl.toArray⟩)]) → D.grownBy w4 v.ownBlock →
        (Below w.heap.size w (w4.setCell ⟨w.heap.size + 1, 0, none⟩ v4) ∧ (w4.setCell ⟨w.heap.size + 1, 0, none⟩ v4).heap[Bx]? = some (enO ⟨ad, (n : Int)⟩)) ∧
        (KeepsFrom W0.heap.size W (w4.setCell ⟨w.heap.size + 1, 0, none⟩ v4) ∧ KpE w.heap.size (w.heap.size + 1 + 1) W (w4.setCell ⟨w.heap.size + 1, 0, none⟩ v4) ∧
          (((∃ u, Boxed (w4.setCell ⟨w.heap.size + 1, 0, none⟩ v4) (w.heap.size + 1) 51 u ∧ (w4.setCell ⟨w.heap.size + 1, 0, none⟩ v4).ownsRow W0.heap.size 9 1 u (pre ++ [(⟨⟨ad, (n : Int)⟩, ⟨x1, x2⟩, x3, x4⟩ : EnT)]).length ((pre ++ [(⟨⟨ad, (n : Int)⟩, ⟨x1, x2⟩, x3, x4⟩ : EnT)]).map endV) ∧ True) ∧ (w4.setCell ⟨w.heap.size + 1, 0, none⟩ v4).heap[w.heap.size]? = some (flO 24 f)) ∧ Below w.heap.size w (w4.setCell ⟨w.heap.size + 1, 0, none⟩ v4)))) := fun D hD v4 w4 hO hG => by
      obtain ⟨⟨hb4, hx4⟩, hv4⟩ := hafter.out D hD v4 w4 hO hG
      have hrD := own_same hrow hD
      have hlt := World.ownsRow.lt hrD
      have hsD := hD.size
      have hBne : Bx ≠ w.heap.size + 1 := fun e => by
        subst e
        have h1 : W.heap[w.heap.size + 1]? = some (.cells #[v] 51 (0, 0)) := hv
        rw [bX2] at h1
        simp at h1
      have hbf := hb4.setCell (p := ⟨w.heap.size + 1, 0, none⟩) (Nat.le_add_right _ 1) v4
      have hkk : ∀ q, q < D.heap.size → q < W0.heap.size → q ≠ w.heap.size + 1 → (w4.setCell ⟨w.heap.size + 1, 0, none⟩ v4).heap[q]? = D.heap[q]? := fun q hq hq0 hqn => by
        rw [Below.heap_setCell _ _ _ _ hqn]
        exact hG.block q hq (fun e => by have := (hlt _ e.symm).1; omega)
      refine ⟨⟨hbf, ?_⟩, ?_, ⟨?_, ?_⟩, ⟨⟨v4, hv4.set v4, ?_, trivial⟩, ?_⟩, hbf⟩
      · rw [Below.heap_setCell _ _ _ _ hBne]; exact hx4
      · exact ((hD.keeps.trans (KeepsOthers.of_grownBy hG (fun j o ej hj => own_cells hrD j o ej hj))).trans (KeepsOthers.setCell _ _ _)).from _
      · exact ((hD.mono hB1.size).trans ((Below.refl w.heap.size D).grown hG (by have := hB1.size; omega) (fun k hk => by have := (hlt k hk).1; omega))).setCell (p := ⟨w.heap.size + 1, 0, none⟩) (Nat.le_add_right _ 1) v4
      · intro o ho
        rw [hkk _ (by omega) (by omega) (by omega)]
        exact hD.block ho
      · rw [List.length_append, List.map_append, List.map_cons, List.map_nil, hE]
        exact hO.kept (grownBy_setCell' w4 (w.heap.size + 1) _) (.inr (fun e => by have := (World.ownsRow.lt hO _ e).1; omega))
      · rw [hkk _ (by omega) (by omega) (by omega)]
        exact hD.block hF
    clear hE hal hdl hrow hB1 bX1 bX2
    gi_wp2_with fail
    refine reg_start_in (fun w' => Below w.heap.size w w' ∧ w'.heap[Bx]? = some (enO ⟨ad, (n : Int)⟩)) (by kernel_rfl) (by kernel_rfl) ?_
    have HT0 : Hid (Same W W.drew) := (Same.refl W).drew
    generalize W.drew = D0 at *
    refine reg_take (v := ?_) 1 (some 9) rfl rfl (by kernel_rfl) (fun _ _ _ h => h) (by kernel_rfl) ⟨HB1.out.trans (HT0.out.mono HB1.out.size), HT0.out.block HbX.out⟩ ?_ ?_
    rotate_left
    · (intro w' hw'; obtain ⟨e0, e1⟩ := en_at hw'.2; go_simp; try with_reducible rfl)
    try simp only [Act.put, List.setIfInBounds_toArray, List.set_cons_zero, List.set_cons_succ]
    refine reg_take (v := ?_) 2 (some 10) rfl rfl (by kernel_rfl) (fun _ _ _ h => h) (by kernel_rfl) ⟨HB1.out.trans (HT0.out.mono HB1.out.size), HT0.out.block HbX.out⟩ ?_ ?_
    rotate_left
    · (intro w' hw'; obtain ⟨e0, e1⟩ := en_at hw'.2; go_simp; try with_reducible rfl)
    try simp only [Act.put, List.setIfInBounds_toArray, List.set_cons_zero, List.set_cons_succ]
    refine reg_take (v := ?_) 5 (some 13) rfl rfl (by kernel_rfl) (fun _ _ _ h => h) (by kernel_rfl) ⟨HB1.out.trans (HT0.out.mono HB1.out.size), HT0.out.block HbX.out⟩ ?_ ?_
    rotate_left
    · (intro w' hw'; obtain ⟨e0, e1⟩ := en_at hw'.2; go_simp; try with_reducible rfl)
    try simp only [Act.put, List.setIfInBounds_toArray, List.set_cons_zero, List.set_cons_succ]
    refine reg_take (v := ?_) 6 (some 14) rfl rfl (by kernel_rfl) (fun _ _ _ h => h) (by kernel_rfl) ⟨HB1.out.trans (HT0.out.mono HB1.out.size), HT0.out.block HbX.out⟩ ?_ ?_
    rotate_left
    · (intro w' hw'; obtain ⟨e0, e1⟩ := en_at hw'.2; go_simp; try with_reducible rfl)
    try simp only [Act.put, List.setIfInBounds_toArray, List.set_cons_zero, List.set_cons_succ]
    refine reg_two 0 3 rfl rfl (by kernel_rfl) (by kernel_rfl) (by kernel_rfl) ?_ ?_
    · have hcb := Boxed.cell (show Boxed D0 (w.heap.size + 1) 51 v from Same.block HT0.out hv)
      go_simp
      refine ⟨⟨HB1.out.trans (HT0.out.mono HB1.out.size), HT0.out.block HbX.out⟩, ?_⟩
      clear hcb
      try simp only [Act.put, List.setIfInBounds_toArray, List.set_cons_zero, List.set_cons_succ]
      refine reg_one 3 rfl (by kernel_rfl) (by kernel_rfl) ?_
      go_simp
      refine (HAd _ (HTab.out.below (HB1.out.trans (HT0.out.mono HB1.out.size)) (Nat.le_refl _))).out.mono ?_
      rintro e D1 ⟨rfl, hs⟩
      have HT1 := Lib.hid (HT0.out.trans hs)
      clear hs
      refine ⟨⟨HB1.out.trans (HT1.out.mono HB1.out.size), HT1.out.block HbX.out⟩, ?_⟩
      try simp only [Act.put, List.setIfInBounds_toArray, List.set_cons_zero, List.set_cons_succ]
      refine reg_take (v := ?_) 4 (some 12) rfl rfl (by kernel_rfl) (fun _ _ _ h => h) (by kernel_rfl) ⟨HB1.out.trans (HT1.out.mono HB1.out.size), HT1.out.block HbX.out⟩ ?_ ?_
      rotate_left
      · (intro w' hw'; obtain ⟨e0, e1⟩ := en_at hw'.2; go_simp; rw [if_neg HZ1.out])
      try simp only [Act.put, List.setIfInBounds_toArray, List.set_cons_zero, List.set_cons_succ]
      refine reg_one 7 rfl (by kernel_rfl) (by kernel_rfl) ?_
      go_simp
      refine (HIt _ (HTab.out.below (HB1.out.trans (HT1.out.mono HB1.out.size)) (Nat.le_refl _))).out.mono ?_
      rintro e D2 ⟨rfl, hs⟩
      have HT2 := Lib.hid (HT1.out.trans hs)
      clear hs
      refine ⟨⟨HB1.out.trans (HT2.out.mono HB1.out.size), HT2.out.block HbX.out⟩, ?_⟩
      try simp only [Act.put, List.setIfInBounds_toArray, List.set_cons_zero, List.set_cons_succ]
      refine reg_take (v := ?_) 8 (some 16) rfl rfl (by kernel_rfl) (fun _ _ _ h => h) (by kernel_rfl) ⟨HB1.out.trans (HT2.out.mono HB1.out.size), HT2.out.block HbX.out⟩ ?_ ?_
      rotate_left
      · (intro w' hw'; obtain ⟨e0, e1⟩ := en_at hw'.2; go_simp; rw [if_neg HZ2.out])
      try simp only [Act.put, List.setIfInBounds_toArray, List.set_cons_zero, List.set_cons_succ]
      refine reg_one 9 rfl (by kernel_rfl) (by kernel_rfl) ?_
      go_simp
      have HT3 := Lib.hid (HT2.out.trans (Same.alloc D2 (.cells #[.string ((⟨al.toArray⟩ : ByteArray) ++ ⟨#[58]⟩ ++ ⟨dl.toArray⟩)] 9)))
      have HN := Lib.hid (cell_one_new D2 (.string ((⟨al.toArray⟩ : ByteArray) ++ ⟨#[58]⟩ ++ ⟨dl.toArray⟩)) 9)
      refine ⟨⟨HB1.out.trans (HT3.out.mono HB1.out.size), HT3.out.block HbX.out⟩, ?_⟩
      obtain ⟨zk, hzk⟩ : ∃ zk, D2.heap.size = zk := ⟨_, rfl⟩
      rw [hzk] at HN
      simp only [hzk]
      generalize D2.alloc (.cells #[.string ((⟨al.toArray⟩ : ByteArray) ++ ⟨#[58]⟩ ++ ⟨dl.toArray⟩)] 9) = D3 at *
      clear hzk
      try simp only [Act.put, List.setIfInBounds_toArray, List.set_cons_zero, List.set_cons_succ]
      refine reg_one 10 rfl (by kernel_rfl) (by kernel_rfl) ?_
      have HA := happ.out D3 HT3.out
      refine wp_append_str _ _ (by rfl) W0.heap.size HA.1 v pre.length (pre.map endV) (by rfl) HA.2 _ (.string ((⟨al.toArray⟩ : ByteArray) ++ ⟨#[58]⟩ ++ ⟨dl.toArray⟩)) (by rfl) HN.out rfl HLn.out ?_
      intro v4 w4 hO hG hnil
      obtain ⟨hS4, hv4⟩ := hafter.out D3 HT3.out v4 w4 hO hG
      refine ⟨hS4, ?_⟩
      try simp only [Act.put, List.setIfInBounds_toArray, List.set_cons_zero, List.set_cons_succ]
      obtain ⟨g4, cp4, rfl⟩ := ownsRow_succ hO
      have hc4 := hv4.cell
      have hf4 := hv4.frozen
      refine reg_one 11 rfl (by kernel_rfl) (by kernel_rfl) ?_
      go_simp
      refine ⟨(hlast.out D3 HT3.out _ w4 hO hG).1, ?_⟩
      refine reg_done (by kernel_rfl) ?_
      exact (hlast.out D3 HT3.out _ w4 hO hG).2
    · go_simp
      refine (HAd _ (HTab.out.below (HB1.out.trans (HT0.out.mono HB1.out.size)) (Nat.le_refl _))).out.mono ?_
      rintro e D1 ⟨rfl, hs⟩
      have HT1 := Lib.hid (HT0.out.trans hs)
      clear hs
      refine ⟨⟨HB1.out.trans (HT1.out.mono HB1.out.size), HT1.out.block HbX.out⟩, ?_⟩
      try simp only [Act.put, List.setIfInBounds_toArray, List.set_cons_zero, List.set_cons_succ]
      refine reg_take (v := ?_) 4 (some 12) rfl rfl (by kernel_rfl) (fun _ _ _ h => h) (by kernel_rfl) ⟨HB1.out.trans (HT1.out.mono HB1.out.size), HT1.out.block HbX.out⟩ ?_ ?_
      rotate_left
      · (intro w' hw'; obtain ⟨e0, e1⟩ := en_at hw'.2; go_simp; rw [if_neg HZ1.out])
      try simp only [Act.put, List.setIfInBounds_toArray, List.set_cons_zero, List.set_cons_succ]
      refine reg_two 0 7 rfl rfl (by kernel_rfl) (by kernel_rfl) (by kernel_rfl) ?_ ?_
      · have hcb := Boxed.cell (show Boxed D1 (w.heap.size + 1) 51 v from Same.block HT1.out hv)
        go_simp
        refine ⟨⟨HB1.out.trans (HT1.out.mono HB1.out.size), HT1.out.block HbX.out⟩, ?_⟩
        clear hcb
        try simp only [Act.put, List.setIfInBounds_toArray, List.set_cons_zero, List.set_cons_succ]
        refine reg_one 7 rfl (by kernel_rfl) (by kernel_rfl) ?_
        go_simp
        refine (HIt _ (HTab.out.below (HB1.out.trans (HT1.out.mono HB1.out.size)) (Nat.le_refl _))).out.mono ?_
        rintro e D2 ⟨rfl, hs⟩
        have HT2 := Lib.hid (HT1.out.trans hs)
        clear hs
        refine ⟨⟨HB1.out.trans (HT2.out.mono HB1.out.size), HT2.out.block HbX.out⟩, ?_⟩
        try simp only [Act.put, List.setIfInBounds_toArray, List.set_cons_zero, List.set_cons_succ]
        refine reg_take (v := ?_) 8 (some 16) rfl rfl (by kernel_rfl) (fun _ _ _ h => h) (by kernel_rfl) ⟨HB1.out.trans (HT2.out.mono HB1.out.size), HT2.out.block HbX.out⟩ ?_ ?_
        rotate_left
        · (intro w' hw'; obtain ⟨e0, e1⟩ := en_at hw'.2; go_simp; rw [if_neg HZ2.out])
        try simp only [Act.put, List.setIfInBounds_toArray, List.set_cons_zero, List.set_cons_succ]
        refine reg_one 9 rfl (by kernel_rfl) (by kernel_rfl) ?_
        go_simp
        have HT3 := Lib.hid (HT2.out.trans (Same.alloc D2 (.cells #[.string ((⟨al.toArray⟩ : ByteArray) ++ ⟨#[58]⟩ ++ ⟨dl.toArray⟩)] 9)))
        have HN := Lib.hid (cell_one_new D2 (.string ((⟨al.toArray⟩ : ByteArray) ++ ⟨#[58]⟩ ++ ⟨dl.toArray⟩)) 9)
        refine ⟨⟨HB1.out.trans (HT3.out.mono HB1.out.size), HT3.out.block HbX.out⟩, ?_⟩
        obtain ⟨zk, hzk⟩ : ∃ zk, D2.heap.size = zk := ⟨_, rfl⟩
        rw [hzk] at HN
        simp only [hzk]
        generalize D2.alloc (.cells #[.string ((⟨al.toArray⟩ : ByteArray) ++ ⟨#[58]⟩ ++ ⟨dl.toArray⟩)] 9) = D3 at *
        clear hzk
        try simp only [Act.put, List.setIfInBounds_toArray, List.set_cons_zero, List.set_cons_succ]
        refine reg_one 10 rfl (by kernel_rfl) (by kernel_rfl) ?_
        have HA := happ.out D3 HT3.out
        refine wp_append_str _ _ (by rfl) W0.heap.size HA.1 v pre.length (pre.map endV) (by rfl) HA.2 _ (.string ((⟨al.toArray⟩ : ByteArray) ++ ⟨#[58]⟩ ++ ⟨dl.toArray⟩)) (by rfl) HN.out rfl HLn.out ?_
        intro v4 w4 hO hG hnil
        obtain ⟨hS4, hv4⟩ := hafter.out D3 HT3.out v4 w4 hO hG
        refine ⟨hS4, ?_⟩
        try simp only [Act.put, List.setIfInBounds_toArray, List.set_cons_zero, List.set_cons_succ]
        obtain ⟨g4, cp4, rfl⟩ := ownsRow_succ hO
        have hc4 := hv4.cell
        have hf4 := hv4.frozen
        refine reg_one 11 rfl (by kernel_rfl) (by kernel_rfl) ?_
        go_simp
        refine ⟨(hlast.out D3 HT3.out _ w4 hO hG).1, ?_⟩
        refine reg_done (by kernel_rfl) ?_
        exact (hlast.out D3 HT3.out _ w4 hO hG).2
      · go_simp
        refine (HIt _ (HTab.out.below (HB1.out.trans (HT1.out.mono HB1.out.size)) (Nat.le_refl _))).out.mono ?_
        rintro e D2 ⟨rfl, hs⟩
        have HT2 := Lib.hid (HT1.out.trans hs)
        clear hs
        refine ⟨⟨HB1.out.trans (HT2.out.mono HB1.out.size), HT2.out.block HbX.out⟩, ?_⟩
        try simp only [Act.put, List.setIfInBounds_toArray, List.set_cons_zero, List.set_cons_succ]
        refine reg_take (v := ?_) 8 (some 16) rfl rfl (by kernel_rfl) (fun _ _ _ h => h) (by kernel_rfl) ⟨HB1.out.trans (HT2.out.mono HB1.out.size), HT2.out.block HbX.out⟩ ?_ ?_
        rotate_left
        · (intro w' hw'; obtain ⟨e0, e1⟩ := en_at hw'.2; go_simp; rw [if_neg HZ2.out])
        try simp only [Act.put, List.setIfInBounds_toArray, List.set_cons_zero, List.set_cons_succ]
        refine reg_two 0 9 rfl rfl (by kernel_rfl) (by kernel_rfl) (by kernel_rfl) ?_ ?_
        · have hcb := Boxed.cell (show Boxed D2 (w.heap.size + 1) 51 v from Same.block HT2.out hv)
          go_simp
          refine ⟨⟨HB1.out.trans (HT2.out.mono HB1.out.size), HT2.out.block HbX.out⟩, ?_⟩
          clear hcb
          try simp only [Act.put, List.setIfInBounds_toArray, List.set_cons_zero, List.set_cons_succ]
          refine reg_one 9 rfl (by kernel_rfl) (by kernel_rfl) ?_
          go_simp
          have HT3 := Lib.hid (HT2.out.trans (Same.alloc D2 (.cells #[.string ((⟨al.toArray⟩ : ByteArray) ++ ⟨#[58]⟩ ++ ⟨dl.toArray⟩)] 9)))
          have HN := Lib.hid (cell_one_new D2 (.string ((⟨al.toArray⟩ : ByteArray) ++ ⟨#[58]⟩ ++ ⟨dl.toArray⟩)) 9)
          refine ⟨⟨HB1.out.trans (HT3.out.mono HB1.out.size), HT3.out.block HbX.out⟩, ?_⟩
          obtain ⟨zk, hzk⟩ : ∃ zk, D2.heap.size = zk := ⟨_, rfl⟩
          rw [hzk] at HN
          simp only [hzk]
          generalize D2.alloc (.cells #[.string ((⟨al.toArray⟩ : ByteArray) ++ ⟨#[58]⟩ ++ ⟨dl.toArray⟩)] 9) = D3 at *
          clear hzk
          try simp only [Act.put, List.setIfInBounds_toArray, List.set_cons_zero, List.set_cons_succ]
          refine reg_one 10 rfl (by kernel_rfl) (by kernel_rfl) ?_
          have HA := happ.out D3 HT3.out
          refine wp_append_str _ _ (by rfl) W0.heap.size HA.1 v pre.length (pre.map endV) (by rfl) HA.2 _ (.string ((⟨al.toArray⟩ : ByteArray) ++ ⟨#[58]⟩ ++ ⟨dl.toArray⟩)) (by rfl) HN.out rfl HLn.out ?_
          intro v4 w4 hO hG hnil
          obtain ⟨hS4, hv4⟩ := hafter.out D3 HT3.out v4 w4 hO hG
          refine ⟨hS4, ?_⟩
          try simp only [Act.put, List.setIfInBounds_toArray, List.set_cons_zero, List.set_cons_succ]
          obtain ⟨g4, cp4, rfl⟩ := ownsRow_succ hO
          have hc4 := hv4.cell
          have hf4 := hv4.frozen
          refine reg_one 11 rfl (by kernel_rfl) (by kernel_rfl) ?_
          go_simp
          refine ⟨(hlast.out D3 HT3.out _ w4 hO hG).1, ?_⟩
          refine reg_done (by kernel_rfl) ?_
          exact (hlast.out D3 HT3.out _ w4 hO hG).2
        · go_simp
          have HT3 := Lib.hid (HT2.out.trans (Same.alloc D2 (.cells #[.string ((⟨al.toArray⟩ : ByteArray) ++ ⟨#[58]⟩ ++ ⟨dl.toArray⟩)] 9)))
          have HN := Lib.hid (cell_one_new D2 (.string ((⟨al.toArray⟩ : ByteArray) ++ ⟨#[58]⟩ ++ ⟨dl.toArray⟩)) 9)
          refine ⟨⟨HB1.out.trans (HT3.out.mono HB1.out.size), HT3.out.block HbX.out⟩, ?_⟩
          obtain ⟨zk, hzk⟩ : ∃ zk, D2.heap.size = zk := ⟨_, rfl⟩
          rw [hzk] at HN
          simp only [hzk]
          generalize D2.alloc (.cells #[.string ((⟨al.toArray⟩ : ByteArray) ++ ⟨#[58]⟩ ++ ⟨dl.toArray⟩)] 9) = D3 at *
          clear hzk
          try simp only [Act.put, List.setIfInBounds_toArray, List.set_cons_zero, List.set_cons_succ]
          refine reg_one 0 rfl (by kernel_rfl) (by kernel_rfl) ?_
          have hcb := Boxed.cell (show Boxed D3 (w.heap.size + 1) 51 v from Same.block HT3.out hv)
          go_simp
          refine ⟨⟨HB1.out.trans (HT3.out.mono HB1.out.size), HT3.out.block HbX.out⟩, ?_⟩
          clear hcb
          try simp only [Act.put, List.setIfInBounds_toArray, List.set_cons_zero, List.set_cons_succ]
          refine reg_one 10 rfl (by kernel_rfl) (by kernel_rfl) ?_
          have HA := happ.out D3 HT3.out
          refine wp_append_str _ _ (by rfl) W0.heap.size HA.1 v pre.length (pre.map endV) (by rfl) HA.2 _ (.string ((⟨al.toArray⟩ : ByteArray) ++ ⟨#[58]⟩ ++ ⟨dl.toArray⟩)) (by rfl) HN.out rfl HLn.out ?_
          intro v4 w4 hO hG hnil
          obtain ⟨hS4, hv4⟩ := hafter.out D3 HT3.out v4 w4 hO hG
          refine ⟨hS4, ?_⟩
          try simp only [Act.put, List.setIfInBounds_toArray, List.set_cons_zero, List.set_cons_succ]
          obtain ⟨g4, cp4, rfl⟩ := ownsRow_succ hO
          have hc4 := hv4.cell
          have hf4 := hv4.frozen
          refine reg_one 11 rfl (by kernel_rfl) (by kernel_rfl) ?_
          go_simp
          refine ⟨(hlast.out D3 HT3.out _ w4 hO hG).1, ?_⟩
          refine reg_done (by kernel_rfl) ?_
          exact (hlast.out D3 HT3.out _ w4 hO hG).2
  case done =>
    rintro D ys W hD rfl ⟨⟨⟨v, hv, hrow, _⟩, hF⟩, hB1⟩ hK
    have HB1 := Lib.hid hB1
    have HF := Lib.hid hF
    have HV := Lib.hid hv
    have hnp : f.proto = ((f.proto.toNat : Nat) : Int) := by rcases hpp with h | h <;> rw [h] <;> rfl
    have hpn : f.proto.toNat ≤ 65535 := by rcases hpp with h | h <;> rw [h] <;> decide
    have HIt := fun w h => Lib.hid (itoaN_any f.proto.toNat hpn w h)
    rw [← hnp] at HIt
    obtain ⟨g, cp, rfl⟩ := ownsRow_succ hrow
    have hcp : 2 ≤ cp := by
      rcases hrow.2 with ⟨h', _⟩ | ⟨g', cap', cur, h', _, _, hnc, _⟩
      · simp at h'
      · simp at h'; simp at hnc; omega
    have hla : (endL a.1).length ≤ 21 := by
      have h1 := addrL_len a.1.addr
      have h2 := dec_len5 a.1.port.toNat (by have := a.2.2; omega)
      simp [endL]; omega
    have hlb : (endL b.1).length ≤ 21 := by
      have h1 := addrL_len b.1.addr
      have h2 := dec_len5 b.1.port.toNat (by have := b.2.2; omega)
      simp [endL]; omega
    have hdl := dec_len5 f.proto.toNat hpn
    have HTX : Hid (textF f = ((endL a.1 ++ [62] ++ endL b.1) ++ [47]) ++ Lib.decDigits f.proto.toNat) := by show _ = _; rw [ha, hb]; rfl
    have hjoin : Lib.join [endL a.1, endL b.1] [62] = endL a.1 ++ [62] ++ endL b.1 := by simp [Lib.join]
    have hgl : g < W.heap.size := (World.ownsRow.lt hrow g rfl).2
    have HJo : Hid (∀ w', Same W w' → Calls Tryz.prog 32 #[.slice (some ⟨g, 0, none⟩) 2 cp, .string ⟨#[62]⟩] w' fun e w'' => e = .returned (.string ⟨(endL a.1 ++ [62] ++ endL b.1).toArray⟩) ∧ Same w' w'') := fun w' hw => by
      have hr2 := own_same hrow hw
      have c0 : w'.cell? ⟨g, 0, none⟩ = some (endV a) := World.ownsRow.cells hr2 (g := g) rfl 0 _ (by simp)
      have c1 : w'.cell? ⟨g, 1, none⟩ = some (endV b) := World.ownsRow.cells hr2 (g := g) rfl 1 _ (by simp)
      have h := Any.strings_Join Tryz.layJoin Tryz.joinExtra g 0 cp [⟨(endL a.1).toArray⟩, ⟨(endL b.1).toArray⟩] ⟨#[62]⟩ w' (fun j x hx => by
        match j, hx with
        | 0, hx => obtain rfl := Option.some.inj hx; exact c0
        | 1, hx => obtain rfl := Option.some.inj hx; exact c1) (Nat.lt_of_lt_of_le hgl hw.size) (by simp) (by simpa using hcp) (by simp [hjoin]; omega)
      have e : Lib.join ([(⟨(endL a.1).toArray⟩ : ByteArray), ⟨(endL b.1).toArray⟩].map (·.data.toList)) (⟨#[62]⟩ : ByteArray).data.toList = endL a.1 ++ [62] ++ endL b.1 := hjoin
      rw [e] at h
      exact h
    have HEND : Hid ((⟨(endL a.1 ++ [62] ++ endL b.1).toArray⟩ : ByteArray) ++ ⟨#[47]⟩ ++ ⟨(Lib.decDigits f.proto.toNat).toArray⟩ = ⟨(textF f).toArray⟩) := by
      have e47 : (⟨#[47]⟩ : ByteArray) = ⟨([47] : List UInt8).toArray⟩ := rfl
      show _ = _
      rw [e47, catB, catB, HTX.out]
    have hlj : (endL a.1 ++ [62] ++ endL b.1).length ≤ 50 := by simp; omega
    generalize endL a.1 ++ [62] ++ endL b.1 = lj at *
    generalize Lib.decDigits f.proto.toNat = dl at *
    have HZ1 : Hid (¬ 9223372036854775807 < lj.length + 1) := by show ¬ _; omega
    have HZ2 : Hid (¬ 9223372036854775807 < lj.length + 1 + dl.length) := by show ¬ _; omega
    have HK := Lib.hid hK
    clear hla hlb hdl hjoin hgl hcp hrow hF hB1 hv hnp hpn
    gi_wp2_with fail
    refine reg_start_wide (fun w' => Same W w') (by kernel_rfl) (by kernel_rfl) ?_
    refine reg_take (v := ?_) 0 (some 19) rfl rfl (by kernel_rfl) (fun _ _ _ h => h) (by kernel_rfl) ((Same.refl W).drew) ?_ ?_
    rotate_left
    · (intro w' hw'; have hcb := Boxed.cell (show Boxed w' (w.heap.size + 1) 51 _ from Same.block hw' HV.out); obtain ⟨c0, c1, c2, c3, c4⟩ := FlAt.of (hw'.block HF.out); go_simp; try with_reducible rfl)
    try simp only [Act.put, List.setIfInBounds_toArray, List.set_cons_zero, List.set_cons_succ]
    refine reg_take (v := ?_) 3 (some 22) rfl rfl (by kernel_rfl) (fun _ _ _ h => h) (by kernel_rfl) ((Same.refl W).drew) ?_ ?_
    rotate_left
    · (intro w' hw'; have hcb := Boxed.cell (show Boxed w' (w.heap.size + 1) 51 _ from Same.block hw' HV.out); obtain ⟨c0, c1, c2, c3, c4⟩ := FlAt.of (hw'.block HF.out); go_simp; try with_reducible rfl)
    try simp only [Act.put, List.setIfInBounds_toArray, List.set_cons_zero, List.set_cons_succ]
    refine reg_take (v := ?_) 4 (some 23) rfl rfl (by kernel_rfl) (fun _ _ _ h => h) (by kernel_rfl) ((Same.refl W).drew) ?_ ?_
    rotate_left
    · (intro w' hw'; have hcb := Boxed.cell (show Boxed w' (w.heap.size + 1) 51 _ from Same.block hw' HV.out); obtain ⟨c0, c1, c2, c3, c4⟩ := FlAt.of (hw'.block HF.out); go_simp; try with_reducible rfl)
    try simp only [Act.put, List.setIfInBounds_toArray, List.set_cons_zero, List.set_cons_succ]
    refine reg_one 1 rfl (by kernel_rfl) (by kernel_rfl) ?_
    go_simp
    refine ((HJo.out _ (Same.refl W).drew)).mono ?_
    rintro e u1 ⟨rfl, hs1⟩
    have hS1 := ((Same.refl W).drew).trans hs1
    skip
    refine ⟨hS1, ?_⟩
    try simp only [Act.put, List.setIfInBounds_toArray, List.set_cons_zero, List.set_cons_succ]
    refine reg_take (v := ?_) 2 (some 21) rfl rfl (by kernel_rfl) (fun _ _ _ h => h) (by kernel_rfl) (hS1) ?_ ?_
    rotate_left
    · (intro w' hw'; have hcb := Boxed.cell (show Boxed w' (w.heap.size + 1) 51 _ from Same.block hw' HV.out); obtain ⟨c0, c1, c2, c3, c4⟩ := FlAt.of (hw'.block HF.out); go_simp; rw [if_neg HZ1.out])
    try simp only [Act.put, List.setIfInBounds_toArray, List.set_cons_zero, List.set_cons_succ]
    refine reg_one 5 rfl (by kernel_rfl) (by kernel_rfl) ?_
    go_simp
    refine ((HIt _ (HTab.out.below (HB1.out.trans (hS1.mono HB1.out.size)) (Nat.le_refl _))).out).mono ?_
    rintro e u2 ⟨rfl, hs2⟩
    have hS2 := (hS1).trans hs2
    skip
    refine ⟨hS2, ?_⟩
    try simp only [Act.put, List.setIfInBounds_toArray, List.set_cons_zero, List.set_cons_succ]
    refine reg_take (v := ?_) 6 (some 25) rfl rfl (by kernel_rfl) (fun _ _ _ h => h) (by kernel_rfl) (hS2) ?_ ?_
    rotate_left
    · (intro w' hw'; have hcb := Boxed.cell (show Boxed w' (w.heap.size + 1) 51 _ from Same.block hw' HV.out); obtain ⟨c0, c1, c2, c3, c4⟩ := FlAt.of (hw'.block HF.out); go_simp; rw [if_neg HZ2.out])
    try simp only [Act.put, List.setIfInBounds_toArray, List.set_cons_zero, List.set_cons_succ]
    refine reg_take (v := ?_) 7 (some 2) rfl rfl (by kernel_rfl) (fun _ _ _ h => h) (by kernel_rfl) (hS2) ?_ ?_
    rotate_left
    · (intro w' hw'; have hcb := Boxed.cell (show Boxed w' (w.heap.size + 1) 51 _ from Same.block hw' HV.out); obtain ⟨c0, c1, c2, c3, c4⟩ := FlAt.of (hw'.block HF.out); go_simp; try with_reducible rfl)
    try simp only [Act.put, List.setIfInBounds_toArray, List.set_cons_zero, List.set_cons_succ]
    refine reg_done (by kernel_rfl) ?_
    have HS2 := Lib.hid hS2
    have hK2 := HS2.out.block HK.out
    clear hs1 hs2 hS1 hS2
    unfold normQ
    gi_wp2_with fail
    refine ⟨by simp, .inl ⟨_, _, rfl, run_takeDeferred hK2, ?_⟩⟩
    refine ⟨_, results_tmp rfl _ _ _, ?_, (HB1.out.trans (HS2.out.mono HB1.out.size)).trans (belowK_b (w := w) (Nat.le_refl _) u2 D _ _ (by omega) hK2 rfl rfl)⟩
    show Ending.returned (.string ((⟨lj.toArray⟩ : ByteArray) ++ ⟨#[47]⟩ ++ ⟨dl.toArray⟩)) = _
    rw [HEND.out]
  case stop =>
    rintro D c pre W _ _ h _
    exact h.elim
end Go.Proofs.YtcemdajkddidnaaGreatDoor
namespace Go.Proofs.YtcemdajkddidnaaGreatDoor
open Go.RowKit
set_option linter.unusedVariables false

theorem rDigits_same5 (u : Nat) (hu : u ≤ 65535) (w : World) : Calls Tryz.prog 33 #[.int .i64 u] w fun e w' => e = .returned (.string ⟨(Lib.decDigits u).toArray⟩) ∧ Same w w' := (rDigits_port u hu w).mono fun _ _ ⟨h, k⟩ => ⟨h, k ▸ Same.refl _⟩

set_option maxRecDepth 100000 in
set_option maxHeartbeats 2000000 in
theorem roText_any (f : Fl) (hg : goodF f) (hr : (0 ≤ f.src ∧ f.src ≤ 4294967295) ∧ (0 ≤ f.dst ∧ f.dst ≤ 4294967295)) (w : World) : Calls Tryz.prog 16 #[flV f] w fun e w' => e = .returned (.string ⟨(textF f).toArray⟩) ∧ Same w w' := by
  obtain ⟨hpp, ⟨s1, s2⟩, d1, d2⟩ := hg
  obtain ⟨q0, q1, q2, q3, q4⟩ := f
  simp only at hpp s1 s2 d1 d2 hr
  obtain ⟨ns, rfl⟩ : ∃ n : Nat, q3 = (n : Int) := ⟨q3.toNat, by omega⟩
  obtain ⟨nd, rfl⟩ : ∃ n : Nat, q4 = (n : Int) := ⟨q4.toNat, by omega⟩
  obtain ⟨np, rfl⟩ : ∃ n : Nat, q0 = (n : Int) := ⟨q0.toNat, by omega⟩
  have hnp : np ≤ 65535 := by omega
  have HDs := fun w => Lib.hid (rDigits_same5 ns (by omega) w)
  have HDd := fun w => Lib.hid (rDigits_same5 nd (by omega) w)
  have HDp := fun w => Lib.hid (rDigits_same5 np hnp w)
  have HAs := fun w => Lib.hid (rAddr_same q1 hr.1.1 hr.1.2 w)
  have HAd := fun w => Lib.hid (rAddr_same q2 hr.2.1 hr.2.2 w)
  have l1 := addrL_len q1
  have l2 := addrL_len q2
  have l3 := dec_len5 ns (by omega)
  have l4 := dec_len5 nd (by omega)
  have l5 := dec_len5 np hnp
  have HEND : Hid ((⟨(addrL q1).toArray⟩ : ByteArray) ++ ⟨#[58]⟩ ++ ⟨(Lib.decDigits ns).toArray⟩ ++ ⟨#[62]⟩ ++ ⟨(addrL q2).toArray⟩ ++ ⟨#[58]⟩ ++ ⟨(Lib.decDigits nd).toArray⟩ ++ ⟨#[47]⟩ ++ ⟨(Lib.decDigits np).toArray⟩ = ⟨(textF ⟨(np : Int), q1, q2, (ns : Int), (nd : Int)⟩).toArray⟩) := by
    have e47 : (⟨#[47]⟩ : ByteArray) = ⟨([47] : List UInt8).toArray⟩ := rfl
    have e58 : (⟨#[58]⟩ : ByteArray) = ⟨([58] : List UInt8).toArray⟩ := rfl
    have e62 : (⟨#[62]⟩ : ByteArray) = ⟨([62] : List UInt8).toArray⟩ := rfl
    show _ = _
    rw [e47, e58, e62, catB, catB, catB, catB, catB, catB, catB, catB]
    simp [textF, endL]
  generalize (⟨(textF ⟨(np : Int), q1, q2, (ns : Int), (nd : Int)⟩).toArray⟩ : ByteArray) = TX at *
  generalize addrL q1 = a1 at *
  generalize addrL q2 = a2 at *
  generalize Lib.decDigits ns = c1 at *
  generalize Lib.decDigits nd = c2 at *
  generalize Lib.decDigits np = c3 at *
  clear hpp s1 s2 d1 d2 hr hnp
  have H0 := Lib.hid (Same.alloc w (flO 24 ⟨(np : Int), q1, q2, (ns : Int), (nd : Int)⟩))
  have HX := Lib.hid (fl_box 24 ⟨(np : Int), q1, q2, (ns : Int), (nd : Int)⟩ w)
  obtain ⟨c0, c1', c2', c3', c4⟩ := FlAt.of (heap_alloc_new w (flO 24 ⟨(np : Int), q1, q2, (ns : Int), (nd : Int)⟩))
  go_enter Tryz.func16, Tryz.ntmps16
  go_wp2_with fail
  refine (HDs _).out.mono ?_
  rintro e w1 ⟨rfl, hs1⟩
  have HX1 : Hid (∀ w', Same w1 w' → FlAt w' w.heap.size ⟨(np : Int), q1, q2, (ns : Int), (nd : Int)⟩) := fun w' hw => HX.out w' (hs1.trans hw)
  have HS1 := Lib.hid (H0.out.trans hs1)
  clear hs1 c0 c1' c2' c3' c4
  go_wp2_with fail
  refine reg_start (fun w' => Same w1 w') (by kernel_rfl) ?_
  refine reg_take (v := ?_) 0 (some 7) rfl rfl (by kernel_rfl) (fun _ _ _ h => h) (by kernel_rfl) ((Same.refl w1).drew) ?_ ?_
  rotate_left
  · (intro w' hw'; obtain ⟨x0, x1, x2, x3, x4⟩ := HX1.out w' hw'; go_simp; try with_reducible rfl)
  try simp only [Act.put, List.setIfInBounds_toArray, List.set_cons_zero, List.set_cons_succ]
  refine reg_take (v := ?_) 1 (some 8) rfl rfl (by kernel_rfl) (fun _ _ _ h => h) (by kernel_rfl) ((Same.refl w1).drew) ?_ ?_
  rotate_left
  · (intro w' hw'; obtain ⟨x0, x1, x2, x3, x4⟩ := HX1.out w' hw'; go_simp; try with_reducible rfl)
  try simp only [Act.put, List.setIfInBounds_toArray, List.set_cons_zero, List.set_cons_succ]
  refine reg_take (v := ?_) 4 (some 11) rfl rfl (by kernel_rfl) (fun _ _ _ h => h) (by kernel_rfl) ((Same.refl w1).drew) ?_ ?_
  rotate_left
  · (intro w' hw'; obtain ⟨x0, x1, x2, x3, x4⟩ := HX1.out w' hw'; go_simp; try with_reducible rfl)
  try simp only [Act.put, List.setIfInBounds_toArray, List.set_cons_zero, List.set_cons_succ]
  refine reg_take (v := ?_) 7 (some 14) rfl rfl (by kernel_rfl) (fun _ _ _ h => h) (by kernel_rfl) ((Same.refl w1).drew) ?_ ?_
  rotate_left
  · (intro w' hw'; obtain ⟨x0, x1, x2, x3, x4⟩ := HX1.out w' hw'; go_simp; try with_reducible rfl)
  try simp only [Act.put, List.setIfInBounds_toArray, List.set_cons_zero, List.set_cons_succ]
  refine reg_take (v := ?_) 8 (some 15) rfl rfl (by kernel_rfl) (fun _ _ _ h => h) (by kernel_rfl) ((Same.refl w1).drew) ?_ ?_
  rotate_left
  · (intro w' hw'; obtain ⟨x0, x1, x2, x3, x4⟩ := HX1.out w' hw'; go_simp; try with_reducible rfl)
  try simp only [Act.put, List.setIfInBounds_toArray, List.set_cons_zero, List.set_cons_succ]
  refine reg_take (v := ?_) 12 (some 19) rfl rfl (by kernel_rfl) (fun _ _ _ h => h) (by kernel_rfl) ((Same.refl w1).drew) ?_ ?_
  rotate_left
  · (intro w' hw'; obtain ⟨x0, x1, x2, x3, x4⟩ := HX1.out w' hw'; go_simp; try with_reducible rfl)
  try simp only [Act.put, List.setIfInBounds_toArray, List.set_cons_zero, List.set_cons_succ]
  refine reg_take (v := ?_) 13 (some 20) rfl rfl (by kernel_rfl) (fun _ _ _ h => h) (by kernel_rfl) ((Same.refl w1).drew) ?_ ?_
  rotate_left
  · (intro w' hw'; obtain ⟨x0, x1, x2, x3, x4⟩ := HX1.out w' hw'; go_simp; try with_reducible rfl)
  try simp only [Act.put, List.setIfInBounds_toArray, List.set_cons_zero, List.set_cons_succ]
  refine reg_take (v := ?_) 17 (some 24) rfl rfl (by kernel_rfl) (fun _ _ _ h => h) (by kernel_rfl) ((Same.refl w1).drew) ?_ ?_
  rotate_left
  · (intro w' hw'; obtain ⟨x0, x1, x2, x3, x4⟩ := HX1.out w' hw'; go_simp; try with_reducible rfl)
  try simp only [Act.put, List.setIfInBounds_toArray, List.set_cons_zero, List.set_cons_succ]
  refine reg_take (v := ?_) 18 (some 25) rfl rfl (by kernel_rfl) (fun _ _ _ h => h) (by kernel_rfl) ((Same.refl w1).drew) ?_ ?_
  rotate_left
  · (intro w' hw'; obtain ⟨x0, x1, x2, x3, x4⟩ := HX1.out w' hw'; go_simp; try with_reducible rfl)
  try simp only [Act.put, List.setIfInBounds_toArray, List.set_cons_zero, List.set_cons_succ]
  refine reg_one 2 rfl (by kernel_rfl) (by kernel_rfl) ?_
  go_simp
  refine ((HAs _).out).mono ?_
  rintro e u1 ⟨rfl, hs1⟩
  have hS1 := ((Same.refl w1).drew).trans hs1
  skip
  refine ⟨hS1, ?_⟩
  try simp only [Act.put, List.setIfInBounds_toArray, List.set_cons_zero, List.set_cons_succ]
  refine reg_take (v := ?_) 3 (some 10) rfl rfl (by kernel_rfl) (fun _ _ _ h => h) (by kernel_rfl) (hS1) ?_ ?_
  rotate_left
  · (intro w' hw'; obtain ⟨x0, x1, x2, x3, x4⟩ := HX1.out w' hw'; go_simp; rw [if_neg (by omega)])
  try simp only [Act.put, List.setIfInBounds_toArray, List.set_cons_zero, List.set_cons_succ]
  refine reg_take (v := ?_) 5 (some 12) rfl rfl (by kernel_rfl) (fun _ _ _ h => h) (by kernel_rfl) (hS1) ?_ ?_
  rotate_left
  · (intro w' hw'; obtain ⟨x0, x1, x2, x3, x4⟩ := HX1.out w' hw'; go_simp; rw [if_neg (by omega)])
  try simp only [Act.put, List.setIfInBounds_toArray, List.set_cons_zero, List.set_cons_succ]
  refine reg_take (v := ?_) 6 (some 13) rfl rfl (by kernel_rfl) (fun _ _ _ h => h) (by kernel_rfl) (hS1) ?_ ?_
  rotate_left
  · (intro w' hw'; obtain ⟨x0, x1, x2, x3, x4⟩ := HX1.out w' hw'; go_simp; rw [if_neg (by omega)])
  try simp only [Act.put, List.setIfInBounds_toArray, List.set_cons_zero, List.set_cons_succ]
  refine reg_one 9 rfl (by kernel_rfl) (by kernel_rfl) ?_
  go_simp
  refine ((HAd _).out).mono ?_
  rintro e u2 ⟨rfl, hs2⟩
  have hS2 := (hS1).trans hs2
  skip
  refine ⟨hS2, ?_⟩
  try simp only [Act.put, List.setIfInBounds_toArray, List.set_cons_zero, List.set_cons_succ]
  refine reg_take (v := ?_) 10 (some 17) rfl rfl (by kernel_rfl) (fun _ _ _ h => h) (by kernel_rfl) (hS2) ?_ ?_
  rotate_left
  · (intro w' hw'; obtain ⟨x0, x1, x2, x3, x4⟩ := HX1.out w' hw'; go_simp; rw [if_neg (by omega)])
  try simp only [Act.put, List.setIfInBounds_toArray, List.set_cons_zero, List.set_cons_succ]
  refine reg_take (v := ?_) 11 (some 18) rfl rfl (by kernel_rfl) (fun _ _ _ h => h) (by kernel_rfl) (hS2) ?_ ?_
  rotate_left
  · (intro w' hw'; obtain ⟨x0, x1, x2, x3, x4⟩ := HX1.out w' hw'; go_simp; rw [if_neg (by omega)])
  try simp only [Act.put, List.setIfInBounds_toArray, List.set_cons_zero, List.set_cons_succ]
  refine reg_one 14 rfl (by kernel_rfl) (by kernel_rfl) ?_
  go_simp
  refine ((HDd _).out).mono ?_
  rintro e u3 ⟨rfl, hs3⟩
  have hS3 := (hS2).trans hs3
  skip
  refine ⟨hS3, ?_⟩
  try simp only [Act.put, List.setIfInBounds_toArray, List.set_cons_zero, List.set_cons_succ]
  refine reg_take (v := ?_) 15 (some 22) rfl rfl (by kernel_rfl) (fun _ _ _ h => h) (by kernel_rfl) (hS3) ?_ ?_
  rotate_left
  · (intro w' hw'; obtain ⟨x0, x1, x2, x3, x4⟩ := HX1.out w' hw'; go_simp; rw [if_neg (by omega)])
  try simp only [Act.put, List.setIfInBounds_toArray, List.set_cons_zero, List.set_cons_succ]
  refine reg_take (v := ?_) 16 (some 23) rfl rfl (by kernel_rfl) (fun _ _ _ h => h) (by kernel_rfl) (hS3) ?_ ?_
  rotate_left
  · (intro w' hw'; obtain ⟨x0, x1, x2, x3, x4⟩ := HX1.out w' hw'; go_simp; rw [if_neg (by omega)])
  try simp only [Act.put, List.setIfInBounds_toArray, List.set_cons_zero, List.set_cons_succ]
  refine reg_one 19 rfl (by kernel_rfl) (by kernel_rfl) ?_
  go_simp
  refine ((HDp _).out).mono ?_
  rintro e u4 ⟨rfl, hs4⟩
  have hS4 := (hS3).trans hs4
  skip
  refine ⟨hS4, ?_⟩
  try simp only [Act.put, List.setIfInBounds_toArray, List.set_cons_zero, List.set_cons_succ]
  refine reg_take (v := ?_) 20 (some 27) rfl rfl (by kernel_rfl) (fun _ _ _ h => h) (by kernel_rfl) (hS4) ?_ ?_
  rotate_left
  · (intro w' hw'; obtain ⟨x0, x1, x2, x3, x4⟩ := HX1.out w' hw'; go_simp; rw [if_neg (by omega)])
  try simp only [Act.put, List.setIfInBounds_toArray, List.set_cons_zero, List.set_cons_succ]
  refine reg_take (v := ?_) 21 (some 2) rfl rfl (by kernel_rfl) (fun _ _ _ h => h) (by kernel_rfl) (hS4) ?_ ?_
  rotate_left
  · (intro w' hw'; obtain ⟨x0, x1, x2, x3, x4⟩ := HX1.out w' hw'; go_simp; try with_reducible rfl)
  try simp only [Act.put, List.setIfInBounds_toArray, List.set_cons_zero, List.set_cons_succ]
  refine reg_done (by kernel_rfl) ?_
  go_wp2_with fail
  go_ret
  exact ⟨congrArg (fun b => Ending.returned (Value.string b)) HEND.out, HS1.out.trans hS4⟩
end Go.Proofs.YtcemdajkddidnaaGreatDoor
