/- Contracts of the document's own answers for layer 1. No condition beyond what each names. -/
import Derived.Test.YtidijoncngfppaaGet
import Derived.Deep.RegionHeld3
namespace Go.Proofs.Ytidijoncngfppaa
open Go.RowKit
set_option linter.unusedVariables false

/-- block s is the document's source of the bytes l, of which a are left behind -/
def RSrc (w : World) (s : Nat) (all : Value) (a : Nat) (er : Int) : Prop :=
  w.heap[s]? = some (.cells #[all, .int .i64 (a : Int), .int .i64 er] 79 (0, 0))
structure RSrcB (w : World) (s : Nat) (all : Value) (l : List UInt8) (a : Nat) (er : Int) : Prop where
  src : RSrc w s all a er
  bs : Bs w all l
  ne : all.ownBlock ≠ some s
  lt : ∀ g, all.ownBlock = some g → g < w.heap.size
  le : a ≤ l.length

theorem RSrc.cells {w : World} {s : Nat} {all : Value} {a : Nat} {er : Int} (h : RSrc w s all a er) :
    w.cell? ⟨s, 0, none⟩ = some all ∧ w.cell? ⟨s, 1, none⟩ = some (.int .i64 (a : Int)) ∧ w.cell? ⟨s, 2, none⟩ = some (.int .i64 er) ∧ w.frozen? ⟨s, 1, none⟩ = false ∧ w.frozen? ⟨s, 2, none⟩ = false := by
  unfold RSrc at h
  simp [World.cell?, World.frozen?, h]
theorem RSrc.lt {w : World} {s : Nat} {all : Value} {a : Nat} {er : Int} (h : RSrc w s all a er) : s < w.heap.size := (Array.getElem?_eq_some_iff.1 h).1
theorem RSrc.same {w w' : World} {s : Nat} {all : Value} {a : Nat} {er : Int} (h : Same w w') (hs : RSrc w s all a er) : RSrc w' s all a er := Same.block h hs
theorem RSrc.setErr {w : World} {s : Nat} {all : Value} {a : Nat} {er : Int} (h : RSrc w s all a er) (n : Int) : RSrc (w.setCell ⟨s, 2, none⟩ (.int .i64 n)) s all a n := by
  unfold RSrc at *
  simp [World.setCell, Array.getElem?_modify, h]
theorem RSrc.setAt {w : World} {s : Nat} {all : Value} {a : Nat} {er : Int} (h : RSrc w s all a er) (n : Nat) : RSrc (w.setCell ⟨s, 1, none⟩ (.int .i64 (n : Int))) s all n er := by
  unfold RSrc at *
  simp [World.setCell, Array.getElem?_modify, h]
theorem RSrcB.same {w w' : World} {s : Nat} {all : Value} {l : List UInt8} {a : Nat} {er : Int} (hs : Same w w') (h : RSrcB w s all l a er) : RSrcB w' s all l a er :=
  ⟨h.src.same hs, h.bs.same hs, h.ne, fun g hg => Nat.lt_of_lt_of_le (h.lt g hg) hs.size, h.le⟩
theorem RSrcB.mod {w w' : World} {s : Nat} {all : Value} {l : List UInt8} {a : Nat} {er : Int} (hs : Mod s w w') (h : RSrcB w s all l a er) {a' : Nat} {er' : Int} (hs' : RSrc w' s all a' er') (hl : a' ≤ l.length) : RSrcB w' s all l a' er' :=
  ⟨hs', h.bs.mod hs h.ne, h.ne, fun g hg => Nat.lt_of_lt_of_le (h.lt g hg) hs.size, hl⟩
theorem RSrcB.other {w w' : World} {s t : Nat} {all : Value} {l : List UInt8} {a : Nat} {er : Int} (hs : Mod t w w') (hne : s ≠ t) (ht : all.ownBlock ≠ some t) (h : RSrcB w s all l a er) : RSrcB w' s all l a er :=
  ⟨by have := h.src; unfold RSrc at *; rw [hs.block s h.src.lt hne]; exact this, h.bs.mod hs ht, h.ne, fun g hg => Nat.lt_of_lt_of_le (h.lt g hg) hs.size, h.le⟩

theorem rRead_any (v : Value) (l : List UInt8) (w : World) (hb : Bs w v l) (hl : l.length ≤ 140737488355328) :
    Calls Try.prog 39 #[v] w fun e w' => ∃ t v', e = .returned (.pointer (some ⟨t, 0, none⟩)) ∧ w.heap.size ≤ t ∧ RSrcB w' t v' l 0 0 ∧ Same w w' ∧ ∀ g, v'.ownBlock = some g → w.heap.size ≤ g := by
  have H := Lib.hid hb
  obtain ⟨ao, cap, he, b1, b2, b3, b4⟩ := hb
  clear b4 b3
  subst he
  go_enter Try.func39, Try.ntmps39
  go_wp2_with (at_builtin; refine wpList_append_bs rfl _ _ rfl w (Same.alloc _ _) _ [] rfl (OwnB.empty w) _ l rfl ((H.out).same (Same.alloc _ _)) (by simpa using hl) ?_; intro v' w1 ho1 hs1; obtain ⟨ao2, cap2, he2, d1, d2, d3, d4⟩ := OwnB.bs ho1; subst he2; clear d4 d3)
  go_ret
  have hsm := hs1.trans (Same.alloc w1 (.cells #[.slice ao2 l.length cap2, .int .i64 0, .int .i64 0] 79))
  refine ⟨_, _, rfl, hs1.size, ⟨heap_alloc_new w1 _, ho1.bs.same (Same.alloc _ _), ?_, ?_, by omega⟩, hsm, fun g hg => (ho1.lt g hg).1⟩
  · intro he; have := (ho1.lt _ he).2; omega
  · intro g hg; have := (ho1.lt _ hg).2; simp; omega

theorem rBytes_end (s : Nat) (ao : Option Addr) (l : List UInt8)  (w : World) (h : RSrcB w s (.slice ao l.length l.length) l l.length 0) (hl : l.length ≤ 140737488355328) :
    Calls Try.prog 45 #[.pointer (some ⟨s, 0, none⟩), .int .i64 0] w fun e w' => ∃ v, e = .returned v ∧ OwnB w' w.heap.size v ((l.drop l.length).take 0) ∧ Mod s w w' ∧ RSrcB w' s (.slice ao l.length l.length) l l.length 0 := by
  have H := Lib.hid h
  obtain ⟨c0, c1, c2, f1, f2⟩ := h.src.cells
  obtain ⟨ao', cap', he, b1, b2, b3, b4⟩ := h.bs
  cases he
  have hsub := (h.bs.cut l.length 0 (by omega)).1
  rw [if_pos rfl, Nat.sub_self] at hsub
  have HSUB := Lib.hid hsub
  have hlt := h.src.lt
  clear b3 b4 h hsub
  have z2 : (0 : Int) ≤ l.length := Int.natCast_nonneg _
  have z1 : IntKind.i64.wrap (l.length : Int) = l.length := IntWalk.i64_in _ (by omega)
  have z8 : (l.length : Int) ≤ l.length := by omega
  have hlen : ([] : List UInt8).length + ((l.drop l.length).take 0).length ≤ 140737488355328 := by simp
  go_enter Try.func45, Try.ntmps45
  go_wp2_with fail
  go_quiet (fail)
  go_wp2_with fail
  have hq : Hid (Same w (w.drewN nq)) := (Same.refl w).drewN nq
  have HW := Lib.hid (H.out.same hq.out)
  obtain ⟨C0, C1, C2, F1, F2⟩ := HW.out.src.cells
  clear c0 c1 c2 f1 f2
  have hb := HSUB.out.same hq.out
  generalize w.drewN nq = W at *
  have HB := Lib.hid (hb.same ((Same.alloc W (.cells #[] 5)).drew))
  clear hb
  have HE := Lib.hid ((OwnB.empty W).same ((Same.refl _).drew))
  have HA := Lib.hid ((Same.alloc W (.cells #[] 5)).drew)
  go_region_held3 (fun w' => w'.cell? ⟨s, 0, none⟩ = some (.slice ao l.length l.length) ∧ w'.cell? ⟨s, 1, none⟩ = some (.int .i64 (l.length : Int)) ∧ w'.cell? ⟨s, 2, none⟩ = some (.int .i64 0))
    (first | go_keep | (have hh := (RSrcB.same hs1 HW.out).src.cells; exact ⟨hh.1, hh.2.1, hh.2.2.1⟩))
    ((refine step_append_bs (by rfl) _ _ (by rfl) W HA.out _ [] (by rfl) HE.out _ ((l.drop l.length).take 0) (by rfl) HB.out hlen ?_; intro v1 w1 ho1 hs1))
  have HW1 := Lib.hid (RSrcB.same hs1 HW.out)
  obtain ⟨D0, D1, D2, G1, G2⟩ := HW1.out.src.cells
  have HO1 := Lib.hid ho1
  have HS1 := Lib.hid hs1
  clear ho1 hs1 C0 C1 C2 F1 F2
  go_wp2_with fail
  go_ret
  have hm := ((Mod.of_same hq.out).trans (Mod.of_same HS1.out)).trans (Mod.setCell s 1 w1 (.int .i64 (l.length : Int)))
  have hlt2 : s < W.heap.size := Nat.lt_of_lt_of_le hlt hq.out.size
  refine ⟨_, rfl, ?_, hm, ?_⟩
  · have := ownsRow_setCell_below HO1.out (a := ⟨s, 1, none⟩) hlt2 (.int .i64 (l.length : Int))
    exact OwnB.mono this hq.out.size
  · exact HW1.out.mod (Mod.setCell s 1 w1 (.int .i64 (l.length : Int))) (HW1.out.src.setAt l.length) (Nat.le_refl _)

theorem rBytes_in (s : Nat) (ao : Option Addr) (cap : Nat) (l : List UInt8) (a k : Nat) (hk : a + k ≤ l.length) (hc : ¬ cap = a) (w : World) (h : RSrcB w s (.slice ao l.length cap) l a 0) (hl : l.length ≤ 140737488355328) :
    Calls Try.prog 45 #[.pointer (some ⟨s, 0, none⟩), .int .i64 k] w fun e w' => ∃ v, e = .returned v ∧ OwnB w' w.heap.size v ((l.drop a).take k) ∧ Mod s w w' ∧ RSrcB w' s (.slice ao l.length cap) l (a + k) 0 := by
  have H := Lib.hid h
  obtain ⟨c0, c1, c2, f1, f2⟩ := h.src.cells
  obtain ⟨ao', cap', he, b1, b2, b3, b4⟩ := h.bs
  cases he
  have hsub := (h.bs.cut a k (by omega)).1
  rw [if_neg hc] at hsub
  have HSUB := Lib.hid hsub
  have hlt := h.src.lt
  clear b3 b4 h hsub
  have g1 : (a : Int) + k ≤ l.length := by omega
  have g2 : (l.length : Int) ≤ cap := by omega
  have g3 : (k : Int) ≤ (l.length : Int) - a := by omega
  have z1 : IntKind.i64.wrap ((a : Int) + k) = (a : Int) + k := IntWalk.i64_in _ (by omega)
  have z2 : (0 : Int) ≤ a := Int.natCast_nonneg _
  have z3 : (a : Int) ≤ (a : Int) + k := by omega
  have z4 : (a : Int) + k ≤ cap := by omega
  have z5 : ((a : Int) + k).toNat = a + k := by omega
  have z6 : a + k - a = k := by omega
  have z7 : (0 : Int) ≤ (a : Int) + k := by omega
  have hlen : ([] : List UInt8).length + ((l.drop a).take k).length ≤ 140737488355328 := by simp; omega
  go_enter Try.func45, Try.ntmps45
  go_wp2_with fail
  go_quiet (fail)
  go_wp2_with fail
  have hq : Hid (Same w (w.drewN nq)) := (Same.refl w).drewN nq
  have HW := Lib.hid (H.out.same hq.out)
  obtain ⟨C0, C1, C2, F1, F2⟩ := HW.out.src.cells
  clear c0 c1 c2 f1 f2
  have hb := HSUB.out.same hq.out
  generalize w.drewN nq = W at *
  have HB := Lib.hid (hb.same ((Same.alloc W (.cells #[] 5)).drew))
  clear hb
  have HE := Lib.hid ((OwnB.empty W).same ((Same.refl _).drew))
  have HA := Lib.hid ((Same.alloc W (.cells #[] 5)).drew)
  go_region_held3 (fun w' => w'.cell? ⟨s, 0, none⟩ = some (.slice ao l.length cap) ∧ w'.cell? ⟨s, 1, none⟩ = some (.int .i64 a) ∧ w'.cell? ⟨s, 2, none⟩ = some (.int .i64 0))
    (first | go_keep | (have hh := (RSrcB.same hs1 HW.out).src.cells; exact ⟨hh.1, hh.2.1, hh.2.2.1⟩))
    ((refine step_append_bs (by rfl) _ _ (by rfl) W HA.out _ [] (by rfl) HE.out _ ((l.drop a).take k) (by rfl) HB.out hlen ?_; intro v1 w1 ho1 hs1))
  have HW1 := Lib.hid (RSrcB.same hs1 HW.out)
  obtain ⟨D0, D1, D2, G1, G2⟩ := HW1.out.src.cells
  have HO1 := Lib.hid ho1
  have HS1 := Lib.hid hs1
  clear ho1 hs1 C0 C1 C2 F1 F2
  go_wp2_with fail
  go_ret
  have hm := ((Mod.of_same hq.out).trans (Mod.of_same HS1.out)).trans (Mod.setCell s 1 w1 (.int .i64 ((a : Int) + k)))
  have hlt2 : s < W.heap.size := Nat.lt_of_lt_of_le hlt hq.out.size
  refine ⟨_, rfl, ?_, hm, ?_⟩
  · have := ownsRow_setCell_below HO1.out (a := ⟨s, 1, none⟩) hlt2 (.int .i64 ((a : Int) + k))
    exact OwnB.mono this hq.out.size
  · exact HW1.out.mod (Mod.setCell s 1 w1 (.int .i64 ((a : Int) + k))) (HW1.out.src.setAt (a + k)) hk

theorem rBytes_ok (s : Nat) (all : Value) (l : List UInt8) (a k : Nat) (w : World) (h : RSrcB w s all l a 0) (hk : a + k ≤ l.length) (hl : l.length ≤ 140737488355328) :
    Calls Try.prog 45 #[.pointer (some ⟨s, 0, none⟩), .int .i64 k] w fun e w' => ∃ v, e = .returned v ∧ OwnB w' w.heap.size v ((l.drop a).take k) ∧ Mod s w w' ∧ RSrcB w' s all l (a + k) 0 := by
  obtain ⟨ao, cap, he, b1, b2, b3, b4⟩ := id h.bs
  subst he
  by_cases hc : cap = a
  · subst hc
    obtain rfl : k = 0 := by omega
    obtain rfl : cap = l.length := by omega
    exact rBytes_end s ao l w h hl
  · exact rBytes_in s ao cap l a k hk hc w h hl
end Go.Proofs.Ytidijoncngfppaa
