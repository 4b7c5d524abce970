/- The developers' Sort. No condition beyond what it names. -/
import Derived.Test.YtldiagjnpkpepaaPrT
import Derived.Test.YtldiagjnpkpepaaPrA
import Derived.LoopTactic
namespace Go.Proofs.Ytldiagjnpkpepaa
open Go.RowKit Go.Sort Go.Lib
set_option linter.unusedVariables false
set_option maxRecDepth 100000

theorem alloc_sz (w : World) (o : Obj) : (w.alloc o).heap.size = w.heap.size + 1 := by rw [alloc_eq_grow, size_grow]; rfl
theorem alloc_lt (w : World) (o : Obj) : w.heap.size < (w.alloc o).heap.size := by rw [alloc_sz]; omega
theorem alloc_at (w : World) (v : Value) (t : TypeId) : (w.alloc (.cells #[v] t)).cell? ⟨w.heap.size, 0, none⟩ = some v := by
  have : (w.alloc (.cells #[v] t)).heap[w.heap.size]? = some (.cells #[v] t) := by
    rw [alloc_eq_grow]; unfold grow; simp only [Array.getElem?_append, Nat.lt_irrefl, if_false, Nat.sub_self]; rfl
  rw [World.cell?, this]
  rfl
theorem cell_block {w w' : World} (a : Addr) (h : w'.heap[a.block]? = w.heap[a.block]?) : w'.cell? a = w.cell? a := by
  rw [World.cell?, World.cell?, h]

theorem compact_nil (w : World) : Calls Try.prog 34 #[.slice none 0 0] w fun e w' => e = .returned (.slice none 0 0) ∧ w' = w := by
  go_enter Try.func34, Try.ntmps34
  go_wp2_with fail
  go_ret
  exact ⟨rfl, rfl⟩

theorem OwnP.row {w : World} {B g cap : Nat} {l : List (Int × Int)} (h : OwnP w B (.slice (some ⟨g, 0, none⟩) l.length cap) l) : RowP w g 0 l ∧ l.length ≤ cap ∧ B ≤ g ∧ g < w.heap.size := by
  have hl := h.lt g rfl
  rcases h.2 with ⟨h0, _⟩ | ⟨g', cap', cur, hv, hb, hg, h1, h2, h3, h4⟩
  · cases h0
  · cases hv
    refine ⟨⟨fun j p hj => ?_, fun j hj => ?_⟩, h1, hl.1, hl.2⟩
    · obtain ⟨q0, q1⟩ := pc_at l j p hj
      have a0 := World.ownsRow.cells h (g := g) rfl (j * 2) _ q0
      have a1 := World.ownsRow.cells h (g := g) rfl (j * 2 + 1) _ q1
      rw [pfx_add_of_spot] at a0 a1
      exact ⟨a0, a1⟩
    · constructor <;> simp [World.frozen?, hg]
theorem RowP.ps {w : World} {g cap : Nat} {l : List (Int × Int)} (h : RowP w g 0 l) (hc : l.length ≤ cap) (hcap : cap ≤ 9223372036854775807) : Ps w (.slice (some ⟨g, 0, none⟩) l.length cap) l := by
  refine ⟨some ⟨g, 0, none⟩, cap, rfl, hc, hcap, by simp, fun ad had => ?_⟩
  cases had
  exact ⟨fun _ => rfl, fun j p hj => by
    obtain ⟨c0, c1⟩ := h.cells j p hj
    rw [pfx_add_of_spot, pfx_add_of_spot, ← Nat.add_assoc]
    exact ⟨c0, c1⟩⟩

set_option maxHeartbeats 2000000 in
theorem Sort_any (v : Value) (l : List (Int × Int)) (w : World) (h : Ps w v l) (hmax : l.length ≤ 1000000) :
    Calls Try.prog 10 #[v] w fun e w' => ∃ v', e = .returned v' ∧ Ps w' v' (rowP l) ∧ Same w w' := by
  have HC := Lib.hid (cloneP_any v l w h (by omega))
  clear h
  go_enter Try.func10, Try.ntmps10
  go_wp2_with fail
  refine HC.out.mono ?_
  rintro e w1 ⟨v1, rfl, hO, hS⟩
  have HO := Lib.hid hO
  have HS := Lib.hid hS
  clear hO hS
  rcases HO.out.2 with ⟨rfl, h0⟩ | ⟨g, cap, cur, rfl, r⟩
  · have hl0 : l = [] := List.eq_nil_of_length_eq_zero h0
    clear HO h0
    have HT := fun lb w => Lib.hid (tiny_any none 0 0 (by omega) lb w)
    have HN := fun w => Lib.hid (compact_nil w)
    go_wp2_with fail
    refine (HT _ _).out.mono ?_
    rintro e w2 ⟨rfl, hT⟩
    have hc : w2.cell? ⟨w1.heap.size, 0, none⟩ = some (.slice none 0 0) := (hT.cell (alloc_lt _ _)).trans (alloc_at _ _ _)
    have HT2 := Lib.hid hT
    clear hT HT
    go_wp2_with fail
    refine (HN _).out.mono ?_
    rintro e w3 ⟨rfl, rfl⟩
    go_wp2_with fail
    go_ret
    subst hl0
    exact ⟨_, rfl, Ps.nil _, HS.out.trans ((Same.alloc _ _).trans HT2.out)⟩
  · clear r
    obtain ⟨hR, hcap, hB, hg⟩ := HO.out.row
    have hmx : cap ≤ 9223372036854775807 := by
      obtain ⟨_, _, he, _, h2, _⟩ := HO.out.ps
      cases he
      exact h2
    have HT := Lib.hid (slice_any g cap w1.heap.size l (w1.alloc (.cells #[.slice (some ⟨g, 0, none⟩) l.length cap] 22)) (alloc_at _ _ _) (alloc_lt _ _) (by omega) (by rw [alloc_sz]; omega) (hR.same (Same.alloc _ _)) hmax)
    have HB := Lib.hid (And.intro hB hg)
    clear hR HO hB hg
    have HM := Lib.hid (And.intro hcap hmx)
    clear hcap hmx
    go_wp2_with fail
    refine HT.out.mono ?_
    rintro e w2 ⟨rfl, l', hl, hcm, hR2, hM2⟩
    have hc : w2.cell? ⟨w1.heap.size, 0, none⟩ = some (.slice (some ⟨g, 0, none⟩) l.length cap) :=
      (cell_block ⟨w1.heap.size, 0, none⟩ (hM2.block w1.heap.size (alloc_lt _ _) (by have := HB.out.2; omega))).trans (alloc_at _ _ _)
    have HN := Lib.hid (compact_any g 0 cap l' w2 hR2 (by rw [hl]; exact HM.out.1) (by omega))
    rw [hcm, hl] at HN
    have HM2 := Lib.hid hM2
    clear hM2 hR2 hcm hl HT
    go_wp2_with fail
    refine HN.out.mono ?_
    rintro e w3 ⟨rfl, hk, hR3, hM3⟩
    have HE := Lib.hid (And.intro (hR3.ps hk HM.out.2) (show Same w w3 from Below.trans HS.out (Below.trans ((Same.alloc _ _).mono HS.out.size) ((HM2.out.trans hM3).below HB.out.1 (by have := HS.out.size; rw [alloc_sz]; omega)))))
    clear hk hR3 hM3
    go_wp2_with fail
    go_ret
    exact ⟨_, rfl, HE.out.1, HE.out.2⟩
end Go.Proofs.Ytldiagjnpkpepaa
