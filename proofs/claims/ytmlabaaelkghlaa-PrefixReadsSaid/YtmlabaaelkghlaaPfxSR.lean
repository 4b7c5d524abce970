/- The document's own Read and Parse of prefixes. No condition beyond what each names. -/
import Derived.Test.YtmlabaaelkghlaaPfxP
import Derived.Test.YtmlabaaelkghlaaPfxN
import Derived.Test.YtmlabaaelkghlaaRefB
import Derived.LoopTactic
namespace Go.Proofs.Ytmlabaaelkghlaa
open Go.RowKit
set_option linter.unusedVariables false
set_option maxRecDepth 100000

theorem or_disj (X y i : Nat) (hy : y < 2 ^ i) : (X * 2 ^ i) ||| y = X * 2 ^ i + y := by
  rw [← Nat.shiftLeft_eq, Nat.shiftLeft_add_eq_or_of_lt hy]
theorem bits_or' (x y : Nat) (hx : x < 4294967296) (hy : y < 4294967296) : bits .or .u32 (x : Int) (y : Int) = ((x ||| y : Nat) : Int) := by
  show IntKind.u32.wrap ((BitVec.ofInt 32 x ||| BitVec.ofInt 32 y).toNat : Nat) = _
  have h : x ||| y < 4294967296 := Nat.or_lt_two_pow (n := 32) hx hy
  rw [BitVec.toNat_or, BitVec.toNat_ofInt, BitVec.toNat_ofInt, IntKind.wrap_u32]
  have e1 : ((x : Int) % ((2 ^ 32 : Nat) : Int)).toNat = x := by omega
  have e2 : ((y : Int) % ((2 ^ 32 : Nat) : Int)).toNat = y := by omega
  rw [e1, e2]
  omega
/-- the first k bytes of an address -/
def headN (bs : List UInt8) (k : Nat) : Nat := numOf (bs.take k) * 256 ^ (4 - k)
theorem headN_step (bs : List UInt8) (k : Nat) (hk : k < bs.length) (h4 : bs.length ≤ 4) :
    headN bs k < 4294967296 ∧ bits .or .u32 (headN bs k : Int) ((bs[k].toNat : Int) * 2 ^ (24 - 8 * k) % 4294967296) = (headN bs (k + 1) : Int) := by
  have hn := numOf_lt (bs.take k)
  have hl : (bs.take k).length = k := by simp; omega
  rw [hl] at hn
  have hu := bs[k].toNat_lt
  have hs : headN bs (k + 1) = (numOf (bs.take k) * 256 + bs[k].toNat) * 256 ^ (4 - (k + 1)) := by
    unfold headN
    rw [take_snoc bs k hk, numOf_snoc]
  rw [hs]
  unfold headN
  generalize numOf (bs.take k) = X at *
  generalize bs[k].toNat = y at *
  have key : ∀ (i : Nat) (hi : i ≤ 32) (z : Nat), X * 2 ^ i < 4294967296 → z < 2 ^ i → bits .or .u32 ((X * 2 ^ i : Nat) : Int) (z : Int) = ((X * 2 ^ i + z : Nat) : Int) := by
    intro i hi z h1 h2
    have : 2 ^ i ≤ 4294967296 := Nat.le_trans (Nat.pow_le_pow_right (show 0 < 2 by omega) hi) (by decide)
    rw [bits_or' _ _ h1 (by omega), or_disj X z i h2]
  obtain rfl | rfl | rfl | rfl := (show k = 0 ∨ k = 1 ∨ k = 2 ∨ k = 3 by omega)
  · have := key 32 (by omega) (y * 16777216) (by simp at hn ⊢; omega) (by omega)
    refine ⟨by simp at hn ⊢; omega, ?_⟩
    rw [show ((y : Int) * 2 ^ (24 - 8 * 0) % 4294967296) = ((y * 16777216 : Nat) : Int) from by simp; omega]
    refine Eq.trans (by simp) (this.trans ?_)
    simp; omega
  · have := key 24 (by omega) (y * 65536) (by simp at hn ⊢; omega) (by omega)
    refine ⟨by simp at hn ⊢; omega, ?_⟩
    rw [show ((y : Int) * 2 ^ (24 - 8 * 1) % 4294967296) = ((y * 65536 : Nat) : Int) from by simp; omega]
    refine Eq.trans (by simp) (this.trans ?_)
    simp; omega
  · have := key 16 (by omega) (y * 256) (by simp at hn ⊢; omega) (by omega)
    refine ⟨by simp at hn ⊢; omega, ?_⟩
    rw [show ((y : Int) * 2 ^ (24 - 8 * 2) % 4294967296) = ((y * 256 : Nat) : Int) from by simp; omega]
    refine Eq.trans (by simp) (this.trans ?_)
    simp; omega
  · have := key 8 (by omega) y (by simp at hn ⊢; omega) (by omega)
    refine ⟨by simp at hn ⊢; omega, ?_⟩
    rw [show ((y : Int) * 2 ^ (24 - 8 * 3) % 4294967296) = (y : Int) from by simp; omega]
    refine Eq.trans (by simp) (this.trans ?_)
    simp
theorem headN_end (bs : List UInt8) : headN bs bs.length = begunN bs := by unfold headN begunN; rw [List.take_length]

theorem RSrcB.set {w : World} {s g j : Nat} {all : Value} {l : List UInt8} {a : Nat} {er : Int} (h : RSrcB w s all l a er) (hs : s ≠ g) (ha : all.ownBlock ≠ some g) (v : Value) : RSrcB (w.setCell ⟨g, j, none⟩ v) s all l a er :=
  RSrcB.other (Mod.setCell g j w v) hs ha h
/-- a box as it is kept -/
theorem box_keep {s g : Nat} {u w : World} {o : Obj} (hm : Mod s u w) (hb : u.heap[g]? = some o) (hg : g ≠ s) : w.heap[g]? = some o := by
  rw [hm.block g (Array.getElem?_eq_some_iff.1 hb).1 hg]; exact hb
theorem box_cells {g : Nat} {w : World} {a n : Int} (hb : w.heap[g]? = some (pfxO a n)) : w.cell? ⟨g, 0, none⟩ = some (.int .u32 a) ∧ w.cell? ⟨g, 1, none⟩ = some (.int .i64 n) ∧ w.frozen? ⟨g, 0, none⟩ = false ∧ w.frozen? ⟨g, 1, none⟩ = false := by
  refine ⟨?_, ?_, ?_, ?_⟩ <;> simp [World.cell?, World.frozen?, hb]
theorem box_set {g : Nat} {w : World} {a n : Int} (hb : w.heap[g]? = some (pfxO a n)) (b : Int) : (w.setCell ⟨g, 0, none⟩ (.int .u32 b)).heap[g]? = some (pfxO b n) := by
  have hlt := (Array.getElem?_eq_some_iff.1 hb).1
  simp [World.setCell, Array.getElem?_modify, hb]

theorem stepErr_err (l : List UInt8) (a : Nat) (e q : Int) (h : e ≠ 0) : stepErr l a e q ≠ 0 := by
  unfold stepErr
  rw [if_neg h]; exact h
theorem readM_err (l : List UInt8) (a : Nat) (h : stepErr l a 0 1 ≠ 0) : readM l a = none := by
  unfold readM
  split
  · rfl
  · rw [if_pos (stepErr_err _ _ _ _ h)]

theorem rpRead_err (s : Nat) (all : Value) (l : List UInt8) (a : Nat) (w : World) (h : RSrcB w s all l a 0) (hl : l.length ≤ 140737488355328)
    (he : stepErr l a 0 1 ≠ 0 ∨ (stepErr l a 0 1 = 0 ∧ 32 < numOut (stepOut l a 0 1))) :
    Calls Try.prog 25 #[.pointer (some ⟨s, 0, none⟩)] w fun e w' => e = .returned (rdV none) ∧ Mod s w w' := by
  have hsl : s < w.heap.size := h.src.lt
  have HU := Lib.hid (rU8_any s all l a 0 _ (h.same (Same.alloc w (pfxO 0 0))) hl)
  generalize numOut (stepOut l a 0 1) = n at *
  generalize stepAt l a 0 1 = a1 at *
  generalize stepErr l a 0 1 = e1 at *
  have hcase : (e1 != 0) = true ∨ ((e1 != 0) = false ∧ (32 : Int) < n) := by
    rcases he with h | ⟨h, h2⟩
    · left; simpa using h
    · right; exact ⟨by simp [h], by omega⟩
  clear he
  rcases hcase with he | ⟨he, hn⟩
  all_goals
    go_enter Try.func25, Try.ntmps25
    go_wp2_with fail
    refine HU.out.mono ?_
    rintro e u ⟨rfl, hm, hs⟩
    have hbk : u.heap[w.heap.size]? = some (pfxO 0 0) := by
      rw [hm.block w.heap.size (by simp) (by omega)]; exact heap_alloc_new w _
    obtain ⟨c0, c1, hf0, hf1⟩ := box_cells hbk
    have HM := Lib.hid ((Mod.of_same (Same.alloc w (pfxO 0 0))).trans hm)
    obtain ⟨-, -, k2, -, -⟩ := hs.src.cells
    clear hm hs hbk
    go_wp2_with fail
    obtain ⟨d0, d1⟩ := box1_set 0 0 0 0 w.heap.size u c0 c1 _ (Same.refl _)
    have HM2 := Lib.hid ((HM.out.set (g := w.heap.size) (j := 0) (Nat.le_refl _) (.int .u32 0)).set (g := w.heap.size) (j := 1) (Nat.le_refl _) (.int .i64 0))
    generalize (u.setCell ⟨w.heap.size, 0, none⟩ (.int .u32 0)).setCell ⟨w.heap.size, 1, none⟩ (.int .i64 0) = V at *
    refine bodyPost_ret (v := rdV none) ?_ rfl ⟨rfl, HM2.out⟩
    clear HU HM HM2
    simp [results, Try.results25, go_sem, d0, d1, rdV]

theorem rpRead_go (s : Nat) (all : Value) (l : List UInt8) (a : Nat) (w : World) (h : RSrcB w s all l a 0) (hl : l.length ≤ 140737488355328)
    (he : stepErr l a 0 1 = 0) (hn : ¬ 32 < numOut (stepOut l a 0 1)) :
    Calls Try.prog 25 #[.pointer (some ⟨s, 0, none⟩)] w fun e w' => e = .returned (rdV (readM l a)) ∧ Mod s w w' ∧ ∀ x n k, readM l a = some (x, n, k) → RSrcB w' s all l k 0 := by
  have hsl : s < w.heap.size := h.src.lt
  have hal : ∀ g, w.heap.size ≤ g → all.ownBlock ≠ some g := fun g hg he => by have := h.lt _ he; omega
  have HU := Lib.hid (rU8_any s all l a 0 _ (h.same (Same.alloc w (pfxO 0 0))) hl)
  unfold readM
  rw [he] at HU ⊢
  rw [if_neg hn]
  generalize numOut (stepOut l a 0 1) = n at *
  generalize stepAt l a 0 1 = a1 at *
  clear he
  have hn' : (n : Int) ≤ 32 := by omega
  obtain ⟨q, hq, hq4⟩ : ∃ q : Nat, (n + 7) / 8 = q ∧ q ≤ 4 := ⟨_, rfl, by omega⟩
  have hqi : ((n : Int) + 7) / 8 = (q : Int) := by omega
  rw [hq]
  clear hq
  have hlo : (listOut (stepOut l a1 0 q)).length ≤ 4 := by have := listOut_le l a1 0 q; omega
  have HB := fun (u : World) (hs : RSrcB u s all l a1 0) => Lib.hid (rBytes_any s all l a1 0 q u hs hl)
  generalize listOut (stepOut l a1 0 q) = bs at *
  have HC := fun u => Lib.hid (rCanon_any (begunN bs) n u)
  have HE := Lib.hid (headN_end bs)
  generalize stepAt l a1 0 q = a2 at *
  generalize stepErr l a1 0 q = e2 at *
  generalize hx : begunN bs = x at *
  generalize canA x n = y at *
  have hnn : nearN (n : Int) = n := nearN_id (by omega) hn'
  rw [hnn] at HC
  clear hnn
  go_enter Try.func25, Try.ntmps25
  go_wp2_with fail
  refine HU.out.mono ?_
  rintro e u ⟨rfl, hm, hs⟩
  have hbk : u.heap[w.heap.size]? = some (pfxO 0 0) := by
    rw [hm.block w.heap.size (by simp) (by omega)]; exact heap_alloc_new w _
  have HM1 := Lib.hid ((Mod.of_same (Same.alloc w (pfxO 0 0))).trans hm)
  have HS1 := Lib.hid hs
  have husz : w.heap.size < u.heap.size := (Array.getElem?_eq_some_iff.1 hbk).1
  obtain ⟨-, -, k2, -, -⟩ := hs.src.cells
  clear hm hs
  go_wp2_with fail
  have HA := Lib.hid (Same.alloc u (pfxO 0 n))
  have HM2 : Hid (Mod s w (u.alloc (pfxO 0 n))) := HM1.out.trans (Mod.of_same HA.out)
  have HS2 : Hid (RSrcB (u.alloc (pfxO 0 n)) s all l a1 0) := HS1.out.same HA.out
  have hbk2 : (u.alloc (pfxO 0 n)).heap[w.heap.size]? = some (pfxO 0 0) := HA.out.block hbk
  have hbp2 : (u.alloc (pfxO 0 n)).heap[u.heap.size]? = some (pfxO 0 n) := heap_alloc_new u _
  clear HA k2 hbk
  refine (HB _ HS2.out).out.mono ?_
  rintro e u2 ⟨v, rfl, ho, hm, hs⟩
  have HM3 := Lib.hid (HM2.out.trans hm)
  have HS3 := Lib.hid hs
  have hbk3 := box_keep hm hbk2 (by omega)
  have hbp3 := box_keep hm hbp2 (by omega)
  have hob : ∀ g, v.ownBlock = some g → (u.alloc (pfxO 0 n)).heap.size ≤ g := fun g hg => (ho.lt g hg).1
  obtain ⟨ao, cap, rfl, b1, b2, b3, b4⟩ := ho.bs
  have HO := Lib.hid ho.bs
  clear hm hs HM2 HS2 hbk2 hbp2 ho HB
  have hbp3' : u2.heap[u.heap.size]? = some (pfxO (headN bs 0) n) := by
    rw [hbp3, show headN bs 0 = 0 from by simp [headN, numOf]]; rfl
  clear hbp3
  have hlast : ∀ wr : World, (e2 = 0 ∨ e2 ≠ 0) := fun _ => by omega
  go_wp2_with fail
  go_loopw [28] (fun i wr => ∃ k : Nat, k ≤ bs.length ∧ i = .int .i64 k ∧ wr.heap[u.heap.size]? = some (pfxO (headN bs k) n) ∧ wr.heap[w.heap.size]? = some (pfxO 0 0) ∧ RSrcB wr s all l a2 e2 ∧ Mod s w wr ∧ Bs wr (.slice ao bs.length cap) bs) (fun i _ => bs.length - (intOf i).toNat)
  case atStart => exact ⟨0, Nat.zero_le _, rfl, hbp3', hbk3, HS3.out, HM3.out, HO.out⟩
  case round =>
    obtain ⟨k, hk, rfl, hp, hg, hs, hm, hb⟩ := hrel
    obtain ⟨c0, c1, f0, f1⟩ := box_cells hp
    have HP := Lib.hid hp
    have HG := Lib.hid hg
    have HS := Lib.hid hs
    have HM := Lib.hid hm
    have HBs := Lib.hid hb
    clear hp hg hm hb
    by_cases hlt : k < bs.length
    · obtain ⟨ad, rfl⟩ : ∃ ad, ao = some ad := by
        cases ao with
        | none => have := b3 rfl; omega
        | some ad => exact ⟨ad, rfl⟩
      obtain ⟨_, _, hv, _, _, _, hcl⟩ := HBs.out
      cases hv
      have hc := (hcl ad rfl).2 k bs[k] (by simp [hlt])
      obtain ⟨h1, h2⟩ := headN_step bs k hlt hlo
      have hlt' : (k : Int) < bs.length := by omega
      have hu8 := bs[k].toNat_lt
      have HH := Lib.hid h2
      unfold b8 at hc
      generalize hy8 : bs[k].toNat = y8 at *
      have e2' : IntKind.u64.wrap (24 - 8 * (k : Int)) = 24 - 8 * k := by rw [IntKind.wrap_u64]; omega
      have e3 : (24 - 8 * (k : Int)).toNat = 24 - 8 * k := by omega
      clear hcl h2 hs
      generalize headN bs k = hk1 at *
      obtain ⟨hk2, hkk⟩ : ∃ x, x = headN bs (k + 1) := ⟨_, rfl⟩
      rw [← hkk] at HH
      have hK := Lib.hid hkk
      clear hkk hy8
      go_wp2_with fail
      rw [HH.out]
      have hne : s ≠ u.heap.size := by have := HM1.out.size; omega
      refine ⟨⟨k + 1, by omega, by go_num, ?_, ?_, ?_, ?_, ?_⟩, by simp [intOf]; omega⟩
      · have := box_set HP.out ((hk2 : Nat) : Int)
        exact hK.out ▸ this
      · rw [Below.heap_setCell _ _ _ _ (show w.heap.size ≠ u.heap.size by omega)]; exact HG.out
      · exact HS.out.set hne (hal _ (by omega)) _
      · exact HM.out.set (by omega) _
      · exact HBs.out.mod (Mod.setCell _ _ _ _) (fun h => by have := hob _ h; simp at this; omega)
    · obtain rfl : k = bs.length := by omega
      rw [HE.out] at c0
      obtain ⟨-, -, k2, -, -⟩ := HS.out.src.cells
      have hgf := HG.out
      obtain ⟨g0, g1, gf0, gf1⟩ := box_cells HG.out
      clear hs hbk3
      by_cases he : e2 = 0
      · subst he
        go_wp2_with fail
        refine (HC _).out.mono ?_
        rintro e u5 ⟨rfl, hz⟩
        have HS5 := Lib.hid (HS.out.same hz)
        have HM5 := Lib.hid (HM.out.trans (Mod.of_same hz))
        have hbk5 := hz.block hgf
        clear HS HM hz hgf g0 g1 gf0 gf1 c0 c1 f0 f1 k2
        obtain ⟨c0, c1, hf0, hf1⟩ := box_cells hbk5
        go_wp2_with fail
        obtain ⟨d0, d1⟩ := box1_set 0 0 y n w.heap.size u5 c0 c1 _ (Same.refl _)
        have HM6 := Lib.hid ((HM5.out.set (g := w.heap.size) (j := 0) (Nat.le_refl _) (.int .u32 y)).set (g := w.heap.size) (j := 1) (Nat.le_refl _) (.int .i64 n))
        have HS6 := Lib.hid ((HS5.out.set (g := w.heap.size) (j := 0) (by omega) (hal _ (Nat.le_refl _)) (.int .u32 y)).set (g := w.heap.size) (j := 1) (by omega) (hal _ (Nat.le_refl _)) (.int .i64 n))
        generalize (u5.setCell ⟨w.heap.size, 0, none⟩ (.int .u32 y)).setCell ⟨w.heap.size, 1, none⟩ (.int .i64 n) = V at *
        refine bodyPost_ret (v := rdV (some (y, n, a2))) ?_ rfl ?_
        · clear HU HM5 HM6 HS5 HS6 HC HBs HO HP HG
          simp [results, Try.results25, go_sem, d0, d1, rdV]
        · exact ⟨rfl, HM6.out, HS6.out⟩
      · have he2 : (e2 != 0) = true := by simpa using he
        go_wp2_with fail
        obtain ⟨d0, d1⟩ := box1_set 0 0 0 0 w.heap.size wr g0 g1 _ (Same.refl _)
        have HM6 := Lib.hid ((HM.out.set (g := w.heap.size) (j := 0) (Nat.le_refl _) (.int .u32 0)).set (g := w.heap.size) (j := 1) (Nat.le_refl _) (.int .i64 0))
        generalize (wr.setCell ⟨w.heap.size, 0, none⟩ (.int .u32 0)).setCell ⟨w.heap.size, 1, none⟩ (.int .i64 0) = V at *
        refine bodyPost_ret (v := rdV none) ?_ rfl ?_
        · clear HU HM HM6 HS HC HBs HO HP HG
          simp [results, Try.results25, go_sem, d0, d1, rdV]
        · exact ⟨rfl, HM6.out⟩

theorem rpRead_any (s : Nat) (all : Value) (l : List UInt8) (a : Nat) (w : World) (h : RSrcB w s all l a 0) (hl : l.length ≤ 140737488355328) :
    Calls Try.prog 25 #[.pointer (some ⟨s, 0, none⟩)] w fun e w' => e = .returned (rdV (readM l a)) ∧ Mod s w w' ∧ ∀ x n k, readM l a = some (x, n, k) → RSrcB w' s all l k 0 := by
  by_cases he : stepErr l a 0 1 = 0
  · by_cases hn : 32 < numOut (stepOut l a 0 1)
    · have hr : readM l a = none := by unfold readM; rw [if_pos hn]
      rw [hr]
      exact (rpRead_err s all l a w h hl (.inr ⟨he, hn⟩)).mono fun e w' ⟨h1, h2⟩ => ⟨h1, h2, fun _ _ _ h => by cases h⟩
    · exact rpRead_go s all l a w h hl he hn
  · rw [readM_err l a he]
    exact (rpRead_err s all l a w h hl (.inl he)).mono fun e w' ⟨h1, h2⟩ => ⟨h1, h2, fun _ _ _ h => by cases h⟩
end Go.Proofs.Ytmlabaaelkghlaa
