/- The developers' Parse. No condition beyond what each names. -/
import Derived.Test.YtmlabaaelkghlaaDoorPfxS
import Derived.Test.YtmlabaaelkghlaaDoorMemP
import Derived.LoopTactic
namespace Go.Proofs.YtmlabaaelkghlaaDoor
open Go.RowKit
set_option linter.unusedVariables false
set_option maxRecDepth 100000

/-- the prefixes that follow, one by one -/
def parseM (l : List UInt8) : Nat → Nat → List (Int × Int) → Option (List (Int × Int))
  | 0, _, acc => some acc
  | f + 1, a, acc => if l.length ≤ a then some acc else match readM l a with
    | none => none
    | some (x, n, k) => parseM l f k (acc ++ [(x, n)])
def parseR (l : List UInt8) : Option (List (Int × Int)) := parseM l l.length 0 []

theorem parseM_end (l : List UInt8) (f a : Nat) (acc : List (Int × Int)) (h : l.length ≤ a) : parseM l f a acc = some acc := by
  cases f with
  | zero => rfl
  | succ f => rw [parseM, if_pos h]
theorem parseM_no (l : List UInt8) (f a : Nat) (acc : List (Int × Int)) (h : a < l.length) (hf : l.length ≤ a + f) (hr : readM l a = none) : parseM l f a acc = none := by
  cases f with
  | zero => omega
  | succ f => rw [parseM, if_neg (by omega), hr]
theorem readM_gt (l : List UInt8) (a : Nat) (ha : a < l.length) (x n : Int) (k : Nat) (hr : readM l a = some (x, n, k)) : a < k := by
  unfold readM at hr
  split at hr
  · cases hr
  · split at hr
    · cases hr
    · simp only [Option.some.injEq, Prod.mk.injEq] at hr
      obtain ⟨_, _, rfl⟩ := hr
      have h1 : stepAt l a 0 1 = a + 1 := by rw [stepAt, if_pos ⟨rfl, by omega, by omega⟩]; rfl
      rw [h1]
      unfold stepAt
      split <;> omega
theorem parseM_step (l : List UInt8) (f a : Nat) (acc : List (Int × Int)) (h : a < l.length) (hf : l.length ≤ a + f) (x n : Int) (k : Nat) (hr : readM l a = some (x, n, k)) :
    ∃ f', l.length ≤ k + f' ∧ parseM l f' k (acc ++ [(x, n)]) = parseM l f a acc := by
  cases f with
  | zero => omega
  | succ f =>
    refine ⟨f, by have := readM_gt l a h x n k hr; omega, ?_⟩
    rw [parseM, if_neg (by omega), hr]

/-- how far a source is -/
def posAt (w : World) (s j : Nat) : Nat := match w.cell? ⟨s, j, none⟩ with
  | some (.int _ n) => n.toNat
  | _ => 0
theorem SrcB.pos {w : World} {s : Nat} {all : Value} {l : List UInt8} {a : Nat} {er : Int} (h : SrcB w s all l a er) : posAt w s 2 = a := by
  obtain ⟨_, _, c2, _⟩ := h.src.cells
  unfold posAt
  rw [c2]
  simp

theorem pParse_any (v : Value) (l : List UInt8) (w : World) (hb : Bs w v l) (hl : l.length ≤ 8796093022200) :
    Calls Tryd.prog 14 #[v] w fun e w' => ∃ u, e = .returned (.tuple #[u, .bool (parseR l).isSome]) ∧ Ps w' u ((parseR l).getD []) ∧ Same w w' := by
  have HRd := Lib.hid (Read_any v l w hb (by omega))
  obtain ⟨R, hR⟩ : ∃ R, R = parseR l := ⟨_, rfl⟩
  rw [← hR]
  obtain ⟨ao, cap, rfl, b1, b2, b3, b4⟩ := hb
  clear b4 b3
  go_enter Tryd.func14, Tryd.ntmps14
  go_wp2_with fail
  refine HRd.out.mono ?_
  rintro e u ⟨s, sv, rfl, hsw, hsrc, hu, hown⟩
  have HU := Lib.hid hu
  have HSR := Lib.hid hsrc
  have hsu : s < u.heap.size := hsrc.src.lt
  have hlt := hsrc.lt
  clear hsrc hu HRd
  go_wp2_with fail
  go_loopw [4] (fun lv wr => ∃ (a f : Nat) (acc : List (Int × Int)), OwnP wr u.heap.size lv acc ∧ SrcB wr s sv l a 0 ∧ Same w wr ∧ u.heap.size ≤ wr.heap.size ∧ acc.length ≤ a ∧ l.length ≤ a + f ∧ parseM l f a acc = R) (fun _ wr => l.length - posAt wr s 2)
  case atStart => exact ⟨0, l.length, [], OwnP.nil _ _, HSR.out, HU.out, Nat.le_refl _, Nat.le_refl _, by omega, hR.symm⟩
  case round =>
    obtain ⟨a, f, acc, ho, hs, hsm, hsz, hac, hf, hpm⟩ := hrel
    have HPOS := Lib.hid hs.pos
    have hale := hs.le
    have HO := Lib.hid ho
    have HS := Lib.hid hs
    have HM := Lib.hid hsm
    have HL := Lib.hid (Left_made s sv l a 0 wr hs)
    clear ho hs hsm
    rw [if_pos rfl] at HL
    by_cases hlt2 : a < l.length
    · have hlt' : (0 : Int) < (l.length : Int) - a := by omega
      have hRd := fun w2 (h : SrcB w2 s sv l a 0) => Lib.hid (pRead_any s sv l a w2 h (by omega))
      rcases hr : readM l a with _ | ⟨x, n, k⟩
      · have hnone := parseM_no l f a acc hlt2 hf hr
        rw [hpm] at hnone
        subst hnone
        rw [hr] at hRd
        have hn : rdV none = .tuple #[.agg #[.int .u32 0, .int .i64 0], .bool false] := rfl
        rw [hn] at hRd
        clear hn
        go_wp2_with fail
        refine HL.out.mono ?_
        rintro e w1 ⟨rfl, h1⟩
        have HM1 := Lib.hid (HM.out.trans h1)
        go_wp2_with fail
        refine (hRd w1 (HS.out.same h1)).out.mono ?_
        rintro e w2 ⟨rfl, hm, -⟩
        have HM2 : Hid (Same w w2) := Below.trans HM1.out (hm.below hsw HM1.out.size)
        go_wp2_with fail
        go_ret2
        exact ⟨_, rfl, Ps.nil _, HM2.out.trans (Same.alloc _ _)⟩
      · obtain ⟨f2, hf2, hp2⟩ := parseM_step l f a acc hlt2 hf x n k hr
        rw [hpm] at hp2
        have hgt := readM_gt l a hlt2 x n k hr
        rw [hr] at hRd
        have hn : rdV (some (x, n, k)) = .tuple #[.agg #[.int .u32 x, .int .i64 n], .bool true] := rfl
        rw [hn] at hRd
        clear hn
        go_wp2_with fail
        refine HL.out.mono ?_
        rintro e w1 ⟨rfl, h1⟩
        have HM1 := Lib.hid (HM.out.trans h1)
        have HO1 := Lib.hid (HO.out.same h1)
        have hsz1 := Nat.le_trans hsz h1.size
        go_wp2_with fail
        refine (hRd w1 (HS.out.same h1)).out.mono ?_
        rintro e w2 ⟨rfl, hm, hsr⟩
        have HM2 : Hid (Same w w2) := Below.trans HM1.out (hm.below hsw HM1.out.size)
        have HS2 := Lib.hid (hsr x n k rfl)
        have HO2 := Lib.hid (HO1.out.mod hm (fun h => by have := (HO1.out.lt s h).1; omega))
        have hsz2 := Nat.le_trans hsz1 hm.size
        clear hm hsr h1 HM HO HO1 HM1 HS HL
        have HM3 := Lib.hid ((HM2.out.trans (Same.alloc w2 (pfxO x n))).trans (Same.alloc _ (pfxO x n)))
        have HS3 := Lib.hid (HS2.out.same ((Same.alloc w2 (pfxO x n)).trans (Same.alloc _ (pfxO x n))))
        have HO3 := Lib.hid (HO2.out.same ((Same.alloc w2 (pfxO x n)).trans (Same.alloc _ (pfxO x n))))
        have HX : Hid (Ps ((w2.alloc (pfxO x n)).alloc (pfxO x n)) (.slice (some ⟨w2.heap.size + 1, 0, none⟩) 1 1) [(x, n)]) := by
          have := (OwnP.one (w2.alloc (pfxO x n)) (x, n)).ps
          rw [show (w2.alloc (pfxO x n)).heap.size = w2.heap.size + 1 from by simp] at this
          exact this
        have hsz3 : u.heap.size ≤ ((w2.alloc (pfxO x n)).alloc (pfxO x n)).heap.size := by simp; omega
        have hov : ∀ g, u4.ownBlock = some g → u.heap.size ≤ g := fun g h => (HO2.out.lt g h).1
        go_wp2_with (first
          | (at_builtin; refine wpList_append_psB rfl _ (.tmp 22) rfl u.heap.size hsz3 u4 acc rfl HO3.out _ [(x, n)] rfl HX.out (by simp; omega) ?_; intro v1 w4 ho1 hg1))
        have hgm := fun t ht => grown_mod hg1 t ht
        have HS4 : Hid (SrcB w4 s sv l k 0) := by
          show _
          cases hb : u4.ownBlock with
          | none => exact HS3.out.same ((Same.refl _).grown hg1 (fun k hk => by rw [hb] at hk; cases hk))
          | some g =>
            have := hov g hb
            exact HS3.out.other (hgm g (.inr hb)) (by omega) (fun h => by have := hlt _ h; omega)
        have HM4 := Lib.hid (HM3.out.grown hg1 (fun k hk => by have := hov k hk; have := HU.out.size; omega))
        refine ⟨⟨k, f2, acc ++ [(x, n)], ho1, HS4.out, HM4.out, Nat.le_trans hsz3 hg1.size, by simp; omega, hf2, hp2⟩, ?_⟩
        rw [HS4.out.pos, HPOS.out]
        omega
    · have hlt' : (l.length : Int) - a ≤ 0 := by omega
      have hend := parseM_end l f a acc (by omega)
      rw [hpm] at hend
      subst hend
      go_wp2_with fail
      refine HL.out.mono ?_
      rintro e w1 ⟨rfl, h1⟩
      go_wp2_with fail
      go_ret2
      exact ⟨_, rfl, (HO.out.same h1).ps, HM.out.trans h1⟩
end Go.Proofs.YtmlabaaelkghlaaDoor
