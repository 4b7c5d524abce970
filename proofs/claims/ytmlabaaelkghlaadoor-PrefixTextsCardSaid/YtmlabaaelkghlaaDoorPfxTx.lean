/- The developers' ParseText, at every text. No condition beyond what it names. -/
import Derived.Test.YtmlabaaelkghlaaDoorPfxU
import Derived.Test.YtmlabaaelkghlaaDoorPfxB
namespace Go.Proofs.YtmlabaaelkghlaaDoor
open Go.RowKit
set_option linter.unusedVariables false
set_option maxRecDepth 100000

def goodB (a n : Int) : Bool := decide (a = canA a n) && decide (n = nearN n)
/-- the prefix of which this is the text -/
def parT (l : List UInt8) : Option (Int × Int) :=
  match finA 4 (cutB 47 l).1 0 with
  | none => none
  | some a => if (cutN 32 (cutB 47 l).2.1).2.2 = true ∧ (cutN 32 (cutB 47 l).2.1).2.1 = [] ∧ goodB a (cutN 32 (cutB 47 l).2.1).1 = true then some (a, (cutN 32 (cutB 47 l).2.1).1) else none
def ptV : Option (Int × Int) → Value
  | none => .tuple #[.agg #[.int .u32 0, .int .i64 0], .bool false]
  | some (a, n) => .tuple #[.agg #[.int .u32 a, .int .i64 n], .bool true]
theorem cutB_len (c : UInt8) : ∀ l : List UInt8, (cutB c l).1.length ≤ l.length ∧ (cutB c l).2.1.length ≤ l.length
  | [] => ⟨Nat.le_refl _, Nat.le_refl _⟩
  | b :: t => by
    have := cutB_len c t
    unfold cutB
    split
    · exact ⟨by simp, by simp⟩
    · exact ⟨by simp; omega, by simp; omega⟩

theorem box_cells' {g : Nat} {w : World} {a n : Int} (hb : w.heap[g]? = some (pfxO a n)) : w.cell? ⟨g, 0, none⟩ = some (.int .u32 a) ∧ w.cell? ⟨g, 1, none⟩ = some (.int .i64 n) ∧ w.frozen? ⟨g, 0, none⟩ = false ∧ w.frozen? ⟨g, 1, none⟩ = false := by
  refine ⟨?_, ?_, ?_, ?_⟩ <;> simp [World.cell?, World.frozen?, hb]

set_option maxHeartbeats 2000000 in
theorem ParseText_any (s : ByteArray) (hs : s.size ≤ 140737488355328) (w : World) :
    Calls Tryd.prog 8 #[.string s] w fun e w' => e = .returned (ptV (parT s.data.toList)) ∧ Same w w' := by
  have hsl : s.data.toList.length = s.size := Array.length_toList
  have HC := fun w => Lib.hid (Cut_any s hs 47 w)
  obtain ⟨hl1, hl2⟩ := cutB_len 47 s.data.toList
  have HP := fun w => Lib.hid (ParseAddr_any ⟨(cutB 47 s.data.toList).1.toArray⟩ (by show (cutB 47 s.data.toList).1.toArray.size ≤ _; rw [List.size_toArray]; omega) w)
  rw [show (⟨(cutB 47 s.data.toList).1.toArray⟩ : ByteArray).data.toList = (cutB 47 s.data.toList).1 from rfl] at HP
  have HN := fun w => Lib.hid (cutNumber_any 32 (by omega) ⟨(cutB 47 s.data.toList).2.1.toArray⟩ (by show (cutB 47 s.data.toList).2.1.toArray.size ≤ _; rw [List.size_toArray]; omega) w)
  rw [show (⟨(cutB 47 s.data.toList).2.1.toArray⟩ : ByteArray).data.toList = (cutB 47 s.data.toList).2.1 from rfl] at HN
  unfold parT
  generalize (cutB 47 s.data.toList).1 = ad at *
  generalize (cutB 47 s.data.toList).2.1 = tl at *
  generalize (cutB 47 s.data.toList).2.2 = found at *
  have HGd := fun (a : Nat) (w : World) => Lib.hid (Good_any a (cutN 32 tl).1 w)
  change ∀ (a : Nat) (w : World), Hid (Calls _ _ _ _ fun e w' => e = .returned (.bool (goodB a (cutN 32 tl).1)) ∧ _) at HGd
  generalize (cutN 32 tl).1 = n at *
  generalize (cutN 32 tl).2.1 = rest at *
  generalize (cutN 32 tl).2.2 = ok at *
  clear hl1 hl2 hsl
  have H0 := Lib.hid (Same.alloc w (pfxO 0 0))
  have hbk : (w.alloc (pfxO 0 0)).heap[w.heap.size]? = some (pfxO 0 0) := heap_alloc_new w (pfxO 0 0)
  rcases hfa : finA 4 ad 0 with _ | a
  · rw [hfa] at HP
    rw [show paV none = .tuple #[.int .u32 0, .bool false] from rfl] at HP
    go_enter Tryd.func8, Tryd.ntmps8
    go_wp2_with fail
    refine (HC _).out.mono ?_
    rintro e u1 ⟨rfl, h1⟩
    go_wp2_with fail
    refine (HP _).out.mono ?_
    rintro e u2 ⟨rfl, h2⟩
    go_wp2_with fail
    refine (HN _).out.mono ?_
    rintro e u3 ⟨rfl, h3⟩
    have HS3 := Lib.hid ((h1.trans h2).trans h3)
    clear h1 h2 h3
    have HS4 : Hid (Same (w.alloc (pfxO 0 0)) (u3.alloc (pfxO 0 n))) := HS3.out.trans (Same.alloc _ _)
    have hb4 := HS4.out.block hbk
    obtain ⟨c0, c1, hf0, hf1⟩ := (show _ ∧ _ ∧ _ ∧ _ from box_cells' hb4)
    go_wp2_with fail
    obtain ⟨d0, d1⟩ := box1_set 0 0 0 0 w.heap.size (u3.alloc (pfxO 0 n)) c0 c1 _ (Same.refl _)
    have HM2 := Lib.hid (((H0.out.trans HS4.out).set (g := w.heap.size) (j := 0) (Nat.le_refl _) (.int .u32 0)).set (g := w.heap.size) (j := 1) (Nat.le_refl _) (.int .i64 0))
    generalize ((u3.alloc (pfxO 0 n)).setCell ⟨w.heap.size, 0, none⟩ (.int .u32 0)).setCell ⟨w.heap.size, 1, none⟩ (.int .i64 0) = V at *
    refine bodyPost_ret (v := ptV none) ?_ rfl ⟨rfl, HM2.out⟩
    clear HC HP HN HGd HM2
    simp [results, Tryd.results8, go_sem, d0, d1, ptV]
  · rw [hfa] at HP
    rw [show paV (some a) = .tuple #[.int .u32 (a : Nat), .bool true] from rfl] at HP
    dsimp only
    cases ok
    · rw [if_neg (by simp)]
      go_enter Tryd.func8, Tryd.ntmps8
      go_wp2_with fail
      refine (HC _).out.mono ?_
      rintro e u1 ⟨rfl, h1⟩
      go_wp2_with fail
      refine (HP _).out.mono ?_
      rintro e u2 ⟨rfl, h2⟩
      go_wp2_with fail
      refine (HN _).out.mono ?_
      rintro e u3 ⟨rfl, h3⟩
      have HS3 := Lib.hid ((h1.trans h2).trans h3)
      clear h1 h2 h3
      have HS4 : Hid (Same (w.alloc (pfxO 0 0)) (u3.alloc (pfxO a n))) := HS3.out.trans (Same.alloc _ _)
      have hb4 := HS4.out.block hbk
      obtain ⟨c0, c1, hf0, hf1⟩ := (show _ ∧ _ ∧ _ ∧ _ from box_cells' hb4)
      go_wp2_with fail
      obtain ⟨d0, d1⟩ := box1_set 0 0 0 0 w.heap.size (u3.alloc (pfxO a n)) c0 c1 _ (Same.refl _)
      have HM2 := Lib.hid (((H0.out.trans HS4.out).set (g := w.heap.size) (j := 0) (Nat.le_refl _) (.int .u32 0)).set (g := w.heap.size) (j := 1) (Nat.le_refl _) (.int .i64 0))
      generalize ((u3.alloc (pfxO a n)).setCell ⟨w.heap.size, 0, none⟩ (.int .u32 0)).setCell ⟨w.heap.size, 1, none⟩ (.int .i64 0) = V at *
      refine bodyPost_ret (v := ptV none) ?_ rfl ⟨rfl, HM2.out⟩
      clear HC HP HN HGd HM2
      simp [results, Tryd.results8, go_sem, d0, d1, ptV]
    · have hre : (⟨rest.toArray⟩ : ByteArray).toList = rest := by rw [ByteArray.toList_eq]
      by_cases hrn : rest = []
      · subst hrn
        cases hg : goodB a n
        · rw [if_neg (by simp)]
          have HGd := fun w => (HGd a w)
          rw [hg] at HGd
          go_enter Tryd.func8, Tryd.ntmps8
          go_wp2_with fail
          refine (HC _).out.mono ?_
          rintro e u1 ⟨rfl, h1⟩
          go_wp2_with fail
          refine (HP _).out.mono ?_
          rintro e u2 ⟨rfl, h2⟩
          go_wp2_with fail
          refine (HN _).out.mono ?_
          rintro e u3 ⟨rfl, h3⟩
          have HS3 := Lib.hid ((h1.trans h2).trans h3)
          clear h1 h2 h3
          have HS4 : Hid (Same (w.alloc (pfxO 0 0)) (u3.alloc (pfxO a n))) := HS3.out.trans (Same.alloc _ _)
          go_wp2_with fail
          refine (HGd _).out.mono ?_
          rintro e u4 ⟨rfl, h4⟩
          have HS5 := Lib.hid (HS4.out.trans h4)
          have hpb := heap_alloc_new u3 (pfxO a n)
          obtain ⟨p0, p1, -, -⟩ := box_cells' (h4.block hpb)
          clear HS4 hpb
          have HS4 := HS5
          clear HS5
          have hb4 := HS4.out.block hbk
          obtain ⟨c0, c1, hf0, hf1⟩ := (show _ ∧ _ ∧ _ ∧ _ from box_cells' hb4)
          go_wp2_with fail
          obtain ⟨d0, d1⟩ := box1_set 0 0 0 0 w.heap.size u4 c0 c1 _ (Same.refl _)
          have HM2 := Lib.hid (((H0.out.trans HS4.out).set (g := w.heap.size) (j := 0) (Nat.le_refl _) (.int .u32 0)).set (g := w.heap.size) (j := 1) (Nat.le_refl _) (.int .i64 0))
          generalize (u4.setCell ⟨w.heap.size, 0, none⟩ (.int .u32 0)).setCell ⟨w.heap.size, 1, none⟩ (.int .i64 0) = V at *
          refine bodyPost_ret (v := ptV none) ?_ rfl ⟨rfl, HM2.out⟩
          clear HC HP HN HGd HM2
          simp [results, Tryd.results8, go_sem, d0, d1, ptV]
        · rw [if_pos ⟨rfl, rfl, rfl⟩]
          have HGd := fun w => (HGd a w)
          rw [hg] at HGd
          go_enter Tryd.func8, Tryd.ntmps8
          go_wp2_with fail
          refine (HC _).out.mono ?_
          rintro e u1 ⟨rfl, h1⟩
          go_wp2_with fail
          refine (HP _).out.mono ?_
          rintro e u2 ⟨rfl, h2⟩
          go_wp2_with fail
          refine (HN _).out.mono ?_
          rintro e u3 ⟨rfl, h3⟩
          have HS3 := Lib.hid ((h1.trans h2).trans h3)
          clear h1 h2 h3
          have HS4 : Hid (Same (w.alloc (pfxO 0 0)) (u3.alloc (pfxO a n))) := HS3.out.trans (Same.alloc _ _)
          go_wp2_with fail
          refine (HGd _).out.mono ?_
          rintro e u4 ⟨rfl, h4⟩
          have HS5 := Lib.hid (HS4.out.trans h4)
          have hpb := heap_alloc_new u3 (pfxO a n)
          obtain ⟨p0, p1, -, -⟩ := box_cells' (h4.block hpb)
          clear HS4 hpb
          have HS4 := HS5
          clear HS5
          have hb4 := HS4.out.block hbk
          obtain ⟨c0, c1, hf0, hf1⟩ := (show _ ∧ _ ∧ _ ∧ _ from box_cells' hb4)
          go_wp2_with fail
          obtain ⟨d0, d1⟩ := box1_set 0 0 a n w.heap.size u4 c0 c1 _ (Same.refl _)
          have HM2 := Lib.hid (((H0.out.trans HS4.out).set (g := w.heap.size) (j := 0) (Nat.le_refl _) (.int .u32 a)).set (g := w.heap.size) (j := 1) (Nat.le_refl _) (.int .i64 n))
          generalize (u4.setCell ⟨w.heap.size, 0, none⟩ (.int .u32 a)).setCell ⟨w.heap.size, 1, none⟩ (.int .i64 n) = V at *
          refine bodyPost_ret (v := ptV (some (a, n))) ?_ rfl ⟨rfl, HM2.out⟩
          clear HC HP HN HGd HM2
          simp [results, Tryd.results8, go_sem, d0, d1, ptV]
      · rw [if_neg (by rintro ⟨-, h, -⟩; exact hrn h)]
        obtain ⟨c, t, rfl⟩ : ∃ c t, rest = c :: t := List.exists_cons_of_ne_nil hrn
        clear hrn
        have hem : List.isEmpty (c :: t) = false := rfl
        go_enter Tryd.func8, Tryd.ntmps8
        go_wp2_with fail
        refine (HC _).out.mono ?_
        rintro e u1 ⟨rfl, h1⟩
        go_wp2_with fail
        refine (HP _).out.mono ?_
        rintro e u2 ⟨rfl, h2⟩
        go_wp2_with fail
        refine (HN _).out.mono ?_
        rintro e u3 ⟨rfl, h3⟩
        have HS3 := Lib.hid ((h1.trans h2).trans h3)
        clear h1 h2 h3
        have HS4 : Hid (Same (w.alloc (pfxO 0 0)) (u3.alloc (pfxO a n))) := HS3.out.trans (Same.alloc _ _)
        have hb4 := HS4.out.block hbk
        obtain ⟨c0, c1, hf0, hf1⟩ := (show _ ∧ _ ∧ _ ∧ _ from box_cells' hb4)
        go_wp2_with fail
        obtain ⟨d0, d1⟩ := box1_set 0 0 0 0 w.heap.size (u3.alloc (pfxO a n)) c0 c1 _ (Same.refl _)
        have HM2 := Lib.hid (((H0.out.trans HS4.out).set (g := w.heap.size) (j := 0) (Nat.le_refl _) (.int .u32 0)).set (g := w.heap.size) (j := 1) (Nat.le_refl _) (.int .i64 0))
        generalize ((u3.alloc (pfxO a n)).setCell ⟨w.heap.size, 0, none⟩ (.int .u32 0)).setCell ⟨w.heap.size, 1, none⟩ (.int .i64 0) = V at *
        refine bodyPost_ret (v := ptV none) ?_ rfl ⟨rfl, HM2.out⟩
        clear HC HP HN HGd HM2
        simp [results, Tryd.results8, go_sem, d0, d1, ptV]
end Go.Proofs.YtmlabaaelkghlaaDoor
