/- The developers' Read of a prefix. No condition beyond what each names. -/
import Derived.Test.YtmlabaaelkghlaaDoorPfxB
import Derived.Test.YtmlabaaelkghlaaDoorTake
import Derived.Test.YtmlabaaelkghlaaDoorGetAt
namespace Go.Proofs.YtmlabaaelkghlaaDoor
open Go.RowKit
set_option linter.unusedVariables false
set_option maxRecDepth 100000

/-- the address that begins with these bytes -/
def begunN (bs : List UInt8) : Nat := numOf bs * 256 ^ (4 - bs.length)
theorem begun_zeros (bs : List UInt8) (h : bs.length ≤ 4) : numOf ((bs ++ [0, 0, 0, 0]).take 4) = begunN bs := by
  unfold begunN
  match bs, h with
  | [], _ => rfl
  | [a], _ => simp [numOf, Nat.mul_assoc]
  | [a, b], _ => simp [numOf, Nat.mul_assoc]
  | [a, b, c], _ => simp [numOf]
  | [a, b, c, d], _ => simp [numOf]
  | a :: b :: c :: d :: e :: t, h => simp at h
theorem begunN_lt (bs : List UInt8) (h : bs.length ≤ 4) : begunN bs < 4294967296 := by
  rw [← begun_zeros bs h]
  have := numOf_lt ((bs ++ [0, 0, 0, 0]).take 4)
  have h2 : ((bs ++ [0, 0, 0, 0]).take 4).length = 4 := by simp
  rw [h2] at this
  exact this

theorem begun_any (v : Value) (bs : List UInt8) (w : World) (hb : Bs w v bs) (h4 : bs.length ≤ 4) : Calls Tryd.prog 46 #[v] w fun e w' => e = .returned (.int .u32 (begunN bs)) ∧ Same w w' := by
  have HZ := fun w => Lib.hid (size_any 32 (by omega) (by omega) w)
  have HB := Lib.hid hb
  obtain ⟨ao, cap, rfl, b1, b2, b3, b4⟩ := hb
  clear b4
  rw [show ((32 : Int) + 7) / 8 = 4 from rfl] at HZ
  have hge : Hid (numOut (getOut (bs ++ [0, 0, 0, 0]) 0 4) = begunN bs) := by
    show _ = _
    rw [← begun_zeros bs h4, getOut, if_pos ⟨by omega, by simp⟩]
    rfl
  generalize begunN bs = n at *
  go_enter Tryd.func46, Tryd.ntmps46
  go_wp2_with fail
  refine (HZ _).out.mono ?_
  rintro e u ⟨rfl, hu⟩
  obtain ⟨i0, hi, hz0, hz1, hz2⟩ := info_parts u8info
  have HI := Lib.hid (And.intro hi (And.intro hz0 (And.intro hz1 hz2)))
  clear hi hz0 hz1 hz2
  go_wp2_with (first
    | (refine wpList_make_full _ rfl _ _ 36 rfl u.heap.size 5 i0 (.int .u8 0) 1 Tryd.underlying36 HI.out.1 HI.out.2.1 HI.out.2.2.1 _ _ _ _ 4 rfl rfl rfl rfl ?_ ?_ (Nat.le_refl _) ?_; (rw [HI.out.2.2.2]; omega); (unfold maxLen; omega); intro u1 hown hgr))
  have hs1 : Same u u1 := (Same.refl u).grown hgr (fun k hk => by cases hk)
  have hx : OwnB u1 u.heap.size (.slice (some ⟨u.heap.size, 0, none⟩) 4 4) [0, 0, 0, 0] := by
    have e : (madeCells (Value.int .u8 0).cells (4 * 1)).toList = ([0, 0, 0, 0] : List UInt8).map b8 := by kernel_rfl
    rw [e] at hown
    exact hown
  have H2 := Lib.hid ((hu.trans hs1).trans (Same.alloc u1 (.cells #[.slice ao bs.length cap, .slice (some ⟨u.heap.size, 0, none⟩) 4 4] 36)))
  have hcc := concat_two u1.heap.size _ _ bs [0, 0, 0, 0] _ (HB.out.same H2.out) (hx.bs.same (Same.alloc u1 (.cells #[.slice ao bs.length cap, .slice (some ⟨u.heap.size, 0, none⟩) 4 4] 36))) (by simp; omega) (heap_alloc_new u1 _)
  clear hx hown hgr hs1
  refine hcc.mono ?_
  rintro e u2 ⟨v2, rfl, ho2, hs2⟩
  have H3 := Lib.hid (H2.out.trans hs2)
  have HG := Get32_any v2 _ 0 u2 ho2.bs
  rw [hge.out] at HG
  have HG := Lib.hid HG
  clear hge hs2 ho2 hcc H2
  generalize (getOut (bs ++ [0, 0, 0, 0]) 0 4).isSome = ok at *
  go_wp2_with fail
  refine HG.out.mono ?_
  rintro e u3 ⟨rfl, rfl⟩
  go_wp2_with fail
  go_ret
  exact ⟨rfl, H3.out⟩

/-- what Read makes of a source of which a bytes are left behind: the address, the length, where the source then is -/
def readM (l : List UInt8) (a : Nat) : Option (Int × Int × Nat) :=
  if 32 < numOut (stepOut l a 0 1) then none
  else if stepErr l (stepAt l a 0 1) (stepErr l a 0 1) ((numOut (stepOut l a 0 1) + 7) / 8 : Nat) ≠ 0 then none
  else some (canA (begunN (listOut (stepOut l (stepAt l a 0 1) (stepErr l a 0 1) ((numOut (stepOut l a 0 1) + 7) / 8 : Nat)))) (numOut (stepOut l a 0 1)), numOut (stepOut l a 0 1), stepAt l (stepAt l a 0 1) (stepErr l a 0 1) ((numOut (stepOut l a 0 1) + 7) / 8 : Nat))
def rdV : Option (Int × Int × Nat) → Value
  | none => .tuple #[.agg #[.int .u32 0, .int .i64 0], .bool false]
  | some (x, n, _) => .tuple #[.agg #[.int .u32 x, .int .i64 n], .bool true]

theorem listOut_le (l : List UInt8) (a : Nat) (er : Int) (q : Nat) : (listOut (stepOut l a er q)).length ≤ q := by
  unfold stepOut
  split
  · simp [listOut]; omega
  · simp [listOut]

theorem Mod.set {s g j : Nat} {A w : World} (h : Mod s A w) (hg : A.heap.size ≤ g) (v : Value) : Mod s A (w.setCell ⟨g, j, none⟩ v) :=
  ⟨h.os, h.tape, h.output, by have := h.size; simp [World.setCell]; omega, fun k hk hs => (Below.heap_setCell _ _ _ _ (show k ≠ g by omega)).trans (h.block k hk hs)⟩
theorem SrcB.set {w : World} {s g j : Nat} {all : Value} {l : List UInt8} {a : Nat} {er : Int} (h : SrcB w s all l a er) (hs : s ≠ g) (ha : all.ownBlock ≠ some g) (v : Value) : SrcB (w.setCell ⟨g, j, none⟩ v) s all l a er :=
  SrcB.other (Mod.setCell g j w v) hs ha h

theorem pRead_any (s : Nat) (all : Value) (l : List UInt8) (a : Nat) (w : World) (h : SrcB w s all l a 0) (hl : l.length ≤ 140737488355328) :
    Calls Tryd.prog 30 #[.pointer (some ⟨s, 0, none⟩)] w fun e w' => e = .returned (rdV (readM l a)) ∧ Mod s w w' ∧ ∀ x n k, readM l a = some (x, n, k) → SrcB w' s all l k 0 := by
  have hsl : s < w.heap.size := h.src.lt
  have hal : all.ownBlock ≠ some w.heap.size := fun he => by have := h.lt _ he; omega
  have HU := Lib.hid (U8_made s all l a 0 _ (h.same (Same.alloc w (pfxO 0 0))))
  unfold readM
  generalize numOut (stepOut l a 0 1) = n at *
  generalize stepAt l a 0 1 = a1 at *
  generalize stepErr l a 0 1 = e1 at *
  by_cases hn : 32 < n
  · rw [if_pos hn]
    have hn' : (32 : Int) < (n : Int) := by omega
    go_enter Tryd.func30, Tryd.ntmps30
    go_wp2_with fail
    refine HU.out.mono ?_
    rintro e u ⟨rfl, hm, hs⟩
    have hbk : u.heap[w.heap.size]? = some (pfxO 0 0) := by
      rw [hm.block w.heap.size (by simp) (by omega)]; exact heap_alloc_new w _
    have c0 : u.cell? ⟨w.heap.size, 0, none⟩ = some (.int .u32 0) := by simp [World.cell?, hbk]
    have c1 : u.cell? ⟨w.heap.size, 1, none⟩ = some (.int .i64 0) := by simp [World.cell?, hbk]
    have hf0 : u.frozen? ⟨w.heap.size, 0, none⟩ = false := by simp [World.frozen?, hbk]
    have hf1 : u.frozen? ⟨w.heap.size, 1, none⟩ = false := by simp [World.frozen?, hbk]
    have HM := Lib.hid ((Mod.of_same (Same.alloc w (pfxO 0 0))).trans hm)
    clear hm hs hbk
    go_wp2_with fail
    obtain ⟨d0, d1⟩ := box1_set 0 0 0 0 w.heap.size u c0 c1 _ (Same.refl _)
    have HM2 := Lib.hid ((HM.out.set (g := w.heap.size) (j := 0) (Nat.le_refl _) (.int .u32 0)).set (g := w.heap.size) (j := 1) (Nat.le_refl _) (.int .i64 0))
    generalize (u.setCell ⟨w.heap.size, 0, none⟩ (.int .u32 0)).setCell ⟨w.heap.size, 1, none⟩ (.int .i64 0) = V at *
    refine bodyPost_ret (v := rdV none) ?_ rfl ⟨rfl, HM2.out, fun _ _ _ h => by cases h⟩
    clear HU HM HM2
    simp [results, Tryd.results30, go_sem, d0, d1, rdV]
  · rw [if_neg hn]
    have hn' : (n : Int) ≤ 32 := by omega
    obtain ⟨q, hq, hq4⟩ : ∃ q : Nat, (n + 7) / 8 = q ∧ q ≤ 4 := ⟨_, rfl, by omega⟩
    have HZ := fun w => Lib.hid (size_any n (by omega) (by omega) w)
    rw [show ((n : Int) + 7) / 8 = (q : Int) from by omega] at HZ
    rw [hq]
    clear hq
    have hlo : (listOut (stepOut l a1 e1 q)).length ≤ 4 := by have := listOut_le l a1 e1 q; omega
    have HB := fun (u : World) (hs : SrcB u s all l a1 e1) => Lib.hid (Bytes_made s all l a1 e1 q u hs hl)
    have HG := fun (u : World) (v : Value) (hb : Bs u v (listOut (stepOut l a1 e1 q))) => Lib.hid (begun_any v _ u hb hlo)
    have HC := fun u => Lib.hid (Canon_any (begunN (listOut (stepOut l a1 e1 q))) n u)
    generalize listOut (stepOut l a1 e1 q) = bs at *
    generalize begunN bs = x at *
    generalize stepAt l a1 e1 q = a2 at *
    generalize stepErr l a1 e1 q = e2 at *
    generalize canA x n = y at *
    have hnn : nearN (n : Int) = n := nearN_id (by omega) hn'
    rw [hnn] at HC
    clear hnn
    by_cases he : e2 = 0
    · subst he
      rw [if_neg (by simp)]
      go_enter Tryd.func30, Tryd.ntmps30
      go_wp2_with fail
      refine HU.out.mono ?_
      rintro e u ⟨rfl, hm, hs⟩
      have HM1 := Lib.hid ((Mod.of_same (Same.alloc w (pfxO 0 0))).trans hm)
      have hbk : u.heap[w.heap.size]? = some (pfxO 0 0) := by
        rw [hm.block w.heap.size (by simp) (by omega)]; exact heap_alloc_new w _
      have HS1 := Lib.hid hs
      clear hm hs
      go_wp2_with fail
      refine (HZ _).out.mono ?_
      rintro e u1 ⟨rfl, hz⟩
      have HS2 := Lib.hid (HS1.out.same hz)
      have HM2 := Lib.hid (HM1.out.trans (Mod.of_same hz))
      have hbk2 := hz.block hbk
      clear HS1 HM1 hz hbk
      go_wp2_with fail
      refine (HB _ HS2.out).out.mono ?_
      rintro e u2 ⟨v, rfl, ho, hm, hs⟩
      have HS3 := Lib.hid hs
      have HM3 := Lib.hid (HM2.out.trans hm)
      have hbk3 : u2.heap[w.heap.size]? = some (pfxO 0 0) := by
        rw [hm.block w.heap.size (Array.getElem?_eq_some_iff.1 hbk2).1 (by omega)]; exact hbk2
      have HO := Lib.hid ho.bs
      clear HS2 HM2 hm hs hbk2 ho
      go_wp2_with fail
      refine (HG _ _ HO.out).out.mono ?_
      rintro e u3 ⟨rfl, hz⟩
      have HS4 := Lib.hid (HS3.out.same hz)
      have HM4 := Lib.hid (HM3.out.trans (Mod.of_same hz))
      have hbk4 := hz.block hbk3
      clear HS3 HM3 hz hbk3 HO
      go_wp2_with fail
      refine (err_made s all a2 0 u3 HS4.out.src).mono ?_
      rintro e u4 ⟨rfl, rfl⟩
      go_wp2_with fail
      refine (HC _).out.mono ?_
      rintro e u5 ⟨rfl, hz⟩
      have HS5 := Lib.hid (HS4.out.same hz)
      have HM5 := Lib.hid (HM4.out.trans (Mod.of_same hz))
      have hbk5 := hz.block hbk4
      clear HS4 HM4 hz hbk4
      have c0 : u5.cell? ⟨w.heap.size, 0, none⟩ = some (.int .u32 0) := by simp [World.cell?, hbk5]
      have c1 : u5.cell? ⟨w.heap.size, 1, none⟩ = some (.int .i64 0) := by simp [World.cell?, hbk5]
      have hf0 : u5.frozen? ⟨w.heap.size, 0, none⟩ = false := by simp [World.frozen?, hbk5]
      have hf1 : u5.frozen? ⟨w.heap.size, 1, none⟩ = false := by simp [World.frozen?, hbk5]
      go_wp2_with fail
      obtain ⟨d0, d1⟩ := box1_set 0 0 y n w.heap.size u5 c0 c1 _ (Same.refl _)
      have HM6 := Lib.hid ((HM5.out.set (g := w.heap.size) (j := 0) (Nat.le_refl _) (.int .u32 y)).set (g := w.heap.size) (j := 1) (Nat.le_refl _) (.int .i64 n))
      have HS6 := Lib.hid ((HS5.out.set (g := w.heap.size) (j := 0) (by omega) hal (.int .u32 y)).set (g := w.heap.size) (j := 1) (by omega) hal (.int .i64 n))
      generalize (u5.setCell ⟨w.heap.size, 0, none⟩ (.int .u32 y)).setCell ⟨w.heap.size, 1, none⟩ (.int .i64 n) = V at *
      refine bodyPost_ret (v := rdV (some (y, n, a2))) ?_ rfl ⟨rfl, HM6.out, fun _ _ _ h => by cases h; exact HS6.out⟩
      clear HU HM5 HM6 HS5 HS6 HZ HB HG HC
      simp [results, Tryd.results30, go_sem, d0, d1, rdV]
    · rw [if_pos he]
      have he2 : (e2 != 0) = true := by simpa using he
      go_enter Tryd.func30, Tryd.ntmps30
      go_wp2_with fail
      refine HU.out.mono ?_
      rintro e u ⟨rfl, hm, hs⟩
      have HM1 := Lib.hid ((Mod.of_same (Same.alloc w (pfxO 0 0))).trans hm)
      have hbk : u.heap[w.heap.size]? = some (pfxO 0 0) := by
        rw [hm.block w.heap.size (by simp) (by omega)]; exact heap_alloc_new w _
      have HS1 := Lib.hid hs
      clear hm hs
      go_wp2_with fail
      refine (HZ _).out.mono ?_
      rintro e u1 ⟨rfl, hz⟩
      have HS2 := Lib.hid (HS1.out.same hz)
      have HM2 := Lib.hid (HM1.out.trans (Mod.of_same hz))
      have hbk2 := hz.block hbk
      clear HS1 HM1 hz hbk
      go_wp2_with fail
      refine (HB _ HS2.out).out.mono ?_
      rintro e u2 ⟨v, rfl, ho, hm, hs⟩
      have HS3 := Lib.hid hs
      have HM3 := Lib.hid (HM2.out.trans hm)
      have hbk3 : u2.heap[w.heap.size]? = some (pfxO 0 0) := by
        rw [hm.block w.heap.size (Array.getElem?_eq_some_iff.1 hbk2).1 (by omega)]; exact hbk2
      have HO := Lib.hid ho.bs
      clear HS2 HM2 hm hs hbk2 ho
      go_wp2_with fail
      refine (HG _ _ HO.out).out.mono ?_
      rintro e u3 ⟨rfl, hz⟩
      have HS4 := Lib.hid (HS3.out.same hz)
      have HM4 := Lib.hid (HM3.out.trans (Mod.of_same hz))
      have hbk4 := hz.block hbk3
      clear HS3 HM3 hz hbk3 HO
      go_wp2_with fail
      refine (err_made s all a2 e2 u3 HS4.out.src).mono ?_
      rintro e u4 ⟨rfl, rfl⟩
      have c0 : u3.cell? ⟨w.heap.size, 0, none⟩ = some (.int .u32 0) := by simp [World.cell?, hbk4]
      have c1 : u3.cell? ⟨w.heap.size, 1, none⟩ = some (.int .i64 0) := by simp [World.cell?, hbk4]
      have hf0 : u3.frozen? ⟨w.heap.size, 0, none⟩ = false := by simp [World.frozen?, hbk4]
      have hf1 : u3.frozen? ⟨w.heap.size, 1, none⟩ = false := by simp [World.frozen?, hbk4]
      go_wp2_with fail
      obtain ⟨d0, d1⟩ := box1_set 0 0 0 0 w.heap.size u3 c0 c1 _ (Same.refl _)
      have HM6 := Lib.hid ((HM4.out.set (g := w.heap.size) (j := 0) (Nat.le_refl _) (.int .u32 0)).set (g := w.heap.size) (j := 1) (Nat.le_refl _) (.int .i64 0))
      generalize (u3.setCell ⟨w.heap.size, 0, none⟩ (.int .u32 0)).setCell ⟨w.heap.size, 1, none⟩ (.int .i64 0) = V at *
      refine bodyPost_ret (v := rdV none) ?_ rfl ⟨rfl, HM6.out, fun _ _ _ h => by cases h⟩
      clear HU HM4 HM6 HZ HB HG HC HS4
      simp [results, Tryd.results30, go_sem, d0, d1, rdV]
end Go.Proofs.YtmlabaaelkghlaaDoor
