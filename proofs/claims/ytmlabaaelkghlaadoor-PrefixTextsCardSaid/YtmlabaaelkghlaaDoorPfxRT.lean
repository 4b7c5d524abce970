/- The document's own ParseText, at every text. No condition beyond what it names. -/
import Derived.Test.YtmlabaaelkghlaaDoorPfxMT
namespace Go.Proofs.YtmlabaaelkghlaaDoor
open Go.RowKit
set_option linter.unusedVariables false
set_option maxRecDepth 100000

/-- the last stroke among the first k bytes -/
def lastAt (l : List UInt8) : Nat → Int
  | 0 => -1
  | i + 1 => if (l.getD i 0).toNat = 47 then (i : Int) else lastAt l i
theorem lastAt_le (l : List UInt8) : ∀ k : Nat, -1 ≤ lastAt l k ∧ lastAt l k < k
  | 0 => by simp [lastAt]
  | k + 1 => by
    have := lastAt_le l k
    rw [lastAt]
    split <;> omega
def digs : List UInt8 → Nat → Option Nat
  | [], n => some n
  | c :: t, n => if c.toNat < 48 ∨ 57 < c.toNat then none else digs t (10 * n + (c.toNat - 48))
def refT (l : List UInt8) : Option (Int × Int) :=
  if lastAt l l.length < 0 then none
  else if l.length - (lastAt l l.length).toNat < 2 ∨ 3 < l.length - (lastAt l l.length).toNat then none
  else match digs (l.drop ((lastAt l l.length).toNat + 1)) 0 with
    | none => none
    | some n => match finA 4 (l.take (lastAt l l.length).toNat) 0 with
      | none => none
      | some a => if goodB a n = true ∧ textL a n = l then some (a, n) else none

set_option maxHeartbeats 1000000 in
theorem rParseText_any (s : ByteArray) (hs : s.size ≤ 1000) (w : World) :
    Calls Tryd.prog 9 #[.string s] w fun e w' => e = .returned (ptV (refT s.data.toList)) ∧ Same w w' := by
  have hsl : s.data.toList.length = s.size := Array.length_toList
  have HSL := Lib.hid hsl
  have hsb : (s.size : Int) ≤ 1000 := by omega
  obtain ⟨RT, hRT0⟩ : ∃ RT, RT = refT s.data.toList := ⟨_, rfl⟩
  rw [← hRT0]
  have hRT := Lib.hid hRT0
  clear hRT0 hsl
  have H0 := Lib.hid (Same.alloc w (pfxO 0 0))
  have hbk : (w.alloc (pfxO 0 0)).heap[w.heap.size]? = some (pfxO 0 0) := heap_alloc_new w (pfxO 0 0)
  go_enter Tryd.func9, Tryd.ntmps9
  go_wp2_with fail
  go_loop [4, 5] (fun tv iv => ∃ (k : Nat) (T : Int), k ≤ s.size ∧ iv = .int .i64 k ∧ tv = .int .i64 T ∧ T = lastAt s.data.toList k) (fun _ iv => s.size - (intOf iv).toNat)
  case atStart => exact ⟨0, -1, Nat.zero_le _, rfl, rfl, rfl⟩
  case round =>
    obtain ⟨k, T, hk, rfl, rfl, hT⟩ := hrel
    by_cases hlt : k < s.size
    · have hlt' : (k : Int) < s.size := by omega
      have hgd : s.data.toList.getD k 0 = s[k] := by
        have : k < s.data.toList.length := by have := HSL.out; omega
        rw [List.getD, List.getElem?_eq_getElem this]; rfl
      by_cases h47 : s[k].toNat = 47
      · have h47' : ((s[k].toNat : Int) == 47) = true := by rw [beq_iff_eq]; omega
        have hnx : Hid ((k : Int) = lastAt s.data.toList (k + 1)) := by show _ = _; rw [lastAt, hgd, if_pos h47]
        clear hT hgd h47
        go_wp2_with fail
        exact ⟨⟨k + 1, k, by omega, by go_num, rfl, hnx.out⟩, by simp [intOf]; omega⟩
      · have h47' : ((s[k].toNat : Int) == 47) = false := by rw [beq_eq_false_iff_ne]; omega
        have hnx : Hid (T = lastAt s.data.toList (k + 1)) := by show _ = _; rw [lastAt, hgd, if_neg h47]; exact hT
        clear hT hgd h47
        go_wp2_with fail
        exact ⟨⟨k + 1, T, by omega, by go_num, rfl, hnx.out⟩, by simp [intOf]; omega⟩
    · have hlt' : (s.size : Int) ≤ k := by omega
      obtain rfl : k = s.size := by omega
      have hTl := lastAt_le s.data.toList s.size
      rw [← hT] at hTl
      have hR := hRT.out
      unfold refT at hR
      rw [HSL.out, ← hT] at hR
      clear hT hlt
      generalize hV0 : w.alloc (.cells #[.int .u32 0, .int .i64 0] 24) = V0 at *
      by_cases hT0 : T < 0
      · rw [if_pos hT0] at hR
        subst hR
        have HS4 : Hid (Same V0 V0) := Same.refl _
        obtain ⟨c0, c1, hf0, hf1⟩ := box_cells' (HS4.out.block hbk)
        go_wp2_with fail
        obtain ⟨d0, d1⟩ := box1_set 0 0 0 0 w.heap.size V0 c0 c1 _ (Same.refl _)
        have HM2 := Lib.hid (((H0.out.trans HS4.out).set (g := w.heap.size) (j := 0) (Nat.le_refl _) (.int .u32 0)).set (g := w.heap.size) (j := 1) (Nat.le_refl _) (.int .i64 0))
        generalize (V0.setCell ⟨w.heap.size, 0, none⟩ (.int .u32 0)).setCell ⟨w.heap.size, 1, none⟩ (.int .i64 0) = V at *
        refine bodyPost_ret (v := ptV none) ?_ rfl ⟨rfl, HM2.out⟩
        clear HM2 HS4
        simp [results, Tryd.results9, go_sem, d0, d1, ptV]
      · have hT0' : decide (T < 0) = false := by rw [decide_eq_false_iff_not]; exact hT0
        rw [if_neg hT0] at hR
        obtain ⟨i, rfl⟩ : ∃ i : Nat, T = i := ⟨T.toNat, by omega⟩
        have hil : i < s.size := by omega
        rw [Int.toNat_natCast] at hR
        by_cases hk2 : s.size - i < 2
        · have hk2' : (s.size : Int) - i < 2 := by omega
          rw [if_pos (.inl hk2)] at hR
          subst hR
          have HS4 : Hid (Same V0 V0) := Same.refl _
          obtain ⟨c0, c1, hf0, hf1⟩ := box_cells' (HS4.out.block hbk)
          go_wp2_with fail
          obtain ⟨d0, d1⟩ := box1_set 0 0 0 0 w.heap.size V0 c0 c1 _ (Same.refl _)
          have HM2 := Lib.hid (((H0.out.trans HS4.out).set (g := w.heap.size) (j := 0) (Nat.le_refl _) (.int .u32 0)).set (g := w.heap.size) (j := 1) (Nat.le_refl _) (.int .i64 0))
          generalize (V0.setCell ⟨w.heap.size, 0, none⟩ (.int .u32 0)).setCell ⟨w.heap.size, 1, none⟩ (.int .i64 0) = V at *
          refine bodyPost_ret (v := ptV none) ?_ rfl ⟨rfl, HM2.out⟩
          clear HM2 HS4
          simp [results, Tryd.results9, go_sem, d0, d1, ptV]
        · have hk2' : decide ((s.size : Int) - i < 2) = false := by rw [decide_eq_false_iff_not]; omega
          by_cases hk3 : 3 < s.size - i
          · have hk3' : (3 : Int) < (s.size : Int) - i := by omega
            rw [if_pos (.inr hk3)] at hR
            subst hR
            have HS4 : Hid (Same V0 V0) := Same.refl _
            obtain ⟨c0, c1, hf0, hf1⟩ := box_cells' (HS4.out.block hbk)
            go_wp2_with fail
            obtain ⟨d0, d1⟩ := box1_set 0 0 0 0 w.heap.size V0 c0 c1 _ (Same.refl _)
            have HM2 := Lib.hid (((H0.out.trans HS4.out).set (g := w.heap.size) (j := 0) (Nat.le_refl _) (.int .u32 0)).set (g := w.heap.size) (j := 1) (Nat.le_refl _) (.int .i64 0))
            generalize (V0.setCell ⟨w.heap.size, 0, none⟩ (.int .u32 0)).setCell ⟨w.heap.size, 1, none⟩ (.int .i64 0) = V at *
            refine bodyPost_ret (v := ptV none) ?_ rfl ⟨rfl, HM2.out⟩
            clear HM2 HS4
            simp [results, Tryd.results9, go_sem, d0, d1, ptV]
          · have hk3' : decide ((3 : Int) < (s.size : Int) - i) = false := by rw [decide_eq_false_iff_not]; omega
            rw [if_neg (by omega)] at hR
            have hii : (i : Int) ≤ s.size := by omega
            have hi1000 : (i : Int) ≤ 1000 := by omega
            have hx1 := Lib.hid (Go.Lib.Pa.extract_upto s i)
            have HP := fun w' => Lib.hid (rParseAddr_any ⟨(s.data.toList.take i).toArray⟩ (by show (s.data.toList.take i).toArray.size ≤ _; rw [List.size_toArray, List.length_take]; omega) w')
            rw [show (⟨(s.data.toList.take i).toArray⟩ : ByteArray).data.toList = s.data.toList.take i from rfl, refM_eq] at HP
            rw [← hx1.out] at HP
            obtain ⟨D, hD⟩ : ∃ D, D = digs (s.data.toList.drop (i + 1)) 0 := ⟨_, rfl⟩
            rw [← hD] at hR
            obtain ⟨av, okv, hav⟩ : ∃ (av : Nat) (okv : Bool), paV (finA 4 (s.data.toList.take i) 0) = .tuple #[.int .u32 av, .bool okv] ∧ ((okv = false ∧ finA 4 (s.data.toList.take i) 0 = none) ∨ (okv = true ∧ finA 4 (s.data.toList.take i) 0 = some av ∧ av < 4294967296)) := by
              rcases hf : finA 4 (s.data.toList.take i) 0 with _ | x
              · exact ⟨0, false, rfl, .inl ⟨rfl, rfl⟩⟩
              · exact ⟨x, true, rfl, .inr ⟨rfl, rfl, (finA_sound _ _ hf).2⟩⟩
            obtain ⟨hav, hfa⟩ := hav
            rw [hav] at HP
            have HFA := Lib.hid hfa
            have HR := Lib.hid hR
            clear hav hfa hR hT0 hTl
            go_wp2_with fail
            refine (HP _).out.mono ?_
            rintro e u ⟨rfl, hu⟩
            have HSu : Hid (Same V0 u) := hu
            clear hu HP hx1
            go_wp2_with fail
            go_loop [8, 9] (fun nv iv => ∃ pos n : Nat, i + 1 ≤ pos ∧ pos ≤ s.size ∧ iv = .int .i64 pos ∧ nv = .int .i64 n ∧ n < 10 ^ (pos - (i + 1)) ∧ digs (s.data.toList.drop pos) n = D) (fun _ iv => s.size - (intOf iv).toNat)
            case atStart => exact ⟨i + 1, 0, Nat.le_refl _, by omega, by go_num, rfl, by simp, hD.symm⟩
            case round =>
              obtain ⟨pos, n, hp1, hp2, rfl, rfl, hn, hdg⟩ := hrel
              have hn100 : n < 100 := Nat.lt_of_lt_of_le hn (Nat.le_trans (Nat.pow_le_pow_right (by omega) (show pos - (i + 1) ≤ 2 by omega)) (by decide))
              by_cases hlt : pos < s.size
              · have hlt' : (pos : Int) < s.size := by omega
                have hdrop : s.data.toList.drop pos = s[pos] :: s.data.toList.drop (pos + 1) := by
                  rw [List.drop_eq_getElem_cons (by have := HSL.out; omega)]; rfl
                rw [hdrop, digs] at hdg
                clear hdrop hD
                have hcu := s[pos].toNat_lt
                by_cases hbad : s[pos].toNat < 48 ∨ 57 < s[pos].toNat
                · rw [if_pos hbad] at hdg
                  subst hdg
                  have hR := HR.out
                  dsimp only at hR
                  subst hR
                  have HS4 := HSu
                  obtain ⟨c0, c1, hf0, hf1⟩ := box_cells' (HS4.out.block hbk)
                  by_cases h48 : s[pos].toNat < 48
                  · have h48' : (s[pos].toNat : Int) < 48 := by omega
                    go_wp2_with fail
                    obtain ⟨d0, d1⟩ := box1_set 0 0 0 0 w.heap.size u c0 c1 _ (Same.refl _)
                    have HM2 := Lib.hid (((H0.out.trans HS4.out).set (g := w.heap.size) (j := 0) (Nat.le_refl _) (.int .u32 0)).set (g := w.heap.size) (j := 1) (Nat.le_refl _) (.int .i64 0))
                    generalize (u.setCell ⟨w.heap.size, 0, none⟩ (.int .u32 0)).setCell ⟨w.heap.size, 1, none⟩ (.int .i64 0) = V at *
                    refine bodyPost_ret (v := ptV none) ?_ rfl ⟨rfl, HM2.out⟩
                    clear HM2 HS4
                    simp [results, Tryd.results9, go_sem, d0, d1, ptV]
                  · have h48' : decide ((s[pos].toNat : Int) < 48) = false := by rw [decide_eq_false_iff_not]; omega
                    have h57' : (57 : Int) < (s[pos].toNat : Int) := by omega
                    go_wp2_with fail
                    obtain ⟨d0, d1⟩ := box1_set 0 0 0 0 w.heap.size u c0 c1 _ (Same.refl _)
                    have HM2 := Lib.hid (((H0.out.trans HS4.out).set (g := w.heap.size) (j := 0) (Nat.le_refl _) (.int .u32 0)).set (g := w.heap.size) (j := 1) (Nat.le_refl _) (.int .i64 0))
                    generalize (u.setCell ⟨w.heap.size, 0, none⟩ (.int .u32 0)).setCell ⟨w.heap.size, 1, none⟩ (.int .i64 0) = V at *
                    refine bodyPost_ret (v := ptV none) ?_ rfl ⟨rfl, HM2.out⟩
                    clear HM2 HS4
                    simp [results, Tryd.results9, go_sem, d0, d1, ptV]
                · rw [if_neg hbad] at hdg
                  have h57' : decide ((57 : Int) < (s[pos].toNat : Int)) = false := by rw [decide_eq_false_iff_not]; omega
                  have h48' : decide ((s[pos].toNat : Int) < 48) = false := by rw [decide_eq_false_iff_not]; omega
                  obtain ⟨x, hx⟩ : ∃ x, s[pos].toNat = 48 + x := ⟨s[pos].toNat - 48, by omega⟩
                  have hx9 : x ≤ 9 := by omega
                  rw [show s[pos].toNat - 48 = x from by omega] at hdg
                  have hsub : IntKind.u8.wrap ((s[pos].toNat : Int) - 48) = x := by rw [IntKind.wrap_u8]; omega
                  have hsub2 : ((s[pos].toNat : Int) - 48) % 256 = x := by omega
                  have hx0 : (s[pos].toNat : Int) - 48 = x := by omega
                  have hn2 : 10 * n + x < 10 ^ (pos + 1 - (i + 1)) := by rw [show pos + 1 - (i + 1) = pos - (i + 1) + 1 from by omega, Nat.pow_succ]; omega
                  have hn1000 : (n : Int) ≤ 1000 := by omega
                  have hx9i : (x : Int) ≤ 9 := by omega
                  have hPD := Lib.hid hn2
                  clear hn hn2 hbad
                  go_wp2_with fail
                  exact ⟨⟨pos + 1, 10 * n + x, by omega, by omega, by go_num, by go_num, hPD.out, hdg⟩, by simp [intOf]; omega⟩
              · have hge : (s.size : Int) ≤ pos := by omega
                rw [List.drop_of_length_le (by have := HSL.out; omega), digs] at hdg
                subst hdg
                have hR := HR.out
                dsimp only at hR
                have HS4 : Hid (Same V0 (u.alloc (pfxO av n))) := HSu.out.trans (Same.alloc _ _)
                obtain ⟨c0, c1, hf0, hf1⟩ := box_cells' (HS4.out.block hbk)
                rcases HFA.out with ⟨rfl, hfn⟩ | ⟨rfl, hfs, hav⟩
                · rw [hfn] at hR
                  dsimp only at hR
                  subst hR
                  clear HFA hfn
                  go_wp2_with fail
                  obtain ⟨d0, d1⟩ := box1_set 0 0 0 0 w.heap.size (u.alloc (pfxO av n)) c0 c1 _ (Same.refl _)
                  have HM2 := Lib.hid (((H0.out.trans HS4.out).set (g := w.heap.size) (j := 0) (Nat.le_refl _) (.int .u32 0)).set (g := w.heap.size) (j := 1) (Nat.le_refl _) (.int .i64 0))
                  generalize ((u.alloc (pfxO av n)).setCell ⟨w.heap.size, 0, none⟩ (.int .u32 0)).setCell ⟨w.heap.size, 1, none⟩ (.int .i64 0) = V at *
                  refine bodyPost_ret (v := ptV none) ?_ rfl ⟨rfl, HM2.out⟩
                  clear HM2 HS4
                  simp [results, Tryd.results9, go_sem, d0, d1, ptV]
                · rw [hfs] at hR
                  dsimp only at hR
                  clear HFA hfs
                  have HGd := fun w' => Lib.hid (rGood_any av n w')
                  rw [good_eq av n (by omega) (by omega)] at HGd
                  change ∀ w', Hid (Calls _ _ _ _ fun e w'' => e = .returned (.bool (goodB av n)) ∧ _) at HGd
                  cases hg : goodB av n
                  · rw [hg] at HGd hR
                    rw [if_neg (by simp)] at hR
                    subst hR
                    clear hg HS4 c0 c1 hf0 hf1
                    go_wp2_with fail
                    refine (HGd _).out.mono ?_
                    rintro e u4 ⟨rfl, h4⟩
                    have HS4 : Hid (Same V0 u4) := (HSu.out.trans (Same.alloc u (pfxO av n))).trans h4
                    obtain ⟨c0, c1, hf0, hf1⟩ := box_cells' (HS4.out.block hbk)
                    go_wp2_with fail
                    obtain ⟨d0, d1⟩ := box1_set 0 0 0 0 w.heap.size u4 c0 c1 _ (Same.refl _)
                    have HM2 := Lib.hid (((H0.out.trans HS4.out).set (g := w.heap.size) (j := 0) (Nat.le_refl _) (.int .u32 0)).set (g := w.heap.size) (j := 1) (Nat.le_refl _) (.int .i64 0))
                    generalize (u4.setCell ⟨w.heap.size, 0, none⟩ (.int .u32 0)).setCell ⟨w.heap.size, 1, none⟩ (.int .i64 0) = V at *
                    refine bodyPost_ret (v := ptV none) ?_ rfl ⟨rfl, HM2.out⟩
                    clear HM2 HS4
                    simp [results, Tryd.results9, go_sem, d0, d1, ptV]
                  · rw [hg] at HGd hR
                    have hcn : canA av n = av := by
                      unfold goodB at hg
                      simp only [Bool.and_eq_true, decide_eq_true_eq] at hg
                      exact hg.1.symm
                    have HTx := fun w' => Lib.hid (rText_any av n (by rw [hcn]; omega) w')
                    clear hg HS4 c0 c1 hf0 hf1 hcn
                    have hpb := heap_alloc_new u (pfxO av n)
                    by_cases htx : textL av n = s.data.toList
                    · rw [if_pos ⟨rfl, htx⟩] at hR
                      subst hR
                      have hss : (⟨s.data.toList.toArray⟩ : ByteArray) = s := by cases s; rfl
                      rw [htx, hss] at HTx
                      clear htx hss
                      go_wp2_with fail
                      refine (HGd _).out.mono ?_
                      rintro e u4 ⟨rfl, h4⟩
                      obtain ⟨p0, p1, -, -⟩ := box_cells' (h4.block hpb)
                      go_wp2_with fail
                      refine (HTx _).out.mono ?_
                      rintro e u5 ⟨rfl, h5⟩
                      obtain ⟨r0, r1, -, -⟩ := box_cells' ((h4.trans h5).block hpb)
                      have HS4 : Hid (Same V0 u5) := ((HSu.out.trans (Same.alloc u (pfxO av n))).trans h4).trans h5
                      obtain ⟨c0, c1, hf0, hf1⟩ := box_cells' (HS4.out.block hbk)
                      clear p0 p1
                      go_wp2_with fail
                      obtain ⟨d0, d1⟩ := box1_set 0 0 av n w.heap.size u5 c0 c1 _ (Same.refl _)
                      have HM2 := Lib.hid (((H0.out.trans HS4.out).set (g := w.heap.size) (j := 0) (Nat.le_refl _) (.int .u32 av)).set (g := w.heap.size) (j := 1) (Nat.le_refl _) (.int .i64 n))
                      generalize (u5.setCell ⟨w.heap.size, 0, none⟩ (.int .u32 av)).setCell ⟨w.heap.size, 1, none⟩ (.int .i64 n) = V at *
                      refine bodyPost_ret (v := ptV (some (av, n))) ?_ rfl ⟨rfl, HM2.out⟩
                      clear HM2 HS4
                      simp [results, Tryd.results9, go_sem, d0, d1, ptV]
                    · rw [if_neg (fun h => htx h.2)] at hR
                      subst hR
                      have hne : ((⟨(textL av n).toArray⟩ : ByteArray).toList == s.toList) = false := by
                        rw [ByteArray.toList_eq, ByteArray.toList_eq, beq_eq_false_iff_ne]
                        exact htx
                      clear htx
                      generalize (⟨(textL av n).toArray⟩ : ByteArray) = sb at *
                      go_wp2_with fail
                      refine (HGd _).out.mono ?_
                      rintro e u4 ⟨rfl, h4⟩
                      obtain ⟨p0, p1, -, -⟩ := box_cells' (h4.block hpb)
                      go_wp2_with fail
                      refine (HTx _).out.mono ?_
                      rintro e u5 ⟨rfl, h5⟩
                      have HS4 : Hid (Same V0 u5) := ((HSu.out.trans (Same.alloc u (pfxO av n))).trans h4).trans h5
                      obtain ⟨c0, c1, hf0, hf1⟩ := box_cells' (HS4.out.block hbk)
                      clear p0 p1
                      go_wp2_with fail
                      obtain ⟨d0, d1⟩ := box1_set 0 0 0 0 w.heap.size u5 c0 c1 _ (Same.refl _)
                      have HM2 := Lib.hid (((H0.out.trans HS4.out).set (g := w.heap.size) (j := 0) (Nat.le_refl _) (.int .u32 0)).set (g := w.heap.size) (j := 1) (Nat.le_refl _) (.int .i64 0))
                      generalize (u5.setCell ⟨w.heap.size, 0, none⟩ (.int .u32 0)).setCell ⟨w.heap.size, 1, none⟩ (.int .i64 0) = V at *
                      refine bodyPost_ret (v := ptV none) ?_ rfl ⟨rfl, HM2.out⟩
                      clear HM2 HS4
                      simp [results, Tryd.results9, go_sem, d0, d1, ptV]
end Go.Proofs.YtmlabaaelkghlaaDoor
