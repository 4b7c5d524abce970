/- The developers' layer 7: attributes joined; the fault of an attribute. No condition beyond what each names. -/
import Derived.Test.YtfhaaenmllkbnaaAtDR
namespace Go.Proofs.Ytfhaaenmllkbnaa
open Go.RowKit
set_option linter.unusedVariables false
set_option maxRecDepth 100000

set_option maxHeartbeats 1000000 in
theorem dJoin_any (l : List Rw) (v : Value) (w : World) (h : RawsW 59 w v l) (hl : l.length ≤ 1000000) :
    Calls Try.prog 17 #[v] w fun e w' => ∃ v', e = .returned v' ∧ OwnB w' w.heap.size v' (joinB l) ∧ Same w w' := by
  obtain ⟨xs, hxl, hxn, hxb, hP⟩ := h.one
  obtain ⟨n, hn⟩ : ∃ n, l.length = n := ⟨_, rfl⟩
  obtain ⟨a1, c1, rfl⟩ := h.form hn
  rw [hn] at hP hxn hl
  have HP := Lib.hid hP
  have HXN := Lib.hid hxn
  have HXB := Lib.hid hxb
  have HXL := Lib.hid hxl
  have HN := Lib.hid hn
  have i0 : (n : Int) ≤ 1000000 := by omega
  clear h hn hP hxn hxb hxl hl
  go_enter Try.func17, Try.ntmps17
  go_wp2_with fail
  go_loopw [3, 8] (fun ov i wr => ∃ k : Nat, k ≤ n ∧ i = .int .i64 k ∧ OwnB wr w.heap.size ov (joinB (l.take k)) ∧ Same w wr) (fun _ i _ => n - (intOf i).toNat)
  case atStart => exact ⟨0, by omega, rfl, OwnB.nil _ _, Same.refl w⟩
  case round =>
    obtain ⟨k, hk, rfl, hov, hsr⟩ := hrel
    have HSR := Lib.hid hsr
    have HOV := Lib.hid hov
    clear hsr hov
    by_cases h8 : k = n
    · subst h8
      go_wp2_with fail
      go_ret
      have ho := HOV.out
      rw [List.take_of_length_le (by have := HN.out; omega)] at ho
      exact ⟨_, rfl, ho, HSR.out⟩
    · have hk8 : (k : Int) < n := by omega
      have hkx : k < xs.length := by have := HXN.out; omega
      obtain ⟨b, o1, cap, e1, HC1⟩ := HP.out (by omega)
      cases e1
      obtain ⟨x, hx⟩ : ∃ x, xs[k]? = some x := ⟨_, List.getElem?_eq_getElem hkx⟩
      obtain ⟨x0, x1, x2⟩ := HC1 wr HSR.out k x hx
      have hbx := HXB.out x (List.mem_of_getElem? hx)
      have hlx : l[k]? = some x.1 := by rw [← HXL.out, List.getElem?_map, hx]; rfl
      obtain ⟨⟨fl, ty, vl⟩, ⟨so, sc⟩⟩ := x
      simp only at x0 x1 x2 hbx hlx
      have HOne := fun w1 (hs : Same w w1) => Lib.hid (dRawB_any ⟨fl, ty, vl⟩ (.slice so vl.length sc) w1 (hbx.same hs))
      have HTK : Hid (joinB (l.take (k + 1)) = joinB (l.take k) ++ oneB ⟨fl, ty, vl⟩) := by
        show _ = _
        rw [List.take_add_one, hlx]; simp [joinB]
      have HLn : Hid ((joinB (l.take k)).length + (oneB ⟨fl, ty, vl⟩).length ≤ 140737488355328) := by
        show _ ≤ _
        have h1 := joinB_length (l.take k)
        have h2 := oneB_length ⟨fl, ty, vl⟩
        have h3 : (l.take k).length ≤ k := by simp; omega
        have := Nat.mul_le_mul_right 65539 h3
        omega
      clear h8 hkx HP hx HC1 hbx hlx
      go_wp2_with fail
      refine (HOne _ (HSR.out.trans (Same.alloc _ _))).out.mono ?_
      rintro e w2 ⟨v2, rfl, ho2, hs2⟩
      have HS2 := Lib.hid (HSR.out.trans ((Same.alloc _ _).trans hs2))
      have HO2 := Lib.hid ho2.bs
      have HOV2 := Lib.hid (HOV.out.same ((Same.alloc _ _).trans hs2))
      clear ho2 hs2
      go_wp2_with (at_builtin; refine wpList_append_bs rfl _ _ rfl w HS2.out _ _ rfl HOV2.out _ (oneB ⟨fl, ty, vl⟩) rfl HO2.out HLn.out ?_; intro v3 w3 ho3 hs3)
      exact ⟨⟨k + 1, by omega, rfl, by rw [HTK.out]; exact ho3, hs3⟩, by simp [intOf]; omega⟩

set_option maxHeartbeats 1000000 in
theorem dFaultOf_any (sub : Int) (r : Rw) (vo : Value) (w : World) (hb : Bs w vo r.value) :
    Calls Try.prog 34 #[.int .i64 sub, rwV r vo] w fun e w' => ∃ vd, e = .returned (ftV (faultF sub (if sub = 11 then [] else oneB r)) vd) ∧ Bs w' vd (faultF sub (if sub = 11 then [] else oneB r)).data ∧ (∀ g, vd.ownBlock = some g → w.heap.size ≤ g) ∧ Same w w' := by
  obtain ⟨fl, ty, vl⟩ := r
  have HB := fun w' hs => Lib.hid (dRawB_any ⟨fl, ty, vl⟩ vo w' (hb.same hs))
  simp only at hb
  obtain ⟨so, sc, rfl⟩ := hb.form0 rfl
  clear hb
  generalize vl.length = n at *
  have HA := Lib.hid ((Same.alloc w (rwO 59 ⟨fl, ty, vl⟩ (.slice so n sc))).trans (Same.alloc _ (zeroFt 26)))
  have HZ : Hid (((w.alloc (rwO 59 ⟨fl, ty, vl⟩ (.slice so n sc))).alloc (zeroFt 26)).heap[w.heap.size + 1]? = some (zeroFt 26)) := by
    have := heap_alloc_new (w.alloc (rwO 59 ⟨fl, ty, vl⟩ (.slice so n sc))) (zeroFt 26)
    rw [show (w.alloc (rwO 59 ⟨fl, ty, vl⟩ (.slice so n sc))).heap.size = w.heap.size + 1 from by simp] at this
    exact this
  by_cases h11 : sub = 11
  · subst h11
    rw [if_pos rfl]
    clear HB
    go_enter Try.func34, Try.ntmps34
    go_wp2_with fail
    refine (dFault_any 11 none 0 0 _).mono ?_
    rintro e w1 ⟨rfl, hs1⟩
    have HS1 := Lib.hid (HA.out.trans hs1)
    have HZ1 := Lib.hid (hs1.block HZ.out)
    clear hs1
    obtain ⟨g0, g1, g2⟩ := FtAt.of (f := noFt) (vd := .slice none 0 0) HZ1.out
    have hfz : ∀ j, w1.frozen? ⟨w.heap.size + 1, j, none⟩ = false := fun j => by simp only [World.frozen?, HZ1.out]; simp
    go_wp2_with fail
    have HE := cells_end [.int .i64 3, .int .i64 11, .slice none 0 0] [.int .i64 0, .int .i64 0, .slice none 0 0] (by omega) HS1.out HZ1.out rfl
    dsimp only [setsC, Nat.reduceAdd] at HE
    generalize World.setCell _ ⟨w.heap.size + 1, 2, none⟩ _ = U at HE ⊢
    obtain ⟨x0, x1, x2⟩ := FtAt.of (f := ⟨3, 11, []⟩) (vd := .slice none 0 0) HE.1
    refine bodyPost_ret (v := ftV (faultF 11 []) (.slice none 0 0)) ?_ rfl ⟨_, rfl, Bs.nil _, fun g hg => by simp [Value.ownBlock] at hg, HE.2.1⟩
    simp [results, Try.results34, go_sem, x0, x1, x2, faultF]
  · rw [if_neg h11]
    generalize oneB ⟨fl, ty, vl⟩ = D at *
    have HF := fun ao n c w => Lib.hid (dFault_any sub ao n c w)
    go_enter Try.func34, Try.ntmps34
    go_wp2_with fail
    refine (HB _ HA.out).out.mono ?_
    rintro e w1 ⟨v1, rfl, ho1, hs1⟩
    obtain ⟨ao, cap, rfl⟩ := ho1.bs.form0 rfl
    have HS1 := Lib.hid (HA.out.trans hs1)
    have HZ1 := Lib.hid (hs1.block HZ.out)
    have HO1 := Lib.hid ho1.bs
    have HNe : Hid (∀ g, (Value.slice ao D.length cap).ownBlock = some g → g ≠ w.heap.size + 1 ∧ w.heap.size ≤ g) := fun g hg => by have := (ho1.lt g hg).1; simp at this; omega
    clear hs1 ho1
    generalize D.length = m at *
    go_wp2_with fail
    refine (HF _ _ _ _).out.mono ?_
    rintro e w2 ⟨rfl, hs2⟩
    have HS2 := Lib.hid (HS1.out.trans hs2)
    have HZ2 := Lib.hid (hs2.block HZ1.out)
    have HO2 := Lib.hid (HO1.out.same hs2)
    clear hs2
    obtain ⟨g0, g1, g2⟩ := FtAt.of (f := noFt) (vd := .slice none 0 0) HZ2.out
    have hfz : ∀ j, w2.frozen? ⟨w.heap.size + 1, j, none⟩ = false := fun j => by simp only [World.frozen?, HZ2.out]; simp
    go_wp2_with fail
    have HE := cells_end [.int .i64 3, .int .i64 sub, .slice ao m cap] [.int .i64 0, .int .i64 0, .slice none 0 0] (by omega) HS2.out HZ2.out rfl
    dsimp only [setsC, Nat.reduceAdd] at HE
    generalize World.setCell _ ⟨w.heap.size + 1, 2, none⟩ _ = U at HE ⊢
    obtain ⟨x0, x1, x2⟩ := FtAt.of (f := ⟨3, sub, D⟩) (vd := .slice ao m cap) HE.1
    refine bodyPost_ret (v := ftV (faultF sub D) (.slice ao m cap)) ?_ rfl ⟨_, rfl, HO2.out.mod HE.2.2 (fun he => (HNe.out _ he).1 rfl), fun g hg => (HNe.out g hg).2, HE.2.1⟩
    simp [results, Try.results34, go_sem, x0, x1, x2, faultF]
end Go.Proofs.Ytfhaaenmllkbnaa
