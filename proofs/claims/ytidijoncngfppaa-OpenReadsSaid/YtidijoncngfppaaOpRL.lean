/- Contracts for layer 8: the law's plain and light. No condition beyond what each names. -/
import Derived.Test.YtidijoncngfppaaOpRA
namespace Go.Proofs.Ytidijoncngfppaa
open Go.RowKit
set_option linter.unusedVariables false
set_option maxRecDepth 100000

set_option maxHeartbeats 1000000 in
theorem light8_any (o : Oq) (vc : Value) (w : World) (h : CapsW 30 w vc o.caps) :
    Calls Try.prog 6 #[oqV o vc] w fun e w' => (e = .returned (.bool false) ∨ (e = .returned (.bool true) ∧ o.caps.length ≤ 100)) ∧ Same w w' := by
  obtain ⟨oa, oh, oi, l⟩ := o
  simp only at h ⊢
  obtain ⟨xs, hxl, hxn, hxb, hP⟩ := h.one
  have i0 := h.cap
  obtain ⟨n, hn⟩ : ∃ n, l.length = n := ⟨_, rfl⟩
  obtain ⟨a1, c1, rfl⟩ := h.form hn
  rw [hn] at hP hxn i0 ⊢
  have HP := Lib.hid hP
  have HXN := Lib.hid hxn
  have HA := Lib.hid (Same.alloc w (oqO 25 ⟨oa, oh, oi, l⟩ (.slice a1 n c1)))
  obtain ⟨z0, z1, z2, z3⟩ := OqAt.of (heap_alloc_new w (oqO 25 ⟨oa, oh, oi, l⟩ (.slice a1 n c1)))
  clear h hn hP hxn hxb hxl
  by_cases h30 : (n : Int) ≤ 100
  · go_enter Try.func6, Try.ntmps6
    go_wp2_with fail
    generalize hW : w.alloc (.cells #[.int .i64 oa, .int .i64 oh, .int .u32 oi, .slice a1 n c1] 25) = W at *
    clear hW z0 z1 z2 z3
    go_loopw [3, 13] (fun sv i wr => ∃ (k : Nat) (x : Int), k ≤ n ∧ i = .int .i64 k ∧ sv = .int .i64 x ∧ (-9223372036854775808 ≤ x ∧ x ≤ 9223372036854775807) ∧ Same W wr) (fun _ i _ => n - (intOf i).toNat)
    case atStart => exact ⟨0, 0, by omega, rfl, rfl, by omega, Same.refl W⟩
    case round =>
      obtain ⟨k, x, hk, rfl, rfl, hx, hsr⟩ := hrel
      have HSR := Lib.hid hsr
      clear hsr
      by_cases h8 : k = n
      · subst h8
        go_wp2_with fail
        go_ret
        exact ⟨.inr ⟨rfl, by omega⟩, HA.out.trans HSR.out⟩
      · have hk8 : (k : Int) < n := by omega
        have hkx : k < xs.length := by have := HXN.out; omega
        obtain ⟨b, o1, cap, e1, HC1⟩ := HP.out (by omega)
        cases e1
        obtain ⟨y, hy⟩ : ∃ y, xs[k]? = some y := ⟨_, List.getElem?_eq_getElem hkx⟩
        obtain ⟨x0, x1⟩ := HC1 wr (HA.out.trans HSR.out) k y hy
        obtain ⟨⟨cd, vl⟩, ⟨so, sc⟩⟩ := y
        dsimp only [cvV] at x0 x1
        clear h8 hkx HP hy HC1
        go_wp2_with fail
        · go_ret
          exact ⟨.inl rfl, HA.out.trans (HSR.out.trans (Same.alloc _ _))⟩
        · exact ⟨⟨k + 1, _, by omega, rfl, rfl, by unfold wrap64; omega, HSR.out.trans (Same.alloc _ _)⟩, by simp [intOf]; omega⟩
  · go_enter Try.func6, Try.ntmps6
    go_wp2_with fail
    go_ret
    exact ⟨.inl rfl, HA.out⟩

theorem capInfoR : (Try.prog.info? (capLay 55).e).map (fun i => (i.zero, i.size, i.bytes)) = some (some (.agg #[.int .i64 0, .slice none 0 0]), (capLay 55).k, 32) := by kernel_rfl

set_option maxHeartbeats 2000000 in
theorem plain8_any (o : Oq) (vc : Value) (w : World) (h : CapsW 30 w vc o.caps) (hl : o.caps.length ≤ 1000000) :
    Calls Try.prog 10 #[oqV o vc] w fun e w' => ∃ v', e = .returned (oqV o v') ∧ CapsW 55 w' v' o.caps ∧ Same w w' := by
  obtain ⟨oa, oh, oi, l⟩ := o
  simp only at h hl
  obtain ⟨xs, hxl, hxn, hxb, hP⟩ := h.one
  obtain ⟨n, hn⟩ : ∃ n, l.length = n := ⟨_, rfl⟩
  obtain ⟨a1, c1, rfl⟩ := h.form hn
  rw [hn] at hP hxn hl
  have HP := Lib.hid hP
  have HXN := Lib.hid hxn
  have HXB := Lib.hid hxb
  have HXL := Lib.hid hxl
  have i0 : (n : Int) ≤ 1000000 := by omega
  clear h hn hP hxn hxb hxl hl
  go_enter Try.func10, Try.ntmps10
  go_wp2_with fail
  have HA := Lib.hid (((Same.alloc w (oqO 25 ⟨oa, oh, oi, l⟩ (.slice a1 n c1))).trans (Same.alloc _ (oqO 34 ⟨0, 0, 0, []⟩ (.slice none 0 0)))).trans (Same.alloc _ (oqO 34 ⟨oa, oh, oi, []⟩ (.slice none 0 0))))
  have HK2 : Hid ((((w.alloc (oqO 25 ⟨oa, oh, oi, l⟩ (.slice a1 n c1))).alloc (oqO 34 ⟨0, 0, 0, []⟩ (.slice none 0 0))).alloc (oqO 34 ⟨oa, oh, oi, []⟩ (.slice none 0 0))).heap[w.heap.size + 1]? = some (oqO 34 ⟨0, 0, 0, []⟩ (.slice none 0 0))) := by
    have := (Same.alloc ((w.alloc (oqO 25 ⟨oa, oh, oi, l⟩ (.slice a1 n c1))).alloc (oqO 34 ⟨0, 0, 0, []⟩ (.slice none 0 0))) (oqO 34 ⟨oa, oh, oi, []⟩ (.slice none 0 0))).block (heap_alloc_new (w.alloc (oqO 25 ⟨oa, oh, oi, l⟩ (.slice a1 n c1))) (oqO 34 ⟨0, 0, 0, []⟩ (.slice none 0 0)))
    rw [show (w.alloc (oqO 25 ⟨oa, oh, oi, l⟩ (.slice a1 n c1))).heap.size = w.heap.size + 1 from by simp] at this
    exact this
  have HK3 : Hid ((((w.alloc (oqO 25 ⟨oa, oh, oi, l⟩ (.slice a1 n c1))).alloc (oqO 34 ⟨0, 0, 0, []⟩ (.slice none 0 0))).alloc (oqO 34 ⟨oa, oh, oi, []⟩ (.slice none 0 0))).heap[w.heap.size + 1 + 1]? = some (oqO 34 ⟨oa, oh, oi, []⟩ (.slice none 0 0))) := by
    have := heap_alloc_new ((w.alloc (oqO 25 ⟨oa, oh, oi, l⟩ (.slice a1 n c1))).alloc (oqO 34 ⟨0, 0, 0, []⟩ (.slice none 0 0))) (oqO 34 ⟨oa, oh, oi, []⟩ (.slice none 0 0))
    rw [show ((w.alloc (oqO 25 ⟨oa, oh, oi, l⟩ (.slice a1 n c1))).alloc (oqO 34 ⟨0, 0, 0, []⟩ (.slice none 0 0))).heap.size = w.heap.size + 1 + 1 from by simp] at this
    exact this
  generalize (((w.alloc (oqO 25 ⟨oa, oh, oi, l⟩ (.slice a1 n c1))).alloc (oqO 34 ⟨0, 0, 0, []⟩ (.slice none 0 0))).alloc (oqO 34 ⟨oa, oh, oi, []⟩ (.slice none 0 0))) = W at *
  have HZ : Hid (w.heap.size + 1 + 1 < W.heap.size) := (Array.getElem?_eq_some_iff.1 HK3.out).1
  go_loopw [16] (fun i wr => ∃ (k : Nat) (lv : Value), k ≤ n ∧ i = .int .i64 k ∧ wr.heap[w.heap.size + 1 + 1]? = some (oqO 34 ⟨oa, oh, oi, []⟩ lv) ∧ OwnR (capLay 55) wr W.heap.size lv (xs.take k) ∧ Kept [w.heap.size + 1 + 1] W wr) (fun i _ => n - (intOf i).toNat)
  case atStart => exact ⟨0, .slice none 0 0, by omega, rfl, HK3.out, OwnR.nil _ _ _, Kept.refl _ _⟩
  case round =>
    obtain ⟨k, lv, hk, rfl, hk3, hov, hkp⟩ := hrel
    have HSw : Hid (Same w wr) := hkp.to_same HA.out (fun s hs => by simp at hs; omega)
    obtain ⟨la, lc, rfl⟩ := hov.rs.form (n := k) (by rw [List.length_take]; have := HXN.out; omega)
    have HK3r := Lib.hid hk3
    have HOV := Lib.hid hov
    have HKP := Lib.hid hkp
    obtain ⟨z0, z1, z2, z3⟩ := OqAt.of hk3
    clear hk3 hov hkp
    by_cases h8 : k = n
    · subst h8
      have HK2r := Lib.hid (HKP.out.at HK2.out (by simp))
      obtain ⟨y0, y1, y2, y3⟩ := OqAt.of HK2r.out
      have hz := nofr HK2r.out
      go_wp2_with fail
      have HE := cells_end [.int .i64 oa, .int .i64 oh, .int .u32 oi, .slice la k lc] [.int .i64 0, .int .i64 0, .int .u32 0, .slice none 0 0] (by omega) HSw.out HK2r.out rfl
      dsimp only [setsC, Nat.reduceAdd] at HE
      generalize World.setCell _ ⟨w.heap.size + 1, 3, none⟩ _ = U at HE ⊢
      obtain ⟨x0, x1, x2, x3⟩ := OqAt.of (o := ⟨oa, oh, oi, []⟩) HE.1
      have ho := HOV.out
      rw [List.take_of_length_le (by have := HXN.out; omega)] at ho
      refine bodyPost_ret (v := oqV ⟨oa, oh, oi, l⟩ (.slice la k lc)) ?_ rfl ⟨_, rfl, ⟨xs, HXL.out, (ho.mod HE.2.2 (fun he => by have := (ho.lt _ he).1; have := HZ.out; omega)).rs, fun x hx => (HXB.out x hx).same HE.2.1⟩, HE.2.1⟩
      simp [results, Try.results10, go_sem, x0, x1, x2, x3]
    · have hk8 : (k : Int) < n := by omega
      have hkx : k < xs.length := by have := HXN.out; omega
      obtain ⟨b, o1, cap, e1, HC1⟩ := HP.out (by omega)
      cases e1
      obtain ⟨x, hx⟩ : ∃ x, xs[k]? = some x := ⟨_, List.getElem?_eq_getElem hkx⟩
      obtain ⟨x0, x1⟩ := HC1 wr HSw.out k x hx
      have HTK : Hid (xs.take (k + 1) = xs.take k ++ [x]) := by show _ = _; rw [List.take_add_one, hx]; rfl
      obtain ⟨⟨cd, vl⟩, ⟨so, sc⟩⟩ := x
      dsimp only [cvV] at x0 x1
      have HLn : Hid ((xs.take k).length + [((⟨cd, vl⟩, ⟨so, sc⟩) : Cp × Sl)].length ≤ 1099511627776) := by show _ ≤ _; simp; omega
      have HAA := Lib.hid ((Same.alloc wr (cpO 30 ⟨cd, vl⟩ (.slice so vl.length sc))).trans (Same.alloc (wr.alloc (cpO 30 ⟨cd, vl⟩ (.slice so vl.length sc))) (cpO 55 ⟨cd, vl⟩ (.slice so vl.length sc))))
      have HX1 : Hid (Rs (capLay 55) ((wr.alloc (cpO 30 ⟨cd, vl⟩ (.slice so vl.length sc))).alloc (cpO 55 ⟨cd, vl⟩ (.slice so vl.length sc))) (.slice (some ⟨wr.heap.size + 1, 0, none⟩) 1 1) [((⟨cd, vl⟩, ⟨so, sc⟩) : Cp × Sl)]) := by
        have := Rs.one (capLay 55) (wr.alloc (cpO 30 ⟨cd, vl⟩ (.slice so vl.length sc))) ((⟨cd, vl⟩, ⟨so, sc⟩) : Cp × Sl) #[.int .i64 cd, .slice so vl.length sc] rfl
        rw [show (wr.alloc (cpO 30 ⟨cd, vl⟩ (.slice so vl.length sc))).heap.size = wr.heap.size + 1 from by simp] at this
        exact this
      have HKA := Lib.hid (HKP.out.same HAA.out)
      have HOA := Lib.hid (HOV.out.same HAA.out)
      have HKB := Lib.hid (HAA.out.block HK3r.out)
      have HSZ : Hid (W.heap.size ≤ ((wr.alloc (cpO 30 ⟨cd, vl⟩ (.slice so vl.length sc))).alloc (cpO 55 ⟨cd, vl⟩ (.slice so vl.length sc))).heap.size) := Nat.le_trans HKP.out.size HAA.out.size
      have HOl : Hid (∀ g, (Value.slice la k lc).ownBlock = some g → W.heap.size ≤ g) := fun g hg => (HOV.out.lt g hg).1
      obtain ⟨y0, y1, y2, y3⟩ := OqAt.of ((Same.alloc wr (cpO 30 ⟨cd, vl⟩ (.slice so vl.length sc))).block HK3r.out)
      clear h8 hkx HP hx HC1
      go_wp2_with (at_builtin; refine wpList_append_r2 (capLay 55) Try.underlying32 capInfoR rfl (by decide) (by decide) rfl _ _ rfl W.heap.size HSZ.out (.slice la k lc) (xs.take k) rfl HOA.out _ [((⟨cd, vl⟩, ⟨so, sc⟩) : Cp × Sl)] rfl HX1.out HLn.out ?_; intro v9 w9 ho9 hg9 hl9; have hB9 := (hg9.block (w.heap.size + 1 + 1) (Array.getElem?_eq_some_iff.1 HKB.out).1 (fun he => absurd (HOl.out _ he.symm) (by have := HZ.out; omega))).trans HKB.out; have HK9 := Lib.hid (HKA.out.grown hg9 (fun s hs => .inr (HOl.out s hs))); rw [← HTK.out] at ho9; have HO9 := Lib.hid ho9; have HB9 := Lib.hid hB9; obtain ⟨va, vc9, rfl⟩ := ho9.rs.form (n := k + 1) (by rw [List.length_take]; have := HXN.out; omega); obtain ⟨q0, q1, q2, q3⟩ := OqAt.of hB9; have hzB := nofr hB9)
      refine ⟨⟨k + 1, _, by omega, rfl, ?_, HO9.out.mod (Mod.setCell (w.heap.size + 1 + 1) 3 w9 _) (fun he => by have := (HO9.out.lt _ he).1; have := HZ.out; omega), HK9.out.set 3 _ (.inl (by simp))⟩, by simp [intOf]; omega⟩
      simp [World.setCell, Array.getElem?_modify, HB9.out]
end Go.Proofs.Ytidijoncngfppaa
