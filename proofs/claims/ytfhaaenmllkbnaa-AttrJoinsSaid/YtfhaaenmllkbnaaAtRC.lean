/- Contracts for layer 7: the law's plain and light, the document's Join. No condition beyond what each names. -/
import Derived.Test.YtfhaaenmllkbnaaAtRA
import Derived.Test.YtfhaaenmllkbnaaReg
namespace Go.Proofs.Ytfhaaenmllkbnaa
open Go.RowKit
set_option linter.unusedVariables false

theorem rawInfo : (Try.prog.info? (rawLay 66).e).map (fun i => (i.zero, i.size, i.bytes)) = some (some (.agg #[.int .i64 0, .int .i64 0, .slice none 0 0]), (rawLay 66).k, 40) := by kernel_rfl

/-- a row's attributes one by one, with where they lie -/
theorem RawsW.one {e : TypeId} {w : World} {v : Value} {l : List Rw} (h : RawsW e w v l) : ∃ xs : List (Rw × Sl), xs.map (·.1) = l ∧ xs.length = l.length ∧ (∀ x, x ∈ xs → Bs w (svV x.1 x.2) x.1.value) ∧
    (0 < l.length → ∃ b o cap, v = .slice (some ⟨b, o, none⟩) l.length cap ∧ ∀ w', Same w w' → ∀ j x, xs[j]? = some x → w'.cell? ⟨b, o + j * 3, none⟩ = some (.int .i64 x.1.flags) ∧ w'.cell? ⟨b, o + j * 3 + 1, none⟩ = some (.int .i64 x.1.type) ∧ w'.cell? ⟨b, o + j * 3 + 2, none⟩ = some (svV x.1 x.2)) := by
  obtain ⟨xs, rfl, h2, h3⟩ := h
  refine ⟨xs, rfl, by rw [List.length_map], h3, fun hl => ?_⟩
  rw [List.length_map] at hl ⊢
  obtain ⟨b, o, cap, rfl, h4, h5, h6⟩ := h2.at hl
  refine ⟨b, o, cap, rfl, fun w' hs j x hx => ?_⟩
  have hc := h6 w' hs j x hx
  exact ⟨hc 0 _ rfl, hc 1 _ rfl, hc 2 _ rfl⟩
theorem RawsW.cap {e : TypeId} {w : World} {v : Value} {l : List Rw} (h : RawsW e w v l) : (l.length : Int) ≤ 9223372036854775807 := by
  obtain ⟨xs, rfl, ⟨_, cap, _, h1, h2, _⟩, _⟩ := h
  rw [List.length_map]
  omega

theorem oneB_length (r : Rw) : (oneB r).length ≤ 65539 := by
  unfold oneB
  split <;> (simp; omega)
theorem joinB_length (l : List Rw) : (joinB l).length ≤ l.length * 65539 := by
  induction l with
  | nil => simp [joinB]
  | cons r l ih =>
    have h1 := oneB_length r
    have h2 : joinB (r :: l) = oneB r ++ joinB l := by simp [joinB]
    rw [h2, List.length_append, List.length_cons]
    omega
theorem raws_one (e : TypeId) (w : World) (o : Obj) (fl ty : Int) (vl : List UInt8) (so : Option Addr) (sc : Nat) :
    Rs (rawLay e) ((w.alloc o).alloc (.cells #[.int .i64 fl, .int .i64 ty, .slice so vl.length sc] e)) (.slice (some ⟨w.heap.size + 1, 0, none⟩) 1 1) [(⟨fl, ty, vl⟩, ⟨so, sc⟩)] := by
  have := Rs.one (rawLay e) (w.alloc o) (⟨fl, ty, vl⟩, ⟨so, sc⟩) #[.int .i64 fl, .int .i64 ty, .slice so vl.length sc] rfl
  rw [show (w.alloc o).heap.size = w.heap.size + 1 from by simp] at this
  exact this

set_option maxRecDepth 100000 in
set_option maxHeartbeats 1000000 in
theorem plain7_any (l : List Rw) (v : Value) (w : World) (h : RawsW 59 w v l) (hl : l.length ≤ 1000000) :
    Calls Try.prog 13 #[v] w fun e w' => ∃ v', e = .returned v' ∧ RawsW 66 w' v' l ∧ Same w w' := by
  obtain ⟨xs, hxl, hxn, hxb, hP⟩ := h.one
  obtain ⟨n, hn⟩ : ∃ n, l.length = n := ⟨_, rfl⟩
  obtain ⟨a1, c1, rfl⟩ := h.form hn
  rw [hn] at hP hxn hl
  have HP := Lib.hid hP
  have HXN := Lib.hid hxn
  have HXB := Lib.hid hxb
  have HXL := Lib.hid hxl
  have i0 : (n : Int) ≤ 1000000 := by omega
  clear h hn hP hxn hxb hxl hl
  go_enter Try.func13, Try.ntmps13
  go_wp2_with fail
  go_loopw [3, 8] (fun ov i wr => ∃ k : Nat, k ≤ n ∧ i = .int .i64 k ∧ OwnR (rawLay 66) wr w.heap.size ov (xs.take k) ∧ Same w wr) (fun _ i _ => n - (intOf i).toNat)
  case atStart => exact ⟨0, by omega, rfl, OwnR.nil _ _ _, Same.refl w⟩
  case round =>
    obtain ⟨k, hk, rfl, hov, hsr⟩ := hrel
    have HSR := Lib.hid hsr
    have HOV := Lib.hid hov
    clear hsr hov
    by_cases h8 : k = n
    · subst h8
      go_wp2_with fail
      go_ret
      have ho := HOV.out
      rw [List.take_of_length_le (by have := HXN.out; omega)] at ho
      exact ⟨_, rfl, ⟨xs, HXL.out, ho.rs, fun x hx => (HXB.out x hx).same HSR.out⟩, HSR.out⟩
    · have hk8 : (k : Int) < n := by omega
      have hkx : k < xs.length := by have := HXN.out; omega
      obtain ⟨b, o1, cap, e1, HC1⟩ := HP.out (by omega)
      cases e1
      obtain ⟨x, hx⟩ : ∃ x, xs[k]? = some x := ⟨_, List.getElem?_eq_getElem hkx⟩
      have HX := Lib.hid hx
      obtain ⟨x0, x1, x2⟩ := HC1 wr HSR.out k x hx
      obtain ⟨⟨fl, ty, vl⟩, ⟨so, sc⟩⟩ := x
      simp only at x0 x1 x2
      have HTK : Hid (xs.take (k + 1) = xs.take k ++ [(⟨fl, ty, vl⟩, ⟨so, sc⟩)]) := by
        show _ = _
        rw [List.take_add_one, hx]; rfl
      have HLn : Hid ((xs.take k).length + [((⟨fl, ty, vl⟩, ⟨so, sc⟩) : Rw × Sl)].length ≤ 1099511627776) := by show _ ≤ _; simp; omega
      clear h8 hkx HP hx HC1
      go_wp2_with (at_builtin; refine wpList_append_r (rawLay 66) Try.underlying29 rawInfo rfl (by decide) (by decide) rfl _ _ rfl w (HSR.out.trans ((Same.alloc _ _).trans (Same.alloc _ _))) _ (xs.take k) rfl (HOV.out.same ((Same.alloc _ _).trans (Same.alloc _ _))) _ [(⟨fl, ty, vl⟩, ⟨so, sc⟩)] rfl (raws_one _ _ _ fl ty vl so sc) HLn.out ?_; intro v2 w2 ho2 hs2 hg2)
      exact ⟨⟨k + 1, by omega, rfl, by rw [HTK.out]; exact ho2, hs2⟩, by simp [intOf]; omega⟩

set_option maxRecDepth 100000 in
set_option maxHeartbeats 1000000 in
theorem light7_any (l : List Rw) (v : Value) (w : World) (h : RawsW 59 w v l) :
    Calls Try.prog 16 #[v] w fun e w' => (e = .returned (.bool false) ∨ (e = .returned (.bool true) ∧ l.length ≤ 30)) ∧ Same w w' := by
  obtain ⟨xs, hxl, hxn, hxb, hP⟩ := h.one
  have i0 := h.cap
  obtain ⟨n, hn⟩ : ∃ n, l.length = n := ⟨_, rfl⟩
  obtain ⟨a1, c1, rfl⟩ := h.form hn
  rw [hn] at hP hxn i0 ⊢
  have HP := Lib.hid hP
  have HXN := Lib.hid hxn
  clear h hn hP hxn hxb hxl
  by_cases h30 : (n : Int) ≤ 30
  · go_enter Try.func16, Try.ntmps16
    go_wp2_with fail
    go_loopw [3, 11] (fun sv i wr => ∃ (k : Nat) (x : Int), k ≤ n ∧ i = .int .i64 k ∧ sv = .int .i64 x ∧ (-9223372036854775808 ≤ x ∧ x ≤ 9223372036854775807) ∧ Same w wr) (fun _ i _ => n - (intOf i).toNat)
    case atStart => exact ⟨0, 0, by omega, rfl, rfl, by omega, Same.refl w⟩
    case round =>
      obtain ⟨k, x, hk, rfl, rfl, hx, hsr⟩ := hrel
      have HSR := Lib.hid hsr
      clear hsr
      by_cases h8 : k = n
      · subst h8
        go_wp2_with fail
        go_ret
        exact ⟨.inr ⟨rfl, by omega⟩, HSR.out⟩
      · have hk8 : (k : Int) < n := by omega
        have hkx : k < xs.length := by have := HXN.out; omega
        obtain ⟨b, o1, cap, e1, HC1⟩ := HP.out (by omega)
        cases e1
        obtain ⟨y, hy⟩ : ∃ y, xs[k]? = some y := ⟨_, List.getElem?_eq_getElem hkx⟩
        obtain ⟨x0, x1, x2⟩ := HC1 wr HSR.out k y hy
        obtain ⟨⟨fl, ty, vl⟩, ⟨so, sc⟩⟩ := y
        simp only at x0 x1 x2
        clear h8 hkx HP hy HC1
        go_wp2_with fail
        · go_ret
          exact ⟨.inl rfl, HSR.out.trans (Same.alloc _ _)⟩
        · exact ⟨⟨k + 1, _, by omega, rfl, rfl, by unfold wrap64; omega, HSR.out.trans (Same.alloc _ _)⟩, by simp [intOf]; omega⟩
  · go_enter Try.func16, Try.ntmps16
    go_wp2_with fail
    go_ret
    exact ⟨.inl rfl, Same.refl w⟩

set_option maxRecDepth 100000 in
set_option maxHeartbeats 1000000 in
theorem rJoin_any (l : List Rw) (v : Value) (w : World) (h : RawsW 66 w v l) (hl : l.length ≤ 1000000) :
    Calls Try.prog 18 #[v] w fun e w' => ∃ v', e = .returned v' ∧ OwnB w' w.heap.size v' (joinB l) ∧ Same w w' := by
  obtain ⟨xs, hxl, hxn, hxb, hP⟩ := h.one
  obtain ⟨n, hn⟩ : ∃ n, l.length = n := ⟨_, rfl⟩
  obtain ⟨a1, c1, rfl⟩ := h.form hn
  rw [hn] at hP hxn hl
  have HP := Lib.hid hP
  have HXN := Lib.hid hxn
  have HXB := Lib.hid hxb
  have HXL := Lib.hid hxl
  have HN := Lib.hid hn
  have i0 : (n : Int) ≤ 1000000 := by omega
  clear h hn hP hxn hxb hxl hl
  go_enter Try.func18, Try.ntmps18
  go_wp2_with fail
  go_loopw [3, 8] (fun ov i wr => ∃ k : Nat, k ≤ n ∧ i = .int .i64 k ∧ OwnB wr w.heap.size ov (joinB (l.take k)) ∧ Same w wr) (fun _ i _ => n - (intOf i).toNat)
  case atStart => exact ⟨0, by omega, rfl, OwnB.nil _ _, Same.refl w⟩
  case round =>
    obtain ⟨k, hk, rfl, hov, hsr⟩ := hrel
    have HSR := Lib.hid hsr
    have HOV := Lib.hid hov
    clear hsr hov
    by_cases h8 : k = n
    · subst h8
      go_wp2_with fail
      go_ret
      have ho := HOV.out
      rw [List.take_of_length_le (by have := HN.out; omega)] at ho
      exact ⟨_, rfl, ho, HSR.out⟩
    · have hk8 : (k : Int) < n := by omega
      have hkx : k < xs.length := by have := HXN.out; omega
      obtain ⟨b, o1, cap, e1, HC1⟩ := HP.out (by omega)
      cases e1
      obtain ⟨x, hx⟩ : ∃ x, xs[k]? = some x := ⟨_, List.getElem?_eq_getElem hkx⟩
      obtain ⟨x0, x1, x2⟩ := HC1 wr HSR.out k x hx
      have hbx := HXB.out x (List.mem_of_getElem? hx)
      have hlx : l[k]? = some x.1 := by rw [← HXL.out, List.getElem?_map, hx]; rfl
      obtain ⟨⟨fl, ty, vl⟩, ⟨so, sc⟩⟩ := x
      simp only at x0 x1 x2 hbx hlx
      have HOne := fun w1 (hs : Same w w1) => Lib.hid (rOne7_any ⟨fl, ty, vl⟩ (.slice so vl.length sc) w1 (hbx.same hs))
      have HTK : Hid (joinB (l.take (k + 1)) = joinB (l.take k) ++ oneB ⟨fl, ty, vl⟩) := by
        show _ = _
        rw [List.take_add_one, hlx]; simp [joinB]
      have HLn : Hid ((joinB (l.take k)).length + (oneB ⟨fl, ty, vl⟩).length ≤ 140737488355328) := by
        show _ ≤ _
        have h1 := joinB_length (l.take k)
        have h2 := oneB_length ⟨fl, ty, vl⟩
        have h3 : (l.take k).length ≤ k := by simp; omega
        have := Nat.mul_le_mul_right 65539 h3
        omega
      clear h8 hkx HP hx HC1 hbx hlx
      go_wp2_with fail
      refine (HOne _ (HSR.out.trans (Same.alloc _ _))).out.mono ?_
      rintro e w2 ⟨v2, rfl, ho2, hs2⟩
      have HS2 := Lib.hid (HSR.out.trans ((Same.alloc _ _).trans hs2))
      have HO2 := Lib.hid ho2.bs
      have HOV2 := Lib.hid (HOV.out.same ((Same.alloc _ _).trans hs2))
      clear ho2 hs2
      go_wp2_with (at_builtin; refine wpList_append_bs rfl _ _ rfl w HS2.out _ _ rfl HOV2.out _ (oneB ⟨fl, ty, vl⟩) rfl HO2.out HLn.out ?_; intro v3 w3 ho3 hs3)
      exact ⟨⟨k + 1, by omega, rfl, by rw [HTK.out]; exact ho3, hs3⟩, by simp [intOf]; omega⟩
end Go.Proofs.Ytfhaaenmllkbnaa
