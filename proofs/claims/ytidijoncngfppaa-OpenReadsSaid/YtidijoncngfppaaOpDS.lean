/- The developers' layer 8: Same. No condition beyond what each names. -/
import Derived.Test.YtidijoncngfppaaOpC
import Derived.Test.YtidijoncngfppaaOpRS
namespace Go.Proofs.Ytidijoncngfppaa
open Go.RowKit
set_option linter.unusedVariables false
set_option maxRecDepth 100000

theorem ba_same (l m : List UInt8) : ((⟨l.toArray⟩ : ByteArray).toList == (⟨m.toArray⟩ : ByteArray).toList) = decide (l = m) := by
  rw [ba_list, ba_list]
  by_cases h : l = m
  · subst h
    simp
  · rw [decide_eq_false h]
    exact beq_false_of_ne h

theorem bEqual_any (v1 v2 : Value) (l1 l2 : List UInt8) (w : World) (h1 : Bs w v1 l1) (h2 : Bs w v2 l2) :
    Calls Try.prog 52 #[v1, v2] w fun e w' => e = .returned (.bool (decide (l1 = l2))) ∧ w = w' := by
  rw [← ba_same]
  have hr1 := run_str w v1 _ h1
  have hr2 := run_str w v2 _ h2
  generalize (⟨l1.toArray⟩ : ByteArray) = sa at *
  generalize (⟨l2.toArray⟩ : ByteArray) = sb at *
  obtain ⟨a1, c1, rfl⟩ := h1.form0 rfl
  obtain ⟨a2, c2, rfl⟩ := h2.form0 rfl
  clear h1 h2
  go_enter Try.func52, Try.ntmps52
  go_wp2_with fail
  go_ret
  exact ⟨rfl, rfl⟩

theorem oCapSame_any (cd ce : Int) (so to : Option Addr) (q sc r tc : Nat) (vl vm : List UInt8) (w : World) (h1 : Bs w (.slice so q sc) vl) (h2 : Bs w (.slice to r tc) vm) :
    Calls Try.prog 31 #[.agg #[.int .i64 cd, .slice so q sc], .agg #[.int .i64 ce, .slice to r tc]] w fun e w' => e = .returned (.bool (decide (cd = ce ∧ vl = vm))) ∧ Same w w' := by
  have HE := fun w' hs => Lib.hid (bEqual_any _ _ vl vm w' (h1.same hs) (h2.same hs))
  clear h1 h2
  by_cases h : cd = ce
  · subst h
    rw [show decide (cd = cd ∧ vl = vm) = decide (vl = vm) from by simp]
    generalize decide (vl = vm) = R at HE ⊢
    go_enter Try.func31, Try.ntmps31
    go_wp2_with fail
    refine (HE _ ((Same.alloc _ _).trans (Same.alloc _ _))).out.mono ?_
    rintro e w1 ⟨rfl, rfl⟩
    go_wp2_with fail
    go_ret
    exact ⟨rfl, (Same.alloc _ _).trans (Same.alloc _ _)⟩
  · have h' : (cd == ce) = false := by simpa using h
    rw [show decide (cd = ce ∧ vl = vm) = false from decide_eq_false fun hx => h hx.1]
    go_enter Try.func31, Try.ntmps31
    go_wp2_with fail
    go_ret
    exact ⟨rfl, (Same.alloc _ _).trans (Same.alloc _ _)⟩

/-- are two rows of capabilities alike? -/
def sameCs (l m : List Cp) : Prop := l.map (·.code) = m.map (·.code) ∧ l.map (·.value) = m.map (·.value)
instance (l m : List Cp) : Decidable (sameCs l m) := by unfold sameCs; infer_instance

set_option maxHeartbeats 2000000 in
theorem oEqF_any (l m : List Cp) (va vb : Value) (w : World) (ha : CapsW 30 w va l) (hb : CapsW 30 w vb m) :
    Calls Try.prog 30 #[va, vb, .func (.func 31) #[] #[]] w fun e w' => e = .returned (.bool (decide (sameCs l m))) ∧ Same w w' := by
  obtain ⟨xs, hxl, hxn, hxb, hP⟩ := ha.one
  obtain ⟨ys, hyl, hyn, hyb, hQ⟩ := hb.one
  have i0 := ha.cap
  have i1 := hb.cap
  obtain ⟨n, hn⟩ : ∃ n, l.length = n := ⟨_, rfl⟩
  obtain ⟨n', hn'⟩ : ∃ n, m.length = n := ⟨_, rfl⟩
  obtain ⟨a1, c1, rfl⟩ := ha.form hn
  obtain ⟨a2, c2, rfl⟩ := hb.form hn'
  rw [hn] at hP hxn i0
  rw [hn'] at hQ hyn i1
  have HP := Lib.hid hP
  have HQ := Lib.hid hQ
  have HXN := Lib.hid hxn
  have HYN := Lib.hid hyn
  have HXB := Lib.hid hxb
  have HYB := Lib.hid hyb
  have HXL := Lib.hid hxl
  have HYL := Lib.hid hyl
  have HN := Lib.hid hn
  have HN' := Lib.hid hn'
  obtain ⟨R, hR⟩ : ∃ R, decide (sameCs l m) = R := ⟨_, rfl⟩
  rw [hR]
  have HT : Hid (sameCs l m → true = R) := fun hb => by rw [← hR, decide_eq_true hb]
  have HF : Hid (¬ sameCs l m → false = R) := fun hb => by rw [← hR, decide_eq_false hb]
  clear ha hb hn hn' hP hQ hxn hyn hxb hyb hxl hyl hR
  by_cases g4 : n = n'
  case neg =>
    have g4' : ((n : Int) != n') = true := by simp; omega
    have hf := HF.out fun hx => g4 (by have := congrArg List.length hx.1; rw [List.length_map, List.length_map, HN.out, HN'.out] at this; exact this)
    subst hf
    go_enter Try.func30, Try.ntmps30
    go_wp2_with fail
    go_ret
    exact ⟨rfl, Same.refl _⟩
  subst g4
  go_enter Try.func30, Try.ntmps30
  go_wp2_with fail
  go_loopw [17] (fun i wr => ∃ k : Nat, k ≤ n ∧ i = .int .i64 k ∧ (l.take k).map (·.code) = (m.take k).map (·.code) ∧ (l.take k).map (·.value) = (m.take k).map (·.value) ∧ Same w wr) (fun i _ => n - (intOf i).toNat)
  case atStart => exact ⟨0, by omega, rfl, by simp, by simp, Same.refl w⟩
  case round =>
    obtain ⟨k, hk, rfl, hcs, hvs, hsr⟩ := hrel
    have HSR := Lib.hid hsr
    have HCS := Lib.hid hcs
    have HVS := Lib.hid hvs
    clear hsr hcs hvs
    by_cases h8 : k = n
    · subst h8
      have ht : true = R := HT.out (by
        have h1 := HCS.out
        have h2 := HVS.out
        rw [List.take_of_length_le (by have := HN.out; omega), List.take_of_length_le (by have := HN'.out; omega)] at h1 h2
        exact ⟨h1, h2⟩)
      subst ht
      go_wp2_with fail
      go_ret
      exact ⟨rfl, HSR.out⟩
    · have hk8 : (k : Int) < n := by omega
      have hkx : k < xs.length := by have := HXN.out; omega
      have hky : k < ys.length := by have := HYN.out; omega
      obtain ⟨b, o1, cap, e1, HC1⟩ := HP.out (by omega)
      cases e1
      obtain ⟨b', o2, cap', e2, HC2⟩ := HQ.out (by omega)
      cases e2
      obtain ⟨x, hx⟩ : ∃ x, xs[k]? = some x := ⟨_, List.getElem?_eq_getElem hkx⟩
      obtain ⟨y, hy⟩ : ∃ y, ys[k]? = some y := ⟨_, List.getElem?_eq_getElem hky⟩
      have HCX := Lib.hid (fun w' (hs : Same w w') => HC1 w' hs k x hx)
      have HCY := Lib.hid (fun w' (hs : Same w w') => HC2 w' hs k y hy)
      have hlx : l[k]? = some x.1 := by rw [← HXL.out, List.getElem?_map, hx]; rfl
      have hly : m[k]? = some y.1 := by rw [← HYL.out, List.getElem?_map, hy]; rfl
      have hbx := Lib.hid (HXB.out _ (List.mem_of_getElem? hx))
      have hby := Lib.hid (HYB.out _ (List.mem_of_getElem? hy))
      obtain ⟨⟨cd, vl⟩, ⟨so, sc⟩⟩ := x
      obtain ⟨⟨ce, vm⟩, ⟨to, tc⟩⟩ := y
      dsimp only [cvV] at HCX HCY hlx hly hbx hby
      have HTX : Hid (l.take (k + 1) = l.take k ++ [⟨cd, vl⟩]) := by show _ = _; rw [List.take_add_one, hlx]; rfl
      have HTY : Hid (m.take (k + 1) = m.take k ++ [⟨ce, vm⟩]) := by show _ = _; rw [List.take_add_one, hly]; rfl
      have HDF : Hid (¬ (cd = ce ∧ vl = vm) → ¬ sameCs l m) := fun hd hs => by
        obtain ⟨s1, s2⟩ := hs
        have t1 := congrArg (fun z => z[k]?) s1
        have t2 := congrArg (fun z => z[k]?) s2
        simp only [List.getElem?_map, hlx, hly, Option.map_some, Option.some.injEq] at t1 t2
        exact hd ⟨t1, t2⟩
      have HCC := fun w' hs => Lib.hid (oCapSame_any cd ce so to vl.length sc vm.length tc vl vm w' (hbx.out.same hs) (hby.out.same hs))
      generalize vl.length = q at HCX HCC
      generalize vm.length = r at HCY HCC
      clear h8 hkx hky HP HQ hx hy HC1 HC2 hlx hly
      obtain ⟨x0, x1⟩ := HCX.out wr HSR.out
      obtain ⟨y0, y1⟩ := HCY.out wr HSR.out
      have y0' := (HCY.out _ (HSR.out.trans (Same.alloc wr (cpO 30 ⟨cd, []⟩ (.slice so q sc))))).1
      have y1' := (HCY.out _ (HSR.out.trans (Same.alloc wr (cpO 30 ⟨cd, []⟩ (.slice so q sc))))).2
      go_wp2_with fail
      refine (HCC _ ((HSR.out.trans (Same.alloc _ _)).trans (Same.alloc _ _))).out.mono ?_
      rintro e w1 ⟨rfl, hs1⟩
      have HS1 := Lib.hid (((HSR.out.trans (Same.alloc _ _)).trans (Same.alloc _ _)).trans hs1)
      clear hs1 x0 x1 y0 y1 y0' y1'
      by_cases hd : cd = ce ∧ vl = vm
      · rw [decide_eq_true hd]
        obtain ⟨rfl, rfl⟩ := hd
        go_wp2_with fail
        exact ⟨⟨k + 1, by omega, rfl, by rw [HTX.out, HTY.out, List.map_append, List.map_append, HCS.out], by rw [HTX.out, HTY.out, List.map_append, List.map_append, HVS.out], HS1.out⟩, by simp [intOf]; omega⟩
      · rw [decide_eq_false hd]
        have hf := HF.out (HDF.out hd)
        subst hf
        go_wp2_with fail
        go_ret
        exact ⟨rfl, HS1.out⟩

set_option maxHeartbeats 2000000 in
theorem oSame_any (a b : Oq) (va vb : Value) (w : World) (ha : CapsW 30 w va a.caps) (hb : CapsW 30 w vb b.caps) :
    Calls Try.prog 13 #[oqV a va, oqV b vb] w fun e w' => e = .returned (.bool (decide (sameO a b))) ∧ Same w w' := by
  have HE := fun w' hs => Lib.hid (oEqF_any a.caps b.caps va vb w' (ha.same hs) (hb.same hs))
  obtain ⟨oa, oh, oi, l⟩ := a
  obtain ⟨pa, ph, pi, m⟩ := b
  simp only at ha hb HE
  obtain ⟨n, hn⟩ : ∃ n, l.length = n := ⟨_, rfl⟩
  obtain ⟨n', hn'⟩ : ∃ n, m.length = n := ⟨_, rfl⟩
  obtain ⟨a1, c1, rfl⟩ := ha.form hn
  obtain ⟨a2, c2, rfl⟩ := hb.form hn'
  obtain ⟨R, hR⟩ : ∃ R, decide (sameO ⟨oa, oh, oi, l⟩ ⟨pa, ph, pi, m⟩) = R := ⟨_, rfl⟩
  rw [hR]
  have HF : Hid (¬ sameO ⟨oa, oh, oi, l⟩ ⟨pa, ph, pi, m⟩ → false = R) := fun hb => by rw [← hR, decide_eq_false hb]
  have HD : Hid (oa = pa → oh = ph → oi = pi → decide (sameCs l m) = R) := fun h1 h2 h3 => by rw [← hR, decide_eq_decide]; exact ⟨fun h => ⟨h1, h2, h3, h.1, h.2⟩, fun h => ⟨h.2.2.2.1, h.2.2.2.2⟩⟩
  clear ha hb hn hn' hR
  generalize decide (sameCs l m) = B at HE HD
  have hA := (Same.alloc w (oqO 25 ⟨oa, oh, oi, l⟩ (.slice a1 n c1))).trans (Same.alloc _ (oqO 25 ⟨pa, ph, pi, m⟩ (.slice a2 n' c2)))
  have HA := Lib.hid hA
  obtain ⟨z0, z1, z2, z3⟩ := OqAt.of ((Same.alloc (w.alloc (oqO 25 ⟨oa, oh, oi, l⟩ (.slice a1 n c1))) (oqO 25 ⟨pa, ph, pi, m⟩ (.slice a2 n' c2))).block (heap_alloc_new w (oqO 25 ⟨oa, oh, oi, l⟩ (.slice a1 n c1))))
  have hy := OqAt.of (heap_alloc_new (w.alloc (oqO 25 ⟨oa, oh, oi, l⟩ (.slice a1 n c1))) (oqO 25 ⟨pa, ph, pi, m⟩ (.slice a2 n' c2)))
  rw [show (w.alloc (oqO 25 ⟨oa, oh, oi, l⟩ (.slice a1 n c1))).heap.size = w.heap.size + 1 from by simp] at hy
  obtain ⟨y0, y1, y2, y3⟩ := hy
  clear hA
  by_cases g1 : oa = pa
  case neg =>
    have g1' : (oa == pa) = false := by simpa using g1
    have hf := HF.out fun hx => g1 hx.1
    subst hf
    go_enter Try.func13, Try.ntmps13
    go_wp2_with fail
    go_ret
    exact ⟨rfl, HA.out⟩
  by_cases g2 : oh = ph
  case neg =>
    have g2' : (oh == ph) = false := by simpa using g2
    have hf := HF.out fun hx => g2 hx.2.1
    subst hf g1
    go_enter Try.func13, Try.ntmps13
    go_wp2_with fail
    go_ret
    exact ⟨rfl, HA.out⟩
  by_cases g3 : oi = pi
  case neg =>
    have g3' : (oi == pi) = false := by simpa using g3
    have hf := HF.out fun hx => g3 hx.2.2.1
    subst hf g1 g2
    go_enter Try.func13, Try.ntmps13
    go_wp2_with fail
    go_ret
    exact ⟨rfl, HA.out⟩
  have hf := HD.out g1 g2 g3
  subst hf g1 g2 g3
  go_enter Try.func13, Try.ntmps13
  go_wp2_with fail
  refine (HE _ HA.out).out.mono ?_
  rintro e w1 ⟨rfl, hs1⟩
  have HS1 := Lib.hid (HA.out.trans hs1)
  clear hs1
  go_wp2_with fail
  go_ret
  exact ⟨rfl, HS1.out⟩
end Go.Proofs.Ytidijoncngfppaa
