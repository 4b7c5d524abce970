/- The developers' layer 8: Hold, what may be, which capabilities it has. No condition beyond what each names. -/
import Derived.Test.YtidijoncngfppaaOpC
namespace Go.Proofs.Ytidijoncngfppaa
open Go.RowKit
set_option linter.unusedVariables false
set_option maxRecDepth 100000

theorem oHold_any (a b : Int) (w : World) : Calls Try.prog 16 #[.int .i64 a, .int .i64 b] w fun e w' => e = .returned (.int .i64 (holdN a b)) ∧ Same w w' := by
  unfold holdN
  by_cases h1 : a = 0
  · rw [if_pos (.inl h1)]
    subst h1
    go_enter Try.func16, Try.ntmps16
    go_wp2_with fail
    go_ret
    exact ⟨rfl, Same.refl _⟩
  · have k1 : (a == 0) = false := by simpa using h1
    by_cases h2 : b = 0
    · rw [if_pos (.inr h2)]
      subst h2
      go_enter Try.func16, Try.ntmps16
      go_wp2_with fail
      go_ret
      exact ⟨rfl, Same.refl _⟩
    · have k2 : (b == 0) = false := by simpa using h2
      rw [if_neg (by omega)]
      have HM : Hid (min a b = if a < b then a else b) := by show _ = _; omega
      clear HM
      by_cases h3 : a < b
      · rw [if_pos h3]
        have h4 : a ≤ b := by omega
        go_enter Try.func16, Try.ntmps16
        go_wp2_with fail
        go_ret
        exact ⟨rfl, Same.refl _⟩
      · rw [if_neg h3]
        by_cases h5 : a = b
        · subst h5
          go_enter Try.func16, Try.ntmps16
          go_wp2_with fail
          all_goals (go_ret; exact ⟨rfl, Same.refl _⟩)
        · have h4 : ¬ a ≤ b := by omega
          go_enter Try.func16, Try.ntmps16
          go_wp2_with fail
          go_ret
          exact ⟨rfl, Same.refl _⟩

theorem oIs_any (cd : Int) (so : Option Addr) (q sc : Nat) (nn : Int) (w : World) : Calls Try.prog 33 #[.agg #[.int .i64 cd, .slice so q sc], .int .i64 nn] w fun e w' => e = .returned (.bool (cd == nn)) ∧ Same w w' := by
  go_enter Try.func33, Try.ntmps33
  go_wp2_with fail
  go_ret
  exact ⟨rfl, Same.alloc _ _⟩
theorem oBeyond_any (cd : Int) (so : Option Addr) (q sc : Nat) (nn : Int) (w : World) : Calls Try.prog 46 #[.agg #[.int .i64 cd, .slice so q sc], .int .i64 nn] w fun e w' => e = .returned (.bool (decide (cd < 0 ∨ nn < cd))) ∧ Same w w' := by
  by_cases h : cd < 0
  · rw [decide_eq_true (p := cd < 0 ∨ nn < cd) (.inl h)]
    go_enter Try.func46, Try.ntmps46
    go_wp2_with fail
    go_ret
    exact ⟨rfl, Same.alloc _ _⟩
  · rw [show decide (cd < 0 ∨ nn < cd) = decide (nn < cd) from by rw [decide_eq_decide]; omega]
    go_enter Try.func46, Try.ntmps46
    go_wp2_with fail
    go_ret
    exact ⟨rfl, Same.alloc _ _⟩
theorem oLonger_any (cd : Int) (so : Option Addr) (q sc : Nat) (nn : Int) (w : World) : Calls Try.prog 47 #[.agg #[.int .i64 cd, .slice so q sc], .int .i64 nn] w fun e w' => e = .returned (.bool (decide (nn < q))) ∧ Same w w' := by
  go_enter Try.func47, Try.ntmps47
  go_wp2_with fail
  go_ret
  exact ⟨rfl, Same.alloc _ _⟩

set_option maxHeartbeats 2000000 in
theorem someIs_any (l : List Cp) (vc : Value) (nn : Int) (w : World) (h : CapsW 30 w vc l) :
    Calls Try.prog 32 #[vc, .func (.func 33) #[] #[], .int .i64 nn] w fun e w' => e = .returned (.bool (l.any fun c => c.code == nn)) ∧ Same w w' := by
  obtain ⟨xs, hxl, hxn, hxb, hP⟩ := h.one
  have i0 := h.cap
  obtain ⟨n, hn⟩ : ∃ n, l.length = n := ⟨_, rfl⟩
  obtain ⟨a1, c1, rfl⟩ := h.form hn
  rw [hn] at hP hxn i0
  have HP := Lib.hid hP
  have HXN := Lib.hid hxn
  have HXL := Lib.hid hxl
  have HN := Lib.hid hn
  have HK := fun cd so q sc w => Lib.hid (oIs_any cd so q sc nn w)
  obtain ⟨R, hR⟩ : ∃ R, l.any (fun c => c.code == nn) = R := ⟨_, rfl⟩
  rw [hR]
  have HR := Lib.hid hR
  clear h hn hP hxn hxb hxl hR
  go_enter Try.func32, Try.ntmps32
  go_wp2_with fail
  go_loopw [11] (fun i wr => ∃ k : Nat, k ≤ n ∧ i = .int .i64 k ∧ ((l.take k).any fun c => c.code == nn) = false ∧ Same w wr) (fun i _ => n - (intOf i).toNat)
  case atStart => exact ⟨0, by omega, rfl, by simp, Same.refl w⟩
  case round =>
    obtain ⟨k, hk, rfl, hno, hsr⟩ := hrel
    have HSR := Lib.hid hsr
    have HNO := Lib.hid hno
    clear hsr hno
    by_cases h8 : k = n
    · subst h8
      have hf : R = false := by
        have h1 := HNO.out
        rw [List.take_of_length_le (by have := HN.out; omega)] at h1
        rw [← HR.out, h1]
      subst hf
      go_wp2_with fail
      go_ret
      exact ⟨rfl, HSR.out⟩
    · have hk8 : (k : Int) < n := by omega
      have hkx : k < xs.length := by have := HXN.out; omega
      obtain ⟨b, o1, cap, e1, HC1⟩ := HP.out (by omega)
      cases e1
      obtain ⟨x, hx⟩ : ∃ x, xs[k]? = some x := ⟨_, List.getElem?_eq_getElem hkx⟩
      obtain ⟨x0, x1⟩ := HC1 wr HSR.out k x hx
      have hlx : l[k]? = some x.1 := by rw [← HXL.out, List.getElem?_map, hx]; rfl
      obtain ⟨⟨cd, vl⟩, ⟨so, sc⟩⟩ := x
      dsimp only [cvV] at x0 x1 hlx
      have htk : l.take (k + 1) = l.take k ++ [⟨cd, vl⟩] := by rw [List.take_add_one, hlx]; rfl
      have HTK := Lib.hid htk
      have HM := Lib.hid (List.mem_of_getElem? hlx)
      obtain ⟨q, hq⟩ : ∃ q, vl.length = q := ⟨_, rfl⟩
      have HQ := Lib.hid hq
      rw [hq] at x1
      clear h8 hkx HP hx HC1 hlx htk hq
      go_wp2_with fail
      refine (HK cd so q sc _).out.mono ?_
      rintro e w1 ⟨rfl, hs1⟩
      have HS1 := Lib.hid ((HSR.out.trans (Same.alloc _ _)).trans hs1)
      clear hs1
      obtain ⟨B, hB⟩ : ∃ B, (cd == nn) = B := ⟨_, rfl⟩
      rw [hB]
      have HB := Lib.hid hB
      clear hB
      cases B
      · go_wp2_with fail
        refine ⟨⟨k + 1, by omega, rfl, ?_, HS1.out⟩, by simp [intOf]; omega⟩
        rw [HTK.out, List.any_append, HNO.out, Bool.false_or, List.any_cons, List.any_nil, Bool.or_false]
        exact HB.out
      · have ht : R = true := by
          rw [← HR.out]
          refine List.any_eq_true.2 ⟨_, HM.out, ?_⟩
          exact HB.out
        subst ht
        go_wp2_with fail
        go_ret
        exact ⟨rfl, HS1.out⟩

set_option maxHeartbeats 2000000 in
theorem someBeyond_any (l : List Cp) (vc : Value) (nn : Int) (w : World) (h : CapsW 30 w vc l) :
    Calls Try.prog 32 #[vc, .func (.func 46) #[] #[], .int .i64 nn] w fun e w' => e = .returned (.bool (l.any fun c => decide (c.code < 0 ∨ nn < c.code))) ∧ Same w w' := by
  obtain ⟨xs, hxl, hxn, hxb, hP⟩ := h.one
  have i0 := h.cap
  obtain ⟨n, hn⟩ : ∃ n, l.length = n := ⟨_, rfl⟩
  obtain ⟨a1, c1, rfl⟩ := h.form hn
  rw [hn] at hP hxn i0
  have HP := Lib.hid hP
  have HXN := Lib.hid hxn
  have HXL := Lib.hid hxl
  have HN := Lib.hid hn
  have HK := fun cd so q sc w => Lib.hid (oBeyond_any cd so q sc nn w)
  obtain ⟨R, hR⟩ : ∃ R, l.any (fun c => decide (c.code < 0 ∨ nn < c.code)) = R := ⟨_, rfl⟩
  rw [hR]
  have HR := Lib.hid hR
  clear h hn hP hxn hxb hxl hR
  go_enter Try.func32, Try.ntmps32
  go_wp2_with fail
  go_loopw [11] (fun i wr => ∃ k : Nat, k ≤ n ∧ i = .int .i64 k ∧ ((l.take k).any fun c => decide (c.code < 0 ∨ nn < c.code)) = false ∧ Same w wr) (fun i _ => n - (intOf i).toNat)
  case atStart => exact ⟨0, by omega, rfl, by simp, Same.refl w⟩
  case round =>
    obtain ⟨k, hk, rfl, hno, hsr⟩ := hrel
    have HSR := Lib.hid hsr
    have HNO := Lib.hid hno
    clear hsr hno
    by_cases h8 : k = n
    · subst h8
      have hf : R = false := by
        have h1 := HNO.out
        rw [List.take_of_length_le (by have := HN.out; omega)] at h1
        rw [← HR.out, h1]
      subst hf
      go_wp2_with fail
      go_ret
      exact ⟨rfl, HSR.out⟩
    · have hk8 : (k : Int) < n := by omega
      have hkx : k < xs.length := by have := HXN.out; omega
      obtain ⟨b, o1, cap, e1, HC1⟩ := HP.out (by omega)
      cases e1
      obtain ⟨x, hx⟩ : ∃ x, xs[k]? = some x := ⟨_, List.getElem?_eq_getElem hkx⟩
      obtain ⟨x0, x1⟩ := HC1 wr HSR.out k x hx
      have hlx : l[k]? = some x.1 := by rw [← HXL.out, List.getElem?_map, hx]; rfl
      obtain ⟨⟨cd, vl⟩, ⟨so, sc⟩⟩ := x
      dsimp only [cvV] at x0 x1 hlx
      have htk : l.take (k + 1) = l.take k ++ [⟨cd, vl⟩] := by rw [List.take_add_one, hlx]; rfl
      have HTK := Lib.hid htk
      have HM := Lib.hid (List.mem_of_getElem? hlx)
      obtain ⟨q, hq⟩ : ∃ q, vl.length = q := ⟨_, rfl⟩
      have HQ := Lib.hid hq
      rw [hq] at x1
      clear h8 hkx HP hx HC1 hlx htk hq
      go_wp2_with fail
      refine (HK cd so q sc _).out.mono ?_
      rintro e w1 ⟨rfl, hs1⟩
      have HS1 := Lib.hid ((HSR.out.trans (Same.alloc _ _)).trans hs1)
      clear hs1
      obtain ⟨B, hB⟩ : ∃ B, (decide (cd < 0 ∨ nn < cd)) = B := ⟨_, rfl⟩
      rw [hB]
      have HB := Lib.hid hB
      clear hB
      cases B
      · go_wp2_with fail
        refine ⟨⟨k + 1, by omega, rfl, ?_, HS1.out⟩, by simp [intOf]; omega⟩
        rw [HTK.out, List.any_append, HNO.out, Bool.false_or, List.any_cons, List.any_nil, Bool.or_false]
        exact HB.out
      · have ht : R = true := by
          rw [← HR.out]
          refine List.any_eq_true.2 ⟨_, HM.out, ?_⟩
          exact HB.out
        subst ht
        go_wp2_with fail
        go_ret
        exact ⟨rfl, HS1.out⟩

set_option maxHeartbeats 2000000 in
theorem someLonger_any (l : List Cp) (vc : Value) (nn : Int) (w : World) (h : CapsW 30 w vc l) :
    Calls Try.prog 32 #[vc, .func (.func 47) #[] #[], .int .i64 nn] w fun e w' => e = .returned (.bool (l.any fun c => decide (nn < c.value.length))) ∧ Same w w' := by
  obtain ⟨xs, hxl, hxn, hxb, hP⟩ := h.one
  have i0 := h.cap
  obtain ⟨n, hn⟩ : ∃ n, l.length = n := ⟨_, rfl⟩
  obtain ⟨a1, c1, rfl⟩ := h.form hn
  rw [hn] at hP hxn i0
  have HP := Lib.hid hP
  have HXN := Lib.hid hxn
  have HXL := Lib.hid hxl
  have HN := Lib.hid hn
  have HK := fun cd so q sc w => Lib.hid (oLonger_any cd so q sc nn w)
  obtain ⟨R, hR⟩ : ∃ R, l.any (fun c => decide (nn < c.value.length)) = R := ⟨_, rfl⟩
  rw [hR]
  have HR := Lib.hid hR
  clear h hn hP hxn hxb hxl hR
  go_enter Try.func32, Try.ntmps32
  go_wp2_with fail
  go_loopw [11] (fun i wr => ∃ k : Nat, k ≤ n ∧ i = .int .i64 k ∧ ((l.take k).any fun c => decide (nn < c.value.length)) = false ∧ Same w wr) (fun i _ => n - (intOf i).toNat)
  case atStart => exact ⟨0, by omega, rfl, by simp, Same.refl w⟩
  case round =>
    obtain ⟨k, hk, rfl, hno, hsr⟩ := hrel
    have HSR := Lib.hid hsr
    have HNO := Lib.hid hno
    clear hsr hno
    by_cases h8 : k = n
    · subst h8
      have hf : R = false := by
        have h1 := HNO.out
        rw [List.take_of_length_le (by have := HN.out; omega)] at h1
        rw [← HR.out, h1]
      subst hf
      go_wp2_with fail
      go_ret
      exact ⟨rfl, HSR.out⟩
    · have hk8 : (k : Int) < n := by omega
      have hkx : k < xs.length := by have := HXN.out; omega
      obtain ⟨b, o1, cap, e1, HC1⟩ := HP.out (by omega)
      cases e1
      obtain ⟨x, hx⟩ : ∃ x, xs[k]? = some x := ⟨_, List.getElem?_eq_getElem hkx⟩
      obtain ⟨x0, x1⟩ := HC1 wr HSR.out k x hx
      have hlx : l[k]? = some x.1 := by rw [← HXL.out, List.getElem?_map, hx]; rfl
      obtain ⟨⟨cd, vl⟩, ⟨so, sc⟩⟩ := x
      dsimp only [cvV] at x0 x1 hlx
      have htk : l.take (k + 1) = l.take k ++ [⟨cd, vl⟩] := by rw [List.take_add_one, hlx]; rfl
      have HTK := Lib.hid htk
      have HM := Lib.hid (List.mem_of_getElem? hlx)
      obtain ⟨q, hq⟩ : ∃ q, vl.length = q := ⟨_, rfl⟩
      have HQ := Lib.hid hq
      rw [hq] at x1
      clear h8 hkx HP hx HC1 hlx htk hq
      go_wp2_with fail
      refine (HK cd so q sc _).out.mono ?_
      rintro e w1 ⟨rfl, hs1⟩
      have HS1 := Lib.hid ((HSR.out.trans (Same.alloc _ _)).trans hs1)
      clear hs1
      obtain ⟨B, hB⟩ : ∃ B, (decide (nn < (q : Int))) = B := ⟨_, rfl⟩
      rw [hB]
      have HB := Lib.hid hB
      clear hB
      cases B
      · go_wp2_with fail
        refine ⟨⟨k + 1, by omega, rfl, ?_, HS1.out⟩, by simp [intOf]; omega⟩
        rw [HTK.out, List.any_append, HNO.out, Bool.false_or, List.any_cons, List.any_nil, Bool.or_false]
        simp only [HQ.out]
        exact HB.out
      · have ht : R = true := by
          rw [← HR.out]
          refine List.any_eq_true.2 ⟨_, HM.out, ?_⟩
          simp only [HQ.out]
          exact HB.out
        subst ht
        go_wp2_with fail
        go_ret
        exact ⟨rfl, HS1.out⟩

theorem oGoodHold_any (h : Int) (w : World) : Calls Try.prog 21 #[.int .i64 h] w fun e w' => e = .returned (.bool (decide (h = 0 ∨ (3 ≤ h ∧ h ≤ 65535)))) ∧ w = w' := by
  by_cases h1 : h = 0
  · rw [decide_eq_true (.inl h1)]
    subst h1
    go_enter Try.func21, Try.ntmps21
    go_wp2_with fail
    go_ret
    exact ⟨rfl, rfl⟩
  · have k1 : (h == 0) = false := by simpa using h1
    by_cases h2 : 3 ≤ h
    · rw [show decide (h = 0 ∨ (3 ≤ h ∧ h ≤ 65535)) = decide (h ≤ 65535) from by rw [decide_eq_decide]; omega]
      go_enter Try.func21, Try.ntmps21
      go_wp2_with fail
      go_ret
      exact ⟨rfl, rfl⟩
    · rw [decide_eq_false (by omega)]
      go_enter Try.func21, Try.ntmps21
      go_wp2_with fail
      go_ret
      exact ⟨rfl, rfl⟩

set_option maxHeartbeats 2000000 in
theorem oSize_any (l : List Cp) (vc : Value) (w : World) (h : CapsW 30 w vc l) (hv : ∀ c, c ∈ l → c.value.length ≤ 100) (hl : l.length ≤ 100) :
    Calls Try.prog 48 #[vc] w fun e w' => e = .returned (.int .i64 (capsB l).length) ∧ Same w w' := by
  obtain ⟨xs, hxl, hxn, hxb, hP⟩ := h.one
  obtain ⟨n, hn⟩ : ∃ n, l.length = n := ⟨_, rfl⟩
  obtain ⟨a1, c1, rfl⟩ := h.form hn
  rw [hn] at hP hxn hl
  have HP := Lib.hid hP
  have HXN := Lib.hid hxn
  have HXL := Lib.hid hxl
  have HN := Lib.hid hn
  have HV := Lib.hid hv
  obtain ⟨R, hR⟩ : ∃ R, (capsB l).length = R := ⟨_, rfl⟩
  rw [hR]
  have HR := Lib.hid hR
  clear h hn hP hxn hxb hxl hR hv
  go_enter Try.func48, Try.ntmps48
  go_wp2_with fail
  go_loopw [3, 8] (fun nv i wr => ∃ (k s : Nat), k ≤ n ∧ i = .int .i64 k ∧ nv = .int .i64 s ∧ s = (capsB (l.take k)).length ∧ s ≤ 102 * k ∧ Same w wr) (fun _ i _ => n - (intOf i).toNat)
  case atStart => exact ⟨0, 0, by omega, rfl, rfl, by simp [capsB], by omega, Same.refl w⟩
  case round =>
    obtain ⟨k, s, hk, rfl, rfl, hs, hs2, hsr⟩ := hrel
    have HSR := Lib.hid hsr
    have HS := Lib.hid hs
    clear hsr hs
    by_cases h8 : k = n
    · subst h8
      have hf : s = R := by
        have h1 := HS.out
        rw [List.take_of_length_le (by have := HN.out; omega)] at h1
        rw [← HR.out, h1]
      subst hf
      go_wp2_with fail
      go_ret
      exact ⟨rfl, HSR.out⟩
    · have hk8 : (k : Int) < n := by omega
      have hkx : k < xs.length := by have := HXN.out; omega
      obtain ⟨b, o1, cap, e1, HC1⟩ := HP.out (by omega)
      cases e1
      obtain ⟨x, hx⟩ : ∃ x, xs[k]? = some x := ⟨_, List.getElem?_eq_getElem hkx⟩
      obtain ⟨x0, x1⟩ := HC1 wr HSR.out k x hx
      have hlx : l[k]? = some x.1 := by rw [← HXL.out, List.getElem?_map, hx]; rfl
      obtain ⟨⟨cd, vl⟩, ⟨so, sc⟩⟩ := x
      dsimp only [cvV] at x0 x1 hlx
      have htk : l.take (k + 1) = l.take k ++ [⟨cd, vl⟩] := by rw [List.take_add_one, hlx]; rfl
      have hvl : vl.length ≤ 100 := HV.out _ (List.mem_of_getElem? hlx)
      obtain ⟨q, hq⟩ : ∃ q, vl.length = q := ⟨_, rfl⟩
      have hs3 : (capsB (l.take (k + 1))).length = s + (2 + q) := by
        rw [htk, capsB_append, List.length_append, HS.out, capsB_cons, capsB_nil, List.append_nil, capB_length, hq]
      have HS3 := Lib.hid hs3
      rw [hq] at x1 hvl
      clear h8 hkx HP hx HC1 hlx htk hq hs3
      go_wp2_with fail
      exact ⟨⟨k + 1, s + (2 + q), by omega, rfl, by simp, HS3.out.symm, by omega, HSR.out.trans (Same.alloc _ _)⟩, by simp [intOf]; omega⟩

theorem oGoodCaps_any (l : List Cp) (vc : Value) (w : World) (h : CapsW 30 w vc l) (hl : l.length ≤ 100) :
    Calls Try.prog 22 #[vc] w fun e w' => e = .returned (.bool (decide (capsOk l))) ∧ Same w w' := by
  have HB := fun w' hs => Lib.hid (someBeyond_any l vc 255 w' (h.same hs))
  have HL := fun w' hs => Lib.hid (someLonger_any l vc 100 w' (h.same hs))
  have HS := fun w' hs hv => Lib.hid (oSize_any l vc w' (h.same hs) hv hl)
  obtain ⟨n, hn⟩ : ∃ n, l.length = n := ⟨_, rfl⟩
  obtain ⟨a1, c1, rfl⟩ := h.form hn
  obtain ⟨R, hR⟩ : ∃ R, decide (capsOk l) = R := ⟨_, rfl⟩
  rw [hR]
  have HR := Lib.hid hR
  have hb : ∀ B, l.any (fun c => decide (c.code < 0 ∨ (255 : Int) < c.code)) = B → (B = true ↔ ¬ ∀ c, c ∈ l → 0 ≤ c.code ∧ c.code ≤ 255) := by
    rintro B rfl
    rw [List.any_eq_true]
    constructor
    · rintro ⟨c, hc, hd⟩ ha
      have := of_decide_eq_true hd
      have := ha c hc
      omega
    · intro ha
      simp only [Classical.not_forall] at ha
      obtain ⟨c, hc, hd⟩ := ha
      exact ⟨c, hc, decide_eq_true (by omega)⟩
  have hq : ∀ B, l.any (fun c => decide ((100 : Int) < c.value.length)) = B → (B = true ↔ ¬ ∀ c, c ∈ l → c.value.length ≤ 100) := by
    rintro B rfl
    rw [List.any_eq_true]
    constructor
    · rintro ⟨c, hc, hd⟩ ha
      have := of_decide_eq_true hd
      have := ha c hc
      omega
    · intro ha
      simp only [Classical.not_forall] at ha
      obtain ⟨c, hc, hd⟩ := ha
      exact ⟨c, hc, decide_eq_true (by omega)⟩
  generalize l.any (fun c => decide (c.code < 0 ∨ (255 : Int) < c.code)) = B1 at HB hb
  generalize l.any (fun c => decide ((100 : Int) < c.value.length)) = B2 at HL hq
  have h1 := hb B1 rfl
  have h2 := hq B2 rfl
  have H1 := Lib.hid h1
  have H2 := Lib.hid h2
  clear hb hq h hn hR h1 h2
  cases B1
  · cases B2
    · have hv : ∀ c, c ∈ l → c.value.length ≤ 100 := Decidable.not_not.1 fun hx => by simpa using H2.out.2 hx
      have hc : ∀ c, c ∈ l → 0 ≤ c.code ∧ c.code ≤ 255 := Decidable.not_not.1 fun hx => by simpa using H1.out.2 hx
      have hr : R = decide (((capsB l).length : Int) ≤ 200) := by
        rw [← HR.out, decide_eq_decide]
        exact ⟨fun h => by have := h.2; omega, fun h => ⟨fun c hm => ⟨hc c hm, hv c hm⟩, by omega⟩⟩
      subst hr
      have HS := fun w' hs => Lib.hid (HS w' hs hv).out
      clear hv hc HR H1 H2
      go_enter Try.func22, Try.ntmps22
      go_wp2_with fail
      refine (HB _ (Same.refl _)).out.mono ?_
      rintro e w1 ⟨rfl, hs1⟩
      have HS1 := Lib.hid hs1
      clear hs1
      go_wp2_with fail
      refine (HL _ HS1.out).out.mono ?_
      rintro e w2 ⟨rfl, hs2⟩
      have HS2 := Lib.hid (HS1.out.trans hs2)
      clear hs2
      go_wp2_with fail
      refine (HS _ HS2.out).out.mono ?_
      rintro e w3 ⟨rfl, hs3⟩
      have HS3 := Lib.hid (HS2.out.trans hs3)
      clear hs3
      go_wp2_with fail
      go_ret
      exact ⟨rfl, HS3.out⟩
    · have hr : R = false := by
        rw [← HR.out]
        exact decide_eq_false fun h => H2.out.1 rfl fun c hm => (h.1 c hm).2
      subst hr
      go_enter Try.func22, Try.ntmps22
      go_wp2_with fail
      refine (HB _ (Same.refl _)).out.mono ?_
      rintro e w1 ⟨rfl, hs1⟩
      have HS1 := Lib.hid hs1
      clear hs1
      go_wp2_with fail
      refine (HL _ HS1.out).out.mono ?_
      rintro e w2 ⟨rfl, hs2⟩
      have HS2 := Lib.hid (HS1.out.trans hs2)
      clear hs2
      go_wp2_with fail
      go_ret
      exact ⟨rfl, HS2.out⟩
  · have hr : R = false := by
      rw [← HR.out]
      exact decide_eq_false fun h => H1.out.1 rfl fun c hm => (h.1 c hm).1
    subst hr
    go_enter Try.func22, Try.ntmps22
    go_wp2_with fail
    refine (HB _ (Same.refl _)).out.mono ?_
    rintro e w1 ⟨rfl, hs1⟩
    have HS1 := Lib.hid hs1
    clear hs1
    go_wp2_with fail
    go_ret
    exact ⟨rfl, HS1.out⟩

theorem oHas_any (o : Oq) (vc : Value) (code : Int) (w : World) (h : CapsW 30 w vc o.caps) :
    Calls Try.prog 15 #[oqV o vc, .int .i64 code] w fun e w' => e = .returned (.bool (o.caps.any fun c => decide (c.code = code))) ∧ Same w w' := by
  have HI := fun w' hs => Lib.hid (someIs_any o.caps vc code w' (h.same hs))
  have HE : Hid ((o.caps.any fun c => c.code == code) = o.caps.any fun c => decide (c.code = code)) := rfl
  rw [HE.out] at HI
  obtain ⟨oa, oh, oi, l⟩ := o
  simp only at h HI ⊢
  obtain ⟨n, hn⟩ : ∃ n, l.length = n := ⟨_, rfl⟩
  obtain ⟨a1, c1, rfl⟩ := h.form hn
  generalize l.any (fun c => decide (c.code = code)) = B at HI ⊢
  clear h hn HE
  go_enter Try.func15, Try.ntmps15
  go_wp2_with fail
  refine (HI _ (Same.alloc _ _)).out.mono ?_
  rintro e w1 ⟨rfl, hs1⟩
  have HS1 := Lib.hid ((Same.alloc _ _).trans hs1)
  clear hs1
  go_wp2_with fail
  go_ret
  exact ⟨rfl, HS1.out⟩

set_option maxHeartbeats 2000000 in
theorem oGood_any (o : Oq) (vc : Value) (w : World) (h : CapsW 30 w vc o.caps) (hl : o.caps.length ≤ 100) :
    Calls Try.prog 8 #[oqV o vc] w fun e w' => e = .returned (.bool (decide (goodO o))) ∧ Same w w' := by
  have HCs := fun w' hs => Lib.hid (oGoodCaps_any o.caps vc w' (h.same hs) hl)
  obtain ⟨oa, oh, oi, l⟩ := o
  simp only at h HCs hl
  obtain ⟨n, hn⟩ : ∃ n, l.length = n := ⟨_, rfl⟩
  obtain ⟨a1, c1, rfl⟩ := h.form hn
  obtain ⟨R, hR⟩ : ∃ R, decide (goodO ⟨oa, oh, oi, l⟩) = R := ⟨_, rfl⟩
  rw [hR]
  have HG : Hid (∀ b : Bool, (goodO ⟨oa, oh, oi, l⟩ ↔ b = true) → b = R) := fun b hb => by
    rw [← hR]
    cases b
    · exact (decide_eq_false (fun hg => by simpa using hb.1 hg)).symm
    · exact (decide_eq_true (hb.2 rfl)).symm
  have HF : Hid (¬ numsOk ⟨oa, oh, oi, l⟩ → false = R) := fun hb => HG.out false ⟨fun h => absurd h.2 hb, fun h => by cases h⟩
  have HA := Lib.hid (Same.alloc w (oqO 25 ⟨oa, oh, oi, l⟩ (.slice a1 n c1)))
  have HX : Hid (∀ w', Same (w.alloc (oqO 25 ⟨oa, oh, oi, l⟩ (.slice a1 n c1))) w' → OqAt w' w.heap.size ⟨oa, oh, oi, l⟩ (.slice a1 n c1)) := fun w' hw => OqAt.of (hw.block (heap_alloc_new w _))
  obtain ⟨z0, z1, z2, z3⟩ := HX.out _ (Same.refl _)
  clear h hn hR hl
  by_cases g1 : 1 ≤ oa
  case neg =>
    have hf := HF.out (by unfold numsOk; simp; omega)
    subst hf
    go_enter Try.func8, Try.ntmps8
    go_wp2_with fail
    go_ret
    exact ⟨rfl, HA.out⟩
  by_cases g2 : oa ≤ 65535
  case neg =>
    have hf := HF.out (by unfold numsOk; simp; omega)
    subst hf
    go_enter Try.func8, Try.ntmps8
    go_wp2_with fail
    go_ret
    exact ⟨rfl, HA.out⟩
  go_enter Try.func8, Try.ntmps8
  go_wp2_with fail
  refine (oGoodHold_any oh _).mono ?_
  rintro e w1 ⟨rfl, rfl⟩
  by_cases g3 : oh = 0 ∨ (3 ≤ oh ∧ oh ≤ 65535)
  case neg =>
    have hf := HF.out (fun hx => g3 hx.2.1)
    subst hf
    rw [decide_eq_false g3]
    go_wp2_with fail
    go_ret
    exact ⟨rfl, HA.out⟩
  rw [decide_eq_true g3]
  have HG3 := Lib.hid g3
  clear g3
  by_cases g4 : oi = 0
  · have hf := HF.out (fun hx => hx.2.2 g4)
    subst hf g4
    go_wp2_with fail
    go_ret
    exact ⟨rfl, HA.out⟩
  have g4' : (oi != 0) = true := by simpa using g4
  have hr : decide (capsOk l) = R := HG.out _ ⟨fun h => decide_eq_true h.1, fun h => ⟨of_decide_eq_true h, ⟨g1, g2⟩, HG3.out, g4⟩⟩
  have HR := Lib.hid hr
  clear hr g4 HF HG HG3
  go_wp2_with fail
  clear z0 z1 z2 z3
  refine (HCs _ HA.out).out.mono ?_
  rintro e w1 ⟨rfl, hs1⟩
  rw [HR.out]
  have HS1 := Lib.hid (HA.out.trans hs1)
  clear hs1
  go_wp2_with fail
  go_ret
  exact ⟨rfl, HS1.out⟩
end Go.Proofs.Ytidijoncngfppaa
