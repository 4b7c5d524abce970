/- Contracts of the document's own answers for layer 8: Good, Hold; the law's plain, light. No condition beyond what each names. -/
import Derived.Test.YtidijoncngfppaaOpM
import Derived.Test.YtidijoncngfppaaAtRQ
import Derived.Test.YtidijoncngfppaaReg
namespace Go.Proofs.Ytidijoncngfppaa
open Go.RowKit
set_option linter.unusedVariables false
set_option maxRecDepth 100000

theorem rHold8_any (a b : Int) (w : World) : Calls Try.prog 17 #[.int .i64 a, .int .i64 b] w fun e w' => e = .returned (.int .i64 (holdN a b)) ∧ w = w' := by
  unfold holdN
  by_cases h1 : a = 0
  · rw [if_pos (.inl h1)]
    subst h1
    go_enter Try.func17, Try.ntmps17
    go_wp2_with fail
    go_ret
    exact ⟨rfl, rfl⟩
  · have k1 : (a == 0) = false := by simpa using h1
    by_cases h2 : b = 0
    · rw [if_pos (.inr h2)]
      subst h2
      go_enter Try.func17, Try.ntmps17
      go_wp2_with fail
      go_ret
      exact ⟨rfl, rfl⟩
    · have k2 : (b == 0) = false := by simpa using h2
      rw [if_neg (by omega)]
      by_cases h3 : a < b
      · rw [if_pos h3]
        go_enter Try.func17, Try.ntmps17
        go_wp2_with fail
        go_ret
        exact ⟨rfl, rfl⟩
      · rw [if_neg h3]
        go_enter Try.func17, Try.ntmps17
        go_wp2_with fail
        go_ret
        exact ⟨rfl, rfl⟩

set_option maxHeartbeats 2000000 in
theorem rGood8_any (o : Oq) (vc : Value) (w : World) (h : CapsW 55 w vc o.caps) :
    Calls Try.prog 9 #[oqV o vc] w fun e w' => e = .returned (.bool (decide (goodO o))) ∧ Same w w' := by
  obtain ⟨oa, oh, oi, l⟩ := o
  simp only at h
  obtain ⟨xs, hxl, hxn, hxb, hP⟩ := h.one
  have i0 := h.cap
  obtain ⟨n, hn⟩ : ∃ n, l.length = n := ⟨_, rfl⟩
  obtain ⟨a1, c1, rfl⟩ := h.form hn
  rw [hn] at hP hxn i0
  have HP := Lib.hid hP
  have HXN := Lib.hid hxn
  have HXB := Lib.hid hxb
  have HXL := Lib.hid hxl
  have HN := Lib.hid hn
  obtain ⟨R, hR⟩ : ∃ R, decide (goodO ⟨oa, oh, oi, l⟩) = R := ⟨_, rfl⟩
  rw [hR]
  have HG : Hid (∀ b : Bool, (goodO ⟨oa, oh, oi, l⟩ ↔ b = true) → b = R) := fun b hb => by
    rw [← hR]
    cases b
    · exact (decide_eq_false (fun hg => by simpa using hb.1 hg)).symm
    · exact (decide_eq_true (hb.2 rfl)).symm
  have HA := Lib.hid (Same.alloc w (oqO 34 ⟨oa, oh, oi, l⟩ (.slice a1 n c1)))
  have HX : Hid (∀ w', Same (w.alloc (oqO 34 ⟨oa, oh, oi, l⟩ (.slice a1 n c1))) w' → OqAt w' w.heap.size ⟨oa, oh, oi, l⟩ (.slice a1 n c1)) := fun w' hw => OqAt.of (hw.block (heap_alloc_new w _))
  obtain ⟨z0, z1, z2, z3⟩ := HX.out _ (Same.refl _)
  clear h hn hP hxn hxb hxl hR
  go_enter Try.func9, Try.ntmps9
  go_wp2_with fail
  generalize hW : w.alloc (.cells #[.int .i64 oa, .int .i64 oh, .int .u32 oi, .slice a1 n c1] 34) = W at *
  clear hW z0 z1 z2 z3
  go_loopw [3, 9] (fun nv i wr => ∃ (k s : Nat), k ≤ n ∧ i = .int .i64 k ∧ nv = .int .i64 s ∧ s = (capsB (l.take k)).length ∧ s ≤ 200 ∧ (∀ c, c ∈ l.take k → capOk c) ∧ Same W wr) (fun _ i _ => n - (intOf i).toNat)
  case atStart => exact ⟨0, 0, by omega, rfl, rfl, by simp [capsB], by omega, (fun c hc => by simp at hc), Same.refl W⟩
  case round =>
    obtain ⟨k, s, hk, rfl, rfl, hs, hs2, hall, hsr⟩ := hrel
    have HSR := Lib.hid hsr
    have HS := Lib.hid hs
    have HALL := Lib.hid hall
    clear hsr hs hall
    by_cases h8 : k = n
    · subst h8
      obtain ⟨z0, z1, z2, z3⟩ := HX.out _ HSR.out
      have hc : capsOk l := by
        have h1 := HALL.out
        have h2 := HS.out
        rw [List.take_of_length_le (by have := HN.out; omega)] at h1 h2
        exact ⟨h1, by omega⟩
      have hgo : ∀ b : Bool, (numsOk ⟨oa, oh, oi, l⟩ ↔ b = true) → b = R := fun b hb => HG.out b ⟨fun hg => hb.1 hg.2, fun hb2 => ⟨hc, hb.2 hb2⟩⟩
      have HGO := Lib.hid hgo
      clear hc hgo
      by_cases g1 : 1 ≤ oa
      · by_cases g2 : oa ≤ 65535
        · by_cases g3 : oh = 0
          · subst g3
            go_wp2_with fail
            go_ret
            exact ⟨by obtain rfl := HGO.out (oi != 0) (by unfold numsOk; simp; omega); rfl, HA.out.trans HSR.out⟩
          · have g3' : (oh == 0) = false := by simpa using g3
            by_cases g4 : 3 ≤ oh
            · by_cases g5 : oh ≤ 65535
              · go_wp2_with fail
                go_ret
                exact ⟨by obtain rfl := HGO.out (oi != 0) (by unfold numsOk; simp; omega); rfl, HA.out.trans HSR.out⟩
              · go_wp2_with fail
                go_ret
                exact ⟨by obtain rfl := HGO.out false (by unfold numsOk; simp; omega); rfl, HA.out.trans HSR.out⟩
            · go_wp2_with fail
              go_ret
              exact ⟨by obtain rfl := HGO.out false (by unfold numsOk; simp; omega); rfl, HA.out.trans HSR.out⟩
        · go_wp2_with fail
          go_ret
          exact ⟨by obtain rfl := HGO.out false (by unfold numsOk; simp; omega); rfl, HA.out.trans HSR.out⟩
      · go_wp2_with fail
        go_ret
        exact ⟨by obtain rfl := HGO.out false (by unfold numsOk; simp; omega); rfl, HA.out.trans HSR.out⟩
    · have hk8 : (k : Int) < n := by omega
      have hkx : k < xs.length := by have := HXN.out; omega
      obtain ⟨b, o1, cap, e1, HC1⟩ := HP.out (by omega)
      cases e1
      obtain ⟨x, hx⟩ : ∃ x, xs[k]? = some x := ⟨_, List.getElem?_eq_getElem hkx⟩
      obtain ⟨x0, x1⟩ := HC1 wr (HA.out.trans HSR.out) k x hx
      have hlx : l[k]? = some x.1 := by rw [← HXL.out, List.getElem?_map, hx]; rfl
      obtain ⟨⟨cd, vl⟩, ⟨so, sc⟩⟩ := x
      dsimp only [cvV] at x0 x1 hlx
      have hbx := (HXB.out _ (List.mem_of_getElem? hx))
      have hm : (⟨cd, vl⟩ : Cp) ∈ l := List.mem_of_getElem? hlx
      have htk : l.take (k + 1) = l.take k ++ [⟨cd, vl⟩] := by rw [List.take_add_one, hlx]; rfl
      have hvl : vl.length ≤ 9223372036854775807 := by
        obtain ⟨_, cp, he, h1, h2, _⟩ := hbx
        simp only at h1; omega
      have HTK := Lib.hid htk
      have HM := Lib.hid hm
      obtain ⟨q, hq⟩ : ∃ q, vl.length = q := ⟨_, rfl⟩
      have HQ := Lib.hid hq
      rw [hq] at x1 hvl
      have hs3 : (capsB (l.take (k + 1))).length = s + (2 + q) := by
        rw [htk, capsB_append, List.length_append, HS.out, capsB_cons, capsB_nil, List.append_nil, capB_length, hq]
      have HS3 := Lib.hid hs3
      have hbad : ∀ b : Bool, ¬ capsOk l → b = false → b = R := fun b hb e => HG.out b ⟨fun hg => absurd hg.1 hb, fun h => by rw [e] at h; cases h⟩
      have HBAD := Lib.hid hbad
      clear h8 hkx HP hx HC1 hlx hbx hm htk hq hs3 hbad
      by_cases g1 : cd < 0
      · go_wp2_with fail
        go_ret
        exact ⟨by obtain rfl := HBAD.out false (fun hc => by have := (hc.1 _ HM.out).1; simp only at this; omega) rfl; rfl, HA.out.trans (HSR.out.trans (Same.alloc _ _))⟩
      · by_cases g2 : 255 < cd
        · go_wp2_with fail
          go_ret
          exact ⟨by obtain rfl := HBAD.out false (fun hc => by have := (hc.1 _ HM.out).1; simp only at this; omega) rfl; rfl, HA.out.trans (HSR.out.trans (Same.alloc _ _))⟩
        · by_cases g3 : 100 < q
          · have g3' : (100 : Int) < q := by omega
            go_wp2_with fail
            go_ret
            exact ⟨by obtain rfl := HBAD.out false (fun hc => by have := (hc.1 _ HM.out).2; have h2 := HQ.out; simp only at this; omega) rfl; rfl, HA.out.trans (HSR.out.trans (Same.alloc _ _))⟩
          · have g3' : ¬ (100 : Int) < q := by omega
            by_cases g4 : 200 < s + (2 + q)
            · have g4' : (200 : Int) < (s : Int) + (2 + q) := by omega
              go_wp2_with fail
              go_ret
              exact ⟨by obtain rfl := HBAD.out false (fun hc => by have := hc.2; have h2 := capsB_take l (k + 1); have h3 := HS3.out; omega) rfl; rfl, HA.out.trans (HSR.out.trans (Same.alloc _ _))⟩
            · have g4' : ¬ (200 : Int) < (s : Int) + (2 + q) := by omega
              go_wp2_with fail
              refine ⟨⟨k + 1, s + (2 + q), by omega, rfl, by simp, HS3.out.symm, by omega, fun c hc => ?_, HSR.out.trans (Same.alloc _ _)⟩, by simp [intOf]; omega⟩
              rw [HTK.out] at hc
              rcases List.mem_append.1 hc with hc | hc
              · exact HALL.out c hc
              · obtain rfl := List.mem_singleton.1 hc
                exact ⟨by simp only; omega, by have := HQ.out; simp only; omega⟩
end Go.Proofs.Ytidijoncngfppaa
