/- The developers' layer 8: the capabilities of one parameter. No condition beyond what each names. -/
import Derived.Test.YtidijoncngfppaaOpDM
namespace Go.Proofs.Ytidijoncngfppaa
open Go.RowKit
set_option linter.unusedVariables false
set_option maxRecDepth 100000

theorem SrcB.keptO {ss : List Nat} {w w' : World} {s : Nat} {all : Value} {l : List UInt8} {a : Nat} {er : Int} (h : SrcB w s all l a er) (hk : Kept ss w w') (hs : s ∉ ss) (ha : ∀ g, all.ownBlock = some g → g ∉ ss) : SrcB w' s all l a er :=
  ⟨by have := h.src; unfold Src at *; exact hk.at this hs, h.bs.kept hk ha, h.ne, fun g hg => Nat.lt_of_lt_of_le (h.lt g hg) hk.size, h.le⟩
theorem SrcB.posO {w : World} {s : Nat} {all : Value} {l : List UInt8} {a : Nat} {er : Int} (h : SrcB w s all l a er) : posW w s 2 = a := by
  obtain ⟨-, -, c2, -, -, -⟩ := h.src.cells
  unfold posW
  rw [c2]
  simp
theorem Bs.empty {w w' : World} {v : Value} (h : Bs w v []) : Bs w' v [] := by
  obtain ⟨ao, cap, hv, h1, h2, h3, h4⟩ := h
  exact ⟨ao, cap, hv, h1, h2, h3, fun ad had => ⟨fun hx => absurd rfl hx, fun j u hu => by simp at hu⟩⟩
theorem FaultAt.keptE {ss : List Nat} {w w' : World} {F B : Nat} {f : Ft} (hd : f.data = []) (hk : Kept ss w w') (hF : F ∉ ss) (h : FaultAt w F B f) : FaultAt w' F B f := by
  obtain ⟨vd, h1, h2, h3⟩ := h
  rw [hd] at h2
  exact ⟨vd, hk.at h1 hF, by rw [hd]; exact h2.empty, h3⟩
theorem FaultAt.modE {s : Nat} {w w' : World} {F B : Nat} {f : Ft} (hd : f.data = []) (hs : Mod s w w') (hF : F ≠ s) (h : FaultAt w F B f) : FaultAt w' F B f :=
  h.keptE hd ((Kept.refl [s] w).mod hs (.inl (by simp))) (by simpa using hF)

/-- a number, a number, and so many bytes -/
theorem two_steps (l : List UInt8) (a : Nat) (ha : a < l.length) (K N : Nat) (V : List UInt8) (a1 a2 a3 : Nat) (e1 e2 e3 : Int)
    (p1 : numOut (stepOut l a 0 1) = K) (q1 : stepAt l a 0 1 = a1) (r1 : stepErr l a 0 1 = e1)
    (p2 : numOut (stepOut l a1 e1 1) = N) (q2 : stepAt l a1 e1 1 = a2) (r2 : stepErr l a1 e1 1 = e2)
    (p3 : listOut (stepOut l a2 e2 N) = V) (q3 : stepAt l a2 e2 N = a3) (r3 : stepErr l a2 e2 N = e3) :
    a < a3 ∧ ((e3 = 0 ∧ K = nmb l a 1 ∧ N = nmb l (a + 1) 1 ∧ a3 = a + 2 + N ∧ V = (l.drop (a + 2)).take N ∧ a + 2 + N ≤ l.length) ∨ (e3 ≠ 0 ∧ (l.length < a + 2 ∨ l.length < a + 2 + nmb l (a + 1) 1))) := by
  obtain ⟨s1, s2, s3⟩ := step_yes (l := l) (a := a) (k := 1) (by omega)
  rw [show ((1 : Nat) : Int) = 1 from rfl] at s1 s2 s3
  rw [s1] at p1; rw [s2] at q1; rw [s3] at r1
  subst q1 r1
  by_cases k2 : a + 1 + 1 ≤ l.length
  · obtain ⟨t1, t2, t3⟩ := step_yes (l := l) (a := a + 1) (k := 1) k2
    rw [show ((1 : Nat) : Int) = 1 from rfl] at t1 t2 t3
    rw [t1] at p2; rw [t2] at q2; rw [t3] at r2
    subst q2 r2
    have eN : nmb l (a + 1) 1 = N := p2
    by_cases k3 : a + 1 + 1 + N ≤ l.length
    · obtain ⟨u1, u2, u3⟩ := step_yes (l := l) (a := a + 1 + 1) (k := N) k3
      rw [u1] at p3; rw [u2] at q3; rw [u3] at r3
      subst q3 r3
      exact ⟨by omega, .inl ⟨rfl, p1.symm, eN.symm, by omega, p3.symm, by omega⟩⟩
    · obtain ⟨u1, u2, u3⟩ := step_no (l := l) (a := a + 1 + 1) (k := N) (by omega)
      rw [u2] at q3; rw [u3] at r3
      subst q3 r3
      exact ⟨by omega, .inr ⟨by decide, .inr (by omega)⟩⟩
  · obtain ⟨t1, t2, t3⟩ := step_no (l := l) (a := a + 1) (k := 1) (by omega)
    rw [show ((1 : Nat) : Int) = 1 from rfl] at t1 t2 t3
    rw [t2] at q2; rw [t3] at r2
    subst q2 r2
    obtain ⟨u1, u2, u3⟩ := step_bad (l := l) (a := a + 1) (er := 3) (n := N) (by decide)
    rw [u2] at q3; rw [u3] at r3
    subst q3 r3
    exact ⟨by omega, .inr ⟨by decide, .inl (by omega)⟩⟩

theorem capsA_over {f : Nat} {v : List UInt8} {a : Nat} (h : v.length ≤ a) : capsA f v a = some [] := by
  cases f with
  | zero => rfl
  | succ f => rw [capsA, if_pos h]
theorem capsA_none {f : Nat} {v : List UInt8} {a : Nat} (h : a < v.length) (hf : v.length ≤ a + f) (hn : v.length < a + 2 ∨ v.length < a + 2 + nmb v (a + 1) 1) : capsA f v a = none := by
  cases f with
  | zero => omega
  | succ f =>
    rw [capsA, if_neg (by omega)]
    by_cases h2 : v.length < a + 2
    · rw [if_pos h2]
    · rw [if_neg h2, if_pos (by omega)]
theorem capsA_some {f : Nat} {v : List UInt8} {a : Nat} (h : a < v.length) (hf : v.length ≤ a + f) (hn : a + 2 + nmb v (a + 1) 1 ≤ v.length) :
    ∃ f', f = f' + 1 ∧ capsA f v a = (capsA f' v (a + 2 + nmb v (a + 1) 1)).map (⟨nmb v a 1, (v.drop (a + 2)).take (nmb v (a + 1) 1)⟩ :: ·) := by
  cases f with
  | zero => omega
  | succ f => exact ⟨f, rfl, by rw [capsA, if_neg (by omega), if_neg (by omega), if_neg (by omega)]⟩
/-- one parameter: the Sub of its fault, or its capabilities and where it ends -/
def parP (l : List UInt8) (a : Nat) : Sum Int (List Cp × Nat) :=
  if l.length < a + 2 then .inl 0 else if l.length < a + 2 + nmb l (a + 1) 1 then .inl 0 else if nmb l a 1 ≠ 2 then .inl 4
  else match capsL ((l.drop (a + 2)).take (nmb l (a + 1) 1)) with
    | none => .inl 0
    | some cs => .inr (cs, a + 2 + nmb l (a + 1) 1)
theorem parP_short {l : List UInt8} {a : Nat} (h : l.length < a + 2 ∨ l.length < a + 2 + nmb l (a + 1) 1) : parP l a = .inl 0 := by
  unfold parP
  by_cases h2 : l.length < a + 2
  · rw [if_pos h2]
  · rw [if_neg h2, if_pos (by omega)]
theorem parP_kind {l : List UInt8} {a : Nat} (h : a + 2 + nmb l (a + 1) 1 ≤ l.length) (hk : nmb l a 1 ≠ 2) : parP l a = .inl 4 := by
  unfold parP
  rw [if_neg (by omega), if_neg (by omega), if_pos hk]
theorem parP_caps {l : List UInt8} {a : Nat} (h : a + 2 + nmb l (a + 1) 1 ≤ l.length) (hk : nmb l a 1 = 2) : parP l a = match capsL ((l.drop (a + 2)).take (nmb l (a + 1) 1)) with
    | none => .inl 0
    | some cs => .inr (cs, a + 2 + nmb l (a + 1) 1) := by
  unfold parP
  rw [if_neg (by omega), if_neg (by omega), if_neg (by omega)]
theorem capInfoD : (Try.prog.info? (capLay 30).e).map (fun i => (i.zero, i.size, i.bytes)) = some (some (.agg #[.int .i64 0, .slice none 0 0]), (capLay 30).k, 32) := by kernel_rfl

set_option maxHeartbeats 4000000 in
theorem oPar_any (s F B : Nat) (sv : Value) (l : List UInt8) (a : Nat) (w : World) (hs : SrcB w s sv l a 0) (ha : a < l.length) (hf : FaultAt w F B noFt) (hFB : F < B) (hsF : s ≠ F) (hvF : sv.ownBlock ≠ some F) (hl : (l.length : Int) ≤ 1000000) :
    Calls Try.prog 38 #[.pointer (some ⟨s, 0, none⟩), .func (.func 34) #[] #[.pointer (some ⟨F, 0, none⟩)]] w fun e w' => ∃ (v : Value) (xs : List (Cp × Sl)) (b : Nat) (er : Int), e = .returned v ∧ Rs (capLay 30) w' v xs ∧
      (∀ x, x ∈ xs → Bs w' (cvV x.1 x.2) x.1.value ∧ ∀ g, (cvV x.1 x.2).ownBlock = some g → w.heap.size ≤ g ∧ g < w'.heap.size) ∧ Kept [s, F] w w' ∧ SrcB w' s sv l b er ∧ a < b ∧ xs.length ≤ l.length ∧
      ((∃ sub, parP l a = .inl sub ∧ FaultAt w' F B ⟨2, sub, []⟩) ∨ (parP l a = .inr (xs.map (·.1), b) ∧ er = 0 ∧ FaultAt w' F B noFt)) := by
  have HFw : Hid (F < w.heap.size) := by obtain ⟨vd, h1, _⟩ := hf; exact (Array.getElem?_eq_some_iff.1 h1).1
  have HFB : Hid (F < B) := hFB
  have HSB : Hid (s < w.heap.size) := hs.src.lt
  have HSL : Hid (∀ g, sv.ownBlock = some g → g < w.heap.size) := hs.lt
  have HSF : Hid (s ≠ F) := hsF
  have HVF : Hid (sv.ownBlock ≠ some F) := hvF
  have HS := Lib.hid hs
  have HFA := Lib.hid hf
  have HK := Lib.hid (Kept.refl [s, F] w)
  have HAL : Hid (a < l.length) := ha
  have HLL : Hid ((l.length : Int) ≤ 1000000) := hl
  clear hs hf hsF hvF hFB ha hl
  go_enter Try.func38, Try.ntmps38
  go_wp2_with fail
  refine (U8_made s sv l a 0 _ HS.out).mono ?_
  rintro e w1 ⟨rfl, hm, hsr⟩
  obtain ⟨K, hK⟩ : ∃ x, numOut (stepOut l a 0 1) = x := ⟨_, rfl⟩
  obtain ⟨a1, ha1⟩ : ∃ x, stepAt l a 0 1 = x := ⟨_, rfl⟩
  obtain ⟨e1, he1⟩ : ∃ x, stepErr l a 0 1 = x := ⟨_, rfl⟩
  rw [ha1, he1] at hsr
  rw [hK]
  have HQ1 := Lib.hid (And.intro hK (And.intro ha1 he1))
  replace HS := Lib.hid hsr
  replace HFA := Lib.hid (HFA.out.modE rfl hm HSF.out.symm)
  replace HK := Lib.hid (HK.out.mod hm (.inl (by simp)))
  clear hm hsr hK ha1 he1
  go_wp2_with fail
  refine (U8_made s sv l a1 e1 _ HS.out).mono ?_
  rintro e w2 ⟨rfl, hm, hsr⟩
  obtain ⟨N, hN⟩ : ∃ x, numOut (stepOut l a1 e1 1) = x := ⟨_, rfl⟩
  obtain ⟨a2, ha2⟩ : ∃ x, stepAt l a1 e1 1 = x := ⟨_, rfl⟩
  obtain ⟨e2, he2⟩ : ∃ x, stepErr l a1 e1 1 = x := ⟨_, rfl⟩
  rw [ha2, he2] at hsr
  rw [hN]
  have HQ2 := Lib.hid (And.intro hN (And.intro ha2 he2))
  replace HS := Lib.hid hsr
  replace HFA := Lib.hid (HFA.out.modE rfl hm HSF.out.symm)
  replace HK := Lib.hid (HK.out.mod hm (.inl (by simp)))
  clear hm hsr hN ha2 he2
  go_wp2_with fail
  refine (Sub_made s sv l a2 e2 N _ HS.out).mono ?_
  rintro e w3 ⟨t, tv, rfl, hlt, hin, hm, hsr, hown⟩
  obtain ⟨V, hV⟩ : ∃ x, listOut (stepOut l a2 e2 N) = x := ⟨_, rfl⟩
  obtain ⟨a3, ha3⟩ : ∃ x, stepAt l a2 e2 N = x := ⟨_, rfl⟩
  obtain ⟨e3, he3⟩ : ∃ x, stepErr l a2 e2 N = x := ⟨_, rfl⟩
  rw [ha3, he3] at hsr
  rw [hV] at hin
  have hst := two_steps l a HAL.out K N V a1 a2 a3 e1 e2 e3 HQ1.out.1 HQ1.out.2.1 HQ1.out.2.2 HQ2.out.1 HQ2.out.2.1 HQ2.out.2.2 hV ha3 he3
  have HST := Lib.hid hst
  have HTW : Hid (w.heap.size ≤ t) := Nat.le_trans HK.out.size hlt
  replace HS := Lib.hid hsr
  replace HFA := Lib.hid (HFA.out.modE rfl hm HSF.out.symm)
  replace HK := Lib.hid (HK.out.mod hm (.inl (by simp)))
  have HIN := Lib.hid hin
  have HOW : Hid (∀ g, tv.ownBlock = some g → sv.ownBlock = some g) := hown
  clear hm hsr hV ha3 he3 hst hin hlt hown HQ1 HQ2
  go_wp2_with fail
  refine (err_made s sv a3 e3 w3 HS.out.src).mono ?_
  rintro e w4 ⟨rfl, rfl⟩
  by_cases g3 : e3 = 0
  case neg =>
    have g3' : (e3 == 0) = false := by simpa using g3
    have hpp : parP l a = .inl 0 := by
      rcases HST.out.2 with h | h
      · exact absurd h.1 g3
      · exact parP_short h.2
    have HPP := Lib.hid hpp
    clear hpp g3
    go_wp2_with fail
    refine (oMust_any F B noFt false 0 none 0 0 [] _ HFA.out (Bs.nil _) (fun g hg => by simp [Value.ownBlock] at hg) HFB.out).mono ?_
    rw [mustF_first]
    rintro e w5 ⟨rfl, hf5, hm5⟩
    have HF5 := Lib.hid hf5
    have HS5 := Lib.hid (HS.out.other hm5 HSF.out HVF.out)
    have HK5 := Lib.hid (HK.out.mod hm5 (.inl (by simp)))
    clear hf5 hm5 g3'
    go_wp2_with fail
    go_ret
    exact ⟨_, [], a3, e3, rfl, Rs.nil _ _, (fun x hx => by cases hx), HK5.out, HS5.out, HST.out.1, Nat.zero_le _, .inl ⟨0, HPP.out, HF5.out⟩⟩
  subst g3
  have hq5 : K = nmb l a 1 ∧ N = nmb l (a + 1) 1 ∧ a3 = a + 2 + N ∧ V = (l.drop (a + 2)).take N ∧ a + 2 + N ≤ l.length := by
    rcases HST.out.2 with h | h
    · exact h.2
    · exact absurd rfl h.1
  have HQ5 := Lib.hid hq5
  have HAA := HST.out.1
  have HA3 := Lib.hid HAA
  clear HST HAA hq5
  go_wp2_with fail
  refine (oMust_any F B noFt true 0 none 0 0 [] _ HFA.out (Bs.nil _) (fun g hg => by simp [Value.ownBlock] at hg) HFB.out).mono ?_
  rw [mustF_yes]
  rintro e w5 ⟨rfl, hf5, hm5⟩
  replace HFA := Lib.hid hf5
  replace HS := Lib.hid (HS.out.other hm5 HSF.out HVF.out)
  replace HK := Lib.hid (HK.out.mod hm5 (.inl (by simp)))
  replace HIN := Lib.hid (HIN.out.other hm5 (by have := HTW.out; have := HFw.out; omega) (fun he => HVF.out (HOW.out _ he)))
  have hn0 : (noFt.code == 0) = true := rfl
  rw [hn0]
  clear hf5 hm5 hn0
  by_cases g4 : K = 2
  case neg =>
    have g4' : ((K : Int) == 2) = false := by simp; omega
    have hpp : parP l a = .inl 4 := by
      obtain ⟨hK1, hN1, hA3, hV1, hle⟩ := HQ5.out
      exact parP_kind (by omega) (by omega)
    have HPP := Lib.hid hpp
    clear hpp g4
    go_wp2_with fail
    refine (oMust_any F B noFt false 4 none 0 0 [] _ HFA.out (Bs.nil _) (fun g hg => by simp [Value.ownBlock] at hg) HFB.out).mono ?_
    rw [mustF_first]
    rintro e w6 ⟨rfl, hf6, hm6⟩
    have HF6 := Lib.hid hf6
    have HS6 := Lib.hid (HS.out.other hm6 HSF.out HVF.out)
    have HK6 := Lib.hid (HK.out.mod hm6 (.inl (by simp)))
    clear hf6 hm6 g4'
    go_wp2_with fail
    go_ret
    exact ⟨_, [], a3, 0, rfl, Rs.nil _ _, (fun x hx => by cases hx), HK6.out, HS6.out, HA3.out, Nat.zero_le _, .inl ⟨4, HPP.out, HF6.out⟩⟩
  have g4' : ((K : Int) == 2) = true := by simp; omega
  have hpp : parP l a = match capsL V with
    | none => .inl 0
    | some cs => .inr (cs, a3) := by
    obtain ⟨hK1, hN1, hA3, hV1, hle⟩ := HQ5.out
    rw [parP_caps (by omega) (by omega), ← hN1, hV1, hA3]
  have hVL : V.length ≤ l.length := by
    obtain ⟨hK1, hN1, hA3, hV1, hle⟩ := HQ5.out
    rw [hV1, List.length_take, List.length_drop]; omega
  have HPP := Lib.hid hpp
  have HVL := Lib.hid hVL
  clear hpp g4 hVL
  go_wp2_with fail
  refine (oMust_any F B noFt true 4 none 0 0 [] _ HFA.out (Bs.nil _) (fun g hg => by simp [Value.ownBlock] at hg) HFB.out).mono ?_
  rw [mustF_yes]
  rintro e W ⟨rfl, hf6, hm6⟩
  replace HFA := Lib.hid hf6
  replace HS := Lib.hid (HS.out.other hm6 HSF.out HVF.out)
  replace HK := Lib.hid (HK.out.mod hm6 (.inl (by simp)))
  replace HIN := Lib.hid (HIN.out.other hm6 (by have := HTW.out; have := HFw.out; omega) (fun he => HVF.out (HOW.out _ he)))
  have hn0 : (noFt.code == 0) = true := rfl
  rw [hn0]
  clear hf6 hm6 hn0 g4'
  have HTL : Hid (t < W.heap.size) := HIN.out.src.lt
  obtain ⟨R, hR⟩ : ∃ R, capsL V = R := ⟨_, rfl⟩
  have HR := Lib.hid hR
  rw [hR] at HPP
  clear hR
  go_wp2_with fail
  go_loopw [7] (fun lv wr => ∃ (b f : Nat) (er : Int) (xs : List (Cp × Sl)), SrcB wr t tv V b er ∧ OwnR (capLay 30) wr W.heap.size lv xs ∧
    (∀ x, x ∈ xs → Bs wr (cvV x.1 x.2) x.1.value ∧ ∀ g, (cvV x.1 x.2).ownBlock = some g → W.heap.size ≤ g ∧ g < wr.heap.size ∧ lv.ownBlock ≠ some g) ∧
    Kept [t] W wr ∧ V.length ≤ b + f ∧ xs.length ≤ b ∧ ((er = 0 ∧ (capsA f V b).map (xs.map (·.1) ++ ·) = R) ∨ (er ≠ 0 ∧ R = none))) (fun _ wr => V.length - posW wr t 2)
  case atStart => exact ⟨0, V.length, 0, [], HIN.out, OwnR.nil _ _ _, (fun x h => by cases h), Kept.refl _ _, by omega, by simp, .inl ⟨rfl, by rw [← HR.out]; unfold capsL; simp⟩⟩
  case round =>
    obtain ⟨b, f, er, xs, hsr, hov, hxb, hkp, hf, hxa, hrr⟩ := hrel
    have HSR := Lib.hid hsr
    have HOV := Lib.hid hov
    have HXB := Lib.hid hxb
    have HKP := Lib.hid hkp
    have HXA : Hid (xs.length ≤ b) := hxa
    have hpos := hsr.posO
    rw [hpos]
    have hle := hsr.le
    have HLf := Lib.hid (Left_made t tv V b er wr HSR.out)
    have HBL : Hid (b ≤ V.length) := hle
    have HFU : Hid (V.length ≤ b + f) := hf
    have HRR := Lib.hid hrr
    clear hsr hov hxb hkp hpos hxa hle hf hrr
    by_cases hend : er = 0 ∧ b < V.length
    case neg =>
      have hlf : (if er = 0 then (V.length : Int) - b else 0) = 0 := by
        by_cases h : er = 0
        · rw [if_pos h]; have := HBL.out; omega
        · rw [if_neg h]
      rw [hlf] at HLf
      have hres : (er = 0 ∧ R = some (xs.map (·.1))) ∨ (er ≠ 0 ∧ R = none) := by
        rcases HRR.out with h | h
        · refine .inl ⟨h.1, ?_⟩
          rw [← h.2, capsA_over (by have := HBL.out; omega)]
          simp
        · exact .inr h
      have HRS := Lib.hid hres
      clear hlf hres hend
      go_wp2_with fail
      refine HLf.out.mono ?_
      rintro e u1 ⟨rfl, hs1⟩
      have HU := Lib.hid hs1
      have HIN1 := Lib.hid (HSR.out.same hs1)
      have HK1 := Lib.hid (HKP.out.same hs1)
      clear hs1 HLf
      go_wp2_with fail
      refine (err_made t tv b er u1 HIN1.out.src).mono ?_
      rintro e u2 ⟨rfl, rfl⟩
      have hFA1 : FaultAt u1 F B noFt := HFA.out.keptE rfl HK1.out (by have := HTW.out; have := HFw.out; simp; omega)
      have hS1 : SrcB u1 s sv l a3 0 := HS.out.keptO HK1.out (by have := HTW.out; have := HSB.out; simp; omega) (fun g hg => by have := HTW.out; have := HSL.out g hg; simp; omega)
      have HFA1 := Lib.hid hFA1
      have HS1 := Lib.hid hS1
      have HK2 : Hid (Kept [s, F] w u1) := ⟨HK1.out.os.trans HK.out.os, HK1.out.tape.trans HK.out.tape, HK1.out.output.trans HK.out.output, Nat.le_trans HK.out.size HK1.out.size, fun i hi hn => (HK1.out.block i (Nat.lt_of_lt_of_le hi HK.out.size) (by have := HTW.out; simp; omega)).trans (HK.out.block i hi hn)⟩
      clear hFA1 hS1
      obtain ⟨bE, hbE⟩ : ∃ x, (er == 0) = x := ⟨_, rfl⟩
      have HBE := Lib.hid hbE
      go_wp2_with fail
      clear hbE
      refine (oMust_any F B noFt bE 0 none 0 0 [] _ HFA1.out (Bs.nil _) (fun g hg => by simp [Value.ownBlock] at hg) HFB.out).mono ?_
      rintro e u3 ⟨rfl, hf3, hm3⟩
      have HF3 := Lib.hid hf3
      have HM3 := Lib.hid hm3
      have HS3 := Lib.hid (HS1.out.other hm3 HSF.out HVF.out)
      have HK3 := Lib.hid (HK2.out.mod hm3 (.inl (by simp)))
      clear hf3 hm3
      go_wp2_with fail
      go_ret
      have hMk : Kept [F] u1 u3 := (Kept.refl [F] u1).mod HM3.out (.inl (by simp))
      have hWl : F < W.heap.size := Nat.lt_of_lt_of_le HFw.out HK.out.size
      refine ⟨_, xs, a3, 0, rfl, ((HOV.out.same HU.out).kept hMk (fun g hg => by have := (HOV.out.lt g hg).1; simp; omega)).rs, fun x hx => ?_, HK3.out, HS3.out, HA3.out, by have := HXA.out; have := HBL.out; have := HVL.out; omega, ?_⟩
      · obtain ⟨b1, b2⟩ := HXB.out x hx
        refine ⟨(b1.same HU.out).kept hMk (fun g hg => by have := (b2 g hg).1; simp; omega), fun g hg => ?_⟩
        have h1 := (b2 g hg).1
        have h2 := (b2 g hg).2.1
        have h3 := HK.out.size
        have h4 := HU.out.size
        have h5 := HM3.out.size
        exact ⟨by omega, by omega⟩
      · rcases HRS.out with ⟨h1, h2⟩ | ⟨h1, h2⟩
        · have hb : bE = true := by rw [← HBE.out, h1]; rfl
          have h3 := HF3.out
          rw [hb, mustF_yes] at h3
          exact .inr ⟨by rw [HPP.out, h2], rfl, h3⟩
        · have hb : bE = false := by rw [← HBE.out]; simpa using h1
          have h3 := HF3.out
          rw [hb, mustF_first] at h3
          exact .inl ⟨0, by rw [HPP.out, h2], h3⟩
    obtain ⟨rfl, hb1⟩ := hend
    have hrr : (capsA f V b).map (xs.map (·.1) ++ ·) = R := by
      rcases HRR.out with h | h
      · exact h.2
      · exact absurd rfl h.1
    replace HRR := Lib.hid hrr
    have HB1 : Hid (b < V.length) := hb1
    have hlf : (if (0 : Int) = 0 then (V.length : Int) - b else 0) = (V.length : Int) - b := if_pos rfl
    rw [hlf] at HLf
    have hpos : (0 : Int) < (V.length : Int) - b := by omega
    clear hlf hrr hb1
    go_wp2_with fail
    refine HLf.out.mono ?_
    rintro e u1 ⟨rfl, hs1⟩
    replace HSR := Lib.hid (HSR.out.same hs1)
    have HKr := Lib.hid ((Kept.refl [t] wr).same hs1)
    clear hs1 HLf
    go_wp2_with fail
    clear hpos
    refine (U8_made t tv V b 0 _ HSR.out).mono ?_
    rintro e u2 ⟨rfl, hm, hsr⟩
    obtain ⟨C, hC⟩ : ∃ x, numOut (stepOut V b 0 1) = x := ⟨_, rfl⟩
    obtain ⟨b1, hb1⟩ : ∃ x, stepAt V b 0 1 = x := ⟨_, rfl⟩
    obtain ⟨d1, hd1⟩ : ∃ x, stepErr V b 0 1 = x := ⟨_, rfl⟩
    rw [hb1, hd1] at hsr
    rw [hC]
    have HQ1 := Lib.hid (And.intro hC (And.intro hb1 hd1))
    replace HSR := Lib.hid hsr
    replace HKr := Lib.hid (HKr.out.mod hm (.inl (by simp)))
    clear hm hsr hC hb1 hd1
    go_wp2_with fail
    refine (U8_made t tv V b1 d1 _ HSR.out).mono ?_
    rintro e u3 ⟨rfl, hm, hsr⟩
    obtain ⟨M, hM⟩ : ∃ x, numOut (stepOut V b1 d1 1) = x := ⟨_, rfl⟩
    obtain ⟨b2, hb2⟩ : ∃ x, stepAt V b1 d1 1 = x := ⟨_, rfl⟩
    obtain ⟨d2, hd2⟩ : ∃ x, stepErr V b1 d1 1 = x := ⟨_, rfl⟩
    rw [hb2, hd2] at hsr
    rw [hM]
    have HQ2 := Lib.hid (And.intro hM (And.intro hb2 hd2))
    replace HSR := Lib.hid hsr
    replace HKr := Lib.hid (HKr.out.mod hm (.inl (by simp)))
    clear hm hsr hM hb2 hd2
    go_wp2_with fail
    refine (Bytes_made t tv V b2 d2 M _ HSR.out (by have := HVL.out; have := HLL.out; omega)).mono ?_
    rintro e u4 ⟨vv, rfl, ho, hm, hsr⟩
    obtain ⟨X, hX⟩ : ∃ x, listOut (stepOut V b2 d2 M) = x := ⟨_, rfl⟩
    obtain ⟨b3, hb3⟩ : ∃ x, stepAt V b2 d2 M = x := ⟨_, rfl⟩
    obtain ⟨d3, hd3⟩ : ∃ x, stepErr V b2 d2 M = x := ⟨_, rfl⟩
    rw [hb3, hd3] at hsr
    rw [hX] at ho
    have hst := two_steps V b HB1.out C M X b1 b2 b3 d1 d2 d3 HQ1.out.1 HQ1.out.2.1 HQ1.out.2.2 HQ2.out.1 HQ2.out.2.1 HQ2.out.2.2 hX hb3 hd3
    have HST := Lib.hid hst
    have HU3 : Hid (wr.heap.size ≤ u3.heap.size) := HKr.out.size
    replace HSR := Lib.hid hsr
    replace HKr := Lib.hid (HKr.out.mod hm (.inl (by simp)))
    have HO := Lib.hid ho
    obtain ⟨m, hm'⟩ : ∃ m, X.length = m := ⟨_, rfl⟩
    have HXM := Lib.hid hm'
    obtain ⟨so, sc, rfl⟩ : ∃ so sc, vv = .slice so m sc := by
      obtain ⟨ao, cp, hv, -, -, -, -⟩ := ho.bs
      exact ⟨ao, cp, by rw [hv, hm']⟩
    clear hm hsr hX hb3 hd3 hst ho HQ1 HQ2 hm'
    have HX1 : Hid (Rs (capLay 30) (u4.alloc (.cells #[.int .i64 (C : Int), .slice so m sc] 30)) (.slice (some ⟨u4.heap.size, 0, none⟩) 1 1) [((⟨C, X⟩, ⟨so, sc⟩) : Cp × Sl)]) :=
      Rs.one (capLay 30) u4 ((⟨C, X⟩, ⟨so, sc⟩) : Cp × Sl) #[.int .i64 (C : Int), .slice so m sc] (by show _ = [_, Value.slice so X.length sc]; rw [HXM.out])
    have HAA := Lib.hid (Same.alloc u4 (.cells #[.int .i64 (C : Int), .slice so m sc] 30))
    have HK9 := Lib.hid (HKr.out.same HAA.out)
    have HOVb : Hid (∀ g, u7.ownBlock = some g → W.heap.size ≤ g ∧ g < wr.heap.size) := HOV.out.lt
    have HOV9 := Lib.hid (HOV.out.kept HK9.out (fun g hg => by have := (HOVb.out g hg).1; have := HTL.out; simp; omega))
    have HLn : Hid (xs.length + [((⟨C, X⟩, ⟨so, sc⟩) : Cp × Sl)].length ≤ 1099511627776) := by have := HXA.out; have := HBL.out; have := HVL.out; have := HLL.out; show _ ≤ _; simp; omega
    have HSZ : Hid (W.heap.size ≤ (u4.alloc (.cells #[.int .i64 (C : Int), .slice so m sc] 30)).heap.size) := Nat.le_trans HKP.out.size HK9.out.size
    have HSR9 := Lib.hid (HSR.out.same HAA.out)
    have HO9 := Lib.hid (HO.out.same HAA.out)
    have HSX : Hid ((u4.alloc (.cells #[.int .i64 (C : Int), .slice so m sc] 30)).heap.size = u4.heap.size + 1) := by show _ = _; simp
    have HT3 : Hid (t < wr.heap.size) := Nat.lt_of_lt_of_le HTL.out HKP.out.size
    go_wp2_with (at_builtin; refine wpList_append_r2 (capLay 30) Try.underlying23 capInfoD rfl (by decide) (by decide) rfl _ _ rfl W.heap.size HSZ.out u7 xs rfl HOV9.out _ [((⟨C, X⟩, ⟨so, sc⟩) : Cp × Sl)] rfl HX1.out HLn.out ?_; intro v9 w9 ho9 hg9 hl9)
    have HKg : Kept (u7.ownBlock.toList) (u4.alloc (.cells #[.int .i64 (C : Int), .slice so m sc] 30)) w9 := (Kept.refl _ _).grown hg9 (fun s hs => .inl (by rw [hs]; simp))
    have hrow : ∀ g, g ∈ u7.ownBlock.toList → W.heap.size ≤ g ∧ g < wr.heap.size := fun g hg => HOVb.out g (by simpa using hg)
    have hsrc9 : SrcB w9 t tv V b3 d3 := HSR9.out.keptO HKg (fun h => by have := (hrow _ h).1; have := HTL.out; omega) (fun g hg h => by have := (hrow _ h).1; have := HSL.out g (HOW.out g hg); have := HK.out.size; omega)
    have hpos := hsrc9.posO
    have hres : ∃ f', V.length ≤ b3 + f' ∧ ((d3 = 0 ∧ (capsA f' V b3).map ((xs ++ [((⟨C, X⟩, ⟨so, sc⟩) : Cp × Sl)]).map (·.1) ++ ·) = R) ∨ (d3 ≠ 0 ∧ R = none)) := by
      obtain ⟨z1, z2⟩ := HST.out
      rcases z2 with ⟨y0, y1, y2, y3, y4, y5⟩ | ⟨y0, y1⟩
      · rw [y2] at y5 y3 y4
        obtain ⟨f', hf', hc⟩ := capsA_some (f := f) HB1.out HFU.out y5
        refine ⟨f', by have := HFU.out; omega, .inl ⟨y0, ?_⟩⟩
        rw [← HRR.out, hc, Option.map_map, ← y3, ← y4, ← y1]
        congr 1
        funext ys
        simp
      · exact ⟨V.length, by omega, .inr ⟨y0, by rw [← HRR.out, capsA_none HB1.out HFU.out y1]; rfl⟩⟩
    obtain ⟨f', hf', hres⟩ := hres
    have hbb := HST.out.1
    refine ⟨⟨b3, f', d3, xs ++ [(⟨C, X⟩, ⟨so, sc⟩)], hsrc9, ho9, fun x hx => ?_, (HKP.out.trans HK9.out).grown hg9 (fun s hs => .inr (HOVb.out s hs).1), hf', by have := HXA.out; simp; omega, hres⟩, by rw [hpos]; have := HB1.out; omega⟩
    rcases List.mem_append.1 hx with hx | hx
    · obtain ⟨z1, z2⟩ := HXB.out x hx
      refine ⟨(z1.kept HK9.out (fun g hg => ?_)).kept HKg (fun g hg h => ?_), fun g hg => ?_⟩
      · have := (z2 g hg).1; have := HTL.out; simp; omega
      · exact (z2 g hg).2.2 (by simpa using h)
      · obtain ⟨q1, q2, q3⟩ := z2 g hg
        have hz1 := HK9.out.size
        refine ⟨q1, by have := hg9.size; omega, fun he => ?_⟩
        rcases hl9 with h | h
        · exact q3 (h ▸ he)
        · rw [h] at he; have := Option.some.inj he; omega
    · obtain rfl : x = (⟨C, X⟩, ⟨so, sc⟩) := by simpa using hx
      have hb := HO9.out.bs
      rw [← HXM.out] at hb
      have hlt := HO.out.lt
      rw [← HXM.out] at hlt
      refine ⟨hb.kept (HXM.out ▸ HKg) (fun g hg h => ?_), fun g hg => ?_⟩
      · have := (hrow g h).2; have := (hlt g hg).1; have := HU3.out; omega
      · obtain ⟨q1, q2⟩ := hlt g hg
        have h1 := HU3.out
        have h2 := HKP.out.size
        have h3 := hg9.size
        have h4 := HSX.out
        refine ⟨by omega, by omega, fun he => ?_⟩
        rcases hl9 with h | h
        · rw [h] at he; have := (HOVb.out g he).2; omega
        · rw [h] at he; have := Option.some.inj he; omega
end Go.Proofs.Ytidijoncngfppaa
