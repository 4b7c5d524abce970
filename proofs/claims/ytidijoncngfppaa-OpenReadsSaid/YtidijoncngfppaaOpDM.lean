/- The developers' layer 8: the closure that keeps the first fault; a body's numbers. No condition beyond what each names. -/
import Derived.Test.YtidijoncngfppaaOpDG
import Derived.Test.YtidijoncngfppaaAtRQ
import Derived.Test.YtidijoncngfppaaOpRB
import Derived.Test.YtidijoncngfppaaTake
namespace Go.Proofs.Ytidijoncngfppaa
open Go.RowKit
set_option linter.unusedVariables false
set_option maxRecDepth 100000

/-- the fault that block F holds; its data lie above B -/
def FaultAt (w : World) (F B : Nat) (f : Ft) : Prop := ∃ vd, w.heap[F]? = some (ftO 44 f vd) ∧ Bs w vd f.data ∧ ∀ g, vd.ownBlock = some g → B ≤ g
theorem FaultAt.same {w w' : World} {F B : Nat} {f : Ft} (hs : Same w w') (h : FaultAt w F B f) : FaultAt w' F B f := by
  obtain ⟨vd, h1, h2, h3⟩ := h
  exact ⟨vd, hs.block h1, h2.same hs, h3⟩
theorem FaultAt.mod {w w' : World} {F B s : Nat} {f : Ft} (hs : Mod s w w') (hF : F ≠ s) (hB : s < B) (h : FaultAt w F B f) : FaultAt w' F B f := by
  obtain ⟨vd, h1, h2, h3⟩ := h
  exact ⟨vd, (hs.block F (Array.getElem?_eq_some_iff.1 h1).1 hF).trans h1, h2.mod hs (fun e => by have := h3 _ e; omega), h3⟩
theorem FaultAt.zero {w : World} {F B : Nat} (h : w.heap[F]? = some (zeroFt 44)) : FaultAt w F B noFt := ⟨.slice none 0 0, h, Bs.nil w, fun g hg => by simp [Value.ownBlock] at hg⟩

/-- a fault is kept, if it is the first -/
def mustF (f : Ft) (well : Bool) (sub : Int) (data : List UInt8) : Ft := if well = false ∧ f.code = 0 then ⟨2, sub, data⟩ else f
theorem mustF_yes (f : Ft) (sub : Int) (data : List UInt8) : mustF f true sub data = f := by unfold mustF; rw [if_neg (by simp)]
theorem mustF_old {f : Ft} (h : f.code ≠ 0) (well : Bool) (sub : Int) (data : List UInt8) : mustF f well sub data = f := by unfold mustF; rw [if_neg (fun hx => h hx.2)]
theorem mustF_two (a : Int) (d : List UInt8) (well : Bool) (sub : Int) (data : List UInt8) : mustF ⟨2, a, d⟩ well sub data = ⟨2, a, d⟩ := mustF_old (by simp) well sub data
theorem mustF_first (sub : Int) (data : List UInt8) : mustF noFt false sub data = ⟨2, sub, data⟩ := by unfold mustF; rw [if_pos ⟨rfl, rfl⟩]
theorem mustF_no {f : Ft} (h : f.code = 0) (sub : Int) (data : List UInt8) : mustF f false sub data = ⟨2, sub, data⟩ := by unfold mustF; rw [if_pos ⟨rfl, h⟩]

set_option maxHeartbeats 1000000 in
theorem oMust_any (F B : Nat) (f : Ft) (well : Bool) (sub : Int) (ao : Option Addr) (n cap : Nat) (data : List UInt8) (w : World) (hf : FaultAt w F B f) (hx : Bs w (.slice ao n cap) data) (hn : ∀ g, (Value.slice ao n cap).ownBlock = some g → B ≤ g) (hFB : F < B) :
    Calls Try.prog 34 #[.bool well, .int .i64 sub, .slice ao n cap, .pointer (some ⟨F, 0, none⟩)] w fun e w' => e = .returned (.bool ((mustF f well sub data).code == 0)) ∧ FaultAt w' F B (mustF f well sub data) ∧ Mod F w w' := by
  obtain ⟨vd, h1, h2, h3⟩ := hf
  obtain ⟨c0, c1, c2⟩ := FtAt.of h1
  cases well
  · by_cases hc : f.code = 0
    · rw [mustF_no hc]
      have hQ := sets_cells F 44 [.int .i64 2, .int .i64 sub, .slice ao n cap] w [] [.int .i64 f.code, .int .i64 f.sub, vd] h1 rfl
      dsimp only [setsC, Nat.reduceAdd, List.length_nil, List.nil_append] at hQ
      obtain ⟨y0, y1, y2⟩ := FtAt.of (f := ⟨2, sub, data⟩) (vd := .slice ao n cap) hQ.2
      have hfz := nofr h1
      have HQ := Lib.hid hQ
      have HX := Lib.hid hx
      have HN := Lib.hid hn
      rw [hc] at c0
      clear hQ h1 h2 h3 hx hn
      go_enter Try.func34, Try.ntmps34
      go_wp2_with fail
      go_ret
      exact ⟨rfl, ⟨_, HQ.out.2, HX.out.mod HQ.out.1 (fun e => by have := HN.out _ e; omega), HN.out⟩, HQ.out.1⟩
    · rw [mustF_old hc]
      have hc' : (f.code == 0) = false := by simpa using hc
      have H1 := Lib.hid h1
      have H2 := Lib.hid h2
      have H3 := Lib.hid h3
      rw [hc']
      clear h1 h2 h3 hx hn hc
      go_enter Try.func34, Try.ntmps34
      go_wp2_with fail
      go_ret
      exact ⟨rfl, ⟨_, H1.out, H2.out, H3.out⟩, Mod.refl _ _⟩
  · rw [mustF_yes]
    have H1 := Lib.hid h1
    have H2 := Lib.hid h2
    have H3 := Lib.hid h3
    clear h1 h2 h3 hx hn
    go_enter Try.func34, Try.ntmps34
    go_wp2_with fail
    go_ret
    exact ⟨rfl, ⟨_, H1.out, H2.out, H3.out⟩, Mod.refl _ _⟩

/-- the first fault of a body's numbers -/
def headF (l : List UInt8) (asn : Int) : Ft := if l.length < 10 then ⟨2, 0, []⟩ else if nmb l 0 1 ≠ 4 then ⟨2, 1, [0, 4]⟩ else if numF l asn ≠ -1 then ⟨2, numF l asn, []⟩ else noFt
/-- what the code asks, one by one -/
def asksF (er : Int) (K A H I N : Nat) (asn : Int) (lf : Int) : Ft :=
  mustF (mustF (mustF (mustF (mustF (mustF noFt (er == 0) 0 []) ((K : Int) == 4) 1 [0, 4]) (decide (A ≠ 0 ∧ (asn < 1 ∨ (A : Int) = asn))) 2 []) (decide ((H : Int) = 0 ∨ (3 ≤ (H : Int) ∧ (H : Int) ≤ 65535))) 6 []) ((I : Int) != 0) 3 []) (lf == (N : Int)) 0 []
theorem asksF_err {er : Int} (h : er ≠ 0) (K A H I N : Nat) (asn lf : Int) : asksF er K A H I N asn lf = ⟨2, 0, []⟩ := by
  unfold asksF
  rw [show (er == 0) = false from by simpa using h, mustF_first]
  simp only [mustF_two]
theorem asksF_head (l : List UInt8) (asn : Int) (h : 10 ≤ l.length) : asksF 0 (nmb l 0 1) (nmb l 1 2) (nmb l 3 2) (nmb l 5 4) (nmb l 9 1) asn ((l.length : Int) - 10) = headF l asn := by
  have hH : nmb l 3 2 < 65536 := nmb_lt l 3 2
  unfold asksF headF numF
  rw [if_neg (by omega), show ((0 : Int) == 0) = true from rfl, mustF_yes]
  generalize nmb l 0 1 = K at *
  generalize nmb l 1 2 = A at *
  generalize nmb l 3 2 = H at *
  generalize nmb l 5 4 = I at *
  generalize nmb l 9 1 = N at *
  by_cases k1 : K = 4
  case neg =>
    rw [if_pos k1, show ((K : Int) == 4) = false from by simp; omega, mustF_first]
    simp only [mustF_two]
  rw [if_neg (by omega), show ((K : Int) == 4) = true from by simp; omega, mustF_yes]
  by_cases k2 : A = 0 ∨ (1 ≤ asn ∧ (A : Int) ≠ asn)
  · rw [if_pos k2, if_pos (by decide), decide_eq_false (by omega), mustF_first]
    simp only [mustF_two]
  rw [if_neg k2, decide_eq_true (by omega), mustF_yes]
  by_cases k3 : H = 1 ∨ H = 2
  · rw [if_pos k3, if_pos (by decide), decide_eq_false (by omega), mustF_first]
    simp only [mustF_two]
  rw [if_neg k3, decide_eq_true (by omega), mustF_yes]
  by_cases k4 : I = 0
  · rw [if_pos k4, if_pos (by decide), show ((I : Int) != 0) = false from by simp; omega, mustF_first]
    simp only [mustF_two]
  rw [if_neg k4, show ((I : Int) != 0) = true from by simp; omega, mustF_yes]
  by_cases k5 : (N : Int) ≠ l.length - 10
  · rw [if_pos k5, if_pos (by decide), show (((l.length : Int) - 10) == (N : Int)) = false from by simp; omega, mustF_first]
  · rw [if_neg k5, if_neg (by decide), show (((l.length : Int) - 10) == (N : Int)) = true from by simp; omega, mustF_yes]

/-- five numbers out of fewer bytes than they need -/
theorem short_err (l : List UInt8) (h : l.length < 10) (a1 a2 a3 a4 a5 : Nat) (e1 e2 e3 e4 e5 : Int) (h1 : stepAt l 0 0 1 = a1) (k1 : stepErr l 0 0 1 = e1) (h2 : stepAt l a1 e1 2 = a2) (k2 : stepErr l a1 e1 2 = e2)
    (h3 : stepAt l a2 e2 2 = a3) (k3 : stepErr l a2 e2 2 = e3) (h4 : stepAt l a3 e3 4 = a4) (k4 : stepErr l a3 e3 4 = e4) (h5 : stepAt l a4 e4 1 = a5) (k5 : stepErr l a4 e4 1 = e5) : e5 ≠ 0 := by
  have st : ∀ (a : Nat) (er : Int) (k : Nat), (er = 0 ∧ a + k ≤ l.length ∧ stepErr l a er k = 0 ∧ stepAt l a er k = a + k) ∨ stepErr l a er k ≠ 0 := by
    intro a er k
    by_cases he : er = 0
    · subst he
      by_cases hl : a + k ≤ l.length
      · obtain ⟨_, q2, q3⟩ := step_yes hl
        exact .inl ⟨rfl, hl, q3, q2⟩
      · obtain ⟨_, _, q3⟩ := step_no (l := l) (a := a) (k := k) (by omega)
        exact .inr (by rw [q3]; decide)
    · exact .inr (by rw [(step_bad he).2.2]; exact he)
  intro h0
  rcases st a4 e4 1 with ⟨z4, g5, _, _⟩ | hb
  case inr => exact hb (by rw [show ((1 : Nat) : Int) = 1 from rfl, k5]; exact h0)
  rcases st a3 e3 4 with ⟨z3, g4, _, p4⟩ | hb
  case inr => exact hb (by rw [show ((4 : Nat) : Int) = 4 from rfl, k4]; exact z4)
  rcases st a2 e2 2 with ⟨z2, g3, _, p3⟩ | hb
  case inr => exact hb (by rw [show ((2 : Nat) : Int) = 2 from rfl, k3]; exact z3)
  rcases st a1 e1 2 with ⟨z1, g2, _, p2⟩ | hb
  case inr => exact hb (by rw [show ((2 : Nat) : Int) = 2 from rfl, k2]; exact z2)
  rcases st 0 0 1 with ⟨_, g1, _, p1⟩ | hb
  case inr => exact hb (by rw [show ((1 : Nat) : Int) = 1 from rfl, k1]; exact z1)
  rw [show ((1 : Nat) : Int) = 1 from rfl] at p1
  rw [show ((2 : Nat) : Int) = 2 from rfl] at p2 p3
  rw [show ((4 : Nat) : Int) = 4 from rfl] at p4
  rw [p1] at h1
  rw [p2] at h2
  rw [p3] at h3
  rw [p4] at h4
  omega

set_option maxHeartbeats 8000000 in
/-- a body's numbers, and their first fault -/
theorem oHead_any (s F : Nat) (sv : Value) (l : List UInt8) (asn : Int) (w : World) (hs : SrcB w s sv l 0 0) (hF : w.heap[F]? = some (zeroFt 44)) (hsF : s ≠ F) (hvF : sv.ownBlock ≠ some F) (hl : (l.length : Int) ≤ 1000000) :
    Calls Try.prog 36 #[.pointer (some ⟨s, 0, none⟩), .int .i64 asn, .func (.func 34) #[] #[.pointer (some ⟨F, 0, none⟩)]] w fun e w' => ∃ (A H I a : Nat) (er : Int), e = .returned (oqV ⟨A, H, I, []⟩ (.slice none 0 0)) ∧ FaultAt w' F w.heap.size (headF l asn) ∧ Kept [s, F] w w' ∧ SrcB w' s sv l a er ∧
      (10 ≤ l.length → a = 10 ∧ er = 0 ∧ A = nmb l 1 2 ∧ H = nmb l 3 2 ∧ I = nmb l 5 4) := by
  have HFB : Hid (F < w.heap.size) := (Array.getElem?_eq_some_iff.1 hF).1
  have HFB1 : Hid (F < w.heap.size + 1) := by have := HFB.out; show _ < _; omega
  have HSB : Hid (s < w.heap.size) := hs.src.lt
  have HSB1 : Hid (s < w.heap.size + 1) := by have := HSB.out; show _ < _; omega
  have HSL : Hid (∀ g, sv.ownBlock = some g → g < w.heap.size) := hs.lt
  have HSF : Hid (s ≠ F) := hsF
  have HVF : Hid (sv.ownBlock ≠ some F) := hvF
  have HR := Lib.hid (heap_alloc_new w (oqO 25 zeroOq (.slice none 0 0)))
  have HA := Lib.hid (Same.alloc w (oqO 25 zeroOq (.slice none 0 0)))
  have HS := Lib.hid (hs.same HA.out)
  have HFA : Hid (FaultAt (w.alloc (oqO 25 zeroOq (.slice none 0 0))) F (w.heap.size + 1) noFt) := FaultAt.zero (HA.out.block hF)
  have HK : Hid (Kept [s, F] w (w.alloc (oqO 25 zeroOq (.slice none 0 0)))) := (Kept.refl _ w).same HA.out
  generalize hW : w.alloc (oqO 25 zeroOq (.slice none 0 0)) = W at HR HS HFA HK HA
  dsimp only [zeroOq] at hW
  clear hs hF hsF hvF
  go_enter Try.func36, Try.ntmps36
  go_wp2_with fail
  clear hW
  refine (U8_made s sv l 0 0 _ HS.out).mono ?_
  rintro e w1 ⟨rfl, hm, hsr⟩
  obtain ⟨K, hK⟩ : ∃ x, numOut (stepOut l 0 0 1) = x := ⟨_, rfl⟩
  obtain ⟨a1, ha1⟩ : ∃ x, stepAt l 0 0 1 = x := ⟨_, rfl⟩
  obtain ⟨e1, he1⟩ : ∃ x, stepErr l 0 0 1 = x := ⟨_, rfl⟩
  rw [ha1, he1] at hsr
  rw [hK]
  have HQ1 := Lib.hid (And.intro hK (And.intro ha1 he1))
  replace HS := Lib.hid hsr
  replace HFA := Lib.hid (HFA.out.mod hm HSF.out.symm HSB1.out)
  replace HK := Lib.hid (HK.out.mod hm (.inl (by simp)))
  replace HR := Lib.hid ((hm.block _ (Array.getElem?_eq_some_iff.1 HR.out).1 (by have := HSB.out; omega)).trans HR.out)
  clear hm hsr hK ha1 he1
  go_wp2_with fail
  refine (U16_made s sv l a1 e1 _ HS.out).mono ?_
  rintro e w2 ⟨rfl, hm, hsr⟩
  obtain ⟨A, hA⟩ : ∃ x, numOut (stepOut l a1 e1 2) = x := ⟨_, rfl⟩
  obtain ⟨a2, ha2⟩ : ∃ x, stepAt l a1 e1 2 = x := ⟨_, rfl⟩
  obtain ⟨e2, he2⟩ : ∃ x, stepErr l a1 e1 2 = x := ⟨_, rfl⟩
  rw [ha2, he2] at hsr
  rw [hA]
  have HQ2 := Lib.hid (And.intro hA (And.intro ha2 he2))
  replace HS := Lib.hid hsr
  replace HFA := Lib.hid (HFA.out.mod hm HSF.out.symm HSB1.out)
  replace HK := Lib.hid (HK.out.mod hm (.inl (by simp)))
  replace HR := Lib.hid ((hm.block _ (Array.getElem?_eq_some_iff.1 HR.out).1 (by have := HSB.out; omega)).trans HR.out)
  clear hm hsr hA ha2 he2
  go_wp2_with fail
  refine (U16_made s sv l a2 e2 _ HS.out).mono ?_
  rintro e w3 ⟨rfl, hm, hsr⟩
  obtain ⟨H, hH⟩ : ∃ x, numOut (stepOut l a2 e2 2) = x := ⟨_, rfl⟩
  obtain ⟨a3, ha3⟩ : ∃ x, stepAt l a2 e2 2 = x := ⟨_, rfl⟩
  obtain ⟨e3, he3⟩ : ∃ x, stepErr l a2 e2 2 = x := ⟨_, rfl⟩
  rw [ha3, he3] at hsr
  rw [hH]
  have HQ3 := Lib.hid (And.intro hH (And.intro ha3 he3))
  replace HS := Lib.hid hsr
  replace HFA := Lib.hid (HFA.out.mod hm HSF.out.symm HSB1.out)
  replace HK := Lib.hid (HK.out.mod hm (.inl (by simp)))
  replace HR := Lib.hid ((hm.block _ (Array.getElem?_eq_some_iff.1 HR.out).1 (by have := HSB.out; omega)).trans HR.out)
  clear hm hsr hH ha3 he3
  go_wp2_with fail
  refine (U32_made s sv l a3 e3 _ HS.out).mono ?_
  rintro e w4 ⟨rfl, hm, hsr⟩
  obtain ⟨I, hI⟩ : ∃ x, numOut (stepOut l a3 e3 4) = x := ⟨_, rfl⟩
  obtain ⟨a4, ha4⟩ : ∃ x, stepAt l a3 e3 4 = x := ⟨_, rfl⟩
  obtain ⟨e4, he4⟩ : ∃ x, stepErr l a3 e3 4 = x := ⟨_, rfl⟩
  rw [ha4, he4] at hsr
  rw [hI]
  have HQ4 := Lib.hid (And.intro hI (And.intro ha4 he4))
  replace HS := Lib.hid hsr
  replace HFA := Lib.hid (HFA.out.mod hm HSF.out.symm HSB1.out)
  replace HK := Lib.hid (HK.out.mod hm (.inl (by simp)))
  replace HR := Lib.hid ((hm.block _ (Array.getElem?_eq_some_iff.1 HR.out).1 (by have := HSB.out; omega)).trans HR.out)
  clear hm hsr hI ha4 he4
  go_wp2_with fail
  have HA4 := Lib.hid (Same.alloc w4 (oqO 25 ⟨A, H, I, []⟩ (.slice none 0 0)))
  have HT := Lib.hid (heap_alloc_new w4 (oqO 25 ⟨A, H, I, []⟩ (.slice none 0 0)))
  have HTB : Hid (w.heap.size < w4.heap.size) := (Array.getElem?_eq_some_iff.1 HR.out).1
  replace HS := Lib.hid (HS.out.same HA4.out)
  replace HFA := Lib.hid (HFA.out.same HA4.out)
  replace HK := Lib.hid (HK.out.same HA4.out)
  replace HR := Lib.hid (HA4.out.block HR.out)
  generalize hV : w4.alloc (.cells #[.int .i64 (A : Int), .int .i64 (H : Int), .int .u32 (I : Int), .slice none 0 0] 25) = V at HT HS HFA HK HR ⊢
  generalize hT : w4.heap.size = T at HT HTB ⊢
  clear hV HA4 hT
  refine (U8_made s sv l a4 e4 _ HS.out).mono ?_
  rintro e w5 ⟨rfl, hm, hsr⟩
  obtain ⟨N, hN⟩ : ∃ x, numOut (stepOut l a4 e4 1) = x := ⟨_, rfl⟩
  obtain ⟨a5, ha5⟩ : ∃ x, stepAt l a4 e4 1 = x := ⟨_, rfl⟩
  obtain ⟨e5, he5⟩ : ∃ x, stepErr l a4 e4 1 = x := ⟨_, rfl⟩
  rw [ha5, he5] at hsr
  rw [hN]
  have HQ5 := Lib.hid (And.intro hN (And.intro ha5 he5))
  replace HS := Lib.hid hsr
  replace HFA := Lib.hid (HFA.out.mod hm HSF.out.symm HSB1.out)
  replace HK := Lib.hid (HK.out.mod hm (.inl (by simp)))
  replace HR := Lib.hid ((hm.block _ (Array.getElem?_eq_some_iff.1 HR.out).1 (by have := HSB.out; omega)).trans HR.out)
  replace HT := Lib.hid ((hm.block _ (Array.getElem?_eq_some_iff.1 HT.out).1 (by have := HSB.out; have := HTB.out; omega)).trans HT.out)
  clear hm hsr hN ha5 he5
  go_wp2_with fail
  refine (err_made s sv a5 e5 w5 HS.out.src).mono ?_
  rintro e w6 ⟨rfl, rfl⟩
  go_wp2_with fail
  obtain ⟨f0, hf0⟩ : ∃ x, noFt = x := ⟨_, rfl⟩
  rw [hf0] at HFA
  have HF0 := Lib.hid hf0
  clear hf0
  refine (oMust_any F (w.heap.size + 1) f0 (e5 == 0) 0 none 0 0 [] _ HFA.out (Bs.nil _) (fun g hg => by simp [Value.ownBlock] at hg) HFB1.out).mono ?_
  obtain ⟨f1, hf1⟩ : ∃ x, mustF f0 (e5 == 0) 0 [] = x := ⟨_, rfl⟩
  rw [hf1]
  have HF1 := Lib.hid hf1
  clear hf1
  rintro e m1 ⟨rfl, hf, hm⟩
  replace HS := Lib.hid (HS.out.other hm HSF.out HVF.out)
  replace HFA := Lib.hid hf
  replace HK := Lib.hid (HK.out.mod hm (.inl (by simp)))
  replace HR := Lib.hid ((hm.block _ (Array.getElem?_eq_some_iff.1 HR.out).1 (by have := HFB.out; omega)).trans HR.out)
  replace HT := Lib.hid ((hm.block _ (Array.getElem?_eq_some_iff.1 HT.out).1 (by have := HFB.out; have := HTB.out; omega)).trans HT.out)
  clear hf hm
  go_wp2_with fail
  have HA5 := Lib.hid (Same.alloc m1 (.cells #[.int .u8 0, .int .u8 4] 5))
  have HB5 := Lib.hid (row_bs m1 [0, 4] (fun x hx => by simp at hx; rcases hx with rfl | rfl <;> omega) 2 rfl (by omega) #[.int .u8 0, .int .u8 4] rfl).bs
  have HZ5 : Hid (w.heap.size + 1 ≤ m1.heap.size) := (Array.getElem?_eq_some_iff.1 HR.out).1
  refine (oMust_any F (w.heap.size + 1) f1 ((K : Int) == 4) 1 (some ⟨m1.heap.size, 0, none⟩) 2 2 [0, 4] _ (HFA.out.same HA5.out) HB5.out (fun g hg => by cases hg; exact HZ5.out) HFB1.out).mono ?_
  obtain ⟨f2, hf2⟩ : ∃ x, mustF f1 ((K : Int) == 4) 1 [0, 4] = x := ⟨_, rfl⟩
  rw [hf2]
  have HF2 := Lib.hid hf2
  clear hf2
  rintro e m2 ⟨rfl, hf, hm⟩
  replace HS := Lib.hid ((HS.out.same HA5.out).other hm HSF.out HVF.out)
  replace HFA := Lib.hid hf
  replace HK := Lib.hid ((HK.out.same HA5.out).mod hm (.inl (by simp)))
  replace HR := Lib.hid ((hm.block _ (Array.getElem?_eq_some_iff.1 (HA5.out.block HR.out)).1 (by have := HFB.out; omega)).trans (HA5.out.block HR.out))
  replace HT := Lib.hid ((hm.block _ (Array.getElem?_eq_some_iff.1 (HA5.out.block HT.out)).1 (by have := HFB.out; have := HTB.out; omega)).trans (HA5.out.block HT.out))
  clear hf hm
  clear HA5 HB5 HZ5
  obtain ⟨t0, t1, t2, t3⟩ := OqAt.of HT.out
  by_cases g1 : A = 0
  · have g1' : ((A : Int) != 0) = false := by simp; omega
    have HW := Lib.hid (show decide (A ≠ 0 ∧ (asn < 1 ∨ (A : Int) = asn)) = false from decide_eq_false (by omega))
    clear g1
    go_wp2_with fail
    clear t0 t1 t2 t3 g1'
    refine (oMust_any F (w.heap.size + 1) f2 (false) 2 none 0 0 [] _ HFA.out (Bs.nil _) (fun g hg => by simp [Value.ownBlock] at hg) HFB1.out).mono ?_
    obtain ⟨f3, hf3⟩ : ∃ x, mustF f2 (false) 2 [] = x := ⟨_, rfl⟩
    rw [hf3]
    have HF3 := Lib.hid hf3
    clear hf3
    rintro e m3 ⟨rfl, hf, hm⟩
    replace HS := Lib.hid (HS.out.other hm HSF.out HVF.out)
    replace HFA := Lib.hid hf
    replace HK := Lib.hid (HK.out.mod hm (.inl (by simp)))
    replace HR := Lib.hid ((hm.block _ (Array.getElem?_eq_some_iff.1 HR.out).1 (by have := HFB.out; omega)).trans HR.out)
    replace HT := Lib.hid ((hm.block _ (Array.getElem?_eq_some_iff.1 HT.out).1 (by have := HFB.out; have := HTB.out; omega)).trans HT.out)
    clear hf hm
    obtain ⟨t0, t1, t2, t3⟩ := OqAt.of HT.out
    go_wp2_with fail
    clear t0 t1 t2 t3
    refine (oGoodHold_any H _).mono ?_
    obtain ⟨bH, hbH⟩ : ∃ b, decide ((H : Int) = 0 ∨ (3 ≤ (H : Int) ∧ (H : Int) ≤ 65535)) = b := ⟨_, rfl⟩
    rw [hbH]
    have HBH := Lib.hid hbH
    clear hbH
    rintro e m3' ⟨rfl, rfl⟩
    go_wp2_with fail
    refine (oMust_any F (w.heap.size + 1) f3 (bH) 6 none 0 0 [] _ HFA.out (Bs.nil _) (fun g hg => by simp [Value.ownBlock] at hg) HFB1.out).mono ?_
    obtain ⟨f4, hf4⟩ : ∃ x, mustF f3 (bH) 6 [] = x := ⟨_, rfl⟩
    rw [hf4]
    have HF4 := Lib.hid hf4
    clear hf4
    rintro e m4 ⟨rfl, hf, hm⟩
    replace HS := Lib.hid (HS.out.other hm HSF.out HVF.out)
    replace HFA := Lib.hid hf
    replace HK := Lib.hid (HK.out.mod hm (.inl (by simp)))
    replace HR := Lib.hid ((hm.block _ (Array.getElem?_eq_some_iff.1 HR.out).1 (by have := HFB.out; omega)).trans HR.out)
    replace HT := Lib.hid ((hm.block _ (Array.getElem?_eq_some_iff.1 HT.out).1 (by have := HFB.out; have := HTB.out; omega)).trans HT.out)
    clear hf hm
    obtain ⟨t0, t1, t2, t3⟩ := OqAt.of HT.out
    go_wp2_with fail
    clear t0 t1 t2 t3
    refine (oMust_any F (w.heap.size + 1) f4 ((I : Int) != 0) 3 none 0 0 [] _ HFA.out (Bs.nil _) (fun g hg => by simp [Value.ownBlock] at hg) HFB1.out).mono ?_
    obtain ⟨f5, hf5⟩ : ∃ x, mustF f4 ((I : Int) != 0) 3 [] = x := ⟨_, rfl⟩
    rw [hf5]
    have HF5 := Lib.hid hf5
    clear hf5
    rintro e m5 ⟨rfl, hf, hm⟩
    replace HS := Lib.hid (HS.out.other hm HSF.out HVF.out)
    replace HFA := Lib.hid hf
    replace HK := Lib.hid (HK.out.mod hm (.inl (by simp)))
    replace HR := Lib.hid ((hm.block _ (Array.getElem?_eq_some_iff.1 HR.out).1 (by have := HFB.out; omega)).trans HR.out)
    replace HT := Lib.hid ((hm.block _ (Array.getElem?_eq_some_iff.1 HT.out).1 (by have := HFB.out; have := HTB.out; omega)).trans HT.out)
    clear hf hm
    go_wp2_with fail
    refine (Left_made s sv l a5 e5 _ HS.out).mono ?_
    obtain ⟨lf, hlf⟩ : ∃ x, (if e5 = 0 then (l.length : Int) - a5 else 0) = x := ⟨_, rfl⟩
    rw [hlf]
    have HLF := Lib.hid hlf
    rintro e m5' ⟨rfl, hs5⟩
    replace HS := Lib.hid (HS.out.same hs5)
    replace HFA := Lib.hid (HFA.out.same hs5)
    replace HK := Lib.hid (HK.out.same hs5)
    replace HR := Lib.hid (hs5.block HR.out)
    replace HT := Lib.hid (hs5.block HT.out)
    clear hs5 hlf
    go_wp2_with fail
    refine (oMust_any F (w.heap.size + 1) f5 (lf == (N : Int)) 0 none 0 0 [] _ HFA.out (Bs.nil _) (fun g hg => by simp [Value.ownBlock] at hg) HFB1.out).mono ?_
    obtain ⟨f6, hf6⟩ : ∃ x, mustF f5 (lf == (N : Int)) 0 [] = x := ⟨_, rfl⟩
    rw [hf6]
    have HF6 := Lib.hid hf6
    clear hf6
    rintro e m6 ⟨rfl, hf, hm⟩
    replace HS := Lib.hid (HS.out.other hm HSF.out HVF.out)
    replace HFA := Lib.hid hf
    replace HK := Lib.hid (HK.out.mod hm (.inl (by simp)))
    replace HR := Lib.hid ((hm.block _ (Array.getElem?_eq_some_iff.1 HR.out).1 (by have := HFB.out; omega)).trans HR.out)
    replace HT := Lib.hid ((hm.block _ (Array.getElem?_eq_some_iff.1 HT.out).1 (by have := HFB.out; have := HTB.out; omega)).trans HT.out)
    clear hf hm
    obtain ⟨t0, t1, t2, t3⟩ := OqAt.of HT.out
    obtain ⟨z0, z1, z2, z3⟩ := OqAt.of HR.out
    have hfz := nofr HR.out
    have hQ := sets_cells w.heap.size 25 [.int .i64 (A : Int), .int .i64 (H : Int), .int .u32 (I : Int), .slice none 0 0] m6 [] [.int .i64 0, .int .i64 0, .int .u32 0, .slice none 0 0] HR.out rfl
    dsimp only [setsC, Nat.reduceAdd, List.length_nil, List.nil_append] at hQ
    have HQ := Lib.hid hQ
    clear hQ
    go_wp2_with fail
    have hQ := HQ.out
    generalize World.setCell _ ⟨w.heap.size, 3, none⟩ _ = U at hQ ⊢
    obtain ⟨x0, x1, x2, x3⟩ := OqAt.of (o := ⟨A, H, I, []⟩) (vc := .slice none 0 0) hQ.2
    have hfin : f6 = asksF e5 K A H I N asn lf := by unfold asksF; rw [HW.out, HBH.out, HF0.out, HF1.out, HF2.out, HF3.out, HF4.out, HF5.out, HF6.out]
    have hhd : f6 = headF l asn ∧ (10 ≤ l.length → a5 = 10 ∧ e5 = 0 ∧ A = nmb l 1 2 ∧ H = nmb l 3 2 ∧ I = nmb l 5 4) := by
      obtain ⟨p1, q1, r1⟩ := HQ1.out
      obtain ⟨p2, q2, r2⟩ := HQ2.out
      obtain ⟨p3, q3, r3⟩ := HQ3.out
      obtain ⟨p4, q4, r4⟩ := HQ4.out
      obtain ⟨p5, q5, r5⟩ := HQ5.out
      by_cases h10 : 10 ≤ l.length
      · have st : ∀ (a : Nat) (k : Nat), a + k ≤ l.length → numOut (stepOut l a 0 k) = nmb l a k ∧ stepAt l a 0 k = a + k ∧ stepErr l a 0 k = 0 := fun a k h => by
          obtain ⟨h1, h2, h3⟩ := step_yes h
          exact ⟨by rw [h1]; rfl, h2, h3⟩
        obtain ⟨u1, u2, u3⟩ := st 0 1 (by omega)
        rw [show ((1 : Nat) : Int) = 1 from rfl] at u1 u2 u3
        rw [u1] at p1; rw [u2] at q1; rw [u3] at r1
        subst q1 r1
        obtain ⟨u1, u2, u3⟩ := st (0 + 1) 2 (by omega)
        rw [show ((2 : Nat) : Int) = 2 from rfl] at u1 u2 u3
        rw [u1] at p2; rw [u2] at q2; rw [u3] at r2
        subst q2 r2
        obtain ⟨u1, u2, u3⟩ := st (0 + 1 + 2) 2 (by omega)
        rw [show ((2 : Nat) : Int) = 2 from rfl] at u1 u2 u3
        rw [u1] at p3; rw [u2] at q3; rw [u3] at r3
        subst q3 r3
        obtain ⟨u1, u2, u3⟩ := st (0 + 1 + 2 + 2) 4 (by omega)
        rw [show ((4 : Nat) : Int) = 4 from rfl] at u1 u2 u3
        rw [u1] at p4; rw [u2] at q4; rw [u3] at r4
        subst q4 r4
        obtain ⟨u1, u2, u3⟩ := st (0 + 1 + 2 + 2 + 4) 1 (by omega)
        rw [show ((1 : Nat) : Int) = 1 from rfl] at u1 u2 u3
        rw [u1] at p5; rw [u2] at q5; rw [u3] at r5
        subst q5 r5
        have hlf := HLF.out
        rw [if_pos rfl] at hlf
        refine ⟨?_, fun _ => ⟨rfl, rfl, p2.symm, p3.symm, p4.symm⟩⟩
        rw [hfin, ← hlf, ← p1, ← p2, ← p3, ← p4, ← p5]
        exact asksF_head l asn h10
      · have he := short_err l (by omega) a1 a2 a3 a4 a5 e1 e2 e3 e4 e5 q1 r1 q2 r2 q3 r3 q4 r4 q5 r5
        refine ⟨?_, fun h => absurd h h10⟩
        rw [hfin, asksF_err he]
        unfold headF
        rw [if_pos (by omega)]
    have hsf : SrcB U s sv l a5 e5 := HS.out.other hQ.1 (by have := HSB.out; omega) (fun he => by have := HSL.out _ he; omega)
    have hff : FaultAt U F w.heap.size f6 := by
      obtain ⟨vd, k1, k2, k3⟩ := HFA.out.mod hQ.1 (by have := HFB.out; omega) (Nat.lt_succ_self _)
      exact ⟨vd, k1, k2, fun g hg => by have := k3 g hg; omega⟩
    refine bodyPost_ret (v := oqV ⟨A, H, I, []⟩ (.slice none 0 0)) ?_ rfl ⟨A, H, I, a5, e5, rfl, hhd.1 ▸ hff, HK.out.mod hQ.1 (.inr (Nat.le_refl _)), hsf, hhd.2⟩
    simp [results, Try.results36, go_sem, x0, x1, x2, x3]
  have g1' : ((A : Int) != 0) = true := by simp; omega
  by_cases g2 : asn < 1
  · have HW := Lib.hid (show decide (A ≠ 0 ∧ (asn < 1 ∨ (A : Int) = asn)) = true from decide_eq_true (by omega))
    go_wp2_with fail
    clear t0 t1 t2 t3 g1'
    refine (oMust_any F (w.heap.size + 1) f2 (true) 2 none 0 0 [] _ HFA.out (Bs.nil _) (fun g hg => by simp [Value.ownBlock] at hg) HFB1.out).mono ?_
    obtain ⟨f3, hf3⟩ : ∃ x, mustF f2 (true) 2 [] = x := ⟨_, rfl⟩
    rw [hf3]
    have HF3 := Lib.hid hf3
    clear hf3
    rintro e m3 ⟨rfl, hf, hm⟩
    replace HS := Lib.hid (HS.out.other hm HSF.out HVF.out)
    replace HFA := Lib.hid hf
    replace HK := Lib.hid (HK.out.mod hm (.inl (by simp)))
    replace HR := Lib.hid ((hm.block _ (Array.getElem?_eq_some_iff.1 HR.out).1 (by have := HFB.out; omega)).trans HR.out)
    replace HT := Lib.hid ((hm.block _ (Array.getElem?_eq_some_iff.1 HT.out).1 (by have := HFB.out; have := HTB.out; omega)).trans HT.out)
    clear hf hm
    obtain ⟨t0, t1, t2, t3⟩ := OqAt.of HT.out
    go_wp2_with fail
    clear t0 t1 t2 t3
    refine (oGoodHold_any H _).mono ?_
    obtain ⟨bH, hbH⟩ : ∃ b, decide ((H : Int) = 0 ∨ (3 ≤ (H : Int) ∧ (H : Int) ≤ 65535)) = b := ⟨_, rfl⟩
    rw [hbH]
    have HBH := Lib.hid hbH
    clear hbH
    rintro e m3' ⟨rfl, rfl⟩
    go_wp2_with fail
    refine (oMust_any F (w.heap.size + 1) f3 (bH) 6 none 0 0 [] _ HFA.out (Bs.nil _) (fun g hg => by simp [Value.ownBlock] at hg) HFB1.out).mono ?_
    obtain ⟨f4, hf4⟩ : ∃ x, mustF f3 (bH) 6 [] = x := ⟨_, rfl⟩
    rw [hf4]
    have HF4 := Lib.hid hf4
    clear hf4
    rintro e m4 ⟨rfl, hf, hm⟩
    replace HS := Lib.hid (HS.out.other hm HSF.out HVF.out)
    replace HFA := Lib.hid hf
    replace HK := Lib.hid (HK.out.mod hm (.inl (by simp)))
    replace HR := Lib.hid ((hm.block _ (Array.getElem?_eq_some_iff.1 HR.out).1 (by have := HFB.out; omega)).trans HR.out)
    replace HT := Lib.hid ((hm.block _ (Array.getElem?_eq_some_iff.1 HT.out).1 (by have := HFB.out; have := HTB.out; omega)).trans HT.out)
    clear hf hm
    obtain ⟨t0, t1, t2, t3⟩ := OqAt.of HT.out
    go_wp2_with fail
    clear t0 t1 t2 t3
    refine (oMust_any F (w.heap.size + 1) f4 ((I : Int) != 0) 3 none 0 0 [] _ HFA.out (Bs.nil _) (fun g hg => by simp [Value.ownBlock] at hg) HFB1.out).mono ?_
    obtain ⟨f5, hf5⟩ : ∃ x, mustF f4 ((I : Int) != 0) 3 [] = x := ⟨_, rfl⟩
    rw [hf5]
    have HF5 := Lib.hid hf5
    clear hf5
    rintro e m5 ⟨rfl, hf, hm⟩
    replace HS := Lib.hid (HS.out.other hm HSF.out HVF.out)
    replace HFA := Lib.hid hf
    replace HK := Lib.hid (HK.out.mod hm (.inl (by simp)))
    replace HR := Lib.hid ((hm.block _ (Array.getElem?_eq_some_iff.1 HR.out).1 (by have := HFB.out; omega)).trans HR.out)
    replace HT := Lib.hid ((hm.block _ (Array.getElem?_eq_some_iff.1 HT.out).1 (by have := HFB.out; have := HTB.out; omega)).trans HT.out)
    clear hf hm
    go_wp2_with fail
    refine (Left_made s sv l a5 e5 _ HS.out).mono ?_
    obtain ⟨lf, hlf⟩ : ∃ x, (if e5 = 0 then (l.length : Int) - a5 else 0) = x := ⟨_, rfl⟩
    rw [hlf]
    have HLF := Lib.hid hlf
    rintro e m5' ⟨rfl, hs5⟩
    replace HS := Lib.hid (HS.out.same hs5)
    replace HFA := Lib.hid (HFA.out.same hs5)
    replace HK := Lib.hid (HK.out.same hs5)
    replace HR := Lib.hid (hs5.block HR.out)
    replace HT := Lib.hid (hs5.block HT.out)
    clear hs5 hlf
    go_wp2_with fail
    refine (oMust_any F (w.heap.size + 1) f5 (lf == (N : Int)) 0 none 0 0 [] _ HFA.out (Bs.nil _) (fun g hg => by simp [Value.ownBlock] at hg) HFB1.out).mono ?_
    obtain ⟨f6, hf6⟩ : ∃ x, mustF f5 (lf == (N : Int)) 0 [] = x := ⟨_, rfl⟩
    rw [hf6]
    have HF6 := Lib.hid hf6
    clear hf6
    rintro e m6 ⟨rfl, hf, hm⟩
    replace HS := Lib.hid (HS.out.other hm HSF.out HVF.out)
    replace HFA := Lib.hid hf
    replace HK := Lib.hid (HK.out.mod hm (.inl (by simp)))
    replace HR := Lib.hid ((hm.block _ (Array.getElem?_eq_some_iff.1 HR.out).1 (by have := HFB.out; omega)).trans HR.out)
    replace HT := Lib.hid ((hm.block _ (Array.getElem?_eq_some_iff.1 HT.out).1 (by have := HFB.out; have := HTB.out; omega)).trans HT.out)
    clear hf hm
    obtain ⟨t0, t1, t2, t3⟩ := OqAt.of HT.out
    obtain ⟨z0, z1, z2, z3⟩ := OqAt.of HR.out
    have hfz := nofr HR.out
    have hQ := sets_cells w.heap.size 25 [.int .i64 (A : Int), .int .i64 (H : Int), .int .u32 (I : Int), .slice none 0 0] m6 [] [.int .i64 0, .int .i64 0, .int .u32 0, .slice none 0 0] HR.out rfl
    dsimp only [setsC, Nat.reduceAdd, List.length_nil, List.nil_append] at hQ
    have HQ := Lib.hid hQ
    clear hQ
    go_wp2_with fail
    have hQ := HQ.out
    generalize World.setCell _ ⟨w.heap.size, 3, none⟩ _ = U at hQ ⊢
    obtain ⟨x0, x1, x2, x3⟩ := OqAt.of (o := ⟨A, H, I, []⟩) (vc := .slice none 0 0) hQ.2
    have hfin : f6 = asksF e5 K A H I N asn lf := by unfold asksF; rw [HW.out, HBH.out, HF0.out, HF1.out, HF2.out, HF3.out, HF4.out, HF5.out, HF6.out]
    have hhd : f6 = headF l asn ∧ (10 ≤ l.length → a5 = 10 ∧ e5 = 0 ∧ A = nmb l 1 2 ∧ H = nmb l 3 2 ∧ I = nmb l 5 4) := by
      obtain ⟨p1, q1, r1⟩ := HQ1.out
      obtain ⟨p2, q2, r2⟩ := HQ2.out
      obtain ⟨p3, q3, r3⟩ := HQ3.out
      obtain ⟨p4, q4, r4⟩ := HQ4.out
      obtain ⟨p5, q5, r5⟩ := HQ5.out
      by_cases h10 : 10 ≤ l.length
      · have st : ∀ (a : Nat) (k : Nat), a + k ≤ l.length → numOut (stepOut l a 0 k) = nmb l a k ∧ stepAt l a 0 k = a + k ∧ stepErr l a 0 k = 0 := fun a k h => by
          obtain ⟨h1, h2, h3⟩ := step_yes h
          exact ⟨by rw [h1]; rfl, h2, h3⟩
        obtain ⟨u1, u2, u3⟩ := st 0 1 (by omega)
        rw [show ((1 : Nat) : Int) = 1 from rfl] at u1 u2 u3
        rw [u1] at p1; rw [u2] at q1; rw [u3] at r1
        subst q1 r1
        obtain ⟨u1, u2, u3⟩ := st (0 + 1) 2 (by omega)
        rw [show ((2 : Nat) : Int) = 2 from rfl] at u1 u2 u3
        rw [u1] at p2; rw [u2] at q2; rw [u3] at r2
        subst q2 r2
        obtain ⟨u1, u2, u3⟩ := st (0 + 1 + 2) 2 (by omega)
        rw [show ((2 : Nat) : Int) = 2 from rfl] at u1 u2 u3
        rw [u1] at p3; rw [u2] at q3; rw [u3] at r3
        subst q3 r3
        obtain ⟨u1, u2, u3⟩ := st (0 + 1 + 2 + 2) 4 (by omega)
        rw [show ((4 : Nat) : Int) = 4 from rfl] at u1 u2 u3
        rw [u1] at p4; rw [u2] at q4; rw [u3] at r4
        subst q4 r4
        obtain ⟨u1, u2, u3⟩ := st (0 + 1 + 2 + 2 + 4) 1 (by omega)
        rw [show ((1 : Nat) : Int) = 1 from rfl] at u1 u2 u3
        rw [u1] at p5; rw [u2] at q5; rw [u3] at r5
        subst q5 r5
        have hlf := HLF.out
        rw [if_pos rfl] at hlf
        refine ⟨?_, fun _ => ⟨rfl, rfl, p2.symm, p3.symm, p4.symm⟩⟩
        rw [hfin, ← hlf, ← p1, ← p2, ← p3, ← p4, ← p5]
        exact asksF_head l asn h10
      · have he := short_err l (by omega) a1 a2 a3 a4 a5 e1 e2 e3 e4 e5 q1 r1 q2 r2 q3 r3 q4 r4 q5 r5
        refine ⟨?_, fun h => absurd h h10⟩
        rw [hfin, asksF_err he]
        unfold headF
        rw [if_pos (by omega)]
    have hsf : SrcB U s sv l a5 e5 := HS.out.other hQ.1 (by have := HSB.out; omega) (fun he => by have := HSL.out _ he; omega)
    have hff : FaultAt U F w.heap.size f6 := by
      obtain ⟨vd, k1, k2, k3⟩ := HFA.out.mod hQ.1 (by have := HFB.out; omega) (Nat.lt_succ_self _)
      exact ⟨vd, k1, k2, fun g hg => by have := k3 g hg; omega⟩
    refine bodyPost_ret (v := oqV ⟨A, H, I, []⟩ (.slice none 0 0)) ?_ rfl ⟨A, H, I, a5, e5, rfl, hhd.1 ▸ hff, HK.out.mod hQ.1 (.inr (Nat.le_refl _)), hsf, hhd.2⟩
    simp [results, Try.results36, go_sem, x0, x1, x2, x3]
  have hw : decide (A ≠ 0 ∧ (asn < 1 ∨ (A : Int) = asn)) = ((A : Int) == asn) := by
    by_cases h : (A : Int) = asn
    · rw [decide_eq_true (by omega)]; simpa using h
    · rw [decide_eq_false (by omega)]; simpa using h
  obtain ⟨bA, hbA⟩ : ∃ b, ((A : Int) == asn) = b := ⟨_, rfl⟩
  rw [hbA] at hw
  have HW := Lib.hid hw
  clear hw g1
  go_wp2_with fail
  clear t0 t1 t2 t3 g1' hbA
  have hor : (decide (asn < 1) || bA) = bA := by rw [show decide (asn < 1) = false from decide_eq_false (by omega)]; rfl
  rw [hor]
  clear hor
  refine (oMust_any F (w.heap.size + 1) f2 (bA) 2 none 0 0 [] _ HFA.out (Bs.nil _) (fun g hg => by simp [Value.ownBlock] at hg) HFB1.out).mono ?_
  obtain ⟨f3, hf3⟩ : ∃ x, mustF f2 (bA) 2 [] = x := ⟨_, rfl⟩
  rw [hf3]
  have HF3 := Lib.hid hf3
  clear hf3
  rintro e m3 ⟨rfl, hf, hm⟩
  replace HS := Lib.hid (HS.out.other hm HSF.out HVF.out)
  replace HFA := Lib.hid hf
  replace HK := Lib.hid (HK.out.mod hm (.inl (by simp)))
  replace HR := Lib.hid ((hm.block _ (Array.getElem?_eq_some_iff.1 HR.out).1 (by have := HFB.out; omega)).trans HR.out)
  replace HT := Lib.hid ((hm.block _ (Array.getElem?_eq_some_iff.1 HT.out).1 (by have := HFB.out; have := HTB.out; omega)).trans HT.out)
  clear hf hm
  obtain ⟨t0, t1, t2, t3⟩ := OqAt.of HT.out
  go_wp2_with fail
  clear t0 t1 t2 t3
  refine (oGoodHold_any H _).mono ?_
  obtain ⟨bH, hbH⟩ : ∃ b, decide ((H : Int) = 0 ∨ (3 ≤ (H : Int) ∧ (H : Int) ≤ 65535)) = b := ⟨_, rfl⟩
  rw [hbH]
  have HBH := Lib.hid hbH
  clear hbH
  rintro e m3' ⟨rfl, rfl⟩
  go_wp2_with fail
  refine (oMust_any F (w.heap.size + 1) f3 (bH) 6 none 0 0 [] _ HFA.out (Bs.nil _) (fun g hg => by simp [Value.ownBlock] at hg) HFB1.out).mono ?_
  obtain ⟨f4, hf4⟩ : ∃ x, mustF f3 (bH) 6 [] = x := ⟨_, rfl⟩
  rw [hf4]
  have HF4 := Lib.hid hf4
  clear hf4
  rintro e m4 ⟨rfl, hf, hm⟩
  replace HS := Lib.hid (HS.out.other hm HSF.out HVF.out)
  replace HFA := Lib.hid hf
  replace HK := Lib.hid (HK.out.mod hm (.inl (by simp)))
  replace HR := Lib.hid ((hm.block _ (Array.getElem?_eq_some_iff.1 HR.out).1 (by have := HFB.out; omega)).trans HR.out)
  replace HT := Lib.hid ((hm.block _ (Array.getElem?_eq_some_iff.1 HT.out).1 (by have := HFB.out; have := HTB.out; omega)).trans HT.out)
  clear hf hm
  obtain ⟨t0, t1, t2, t3⟩ := OqAt.of HT.out
  go_wp2_with fail
  clear t0 t1 t2 t3
  refine (oMust_any F (w.heap.size + 1) f4 ((I : Int) != 0) 3 none 0 0 [] _ HFA.out (Bs.nil _) (fun g hg => by simp [Value.ownBlock] at hg) HFB1.out).mono ?_
  obtain ⟨f5, hf5⟩ : ∃ x, mustF f4 ((I : Int) != 0) 3 [] = x := ⟨_, rfl⟩
  rw [hf5]
  have HF5 := Lib.hid hf5
  clear hf5
  rintro e m5 ⟨rfl, hf, hm⟩
  replace HS := Lib.hid (HS.out.other hm HSF.out HVF.out)
  replace HFA := Lib.hid hf
  replace HK := Lib.hid (HK.out.mod hm (.inl (by simp)))
  replace HR := Lib.hid ((hm.block _ (Array.getElem?_eq_some_iff.1 HR.out).1 (by have := HFB.out; omega)).trans HR.out)
  replace HT := Lib.hid ((hm.block _ (Array.getElem?_eq_some_iff.1 HT.out).1 (by have := HFB.out; have := HTB.out; omega)).trans HT.out)
  clear hf hm
  go_wp2_with fail
  refine (Left_made s sv l a5 e5 _ HS.out).mono ?_
  obtain ⟨lf, hlf⟩ : ∃ x, (if e5 = 0 then (l.length : Int) - a5 else 0) = x := ⟨_, rfl⟩
  rw [hlf]
  have HLF := Lib.hid hlf
  rintro e m5' ⟨rfl, hs5⟩
  replace HS := Lib.hid (HS.out.same hs5)
  replace HFA := Lib.hid (HFA.out.same hs5)
  replace HK := Lib.hid (HK.out.same hs5)
  replace HR := Lib.hid (hs5.block HR.out)
  replace HT := Lib.hid (hs5.block HT.out)
  clear hs5 hlf
  go_wp2_with fail
  refine (oMust_any F (w.heap.size + 1) f5 (lf == (N : Int)) 0 none 0 0 [] _ HFA.out (Bs.nil _) (fun g hg => by simp [Value.ownBlock] at hg) HFB1.out).mono ?_
  obtain ⟨f6, hf6⟩ : ∃ x, mustF f5 (lf == (N : Int)) 0 [] = x := ⟨_, rfl⟩
  rw [hf6]
  have HF6 := Lib.hid hf6
  clear hf6
  rintro e m6 ⟨rfl, hf, hm⟩
  replace HS := Lib.hid (HS.out.other hm HSF.out HVF.out)
  replace HFA := Lib.hid hf
  replace HK := Lib.hid (HK.out.mod hm (.inl (by simp)))
  replace HR := Lib.hid ((hm.block _ (Array.getElem?_eq_some_iff.1 HR.out).1 (by have := HFB.out; omega)).trans HR.out)
  replace HT := Lib.hid ((hm.block _ (Array.getElem?_eq_some_iff.1 HT.out).1 (by have := HFB.out; have := HTB.out; omega)).trans HT.out)
  clear hf hm
  obtain ⟨t0, t1, t2, t3⟩ := OqAt.of HT.out
  obtain ⟨z0, z1, z2, z3⟩ := OqAt.of HR.out
  have hfz := nofr HR.out
  have hQ := sets_cells w.heap.size 25 [.int .i64 (A : Int), .int .i64 (H : Int), .int .u32 (I : Int), .slice none 0 0] m6 [] [.int .i64 0, .int .i64 0, .int .u32 0, .slice none 0 0] HR.out rfl
  dsimp only [setsC, Nat.reduceAdd, List.length_nil, List.nil_append] at hQ
  have HQ := Lib.hid hQ
  clear hQ
  go_wp2_with fail
  have hQ := HQ.out
  generalize World.setCell _ ⟨w.heap.size, 3, none⟩ _ = U at hQ ⊢
  obtain ⟨x0, x1, x2, x3⟩ := OqAt.of (o := ⟨A, H, I, []⟩) (vc := .slice none 0 0) hQ.2
  have hfin : f6 = asksF e5 K A H I N asn lf := by unfold asksF; rw [HW.out, HBH.out, HF0.out, HF1.out, HF2.out, HF3.out, HF4.out, HF5.out, HF6.out]
  have hhd : f6 = headF l asn ∧ (10 ≤ l.length → a5 = 10 ∧ e5 = 0 ∧ A = nmb l 1 2 ∧ H = nmb l 3 2 ∧ I = nmb l 5 4) := by
    obtain ⟨p1, q1, r1⟩ := HQ1.out
    obtain ⟨p2, q2, r2⟩ := HQ2.out
    obtain ⟨p3, q3, r3⟩ := HQ3.out
    obtain ⟨p4, q4, r4⟩ := HQ4.out
    obtain ⟨p5, q5, r5⟩ := HQ5.out
    by_cases h10 : 10 ≤ l.length
    · have st : ∀ (a : Nat) (k : Nat), a + k ≤ l.length → numOut (stepOut l a 0 k) = nmb l a k ∧ stepAt l a 0 k = a + k ∧ stepErr l a 0 k = 0 := fun a k h => by
        obtain ⟨h1, h2, h3⟩ := step_yes h
        exact ⟨by rw [h1]; rfl, h2, h3⟩
      obtain ⟨u1, u2, u3⟩ := st 0 1 (by omega)
      rw [show ((1 : Nat) : Int) = 1 from rfl] at u1 u2 u3
      rw [u1] at p1; rw [u2] at q1; rw [u3] at r1
      subst q1 r1
      obtain ⟨u1, u2, u3⟩ := st (0 + 1) 2 (by omega)
      rw [show ((2 : Nat) : Int) = 2 from rfl] at u1 u2 u3
      rw [u1] at p2; rw [u2] at q2; rw [u3] at r2
      subst q2 r2
      obtain ⟨u1, u2, u3⟩ := st (0 + 1 + 2) 2 (by omega)
      rw [show ((2 : Nat) : Int) = 2 from rfl] at u1 u2 u3
      rw [u1] at p3; rw [u2] at q3; rw [u3] at r3
      subst q3 r3
      obtain ⟨u1, u2, u3⟩ := st (0 + 1 + 2 + 2) 4 (by omega)
      rw [show ((4 : Nat) : Int) = 4 from rfl] at u1 u2 u3
      rw [u1] at p4; rw [u2] at q4; rw [u3] at r4
      subst q4 r4
      obtain ⟨u1, u2, u3⟩ := st (0 + 1 + 2 + 2 + 4) 1 (by omega)
      rw [show ((1 : Nat) : Int) = 1 from rfl] at u1 u2 u3
      rw [u1] at p5; rw [u2] at q5; rw [u3] at r5
      subst q5 r5
      have hlf := HLF.out
      rw [if_pos rfl] at hlf
      refine ⟨?_, fun _ => ⟨rfl, rfl, p2.symm, p3.symm, p4.symm⟩⟩
      rw [hfin, ← hlf, ← p1, ← p2, ← p3, ← p4, ← p5]
      exact asksF_head l asn h10
    · have he := short_err l (by omega) a1 a2 a3 a4 a5 e1 e2 e3 e4 e5 q1 r1 q2 r2 q3 r3 q4 r4 q5 r5
      refine ⟨?_, fun h => absurd h h10⟩
      rw [hfin, asksF_err he]
      unfold headF
      rw [if_pos (by omega)]
  have hsf : SrcB U s sv l a5 e5 := HS.out.other hQ.1 (by have := HSB.out; omega) (fun he => by have := HSL.out _ he; omega)
  have hff : FaultAt U F w.heap.size f6 := by
    obtain ⟨vd, k1, k2, k3⟩ := HFA.out.mod hQ.1 (by have := HFB.out; omega) (Nat.lt_succ_self _)
    exact ⟨vd, k1, k2, fun g hg => by have := k3 g hg; omega⟩
  refine bodyPost_ret (v := oqV ⟨A, H, I, []⟩ (.slice none 0 0)) ?_ rfl ⟨A, H, I, a5, e5, rfl, hhd.1 ▸ hff, HK.out.mod hQ.1 (.inr (Nat.le_refl _)), hsf, hhd.2⟩
  simp [results, Try.results36, go_sem, x0, x1, x2, x3]

end Go.Proofs.Ytidijoncngfppaa
