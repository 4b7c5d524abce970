/- Layer 7: AttrFaults' walk over AttrC. No condition beyond what it names. -/
import Derived.Test.YtfhaaenmllkbnaaAtB
import Derived.Test.YtfhaaenmllkbnaaOwn
namespace Go.Proofs.Ytfhaaenmllkbnaa
open Go.RowKit
set_option linter.unusedVariables false

set_option maxRecDepth 100000 in
set_option maxHeartbeats 2000000 in
theorem afaults_bad (C : AttrC) (a : At) (vp : Value) (n kind : Int) (w : World) (hp : Rs intLay w vp a.path) (hr : hopR a) (hg : ¬ goodA a) :
    Calls Try.prog 6 #[atV a vp, .int .u8 n, .int .u8 kind] w fun e w' => e = .returned (.bool true) ∧ Same w w' := by
  have HL := fun w => Lib.hid (at_lives C w)
  have HGo := fun w hp => Lib.hid (C.good a vp w hp hr)
  rw [decide_eq_false hg] at HGo
  obtain ⟨m, hm⟩ : ∃ m, a.path.length = m := ⟨_, rfl⟩
  have HP := Lib.hid hp
  obtain ⟨pa, pc, rfl⟩ := hp.form hm
  clear hp hm
  obtain ⟨p0, p1, p2, p3, p4⟩ := a
  simp only at HGo HP
  have HA := Lib.hid (Same.alloc w (atO 35 ⟨p0, p1, p2, p3, p4⟩ (.slice pa m pc)))
  obtain ⟨k0, k1, k2, k3, k4⟩ := AtAt.of (heap_alloc_new w (atO 35 ⟨p0, p1, p2, p3, p4⟩ (.slice pa m pc)))
  go_enter Try.func6, Try.ntmps6
  go_wp2_with fail
  refine (HGo _ (HP.out.same HA.out)).out.mono ?_
  rintro e w1 ⟨rfl, hs1⟩
  have HS1 := Lib.hid (HA.out.trans hs1)
  clear hs1
  go_wp2_with fail
  refine (HL _).out.mono ?_
  rintro e w2 ⟨rfl, hs2⟩
  have HS2 := Lib.hid (HS1.out.trans hs2)
  clear hs2
  go_wp2_with fail
  go_ret
  exact ⟨rfl, HS2.out⟩

/-- four bytes in a block -/
theorem bs_four {w : World} {g : Nat} {x0 x1 x2 x3 : Int} (h : w.heap[g]? = some (.cells #[.int .u8 x0, .int .u8 x1, .int .u8 x2, .int .u8 x3] 5 (0, 0))) (h0 : 0 ≤ x0 ∧ x0 ≤ 255) (h1 : 0 ≤ x1 ∧ x1 ≤ 255) (h2 : 0 ≤ x2 ∧ x2 ≤ 255) (h3 : 0 ≤ x3 ∧ x3 ≤ 255) :
    Bs w (.slice (some ⟨g, 0, none⟩) 4 4) [byteAt x0 0, byteAt x1 0, byteAt x2 0, byteAt x3 0] := by
  have e : ∀ x : Int, 0 ≤ x ∧ x ≤ 255 → b8 (byteAt x 0) = .int .u8 x := fun x hx => by rw [b8_byteAt]; simp; omega
  refine ⟨some ⟨g, 0, none⟩, 4, rfl, by simp, by omega, by simp, fun ad had => ?_⟩
  cases had
  refine ⟨fun _ => rfl, fun j u hu => ?_⟩
  rw [row_add]
  have hj : j < 4 := (List.getElem?_eq_some_iff.1 hu).1
  have hc : j = 0 ∨ j = 1 ∨ j = 2 ∨ j = 3 := by omega
  rcases hc with rfl | rfl | rfl | rfl <;> (simp at hu; subst hu; simp [World.cell?, h, e, h0, h1, h2, h3])

/-- a number written over a place of a row that begins with four -/
theorem set_three (b0 b1 b2 b3 u : UInt8) (l : List UInt8) : ([b0, b1, b2, b3] ++ l).set 3 u = [b0, b1, b2, u] ++ l := rfl
theorem set_zero (b0 b1 b2 b3 u : UInt8) (l : List UInt8) : ([b0, b1, b2, b3] ++ l).set 0 u = [u, b1, b2, b3] ++ l := rfl

set_option maxRecDepth 100000 in
set_option maxHeartbeats 8000000 in
theorem afaults_walk (C : AttrC) (a : At) (vp : Value) (n kind : Int) (w : World) (hp : Rs intLay w vp a.path) (hr : hopR a) (hg : goodA a) (hn : 0 ≤ n ∧ n ≤ 255) (hk : 0 ≤ kind ∧ kind ≤ 255) :
    Calls Try.prog 6 #[atV a vp, .int .u8 n, .int .u8 kind] w fun e w' => e = .returned (.bool true) ∧ Same w w' := by
  have HL := fun w => Lib.hid (at_lives C w)
  have hp16 : a.path.length ≤ 16 := hg.2.2.1
  have HGo := fun w hp => Lib.hid (C.good a vp w hp hr)
  rw [decide_eq_true hg] at HGo
  have HBy := fun w hp => Lib.hid (C.bytes a vp w hp hr (Nat.le_trans hp16 (by decide)))
  have hX14 := attrB_length a hg
  have hXle := attrB_le a hg
  obtain ⟨q, hq⟩ : ∃ q, 3 + n % 200 = q := ⟨_, rfl⟩
  obtain ⟨t, ht⟩ : ∃ t, 5 + kind % 200 = t := ⟨_, rfl⟩
  have hq2 : 3 ≤ q ∧ q ≤ 202 := by omega
  have ht2 : 5 ≤ t ∧ t ≤ 204 := by omega
  have e5 := attrB_four a hg
  have l1 : (attrB a).set 3 (byteAt q 0) = [64, 1, 1, byteAt q 0] ++ joinB (rawsA a).tail := by rw [e5, set_three]
  have l2 : (attrB a).set 0 (byteAt 128 0) = [128, 1, 1, byteAt a.origin 0] ++ joinB (rawsA a).tail := by rw [e5, set_zero]; rfl
  have e1 : parseT ((attrB a).set 3 (byteAt q 0)) = (⟨0, [], 0, 0, false⟩, ⟨3, 6, [64, 1, 1, byteAt q 0]⟩) := by rw [l1]; exact fault_origin a hp16 q (by omega)
  have e2 : parseT ((attrB a).set 0 (byteAt 128 0)) = (⟨0, [], 0, 0, false⟩, ⟨3, 4, [128, 1, 1, byteAt a.origin 0]⟩) := by rw [l2]; exact fault_flags a hp16 a.origin
  have e3 : parseT (attrB a ++ [byteAt 64 0, byteAt t 0, byteAt 1 0, byteAt n 0]) = (⟨0, [], 0, 0, false⟩, ⟨3, 2, [64, byteAt t 0, 1, byteAt n 0]⟩) := fault_unknown a hg hr t n (by omega)
  have e4 : parseT (attrB a ++ [byteAt 192 0, byteAt t 0, byteAt 1 0, byteAt n 0]) = (a, ⟨0, 0, []⟩) := skip_unknown a hg hr t n (by omega)
  have e6 : ((attrB a).set 3 (byteAt q 0)).take 4 = [64, 1, 1, byteAt q 0] := by rw [l1]; rfl
  have e7 : ((attrB a).set 0 (byteAt 128 0)).take 4 = [128, 1, 1, byteAt a.origin 0] := by rw [l2]; rfl
  obtain ⟨m, hm⟩ : ∃ m, a.path.length = m := ⟨_, rfl⟩
  rw [hm] at hp16
  have HP := Lib.hid hp
  have HN := Lib.hid hm
  obtain ⟨pa, pc, rfl⟩ := hp.form hm
  clear hp hm e5 l1 l2
  generalize attrB a = X at *
  obtain ⟨nX, hnX⟩ : ∃ k, X.length = k := ⟨_, rfl⟩
  rw [hnX] at hX14 hXle
  have HNX := Lib.hid hnX
  have HP1 := fun v w hb => Lib.hid (C.parse v (X.set 3 (byteAt q 0)) w hb (by rw [List.length_set]; omega))
  have HP2 := fun v w hb => Lib.hid (C.parse v (X.set 0 (byteAt 128 0)) w hb (by rw [List.length_set]; omega))
  have HP3 := fun v w hb => Lib.hid (C.parse v (X ++ [byteAt 64 0, byteAt t 0, byteAt 1 0, byteAt n 0]) w hb (by rw [List.length_append]; simp; omega))
  have HP4 := fun v w hb => Lib.hid (C.parse v (X ++ [byteAt 192 0, byteAt t 0, byteAt 1 0, byteAt n 0]) w hb (by rw [List.length_append]; simp; omega))
  rw [e1] at HP1
  rw [e2] at HP2
  rw [e3] at HP3
  rw [e4] at HP4
  have E6 := Lib.hid e6
  have E7 := Lib.hid e7
  obtain ⟨p0, p1, p2, p3, p4⟩ := a
  have HSm := fun va vb w h1 h2 => Lib.hid (C.same ⟨p0, p1, p2, p3, p4⟩ va vb w h1 h2 hr)
  simp only at HBy HGo HP HP1 HP2 HP3 HP4 HN E7
  clear e1 e2 e3 e4 e6 e7 hnX hr hg
  have HS := Lib.hid (Same.alloc w (atO 35 ⟨p0, p1, p2, p3, p4⟩ (.slice pa m pc)))
  have HK := Lib.hid (heap_alloc_new w (atO 35 ⟨p0, p1, p2, p3, p4⟩ (.slice pa m pc)))
  replace HP := Lib.hid (HP.out.same HS.out)
  obtain ⟨k0, k1, k2, k3, k4⟩ := AtAt.of HK.out
  generalize hW : w.alloc (atO 35 ⟨p0, p1, p2, p3, p4⟩ (.slice pa m pc)) = W at HS HK HP k0 k1 k2 k3 k4
  go_enter Try.func6, Try.ntmps6
  go_wp2_with fail
  clear hW k0 k1 k2 k3 k4
  refine (HGo _ HP.out).out.mono ?_
  rintro e w1 ⟨rfl, hs1⟩
  replace HS := Lib.hid (HS.out.trans hs1)
  replace HK := Lib.hid (hs1.block HK.out)
  replace HP := Lib.hid (HP.out.same hs1)
  clear hs1 HGo
  obtain ⟨k0, k1, k2, k3, k4⟩ := AtAt.of HK.out
  go_wp2_with fail
  clear k0 k1 k2 k3 k4
  refine (HBy _ HP.out).out.mono ?_
  rintro e w2 ⟨v2, rfl, hb2, hs2⟩
  replace HS := Lib.hid (HS.out.trans hs2)
  replace HK := Lib.hid (hs2.block HK.out)
  replace HP := Lib.hid (HP.out.same hs2)
  have HB := Lib.hid hb2
  obtain ⟨b1, o1, c1, rfl, hcap, -, -⟩ := hb2.form (by rw [HNX.out]; omega)
  simp only [HNX.out] at HB hcap ⊢
  clear hs2 hb2 HBy
  have HE := Lib.hid (OwnB.empty w2)
  have HA := Lib.hid (Same.alloc w2 (.cells #[] 5))
  have HLe : Hid (([] : List UInt8).length + X.length ≤ 140737488355328) := by show _ ≤ _; rw [HNX.out]; simp; omega
  go_wp2_with (at_builtin; refine wpList_append_bs rfl _ _ rfl w2 HA.out _ [] rfl HE.out _ X rfl (HB.out.same HA.out) HLe.out ?_; intro v6 w6 ho6 hs6; rw [List.nil_append] at ho6; obtain ⟨g6, c6, rfl, hc6, hg6⟩ := OwnB.form ho6 (by rw [HNX.out]; omega); simp only [HNX.out] at ho6 hc6 ⊢; obtain ⟨bb6, h6⟩ : ∃ b, w6.cell? ⟨g6, 3, none⟩ = some b := ⟨_, OwnB.cell ho6 3 (by rw [HNX.out]; omega)⟩; have hz6 := OwnB.thaw ho6 3; have HO6 := Lib.hid (OwnB.set ho6 3 (byteAt q 0)); rw [show b8 (byteAt q 0) = .int .u8 q from by rw [b8_byteAt]; simp <;> omega] at HO6; have HSE6 := Lib.hid (hs6.set (g := g6) (j := 3) hg6 (.int .u8 q)); clear ho6 hs6)
  clear h6 hz6 HE HA HLe
  generalize World.setCell _ ⟨g6, 3, none⟩ (.int .u8 q) = U6 at *
  replace HS := Lib.hid (HS.out.trans HSE6.out)
  replace HK := Lib.hid (HSE6.out.block HK.out)
  replace HP := Lib.hid (HP.out.same HSE6.out)
  replace HB := Lib.hid (HB.out.same HSE6.out)
  have HX6 := Lib.hid HO6.out.bs
  clear HO6 HSE6
  refine (HP1 _ _ HX6.out).out.mono ?_
  rintro e x8 ⟨y8, d8, rfl, hr8, hd8, hs8, -⟩
  replace HS := Lib.hid (HS.out.trans hs8)
  replace HK := Lib.hid (hs8.block HK.out)
  replace HP := Lib.hid (HP.out.same hs8)
  replace HB := Lib.hid (HB.out.same hs8)
  replace HX6 := Lib.hid (HX6.out.same hs8)
  have HR8 := Lib.hid hr8
  have HD8 := Lib.hid hd8
  obtain ⟨ra8, rc8, rfl⟩ := hr8.form (n := 0) rfl
  obtain ⟨da8, dc8, rfl⟩ := hd8.form0 (n := 4) rfl
  clear hs8 hr8 hd8
  have HA8 := Lib.hid ((Same.alloc x8 (atO 35 ⟨0, [], 0, 0, false⟩ (.slice ra8 0 rc8))).trans (Same.alloc (x8.alloc (atO 35 ⟨0, [], 0, 0, false⟩ (.slice ra8 0 rc8))) (ftO 26 ⟨3, 6, [64, 1, 1, byteAt q 0]⟩ (.slice da8 4 dc8))))
  have HXA8 := Lib.hid ((Same.alloc (x8.alloc (atO 35 ⟨0, [], 0, 0, false⟩ (.slice ra8 0 rc8))) (ftO 26 ⟨3, 6, [64, 1, 1, byteAt q 0]⟩ (.slice da8 4 dc8))).block (heap_alloc_new x8 (atO 35 ⟨0, [], 0, 0, false⟩ (.slice ra8 0 rc8))))
  have HF8 : Hid (((x8.alloc (atO 35 ⟨0, [], 0, 0, false⟩ (.slice ra8 0 rc8))).alloc (ftO 26 ⟨3, 6, [64, 1, 1, byteAt q 0]⟩ (.slice da8 4 dc8))).heap[x8.heap.size + 1]? = some (ftO 26 ⟨3, 6, [64, 1, 1, byteAt q 0]⟩ (.slice da8 4 dc8))) := by
    have := heap_alloc_new (x8.alloc (atO 35 ⟨0, [], 0, 0, false⟩ (.slice ra8 0 rc8))) (ftO 26 ⟨3, 6, [64, 1, 1, byteAt q 0]⟩ (.slice da8 4 dc8))
    rw [show (x8.alloc (atO 35 ⟨0, [], 0, 0, false⟩ (.slice ra8 0 rc8))).heap.size = x8.heap.size + 1 from by simp] at this
    exact this
  replace HS := Lib.hid (HS.out.trans HA8.out)
  replace HK := Lib.hid (HA8.out.block HK.out)
  replace HP := Lib.hid (HP.out.same HA8.out)
  replace HB := Lib.hid (HB.out.same HA8.out)
  replace HX6 := Lib.hid (HX6.out.same HA8.out)
  replace HD8 := Lib.hid (HD8.out.same HA8.out)
  replace HR8 := Lib.hid (HR8.out.same HA8.out)
  generalize hU8 : (x8.alloc (atO 35 ⟨0, [], 0, 0, false⟩ (.slice ra8 0 rc8))).alloc (ftO 26 ⟨3, 6, [64, 1, 1, byteAt q 0]⟩ (.slice da8 4 dc8)) = U8 at *
  clear HA8
  have HE := Lib.hid (OwnB.empty U8)
  have HA := Lib.hid (Same.alloc U8 (.cells #[] 5))
  have HLe : Hid (([] : List UInt8).length + X.length ≤ 140737488355328) := by show _ ≤ _; rw [HNX.out]; simp; omega
  go_wp2_with (at_builtin; refine wpList_append_bs rfl _ _ rfl U8 HA.out _ [] rfl HE.out _ X rfl (HB.out.same HA.out) HLe.out ?_; intro v9 w9 ho9 hs9; rw [List.nil_append] at ho9; obtain ⟨g9, c9, rfl, hc9, hg9⟩ := OwnB.form ho9 (by rw [HNX.out]; omega); simp only [HNX.out] at ho9 hc9 ⊢; obtain ⟨bb9, h9⟩ : ∃ b, w9.cell? ⟨g9, 0, none⟩ = some b := ⟨_, OwnB.cell ho9 0 (by rw [HNX.out]; omega)⟩; have hz9 := OwnB.thaw ho9 0; have HO9 := Lib.hid (OwnB.set ho9 0 (byteAt 128 0)); rw [show b8 (byteAt 128 0) = .int .u8 128 from by rw [b8_byteAt]; simp <;> omega] at HO9; have HSE9 := Lib.hid (hs9.set (g := g9) (j := 0) hg9 (.int .u8 128)); clear ho9 hs9)
  clear h9 hz9 HE HA HLe
  generalize World.setCell _ ⟨g9, 0, none⟩ (.int .u8 128) = U9 at *
  replace HS := Lib.hid (HS.out.trans HSE9.out)
  replace HK := Lib.hid (HSE9.out.block HK.out)
  replace HP := Lib.hid (HP.out.same HSE9.out)
  replace HB := Lib.hid (HB.out.same HSE9.out)
  replace HX6 := Lib.hid (HX6.out.same HSE9.out)
  replace HF8 := Lib.hid (HSE9.out.block HF8.out)
  replace HD8 := Lib.hid (HD8.out.same HSE9.out)
  have HX9 := Lib.hid HO9.out.bs
  clear HO9 HSE9
  clear hU8
  refine (HP2 _ _ HX9.out).out.mono ?_
  rintro e x11 ⟨y11, d11, rfl, hr11, hd11, hs11, -⟩
  replace HS := Lib.hid (HS.out.trans hs11)
  replace HK := Lib.hid (hs11.block HK.out)
  replace HP := Lib.hid (HP.out.same hs11)
  replace HB := Lib.hid (HB.out.same hs11)
  replace HX6 := Lib.hid (HX6.out.same hs11)
  replace HF8 := Lib.hid (hs11.block HF8.out)
  replace HD8 := Lib.hid (HD8.out.same hs11)
  replace HX9 := Lib.hid (HX9.out.same hs11)
  have HR11 := Lib.hid hr11
  have HD11 := Lib.hid hd11
  obtain ⟨ra11, rc11, rfl⟩ := hr11.form (n := 0) rfl
  obtain ⟨da11, dc11, rfl⟩ := hd11.form0 (n := 4) rfl
  clear hs11 hr11 hd11
  have HA11 := Lib.hid ((Same.alloc x11 (atO 35 ⟨0, [], 0, 0, false⟩ (.slice ra11 0 rc11))).trans (Same.alloc (x11.alloc (atO 35 ⟨0, [], 0, 0, false⟩ (.slice ra11 0 rc11))) (ftO 26 ⟨3, 4, [128, 1, 1, byteAt p0 0]⟩ (.slice da11 4 dc11))))
  have HXA11 := Lib.hid ((Same.alloc (x11.alloc (atO 35 ⟨0, [], 0, 0, false⟩ (.slice ra11 0 rc11))) (ftO 26 ⟨3, 4, [128, 1, 1, byteAt p0 0]⟩ (.slice da11 4 dc11))).block (heap_alloc_new x11 (atO 35 ⟨0, [], 0, 0, false⟩ (.slice ra11 0 rc11))))
  have HF11 : Hid (((x11.alloc (atO 35 ⟨0, [], 0, 0, false⟩ (.slice ra11 0 rc11))).alloc (ftO 26 ⟨3, 4, [128, 1, 1, byteAt p0 0]⟩ (.slice da11 4 dc11))).heap[x11.heap.size + 1]? = some (ftO 26 ⟨3, 4, [128, 1, 1, byteAt p0 0]⟩ (.slice da11 4 dc11))) := by
    have := heap_alloc_new (x11.alloc (atO 35 ⟨0, [], 0, 0, false⟩ (.slice ra11 0 rc11))) (ftO 26 ⟨3, 4, [128, 1, 1, byteAt p0 0]⟩ (.slice da11 4 dc11))
    rw [show (x11.alloc (atO 35 ⟨0, [], 0, 0, false⟩ (.slice ra11 0 rc11))).heap.size = x11.heap.size + 1 from by simp] at this
    exact this
  replace HS := Lib.hid (HS.out.trans HA11.out)
  replace HK := Lib.hid (HA11.out.block HK.out)
  replace HP := Lib.hid (HP.out.same HA11.out)
  replace HB := Lib.hid (HB.out.same HA11.out)
  replace HX6 := Lib.hid (HX6.out.same HA11.out)
  replace HF8 := Lib.hid (HA11.out.block HF8.out)
  replace HD8 := Lib.hid (HD8.out.same HA11.out)
  replace HX9 := Lib.hid (HX9.out.same HA11.out)
  replace HD11 := Lib.hid (HD11.out.same HA11.out)
  replace HR11 := Lib.hid (HR11.out.same HA11.out)
  generalize hU11 : (x11.alloc (atO 35 ⟨0, [], 0, 0, false⟩ (.slice ra11 0 rc11))).alloc (ftO 26 ⟨3, 4, [128, 1, 1, byteAt p0 0]⟩ (.slice da11 4 dc11)) = U11 at *
  clear HA11
  have HSo := HS
  have HKo := HK
  have HPo := HP
  have HBo := HB
  have HX6o := HX6
  have HF8o := HF8
  have HD8o := HD8
  have HX9o := HX9
  have HF11o := HF11
  have HD11o := HD11
  have HSo11 := Lib.hid (Same.refl U11)
  have HSM := Lib.hid (Same.alloc U11 (.cells #[.int .u8 64, .int .u8 t, .int .u8 1, .int .u8 n] 5))
  have HM := Lib.hid (heap_alloc_new U11 (.cells #[.int .u8 64, .int .u8 t, .int .u8 1, .int .u8 n] 5))
  have HGM : Hid (U11.heap.size = U11.heap.size) := rfl
  replace HS := Lib.hid (HS.out.trans HSM.out)
  replace HK := Lib.hid (HSM.out.block HK.out)
  replace HP := Lib.hid (HP.out.same HSM.out)
  replace HB := Lib.hid (HB.out.same HSM.out)
  replace HX6 := Lib.hid (HX6.out.same HSM.out)
  replace HF8 := Lib.hid (HSM.out.block HF8.out)
  replace HD8 := Lib.hid (HD8.out.same HSM.out)
  replace HX9 := Lib.hid (HX9.out.same HSM.out)
  replace HF11 := Lib.hid (HSM.out.block HF11.out)
  replace HD11 := Lib.hid (HD11.out.same HSM.out)
  replace HSo11 := Lib.hid (HSo11.out.trans HSM.out)
  generalize hV13 : U11.alloc (.cells #[.int .u8 64, .int .u8 t, .int .u8 1, .int .u8 n] 5) = V13 at HSM HM HS HK HP HB HX6 HF8 HD8 HX9 HF11 HD11 HSo11
  have HMB := Lib.hid (bs_four HM.out (by omega) (by omega) (by omega) (by omega))
  have HE := Lib.hid (OwnB.empty V13)
  have HA := Lib.hid (Same.alloc V13 (.cells #[] 5))
  have HLe : Hid (([] : List UInt8).length + X.length ≤ 140737488355328) := by show _ ≤ _; rw [HNX.out]; simp; omega
  have HLf : Hid (X.length + ([byteAt 64 0, byteAt t 0, byteAt 1 0, byteAt n 0] : List UInt8).length ≤ 140737488355328) := by show _ ≤ _; rw [HNX.out]; simp; omega
  go_wp2_with (first | (at_builtin; refine wpList_append_bs rfl _ _ rfl V13 HA.out _ [] rfl HE.out _ X rfl (HB.out.same HA.out) HLe.out ?_; intro v13 w13 ho13 hs13; rw [List.nil_append] at ho13) | (at_builtin; refine wpList_append_bs rfl _ _ rfl V13 hs13 _ X rfl ho13 _ [byteAt 64 0, byteAt t 0, byteAt 1 0, byteAt n 0] rfl (HMB.out.same hs13) HLf.out ?_; intro v13b w13b ho13b hs13b))
  replace HS := Lib.hid (HS.out.trans hs13b)
  replace HK := Lib.hid (hs13b.block HK.out)
  replace HP := Lib.hid (HP.out.same hs13b)
  replace HB := Lib.hid (HB.out.same hs13b)
  replace HX6 := Lib.hid (HX6.out.same hs13b)
  replace HF8 := Lib.hid (hs13b.block HF8.out)
  replace HD8 := Lib.hid (HD8.out.same hs13b)
  replace HX9 := Lib.hid (HX9.out.same hs13b)
  replace HF11 := Lib.hid (hs13b.block HF11.out)
  replace HD11 := Lib.hid (HD11.out.same hs13b)
  replace HSo11 := Lib.hid (HSo11.out.trans hs13b)
  replace HM := Lib.hid (hs13b.block HM.out)
  have HX13 := Lib.hid ho13b.bs
  clear ho13 hs13 ho13b hs13b HE HA HLe HLf
  clear hU11 hV13 HMB HSM
  refine (HP3 _ _ HX13.out).out.mono ?_
  rintro e x14 ⟨y14, d14, rfl, hr14, hd14, hs14, -⟩
  replace HS := Lib.hid (HS.out.trans hs14)
  replace HK := Lib.hid (hs14.block HK.out)
  replace HP := Lib.hid (HP.out.same hs14)
  replace HB := Lib.hid (HB.out.same hs14)
  replace HX6 := Lib.hid (HX6.out.same hs14)
  replace HF8 := Lib.hid (hs14.block HF8.out)
  replace HD8 := Lib.hid (HD8.out.same hs14)
  replace HX9 := Lib.hid (HX9.out.same hs14)
  replace HF11 := Lib.hid (hs14.block HF11.out)
  replace HD11 := Lib.hid (HD11.out.same hs14)
  replace HSo11 := Lib.hid (HSo11.out.trans hs14)
  replace HM := Lib.hid (hs14.block HM.out)
  have HZ14 : Hid (U11.heap.size ≤ x14.heap.size) := HSo11.out.size
  have HR14 := Lib.hid hr14
  have HD14 := Lib.hid hd14
  obtain ⟨ra14, rc14, rfl⟩ := hr14.form (n := 0) rfl
  obtain ⟨da14, dc14, rfl⟩ := hd14.form0 (n := 4) rfl
  clear hs14 hr14 hd14
  have HA14 := Lib.hid ((Same.alloc x14 (atO 35 ⟨0, [], 0, 0, false⟩ (.slice ra14 0 rc14))).trans (Same.alloc (x14.alloc (atO 35 ⟨0, [], 0, 0, false⟩ (.slice ra14 0 rc14))) (ftO 26 ⟨3, 2, [64, byteAt t 0, 1, byteAt n 0]⟩ (.slice da14 4 dc14))))
  have HXA14 := Lib.hid ((Same.alloc (x14.alloc (atO 35 ⟨0, [], 0, 0, false⟩ (.slice ra14 0 rc14))) (ftO 26 ⟨3, 2, [64, byteAt t 0, 1, byteAt n 0]⟩ (.slice da14 4 dc14))).block (heap_alloc_new x14 (atO 35 ⟨0, [], 0, 0, false⟩ (.slice ra14 0 rc14))))
  have HF14 : Hid (((x14.alloc (atO 35 ⟨0, [], 0, 0, false⟩ (.slice ra14 0 rc14))).alloc (ftO 26 ⟨3, 2, [64, byteAt t 0, 1, byteAt n 0]⟩ (.slice da14 4 dc14))).heap[x14.heap.size + 1]? = some (ftO 26 ⟨3, 2, [64, byteAt t 0, 1, byteAt n 0]⟩ (.slice da14 4 dc14))) := by
    have := heap_alloc_new (x14.alloc (atO 35 ⟨0, [], 0, 0, false⟩ (.slice ra14 0 rc14))) (ftO 26 ⟨3, 2, [64, byteAt t 0, 1, byteAt n 0]⟩ (.slice da14 4 dc14))
    rw [show (x14.alloc (atO 35 ⟨0, [], 0, 0, false⟩ (.slice ra14 0 rc14))).heap.size = x14.heap.size + 1 from by simp] at this
    exact this
  replace HS := Lib.hid (HS.out.trans HA14.out)
  replace HK := Lib.hid (HA14.out.block HK.out)
  replace HP := Lib.hid (HP.out.same HA14.out)
  replace HB := Lib.hid (HB.out.same HA14.out)
  replace HX6 := Lib.hid (HX6.out.same HA14.out)
  replace HF8 := Lib.hid (HA14.out.block HF8.out)
  replace HD8 := Lib.hid (HD8.out.same HA14.out)
  replace HX9 := Lib.hid (HX9.out.same HA14.out)
  replace HF11 := Lib.hid (HA14.out.block HF11.out)
  replace HD11 := Lib.hid (HD11.out.same HA14.out)
  replace HSo11 := Lib.hid (HSo11.out.trans HA14.out)
  replace HM := Lib.hid (HA14.out.block HM.out)
  replace HD14 := Lib.hid (HD14.out.same HA14.out)
  replace HR14 := Lib.hid (HR14.out.same HA14.out)
  generalize hU14 : (x14.alloc (atO 35 ⟨0, [], 0, 0, false⟩ (.slice ra14 0 rc14))).alloc (ftO 26 ⟨3, 2, [64, byteAt t 0, 1, byteAt n 0]⟩ (.slice da14 4 dc14)) = U14 at *
  clear HA14
  obtain ⟨bd, od, cd, e1, -, -, hcd⟩ := HD14.out.form (by simp)
  injection e1 with i1 i2 i3
  subst i1 i3
  have HC14 := Lib.hid (hcd _ (Same.refl _) 1 _ rfl)
  clear i2 hcd
  have ht8 : ((byteAt t 0).toNat : Int) = t := by rw [byteAt_int]; simp; omega
  rw [ht8] at HC14
  clear ht8
  have HSN : Hid (Same U11 (U14.setCell ⟨U11.heap.size, 0, none⟩ (.int .u8 192))) := HSo11.out.set (Nat.le_refl _) _
  have HMN : Hid ((U14.setCell ⟨U11.heap.size, 0, none⟩ (.int .u8 192)).heap[U11.heap.size]? = some (.cells #[.int .u8 192, .int .u8 t, .int .u8 1, .int .u8 n] 5)) := by show _ = _; simp [World.setCell, Array.getElem?_modify, HM.out]
  have HFN : Hid ((U14.setCell ⟨U11.heap.size, 0, none⟩ (.int .u8 192)).heap[x14.heap.size + 1]? = some (ftO 26 ⟨3, 2, [64, byteAt t 0, 1, byteAt n 0]⟩ (.slice (some ⟨bd, od, none⟩) 4 dc14))) := ((Mod.setCell U11.heap.size 0 U14 (.int .u8 192)).block _ (Array.getElem?_eq_some_iff.1 HF14.out).1 (by have := HZ14.out; omega)).trans HF14.out
  have HCN : Hid ((U14.setCell ⟨U11.heap.size, 0, none⟩ (.int .u8 192)).cell? ⟨bd, od + 1, none⟩ = some (.int .u8 t)) := (World.cell?_setCell_other _ _ _ _ (by intro e; injection e with e1 e2 e3; omega)).trans HC14.out
  have hcM : U14.cell? ⟨U11.heap.size, 0, none⟩ = some (.int .u8 64) := by simp [World.cell?, HM.out]
  have hzM := nofr HM.out
  clear HF14 HC14 HM HD14
  clear HX13 HSo11 HZ14
  clear HS
  have HS := Lib.hid (HSo.out.trans HSN.out)
  clear HSo
  clear HK
  have HK := Lib.hid (HSN.out.block HKo.out)
  clear HKo
  clear HP
  have HP := Lib.hid (HPo.out.same HSN.out)
  clear HPo
  clear HB
  have HB := Lib.hid (HBo.out.same HSN.out)
  clear HBo
  clear HX6
  have HX6 := Lib.hid (HX6o.out.same HSN.out)
  clear HX6o
  clear HF8
  have HF8 := Lib.hid (HSN.out.block HF8o.out)
  clear HF8o
  clear HD8
  have HD8 := Lib.hid (HD8o.out.same HSN.out)
  clear HD8o
  clear HX9
  have HX9 := Lib.hid (HX9o.out.same HSN.out)
  clear HX9o
  clear HF11
  have HF11 := Lib.hid (HSN.out.block HF11o.out)
  clear HF11o
  clear HD11
  have HD11 := Lib.hid (HD11o.out.same HSN.out)
  clear HD11o
  generalize hV16 : U14.setCell ⟨U11.heap.size, 0, none⟩ (.int .u8 192) = V16 at HMN HFN HCN HS HK HP HB HX6 HF8 HD8 HX9 HF11 HD11
  clear HSN
  have HMB := Lib.hid (bs_four HMN.out (by omega) (by omega) (by omega) (by omega))
  have HE := Lib.hid (OwnB.empty V16)
  have HA := Lib.hid (Same.alloc V16 (.cells #[] 5))
  have HLe : Hid (([] : List UInt8).length + X.length ≤ 140737488355328) := by show _ ≤ _; rw [HNX.out]; simp; omega
  have HLf : Hid (X.length + ([byteAt 192 0, byteAt t 0, byteAt 1 0, byteAt n 0] : List UInt8).length ≤ 140737488355328) := by show _ ≤ _; rw [HNX.out]; simp; omega
  go_wp2_with (first | (at_builtin; refine wpList_append_bs rfl _ _ rfl V16 HA.out _ [] rfl HE.out _ X rfl (HB.out.same HA.out) HLe.out ?_; intro v16 w16 ho16 hs16; rw [List.nil_append] at ho16) | (at_builtin; refine wpList_append_bs rfl _ _ rfl V16 hs16 _ X rfl ho16 _ [byteAt 192 0, byteAt t 0, byteAt 1 0, byteAt n 0] rfl (HMB.out.same hs16) HLf.out ?_; intro v16b w16b ho16b hs16b))
  replace HS := Lib.hid (HS.out.trans hs16b)
  replace HK := Lib.hid (hs16b.block HK.out)
  replace HP := Lib.hid (HP.out.same hs16b)
  replace HB := Lib.hid (HB.out.same hs16b)
  replace HX6 := Lib.hid (HX6.out.same hs16b)
  replace HF8 := Lib.hid (hs16b.block HF8.out)
  replace HD8 := Lib.hid (HD8.out.same hs16b)
  replace HX9 := Lib.hid (HX9.out.same hs16b)
  replace HF11 := Lib.hid (hs16b.block HF11.out)
  replace HD11 := Lib.hid (HD11.out.same hs16b)
  replace HMN := Lib.hid (hs16b.block HMN.out)
  replace HFN := Lib.hid (hs16b.block HFN.out)
  replace HCN := Lib.hid ((Below.cell hs16b (World.block_lt_of_cell? _ _ HCN.out)).trans HCN.out)
  have HX16 := Lib.hid ho16b.bs
  clear ho16 hs16 ho16b hs16b HE HA HLe HLf
  clear hU14 hV16 HMB hcM hzM
  refine (HP4 _ _ HX16.out).out.mono ?_
  rintro e x17 ⟨y17, d17, rfl, hr17, hd17, hs17, -⟩
  replace HS := Lib.hid (HS.out.trans hs17)
  replace HK := Lib.hid (hs17.block HK.out)
  replace HP := Lib.hid (HP.out.same hs17)
  replace HB := Lib.hid (HB.out.same hs17)
  replace HX6 := Lib.hid (HX6.out.same hs17)
  replace HF8 := Lib.hid (hs17.block HF8.out)
  replace HD8 := Lib.hid (HD8.out.same hs17)
  replace HX9 := Lib.hid (HX9.out.same hs17)
  replace HF11 := Lib.hid (hs17.block HF11.out)
  replace HD11 := Lib.hid (HD11.out.same hs17)
  replace HMN := Lib.hid (hs17.block HMN.out)
  replace HFN := Lib.hid (hs17.block HFN.out)
  replace HCN := Lib.hid ((Below.cell hs17 (World.block_lt_of_cell? _ _ HCN.out)).trans HCN.out)
  have HR17 := Lib.hid hr17
  have HD17 := Lib.hid hd17
  obtain ⟨ra17, rc17, rfl⟩ := hr17.form HN.out
  obtain ⟨da17, dc17, rfl⟩ := hd17.form0 (n := 0) rfl
  clear hs17 hr17 hd17
  have HA17 := Lib.hid ((Same.alloc x17 (atO 35 ⟨p0, p1, p2, p3, p4⟩ (.slice ra17 m rc17))).trans (Same.alloc (x17.alloc (atO 35 ⟨p0, p1, p2, p3, p4⟩ (.slice ra17 m rc17))) (ftO 26 ⟨0, 0, []⟩ (.slice da17 0 dc17))))
  have HXA17 := Lib.hid ((Same.alloc (x17.alloc (atO 35 ⟨p0, p1, p2, p3, p4⟩ (.slice ra17 m rc17))) (ftO 26 ⟨0, 0, []⟩ (.slice da17 0 dc17))).block (heap_alloc_new x17 (atO 35 ⟨p0, p1, p2, p3, p4⟩ (.slice ra17 m rc17))))
  have HF17 : Hid (((x17.alloc (atO 35 ⟨p0, p1, p2, p3, p4⟩ (.slice ra17 m rc17))).alloc (ftO 26 ⟨0, 0, []⟩ (.slice da17 0 dc17))).heap[x17.heap.size + 1]? = some (ftO 26 ⟨0, 0, []⟩ (.slice da17 0 dc17))) := by
    have := heap_alloc_new (x17.alloc (atO 35 ⟨p0, p1, p2, p3, p4⟩ (.slice ra17 m rc17))) (ftO 26 ⟨0, 0, []⟩ (.slice da17 0 dc17))
    rw [show (x17.alloc (atO 35 ⟨p0, p1, p2, p3, p4⟩ (.slice ra17 m rc17))).heap.size = x17.heap.size + 1 from by simp] at this
    exact this
  replace HS := Lib.hid (HS.out.trans HA17.out)
  replace HK := Lib.hid (HA17.out.block HK.out)
  replace HP := Lib.hid (HP.out.same HA17.out)
  replace HB := Lib.hid (HB.out.same HA17.out)
  replace HX6 := Lib.hid (HX6.out.same HA17.out)
  replace HF8 := Lib.hid (HA17.out.block HF8.out)
  replace HD8 := Lib.hid (HD8.out.same HA17.out)
  replace HX9 := Lib.hid (HX9.out.same HA17.out)
  replace HF11 := Lib.hid (HA17.out.block HF11.out)
  replace HD11 := Lib.hid (HD11.out.same HA17.out)
  replace HMN := Lib.hid (HA17.out.block HMN.out)
  replace HFN := Lib.hid (HA17.out.block HFN.out)
  replace HCN := Lib.hid ((Below.cell HA17.out (World.block_lt_of_cell? _ _ HCN.out)).trans HCN.out)
  replace HD17 := Lib.hid (HD17.out.same HA17.out)
  replace HR17 := Lib.hid (HR17.out.same HA17.out)
  generalize hU17 : (x17.alloc (atO 35 ⟨p0, p1, p2, p3, p4⟩ (.slice ra17 m rc17))).alloc (ftO 26 ⟨0, 0, []⟩ (.slice da17 0 dc17)) = U17 at *
  clear HA17
  go_wp2_with fail
  clear hU17
  have HTW : Hid (IntKind.u8.wrap (5 + kind.tmod 200) = t) := by show _ = _; rw [IntKind.wrap_u8, Int.tmod_eq_emod_of_nonneg hk.1]; omega
  have HS0 := Lib.hid ((Same.refl U17).drew)
  have HY8 := fun w' (h : Same U17 w') => Lib.hid (run_str w' _ _ (HD8.out.same h))
  have HY11 := fun w' (h : Same U17 w') => Lib.hid (run_str w' _ _ (HD11.out.same h))
  have HX6f := HX6.out.front7 4 (by rw [List.length_set, HNX.out]; omega)
  rw [E6.out] at HX6f
  have HY6 := fun w' (h : Same U17 w') => Lib.hid (run_str w' _ _ (HX6f.same h))
  have HX9f := HX9.out.front7 4 (by rw [List.length_set, HNX.out]; omega)
  rw [E7.out] at HX9f
  have HY9 := fun w' (h : Same U17 w') => Lib.hid (run_str w' _ _ (HX9f.same h))
  generalize (⟨[64, 1, 1, byteAt q 0].toArray⟩ : ByteArray) = s1 at HY8 HY6
  generalize (⟨[128, 1, 1, byteAt p0 0].toArray⟩ : ByteArray) = s2 at HY11 HY9
  have hq6 : 4 ≤ c6 := by omega
  have hq9 : 4 ≤ c9 := by omega
  clear HX6f HX9f HD8 HD11 HX6 HX9 E6 E7 HP1 HP2 HP3 HP4 HB
  refine reg_start (fun w' => Same U17 w') (by kernel_rfl) ?_
  refine reg_take (v := ?_) 0 (some 82) rfl rfl (by kernel_rfl) (fun _ _ _ h => h) (by kernel_rfl) (HS0.out) ?_ ?_
  rotate_left
  · (intro w' hw'; skip; go_simp; try with_reducible rfl)
  try simp only [Act.put, List.setIfInBounds_toArray, List.set_cons_zero, List.set_cons_succ]
  refine reg_take (v := ?_) 1 (some 83) rfl rfl (by kernel_rfl) (fun _ _ _ h => h) (by kernel_rfl) (HS0.out) ?_ ?_
  rotate_left
  · (intro w' hw'; obtain ⟨f0, f1, f2⟩ := FtAt.of (hw'.block HF8.out); go_simp; try with_reducible rfl)
  try simp only [Act.put, List.setIfInBounds_toArray, List.set_cons_zero, List.set_cons_succ]
  refine reg_take (v := ?_) 2 (some 84) rfl rfl (by kernel_rfl) (fun _ _ _ h => h) (by kernel_rfl) (HS0.out) ?_ ?_
  rotate_left
  · (intro w' hw'; skip; go_simp; try with_reducible rfl)
  try simp only [Act.put, List.setIfInBounds_toArray, List.set_cons_zero, List.set_cons_succ]
  refine reg_take (v := ?_) 3 (some 85) rfl rfl (by kernel_rfl) (fun _ _ _ h => h) (by kernel_rfl) (HS0.out) ?_ ?_
  rotate_left
  · (intro w' hw'; skip; go_simp; try with_reducible rfl)
  try simp only [Act.put, List.setIfInBounds_toArray, List.set_cons_zero, List.set_cons_succ]
  refine reg_take (v := ?_) 4 (some 86) rfl rfl (by kernel_rfl) (fun _ _ _ h => h) (by kernel_rfl) (HS0.out) ?_ ?_
  rotate_left
  · (intro w' hw'; skip; go_simp; try with_reducible rfl)
  try simp only [Act.put, List.setIfInBounds_toArray, List.set_cons_zero, List.set_cons_succ]
  refine reg_take (v := ?_) 5 (some 87) rfl rfl (by kernel_rfl) (fun _ _ _ h => h) (by kernel_rfl) (HS0.out) ?_ ?_
  rotate_left
  · (intro w' hw'; obtain ⟨f0, f1, f2⟩ := FtAt.of (hw'.block HF8.out); go_simp; try with_reducible rfl)
  try simp only [Act.put, List.setIfInBounds_toArray, List.set_cons_zero, List.set_cons_succ]
  refine reg_take (v := ?_) 6 (some 88) rfl rfl (by kernel_rfl) (fun _ _ _ h => h) (by kernel_rfl) (HS0.out) ?_ ?_
  rotate_left
  · (intro w' hw'; skip; go_simp; try with_reducible rfl)
  try simp only [Act.put, List.setIfInBounds_toArray, List.set_cons_zero, List.set_cons_succ]
  refine reg_take (v := ?_) 7 (some 89) rfl rfl (by kernel_rfl) (fun _ _ _ h => h) (by kernel_rfl) (HS0.out) ?_ ?_
  rotate_left
  · (intro w' hw'; skip; go_simp; try with_reducible rfl)
  try simp only [Act.put, List.setIfInBounds_toArray, List.set_cons_zero, List.set_cons_succ]
  refine reg_take (v := ?_) 8 (some 90) rfl rfl (by kernel_rfl) (fun _ _ _ h => h) (by kernel_rfl) (HS0.out) ?_ ?_
  rotate_left
  · (intro w' hw'; skip; go_simp; try with_reducible rfl)
  try simp only [Act.put, List.setIfInBounds_toArray, List.set_cons_zero, List.set_cons_succ]
  refine reg_take (v := ?_) 9 (some 91) rfl rfl (by kernel_rfl) (fun _ _ _ h => h) (by kernel_rfl) (HS0.out) ?_ ?_
  rotate_left
  · (intro w' hw'; skip; go_simp; try with_reducible rfl)
  try simp only [Act.put, List.setIfInBounds_toArray, List.set_cons_zero, List.set_cons_succ]
  refine reg_take (v := ?_) 10 (some 92) rfl rfl (by kernel_rfl) (fun _ _ _ h => h) (by kernel_rfl) (HS0.out) ?_ ?_
  rotate_left
  · (intro w' hw'; obtain ⟨f0, f1, f2⟩ := FtAt.of (hw'.block HF8.out); go_simp; try with_reducible rfl)
  try simp only [Act.put, List.setIfInBounds_toArray, List.set_cons_zero, List.set_cons_succ]
  refine reg_take (v := ?_) 11 (some 93) rfl rfl (by kernel_rfl) (fun _ _ _ h => h) (by kernel_rfl) (HS0.out) ?_ ?_
  rotate_left
  · (intro w' hw'; have hr := (HY8 w' hw').out; go_simp; try with_reducible rfl)
  try simp only [Act.put, List.setIfInBounds_toArray, List.set_cons_zero, List.set_cons_succ]
  refine reg_take (v := ?_) 12 (some 94) rfl rfl (by kernel_rfl) (fun _ _ _ h => h) (by kernel_rfl) (HS0.out) ?_ ?_
  rotate_left
  · (intro w' hw'; skip; go_simp; try with_reducible rfl)
  try simp only [Act.put, List.setIfInBounds_toArray, List.set_cons_zero, List.set_cons_succ]
  refine reg_take (v := ?_) 13 (some 95) rfl rfl (by kernel_rfl) (fun _ _ _ h => h) (by kernel_rfl) (HS0.out) ?_ ?_
  rotate_left
  · (intro w' hw'; skip; go_simp; rw [if_pos (by omega)])
  try simp only [Act.put, List.setIfInBounds_toArray, List.set_cons_zero, List.set_cons_succ]
  refine reg_take (v := ?_) 14 (some 96) rfl rfl (by kernel_rfl) (fun _ _ _ h => h) (by kernel_rfl) (HS0.out) ?_ ?_
  rotate_left
  · (intro w' hw'; have hr := (HY6 w' hw').out; go_simp; try with_reducible rfl)
  try simp only [Act.put, List.setIfInBounds_toArray, List.set_cons_zero, List.set_cons_succ]
  refine reg_take (v := ?_) 15 (some 97) rfl rfl (by kernel_rfl) (fun _ _ _ h => h) (by kernel_rfl) (HS0.out) ?_ ?_
  rotate_left
  · (intro w' hw'; skip; go_simp; try with_reducible rfl)
  try simp only [Act.put, List.setIfInBounds_toArray, List.set_cons_zero, List.set_cons_succ]
  refine reg_take (v := ?_) 16 (some 98) rfl rfl (by kernel_rfl) (fun _ _ _ h => h) (by kernel_rfl) (HS0.out) ?_ ?_
  rotate_left
  · (intro w' hw'; skip; go_simp; try with_reducible rfl)
  try simp only [Act.put, List.setIfInBounds_toArray, List.set_cons_zero, List.set_cons_succ]
  refine reg_take (v := ?_) 17 (some 99) rfl rfl (by kernel_rfl) (fun _ _ _ h => h) (by kernel_rfl) (HS0.out) ?_ ?_
  rotate_left
  · (intro w' hw'; skip; go_simp; try with_reducible rfl)
  try simp only [Act.put, List.setIfInBounds_toArray, List.set_cons_zero, List.set_cons_succ]
  refine reg_take (v := ?_) 18 (some 100) rfl rfl (by kernel_rfl) (fun _ _ _ h => h) (by kernel_rfl) (HS0.out) ?_ ?_
  rotate_left
  · (intro w' hw'; skip; go_simp; try with_reducible rfl)
  try simp only [Act.put, List.setIfInBounds_toArray, List.set_cons_zero, List.set_cons_succ]
  refine reg_take (v := ?_) 19 (some 101) rfl rfl (by kernel_rfl) (fun _ _ _ h => h) (by kernel_rfl) (HS0.out) ?_ ?_
  rotate_left
  · (intro w' hw'; obtain ⟨f0, f1, f2⟩ := FtAt.of (hw'.block HF11.out); go_simp; try with_reducible rfl)
  try simp only [Act.put, List.setIfInBounds_toArray, List.set_cons_zero, List.set_cons_succ]
  refine reg_take (v := ?_) 20 (some 102) rfl rfl (by kernel_rfl) (fun _ _ _ h => h) (by kernel_rfl) (HS0.out) ?_ ?_
  rotate_left
  · (intro w' hw'; skip; go_simp; try with_reducible rfl)
  try simp only [Act.put, List.setIfInBounds_toArray, List.set_cons_zero, List.set_cons_succ]
  refine reg_take (v := ?_) 21 (some 103) rfl rfl (by kernel_rfl) (fun _ _ _ h => h) (by kernel_rfl) (HS0.out) ?_ ?_
  rotate_left
  · (intro w' hw'; skip; go_simp; try with_reducible rfl)
  try simp only [Act.put, List.setIfInBounds_toArray, List.set_cons_zero, List.set_cons_succ]
  refine reg_take (v := ?_) 22 (some 104) rfl rfl (by kernel_rfl) (fun _ _ _ h => h) (by kernel_rfl) (HS0.out) ?_ ?_
  rotate_left
  · (intro w' hw'; skip; go_simp; try with_reducible rfl)
  try simp only [Act.put, List.setIfInBounds_toArray, List.set_cons_zero, List.set_cons_succ]
  refine reg_take (v := ?_) 23 (some 105) rfl rfl (by kernel_rfl) (fun _ _ _ h => h) (by kernel_rfl) (HS0.out) ?_ ?_
  rotate_left
  · (intro w' hw'; skip; go_simp; try with_reducible rfl)
  try simp only [Act.put, List.setIfInBounds_toArray, List.set_cons_zero, List.set_cons_succ]
  refine reg_take (v := ?_) 24 (some 106) rfl rfl (by kernel_rfl) (fun _ _ _ h => h) (by kernel_rfl) (HS0.out) ?_ ?_
  rotate_left
  · (intro w' hw'; obtain ⟨f0, f1, f2⟩ := FtAt.of (hw'.block HF11.out); go_simp; try with_reducible rfl)
  try simp only [Act.put, List.setIfInBounds_toArray, List.set_cons_zero, List.set_cons_succ]
  refine reg_take (v := ?_) 25 (some 107) rfl rfl (by kernel_rfl) (fun _ _ _ h => h) (by kernel_rfl) (HS0.out) ?_ ?_
  rotate_left
  · (intro w' hw'; have hr := (HY11 w' hw').out; go_simp; try with_reducible rfl)
  try simp only [Act.put, List.setIfInBounds_toArray, List.set_cons_zero, List.set_cons_succ]
  refine reg_take (v := ?_) 26 (some 108) rfl rfl (by kernel_rfl) (fun _ _ _ h => h) (by kernel_rfl) (HS0.out) ?_ ?_
  rotate_left
  · (intro w' hw'; skip; go_simp; try with_reducible rfl)
  try simp only [Act.put, List.setIfInBounds_toArray, List.set_cons_zero, List.set_cons_succ]
  refine reg_take (v := ?_) 27 (some 109) rfl rfl (by kernel_rfl) (fun _ _ _ h => h) (by kernel_rfl) (HS0.out) ?_ ?_
  rotate_left
  · (intro w' hw'; skip; go_simp; rw [if_pos (by omega)])
  try simp only [Act.put, List.setIfInBounds_toArray, List.set_cons_zero, List.set_cons_succ]
  refine reg_take (v := ?_) 28 (some 110) rfl rfl (by kernel_rfl) (fun _ _ _ h => h) (by kernel_rfl) (HS0.out) ?_ ?_
  rotate_left
  · (intro w' hw'; have hr := (HY9 w' hw').out; go_simp; try with_reducible rfl)
  try simp only [Act.put, List.setIfInBounds_toArray, List.set_cons_zero, List.set_cons_succ]
  refine reg_take (v := ?_) 29 (some 111) rfl rfl (by kernel_rfl) (fun _ _ _ h => h) (by kernel_rfl) (HS0.out) ?_ ?_
  rotate_left
  · (intro w' hw'; skip; go_simp; try with_reducible rfl)
  try simp only [Act.put, List.setIfInBounds_toArray, List.set_cons_zero, List.set_cons_succ]
  refine reg_take (v := ?_) 30 (some 112) rfl rfl (by kernel_rfl) (fun _ _ _ h => h) (by kernel_rfl) (HS0.out) ?_ ?_
  rotate_left
  · (intro w' hw'; skip; go_simp; try with_reducible rfl)
  try simp only [Act.put, List.setIfInBounds_toArray, List.set_cons_zero, List.set_cons_succ]
  refine reg_take (v := ?_) 31 (some 113) rfl rfl (by kernel_rfl) (fun _ _ _ h => h) (by kernel_rfl) (HS0.out) ?_ ?_
  rotate_left
  · (intro w' hw'; skip; go_simp; try with_reducible rfl)
  try simp only [Act.put, List.setIfInBounds_toArray, List.set_cons_zero, List.set_cons_succ]
  refine reg_take (v := ?_) 32 (some 114) rfl rfl (by kernel_rfl) (fun _ _ _ h => h) (by kernel_rfl) (HS0.out) ?_ ?_
  rotate_left
  · (intro w' hw'; skip; go_simp; try with_reducible rfl)
  try simp only [Act.put, List.setIfInBounds_toArray, List.set_cons_zero, List.set_cons_succ]
  refine reg_take (v := ?_) 33 (some 115) rfl rfl (by kernel_rfl) (fun _ _ _ h => h) (by kernel_rfl) (HS0.out) ?_ ?_
  rotate_left
  · (intro w' hw'; obtain ⟨f0, f1, f2⟩ := FtAt.of (hw'.block HFN.out); go_simp; try with_reducible rfl)
  try simp only [Act.put, List.setIfInBounds_toArray, List.set_cons_zero, List.set_cons_succ]
  refine reg_take (v := ?_) 34 (some 116) rfl rfl (by kernel_rfl) (fun _ _ _ h => h) (by kernel_rfl) (HS0.out) ?_ ?_
  rotate_left
  · (intro w' hw'; skip; go_simp; try with_reducible rfl)
  try simp only [Act.put, List.setIfInBounds_toArray, List.set_cons_zero, List.set_cons_succ]
  refine reg_take (v := ?_) 35 (some 117) rfl rfl (by kernel_rfl) (fun _ _ _ h => h) (by kernel_rfl) (HS0.out) ?_ ?_
  rotate_left
  · (intro w' hw'; skip; go_simp; try with_reducible rfl)
  try simp only [Act.put, List.setIfInBounds_toArray, List.set_cons_zero, List.set_cons_succ]
  refine reg_take (v := ?_) 36 (some 118) rfl rfl (by kernel_rfl) (fun _ _ _ h => h) (by kernel_rfl) (HS0.out) ?_ ?_
  rotate_left
  · (intro w' hw'; skip; go_simp; try with_reducible rfl)
  try simp only [Act.put, List.setIfInBounds_toArray, List.set_cons_zero, List.set_cons_succ]
  refine reg_take (v := ?_) 37 (some 119) rfl rfl (by kernel_rfl) (fun _ _ _ h => h) (by kernel_rfl) (HS0.out) ?_ ?_
  rotate_left
  · (intro w' hw'; skip; go_simp; try with_reducible rfl)
  try simp only [Act.put, List.setIfInBounds_toArray, List.set_cons_zero, List.set_cons_succ]
  refine reg_take (v := ?_) 38 (some 120) rfl rfl (by kernel_rfl) (fun _ _ _ h => h) (by kernel_rfl) (HS0.out) ?_ ?_
  rotate_left
  · (intro w' hw'; obtain ⟨f0, f1, f2⟩ := FtAt.of (hw'.block HFN.out); go_simp; try with_reducible rfl)
  try simp only [Act.put, List.setIfInBounds_toArray, List.set_cons_zero, List.set_cons_succ]
  refine reg_take (v := ?_) 39 (some 121) rfl rfl (by kernel_rfl) (fun _ _ _ h => h) (by kernel_rfl) (HS0.out) ?_ ?_
  rotate_left
  · (intro w' hw'; skip; go_simp; try with_reducible rfl)
  try simp only [Act.put, List.setIfInBounds_toArray, List.set_cons_zero, List.set_cons_succ]
  refine reg_take (v := ?_) 40 (some 122) rfl rfl (by kernel_rfl) (fun _ _ _ h => h) (by kernel_rfl) (HS0.out) ?_ ?_
  rotate_left
  · (intro w' hw'; skip; go_simp; try with_reducible rfl)
  try simp only [Act.put, List.setIfInBounds_toArray, List.set_cons_zero, List.set_cons_succ]
  refine reg_take (v := ?_) 41 (some 123) rfl rfl (by kernel_rfl) (fun _ _ _ h => h) (by kernel_rfl) (HS0.out) ?_ ?_
  rotate_left
  · (intro w' hw'; skip; go_simp; try with_reducible rfl)
  try simp only [Act.put, List.setIfInBounds_toArray, List.set_cons_zero, List.set_cons_succ]
  refine reg_take (v := ?_) 42 (some 124) rfl rfl (by kernel_rfl) (fun _ _ _ h => h) (by kernel_rfl) (HS0.out) ?_ ?_
  rotate_left
  · (intro w' hw'; skip; go_simp; try with_reducible rfl)
  try simp only [Act.put, List.setIfInBounds_toArray, List.set_cons_zero, List.set_cons_succ]
  refine reg_take (v := ?_) 43 (some 125) rfl rfl (by kernel_rfl) (fun _ _ _ h => h) (by kernel_rfl) (HS0.out) ?_ ?_
  rotate_left
  · (intro w' hw'; skip; go_simp; try with_reducible rfl)
  try simp only [Act.put, List.setIfInBounds_toArray, List.set_cons_zero, List.set_cons_succ]
  refine reg_take (v := ?_) 44 (some 126) rfl rfl (by kernel_rfl) (fun _ _ _ h => h) (by kernel_rfl) (HS0.out) ?_ ?_
  rotate_left
  · (intro w' hw'; obtain ⟨f0, f1, f2⟩ := FtAt.of (hw'.block HFN.out); go_simp; try with_reducible rfl)
  try simp only [Act.put, List.setIfInBounds_toArray, List.set_cons_zero, List.set_cons_succ]
  refine reg_take (v := ?_) 45 (some 127) rfl rfl (by kernel_rfl) (fun _ _ _ h => h) (by kernel_rfl) (HS0.out) ?_ ?_
  rotate_left
  · (intro w' hw'; skip; go_simp; try with_reducible rfl)
  try simp only [Act.put, List.setIfInBounds_toArray, List.set_cons_zero, List.set_cons_succ]
  refine reg_take (v := ?_) 46 (some 128) rfl rfl (by kernel_rfl) (fun _ _ _ h => h) (by kernel_rfl) (HS0.out) ?_ ?_
  rotate_left
  · (intro w' hw'; have hc := (Below.cell hw' (World.block_lt_of_cell? U17 _ HCN.out)).trans HCN.out; go_simp; try with_reducible rfl)
  try simp only [Act.put, List.setIfInBounds_toArray, List.set_cons_zero, List.set_cons_succ]
  refine reg_take (v := ?_) 47 (some 129) rfl rfl (by kernel_rfl) (fun _ _ _ h => h) (by kernel_rfl) (HS0.out) ?_ ?_
  rotate_left
  · (intro w' hw'; skip; go_simp; try with_reducible rfl)
  try simp only [Act.put, List.setIfInBounds_toArray, List.set_cons_zero, List.set_cons_succ]
  refine reg_take (v := ?_) 48 (some 130) rfl rfl (by kernel_rfl) (fun _ _ _ h => h) (by kernel_rfl) (HS0.out) ?_ ?_
  rotate_left
  · (intro w' hw'; skip; go_simp; try with_reducible rfl)
  try simp only [Act.put, List.setIfInBounds_toArray, List.set_cons_zero, List.set_cons_succ]
  refine reg_take (v := ?_) 49 (some 131) rfl rfl (by kernel_rfl) (fun _ _ _ h => h) (by kernel_rfl) (HS0.out) ?_ ?_
  rotate_left
  · (intro w' hw'; skip; go_simp; rw [HTW.out])
  try simp only [Act.put, List.setIfInBounds_toArray, List.set_cons_zero, List.set_cons_succ]
  refine reg_take (v := ?_) 50 (some 132) rfl rfl (by kernel_rfl) (fun _ _ _ h => h) (by kernel_rfl) (HS0.out) ?_ ?_
  rotate_left
  · (intro w' hw'; skip; go_simp; try with_reducible rfl)
  try simp only [Act.put, List.setIfInBounds_toArray, List.set_cons_zero, List.set_cons_succ]
  refine reg_take (v := ?_) 51 (some 133) rfl rfl (by kernel_rfl) (fun _ _ _ h => h) (by kernel_rfl) (HS0.out) ?_ ?_
  rotate_left
  · (intro w' hw'; skip; go_simp; try with_reducible rfl)
  try simp only [Act.put, List.setIfInBounds_toArray, List.set_cons_zero, List.set_cons_succ]
  refine reg_take (v := ?_) 52 (some 134) rfl rfl (by kernel_rfl) (fun _ _ _ h => h) (by kernel_rfl) (HS0.out) ?_ ?_
  rotate_left
  · (intro w' hw'; skip; go_simp; try with_reducible rfl)
  try simp only [Act.put, List.setIfInBounds_toArray, List.set_cons_zero, List.set_cons_succ]
  refine reg_take (v := ?_) 53 (some 135) rfl rfl (by kernel_rfl) (fun _ _ _ h => h) (by kernel_rfl) (HS0.out) ?_ ?_
  rotate_left
  · (intro w' hw'; skip; go_simp; try with_reducible rfl)
  try simp only [Act.put, List.setIfInBounds_toArray, List.set_cons_zero, List.set_cons_succ]
  refine reg_take (v := ?_) 54 (some 136) rfl rfl (by kernel_rfl) (fun _ _ _ h => h) (by kernel_rfl) (HS0.out) ?_ ?_
  rotate_left
  · (intro w' hw'; obtain ⟨f0, f1, f2⟩ := FtAt.of (hw'.block HF17.out); go_simp; try with_reducible rfl)
  try simp only [Act.put, List.setIfInBounds_toArray, List.set_cons_zero, List.set_cons_succ]
  refine reg_take (v := ?_) 55 (some 137) rfl rfl (by kernel_rfl) (fun _ _ _ h => h) (by kernel_rfl) (HS0.out) ?_ ?_
  rotate_left
  · (intro w' hw'; skip; go_simp; try with_reducible rfl)
  try simp only [Act.put, List.setIfInBounds_toArray, List.set_cons_zero, List.set_cons_succ]
  refine reg_take (v := ?_) 56 (some 138) rfl rfl (by kernel_rfl) (fun _ _ _ h => h) (by kernel_rfl) (HS0.out) ?_ ?_
  rotate_left
  · (intro w' hw'; skip; go_simp; try with_reducible rfl)
  try simp only [Act.put, List.setIfInBounds_toArray, List.set_cons_zero, List.set_cons_succ]
  refine reg_take (v := ?_) 57 (some 139) rfl rfl (by kernel_rfl) (fun _ _ _ h => h) (by kernel_rfl) (HS0.out) ?_ ?_
  rotate_left
  · (intro w' hw'; skip; go_simp; try with_reducible rfl)
  try simp only [Act.put, List.setIfInBounds_toArray, List.set_cons_zero, List.set_cons_succ]
  refine reg_take (v := ?_) 58 (some 140) rfl rfl (by kernel_rfl) (fun _ _ _ h => h) (by kernel_rfl) (HS0.out) ?_ ?_
  rotate_left
  · (intro w' hw'; obtain ⟨f0, f1, f2, f3, f4⟩ := AtAt.of (hw'.block HXA17.out); go_simp; try with_reducible rfl)
  try simp only [Act.put, List.setIfInBounds_toArray, List.set_cons_zero, List.set_cons_succ]
  refine reg_take (v := ?_) 59 (some 141) rfl rfl (by kernel_rfl) (fun _ _ _ h => h) (by kernel_rfl) (HS0.out) ?_ ?_
  rotate_left
  · (intro w' hw'; obtain ⟨f0, f1, f2, f3, f4⟩ := AtAt.of (hw'.block HK.out); go_simp; try with_reducible rfl)
  try simp only [Act.put, List.setIfInBounds_toArray, List.set_cons_zero, List.set_cons_succ]
  refine reg_one 60 rfl (by kernel_rfl) (by kernel_rfl) ?_
  go_simp
  refine ((HSm _ _ _ (HR17.out.same HS0.out) (HP.out.same HS0.out)).out).mono ?_
  rintro e u1 ⟨rfl, hs1⟩
  have hS1 := (HS0.out).trans hs1
  skip
  refine ⟨hS1, ?_⟩
  try simp only [Act.put, List.setIfInBounds_toArray, List.set_cons_zero, List.set_cons_succ]
  refine reg_take (v := ?_) 61 (some 143) rfl rfl (by kernel_rfl) (fun _ _ _ h => h) (by kernel_rfl) (hS1) ?_ ?_
  rotate_left
  · (intro w' hw'; skip; go_simp; try with_reducible rfl)
  try simp only [Act.put, List.setIfInBounds_toArray, List.set_cons_zero, List.set_cons_succ]
  refine reg_take (v := ?_) 62 (some 144) rfl rfl (by kernel_rfl) (fun _ _ _ h => h) (by kernel_rfl) (hS1) ?_ ?_
  rotate_left
  · (intro w' hw'; skip; go_simp; try with_reducible rfl)
  try simp only [Act.put, List.setIfInBounds_toArray, List.set_cons_zero, List.set_cons_succ]
  refine reg_one 63 rfl (by kernel_rfl) (by kernel_rfl) ?_
  go_simp
  refine ((HL _).out).mono ?_
  rintro e u2 ⟨rfl, hs2⟩
  have hS2 := (hS1).trans hs2
  skip
  refine ⟨hS2, ?_⟩
  try simp only [Act.put, List.setIfInBounds_toArray, List.set_cons_zero, List.set_cons_succ]
  refine reg_take (v := ?_) 64 (some 146) rfl rfl (by kernel_rfl) (fun _ _ _ h => h) (by kernel_rfl) (hS2) ?_ ?_
  rotate_left
  · (intro w' hw'; skip; go_simp; try with_reducible rfl)
  try simp only [Act.put, List.setIfInBounds_toArray, List.set_cons_zero, List.set_cons_succ]
  refine reg_take (v := ?_) 65 (some 6) rfl rfl (by kernel_rfl) (fun _ _ _ h => h) (by kernel_rfl) (hS2) ?_ ?_
  rotate_left
  · (intro w' hw'; skip; go_simp; try with_reducible rfl)
  try simp only [Act.put, List.setIfInBounds_toArray, List.set_cons_zero, List.set_cons_succ]
  refine reg_done (by kernel_rfl) ?_
  have HS2 := Lib.hid (HS.out.trans hS2)
  go_wp2_with fail
  go_ret
  exact ⟨rfl, HS2.out⟩
end Go.Proofs.Ytfhaaenmllkbnaa
