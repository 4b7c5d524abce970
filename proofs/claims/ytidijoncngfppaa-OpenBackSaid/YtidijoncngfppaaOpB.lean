/- Layer 8: OpenBack's walk over OpenC. No condition beyond what it names. -/
import Derived.Test.YtidijoncngfppaaOpC
import Derived.Test.YtidijoncngfppaaAtRA
namespace Go.Proofs.Ytidijoncngfppaa
open Go.RowKit
set_option linter.unusedVariables false

theorem Bs.front8 {w : World} {ao : Option Addr} {m cap : Nat} {l : List UInt8} (h : Bs w (.slice ao m cap) l) (k : Nat) (hk : k ≤ l.length) : Bs w (.slice ao k cap) (l.take k) := by
  obtain ⟨ao', cap', he, h1, h2, h3, h4⟩ := h
  cases he
  refine ⟨ao, cap, by simp [Nat.min_eq_left hk], by simp; omega, h2, h3, fun ad had => ⟨fun hne => (h4 ad had).1 (by intro he; subst he; simp at hne), fun j u hu => (h4 ad had).2 j u ?_⟩⟩
  rw [List.getElem?_take] at hu
  split at hu
  · exact hu
  · cases hu

set_option maxRecDepth 100000 in
set_option maxHeartbeats 8000000 in
theorem oback_walk (C : OpenC) (o : Oq) (vc : Value) (asn at' : Int) (w : World) (hp : CapsW 30 w vc o.caps) (hr : identR o) (ha : 0 ≤ at' ∧ at' ≤ 18446744073709551615) :
    Calls Try.prog 5 #[oqV o vc, .int .i64 asn, .int .u64 at'] w fun e w' => e = .returned (.bool true) ∧ Same w w' := by
  have HL := fun w => Lib.hid (op_lives C w)
  have HLi := fun w hp => Lib.hid (light8_any o vc w hp)
  have HGo := fun w hp hl => Lib.hid (C.good o vc w hp hl)
  have HBy := fun w hp hl => Lib.hid (C.bytes o vc w hp hl hr)
  have hXm := openB_most o
  obtain ⟨m, hm⟩ : ∃ m, o.caps.length = m := ⟨_, rfl⟩
  have HM := Lib.hid hm
  obtain ⟨pa, pc, rfl⟩ := hp.form hm
  have HC := Lib.hid hp
  clear hp hm
  have HOK : Hid (∀ w', Same w w' → True) := fun _ _ => trivial
  by_cases hg : goodO o
  · have hX10 := openB_length o hg
    have e1 : parseO (openB o) o.asn = (o, ⟨0, 0, []⟩) := by rw [openB_back o hg ⟨hr.2, hr.1⟩, if_neg (fun h => h.2 rfl)]; rfl
    have e2 : parseO (openB o) 0 = (o, ⟨0, 0, []⟩) := by rw [openB_back o hg ⟨hr.2, hr.1⟩, if_neg (fun h => absurd h.1 (by decide))]; rfl
    have e3' := fun k hk => openB_cut o hg ⟨hr.2, hr.1⟩ k hk
    have e4' := fun u => openB_more o hg ⟨hr.2, hr.1⟩ u
    have e5 := openB_back o hg ⟨hr.2, hr.1⟩ asn
    generalize openB o = X at *
    obtain ⟨nX, hnX⟩ : ∃ k, X.length = k := ⟨_, rfl⟩
    rw [hnX] at hX10 hXm e3'
    obtain ⟨k, hk⟩ : ∃ k : Nat, at' % (nX : Int) = k := ⟨(at' % (nX : Int)).toNat, by have := Int.emod_nonneg at' (b := (nX : Int)) (by omega); omega⟩
    have hkX : k < nX := by have := Int.emod_lt_of_pos at' (b := (nX : Int)) (by omega); omega
    have e3 : parseO (X.take k) 0 = (⟨0, 0, 0, []⟩, ⟨2, 0, []⟩) := e3' k hkX
    have e4 : parseO (X ++ [byteAt at' 0]) 0 = (⟨0, 0, 0, []⟩, ⟨2, 0, []⟩) := e4' _
    have HP1 := fun v w hb => Lib.hid (C.parse v X o.asn w hb (by omega))
    have HP2 := fun v w hb => Lib.hid (C.parse v X 0 w hb (by omega))
    have HP3 := fun v w hb => Lib.hid (C.parse v (X.take k) 0 w hb (by rw [List.length_take]; omega))
    have HP4 := fun v w hb => Lib.hid (C.parse v (X ++ [byteAt at' 0]) 0 w hb (by rw [List.length_append]; simp; omega))
    have HP5 := fun v w hb => Lib.hid (C.parse v X asn w hb (by omega))
    rw [e1] at HP1
    rw [e2] at HP2
    rw [e3] at HP3
    rw [e4] at HP4
    obtain ⟨J, hJ⟩ : ∃ J, parseO X asn = J := ⟨_, rfl⟩
    rw [hJ] at HP5 e5
    have HNX := Lib.hid hnX
    obtain ⟨p0, p1, p2, p3⟩ := o
    have HSm := fun va vb w h1 h2 => Lib.hid (C.same ⟨p0, p1, p2, p3⟩ ⟨p0, p1, p2, p3⟩ va vb w h1 h2)
    rw [decide_eq_true (sameO_refl _)] at HSm
    simp only at HLi HGo HBy HC HP1 HP2 HM e5
    have E5 := Lib.hid e5
    have HB8 : Hid (IntKind.u8.wrap at' = at' % 256) := IntKind.wrap_u8 _
    clear e1 e2 e3 e3' e4 e4' e5 hnX hg hJ HGo
    have HS := Lib.hid (Same.alloc w (oqO 25 ⟨p0, p1, p2, p3⟩ (.slice pa m pc)))
    have HK := Lib.hid (heap_alloc_new w (oqO 25 ⟨p0, p1, p2, p3⟩ (.slice pa m pc)))
    replace HC := Lib.hid (HC.out.same HS.out)
    obtain ⟨k0, k1, k2, k3⟩ := OqAt.of HK.out
    generalize hW : w.alloc (oqO 25 ⟨p0, p1, p2, p3⟩ (.slice pa m pc)) = W at HS HK HC k0 k1 k2 k3
    go_enter Try.func5, Try.ntmps5
    go_wp2_with fail
    clear hW k0 k1 k2 k3 HOK
    refine (HLi _ HC.out).out.mono ?_
    rintro e w1 ⟨hli, hs1⟩
    replace HS := Lib.hid (HS.out.trans hs1)
    replace HK := Lib.hid (hs1.block HK.out)
    replace HC := Lib.hid (HC.out.same hs1)
    clear hs1
    rcases hli with rfl | ⟨rfl, hli⟩
    case inl =>
      go_wp2_with fail
      refine (HL _).out.mono ?_
      rintro e w2 ⟨rfl, hs2⟩
      have HS2 := Lib.hid (HS.out.trans hs2)
      clear hs2
      go_wp2_with fail
      go_ret
      exact ⟨rfl, HS2.out⟩
    have HLI := Lib.hid hli
    clear hli
    obtain ⟨k0, k1, k2, k3⟩ := OqAt.of HK.out
    go_wp2_with fail
    clear k0 k1 k2 k3 HLi
    refine (HBy _ HC.out HLI.out).out.mono ?_
    rintro e w2 ⟨v2, rfl, hb2, hs2⟩
    replace HS := Lib.hid (HS.out.trans hs2)
    replace HK := Lib.hid (hs2.block HK.out)
    replace HC := Lib.hid (HC.out.same hs2)
    have HB := Lib.hid hb2
    obtain ⟨b1, o1, c1, rfl, hcap, -, -⟩ := hb2.form (by rw [HNX.out]; omega)
    simp only [HNX.out] at HB hcap ⊢
    clear hs2 hb2 HBy
    obtain ⟨k0, k1, k2, k3⟩ := OqAt.of HK.out
    go_wp2_with fail
    clear k0 k1 k2 k3
    refine (HP1 _ _ HB.out).out.mono ?_
    rintro e x6 ⟨y6, d6, rfl, hr6, hd6, hs6⟩
    replace HS := Lib.hid (HS.out.trans hs6)
    replace HK := Lib.hid (hs6.block HK.out)
    replace HC := Lib.hid (HC.out.same hs6)
    replace HB := Lib.hid (HB.out.same hs6)
    have HR6 := Lib.hid hr6
    have HD6 := Lib.hid hd6
    obtain ⟨ra6, rc6, rfl⟩ := hr6.form HM.out
    obtain ⟨da6, dc6, rfl⟩ := hd6.form0 (n := 0) rfl
    clear hs6 hr6 hd6
    have HA6 := Lib.hid ((Same.alloc x6 (oqO 25 ⟨p0, p1, p2, p3⟩ (.slice ra6 m rc6))).trans (Same.alloc (x6.alloc (oqO 25 ⟨p0, p1, p2, p3⟩ (.slice ra6 m rc6))) (ftO 44 ⟨0, 0, []⟩ (.slice da6 0 dc6))))
    have HXA6 := Lib.hid ((Same.alloc (x6.alloc (oqO 25 ⟨p0, p1, p2, p3⟩ (.slice ra6 m rc6))) (ftO 44 ⟨0, 0, []⟩ (.slice da6 0 dc6))).block (heap_alloc_new x6 (oqO 25 ⟨p0, p1, p2, p3⟩ (.slice ra6 m rc6))))
    have HF6 : Hid (((x6.alloc (oqO 25 ⟨p0, p1, p2, p3⟩ (.slice ra6 m rc6))).alloc (ftO 44 ⟨0, 0, []⟩ (.slice da6 0 dc6))).heap[x6.heap.size + 1]? = some (ftO 44 ⟨0, 0, []⟩ (.slice da6 0 dc6))) := by
      have := heap_alloc_new (x6.alloc (oqO 25 ⟨p0, p1, p2, p3⟩ (.slice ra6 m rc6))) (ftO 44 ⟨0, 0, []⟩ (.slice da6 0 dc6))
      rw [show (x6.alloc (oqO 25 ⟨p0, p1, p2, p3⟩ (.slice ra6 m rc6))).heap.size = x6.heap.size + 1 from by simp] at this
      exact this
    replace HS := Lib.hid (HS.out.trans HA6.out)
    replace HK := Lib.hid (HA6.out.block HK.out)
    replace HC := Lib.hid (HC.out.same HA6.out)
    replace HB := Lib.hid (HB.out.same HA6.out)
    replace HD6 := Lib.hid (HD6.out.same HA6.out)
    replace HR6 := Lib.hid (HR6.out.same HA6.out)
    generalize hU6 : (x6.alloc (oqO 25 ⟨p0, p1, p2, p3⟩ (.slice ra6 m rc6))).alloc (ftO 44 ⟨0, 0, []⟩ (.slice da6 0 dc6)) = U6 at *
    clear HA6
    go_wp2_with fail
    clear hU6
    refine (HP2 _ _ HB.out).out.mono ?_
    rintro e x7 ⟨y7, d7, rfl, hr7, hd7, hs7⟩
    replace HS := Lib.hid (HS.out.trans hs7)
    replace HK := Lib.hid (hs7.block HK.out)
    replace HC := Lib.hid (HC.out.same hs7)
    replace HB := Lib.hid (HB.out.same hs7)
    replace HF6 := Lib.hid (hs7.block HF6.out)
    replace HD6 := Lib.hid (HD6.out.same hs7)
    replace HXA6 := Lib.hid (hs7.block HXA6.out)
    replace HR6 := Lib.hid (HR6.out.same hs7)
    have HR7 := Lib.hid hr7
    have HD7 := Lib.hid hd7
    obtain ⟨ra7, rc7, rfl⟩ := hr7.form HM.out
    obtain ⟨da7, dc7, rfl⟩ := hd7.form0 (n := 0) rfl
    clear hs7 hr7 hd7
    have HA7 := Lib.hid ((Same.alloc x7 (oqO 25 ⟨p0, p1, p2, p3⟩ (.slice ra7 m rc7))).trans (Same.alloc (x7.alloc (oqO 25 ⟨p0, p1, p2, p3⟩ (.slice ra7 m rc7))) (ftO 44 ⟨0, 0, []⟩ (.slice da7 0 dc7))))
    have HXA7 := Lib.hid ((Same.alloc (x7.alloc (oqO 25 ⟨p0, p1, p2, p3⟩ (.slice ra7 m rc7))) (ftO 44 ⟨0, 0, []⟩ (.slice da7 0 dc7))).block (heap_alloc_new x7 (oqO 25 ⟨p0, p1, p2, p3⟩ (.slice ra7 m rc7))))
    have HF7 : Hid (((x7.alloc (oqO 25 ⟨p0, p1, p2, p3⟩ (.slice ra7 m rc7))).alloc (ftO 44 ⟨0, 0, []⟩ (.slice da7 0 dc7))).heap[x7.heap.size + 1]? = some (ftO 44 ⟨0, 0, []⟩ (.slice da7 0 dc7))) := by
      have := heap_alloc_new (x7.alloc (oqO 25 ⟨p0, p1, p2, p3⟩ (.slice ra7 m rc7))) (ftO 44 ⟨0, 0, []⟩ (.slice da7 0 dc7))
      rw [show (x7.alloc (oqO 25 ⟨p0, p1, p2, p3⟩ (.slice ra7 m rc7))).heap.size = x7.heap.size + 1 from by simp] at this
      exact this
    replace HS := Lib.hid (HS.out.trans HA7.out)
    replace HK := Lib.hid (HA7.out.block HK.out)
    replace HC := Lib.hid (HC.out.same HA7.out)
    replace HB := Lib.hid (HB.out.same HA7.out)
    replace HF6 := Lib.hid (HA7.out.block HF6.out)
    replace HD6 := Lib.hid (HD6.out.same HA7.out)
    replace HXA6 := Lib.hid (HA7.out.block HXA6.out)
    replace HR6 := Lib.hid (HR6.out.same HA7.out)
    replace HD7 := Lib.hid (HD7.out.same HA7.out)
    replace HR7 := Lib.hid (HR7.out.same HA7.out)
    generalize hU7 : (x7.alloc (oqO 25 ⟨p0, p1, p2, p3⟩ (.slice ra7 m rc7))).alloc (ftO 44 ⟨0, 0, []⟩ (.slice da7 0 dc7)) = U7 at *
    clear HA7
    have HBk := Lib.hid (HB.out.front8 k (by rw [HNX.out]; omega))
    go_wp2_with fail
    clear hU7
    refine (HP3 _ _ HBk.out).out.mono ?_
    rintro e x8 ⟨y8, d8, rfl, hr8, hd8, hs8⟩
    replace HS := Lib.hid (HS.out.trans hs8)
    replace HK := Lib.hid (hs8.block HK.out)
    replace HC := Lib.hid (HC.out.same hs8)
    replace HB := Lib.hid (HB.out.same hs8)
    replace HF6 := Lib.hid (hs8.block HF6.out)
    replace HD6 := Lib.hid (HD6.out.same hs8)
    replace HXA6 := Lib.hid (hs8.block HXA6.out)
    replace HR6 := Lib.hid (HR6.out.same hs8)
    replace HF7 := Lib.hid (hs8.block HF7.out)
    replace HD7 := Lib.hid (HD7.out.same hs8)
    replace HXA7 := Lib.hid (hs8.block HXA7.out)
    replace HR7 := Lib.hid (HR7.out.same hs8)
    have HR8 := Lib.hid hr8
    have HD8 := Lib.hid hd8
    obtain ⟨ra8, rc8, rfl⟩ := hr8.form (n := 0) rfl
    obtain ⟨da8, dc8, rfl⟩ := hd8.form0 (n := 0) rfl
    clear hs8 hr8 hd8
    have HA8 := Lib.hid ((Same.alloc x8 (oqO 25 ⟨0, 0, 0, []⟩ (.slice ra8 0 rc8))).trans (Same.alloc (x8.alloc (oqO 25 ⟨0, 0, 0, []⟩ (.slice ra8 0 rc8))) (ftO 44 ⟨2, 0, []⟩ (.slice da8 0 dc8))))
    have HXA8 := Lib.hid ((Same.alloc (x8.alloc (oqO 25 ⟨0, 0, 0, []⟩ (.slice ra8 0 rc8))) (ftO 44 ⟨2, 0, []⟩ (.slice da8 0 dc8))).block (heap_alloc_new x8 (oqO 25 ⟨0, 0, 0, []⟩ (.slice ra8 0 rc8))))
    have HF8 : Hid (((x8.alloc (oqO 25 ⟨0, 0, 0, []⟩ (.slice ra8 0 rc8))).alloc (ftO 44 ⟨2, 0, []⟩ (.slice da8 0 dc8))).heap[x8.heap.size + 1]? = some (ftO 44 ⟨2, 0, []⟩ (.slice da8 0 dc8))) := by
      have := heap_alloc_new (x8.alloc (oqO 25 ⟨0, 0, 0, []⟩ (.slice ra8 0 rc8))) (ftO 44 ⟨2, 0, []⟩ (.slice da8 0 dc8))
      rw [show (x8.alloc (oqO 25 ⟨0, 0, 0, []⟩ (.slice ra8 0 rc8))).heap.size = x8.heap.size + 1 from by simp] at this
      exact this
    replace HS := Lib.hid (HS.out.trans HA8.out)
    replace HK := Lib.hid (HA8.out.block HK.out)
    replace HC := Lib.hid (HC.out.same HA8.out)
    replace HB := Lib.hid (HB.out.same HA8.out)
    replace HF6 := Lib.hid (HA8.out.block HF6.out)
    replace HD6 := Lib.hid (HD6.out.same HA8.out)
    replace HXA6 := Lib.hid (HA8.out.block HXA6.out)
    replace HR6 := Lib.hid (HR6.out.same HA8.out)
    replace HF7 := Lib.hid (HA8.out.block HF7.out)
    replace HD7 := Lib.hid (HD7.out.same HA8.out)
    replace HXA7 := Lib.hid (HA8.out.block HXA7.out)
    replace HR7 := Lib.hid (HR7.out.same HA8.out)
    replace HD8 := Lib.hid (HD8.out.same HA8.out)
    replace HR8 := Lib.hid (HR8.out.same HA8.out)
    generalize hU8 : (x8.alloc (oqO 25 ⟨0, 0, 0, []⟩ (.slice ra8 0 rc8))).alloc (ftO 44 ⟨2, 0, []⟩ (.slice da8 0 dc8)) = U8 at *
    clear HA8
    clear HBk
    have HE := Lib.hid (OwnB.empty U8)
    have HA := Lib.hid (Same.alloc U8 (.cells #[] 5))
    have HLe : Hid (([] : List UInt8).length + X.length ≤ 140737488355328) := by show _ ≤ _; rw [HNX.out]; simp; omega
    have HLf : Hid (X.length + [byteAt at' 0].length ≤ 140737488355328) := by show _ ≤ _; rw [HNX.out]; simp; omega
    go_wp2_with (first | (at_builtin; refine wpList_append_bs rfl _ _ rfl U8 HA.out _ [] rfl HE.out _ X rfl (HB.out.same HA.out) HLe.out ?_; intro v9 w9 ho9 hs9; rw [List.nil_append] at ho9) | (at_builtin; refine wpList_append_bs rfl _ _ rfl U8 (hs9.trans (Same.alloc _ _)) _ X rfl (ho9.same (Same.alloc _ _)) _ [byteAt at' 0] rfl (Bs.one0 w9 at') HLf.out ?_; intro v9b w9b ho9b hs9b))
    replace HS := Lib.hid (HS.out.trans hs9b)
    replace HK := Lib.hid (hs9b.block HK.out)
    replace HC := Lib.hid (HC.out.same hs9b)
    replace HB := Lib.hid (HB.out.same hs9b)
    replace HF6 := Lib.hid (hs9b.block HF6.out)
    replace HD6 := Lib.hid (HD6.out.same hs9b)
    replace HXA6 := Lib.hid (hs9b.block HXA6.out)
    replace HR6 := Lib.hid (HR6.out.same hs9b)
    replace HF7 := Lib.hid (hs9b.block HF7.out)
    replace HD7 := Lib.hid (HD7.out.same hs9b)
    replace HXA7 := Lib.hid (hs9b.block HXA7.out)
    replace HR7 := Lib.hid (HR7.out.same hs9b)
    replace HF8 := Lib.hid (hs9b.block HF8.out)
    replace HD8 := Lib.hid (HD8.out.same hs9b)
    replace HXA8 := Lib.hid (hs9b.block HXA8.out)
    replace HR8 := Lib.hid (HR8.out.same hs9b)
    have HX9 := Lib.hid ho9b.bs
    clear hU8 ho9 hs9 ho9b hs9b HE HA HLe HLf
    refine (HP4 _ _ HX9.out).out.mono ?_
    rintro e x9 ⟨y9, d9, rfl, hr9, hd9, hs9⟩
    replace HS := Lib.hid (HS.out.trans hs9)
    replace HK := Lib.hid (hs9.block HK.out)
    replace HC := Lib.hid (HC.out.same hs9)
    replace HB := Lib.hid (HB.out.same hs9)
    replace HF6 := Lib.hid (hs9.block HF6.out)
    replace HD6 := Lib.hid (HD6.out.same hs9)
    replace HXA6 := Lib.hid (hs9.block HXA6.out)
    replace HR6 := Lib.hid (HR6.out.same hs9)
    replace HF7 := Lib.hid (hs9.block HF7.out)
    replace HD7 := Lib.hid (HD7.out.same hs9)
    replace HXA7 := Lib.hid (hs9.block HXA7.out)
    replace HR7 := Lib.hid (HR7.out.same hs9)
    replace HF8 := Lib.hid (hs9.block HF8.out)
    replace HD8 := Lib.hid (HD8.out.same hs9)
    replace HXA8 := Lib.hid (hs9.block HXA8.out)
    replace HR8 := Lib.hid (HR8.out.same hs9)
    have HR9 := Lib.hid hr9
    have HD9 := Lib.hid hd9
    obtain ⟨ra9, rc9, rfl⟩ := hr9.form (n := 0) rfl
    obtain ⟨da9, dc9, rfl⟩ := hd9.form0 (n := 0) rfl
    clear hs9 hr9 hd9
    have HA9 := Lib.hid ((Same.alloc x9 (oqO 25 ⟨0, 0, 0, []⟩ (.slice ra9 0 rc9))).trans (Same.alloc (x9.alloc (oqO 25 ⟨0, 0, 0, []⟩ (.slice ra9 0 rc9))) (ftO 44 ⟨2, 0, []⟩ (.slice da9 0 dc9))))
    have HXA9 := Lib.hid ((Same.alloc (x9.alloc (oqO 25 ⟨0, 0, 0, []⟩ (.slice ra9 0 rc9))) (ftO 44 ⟨2, 0, []⟩ (.slice da9 0 dc9))).block (heap_alloc_new x9 (oqO 25 ⟨0, 0, 0, []⟩ (.slice ra9 0 rc9))))
    have HF9 : Hid (((x9.alloc (oqO 25 ⟨0, 0, 0, []⟩ (.slice ra9 0 rc9))).alloc (ftO 44 ⟨2, 0, []⟩ (.slice da9 0 dc9))).heap[x9.heap.size + 1]? = some (ftO 44 ⟨2, 0, []⟩ (.slice da9 0 dc9))) := by
      have := heap_alloc_new (x9.alloc (oqO 25 ⟨0, 0, 0, []⟩ (.slice ra9 0 rc9))) (ftO 44 ⟨2, 0, []⟩ (.slice da9 0 dc9))
      rw [show (x9.alloc (oqO 25 ⟨0, 0, 0, []⟩ (.slice ra9 0 rc9))).heap.size = x9.heap.size + 1 from by simp] at this
      exact this
    replace HS := Lib.hid (HS.out.trans HA9.out)
    replace HK := Lib.hid (HA9.out.block HK.out)
    replace HC := Lib.hid (HC.out.same HA9.out)
    replace HB := Lib.hid (HB.out.same HA9.out)
    replace HF6 := Lib.hid (HA9.out.block HF6.out)
    replace HD6 := Lib.hid (HD6.out.same HA9.out)
    replace HXA6 := Lib.hid (HA9.out.block HXA6.out)
    replace HR6 := Lib.hid (HR6.out.same HA9.out)
    replace HF7 := Lib.hid (HA9.out.block HF7.out)
    replace HD7 := Lib.hid (HD7.out.same HA9.out)
    replace HXA7 := Lib.hid (HA9.out.block HXA7.out)
    replace HR7 := Lib.hid (HR7.out.same HA9.out)
    replace HF8 := Lib.hid (HA9.out.block HF8.out)
    replace HD8 := Lib.hid (HD8.out.same HA9.out)
    replace HXA8 := Lib.hid (HA9.out.block HXA8.out)
    replace HR8 := Lib.hid (HR8.out.same HA9.out)
    replace HD9 := Lib.hid (HD9.out.same HA9.out)
    replace HR9 := Lib.hid (HR9.out.same HA9.out)
    generalize hU9 : (x9.alloc (oqO 25 ⟨0, 0, 0, []⟩ (.slice ra9 0 rc9))).alloc (ftO 44 ⟨2, 0, []⟩ (.slice da9 0 dc9)) = U9 at *
    clear HA9
    clear HX9
    go_wp2_with fail
    clear hU9
    by_cases hx : 1 ≤ asn ∧ p0 ≠ asn
    · obtain rfl : J = (⟨0, 0, 0, []⟩, ⟨2, 2, []⟩) := by rw [E5.out, if_pos hx]; rfl
      obtain ⟨hx1, hx2⟩ := hx
      have hx3 : (asn != p0) = true := by simp; omega
      clear hx2
      clear E5
      refine (HP5 _ _ HB.out).out.mono ?_
      rintro e x10 ⟨y10, d10, rfl, hr10, hd10, hs10⟩
      replace HS := Lib.hid (HS.out.trans hs10)
      replace HK := Lib.hid (hs10.block HK.out)
      replace HC := Lib.hid (HC.out.same hs10)
      replace HB := Lib.hid (HB.out.same hs10)
      replace HF6 := Lib.hid (hs10.block HF6.out)
      replace HD6 := Lib.hid (HD6.out.same hs10)
      replace HXA6 := Lib.hid (hs10.block HXA6.out)
      replace HR6 := Lib.hid (HR6.out.same hs10)
      replace HF7 := Lib.hid (hs10.block HF7.out)
      replace HD7 := Lib.hid (HD7.out.same hs10)
      replace HXA7 := Lib.hid (hs10.block HXA7.out)
      replace HR7 := Lib.hid (HR7.out.same hs10)
      replace HF8 := Lib.hid (hs10.block HF8.out)
      replace HD8 := Lib.hid (HD8.out.same hs10)
      replace HXA8 := Lib.hid (hs10.block HXA8.out)
      replace HR8 := Lib.hid (HR8.out.same hs10)
      replace HF9 := Lib.hid (hs10.block HF9.out)
      replace HD9 := Lib.hid (HD9.out.same hs10)
      replace HXA9 := Lib.hid (hs10.block HXA9.out)
      replace HR9 := Lib.hid (HR9.out.same hs10)
      have HR10 := Lib.hid hr10
      have HD10 := Lib.hid hd10
      obtain ⟨ra10, rc10, rfl⟩ := hr10.form (n := 0) rfl
      obtain ⟨da10, dc10, rfl⟩ := hd10.form0 (n := 0) rfl
      clear hs10 hr10 hd10
      have HA10 := Lib.hid ((Same.alloc x10 (oqO 25 ⟨0, 0, 0, []⟩ (.slice ra10 0 rc10))).trans (Same.alloc (x10.alloc (oqO 25 ⟨0, 0, 0, []⟩ (.slice ra10 0 rc10))) (ftO 44 ⟨2, 2, []⟩ (.slice da10 0 dc10))))
      have HXA10 := Lib.hid ((Same.alloc (x10.alloc (oqO 25 ⟨0, 0, 0, []⟩ (.slice ra10 0 rc10))) (ftO 44 ⟨2, 2, []⟩ (.slice da10 0 dc10))).block (heap_alloc_new x10 (oqO 25 ⟨0, 0, 0, []⟩ (.slice ra10 0 rc10))))
      have HF10 : Hid (((x10.alloc (oqO 25 ⟨0, 0, 0, []⟩ (.slice ra10 0 rc10))).alloc (ftO 44 ⟨2, 2, []⟩ (.slice da10 0 dc10))).heap[x10.heap.size + 1]? = some (ftO 44 ⟨2, 2, []⟩ (.slice da10 0 dc10))) := by
        have := heap_alloc_new (x10.alloc (oqO 25 ⟨0, 0, 0, []⟩ (.slice ra10 0 rc10))) (ftO 44 ⟨2, 2, []⟩ (.slice da10 0 dc10))
        rw [show (x10.alloc (oqO 25 ⟨0, 0, 0, []⟩ (.slice ra10 0 rc10))).heap.size = x10.heap.size + 1 from by simp] at this
        exact this
      replace HS := Lib.hid (HS.out.trans HA10.out)
      replace HK := Lib.hid (HA10.out.block HK.out)
      replace HC := Lib.hid (HC.out.same HA10.out)
      replace HB := Lib.hid (HB.out.same HA10.out)
      replace HF6 := Lib.hid (HA10.out.block HF6.out)
      replace HD6 := Lib.hid (HD6.out.same HA10.out)
      replace HXA6 := Lib.hid (HA10.out.block HXA6.out)
      replace HR6 := Lib.hid (HR6.out.same HA10.out)
      replace HF7 := Lib.hid (HA10.out.block HF7.out)
      replace HD7 := Lib.hid (HD7.out.same HA10.out)
      replace HXA7 := Lib.hid (HA10.out.block HXA7.out)
      replace HR7 := Lib.hid (HR7.out.same HA10.out)
      replace HF8 := Lib.hid (HA10.out.block HF8.out)
      replace HD8 := Lib.hid (HD8.out.same HA10.out)
      replace HXA8 := Lib.hid (HA10.out.block HXA8.out)
      replace HR8 := Lib.hid (HR8.out.same HA10.out)
      replace HF9 := Lib.hid (HA10.out.block HF9.out)
      replace HD9 := Lib.hid (HD9.out.same HA10.out)
      replace HXA9 := Lib.hid (HA10.out.block HXA9.out)
      replace HR9 := Lib.hid (HR9.out.same HA10.out)
      replace HD10 := Lib.hid (HD10.out.same HA10.out)
      replace HR10 := Lib.hid (HR10.out.same HA10.out)
      clear HP1 HP2 HP3 HP4 HP5 HB HR8 HR9 HR10 HD6 HD7 HD10 HXA8 HXA9 HXA10
      obtain ⟨k0, k1, k2, k3⟩ := OqAt.of HK.out
      have HAn := Lib.hid (Same.alloc ((x10.alloc (oqO 25 ⟨0, 0, 0, []⟩ (.slice ra10 0 rc10))).alloc (ftO 44 ⟨2, 2, []⟩ (.slice da10 0 dc10))) (ftO 44 ⟨2, 0, []⟩ (.slice none 0 0)))
      have HNn : Hid ((((x10.alloc (oqO 25 ⟨0, 0, 0, []⟩ (.slice ra10 0 rc10))).alloc (ftO 44 ⟨2, 2, []⟩ (.slice da10 0 dc10))).alloc (ftO 44 ⟨2, 0, []⟩ (.slice none 0 0))).heap[x10.heap.size + 1 + 1]? = some (ftO 44 ⟨2, 0, []⟩ (.slice none 0 0))) := by
        have := heap_alloc_new ((x10.alloc (oqO 25 ⟨0, 0, 0, []⟩ (.slice ra10 0 rc10))).alloc (ftO 44 ⟨2, 2, []⟩ (.slice da10 0 dc10))) (ftO 44 ⟨2, 0, []⟩ (.slice none 0 0))
        rw [show ((x10.alloc (oqO 25 ⟨0, 0, 0, []⟩ (.slice ra10 0 rc10))).alloc (ftO 44 ⟨2, 2, []⟩ (.slice da10 0 dc10))).heap.size = x10.heap.size + 1 + 1 from by simp] at this
        exact this
      replace HS := Lib.hid (HS.out.trans HAn.out)
      replace HK := Lib.hid (HAn.out.block HK.out)
      replace HC := Lib.hid (HC.out.same HAn.out)
      replace HF6 := Lib.hid (HAn.out.block HF6.out)
      replace HXA6 := Lib.hid (HAn.out.block HXA6.out)
      replace HR6 := Lib.hid (HR6.out.same HAn.out)
      replace HF7 := Lib.hid (HAn.out.block HF7.out)
      replace HXA7 := Lib.hid (HAn.out.block HXA7.out)
      replace HR7 := Lib.hid (HR7.out.same HAn.out)
      replace HF8 := Lib.hid (HAn.out.block HF8.out)
      replace HD8 := Lib.hid (HD8.out.same HAn.out)
      replace HF9 := Lib.hid (HAn.out.block HF9.out)
      replace HD9 := Lib.hid (HD9.out.same HAn.out)
      replace HF10 := Lib.hid (HAn.out.block HF10.out)
      obtain ⟨a0, a1, a2⟩ := FtAt.of HF6.out
      obtain ⟨b0, b1', b2⟩ := FtAt.of HF7.out
      obtain ⟨m0, m1, m2, m3⟩ := OqAt.of HXA6.out
      obtain ⟨n0, n1, n2, n3⟩ := OqAt.of HK.out
      go_wp2_with fail
      generalize ((x10.alloc (oqO 25 ⟨0, 0, 0, []⟩ (.slice ra10 0 rc10))).alloc (ftO 44 ⟨2, 2, []⟩ (.slice da10 0 dc10))).alloc (ftO 44 ⟨2, 0, []⟩ (.slice none 0 0)) = Un at *
      clear HA10 HAn k0 k1 k2 k3 a0 a1 a2 b0 b1' b2 m0 m1 m2 m3 n0 n1 n2 n3
      refine (HSm _ _ _ HR6.out HC.out).out.mono ?_
      rintro e s1 ⟨rfl, h1⟩
      replace HS := Lib.hid (HS.out.trans h1)
      replace HK := Lib.hid (h1.block HK.out)
      replace HC := Lib.hid (HC.out.same h1)
      replace HF6 := Lib.hid (h1.block HF6.out)
      replace HXA6 := Lib.hid (h1.block HXA6.out)
      replace HR6 := Lib.hid (HR6.out.same h1)
      replace HF7 := Lib.hid (h1.block HF7.out)
      replace HXA7 := Lib.hid (h1.block HXA7.out)
      replace HR7 := Lib.hid (HR7.out.same h1)
      replace HF8 := Lib.hid (h1.block HF8.out)
      replace HD8 := Lib.hid (HD8.out.same h1)
      replace HF9 := Lib.hid (h1.block HF9.out)
      replace HD9 := Lib.hid (HD9.out.same h1)
      replace HF10 := Lib.hid (h1.block HF10.out)
      replace HNn := Lib.hid (h1.block HNn.out)
      clear h1
      obtain ⟨m0, m1, m2, m3⟩ := OqAt.of HXA7.out
      obtain ⟨n0, n1, n2, n3⟩ := OqAt.of HK.out
      go_wp2_with fail
      clear m0 m1 m2 m3 n0 n1 n2 n3
      refine (HSm _ _ _ HR7.out HC.out).out.mono ?_
      rintro e s2 ⟨rfl, h2⟩
      replace HS := Lib.hid (HS.out.trans h2)
      replace HK := Lib.hid (h2.block HK.out)
      replace HC := Lib.hid (HC.out.same h2)
      replace HF6 := Lib.hid (h2.block HF6.out)
      replace HXA6 := Lib.hid (h2.block HXA6.out)
      replace HR6 := Lib.hid (HR6.out.same h2)
      replace HF7 := Lib.hid (h2.block HF7.out)
      replace HXA7 := Lib.hid (h2.block HXA7.out)
      replace HR7 := Lib.hid (HR7.out.same h2)
      replace HF8 := Lib.hid (h2.block HF8.out)
      replace HD8 := Lib.hid (HD8.out.same h2)
      replace HF9 := Lib.hid (h2.block HF9.out)
      replace HD9 := Lib.hid (HD9.out.same h2)
      replace HF10 := Lib.hid (h2.block HF10.out)
      replace HNn := Lib.hid (h2.block HNn.out)
      clear h2
      obtain ⟨a0, a1, a2⟩ := FtAt.of HF8.out
      obtain ⟨b0, b1', b2⟩ := FtAt.of HNn.out
      go_wp2_with fail
      clear a0 a1 a2 b0 b1' b2
      refine (rFaults_same ⟨2, 0, []⟩ _ _ _ HD8.out (Bs.nil _)).mono ?_
      rintro e s3 ⟨rfl, h3⟩
      replace HS := Lib.hid (HS.out.trans h3)
      replace HK := Lib.hid (h3.block HK.out)
      replace HC := Lib.hid (HC.out.same h3)
      replace HF6 := Lib.hid (h3.block HF6.out)
      replace HXA6 := Lib.hid (h3.block HXA6.out)
      replace HR6 := Lib.hid (HR6.out.same h3)
      replace HF7 := Lib.hid (h3.block HF7.out)
      replace HXA7 := Lib.hid (h3.block HXA7.out)
      replace HR7 := Lib.hid (HR7.out.same h3)
      replace HF8 := Lib.hid (h3.block HF8.out)
      replace HD8 := Lib.hid (HD8.out.same h3)
      replace HF9 := Lib.hid (h3.block HF9.out)
      replace HD9 := Lib.hid (HD9.out.same h3)
      replace HF10 := Lib.hid (h3.block HF10.out)
      replace HNn := Lib.hid (h3.block HNn.out)
      clear h3
      obtain ⟨a0, a1, a2⟩ := FtAt.of HF9.out
      obtain ⟨b0, b1', b2⟩ := FtAt.of HNn.out
      go_wp2_with fail
      clear a0 a1 a2 b0 b1' b2
      refine (rFaults_same ⟨2, 0, []⟩ _ _ _ HD9.out (Bs.nil _)).mono ?_
      rintro e s4 ⟨rfl, h4⟩
      replace HS := Lib.hid (HS.out.trans h4)
      replace HK := Lib.hid (h4.block HK.out)
      replace HC := Lib.hid (HC.out.same h4)
      replace HF6 := Lib.hid (h4.block HF6.out)
      replace HXA6 := Lib.hid (h4.block HXA6.out)
      replace HR6 := Lib.hid (HR6.out.same h4)
      replace HF7 := Lib.hid (h4.block HF7.out)
      replace HXA7 := Lib.hid (h4.block HXA7.out)
      replace HR7 := Lib.hid (HR7.out.same h4)
      replace HF8 := Lib.hid (h4.block HF8.out)
      replace HD8 := Lib.hid (HD8.out.same h4)
      replace HF9 := Lib.hid (h4.block HF9.out)
      replace HD9 := Lib.hid (HD9.out.same h4)
      replace HF10 := Lib.hid (h4.block HF10.out)
      replace HNn := Lib.hid (h4.block HNn.out)
      clear h4
      obtain ⟨a0, a1, a2⟩ := FtAt.of HF10.out
      go_wp2_with fail
      clear a0 a1 a2
      refine (HL _).out.mono ?_
      rintro e s5 ⟨rfl, h5⟩
      have HS5 := Lib.hid (HS.out.trans h5)
      clear h5
      go_wp2_with fail
      go_ret
      exact ⟨rfl, HS5.out⟩
    by_cases hy : 1 ≤ asn
    · obtain rfl : J = (⟨p0, p1, p2, p3⟩, ⟨0, 0, []⟩) := by rw [E5.out, if_neg hx]; rfl
      have hx3 : (asn != p0) = false := by simp; omega
      clear hx
      clear E5
      refine (HP5 _ _ HB.out).out.mono ?_
      rintro e x10 ⟨y10, d10, rfl, hr10, hd10, hs10⟩
      replace HS := Lib.hid (HS.out.trans hs10)
      replace HK := Lib.hid (hs10.block HK.out)
      replace HC := Lib.hid (HC.out.same hs10)
      replace HB := Lib.hid (HB.out.same hs10)
      replace HF6 := Lib.hid (hs10.block HF6.out)
      replace HD6 := Lib.hid (HD6.out.same hs10)
      replace HXA6 := Lib.hid (hs10.block HXA6.out)
      replace HR6 := Lib.hid (HR6.out.same hs10)
      replace HF7 := Lib.hid (hs10.block HF7.out)
      replace HD7 := Lib.hid (HD7.out.same hs10)
      replace HXA7 := Lib.hid (hs10.block HXA7.out)
      replace HR7 := Lib.hid (HR7.out.same hs10)
      replace HF8 := Lib.hid (hs10.block HF8.out)
      replace HD8 := Lib.hid (HD8.out.same hs10)
      replace HXA8 := Lib.hid (hs10.block HXA8.out)
      replace HR8 := Lib.hid (HR8.out.same hs10)
      replace HF9 := Lib.hid (hs10.block HF9.out)
      replace HD9 := Lib.hid (HD9.out.same hs10)
      replace HXA9 := Lib.hid (hs10.block HXA9.out)
      replace HR9 := Lib.hid (HR9.out.same hs10)
      have HR10 := Lib.hid hr10
      have HD10 := Lib.hid hd10
      obtain ⟨ra10, rc10, rfl⟩ := hr10.form HM.out
      obtain ⟨da10, dc10, rfl⟩ := hd10.form0 (n := 0) rfl
      clear hs10 hr10 hd10
      have HA10 := Lib.hid ((Same.alloc x10 (oqO 25 ⟨p0, p1, p2, p3⟩ (.slice ra10 m rc10))).trans (Same.alloc (x10.alloc (oqO 25 ⟨p0, p1, p2, p3⟩ (.slice ra10 m rc10))) (ftO 44 ⟨0, 0, []⟩ (.slice da10 0 dc10))))
      have HXA10 := Lib.hid ((Same.alloc (x10.alloc (oqO 25 ⟨p0, p1, p2, p3⟩ (.slice ra10 m rc10))) (ftO 44 ⟨0, 0, []⟩ (.slice da10 0 dc10))).block (heap_alloc_new x10 (oqO 25 ⟨p0, p1, p2, p3⟩ (.slice ra10 m rc10))))
      have HF10 : Hid (((x10.alloc (oqO 25 ⟨p0, p1, p2, p3⟩ (.slice ra10 m rc10))).alloc (ftO 44 ⟨0, 0, []⟩ (.slice da10 0 dc10))).heap[x10.heap.size + 1]? = some (ftO 44 ⟨0, 0, []⟩ (.slice da10 0 dc10))) := by
        have := heap_alloc_new (x10.alloc (oqO 25 ⟨p0, p1, p2, p3⟩ (.slice ra10 m rc10))) (ftO 44 ⟨0, 0, []⟩ (.slice da10 0 dc10))
        rw [show (x10.alloc (oqO 25 ⟨p0, p1, p2, p3⟩ (.slice ra10 m rc10))).heap.size = x10.heap.size + 1 from by simp] at this
        exact this
      replace HS := Lib.hid (HS.out.trans HA10.out)
      replace HK := Lib.hid (HA10.out.block HK.out)
      replace HC := Lib.hid (HC.out.same HA10.out)
      replace HB := Lib.hid (HB.out.same HA10.out)
      replace HF6 := Lib.hid (HA10.out.block HF6.out)
      replace HD6 := Lib.hid (HD6.out.same HA10.out)
      replace HXA6 := Lib.hid (HA10.out.block HXA6.out)
      replace HR6 := Lib.hid (HR6.out.same HA10.out)
      replace HF7 := Lib.hid (HA10.out.block HF7.out)
      replace HD7 := Lib.hid (HD7.out.same HA10.out)
      replace HXA7 := Lib.hid (HA10.out.block HXA7.out)
      replace HR7 := Lib.hid (HR7.out.same HA10.out)
      replace HF8 := Lib.hid (HA10.out.block HF8.out)
      replace HD8 := Lib.hid (HD8.out.same HA10.out)
      replace HXA8 := Lib.hid (HA10.out.block HXA8.out)
      replace HR8 := Lib.hid (HR8.out.same HA10.out)
      replace HF9 := Lib.hid (HA10.out.block HF9.out)
      replace HD9 := Lib.hid (HD9.out.same HA10.out)
      replace HXA9 := Lib.hid (HA10.out.block HXA9.out)
      replace HR9 := Lib.hid (HR9.out.same HA10.out)
      replace HD10 := Lib.hid (HD10.out.same HA10.out)
      replace HR10 := Lib.hid (HR10.out.same HA10.out)
      clear HP1 HP2 HP3 HP4 HP5 HB HR8 HR9 HR10 HD6 HD7 HD10 HXA8 HXA9 HXA10
      obtain ⟨k0, k1, k2, k3⟩ := OqAt.of HK.out
      have HAn := Lib.hid (Same.alloc ((x10.alloc (oqO 25 ⟨p0, p1, p2, p3⟩ (.slice ra10 m rc10))).alloc (ftO 44 ⟨0, 0, []⟩ (.slice da10 0 dc10))) (ftO 44 ⟨2, 0, []⟩ (.slice none 0 0)))
      have HNn : Hid ((((x10.alloc (oqO 25 ⟨p0, p1, p2, p3⟩ (.slice ra10 m rc10))).alloc (ftO 44 ⟨0, 0, []⟩ (.slice da10 0 dc10))).alloc (ftO 44 ⟨2, 0, []⟩ (.slice none 0 0))).heap[x10.heap.size + 1 + 1]? = some (ftO 44 ⟨2, 0, []⟩ (.slice none 0 0))) := by
        have := heap_alloc_new ((x10.alloc (oqO 25 ⟨p0, p1, p2, p3⟩ (.slice ra10 m rc10))).alloc (ftO 44 ⟨0, 0, []⟩ (.slice da10 0 dc10))) (ftO 44 ⟨2, 0, []⟩ (.slice none 0 0))
        rw [show ((x10.alloc (oqO 25 ⟨p0, p1, p2, p3⟩ (.slice ra10 m rc10))).alloc (ftO 44 ⟨0, 0, []⟩ (.slice da10 0 dc10))).heap.size = x10.heap.size + 1 + 1 from by simp] at this
        exact this
      replace HS := Lib.hid (HS.out.trans HAn.out)
      replace HK := Lib.hid (HAn.out.block HK.out)
      replace HC := Lib.hid (HC.out.same HAn.out)
      replace HF6 := Lib.hid (HAn.out.block HF6.out)
      replace HXA6 := Lib.hid (HAn.out.block HXA6.out)
      replace HR6 := Lib.hid (HR6.out.same HAn.out)
      replace HF7 := Lib.hid (HAn.out.block HF7.out)
      replace HXA7 := Lib.hid (HAn.out.block HXA7.out)
      replace HR7 := Lib.hid (HR7.out.same HAn.out)
      replace HF8 := Lib.hid (HAn.out.block HF8.out)
      replace HD8 := Lib.hid (HD8.out.same HAn.out)
      replace HF9 := Lib.hid (HAn.out.block HF9.out)
      replace HD9 := Lib.hid (HD9.out.same HAn.out)
      replace HF10 := Lib.hid (HAn.out.block HF10.out)
      obtain ⟨a0, a1, a2⟩ := FtAt.of HF6.out
      obtain ⟨b0, b1', b2⟩ := FtAt.of HF7.out
      obtain ⟨m0, m1, m2, m3⟩ := OqAt.of HXA6.out
      obtain ⟨n0, n1, n2, n3⟩ := OqAt.of HK.out
      go_wp2_with fail
      generalize ((x10.alloc (oqO 25 ⟨p0, p1, p2, p3⟩ (.slice ra10 m rc10))).alloc (ftO 44 ⟨0, 0, []⟩ (.slice da10 0 dc10))).alloc (ftO 44 ⟨2, 0, []⟩ (.slice none 0 0)) = Un at *
      clear HA10 HAn k0 k1 k2 k3 a0 a1 a2 b0 b1' b2 m0 m1 m2 m3 n0 n1 n2 n3
      refine (HSm _ _ _ HR6.out HC.out).out.mono ?_
      rintro e s1 ⟨rfl, h1⟩
      replace HS := Lib.hid (HS.out.trans h1)
      replace HK := Lib.hid (h1.block HK.out)
      replace HC := Lib.hid (HC.out.same h1)
      replace HF6 := Lib.hid (h1.block HF6.out)
      replace HXA6 := Lib.hid (h1.block HXA6.out)
      replace HR6 := Lib.hid (HR6.out.same h1)
      replace HF7 := Lib.hid (h1.block HF7.out)
      replace HXA7 := Lib.hid (h1.block HXA7.out)
      replace HR7 := Lib.hid (HR7.out.same h1)
      replace HF8 := Lib.hid (h1.block HF8.out)
      replace HD8 := Lib.hid (HD8.out.same h1)
      replace HF9 := Lib.hid (h1.block HF9.out)
      replace HD9 := Lib.hid (HD9.out.same h1)
      replace HF10 := Lib.hid (h1.block HF10.out)
      replace HNn := Lib.hid (h1.block HNn.out)
      clear h1
      obtain ⟨m0, m1, m2, m3⟩ := OqAt.of HXA7.out
      obtain ⟨n0, n1, n2, n3⟩ := OqAt.of HK.out
      go_wp2_with fail
      clear m0 m1 m2 m3 n0 n1 n2 n3
      refine (HSm _ _ _ HR7.out HC.out).out.mono ?_
      rintro e s2 ⟨rfl, h2⟩
      replace HS := Lib.hid (HS.out.trans h2)
      replace HK := Lib.hid (h2.block HK.out)
      replace HC := Lib.hid (HC.out.same h2)
      replace HF6 := Lib.hid (h2.block HF6.out)
      replace HXA6 := Lib.hid (h2.block HXA6.out)
      replace HR6 := Lib.hid (HR6.out.same h2)
      replace HF7 := Lib.hid (h2.block HF7.out)
      replace HXA7 := Lib.hid (h2.block HXA7.out)
      replace HR7 := Lib.hid (HR7.out.same h2)
      replace HF8 := Lib.hid (h2.block HF8.out)
      replace HD8 := Lib.hid (HD8.out.same h2)
      replace HF9 := Lib.hid (h2.block HF9.out)
      replace HD9 := Lib.hid (HD9.out.same h2)
      replace HF10 := Lib.hid (h2.block HF10.out)
      replace HNn := Lib.hid (h2.block HNn.out)
      clear h2
      obtain ⟨a0, a1, a2⟩ := FtAt.of HF8.out
      obtain ⟨b0, b1', b2⟩ := FtAt.of HNn.out
      go_wp2_with fail
      clear a0 a1 a2 b0 b1' b2
      refine (rFaults_same ⟨2, 0, []⟩ _ _ _ HD8.out (Bs.nil _)).mono ?_
      rintro e s3 ⟨rfl, h3⟩
      replace HS := Lib.hid (HS.out.trans h3)
      replace HK := Lib.hid (h3.block HK.out)
      replace HC := Lib.hid (HC.out.same h3)
      replace HF6 := Lib.hid (h3.block HF6.out)
      replace HXA6 := Lib.hid (h3.block HXA6.out)
      replace HR6 := Lib.hid (HR6.out.same h3)
      replace HF7 := Lib.hid (h3.block HF7.out)
      replace HXA7 := Lib.hid (h3.block HXA7.out)
      replace HR7 := Lib.hid (HR7.out.same h3)
      replace HF8 := Lib.hid (h3.block HF8.out)
      replace HD8 := Lib.hid (HD8.out.same h3)
      replace HF9 := Lib.hid (h3.block HF9.out)
      replace HD9 := Lib.hid (HD9.out.same h3)
      replace HF10 := Lib.hid (h3.block HF10.out)
      replace HNn := Lib.hid (h3.block HNn.out)
      clear h3
      obtain ⟨a0, a1, a2⟩ := FtAt.of HF9.out
      obtain ⟨b0, b1', b2⟩ := FtAt.of HNn.out
      go_wp2_with fail
      clear a0 a1 a2 b0 b1' b2
      refine (rFaults_same ⟨2, 0, []⟩ _ _ _ HD9.out (Bs.nil _)).mono ?_
      rintro e s4 ⟨rfl, h4⟩
      replace HS := Lib.hid (HS.out.trans h4)
      replace HK := Lib.hid (h4.block HK.out)
      replace HC := Lib.hid (HC.out.same h4)
      replace HF6 := Lib.hid (h4.block HF6.out)
      replace HXA6 := Lib.hid (h4.block HXA6.out)
      replace HR6 := Lib.hid (HR6.out.same h4)
      replace HF7 := Lib.hid (h4.block HF7.out)
      replace HXA7 := Lib.hid (h4.block HXA7.out)
      replace HR7 := Lib.hid (HR7.out.same h4)
      replace HF8 := Lib.hid (h4.block HF8.out)
      replace HD8 := Lib.hid (HD8.out.same h4)
      replace HF9 := Lib.hid (h4.block HF9.out)
      replace HD9 := Lib.hid (HD9.out.same h4)
      replace HF10 := Lib.hid (h4.block HF10.out)
      replace HNn := Lib.hid (h4.block HNn.out)
      clear h4
      obtain ⟨a0, a1, a2⟩ := FtAt.of HF10.out
      go_wp2_with fail
      clear a0 a1 a2
      refine (HL _).out.mono ?_
      rintro e s5 ⟨rfl, h5⟩
      have HS5 := Lib.hid (HS.out.trans h5)
      clear h5
      go_wp2_with fail
      go_ret
      exact ⟨rfl, HS5.out⟩
    · obtain rfl : J = (⟨p0, p1, p2, p3⟩, ⟨0, 0, []⟩) := by rw [E5.out, if_neg hx]; rfl
      clear hx
      clear E5
      refine (HP5 _ _ HB.out).out.mono ?_
      rintro e x10 ⟨y10, d10, rfl, hr10, hd10, hs10⟩
      replace HS := Lib.hid (HS.out.trans hs10)
      replace HK := Lib.hid (hs10.block HK.out)
      replace HC := Lib.hid (HC.out.same hs10)
      replace HB := Lib.hid (HB.out.same hs10)
      replace HF6 := Lib.hid (hs10.block HF6.out)
      replace HD6 := Lib.hid (HD6.out.same hs10)
      replace HXA6 := Lib.hid (hs10.block HXA6.out)
      replace HR6 := Lib.hid (HR6.out.same hs10)
      replace HF7 := Lib.hid (hs10.block HF7.out)
      replace HD7 := Lib.hid (HD7.out.same hs10)
      replace HXA7 := Lib.hid (hs10.block HXA7.out)
      replace HR7 := Lib.hid (HR7.out.same hs10)
      replace HF8 := Lib.hid (hs10.block HF8.out)
      replace HD8 := Lib.hid (HD8.out.same hs10)
      replace HXA8 := Lib.hid (hs10.block HXA8.out)
      replace HR8 := Lib.hid (HR8.out.same hs10)
      replace HF9 := Lib.hid (hs10.block HF9.out)
      replace HD9 := Lib.hid (HD9.out.same hs10)
      replace HXA9 := Lib.hid (hs10.block HXA9.out)
      replace HR9 := Lib.hid (HR9.out.same hs10)
      have HR10 := Lib.hid hr10
      have HD10 := Lib.hid hd10
      obtain ⟨ra10, rc10, rfl⟩ := hr10.form HM.out
      obtain ⟨da10, dc10, rfl⟩ := hd10.form0 (n := 0) rfl
      clear hs10 hr10 hd10
      have HA10 := Lib.hid ((Same.alloc x10 (oqO 25 ⟨p0, p1, p2, p3⟩ (.slice ra10 m rc10))).trans (Same.alloc (x10.alloc (oqO 25 ⟨p0, p1, p2, p3⟩ (.slice ra10 m rc10))) (ftO 44 ⟨0, 0, []⟩ (.slice da10 0 dc10))))
      have HXA10 := Lib.hid ((Same.alloc (x10.alloc (oqO 25 ⟨p0, p1, p2, p3⟩ (.slice ra10 m rc10))) (ftO 44 ⟨0, 0, []⟩ (.slice da10 0 dc10))).block (heap_alloc_new x10 (oqO 25 ⟨p0, p1, p2, p3⟩ (.slice ra10 m rc10))))
      have HF10 : Hid (((x10.alloc (oqO 25 ⟨p0, p1, p2, p3⟩ (.slice ra10 m rc10))).alloc (ftO 44 ⟨0, 0, []⟩ (.slice da10 0 dc10))).heap[x10.heap.size + 1]? = some (ftO 44 ⟨0, 0, []⟩ (.slice da10 0 dc10))) := by
        have := heap_alloc_new (x10.alloc (oqO 25 ⟨p0, p1, p2, p3⟩ (.slice ra10 m rc10))) (ftO 44 ⟨0, 0, []⟩ (.slice da10 0 dc10))
        rw [show (x10.alloc (oqO 25 ⟨p0, p1, p2, p3⟩ (.slice ra10 m rc10))).heap.size = x10.heap.size + 1 from by simp] at this
        exact this
      replace HS := Lib.hid (HS.out.trans HA10.out)
      replace HK := Lib.hid (HA10.out.block HK.out)
      replace HC := Lib.hid (HC.out.same HA10.out)
      replace HB := Lib.hid (HB.out.same HA10.out)
      replace HF6 := Lib.hid (HA10.out.block HF6.out)
      replace HD6 := Lib.hid (HD6.out.same HA10.out)
      replace HXA6 := Lib.hid (HA10.out.block HXA6.out)
      replace HR6 := Lib.hid (HR6.out.same HA10.out)
      replace HF7 := Lib.hid (HA10.out.block HF7.out)
      replace HD7 := Lib.hid (HD7.out.same HA10.out)
      replace HXA7 := Lib.hid (HA10.out.block HXA7.out)
      replace HR7 := Lib.hid (HR7.out.same HA10.out)
      replace HF8 := Lib.hid (HA10.out.block HF8.out)
      replace HD8 := Lib.hid (HD8.out.same HA10.out)
      replace HXA8 := Lib.hid (HA10.out.block HXA8.out)
      replace HR8 := Lib.hid (HR8.out.same HA10.out)
      replace HF9 := Lib.hid (HA10.out.block HF9.out)
      replace HD9 := Lib.hid (HD9.out.same HA10.out)
      replace HXA9 := Lib.hid (HA10.out.block HXA9.out)
      replace HR9 := Lib.hid (HR9.out.same HA10.out)
      replace HD10 := Lib.hid (HD10.out.same HA10.out)
      replace HR10 := Lib.hid (HR10.out.same HA10.out)
      clear HP1 HP2 HP3 HP4 HP5 HB HR8 HR9 HR10 HD6 HD7 HD10 HXA8 HXA9 HXA10
      obtain ⟨k0, k1, k2, k3⟩ := OqAt.of HK.out
      have HAn := Lib.hid (Same.alloc ((x10.alloc (oqO 25 ⟨p0, p1, p2, p3⟩ (.slice ra10 m rc10))).alloc (ftO 44 ⟨0, 0, []⟩ (.slice da10 0 dc10))) (ftO 44 ⟨2, 0, []⟩ (.slice none 0 0)))
      have HNn : Hid ((((x10.alloc (oqO 25 ⟨p0, p1, p2, p3⟩ (.slice ra10 m rc10))).alloc (ftO 44 ⟨0, 0, []⟩ (.slice da10 0 dc10))).alloc (ftO 44 ⟨2, 0, []⟩ (.slice none 0 0))).heap[x10.heap.size + 1 + 1]? = some (ftO 44 ⟨2, 0, []⟩ (.slice none 0 0))) := by
        have := heap_alloc_new ((x10.alloc (oqO 25 ⟨p0, p1, p2, p3⟩ (.slice ra10 m rc10))).alloc (ftO 44 ⟨0, 0, []⟩ (.slice da10 0 dc10))) (ftO 44 ⟨2, 0, []⟩ (.slice none 0 0))
        rw [show ((x10.alloc (oqO 25 ⟨p0, p1, p2, p3⟩ (.slice ra10 m rc10))).alloc (ftO 44 ⟨0, 0, []⟩ (.slice da10 0 dc10))).heap.size = x10.heap.size + 1 + 1 from by simp] at this
        exact this
      replace HS := Lib.hid (HS.out.trans HAn.out)
      replace HK := Lib.hid (HAn.out.block HK.out)
      replace HC := Lib.hid (HC.out.same HAn.out)
      replace HF6 := Lib.hid (HAn.out.block HF6.out)
      replace HXA6 := Lib.hid (HAn.out.block HXA6.out)
      replace HR6 := Lib.hid (HR6.out.same HAn.out)
      replace HF7 := Lib.hid (HAn.out.block HF7.out)
      replace HXA7 := Lib.hid (HAn.out.block HXA7.out)
      replace HR7 := Lib.hid (HR7.out.same HAn.out)
      replace HF8 := Lib.hid (HAn.out.block HF8.out)
      replace HD8 := Lib.hid (HD8.out.same HAn.out)
      replace HF9 := Lib.hid (HAn.out.block HF9.out)
      replace HD9 := Lib.hid (HD9.out.same HAn.out)
      replace HF10 := Lib.hid (HAn.out.block HF10.out)
      obtain ⟨a0, a1, a2⟩ := FtAt.of HF6.out
      obtain ⟨b0, b1', b2⟩ := FtAt.of HF7.out
      obtain ⟨m0, m1, m2, m3⟩ := OqAt.of HXA6.out
      obtain ⟨n0, n1, n2, n3⟩ := OqAt.of HK.out
      go_wp2_with fail
      generalize ((x10.alloc (oqO 25 ⟨p0, p1, p2, p3⟩ (.slice ra10 m rc10))).alloc (ftO 44 ⟨0, 0, []⟩ (.slice da10 0 dc10))).alloc (ftO 44 ⟨2, 0, []⟩ (.slice none 0 0)) = Un at *
      clear HA10 HAn k0 k1 k2 k3 a0 a1 a2 b0 b1' b2 m0 m1 m2 m3 n0 n1 n2 n3
      refine (HSm _ _ _ HR6.out HC.out).out.mono ?_
      rintro e s1 ⟨rfl, h1⟩
      replace HS := Lib.hid (HS.out.trans h1)
      replace HK := Lib.hid (h1.block HK.out)
      replace HC := Lib.hid (HC.out.same h1)
      replace HF6 := Lib.hid (h1.block HF6.out)
      replace HXA6 := Lib.hid (h1.block HXA6.out)
      replace HR6 := Lib.hid (HR6.out.same h1)
      replace HF7 := Lib.hid (h1.block HF7.out)
      replace HXA7 := Lib.hid (h1.block HXA7.out)
      replace HR7 := Lib.hid (HR7.out.same h1)
      replace HF8 := Lib.hid (h1.block HF8.out)
      replace HD8 := Lib.hid (HD8.out.same h1)
      replace HF9 := Lib.hid (h1.block HF9.out)
      replace HD9 := Lib.hid (HD9.out.same h1)
      replace HF10 := Lib.hid (h1.block HF10.out)
      replace HNn := Lib.hid (h1.block HNn.out)
      clear h1
      obtain ⟨m0, m1, m2, m3⟩ := OqAt.of HXA7.out
      obtain ⟨n0, n1, n2, n3⟩ := OqAt.of HK.out
      go_wp2_with fail
      clear m0 m1 m2 m3 n0 n1 n2 n3
      refine (HSm _ _ _ HR7.out HC.out).out.mono ?_
      rintro e s2 ⟨rfl, h2⟩
      replace HS := Lib.hid (HS.out.trans h2)
      replace HK := Lib.hid (h2.block HK.out)
      replace HC := Lib.hid (HC.out.same h2)
      replace HF6 := Lib.hid (h2.block HF6.out)
      replace HXA6 := Lib.hid (h2.block HXA6.out)
      replace HR6 := Lib.hid (HR6.out.same h2)
      replace HF7 := Lib.hid (h2.block HF7.out)
      replace HXA7 := Lib.hid (h2.block HXA7.out)
      replace HR7 := Lib.hid (HR7.out.same h2)
      replace HF8 := Lib.hid (h2.block HF8.out)
      replace HD8 := Lib.hid (HD8.out.same h2)
      replace HF9 := Lib.hid (h2.block HF9.out)
      replace HD9 := Lib.hid (HD9.out.same h2)
      replace HF10 := Lib.hid (h2.block HF10.out)
      replace HNn := Lib.hid (h2.block HNn.out)
      clear h2
      obtain ⟨a0, a1, a2⟩ := FtAt.of HF8.out
      obtain ⟨b0, b1', b2⟩ := FtAt.of HNn.out
      go_wp2_with fail
      clear a0 a1 a2 b0 b1' b2
      refine (rFaults_same ⟨2, 0, []⟩ _ _ _ HD8.out (Bs.nil _)).mono ?_
      rintro e s3 ⟨rfl, h3⟩
      replace HS := Lib.hid (HS.out.trans h3)
      replace HK := Lib.hid (h3.block HK.out)
      replace HC := Lib.hid (HC.out.same h3)
      replace HF6 := Lib.hid (h3.block HF6.out)
      replace HXA6 := Lib.hid (h3.block HXA6.out)
      replace HR6 := Lib.hid (HR6.out.same h3)
      replace HF7 := Lib.hid (h3.block HF7.out)
      replace HXA7 := Lib.hid (h3.block HXA7.out)
      replace HR7 := Lib.hid (HR7.out.same h3)
      replace HF8 := Lib.hid (h3.block HF8.out)
      replace HD8 := Lib.hid (HD8.out.same h3)
      replace HF9 := Lib.hid (h3.block HF9.out)
      replace HD9 := Lib.hid (HD9.out.same h3)
      replace HF10 := Lib.hid (h3.block HF10.out)
      replace HNn := Lib.hid (h3.block HNn.out)
      clear h3
      obtain ⟨a0, a1, a2⟩ := FtAt.of HF9.out
      obtain ⟨b0, b1', b2⟩ := FtAt.of HNn.out
      go_wp2_with fail
      clear a0 a1 a2 b0 b1' b2
      refine (rFaults_same ⟨2, 0, []⟩ _ _ _ HD9.out (Bs.nil _)).mono ?_
      rintro e s4 ⟨rfl, h4⟩
      replace HS := Lib.hid (HS.out.trans h4)
      replace HK := Lib.hid (h4.block HK.out)
      replace HC := Lib.hid (HC.out.same h4)
      replace HF6 := Lib.hid (h4.block HF6.out)
      replace HXA6 := Lib.hid (h4.block HXA6.out)
      replace HR6 := Lib.hid (HR6.out.same h4)
      replace HF7 := Lib.hid (h4.block HF7.out)
      replace HXA7 := Lib.hid (h4.block HXA7.out)
      replace HR7 := Lib.hid (HR7.out.same h4)
      replace HF8 := Lib.hid (h4.block HF8.out)
      replace HD8 := Lib.hid (HD8.out.same h4)
      replace HF9 := Lib.hid (h4.block HF9.out)
      replace HD9 := Lib.hid (HD9.out.same h4)
      replace HF10 := Lib.hid (h4.block HF10.out)
      replace HNn := Lib.hid (h4.block HNn.out)
      clear h4
      obtain ⟨a0, a1, a2⟩ := FtAt.of HF10.out
      go_wp2_with fail
      clear a0 a1 a2
      refine (HL _).out.mono ?_
      rintro e s5 ⟨rfl, h5⟩
      have HS5 := Lib.hid (HS.out.trans h5)
      clear h5
      go_wp2_with fail
      go_ret
      exact ⟨rfl, HS5.out⟩
  · have hX0 : openB o = [] := if_neg hg
    rw [hX0] at HBy
    obtain ⟨p0, p1, p2, p3⟩ := o
    rw [decide_eq_false hg] at HGo
    simp only at HLi HGo HBy HC
    have HS := Lib.hid (Same.alloc w (oqO 25 ⟨p0, p1, p2, p3⟩ (.slice pa m pc)))
    have HK := Lib.hid (heap_alloc_new w (oqO 25 ⟨p0, p1, p2, p3⟩ (.slice pa m pc)))
    replace HC := Lib.hid (HC.out.same HS.out)
    obtain ⟨k0, k1, k2, k3⟩ := OqAt.of HK.out
    generalize hW : w.alloc (oqO 25 ⟨p0, p1, p2, p3⟩ (.slice pa m pc)) = W at HS HK HC k0 k1 k2 k3
    go_enter Try.func5, Try.ntmps5
    go_wp2_with fail
    clear hW k0 k1 k2 k3 HOK
    refine (HLi _ HC.out).out.mono ?_
    rintro e w1 ⟨hli, hs1⟩
    replace HS := Lib.hid (HS.out.trans hs1)
    replace HK := Lib.hid (hs1.block HK.out)
    replace HC := Lib.hid (HC.out.same hs1)
    clear hs1
    rcases hli with rfl | ⟨rfl, hli⟩
    · go_wp2_with fail
      refine (HL _).out.mono ?_
      rintro e w2 ⟨rfl, hs2⟩
      have HS2 := Lib.hid (HS.out.trans hs2)
      clear hs2
      go_wp2_with fail
      go_ret
      exact ⟨rfl, HS2.out⟩
    · have HLI := Lib.hid hli
      clear hli
      obtain ⟨k0, k1, k2, k3⟩ := OqAt.of HK.out
      go_wp2_with fail
      clear k0 k1 k2 k3
      refine (HBy _ HC.out HLI.out).out.mono ?_
      rintro e w2 ⟨v2, rfl, hb2, hs2⟩
      replace HS := Lib.hid (HS.out.trans hs2)
      replace HK := Lib.hid (hs2.block HK.out)
      replace HC := Lib.hid (HC.out.same hs2)
      obtain ⟨a2, c2, rfl⟩ := hb2.form0 (n := 0) rfl
      clear hs2 hb2
      obtain ⟨k0, k1, k2, k3⟩ := OqAt.of HK.out
      go_wp2_with fail
      refine (HGo _ HC.out HLI.out).out.mono ?_
      rintro e w3 ⟨rfl, hs3⟩
      replace HS := Lib.hid (HS.out.trans hs3)
      clear hs3 k0 k1 k2 k3
      go_wp2_with fail
      refine (HL _).out.mono ?_
      rintro e w4 ⟨rfl, hs4⟩
      have HS4 := Lib.hid (HS.out.trans hs4)
      clear hs4
      go_wp2_with fail
      go_ret
      exact ⟨rfl, HS4.out⟩
end Go.Proofs.Ytidijoncngfppaa
