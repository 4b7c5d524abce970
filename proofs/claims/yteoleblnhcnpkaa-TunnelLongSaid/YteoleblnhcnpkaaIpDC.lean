/- Contracts of the developers' layer 4: a head written, Build. No condition beyond what each names. -/
import Derived.Test.YteoleblnhcnpkaaIpDB
namespace Go.Proofs.Yteoleblnhcnpkaa
open Go.RowKit
set_option linter.unusedVariables false

theorem wraps_i64 (n : Int) (h₀ : 0 ≤ n) (h₁ : n < 2 ^ 63) : IntKind.i64.wrap n = n := by rw [IntKind.wrap_i64]; omega
theorem or_words (k : Int) (h0 : 0 ≤ k) (h1 : k < 64) : bits .or .i64 64 k = 64 + k := by
  exact bits_join .i64 63 (by decide) wraps_i64 6 (x := 64) (y := k) (by omega) (by omega) (by omega) h0 (by omega) (by omega)
theorem or_frag (f g : Int) (f0 : 0 ≤ f) (f1 : f ≤ 7) (g0 : 0 ≤ g) (g1 : g ≤ 8191) : bits .or .i64 (f * 8192) g = f * 8192 + g := by
  exact bits_join .i64 63 (by decide) wraps_i64 13 (x := f * 8192) (y := g) (by omega) (by omega) (by omega) g0 (by omega) (by omega)
theorem OwnB.forms {w : World} {B : Nat} {v : Value} {l : List UInt8} (h : OwnB w B v l) (hl : 0 < l.length) : ∃ g cap, v = .slice (some ⟨g, 0, none⟩) l.length cap ∧ l.length ≤ cap ∧ B ≤ g := h.form hl

/-- the head's bytes as write lays them: then the sum -/
theorem sum_head (h : Hd) (n : Int) : sumH (headB h n 0) = sealH h n := by
  have e0 : layB (headB h n 0) 10 [0, 0] = headB h n 0 := by
    have z1 : byteAt 0 1 = 0 := by decide
    have z0 : byteAt 0 0 = 0 := by decide
    simp [layB, headB, z1, z0]
  rw [sumH, e0]
  rfl

set_option maxRecDepth 100000 in
set_option maxHeartbeats 1000000 in
theorem ipWrite_any (h : Hd) (hg : goodH h) (hsrc : 0 ≤ h.src ∧ h.src ≤ 4294967295) (hdst : 0 ≤ h.dst ∧ h.dst ≤ 4294967295) (n : Int) (hn : 0 ≤ n ∧ n ≤ 65535) (vo : Value) (w : World) (hb : Bs w vo h.opts) :
    Calls Try.prog 36 #[hdV h vo, .int .i64 n] w fun e w' => ∃ v, e = .returned v ∧ OwnB w' w.heap.size v (sealH h n) ∧ Same w w' := by
  have HSE := Lib.hid (sum_head h n)
  have HLE := Lib.hid (headB_length h n 0)
  obtain ⟨tos, id, flags, frag, ttl, proto, src, dst, opts⟩ := h
  have HG := Lib.hid hg
  have HB := Lib.hid hb
  obtain ⟨⟨g0, g1⟩, ⟨g2, g3⟩, ⟨g4, g5⟩, ⟨g6, g7⟩, ⟨g8, g9⟩, ⟨g10, g11⟩, g12, g13⟩ := hg
  obtain ⟨p1, p2⟩ := hsrc
  obtain ⟨p3, p4⟩ := hdst
  obtain ⟨p5, p6⟩ := hn
  simp only at g0 g1 g2 g3 g4 g5 g6 g7 g8 g9 g10 g11 g12 g13 p1 p2 p3 p4
  obtain ⟨ao, cap, rfl, q1, q2, -, -⟩ := hb
  have z1 := or_words ((20 + (opts.length : Int)) / 4) (by omega) (by omega)
  have z2 := or_frag flags frag g8 g9 g10 g11
  obtain ⟨W0, hW⟩ : ∃ W0, W0 = w.alloc (hdO 31 ⟨tos, id, flags, frag, ttl, proto, src, dst, opts⟩ (.slice ao opts.length cap)) := ⟨_, rfl⟩
  have HX : Hid (∀ w', Same W0 w' → HdAt w' w.heap.size ⟨tos, id, flags, frag, ttl, proto, src, dst, opts⟩ (.slice ao opts.length cap)) := by rw [hW]; exact hd_box 31 ⟨tos, id, flags, frag, ttl, proto, src, dst, opts⟩ _ w
  have H0 : Hid (Same w W0) := by rw [hW]; exact Same.alloc w _
  have HW := Lib.hid hW
  clear hW
  go_enter Try.func36, Try.ntmps36
  go_wp2_with fail
  refine (Put8_any _ [] (64 + (20 + (opts.length : Int)) / 4) _ (Bs.nil _) (by simp)).mono ?_
  rintro e w1 ⟨v1, rfl, ho1, hs1⟩
  have HS1 : Hid (Same W0 w1) := by rw [HW.out]; exact hs1
  have HO1 : Hid (OwnB w1 W0.heap.size v1 ([] ++ [byteAt (64 + (20 + (opts.length : Int)) / 4) 0])) := by rw [HW.out]; exact ho1
  obtain ⟨c0, c1, c2, c3, c4, c5, c6, c7, c8⟩ := HX.out w1 HS1.out
  clear ho1 hs1
  go_wp2_with fail
  refine (Put8_any _ _ tos _ HO1.out.bs (by simp)).mono ?_
  rintro e w2 ⟨v2, rfl, ho2, hs2⟩
  have HS2 := Lib.hid (HS1.out.trans hs2)
  have HO2 := Lib.hid (ho2.mono (B' := W0.heap.size) HS1.out.size)
  clear ho2 hs2 c0 c1 c2 c3 c4 c5 c6 c7 c8 HS1 HO1
  obtain ⟨c0, c1, c2, c3, c4, c5, c6, c7, c8⟩ := HX.out w2 HS2.out
  go_wp2_with fail
  refine (Put16_any _ _ n _ HO2.out.bs (by simp)).mono ?_
  rintro e w3 ⟨v3, rfl, ho3, hs3⟩
  have HS3 := Lib.hid (HS2.out.trans hs3)
  have HO3 := Lib.hid (ho3.mono (B' := W0.heap.size) HS2.out.size)
  clear ho3 hs3 c0 c1 c2 c3 c4 c5 c6 c7 c8 HS2 HO2
  obtain ⟨c0, c1, c2, c3, c4, c5, c6, c7, c8⟩ := HX.out w3 HS3.out
  go_wp2_with fail
  refine (Put16_any _ _ id _ HO3.out.bs (by simp)).mono ?_
  rintro e w4 ⟨v4, rfl, ho4, hs4⟩
  have HS4 := Lib.hid (HS3.out.trans hs4)
  have HO4 := Lib.hid (ho4.mono (B' := W0.heap.size) HS3.out.size)
  clear ho4 hs4 c0 c1 c2 c3 c4 c5 c6 c7 c8 HS3 HO3
  obtain ⟨c0, c1, c2, c3, c4, c5, c6, c7, c8⟩ := HX.out w4 HS4.out
  go_wp2_with fail
  refine (Put16_any _ _ (flags * 8192 + frag) _ HO4.out.bs (by simp)).mono ?_
  rintro e w5 ⟨v5, rfl, ho5, hs5⟩
  have HS5 := Lib.hid (HS4.out.trans hs5)
  have HO5 := Lib.hid (ho5.mono (B' := W0.heap.size) HS4.out.size)
  clear ho5 hs5 c0 c1 c2 c3 c4 c5 c6 c7 c8 HS4 HO4
  obtain ⟨c0, c1, c2, c3, c4, c5, c6, c7, c8⟩ := HX.out w5 HS5.out
  go_wp2_with fail
  refine (Put8_any _ _ ttl _ HO5.out.bs (by simp)).mono ?_
  rintro e w6 ⟨v6, rfl, ho6, hs6⟩
  have HS6 := Lib.hid (HS5.out.trans hs6)
  have HO6 := Lib.hid (ho6.mono (B' := W0.heap.size) HS5.out.size)
  clear ho6 hs6 c0 c1 c2 c3 c4 c5 c6 c7 c8 HS5 HO5
  obtain ⟨c0, c1, c2, c3, c4, c5, c6, c7, c8⟩ := HX.out w6 HS6.out
  go_wp2_with fail
  refine (Put8_any _ _ proto _ HO6.out.bs (by simp)).mono ?_
  rintro e w7 ⟨v7, rfl, ho7, hs7⟩
  have HS7 := Lib.hid (HS6.out.trans hs7)
  have HO7 := Lib.hid (ho7.mono (B' := W0.heap.size) HS6.out.size)
  clear ho7 hs7 c0 c1 c2 c3 c4 c5 c6 c7 c8 HS6 HO6
  obtain ⟨c0, c1, c2, c3, c4, c5, c6, c7, c8⟩ := HX.out w7 HS7.out
  go_wp2_with fail
  refine (Put16_any _ _ 0 _ HO7.out.bs (by simp)).mono ?_
  rintro e w8 ⟨v8, rfl, ho8, hs8⟩
  have HS8 := Lib.hid (HS7.out.trans hs8)
  have HO8 := Lib.hid (ho8.mono (B' := W0.heap.size) HS7.out.size)
  clear ho8 hs8 c0 c1 c2 c3 c4 c5 c6 c7 c8 HS7 HO7
  obtain ⟨c0, c1, c2, c3, c4, c5, c6, c7, c8⟩ := HX.out w8 HS8.out
  go_wp2_with fail
  refine (Put32_any _ _ src _ HO8.out.bs (by simp)).mono ?_
  rintro e w9 ⟨v9, rfl, ho9, hs9⟩
  have HS9 := Lib.hid (HS8.out.trans hs9)
  have HO9 := Lib.hid (ho9.mono (B' := W0.heap.size) HS8.out.size)
  clear ho9 hs9 c0 c1 c2 c3 c4 c5 c6 c7 c8 HS8 HO8
  obtain ⟨c0, c1, c2, c3, c4, c5, c6, c7, c8⟩ := HX.out w9 HS9.out
  go_wp2_with fail
  refine (Put32_any _ _ dst _ HO9.out.bs (by simp)).mono ?_
  rintro e w10 ⟨v10, rfl, ho10, hs10⟩
  have HS10 := Lib.hid (HS9.out.trans hs10)
  have HO10 := Lib.hid (ho10.mono (B' := W0.heap.size) HS9.out.size)
  clear ho10 hs10 c0 c1 c2 c3 c4 c5 c6 c7 c8 HS9 HO9
  obtain ⟨c0, c1, c2, c3, c4, c5, c6, c7, c8⟩ := HX.out w10 HS10.out
  have HEQ : Hid ((((((((((([] ++ [byteAt (64 + (20 + (opts.length : Int)) / 4) 0]) ++ [byteAt tos 0]) ++ [byteAt n 1, byteAt n 0]) ++ [byteAt id 1, byteAt id 0]) ++ [byteAt (flags * 8192 + frag) 1, byteAt (flags * 8192 + frag) 0]) ++ [byteAt ttl 0]) ++ [byteAt proto 0]) ++ [byteAt 0 1, byteAt 0 0]) ++ [byteAt src 3, byteAt src 2, byteAt src 1, byteAt src 0]) ++ [byteAt dst 3, byteAt dst 2, byteAt dst 1, byteAt dst 0]) ++ opts = headB ⟨tos, id, flags, frag, ttl, proto, src, dst, opts⟩ n 0) := by
    show _ = _
    simp [headB]
  obtain ⟨LA, hLA⟩ : ∃ LA, LA = ((((((((([] ++ [byteAt (64 + (20 + (opts.length : Int)) / 4) 0]) ++ [byteAt tos 0]) ++ [byteAt n 1, byteAt n 0]) ++ [byteAt id 1, byteAt id 0]) ++ [byteAt (flags * 8192 + frag) 1, byteAt (flags * 8192 + frag) 0]) ++ [byteAt ttl 0]) ++ [byteAt proto 0]) ++ [byteAt 0 1, byteAt 0 0]) ++ [byteAt src 3, byteAt src 2, byteAt src 1, byteAt src 0]) ++ [byteAt dst 3, byteAt dst 2, byteAt dst 1, byteAt dst 0] := ⟨_, rfl⟩
  rw [← hLA] at HO10 HEQ
  have HLL : Hid (LA.length + opts.length ≤ 140737488355328) := by rw [hLA]; show _ ≤ _; simp; omega
  obtain ⟨LH, hLH⟩ : ∃ LH, LH = headB ⟨tos, id, flags, frag, ttl, proto, src, dst, opts⟩ n 0 := ⟨_, rfl⟩
  rw [← hLH] at HEQ HSE HLE
  have HLE2 : Hid (LH.length = 20 + opts.length) := HLE.out
  obtain ⟨SE, hSE⟩ : ∃ SE, SE = sealH ⟨tos, id, flags, frag, ttl, proto, src, dst, opts⟩ n := ⟨_, rfl⟩
  rw [← hSE] at HSE
  have HSQ := Lib.hid hSE
  clear hLA hLH HLE hSE
  go_wp2_with (at_builtin; refine wpList_append_bs rfl _ _ rfl W0 HS10.out _ LA rfl HO10.out _ opts rfl (HB.out.same (H0.out.trans HS10.out)) HLL.out ?_; intro v11 w11 ho11 hs11; rw [HEQ.out] at ho11; obtain ⟨g, cp, rfl, hcp, hBg⟩ := OwnB.forms ho11 (by rw [HLE2.out]; omega))
  have HO11 := Lib.hid ho11
  have HS11 := Lib.hid hs11
  have HBg := Lib.hid hBg
  clear ho11 hs11 hBg c0 c1 c2 c3 c4 c5 c6 c7 c8 HS10 HO10
  refine (ipSum_any W0.heap.size g LH.length cp LH rfl (by rw [HLE2.out]; omega) (by rw [HLE2.out]; omega) w11 HO11.out).mono ?_
  rintro e w12 ⟨rfl, ho12, hm12⟩
  rw [HSE.out] at ho12
  have HO12 := Lib.hid (ho12.mono H0.out.size)
  have HS12 : Hid (Same w w12) := Below.trans (H0.out.trans HS11.out) (hm12.below (Nat.le_trans H0.out.size HBg.out) (H0.out.trans HS11.out).size)
  clear ho12 hm12
  go_wp2_with fail
  go_ret
  rw [← HSQ.out]
  exact ⟨_, rfl, HO12.out, HS12.out⟩

set_option maxRecDepth 100000 in
set_option maxHeartbeats 1000000 in
theorem ipBuild_any (h : Hd) (hr : HdR h) (p : List UInt8) (vo vp : Value) (w : World) (hb : Bs w vo h.opts) (hp : Bs w vp p) (ho : h.opts.length ≤ 140737488355328) (hpl : p.length ≤ 140737488355328) :
    Calls Try.prog 19 #[hdV h vo, vp] w fun e w' => ∃ v, e = .returned v ∧ OwnB w' w.heap.size v (buildB h p) ∧ Same w w' := by
  have HB := Lib.hid hb
  have HP := Lib.hid hp
  have HGc := fun ao cap w => Lib.hid (ipGood_any h ao cap w)
  have HWr := fun (hg : goodH h) (n : Int) hn vo w hb => Lib.hid (ipWrite_any h hg hr.1 hr.2 n hn vo w hb)
  have HWr := Lib.hid HWr
  have HSL := fun n => sealH_length h n
  obtain ⟨ao, cap, rfl, q1, q2, -, -⟩ := hb
  obtain ⟨ap, caq, rfl, r1, r2, -, -⟩ := hp
  obtain ⟨tos, id, flags, frag, ttl, proto, src, dst, opts⟩ := h
  simp only at q1 ho HSL
  have HSLh := Lib.hid HSL
  clear HSL
  obtain ⟨W0, hW⟩ : ∃ W0, W0 = w.alloc (hdO 31 ⟨tos, id, flags, frag, ttl, proto, src, dst, opts⟩ (.slice ao opts.length cap)) := ⟨_, rfl⟩
  have HX : Hid (∀ w', Same W0 w' → HdAt w' w.heap.size ⟨tos, id, flags, frag, ttl, proto, src, dst, opts⟩ (.slice ao opts.length cap)) := by rw [hW]; exact hd_box 31 ⟨tos, id, flags, frag, ttl, proto, src, dst, opts⟩ _ w
  have H0 : Hid (Same w W0) := by rw [hW]; exact Same.alloc w _
  have HW := Lib.hid hW
  clear hW
  by_cases hg : goodH ⟨tos, id, flags, frag, ttl, proto, src, dst, opts⟩
  · have HGo := Lib.hid hg
    rw [show decide (goodH ⟨tos, id, flags, frag, ttl, proto, src, dst, opts⟩) = true from decide_eq_true hg] at HGc
    obtain ⟨-, -, -, -, -, -, g1, -⟩ := hg
    simp only at g1
    by_cases hs : 20 + opts.length + p.length ≤ 9000
    · have hle : ¬ (9000 < 20 + (opts.length : Int) + p.length) := by omega
      have hq : Hid (buildB ⟨tos, id, flags, frag, ttl, proto, src, dst, opts⟩ p = sealH ⟨tos, id, flags, frag, ttl, proto, src, dst, opts⟩ (20 + (opts.length : Int) + (p.length : Int)) ++ p) := by
        show _ = _
        rw [buildB, if_pos ⟨HGo.out, hs⟩, sizeH]
        push_cast
        rfl
      rw [hq.out]
      clear hq
      go_enter Try.func19, Try.ntmps19
      go_wp2_with fail
      refine (HGc _ _ _).out.mono ?_
      rintro e w1 ⟨rfl, hs1⟩
      have HS1 : Hid (Same W0 w1) := by rw [HW.out]; exact hs1
      clear hs1
      obtain ⟨c0, c1, c2, c3, c4, c5, c6, c7, c8⟩ := HX.out w1 HS1.out
      go_wp2_with fail
      refine (HWr.out HGo.out (20 + (opts.length : Int) + (p.length : Int)) (by omega) _ _ (HB.out.same (H0.out.trans HS1.out))).out.mono ?_
      rintro e w2 ⟨v2, rfl, ho2, hs2⟩
      have HS2 := Lib.hid ((H0.out.trans HS1.out).trans hs2)
      have HO2 := Lib.hid ho2
      have HLn : Hid ((sealH ⟨tos, id, flags, frag, ttl, proto, src, dst, opts⟩ (20 + (opts.length : Int) + (p.length : Int))).length + p.length ≤ 140737488355328) := by
        show _ ≤ _
        rw [HSLh.out]; omega
      obtain ⟨vao, vcap, hv, -, -, -, -⟩ := ho2.bs
      obtain ⟨no, hno⟩ : ∃ no, (sealH ⟨tos, id, flags, frag, ttl, proto, src, dst, opts⟩ (20 + (opts.length : Int) + (p.length : Int))).length = no := ⟨_, rfl⟩
      rw [hno] at hv
      subst hv
      clear ho2 hs2 hno c0 c1 c2 c3 c4 c5 c6 c7 c8
      go_wp2_with fail
      have HA := Lib.hid (Same.alloc w2 (.cells #[.slice vao no vcap, .slice ap p.length caq] 56))
      refine (concat_h w2.heap.size _ _ _ p _ (HO2.out.bs.same HA.out) (HP.out.same (HS2.out.trans HA.out)) HLn.out (heap_alloc_new w2 _)).mono ?_
      rintro e w3 ⟨v3, rfl, ho3, hs3⟩
      have HO3 := Lib.hid (ho3.mono (HS2.out.trans HA.out).size)
      have HS3 := Lib.hid ((HS2.out.trans HA.out).trans hs3)
      clear ho3 hs3
      go_wp2_with fail
      go_ret
      exact ⟨v3, rfl, HO3.out, HS3.out⟩
    · have hle : 9000 < 20 + (opts.length : Int) + p.length := by omega
      have hq : buildB ⟨tos, id, flags, frag, ttl, proto, src, dst, opts⟩ p = [] := if_neg fun h => hs h.2
      rw [hq]
      clear hq hs
      go_enter Try.func19, Try.ntmps19
      go_wp2_with fail
      refine (HGc _ _ _).out.mono ?_
      rintro e w1 ⟨rfl, hs1⟩
      have HS1 : Hid (Same W0 w1) := by rw [HW.out]; exact hs1
      clear hs1
      go_wp2_with fail
      go_ret
      exact ⟨_, rfl, OwnB.nil _ _, H0.out.trans HS1.out⟩
  · have hq : buildB ⟨tos, id, flags, frag, ttl, proto, src, dst, opts⟩ p = [] := if_neg fun h => hg h.1
    rw [hq]
    clear hq
    rw [show decide (goodH ⟨tos, id, flags, frag, ttl, proto, src, dst, opts⟩) = false from decide_eq_false hg] at HGc
    clear hg HWr
    go_enter Try.func19, Try.ntmps19
    go_wp2_with fail
    refine (HGc _ _ _).out.mono ?_
    rintro e w1 ⟨rfl, hs1⟩
    have HS1 : Hid (Same W0 w1) := by rw [HW.out]; exact hs1
    clear hs1
    go_wp2_with fail
    go_ret
    exact ⟨_, rfl, OwnB.nil _ _, H0.out.trans HS1.out⟩
end Go.Proofs.Yteoleblnhcnpkaa
