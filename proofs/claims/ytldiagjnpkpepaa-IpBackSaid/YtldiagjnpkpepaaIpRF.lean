/- Contracts of the document's own answers for layer 4: Parse, Forward, Rewrite. No condition beyond what each names. -/
import Derived.Test.YtldiagjnpkpepaaIpRE
namespace Go.Proofs.Ytldiagjnpkpepaa
open Go.RowKit
set_option linter.unusedVariables false

theorem riParse_any (v : Value) (l : List UInt8) (w : World) (hb : Bs w v l) :
    Calls Try.prog 23 #[v] w fun e w' => ∃ vo vp, e = .returned (parV (parseH l) vo vp (parseE l)) ∧ OwnB w' w.heap.size vo (parseH l).opts ∧ OwnB w' w.heap.size vp (parseP l) ∧ Same w w' := by
  have bad : ∀ E : Int, E ≠ 0 → parseE l = E → Calls Try.prog 23 #[v] w (fun e w' => e = .returned (parV zeroH nilV nilV E) ∧ Same w w') →
      Calls Try.prog 23 #[v] w fun e w' => ∃ vo vp, e = .returned (parV (parseH l) vo vp (parseE l)) ∧ OwnB w' w.heap.size vo (parseH l).opts ∧ OwnB w' w.heap.size vp (parseP l) ∧ Same w w' := by
    intro E hE he hc
    have h1 : parseH l = zeroH := if_neg (by rw [he]; exact hE)
    have h2 : parseP l = [] := if_neg (by rw [he]; exact hE)
    rw [h1, h2, he]
    exact hc.mono fun e w' ⟨h, k⟩ => ⟨nilV, nilV, h, OwnB.nil _ _, OwnB.nil _ _, k⟩
  by_cases h : l.length < 20
  · exact bad 3 (by decide) (if_pos h) (riParse_short v l w hb h)
  obtain ⟨b, o, cap, rfl, hcap, hcm, b0, b2, b3, hb0, hb2, hb3, e0, e2, HC⟩ := heads hb (by omega)
  have eE : endH l = 4 * (b0 % 16) := by rw [endH, e0]
  have eN : lenH l = 256 * b2 + b3 := by rw [lenH, e2]
  by_cases h2 : b0 / 16 ≠ 4 ∨ 4 * (b0 % 16) < 20
  · refine bad 4 (by decide) ?_ (riParse_bad b o l.length cap b0 b2 b3 w (by omega) hb0 h2 HC)
    rw [parseE, if_neg h, e0, eE, if_pos h2]
  have hI : ParseIn l.length b0 b2 b3 (b0 % 16) (256 * b2 + b3) := ⟨by omega, hb0, hb2, hb3, rfl, by omega, by omega, rfl⟩
  by_cases h3 : l.length < 4 * (b0 % 16) ∨ l.length < 256 * b2 + b3
  · refine bad 3 (by decide) ?_ (riParse_short2 b o l.length cap b0 b2 b3 _ _ w hI h3 HC)
    rw [parseE, if_neg h, e0, eE, if_neg h2, eN, if_pos h3]
  by_cases h4 : 256 * b2 + b3 < 4 * (b0 % 16) ∨ 9000 < 256 * b2 + b3
  · refine bad 4 (by decide) ?_ (riParse_bad2 b o l.length cap b0 b2 b3 _ _ w hI (by omega) (by omega) h4 HC)
    rw [parseE, if_neg h, e0, eE, if_neg h2, eN, if_neg h3, if_pos h4]
  by_cases h5 : sumB (l.take (4 * (b0 % 16))) = 65535
  · have hE : parseE l = 0 := by rw [parseE, if_neg h, e0, eE, if_neg h2, eN, if_neg h3, if_neg h4, if_neg (by simpa using h5)]
    have e1 : parseH l = readH (l.take (4 * (b0 % 16))) := by rw [parseH, if_pos hE, eE]
    have e3 : parseP l = (l.take (256 * b2 + b3)).drop (4 * (b0 % 16)) := by rw [parseP, if_pos hE, eE, eN]
    rw [e1, e3, hE]
    exact riParse_ok b o l.length cap b0 b2 b3 _ _ l w hI rfl hb hcap hcm (by omega) (by omega) (by omega) (by omega) h5 HC
  · refine bad 5 (by decide) ?_ (riParse_sum b o l.length cap b0 b2 b3 _ _ l w hI rfl hb hcap hcm (by omega) (by omega) (by omega) (by omega) h5 HC)
    rw [parseE, if_neg h, e0, eE, if_neg h2, eN, if_neg h3, if_neg h4, if_pos h5]

theorem parseH_r (l : List UInt8) : HdR (parseH l) := by
  unfold parseH
  split
  · have h1 := fld_lt (l.take (endH l)) 12 4
    have h2 := fld_lt (l.take (endH l)) 16 4
    exact ⟨⟨Int.natCast_nonneg _, by show ((fld _ 12 4 : Nat) : Int) ≤ _; omega⟩, ⟨Int.natCast_nonneg _, by show ((fld _ 16 4 : Nat) : Int) ≤ _; omega⟩⟩
  · exact ⟨⟨by decide, by decide⟩, ⟨by decide, by decide⟩⟩

set_option maxRecDepth 100000 in
theorem riAgain_any (v vo : Value) (l : List UInt8) (h : Hd) (hr : HdR h) (w : World) (hb : Bs w v l) (ho : Bs w vo h.opts) :
    Calls Try.prog 57 #[v, hdV h vo] w fun e w' => ∃ v', e = .returned v' ∧ OwnB w' w.heap.size v' (buildB h (parseP l)) ∧ Same w w' := by
  have HPa := fun w hb => Lib.hid (riParse_any v l w hb)
  have HBu := fun vp w ho hp => Lib.hid (riBuild_any h hr (parseP l) vo vp w ho hp)
  have HB := Lib.hid hb
  have HO := Lib.hid ho
  generalize parseP l = p at *
  have HQ := Lib.hid (parseH_r l)
  generalize parseE l = E at *
  generalize parseH l = g at *
  obtain ⟨ao, cap, rfl, -, -, -, -⟩ := hb
  obtain ⟨ao2, cap2, rfl, -, -, -, -⟩ := ho
  obtain ⟨tos, id, flags, frag, ttl, proto, src, dst, opts⟩ := h
  obtain ⟨gtos, gid, gflags, gfrag, gttl, gproto, gsrc, gdst, gopts⟩ := g
  obtain ⟨W0, hW⟩ : ∃ W0, W0 = w.alloc (hdO 34 ⟨tos, id, flags, frag, ttl, proto, src, dst, opts⟩ (.slice ao2 opts.length cap2)) := ⟨_, rfl⟩
  have HX : Hid (∀ w', Same W0 w' → HdAt w' w.heap.size ⟨tos, id, flags, frag, ttl, proto, src, dst, opts⟩ (.slice ao2 opts.length cap2)) := by rw [hW]; exact hd_box 34 ⟨tos, id, flags, frag, ttl, proto, src, dst, opts⟩ _ w
  have H0 : Hid (Same w W0) := by rw [hW]; exact Same.alloc w _
  have HW := Lib.hid hW
  clear hW
  go_enter Try.func57, Try.ntmps57
  go_wp2_with fail
  refine (HPa _ (HB.out.same (Same.alloc _ _))).out.mono ?_
  rintro e w1 ⟨vo1, vp, rfl, ho1, hp1, hs1⟩
  have HS1 : Hid (Same W0 w1) := by rw [HW.out]; exact hs1
  have HP1 := Lib.hid hp1
  obtain ⟨ao3, cap3, rfl, -, -, -, -⟩ := ho1.bs
  clear ho1 hs1
  obtain ⟨ao4, cap4, rfl, -, -, -, -⟩ := hp1.bs
  clear hp1
  have HA1 := Lib.hid (Same.alloc w1 (hdO 34 ⟨gtos, gid, gflags, gfrag, gttl, gproto, gsrc, gdst, gopts⟩ (.slice ao3 gopts.length cap3)))
  obtain ⟨c0, c1, c2, c3, c4, c5, c6, c7, c8⟩ := HX.out _ (HS1.out.trans HA1.out)
  go_wp2_with fail
  refine (HBu _ _ (HO.out.same ((H0.out.trans HS1.out).trans HA1.out)) (HP1.out.bs.same HA1.out)).out.mono ?_
  rintro e w2 ⟨v2, rfl, ho2, hs2⟩
  have HO2 := Lib.hid (ho2.mono (((H0.out.trans HS1.out).trans HA1.out).size))
  have HS2 := Lib.hid (((H0.out.trans HS1.out).trans HA1.out).trans hs2)
  clear ho2 hs2 c0 c1 c2 c3 c4 c5 c6 c7 c8
  go_wp2_with fail
  go_ret
  exact ⟨v2, rfl, HO2.out, HS2.out⟩

/-- what a packet on its way tells -/
abbrev outV (v : Value) (e : Int) : Value := .tuple #[v, .int .i64 e]

set_option maxRecDepth 100000 in
set_option maxHeartbeats 1000000 in
theorem riFwd_any (v : Value) (l : List UInt8) (w : World) (hb : Bs w v l) :
    Calls Try.prog 25 #[v] w fun e w' => ∃ v', e = .returned (outV v' (fwdE l)) ∧ OwnB w' w.heap.size v' (fwdB l) ∧ Same w w' := by
  have HPa := fun w hb => Lib.hid (riParse_any v l w hb)
  have HAg := fun vo w hb ho => Lib.hid (riAgain_any v vo l { parseH l with ttl := (parseH l).ttl - 1 } (parseH_r l) w hb ho)
  have HB := Lib.hid hb
  have hE : Hid (fwdE l = if parseE l ≠ 0 then parseE l else if (parseH l).ttl < 2 then 9 else 0) := rfl
  have hF : Hid (fwdB l = if fwdE l = 0 then buildB { parseH l with ttl := (parseH l).ttl - 1 } (parseP l) else []) := rfl
  have hT : Hid (0 ≤ (parseH l).ttl ∧ (parseH l).ttl ≤ 255) := by
    show _ ∧ _
    unfold parseH
    split
    · have := fld_lt (l.take (endH l)) 8 1
      exact ⟨Int.natCast_nonneg _, by show ((fld _ 8 1 : Nat) : Int) ≤ _; omega⟩
    · exact ⟨by decide, by decide⟩
  generalize fwdB l = F at *
  generalize fwdE l = E2 at *
  generalize parseP l = p at *
  generalize parseE l = E at *
  generalize parseH l = g at *
  obtain ⟨ao, cap, rfl, -, -, -, -⟩ := hb
  obtain ⟨gtos, gid, gflags, gfrag, gttl, gproto, gsrc, gdst, gopts⟩ := g
  obtain ⟨t0, t1⟩ := hT.out
  simp only at t0 t1 HAg hE hF HPa
  by_cases h0 : E = 0
  · subst h0
    by_cases ht : gttl < 2
    · obtain rfl : E2 = 9 := by rw [hE.out]; simp [ht]
      obtain rfl : F = [] := by rw [hF.out]; simp
      go_enter Try.func25, Try.ntmps25
      go_wp2_with fail
      refine (HPa w HB.out).out.mono ?_
      rintro e w1 ⟨vo1, vp, rfl, ho1, hp1, hs1⟩
      have HS1 := Lib.hid hs1
      obtain ⟨ao3, cap3, rfl, -, -, -, -⟩ := ho1.bs
      obtain ⟨ao4, cap4, rfl, -, -, -, -⟩ := hp1.bs
      clear ho1 hp1 hs1
      go_wp2_with fail
      go_ret2
      exact ⟨_, rfl, OwnB.nil _ _, HS1.out.trans (Same.alloc _ _)⟩
    · obtain rfl : E2 = 0 := by rw [hE.out]; simp [ht]
      obtain rfl : F = buildB ⟨gtos, gid, gflags, gfrag, gttl - 1, gproto, gsrc, gdst, gopts⟩ p := by rw [hF.out]; simp
      go_enter Try.func25, Try.ntmps25
      go_wp2_with fail
      refine (HPa w HB.out).out.mono ?_
      rintro e w1 ⟨vo1, vp, rfl, ho1, hp1, hs1⟩
      have HS1 := Lib.hid hs1
      have HO1 := Lib.hid ho1
      obtain ⟨ao3, cap3, rfl, -, -, -, -⟩ := ho1.bs
      obtain ⟨ao4, cap4, rfl, -, -, -, -⟩ := hp1.bs
      clear ho1 hp1 hs1
      go_wp2_with fail
      refine (HAg _ _ (HB.out.same (HS1.out.trans (Same.alloc _ _))) (HO1.out.bs.same (Same.alloc _ _))).out.mono ?_
      rintro e w2 ⟨v2, rfl, ho2, hs2⟩
      have HO2 := Lib.hid (ho2.mono (HS1.out.trans (Same.alloc w1 _)).size)
      have HS2 := Lib.hid ((HS1.out.trans (Same.alloc w1 _)).trans hs2)
      clear ho2 hs2
      go_wp2_with fail
      go_ret2
      exact ⟨v2, rfl, HO2.out, HS2.out⟩
  · obtain rfl : E2 = E := by rw [hE.out, if_pos h0]
    obtain rfl : F = [] := by rw [hF.out, if_neg h0]
    go_enter Try.func25, Try.ntmps25
    go_wp2_with fail
    refine (HPa w HB.out).out.mono ?_
    rintro e w1 ⟨vo1, vp, rfl, ho1, hp1, hs1⟩
    have HS1 := Lib.hid hs1
    obtain ⟨ao3, cap3, rfl, -, -, -, -⟩ := ho1.bs
    obtain ⟨ao4, cap4, rfl, -, -, -, -⟩ := hp1.bs
    clear ho1 hp1 hs1
    have h1 : (E2 != 0) = true := by simpa using h0
    go_wp2_with fail
    go_ret2
    exact ⟨_, rfl, OwnB.nil _ _, HS1.out.trans (Same.alloc _ _)⟩

set_option maxRecDepth 100000 in
set_option maxHeartbeats 1000000 in
theorem riRew_any (v : Value) (l : List UInt8) (d : Int) (hd : 0 ≤ d ∧ d ≤ 4294967295) (w : World) (hb : Bs w v l) :
    Calls Try.prog 27 #[v, .int .u32 d] w fun e w' => ∃ v', e = .returned (outV v' (parseE l)) ∧ OwnB w' w.heap.size v' (rewB l d) ∧ Same w w' := by
  have HPa := fun w hb => Lib.hid (riParse_any v l w hb)
  have HAg := fun vo w hb ho => Lib.hid (riAgain_any v vo l { parseH l with dst := d } ⟨(parseH_r l).1, hd⟩ w hb ho)
  have HB := Lib.hid hb
  have hF : Hid (rewB l d = if parseE l = 0 then buildB { parseH l with dst := d } (parseP l) else []) := rfl
  generalize rewB l d = F at *
  generalize parseP l = p at *
  generalize parseE l = E at *
  generalize parseH l = g at *
  obtain ⟨ao, cap, rfl, -, -, -, -⟩ := hb
  obtain ⟨gtos, gid, gflags, gfrag, gttl, gproto, gsrc, gdst, gopts⟩ := g
  simp only at HAg hF HPa
  by_cases h0 : E = 0
  · subst h0
    obtain rfl : F = buildB ⟨gtos, gid, gflags, gfrag, gttl, gproto, gsrc, d, gopts⟩ p := by rw [hF.out, if_pos rfl]
    go_enter Try.func27, Try.ntmps27
    go_wp2_with fail
    refine (HPa w HB.out).out.mono ?_
    rintro e w1 ⟨vo1, vp, rfl, ho1, hp1, hs1⟩
    have HS1 := Lib.hid hs1
    have HO1 := Lib.hid ho1
    obtain ⟨ao3, cap3, rfl, -, -, -, -⟩ := ho1.bs
    obtain ⟨ao4, cap4, rfl, -, -, -, -⟩ := hp1.bs
    clear ho1 hp1 hs1
    go_wp2_with fail
    refine (HAg _ _ (HB.out.same (HS1.out.trans (Same.alloc _ _))) (HO1.out.bs.same (Same.alloc _ _))).out.mono ?_
    rintro e w2 ⟨v2, rfl, ho2, hs2⟩
    have HO2 := Lib.hid (ho2.mono (HS1.out.trans (Same.alloc w1 _)).size)
    have HS2 := Lib.hid ((HS1.out.trans (Same.alloc w1 _)).trans hs2)
    clear ho2 hs2
    go_wp2_with fail
    go_ret2
    exact ⟨v2, rfl, HO2.out, HS2.out⟩
  · obtain rfl : F = [] := by rw [hF.out, if_neg h0]
    go_enter Try.func27, Try.ntmps27
    go_wp2_with fail
    refine (HPa w HB.out).out.mono ?_
    rintro e w1 ⟨vo1, vp, rfl, ho1, hp1, hs1⟩
    have HS1 := Lib.hid hs1
    obtain ⟨ao3, cap3, rfl, -, -, -, -⟩ := ho1.bs
    obtain ⟨ao4, cap4, rfl, -, -, -, -⟩ := hp1.bs
    clear ho1 hp1 hs1
    have h1 : (E != 0) = true := by simpa using h0
    go_wp2_with fail
    go_ret2
    exact ⟨_, rfl, OwnB.nil _ _, HS1.out.trans (Same.alloc _ _)⟩
end Go.Proofs.Ytldiagjnpkpepaa
