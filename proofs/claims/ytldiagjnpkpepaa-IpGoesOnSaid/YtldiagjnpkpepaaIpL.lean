/- The document's example of layer 4; the walk of IpReads. No condition beyond what each names. -/
import Derived.Test.YtldiagjnpkpepaaIpDI
import Derived.Test.YtldiagjnpkpepaaIpDD
import Derived.Test.YtldiagjnpkpepaaIpRF
namespace Go.Proofs.Ytldiagjnpkpepaa
open Go.RowKit
set_option linter.unusedVariables false

/-- the document's example -/
def exH : Hd := ⟨0, 0, 0, 0, 9, 17, 0, 0, []⟩
theorem ex_build : (buildB exH []).length = 20 ∧ (buildB exH [])[0]? = some 69 := by
  have hg : goodH exH := by decide
  have e : buildB exH [] = sealH exH 20 ++ [] := if_pos ⟨hg, by decide⟩
  rw [e, List.append_nil]
  refine ⟨sealH_length _ _, ?_⟩
  unfold sealH headB
  rfl

theorem ip_lives (w : World) : Calls Try.prog 14 #[] w fun e w' => e = .returned (.bool true) ∧ Same w w' := by
  have HB := Lib.hid (ipBuild_any exH ⟨⟨by decide, by decide⟩, ⟨by decide, by decide⟩⟩ [] nilV nilV w (Bs.nil w) (Bs.nil w) (by simp [exH]) (by simp))
  obtain ⟨h1, h2⟩ := ex_build
  have H1 := Lib.hid h1
  have H2 := Lib.hid h2
  clear h1 h2
  generalize buildB exH [] = L at *
  go_enter Try.func14, Try.ntmps14
  go_wp2_with fail
  refine HB.out.mono ?_
  rintro e w1 ⟨v, rfl, ho, hs⟩
  obtain ⟨ao, cap, rfl, b1, b2, b3, b4⟩ := ho.bs
  have HS := Lib.hid hs
  cases ao with
  | none => have := b3 rfl; have := H1.out; omega
  | some ad =>
    have hc := (b4 ad rfl).2 0 _ H2.out
    have hsp := (b4 ad rfl).1 (by intro e; have := H1.out; rw [e] at this; simp at this)
    obtain ⟨b, o, sp⟩ := ad
    simp only at hsp
    subst hsp
    rw [addr_add, Nat.add_zero] at hc
    have hc2 : w1.cell? ⟨b, o, none⟩ = some (.int .u8 69) := hc
    rw [H1.out]
    clear b4 b3 b2 b1 hc ho hs
    go_wp2_with fail
    go_ret
    exact ⟨rfl, HS.out⟩

theorem reads_long (v : Value) (l : List UInt8) (d : Int) (w : World) (hb : Bs w v l) (hl : 12000 < (l.length : Int)) :
    Calls Try.prog 5 #[v, .int .u32 d] w fun e w' => e = .returned (.bool true) ∧ Same w w' := by
  obtain ⟨ao, cap, rfl, -, -, -, -⟩ := hb
  go_enter Try.func5, Try.ntmps5
  go_wp2_with fail
  refine (ip_lives w).mono ?_
  rintro e w1 ⟨rfl, hs⟩
  have HS := Lib.hid hs
  clear hs
  go_wp2_with fail
  go_ret
  exact ⟨rfl, HS.out⟩

set_option maxRecDepth 100000 in
set_option maxHeartbeats 4000000 in
theorem reads_walk (v : Value) (l : List UInt8) (d : Int) (hd : 0 ≤ d ∧ d ≤ 4294967295) (w : World) (hb : Bs w v l) (hl : ¬ 12000 < (l.length : Int)) :
    Calls Try.prog 5 #[v, .int .u32 d] w fun e w' => e = .returned (.bool true) ∧ Same w w' := by
  have HP := fun w hb => Lib.hid (ipParse_any v l w hb)
  have HQ := fun w hb => Lib.hid (riParse_any v l w hb)
  have HF := fun w hb => Lib.hid (ipFwd_any v l w hb)
  have HG := fun w hb => Lib.hid (riFwd_any v l w hb)
  have HR := fun w hb => Lib.hid (ipRew_any v l d hd w hb)
  have HT := fun w hb => Lib.hid (riRew_any v l d hd w hb)
  have HB := Lib.hid hb
  generalize parseE l = E at *
  generalize parseP l = p at *
  generalize fwdE l = E2 at *
  generalize fwdB l = F at *
  generalize rewB l d = R at *
  generalize parseH l = H at *
  obtain ⟨ao, cap, rfl, -, -, -, -⟩ := hb
  obtain ⟨q0, q1, q2, q3, q4, q5, q6, q7, q8⟩ := H
  obtain ⟨n8, hn8⟩ : ∃ n, q8.length = n := ⟨_, rfl⟩
  go_enter Try.func5, Try.ntmps5
  go_wp2_with fail
  refine (HP _ HB.out).out.mono ?_
  rintro e w1 ⟨vo1, vp1, rfl, ho1, hp1, hs1⟩
  have HO1 := Lib.hid ho1
  have HP1 := Lib.hid hp1
  have HS1 := Lib.hid hs1
  obtain ⟨a1, c1, hv1, -, -, -, -⟩ := ho1.bs
  rw [hn8] at hv1
  subst hv1
  obtain ⟨b1, e1, rfl, -, -, -, -⟩ := hp1.bs
  clear ho1 hp1 hs1
  have HA1 := Lib.hid (Same.alloc w1 (hdO 31 ⟨q0, q1, q2, q3, q4, q5, q6, q7, q8⟩ (.slice a1 n8 c1)))
  have HK1 := Lib.hid (heap_alloc_new w1 (hdO 31 ⟨q0, q1, q2, q3, q4, q5, q6, q7, q8⟩ (.slice a1 n8 c1)))
  go_wp2_with fail
  refine (HQ _ (HB.out.same (HS1.out.trans HA1.out))).out.mono ?_
  rintro e w2 ⟨vo2, vp2, rfl, ho2, hp2, hs2⟩
  have HO2 := Lib.hid ho2
  have HP2 := Lib.hid hp2
  have HS2 := Lib.hid (HA1.out.trans hs2)
  have HK2 := Lib.hid (hs2.block HK1.out)
  obtain ⟨a2, c2, hv2, -, -, -, -⟩ := ho2.bs
  rw [hn8] at hv2
  subst hv2
  obtain ⟨b2, e2, rfl, -, -, -, -⟩ := hp2.bs
  clear ho2 hp2 hs2 HA1 HK1
  have HA2 := Lib.hid (Same.alloc w2 (hdO 34 ⟨q0, q1, q2, q3, q4, q5, q6, q7, q8⟩ (.slice a2 n8 c2)))
  have HK3 := Lib.hid (heap_alloc_new w2 (hdO 34 ⟨q0, q1, q2, q3, q4, q5, q6, q7, q8⟩ (.slice a2 n8 c2)))
  go_wp2_with fail
  have HSa : Hid (Same w (w2.alloc (hdO 34 ⟨q0, q1, q2, q3, q4, q5, q6, q7, q8⟩ (.slice a2 n8 c2)))) := (HS1.out.trans HS2.out).trans HA2.out
  have HKa : Hid ((w2.alloc (hdO 34 ⟨q0, q1, q2, q3, q4, q5, q6, q7, q8⟩ (.slice a2 n8 c2))).heap[w1.heap.size]? = some (hdO 31 ⟨q0, q1, q2, q3, q4, q5, q6, q7, q8⟩ (.slice a1 n8 c1))) := HA2.out.block HK2.out
  have HO1a := Lib.hid (HO1.out.same (HS2.out.trans HA2.out))
  have HP1a := Lib.hid (HP1.out.same (HS2.out.trans HA2.out))
  have HO2a := Lib.hid (HO2.out.same HA2.out)
  have HP2a := Lib.hid (HP2.out.same HA2.out)
  clear HK2 HA2 HO1 HP1 HO2 HP2 HS1 HS2
  generalize (w2.alloc (hdO 34 ⟨q0, q1, q2, q3, q4, q5, q6, q7, q8⟩ (.slice a2 n8 c2))) = w3 at *
  refine (HF _ (HB.out.same HSa.out)).out.mono ?_
  rintro e w4 ⟨x4, rfl, ho4, hs4⟩
  have HO4 := Lib.hid ho4
  have HS4 := Lib.hid hs4
  clear ho4 hs4
  go_wp2_with fail
  refine (HG _ (HB.out.same (HSa.out.trans HS4.out))).out.mono ?_
  rintro e w5 ⟨x5, rfl, ho5, hs5⟩
  have HO5 := Lib.hid ho5
  have HS5 := Lib.hid (HS4.out.trans hs5)
  have HO4a := Lib.hid (HO4.out.same hs5)
  clear ho5 hs5 HS4 HO4
  go_wp2_with fail
  refine (HR _ (HB.out.same (HSa.out.trans HS5.out))).out.mono ?_
  rintro e w6 ⟨x6, rfl, ho6, hs6⟩
  have HO6 := Lib.hid ho6
  have HS6 := Lib.hid (HS5.out.trans hs6)
  have HO4b := Lib.hid (HO4a.out.same hs6)
  have HO5b := Lib.hid (HO5.out.same hs6)
  clear ho6 hs6 HS5 HO4a HO5
  go_wp2_with fail
  refine (HT _ (HB.out.same (HSa.out.trans HS6.out))).out.mono ?_
  rintro e w7 ⟨x7, rfl, ho7, hs7⟩
  have HS7 := Lib.hid (HS6.out.trans hs7)
  have HC1 : Hid (∀ w', Same w7 w' → w'.heap[w1.heap.size]? = some (hdO 31 ⟨q0, q1, q2, q3, q4, q5, q6, q7, q8⟩ (.slice a1 n8 c1))) := fun w' hw => (HS7.out.trans hw).block HKa.out
  have HC2 : Hid (∀ w', Same w7 w' → w'.heap[w2.heap.size]? = some (hdO 34 ⟨q0, q1, q2, q3, q4, q5, q6, q7, q8⟩ (.slice a2 n8 c2))) := fun w' hw => (HS7.out.trans hw).block HK3.out
  have HZ1 : Hid (∀ w', Same w7 w' → Bs w' (.slice a1 n8 c1) q8) := fun w' hw => (HO1a.out.same (HS7.out.trans hw)).bs
  have HZ2 : Hid (∀ w', Same w7 w' → Bs w' (.slice a2 n8 c2) q8) := fun w' hw => (HO2a.out.same (HS7.out.trans hw)).bs
  have HY1 : Hid (∀ w', Same w7 w' → (convert 26 9 (.slice b1 p.length e1)).run Try.prog w' = .ok (.string ⟨p.toArray⟩) w') := fun w' hw => run_str w' _ p (HP1a.out.same (HS7.out.trans hw)).bs
  have HY2 : Hid (∀ w', Same w7 w' → (convert 26 9 (.slice b2 p.length e2)).run Try.prog w' = .ok (.string ⟨p.toArray⟩) w') := fun w' hw => run_str w' _ p (HP2a.out.same (HS7.out.trans hw)).bs
  have HY4 : Hid (∀ w', Same w7 w' → (convert 26 9 x4).run Try.prog w' = .ok (.string ⟨F.toArray⟩) w') := fun w' hw => run_str w' _ F (HO4b.out.same (hs7.trans hw)).bs
  have HY5 : Hid (∀ w', Same w7 w' → (convert 26 9 x5).run Try.prog w' = .ok (.string ⟨F.toArray⟩) w') := fun w' hw => run_str w' _ F (HO5b.out.same (hs7.trans hw)).bs
  have HY6 : Hid (∀ w', Same w7 w' → (convert 26 9 x6).run Try.prog w' = .ok (.string ⟨R.toArray⟩) w') := fun w' hw => run_str w' _ R (HO6.out.same (hs7.trans hw)).bs
  have HY7 : Hid (∀ w', Same w7 w' → (convert 26 9 x7).run Try.prog w' = .ok (.string ⟨R.toArray⟩) w') := fun w' hw => run_str w' _ R (ho7.same hw).bs
  have HSw := Lib.hid (HSa.out.trans HS7.out)
  have HL := fun w => Lib.hid (ip_lives w)
  have HPl := fun ao n c w => Lib.hid (riPlain_any ⟨q0, q1, q2, q3, q4, q5, q6, q7, q8⟩ ao n c w)
  have HSm := fun vo vp w h1 h2 => Lib.hid (riSame_any ⟨q0, q1, q2, q3, q4, q5, q6, q7, q8⟩ ⟨q0, q1, q2, q3, q4, q5, q6, q7, q8⟩ vo vp w h1 h2)
  rw [sameH_self] at HSm
  clear ho7 hs7 HS6 HS7 HO4b HO5b HO6 HO1a HO2a HP1a HP2a HSa HKa HK3 HP HQ HF HG HR HT hn8
  generalize (⟨p.toArray⟩ : ByteArray) = sp at *
  generalize (⟨F.toArray⟩ : ByteArray) = sF at *
  generalize (⟨R.toArray⟩ : ByteArray) = sR at *
  generalize p.length = np at *
  go_wp2_with fail
  refine reg_start (fun w' => Same w7 w') (by kernel_rfl) ?_
  refine reg_take (v := ?_) 0 (some 57) rfl rfl (by kernel_rfl) (fun _ _ _ h => h) (by kernel_rfl) ((Same.refl w7).drew) ?_ ?_
  rotate_left
  · (intro w' hw'; obtain ⟨c0, c1, c2, c3, c4, c5, c6, c7, c8⟩ := HdAt.of (HC1.out w' hw'); obtain ⟨d0, d1, d2, d3, d4, d5, d6, d7, d8⟩ := HdAt.of (HC2.out w' hw'); go_simp; try with_reducible rfl)
  try simp only [Act.put, List.setIfInBounds_toArray, List.set_cons_zero, List.set_cons_succ]
  refine reg_take (v := ?_) 2 (some 59) rfl rfl (by kernel_rfl) (fun _ _ _ h => h) (by kernel_rfl) ((Same.refl w7).drew) ?_ ?_
  rotate_left
  · (intro w' hw'; obtain ⟨c0, c1, c2, c3, c4, c5, c6, c7, c8⟩ := HdAt.of (HC1.out w' hw'); obtain ⟨d0, d1, d2, d3, d4, d5, d6, d7, d8⟩ := HdAt.of (HC2.out w' hw'); go_simp; try with_reducible rfl)
  try simp only [Act.put, List.setIfInBounds_toArray, List.set_cons_zero, List.set_cons_succ]
  refine reg_one 1 rfl (by kernel_rfl) (by kernel_rfl) ?_
  go_simp
  refine ((HPl _ _ _ _).out).mono ?_
  rintro e u1 ⟨rfl, hs1⟩
  have hS1 := ((Same.refl w7).drew).trans hs1
  skip
  refine ⟨hS1, ?_⟩
  try simp only [Act.put, List.setIfInBounds_toArray, List.set_cons_zero, List.set_cons_succ]
  refine reg_one 3 rfl (by kernel_rfl) (by kernel_rfl) ?_
  go_simp
  refine ((HSm _ _ _ (HZ1.out _ hS1) (HZ2.out _ hS1)).out).mono ?_
  rintro e u2 ⟨rfl, hs2⟩
  have hS2 := (hS1).trans hs2
  skip
  refine ⟨hS2, ?_⟩
  try simp only [Act.put, List.setIfInBounds_toArray, List.set_cons_zero, List.set_cons_succ]
  refine reg_take (v := ?_) 4 (some 61) rfl rfl (by kernel_rfl) (fun _ _ _ h => h) (by kernel_rfl) (hS2) ?_ ?_
  rotate_left
  · (intro w' hw'; obtain ⟨c0, c1, c2, c3, c4, c5, c6, c7, c8⟩ := HdAt.of (HC1.out w' hw'); obtain ⟨d0, d1, d2, d3, d4, d5, d6, d7, d8⟩ := HdAt.of (HC2.out w' hw'); go_simp; try with_reducible rfl)
  try simp only [Act.put, List.setIfInBounds_toArray, List.set_cons_zero, List.set_cons_succ]
  refine reg_take (v := ?_) 5 (some 62) rfl rfl (by kernel_rfl) (fun _ _ _ h => h) (by kernel_rfl) (hS2) ?_ ?_
  rotate_left
  · (intro w' hw'; obtain ⟨c0, c1, c2, c3, c4, c5, c6, c7, c8⟩ := HdAt.of (HC1.out w' hw'); obtain ⟨d0, d1, d2, d3, d4, d5, d6, d7, d8⟩ := HdAt.of (HC2.out w' hw'); go_simp; try with_reducible rfl)
  try simp only [Act.put, List.setIfInBounds_toArray, List.set_cons_zero, List.set_cons_succ]
  refine reg_take (v := ?_) 6 (some 63) rfl rfl (by kernel_rfl) (fun _ _ _ h => h) (by kernel_rfl) (hS2) ?_ ?_
  rotate_left
  · (intro w' hw'; have hr := HY1.out w' hw'; go_simp; try with_reducible rfl)
  try simp only [Act.put, List.setIfInBounds_toArray, List.set_cons_zero, List.set_cons_succ]
  refine reg_take (v := ?_) 7 (some 64) rfl rfl (by kernel_rfl) (fun _ _ _ h => h) (by kernel_rfl) (hS2) ?_ ?_
  rotate_left
  · (intro w' hw'; obtain ⟨c0, c1, c2, c3, c4, c5, c6, c7, c8⟩ := HdAt.of (HC1.out w' hw'); obtain ⟨d0, d1, d2, d3, d4, d5, d6, d7, d8⟩ := HdAt.of (HC2.out w' hw'); go_simp; try with_reducible rfl)
  try simp only [Act.put, List.setIfInBounds_toArray, List.set_cons_zero, List.set_cons_succ]
  refine reg_take (v := ?_) 8 (some 65) rfl rfl (by kernel_rfl) (fun _ _ _ h => h) (by kernel_rfl) (hS2) ?_ ?_
  rotate_left
  · (intro w' hw'; have hr := HY2.out w' hw'; go_simp; try with_reducible rfl)
  try simp only [Act.put, List.setIfInBounds_toArray, List.set_cons_zero, List.set_cons_succ]
  refine reg_take (v := ?_) 9 (some 66) rfl rfl (by kernel_rfl) (fun _ _ _ h => h) (by kernel_rfl) (hS2) ?_ ?_
  rotate_left
  · (intro w' hw'; obtain ⟨c0, c1, c2, c3, c4, c5, c6, c7, c8⟩ := HdAt.of (HC1.out w' hw'); obtain ⟨d0, d1, d2, d3, d4, d5, d6, d7, d8⟩ := HdAt.of (HC2.out w' hw'); go_simp; try with_reducible rfl)
  try simp only [Act.put, List.setIfInBounds_toArray, List.set_cons_zero, List.set_cons_succ]
  refine reg_take (v := ?_) 10 (some 67) rfl rfl (by kernel_rfl) (fun _ _ _ h => h) (by kernel_rfl) (hS2) ?_ ?_
  rotate_left
  · (intro w' hw'; obtain ⟨c0, c1, c2, c3, c4, c5, c6, c7, c8⟩ := HdAt.of (HC1.out w' hw'); obtain ⟨d0, d1, d2, d3, d4, d5, d6, d7, d8⟩ := HdAt.of (HC2.out w' hw'); go_simp; try with_reducible rfl)
  try simp only [Act.put, List.setIfInBounds_toArray, List.set_cons_zero, List.set_cons_succ]
  refine reg_take (v := ?_) 11 (some 68) rfl rfl (by kernel_rfl) (fun _ _ _ h => h) (by kernel_rfl) (hS2) ?_ ?_
  rotate_left
  · (intro w' hw'; obtain ⟨c0, c1, c2, c3, c4, c5, c6, c7, c8⟩ := HdAt.of (HC1.out w' hw'); obtain ⟨d0, d1, d2, d3, d4, d5, d6, d7, d8⟩ := HdAt.of (HC2.out w' hw'); go_simp; try with_reducible rfl)
  try simp only [Act.put, List.setIfInBounds_toArray, List.set_cons_zero, List.set_cons_succ]
  refine reg_take (v := ?_) 12 (some 69) rfl rfl (by kernel_rfl) (fun _ _ _ h => h) (by kernel_rfl) (hS2) ?_ ?_
  rotate_left
  · (intro w' hw'; obtain ⟨c0, c1, c2, c3, c4, c5, c6, c7, c8⟩ := HdAt.of (HC1.out w' hw'); obtain ⟨d0, d1, d2, d3, d4, d5, d6, d7, d8⟩ := HdAt.of (HC2.out w' hw'); go_simp; try with_reducible rfl)
  try simp only [Act.put, List.setIfInBounds_toArray, List.set_cons_zero, List.set_cons_succ]
  refine reg_take (v := ?_) 13 (some 70) rfl rfl (by kernel_rfl) (fun _ _ _ h => h) (by kernel_rfl) (hS2) ?_ ?_
  rotate_left
  · (intro w' hw'; obtain ⟨c0, c1, c2, c3, c4, c5, c6, c7, c8⟩ := HdAt.of (HC1.out w' hw'); obtain ⟨d0, d1, d2, d3, d4, d5, d6, d7, d8⟩ := HdAt.of (HC2.out w' hw'); go_simp; try with_reducible rfl)
  try simp only [Act.put, List.setIfInBounds_toArray, List.set_cons_zero, List.set_cons_succ]
  refine reg_take (v := ?_) 14 (some 71) rfl rfl (by kernel_rfl) (fun _ _ _ h => h) (by kernel_rfl) (hS2) ?_ ?_
  rotate_left
  · (intro w' hw'; obtain ⟨c0, c1, c2, c3, c4, c5, c6, c7, c8⟩ := HdAt.of (HC1.out w' hw'); obtain ⟨d0, d1, d2, d3, d4, d5, d6, d7, d8⟩ := HdAt.of (HC2.out w' hw'); go_simp; try with_reducible rfl)
  try simp only [Act.put, List.setIfInBounds_toArray, List.set_cons_zero, List.set_cons_succ]
  refine reg_take (v := ?_) 15 (some 72) rfl rfl (by kernel_rfl) (fun _ _ _ h => h) (by kernel_rfl) (hS2) ?_ ?_
  rotate_left
  · (intro w' hw'; obtain ⟨c0, c1, c2, c3, c4, c5, c6, c7, c8⟩ := HdAt.of (HC1.out w' hw'); obtain ⟨d0, d1, d2, d3, d4, d5, d6, d7, d8⟩ := HdAt.of (HC2.out w' hw'); go_simp; try with_reducible rfl)
  try simp only [Act.put, List.setIfInBounds_toArray, List.set_cons_zero, List.set_cons_succ]
  refine reg_take (v := ?_) 16 (some 73) rfl rfl (by kernel_rfl) (fun _ _ _ h => h) (by kernel_rfl) (hS2) ?_ ?_
  rotate_left
  · (intro w' hw'; obtain ⟨c0, c1, c2, c3, c4, c5, c6, c7, c8⟩ := HdAt.of (HC1.out w' hw'); obtain ⟨d0, d1, d2, d3, d4, d5, d6, d7, d8⟩ := HdAt.of (HC2.out w' hw'); go_simp; try with_reducible rfl)
  try simp only [Act.put, List.setIfInBounds_toArray, List.set_cons_zero, List.set_cons_succ]
  refine reg_take (v := ?_) 17 (some 74) rfl rfl (by kernel_rfl) (fun _ _ _ h => h) (by kernel_rfl) (hS2) ?_ ?_
  rotate_left
  · (intro w' hw'; obtain ⟨c0, c1, c2, c3, c4, c5, c6, c7, c8⟩ := HdAt.of (HC1.out w' hw'); obtain ⟨d0, d1, d2, d3, d4, d5, d6, d7, d8⟩ := HdAt.of (HC2.out w' hw'); go_simp; try with_reducible rfl)
  try simp only [Act.put, List.setIfInBounds_toArray, List.set_cons_zero, List.set_cons_succ]
  refine reg_take (v := ?_) 18 (some 75) rfl rfl (by kernel_rfl) (fun _ _ _ h => h) (by kernel_rfl) (hS2) ?_ ?_
  rotate_left
  · (intro w' hw'; have hr := HY4.out w' hw'; go_simp; try with_reducible rfl)
  try simp only [Act.put, List.setIfInBounds_toArray, List.set_cons_zero, List.set_cons_succ]
  refine reg_take (v := ?_) 19 (some 76) rfl rfl (by kernel_rfl) (fun _ _ _ h => h) (by kernel_rfl) (hS2) ?_ ?_
  rotate_left
  · (intro w' hw'; obtain ⟨c0, c1, c2, c3, c4, c5, c6, c7, c8⟩ := HdAt.of (HC1.out w' hw'); obtain ⟨d0, d1, d2, d3, d4, d5, d6, d7, d8⟩ := HdAt.of (HC2.out w' hw'); go_simp; try with_reducible rfl)
  try simp only [Act.put, List.setIfInBounds_toArray, List.set_cons_zero, List.set_cons_succ]
  refine reg_take (v := ?_) 20 (some 77) rfl rfl (by kernel_rfl) (fun _ _ _ h => h) (by kernel_rfl) (hS2) ?_ ?_
  rotate_left
  · (intro w' hw'; have hr := HY5.out w' hw'; go_simp; try with_reducible rfl)
  try simp only [Act.put, List.setIfInBounds_toArray, List.set_cons_zero, List.set_cons_succ]
  refine reg_take (v := ?_) 21 (some 78) rfl rfl (by kernel_rfl) (fun _ _ _ h => h) (by kernel_rfl) (hS2) ?_ ?_
  rotate_left
  · (intro w' hw'; obtain ⟨c0, c1, c2, c3, c4, c5, c6, c7, c8⟩ := HdAt.of (HC1.out w' hw'); obtain ⟨d0, d1, d2, d3, d4, d5, d6, d7, d8⟩ := HdAt.of (HC2.out w' hw'); go_simp; try with_reducible rfl)
  try simp only [Act.put, List.setIfInBounds_toArray, List.set_cons_zero, List.set_cons_succ]
  refine reg_take (v := ?_) 22 (some 79) rfl rfl (by kernel_rfl) (fun _ _ _ h => h) (by kernel_rfl) (hS2) ?_ ?_
  rotate_left
  · (intro w' hw'; obtain ⟨c0, c1, c2, c3, c4, c5, c6, c7, c8⟩ := HdAt.of (HC1.out w' hw'); obtain ⟨d0, d1, d2, d3, d4, d5, d6, d7, d8⟩ := HdAt.of (HC2.out w' hw'); go_simp; try with_reducible rfl)
  try simp only [Act.put, List.setIfInBounds_toArray, List.set_cons_zero, List.set_cons_succ]
  refine reg_take (v := ?_) 23 (some 80) rfl rfl (by kernel_rfl) (fun _ _ _ h => h) (by kernel_rfl) (hS2) ?_ ?_
  rotate_left
  · (intro w' hw'; obtain ⟨c0, c1, c2, c3, c4, c5, c6, c7, c8⟩ := HdAt.of (HC1.out w' hw'); obtain ⟨d0, d1, d2, d3, d4, d5, d6, d7, d8⟩ := HdAt.of (HC2.out w' hw'); go_simp; try with_reducible rfl)
  try simp only [Act.put, List.setIfInBounds_toArray, List.set_cons_zero, List.set_cons_succ]
  refine reg_take (v := ?_) 24 (some 81) rfl rfl (by kernel_rfl) (fun _ _ _ h => h) (by kernel_rfl) (hS2) ?_ ?_
  rotate_left
  · (intro w' hw'; obtain ⟨c0, c1, c2, c3, c4, c5, c6, c7, c8⟩ := HdAt.of (HC1.out w' hw'); obtain ⟨d0, d1, d2, d3, d4, d5, d6, d7, d8⟩ := HdAt.of (HC2.out w' hw'); go_simp; try with_reducible rfl)
  try simp only [Act.put, List.setIfInBounds_toArray, List.set_cons_zero, List.set_cons_succ]
  refine reg_take (v := ?_) 25 (some 82) rfl rfl (by kernel_rfl) (fun _ _ _ h => h) (by kernel_rfl) (hS2) ?_ ?_
  rotate_left
  · (intro w' hw'; obtain ⟨c0, c1, c2, c3, c4, c5, c6, c7, c8⟩ := HdAt.of (HC1.out w' hw'); obtain ⟨d0, d1, d2, d3, d4, d5, d6, d7, d8⟩ := HdAt.of (HC2.out w' hw'); go_simp; try with_reducible rfl)
  try simp only [Act.put, List.setIfInBounds_toArray, List.set_cons_zero, List.set_cons_succ]
  refine reg_take (v := ?_) 26 (some 83) rfl rfl (by kernel_rfl) (fun _ _ _ h => h) (by kernel_rfl) (hS2) ?_ ?_
  rotate_left
  · (intro w' hw'; obtain ⟨c0, c1, c2, c3, c4, c5, c6, c7, c8⟩ := HdAt.of (HC1.out w' hw'); obtain ⟨d0, d1, d2, d3, d4, d5, d6, d7, d8⟩ := HdAt.of (HC2.out w' hw'); go_simp; try with_reducible rfl)
  try simp only [Act.put, List.setIfInBounds_toArray, List.set_cons_zero, List.set_cons_succ]
  refine reg_take (v := ?_) 27 (some 84) rfl rfl (by kernel_rfl) (fun _ _ _ h => h) (by kernel_rfl) (hS2) ?_ ?_
  rotate_left
  · (intro w' hw'; obtain ⟨c0, c1, c2, c3, c4, c5, c6, c7, c8⟩ := HdAt.of (HC1.out w' hw'); obtain ⟨d0, d1, d2, d3, d4, d5, d6, d7, d8⟩ := HdAt.of (HC2.out w' hw'); go_simp; try with_reducible rfl)
  try simp only [Act.put, List.setIfInBounds_toArray, List.set_cons_zero, List.set_cons_succ]
  refine reg_take (v := ?_) 28 (some 85) rfl rfl (by kernel_rfl) (fun _ _ _ h => h) (by kernel_rfl) (hS2) ?_ ?_
  rotate_left
  · (intro w' hw'; obtain ⟨c0, c1, c2, c3, c4, c5, c6, c7, c8⟩ := HdAt.of (HC1.out w' hw'); obtain ⟨d0, d1, d2, d3, d4, d5, d6, d7, d8⟩ := HdAt.of (HC2.out w' hw'); go_simp; try with_reducible rfl)
  try simp only [Act.put, List.setIfInBounds_toArray, List.set_cons_zero, List.set_cons_succ]
  refine reg_take (v := ?_) 29 (some 86) rfl rfl (by kernel_rfl) (fun _ _ _ h => h) (by kernel_rfl) (hS2) ?_ ?_
  rotate_left
  · (intro w' hw'; obtain ⟨c0, c1, c2, c3, c4, c5, c6, c7, c8⟩ := HdAt.of (HC1.out w' hw'); obtain ⟨d0, d1, d2, d3, d4, d5, d6, d7, d8⟩ := HdAt.of (HC2.out w' hw'); go_simp; try with_reducible rfl)
  try simp only [Act.put, List.setIfInBounds_toArray, List.set_cons_zero, List.set_cons_succ]
  refine reg_take (v := ?_) 30 (some 87) rfl rfl (by kernel_rfl) (fun _ _ _ h => h) (by kernel_rfl) (hS2) ?_ ?_
  rotate_left
  · (intro w' hw'; have hr := HY6.out w' hw'; go_simp; try with_reducible rfl)
  try simp only [Act.put, List.setIfInBounds_toArray, List.set_cons_zero, List.set_cons_succ]
  refine reg_take (v := ?_) 31 (some 88) rfl rfl (by kernel_rfl) (fun _ _ _ h => h) (by kernel_rfl) (hS2) ?_ ?_
  rotate_left
  · (intro w' hw'; obtain ⟨c0, c1, c2, c3, c4, c5, c6, c7, c8⟩ := HdAt.of (HC1.out w' hw'); obtain ⟨d0, d1, d2, d3, d4, d5, d6, d7, d8⟩ := HdAt.of (HC2.out w' hw'); go_simp; try with_reducible rfl)
  try simp only [Act.put, List.setIfInBounds_toArray, List.set_cons_zero, List.set_cons_succ]
  refine reg_take (v := ?_) 32 (some 89) rfl rfl (by kernel_rfl) (fun _ _ _ h => h) (by kernel_rfl) (hS2) ?_ ?_
  rotate_left
  · (intro w' hw'; have hr := HY7.out w' hw'; go_simp; try with_reducible rfl)
  try simp only [Act.put, List.setIfInBounds_toArray, List.set_cons_zero, List.set_cons_succ]
  refine reg_take (v := ?_) 33 (some 90) rfl rfl (by kernel_rfl) (fun _ _ _ h => h) (by kernel_rfl) (hS2) ?_ ?_
  rotate_left
  · (intro w' hw'; obtain ⟨c0, c1, c2, c3, c4, c5, c6, c7, c8⟩ := HdAt.of (HC1.out w' hw'); obtain ⟨d0, d1, d2, d3, d4, d5, d6, d7, d8⟩ := HdAt.of (HC2.out w' hw'); go_simp; try with_reducible rfl)
  try simp only [Act.put, List.setIfInBounds_toArray, List.set_cons_zero, List.set_cons_succ]
  refine reg_take (v := ?_) 34 (some 91) rfl rfl (by kernel_rfl) (fun _ _ _ h => h) (by kernel_rfl) (hS2) ?_ ?_
  rotate_left
  · (intro w' hw'; obtain ⟨c0, c1, c2, c3, c4, c5, c6, c7, c8⟩ := HdAt.of (HC1.out w' hw'); obtain ⟨d0, d1, d2, d3, d4, d5, d6, d7, d8⟩ := HdAt.of (HC2.out w' hw'); go_simp; try with_reducible rfl)
  try simp only [Act.put, List.setIfInBounds_toArray, List.set_cons_zero, List.set_cons_succ]
  refine reg_take (v := ?_) 35 (some 92) rfl rfl (by kernel_rfl) (fun _ _ _ h => h) (by kernel_rfl) (hS2) ?_ ?_
  rotate_left
  · (intro w' hw'; obtain ⟨c0, c1, c2, c3, c4, c5, c6, c7, c8⟩ := HdAt.of (HC1.out w' hw'); obtain ⟨d0, d1, d2, d3, d4, d5, d6, d7, d8⟩ := HdAt.of (HC2.out w' hw'); go_simp; try with_reducible rfl)
  try simp only [Act.put, List.setIfInBounds_toArray, List.set_cons_zero, List.set_cons_succ]
  refine reg_take (v := ?_) 36 (some 93) rfl rfl (by kernel_rfl) (fun _ _ _ h => h) (by kernel_rfl) (hS2) ?_ ?_
  rotate_left
  · (intro w' hw'; obtain ⟨c0, c1, c2, c3, c4, c5, c6, c7, c8⟩ := HdAt.of (HC1.out w' hw'); obtain ⟨d0, d1, d2, d3, d4, d5, d6, d7, d8⟩ := HdAt.of (HC2.out w' hw'); go_simp; try with_reducible rfl)
  try simp only [Act.put, List.setIfInBounds_toArray, List.set_cons_zero, List.set_cons_succ]
  refine reg_take (v := ?_) 37 (some 94) rfl rfl (by kernel_rfl) (fun _ _ _ h => h) (by kernel_rfl) (hS2) ?_ ?_
  rotate_left
  · (intro w' hw'; obtain ⟨c0, c1, c2, c3, c4, c5, c6, c7, c8⟩ := HdAt.of (HC1.out w' hw'); obtain ⟨d0, d1, d2, d3, d4, d5, d6, d7, d8⟩ := HdAt.of (HC2.out w' hw'); go_simp; try with_reducible rfl)
  try simp only [Act.put, List.setIfInBounds_toArray, List.set_cons_zero, List.set_cons_succ]
  refine reg_take (v := ?_) 38 (some 95) rfl rfl (by kernel_rfl) (fun _ _ _ h => h) (by kernel_rfl) (hS2) ?_ ?_
  rotate_left
  · (intro w' hw'; obtain ⟨c0, c1, c2, c3, c4, c5, c6, c7, c8⟩ := HdAt.of (HC1.out w' hw'); obtain ⟨d0, d1, d2, d3, d4, d5, d6, d7, d8⟩ := HdAt.of (HC2.out w' hw'); go_simp; try with_reducible rfl)
  try simp only [Act.put, List.setIfInBounds_toArray, List.set_cons_zero, List.set_cons_succ]
  refine reg_take (v := ?_) 39 (some 96) rfl rfl (by kernel_rfl) (fun _ _ _ h => h) (by kernel_rfl) (hS2) ?_ ?_
  rotate_left
  · (intro w' hw'; obtain ⟨c0, c1, c2, c3, c4, c5, c6, c7, c8⟩ := HdAt.of (HC1.out w' hw'); obtain ⟨d0, d1, d2, d3, d4, d5, d6, d7, d8⟩ := HdAt.of (HC2.out w' hw'); go_simp; try with_reducible rfl)
  try simp only [Act.put, List.setIfInBounds_toArray, List.set_cons_zero, List.set_cons_succ]
  refine reg_take (v := ?_) 40 (some 97) rfl rfl (by kernel_rfl) (fun _ _ _ h => h) (by kernel_rfl) (hS2) ?_ ?_
  rotate_left
  · (intro w' hw'; obtain ⟨c0, c1, c2, c3, c4, c5, c6, c7, c8⟩ := HdAt.of (HC1.out w' hw'); obtain ⟨d0, d1, d2, d3, d4, d5, d6, d7, d8⟩ := HdAt.of (HC2.out w' hw'); go_simp; try with_reducible rfl)
  try simp only [Act.put, List.setIfInBounds_toArray, List.set_cons_zero, List.set_cons_succ]
  refine reg_one 41 rfl (by kernel_rfl) (by kernel_rfl) ?_
  go_simp
  refine ((HL _).out).mono ?_
  rintro e u3 ⟨rfl, hs3⟩
  have hS3 := (hS2).trans hs3
  skip
  refine ⟨hS3, ?_⟩
  try simp only [Act.put, List.setIfInBounds_toArray, List.set_cons_zero, List.set_cons_succ]
  refine reg_take (v := ?_) 42 (some 99) rfl rfl (by kernel_rfl) (fun _ _ _ h => h) (by kernel_rfl) (hS3) ?_ ?_
  rotate_left
  · (intro w' hw'; obtain ⟨c0, c1, c2, c3, c4, c5, c6, c7, c8⟩ := HdAt.of (HC1.out w' hw'); obtain ⟨d0, d1, d2, d3, d4, d5, d6, d7, d8⟩ := HdAt.of (HC2.out w' hw'); go_simp; try with_reducible rfl)
  try simp only [Act.put, List.setIfInBounds_toArray, List.set_cons_zero, List.set_cons_succ]
  refine reg_take (v := ?_) 43 (some 4) rfl rfl (by kernel_rfl) (fun _ _ _ h => h) (by kernel_rfl) (hS3) ?_ ?_
  rotate_left
  · (intro w' hw'; obtain ⟨c0, c1, c2, c3, c4, c5, c6, c7, c8⟩ := HdAt.of (HC1.out w' hw'); obtain ⟨d0, d1, d2, d3, d4, d5, d6, d7, d8⟩ := HdAt.of (HC2.out w' hw'); go_simp; try with_reducible rfl)
  try simp only [Act.put, List.setIfInBounds_toArray, List.set_cons_zero, List.set_cons_succ]
  refine reg_done (by kernel_rfl) ?_
  go_wp2_with fail
  go_ret
  exact ⟨rfl, HSw.out.trans hS3⟩
end Go.Proofs.Ytldiagjnpkpepaa
