/- Layer 5: the walk of PortsCuts. No condition beyond what each names. -/
import Derived.Test.YtcemdajkddidnaaPoL
namespace Go.Proofs.Ytcemdajkddidnaa
open Go.RowKit
set_option linter.unusedVariables false

theorem Bs.front5 {w : World} {ao : Option Addr} {m cap : Nat} {l : List UInt8} (h : Bs w (.slice ao m cap) l) (k : Nat) (hk : k ≤ l.length) : Bs w (.slice ao k cap) (l.take k) := by
  obtain ⟨ao', cap', he, h1, h2, h3, h4⟩ := h
  cases he
  have hl : (l.take k).length = k := by simp; omega
  refine ⟨ao, cap, by rw [hl], by omega, h2, h3, fun ad had => ⟨fun hne => (h4 ad had).1 (fun e => hne (by rw [e]; simp)), fun j u hu => (h4 ad had).2 j u ?_⟩⟩
  rw [List.getElem?_take] at hu
  split at hu
  · exact hu
  · cases hu

theorem pE_short6 (l : List UInt8) (h : l.length < 20) : pE 6 l = 3 := by have := pE_cases 6 l; omega
theorem pE_short17 (l : List UInt8) (h : l.length < 8) : pE 17 l = 3 := by have := pE_cases 17 l; omega
theorem of_short (l : List UInt8) (h : parseE l = 3) : ofE l = 3 ∧ ofG l = zeroG := by
  have e : ofE l = 3 := by unfold ofE; rw [h]; rfl
  exact ⟨e, by rw [ofG, if_neg (by rw [e]; decide)]⟩

/-- a packet of TCP, cut -/
theorem tcp_cut (f : Fl) (hg : goodF f) (hr : (0 ≤ f.src ∧ f.src ≤ 4294967295) ∧ (0 ≤ f.dst ∧ f.dst ≤ 4294967295)) (k : Nat) (hk : k < 20) : parseE ((tcpB f 0 []).take (20 + k)) = 3 := by
  have hg6 : goodF { f with proto := 6 } := ⟨.inl rfl, hg.2⟩
  have hul : (tcpL f 0 []).length = 20 := by simp [tcpL, portsL_length, endsF]
  have hlay : (layB (tcpL f 0 []) 16 (wdB (sumP { f with proto := 6 } (tcpL f 0 []) : Nat))).length = 20 := by rw [layB_length _ _ _ (by simp [wdB]; omega), hul]
  have e : tcpB f 0 [] = buildB (headF { f with proto := 6 }) (layB (tcpL f 0 []) 16 (wdB (sumP { f with proto := 6 } (tcpL f 0 []) : Nat))) := if_pos hg6
  have hs : sizeH (headF { f with proto := 6 }) (layB (tcpL f 0 []) 16 (wdB (sumP { f with proto := 6 } (tcpL f 0 []) : Nat))) ≤ 9000 := by unfold sizeH; rw [hlay]; simp [headF]
  have hlen : (tcpB f 0 []).length = 40 := by have := (of_tcp f hg.2 hr 0 [] (by simp)).1; simpa using this
  rw [e] at hlen ⊢
  exact parse_cut _ (headF_good _ hg6) _ hs _ (by omega)

theorem cuts_bad (f : Fl) (n : Int) (w : World) (hg : ¬ goodF f) :
    Calls Try.prog 5 #[flV f, .int .u64 n] w fun e w' => e = .returned (.bool true) ∧ Same w w' := by
  have HG := fun w => Lib.hid (poGood_any f w)
  rw [show decide (goodF f) = false from decide_eq_false hg] at HG
  clear hg
  obtain ⟨q0, q1, q2, q3, q4⟩ := f
  have H0 := Lib.hid (Same.alloc w (flO 31 ⟨q0, q1, q2, q3, q4⟩))
  obtain ⟨c0, c1, c2, c3, c4⟩ := FlAt.of (heap_alloc_new w (flO 31 ⟨q0, q1, q2, q3, q4⟩))
  go_enter Try.func5, Try.ntmps5
  go_wp2_with fail
  refine (HG _).out.mono ?_
  rintro e w1 ⟨rfl, hs1⟩
  have HS1 := Lib.hid (H0.out.trans hs1)
  clear hs1
  go_wp2_with fail
  refine (po_lives _).mono ?_
  rintro e w2 ⟨rfl, hs2⟩
  have HS2 := Lib.hid (HS1.out.trans hs2)
  clear hs2
  go_wp2_with fail
  go_ret
  exact ⟨rfl, HS2.out⟩

set_option maxRecDepth 100000 in
set_option maxHeartbeats 1000000 in
theorem cuts_walk (f : Fl) (n : Int) (hn : 0 ≤ n ∧ n ≤ 18446744073709551615) (hr : (0 ≤ f.src ∧ f.src ≤ 4294967295) ∧ (0 ≤ f.dst ∧ f.dst ≤ 4294967295)) (w : World) (hg : goodF f) :
    Calls Try.prog 5 #[flV f, .int .u64 n] w fun e w' => e = .returned (.bool true) ∧ Same w w' := by
  have HG := fun w => Lib.hid (poGood_any f w)
  rw [show decide (goodF f) = true from decide_eq_true hg] at HG
  have HT := fun w => Lib.hid (poTcp_any f hr 0 (.slice none 0 0) [] w (Bs.nil w) (by simp))
  obtain ⟨h1, -, -⟩ := of_tcp f hg.2 hr 0 [] (by simp)
  have HL := fun w => Lib.hid (po_lives w)
  obtain ⟨k, hk⟩ : ∃ k : Nat, n % 20 = (k : Int) := ⟨(n % 20).toNat, by omega⟩
  obtain ⟨j, hj⟩ : ∃ j : Nat, n % 8 = (j : Int) := ⟨(n % 8).toNat, by omega⟩
  have hk2 : (k : Int) < 20 := by omega
  have hj2 : (j : Int) < 8 := by omega
  have HK : Hid (k < 20) := by show _ < _; omega
  have HJ : Hid (j < 8) := by show _ < _; omega
  have hcut : Hid (∀ k, k < 20 → parseE ((tcpB f 0 []).take (20 + k)) = 3) := fun k hk => tcp_cut f hg hr k hk
  generalize tcpB f 0 [] = L at *
  have HL1 : Hid (L.length = 40) := h1
  clear h1 hg hr
  obtain ⟨q0, q1, q2, q3, q4⟩ := f
  have H0 := Lib.hid (Same.alloc w (flO 31 ⟨q0, q1, q2, q3, q4⟩))
  have HX := Lib.hid (fl_box 31 ⟨q0, q1, q2, q3, q4⟩ w)
  obtain ⟨c0, c1, c2, c3, c4⟩ := FlAt.of (heap_alloc_new w (flO 31 ⟨q0, q1, q2, q3, q4⟩))
  go_enter Try.func5, Try.ntmps5
  go_wp2_with fail
  refine (HG _).out.mono ?_
  rintro e w1 ⟨rfl, hs1⟩
  have HS1 := Lib.hid hs1
  clear hs1 c0 c1 c2 c3 c4
  obtain ⟨c0, c1, c2, c3, c4⟩ := HX.out w1 HS1.out
  go_wp2_with fail
  refine (HT _).out.mono ?_
  rintro e w2 ⟨v, rfl, ho, hs2⟩
  have HS2 := Lib.hid (HS1.out.trans hs2)
  obtain ⟨g, cap, hv, hcap, -⟩ := ho.forms (by rw [HL1.out]; decide)
  have HB := Lib.hid ho.bs
  rw [HL1.out] at hv hcap
  subst hv
  have i1 : (40 : Int) ≤ cap := by omega
  clear ho hs2 hcap
  go_wp2_with fail
  have HCb : Hid (∀ w', Same w2 w' → ∀ r, r ≤ 20 → Bs w' (.slice (some ⟨g, 20, none⟩) r (cap - 20)) ((L.drop 20).take r)) := fun w' hw r hr => by
    have := ((HB.out.same hw).cut 20 r (by rw [HL1.out]; omega)).1
    rw [if_neg (by omega)] at this
    exact this
  have HFr : Hid (∀ w', Same w2 w' → Bs w' (.slice (some ⟨g, 0, none⟩) (20 + k) cap) (L.take (20 + k))) := fun w' hw => (HB.out.same hw).front5 (20 + k) (by have := HK.out; rw [HL1.out]; omega)
  have HP6 := fun w hb => Lib.hid (poParse_any 6 (.slice (some ⟨g, 20, none⟩) k (cap - 20)) ((L.drop 20).take k) w hb (by simp; omega))
  have HP7 := fun w hb => Lib.hid (poParse_any 17 (.slice (some ⟨g, 20, none⟩) j (cap - 20)) ((L.drop 20).take j) w hb (by simp; omega))
  rw [ptV_bad (pE_short6 _ (by rw [List.length_take]; have := HK.out; omega)) (by decide)] at HP6
  rw [ptV_bad (pE_short17 _ (by rw [List.length_take]; have := HJ.out; omega)) (by decide)] at HP7
  have HOf := fun w hb => Lib.hid (poOf_any (.slice (some ⟨g, 0, none⟩) (20 + k) cap) (L.take (20 + k)) w hb)
  have ho3 := of_short (L.take (20 + k)) (hcut.out k HK.out)
  rw [show ofV (L.take (20 + k)) = .tuple #[sgV (ofG (L.take (20 + k))), .int .i64 (ofE (L.take (20 + k)))] from rfl, ho3.1, ho3.2] at HOf
  unfold zeroG zeroF at HOf
  have HK2 := Lib.hid (show k ≤ 20 by omega)
  have HJ2 := Lib.hid (show j ≤ 20 by omega)
  clear ho3
  refine (HP6 _ (HCb.out _ (Same.refl _) k HK2.out)).out.mono ?_
  rintro e w3 ⟨rfl, hs3⟩
  have HS3 := Lib.hid hs3
  clear hs3
  go_wp2_with fail
  refine (HP7 _ (HCb.out _ HS3.out j HJ2.out)).out.mono ?_
  rintro e w4 ⟨rfl, hs4⟩
  have HS4 := Lib.hid (HS3.out.trans hs4)
  clear hs4
  go_wp2_with fail
  refine (HOf _ (HFr.out _ HS4.out)).out.mono ?_
  rintro e w5 ⟨rfl, hs5⟩
  have HS5 := Lib.hid (HS4.out.trans hs5)
  clear hs5
  have HA5 := Lib.hid (Same.alloc w5 (sgO 33 ⟨⟨0, 0, 0, 0, 0⟩, 0, 0⟩))
  go_wp2_with fail
  refine (HL _).out.mono ?_
  rintro e w6 ⟨rfl, hs6⟩
  have HS6 := Lib.hid ((HS5.out.trans HA5.out).trans hs6)
  clear hs6
  go_wp2_with fail
  go_ret
  exact ⟨rfl, H0.out.trans (HS2.out.trans HS6.out)⟩
end Go.Proofs.Ytcemdajkddidnaa
