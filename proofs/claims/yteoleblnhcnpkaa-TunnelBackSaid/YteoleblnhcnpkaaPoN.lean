/- Layer 5: what a packet that was made tells. No condition beyond what each names. -/
import Derived.Test.YteoleblnhcnpkaaPoU
namespace Go.Proofs.Yteoleblnhcnpkaa
open Go.RowKit
set_option linter.unusedVariables false

theorem udpQ (f : Fl) (p : List UInt8) (s : Int) : layB (udpL f p) 6 (wdB s) = [byteAt f.sport 1, byteAt f.sport 0, byteAt f.dport 1, byteAt f.dport 0, byteAt (8 + (p.length : Int)) 1, byteAt (8 + (p.length : Int)) 0, byteAt s 1, byteAt s 0] ++ p := by
  simp [layB, udpL, portsL, endsF, wdB]
theorem tcpQ (f : Fl) (flags : Int) (p : List UInt8) (s : Int) : layB (tcpL f flags p) 16 (wdB s) =
    [byteAt f.sport 1, byteAt f.sport 0, byteAt f.dport 1, byteAt f.dport 0, 0, 0, 0, 0, 0, 0, 0, 0, 80, byteAt flags 0, 255, 255, byteAt s 1, byteAt s 0, 0, 0] ++ p := by
  simp [layB, tcpL, portsL, endsF, wdB]

theorem headF_good (f : Fl) (h : goodF f) : goodH (headF f) := by
  obtain ⟨h1, _, _⟩ := h
  unfold goodH headF
  simp
  omega

theorem ports_udp (f : Fl) (h : portOk f.sport ∧ portOk f.dport) (p : List UInt8) (s : Int) (hl : 8 + p.length ≤ 65535) :
    pE 17 (layB (udpL f p) 6 (wdB s)) = 0 ∧ pS 17 (layB (udpL f p) 6 (wdB s)) = f.sport ∧ pD 17 (layB (udpL f p) 6 (wdB s)) = f.dport ∧ pG 17 (layB (udpL f p) 6 (wdB s)) = 0 := by
  rw [udpQ]
  obtain ⟨⟨h2, h3⟩, h4, h5⟩ := h
  have e0 : ∀ t : List UInt8, (fld ([byteAt f.sport 1, byteAt f.sport 0, byteAt f.dport 1, byteAt f.dport 0, byteAt (8 + (p.length : Int)) 1, byteAt (8 + (p.length : Int)) 0, byteAt s 1, byteAt s 0] ++ t) 0 2 : Int) = f.sport := by
    intro t
    simp only [fld, List.drop_zero, List.cons_append, List.nil_append, List.take_succ_cons, List.take_zero, numOf, List.foldl, byteAt_lt]
    omega
  have e2 : ∀ t : List UInt8, (fld ([byteAt f.sport 1, byteAt f.sport 0, byteAt f.dport 1, byteAt f.dport 0, byteAt (8 + (p.length : Int)) 1, byteAt (8 + (p.length : Int)) 0, byteAt s 1, byteAt s 0] ++ t) 2 2 : Int) = f.dport := by
    intro t
    simp only [fld, List.drop_zero, List.drop_succ_cons, List.cons_append, List.nil_append, List.take_succ_cons, List.take_zero, numOf, List.foldl, byteAt_lt]
    omega
  have e4 : ∀ t : List UInt8, fld ([byteAt f.sport 1, byteAt f.sport 0, byteAt f.dport 1, byteAt f.dport 0, byteAt (8 + (p.length : Int)) 1, byteAt (8 + (p.length : Int)) 0, byteAt s 1, byteAt s 0] ++ t) 4 2 = 8 + p.length := by
    intro t
    simp only [fld, List.drop_zero, List.drop_succ_cons, List.cons_append, List.nil_append, List.take_succ_cons, List.take_zero, numOf, List.foldl, byteAt_lt]
    omega
  have hE := pE_cases 17 ([byteAt f.sport 1, byteAt f.sport 0, byteAt f.dport 1, byteAt f.dport 0, byteAt (8 + (p.length : Int)) 1, byteAt (8 + (p.length : Int)) 0, byteAt s 1, byteAt s 0] ++ p)
  rw [e4 p] at hE
  have hlen : ([byteAt f.sport 1, byteAt f.sport 0, byteAt f.dport 1, byteAt f.dport 0, byteAt (8 + (p.length : Int)) 1, byteAt (8 + (p.length : Int)) 0, byteAt s 1, byteAt s 0] ++ p).length = 8 + p.length := by simp; omega
  rw [hlen] at hE
  have h0 : pE 17 ([byteAt f.sport 1, byteAt f.sport 0, byteAt f.dport 1, byteAt f.dport 0, byteAt (8 + (p.length : Int)) 1, byteAt (8 + (p.length : Int)) 0, byteAt s 1, byteAt s 0] ++ p) = 0 := by omega
  refine ⟨h0, ?_, ?_, ?_⟩
  · rw [pS, if_pos h0, e0]
  · rw [pD, if_pos h0, e2]
  · rw [pG, if_neg (by simp)]

theorem ports_tcp (f : Fl) (h : portOk f.sport ∧ portOk f.dport) (flags : Int) (p : List UInt8) (s : Int) :
    pE 6 (layB (tcpL f flags p) 16 (wdB s)) = 0 ∧ pS 6 (layB (tcpL f flags p) 16 (wdB s)) = f.sport ∧ pD 6 (layB (tcpL f flags p) 16 (wdB s)) = f.dport ∧ pG 6 (layB (tcpL f flags p) 16 (wdB s)) = flags % 256 := by
  rw [tcpQ]
  obtain ⟨⟨h2, h3⟩, h4, h5⟩ := h
  generalize hq : ([byteAt f.sport 1, byteAt f.sport 0, byteAt f.dport 1, byteAt f.dport 0, 0, 0, 0, 0, 0, 0, 0, 0, 80, byteAt flags 0, 255, 255, byteAt s 1, byteAt s 0, 0, 0] ++ p) = q
  have hlen : q.length = 20 + p.length := by rw [← hq]; simp; omega
  have e0 : (fld q 0 2 : Int) = f.sport := by
    rw [← hq]
    simp only [fld, List.drop_zero, List.cons_append, List.nil_append, List.take_succ_cons, List.take_zero, numOf, List.foldl, byteAt_lt]
    omega
  have e2 : (fld q 2 2 : Int) = f.dport := by
    rw [← hq]
    simp only [fld, List.drop_zero, List.drop_succ_cons, List.cons_append, List.nil_append, List.take_succ_cons, List.take_zero, numOf, List.foldl, byteAt_lt]
    omega
  have e12 : fld q 12 1 = 80 := by
    rw [← hq]
    simp only [fld, List.drop_zero, List.drop_succ_cons, List.cons_append, List.nil_append, List.take_succ_cons, List.take_zero, numOf, List.foldl]
    rfl
  have e13 : (fld q 13 1 : Int) = flags % 256 := by
    rw [← hq]
    simp only [fld, List.drop_zero, List.drop_succ_cons, List.cons_append, List.nil_append, List.take_succ_cons, List.take_zero, numOf, List.foldl, byteAt_lt]
    omega
  have hE := pE_cases 6 q
  rw [e12, hlen] at hE
  have h0 : pE 6 q = 0 := by omega
  refine ⟨h0, ?_, ?_, ?_⟩
  · rw [pS, if_pos h0, e0]
  · rw [pD, if_pos h0, e2]
  · rw [pG, if_pos ⟨h0, rfl⟩, e13]

/-- the packet, whatever its payload -/
theorem packet_parse (f : Fl) (hg : goodF f) (hr : (0 ≤ f.src ∧ f.src ≤ 4294967295) ∧ (0 ≤ f.dst ∧ f.dst ≤ 4294967295)) (at_ : Nat) (b : List UInt8) (hat : at_ + 2 ≤ b.length) (hl : 20 + b.length ≤ 9000) :
    (packetB f at_ b).length = 20 + b.length ∧ parseE (packetB f at_ b) = 0 ∧ parseH (packetB f at_ b) = headF f ∧ parseP (packetB f at_ b) = layB b at_ (wdB (sumP f b : Nat)) := by
  have hlay : (layB b at_ (wdB (sumP f b : Nat))).length = b.length := layB_length _ _ _ (by simpa [wdB] using hat)
  have hsz : sizeH (headF f) (layB b at_ (wdB (sumP f b : Nat))) ≤ 9000 := by unfold sizeH; rw [hlay]; simpa [headF] using hl
  have e : packetB f at_ b = buildB (headF f) (layB b at_ (wdB (sumP f b : Nat))) := if_pos hg
  have h := parse_build (headF f) (headF_good f hg) hr (layB b at_ (wdB (sumP f b : Nat))) [] hsz
  rw [List.append_nil] at h
  rw [e]
  refine ⟨?_, h⟩
  rw [buildB, if_pos ⟨headF_good f hg, hsz⟩, List.length_append, sealH_length, hlay]
  simp [headF]

theorem of_parts {l : List UInt8} {h : Hd} {q : List UInt8} (h2 : parseE l = 0) (h3 : parseH l = h) (h4 : parseP l = q) (hf : h.frag = 0) (hfl : h.flags = 0) (g1 : pE h.proto q = 0) :
    ofE l = 0 ∧ ofG l = ⟨⟨h.proto, h.src, h.dst, pS h.proto q, pD h.proto q⟩, pG h.proto q, q.length⟩ := by
  have e : ofE l = 0 := by
    unfold ofE
    rw [h3, h4, if_neg (by rw [h2]; simp), if_neg (by rw [hf, hfl]; decide), g1]
    rfl
  refine ⟨e, ?_⟩
  rw [ofG, if_pos e, flowOf, h3, h4]

theorem of_udp (f : Fl) (hg : portOk f.sport ∧ portOk f.dport) (hr : (0 ≤ f.src ∧ f.src ≤ 4294967295) ∧ (0 ≤ f.dst ∧ f.dst ≤ 4294967295)) (p : List UInt8) (hl : 28 + p.length ≤ 9000) :
    (udpB f p).length = 28 + p.length ∧ ofE (udpB f p) = 0 ∧ ofG (udpB f p) = ⟨{ f with proto := 17 }, 0, 8 + (p.length : Int)⟩ := by
  have hul : (udpL f p).length = 8 + p.length := by simp [udpL, portsL_length, endsF, wdB]; omega
  obtain ⟨h1, h2, h3, h4⟩ := packet_parse { f with proto := 17 } ⟨.inr rfl, hg⟩ hr 6 (udpL f p) (by omega) (by omega)
  obtain ⟨g1, g2, g3, g4⟩ := ports_udp f hg p (sumP { f with proto := 17 } (udpL f p) : Nat) (by omega)
  obtain ⟨k1, k2⟩ := of_parts h2 h3 h4 rfl rfl g1
  refine ⟨by unfold udpB; rw [h1, hul]; omega, k1, ?_⟩
  have e : ofG (udpB f p) = _ := k2
  rw [e]
  have hq : (layB (udpL f p) 6 (wdB (sumP { f with proto := 17 } (udpL f p) : Nat))).length = 8 + p.length := by rw [layB_length _ _ _ (by simp [wdB]; omega), hul]
  show (⟨⟨17, f.src, f.dst, pS 17 _, pD 17 _⟩, pG 17 _, _⟩ : Sg) = _
  rw [g2, g3, g4, hq]
  simp

theorem of_tcp (f : Fl) (hg : portOk f.sport ∧ portOk f.dport) (hr : (0 ≤ f.src ∧ f.src ≤ 4294967295) ∧ (0 ≤ f.dst ∧ f.dst ≤ 4294967295)) (flags : Int) (p : List UInt8) (hl : 40 + p.length ≤ 9000) :
    (tcpB f flags p).length = 40 + p.length ∧ ofE (tcpB f flags p) = 0 ∧ ofG (tcpB f flags p) = ⟨{ f with proto := 6 }, flags % 256, 20 + (p.length : Int)⟩ := by
  have hul : (tcpL f flags p).length = 20 + p.length := by simp [tcpL, portsL_length, endsF]; omega
  obtain ⟨h1, h2, h3, h4⟩ := packet_parse { f with proto := 6 } ⟨.inl rfl, hg⟩ hr 16 (tcpL f flags p) (by omega) (by omega)
  obtain ⟨g1, g2, g3, g4⟩ := ports_tcp f hg flags p (sumP { f with proto := 6 } (tcpL f flags p) : Nat)
  obtain ⟨k1, k2⟩ := of_parts h2 h3 h4 rfl rfl g1
  refine ⟨by unfold tcpB; rw [h1, hul]; omega, k1, ?_⟩
  have e : ofG (tcpB f flags p) = _ := k2
  rw [e]
  have hq : (layB (tcpL f flags p) 16 (wdB (sumP { f with proto := 6 } (tcpL f flags p) : Nat))).length = 20 + p.length := by rw [layB_length _ _ _ (by simp [wdB]; omega), hul]
  show (⟨⟨6, f.src, f.dst, pS 6 _, pD 6 _⟩, pG 6 _, _⟩ : Sg) = _
  rw [g2, g3, g4, hq]
  simp
end Go.Proofs.Yteoleblnhcnpkaa
