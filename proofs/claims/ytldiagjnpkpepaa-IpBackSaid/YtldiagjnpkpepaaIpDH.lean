/- Contracts of the developers' layer 4: the steps of Forward and Rewrite. No condition beyond what each names. -/
import Derived.Test.YtldiagjnpkpepaaIpM
namespace Go.Proofs.Ytldiagjnpkpepaa
open Go.RowKit
set_option linter.unusedVariables false

/-- update of a head, bound -/
abbrev updV (v : Value) : Value := .func (.func 89) #[v] #[]

set_option maxRecDepth 100000 in
theorem ipFstep_no (h : Hd) (ao : Option Addr) (no co : Nat) (u : Value) (w : World) (ht : h.ttl ≤ 1) :
    Calls Try.prog 55 #[hdV h (.slice ao no co), u] w fun e w' => e = .returned (.int .i64 9) ∧ Same w w' := by
  obtain ⟨tos, id, flags, frag, ttl, proto, src, dst, opts⟩ := h
  simp only at ht
  go_enter Try.func55, Try.ntmps55
  go_wp2_with fail
  go_ret
  exact ⟨rfl, Same.alloc w _⟩

set_option maxRecDepth 100000 in
theorem ipFstep_yes (h : Hd) (ao : Option Addr) (no co : Nat) (B g n cap : Nat) (l : List UInt8) (hn : n = l.length) (h20 : 20 ≤ l.length) (hl : l.length ≤ 65535) (w : World) (ho : OwnB w B (.slice (some ⟨g, 0, none⟩) n cap) l)
    (ht : ¬ h.ttl ≤ 1) (ht2 : h.ttl ≤ 255) :
    Calls Try.prog 55 #[hdV h (.slice ao no co), updV (.slice (some ⟨g, 0, none⟩) n cap)] w fun e w' => e = .returned (.int .i64 0) ∧ OwnB w' B (.slice (some ⟨g, 0, none⟩) n cap) (updH l 8 [byteAt (h.ttl - 1) 0]) ∧ Mod g w w' := by
  obtain ⟨tos, id, flags, frag, ttl, proto, src, dst, opts⟩ := h
  simp only at ht ht2
  have HO := Lib.hid ho
  have HU := Lib.hid (fun w x hx => fun ho => ipUpdate_any B g n cap l hn (by omega) hl 8 x [byteAt (ttl - 1) 0] (by simp) (by simp; omega) w ho hx (by decide))
  clear ho hn h20 hl
  have HA : Hid (Same w (w.alloc (hdO 31 ⟨tos, id, flags, frag, ttl, proto, src, dst, opts⟩ (.slice ao no co)))) := Same.alloc w _
  go_enter Try.func55, Try.ntmps55
  go_wp2_with fail
  refine (Put8_any _ [] (ttl - 1) _ (Bs.nil _) (by simp)).mono ?_
  rintro e w1 ⟨v1, rfl, ho1, hs1⟩
  have HS1 := Lib.hid (HA.out.trans hs1)
  have HO1 := Lib.hid ho1
  clear ho1 hs1
  go_wp2_with fail
  refine (HU.out w1 v1 HO1.out.bs (HO.out.same HS1.out)).mono ?_
  rintro e w2 ⟨rfl, ho2, hm2⟩
  have HO2 := Lib.hid ho2
  have HM2 := Lib.hid ((Mod.of_same HS1.out).trans hm2)
  clear ho2 hm2
  go_wp2_with fail
  go_ret
  exact ⟨rfl, HO2.out, HM2.out⟩

set_option maxRecDepth 100000 in
theorem ipRstep_any (h : Hd) (ao : Option Addr) (no co : Nat) (B g n cap c : Nat) (d : Int) (l : List UInt8) (hn : n = l.length) (h20 : 20 ≤ l.length) (hl : l.length ≤ 65535) (w : World) (ho : OwnB w B (.slice (some ⟨g, 0, none⟩) n cap) l)
    (hc : w.cell? ⟨c, 0, none⟩ = some (.int .u32 d)) (hd : 0 ≤ d ∧ d ≤ 4294967295) :
    Calls Try.prog 58 #[hdV h (.slice ao no co), updV (.slice (some ⟨g, 0, none⟩) n cap), .pointer (some ⟨c, 0, none⟩)] w fun e w' => e = .returned (.int .i64 0) ∧ OwnB w' B (.slice (some ⟨g, 0, none⟩) n cap) (updH l 16 [byteAt d 3, byteAt d 2, byteAt d 1, byteAt d 0]) ∧ Mod g w w' := by
  obtain ⟨tos, id, flags, frag, ttl, proto, src, dst, opts⟩ := h
  have HO := Lib.hid ho
  have HU := Lib.hid (fun w x hx => fun ho => ipUpdate_any B g n cap l hn (by omega) hl 16 x [byteAt d 3, byteAt d 2, byteAt d 1, byteAt d 0] (by simp) (by simp; omega) w ho hx (by decide))
  clear ho hn h20 hl
  have HA : Hid (Same w (w.alloc (hdO 31 ⟨tos, id, flags, frag, ttl, proto, src, dst, opts⟩ (.slice ao no co)))) := Same.alloc w _
  have hc2 : (w.alloc (hdO 31 ⟨tos, id, flags, frag, ttl, proto, src, dst, opts⟩ (.slice ao no co))).cell? ⟨c, 0, none⟩ = some (.int .u32 d) := by
    rw [Below.cell HA.out (World.block_lt_of_cell? w _ hc)]; exact hc
  clear hc
  go_enter Try.func58, Try.ntmps58
  go_wp2_with fail
  refine (Put32_any _ [] d _ (Bs.nil _) (by simp)).mono ?_
  rintro e w1 ⟨v1, rfl, ho1, hs1⟩
  have HS1 := Lib.hid (HA.out.trans hs1)
  have HO1 := Lib.hid ho1
  clear ho1 hs1
  go_wp2_with fail
  refine (HU.out w1 v1 HO1.out.bs (HO.out.same HS1.out)).mono ?_
  rintro e w2 ⟨rfl, ho2, hm2⟩
  have HO2 := Lib.hid ho2
  have HM2 := Lib.hid ((Mod.of_same HS1.out).trans hm2)
  clear ho2 hm2
  go_wp2_with fail
  go_ret
  exact ⟨rfl, HO2.out, HM2.out⟩
end Go.Proofs.Ytldiagjnpkpepaa
