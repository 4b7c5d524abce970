/- A prefix in bytes, by the document. No condition. -/
import Derived.Test.YtldiagjnpkpepaaPfxB
import Derived.Test.YtldiagjnpkpepaaPfxN
import Derived.LoopTactic
namespace Go.Proofs.Ytldiagjnpkpepaa
open Go.RowKit
set_option linter.unusedVariables false
set_option maxRecDepth 100000

theorem OwnB.one (w : World) (u : UInt8) : OwnB (w.alloc (.cells #[b8 u] 5)) w.heap.size (.slice (some ⟨w.heap.size, 0, none⟩) 1 1) [u] := by
  have := World.ownsRow_lit (base := w.heap.size) (e := 5) (size := 1) w #[b8 u] 1 (Nat.le_refl _) (by unfold maxLen; omega) (by simp)
  simpa [OwnB] using this

theorem shr_byte (c : Int) (h0 : 0 ≤ c) (h1 : c < 4294967296) (k : Nat) (hk : k < 4) : ((byteAt c (3 - k)).toNat : Int) = c / 2 ^ (24 - 8 * k) % 256 := by
  rw [byteAt_int]
  have h : ∀ j : Fin 4, (256 : Int) ^ (3 - j.val) = 2 ^ (24 - 8 * j.val) := by decide
  rw [h ⟨k, hk⟩]

theorem rpBytes_any (a n : Int) (ha0 : 0 ≤ a) (ha1 : a ≤ 4294967295) (w : World) : Calls Try.prog 36 #[.agg #[.int .u32 a, .int .i64 n]] w fun e w' => ∃ v, e = .returned v ∧ Bs w' v (bytesL a n) ∧ Same w w' := by
  have HC := fun w => Lib.hid (rCanon_any a n w)
  have hn := nearN_le n
  have hcr := canA_range a n ha0 ha1
  unfold bytesL
  generalize nearN n = m at *
  generalize canA a n = c at *
  obtain ⟨hn0, hn1⟩ := hn
  obtain ⟨hc0, hc1⟩ := hcr
  obtain ⟨q, hq, hq4⟩ : ∃ q : Nat, (m + 7) / 8 = (q : Int) ∧ q ≤ 4 := ⟨((m + 7) / 8).toNat, by omega, by omega⟩
  rw [hq]
  have hk1 : (1 + (q : Int)).toNat = 1 + q := by omega
  rw [hk1]
  have HT : Hid (∀ k : Nat, k < 4 → [byteAt m 0, byteAt c 3, byteAt c 2, byteAt c 1, byteAt c 0].take (1 + (k + 1)) = [byteAt m 0, byteAt c 3, byteAt c 2, byteAt c 1, byteAt c 0].take (1 + k) ++ [byteAt c (3 - k)]) := by
    intro k hk
    obtain rfl | rfl | rfl | rfl := (show k = 0 ∨ k = 1 ∨ k = 2 ∨ k = 3 by omega) <;> rfl
  have HL : Hid (∀ k : Nat, ([byteAt m 0, byteAt c 3, byteAt c 2, byteAt c 1, byteAt c 0].take (1 + k)).length ≤ 5) := by intro k; simp; omega
  have H1T : Hid ([byteAt m 0] = [byteAt m 0, byteAt c 3, byteAt c 2, byteAt c 1, byteAt c 0].take (1 + 0)) := rfl
  generalize [byteAt m 0, byteAt c 3, byteAt c 2, byteAt c 1, byteAt c 0] = L5 at *
  have H0 := Lib.hid (Same.alloc w (pfxO a n))
  go_enter Try.func36, Try.ntmps36
  go_wp2_with fail
  refine (HC _).out.mono ?_
  rintro e u ⟨rfl, hu⟩
  go_wp2_with fail
  have HU := Lib.hid ((H0.out.trans hu).trans (Same.alloc u (pfxO c m)))
  have HB := Lib.hid (box1 c m u)
  generalize hV : u.alloc (.cells #[.int .u32 c, .int .i64 m] 58) = V at *
  have hVs : V.heap.size = u.heap.size + 1 := by rw [← hV]; simp
  have HO1 : Hid (OwnB (V.alloc (.cells #[.int .u8 m] 5)) V.heap.size (.slice (some ⟨u.heap.size + 1, 0, none⟩) 1 1) [byteAt m 0]) := by
    have := OwnB.one V (byteAt m 0)
    rw [b8_byteAt, show m / 256 ^ 0 % 256 = m from by simp; omega] at this
    rw [← hVs]
    exact this
  have HO1' := Lib.hid (H1T.out ▸ HO1.out)
  clear HO1
  go_loopw [4, 5] (fun v i wr => ∃ k : Nat, k ≤ q ∧ i = .int .i64 k ∧ OwnB wr V.heap.size v (L5.take (1 + k)) ∧ Same V wr) (fun _ i _ => q - (intOf i).toNat)
  case atStart => exact ⟨0, Nat.zero_le _, rfl, HO1'.out, Same.alloc _ _⟩
  case round =>
    obtain ⟨k, hk, rfl, ho, hs⟩ := hrel
    have HO := Lib.hid ho
    have HS := Lib.hid hs
    obtain ⟨c0, c1⟩ := HB.out wr hs
    clear ho hs
    by_cases hlt : k < q
    · have hlt' : (k : Int) < (m + 7) / 8 := by omega
      have hb := shr_byte c hc0 (by omega) k (by omega)
      have HX : Hid (Bs (wr.alloc (.cells #[.int .u8 (c / 2 ^ (24 - 8 * k) % 256)] 5)) (.slice (some ⟨wr.heap.size, 0, none⟩) 1 1) [byteAt c (3 - k)]) := by
        have := Bs.made wr [byteAt c (3 - k)] 5 (by simp)
        simp only [List.map_cons, List.map_nil, List.length_cons, List.length_nil] at this
        rw [show b8 (byteAt c (3 - k)) = .int .u8 (c / 2 ^ (24 - 8 * k) % 256) from by unfold b8; rw [hb]] at this
        exact this
      clear hb
      have HS2 := Lib.hid (HS.out.trans (Same.alloc wr (.cells #[.int .u8 (c / 2 ^ (24 - 8 * k) % 256)] 5)))
      have HO2 := Lib.hid (HO.out.same (Same.alloc wr (.cells #[.int .u8 (c / 2 ^ (24 - 8 * k) % 256)] 5)))
      generalize hpre : L5.take (1 + k) = pre at *
      have hp5 : pre.length ≤ 5 := by rw [← hpre]; exact HL.out k
      go_wp2_with (first
        | (at_builtin; refine wpList_append_bs rfl _ (.tmp 29) rfl V HS2.out _ pre rfl HO2.out _ _ rfl HX.out (by simp; omega) ?_; intro v1 w1 ho1 hs1; have HO3 := Lib.hid ho1; have HS3 := Lib.hid hs1; clear ho1 hs1))
      exact ⟨⟨k + 1, by omega, by go_num, by rw [HT.out k (by omega), hpre]; exact HO3.out, HS3.out⟩, by simp [intOf]; omega⟩
    · have hlt' : (m + 7) / 8 ≤ (k : Int) := by omega
      obtain rfl : k = q := by omega
      go_wp2_with fail
      go_ret
      exact ⟨_, rfl, (show Bs wr _ _ from HO.out.bs), HU.out.trans HS.out⟩
end Go.Proofs.Ytldiagjnpkpepaa
