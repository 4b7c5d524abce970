/- The document's example, as the statements of layer 1 ask it. No condition. -/
import Derived.Test.YtphhnjfkniahdaaTake
import Derived.Test.YtphhnjfkniahdaaPut
namespace Go.Proofs.Ytphhnjfkniahdaa
open Go.RowKit
set_option linter.unusedVariables false

/-- string(bytes) -/
theorem run_str (w : World) (v : Value) (l : List UInt8) (hb : Bs w v l) : (convert 22 9 v).run Try.prog w = .ok (.string ⟨l.toArray⟩) w := by
  obtain ⟨ao, cap, rfl, h1, h2, h3, h4⟩ := hb
  cases ao with
  | none =>
    have := h3 rfl
    have hm : l = [] := List.eq_nil_of_length_eq_zero (by omega)
    subst hm
    exact run_convert_bytes_nil w _ _ Try.underlying22 Try.underlying5 _ _ _ Try.underlying9
  | some ad =>
    have hl : (loadCells ad l.length).run Try.prog w = .ok ((l.map fun u => (u.toNat : Int)).map (Value.int .u8)).toArray w := by
      have := run_loadCells_list (P := Try.prog) w ad ((l.map fun u => (u.toNat : Int)).map (Value.int .u8)) (fun j v hj => by
        simp only [List.map_map, List.getElem?_map, Option.map_eq_some_iff] at hj
        obtain ⟨u, hu, rfl⟩ := hj
        exact (h4 ad rfl).2 j u hu)
      simpa using this
    rw [run_convert_bytes_string w _ _ _ _ _ _ Try.underlying22 Try.underlying5 Try.underlying9, run_bytesToString w _ _ cap _ hl, foldl_push_bytes]
    have e : ((l.map fun u => (u.toNat : Int)).map fun n => UInt8.ofNat n.toNat) = l := by
      rw [List.map_map]
      conv => rhs; rw [← List.map_id l]
      exact List.map_congr_left fun u _ => by simp
    rw [e]
    simp [ByteArray.empty, ByteArray.emptyWithCapacity]
    rfl

theorem lives_true (w : World) : Calls Try.prog 7 #[] w fun e w' => e = .returned (.bool true) ∧ Same w w' := by
  have hb : Bs (w.alloc (.cells #[.int .u8 1, .int .u8 2, .int .u8 3] 5)) (.slice (some ⟨w.heap.size, 0, none⟩) 3 3) [1, 2, 3] := Bs.made w [1, 2, 3] 5 (by simp)
  have HR := Lib.hid (Read_any _ _ _ hb (by simp))
  have hsm := Lib.hid (Same.alloc w (.cells #[.int .u8 1, .int .u8 2, .int .u8 3] 5))
  clear hb
  go_enter Try.func7, Try.ntmps7
  go_wp2_with fail
  refine HR.out.mono ?_
  rintro e w1 ⟨s, v1, rfl, hs, hsr, hs1, hf⟩
  have HS := Lib.hid hsr
  have H1 := Lib.hid (hsm.out.trans hs1)
  have HB : Hid (w.heap.size ≤ s) := Nat.le_trans hsm.out.size hs
  clear hsr hs hs1 hf
  go_wp2_with fail
  refine (Put16_any _ [] 258 w1 (Bs.nil w1) (by simp)).mono ?_
  rintro e w2 ⟨v2, rfl, ho, hs2⟩
  have hstr := run_str w2 v2 _ ho.bs
  have HS2 := Lib.hid (HS.out.same hs2)
  have H2 := Lib.hid (H1.out.trans hs2)
  clear ho hs2
  go_wp2_with fail
  have hu := U16_made s v1 [1, 2, 3] 0 0 w2 HS2.out
  rw [show numOut (stepOut [1, 2, 3] 0 0 2) = 258 from by decide, show stepAt [1, 2, 3] 0 0 2 = 2 from by decide, show stepErr [1, 2, 3] 0 0 2 = 0 from by decide] at hu
  refine hu.mono ?_
  rintro e w3 ⟨rfl, hm3, hs3⟩
  have HS3 := Lib.hid hs3
  have H3 : Hid (Same w w3) := Below.trans H2.out (hm3.below HB.out H2.out.size)
  clear hs3 hm3 hu
  go_wp2_with fail
  have hu := U16_made s v1 [1, 2, 3] 2 0 w3 HS3.out
  rw [show numOut (stepOut [1, 2, 3] 2 0 2) = 0 from by decide, show stepAt [1, 2, 3] 2 0 2 = 2 from by decide, show stepErr [1, 2, 3] 2 0 2 = 3 from by decide] at hu
  refine hu.mono ?_
  rintro e w4 ⟨rfl, hm4, hs4⟩
  have HS4 := Lib.hid hs4
  have H4 : Hid (Same w w4) := Below.trans H3.out (hm4.below HB.out H3.out.size)
  clear hs4 hm4 hu
  go_wp2_with fail
  refine (err_made s v1 2 3 w4 HS4.out.src).mono ?_
  rintro e w5 ⟨rfl, rfl⟩
  go_wp2_with fail
  go_ret
  exact ⟨rfl, H4.out⟩
end Go.Proofs.Ytphhnjfkniahdaa
