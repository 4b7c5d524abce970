/- Contracts of the calls of a source that no call made. No condition beyond what each names. -/
import Derived.Test.YtphhnjfkniahdaaTake
namespace Go.Proofs.Ytphhnjfkniahdaa
open Go.RowKit
set_option linter.unusedVariables false

/-- a source that no call made: nil, or a zero value -/
def Unm (w : World) (p : Option Addr) : Prop := p = none ∨ ∃ s, p = some ⟨s, 0, none⟩ ∧ w.cell? ⟨s, 0, none⟩ = some (.bool false)

theorem Unm.same {w w' : World} {p : Option Addr} (hs : Same w w') (h : Unm w p) : Unm w' p := by
  rcases h with h | ⟨s, h, hc⟩
  · exact .inl h
  · exact .inr ⟨s, h, by rw [Below.cell hs (World.block_lt_of_cell? w _ hc)]; exact hc⟩

theorem isMade_un (p : Option Addr) (w : World) (h : Unm w p) : Calls Try.prog 40 #[.pointer p] w fun e w' => e = .returned (.bool false) ∧ w = w' := by
  rcases h with rfl | ⟨s, rfl, hc⟩
  · exact isMade_nil w
  · exact isMade_yes s false w hc

theorem Err_un (p : Option Addr)  (w : World) (h : Unm w p) : Calls Try.prog 18 #[.pointer p] w fun e w' => e = .returned (.int .i64 1) ∧ w = w' := by
  have HM := Lib.hid (isMade_un p w h)
  clear h
  go_enter Try.func18, Try.ntmps18
  go_wp2_with fail
  refine HM.out.mono ?_
  rintro e w1 ⟨rfl, rfl⟩
  go_wp2_with fail
  go_ret
  exact ⟨rfl, rfl⟩

theorem At_un (p : Option Addr)  (w : World) (h : Unm w p) : Calls Try.prog 21 #[.pointer p] w fun e w' => e = .returned (.int .i64 0) ∧ w = w' := by
  have HM := Lib.hid (isMade_un p w h)
  clear h
  go_enter Try.func21, Try.ntmps21
  go_wp2_with fail
  refine HM.out.mono ?_
  rintro e w1 ⟨rfl, rfl⟩
  go_wp2_with fail
  go_ret
  exact ⟨rfl, rfl⟩

theorem Left_un (p : Option Addr)  (w : World) (h : Unm w p) : Calls Try.prog 19 #[.pointer p] w fun e w' => e = .returned (.int .i64 0) ∧ w = w' := by
  have HM := Lib.hid (Err_un p w h)
  clear h
  go_enter Try.func19, Try.ntmps19
  go_wp2_with fail
  refine HM.out.mono ?_
  rintro e w1 ⟨rfl, rfl⟩
  go_wp2_with fail
  go_ret
  exact ⟨rfl, rfl⟩

theorem can_un (p : Option Addr) (n : Int) (w : World) (h : Unm w p) : Calls Try.prog 51 #[.pointer p, .int .i64 n] w fun e w' => e = .returned (.bool false) ∧ w = w' := by
  have HM := Lib.hid (Err_un p w h)
  clear h
  go_enter Try.func51, Try.ntmps51
  go_wp2_with fail
  refine HM.out.mono ?_
  rintro e w1 ⟨rfl, rfl⟩
  go_wp2_with fail
  go_ret
  exact ⟨rfl, rfl⟩

theorem nextU_un (p : Option Addr) (n : Int) (g : Value) (w : World) (h : Unm w p) : Calls Try.prog 41 #[.pointer p, .int .i64 n, g] w fun e w' => e = .returned (.int .u32 0) ∧ w = w' := by
  have HM := Lib.hid (can_un p n w h)
  clear h
  go_enter Try.func41, Try.ntmps41
  go_wp2_with fail
  refine HM.out.mono ?_
  rintro e w1 ⟨rfl, rfl⟩
  go_wp2_with fail
  go_ret
  exact ⟨rfl, rfl⟩

theorem nextB_un (p : Option Addr) (n : Int) (g : Value) (w : World) (h : Unm w p) : Calls Try.prog 44 #[.pointer p, .int .i64 n, g] w fun e w' => e = .returned (.slice none 0 0) ∧ w = w' := by
  have HM := Lib.hid (can_un p n w h)
  clear h
  go_enter Try.func44, Try.ntmps44
  go_wp2_with fail
  refine HM.out.mono ?_
  rintro e w1 ⟨rfl, rfl⟩
  go_wp2_with fail
  go_ret
  exact ⟨rfl, rfl⟩

theorem nextS_un (p : Option Addr) (n : Int) (g : Value) (w : World) (h : Unm w p) : Calls Try.prog 46 #[.pointer p, .int .i64 n, g] w fun e w' => e = .returned (.pointer none) ∧ w = w' := by
  have HM := Lib.hid (can_un p n w h)
  clear h
  go_enter Try.func46, Try.ntmps46
  go_wp2_with fail
  refine HM.out.mono ?_
  rintro e w1 ⟨rfl, rfl⟩
  go_wp2_with fail
  go_ret
  exact ⟨rfl, rfl⟩

theorem End_un (p : Option Addr) (w : World) (h : Unm w p) : Calls Try.prog 22 #[.pointer p] w fun e w' => e = .returned (.int .i64 1) ∧ w = w' := by
  have HL := Lib.hid (Left_un p w h)
  have HE := Lib.hid (Err_un p w h)
  clear h
  go_enter Try.func22, Try.ntmps22
  go_wp2_with fail
  refine HL.out.mono ?_
  rintro e w1 ⟨rfl, rfl⟩
  go_wp2_with fail
  refine HE.out.mono ?_
  rintro e w1 ⟨rfl, rfl⟩
  go_wp2_with fail
  go_ret
  exact ⟨rfl, rfl⟩

theorem U8_un (p : Option Addr)  (w : World) (h : Unm w p) : Calls Try.prog 24 #[.pointer p] w fun e w' => e = .returned (.int .i64 0) ∧ Same w w' := by
  have hsm := Lib.hid (Same.alloc w (.cells #[.pointer p] 37))
  have HN := Lib.hid (fun g => nextU_un p 1 g _ (h.same hsm.out))
  clear h
  go_enter Try.func24, Try.ntmps24
  go_wp2_with fail
  refine (cut_any _ _).mono ?_
  rintro e w1 ⟨rfl, rfl⟩
  go_wp2_with fail
  refine (HN.out _).mono ?_
  rintro e w1 ⟨rfl, rfl⟩
  go_wp2_with fail
  go_ret
  exact ⟨rfl, hsm.out⟩

theorem U16_un (p : Option Addr)  (w : World) (h : Unm w p) : Calls Try.prog 25 #[.pointer p] w fun e w' => e = .returned (.int .i64 0) ∧ Same w w' := by
  have hsm := Lib.hid (Same.alloc w (.cells #[.pointer p] 37))
  have HN := Lib.hid (fun g => nextU_un p 2 g _ (h.same hsm.out))
  clear h
  go_enter Try.func25, Try.ntmps25
  go_wp2_with fail
  refine (cut_any _ _).mono ?_
  rintro e w1 ⟨rfl, rfl⟩
  go_wp2_with fail
  refine (HN.out _).mono ?_
  rintro e w1 ⟨rfl, rfl⟩
  go_wp2_with fail
  go_ret
  exact ⟨rfl, hsm.out⟩

theorem U32_un (p : Option Addr)  (w : World) (h : Unm w p) : Calls Try.prog 26 #[.pointer p] w fun e w' => e = .returned (.int .u32 0) ∧ Same w w' := by
  have hsm := Lib.hid (Same.alloc w (.cells #[.pointer p] 37))
  have HN := Lib.hid (fun g => nextU_un p 4 g _ (h.same hsm.out))
  clear h
  go_enter Try.func26, Try.ntmps26
  go_wp2_with fail
  refine (cut_any _ _).mono ?_
  rintro e w1 ⟨rfl, rfl⟩
  go_wp2_with fail
  refine (HN.out _).mono ?_
  rintro e w1 ⟨rfl, rfl⟩
  go_wp2_with fail
  go_ret
  exact ⟨rfl, hsm.out⟩

theorem Bytes_un (p : Option Addr) (n : Int) (w : World) (h : Unm w p) : Calls Try.prog 28 #[.pointer p, .int .i64 n] w fun e w' => e = .returned (.slice none 0 0) ∧ Same w w' := by
  have hsm := Lib.hid (Same.alloc w (.cells #[.pointer p] 37))
  have HN := Lib.hid (fun g => nextB_un p n g _ (h.same hsm.out))
  clear h
  go_enter Try.func28, Try.ntmps28
  go_wp2_with fail
  refine (cut_any _ _).mono ?_
  rintro e w1 ⟨rfl, rfl⟩
  go_wp2_with fail
  refine (HN.out _).mono ?_
  rintro e w1 ⟨rfl, rfl⟩
  go_wp2_with fail
  go_ret
  exact ⟨rfl, hsm.out⟩

theorem Rest_un (p : Option Addr) (w : World) (h : Unm w p) : Calls Try.prog 27 #[.pointer p] w fun e w' => e = .returned (.slice none 0 0) ∧ Same w w' := by
  have hsm := Lib.hid (Same.alloc w (.cells #[.pointer p] 37))
  have HN := Lib.hid (fun g => nextB_un p 0 g _ (h.same hsm.out))
  have HL := Lib.hid (Left_un p w h)
  clear h
  go_enter Try.func27, Try.ntmps27
  go_wp2_with fail
  refine HL.out.mono ?_
  rintro e w1 ⟨rfl, rfl⟩
  go_wp2_with fail
  refine (cut_any _ _).mono ?_
  rintro e w1 ⟨rfl, rfl⟩
  go_wp2_with fail
  refine (HN.out _).mono ?_
  rintro e w1 ⟨rfl, rfl⟩
  go_wp2_with fail
  go_ret
  exact ⟨rfl, hsm.out⟩

theorem Sub_un (p : Option Addr) (n : Int) (w : World) (h : Unm w p) : Calls Try.prog 29 #[.pointer p, .int .i64 n] w fun e w' => e = .returned (.pointer none) ∧ Same w w' := by
  have hsm := Lib.hid (Same.alloc w (.cells #[.pointer p] 37))
  have HN := Lib.hid (fun g => nextS_un p n g _ (h.same hsm.out))
  have HM := Lib.hid (isMade_un p _ (h.same hsm.out))
  clear h
  go_enter Try.func29, Try.ntmps29
  go_wp2_with fail
  refine (cut_any _ _).mono ?_
  rintro e w1 ⟨rfl, rfl⟩
  go_wp2_with fail
  refine (HN.out _).mono ?_
  rintro e w1 ⟨rfl, rfl⟩
  go_wp2_with fail
  refine HM.out.mono ?_
  rintro e w1 ⟨rfl, rfl⟩
  go_wp2_with fail
  go_ret
  exact ⟨rfl, hsm.out⟩

end Go.Proofs.Ytphhnjfkniahdaa
