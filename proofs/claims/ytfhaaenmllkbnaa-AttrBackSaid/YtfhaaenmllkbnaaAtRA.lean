/- Contracts of the document's own answers for layer 7: fault, Hop, one, Faults and Same of what is the same. No condition beyond what each names. -/
import Derived.Test.YtfhaaenmllkbnaaAtM
import Derived.Test.YtfhaaenmllkbnaaRefP
import Derived.Test.YtfhaaenmllkbnaaLives
namespace Go.Proofs.Ytfhaaenmllkbnaa
open Go.RowKit
set_option linter.unusedVariables false

set_option maxRecDepth 100000 in
theorem rFault_any (sub : Int) (ao : Option Addr) (n cap : Nat) (w : World) :
    Calls Try.prog 32 #[.int .i64 sub, .slice ao n cap] w fun e w' => e = .returned (.agg #[.int .i64 3, .int .i64 sub, .slice ao n cap]) ∧ Same w w' := by
  go_enter Try.func32, Try.ntmps32
  go_wp2_with fail
  refine bodyPost_ret (v := .agg #[.int .i64 3, .int .i64 sub, .slice ao n cap]) ?_ rfl ⟨rfl, Same.alloc _ _⟩
  simp [results, Try.results32, go_sem]

set_option maxRecDepth 100000 in
theorem rHop_any (a : Int) (h : 0 ≤ a ∧ a ≤ 4294967295) (w : World) : Calls Try.prog 62 #[.int .u32 a] w fun e w' => e = .returned (.bool (decide (hopOk a))) ∧ w = w' := by
  obtain ⟨R, hR⟩ : ∃ R, decide (hopOk a) = R := ⟨_, rfl⟩
  rw [hR]
  by_cases h0 : a = 0
  · obtain rfl : false = R := by rw [← hR]; exact (decide_eq_false (fun x => x.1 h0)).symm
    have z0 : (a != 0) = false := by simpa using h0
    clear hR h0
    go_enter Try.func62, Try.ntmps62
    go_wp2_with fail
    go_ret
    exact ⟨rfl, rfl⟩
  have z0 : (a != 0) = true := by simpa using h0
  by_cases h1 : a = 4294967295
  · obtain rfl : false = R := by rw [← hR]; exact (decide_eq_false (fun x => x.2.1 h1)).symm
    have z1 : (a != 4294967295) = false := by simpa using h1
    clear hR h1 h0
    go_enter Try.func62, Try.ntmps62
    go_wp2_with fail
    go_ret
    exact ⟨rfl, rfl⟩
  have z1 : (a != 4294967295) = true := by simpa using h1
  by_cases h2 : a / 16777216 = 127
  · obtain rfl : false = R := by rw [← hR]; exact (decide_eq_false (fun x => x.2.2.1 h2)).symm
    have z2 : (a / 16777216 != 127) = false := by simpa using h2
    clear hR h2 h1 h0
    go_enter Try.func62, Try.ntmps62
    go_wp2_with fail
    go_ret
    exact ⟨rfl, rfl⟩
  have z2 : (a / 16777216 != 127) = true := by simpa using h2
  by_cases h3 : a / 536870912 = 7
  · obtain rfl : false = R := by rw [← hR]; exact (decide_eq_false (fun x => x.2.2.2 h3)).symm
    have z3 : (a / 536870912 != 7) = false := by simpa using h3
    clear hR h3 h2 h1 h0
    go_enter Try.func62, Try.ntmps62
    go_wp2_with fail
    go_ret
    exact ⟨rfl, rfl⟩
  have z3 : (a / 536870912 != 7) = true := by simpa using h3
  obtain rfl : true = R := by rw [← hR]; exact (decide_eq_true ⟨h0, h1, h2, h3⟩).symm
  clear hR h3 h2 h1 h0
  go_enter Try.func62, Try.ntmps62
  go_wp2_with fail
  go_ret
  exact ⟨rfl, rfl⟩

set_option maxRecDepth 100000 in
theorem rFaults_same (f : Ft) (va vb : Value) (w : World) (ha : Bs w va f.data) (hb : Bs w vb f.data) :
    Calls Try.prog 14 #[ftV f va, ftV f vb] w fun e w' => e = .returned (.bool true) ∧ Same w w' := by
  obtain ⟨c, s, d⟩ := f
  simp only at ha hb
  have H0 := Lib.hid (Same.alloc w (ftO 26 ⟨c, s, d⟩ va))
  have H1 := Lib.hid (Same.alloc (w.alloc (ftO 26 ⟨c, s, d⟩ va)) (ftO 26 ⟨c, s, d⟩ vb))
  have hr1 := run_str _ _ d (ha.same (H0.out.trans H1.out))
  have hr2 := run_str _ _ d (hb.same (H0.out.trans H1.out))
  obtain ⟨x0, x1, x2⟩ := FtAt.of (H1.out.block (heap_alloc_new w (ftO 26 ⟨c, s, d⟩ va)))
  obtain ⟨y0, y1, y2⟩ := FtAt.of (heap_alloc_new (w.alloc (ftO 26 ⟨c, s, d⟩ va)) (ftO 26 ⟨c, s, d⟩ vb))
  generalize (⟨d.toArray⟩ : ByteArray) = sd at hr1 hr2
  obtain ⟨a1, c1, rfl, -, -, -, -⟩ := ha
  obtain ⟨a2, c2, rfl, -, -, -, -⟩ := hb
  generalize d.length = n at *
  go_enter Try.func14, Try.ntmps14
  go_wp2_with fail
  go_ret
  exact ⟨rfl, H0.out.trans H1.out⟩

theorem bs_255 (w : World) : Bs (w.alloc (.cells #[.int .u8 255] 5)) (.slice (some ⟨w.heap.size, 0, none⟩) 1 1) [byteAt 255 0] := by
  simpa [b8_byteAt] using Bs.made w [byteAt 255 0] 5 (by simp)
theorem bs_255_at (w : World) (o1 o2 : Obj) : Bs (((w.alloc o1).alloc o2).alloc (.cells #[.int .u8 255] 5)) (.slice (some ⟨w.heap.size + 1 + 1, 0, none⟩) 1 1) [byteAt 255 0] := by
  have := bs_255 ((w.alloc o1).alloc o2)
  rw [show ((w.alloc o1).alloc o2).heap.size = w.heap.size + 1 + 1 from by simp] at this
  exact this
theorem one0_at (w : World) (o1 o2 : Obj) (n : Int) : Bs (((w.alloc o1).alloc o2).alloc (.cells #[.int .u8 (n % 256)] 5)) (.slice (some ⟨w.heap.size + 1 + 1, 0, none⟩) 1 1) [byteAt n 0] := by
  have := Bs.one0 ((w.alloc o1).alloc o2) n
  rw [show ((w.alloc o1).alloc o2).heap.size = w.heap.size + 1 + 1 from by simp] at this
  exact this
theorem one0_low (w : World) (o1 o2 : Obj) (n : Nat) (h : n ≤ 255) : Bs (((w.alloc o1).alloc o2).alloc (.cells #[.int .u8 (n : Int)] 5)) (.slice (some ⟨w.heap.size + 1 + 1, 0, none⟩) 1 1) [byteAt n 0] := by
  have := one0_at w o1 o2 n
  rw [show (n : Int) % 256 = n from by omega] at this
  exact this
theorem Bs.form0 {w : World} {v : Value} {l : List UInt8} (h : Bs w v l) {n : Nat} (hn : l.length = n) : ∃ ao cap, v = .slice ao n cap := by
  obtain ⟨ao, cap, rfl, -, -, -, -⟩ := h
  exact ⟨ao, cap, by rw [hn]⟩
theorem Bs.form {w : World} {v : Value} {l : List UInt8} (hb : Bs w v l) (h : 0 < l.length) : ∃ b o cap, v = .slice (some ⟨b, o, none⟩) l.length cap ∧ l.length ≤ cap ∧ cap ≤ 9223372036854775807 ∧
    ∀ w', Same w w' → ∀ j u, l[j]? = some u → w'.cell? ⟨b, o + j, none⟩ = some (.int .u8 (u.toNat : Int)) := by
  obtain ⟨ao, cap, rfl, h1, h2, h3, h4⟩ := hb
  cases ao with
  | none => have := h3 rfl; omega
  | some ad =>
    obtain ⟨b, o, sp⟩ := ad
    have hsp := (h4 _ rfl).1 (by intro e; subst e; simp at h)
    simp only at hsp
    subst hsp
    refine ⟨b, o, cap, rfl, h1, h2, fun w' hs j u hu => ?_⟩
    have hc := (h4 _ rfl).2 j u hu
    rw [row_add] at hc
    rw [Below.cell hs (World.block_lt_of_cell? w _ hc)]
    exact hc
theorem OwnB.two (w : World) (a b : Int) : OwnB (w.alloc (.cells #[.int .u8 (a % 256), .int .u8 (b % 256)] 5)) w.heap.size (.slice (some ⟨w.heap.size, 0, none⟩) 2 2) [byteAt a 0, byteAt b 0] := by
  have := World.ownsRow_lit (base := w.heap.size) (e := 5) (size := 1) w #[.int .u8 (a % 256), .int .u8 (b % 256)] 2 (Nat.le_refl _) (by unfold maxLen; omega) (by simp)
  unfold OwnB
  simpa [b8_byteAt] using this
theorem two_at (w : World) (ob : Obj) (a b : Int) : OwnB ((w.alloc ob).alloc (.cells #[.int .u8 (a % 256), .int .u8 (b % 256)] 5)) w.heap.size (.slice (some ⟨w.heap.size + 1, 0, none⟩) 2 2) [byteAt a 0, byteAt b 0] := by
  have := (OwnB.two (w.alloc ob) a b).mono (Same.alloc w ob).size
  rw [show (w.alloc ob).heap.size = w.heap.size + 1 from by simp] at this
  exact this

set_option maxRecDepth 100000 in
set_option maxHeartbeats 2000000 in
theorem rOne7_any (r : Rw) (vo : Value) (w : World) (hb : Bs w vo r.value) :
    Calls Try.prog 36 #[rwV r vo] w fun e w' => ∃ v, e = .returned v ∧ OwnB w' w.heap.size v (oneB r) ∧ Same w w' := by
  have HB := Lib.hid hb
  obtain ⟨fl, ty, vl⟩ := r
  simp only at hb HB
  have HX := fun vo => Lib.hid (Same.alloc w (rwO 66 ⟨fl, ty, vl⟩ vo))
  have HXc := fun vo => Lib.hid (heap_alloc_new w (rwO 66 ⟨fl, ty, vl⟩ vo))
  by_cases he : extF fl <;> by_cases h2 : (if extF fl then 65535 else 255) < vl.length
  · -- two bytes, too long
    rw [if_pos he] at h2
    have hz : bits .and .i64 fl 16 = 16 := by rw [i64_and16, if_pos he]
    obtain ⟨b, o, cap, rfl, hcap, hcm, -⟩ := hb.form (by omega)
    have HV : Hid (∀ w', Same w w' → Bs w' (.slice (some ⟨b, o, none⟩) 65535 cap) (vl.take 65535)) := fun w' hw => by
      have := ((HB.out.same hw).cut 0 65535 (by omega)).1
      rw [if_neg (by omega), List.drop_zero] at this
      simpa [Addr.add] using this
    have HVL : Hid ((vl.take 65535).length = 65535) := by show _ = _; rw [List.length_take]; omega
    have i1 : (65535 : Int) ≤ cap := by omega
    have i2 : ((vl.length : Nat) : Int) > 65535 := by omega
    have ev : vl.take 65535 = vl.take 65535 := rfl
    have eo : oneB ⟨fl, ty, vl⟩ = [byteAt fl 0, byteAt ty 0] ++ ([byteAt (65535 : Nat) 1, byteAt (65535 : Nat) 0] ++ vl.take 65535) := by
      show [byteAt fl 0, byteAt ty 0] ++ (if extF fl then [byteAt ((vl.take 65535).length : Nat) 1, byteAt ((vl.take 65535).length : Nat) 0] ++ vl.take 65535 else [byteAt ((vl.take 255).length : Nat) 0] ++ vl.take 255) = _
      rw [if_pos he, HVL.out]
    rw [eo]
    generalize vl.take 65535 = V at *
    generalize hln : vl.length = n at *
    have i3 : ((n : Nat) : Int) > 65535 := i2
    clear he eo ev hcm
    have HR := Lib.hid (Same.alloc w (.cells #[.int .i64 fl, .int .i64 ty, .slice (some ⟨b, o, none⟩) n cap] 66))
    obtain ⟨c0, c1, c2⟩ : (w.alloc (.cells #[.int .i64 fl, .int .i64 ty, .slice (some ⟨b, o, none⟩) n cap] 66)).cell? ⟨w.heap.size, 0, none⟩ = some (.int .i64 fl) ∧ (w.alloc (.cells #[.int .i64 fl, .int .i64 ty, .slice (some ⟨b, o, none⟩) n cap] 66)).cell? ⟨w.heap.size, 1, none⟩ = some (.int .i64 ty) ∧ (w.alloc (.cells #[.int .i64 fl, .int .i64 ty, .slice (some ⟨b, o, none⟩) n cap] 66)).cell? ⟨w.heap.size, 2, none⟩ = some (.slice (some ⟨b, o, none⟩) n cap) := by refine ⟨?_, ?_, ?_⟩ <;> simp
    have HA := Lib.hid (HR.out.trans (Same.alloc (w.alloc (.cells #[.int .i64 fl, .int .i64 ty, .slice (some ⟨b, o, none⟩) n cap] 66)) (.cells #[.int .u8 (fl % 256), .int .u8 (ty % 256)] 5)))
    have HO2 : Hid (OwnB ((w.alloc (.cells #[.int .i64 fl, .int .i64 ty, .slice (some ⟨b, o, none⟩) n cap] 66)).alloc (.cells #[.int .u8 (fl % 256), .int .u8 (ty % 256)] 5)) w.heap.size (.slice (some ⟨w.heap.size + 1, 0, none⟩) 2 2) [byteAt fl 0, byteAt ty 0]) := two_at w _ fl ty
    go_enter Try.func36, Try.ntmps36
    go_wp2_with fail
    refine (rPut_two _ [byteAt fl 0, byteAt ty 0] (65535 : Int) _ HO2.out.bs (by simp) (by omega) (by omega)).mono ?_
    rintro e w3 ⟨v3, rfl, ho3, hs3⟩
    have HS3 := Lib.hid (HA.out.trans hs3)
    have HO3 := Lib.hid (ho3.mono (Nat.le_trans HA.out.size (Nat.le_refl _)))
    have HL3 := Lib.hid (show ([byteAt fl 0, byteAt ty 0] ++ [byteAt (65535 : Int) 1, byteAt (65535 : Int) 0]).length + V.length ≤ 140737488355328 by rw [HVL.out]; simp <;> omega)
    clear ho3 hs3
    go_wp2_with (at_builtin; refine wpList_append_bs rfl _ _ rfl w HS3.out _ _ rfl HO3.out _ V rfl (HV.out _ HS3.out) HL3.out ?_; intro v4 w4 ho4 hs4)
    go_ret
    exact ⟨v4, rfl, by simpa [List.append_assoc] using ho4, hs4⟩
  · -- two bytes, fits
    rw [if_pos he] at h2
    have hz : bits .and .i64 fl 16 = 16 := by rw [i64_and16, if_pos he]
    obtain ⟨b, cap, rfl⟩ := hb.form0 rfl
    have HV : Hid (∀ w', Same w w' → Bs w' (.slice b vl.length cap) (vl.take 65535)) := fun w' hw => by
      rw [List.take_of_length_le (by omega)]
      exact HB.out.same hw
    have HVL : Hid ((vl.take 65535).length = vl.length) := by show _ = _; rw [List.take_of_length_le (by omega)]
    have i2 : ¬ ((vl.length : Nat) : Int) > 65535 := by omega
    have eo : oneB ⟨fl, ty, vl⟩ = [byteAt fl 0, byteAt ty 0] ++ ([byteAt (vl.length : Nat) 1, byteAt (vl.length : Nat) 0] ++ vl.take 65535) := by
      show [byteAt fl 0, byteAt ty 0] ++ (if extF fl then [byteAt ((vl.take 65535).length : Nat) 1, byteAt ((vl.take 65535).length : Nat) 0] ++ vl.take 65535 else [byteAt ((vl.take 255).length : Nat) 0] ++ vl.take 255) = _
      rw [if_pos he, HVL.out]
    rw [eo]
    generalize vl.take 65535 = V at *
    generalize vl.length = n at *
    clear he eo
    have HR := Lib.hid (Same.alloc w (.cells #[.int .i64 fl, .int .i64 ty, .slice b n cap] 66))
    obtain ⟨c0, c1, c2⟩ : (w.alloc (.cells #[.int .i64 fl, .int .i64 ty, .slice b n cap] 66)).cell? ⟨w.heap.size, 0, none⟩ = some (.int .i64 fl) ∧ (w.alloc (.cells #[.int .i64 fl, .int .i64 ty, .slice b n cap] 66)).cell? ⟨w.heap.size, 1, none⟩ = some (.int .i64 ty) ∧ (w.alloc (.cells #[.int .i64 fl, .int .i64 ty, .slice b n cap] 66)).cell? ⟨w.heap.size, 2, none⟩ = some (.slice b n cap) := by refine ⟨?_, ?_, ?_⟩ <;> simp
    have HA := Lib.hid (HR.out.trans (Same.alloc (w.alloc (.cells #[.int .i64 fl, .int .i64 ty, .slice b n cap] 66)) (.cells #[.int .u8 (fl % 256), .int .u8 (ty % 256)] 5)))
    have HO2 : Hid (OwnB ((w.alloc (.cells #[.int .i64 fl, .int .i64 ty, .slice b n cap] 66)).alloc (.cells #[.int .u8 (fl % 256), .int .u8 (ty % 256)] 5)) w.heap.size (.slice (some ⟨w.heap.size + 1, 0, none⟩) 2 2) [byteAt fl 0, byteAt ty 0]) := two_at w _ fl ty
    go_enter Try.func36, Try.ntmps36
    go_wp2_with fail
    refine (rPut_two _ [byteAt fl 0, byteAt ty 0] ((n : Nat) : Int) _ HO2.out.bs (by simp) (by omega) (by omega)).mono ?_
    rintro e w3 ⟨v3, rfl, ho3, hs3⟩
    have HS3 := Lib.hid (HA.out.trans hs3)
    have HO3 := Lib.hid (ho3.mono (Nat.le_trans HA.out.size (Nat.le_refl _)))
    have HL3 := Lib.hid (show ([byteAt fl 0, byteAt ty 0] ++ [byteAt ((n : Nat) : Int) 1, byteAt ((n : Nat) : Int) 0]).length + V.length ≤ 140737488355328 by rw [HVL.out]; simp <;> omega)
    clear ho3 hs3
    go_wp2_with (at_builtin; refine wpList_append_bs rfl _ _ rfl w HS3.out _ _ rfl HO3.out _ V rfl (HV.out _ HS3.out) HL3.out ?_; intro v4 w4 ho4 hs4)
    go_ret
    exact ⟨v4, rfl, by simpa [List.append_assoc] using ho4, hs4⟩
  · -- one byte, too long
    rw [if_neg he] at h2
    have hz : bits .and .i64 fl 16 = 0 := by rw [i64_and16, if_neg he]
    obtain ⟨b, o, cap, rfl, hcap, hcm, -⟩ := hb.form (by omega)
    have HV : Hid (∀ w', Same w w' → Bs w' (.slice (some ⟨b, o, none⟩) 255 cap) (vl.take 255)) := fun w' hw => by
      have := ((HB.out.same hw).cut 0 255 (by omega)).1
      rw [if_neg (by omega), List.drop_zero] at this
      simpa [Addr.add] using this
    have HVL : Hid ((vl.take 255).length = 255) := by show _ = _; rw [List.length_take]; omega
    have i1 : (255 : Int) ≤ cap := by omega
    have i2 : ((vl.length : Nat) : Int) > 255 := by omega
    have ev : vl.take 255 = vl.take 255 := rfl
    have eo : oneB ⟨fl, ty, vl⟩ = [byteAt fl 0, byteAt ty 0] ++ ([byteAt (255 : Nat) 0] ++ vl.take 255) := by
      show [byteAt fl 0, byteAt ty 0] ++ (if extF fl then [byteAt ((vl.take 65535).length : Nat) 1, byteAt ((vl.take 65535).length : Nat) 0] ++ vl.take 65535 else [byteAt ((vl.take 255).length : Nat) 0] ++ vl.take 255) = _
      rw [if_neg he, HVL.out]
    rw [eo]
    generalize vl.take 255 = V at *
    generalize hln : vl.length = n at *
    have i3 : ((n : Nat) : Int) > 255 := i2
    clear he eo ev hcm
    have HR := Lib.hid (Same.alloc w (.cells #[.int .i64 fl, .int .i64 ty, .slice (some ⟨b, o, none⟩) n cap] 66))
    obtain ⟨c0, c1, c2⟩ : (w.alloc (.cells #[.int .i64 fl, .int .i64 ty, .slice (some ⟨b, o, none⟩) n cap] 66)).cell? ⟨w.heap.size, 0, none⟩ = some (.int .i64 fl) ∧ (w.alloc (.cells #[.int .i64 fl, .int .i64 ty, .slice (some ⟨b, o, none⟩) n cap] 66)).cell? ⟨w.heap.size, 1, none⟩ = some (.int .i64 ty) ∧ (w.alloc (.cells #[.int .i64 fl, .int .i64 ty, .slice (some ⟨b, o, none⟩) n cap] 66)).cell? ⟨w.heap.size, 2, none⟩ = some (.slice (some ⟨b, o, none⟩) n cap) := by refine ⟨?_, ?_, ?_⟩ <;> simp
    have HA := Lib.hid (HR.out.trans (Same.alloc (w.alloc (.cells #[.int .i64 fl, .int .i64 ty, .slice (some ⟨b, o, none⟩) n cap] 66)) (.cells #[.int .u8 (fl % 256), .int .u8 (ty % 256)] 5)))
    have HO2 : Hid (OwnB ((w.alloc (.cells #[.int .i64 fl, .int .i64 ty, .slice (some ⟨b, o, none⟩) n cap] 66)).alloc (.cells #[.int .u8 (fl % 256), .int .u8 (ty % 256)] 5)) w.heap.size (.slice (some ⟨w.heap.size + 1, 0, none⟩) 2 2) [byteAt fl 0, byteAt ty 0]) := two_at w _ fl ty
    go_enter Try.func36, Try.ntmps36
    have HL2 := Lib.hid (show ([byteAt fl 0, byteAt ty 0]).length + [byteAt (255 : Int) 0].length ≤ 140737488355328 by simp)
    have HL3 := Lib.hid (show ([byteAt fl 0, byteAt ty 0] ++ [byteAt (255 : Int) 0]).length + V.length ≤ 140737488355328 by rw [HVL.out]; simp <;> omega)
    go_wp2_with (at_builtin; first
      | (refine wpList_append_bs rfl _ _ rfl w (HA.out.trans (Same.alloc _ _)) _ _ rfl (HO2.out.same (Same.alloc _ _)) _ [byteAt (255 : Int) 0] rfl (bs_255_at _ _ _) HL2.out ?_; intro v3 w3 ho3 hs3; have HO3 := Lib.hid ho3; have HS3 := Lib.hid hs3; clear ho3 hs3)
      | (refine wpList_append_bs rfl _ _ rfl w HS3.out _ _ rfl HO3.out _ V rfl (HV.out _ HS3.out) HL3.out ?_; intro v4 w4 ho4 hs4))
    go_ret
    exact ⟨v4, rfl, by simpa [List.append_assoc] using ho4, hs4⟩
  · -- one byte, fits
    rw [if_neg he] at h2
    have hz : bits .and .i64 fl 16 = 0 := by rw [i64_and16, if_neg he]
    obtain ⟨b, cap, rfl⟩ := hb.form0 rfl
    have HV : Hid (∀ w', Same w w' → Bs w' (.slice b vl.length cap) (vl.take 255)) := fun w' hw => by
      rw [List.take_of_length_le (by omega)]
      exact HB.out.same hw
    have HVL : Hid ((vl.take 255).length = vl.length) := by show _ = _; rw [List.take_of_length_le (by omega)]
    have i2 : ¬ ((vl.length : Nat) : Int) > 255 := by omega
    have eo : oneB ⟨fl, ty, vl⟩ = [byteAt fl 0, byteAt ty 0] ++ ([byteAt (vl.length : Nat) 0] ++ vl.take 255) := by
      show [byteAt fl 0, byteAt ty 0] ++ (if extF fl then [byteAt ((vl.take 65535).length : Nat) 1, byteAt ((vl.take 65535).length : Nat) 0] ++ vl.take 65535 else [byteAt ((vl.take 255).length : Nat) 0] ++ vl.take 255) = _
      rw [if_neg he, HVL.out]
    rw [eo]
    generalize vl.take 255 = V at *
    generalize vl.length = n at *
    clear he eo
    have HR := Lib.hid (Same.alloc w (.cells #[.int .i64 fl, .int .i64 ty, .slice b n cap] 66))
    obtain ⟨c0, c1, c2⟩ : (w.alloc (.cells #[.int .i64 fl, .int .i64 ty, .slice b n cap] 66)).cell? ⟨w.heap.size, 0, none⟩ = some (.int .i64 fl) ∧ (w.alloc (.cells #[.int .i64 fl, .int .i64 ty, .slice b n cap] 66)).cell? ⟨w.heap.size, 1, none⟩ = some (.int .i64 ty) ∧ (w.alloc (.cells #[.int .i64 fl, .int .i64 ty, .slice b n cap] 66)).cell? ⟨w.heap.size, 2, none⟩ = some (.slice b n cap) := by refine ⟨?_, ?_, ?_⟩ <;> simp
    have HA := Lib.hid (HR.out.trans (Same.alloc (w.alloc (.cells #[.int .i64 fl, .int .i64 ty, .slice b n cap] 66)) (.cells #[.int .u8 (fl % 256), .int .u8 (ty % 256)] 5)))
    have HO2 : Hid (OwnB ((w.alloc (.cells #[.int .i64 fl, .int .i64 ty, .slice b n cap] 66)).alloc (.cells #[.int .u8 (fl % 256), .int .u8 (ty % 256)] 5)) w.heap.size (.slice (some ⟨w.heap.size + 1, 0, none⟩) 2 2) [byteAt fl 0, byteAt ty 0]) := two_at w _ fl ty
    go_enter Try.func36, Try.ntmps36
    have HL2 := Lib.hid (show ([byteAt fl 0, byteAt ty 0]).length + [byteAt ((n : Nat) : Int) 0].length ≤ 140737488355328 by simp)
    have HL3 := Lib.hid (show ([byteAt fl 0, byteAt ty 0] ++ [byteAt ((n : Nat) : Int) 0]).length + V.length ≤ 140737488355328 by rw [HVL.out]; simp <;> omega)
    go_wp2_with (at_builtin; first
      | (refine wpList_append_bs rfl _ _ rfl w (HA.out.trans (Same.alloc _ _)) _ _ rfl (HO2.out.same (Same.alloc _ _)) _ [byteAt ((n : Nat) : Int) 0] rfl (one0_low _ _ _ n (by omega)) HL2.out ?_; intro v3 w3 ho3 hs3; have HO3 := Lib.hid ho3; have HS3 := Lib.hid hs3; clear ho3 hs3)
      | (refine wpList_append_bs rfl _ _ rfl w HS3.out _ _ rfl HO3.out _ V rfl (HV.out _ HS3.out) HL3.out ?_; intro v4 w4 ho4 hs4))
    go_ret
    exact ⟨v4, rfl, by simpa [List.append_assoc] using ho4, hs4⟩
end Go.Proofs.Ytfhaaenmllkbnaa
