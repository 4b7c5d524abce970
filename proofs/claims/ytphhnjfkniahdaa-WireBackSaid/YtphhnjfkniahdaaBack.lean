/- The walk of WireBack: what was put is got again. No condition. -/
import Derived.Test.YtphhnjfkniahdaaTake
import Derived.Test.YtphhnjfkniahdaaLives
import Derived.LoopTactic
import Derived.LoopN
import Derived.Deep.RegionWith
import Derived.Deep.DeepMust
namespace Go.Proofs.Ytphhnjfkniahdaa
open Go.RowKit
set_option linter.unusedVariables false

/-- what is put for number i -/
def piece (i : Nat) (n : Int) : List UInt8 := if i % 3 = 0 then [byteAt n 0] else if i % 3 = 1 then [byteAt n 1, byteAt n 0] else [byteAt n 3, byteAt n 2, byteAt n 1, byteAt n 0]
def outOf (zs : List Int) : Nat → List UInt8
  | 0 => []
  | k + 1 => outOf zs k ++ piece k (zs.getD k 0)
theorem piece_len (i : Nat) (n : Int) : (piece i n).length ≤ 4 := by
  unfold piece
  by_cases h : i % 3 = 0
  · rw [if_pos h]; simp
  · rw [if_neg h]
    by_cases h2 : i % 3 = 1
    · rw [if_pos h2]; simp
    · rw [if_neg h2]; simp
theorem outOf_len (zs : List Int) (k : Nat) : (outOf zs k).length ≤ 4 * k := by
  induction k with
  | zero => simp [outOf]
  | succ k ih =>
    rw [outOf, List.length_append]
    have := piece_len k (zs.getD k 0)
    omega
theorem outOf_prefix (zs : List Int) (k n : Nat) (h : k ≤ n) : ∃ r, outOf zs n = outOf zs k ++ r := by
  induction n with
  | zero =>
    obtain rfl : k = 0 := by omega
    exact ⟨[], by simp⟩
  | succ n ih =>
    by_cases hk : k ≤ n
    · obtain ⟨r, hr⟩ := ih hk
      exact ⟨r ++ piece n (zs.getD n 0), by rw [outOf, hr, List.append_assoc]⟩
    · obtain rfl : k = n + 1 := by omega
      exact ⟨[], by simp⟩
theorem numOf_bytes1 (z : Int) : (numOf [byteAt z 0] : Int) = z % 256 := by
  simp only [numOf, List.foldl_cons, List.foldl_nil, Nat.zero_mul, Nat.zero_add]
  rw [byteAt_int]; simp
theorem numOf_bytes2 (z : Int) : (numOf [byteAt z 1, byteAt z 0] : Int) = z % 65536 := by
  simp only [numOf, List.foldl_cons, List.foldl_nil, Nat.zero_mul, Nat.zero_add, Int.natCast_add, Int.natCast_mul]
  rw [byteAt_int, byteAt_int]; simp; omega
theorem numOf_bytes4 (z : Int) (h0 : 0 ≤ z) (h1 : z ≤ 4294967295) : (numOf [byteAt z 3, byteAt z 2, byteAt z 1, byteAt z 0] : Int) = z := by
  simp only [numOf, List.foldl_cons, List.foldl_nil, Nat.zero_mul, Nat.zero_add, Int.natCast_add, Int.natCast_mul]
  rw [byteAt_int, byteAt_int, byteAt_int, byteAt_int]; simp; omega
/-- a step over just what stands next -/
theorem step_over (pre p rest : List UInt8) : stepOut (pre ++ (p ++ rest)) pre.length 0 p.length = some p ∧ stepAt (pre ++ (p ++ rest)) pre.length 0 p.length = (pre ++ p).length ∧ stepErr (pre ++ (p ++ rest)) pre.length 0 p.length = 0 := by
  obtain ⟨e1, e2, e3⟩ := step_yes (l := pre ++ (p ++ rest)) (a := pre.length) (k := p.length) (by simp)
  refine ⟨by rw [e1]; simp, by rw [e2]; simp, e3⟩

set_option maxHeartbeats 3200000 in
theorem back_walk (ao : Option Addr) (cap : Nat) (zs : List Int) (b : Value) (bs : List UInt8) (w : World)
    (hz : ∀ ad, ao = some ad → ∀ j, j < zs.length → w.cell? (ad.add j) = some (.int .u32 (zs.getD j 0))) (hn : ao = none → zs.length = 0) (hb : Bs w b bs) (hw : ∀ j, 0 ≤ zs.getD j 0 ∧ zs.getD j 0 ≤ 4294967295)
    (h60 : (zs.length : Int) ≤ 60) (h300 : (bs.length : Int) ≤ 300) :
    Calls Try.prog 5 #[.slice ao zs.length cap, b] w fun e w' => e = .returned (.bool true) ∧ Same w w' := by
  have HB := Lib.hid hb
  have HZ := Lib.hid hz
  have HW := Lib.hid hw
  have hlen0 := outOf_len zs zs.length
  have HL1 : Hid (([] : List UInt8).length + (outOf zs zs.length).length ≤ 140737488355328) := by show _ ≤ _; simp; omega
  have HL2 : Hid ((outOf zs zs.length).length + bs.length ≤ 140737488355328) := by show _ ≤ _; omega
  clear hlen0
  obtain ⟨bo, bcap, rfl, b1, b2, b3, b4⟩ := hb
  clear b3 b4 hz hw
  go_enter Try.func5, Try.ntmps5
  go_wp2_with fail
  go_loopw [5, 23] (fun v i wr => ∃ k : Nat, k ≤ zs.length ∧ i = .int .i64 k ∧ OwnB wr w.heap.size v (outOf zs k) ∧ Same w wr) (fun _ i _ => zs.length - (intOf i).toNat)
  case atStart => exact ⟨0, Nat.zero_le _, rfl, OwnB.nil _ _, Same.refl _⟩
  case round =>
    obtain ⟨k, hk, rfl, ho, hs⟩ := hrel
    have HO := Lib.hid ho
    have HS := Lib.hid hs
    clear ho hs
    by_cases hlt : k < zs.length
    · obtain ⟨ad, rfl⟩ : ∃ ad, ao = some ad := by
        cases ao with
        | none => have := hn rfl; omega
        | some ad => exact ⟨ad, rfl⟩
      have hc := HZ.out ad rfl k hlt
      have hc' : wr.cell? (ad.add k) = some (.int .u32 (zs.getD k 0)) := by rw [Below.cell HS.out (World.block_lt_of_cell? w _ hc)]; exact hc
      obtain ⟨hw0, hw1⟩ := HW.out k
      have hlen := outOf_len zs k
      have hlen2 : (outOf zs k).length + 4 ≤ 140737488355328 := by omega
      have hp : Hid (outOf zs (k + 1) = outOf zs k ++ piece k (zs.getD k 0)) := rfl
      have hpc : Hid (piece k (zs.getD k 0) = if k % 3 = 0 then [byteAt (zs.getD k 0) 0] else if k % 3 = 1 then [byteAt (zs.getD k 0) 1, byteAt (zs.getD k 0) 0] else [byteAt (zs.getD k 0) 3, byteAt (zs.getD k 0) 2, byteAt (zs.getD k 0) 1, byteAt (zs.getD k 0) 0]) := rfl
      generalize zs.getD k 0 = z at *
      generalize outOf zs k = pre at *
      generalize piece k z = pc at *
      clear hc hlen
      have HLT := Lib.hid hlen2
      clear hlen2
      have h3 : k % 3 = 0 ∨ k % 3 = 1 ∨ k % 3 = 2 := by omega
      rcases h3 with h3 | h3 | h3
      · have HP := Lib.hid (show outOf zs (k + 1) = pre ++ _ from by rw [hp.out, hpc.out, if_pos h3])
        clear hp hpc
        have e0 : ((k : Int) % 3 == 0) = true := by rw [beq_iff_eq]; omega
        clear h3
        go_wp2_with fail
        refine (Put8_any _ pre z wr HO.out.bs (by have := HLT.out; omega)).mono ?_
        rintro e w1 ⟨v1, rfl, ho1, hs1⟩
        have HO1 := Lib.hid (ho1.mono HS.out.size)
        have HS1 := Lib.hid (HS.out.trans hs1)
        clear ho1 hs1
        go_wp2_with fail
        refine ⟨⟨k + 1, by omega, by go_num, ?_, HS1.out⟩, by simp [intOf]; omega⟩
        rw [HP.out]; exact HO1.out
      · have HP := Lib.hid (show outOf zs (k + 1) = pre ++ _ from by rw [hp.out, hpc.out, if_neg (by omega), if_pos h3])
        clear hp hpc
        have e0 : ((k : Int) % 3 == 0) = false := by rw [beq_eq_false_iff_ne]; omega
        have e1 : ((k : Int) % 3 == 1) = true := by rw [beq_iff_eq]; omega
        clear h3
        go_wp2_with fail
        refine (Put16_any _ pre z wr HO.out.bs (by have := HLT.out; omega)).mono ?_
        rintro e w1 ⟨v1, rfl, ho1, hs1⟩
        have HO1 := Lib.hid (ho1.mono HS.out.size)
        have HS1 := Lib.hid (HS.out.trans hs1)
        clear ho1 hs1
        go_wp2_with fail
        refine ⟨⟨k + 1, by omega, by go_num, ?_, HS1.out⟩, by simp [intOf]; omega⟩
        rw [HP.out]; exact HO1.out
      · have HP := Lib.hid (show outOf zs (k + 1) = pre ++ _ from by rw [hp.out, hpc.out, if_neg (by omega), if_neg (by omega)])
        clear hp hpc
        have e0 : ((k : Int) % 3 == 0) = false := by rw [beq_eq_false_iff_ne]; omega
        have e1 : ((k : Int) % 3 == 1) = false := by rw [beq_eq_false_iff_ne]; omega
        clear h3
        go_wp2_with fail
        refine (Put32_any _ pre z wr HO.out.bs (by have := HLT.out; omega)).mono ?_
        rintro e w1 ⟨v1, rfl, ho1, hs1⟩
        have HO1 := Lib.hid (ho1.mono HS.out.size)
        have HS1 := Lib.hid (HS.out.trans hs1)
        clear ho1 hs1
        go_wp2_with fail
        refine ⟨⟨k + 1, by omega, by go_num, ?_, HS1.out⟩, by simp [intOf]; omega⟩
        rw [HP.out]; exact HO1.out
    · obtain rfl : k = zs.length := by omega
      clear hk hlt
      obtain ⟨oo, oc, hoe, x1, x2, x3, x4⟩ := OwnB.bs HO.out
      subst hoe
      clear x1 x2 x3 x4
      have hD : Hid (∀ k, k < zs.length → ∃ r, outOf zs zs.length ++ bs = outOf zs k ++ (piece k (zs.getD k 0) ++ r)) := by
        intro k hk
        obtain ⟨r, hr⟩ := outOf_prefix zs (k + 1) zs.length hk
        exact ⟨r ++ bs, by rw [hr, outOf]; simp [List.append_assoc]⟩
      have hDL : Hid ((outOf zs zs.length ++ bs).length ≤ 140737488355328) := by show _ ≤ _; rw [List.length_append]; exact HL2.out
      have hN : Hid ((outOf zs zs.length).length ≤ 140737488355328) := by have := HL2.out; show _ ≤ _; omega
      go_wp2_with (first
        | (at_builtin; refine wpList_append_bs rfl _ (.tmp 49) rfl w HS1.out _ (outOf zs zs.length) rfl HO1.out _ bs rfl (HB.out.same HS1.out) HL2.out ?_; intro v2 w2 ho2 hs2)
        | (at_builtin; refine wpList_append_bs rfl _ (.tmp 47) rfl w (HS.out.trans (Same.alloc _ _)) _ [] rfl (OwnB.mono (OwnB.empty _) HS.out.size) _ (outOf zs zs.length) rfl (OwnB.bs (HO.out.same (Same.alloc _ _))) HL1.out ?_; intro v1 w1 ho1 hs1; rw [List.nil_append] at ho1; have HO1 := Lib.hid ho1; have HS1 := Lib.hid hs1; clear ho1 hs1))
      refine (Read_any v2 _ w2 ho2.bs hDL.out).mono ?_
      rintro e w3 ⟨s, v3, rfl, hs, hsr, hs3, hf⟩
      have HS3 := Lib.hid (hs2.trans hs3)
      have HR3 := Lib.hid hsr
      have HLE : Hid (w.heap.size ≤ s) := Nat.le_trans hs2.size hs
      clear ho2 hs2 hs hsr hs3 hf HO1 HS1 HO HS HL1
      go_wp2_with fail
      go_loopw [54] (fun i wr => ∃ k : Nat, k ≤ zs.length ∧ i = .int .i64 k ∧ SrcB wr s v3 (outOf zs zs.length ++ bs) (outOf zs k).length 0 ∧ Same w wr) (fun i _ => zs.length - (intOf i).toNat)
      case atStart => exact ⟨0, Nat.zero_le _, rfl, HR3.out, HS3.out⟩
      case round =>
        obtain ⟨k, hk, rfl, hsr, hs⟩ := hrel
        have HR := Lib.hid hsr
        have HS := Lib.hid hs
        clear hsr hs HR3 HS3
        by_cases hlt : k < zs.length
        · obtain ⟨ad, rfl⟩ : ∃ ad, ao = some ad := by
            cases ao with
            | none => have := hn rfl; omega
            | some ad => exact ⟨ad, rfl⟩
          have hc := HZ.out ad rfl k hlt
          have hc' : wr.cell? (ad.add k) = some (.int .u32 (zs.getD k 0)) := by rw [Below.cell HS.out (World.block_lt_of_cell? w _ hc)]; exact hc
          obtain ⟨hw0, hw1⟩ := HW.out k
          have hp : Hid (outOf zs (k + 1) = outOf zs k ++ piece k (zs.getD k 0)) := rfl
          have hpc : Hid (piece k (zs.getD k 0) = if k % 3 = 0 then [byteAt (zs.getD k 0) 0] else if k % 3 = 1 then [byteAt (zs.getD k 0) 1, byteAt (zs.getD k 0) 0] else [byteAt (zs.getD k 0) 3, byteAt (zs.getD k 0) 2, byteAt (zs.getD k 0) 1, byteAt (zs.getD k 0) 0]) := rfl
          obtain ⟨r, hr⟩ := hD.out k hlt
          have HSTEP := Lib.hid (step_over (outOf zs k) (piece k (zs.getD k 0)) r)
          rw [← hr] at HSTEP
          clear hr
          generalize zs.getD k 0 = z at *
          generalize outOf zs k = pre at *
          generalize piece k z = pc at *
          generalize (outOf zs zs.length ++ bs) = D at *
          clear hc
          have h3 : k % 3 = 0 ∨ k % 3 = 1 ∨ k % 3 = 2 := by omega
          rcases h3 with h3 | h3 | h3
          · have hpe := hpc.out
            rw [if_pos h3] at hpe
            subst hpe
            have hu := U8_made s v3 D pre.length 0 wr HR.out
            obtain ⟨q1, q2, q3⟩ := HSTEP.out
            have q1' : stepOut D pre.length 0 1 = some _ := q1
            have q2' : stepAt D pre.length 0 1 = _ := q2
            have q3' : stepErr D pre.length 0 1 = _ := q3
            rw [q1', q2', q3', numOut, numOf_bytes1 z] at hu
            clear q1 q2 q3 q1' q2' q3'
            have HU := Lib.hid hu
            clear hu HSTEP hpc
            have HP := Lib.hid hp.out
            clear hp
            have e0 : ((k : Int) % 3 == 0) = true := by rw [beq_iff_eq]; omega
            clear h3
            go_wp2_with fail
            refine HU.out.mono ?_
            rintro e w1 ⟨rfl, hm1, hsr1⟩
            have HR1 := Lib.hid hsr1
            have HS1 : Hid (Same w w1) := Below.trans HS.out (hm1.below HLE.out HS.out.size)
            clear hsr1 hm1
            go_wp2_with fail
            refine ⟨⟨k + 1, by omega, by go_num, ?_, HS1.out⟩, by simp [intOf]; omega⟩
            rw [HP.out]; exact HR1.out
          · have hpe := hpc.out
            rw [if_neg (by omega), if_pos h3] at hpe
            subst hpe
            have hu := U16_made s v3 D pre.length 0 wr HR.out
            obtain ⟨q1, q2, q3⟩ := HSTEP.out
            have q1' : stepOut D pre.length 0 2 = some _ := q1
            have q2' : stepAt D pre.length 0 2 = _ := q2
            have q3' : stepErr D pre.length 0 2 = _ := q3
            rw [q1', q2', q3', numOut, numOf_bytes2 z] at hu
            clear q1 q2 q3 q1' q2' q3'
            have HU := Lib.hid hu
            clear hu HSTEP hpc
            have HP := Lib.hid hp.out
            clear hp
            have e0 : ((k : Int) % 3 == 0) = false := by rw [beq_eq_false_iff_ne]; omega
            have e1 : ((k : Int) % 3 == 1) = true := by rw [beq_iff_eq]; omega
            clear h3
            go_wp2_with fail
            refine HU.out.mono ?_
            rintro e w1 ⟨rfl, hm1, hsr1⟩
            have HR1 := Lib.hid hsr1
            have HS1 : Hid (Same w w1) := Below.trans HS.out (hm1.below HLE.out HS.out.size)
            clear hsr1 hm1
            go_wp2_with fail
            refine ⟨⟨k + 1, by omega, by go_num, ?_, HS1.out⟩, by simp [intOf]; omega⟩
            rw [HP.out]; exact HR1.out
          · have hpe := hpc.out
            rw [if_neg (by omega), if_neg (by omega)] at hpe
            subst hpe
            have hu := U32_made s v3 D pre.length 0 wr HR.out
            obtain ⟨q1, q2, q3⟩ := HSTEP.out
            have q1' : stepOut D pre.length 0 4 = some _ := q1
            have q2' : stepAt D pre.length 0 4 = _ := q2
            have q3' : stepErr D pre.length 0 4 = _ := q3
            rw [q1', q2', q3', numOut, numOf_bytes4 z hw0 hw1] at hu
            clear q1 q2 q3 q1' q2' q3'
            have HU := Lib.hid hu
            clear hu HSTEP hpc
            have HP := Lib.hid hp.out
            clear hp
            have e0 : ((k : Int) % 3 == 0) = false := by rw [beq_eq_false_iff_ne]; omega
            have e1 : ((k : Int) % 3 == 1) = false := by rw [beq_eq_false_iff_ne]; omega
            clear h3
            go_wp2_with fail
            refine HU.out.mono ?_
            rintro e w1 ⟨rfl, hm1, hsr1⟩
            have HR1 := Lib.hid hsr1
            have HS1 : Hid (Same w w1) := Below.trans HS.out (hm1.below HLE.out HS.out.size)
            clear hsr1 hm1
            go_wp2_with fail
            refine ⟨⟨k + 1, by omega, by go_num, ?_, HS1.out⟩, by simp [intOf]; omega⟩
            rw [HP.out]; exact HR1.out
        · obtain rfl : k = zs.length := by omega
          clear hk hlt
          have HE : Hid (endOf (outOf zs zs.length ++ bs) (outOf zs zs.length ++ bs).length 0 = 0) := if_neg (by omega)
          have HRS : Hid (restOf (outOf zs zs.length ++ bs) (outOf zs zs.length).length 0 = bs) := by show _ = _; rw [restOf, if_pos rfl]; simp
          have hl2 : ((outOf zs zs.length).length : Int) ≤ 9223372036854775807 := by have := hN.out; omega
          generalize (outOf zs zs.length) = O at *
          have HAT := Lib.hid (at_made s v3 O.length 0 _ (HR.out.same ((Same.refl wr).drew)).src)
          have hrr := Rest_made s v3 _ O.length 0 _ (HR.out.same ((Same.refl wr).drew)) hDL.out
          rw [HRS.out, if_pos rfl] at hrr
          have HRR := Lib.hid hrr
          clear hrr
          have hstr0 := run_str wr.drew _ _ (HB.out.same HS.out.drew)
          clear hD
          go_wp2_with fail
          go_region_with (first
            | (go_at_call 21; refine HAT.out.mono ?_; rintro e w4 ⟨rfl, rfl⟩)
            | (go_at_call 27; go_must (refine HRR.out.mono ?_; rintro e w5 ⟨v5, rfl, ho5, hm5, hsr5⟩; have HS5 : Hid (Same w w5) := Below.trans HS.out.drew (hm5.below HLE.out HS.out.drew.size); have HR5 := Lib.hid hsr5; have hstr5 := run_str w5 v5 _ ho5.bs; have hstrb := run_str w5 _ _ (HB.out.same HS5.out); clear ho5 hm5 hsr5))
            | (go_at_call 22; go_must (have hend := End_made s v3 _ _ 0 w5 HR5.out; rw [HE.out] at hend; refine hend.mono ?_; clear hend; rintro e w6 ⟨rfl, hs6⟩; have HS6 := Lib.hid (HS5.out.trans hs6); clear hs6))
            | (go_at_call 7; refine (lives_true _).mono ?_; rintro e w7 ⟨rfl, hs7⟩; have HS7 := Lib.hid (HS6.out.trans hs7); clear hs7))
          all_goals (go_wp2_with fail; go_ret; exact ⟨rfl, HS7.out⟩)
end Go.Proofs.Ytphhnjfkniahdaa
