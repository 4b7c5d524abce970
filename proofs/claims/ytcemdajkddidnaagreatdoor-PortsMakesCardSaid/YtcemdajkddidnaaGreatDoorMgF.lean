/- The developers' Addr, in digits. It reads a table of the library's: its content is asked. The document's own Digits and Addr. No condition beyond what each names. -/
import Derived.Lib.SmallJoins
import Derived.LoopN
import Derived.Test.YtcemdajkddidnaaGreatDoorMgI
import Derived.Test.YtcemdajkddidnaaGreatDoorQLives
import Derived.Test.YtcemdajkddidnaaGreatDoorQPut
import Derived.Test.YtcemdajkddidnaaGreatDoorMgE
import Derived.Test.YtcemdajkddidnaaGreatDoorQChkA
namespace Go.Proofs.YtcemdajkddidnaaGreatDoor
open Go.RowKit
set_option linter.unusedVariables false
set_option maxRecDepth 100000

/-- the library's table of powers of ten is as its own text lays it -/
abbrev Tab (w : World) : Prop := Lib.TabIs Tryz.prog w "internal/strconv.uint64pow10" .u64 Lib.pow10Tab
theorem Tab.below {w w' : World} {B : Nat} (h : Tab w) (hb : Below B w w') (hB : w.heap.size ≤ B) : Tab w' :=
  Go.Joins.tab_stays (g := (Tryz.prog.globalNamed "internal/strconv.uint64pow10").get (by kernel_rfl)) (by kernel_rfl) h hb hB
theorem Tab.same {w w' : World} (h : Tab w) (hs : Same w w') : Tab w' := h.below hs (Nat.le_refl _)

theorem inAppend_any (u : Nat) (hu : u ≤ 255) (B : Nat) (v : Value) (l : List UInt8) (w : World) (ho : OwnB w B v l) (hB : B ≤ w.heap.size) (hl : l.length + 20 ≤ 140737488355328) (ht : Tab w) :
    Calls Tryz.prog 68 #[v, .int .u64 u, .int .i64 10] w fun e w' => ∃ v', e = .returned v' ∧ OwnB w' B v' (l ++ Lib.decDigits u) ∧ Below B w w' := by
  by_cases h : u < 100
  · exact (Any.internal_strconv_AppendUint_10_small Tryz.layAppendUint B l.length u h v (l.map b8) w ho hB hl).mono fun e w' ⟨v', h1, h2, h3, _⟩ =>
      ⟨v', h1, by unfold OwnB; rw [List.length_append, List.map_append]; exact h2, h3⟩
  · exact (Any.internal_strconv_AppendUint_10_big Tryz.layAppendUint B l.length u (by omega) (by omega) v (l.map b8) w ho hB hl ht).mono fun e w' ⟨v', h1, h2, h3, _⟩ =>
      ⟨v', h1, by unfold OwnB; rw [List.length_append, List.map_append]; exact h2, h3⟩

theorem append_any (u : Nat) (hu : u ≤ 255) (B : Nat) (v : Value) (l : List UInt8) (w : World) (ho : OwnB w B v l) (hB : B ≤ w.heap.size) (hl : l.length + 20 ≤ 140737488355328) (ht : Tab w) :
    Calls Tryz.prog 47 #[v, .int .u64 u, .int .i64 10] w fun e w' => ∃ v', e = .returned v' ∧ OwnB w' B v' (l ++ Lib.decDigits u) ∧ Below B w w' := by
  have HI := Lib.hid (inAppend_any u hu B v l w ho hB hl ht)
  go_enter Tryz.func47, Tryz.ntmps47
  go_wp2_with fail
  refine HI.out.mono ?_
  rintro e w1 ⟨v', rfl, h1, h2⟩
  go_wp2_with fail
  go_ret
  exact ⟨_, rfl, h1, h2⟩

theorem itoa_any (i : Nat) (hi : i < 100) (w : World) : Calls Tryz.prog 31 #[.int .i64 i] w fun e w' => e = .returned (.string ⟨(Lib.decDigits i).toArray⟩) ∧ Same w w' :=
  (Any.strconv_Itoa_small Tryz.layItoa i hi w).mono fun _ _ ⟨h1, h2⟩ => ⟨h1, h2 ▸ Same.refl _⟩

/-- the number of an address's text that stands at this place -/
def octet (a : Int) (i : Nat) : Nat := (a / 256 ^ i % 256).toNat
theorem octet_le (a : Int) (i : Nat) : octet a i ≤ 255 := by unfold octet; omega
/-- an address's text -/
def addrL (a : Int) : List UInt8 := (((((([] ++ Lib.decDigits (octet a 3)) ++ [46]) ++ Lib.decDigits (octet a 2)) ++ [46]) ++ Lib.decDigits (octet a 1)) ++ [46]) ++ Lib.decDigits (octet a 0)
theorem dec_len (u : Nat) (h : u ≤ 255) : (Lib.decDigits u).length ≤ 3 := by
  by_cases h1 : u < 10
  · rw [Lib.decDigits_one h1]; simp
  · by_cases h2 : u < 100
    · rw [Lib.decDigits_two h1 h2]; simp
    · rw [Lib.decDigits, dif_neg h1, Lib.decDigits_two (by omega) (by omega)]; simp

theorem Addr_any (a : Int) (h0 : 0 ≤ a) (h1 : a ≤ 4294967295) (w : World) (ht : Tab w) : Calls Tryz.prog 30 #[.int .u32 a] w fun e w' => e = .returned (.string ⟨(addrL a).toArray⟩) ∧ Same w w' := by
  have HT := Lib.hid ht
  have o3 := octet_le a 3
  have o2 := octet_le a 2
  have o1 := octet_le a 1
  have o0 := octet_le a 0
  have l3 := dec_len _ o3
  have l2 := dec_len _ o2
  have l1 := dec_len _ o1
  have l0 := dec_len _ o0
  have e3 : a / 16777216 = (octet a 3 : Int) := by unfold octet; rw [show (256 : Int) ^ 3 = 16777216 from by decide]; omega
  have e2 : a / 65536 % 256 = (octet a 2 : Int) := by unfold octet; rw [show (256 : Int) ^ 2 = 65536 from by decide]; omega
  have e1 : a / 256 % 256 = (octet a 1 : Int) := by unfold octet; rw [show (256 : Int) ^ 1 = 256 from by decide]; omega
  have e0 : a % 256 = (octet a 0 : Int) := by unfold octet; rw [show (256 : Int) ^ 0 = 1 from by decide]; omega
  unfold addrL
  generalize octet a 3 = n3 at *
  generalize octet a 2 = n2 at *
  generalize octet a 1 = n1 at *
  generalize octet a 0 = n0 at *
  go_enter Tryz.func30, Tryz.ntmps30
  go_wp2_with fail
  refine wp_loop_rounds 5 ?_
  rw [rounds_succ]
  go_wp2_with fail
  refine (append_any n3 o3 w.heap.size _ [] w (OwnB.nil w w.heap.size) (Same.refl w).size (by simp) (HT.out.same (Same.refl w))).mono ?_
  rintro e x1 ⟨v1, rfl, ho, hb⟩
  have HO1 := Lib.hid ho
  have HS1 : Hid (Same w x1) := Below.trans (Same.refl w) hb
  have hlen1 : ([] ++ Lib.decDigits n3).length ≤ 3 := by (rw [List.length_append]; simp; omega)
  clear ho hb
  have HX1 : Hid (Bs (x1.alloc (.cells #[.int .u8 46] 5)) (.slice (some ⟨x1.heap.size, 0, none⟩) 1 1) [46]) := Bs.made x1 [46] 5 (by simp)
  have HA1 := Lib.hid (HS1.out.trans (Same.alloc x1 (.cells #[.int .u8 46] 5)))
  have HB1 := Lib.hid (HO1.out.same (Same.alloc x1 (.cells #[.int .u8 46] 5)))
  have hp1 : (([] ++ Lib.decDigits n3) ++ [46]).length ≤ 4 := by rw [List.length_append]; simp only [List.length_cons, List.length_nil]; omega
  have hq1 : ([] ++ Lib.decDigits n3).length + [(46 : UInt8)].length ≤ 140737488355328 := by simp only [List.length_cons, List.length_nil]; omega
  go_wp2_with (first
    | (at_builtin; refine wpList_append_bs rfl _ (.tmp 19) rfl w HA1.out _ ([] ++ Lib.decDigits n3) rfl HB1.out _ [46] rfl HX1.out hq1 ?_; intro z1 y1 ho hs; have HP1 := Lib.hid ho; have HQ1 := Lib.hid hs; clear ho hs; refine Hid.out ?_))
  refine Lib.hid ?_
  obtain ⟨p1, hpp1⟩ : ∃ p, p = ([] ++ Lib.decDigits n3) ++ [46] := ⟨_, rfl⟩
  rw [← hpp1] at HP1 hp1
  have HH1 := Lib.hid hpp1
  clear hpp1 hlen1 hq1 HX1 HA1 HB1 HO1 HS1
  go_wp2_with fail
  rw [rounds_succ]
  go_wp2_with fail
  refine (append_any n2 o2 w.heap.size _ p1 y1 HP1.out HQ1.out.size (by omega) (HT.out.same HQ1.out)).mono ?_
  rintro e x2 ⟨v2, rfl, ho, hb⟩
  have HO2 := Lib.hid ho
  have HS2 : Hid (Same w x2) := Below.trans HQ1.out hb
  have hlen2 : (p1 ++ Lib.decDigits n2).length ≤ 7 := by (rw [List.length_append]; skip; omega)
  clear ho hb
  have HX2 : Hid (Bs (x2.alloc (.cells #[.int .u8 46] 5)) (.slice (some ⟨x2.heap.size, 0, none⟩) 1 1) [46]) := Bs.made x2 [46] 5 (by simp)
  have HA2 := Lib.hid (HS2.out.trans (Same.alloc x2 (.cells #[.int .u8 46] 5)))
  have HB2 := Lib.hid (HO2.out.same (Same.alloc x2 (.cells #[.int .u8 46] 5)))
  have hp2 : ((p1 ++ Lib.decDigits n2) ++ [46]).length ≤ 8 := by rw [List.length_append]; simp only [List.length_cons, List.length_nil]; omega
  have hq2 : (p1 ++ Lib.decDigits n2).length + [(46 : UInt8)].length ≤ 140737488355328 := by simp only [List.length_cons, List.length_nil]; omega
  go_wp2_with (first
    | (at_builtin; refine wpList_append_bs rfl _ (.tmp 19) rfl w HA2.out _ (p1 ++ Lib.decDigits n2) rfl HB2.out _ [46] rfl HX2.out hq2 ?_; intro z2 y2 ho hs; have HP2 := Lib.hid ho; have HQ2 := Lib.hid hs; clear ho hs; refine Hid.out ?_))
  refine Lib.hid ?_
  obtain ⟨p2, hpp2⟩ : ∃ p, p = (p1 ++ Lib.decDigits n2) ++ [46] := ⟨_, rfl⟩
  rw [← hpp2] at HP2 hp2
  have HH2 := Lib.hid hpp2
  clear hpp2 hlen2 hq2 HX2 HA2 HB2 HO2 HS2
  go_wp2_with fail
  rw [rounds_succ]
  go_wp2_with fail
  refine (append_any n1 o1 w.heap.size _ p2 y2 HP2.out HQ2.out.size (by omega) (HT.out.same HQ2.out)).mono ?_
  rintro e x3 ⟨v3, rfl, ho, hb⟩
  have HO3 := Lib.hid ho
  have HS3 : Hid (Same w x3) := Below.trans HQ2.out hb
  have hlen3 : (p2 ++ Lib.decDigits n1).length ≤ 11 := by (rw [List.length_append]; skip; omega)
  clear ho hb
  have HX3 : Hid (Bs (x3.alloc (.cells #[.int .u8 46] 5)) (.slice (some ⟨x3.heap.size, 0, none⟩) 1 1) [46]) := Bs.made x3 [46] 5 (by simp)
  have HA3 := Lib.hid (HS3.out.trans (Same.alloc x3 (.cells #[.int .u8 46] 5)))
  have HB3 := Lib.hid (HO3.out.same (Same.alloc x3 (.cells #[.int .u8 46] 5)))
  have hp3 : ((p2 ++ Lib.decDigits n1) ++ [46]).length ≤ 12 := by rw [List.length_append]; simp only [List.length_cons, List.length_nil]; omega
  have hq3 : (p2 ++ Lib.decDigits n1).length + [(46 : UInt8)].length ≤ 140737488355328 := by simp only [List.length_cons, List.length_nil]; omega
  go_wp2_with (first
    | (at_builtin; refine wpList_append_bs rfl _ (.tmp 19) rfl w HA3.out _ (p2 ++ Lib.decDigits n1) rfl HB3.out _ [46] rfl HX3.out hq3 ?_; intro z3 y3 ho hs; have HP3 := Lib.hid ho; have HQ3 := Lib.hid hs; clear ho hs; refine Hid.out ?_))
  refine Lib.hid ?_
  obtain ⟨p3, hpp3⟩ : ∃ p, p = (p2 ++ Lib.decDigits n1) ++ [46] := ⟨_, rfl⟩
  rw [← hpp3] at HP3 hp3
  have HH3 := Lib.hid hpp3
  clear hpp3 hlen3 hq3 HX3 HA3 HB3 HO3 HS3
  go_wp2_with fail
  rw [rounds_succ]
  go_wp2_with fail
  refine (append_any n0 o0 w.heap.size _ p3 y3 HP3.out HQ3.out.size (by omega) (HT.out.same HQ3.out)).mono ?_
  rintro e x4 ⟨v4, rfl, ho, hb⟩
  have HO4 := Lib.hid ho
  have HS4 : Hid (Same w x4) := Below.trans HQ3.out hb
  have hlen4 : (p3 ++ Lib.decDigits n0).length ≤ 15 := by (rw [List.length_append]; skip; omega)
  clear ho hb
  go_wp2_with fail
  rw [rounds_succ]
  have hr := run_str x4 v4 _ HO4.out.bs
  go_wp2_with fail
  go_ret
  have q1 := HH1.out
  have q2 := HH2.out
  have q3 := HH3.out
  subst q3 q2 q1
  exact ⟨rfl, HS4.out⟩

theorem addrL_len (a : Int) : (addrL a).length ≤ 15 := by
  have l3 := dec_len _ (octet_le a 3)
  have l2 := dec_len _ (octet_le a 2)
  have l1 := dec_len _ (octet_le a 1)
  have l0 := dec_len _ (octet_le a 0)
  unfold addrL
  simp only [List.length_append, List.length_cons, List.length_nil]
  omega
theorem catB (x y : List UInt8) : (⟨x.toArray⟩ : ByteArray) ++ ⟨y.toArray⟩ = ⟨(x ++ y).toArray⟩ := by
  refine ByteArray.ext ?_
  simp

end Go.Proofs.YtcemdajkddidnaaGreatDoor
namespace Go.Proofs.YtcemdajkddidnaaGreatDoor
open Go.RowKit
set_option linter.unusedVariables false
set_option maxRecDepth 100000

theorem dig_slice : ∀ u : Nat, u < 10 → (⟨#[48, 49, 50, 51, 52, 53, 54, 55, 56, 57]⟩ : ByteArray).extract u (u + 1) = ⟨#[UInt8.ofNat (48 + u)]⟩ := by
  intro u hu
  obtain rfl | rfl | rfl | rfl | rfl | rfl | rfl | rfl | rfl | rfl := (show u = 0 ∨ u = 1 ∨ u = 2 ∨ u = 3 ∨ u = 4 ∨ u = 5 ∨ u = 6 ∨ u = 7 ∨ u = 8 ∨ u = 9 by omega) <;> decide

theorem dig1 (u : Nat) (hu : u < 10) (w : World) : Calls Tryz.prog 33 #[.int .i64 u] w fun e w' => e = .returned (.string ⟨(Lib.decDigits u).toArray⟩) ∧ w = w' := by
  rw [Lib.decDigits_one hu]
  have hx := Lib.hid (dig_slice u hu)
  have h1 : (u : Int) < 10 := by omega
  have h2 : ((u : Int) + 1).toNat = u + 1 := by omega
  have h3 : (u : Int) + 1 ≤ 10 := by omega
  have h4 : (0 : Int) ≤ (u : Int) + 1 := by omega
  go_enter Tryz.func33, Tryz.ntmps33
  go_wp2_with fail
  go_ret
  exact ⟨congrArg (fun b => Ending.returned (Value.string b)) hx.out, rfl⟩

theorem dig1' (u : Nat) (hu : u < 10) (w : World) : Calls Tryz.prog 33 #[.int .i64 u] w fun e w' => e = .returned (.string ⟨#[UInt8.ofNat (48 + u)]⟩) ∧ w = w' := by
  have := dig1 u hu w
  rw [Lib.decDigits_one hu] at this
  exact this
theorem dig2 (u : Nat) (h1 : ¬ u < 10) (h2 : u < 100) (w : World) : Calls Tryz.prog 33 #[.int .i64 u] w fun e w' => e = .returned (.string ⟨#[UInt8.ofNat (48 + u / 10), UInt8.ofNat (48 + u % 10)]⟩) ∧ w = w' := by
  obtain ⟨q, hq, hq2⟩ : ∃ q : Nat, (u : Int) / 10 = q ∧ q = u / 10 := ⟨u / 10, by omega, rfl⟩
  obtain ⟨r, hr, hr2⟩ : ∃ r : Nat, (u : Int) % 10 = r ∧ r = u % 10 := ⟨u % 10, by omega, rfl⟩
  have HQ := Lib.hid (dig1' q (by omega) w)
  have HR := Lib.hid (dig1' r (by omega) w)
  rw [← hq2, ← hr2]
  have h3 : ¬ (u : Int) < 10 := by omega
  have h4 : (0 : Int) ≤ u := by omega
  have h5 : (10 : Int) ≤ u := by omega
  have h6 : (u : Int) ≤ 1000 := by omega
  have h7 : (q : Int) ≤ 100 := by omega
  have h8 : (r : Int) ≤ 9 := by omega
  clear hq2 hr2 h1 h2
  generalize UInt8.ofNat (48 + q) = x at *
  generalize UInt8.ofNat (48 + r) = y at *
  have HC : Hid ((⟨#[x]⟩ : ByteArray) ++ ⟨#[y]⟩ = ⟨#[x, y]⟩) := catB [x] [y]
  go_enter Tryz.func33, Tryz.ntmps33
  go_wp2_with fail
  refine HQ.out.mono ?_
  rintro e w1 ⟨rfl, rfl⟩
  go_wp2_with fail
  refine HR.out.mono ?_
  rintro e w1 ⟨rfl, rfl⟩
  go_wp2_with fail
  go_ret
  exact ⟨congrArg (fun b => Ending.returned (Value.string b)) HC.out, rfl⟩
theorem dig3 (u : Nat) (h1 : ¬ u < 100) (h2 : u < 1000) (w : World) : Calls Tryz.prog 33 #[.int .i64 u] w fun e w' => e = .returned (.string ⟨#[UInt8.ofNat (48 + u / 10 / 10), UInt8.ofNat (48 + u / 10 % 10), UInt8.ofNat (48 + u % 10)]⟩) ∧ w = w' := by
  obtain ⟨q, hq, hq2⟩ : ∃ q : Nat, (u : Int) / 10 = q ∧ q = u / 10 := ⟨u / 10, by omega, rfl⟩
  obtain ⟨r, hr, hr2⟩ : ∃ r : Nat, (u : Int) % 10 = r ∧ r = u % 10 := ⟨u % 10, by omega, rfl⟩
  have HQ := Lib.hid (dig2 q (by omega) (by omega) w)
  have HR := Lib.hid (dig1' r (by omega) w)
  rw [← hq2, ← hr2]
  have h3 : ¬ (u : Int) < 10 := by omega
  have h4 : (0 : Int) ≤ u := by omega
  have h5 : (10 : Int) ≤ u := by omega
  have h6 : (u : Int) ≤ 1000 := by omega
  have h7 : (q : Int) ≤ 100 := by omega
  have h8 : (r : Int) ≤ 9 := by omega
  clear hq2 hr2 h1 h2
  generalize UInt8.ofNat (48 + q / 10) = x at *
  generalize UInt8.ofNat (48 + q % 10) = y at *
  generalize UInt8.ofNat (48 + r) = z at *
  have HC : Hid ((⟨#[x, y]⟩ : ByteArray) ++ ⟨#[z]⟩ = ⟨#[x, y, z]⟩) := catB [x, y] [z]
  go_enter Tryz.func33, Tryz.ntmps33
  go_wp2_with fail
  refine HQ.out.mono ?_
  rintro e w1 ⟨rfl, rfl⟩
  go_wp2_with fail
  refine HR.out.mono ?_
  rintro e w1 ⟨rfl, rfl⟩
  go_wp2_with fail
  go_ret
  exact ⟨congrArg (fun b => Ending.returned (Value.string b)) HC.out, rfl⟩
/-- the document's Digits are the library's -/
theorem rDigits_any (u : Nat) (hu : u ≤ 255) (w : World) : Calls Tryz.prog 33 #[.int .i64 u] w fun e w' => e = .returned (.string ⟨(Lib.decDigits u).toArray⟩) ∧ w = w' := by
  by_cases h1 : u < 10
  · exact dig1 u h1 w
  · by_cases h2 : u < 100
    · have := dig2 u h1 h2 w
      rw [Lib.decDigits_two h1 h2]
      exact this
    · have := dig3 u h2 (by omega) w
      rw [Lib.decDigits, dif_neg h1, Lib.decDigits_two (by omega) (by omega)]
      exact this

theorem bits_and32 (x y : Nat) (hx : x < 4294967296) (hy : y < 4294967296) : bits .and .u32 (x : Int) (y : Int) = ((x &&& y : Nat) : Int) := by
  show IntKind.u32.wrap ((BitVec.ofInt 32 x &&& BitVec.ofInt 32 y).toNat : Nat) = _
  have h : x &&& y < 4294967296 := Nat.lt_of_le_of_lt Nat.and_le_left hx
  rw [BitVec.toNat_and, BitVec.toNat_ofInt, BitVec.toNat_ofInt, IntKind.wrap_u32]
  have e1 : ((x : Int) % ((2 ^ 32 : Nat) : Int)).toNat = x := by omega
  have e2 : ((y : Int) % ((2 ^ 32 : Nat) : Int)).toNat = y := by omega
  rw [e1, e2]
  omega

theorem and255 (x : Int) (h0 : 0 ≤ x) (h1 : x ≤ 4294967295) : bits .and .u32 x 255 = x % 256 := by
  obtain ⟨y, rfl⟩ : ∃ y : Nat, x = y := ⟨x.toNat, by omega⟩
  have := bits_and32 y 255 (by omega) (by omega)
  rw [show (255 : Nat) = 2 ^ 8 - 1 from rfl, Nat.and_two_pow_sub_one_eq_mod] at this
  rw [show ((255 : Int)) = ((2 ^ 8 - 1 : Nat) : Int) from rfl, this]
  omega

theorem rAddr_any (a : Int) (h0 : 0 ≤ a) (h1 : a ≤ 4294967295) (w : World) : Calls Tryz.prog 34 #[.int .u32 a] w fun e w' => e = .returned (.string ⟨(addrL a).toArray⟩) ∧ w = w' := by
  have o3 := octet_le a 3
  have o2 := octet_le a 2
  have o1 := octet_le a 1
  have o0 := octet_le a 0
  have l3 := dec_len _ o3
  have l2 := dec_len _ o2
  have l1 := dec_len _ o1
  have l0 := dec_len _ o0
  have e3 : a / 16777216 = (octet a 3 : Int) := by unfold octet; rw [show (256 : Int) ^ 3 = 16777216 from by decide]; omega
  have e2 : bits .and .u32 (a / 65536) 255 = (octet a 2 : Int) := by rw [and255 _ (by omega) (by omega)]; unfold octet; rw [show (256 : Int) ^ 2 = 65536 from by decide]; omega
  have e1 : bits .and .u32 (a / 256) 255 = (octet a 1 : Int) := by rw [and255 _ (by omega) (by omega)]; unfold octet; rw [show (256 : Int) ^ 1 = 256 from by decide]; omega
  have e0 : bits .and .u32 a 255 = (octet a 0 : Int) := by rw [and255 _ h0 h1]; unfold octet; rw [show (256 : Int) ^ 0 = 1 from by decide]; omega
  have D3 := Lib.hid (rDigits_any _ o3 w)
  have D2 := Lib.hid (rDigits_any _ o2 w)
  have D1 := Lib.hid (rDigits_any _ o1 w)
  have D0 := Lib.hid (rDigits_any _ o0 w)
  have i3 : (octet a 3 : Int) ≤ 255 := by omega
  have i2 : (octet a 2 : Int) ≤ 255 := by omega
  have i1 : (octet a 1 : Int) ≤ 255 := by omega
  have i0 : (octet a 0 : Int) ≤ 255 := by omega
  unfold addrL
  generalize Lib.decDigits (octet a 3) = d3 at *
  generalize Lib.decDigits (octet a 2) = d2 at *
  generalize Lib.decDigits (octet a 1) = d1 at *
  generalize Lib.decDigits (octet a 0) = d0 at *
  generalize octet a 3 = n3 at *
  generalize octet a 2 = n2 at *
  generalize octet a 1 = n1 at *
  generalize octet a 0 = n0 at *
  have s1 : ¬ 9223372036854775807 < d3.length + 1 := by omega
  have s2 : ¬ 9223372036854775807 < d3.length + 1 + d2.length := by omega
  have s3 : ¬ 9223372036854775807 < d3.length + 1 + d2.length + 1 := by omega
  have s4 : ¬ 9223372036854775807 < d3.length + 1 + d2.length + 1 + d1.length := by omega
  have s5 : ¬ 9223372036854775807 < d3.length + 1 + d2.length + 1 + d1.length + 1 := by omega
  have s6 : ¬ 9223372036854775807 < d3.length + 1 + d2.length + 1 + d1.length + 1 + d0.length := by omega
  have HC : Hid (((((((⟨d3.toArray⟩ : ByteArray) ++ ⟨#[46]⟩) ++ ⟨d2.toArray⟩) ++ ⟨#[46]⟩) ++ ⟨d1.toArray⟩) ++ ⟨#[46]⟩) ++ ⟨d0.toArray⟩ = ⟨((((((([] ++ d3) ++ [46]) ++ d2) ++ [46]) ++ d1) ++ [46]) ++ d0).toArray⟩) := by
    have e46 : (⟨#[46]⟩ : ByteArray) = ⟨([46] : List UInt8).toArray⟩ := rfl
    show _ = _
    rw [e46, catB, catB, catB, catB, catB, catB, List.nil_append]
  clear l3 l2 l1 l0
  go_enter Tryz.func34, Tryz.ntmps34
  go_wp2_with fail
  refine D3.out.mono ?_
  rintro e w1 ⟨rfl, rfl⟩
  go_wp2_with fail
  refine D2.out.mono ?_
  rintro e w1 ⟨rfl, rfl⟩
  go_wp2_with fail
  refine D1.out.mono ?_
  rintro e w1 ⟨rfl, rfl⟩
  go_wp2_with fail
  refine D0.out.mono ?_
  rintro e w1 ⟨rfl, rfl⟩
  go_wp2_with fail
  go_ret
  exact ⟨congrArg (fun b => Ending.returned (Value.string b)) HC.out, rfl⟩

theorem dec_len_pow : ∀ (k u : Nat), u < 10 ^ (k + 1) → (Lib.decDigits u).length ≤ k + 1
  | 0, u, h => by rw [Lib.decDigits_one (by simpa using h)]; simp
  | k + 1, u, h => by
    by_cases h1 : u < 10
    · rw [Lib.decDigits_one h1]; simp
    · rw [Lib.decDigits, dif_neg h1, List.length_append]
      have h2 : u / 10 < 10 ^ (k + 1) := by rw [Nat.pow_succ] at h; omega
      have := dec_len_pow k (u / 10) h2
      simp; omega
theorem dec_len5 (u : Nat) (h : u ≤ 65535) : (Lib.decDigits u).length ≤ 5 := dec_len_pow 4 u (by omega)

theorem rDig_step (u : Nat) (h1 : ¬ u < 10) (h2 : u ≤ 65535) (HQ : ∀ w : World, Calls Tryz.prog 33 #[.int .i64 (u / 10 : Nat)] w fun e w' => e = .returned (.string ⟨(Lib.decDigits (u / 10)).toArray⟩) ∧ w = w') (w : World) :
    Calls Tryz.prog 33 #[.int .i64 u] w fun e w' => e = .returned (.string ⟨(Lib.decDigits u).toArray⟩) ∧ w = w' := by
  have HD : Hid (Lib.decDigits u = Lib.decDigits (u / 10) ++ [UInt8.ofNat (48 + u % 10)]) := by show _ = _; rw [Lib.decDigits, dif_neg h1]
  have HQ := Lib.hid (HQ w)
  have hlq := dec_len5 (u / 10) (by omega)
  generalize Lib.decDigits u = LU at *
  generalize Lib.decDigits (u / 10) = LQ at *
  obtain ⟨q, hq, hq2⟩ : ∃ q : Nat, (u : Int) / 10 = q ∧ q = u / 10 := ⟨u / 10, by omega, rfl⟩
  obtain ⟨r, hr, hr2⟩ : ∃ r : Nat, (u : Int) % 10 = r ∧ r = u % 10 := ⟨u % 10, by omega, rfl⟩
  rw [← hq2] at HQ
  rw [← hr2] at HD
  have HR := Lib.hid (dig1' r (by omega) w)
  have h3 : ¬ (u : Int) < 10 := by omega
  have h4 : (0 : Int) ≤ u := by omega
  have h5 : (10 : Int) ≤ u := by omega
  have h6 : (u : Int) ≤ 65535 := by omega
  have h7 : (q : Int) ≤ 6553 := by omega
  have h8 : (r : Int) ≤ 9 := by omega
  clear hq2 hr2 h1 h2
  generalize UInt8.ofNat (48 + r) = y at *
  have HC : Hid ((⟨LQ.toArray⟩ : ByteArray) ++ ⟨#[y]⟩ = ⟨LU.toArray⟩) := by show _ = _; rw [HD.out]; exact catB LQ [y]
  have hsz : ((⟨LQ.toArray⟩ : ByteArray).size : Int) ≤ 140737488355328 := by
    have : (⟨LQ.toArray⟩ : ByteArray).size = LQ.length := by simp [ByteArray.size]
    omega
  generalize hsq : (⟨LQ.toArray⟩ : ByteArray) = sq at *
  generalize (⟨LU.toArray⟩ : ByteArray) = su at *
  go_enter Tryz.func33, Tryz.ntmps33
  go_wp2_with fail
  refine HQ.out.mono ?_
  rintro e w1 ⟨rfl, rfl⟩
  go_wp2_with fail
  refine HR.out.mono ?_
  rintro e w1 ⟨rfl, rfl⟩
  go_wp2_with fail
  go_ret
  exact ⟨congrArg (fun b => Ending.returned (Value.string b)) HC.out, rfl⟩

/-- the document's Digits of any port are the library's -/
theorem rDigits_port (u : Nat) (hu : u ≤ 65535) (w : World) : Calls Tryz.prog 33 #[.int .i64 u] w fun e w' => e = .returned (.string ⟨(Lib.decDigits u).toArray⟩) ∧ w = w' := by
  have go : ∀ k u : Nat, u < 10 ^ k → u ≤ 65535 → ∀ w : World, Calls Tryz.prog 33 #[.int .i64 u] w fun e w' => e = .returned (.string ⟨(Lib.decDigits u).toArray⟩) ∧ w = w' := by
    intro k
    induction k with
    | zero =>
      intro u h1 h2 w
      obtain rfl : u = 0 := by simpa using h1
      exact dig1 0 (by omega) w
    | succ k ih =>
      intro u h1 h2 w
      by_cases h3 : u < 10
      · exact dig1 u h3 w
      · refine rDig_step u h3 h2 (fun w => ih (u / 10) ?_ (by omega) w) w
        rw [Nat.pow_succ] at h1
        omega
  exact go 5 u (by omega) hu w

theorem rAddr_same (a : Int) (h0 : 0 ≤ a) (h1 : a ≤ 4294967295) (w : World) : Calls Tryz.prog 34 #[.int .u32 a] w fun e w' => e = .returned (.string ⟨(addrL a).toArray⟩) ∧ Same w w' := (rAddr_any a h0 h1 w).mono fun _ _ ⟨h, k⟩ => ⟨h, k ▸ Same.refl _⟩
theorem rDigits_same (u : Nat) (hu : u ≤ 255) (w : World) : Calls Tryz.prog 33 #[.int .i64 u] w fun e w' => e = .returned (.string ⟨(Lib.decDigits u).toArray⟩) ∧ Same w w' := (rDigits_any u hu w).mono fun _ _ ⟨h, k⟩ => ⟨h, k ▸ Same.refl _⟩

end Go.Proofs.YtcemdajkddidnaaGreatDoor
