/- The developers' Addr and Text. They read a table of the library's: its content is asked. -/
import Derived.Test.YtmlabaaelkghlaaDoorPfxB
import Derived.Test.YtmlabaaelkghlaaDoorLives
import Derived.Test.YtmlabaaelkghlaaDoorShelf
import Derived.Lib.SmallJoins
import Derived.LoopN
namespace Go.Proofs.YtmlabaaelkghlaaDoor
open Go.RowKit
set_option linter.unusedVariables false
set_option maxRecDepth 100000

/-- the library's table of powers of ten is as its own text lays it -/
abbrev Tab (w : World) : Prop := Lib.TabIs Tryd.prog w "internal/strconv.uint64pow10" .u64 Lib.pow10Tab
theorem Tab.below {w w' : World} {B : Nat} (h : Tab w) (hb : Below B w w') (hB : w.heap.size ≤ B) : Tab w' :=
  Go.Joins.tab_stays (g := (Tryd.prog.globalNamed "internal/strconv.uint64pow10").get (by kernel_rfl)) (by kernel_rfl) h hb hB
theorem Tab.same {w w' : World} (h : Tab w) (hs : Same w w') : Tab w' := h.below hs (Nat.le_refl _)

theorem inAppend_any (u : Nat) (hu : u ≤ 255) (B : Nat) (v : Value) (l : List UInt8) (w : World) (ho : OwnB w B v l) (hB : B ≤ w.heap.size) (hl : l.length + 20 ≤ 140737488355328) (ht : Tab w) :
    Calls Tryd.prog 41 #[v, .int .u64 u, .int .i64 10] w fun e w' => ∃ v', e = .returned v' ∧ OwnB w' B v' (l ++ Lib.decDigits u) ∧ Below B w w' := by
  by_cases h : u < 100
  · exact (Any.internal_strconv_AppendUint_10_small Tryd.layAppendUint B l.length u h v (l.map b8) w ho hB hl).mono fun e w' ⟨v', h1, h2, h3, _⟩ =>
      ⟨v', h1, by unfold OwnB; rw [List.length_append, List.map_append]; exact h2, h3⟩
  · exact (Any.internal_strconv_AppendUint_10_big Tryd.layAppendUint B l.length u (by omega) (by omega) v (l.map b8) w ho hB hl ht).mono fun e w' ⟨v', h1, h2, h3, _⟩ =>
      ⟨v', h1, by unfold OwnB; rw [List.length_append, List.map_append]; exact h2, h3⟩

theorem append_any (u : Nat) (hu : u ≤ 255) (B : Nat) (v : Value) (l : List UInt8) (w : World) (ho : OwnB w B v l) (hB : B ≤ w.heap.size) (hl : l.length + 20 ≤ 140737488355328) (ht : Tab w) :
    Calls Tryd.prog 27 #[v, .int .u64 u, .int .i64 10] w fun e w' => ∃ v', e = .returned v' ∧ OwnB w' B v' (l ++ Lib.decDigits u) ∧ Below B w w' := by
  have HI := Lib.hid (inAppend_any u hu B v l w ho hB hl ht)
  go_enter Tryd.func27, Tryd.ntmps27
  go_wp2_with fail
  refine HI.out.mono ?_
  rintro e w1 ⟨v', rfl, h1, h2⟩
  go_wp2_with fail
  go_ret
  exact ⟨_, rfl, h1, h2⟩

theorem itoa_any (i : Nat) (hi : i < 100) (w : World) : Calls Tryd.prog 24 #[.int .i64 i] w fun e w' => e = .returned (.string ⟨(Lib.decDigits i).toArray⟩) ∧ Same w w' :=
  (Any.strconv_Itoa_small Tryd.layItoa i hi w).mono fun _ _ ⟨h1, h2⟩ => ⟨h1, h2 ▸ Same.refl _⟩

/-- the number of an address's text that stands at this place -/
def octet (a : Int) (i : Nat) : Nat := (a / 256 ^ i % 256).toNat
theorem octet_le (a : Int) (i : Nat) : octet a i ≤ 255 := by unfold octet; omega
/-- an address's text -/
def addrL (a : Int) : List UInt8 := (((((([] ++ Lib.decDigits (octet a 3)) ++ [46]) ++ Lib.decDigits (octet a 2)) ++ [46]) ++ Lib.decDigits (octet a 1)) ++ [46]) ++ Lib.decDigits (octet a 0)
theorem dec_len (u : Nat) (h : u ≤ 255) : (Lib.decDigits u).length ≤ 3 := by
  by_cases h1 : u < 10
  · rw [Lib.decDigits_one h1]; simp
  · by_cases h2 : u < 100
    · rw [Lib.decDigits_two h1 h2]; simp
    · rw [Lib.decDigits, dif_neg h1, Lib.decDigits_two (by omega) (by omega)]; simp

theorem Addr_any (a : Int) (h0 : 0 ≤ a) (h1 : a ≤ 4294967295) (w : World) (ht : Tab w) : Calls Tryd.prog 12 #[.int .u32 a] w fun e w' => e = .returned (.string ⟨(addrL a).toArray⟩) ∧ Same w w' := by
  have HT := Lib.hid ht
  have o3 := octet_le a 3
  have o2 := octet_le a 2
  have o1 := octet_le a 1
  have o0 := octet_le a 0
  have l3 := dec_len _ o3
  have l2 := dec_len _ o2
  have l1 := dec_len _ o1
  have l0 := dec_len _ o0
  have e3 : a / 16777216 = (octet a 3 : Int) := by unfold octet; rw [show (256 : Int) ^ 3 = 16777216 from by decide]; omega
  have e2 : a / 65536 % 256 = (octet a 2 : Int) := by unfold octet; rw [show (256 : Int) ^ 2 = 65536 from by decide]; omega
  have e1 : a / 256 % 256 = (octet a 1 : Int) := by unfold octet; rw [show (256 : Int) ^ 1 = 256 from by decide]; omega
  have e0 : a % 256 = (octet a 0 : Int) := by unfold octet; rw [show (256 : Int) ^ 0 = 1 from by decide]; omega
  unfold addrL
  generalize octet a 3 = n3 at *
  generalize octet a 2 = n2 at *
  generalize octet a 1 = n1 at *
  generalize octet a 0 = n0 at *
  go_enter Tryd.func12, Tryd.ntmps12
  go_wp2_with fail
  refine wp_loop_rounds 5 ?_
  rw [rounds_succ]
  go_wp2_with fail
  refine (append_any n3 o3 w.heap.size _ [] w (OwnB.nil w w.heap.size) (Same.refl w).size (by simp) (HT.out.same (Same.refl w))).mono ?_
  rintro e x1 ⟨v1, rfl, ho, hb⟩
  have HO1 := Lib.hid ho
  have HS1 : Hid (Same w x1) := Below.trans (Same.refl w) hb
  have hlen1 : ([] ++ Lib.decDigits n3).length ≤ 3 := by (rw [List.length_append]; simp; omega)
  clear ho hb
  have HX1 : Hid (Bs (x1.alloc (.cells #[.int .u8 46] 5)) (.slice (some ⟨x1.heap.size, 0, none⟩) 1 1) [46]) := Bs.made x1 [46] 5 (by simp)
  have HA1 := Lib.hid (HS1.out.trans (Same.alloc x1 (.cells #[.int .u8 46] 5)))
  have HB1 := Lib.hid (HO1.out.same (Same.alloc x1 (.cells #[.int .u8 46] 5)))
  have hp1 : (([] ++ Lib.decDigits n3) ++ [46]).length ≤ 4 := by rw [List.length_append]; simp only [List.length_cons, List.length_nil]; omega
  have hq1 : ([] ++ Lib.decDigits n3).length + [(46 : UInt8)].length ≤ 140737488355328 := by simp only [List.length_cons, List.length_nil]; omega
  go_wp2_with (first
    | (at_builtin; refine wpList_append_bs rfl _ (.tmp 19) rfl w HA1.out _ ([] ++ Lib.decDigits n3) rfl HB1.out _ [46] rfl HX1.out hq1 ?_; intro z1 y1 ho hs; have HP1 := Lib.hid ho; have HQ1 := Lib.hid hs; clear ho hs; refine Hid.out ?_))
  refine Lib.hid ?_
  obtain ⟨p1, hpp1⟩ : ∃ p, p = ([] ++ Lib.decDigits n3) ++ [46] := ⟨_, rfl⟩
  rw [← hpp1] at HP1 hp1
  have HH1 := Lib.hid hpp1
  clear hpp1 hlen1 hq1 HX1 HA1 HB1 HO1 HS1
  go_wp2_with fail
  rw [rounds_succ]
  go_wp2_with fail
  refine (append_any n2 o2 w.heap.size _ p1 y1 HP1.out HQ1.out.size (by omega) (HT.out.same HQ1.out)).mono ?_
  rintro e x2 ⟨v2, rfl, ho, hb⟩
  have HO2 := Lib.hid ho
  have HS2 : Hid (Same w x2) := Below.trans HQ1.out hb
  have hlen2 : (p1 ++ Lib.decDigits n2).length ≤ 7 := by (rw [List.length_append]; skip; omega)
  clear ho hb
  have HX2 : Hid (Bs (x2.alloc (.cells #[.int .u8 46] 5)) (.slice (some ⟨x2.heap.size, 0, none⟩) 1 1) [46]) := Bs.made x2 [46] 5 (by simp)
  have HA2 := Lib.hid (HS2.out.trans (Same.alloc x2 (.cells #[.int .u8 46] 5)))
  have HB2 := Lib.hid (HO2.out.same (Same.alloc x2 (.cells #[.int .u8 46] 5)))
  have hp2 : ((p1 ++ Lib.decDigits n2) ++ [46]).length ≤ 8 := by rw [List.length_append]; simp only [List.length_cons, List.length_nil]; omega
  have hq2 : (p1 ++ Lib.decDigits n2).length + [(46 : UInt8)].length ≤ 140737488355328 := by simp only [List.length_cons, List.length_nil]; omega
  go_wp2_with (first
    | (at_builtin; refine wpList_append_bs rfl _ (.tmp 19) rfl w HA2.out _ (p1 ++ Lib.decDigits n2) rfl HB2.out _ [46] rfl HX2.out hq2 ?_; intro z2 y2 ho hs; have HP2 := Lib.hid ho; have HQ2 := Lib.hid hs; clear ho hs; refine Hid.out ?_))
  refine Lib.hid ?_
  obtain ⟨p2, hpp2⟩ : ∃ p, p = (p1 ++ Lib.decDigits n2) ++ [46] := ⟨_, rfl⟩
  rw [← hpp2] at HP2 hp2
  have HH2 := Lib.hid hpp2
  clear hpp2 hlen2 hq2 HX2 HA2 HB2 HO2 HS2
  go_wp2_with fail
  rw [rounds_succ]
  go_wp2_with fail
  refine (append_any n1 o1 w.heap.size _ p2 y2 HP2.out HQ2.out.size (by omega) (HT.out.same HQ2.out)).mono ?_
  rintro e x3 ⟨v3, rfl, ho, hb⟩
  have HO3 := Lib.hid ho
  have HS3 : Hid (Same w x3) := Below.trans HQ2.out hb
  have hlen3 : (p2 ++ Lib.decDigits n1).length ≤ 11 := by (rw [List.length_append]; skip; omega)
  clear ho hb
  have HX3 : Hid (Bs (x3.alloc (.cells #[.int .u8 46] 5)) (.slice (some ⟨x3.heap.size, 0, none⟩) 1 1) [46]) := Bs.made x3 [46] 5 (by simp)
  have HA3 := Lib.hid (HS3.out.trans (Same.alloc x3 (.cells #[.int .u8 46] 5)))
  have HB3 := Lib.hid (HO3.out.same (Same.alloc x3 (.cells #[.int .u8 46] 5)))
  have hp3 : ((p2 ++ Lib.decDigits n1) ++ [46]).length ≤ 12 := by rw [List.length_append]; simp only [List.length_cons, List.length_nil]; omega
  have hq3 : (p2 ++ Lib.decDigits n1).length + [(46 : UInt8)].length ≤ 140737488355328 := by simp only [List.length_cons, List.length_nil]; omega
  go_wp2_with (first
    | (at_builtin; refine wpList_append_bs rfl _ (.tmp 19) rfl w HA3.out _ (p2 ++ Lib.decDigits n1) rfl HB3.out _ [46] rfl HX3.out hq3 ?_; intro z3 y3 ho hs; have HP3 := Lib.hid ho; have HQ3 := Lib.hid hs; clear ho hs; refine Hid.out ?_))
  refine Lib.hid ?_
  obtain ⟨p3, hpp3⟩ : ∃ p, p = (p2 ++ Lib.decDigits n1) ++ [46] := ⟨_, rfl⟩
  rw [← hpp3] at HP3 hp3
  have HH3 := Lib.hid hpp3
  clear hpp3 hlen3 hq3 HX3 HA3 HB3 HO3 HS3
  go_wp2_with fail
  rw [rounds_succ]
  go_wp2_with fail
  refine (append_any n0 o0 w.heap.size _ p3 y3 HP3.out HQ3.out.size (by omega) (HT.out.same HQ3.out)).mono ?_
  rintro e x4 ⟨v4, rfl, ho, hb⟩
  have HO4 := Lib.hid ho
  have HS4 : Hid (Same w x4) := Below.trans HQ3.out hb
  have hlen4 : (p3 ++ Lib.decDigits n0).length ≤ 15 := by (rw [List.length_append]; skip; omega)
  clear ho hb
  go_wp2_with fail
  rw [rounds_succ]
  have hr := run_str x4 v4 _ HO4.out.bs
  go_wp2_with fail
  go_ret
  have q1 := HH1.out
  have q2 := HH2.out
  have q3 := HH3.out
  subst q3 q2 q1
  exact ⟨rfl, HS4.out⟩

theorem addrL_len (a : Int) : (addrL a).length ≤ 15 := by
  have l3 := dec_len _ (octet_le a 3)
  have l2 := dec_len _ (octet_le a 2)
  have l1 := dec_len _ (octet_le a 1)
  have l0 := dec_len _ (octet_le a 0)
  unfold addrL
  simp only [List.length_append, List.length_cons, List.length_nil]
  omega
theorem catB (x y : List UInt8) : (⟨x.toArray⟩ : ByteArray) ++ ⟨y.toArray⟩ = ⟨(x ++ y).toArray⟩ := by
  refine ByteArray.ext ?_
  simp

/-- a prefix's text -/
def textL (a n : Int) : List UInt8 := addrL (canA a n) ++ [47] ++ Lib.decDigits (nearN n).toNat

theorem Text_any (a n : Int) (hc : 0 ≤ canA a n ∧ canA a n ≤ 4294967295) (w : World) (ht : Tab w) : Calls Tryd.prog 10 #[.agg #[.int .u32 a, .int .i64 n]] w fun e w' => e = .returned (.string ⟨(textL a n).toArray⟩) ∧ Same w w' := by
  have HC := fun w => Lib.hid (Canon_any a n w)
  have hn := nearN_le n
  have HT := Lib.hid ht
  have HAd := fun w h => Lib.hid (Addr_any (canA a n) hc.1 hc.2 w h)
  have HI := fun w => Lib.hid (itoa_any (nearN n).toNat (by omega) w)
  have hnn : (((nearN n).toNat : Nat) : Int) = nearN n := by omega
  rw [hnn] at HI
  unfold textL
  clear hc hnn hn
  have hdl : (Lib.decDigits (nearN n).toNat).length ≤ 3 := dec_len _ (by have := nearN_le n; omega)
  have hal := addrL_len (canA a n)
  generalize Lib.decDigits (nearN n).toNat = dl at *
  generalize addrL (canA a n) = al at *
  have HS1 : Hid (¬ 9223372036854775807 < al.length + 1) := by show ¬ _; omega
  have HS2 : Hid (¬ 9223372036854775807 < al.length + 1 + dl.length) := by show ¬ _; omega
  have HC3 : Hid ((⟨al.toArray⟩ : ByteArray) ++ ⟨#[47]⟩ ++ ⟨dl.toArray⟩ = ⟨(al ++ [47] ++ dl).toArray⟩) := by
    have e47 : (⟨#[47]⟩ : ByteArray) = ⟨([47] : List UInt8).toArray⟩ := rfl
    show _ = _
    rw [e47, catB, catB]
  generalize nearN n = m at *
  generalize canA a n = c at *
  have HA := Lib.hid (box1 a n w)
  have H0 := Lib.hid (Same.alloc w (pfxO a n))
  have hbk : (w.alloc (pfxO a n)).heap[w.heap.size]? = some (pfxO a n) := heap_alloc_new w (pfxO a n)
  go_enter Tryd.func10, Tryd.ntmps10
  go_wp2_with fail
  generalize hW : w.alloc (.cells #[.int .u32 a, .int .i64 n] 24) = W at *
  refine (HC _).out.mono ?_
  rintro e u ⟨rfl, hu⟩
  obtain ⟨c0, c1⟩ := HA.out u hu
  have hf0 : u.frozen? ⟨w.heap.size, 0, none⟩ = false := by have := hu.block hbk; simp [World.frozen?, this]
  have hf1 : u.frozen? ⟨w.heap.size, 1, none⟩ = false := by have := hu.block hbk; simp [World.frozen?, this]
  have H1 := Lib.hid (((H0.out.trans hu).set (g := w.heap.size) (j := 0) (by omega) (.int .u32 c)).set (g := w.heap.size) (j := 1) (by omega) (.int .i64 m))
  go_wp2_with fail
  have HB := Lib.hid (box1_set a n c m w.heap.size u c0 c1)
  generalize (u.setCell ⟨w.heap.size, 0, none⟩ (.int .u32 c)).setCell ⟨w.heap.size, 1, none⟩ (.int .i64 m) = V at *
  clear c0 c1 hf0 hf1
  refine reg_start (fun w' => Same V w') (by kernel_rfl) ?_
  refine reg_take (v := ?_) 0 (some 5) rfl rfl (by kernel_rfl) (fun _ _ _ h => h) (by kernel_rfl) ((Same.refl V).drew) ?_ ?_
  rotate_left
  · (intro w' hw'; obtain ⟨c0, c1⟩ := HB.out w' hw'; go_simp; try with_reducible rfl)
  try simp only [Act.put, List.setIfInBounds_toArray, List.set_cons_zero, List.set_cons_succ]
  refine reg_take (v := ?_) 1 (some 6) rfl rfl (by kernel_rfl) (fun _ _ _ h => h) (by kernel_rfl) ((Same.refl V).drew) ?_ ?_
  rotate_left
  · (intro w' hw'; obtain ⟨c0, c1⟩ := HB.out w' hw'; go_simp; try with_reducible rfl)
  try simp only [Act.put, List.setIfInBounds_toArray, List.set_cons_zero, List.set_cons_succ]
  refine reg_take (v := ?_) 4 (some 9) rfl rfl (by kernel_rfl) (fun _ _ _ h => h) (by kernel_rfl) ((Same.refl V).drew) ?_ ?_
  rotate_left
  · (intro w' hw'; obtain ⟨c0, c1⟩ := HB.out w' hw'; go_simp; try with_reducible rfl)
  try simp only [Act.put, List.setIfInBounds_toArray, List.set_cons_zero, List.set_cons_succ]
  refine reg_take (v := ?_) 5 (some 10) rfl rfl (by kernel_rfl) (fun _ _ _ h => h) (by kernel_rfl) ((Same.refl V).drew) ?_ ?_
  rotate_left
  · (intro w' hw'; obtain ⟨c0, c1⟩ := HB.out w' hw'; go_simp; try with_reducible rfl)
  try simp only [Act.put, List.setIfInBounds_toArray, List.set_cons_zero, List.set_cons_succ]
  refine reg_one 2 rfl (by kernel_rfl) (by kernel_rfl) ?_
  go_simp
  refine ((HAd _ (HT.out.same (H1.out.trans (Same.refl V).drew))).out).mono ?_
  rintro e u1 ⟨rfl, hs1⟩
  have hS1 := ((Same.refl V).drew).trans hs1
  skip
  refine ⟨hS1, ?_⟩
  try simp only [Act.put, List.setIfInBounds_toArray, List.set_cons_zero, List.set_cons_succ]
  refine reg_take (v := ?_) 3 (some 8) rfl rfl (by kernel_rfl) (fun _ _ _ h => h) (by kernel_rfl) (hS1) ?_ ?_
  rotate_left
  · (intro w' hw'; obtain ⟨c0, c1⟩ := HB.out w' hw'; go_simp; rw [if_neg HS1.out])
  try simp only [Act.put, List.setIfInBounds_toArray, List.set_cons_zero, List.set_cons_succ]
  refine reg_one 6 rfl (by kernel_rfl) (by kernel_rfl) ?_
  go_simp
  refine ((HI _).out).mono ?_
  rintro e u2 ⟨rfl, hs2⟩
  have hS2 := (hS1).trans hs2
  skip
  refine ⟨hS2, ?_⟩
  try simp only [Act.put, List.setIfInBounds_toArray, List.set_cons_zero, List.set_cons_succ]
  refine reg_take (v := ?_) 7 (some 12) rfl rfl (by kernel_rfl) (fun _ _ _ h => h) (by kernel_rfl) (hS2) ?_ ?_
  rotate_left
  · (intro w' hw'; obtain ⟨c0, c1⟩ := HB.out w' hw'; go_simp; rw [if_neg HS2.out])
  try simp only [Act.put, List.setIfInBounds_toArray, List.set_cons_zero, List.set_cons_succ]
  refine reg_take (v := ?_) 8 (some 2) rfl rfl (by kernel_rfl) (fun _ _ _ h => h) (by kernel_rfl) (hS2) ?_ ?_
  rotate_left
  · (intro w' hw'; obtain ⟨c0, c1⟩ := HB.out w' hw'; go_simp; try with_reducible rfl)
  try simp only [Act.put, List.setIfInBounds_toArray, List.set_cons_zero, List.set_cons_succ]
  refine reg_done (by kernel_rfl) ?_
  go_wp2_with fail
  go_ret
  exact ⟨congrArg (fun b => Ending.returned (Value.string b)) HC3.out, H1.out.trans hS2⟩
end Go.Proofs.YtmlabaaelkghlaaDoor
