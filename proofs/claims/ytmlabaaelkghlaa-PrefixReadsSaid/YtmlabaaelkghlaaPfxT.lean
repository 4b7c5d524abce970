/- The walk of PrefixReads. No condition. -/
import Derived.Test.YtmlabaaelkghlaaPfxL
import Derived.Test.YtmlabaaelkghlaaPfxPR
import Derived.Test.YtmlabaaelkghlaaPfxX
namespace Go.Proofs.Ytmlabaaelkghlaa
open Go.RowKit
set_option linter.unusedVariables false
set_option maxRecDepth 100000
attribute [local go_sem ↓] eq_pfx

theorem reads_long (ao : Option Addr) (n cap : Nat) (w : World) (h : 1000 < (n : Int)) :
    Calls Try.prog 4 #[.slice ao n cap] w fun e w' => e = .returned (.bool true) ∧ Same w w' := by
  go_enter Try.func4, Try.ntmps4
  go_wp2_with fail
  refine (pfx_lives w).mono ?_
  rintro e w1 ⟨rfl, hs⟩
  go_wp2_with fail
  go_ret
  exact ⟨rfl, hs⟩

theorem reads_walk (v : Value) (l : List UInt8) (w : World) (hb : Bs w v l) (hl : (l.length : Int) ≤ 1000) :
    Calls Try.prog 4 #[v] w fun e w' => e = .returned (.bool true) ∧ Same w w' := by
  have HB := Lib.hid hb
  have H1 := Lib.hid (pParse_any v l w hb (by omega))
  have H2 := fun w' (h : Bs w' v l) => Lib.hid (rpParse_any v l w' h (by omega))
  have H3 := fun w' (h : Bs w' v l) => Lib.hid (Read_any v l w' h (by omega))
  have H4 := fun w' (h : Bs w' v l) => Lib.hid (rRead_any v l w' h (by omega))
  have H5 := fun s all w' (h : SrcB w' s all l 0 0) => Lib.hid (pRead_any s all l 0 w' h (by omega))
  have H6 := fun s all w' (h : RSrcB w' s all l 0 0) => Lib.hid (rpRead_any s all l 0 w' h (by omega))
  generalize parseR l = R at *
  obtain ⟨x, n, b, hv⟩ : ∃ (x n : Int) (b : Bool), rdV (readM l 0) = .tuple #[.agg #[.int .u32 x, .int .i64 n], .bool b] := by
    rcases readM l 0 with _ | ⟨x, n, k⟩
    · exact ⟨0, 0, false, rfl⟩
    · exact ⟨x, n, true, rfl⟩
  rw [hv] at H5 H6
  clear hv
  obtain ⟨ao, cap, rfl, b1, b2, b3, b4⟩ := hb
  clear b4 b3
  go_enter Try.func4, Try.ntmps4
  go_wp2_with fail
  refine H1.out.mono ?_
  rintro e w1 ⟨r1, rfl, hp1, h1⟩
  have HS1 := Lib.hid h1
  have HP1 := Lib.hid hp1
  clear h1 hp1 H1
  go_wp2_with fail
  refine (H2 _ (HB.out.same HS1.out)).out.mono ?_
  rintro e w2 ⟨r2, rfl, hp2, h2⟩
  have HS2 := Lib.hid (HS1.out.trans h2)
  have HP1b := Lib.hid (HP1.out.same h2)
  have HP2 := Lib.hid hp2
  clear h2 hp2 H2 HP1 HS1
  go_wp2_with fail
  refine (H3 _ (HB.out.same HS2.out)).out.mono ?_
  rintro e w3 ⟨s, sv, rfl, hws, hsrc, h3, hown⟩
  have HT3 := Lib.hid h3
  have HSrc := Lib.hid hsrc
  clear h3 hsrc hown H3
  go_wp2_with fail
  refine (H4 _ (HB.out.same (HS2.out.trans HT3.out))).out.mono ?_
  rintro e w4 ⟨t, tv, rfl, hwt, hrsrc, h4, hown⟩
  have HT4 := Lib.hid (HT3.out.trans h4)
  have hst : s < w3.heap.size := HSrc.out.src.lt
  have HSrc4 := Lib.hid (HSrc.out.same h4)
  have HR4 := Lib.hid hrsrc
  have htv : tv.ownBlock ≠ some s := fun h => by have := hown s h; omega
  clear h4 hrsrc HSrc hown H4
  have hsz3 := HT3.out.size
  go_wp2_with fail
  refine (H5 s sv w4 HSrc4.out).out.mono ?_
  rintro e w5 ⟨rfl, hm, -⟩
  have HT5 : Hid (Same w2 w5) := Below.trans HT4.out (hm.below hws HT4.out.size)
  have HR5 := Lib.hid (HR4.out.other hm (by omega) htv)
  clear hm HSrc4 HR4 H5
  go_wp2_with fail
  have HA6 := Lib.hid (Same.alloc w5 (pfxO x n))
  have HT6 := Lib.hid (HT5.out.trans HA6.out)
  have HR6 := Lib.hid (HR5.out.same HA6.out)
  have hb6 : (w5.alloc (pfxO x n)).heap[w5.heap.size]? = some (pfxO x n) := heap_alloc_new w5 _
  have h56 : w5.heap.size ≠ t := by have := HR5.out.src.lt; omega
  generalize w5.alloc (.cells #[.int .u32 x, .int .i64 n] 24) = w6 at *
  refine (H6 t tv w6 HR6.out).out.mono ?_
  rintro e w7 ⟨rfl, hm, -⟩
  have HT7 : Hid (Same w2 w7) := Below.trans HT6.out (hm.below (by omega) HT6.out.size)
  have hb7 := box_keep hm hb6 h56
  clear hm HR6 HR5 H6 HA6 hb6
  go_wp2_with fail
  have HA8 := Lib.hid (Same.alloc w7 (pfxO x n))
  have HT8 := Lib.hid (HT7.out.trans HA8.out)
  have hb8 := HA8.out.block hb7
  have hc8 : (w7.alloc (pfxO x n)).heap[w7.heap.size]? = some (pfxO x n) := heap_alloc_new w7 _
  generalize w7.alloc (.cells #[.int .u32 x, .int .i64 n] 24) = w8 at *
  refine (rSame_eq r1 r2 _ w8 (HP1b.out.same HT8.out) (HP2.out.same HT8.out)).mono ?_
  rintro e w9 ⟨rfl, h9⟩
  have HT9 := Lib.hid (HT8.out.trans h9)
  obtain ⟨c0, c1, -, -⟩ := box_cells (h9.block hb8)
  obtain ⟨d0, d1, -, -⟩ := box_cells (h9.block hc8)
  clear hb7 hb8 hc8 HA8 HT8
  go_wp2_with fail
  refine (pfx_lives w9).mono ?_
  rintro e w10 ⟨rfl, h10⟩
  go_wp2_with fail
  go_ret
  exact ⟨rfl, HS2.out.trans (HT9.out.trans h10)⟩
end Go.Proofs.Ytmlabaaelkghlaa
