/- The walks of the law's get: the source and the document's tell the same. No condition beyond what each names. -/
import Derived.Test.YtphhnjfkniahdaaRefB
import Derived.Test.YtphhnjfkniahdaaLives
import Derived.Deep.RegionWith
import Derived.Deep.RegionHeld3
import Derived.Deep.DeepMust
namespace Go.Proofs.Ytphhnjfkniahdaa
open Go.RowKit
set_option linter.unusedVariables false

/-- a source and the document's, of the same bytes, both made from block B on -/
structure Both (B : Nat) (w : World) (s t : Nat) (l : List UInt8) (a : Nat) (er : Int) : Prop where
  src : ∃ v, SrcB w s v l a er ∧ v.ownBlock ≠ some t
  ref : ∃ v, RSrcB w t v l a er ∧ v.ownBlock ≠ some s
  ne : s ≠ t
  les : B ≤ s
  let_ : B ≤ t
  leB : B ≤ w.heap.size

theorem Both.same {B : Nat} {w w' : World} {s t : Nat} {l : List UInt8} {a : Nat} {er : Int} (hs : Same w w') (h : Both B w s t l a er) : Both B w' s t l a er := by
  obtain ⟨⟨v, h1, h2⟩, ⟨v', h3, h4⟩, h5, h6, h7, h8⟩ := h
  exact ⟨⟨v, h1.same hs, h2⟩, ⟨v', h3.same hs, h4⟩, h5, h6, h7, Nat.le_trans h8 hs.size⟩
theorem Same.below {B : Nat} {w w' : World} (hs : Same w w') (hB : B ≤ w.heap.size) : Below B w w' := Below.mono hs hB

theorem cell_mod {s : Nat} {w w' : World} (hm : Mod s w w') {b o : Nat} {v : Value} (hb : b ≠ s) (hc : w.cell? ⟨b, o, none⟩ = some v) : w'.cell? ⟨b, o, none⟩ = some v := by
  rw [World.cell?_of_block (w := w) (hm.block b (World.block_lt_of_cell? w _ hc) hb)]; exact hc
theorem cell_same {w w' : World} (hm : Same w w') {b o : Nat} {v : Value} (hc : w.cell? ⟨b, o, none⟩ = some v) : w'.cell? ⟨b, o, none⟩ = some v := by
  rw [Below.cell hm (World.block_lt_of_cell? w _ hc)]; exact hc

theorem get_U8 (n : Int) (s t B : Nat) (l : List UInt8) (a : Nat) (er : Int) (w : World) (h : Both B w s t l a er) (hl : l.length ≤ 140737488355328) :
    Calls Try.prog 17 #[.pointer (some ⟨s, 0, none⟩), .pointer (some ⟨t, 0, none⟩), .agg #[.int .i64 0, .int .i64 n]] w fun e w' => e = .returned (.bool true) ∧ Below B w w' ∧ Both B w' s t l (stepAt l a er 1) (stepErr l a er 1) := by
  have hsm := Lib.hid (Same.alloc w (.cells #[.int .i64 0, .int .i64 n] 42))
  obtain ⟨⟨v, h1, h2⟩, ⟨v', h3, h4⟩, h5, h6, h7, h8⟩ := h.same hsm.out
  have HU := Lib.hid (U8_made s v l a er _ h1)
  have HR : Hid (∀ w1, Mod s (w.alloc (.cells #[.int .i64 0, .int .i64 n] 42)) w1 → Calls Try.prog 34 #[.pointer (some ⟨t, 0, none⟩)] w1 _) := fun w1 hm => rU8_any t v' l a er w1 (h3.other hm (Ne.symm h5) h4) hl
  have H1 := Lib.hid h1
  have HB := h.leB
  clear h1 h3 h
  generalize numOut (stepOut l a er 1) = q at *
  generalize hat : stepAt l a er 1 = at2 at *
  generalize her : stepErr l a er 1 = er2 at *
  clear hat her
  go_enter Try.func17, Try.ntmps17
  go_wp2_with fail
  refine HU.out.mono ?_
  rintro e w1 ⟨rfl, hm1, hs1⟩
  have HM1 := Lib.hid hm1
  have HS1 := Lib.hid hs1
  clear hm1 hs1
  go_wp2_with fail
  refine (HR.out w1 HM1.out).mono ?_
  rintro e w2 ⟨rfl, hm2, hs2⟩
  have HM2 := Lib.hid hm2
  have HS2 := Lib.hid hs2
  clear hm2 hs2
  go_wp2_with fail
  go_ret
  refine ⟨rfl, ((hsm.out.below HB).trans (HM1.out.below h6 h8)).trans (HM2.out.below h7 (Nat.le_trans h8 HM1.out.size)), ⟨⟨v, HS1.out.other HM2.out h5 h2, h2⟩, ⟨v', HS2.out, h4⟩, h5, h6, h7, Nat.le_trans h8 (Nat.le_trans HM1.out.size HM2.out.size)⟩⟩

theorem get_U16 (n : Int) (s t B : Nat) (l : List UInt8) (a : Nat) (er : Int) (w : World) (h : Both B w s t l a er) (hl : l.length ≤ 140737488355328) :
    Calls Try.prog 17 #[.pointer (some ⟨s, 0, none⟩), .pointer (some ⟨t, 0, none⟩), .agg #[.int .i64 1, .int .i64 n]] w fun e w' => e = .returned (.bool true) ∧ Below B w w' ∧ Both B w' s t l (stepAt l a er 2) (stepErr l a er 2) := by
  have hsm := Lib.hid (Same.alloc w (.cells #[.int .i64 1, .int .i64 n] 42))
  obtain ⟨⟨v, h1, h2⟩, ⟨v', h3, h4⟩, h5, h6, h7, h8⟩ := h.same hsm.out
  have HU := Lib.hid (U16_made s v l a er _ h1)
  have HR : Hid (∀ w1, Mod s (w.alloc (.cells #[.int .i64 1, .int .i64 n] 42)) w1 → Calls Try.prog 35 #[.pointer (some ⟨t, 0, none⟩)] w1 _) := fun w1 hm => rU16_any t v' l a er w1 (h3.other hm (Ne.symm h5) h4) hl
  have H1 := Lib.hid h1
  have HB := h.leB
  clear h1 h3 h
  generalize numOut (stepOut l a er 2) = q at *
  generalize hat : stepAt l a er 2 = at2 at *
  generalize her : stepErr l a er 2 = er2 at *
  clear hat her
  go_enter Try.func17, Try.ntmps17
  go_wp2_with fail
  refine HU.out.mono ?_
  rintro e w1 ⟨rfl, hm1, hs1⟩
  have HM1 := Lib.hid hm1
  have HS1 := Lib.hid hs1
  clear hm1 hs1
  go_wp2_with fail
  refine (HR.out w1 HM1.out).mono ?_
  rintro e w2 ⟨rfl, hm2, hs2⟩
  have HM2 := Lib.hid hm2
  have HS2 := Lib.hid hs2
  clear hm2 hs2
  go_wp2_with fail
  go_ret
  refine ⟨rfl, ((hsm.out.below HB).trans (HM1.out.below h6 h8)).trans (HM2.out.below h7 (Nat.le_trans h8 HM1.out.size)), ⟨⟨v, HS1.out.other HM2.out h5 h2, h2⟩, ⟨v', HS2.out, h4⟩, h5, h6, h7, Nat.le_trans h8 (Nat.le_trans HM1.out.size HM2.out.size)⟩⟩

theorem get_U32 (n : Int) (s t B : Nat) (l : List UInt8) (a : Nat) (er : Int) (w : World) (h : Both B w s t l a er) (hl : l.length ≤ 140737488355328) :
    Calls Try.prog 17 #[.pointer (some ⟨s, 0, none⟩), .pointer (some ⟨t, 0, none⟩), .agg #[.int .i64 2, .int .i64 n]] w fun e w' => e = .returned (.bool true) ∧ Below B w w' ∧ Both B w' s t l (stepAt l a er 4) (stepErr l a er 4) := by
  have hsm := Lib.hid (Same.alloc w (.cells #[.int .i64 2, .int .i64 n] 42))
  obtain ⟨⟨v, h1, h2⟩, ⟨v', h3, h4⟩, h5, h6, h7, h8⟩ := h.same hsm.out
  have HU := Lib.hid (U32_made s v l a er _ h1)
  have HR : Hid (∀ w1, Mod s (w.alloc (.cells #[.int .i64 2, .int .i64 n] 42)) w1 → Calls Try.prog 36 #[.pointer (some ⟨t, 0, none⟩)] w1 _) := fun w1 hm => rU32_any t v' l a er w1 (h3.other hm (Ne.symm h5) h4) hl
  have H1 := Lib.hid h1
  have HB := h.leB
  clear h1 h3 h
  generalize numOut (stepOut l a er 4) = q at *
  generalize hat : stepAt l a er 4 = at2 at *
  generalize her : stepErr l a er 4 = er2 at *
  clear hat her
  go_enter Try.func17, Try.ntmps17
  go_wp2_with fail
  refine HU.out.mono ?_
  rintro e w1 ⟨rfl, hm1, hs1⟩
  have HM1 := Lib.hid hm1
  have HS1 := Lib.hid hs1
  clear hm1 hs1
  go_wp2_with fail
  refine (HR.out w1 HM1.out).mono ?_
  rintro e w2 ⟨rfl, hm2, hs2⟩
  have HM2 := Lib.hid hm2
  have HS2 := Lib.hid hs2
  clear hm2 hs2
  go_wp2_with fail
  go_ret
  refine ⟨rfl, ((hsm.out.below HB).trans (HM1.out.below h6 h8)).trans (HM2.out.below h7 (Nat.le_trans h8 HM1.out.size)), ⟨⟨v, HS1.out.other HM2.out h5 h2, h2⟩, ⟨v', HS2.out, h4⟩, h5, h6, h7, Nat.le_trans h8 (Nat.le_trans HM1.out.size HM2.out.size)⟩⟩

set_option maxHeartbeats 3200000 in
theorem get_Bytes (n : Int) (s t B : Nat) (l : List UInt8) (a : Nat) (er : Int) (w : World) (h : Both B w s t l a er) (hl : l.length ≤ 140737488355328) :
    Calls Try.prog 17 #[.pointer (some ⟨s, 0, none⟩), .pointer (some ⟨t, 0, none⟩), .agg #[.int .i64 3, .int .i64 n]] w fun e w' => e = .returned (.bool true) ∧ Below B w w' ∧ Both B w' s t l (stepAt l a er n) (stepErr l a er n) := by
  have hsm0 := Same.alloc w (.cells #[.int .i64 3, .int .i64 n] 42)
  have hsm := Lib.hid (Same.drew hsm0)
  obtain ⟨⟨v, h1, h2⟩, ⟨v', h3, h4⟩, h5, h6, h7, h8⟩ := h.same hsm.out
  have hls : s < w.heap.size := (h.src.choose_spec.1).src.lt
  have hlt : t < w.heap.size := (h.ref.choose_spec.1).src.lt
  have HU := Lib.hid (Bytes_made s v l a er n _ h1 hl)
  have HR : Hid (∀ w1, Mod s (w.alloc (.cells #[.int .i64 3, .int .i64 n] 42)).drew w1 → Calls Try.prog 37 #[.pointer (some ⟨t, 0, none⟩), .int .i64 n] w1 _) := fun w1 hm => rBytes_any t v' l a er n w1 (h3.other hm (Ne.symm h5) h4) hl
  have HB := h.leB
  have HC : Hid ((w.alloc (.cells #[.int .i64 3, .int .i64 n] 42)).drew.cell? ⟨w.heap.size, 1, none⟩ = some (.int .i64 n)) := by show _ = _; simp
  have HN1 : w.heap.size ≠ s := by omega
  have HN2 : w.heap.size ≠ t := by omega
  clear h1 h3 h hsm0
  generalize listOut (stepOut l a er n) = q at *
  generalize hat : stepAt l a er n = at2 at *
  generalize her : stepErr l a er n = er2 at *
  clear hat her
  go_enter Try.func17, Try.ntmps17
  go_wp2_with fail
  have c0 := HC.out
  go_region_with (first
      | (go_at_call 28; refine HU.out.mono ?_; rintro e w1 ⟨x1, rfl, ho1, hm1, hs1⟩; have hstr1 := run_str w1 x1 _ ho1.bs; have HM1 := Lib.hid hm1; have HS1 := Lib.hid hs1; have HO1 := Lib.hid ho1; have c1 := cell_mod hm1 HN1 c0; clear hm1 hs1 ho1)
      | (go_at_call 37; refine (HR.out w1 HM1.out).mono ?_; rintro e w2 ⟨x2, rfl, ho2, hm2, hs2⟩; have hstr2 := run_str w2 x2 _ ho2.bs; have hstr3 := run_str w2 x1 _ (HO1.out.bs.mod hm2 (by intro he; have := (HO1.out.lt _ he).1; simp at this; omega)); have HM2 := Lib.hid hm2; have HS2 := Lib.hid hs2; clear hm2 hs2 ho2))
  all_goals (go_wp2_with fail; go_ret; refine ⟨rfl, ((hsm.out.below HB).trans (HM1.out.below h6 h8)).trans (HM2.out.below h7 (Nat.le_trans h8 HM1.out.size)), ⟨⟨v, HS1.out.other HM2.out h5 h2, h2⟩, ⟨v', HS2.out, h4⟩, h5, h6, h7, Nat.le_trans h8 (Nat.le_trans HM1.out.size HM2.out.size)⟩⟩)

end Go.Proofs.Ytphhnjfkniahdaa
