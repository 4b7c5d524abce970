/- Contracts of the document's own answers for layer 7: fault, Hop, one, Faults and Same of what is the same. No condition beyond what each names. -/
import Derived.Test.YtidijoncngfppaaAtM
import Derived.Test.YtidijoncngfppaaRefP
import Derived.Test.YtidijoncngfppaaLives
namespace Go.Proofs.Ytidijoncngfppaa
open Go.RowKit
set_option linter.unusedVariables false

set_option maxRecDepth 100000 in
theorem rFaults_same (f : Ft) (va vb : Value) (w : World) (ha : Bs w va f.data) (hb : Bs w vb f.data) :
    Calls Try.prog 20 #[ftV f va, ftV f vb] w fun e w' => e = .returned (.bool true) ∧ Same w w' := by
  obtain ⟨c, s, d⟩ := f
  simp only at ha hb
  have H0 := Lib.hid (Same.alloc w (ftO 44 ⟨c, s, d⟩ va))
  have H1 := Lib.hid (Same.alloc (w.alloc (ftO 44 ⟨c, s, d⟩ va)) (ftO 44 ⟨c, s, d⟩ vb))
  have hr1 := run_str _ _ d (ha.same (H0.out.trans H1.out))
  have hr2 := run_str _ _ d (hb.same (H0.out.trans H1.out))
  obtain ⟨x0, x1, x2⟩ := FtAt.of (H1.out.block (heap_alloc_new w (ftO 44 ⟨c, s, d⟩ va)))
  obtain ⟨y0, y1, y2⟩ := FtAt.of (heap_alloc_new (w.alloc (ftO 44 ⟨c, s, d⟩ va)) (ftO 44 ⟨c, s, d⟩ vb))
  generalize (⟨d.toArray⟩ : ByteArray) = sd at hr1 hr2
  obtain ⟨a1, c1, rfl, -, -, -, -⟩ := ha
  obtain ⟨a2, c2, rfl, -, -, -, -⟩ := hb
  generalize d.length = n at *
  go_enter Try.func20, Try.ntmps20
  go_wp2_with fail
  go_ret
  exact ⟨rfl, H0.out.trans H1.out⟩

theorem bs_255 (w : World) : Bs (w.alloc (.cells #[.int .u8 255] 5)) (.slice (some ⟨w.heap.size, 0, none⟩) 1 1) [byteAt 255 0] := by
  simpa [b8_byteAt] using Bs.made w [byteAt 255 0] 5 (by simp)
theorem bs_255_at (w : World) (o1 o2 : Obj) : Bs (((w.alloc o1).alloc o2).alloc (.cells #[.int .u8 255] 5)) (.slice (some ⟨w.heap.size + 1 + 1, 0, none⟩) 1 1) [byteAt 255 0] := by
  have := bs_255 ((w.alloc o1).alloc o2)
  rw [show ((w.alloc o1).alloc o2).heap.size = w.heap.size + 1 + 1 from by simp] at this
  exact this
theorem one0_at (w : World) (o1 o2 : Obj) (n : Int) : Bs (((w.alloc o1).alloc o2).alloc (.cells #[.int .u8 (n % 256)] 5)) (.slice (some ⟨w.heap.size + 1 + 1, 0, none⟩) 1 1) [byteAt n 0] := by
  have := Bs.one0 ((w.alloc o1).alloc o2) n
  rw [show ((w.alloc o1).alloc o2).heap.size = w.heap.size + 1 + 1 from by simp] at this
  exact this
theorem one0_low (w : World) (o1 o2 : Obj) (n : Nat) (h : n ≤ 255) : Bs (((w.alloc o1).alloc o2).alloc (.cells #[.int .u8 (n : Int)] 5)) (.slice (some ⟨w.heap.size + 1 + 1, 0, none⟩) 1 1) [byteAt n 0] := by
  have := one0_at w o1 o2 n
  rw [show (n : Int) % 256 = n from by omega] at this
  exact this
theorem Bs.form0 {w : World} {v : Value} {l : List UInt8} (h : Bs w v l) {n : Nat} (hn : l.length = n) : ∃ ao cap, v = .slice ao n cap := by
  obtain ⟨ao, cap, rfl, -, -, -, -⟩ := h
  exact ⟨ao, cap, by rw [hn]⟩
theorem Bs.form {w : World} {v : Value} {l : List UInt8} (hb : Bs w v l) (h : 0 < l.length) : ∃ b o cap, v = .slice (some ⟨b, o, none⟩) l.length cap ∧ l.length ≤ cap ∧ cap ≤ 9223372036854775807 ∧
    ∀ w', Same w w' → ∀ j u, l[j]? = some u → w'.cell? ⟨b, o + j, none⟩ = some (.int .u8 (u.toNat : Int)) := by
  obtain ⟨ao, cap, rfl, h1, h2, h3, h4⟩ := hb
  cases ao with
  | none => have := h3 rfl; omega
  | some ad =>
    obtain ⟨b, o, sp⟩ := ad
    have hsp := (h4 _ rfl).1 (by intro e; subst e; simp at h)
    simp only at hsp
    subst hsp
    refine ⟨b, o, cap, rfl, h1, h2, fun w' hs j u hu => ?_⟩
    have hc := (h4 _ rfl).2 j u hu
    rw [row_add] at hc
    rw [Below.cell hs (World.block_lt_of_cell? w _ hc)]
    exact hc
theorem OwnB.two (w : World) (a b : Int) : OwnB (w.alloc (.cells #[.int .u8 (a % 256), .int .u8 (b % 256)] 5)) w.heap.size (.slice (some ⟨w.heap.size, 0, none⟩) 2 2) [byteAt a 0, byteAt b 0] := by
  have := World.ownsRow_lit (base := w.heap.size) (e := 5) (size := 1) w #[.int .u8 (a % 256), .int .u8 (b % 256)] 2 (Nat.le_refl _) (by unfold maxLen; omega) (by simp)
  unfold OwnB
  simpa [b8_byteAt] using this
theorem two_at (w : World) (ob : Obj) (a b : Int) : OwnB ((w.alloc ob).alloc (.cells #[.int .u8 (a % 256), .int .u8 (b % 256)] 5)) w.heap.size (.slice (some ⟨w.heap.size + 1, 0, none⟩) 2 2) [byteAt a 0, byteAt b 0] := by
  have := (OwnB.two (w.alloc ob) a b).mono (Same.alloc w ob).size
  rw [show (w.alloc ob).heap.size = w.heap.size + 1 from by simp] at this
  exact this

end Go.Proofs.Ytidijoncngfppaa
