/- The developers' layer 7: an attribute taken. No condition beyond what each names. -/
import Derived.Test.YtfhaaenmllkbnaaAtDK
namespace Go.Proofs.Ytfhaaenmllkbnaa
open Go.RowKit
set_option linter.unusedVariables false
set_option maxRecDepth 100000

/-- what take leaves -/
def TookD (w : World) (A : Nat) (a : At) (vp : Value) (r : Rw) (e : Ending) (w' : World) : Prop :=
  e = .returned (.int .i64 (takeE r)) ∧ (takeE r = 0 → ∃ vp', w'.heap[A]? = some (atO 35 (takeS a r) vp') ∧ Rs intLay w' vp' (takeS a r).path ∧ (∀ g, vp'.ownBlock = some g → g ≠ A ∧ (vp.ownBlock = some g ∨ w.heap.size ≤ g))) ∧ Kept [A] w w'
theorem Kept.drop {w w1 w2 : World} {s A : Nat} (h : Same w w1) (k : Kept [s, A] w1 w2) (hs : w.heap.size ≤ s) : Kept [A] w w2 :=
  ⟨k.os.trans h.os, k.tape.trans h.tape, k.output.trans h.output, Nat.le_trans h.size k.size, fun i hi hn => (k.block i (Nat.lt_of_lt_of_le hi h.size) (by simp at hn ⊢; omega)).trans (Below.block h i hi)⟩

set_option maxHeartbeats 2000000 in
theorem dtake_1 (A : Nat) (a : At) (vp : Value) (fl : Int) (vl : List UInt8) (ao : Option Addr) (n cap : Nat) (w : World) (hk : w.heap[A]? = some (atO 35 a vp)) (hp : Rs intLay w vp a.path) (hpA : ∀ g, vp.ownBlock = some g → g ≠ A)
    (hb : Bs w (.slice ao n cap) vl) (hn : vl.length = n) (hf : 0 ≤ fl ∧ fl ≤ 255) (hl : (n : Int) ≤ 3000000) :
    Calls Try.prog 33 #[.pointer (some ⟨A, 0, none⟩), .agg #[.int .i64 fl, .int .i64 1, .slice ao n cap]] w (TookD w A a vp ⟨fl, 1, vl⟩) := by
  have hAl := (Array.getElem?_eq_some_iff.1 hk).1
  obtain ⟨q, hq⟩ : ∃ q, bits .andNot .i64 fl 16 = q := ⟨_, rfl⟩
  have hqe := i64_andNot16 fl hf.1 hf.2
  rw [hq] at hqe
  have hfw := fl_want fl 64 hf (by omega)
  rw [← hqe] at hfw
  have hkn : ¬ ¬ knownT 1 := by unfold knownT; omega
  have hwt : wantT 1 = 64 := by decide
  have HA := Lib.hid ((Same.alloc w (.cells #[.pointer (some ⟨A, 0, none⟩)] 89)).trans (Same.alloc _ (.cells #[.int .i64 fl, .int .i64 1, .slice ao n cap] 59)))
  have HC : Hid (((w.alloc (.cells #[.pointer (some ⟨A, 0, none⟩)] 89)).alloc (.cells #[.int .i64 fl, .int .i64 1, .slice ao n cap] 59)).cell? ⟨w.heap.size, 0, none⟩ = some (.pointer (some ⟨A, 0, none⟩))) := by
    show _ = _
    have h1 := (Same.alloc (w.alloc (.cells #[.pointer (some ⟨A, 0, none⟩)] 89)) (.cells #[.int .i64 fl, .int .i64 1, .slice ao n cap] 59)).block (heap_alloc_new w (.cells #[.pointer (some ⟨A, 0, none⟩)] 89))
    simp [World.cell?, h1]
  have HK := Lib.hid (HA.out.block hk)
  have HB := Lib.hid (hb.same HA.out)
  have HR : Hid (((w.alloc (.cells #[.pointer (some ⟨A, 0, none⟩)] 89)).alloc (.cells #[.int .i64 fl, .int .i64 1, .slice ao n cap] 59)).heap[w.heap.size + 1]? = some (.cells #[.int .i64 fl, .int .i64 1, .slice ao n cap] 59)) := by
    have := heap_alloc_new (w.alloc (.cells #[.pointer (some ⟨A, 0, none⟩)] 89)) (.cells #[.int .i64 fl, .int .i64 1, .slice ao n cap] 59)
    rw [show (w.alloc (.cells #[.pointer (some ⟨A, 0, none⟩)] 89)).heap.size = w.heap.size + 1 from by simp] at this
    exact this
  generalize hW : ((w.alloc (.cells #[.pointer (some ⟨A, 0, none⟩)] 89)).alloc (.cells #[.int .i64 fl, .int .i64 1, .slice ao n cap] 59)) = W at HA HC HK HB HR
  obtain ⟨x0, x1, x2⟩ := RwAt.of (r := ⟨fl, 1, []⟩) (vo := .slice ao n cap) HR.out
  simp only at x0 x1 x2
  by_cases hw : q = 64
  · have hne : (q != 64) = false := by simp [hw]
    have hfl : ¬ ¬ (fl = 64 ∨ fl = 64 + 16) := fun hx => hfw.2 hx hw
    by_cases hsz : n = 1
    · have e0 : ¬ (0 < sizeT 1 ∧ vl.length ≠ sizeT 1) := fun hx => hx.2 (by rw [hn, hsz]; rfl)
      have hE : takeE ⟨fl, 1, vl⟩ = (if 2 < nmb vl 0 1 then 6 else 0) := by
        unfold takeE
        simp only
        rw [if_neg hkn, hwt, if_neg hfl, if_neg e0]
        rfl
      have hS : takeE ⟨fl, 1, vl⟩ = 0 → takeS a ⟨fl, 1, vl⟩ = { a with origin := nmb vl 0 1 } := fun h0 => by
        unfold takeS
        rw [if_neg (by simp [h0])]
        rfl
      have HAsk := Lib.hid (ask_step1 W fl 1 vl ao n cap HB.out (by omega) 64 (1) q w.heap.size (fun k w' => TookD w A a vp ⟨fl, 1, vl⟩ (.returned (.int .i64 k)) w') hq hne (by decide) (by simp [hsz]) (by
        intro w1 s sv hs1 hle hsrc hsv
        have hz := HA.out.size
        refine (tk1_any s A w.heap.size sv vl w1 a vp hsrc ((Below.cell hs1 (World.block_lt_of_cell? W _ HC.out)).trans HC.out) (hs1.block HK.out) (by omega) (by have := World.block_lt_of_cell? W _ HC.out; simp at this; omega) (by omega) (by omega)).mono ?_
        rintro e w2 ⟨rfl, h2, h3⟩
        have h4 := Kept.drop (HA.out.trans hs1) h3 (by omega)
        refine ⟨_, rfl, by rw [hE], fun h0 => ⟨vp, by rw [hS h0]; exact h2, by rw [hS h0]; exact hp.kept h4 (fun g hg => by simpa using hpA g hg), fun g hg => ⟨hpA g hg, .inl hg⟩⟩, h4⟩))
      clear hE hS hq hne hqe hfw hk hp hpA hb hn hf hl hfl hkn hwt e0 hsz hw
      go_enter Try.func33, Try.ntmps33
      go_wp2_with fail
      clear hW
      refine HAsk.out.mono ?_
      rintro e w3 ⟨k, rfl, hT⟩
      have HT := Lib.hid hT
      clear hT
      go_wp2_with fail
      go_ret
      exact HT.out
    · have e0 : 0 < sizeT 1 ∧ vl.length ≠ sizeT 1 := ⟨by decide, fun hx => hsz (by rw [← hn, hx]; rfl)⟩
      have hE : takeE ⟨fl, 1, vl⟩ = 5 := by
        unfold takeE
        simp only
        rw [if_neg hkn, hwt, if_neg hfl, if_pos e0]
      have HT := Lib.hid (fun w' (hs : Same w w') => (show TookD w A a vp ⟨fl, 1, vl⟩ (.returned (.int .i64 5)) w' from ⟨by rw [hE], fun h0 => by rw [hE] at h0; exact absurd h0 (by decide), (Kept.refl [A] w).same hs⟩))
      have HAsk := Lib.hid (ask_size fl 1 ao n cap 64 1 q (.func (.func 53) #[] #[.pointer (some ⟨w.heap.size, 0, none⟩)]) W hq hne (by decide) (by simp; omega))
      clear hE hq hne hqe hfw hk hp hpA hb hn hf hl hfl hkn hwt e0 hsz hw
      go_enter Try.func33, Try.ntmps33
      go_wp2_with fail
      clear hW
      refine HAsk.out.mono ?_
      rintro e w3 ⟨rfl, hs3⟩
      have HS3 := Lib.hid (HA.out.trans hs3)
      clear hs3
      go_wp2_with fail
      go_ret
      exact HT.out _ HS3.out
  · have hne : (q != 64) = true := by simpa using hw
    have hE : takeE ⟨fl, 1, vl⟩ = 4 := by
      unfold takeE
      simp only
      rw [if_neg hkn, hwt, if_pos (hfw.1 hw)]
    have HT := Lib.hid (fun w' (hs : Same w w') => (show TookD w A a vp ⟨fl, 1, vl⟩ (.returned (.int .i64 4)) w' from ⟨by rw [hE], fun h0 => by rw [hE] at h0; exact absurd h0 (by decide), (Kept.refl [A] w).same hs⟩))
    have HAsk := Lib.hid (ask_flags fl 1 ao n cap 64 (1) q (.func (.func 53) #[] #[.pointer (some ⟨w.heap.size, 0, none⟩)]) W hq hne)
    clear hE hq hne hqe hfw hk hp hpA hb hn hf hl hkn hwt hw
    go_enter Try.func33, Try.ntmps33
    go_wp2_with fail
    clear hW
    refine HAsk.out.mono ?_
    rintro e w3 ⟨rfl, hs3⟩
    have HS3 := Lib.hid (HA.out.trans hs3)
    clear hs3
    go_wp2_with fail
    go_ret
    exact HT.out _ HS3.out

set_option maxHeartbeats 2000000 in
theorem dtake_2 (A : Nat) (a : At) (vp : Value) (fl : Int) (vl : List UInt8) (ao : Option Addr) (n cap : Nat) (w : World) (hk : w.heap[A]? = some (atO 35 a vp)) (hp : Rs intLay w vp a.path) (hpA : ∀ g, vp.ownBlock = some g → g ≠ A)
    (hb : Bs w (.slice ao n cap) vl) (hn : vl.length = n) (hf : 0 ≤ fl ∧ fl ≤ 255) (hl : (n : Int) ≤ 3000000) :
    Calls Try.prog 33 #[.pointer (some ⟨A, 0, none⟩), .agg #[.int .i64 fl, .int .i64 2, .slice ao n cap]] w (TookD w A a vp ⟨fl, 2, vl⟩) := by
  have hAl := (Array.getElem?_eq_some_iff.1 hk).1
  obtain ⟨q, hq⟩ : ∃ q, bits .andNot .i64 fl 16 = q := ⟨_, rfl⟩
  have hqe := i64_andNot16 fl hf.1 hf.2
  rw [hq] at hqe
  have hfw := fl_want fl 64 hf (by omega)
  rw [← hqe] at hfw
  have hkn : ¬ ¬ knownT 2 := by unfold knownT; omega
  have hwt : wantT 2 = 64 := by decide
  have HA := Lib.hid ((Same.alloc w (.cells #[.pointer (some ⟨A, 0, none⟩)] 89)).trans (Same.alloc _ (.cells #[.int .i64 fl, .int .i64 2, .slice ao n cap] 59)))
  have HC : Hid (((w.alloc (.cells #[.pointer (some ⟨A, 0, none⟩)] 89)).alloc (.cells #[.int .i64 fl, .int .i64 2, .slice ao n cap] 59)).cell? ⟨w.heap.size, 0, none⟩ = some (.pointer (some ⟨A, 0, none⟩))) := by
    show _ = _
    have h1 := (Same.alloc (w.alloc (.cells #[.pointer (some ⟨A, 0, none⟩)] 89)) (.cells #[.int .i64 fl, .int .i64 2, .slice ao n cap] 59)).block (heap_alloc_new w (.cells #[.pointer (some ⟨A, 0, none⟩)] 89))
    simp [World.cell?, h1]
  have HK := Lib.hid (HA.out.block hk)
  have HB := Lib.hid (hb.same HA.out)
  have HR : Hid (((w.alloc (.cells #[.pointer (some ⟨A, 0, none⟩)] 89)).alloc (.cells #[.int .i64 fl, .int .i64 2, .slice ao n cap] 59)).heap[w.heap.size + 1]? = some (.cells #[.int .i64 fl, .int .i64 2, .slice ao n cap] 59)) := by
    have := heap_alloc_new (w.alloc (.cells #[.pointer (some ⟨A, 0, none⟩)] 89)) (.cells #[.int .i64 fl, .int .i64 2, .slice ao n cap] 59)
    rw [show (w.alloc (.cells #[.pointer (some ⟨A, 0, none⟩)] 89)).heap.size = w.heap.size + 1 from by simp] at this
    exact this
  generalize hW : ((w.alloc (.cells #[.pointer (some ⟨A, 0, none⟩)] 89)).alloc (.cells #[.int .i64 fl, .int .i64 2, .slice ao n cap] 59)) = W at HA HC HK HB HR
  obtain ⟨x0, x1, x2⟩ := RwAt.of (r := ⟨fl, 2, []⟩) (vo := .slice ao n cap) HR.out
  simp only at x0 x1 x2
  by_cases hw : q = 64
  · have hne : (q != 64) = false := by simp [hw]
    have hfl : ¬ ¬ (fl = 64 ∨ fl = 64 + 16) := fun hx => hfw.2 hx hw
    · have e0 : ¬ (0 < sizeT 2 ∧ vl.length ≠ sizeT 2) := fun hx => absurd hx.1 (by decide)
      have hE : takeE ⟨fl, 2, vl⟩ = (if (pathL vl).isNone then 11 else 0) := by
        unfold takeE
        simp only
        rw [if_neg hkn, hwt, if_neg hfl, if_neg e0]
        rfl
      have hS : takeE ⟨fl, 2, vl⟩ = 0 → takeS a ⟨fl, 2, vl⟩ = { a with path := (pathL vl).getD [] } := fun h0 => by
        unfold takeS
        rw [if_neg (by simp [h0])]
        rfl
      have HAsk := Lib.hid (ask_step2 W fl 2 vl ao n cap HB.out (by omega) 64 (-1) q w.heap.size (fun k w' => TookD w A a vp ⟨fl, 2, vl⟩ (.returned (.int .i64 k)) w') hq hne (by decide) (by
        intro w1 s sv hs1 hle hsrc hsv
        have hz := HA.out.size
        refine (tk2_any s A w.heap.size sv vl w1 a vp hsrc ((Below.cell hs1 (World.block_lt_of_cell? W _ HC.out)).trans HC.out) (hs1.block HK.out) (by omega) (by have := World.block_lt_of_cell? W _ HC.out; simp at this; omega) (by omega) (by omega)).mono ?_
        rintro e w2 ⟨vp', rfl, h2, h5, h6, h3⟩
        have h4 := Kept.drop (HA.out.trans hs1) h3 (by omega)
        have hz1 := hs1.size
        refine ⟨_, rfl, by rw [hE], fun h0 => ⟨vp', by rw [hS h0]; exact h2, by rw [hS h0]; exact h5, fun g hg => ⟨by have := h6 g hg; omega, .inr (by have := h6 g hg; omega)⟩⟩, h4⟩))
      clear hE hS hq hne hqe hfw hk hp hpA hb hn hf hl hfl hkn hwt e0 hw
      go_enter Try.func33, Try.ntmps33
      go_wp2_with fail
      clear hW
      refine HAsk.out.mono ?_
      rintro e w3 ⟨k, rfl, hT⟩
      have HT := Lib.hid hT
      clear hT
      go_wp2_with fail
      go_ret
      exact HT.out
  · have hne : (q != 64) = true := by simpa using hw
    have hE : takeE ⟨fl, 2, vl⟩ = 4 := by
      unfold takeE
      simp only
      rw [if_neg hkn, hwt, if_pos (hfw.1 hw)]
    have HT := Lib.hid (fun w' (hs : Same w w') => (show TookD w A a vp ⟨fl, 2, vl⟩ (.returned (.int .i64 4)) w' from ⟨by rw [hE], fun h0 => by rw [hE] at h0; exact absurd h0 (by decide), (Kept.refl [A] w).same hs⟩))
    have HAsk := Lib.hid (ask_flags fl 2 ao n cap 64 (-1) q (.func (.func 55) #[] #[.pointer (some ⟨w.heap.size, 0, none⟩)]) W hq hne)
    clear hE hq hne hqe hfw hk hp hpA hb hn hf hl hkn hwt hw
    go_enter Try.func33, Try.ntmps33
    go_wp2_with fail
    clear hW
    refine HAsk.out.mono ?_
    rintro e w3 ⟨rfl, hs3⟩
    have HS3 := Lib.hid (HA.out.trans hs3)
    clear hs3
    go_wp2_with fail
    go_ret
    exact HT.out _ HS3.out

set_option maxHeartbeats 2000000 in
theorem dtake_3 (A : Nat) (a : At) (vp : Value) (fl : Int) (vl : List UInt8) (ao : Option Addr) (n cap : Nat) (w : World) (hk : w.heap[A]? = some (atO 35 a vp)) (hp : Rs intLay w vp a.path) (hpA : ∀ g, vp.ownBlock = some g → g ≠ A)
    (hb : Bs w (.slice ao n cap) vl) (hn : vl.length = n) (hf : 0 ≤ fl ∧ fl ≤ 255) (hl : (n : Int) ≤ 3000000) :
    Calls Try.prog 33 #[.pointer (some ⟨A, 0, none⟩), .agg #[.int .i64 fl, .int .i64 3, .slice ao n cap]] w (TookD w A a vp ⟨fl, 3, vl⟩) := by
  have hAl := (Array.getElem?_eq_some_iff.1 hk).1
  obtain ⟨q, hq⟩ : ∃ q, bits .andNot .i64 fl 16 = q := ⟨_, rfl⟩
  have hqe := i64_andNot16 fl hf.1 hf.2
  rw [hq] at hqe
  have hfw := fl_want fl 64 hf (by omega)
  rw [← hqe] at hfw
  have hkn : ¬ ¬ knownT 3 := by unfold knownT; omega
  have hwt : wantT 3 = 64 := by decide
  have HA := Lib.hid ((Same.alloc w (.cells #[.pointer (some ⟨A, 0, none⟩)] 89)).trans (Same.alloc _ (.cells #[.int .i64 fl, .int .i64 3, .slice ao n cap] 59)))
  have HC : Hid (((w.alloc (.cells #[.pointer (some ⟨A, 0, none⟩)] 89)).alloc (.cells #[.int .i64 fl, .int .i64 3, .slice ao n cap] 59)).cell? ⟨w.heap.size, 0, none⟩ = some (.pointer (some ⟨A, 0, none⟩))) := by
    show _ = _
    have h1 := (Same.alloc (w.alloc (.cells #[.pointer (some ⟨A, 0, none⟩)] 89)) (.cells #[.int .i64 fl, .int .i64 3, .slice ao n cap] 59)).block (heap_alloc_new w (.cells #[.pointer (some ⟨A, 0, none⟩)] 89))
    simp [World.cell?, h1]
  have HK := Lib.hid (HA.out.block hk)
  have HB := Lib.hid (hb.same HA.out)
  have HR : Hid (((w.alloc (.cells #[.pointer (some ⟨A, 0, none⟩)] 89)).alloc (.cells #[.int .i64 fl, .int .i64 3, .slice ao n cap] 59)).heap[w.heap.size + 1]? = some (.cells #[.int .i64 fl, .int .i64 3, .slice ao n cap] 59)) := by
    have := heap_alloc_new (w.alloc (.cells #[.pointer (some ⟨A, 0, none⟩)] 89)) (.cells #[.int .i64 fl, .int .i64 3, .slice ao n cap] 59)
    rw [show (w.alloc (.cells #[.pointer (some ⟨A, 0, none⟩)] 89)).heap.size = w.heap.size + 1 from by simp] at this
    exact this
  generalize hW : ((w.alloc (.cells #[.pointer (some ⟨A, 0, none⟩)] 89)).alloc (.cells #[.int .i64 fl, .int .i64 3, .slice ao n cap] 59)) = W at HA HC HK HB HR
  obtain ⟨x0, x1, x2⟩ := RwAt.of (r := ⟨fl, 3, []⟩) (vo := .slice ao n cap) HR.out
  simp only at x0 x1 x2
  by_cases hw : q = 64
  · have hne : (q != 64) = false := by simp [hw]
    have hfl : ¬ ¬ (fl = 64 ∨ fl = 64 + 16) := fun hx => hfw.2 hx hw
    by_cases hsz : n = 4
    · have e0 : ¬ (0 < sizeT 3 ∧ vl.length ≠ sizeT 3) := fun hx => hx.2 (by rw [hn, hsz]; rfl)
      have hE : takeE ⟨fl, 3, vl⟩ = (if hopOk (nmb vl 0 4) then 0 else 8) := by
        unfold takeE
        simp only
        rw [if_neg hkn, hwt, if_neg hfl, if_neg e0]
        rfl
      have hS : takeE ⟨fl, 3, vl⟩ = 0 → takeS a ⟨fl, 3, vl⟩ = { a with hop := nmb vl 0 4 } := fun h0 => by
        unfold takeS
        rw [if_neg (by simp [h0])]
        rfl
      have HAsk := Lib.hid (ask_step3 W fl 3 vl ao n cap HB.out (by omega) 64 (4) q w.heap.size (fun k w' => TookD w A a vp ⟨fl, 3, vl⟩ (.returned (.int .i64 k)) w') hq hne (by decide) (by simp [hsz]) (by
        intro w1 s sv hs1 hle hsrc hsv
        have hz := HA.out.size
        refine (tk3_any s A w.heap.size sv vl w1 a vp hsrc ((Below.cell hs1 (World.block_lt_of_cell? W _ HC.out)).trans HC.out) (hs1.block HK.out) (by omega) (by have := World.block_lt_of_cell? W _ HC.out; simp at this; omega) (by omega) (by omega)).mono ?_
        rintro e w2 ⟨rfl, h2, h3⟩
        have h4 := Kept.drop (HA.out.trans hs1) h3 (by omega)
        refine ⟨_, rfl, by rw [hE], fun h0 => ⟨vp, by rw [hS h0]; exact h2, by rw [hS h0]; exact hp.kept h4 (fun g hg => by simpa using hpA g hg), fun g hg => ⟨hpA g hg, .inl hg⟩⟩, h4⟩))
      clear hE hS hq hne hqe hfw hk hp hpA hb hn hf hl hfl hkn hwt e0 hsz hw
      go_enter Try.func33, Try.ntmps33
      go_wp2_with fail
      clear hW
      refine HAsk.out.mono ?_
      rintro e w3 ⟨k, rfl, hT⟩
      have HT := Lib.hid hT
      clear hT
      go_wp2_with fail
      go_ret
      exact HT.out
    · have e0 : 0 < sizeT 3 ∧ vl.length ≠ sizeT 3 := ⟨by decide, fun hx => hsz (by rw [← hn, hx]; rfl)⟩
      have hE : takeE ⟨fl, 3, vl⟩ = 5 := by
        unfold takeE
        simp only
        rw [if_neg hkn, hwt, if_neg hfl, if_pos e0]
      have HT := Lib.hid (fun w' (hs : Same w w') => (show TookD w A a vp ⟨fl, 3, vl⟩ (.returned (.int .i64 5)) w' from ⟨by rw [hE], fun h0 => by rw [hE] at h0; exact absurd h0 (by decide), (Kept.refl [A] w).same hs⟩))
      have HAsk := Lib.hid (ask_size fl 3 ao n cap 64 4 q (.func (.func 57) #[] #[.pointer (some ⟨w.heap.size, 0, none⟩)]) W hq hne (by decide) (by simp; omega))
      clear hE hq hne hqe hfw hk hp hpA hb hn hf hl hfl hkn hwt e0 hsz hw
      go_enter Try.func33, Try.ntmps33
      go_wp2_with fail
      clear hW
      refine HAsk.out.mono ?_
      rintro e w3 ⟨rfl, hs3⟩
      have HS3 := Lib.hid (HA.out.trans hs3)
      clear hs3
      go_wp2_with fail
      go_ret
      exact HT.out _ HS3.out
  · have hne : (q != 64) = true := by simpa using hw
    have hE : takeE ⟨fl, 3, vl⟩ = 4 := by
      unfold takeE
      simp only
      rw [if_neg hkn, hwt, if_pos (hfw.1 hw)]
    have HT := Lib.hid (fun w' (hs : Same w w') => (show TookD w A a vp ⟨fl, 3, vl⟩ (.returned (.int .i64 4)) w' from ⟨by rw [hE], fun h0 => by rw [hE] at h0; exact absurd h0 (by decide), (Kept.refl [A] w).same hs⟩))
    have HAsk := Lib.hid (ask_flags fl 3 ao n cap 64 (4) q (.func (.func 57) #[] #[.pointer (some ⟨w.heap.size, 0, none⟩)]) W hq hne)
    clear hE hq hne hqe hfw hk hp hpA hb hn hf hl hkn hwt hw
    go_enter Try.func33, Try.ntmps33
    go_wp2_with fail
    clear hW
    refine HAsk.out.mono ?_
    rintro e w3 ⟨rfl, hs3⟩
    have HS3 := Lib.hid (HA.out.trans hs3)
    clear hs3
    go_wp2_with fail
    go_ret
    exact HT.out _ HS3.out

set_option maxHeartbeats 2000000 in
theorem dtake_4 (A : Nat) (a : At) (vp : Value) (fl : Int) (vl : List UInt8) (ao : Option Addr) (n cap : Nat) (w : World) (hk : w.heap[A]? = some (atO 35 a vp)) (hp : Rs intLay w vp a.path) (hpA : ∀ g, vp.ownBlock = some g → g ≠ A)
    (hb : Bs w (.slice ao n cap) vl) (hn : vl.length = n) (hf : 0 ≤ fl ∧ fl ≤ 255) (hl : (n : Int) ≤ 3000000) :
    Calls Try.prog 33 #[.pointer (some ⟨A, 0, none⟩), .agg #[.int .i64 fl, .int .i64 4, .slice ao n cap]] w (TookD w A a vp ⟨fl, 4, vl⟩) := by
  have hAl := (Array.getElem?_eq_some_iff.1 hk).1
  obtain ⟨q, hq⟩ : ∃ q, bits .andNot .i64 fl 16 = q := ⟨_, rfl⟩
  have hqe := i64_andNot16 fl hf.1 hf.2
  rw [hq] at hqe
  have hfw := fl_want fl 128 hf (by omega)
  rw [← hqe] at hfw
  have hkn : ¬ ¬ knownT 4 := by unfold knownT; omega
  have hwt : wantT 4 = 128 := by decide
  have HA := Lib.hid ((Same.alloc w (.cells #[.pointer (some ⟨A, 0, none⟩)] 89)).trans (Same.alloc _ (.cells #[.int .i64 fl, .int .i64 4, .slice ao n cap] 59)))
  have HC : Hid (((w.alloc (.cells #[.pointer (some ⟨A, 0, none⟩)] 89)).alloc (.cells #[.int .i64 fl, .int .i64 4, .slice ao n cap] 59)).cell? ⟨w.heap.size, 0, none⟩ = some (.pointer (some ⟨A, 0, none⟩))) := by
    show _ = _
    have h1 := (Same.alloc (w.alloc (.cells #[.pointer (some ⟨A, 0, none⟩)] 89)) (.cells #[.int .i64 fl, .int .i64 4, .slice ao n cap] 59)).block (heap_alloc_new w (.cells #[.pointer (some ⟨A, 0, none⟩)] 89))
    simp [World.cell?, h1]
  have HK := Lib.hid (HA.out.block hk)
  have HB := Lib.hid (hb.same HA.out)
  have HR : Hid (((w.alloc (.cells #[.pointer (some ⟨A, 0, none⟩)] 89)).alloc (.cells #[.int .i64 fl, .int .i64 4, .slice ao n cap] 59)).heap[w.heap.size + 1]? = some (.cells #[.int .i64 fl, .int .i64 4, .slice ao n cap] 59)) := by
    have := heap_alloc_new (w.alloc (.cells #[.pointer (some ⟨A, 0, none⟩)] 89)) (.cells #[.int .i64 fl, .int .i64 4, .slice ao n cap] 59)
    rw [show (w.alloc (.cells #[.pointer (some ⟨A, 0, none⟩)] 89)).heap.size = w.heap.size + 1 from by simp] at this
    exact this
  generalize hW : ((w.alloc (.cells #[.pointer (some ⟨A, 0, none⟩)] 89)).alloc (.cells #[.int .i64 fl, .int .i64 4, .slice ao n cap] 59)) = W at HA HC HK HB HR
  obtain ⟨x0, x1, x2⟩ := RwAt.of (r := ⟨fl, 4, []⟩) (vo := .slice ao n cap) HR.out
  simp only at x0 x1 x2
  by_cases hw : q = 128
  · have hne : (q != 128) = false := by simp [hw]
    have hfl : ¬ ¬ (fl = 128 ∨ fl = 128 + 16) := fun hx => hfw.2 hx hw
    by_cases hsz : n = 4
    · have e0 : ¬ (0 < sizeT 4 ∧ vl.length ≠ sizeT 4) := fun hx => hx.2 (by rw [hn, hsz]; rfl)
      have hE : takeE ⟨fl, 4, vl⟩ = (0) := by
        unfold takeE
        simp only
        rw [if_neg hkn, hwt, if_neg hfl, if_neg e0]
        rfl
      have hS : takeE ⟨fl, 4, vl⟩ = 0 → takeS a ⟨fl, 4, vl⟩ = { a with med := nmb vl 0 4, has := true } := fun h0 => by
        unfold takeS
        rw [if_neg (by simp [h0])]
        rfl
      have HAsk := Lib.hid (ask_step4 W fl 4 vl ao n cap HB.out (by omega) 128 (4) q w.heap.size (fun k w' => TookD w A a vp ⟨fl, 4, vl⟩ (.returned (.int .i64 k)) w') hq hne (by decide) (by simp [hsz]) (by
        intro w1 s sv hs1 hle hsrc hsv
        have hz := HA.out.size
        refine (tk4_any s A w.heap.size sv vl w1 a vp hsrc ((Below.cell hs1 (World.block_lt_of_cell? W _ HC.out)).trans HC.out) (hs1.block HK.out) (by omega) (by have := World.block_lt_of_cell? W _ HC.out; simp at this; omega) (by omega) (by omega)).mono ?_
        rintro e w2 ⟨rfl, h2, h3⟩
        have h4 := Kept.drop (HA.out.trans hs1) h3 (by omega)
        refine ⟨_, rfl, by rw [hE], fun h0 => ⟨vp, by rw [hS h0]; exact h2, by rw [hS h0]; exact hp.kept h4 (fun g hg => by simpa using hpA g hg), fun g hg => ⟨hpA g hg, .inl hg⟩⟩, h4⟩))
      clear hE hS hq hne hqe hfw hk hp hpA hb hn hf hl hfl hkn hwt e0 hsz hw
      go_enter Try.func33, Try.ntmps33
      go_wp2_with fail
      clear hW
      refine HAsk.out.mono ?_
      rintro e w3 ⟨k, rfl, hT⟩
      have HT := Lib.hid hT
      clear hT
      go_wp2_with fail
      go_ret
      exact HT.out
    · have e0 : 0 < sizeT 4 ∧ vl.length ≠ sizeT 4 := ⟨by decide, fun hx => hsz (by rw [← hn, hx]; rfl)⟩
      have hE : takeE ⟨fl, 4, vl⟩ = 5 := by
        unfold takeE
        simp only
        rw [if_neg hkn, hwt, if_neg hfl, if_pos e0]
      have HT := Lib.hid (fun w' (hs : Same w w') => (show TookD w A a vp ⟨fl, 4, vl⟩ (.returned (.int .i64 5)) w' from ⟨by rw [hE], fun h0 => by rw [hE] at h0; exact absurd h0 (by decide), (Kept.refl [A] w).same hs⟩))
      have HAsk := Lib.hid (ask_size fl 4 ao n cap 128 4 q (.func (.func 59) #[] #[.pointer (some ⟨w.heap.size, 0, none⟩)]) W hq hne (by decide) (by simp; omega))
      clear hE hq hne hqe hfw hk hp hpA hb hn hf hl hfl hkn hwt e0 hsz hw
      go_enter Try.func33, Try.ntmps33
      go_wp2_with fail
      clear hW
      refine HAsk.out.mono ?_
      rintro e w3 ⟨rfl, hs3⟩
      have HS3 := Lib.hid (HA.out.trans hs3)
      clear hs3
      go_wp2_with fail
      go_ret
      exact HT.out _ HS3.out
  · have hne : (q != 128) = true := by simpa using hw
    have hE : takeE ⟨fl, 4, vl⟩ = 4 := by
      unfold takeE
      simp only
      rw [if_neg hkn, hwt, if_pos (hfw.1 hw)]
    have HT := Lib.hid (fun w' (hs : Same w w') => (show TookD w A a vp ⟨fl, 4, vl⟩ (.returned (.int .i64 4)) w' from ⟨by rw [hE], fun h0 => by rw [hE] at h0; exact absurd h0 (by decide), (Kept.refl [A] w).same hs⟩))
    have HAsk := Lib.hid (ask_flags fl 4 ao n cap 128 (4) q (.func (.func 59) #[] #[.pointer (some ⟨w.heap.size, 0, none⟩)]) W hq hne)
    clear hE hq hne hqe hfw hk hp hpA hb hn hf hl hkn hwt hw
    go_enter Try.func33, Try.ntmps33
    go_wp2_with fail
    clear hW
    refine HAsk.out.mono ?_
    rintro e w3 ⟨rfl, hs3⟩
    have HS3 := Lib.hid (HA.out.trans hs3)
    clear hs3
    go_wp2_with fail
    go_ret
    exact HT.out _ HS3.out

set_option maxHeartbeats 2000000 in
theorem dtake_unk (A : Nat) (a : At) (vp : Value) (fl ty : Int) (vl : List UInt8) (ao : Option Addr) (n cap : Nat) (w : World) (hk : w.heap[A]? = some (atO 35 a vp)) (hp : Rs intLay w vp a.path) (hpA : ∀ g, vp.ownBlock = some g → g ≠ A)
    (hty : ¬ knownT ty) :
    Calls Try.prog 33 #[.pointer (some ⟨A, 0, none⟩), .agg #[.int .i64 fl, .int .i64 ty, .slice ao n cap]] w (TookD w A a vp ⟨fl, ty, vl⟩) := by
  have HA := Lib.hid ((Same.alloc w (.cells #[.pointer (some ⟨A, 0, none⟩)] 89)).trans (Same.alloc _ (.cells #[.int .i64 fl, .int .i64 ty, .slice ao n cap] 59)))
  have hE : takeE ⟨fl, ty, vl⟩ = (if fl / 128 % 2 = 1 then 0 else 2) := by
    unfold takeE
    simp only
    rw [if_pos hty]
  have hS : takeS a ⟨fl, ty, vl⟩ = a := by
    unfold knownT at hty
    unfold takeS
    simp only
    rw [if_neg (show ¬ ty = 1 by omega), if_neg (show ¬ ty = 2 by omega), if_neg (show ¬ ty = 3 by omega), if_neg (show ¬ ty = 4 by omega)]
    split <;> rfl
  have HT := Lib.hid (fun w' (hs : Same w w') => (show TookD w A a vp ⟨fl, ty, vl⟩ (.returned (.int .i64 (if fl / 128 % 2 = 1 then 0 else 2))) w' from ⟨by rw [hE], fun h0 => ⟨vp, by rw [hS]; exact hs.block hk, by rw [hS]; exact hp.same hs, fun g hg => ⟨hpA g hg, .inl hg⟩⟩, (Kept.refl [A] w).same hs⟩))
  unfold knownT at hty
  have k1 : (ty == 1) = false := by simp; omega
  have k2 : (ty == 2) = false := by simp; omega
  have k3 : (ty == 3) = false := by simp; omega
  have k4 : (ty == 4) = false := by simp; omega
  have hz := i64_and128 fl
  clear hE hS hk hp hpA hty
  by_cases hx : fl / 128 % 2 = 1
  · rw [if_pos hx] at hz HT
    clear hx
    go_enter Try.func33, Try.ntmps33
    go_wp2_with fail
    refine (unless_any _ 2 _).mono ?_
    rintro e w3 ⟨rfl, rfl⟩
    go_wp2_with fail
    go_ret
    exact HT.out _ HA.out
  · rw [if_neg hx] at hz HT
    clear hx
    go_enter Try.func33, Try.ntmps33
    go_wp2_with fail
    refine (unless_any _ 2 _).mono ?_
    rintro e w3 ⟨rfl, rfl⟩
    go_wp2_with fail
    go_ret
    exact HT.out _ HA.out

theorem dTake_any (A : Nat) (a : At) (vp : Value) (r : Rw) (vo : Value) (w : World) (hk : w.heap[A]? = some (atO 35 a vp)) (hp : Rs intLay w vp a.path) (hpA : ∀ g, vp.ownBlock = some g → g ≠ A)
    (hb : Bs w vo r.value) (hf : 0 ≤ r.flags ∧ r.flags ≤ 255) (hl : (r.value.length : Int) ≤ 3000000) :
    Calls Try.prog 33 #[.pointer (some ⟨A, 0, none⟩), rwV r vo] w (TookD w A a vp r) := by
  obtain ⟨fl, ty, vl⟩ := r
  obtain ⟨ao, cap, rfl⟩ := hb.form0 rfl
  by_cases h1 : ty = 1
  · subst h1; exact dtake_1 A a vp fl vl ao _ cap w hk hp hpA hb rfl hf hl
  by_cases h2 : ty = 2
  · subst h2; exact dtake_2 A a vp fl vl ao _ cap w hk hp hpA hb rfl hf hl
  by_cases h3 : ty = 3
  · subst h3; exact dtake_3 A a vp fl vl ao _ cap w hk hp hpA hb rfl hf hl
  by_cases h4 : ty = 4
  · subst h4; exact dtake_4 A a vp fl vl ao _ cap w hk hp hpA hb rfl hf hl
  · exact dtake_unk A a vp fl ty vl ao _ cap w hk hp hpA (by unfold knownT; omega)
end Go.Proofs.Ytfhaaenmllkbnaa
