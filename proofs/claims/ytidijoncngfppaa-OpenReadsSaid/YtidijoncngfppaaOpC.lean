/- Layer 8: what is asked of open's functions; the document's example over it. No condition beyond what each names. -/
import Derived.Test.YtidijoncngfppaaOpRL
import Derived.Test.YtidijoncngfppaaOpQ
import Derived.Test.YtidijoncngfppaaLives
namespace Go.Proofs.Ytidijoncngfppaa
open Go.RowKit
set_option linter.unusedVariables false

def identR (o : Oq) : Prop := 0 ≤ o.ident ∧ o.ident ≤ 4294967295
/-- what is asked of layer 8 -/
structure OpenC : Prop where
  good : ∀ (o : Oq) (vc : Value) (w : World), CapsW 30 w vc o.caps → o.caps.length ≤ 100 →
    Calls Try.prog 8 #[oqV o vc] w fun e w' => e = .returned (.bool (decide (goodO o))) ∧ Same w w'
  bytes : ∀ (o : Oq) (vc : Value) (w : World), CapsW 30 w vc o.caps → o.caps.length ≤ 100 → identR o →
    Calls Try.prog 11 #[oqV o vc] w fun e w' => ∃ v', e = .returned v' ∧ Bs w' v' (openB o) ∧ Same w w'
  parse : ∀ (v : Value) (l : List UInt8) (asn : Int) (w : World), Bs w v l → (l.length : Int) ≤ 1000000 →
    Calls Try.prog 18 #[v, .int .i64 asn] w fun e w' => ∃ vc vd, e = .returned (.tuple #[oqV (parseO l asn).1 vc, ftV (parseO l asn).2 vd]) ∧ CapsW 30 w' vc (parseO l asn).1.caps ∧ Bs w' vd (parseO l asn).2.data ∧ Same w w'
  hold : ∀ (a b : Int) (w : World), Calls Try.prog 16 #[.int .i64 a, .int .i64 b] w fun e w' => e = .returned (.int .i64 (holdN a b)) ∧ Same w w'
  same : ∀ (a b : Oq) (va vb : Value) (w : World), CapsW 30 w va a.caps → CapsW 30 w vb b.caps →
    Calls Try.prog 13 #[oqV a va, oqV b vb] w fun e w' => e = .returned (.bool (decide (sameO a b))) ∧ Same w w'
  has : ∀ (o : Oq) (vc : Value) (code : Int) (w : World), CapsW 30 w vc o.caps →
    Calls Try.prog 15 #[oqV o vc, .int .i64 code] w fun e w' => e = .returned (.bool (o.caps.any fun c => decide (c.code = code))) ∧ Same w w'

def exO : Oq := ⟨65001, 90, 1, []⟩
theorem exO_bytes : openB exO = [4, 253, 233, 0, 90, 0, 0, 0, 1, 0] := by decide +kernel

set_option maxRecDepth 100000 in
theorem op_lives (C : OpenC) (w : World) : Calls Try.prog 7 #[] w fun e w' => e = .returned (.bool true) ∧ Same w w' := by
  have HB := Lib.hid (C.bytes exO (.slice none 0 0) w (CapsW.nil _ w) (by simp [exO]) (by unfold identR exO; simp))
  rw [exO_bytes] at HB
  unfold exO at HB
  go_enter Try.func7, Try.ntmps7
  go_wp2_with fail
  refine HB.out.mono ?_
  rintro e w1 ⟨v1, rfl, hb1, hs1⟩
  have HS1 := Lib.hid hs1
  have hr := run_str w1 v1 _ hb1
  clear hb1 hs1
  go_wp2_with fail
  go_ret
  exact ⟨rfl, HS1.out⟩
end Go.Proofs.Ytidijoncngfppaa
