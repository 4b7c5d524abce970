/- Contract of the document's own Parse of layer 8, of any peer. No condition beyond what it names. -/
import Derived.Test.YtidijoncngfppaaOpRPhi
namespace Go.Proofs.Ytidijoncngfppaa
open Go.RowKit
theorem rParse8_any (v : Value) (l : List UInt8) (asn : Int) (w : World) (hb : Bs w v l) (hl : (l.length : Int) ≤ 1000000) :
    Calls Try.prog 19 #[v, .int .i64 asn] w fun e w' => ∃ vc vd, e = .returned (.tuple #[oqV (parseO l asn).1 vc, ftV (parseO l asn).2 vd]) ∧ CapsW 55 w' vc (parseO l asn).1.caps ∧ Bs w' vd (parseO l asn).2.data ∧ Same w w' := by
  by_cases h : 1 ≤ asn
  · exact rParse8_hi v l asn w hb hl h
  · exact rParse8_lo v l asn w hb hl h
end Go.Proofs.Ytidijoncngfppaa
