/- The developers' layer 5: a flow's bytes, its way back. No condition beyond what each names. -/
import Derived.Test.YteoleblnhcnpkaaPoE
import Derived.Test.YteoleblnhcnpkaaCat
namespace Go.Proofs.Yteoleblnhcnpkaa
open Go.RowKit
set_option linter.unusedVariables false

theorem OwnB.slice {w : World} {B : Nat} {v : Value} {l : List UInt8} (h : OwnB w B v l) : ∃ ao n cap, v = .slice ao n cap := by
  obtain ⟨ao, cap, rfl, _⟩ := h.bs
  exact ⟨_, _, _, rfl⟩

/-- a flow in bytes -/
def bytesF (f : Fl) : List UInt8 := [byteAt f.proto 0] ++ (addrsL (endsF f) ++ portsL (endsF f))
theorem bytesF_eq (f : Fl) : bytesF f = [byteAt f.proto 0, byteAt f.src 3, byteAt f.src 2, byteAt f.src 1, byteAt f.src 0, byteAt f.dst 3, byteAt f.dst 2, byteAt f.dst 1, byteAt f.dst 0, byteAt f.sport 1, byteAt f.sport 0, byteAt f.dport 1, byteAt f.dport 0] := by
  simp [bytesF, addrsL, portsL, endsF]

theorem catL_cons (v : Value) (l : List UInt8) (xs : List (Value × List UInt8)) : catL ((v, l) :: xs) = l ++ catL xs := by simp [catL]
theorem catL_nil : catL [] = [] := rfl

end Go.Proofs.Yteoleblnhcnpkaa
