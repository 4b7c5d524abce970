/- Contracts of layer 5: the ports of bytes, the developers' and the document's. No condition beyond what each names. -/
import Derived.Test.YteoleblnhcnpkaaPoF
namespace Go.Proofs.Yteoleblnhcnpkaa
open Go.RowKit
set_option linter.unusedVariables false

theorem poLeast_any (p : Int) (w : World) : Calls Try.prog 29 #[.int .i64 p] w fun e w' => e = .returned (.int .i64 (leastP p)) ∧ w = w' := by
  unfold leastP
  by_cases h6 : p = 6
  · subst h6
    go_enter Try.func29, Try.ntmps29
    go_wp2
    go_ret
    exact ⟨rfl, rfl⟩
  · by_cases h7 : p = 17
    · subst h7
      go_enter Try.func29, Try.ntmps29
      go_wp2
      go_ret
      exact ⟨rfl, rfl⟩
    · rw [if_neg h6, if_neg h7]
      have k6 : (p == 6) = false := by simpa using h6
      have k7 : (p == 17) = false := by simpa using h7
      go_enter Try.func29, Try.ntmps29
      go_wp2
      go_ret
      exact ⟨rfl, rfl⟩

theorem get_at (l : List UInt8) (a : Nat) (k : Nat) (h : a + k ≤ l.length) : numOut (getOut l a k) = fld l a k := by
  unfold getOut
  rw [if_pos (by omega)]
  rfl

/-- the cells of the bytes at a place -/
theorem two_at {w : World} {l : List UInt8} {b o : Nat} (H : ∀ w', Same w w' → ∀ j u, l[j]? = some u → w'.cell? ⟨b, o + j, none⟩ = some (.int .u8 (u.toNat : Int))) (a : Nat) (ha : a + 1 < l.length) :
    ∃ x y : Nat, x < 256 ∧ y < 256 ∧ fld l a 2 = 256 * x + y ∧ ∀ w', Same w w' → w'.cell? ⟨b, o + a, none⟩ = some (.int .u8 (x : Int)) ∧ w'.cell? ⟨b, o + (a + 1), none⟩ = some (.int .u8 (y : Int)) := by
  have g0 : l[a]? = some l[a] := List.getElem?_eq_getElem (by omega)
  have g1 : l[a + 1]? = some l[a + 1] := List.getElem?_eq_getElem (by omega)
  exact ⟨l[a].toNat, l[a + 1].toNat, l[a].toNat_lt, l[a + 1].toNat_lt, fld_two l a _ _ g0 g1, fun w' hs => ⟨H w' hs a _ g0, H w' hs (a + 1) _ g1⟩⟩

end Go.Proofs.Yteoleblnhcnpkaa
