/- Contracts of the document's own answers for layer 4: Parse, Forward, Rewrite. No condition beyond what each names. -/
import Derived.Test.YteoleblnhcnpkaaIpRE
namespace Go.Proofs.Yteoleblnhcnpkaa
open Go.RowKit
set_option linter.unusedVariables false

theorem riParse_any (v : Value) (l : List UInt8) (w : World) (hb : Bs w v l) :
    Calls Try.prog 21 #[v] w fun e w' => ∃ vo vp, e = .returned (parV (parseH l) vo vp (parseE l)) ∧ OwnB w' w.heap.size vo (parseH l).opts ∧ OwnB w' w.heap.size vp (parseP l) ∧ Same w w' := by
  have bad : ∀ E : Int, E ≠ 0 → parseE l = E → Calls Try.prog 21 #[v] w (fun e w' => e = .returned (parV zeroH nilV nilV E) ∧ Same w w') →
      Calls Try.prog 21 #[v] w fun e w' => ∃ vo vp, e = .returned (parV (parseH l) vo vp (parseE l)) ∧ OwnB w' w.heap.size vo (parseH l).opts ∧ OwnB w' w.heap.size vp (parseP l) ∧ Same w w' := by
    intro E hE he hc
    have h1 : parseH l = zeroH := if_neg (by rw [he]; exact hE)
    have h2 : parseP l = [] := if_neg (by rw [he]; exact hE)
    rw [h1, h2, he]
    exact hc.mono fun e w' ⟨h, k⟩ => ⟨nilV, nilV, h, OwnB.nil _ _, OwnB.nil _ _, k⟩
  by_cases h : l.length < 20
  · exact bad 3 (by decide) (if_pos h) (riParse_short v l w hb h)
  obtain ⟨b, o, cap, rfl, hcap, hcm, b0, b2, b3, hb0, hb2, hb3, e0, e2, HC⟩ := heads hb (by omega)
  have eE : endH l = 4 * (b0 % 16) := by rw [endH, e0]
  have eN : lenH l = 256 * b2 + b3 := by rw [lenH, e2]
  by_cases h2 : b0 / 16 ≠ 4 ∨ 4 * (b0 % 16) < 20
  · refine bad 4 (by decide) ?_ (riParse_bad b o l.length cap b0 b2 b3 w (by omega) hb0 h2 HC)
    rw [parseE, if_neg h, e0, eE, if_pos h2]
  have hI : ParseIn l.length b0 b2 b3 (b0 % 16) (256 * b2 + b3) := ⟨by omega, hb0, hb2, hb3, rfl, by omega, by omega, rfl⟩
  by_cases h3 : l.length < 4 * (b0 % 16) ∨ l.length < 256 * b2 + b3
  · refine bad 3 (by decide) ?_ (riParse_short2 b o l.length cap b0 b2 b3 _ _ w hI h3 HC)
    rw [parseE, if_neg h, e0, eE, if_neg h2, eN, if_pos h3]
  by_cases h4 : 256 * b2 + b3 < 4 * (b0 % 16) ∨ 9000 < 256 * b2 + b3
  · refine bad 4 (by decide) ?_ (riParse_bad2 b o l.length cap b0 b2 b3 _ _ w hI (by omega) (by omega) h4 HC)
    rw [parseE, if_neg h, e0, eE, if_neg h2, eN, if_neg h3, if_pos h4]
  by_cases h5 : sumB (l.take (4 * (b0 % 16))) = 65535
  · have hE : parseE l = 0 := by rw [parseE, if_neg h, e0, eE, if_neg h2, eN, if_neg h3, if_neg h4, if_neg (by simpa using h5)]
    have e1 : parseH l = readH (l.take (4 * (b0 % 16))) := by rw [parseH, if_pos hE, eE]
    have e3 : parseP l = (l.take (256 * b2 + b3)).drop (4 * (b0 % 16)) := by rw [parseP, if_pos hE, eE, eN]
    rw [e1, e3, hE]
    exact riParse_ok b o l.length cap b0 b2 b3 _ _ l w hI rfl hb hcap hcm (by omega) (by omega) (by omega) (by omega) h5 HC
  · refine bad 5 (by decide) ?_ (riParse_sum b o l.length cap b0 b2 b3 _ _ l w hI rfl hb hcap hcm (by omega) (by omega) (by omega) (by omega) h5 HC)
    rw [parseE, if_neg h, e0, eE, if_neg h2, eN, if_neg h3, if_neg h4, if_pos h5]

theorem parseH_r (l : List UInt8) : HdR (parseH l) := by
  unfold parseH
  split
  · have h1 := fld_lt (l.take (endH l)) 12 4
    have h2 := fld_lt (l.take (endH l)) 16 4
    exact ⟨⟨Int.natCast_nonneg _, by show ((fld _ 12 4 : Nat) : Int) ≤ _; omega⟩, ⟨Int.natCast_nonneg _, by show ((fld _ 16 4 : Nat) : Int) ≤ _; omega⟩⟩
  · exact ⟨⟨by decide, by decide⟩, ⟨by decide, by decide⟩⟩

/-- what a packet on its way tells -/
abbrev outV (v : Value) (e : Int) : Value := .tuple #[v, .int .i64 e]

end Go.Proofs.Yteoleblnhcnpkaa
