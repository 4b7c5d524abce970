/- Proved: PortsBack. No condition. -/
import Derived.Test.YtcemdajkddidnaaPoK
import Derived.Test.YtcemdajkddidnaaPoA
import Derived.Test.YtcemdajkddidnaaOpenG
import Derived.JoinedOf
namespace Go.Proofs.Ytcemdajkddidnaa
open Go.ChangeShapes Go.WideShapes Go.ChangeAt Go.RowKit
set_option linter.unusedVariables false

set_option maxRecDepth 100000 in
theorem portsBack_lifted (os : Os) (started : os.Started) (H : Type) (enc : TypeId × Value → H) :
    ReturnsInHanded {} Try.checked os 4 .any (Rows.portsBackSpec.pre6 enc Try.prog Try.f4 Rows.portsBackRow.domain false) (Rows.portsBackSpec.post enc Try.prog Try.f4 false true false false) := by
  refine returnsInHanded_of_change (C := Try.checked) own started (by kernel_rfl) Try.func4
    (ChangeSpec.witness6 (enc := enc) (C := Try.checked) false ⟨#[], #[.agg #[.int .i64 0, .int .u32 0, .int .u32 0, .int .i64 0, .int .i64 0], .agg #[.int .i64 0, .int .u32 0, .int .u32 0, .int .i64 0, .int .i64 0], .slice none 0 0], []⟩ 8 (by kernel_rfl) (by kernel_rfl) (by kernel_rfl) (by kernel_rfl)) ?_
  intro W base args ds gs before hval0 hW _ _
  have hval : ∀ (j : Nat) t v, Try.f4.params[j]? = some t → args[j]? = some v → Value.okWide Try.prog W .any base t v := hval0
  have hW' := hW
  obtain ⟨p, q, hA0, hV, rfl, _, _⟩ := hW
  have hA : DataW.TrodAll enc Try.prog W 0 (fun _ => true) true Try.f4.params.toList args.toList ds p := hA0
  rw [Try.params4] at hA hval
  obtain ⟨v0, vs0, d0, ds0, p0, q0, hargs0, rfl, rfl, h0, r0⟩ := trodAll_cons hA
  obtain ⟨v1, vs1, d1, ds1, p1, q1, hargs1, rfl, rfl, h1, r1⟩ := trodAll_cons r0
  obtain ⟨v2, vs2, d2, ds2, p2, q2, hargs2, rfl, rfl, h2, r2⟩ := trodAll_cons r1
  subst hargs1 hargs2
  obtain ⟨rfl, rfl, rfl⟩ := trodAll_nil r2
  obtain rfl : args = #[v0, v1, v2] := by cases args; simp_all
  obtain ⟨rfl, rfl⟩ := trodVars_none hV
  obtain ⟨fl0, rfl, ok0⟩ := open_fl (hval 0 31 v0 rfl rfl) h0
  obtain ⟨fl1, rfl, ok1⟩ := open_fl (hval 1 31 v1 rfl rfl) h1
  obtain ⟨l2, hb2⟩ := openBytes Try.underlying22 (hval 2 22 v2 rfl rfl) h2
  have key : Calls Try.prog 4 #[flV fl0, flV fl1, v2] W fun e w' => e = .returned (.bool true) ∧ Same W w' := by
    by_cases k : 3000 < (l2.length : Int)
    · exact pback_long fl0 fl1 v2 l2 W hb2 k
    by_cases k1 : goodF fl0
    · rcases k1.1 with h | h
      · exact pback_tcp fl0 fl1 k1 h ⟨ok0.src, ok0.dst⟩ ⟨ok1.src, ok1.dst⟩ v2 l2 W hb2 k
      · exact pback_udp fl0 fl1 k1 h ⟨ok0.src, ok0.dst⟩ ⟨ok1.src, ok1.dst⟩ v2 l2 W hb2 k
    · exact pback_bad fl0 fl1 k1 ⟨ok0.src, ok0.dst⟩ ⟨ok1.src, ok1.dst⟩ v2 l2 W hb2 k
  exact key.mono fun e W' ⟨he, hb⟩ => law_post Try.f4 Rows.portsBackSpec rfl (by kernel_rfl) (by kernel_rfl) W _ _ _ _ hW' rfl e W' he hb

/-- the statement -/
theorem portsBack_holds : Rows.PortsBackSaid :=
  OpenClaim.holds_of_wide 4 Try.f4 rfl rfl rfl rfl rfl rfl rfl ⟨rfl, rfl, rfl, rfl, rfl⟩ rfl rfl rfl rfl rfl (by kernel_rfl) Try.func4 (by kernel_rfl)
    (of_decide_eq_true (by kernel_rfl)) (by unfold Func.isWrapper; first | (rw [if_pos (by decide +kernel)]; kernel_rfl) | (rw [if_neg (by decide +kernel)]; exact ⟨rfl, rfl⟩))
    (fun os started H enc _ => portsBack_lifted os started H enc)
end Go.Proofs.Ytcemdajkddidnaa
