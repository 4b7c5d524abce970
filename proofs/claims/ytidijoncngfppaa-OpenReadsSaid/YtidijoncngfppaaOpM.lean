/- Memory of layer 8: capabilities in a row, a body. No condition. -/
import Derived.Test.YtidijoncngfppaaOpF
import Derived.Test.YtidijoncngfppaaAtM
namespace Go.Proofs.Ytidijoncngfppaa
open Go.RowKit
set_option linter.unusedVariables false
set_option maxRecDepth 100000

abbrev cvV (c : Cp) (s : Sl) : Value := .slice s.ao c.value.length s.cap
abbrev cpO (t : TypeId) (c : Cp) (vo : Value) : Obj := .cells #[.int .i64 c.code, vo] t
abbrev oqV (o : Oq) (vc : Value) : Value := .agg #[.int .i64 o.asn, .int .i64 o.hold, .int .u32 o.ident, vc]
abbrev oqO (t : TypeId) (o : Oq) (vc : Value) : Obj := .cells #[.int .i64 o.asn, .int .i64 o.hold, .int .u32 o.ident, vc] t

def capLay (e : TypeId) : Lay (Cp × Sl) := ⟨e, 2, fun x => [.int .i64 x.1.code, cvV x.1 x.2], fun _ => rfl, fun a u h => by
  simp only [List.mem_cons, List.not_mem_nil, or_false] at h
  rcases h with rfl | rfl <;> rfl⟩
/-- a row of capabilities -/
def CapsW (e : TypeId) (w : World) (v : Value) (l : List Cp) : Prop := ∃ xs : List (Cp × Sl), xs.map (·.1) = l ∧ Rs (capLay e) w v xs ∧ ∀ x, x ∈ xs → Bs w (cvV x.1 x.2) x.1.value
theorem CapsW.same {e : TypeId} {w w' : World} {v : Value} {l : List Cp} (h : Same w w') (hb : CapsW e w v l) : CapsW e w' v l := by
  obtain ⟨xs, h1, h2, h3⟩ := hb
  exact ⟨xs, h1, h2.same h, fun x hx => (h3 x hx).same h⟩
theorem CapsW.nil (e : TypeId) (w : World) : CapsW e w (.slice none 0 0) [] := ⟨[], rfl, Rs.nil _ w, fun x h => by cases h⟩
theorem CapsW.form {e : TypeId} {w : World} {v : Value} {l : List Cp} (h : CapsW e w v l) {n : Nat} (hn : l.length = n) : ∃ ao cap, v = .slice ao n cap := by
  obtain ⟨xs, h1, h2, -⟩ := h
  exact h2.form (by rw [← hn, ← h1, List.length_map])
theorem CapsW.cap {e : TypeId} {w : World} {v : Value} {l : List Cp} (h : CapsW e w v l) : (l.length : Int) ≤ 9223372036854775807 := by
  obtain ⟨xs, rfl, ⟨_, cap, _, h1, h2, _⟩, _⟩ := h
  rw [List.length_map]
  omega
/-- one by one, with where they lie -/
theorem CapsW.one {e : TypeId} {w : World} {v : Value} {l : List Cp} (h : CapsW e w v l) : ∃ xs : List (Cp × Sl), xs.map (·.1) = l ∧ xs.length = l.length ∧ (∀ x, x ∈ xs → Bs w (cvV x.1 x.2) x.1.value) ∧
    (0 < l.length → ∃ b o cap, v = .slice (some ⟨b, o, none⟩) l.length cap ∧ ∀ w', Same w w' → ∀ j x, xs[j]? = some x → w'.cell? ⟨b, o + j * 2, none⟩ = some (.int .i64 x.1.code) ∧ w'.cell? ⟨b, o + j * 2 + 1, none⟩ = some (cvV x.1 x.2)) := by
  obtain ⟨xs, rfl, h2, h3⟩ := h
  refine ⟨xs, rfl, by rw [List.length_map], h3, fun hl => ?_⟩
  rw [List.length_map] at hl ⊢
  obtain ⟨b, o, cap, rfl, h4, h5, h6⟩ := h2.at hl
  refine ⟨b, o, cap, rfl, fun w' hs j x hx => ?_⟩
  have hc := h6 w' hs j x hx
  exact ⟨hc 0 _ rfl, hc 1 _ rfl⟩

def OqAt (w : World) (B : Nat) (o : Oq) (vc : Value) : Prop :=
  w.cell? ⟨B, 0, none⟩ = some (.int .i64 o.asn) ∧ w.cell? ⟨B, 1, none⟩ = some (.int .i64 o.hold) ∧ w.cell? ⟨B, 2, none⟩ = some (.int .u32 o.ident) ∧ w.cell? ⟨B, 3, none⟩ = some vc
theorem OqAt.of {w : World} {B : Nat} {t : TypeId} {o : Oq} {vc : Value} (hk : w.heap[B]? = some (oqO t o vc)) : OqAt w B o vc := by
  refine ⟨?_, ?_, ?_, ?_⟩ <;> simp [World.cell?, hk]
def CpAt (w : World) (B : Nat) (c : Cp) (vo : Value) : Prop :=
  w.cell? ⟨B, 0, none⟩ = some (.int .i64 c.code) ∧ w.cell? ⟨B, 1, none⟩ = some vo
theorem CpAt.of {w : World} {B : Nat} {t : TypeId} {c : Cp} {vo : Value} (hk : w.heap[B]? = some (cpO t c vo)) : CpAt w B c vo := by
  refine ⟨?_, ?_⟩ <;> simp [World.cell?, hk]
end Go.Proofs.Ytidijoncngfppaa
