/- Memory of layer 7: attributes in a row, what is said of a path, faults. No condition. -/
import Derived.Test.YtidijoncngfppaaAtF
namespace Go.Proofs.Ytidijoncngfppaa
open Go.RowKit
set_option linter.unusedVariables false
set_option maxRecDepth 100000

/-- where a slice lies -/
structure Sl where
  ao : Option Addr
  cap : Nat
abbrev svV (r : Rw) (s : Sl) : Value := .slice s.ao r.value.length s.cap
abbrev rwV (r : Rw) (vo : Value) : Value := .agg #[.int .i64 r.flags, .int .i64 r.type, vo]
abbrev rwO (t : TypeId) (r : Rw) (vo : Value) : Obj := .cells #[.int .i64 r.flags, .int .i64 r.type, vo] t
abbrev ftV (f : Ft) (vd : Value) : Value := .agg #[.int .i64 f.code, .int .i64 f.sub, vd]
abbrev ftO (t : TypeId) (f : Ft) (vd : Value) : Obj := .cells #[.int .i64 f.code, .int .i64 f.sub, vd] t
abbrev atV (a : At) (vp : Value) : Value := .agg #[.int .i64 a.origin, vp, .int .u32 a.hop, .int .i64 a.med, .bool a.has]
abbrev atO (t : TypeId) (a : At) (vp : Value) : Obj := .cells #[.int .i64 a.origin, vp, .int .u32 a.hop, .int .i64 a.med, .bool a.has] t

def rawLay (e : TypeId) : Lay (Rw × Sl) := ⟨e, 3, fun x => [.int .i64 x.1.flags, .int .i64 x.1.type, svV x.1 x.2], fun _ => rfl, fun a u h => by
  simp only [List.mem_cons, List.not_mem_nil, or_false] at h
  rcases h with rfl | rfl | rfl <;> rfl⟩
/-- a row of attributes -/
def RawsW (e : TypeId) (w : World) (v : Value) (l : List Rw) : Prop := ∃ xs : List (Rw × Sl), xs.map (·.1) = l ∧ Rs (rawLay e) w v xs ∧ ∀ x, x ∈ xs → Bs w (svV x.1 x.2) x.1.value
theorem RawsW.same {e : TypeId} {w w' : World} {v : Value} {l : List Rw} (h : Same w w') (hb : RawsW e w v l) : RawsW e w' v l := by
  obtain ⟨xs, h1, h2, h3⟩ := hb
  exact ⟨xs, h1, h2.same h, fun x hx => (h3 x hx).same h⟩
theorem RawsW.nil (e : TypeId) (w : World) : RawsW e w (.slice none 0 0) [] := ⟨[], rfl, Rs.nil _ w, fun x h => by cases h⟩
theorem RawsW.form {e : TypeId} {w : World} {v : Value} {l : List Rw} (h : RawsW e w v l) {n : Nat} (hn : l.length = n) : ∃ ao cap, v = .slice ao n cap := by
  obtain ⟨xs, h1, h2, -⟩ := h
  exact h2.form (by rw [← hn, ← h1, List.length_map])

/-- the cells of a row's attributes, and their values -/
theorem RawsW.at {e : TypeId} {w : World} {v : Value} {l : List Rw} (h : RawsW e w v l) (hl : 0 < l.length) : ∃ b o cap, v = .slice (some ⟨b, o, none⟩) l.length cap ∧ l.length ≤ cap ∧ cap ≤ 9223372036854775807 ∧
    ∀ j r, l[j]? = some r → ∃ s : Sl, ∀ w', Same w w' → Bs w' (svV r s) r.value ∧ w'.cell? ⟨b, o + j * 3, none⟩ = some (.int .i64 r.flags) ∧ w'.cell? ⟨b, o + j * 3 + 1, none⟩ = some (.int .i64 r.type) ∧ w'.cell? ⟨b, o + j * 3 + 2, none⟩ = some (svV r s) := by
  obtain ⟨xs, rfl, h2, h3⟩ := h
  rw [List.length_map] at hl
  obtain ⟨b, o, cap, rfl, h4, h5, h6⟩ := h2.at hl
  refine ⟨b, o, cap, by rw [List.length_map], by rw [List.length_map]; exact h4, h5, fun j r hr => ?_⟩
  rw [List.getElem?_map, Option.map_eq_some_iff] at hr
  obtain ⟨x, hx, rfl⟩ := hr
  refine ⟨x.2, fun w' hs => ?_⟩
  have hc := h6 w' hs j x hx
  exact ⟨(h3 x (List.mem_of_getElem? hx)).same hs, hc 0 _ rfl, hc 1 _ rfl, hc 2 _ rfl⟩

/-- a row of ints -/
theorem Rs.ints {w : World} {v : Value} {l : List Int} (h : Rs intLay w v l) (hl : 0 < l.length) : ∃ b o cap, v = .slice (some ⟨b, o, none⟩) l.length cap ∧ l.length ≤ cap ∧ cap ≤ 9223372036854775807 ∧
    ∀ w', Same w w' → ∀ j n, l[j]? = some n → w'.cell? ⟨b, o + j, none⟩ = some (.int .i64 n) := by
  obtain ⟨b, o, cap, rfl, h4, h5, h6⟩ := h.at hl
  refine ⟨b, o, cap, rfl, h4, h5, fun w' hs j n hn => ?_⟩
  have := h6 w' hs j n hn 0 _ rfl
  rw [show j * intLay.k + 0 = j from by show j * 1 + 0 = j; omega] at this
  exact this

/-- structs in memory, cell by cell -/
def RwAt (w : World) (B : Nat) (r : Rw) (vo : Value) : Prop :=
  w.cell? ⟨B, 0, none⟩ = some (.int .i64 r.flags) ∧ w.cell? ⟨B, 1, none⟩ = some (.int .i64 r.type) ∧ w.cell? ⟨B, 2, none⟩ = some vo
theorem RwAt.of {w : World} {B : Nat} {t : TypeId} {r : Rw} {vo : Value} (hk : w.heap[B]? = some (rwO t r vo)) : RwAt w B r vo := by
  refine ⟨?_, ?_, ?_⟩ <;> simp [World.cell?, hk]
def FtAt (w : World) (B : Nat) (f : Ft) (vd : Value) : Prop :=
  w.cell? ⟨B, 0, none⟩ = some (.int .i64 f.code) ∧ w.cell? ⟨B, 1, none⟩ = some (.int .i64 f.sub) ∧ w.cell? ⟨B, 2, none⟩ = some vd
theorem FtAt.of {w : World} {B : Nat} {t : TypeId} {f : Ft} {vd : Value} (hk : w.heap[B]? = some (ftO t f vd)) : FtAt w B f vd := by
  refine ⟨?_, ?_, ?_⟩ <;> simp [World.cell?, hk]
def AtAt (w : World) (B : Nat) (a : At) (vp : Value) : Prop :=
  w.cell? ⟨B, 0, none⟩ = some (.int .i64 a.origin) ∧ w.cell? ⟨B, 1, none⟩ = some vp ∧ w.cell? ⟨B, 2, none⟩ = some (.int .u32 a.hop) ∧ w.cell? ⟨B, 3, none⟩ = some (.int .i64 a.med) ∧ w.cell? ⟨B, 4, none⟩ = some (.bool a.has)
theorem AtAt.of {w : World} {B : Nat} {t : TypeId} {a : At} {vp : Value} (hk : w.heap[B]? = some (atO t a vp)) : AtAt w B a vp := by
  refine ⟨?_, ?_, ?_, ?_, ?_⟩ <;> simp [World.cell?, hk]
end Go.Proofs.Ytidijoncngfppaa
