/- Plain forms of layer 5: a flow, the ports that bytes tell, a flow in memory. No condition. -/
import Derived.Test.YteoleblnhcnpkaaIpN
namespace Go.Proofs.Yteoleblnhcnpkaa
open Go.RowKit
set_option linter.unusedVariables false

/-- a flow -/
structure Fl where
  proto : Int
  src : Int
  dst : Int
  sport : Int
  dport : Int
deriving DecidableEq

/-- its numbers are those of their kinds -/
structure FlOk (f : Fl) : Prop where
  proto : -9223372036854775808 ≤ f.proto ∧ f.proto ≤ 9223372036854775807
  src : 0 ≤ f.src ∧ f.src ≤ 4294967295
  dst : 0 ≤ f.dst ∧ f.dst ≤ 4294967295
  sport : -9223372036854775808 ≤ f.sport ∧ f.sport ≤ 9223372036854775807
  dport : -9223372036854775808 ≤ f.dport ∧ f.dport ≤ 9223372036854775807

abbrev flV (f : Fl) : Value := .agg #[.int .i64 f.proto, .int .u32 f.src, .int .u32 f.dst, .int .i64 f.sport, .int .i64 f.dport]
abbrev flO (t : TypeId) (f : Fl) : Obj := .cells #[.int .i64 f.proto, .int .u32 f.src, .int .u32 f.dst, .int .i64 f.sport, .int .i64 f.dport] t

/-- the cells of a flow in memory -/
def FlAt (w : World) (B : Nat) (f : Fl) : Prop :=
  w.cell? ⟨B, 0, none⟩ = some (.int .i64 f.proto) ∧ w.cell? ⟨B, 1, none⟩ = some (.int .u32 f.src) ∧ w.cell? ⟨B, 2, none⟩ = some (.int .u32 f.dst) ∧ w.cell? ⟨B, 3, none⟩ = some (.int .i64 f.sport) ∧ w.cell? ⟨B, 4, none⟩ = some (.int .i64 f.dport)
theorem FlAt.of {w : World} {B : Nat} {t : TypeId} {f : Fl} (hk : w.heap[B]? = some (flO t f)) : FlAt w B f := by
  refine ⟨?_, ?_, ?_, ?_, ?_⟩ <;> simp [World.cell?, hk]
theorem FlAt.lt {w : World} {B : Nat} {f : Fl} (hk : FlAt w B f) : B < w.heap.size := World.block_lt_of_cell? w _ hk.1
theorem FlAt.below {n : Nat} {w w' : World} {B : Nat} {f : Fl} (hs : Below n w w') (hB : B < n) (hk : FlAt w B f) : FlAt w' B f := by
  obtain ⟨k0, k1, k2, k3, k4⟩ := hk
  have g : ∀ {j v}, w.cell? ⟨B, j, none⟩ = some v → w'.cell? ⟨B, j, none⟩ = some v := fun {j v} hc => by rw [Below.cell hs (p := ⟨B, j, none⟩) hB]; exact hc
  exact ⟨g k0, g k1, g k2, g k3, g k4⟩
theorem FlAt.same {w w' : World} {B : Nat} {f : Fl} (hs : Same w w') (hk : FlAt w B f) : FlAt w' B f := hk.below hs hk.lt
theorem fl_box (t : TypeId) (f : Fl) (w w' : World) (hs : Same (w.alloc (flO t f)) w') : FlAt w' w.heap.size f := FlAt.of (hs.block (heap_alloc_new w _))

/-- can a port be? -/
def portOk (n : Int) : Prop := 0 ≤ n ∧ n ≤ 65535
instance (n : Int) : Decidable (portOk n) := by unfold portOk; infer_instance
/-- can a packet of that flow be? -/
def goodF (f : Fl) : Prop := (f.proto = 6 ∨ f.proto = 17) ∧ portOk f.sport ∧ portOk f.dport
instance (f : Fl) : Decidable (goodF f) := by unfold goodF; infer_instance
/-- the way back -/
def backF (f : Fl) : Fl := ⟨f.proto, f.dst, f.src, f.dport, f.sport⟩

/-- how many bytes a head has at least -/
def leastP (p : Int) : Int := if p = 6 then 20 else if p = 17 then 8 else 0
/-- how many bytes it says that there are -/
def toldP (p : Int) (l : List UInt8) : Nat := if p = 6 then fld l 12 1 / 16 * 4 else fld l 4 2
/-- the first that is wrong -/
def pE (p : Int) (l : List UInt8) : Int :=
  if leastP p = 0 then 2 else if (l.length : Int) < leastP p then 3 else if (toldP p l : Int) < leastP p ∨ (l.length : Int) < toldP p l then 4 else 0
def pS (p : Int) (l : List UInt8) : Int := if pE p l = 0 then fld l 0 2 else 0
def pD (p : Int) (l : List UInt8) : Int := if pE p l = 0 then fld l 2 2 else 0
def pG (p : Int) (l : List UInt8) : Int := if pE p l = 0 ∧ p = 6 then fld l 13 1 else 0
abbrev ptV (p : Int) (l : List UInt8) : Value := .tuple #[.int .i64 (pS p l), .int .i64 (pD p l), .int .i64 (pG p l), .int .i64 (pE p l)]

theorem pE_cases (p : Int) (l : List UInt8) : (p ≠ 6 ∧ p ≠ 17 ∧ pE p l = 2) ∨ (p = 6 ∧ l.length < 20 ∧ pE p l = 3) ∨ (p = 17 ∧ l.length < 8 ∧ pE p l = 3) ∨
    (p = 6 ∧ 20 ≤ l.length ∧ (fld l 12 1 / 16 * 4 < 20 ∨ l.length < fld l 12 1 / 16 * 4) ∧ pE p l = 4) ∨ (p = 17 ∧ 8 ≤ l.length ∧ (fld l 4 2 < 8 ∨ l.length < fld l 4 2) ∧ pE p l = 4) ∨
    (p = 6 ∧ 20 ≤ l.length ∧ 20 ≤ fld l 12 1 / 16 * 4 ∧ fld l 12 1 / 16 * 4 ≤ l.length ∧ pE p l = 0) ∨ (p = 17 ∧ 8 ≤ l.length ∧ 8 ≤ fld l 4 2 ∧ fld l 4 2 ≤ l.length ∧ pE p l = 0) := by
  by_cases h6 : p = 6
  · subst h6
    have e : pE 6 l = if (l.length : Int) < 20 then 3 else if ((fld l 12 1 / 16 * 4 : Nat) : Int) < 20 ∨ (l.length : Int) < (fld l 12 1 / 16 * 4 : Nat) then 4 else 0 := rfl
    rw [e]
    generalize fld l 12 1 / 16 * 4 = t
    by_cases h1 : l.length < 20
    · rw [if_pos (by omega)]; simp [h1]
    · rw [if_neg (by omega)]
      by_cases h2 : t < 20 ∨ l.length < t
      · rw [if_pos (by omega)]; simp [h2]; omega
      · rw [if_neg (by omega)]; simp; omega
  · by_cases h7 : p = 17
    · subst h7
      have e : pE 17 l = if (l.length : Int) < 8 then 3 else if ((fld l 4 2 : Nat) : Int) < 8 ∨ (l.length : Int) < (fld l 4 2 : Nat) then 4 else 0 := rfl
      rw [e]
      generalize fld l 4 2 = t
      by_cases h1 : l.length < 8
      · rw [if_pos (by omega)]; simp [h1]
      · rw [if_neg (by omega)]
        by_cases h2 : t < 8 ∨ l.length < t
        · rw [if_pos (by omega)]; simp [h2]; omega
        · rw [if_neg (by omega)]; simp; omega
    · have e : pE p l = 2 := by unfold pE leastP; rw [if_neg h6, if_neg h7]; rfl
      exact .inl ⟨h6, h7, e⟩

theorem ptV_bad {p : Int} {l : List UInt8} {e : Int} (h : pE p l = e) (he : e ≠ 0) : ptV p l = .tuple #[.int .i64 0, .int .i64 0, .int .i64 0, .int .i64 e] := by
  unfold ptV pS pD pG
  rw [h]
  simp [he]
theorem ptV_tcp {l : List UInt8} (h : pE 6 l = 0) : ptV 6 l = .tuple #[.int .i64 (fld l 0 2), .int .i64 (fld l 2 2), .int .i64 (fld l 13 1), .int .i64 0] := by
  unfold ptV pS pD pG
  rw [h]
  simp
theorem ptV_udp {l : List UInt8} (h : pE 17 l = 0) : ptV 17 l = .tuple #[.int .i64 (fld l 0 2), .int .i64 (fld l 2 2), .int .i64 0, .int .i64 0] := by
  unfold ptV pS pD pG
  rw [h]
  simp

/-- a flow, its flags, and how many bytes there are -/
structure Sg where
  flow : Fl
  flags : Int
  size : Int
deriving DecidableEq
def zeroF : Fl := ⟨0, 0, 0, 0, 0⟩
def zeroG : Sg := ⟨zeroF, 0, 0⟩
abbrev sgV (g : Sg) : Value := .agg #[.int .i64 g.flow.proto, .int .u32 g.flow.src, .int .u32 g.flow.dst, .int .i64 g.flow.sport, .int .i64 g.flow.dport, .int .i64 g.flags, .int .i64 g.size]
abbrev sgO (t : TypeId) (g : Sg) : Obj := .cells #[.int .i64 g.flow.proto, .int .u32 g.flow.src, .int .u32 g.flow.dst, .int .i64 g.flow.sport, .int .i64 g.flow.dport, .int .i64 g.flags, .int .i64 g.size] t
/-- a packet of a flow: the first that is wrong, and what it is -/
def ofE (l : List UInt8) : Int :=
  if parseE l ≠ 0 then parseE l else if 0 < (parseH l).frag ∨ (parseH l).flags % 2 = 1 then 8
  else if pE (parseH l).proto (parseP l) = 2 then 7 else pE (parseH l).proto (parseP l)
def flowOf (h : Hd) (p : List UInt8) : Sg := ⟨⟨h.proto, h.src, h.dst, pS h.proto p, pD h.proto p⟩, pG h.proto p, p.length⟩
def ofG (l : List UInt8) : Sg := if ofE l = 0 then flowOf (parseH l) (parseP l) else zeroG
abbrev ofV (l : List UInt8) : Value := .tuple #[sgV (ofG l), .int .i64 (ofE l)]

/-- the first bytes of a slice, as its cells -/
theorem Bs.form {w : World} {v : Value} {l : List UInt8} (hb : Bs w v l) (h : 0 < l.length) : ∃ b o cap, v = .slice (some ⟨b, o, none⟩) l.length cap ∧ l.length ≤ cap ∧ cap ≤ 9223372036854775807 ∧
    ∀ w', Same w w' → ∀ j u, l[j]? = some u → w'.cell? ⟨b, o + j, none⟩ = some (.int .u8 (u.toNat : Int)) := by
  obtain ⟨ao, cap, rfl, h1, h2, h3, h4⟩ := hb
  cases ao with
  | none => have := h3 rfl; omega
  | some ad =>
    obtain ⟨b, o, sp⟩ := ad
    have hsp := (h4 _ rfl).1 (by intro e; subst e; simp at h)
    simp only at hsp
    subst hsp
    refine ⟨b, o, cap, rfl, h1, h2, fun w' hs j u hu => ?_⟩
    have hc := (h4 _ rfl).2 j u hu
    rw [addr_add] at hc
    rw [Below.cell hs (World.block_lt_of_cell? w _ hc)]
    exact hc
end Go.Proofs.Yteoleblnhcnpkaa
