/- Contract of the document's own Parse of layer 7. No condition beyond what it names. -/
import Derived.Test.YtidijoncngfppaaAtRT
namespace Go.Proofs.Ytidijoncngfppaa
open Go.RowKit
set_option linter.unusedVariables false

/-- the cells of the types that were met -/
def metN (n : Nat) (seen : List Int) : Array Value := ((List.range n).map fun (i : Nat) => Value.bool (decide ((i : Int) ∈ seen))).toArray
def metC (seen : List Int) : Array Value := metN 256 seen
theorem metN_set (n : Nat) (seen : List Int) (t : Nat) : (metN n seen).setIfInBounds t (.bool true) = metN n ((t : Int) :: seen) := by
  unfold metN
  apply Array.ext'
  simp only [Array.toList_setIfInBounds]
  apply List.ext_getElem?
  intro i
  by_cases hi : t = i
  · subst hi
    by_cases h : t < n
    · simp [h]
    · simp [h]
  · by_cases h : i < n
    · have hne : ¬ (i : Int) = (t : Int) := by omega
      simp [hi, h, hne]
    · simp [h]
theorem metN_at (n : Nat) (seen : List Int) (t : Nat) (ht : t < n) : (metN n seen)[t]? = some (.bool (decide ((t : Int) ∈ seen))) := by
  unfold metN
  simp [ht]
abbrev zeroAt (t : TypeId) : Obj := .cells #[.int .i64 0, .slice none 0 0, .int .u32 0, .int .i64 0, .bool false] t
theorem nofr {w : World} {R : Nat} {cs : Array Value} {t : TypeId} (hk : w.heap[R]? = some (.cells cs t (0, 0))) (j : Nat) : w.frozen? ⟨R, j, none⟩ = false := by
  simp [World.frozen?, hk]
theorem setRow_mod (s : Nat) (w : World) (cs : Array Value) : Mod s w (w.setRow s cs) := ⟨rfl, rfl, rfl, by simp [World.setRow], fun k _ hs => setRow_other w s k cs hs⟩
/-- a way out, two structs in the cells that the call made first -/
theorem two_end {t2 t3 : TypeId} {w u : World} (R2 R3 : Nat) (hne : R2 ≠ R3) (h2 : w.heap.size ≤ R2) (h3 : w.heap.size ≤ R3) (vs2 old2 vs3 old3 : List Value) (hs : Same w u)
    (hk2 : u.heap[R2]? = some (.cells old2.toArray t2 (0, 0))) (hk3 : u.heap[R3]? = some (.cells old3.toArray t3 (0, 0))) (hl2 : old2.length = vs2.length) (hl3 : old3.length = vs3.length) :
    (setsC R3 (setsC R2 u 0 vs2) 0 vs3).heap[R2]? = some (.cells vs2.toArray t2 (0, 0)) ∧ (setsC R3 (setsC R2 u 0 vs2) 0 vs3).heap[R3]? = some (.cells vs3.toArray t3 (0, 0)) ∧ Same w (setsC R3 (setsC R2 u 0 vs2) 0 vs3) ∧
      Kept [R2, R3] u (setsC R3 (setsC R2 u 0 vs2) 0 vs3) := by
  have q := sets_cells R2 t2 vs2 u [] old2 hk2 hl2
  have k3 : (setsC R2 u 0 vs2).heap[R3]? = some (.cells old3.toArray t3 (0, 0)) := (q.1.block R3 (Array.getElem?_eq_some_iff.1 hk3).1 (Ne.symm hne)).trans hk3
  have r := sets_cells R3 t3 vs3 (setsC R2 u 0 vs2) [] old3 k3 hl3
  have hK : Kept [R2, R3] u (setsC R3 (setsC R2 u 0 vs2) 0 vs3) := ((Kept.refl _ u).mod q.1 (.inl (by simp))).mod r.1 (.inl (by simp))
  refine ⟨(r.1.block R2 (Array.getElem?_eq_some_iff.1 q.2).1 hne).trans q.2, r.2, hK.to_same hs (fun s hs => ?_), hK⟩
  simp at hs
  rcases hs with rfl | rfl <;> assumption

/-- what Split's attributes are -/
theorem splitA_in : ∀ (f : Nat) (l : List UInt8) (a : Nat) (rs : List Rw), splitA f l a = some rs → ∀ r, r ∈ rs → (0 ≤ r.flags ∧ r.flags ≤ 255) ∧ (∃ t : Nat, r.type = t ∧ t < 256) ∧ r.value.length ≤ l.length
  | 0, l, a, rs, h, r, hr => by cases h; cases hr
  | f + 1, l, a, rs, h, r, hr => by
    rw [splitA] at h
    split at h
    · cases h; cases hr
    · split at h
      · cases h
      · rename_i r0 b hat
        obtain ⟨ys, hys, rfl⟩ := Option.map_eq_some_iff.1 h
        rcases List.mem_cons.1 hr with rfl | hr
        · unfold attrAt at hat
          split at hat
          · cases hat
          · split at hat
            · cases hat
            · cases hat
              have h1 := nmb_lt l a 1
              have h2 := nmb_lt l (a + 1) 1
              exact ⟨⟨by simp only; omega, by simp only; omega⟩, ⟨_, rfl, by omega⟩, by simp; omega⟩
        · exact splitA_in f l b ys hys r hr

end Go.Proofs.Ytidijoncngfppaa
