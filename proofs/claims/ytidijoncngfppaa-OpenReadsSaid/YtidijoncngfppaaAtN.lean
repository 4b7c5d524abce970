/- Arithmetic of layer 7: attributes joined and split, what is said of a path in bytes and back. No condition. -/
import Derived.Test.YtidijoncngfppaaAtF
namespace Go.Proofs.Ytidijoncngfppaa
open Go.RowKit
set_option linter.unusedVariables false

theorem byteAt_val (n : Int) (i : Nat) : (byteAt n i).toNat = (n / 256 ^ i % 256).toNat := by
  have h := byteAt_int n i
  have : 0 ≤ n / 256 ^ i % 256 := Int.emod_nonneg _ (by decide)
  omega
theorem nmb_app (pre x : List UInt8) (i k : Nat) : nmb (pre ++ x) (pre.length + i) k = nmb x i k := by
  unfold nmb
  rw [List.drop_append]
  rw [List.drop_of_length_le (by omega), List.nil_append, show pre.length + i - pre.length = i from by omega]

/-- an attribute as its bytes say it -/
def capT (n : Int) : Nat := if extF n then 65535 else 255
def canR (r : Rw) : Rw := ⟨r.flags % 256, r.type % 256, r.value.take (capT r.flags)⟩
theorem extF_mod (n : Int) : extF (n % 256) ↔ extF n := by unfold extF; omega
theorem capT_mod (n : Int) : capT (n % 256) = capT n := by unfold capT; simp only [extF_mod]
theorem canR_can (r : Rw) : canR (canR r) = canR r := by
  unfold canR
  simp only [capT_mod, List.take_take, Nat.min_self, Rw.mk.injEq, and_true]
  omega
theorem byteAt_mod (n : Int) : byteAt (n % 256) 0 = byteAt n 0 := by
  unfold byteAt
  simp
theorem oneB_eq (r : Rw) : oneB r = [byteAt r.flags 0, byteAt r.type 0] ++ ((if extF r.flags then [byteAt ((canR r).value.length : Nat) 1, byteAt ((canR r).value.length : Nat) 0] else [byteAt ((canR r).value.length : Nat) 0]) ++ (canR r).value) := by
  unfold oneB canR capT
  by_cases h : extF r.flags
  · simp only [if_pos h]
  · simp only [if_neg h]
theorem oneB_can (r : Rw) : oneB (canR r) = oneB r := by
  rw [oneB_eq, oneB_eq, canR_can]
  simp only [show (canR r).flags = r.flags % 256 from rfl, show (canR r).type = r.type % 256 from rfl, byteAt_mod, extF_mod]
theorem joinB_can (l : List Rw) : joinB (l.map canR) = joinB l := by
  unfold joinB
  rw [List.map_map]
  congr 1
  exact List.map_congr_left fun r _ => oneB_can r
theorem canR_len (r : Rw) : (canR r).value.length ≤ capT r.flags := by unfold canR; simp; omega

theorem attrAt_one (pre post : List UInt8) (r : Rw) : attrAt (pre ++ (oneB r ++ post)) pre.length = some (canR r, pre.length + (oneB r).length) := by
  have hl := canR_len r
  have h0 : nmb (pre ++ (oneB r ++ post)) pre.length 1 = (r.flags % 256).toNat := by
    have := nmb_app pre (oneB r ++ post) 0 1
    rw [Nat.add_zero] at this
    rw [this, oneB_eq]
    simp [nmb, numOf, byteAt_val]
  have hF : ((r.flags % 256).toNat : Int) = r.flags % 256 := Int.toNat_of_nonneg (by omega)
  have h1 : nmb (pre ++ (oneB r ++ post)) (pre.length + 1) 1 = (r.type % 256).toNat := by
    rw [nmb_app, oneB_eq]
    simp [nmb, numOf, byteAt_val]
  have hT : ((r.type % 256).toNat : Int) = r.type % 256 := Int.toNat_of_nonneg (by omega)
  have hlen : (pre ++ (oneB r ++ post)).length = pre.length + ((oneB r).length + post.length) := by simp
  unfold attrAt
  rw [h0, h1, hF, hT]
  by_cases h : extF r.flags
  · have hK : lenK (r.flags % 256) = 2 := if_pos ((extF_mod _).2 h)
    have hc : capT r.flags = 65535 := if_pos h
    rw [hc] at hl
    have e := oneB_eq r
    rw [if_pos h] at e
    have hol : (oneB r).length = 4 + (canR r).value.length := by rw [e]; simp; omega
    have h2 : nmb (pre ++ (oneB r ++ post)) (pre.length + 2) 2 = (canR r).value.length := by
      rw [nmb_app, e]
      simp [nmb, numOf, byteAt_val]
      omega
    rw [hK, h2, hlen, hol, if_neg (by omega), if_neg (by omega)]
    have h3 : ((pre ++ (oneB r ++ post)).drop (pre.length + 2 + 2)).take (canR r).value.length = (canR r).value := by
      rw [e, show pre.length + 2 + 2 = pre.length + 4 from rfl, List.drop_append, List.drop_of_length_le (by omega), List.nil_append, show pre.length + 4 - pre.length = 4 from by omega]
      simp
    rw [h3, show pre.length + 2 + 2 + (canR r).value.length = pre.length + (4 + (canR r).value.length) from by omega]
    rfl
  · have hK : lenK (r.flags % 256) = 1 := if_neg (fun x => h ((extF_mod _).1 x))
    have hc : capT r.flags = 255 := if_neg h
    rw [hc] at hl
    have e := oneB_eq r
    rw [if_neg h] at e
    have hol : (oneB r).length = 3 + (canR r).value.length := by rw [e]; simp; omega
    have h2 : nmb (pre ++ (oneB r ++ post)) (pre.length + 2) 1 = (canR r).value.length := by
      rw [nmb_app, e]
      simp [nmb, numOf, byteAt_val]
      omega
    rw [hK, h2, hlen, hol, if_neg (by omega), if_neg (by omega)]
    have h3 : ((pre ++ (oneB r ++ post)).drop (pre.length + 2 + 1)).take (canR r).value.length = (canR r).value := by
      rw [e, show pre.length + 2 + 1 = pre.length + 3 from rfl, List.drop_append, List.drop_of_length_le (by omega), List.nil_append, show pre.length + 3 - pre.length = 3 from by omega]
      simp
    rw [h3, show pre.length + 2 + 1 + (canR r).value.length = pre.length + (3 + (canR r).value.length) from by omega]
    rfl

theorem joinB_cons (r : Rw) (l : List Rw) : joinB (r :: l) = oneB r ++ joinB l := by simp [joinB]
theorem joinB_append (l m : List Rw) : joinB (l ++ m) = joinB l ++ joinB m := by simp [joinB]
theorem oneB_len3 (r : Rw) : 3 ≤ (oneB r).length := by
  rw [oneB_eq]
  split <;> simp <;> omega

/-- attributes joined are split as they were -/
theorem splitA_join : ∀ (rs : List Rw) (f : Nat) (pre : List UInt8), (joinB rs).length ≤ f → splitA f (pre ++ joinB rs) pre.length = some (rs.map canR)
  | [], f, pre, _ => by
    have : (pre ++ joinB []).length ≤ pre.length := by simp [joinB]
    cases f with
    | zero => rfl
    | succ f => rw [splitA, if_pos this]; rfl
  | r :: rs, f, pre, hf => by
    have h3 := oneB_len3 r
    rw [joinB_cons] at hf ⊢
    rw [List.length_append] at hf
    cases f with
    | zero => omega
    | succ f =>
      rw [splitA, if_neg (by simp; omega), attrAt_one]
      have := splitA_join rs f (pre ++ oneB r) (by omega)
      rw [List.append_assoc, List.length_append] at this
      simp only [this]
      rfl
theorem splitL_join (rs : List Rw) : splitL (joinB rs) = some (rs.map canR) := by
  have := splitA_join rs (joinB rs).length [] (Nat.le_refl _)
  exact this

/-- an attribute that is cut is none -/
theorem attrAt_cut (pre : List UInt8) (r : Rw) (k : Nat) (hk : k < (oneB r).length) : attrAt (pre ++ (oneB r).take k) pre.length = none := by
  have hl := canR_len r
  have e := oneB_eq r
  have hlen : (pre ++ (oneB r).take k).length = pre.length + k := by simp; omega
  have hcase := lenK_or (nmb (pre ++ (oneB r).take k) pre.length 1 : Int)
  unfold attrAt
  rw [hlen]
  by_cases h2 : k < 2 + lenK (nmb (pre ++ (oneB r).take k) pre.length 1 : Int)
  · rw [if_pos (by omega)]
  · rw [if_neg (by omega)]
    have h0 : nmb (pre ++ (oneB r).take k) pre.length 1 = (r.flags % 256).toNat := by
      have := nmb_app pre ((oneB r).take k) 0 1
      rw [Nat.add_zero] at this
      rw [this, e]
      unfold nmb
      rw [List.drop_zero, List.take_take, Nat.min_eq_left (by omega)]
      simp [numOf, byteAt_val]
    have hF : ((r.flags % 256).toNat : Int) = r.flags % 256 := Int.toNat_of_nonneg (by omega)
    rw [h0, hF] at h2 ⊢
    have hnm : ∀ j, 2 + j ≤ k → nmb (pre ++ (oneB r).take k) (pre.length + 2) j = nmb (oneB r) 2 j := by
      intro j hj
      rw [nmb_app]
      unfold nmb
      rw [List.drop_take, List.take_take, Nat.min_eq_left (by omega)]
    by_cases h : extF r.flags
    · have hK : lenK (r.flags % 256) = 2 := if_pos ((extF_mod _).2 h)
      have hc : capT r.flags = 65535 := if_pos h
      rw [hc] at hl
      rw [if_pos h] at e
      have hol : (oneB r).length = 4 + (canR r).value.length := by rw [e]; simp; omega
      rw [hK] at h2 ⊢
      have h2' : nmb (oneB r) 2 2 = (canR r).value.length := by
        rw [e]
        simp [nmb, numOf, byteAt_val]
        omega
      rw [hnm 2 (by omega), h2', if_pos (by omega)]
    · have hK : lenK (r.flags % 256) = 1 := if_neg (fun x => h ((extF_mod _).1 x))
      have hc : capT r.flags = 255 := if_neg h
      rw [hc] at hl
      rw [if_neg h] at e
      have hol : (oneB r).length = 3 + (canR r).value.length := by rw [e]; simp; omega
      rw [hK] at h2 ⊢
      have h2' : nmb (oneB r) 2 1 = (canR r).value.length := by
        rw [e]
        simp [nmb, numOf, byteAt_val]
        omega
      rw [hnm 1 (by omega), h2', if_pos (by omega)]

/-- what is left of joined attributes when they are cut -/
theorem splitA_cut : ∀ (rs : List Rw) (f : Nat) (pre : List UInt8) (k : Nat), k < (joinB rs).length → k ≤ f → splitA f (pre ++ (joinB rs).take k) pre.length = none ∨ ∃ j, j < rs.length ∧ splitA f (pre ++ (joinB rs).take k) pre.length = some ((rs.take j).map canR)
  | [], f, pre, k, hk, _ => by simp [joinB] at hk
  | r :: rs, f, pre, k, hk, hf => by
    have h3 := oneB_len3 r
    rw [joinB_cons] at hk ⊢
    by_cases h0 : k = 0
    · subst h0
      refine .inr ⟨0, by simp, ?_⟩
      cases f with
      | zero => rfl
      | succ f => rw [splitA, if_pos (by simp)]; rfl
    cases f with
    | zero => omega
    | succ f =>
      have hl : ¬ (pre ++ (oneB r ++ joinB rs).take k).length ≤ pre.length := by
        rw [List.length_append, List.length_take]
        omega
      rw [splitA, if_neg hl]
      by_cases h1 : k < (oneB r).length
      · left
        rw [List.take_append_of_le_length (by omega), attrAt_cut pre r k h1]
      · have et : (oneB r ++ joinB rs).take k = oneB r ++ (joinB rs).take (k - (oneB r).length) := by
          rw [List.take_append, List.take_of_length_le (by omega)]
        rw [List.length_append] at hk
        rw [et, attrAt_one]
        have ih := splitA_cut rs f (pre ++ oneB r) (k - (oneB r).length) (by omega) (by omega)
        rw [List.append_assoc, List.length_append] at ih
        rcases ih with ih | ⟨j, hj, ih⟩
        · left; simp only [ih]; rfl
        · right
          refine ⟨j + 1, by simp; omega, ?_⟩
          simp only [ih]
          rfl
theorem splitL_cut (rs : List Rw) (k : Nat) (hk : k < (joinB rs).length) : splitL ((joinB rs).take k) = none ∨ ∃ j, j < rs.length ∧ splitL ((joinB rs).take k) = some ((rs.take j).map canR) := by
  have := splitA_cut rs ((joinB rs).take k).length [] k hk (by simp; omega)
  exact this
end Go.Proofs.Ytidijoncngfppaa
