/- Plain lists for the check sums: a word of a row of bytes is stored. No condition. -/
import Derived.Test.YteoleblnhcnpkaaChkR
namespace Go.Proofs.Yteoleblnhcnpkaa
open Go.RowKit
set_option linter.unusedVariables false

/-- the total without word r -/
def rest (l : List UInt8) (r n : Nat) : Nat := tot (fun k => if k = r then 0 else wordAt l k) n

theorem tot_split (f : Nat → Nat) (r : Nat) : ∀ n, r < n → tot f n = tot (fun k => if k = r then 0 else f k) n + f r
  | 0, h => by omega
  | n + 1, h => by
    rw [tot, tot]
    by_cases hr : r = n
    · subst hr
      rw [if_pos rfl, tot_congr (f := f) (g := fun k => if k = r then 0 else f k) r (fun i hi => by rw [if_neg (by omega)])]
      omega
    · rw [tot_split f r n (by omega), if_neg (by omega)]; omega
theorem wordAt_set2 (l : List UInt8) (r k : Nat) (u v : UInt8) (h : 2 * r + 1 < l.length) :
    wordAt ((l.set (2 * r) u).set (2 * r + 1) v) k = if k = r then 256 * u.toNat + v.toNat else wordAt l k := by
  unfold wordAt
  by_cases hk : k = r
  · subst hk
    rw [if_pos rfl]
    have e1 : (((l.set (2 * k) u).set (2 * k + 1) v).getD (2 * k) 0) = u := by
      simp [List.getD, show 2 * k < l.length by omega]
    have e2 : (((l.set (2 * k) u).set (2 * k + 1) v).getD (2 * k + 1) 0) = v := by
      simp [List.getD, h]
    rw [e1, e2]
  · rw [if_neg hk]
    have e1 : (((l.set (2 * r) u).set (2 * r + 1) v).getD (2 * k) 0) = l.getD (2 * k) 0 := by
      rw [List.getD, List.getElem?_set_ne (by omega), List.getElem?_set_ne (by omega)]; rfl
    have e2 : (((l.set (2 * r) u).set (2 * r + 1) v).getD (2 * k + 1) 0) = l.getD (2 * k + 1) 0 := by
      rw [List.getD, List.getElem?_set_ne (by omega), List.getElem?_set_ne (by omega)]; rfl
    rw [e1, e2]
theorem rest_set2 (l : List UInt8) (r n : Nat) (u v : UInt8) (h : 2 * r + 1 < l.length) : rest ((l.set (2 * r) u).set (2 * r + 1) v) r n = rest l r n := by
  unfold rest
  refine tot_congr n fun i _ => ?_
  by_cases hi : i = r
  · rw [if_pos hi, if_pos hi]
  · rw [if_neg hi, if_neg hi, wordAt_set2 l r i u v h, if_neg hi]
theorem sum_set2 (l : List UInt8) (r n : Nat) (u v : UInt8) (hl : l.length = n + n) (hr : r < n) :
    sumB ((l.set (2 * r) u).set (2 * r + 1) v) = red (rest l r n + (256 * u.toNat + v.toNat)) := by
  unfold sumB
  have e : (((l.set (2 * r) u).set (2 * r + 1) v).length + 1) / 2 = n := by simp [hl]; omega
  rw [e, tot_split _ r n hr, wordAt_set2 l r r u v (by omega), if_pos rfl]
  have := rest_set2 l r n u v (by omega)
  unfold rest at this
  rw [this]; rfl
theorem sum_split (l : List UInt8) (r n : Nat) (hl : l.length = n + n) (hr : r < n) : sumB l = red (rest l r n + wordAt l r) := by
  unfold sumB
  have e : (l.length + 1) / 2 = n := by omega
  rw [e, tot_split _ r n hr]; rfl

theorem b8_hi (s : Nat) (h : s ≤ 65535) : Value.int .u8 ((s : Int) / 256) = b8 (UInt8.ofNat (s / 256)) := by
  unfold b8
  rw [UInt8.toNat_ofNat']
  congr 1; omega
theorem b8_lo (s : Nat) : Value.int .u8 ((s : Int) % 256) = b8 (UInt8.ofNat (s % 256)) := by
  unfold b8
  rw [UInt8.toNat_ofNat']
  congr 1; omega
theorem hi_lo (s : Nat) (h : s ≤ 65535) : 256 * (UInt8.ofNat (s / 256)).toNat + (UInt8.ofNat (s % 256)).toNat = s := by
  rw [UInt8.toNat_ofNat', UInt8.toNat_ofNat']
  omega
/-- the seal makes it good, and what else does -/
theorem seal_good (T : Nat) : red (T + (65535 - red T)) = 65535 := (seal_iff T _ (by omega)).2 (.inl rfl)
end Go.Proofs.Yteoleblnhcnpkaa
