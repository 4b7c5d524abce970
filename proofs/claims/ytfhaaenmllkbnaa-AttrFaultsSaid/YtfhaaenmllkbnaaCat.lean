/- slices.Concat of any row of byte slices. No condition beyond what each names. -/
import Derived.Test.YtfhaaenmllkbnaaPut
import Derived.Test.YtfhaaenmllkbnaaLives
namespace Go.Proofs.Ytfhaaenmllkbnaa
open Go.RowKit
set_option linter.unusedVariables false

/-- all bytes of a row of slices -/
def catL (xs : List (Value × List UInt8)) : List UInt8 := (xs.map (·.2)).flatten
theorem catL_take (xs : List (Value × List UInt8)) (k : Nat) (h : k < xs.length) : catL (xs.take (k + 1)) = catL (xs.take k) ++ xs[k].2 := by
  unfold catL
  rw [List.take_succ_eq_append_getElem h, List.map_append, List.flatten_append]
  simp
theorem catL_take_le (xs : List (Value × List UInt8)) (k : Nat) : (catL (xs.take k)).length ≤ (catL xs).length := by
  have : catL xs = catL (xs.take k) ++ catL (xs.drop k) := by
    unfold catL
    rw [← List.flatten_append, ← List.map_append, List.take_append_drop]
  rw [this, List.length_append]; omega

set_option maxRecDepth 100000 in
theorem cat_any (n g : Nat) (xs : List (Value × List UInt8)) (hn : xs.length = n) (w : World) (hb : ∀ x, x ∈ xs → Bs w x.1 x.2) (hl : (catL xs).length ≤ 140737488355328) (hn2 : (n : Int) ≤ 140737488355328)
    (hg : w.heap[g]? = some (.cells (xs.map (·.1)).toArray 22 (0, 0))) :
    Calls Try.prog 65 #[.slice (some ⟨g, 0, none⟩) n n] w fun e w' => ∃ v, e = .returned v ∧ OwnB w' w.heap.size v (catL xs) ∧ Same w w' := by
  have HC : Hid (∀ k, k < n → ∃ ao cap l, xs[k]? = some (.slice ao l.length cap, l) ∧ catL (xs.take (k + 1)) = catL (xs.take k) ++ l ∧ Bs w (.slice ao l.length cap) l ∧ ∀ w', Same w w' → w'.cell? ⟨g, k, none⟩ = some (.slice ao l.length cap)) := by
    intro k hk
    have hk' : k < xs.length := by omega
    obtain ⟨⟨v, l⟩, hx⟩ : ∃ x, xs[k] = x := ⟨_, rfl⟩
    have hb1 := hb xs[k] (List.getElem_mem hk')
    rw [hx] at hb1
    have h2 := hb1
    obtain ⟨ao, cap, hv, -, -, -, -⟩ := hb1
    simp only at hv
    subst hv
    have h3 := catL_take xs k hk'
    rw [hx] at h3
    refine ⟨ao, cap, l, by rw [List.getElem?_eq_getElem hk', hx], h3, h2, fun w' hs => ?_⟩
    have hc : w.cell? ⟨g, k, none⟩ = some (.slice ao l.length cap) := by simp [World.cell?, hg, hk', hx]
    rw [Below.cell hs (World.block_lt_of_cell? w _ hc)]
    exact hc
  have HL : Hid (∀ k, (catL (xs.take k)).length ≤ (catL xs).length) := catL_take_le xs
  have H0 : Hid (catL (xs.take 0) = []) := by show _ = _; simp [catL]
  have HT : Hid (catL (xs.take n) = catL xs) := by show _ = _; rw [List.take_of_length_le (by omega)]
  have HLn : Hid ((catL xs).length ≤ 140737488355328) := hl
  have HGrow := Lib.hid (grow_nil (catL xs).length (by omega) w)
  clear hb hg hl hn
  go_enter Try.func65, Try.ntmps65
  go_wp2_with fail
  go_loop [3, 11] (fun sz i => ∃ k : Nat, k ≤ n ∧ i = .int .i64 k ∧ sz = .int .i64 (catL (xs.take k)).length) (fun _ i => n - (intOf i).toNat)
  case atStart => exact ⟨0, Nat.zero_le _, rfl, by rw [H0.out]; rfl⟩
  case round =>
    obtain ⟨k, hk, rfl, rfl⟩ := hrel
    by_cases hlt : k < n
    · obtain ⟨ao, cap, l, hx, ht, hbs, hc⟩ := HC.out k hlt
      have c := hc w (Same.refl w)
      have h1 := HL.out (k + 1)
      have h2 := HLn.out
      have hq : Hid ((catL (xs.take (k + 1))).length = (catL (xs.take k)).length + l.length) := by show _ = _; rw [ht, List.length_append]
      have h3 := hq.out
      have HS : Hid (((catL (xs.take (k + 1))).length : Int) = ((catL (xs.take k)).length : Int) + l.length) := by show _ = _; omega
      have b1 : ((catL (xs.take k)).length : Int) + l.length ≤ 140737488355328 := by omega
      clear hx ht hbs hc h1 h2 h3 hq
      generalize (catL (xs.take k)).length = S0 at *
      generalize l.length = m at *
      go_wp2_with fail
      go_round
      case rel => exact ⟨k + 1, by omega, by simp, by rw [HS.out]⟩
      case measure => simp [intOf]; omega
    · obtain rfl : k = n := by omega
      rw [HT.out]
      go_wp2_with fail
      refine HGrow.out.mono ?_
      rintro e w1 ⟨v, rfl, ho, hs⟩
      have HO := Lib.hid ho
      have HS := Lib.hid hs
      clear ho hs
      go_wp2_with fail
      go_loopw [6, 27] (fun bv i wr => ∃ j : Nat, j ≤ k ∧ i = .int .i64 j ∧ OwnB wr w.heap.size bv (catL (xs.take j)) ∧ Same w wr) (fun _ i _ => k - (intOf i).toNat)
      case atStart => exact ⟨0, Nat.zero_le _, rfl, by rw [H0.out]; exact HO.out, HS.out⟩
      case round =>
        obtain ⟨j, hj, rfl, ho, hs⟩ := hrel
        by_cases hlt2 : j < k
        · obtain ⟨ao, cap, l, hx, ht, hbs, hc⟩ := HC.out j hlt2
          have c := hc _ hs
          have h1 := HL.out (j + 1)
          rw [ht, List.length_append] at h1
          have h2 := HLn.out
          have HB := Lib.hid (hbs.same hs)
          have HO2 := Lib.hid ho
          have HS2 := Lib.hid hs
          have HT2 := Lib.hid ht
          have HLe : Hid ((catL (xs.take j)).length + l.length ≤ 140737488355328) := by show _ ≤ _; omega
          clear hx ht hbs hc ho hs h1 h2
          go_wp2_with (at_builtin; refine wpList_append_bs rfl _ _ rfl w HS2.out _ _ rfl HO2.out _ l rfl HB.out HLe.out ?_; intro v2 w2 ho2 hs2)
          go_roundw
          case rel => exact ⟨j + 1, by omega, by simp, by rw [HT2.out]; exact ho2, hs2⟩
          case measure => simp [intOf]; omega
        · obtain rfl : j = k := by omega
          rw [HT.out] at ho
          have HO2 := Lib.hid ho
          have HS2 := Lib.hid hs
          clear ho hs
          go_wp2_with fail
          go_ret
          exact ⟨_, rfl, HO2.out, HS2.out⟩
end Go.Proofs.Ytfhaaenmllkbnaa
