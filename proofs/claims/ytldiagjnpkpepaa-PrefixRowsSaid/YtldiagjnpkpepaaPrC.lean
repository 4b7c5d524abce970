/- slices.Compact of prefixes. No condition beyond what it names. -/
import Derived.Test.YtldiagjnpkpepaaMemP
import Derived.Test.YtldiagjnpkpepaaPfxF
import Derived.Test.YtldiagjnpkpepaaReg
import Derived.Test.YtldiagjnpkpepaaPrL
import Derived.LoopTactic
namespace Go.Proofs.Ytldiagjnpkpepaa
open Go.RowKit
set_option linter.unusedVariables false
set_option maxRecDepth 100000
attribute [local go_sem ↓] eq_pfx neq_pfx

/-- neighbours that are alike once, of the first so many -/
def cmpT (l : List (Int × Int)) : Nat → List (Int × Int)
  | 0 => []
  | j + 1 => match l[j]? with
    | none => cmpT l j
    | some x => if 0 < j ∧ l[j - 1]? = some x then cmpT l j else cmpT l j ++ [x]
theorem cmpT_one {l : List (Int × Int)} (h : 0 < l.length) : cmpT l 1 = l.take 1 := by
  cases l with
  | nil => simp at h
  | cons x l => simp [cmpT]
theorem cmpT_eq {l : List (Int × Int)} {j : Nat} (h : j + 1 < l.length) (he : l[j + 1] = l[j]) : cmpT l (j + 2) = cmpT l (j + 1) := by
  rw [cmpT, List.getElem?_eq_getElem h]
  simp [he, List.getElem?_eq_getElem (show j < l.length by omega)]
theorem cmpT_ne {l : List (Int × Int)} {j : Nat} (h : j + 1 < l.length) (he : ¬ l[j + 1] = l[j]) : cmpT l (j + 2) = cmpT l (j + 1) ++ [l[j + 1]] := by
  rw [cmpT, List.getElem?_eq_getElem h]
  have : ¬ (l[j]? = some l[j + 1]) := by
    rw [List.getElem?_eq_getElem (show j < l.length by omega)]
    intro hh
    exact he (Option.some.inj hh).symm
  simp [this]

/-- a row of prefixes in a block, from a place on -/
structure RowP (w : World) (g o : Nat) (l : List (Int × Int)) : Prop where
  cells : ∀ j p, l[j]? = some p → w.cell? ⟨g, o + j * 2, none⟩ = some (.int .u32 p.1) ∧ w.cell? ⟨g, o + j * 2 + 1, none⟩ = some (.int .i64 p.2)
  frz : ∀ j, j < l.length → w.frozen? ⟨g, o + j * 2, none⟩ = false ∧ w.frozen? ⟨g, o + j * 2 + 1, none⟩ = false
theorem RowP.same {w w' : World} {g o : Nat} {l : List (Int × Int)} (hs : Same w w') (h : RowP w g o l) : RowP w' g o l := by
  constructor
  · intro j p hj
    obtain ⟨c0, c1⟩ := h.cells j p hj
    exact ⟨(hs.cell (World.block_lt_of_cell? _ _ c0)).trans c0, (hs.cell (World.block_lt_of_cell? _ _ c1)).trans c1⟩
  · intro j hj
    obtain ⟨c0, c1⟩ := h.cells j l[j] (by simp [hj])
    obtain ⟨f0, f1⟩ := h.frz j hj
    have e : w'.heap[g]? = w.heap[g]? := Below.block hs g (World.block_lt_of_cell? _ _ c0)
    constructor
    · rw [← f0]; simp only [World.frozen?, e]
    · rw [← f1]; simp only [World.frozen?, e]
theorem RowP.set {w : World} {g o : Nat} {l : List (Int × Int)} (h : RowP w g o l) (k : Nat) (hk : k < l.length) (p : Int × Int) :
    RowP ((w.setCell ⟨g, o + k * 2, none⟩ (.int .u32 p.1)).setCell ⟨g, o + k * 2 + 1, none⟩ (.int .i64 p.2)) g o (l.set k p) := by
  obtain ⟨c0, c1⟩ := h.cells k l[k] (by simp [hk])
  constructor
  · intro j q hj
    by_cases hjk : j = k
    · subst hjk
      have : q = p := by simpa [hk] using hj.symm
      subst this
      constructor
      · rw [World.cell?_setCell_other _ _ _ _ (fun e => by simp only [Addr.mk.injEq, true_and, and_true] at e; omega)]
        exact World.cell?_setCell_same' _ _ _ (by rw [c0]; rfl)
      · refine World.cell?_setCell_same' _ _ _ ?_
        rw [World.cell?_setCell_other _ _ _ _ (fun e => by simp only [Addr.mk.injEq, true_and, and_true] at e; omega), c1]; rfl
    · rw [List.getElem?_set_ne (by omega)] at hj
      obtain ⟨d0, d1⟩ := h.cells j q hj
      constructor
      · rw [World.cell?_setCell_other _ _ _ _ (fun e => by simp only [Addr.mk.injEq, true_and, and_true] at e; omega), World.cell?_setCell_other _ _ _ _ (fun e => by simp only [Addr.mk.injEq, true_and, and_true] at e; omega), d0]
      · rw [World.cell?_setCell_other _ _ _ _ (fun e => by simp only [Addr.mk.injEq, true_and, and_true] at e; omega), World.cell?_setCell_other _ _ _ _ (fun e => by simp only [Addr.mk.injEq, true_and, and_true] at e; omega), d1]
  · intro j hj
    rw [List.length_set] at hj
    obtain ⟨f0, f1⟩ := h.frz j hj
    rw [World.frozen?_setCell, World.frozen?_setCell, World.frozen?_setCell, World.frozen?_setCell]
    exact ⟨f0, f1⟩
theorem RowP.at {w : World} {g o : Nat} {l : List (Int × Int)} (h : RowP w g o l) (j a : Nat) (p : Int × Int) (hj : l[j]? = some p) (ha : a = o + j * 2) : w.cell? ⟨g, a, none⟩ = some (.int .u32 p.1) ∧ w.cell? ⟨g, a + 1, none⟩ = some (.int .i64 p.2) := by
  subst ha
  exact h.cells j p hj

theorem frz_setCells (b : Nat) : ∀ (vs : List Value) (o : Nat) (w : World) (a : Addr), (w.setCells b o vs).frozen? a = w.frozen? a
  | [], _, _, _ => rfl
  | v :: r, o, w, a => by rw [World.setCells, frz_setCells b r, World.frozen?_setCell]
theorem mod_setCells (b : Nat) : ∀ (vs : List Value) (o : Nat) (w : World), Mod b w (w.setCells b o vs)
  | [], _, w => Mod.refl b w
  | v :: r, o, w => by rw [World.setCells]; exact (Mod.setCell b o w v).trans (mod_setCells b r _ _)

theorem pzero : Try.prog.underlying 22 = some (.slice 58) := Try.underlying22
theorem run_clear_pfx (w : World) (ty : TypeId) (g o n c : Nat) (l : List (Int × Int)) (k : Nat) (hk : k < l.length) (hn : n = l.length - k) (h : RowP w g o l) :
    ∃ w', (Builtin.clear_ #[22] ty #[.slice (some ⟨g, o + k * 2, none⟩) n c]).run Try.prog w = .ok (.tuple #[]) w' ∧ RowP w' g o (l.take k) ∧ Mod g w w' := by
  obtain ⟨i0, hi, hz0, hz1, hz2⟩ := info_parts pinfo
  have hv : ∀ w, (zeroValue 58).run Try.prog w = .ok (.agg #[.int .u32 0, .int .i64 0]) w := fun w => by simp [zeroValue, typeInfo, hi, hz0]
  obtain ⟨vs, hvs⟩ : ∃ vs, vs = (Builtin.zeroCells (Value.agg #[.int .u32 0, .int .i64 0]).cells n).toList := ⟨_, rfl⟩
  have hlen : vs.length = n * 2 := by rw [hvs]; simp [size_zeroCells, Value.cells]
  have hone : ∀ v ∈ vs, v.oneCell' = true := by
    intro v hv2
    rw [hvs] at hv2
    simp [Builtin.zeroCells, Value.cells] at hv2
    obtain ⟨a, _, rfl⟩ := hv2
    rcases (show a % 2 = 0 ∨ a % 2 = 1 by omega) with e | e <;> rw [e] <;> rfl
  have hex : ∀ j, j < vs.length → (w.cell? ⟨g, o + k * 2 + 0 + j, none⟩).isSome = true ∧ w.frozen? ⟨g, o + k * 2 + 0 + j, none⟩ = false := by
    intro j hj
    have hi2 : k + j / 2 < l.length := by omega
    obtain ⟨c0, c1⟩ := h.cells (k + j / 2) l[k + j / 2] (by simp [hi2])
    obtain ⟨f0, f1⟩ := h.frz (k + j / 2) hi2
    by_cases hp : j % 2 = 0
    · rw [show o + k * 2 + 0 + j = o + (k + j / 2) * 2 from by omega]
      exact ⟨by rw [c0]; rfl, f0⟩
    · rw [show o + k * 2 + 0 + j = o + (k + j / 2) * 2 + 1 from by omega]
      exact ⟨by rw [c1]; rfl, f1⟩
  have hst := run_storeCells_cells (P := Try.prog) g (o + k * 2) vs 0 w (fun j hj => (hex j hj).1) (fun j hj => (hex j hj).2) hone
  have hn0 : n ≠ 0 := by omega
  obtain ⟨m, rfl⟩ : ∃ m, n = m + 1 := ⟨n - 1, by omega⟩
  refine ⟨w.setCells g (o + k * 2 + 0) vs, by simp [Builtin.clear_, run_underlying pzero, hv, ← hvs, hst], ?_, ?_⟩
  · constructor
    · intro j p hj
      rw [List.getElem?_take] at hj
      split at hj
      · rename_i hjk
        obtain ⟨c0, c1⟩ := h.cells j p hj
        rw [World.cell?_setCells_out g vs _ w ⟨g, o + j * 2, none⟩ (fun _ _ => .inl (by simp only; omega)), World.cell?_setCells_out g vs _ w ⟨g, o + j * 2 + 1, none⟩ (fun _ _ => .inl (by simp only; omega))]
        exact ⟨c0, c1⟩
      · cases hj
    · intro j hj
      rw [List.length_take] at hj
      rw [frz_setCells, frz_setCells]
      exact h.frz j (by omega)
  · exact mod_setCells g vs _ w

theorem take_set_snoc (l : List (Int × Int)) (k : Nat) (p : Int × Int) (hk : k < l.length) : (l.set k p).take (k + 1) = l.take k ++ [p] := by
  rw [List.take_succ_eq_append_getElem (by simpa using hk), List.take_set_of_le (Nat.le_refl k)]
  simp

set_option maxHeartbeats 2000000 in
theorem compact_any (g o cap : Nat) (l : List (Int × Int)) (w : World) (hR : RowP w g o l) (hcap : l.length ≤ cap) (hmax : l.length ≤ 1000000) :
    Calls Try.prog 34 #[.slice (some ⟨g, o, none⟩) l.length cap] w fun e w' => e = .returned (.slice (some ⟨g, o, none⟩) (cmpT l l.length).length cap) ∧ (cmpT l l.length).length ≤ cap ∧ RowP w' g o (cmpT l l.length) ∧ Mod g w w' := by
  have HR := Lib.hid hR
  clear hR
  by_cases h2 : l.length < 2
  · have h2' : (l.length : Int) < 2 := by omega
    have hc : cmpT l l.length = l := by
      match l, h2 with
      | [], _ => rfl
      | [x], _ => rfl
    rw [hc]
    go_enter Try.func34, Try.ntmps34
    go_wp2_with fail
    go_ret
    exact ⟨rfl, hcap, HR.out, Mod.refl _ _⟩
  have h2' : ¬ (l.length : Int) < 2 := by omega
  have hb : (l.length : Int) ≤ 1000000 := by omega
  obtain ⟨n, hn⟩ : ∃ n, l.length = n := ⟨_, rfl⟩
  have HN := Lib.hid hn
  rw [hn] at hcap hmax h2 h2' hb ⊢
  clear hn
  go_enter Try.func34, Try.ntmps34
  go_wp2_with fail
  go_loopw [3] (fun kv wr => ∃ m : Nat, kv = .int .i64 ((m : Int) + 1) ∧ m + 1 ≤ n ∧ cmpT l (m + 1) = l.take (m + 1) ∧ Same w wr) (fun kv _ => n + 1 - (intOf kv).toNat)
  case atStart => exact ⟨0, by simp, by omega, cmpT_one (by rw [HN.out]; omega), Same.refl _⟩
  case round =>
    obtain ⟨m, rfl, hmn, hcm, hs⟩ := hrel
    have HS := Lib.hid hs
    have HCM := Lib.hid hcm
    clear hs hcm
    by_cases hlt : m + 1 < n
    · have hlt' : (m : Int) + 1 < n := by omega
      have hi1 : m + 1 < l.length := by rw [HN.out]; exact hlt
      have hi0 : m < l.length := by omega
      have HC : Hid (∀ u, Same wr u → (u.cell? ⟨g, o + (m + 1) * 2, none⟩ = some (.int .u32 l[m + 1].1) ∧ u.cell? ⟨g, o + (m + 1) * 2 + 1, none⟩ = some (.int .i64 l[m + 1].2)) ∧ (u.cell? ⟨g, o + m * 2, none⟩ = some (.int .u32 l[m].1) ∧ u.cell? ⟨g, o + m * 2 + 1, none⟩ = some (.int .i64 l[m].2))) := fun u hu => by
        have := HR.out.same (HS.out.trans hu)
        exact ⟨this.cells (m + 1) _ (by simp [hi1]), this.cells m _ (by simp [hi0])⟩
      have hja : (0 : Int) ≤ (m : Int) + 1 ∧ (m : Int) + 1 < (n : Int) := by omega
      have hjb : (0 : Int) ≤ (m : Int) ∧ (m : Int) < (n : Int) := by omega
      have hkn : ((m : Int) + 1).toNat = m + 1 := by omega
      have z1 : IntKind.i64.wrap (m : Int) = m := IntWalk.i64_in _ (by omega)
      by_cases he : l[m + 1] = l[m]
      · have hdec : decide (l[m + 1].1 = l[m].1 ∧ l[m + 1].2 = l[m].2) = true := by rw [he]; simp
        have HC0 := Lib.hid (cmpT_eq hi1 he)
        clear he
        generalize l[m + 1].1 = x1 at *
        generalize l[m + 1].2 = y1 at *
        generalize l[m].1 = x0 at *
        generalize l[m].2 = y0 at *
        go_wp2_with fail
        refine reg_start (fun w' => Same wr w') (by kernel_rfl) ?_
        refine reg_take (v := ?_) 0 (some 16) rfl rfl (by kernel_rfl) (fun _ _ _ h => h) (by kernel_rfl) ((Same.refl wr).drew) ?_ ?_
        rotate_left
        · (intro w' hw'; obtain ⟨⟨c0, c1⟩, ⟨e0, e1⟩⟩ := HC.out w' hw'; go_simp; try with_reducible rfl)
        try simp only [Act.put, List.setIfInBounds_toArray, List.set_cons_zero, List.set_cons_succ]
        refine reg_take (v := ?_) 1 (some 17) rfl rfl (by kernel_rfl) (fun _ _ _ h => h) (by kernel_rfl) ((Same.refl wr).drew) ?_ ?_
        rotate_left
        · (intro w' hw'; obtain ⟨⟨c0, c1⟩, ⟨e0, e1⟩⟩ := HC.out w' hw'; go_simp; try with_reducible rfl)
        try simp only [Act.put, List.setIfInBounds_toArray, List.set_cons_zero, List.set_cons_succ]
        refine reg_take (v := ?_) 2 (some 18) rfl rfl (by kernel_rfl) (fun _ _ _ h => h) (by kernel_rfl) ((Same.refl wr).drew) ?_ ?_
        rotate_left
        · (intro w' hw'; obtain ⟨⟨c0, c1⟩, ⟨e0, e1⟩⟩ := HC.out w' hw'; go_simp; try with_reducible rfl)
        try simp only [Act.put, List.setIfInBounds_toArray, List.set_cons_zero, List.set_cons_succ]
        refine reg_take (v := ?_) 3 (some 19) rfl rfl (by kernel_rfl) (fun _ _ _ h => h) (by kernel_rfl) ((Same.refl wr).drew) ?_ ?_
        rotate_left
        · (intro w' hw'; obtain ⟨⟨c0, c1⟩, ⟨e0, e1⟩⟩ := HC.out w' hw'; go_simp; try with_reducible rfl)
        try simp only [Act.put, List.setIfInBounds_toArray, List.set_cons_zero, List.set_cons_succ]
        refine reg_take (v := ?_) 4 (some 20) rfl rfl (by kernel_rfl) (fun _ _ _ h => h) (by kernel_rfl) ((Same.refl wr).drew) ?_ ?_
        rotate_left
        · (intro w' hw'; obtain ⟨⟨c0, c1⟩, ⟨e0, e1⟩⟩ := HC.out w' hw'; go_simp; try with_reducible rfl)
        try simp only [Act.put, List.setIfInBounds_toArray, List.set_cons_zero, List.set_cons_succ]
        refine reg_take (v := ?_) 5 (some 21) rfl rfl (by kernel_rfl) (fun _ _ _ h => h) (by kernel_rfl) ((Same.refl wr).drew) ?_ ?_
        rotate_left
        · (intro w' hw'; obtain ⟨⟨c0, c1⟩, ⟨e0, e1⟩⟩ := HC.out w' hw'; go_simp; try with_reducible rfl)
        try simp only [Act.put, List.setIfInBounds_toArray, List.set_cons_zero, List.set_cons_succ]
        refine reg_take (v := ?_) 6 (some 22) rfl rfl (by kernel_rfl) (fun _ _ _ h => h) (by kernel_rfl) ((Same.refl wr).drew) ?_ ?_
        rotate_left
        · (intro w' hw'; obtain ⟨⟨c0, c1⟩, ⟨e0, e1⟩⟩ := HC.out w' hw'; go_simp; try with_reducible rfl)
        try simp only [Act.put, List.setIfInBounds_toArray, List.set_cons_zero, List.set_cons_succ]
        refine reg_take (v := ?_) 7 (some 23) rfl rfl (by kernel_rfl) (fun _ _ _ h => h) (by kernel_rfl) ((Same.refl wr).drew) ?_ ?_
        rotate_left
        · (intro w' hw'; obtain ⟨⟨c0, c1⟩, ⟨e0, e1⟩⟩ := HC.out w' hw'; go_simp; try with_reducible rfl)
        try simp only [Act.put, List.setIfInBounds_toArray, List.set_cons_zero, List.set_cons_succ]
        refine reg_take (v := ?_) 8 (some 24) rfl rfl (by kernel_rfl) (fun _ _ _ h => h) (by kernel_rfl) ((Same.refl wr).drew) ?_ ?_
        rotate_left
        · (intro w' hw'; obtain ⟨⟨c0, c1⟩, ⟨e0, e1⟩⟩ := HC.out w' hw'; go_simp; try with_reducible rfl)
        try simp only [Act.put, List.setIfInBounds_toArray, List.set_cons_zero, List.set_cons_succ]
        refine reg_take (v := ?_) 9 (some 25) rfl rfl (by kernel_rfl) (fun _ _ _ h => h) (by kernel_rfl) ((Same.refl wr).drew) ?_ ?_
        rotate_left
        · (intro w' hw'; obtain ⟨⟨c0, c1⟩, ⟨e0, e1⟩⟩ := HC.out w' hw'; go_simp; try with_reducible rfl)
        try simp only [Act.put, List.setIfInBounds_toArray, List.set_cons_zero, List.set_cons_succ]
        refine reg_done (by kernel_rfl) ?_
        have hcapk : ¬ (cap = m + 1) := by omega
        have hck : (m : Int) + 1 ≤ (cap : Int) := by omega
        have hnk : (n : Int) ≤ (cap : Int) := by omega
        have HS1 := Lib.hid (HS.out.trans (Same.refl wr).drew)
        have HR1 := Lib.hid (HR.out.same HS1.out)
        obtain ⟨k0, hk0⟩ : ∃ k0, k0 = m + 1 := ⟨_, rfl⟩
        have HK0 := Lib.hid hk0
        have hkz : ((m : Int) + 1) = (k0 : Int) := by omega
        rw [hkz] at hck
        rw [← hk0] at hcapk
        clear hdec HC hja hjb hkn z1 hlt' hk0
        generalize wr.drew = w1 at *
        simp only [hkz]
        clear hkz
        have hkn2 : (k0 : Int) < (n : Int) := by have := HK0.out; omega
        have hkn3 : (k0 : Int) ≤ (n : Int) := by omega
        go_wp2_with fail
        have HMw := Lib.hid (Mod.of_same (s := g) HS1.out)
        have hcc : cmpT l (k0 + 0 + 1) = l.take k0 := by
          have e1 := HC0.out
          rw [HCM.out] at e1
          rw [HK0.out]
          exact e1
        have HCC := Lib.hid hcc
        clear hcc HC0 HCM
        go_loopw [3, 5] (fun kv cv wr2 => ∃ (k c : Nat) (qs : List (Int × Int)), kv = .int .i64 k ∧ cv = .int .i64 ((c : Int) + 1) ∧ k0 + c + 1 ≤ n ∧ 1 ≤ k ∧ k ≤ k0 + c ∧ qs.length = n ∧ qs.take k = cmpT l (k0 + c + 1) ∧ (∀ j, k0 + c ≤ j → qs[j]? = l[j]?) ∧ RowP wr2 g o qs ∧ Mod g w wr2) (fun _ cv _ => n + 1 - (intOf cv).toNat)
        case atStart => exact ⟨k0, 0, l, rfl, by simp, by omega, by have := HK0.out; omega, by omega, HN.out, HCC.out.symm, fun _ _ => rfl, HR1.out, HMw.out⟩
        case round =>
          obtain ⟨k, c, qs, rfl, rfl, hcn, hk1, hkc, hql, hqt, hqd, hqr, hqm⟩ := hrel
          have HQL := Lib.hid hql
          have HQT := Lib.hid hqt
          have HQD := Lib.hid hqd
          have HQR := Lib.hid hqr
          have HQM := Lib.hid hqm
          clear hql hqt hqd hqr hqm
          by_cases hlt : k0 + c + 1 < n
          · have hlt2 : (c : Int) + 1 < ((n - k0 : Nat) : Int) := by omega
            have hia : k0 + c + 1 < l.length := by rw [HN.out]; exact hlt
            have hib : k0 + c < l.length := by omega
            have HC : Hid (∀ u, Same wr u → (u.cell? ⟨g, o + k0 * 2 + (c + 1) * 2, none⟩ = some (.int .u32 l[k0 + c + 1].1) ∧ u.cell? ⟨g, o + k0 * 2 + (c + 1) * 2 + 1, none⟩ = some (.int .i64 l[k0 + c + 1].2)) ∧ (u.cell? ⟨g, o + k0 * 2 + c * 2, none⟩ = some (.int .u32 l[k0 + c].1) ∧ u.cell? ⟨g, o + k0 * 2 + c * 2 + 1, none⟩ = some (.int .i64 l[k0 + c].2))) := fun u hu => by
              have hr := HQR.out.same hu
              have e1 : qs[k0 + c + 1]? = some l[k0 + c + 1] := by rw [HQD.out _ (by omega)]; exact List.getElem?_eq_getElem hia
              have e2 : qs[k0 + c]? = some l[k0 + c] := by rw [HQD.out _ (by omega)]; exact List.getElem?_eq_getElem hib
              exact ⟨hr.at (k0 + c + 1) _ _ e1 (by omega), hr.at (k0 + c) _ _ e2 (by omega)⟩
            have hja : (0 : Int) ≤ (c : Int) + 1 ∧ (c : Int) + 1 < ((n - k0 : Nat) : Int) := by omega
            have hjb : (0 : Int) ≤ (c : Int) ∧ (c : Int) < ((n - k0 : Nat) : Int) := by omega
            have hkn : ((c : Int) + 1).toNat = c + 1 := by omega
            have z1 : IntKind.i64.wrap (c : Int) = c := IntWalk.i64_in _ (by omega)
            by_cases he : l[k0 + c + 1] = l[k0 + c]
            · have hdec : decide (l[k0 + c + 1].1 = l[k0 + c].1 ∧ l[k0 + c + 1].2 = l[k0 + c].2) = true := by rw [he]; simp
              have HC0 := Lib.hid (cmpT_eq hia he)
              clear he
              generalize l[k0 + c + 1].1 = x1 at *
              generalize l[k0 + c + 1].2 = y1 at *
              generalize l[k0 + c].1 = x0 at *
              generalize l[k0 + c].2 = y0 at *
              go_wp2_with fail
              refine reg_start (fun w' => Same wr w') (by kernel_rfl) ?_
              refine reg_take (v := ?_) 0 (some 35) rfl rfl (by kernel_rfl) (fun _ _ _ h => h) (by kernel_rfl) ((Same.refl wr).drew) ?_ ?_
              rotate_left
              · (intro w' hw'; obtain ⟨⟨c0, c1⟩, ⟨e0, e1⟩⟩ := HC.out w' hw'; go_simp; try with_reducible rfl)
              try simp only [Act.put, List.setIfInBounds_toArray, List.set_cons_zero, List.set_cons_succ]
              refine reg_take (v := ?_) 1 (some 36) rfl rfl (by kernel_rfl) (fun _ _ _ h => h) (by kernel_rfl) ((Same.refl wr).drew) ?_ ?_
              rotate_left
              · (intro w' hw'; obtain ⟨⟨c0, c1⟩, ⟨e0, e1⟩⟩ := HC.out w' hw'; go_simp; try with_reducible rfl)
              try simp only [Act.put, List.setIfInBounds_toArray, List.set_cons_zero, List.set_cons_succ]
              refine reg_take (v := ?_) 2 (some 37) rfl rfl (by kernel_rfl) (fun _ _ _ h => h) (by kernel_rfl) ((Same.refl wr).drew) ?_ ?_
              rotate_left
              · (intro w' hw'; obtain ⟨⟨c0, c1⟩, ⟨e0, e1⟩⟩ := HC.out w' hw'; go_simp; try with_reducible rfl)
              try simp only [Act.put, List.setIfInBounds_toArray, List.set_cons_zero, List.set_cons_succ]
              refine reg_take (v := ?_) 3 (some 38) rfl rfl (by kernel_rfl) (fun _ _ _ h => h) (by kernel_rfl) ((Same.refl wr).drew) ?_ ?_
              rotate_left
              · (intro w' hw'; obtain ⟨⟨c0, c1⟩, ⟨e0, e1⟩⟩ := HC.out w' hw'; go_simp; try with_reducible rfl)
              try simp only [Act.put, List.setIfInBounds_toArray, List.set_cons_zero, List.set_cons_succ]
              refine reg_take (v := ?_) 4 (some 39) rfl rfl (by kernel_rfl) (fun _ _ _ h => h) (by kernel_rfl) ((Same.refl wr).drew) ?_ ?_
              rotate_left
              · (intro w' hw'; obtain ⟨⟨c0, c1⟩, ⟨e0, e1⟩⟩ := HC.out w' hw'; go_simp; try with_reducible rfl)
              try simp only [Act.put, List.setIfInBounds_toArray, List.set_cons_zero, List.set_cons_succ]
              refine reg_take (v := ?_) 5 (some 40) rfl rfl (by kernel_rfl) (fun _ _ _ h => h) (by kernel_rfl) ((Same.refl wr).drew) ?_ ?_
              rotate_left
              · (intro w' hw'; obtain ⟨⟨c0, c1⟩, ⟨e0, e1⟩⟩ := HC.out w' hw'; go_simp; try with_reducible rfl)
              try simp only [Act.put, List.setIfInBounds_toArray, List.set_cons_zero, List.set_cons_succ]
              refine reg_take (v := ?_) 6 (some 41) rfl rfl (by kernel_rfl) (fun _ _ _ h => h) (by kernel_rfl) ((Same.refl wr).drew) ?_ ?_
              rotate_left
              · (intro w' hw'; obtain ⟨⟨c0, c1⟩, ⟨e0, e1⟩⟩ := HC.out w' hw'; go_simp; try with_reducible rfl)
              try simp only [Act.put, List.setIfInBounds_toArray, List.set_cons_zero, List.set_cons_succ]
              refine reg_take (v := ?_) 7 (some 42) rfl rfl (by kernel_rfl) (fun _ _ _ h => h) (by kernel_rfl) ((Same.refl wr).drew) ?_ ?_
              rotate_left
              · (intro w' hw'; obtain ⟨⟨c0, c1⟩, ⟨e0, e1⟩⟩ := HC.out w' hw'; go_simp; try with_reducible rfl)
              try simp only [Act.put, List.setIfInBounds_toArray, List.set_cons_zero, List.set_cons_succ]
              refine reg_take (v := ?_) 8 (some 43) rfl rfl (by kernel_rfl) (fun _ _ _ h => h) (by kernel_rfl) ((Same.refl wr).drew) ?_ ?_
              rotate_left
              · (intro w' hw'; obtain ⟨⟨c0, c1⟩, ⟨e0, e1⟩⟩ := HC.out w' hw'; go_simp; try with_reducible rfl)
              try simp only [Act.put, List.setIfInBounds_toArray, List.set_cons_zero, List.set_cons_succ]
              refine reg_take (v := ?_) 9 (some 44) rfl rfl (by kernel_rfl) (fun _ _ _ h => h) (by kernel_rfl) ((Same.refl wr).drew) ?_ ?_
              rotate_left
              · (intro w' hw'; obtain ⟨⟨c0, c1⟩, ⟨e0, e1⟩⟩ := HC.out w' hw'; go_simp; try with_reducible rfl)
              try simp only [Act.put, List.setIfInBounds_toArray, List.set_cons_zero, List.set_cons_succ]
              refine reg_done (by kernel_rfl) ?_
              go_wp2_with fail
              go_roundw
              case rel => exact ⟨k, c + 1, qs, rfl, by push_cast; rfl, by omega, hk1, by omega, HQL.out, by rw [HQT.out, ← HC0.out]; rfl, fun j hj => HQD.out j (by omega), HQR.out.same (Same.refl wr).drew, HQM.out.trans (Mod.of_same (Same.refl wr).drew)⟩
              case measure => simp [intOf]; omega
            · have hdec : decide (l[k0 + c + 1].1 = l[k0 + c].1 ∧ l[k0 + c + 1].2 = l[k0 + c].2) = false := by
                rw [decide_eq_false_iff_not]
                intro hh
                exact he (Prod.ext hh.1 hh.2)
              have HC0 := Lib.hid (cmpT_ne hia he)
              clear he
              have hkq : k < qs.length := by rw [HQL.out]; omega
              have HSET := Lib.hid ((HQR.out.same (Same.refl wr).drew).set k hkq l[k0 + c + 1])
              obtain ⟨t0, t1⟩ := (HQR.out.same (Same.refl wr).drew).cells k qs[k] (by simp [hkq])
              obtain ⟨f0, f1⟩ := (HQR.out.same (Same.refl wr).drew).frz k hkq
              obtain ⟨⟨c0, c1⟩, ⟨e0, e1⟩⟩ := HC.out _ (Same.refl wr).drew
              have HPX := Lib.hid (show l[k0 + c + 1] = (l[k0 + c + 1].1, l[k0 + c + 1].2) from rfl)
              have HEL := Lib.hid (List.getElem?_eq_getElem hia)
              have hkk : (0 : Int) ≤ (k : Int) ∧ (k : Int) < (n : Int) := by omega
              generalize l[k0 + c + 1] = pX at *
              obtain ⟨x1, y1⟩ := pX
              simp only at hdec HC c0 c1 HSET
              generalize l[k0 + c].1 = x0 at *
              generalize l[k0 + c].2 = y0 at *
              go_wp2_with fail
              refine reg_start (fun w' => Same wr w') (by kernel_rfl) ?_
              refine reg_take (v := ?_) 0 (some 35) rfl rfl (by kernel_rfl) (fun _ _ _ h => h) (by kernel_rfl) ((Same.refl wr).drew) ?_ ?_
              rotate_left
              · (intro w' hw'; obtain ⟨⟨c0, c1⟩, ⟨e0, e1⟩⟩ := HC.out w' hw'; go_simp; try with_reducible rfl)
              try simp only [Act.put, List.setIfInBounds_toArray, List.set_cons_zero, List.set_cons_succ]
              refine reg_take (v := ?_) 1 (some 36) rfl rfl (by kernel_rfl) (fun _ _ _ h => h) (by kernel_rfl) ((Same.refl wr).drew) ?_ ?_
              rotate_left
              · (intro w' hw'; obtain ⟨⟨c0, c1⟩, ⟨e0, e1⟩⟩ := HC.out w' hw'; go_simp; try with_reducible rfl)
              try simp only [Act.put, List.setIfInBounds_toArray, List.set_cons_zero, List.set_cons_succ]
              refine reg_take (v := ?_) 2 (some 37) rfl rfl (by kernel_rfl) (fun _ _ _ h => h) (by kernel_rfl) ((Same.refl wr).drew) ?_ ?_
              rotate_left
              · (intro w' hw'; obtain ⟨⟨c0, c1⟩, ⟨e0, e1⟩⟩ := HC.out w' hw'; go_simp; try with_reducible rfl)
              try simp only [Act.put, List.setIfInBounds_toArray, List.set_cons_zero, List.set_cons_succ]
              refine reg_take (v := ?_) 3 (some 38) rfl rfl (by kernel_rfl) (fun _ _ _ h => h) (by kernel_rfl) ((Same.refl wr).drew) ?_ ?_
              rotate_left
              · (intro w' hw'; obtain ⟨⟨c0, c1⟩, ⟨e0, e1⟩⟩ := HC.out w' hw'; go_simp; try with_reducible rfl)
              try simp only [Act.put, List.setIfInBounds_toArray, List.set_cons_zero, List.set_cons_succ]
              refine reg_take (v := ?_) 4 (some 39) rfl rfl (by kernel_rfl) (fun _ _ _ h => h) (by kernel_rfl) ((Same.refl wr).drew) ?_ ?_
              rotate_left
              · (intro w' hw'; obtain ⟨⟨c0, c1⟩, ⟨e0, e1⟩⟩ := HC.out w' hw'; go_simp; try with_reducible rfl)
              try simp only [Act.put, List.setIfInBounds_toArray, List.set_cons_zero, List.set_cons_succ]
              refine reg_take (v := ?_) 5 (some 40) rfl rfl (by kernel_rfl) (fun _ _ _ h => h) (by kernel_rfl) ((Same.refl wr).drew) ?_ ?_
              rotate_left
              · (intro w' hw'; obtain ⟨⟨c0, c1⟩, ⟨e0, e1⟩⟩ := HC.out w' hw'; go_simp; try with_reducible rfl)
              try simp only [Act.put, List.setIfInBounds_toArray, List.set_cons_zero, List.set_cons_succ]
              refine reg_take (v := ?_) 6 (some 41) rfl rfl (by kernel_rfl) (fun _ _ _ h => h) (by kernel_rfl) ((Same.refl wr).drew) ?_ ?_
              rotate_left
              · (intro w' hw'; obtain ⟨⟨c0, c1⟩, ⟨e0, e1⟩⟩ := HC.out w' hw'; go_simp; try with_reducible rfl)
              try simp only [Act.put, List.setIfInBounds_toArray, List.set_cons_zero, List.set_cons_succ]
              refine reg_take (v := ?_) 7 (some 42) rfl rfl (by kernel_rfl) (fun _ _ _ h => h) (by kernel_rfl) ((Same.refl wr).drew) ?_ ?_
              rotate_left
              · (intro w' hw'; obtain ⟨⟨c0, c1⟩, ⟨e0, e1⟩⟩ := HC.out w' hw'; go_simp; try with_reducible rfl)
              try simp only [Act.put, List.setIfInBounds_toArray, List.set_cons_zero, List.set_cons_succ]
              refine reg_take (v := ?_) 8 (some 43) rfl rfl (by kernel_rfl) (fun _ _ _ h => h) (by kernel_rfl) ((Same.refl wr).drew) ?_ ?_
              rotate_left
              · (intro w' hw'; obtain ⟨⟨c0, c1⟩, ⟨e0, e1⟩⟩ := HC.out w' hw'; go_simp; try with_reducible rfl)
              try simp only [Act.put, List.setIfInBounds_toArray, List.set_cons_zero, List.set_cons_succ]
              refine reg_take (v := ?_) 9 (some 44) rfl rfl (by kernel_rfl) (fun _ _ _ h => h) (by kernel_rfl) ((Same.refl wr).drew) ?_ ?_
              rotate_left
              · (intro w' hw'; obtain ⟨⟨c0, c1⟩, ⟨e0, e1⟩⟩ := HC.out w' hw'; go_simp; try with_reducible rfl)
              try simp only [Act.put, List.setIfInBounds_toArray, List.set_cons_zero, List.set_cons_succ]
              refine reg_done (by kernel_rfl) ?_
              have HMD : Hid (Mod g w wr.drew) := HQM.out.trans (Mod.of_same (Same.refl wr).drew)
              clear HC
              generalize wr.drew = D at *
              go_wp2_with fail
              go_roundw
              case rel => exact ⟨k + 1, c + 1, qs.set k (x1, y1), by push_cast; rfl, by push_cast; rfl, by omega, by omega, by omega, by rw [List.length_set]; exact HQL.out, by rw [take_set_snoc _ _ _ hkq, HQT.out]; exact HC0.out.symm, fun j hj => by rw [List.getElem?_set_ne (by omega)]; exact HQD.out j (by omega), HSET.out, HMD.out.trans ((Mod.setCell g _ _ _).trans (Mod.setCell g _ _ _))⟩
              case measure => simp [intOf]; omega
          · have hce : k0 + c + 1 = n := by omega
            have hlt2 : ¬ ((c : Int) + 1 < ((n - k0 : Nat) : Int)) := by omega
            have hkn : k < n := by omega
            obtain ⟨w5, hclr, h5, hm5⟩ := run_clear_pfx wr 0 g o (n - k) (cap - k) qs k (by rw [HQL.out]; exact hkn) (by rw [HQL.out]) HQR.out
            have H5 := Lib.hid h5
            have HM5 := Lib.hid (HQM.out.trans hm5)
            have hca : ¬ (cap = k) := by omega
            have hcb : (k : Int) ≤ (cap : Int) := by omega
            have hcd : (k : Int) ≤ (n : Int) := by omega
            have hce2 : (n : Int) ≤ (cap : Int) := by omega
            have HF : Hid (cmpT l n = qs.take k) := by rw [← hce]; exact HQT.out.symm
            have HFL : Hid ((qs.take k).length = k) := by
              show _ = _
              rw [List.length_take, HQL.out]; omega
            clear h5 hm5
            go_wp2_with fail
            go_ret
            rw [HF.out, HFL.out]
            exact ⟨rfl, by omega, H5.out, HM5.out⟩
      · have hdec : decide (l[m + 1].1 = l[m].1 ∧ l[m + 1].2 = l[m].2) = false := by
          rw [decide_eq_false_iff_not]
          intro hh
          exact he (Prod.ext hh.1 hh.2)
        have HC0 := Lib.hid (cmpT_ne hi1 he)
        have HT0 := Lib.hid (show l.take (m + 2) = l.take (m + 1) ++ [l[m + 1]] from List.take_succ_eq_append_getElem hi1)
        clear he
        generalize l[m + 1].1 = x1 at *
        generalize l[m + 1].2 = y1 at *
        generalize l[m].1 = x0 at *
        generalize l[m].2 = y0 at *
        go_wp2_with fail
        refine reg_start (fun w' => Same wr w') (by kernel_rfl) ?_
        refine reg_take (v := ?_) 0 (some 16) rfl rfl (by kernel_rfl) (fun _ _ _ h => h) (by kernel_rfl) ((Same.refl wr).drew) ?_ ?_
        rotate_left
        · (intro w' hw'; obtain ⟨⟨c0, c1⟩, ⟨e0, e1⟩⟩ := HC.out w' hw'; go_simp; try with_reducible rfl)
        try simp only [Act.put, List.setIfInBounds_toArray, List.set_cons_zero, List.set_cons_succ]
        refine reg_take (v := ?_) 1 (some 17) rfl rfl (by kernel_rfl) (fun _ _ _ h => h) (by kernel_rfl) ((Same.refl wr).drew) ?_ ?_
        rotate_left
        · (intro w' hw'; obtain ⟨⟨c0, c1⟩, ⟨e0, e1⟩⟩ := HC.out w' hw'; go_simp; try with_reducible rfl)
        try simp only [Act.put, List.setIfInBounds_toArray, List.set_cons_zero, List.set_cons_succ]
        refine reg_take (v := ?_) 2 (some 18) rfl rfl (by kernel_rfl) (fun _ _ _ h => h) (by kernel_rfl) ((Same.refl wr).drew) ?_ ?_
        rotate_left
        · (intro w' hw'; obtain ⟨⟨c0, c1⟩, ⟨e0, e1⟩⟩ := HC.out w' hw'; go_simp; try with_reducible rfl)
        try simp only [Act.put, List.setIfInBounds_toArray, List.set_cons_zero, List.set_cons_succ]
        refine reg_take (v := ?_) 3 (some 19) rfl rfl (by kernel_rfl) (fun _ _ _ h => h) (by kernel_rfl) ((Same.refl wr).drew) ?_ ?_
        rotate_left
        · (intro w' hw'; obtain ⟨⟨c0, c1⟩, ⟨e0, e1⟩⟩ := HC.out w' hw'; go_simp; try with_reducible rfl)
        try simp only [Act.put, List.setIfInBounds_toArray, List.set_cons_zero, List.set_cons_succ]
        refine reg_take (v := ?_) 4 (some 20) rfl rfl (by kernel_rfl) (fun _ _ _ h => h) (by kernel_rfl) ((Same.refl wr).drew) ?_ ?_
        rotate_left
        · (intro w' hw'; obtain ⟨⟨c0, c1⟩, ⟨e0, e1⟩⟩ := HC.out w' hw'; go_simp; try with_reducible rfl)
        try simp only [Act.put, List.setIfInBounds_toArray, List.set_cons_zero, List.set_cons_succ]
        refine reg_take (v := ?_) 5 (some 21) rfl rfl (by kernel_rfl) (fun _ _ _ h => h) (by kernel_rfl) ((Same.refl wr).drew) ?_ ?_
        rotate_left
        · (intro w' hw'; obtain ⟨⟨c0, c1⟩, ⟨e0, e1⟩⟩ := HC.out w' hw'; go_simp; try with_reducible rfl)
        try simp only [Act.put, List.setIfInBounds_toArray, List.set_cons_zero, List.set_cons_succ]
        refine reg_take (v := ?_) 6 (some 22) rfl rfl (by kernel_rfl) (fun _ _ _ h => h) (by kernel_rfl) ((Same.refl wr).drew) ?_ ?_
        rotate_left
        · (intro w' hw'; obtain ⟨⟨c0, c1⟩, ⟨e0, e1⟩⟩ := HC.out w' hw'; go_simp; try with_reducible rfl)
        try simp only [Act.put, List.setIfInBounds_toArray, List.set_cons_zero, List.set_cons_succ]
        refine reg_take (v := ?_) 7 (some 23) rfl rfl (by kernel_rfl) (fun _ _ _ h => h) (by kernel_rfl) ((Same.refl wr).drew) ?_ ?_
        rotate_left
        · (intro w' hw'; obtain ⟨⟨c0, c1⟩, ⟨e0, e1⟩⟩ := HC.out w' hw'; go_simp; try with_reducible rfl)
        try simp only [Act.put, List.setIfInBounds_toArray, List.set_cons_zero, List.set_cons_succ]
        refine reg_take (v := ?_) 8 (some 24) rfl rfl (by kernel_rfl) (fun _ _ _ h => h) (by kernel_rfl) ((Same.refl wr).drew) ?_ ?_
        rotate_left
        · (intro w' hw'; obtain ⟨⟨c0, c1⟩, ⟨e0, e1⟩⟩ := HC.out w' hw'; go_simp; try with_reducible rfl)
        try simp only [Act.put, List.setIfInBounds_toArray, List.set_cons_zero, List.set_cons_succ]
        refine reg_take (v := ?_) 9 (some 25) rfl rfl (by kernel_rfl) (fun _ _ _ h => h) (by kernel_rfl) ((Same.refl wr).drew) ?_ ?_
        rotate_left
        · (intro w' hw'; obtain ⟨⟨c0, c1⟩, ⟨e0, e1⟩⟩ := HC.out w' hw'; go_simp; try with_reducible rfl)
        try simp only [Act.put, List.setIfInBounds_toArray, List.set_cons_zero, List.set_cons_succ]
        refine reg_done (by kernel_rfl) ?_
        go_wp2_with fail
        go_roundw
        case rel => exact ⟨m + 1, by push_cast; rfl, by omega, by rw [HC0.out, HT0.out, HCM.out], HS.out.trans (Same.refl wr).drew⟩
        case measure => simp [intOf]; omega
    · have hlt' : ¬ (m : Int) + 1 < n := by omega
      have hme : m + 1 = n := by omega
      have hc : cmpT l n = l := by rw [← hme, HCM.out, List.take_of_length_le (by rw [HN.out]; omega)]
      go_wp2_with fail
      go_ret
      rw [HN.out]
      exact ⟨rfl, hcap, HR.out.same HS.out, Mod.of_same HS.out⟩
end Go.Proofs.Ytldiagjnpkpepaa
