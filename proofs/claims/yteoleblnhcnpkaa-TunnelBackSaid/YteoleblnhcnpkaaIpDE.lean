/- Contract of the developers' layer 4: cut. No condition beyond what it names. -/
import Derived.Test.YteoleblnhcnpkaaIpDB
import Derived.Test.YteoleblnhcnpkaaIpRD
import Derived.Test.YteoleblnhcnpkaaGetAt
import Derived.Laws.Tables
import Derived.Laws.CopyOwn
namespace Go.Proofs.Yteoleblnhcnpkaa
open Go.RowKit
set_option linter.unusedVariables false

/-- what cut tells -/
abbrev cutV (vh vp : Value) (e : Int) : Value := .tuple #[.agg #[vh, vp], .int .i64 e]
abbrev pktO (vh vp : Value) : Obj := .cells #[vh, vp] 58
theorem get_two (l : List UInt8) (h : 20 ≤ l.length) : getOut l 2 2 = some ((l.drop 2).take 2) := if_pos ⟨by decide, by omega⟩

set_option maxRecDepth 100000 in
theorem ipCut_short (v : Value) (l : List UInt8) (w : World) (hb : Bs w v l) (h : l.length < 20) :
    Calls Try.prog 25 #[v] w fun e w' => e = .returned (cutV nilV nilV 3) ∧ Same w w' := by
  obtain ⟨ao, cap, rfl, q1, q2, -, -⟩ := hb
  have h' : (l.length : Int) < 20 := by omega
  go_enter Try.func25, Try.ntmps25
  go_wp2_with fail
  refine bodyPost_ret (v := cutV nilV nilV 3) ?_ rfl ⟨rfl, Same.alloc w _⟩
  simp [results, Try.results25, go_sem]

set_option maxRecDepth 100000 in
set_option maxHeartbeats 1000000 in
theorem ipCut_bad (b o n cap b0 b2 b3 : Nat) (w : World) (hn : 20 ≤ n) (h0 : b0 < 256) (hbad : b0 / 16 ≠ 4 ∨ 4 * (b0 % 16) < 20)
    (HC : ∀ w', Same w w' → w'.cell? ⟨b, o, none⟩ = some (.int .u8 (b0 : Int)) ∧ w'.cell? ⟨b, o + 2, none⟩ = some (.int .u8 (b2 : Int)) ∧ w'.cell? ⟨b, o + 3, none⟩ = some (.int .u8 (b3 : Int))) :
    Calls Try.prog 25 #[.slice (some ⟨b, o, none⟩) n cap] w fun e w' => e = .returned (cutV nilV nilV 4) ∧ Same w w' := by
  have h' : ¬ (n : Int) < 20 := by omega
  have h'' : (20 : Int) ≤ n := by omega
  have z0 := i8_and15 b0 h0
  obtain ⟨m, hm⟩ : ∃ m : Nat, b0 % 16 = m := ⟨_, rfl⟩
  rw [hm] at z0
  have hm15 : (m : Int) ≤ 15 := by omega
  have HC0 := Lib.hid HC
  obtain ⟨c0, c2, c3⟩ := HC _ (Same.alloc w (pktO nilV nilV))
  clear HC
  go_enter Try.func25, Try.ntmps25
  go_wp2_with fail
  all_goals first
    | (refine bodyPost_ret (v := cutV nilV nilV 4) ?_ rfl ⟨rfl, Same.alloc w _⟩
       simp [results, Try.results25, go_sem])
    | (exfalso; omega)

set_option maxRecDepth 100000 in
set_option maxHeartbeats 2000000 in
theorem ipCut_short2 (b o n cap b0 b2 b3 m N : Nat) (l : List UInt8) (w : World) (hI : ParseIn n b0 b2 b3 m N) (hl : l.length = n) (hNl : fld l 2 2 = N) (hb : Bs w (.slice (some ⟨b, o, none⟩) n cap) l) (hbad : n < 4 * m ∨ n < N)
    (HC : ∀ w', Same w w' → w'.cell? ⟨b, o, none⟩ = some (.int .u8 (b0 : Int)) ∧ w'.cell? ⟨b, o + 2, none⟩ = some (.int .u8 (b2 : Int)) ∧ w'.cell? ⟨b, o + 3, none⟩ = some (.int .u8 (b3 : Int))) :
    Calls Try.prog 25 #[.slice (some ⟨b, o, none⟩) n cap] w fun e w' => e = .returned (cutV nilV nilV 3) ∧ Same w w' := by
  obtain ⟨hn, h0, h2, h3, hm, hf, hv, hN⟩ := hI
  have h' : ¬ (n : Int) < 20 := by omega
  have h'' : (20 : Int) ≤ n := by omega
  have z0 := i8_and15 b0 h0
  rw [hm] at z0
  have hm15 : (m : Int) ≤ 15 := by omega
  have hm5 : (20 : Int) ≤ 4 * m := by omega
  have hm6 : ¬ (4 * (m : Int) < 20) := by omega
  have hf' : (b0 : Int) / 16 = 4 := by omega
  have HC0 := Lib.hid HC
  have HB := Lib.hid hb
  have HA : Hid (Same w (w.alloc (pktO nilV nilV))) := Same.alloc w _
  have HK : Hid ((w.alloc (pktO nilV nilV)).heap[w.heap.size]? = some (pktO nilV nilV)) := heap_alloc_new w _
  obtain ⟨c0, c2, c3⟩ := HC _ (Same.alloc w (pktO nilV nilV))
  have HG := Get16_any (.slice (some ⟨b, o, none⟩) n cap) l 2 (w.alloc (pktO nilV nilV)) (hb.same (Same.alloc w _))
  rw [get_two l (by rw [hl]; exact hn), numOut, show numOf ((l.drop 2).take 2) = N from hNl] at HG
  have HG := Lib.hid HG
  clear HC
  go_enter Try.func25, Try.ntmps25
  go_wp2_with fail
  refine HG.out.mono ?_
  rintro e w1 ⟨rfl, rfl⟩
  go_wp2_with fail
  all_goals first
    | (refine bodyPost_ret (v := cutV nilV nilV 3) ?_ rfl ⟨rfl, HA.out⟩
       simp [results, Try.results25, go_sem])
    | (exfalso; omega)

set_option maxRecDepth 100000 in
set_option maxHeartbeats 2000000 in
theorem ipCut_bad2 (b o n cap b0 b2 b3 m N : Nat) (l : List UInt8) (w : World) (hI : ParseIn n b0 b2 b3 m N) (hl : l.length = n) (hNl : fld l 2 2 = N) (hb : Bs w (.slice (some ⟨b, o, none⟩) n cap) l) (hk : 4 * m ≤ n) (hNn : N ≤ n) (hbad : N < 4 * m ∨ 9000 < N)
    (HC : ∀ w', Same w w' → w'.cell? ⟨b, o, none⟩ = some (.int .u8 (b0 : Int)) ∧ w'.cell? ⟨b, o + 2, none⟩ = some (.int .u8 (b2 : Int)) ∧ w'.cell? ⟨b, o + 3, none⟩ = some (.int .u8 (b3 : Int))) :
    Calls Try.prog 25 #[.slice (some ⟨b, o, none⟩) n cap] w fun e w' => e = .returned (cutV nilV nilV 4) ∧ Same w w' := by
  obtain ⟨hn, h0, h2, h3, hm, hf, hv, hN⟩ := hI
  have h' : ¬ (n : Int) < 20 := by omega
  have h'' : (20 : Int) ≤ n := by omega
  have z0 := i8_and15 b0 h0
  rw [hm] at z0
  have hm15 : (m : Int) ≤ 15 := by omega
  have hm5 : (20 : Int) ≤ 4 * m := by omega
  have hm6 : ¬ (4 * (m : Int) < 20) := by omega
  have hf' : (b0 : Int) / 16 = 4 := by omega
  have k1 : ¬ ((n : Int) < 4 * m) := by omega
  have k2 : ¬ ((n : Int) < N) := by omega
  have HC0 := Lib.hid HC
  have HB := Lib.hid hb
  have HA : Hid (Same w (w.alloc (pktO nilV nilV))) := Same.alloc w _
  have HK : Hid ((w.alloc (pktO nilV nilV)).heap[w.heap.size]? = some (pktO nilV nilV)) := heap_alloc_new w _
  obtain ⟨c0, c2, c3⟩ := HC _ (Same.alloc w (pktO nilV nilV))
  have HG := Get16_any (.slice (some ⟨b, o, none⟩) n cap) l 2 (w.alloc (pktO nilV nilV)) (hb.same (Same.alloc w _))
  rw [get_two l (by rw [hl]; exact hn), numOut, show numOf ((l.drop 2).take 2) = N from hNl] at HG
  have HG := Lib.hid HG
  clear HC
  go_enter Try.func25, Try.ntmps25
  go_wp2_with fail
  refine HG.out.mono ?_
  rintro e w1 ⟨rfl, rfl⟩
  go_wp2_with fail
  all_goals first
    | (refine bodyPost_ret (v := cutV nilV nilV 4) ?_ rfl ⟨rfl, HA.out⟩
       simp [results, Try.results25, go_sem])
    | (exfalso; omega)

set_option maxRecDepth 100000 in
set_option maxHeartbeats 2000000 in
theorem ipCut_last (b o n cap b0 b2 b3 m N K : Nat) (hKm : K = 4 * m) (l : List UInt8) (w : World) (hI : ParseIn n b0 b2 b3 m N) (hl : l.length = n) (hNl : fld l 2 2 = N) (hb : Bs w (.slice (some ⟨b, o, none⟩) n cap) l) (hcap : n ≤ cap) (hcm : cap ≤ 9223372036854775807) (hk : K ≤ n) (hNn : N ≤ n) (hkN : K ≤ N) (hbig : N ≤ 9000)
    (HC : ∀ w', Same w w' → w'.cell? ⟨b, o, none⟩ = some (.int .u8 (b0 : Int)) ∧ w'.cell? ⟨b, o + 2, none⟩ = some (.int .u8 (b2 : Int)) ∧ w'.cell? ⟨b, o + 3, none⟩ = some (.int .u8 (b3 : Int))) :
    Calls Try.prog 25 #[.slice (some ⟨b, o, none⟩) n cap] w fun e w' => ∃ vh vp, e = .returned (cutV vh vp (if sumB (l.take K) = 65535 then 0 else 5)) ∧ Bs w' vh (if sumB (l.take K) = 65535 then l.take K else []) ∧ Bs w' vp (if sumB (l.take K) = 65535 then (l.take N).drop K else []) ∧ Same w w' := by
  obtain ⟨hn, h0, h2, h3, hm, hf, hv, hN⟩ := hI
  have h' : ¬ (n : Int) < 20 := by omega
  have h'' : (20 : Int) ≤ n := by omega
  have z0 := i8_and15 b0 h0
  rw [hm] at z0
  have hm15 : (m : Int) ≤ 15 := by omega
  have hm5 : (20 : Int) ≤ 4 * m := by omega
  have hm6 : ¬ (4 * (m : Int) < 20) := by omega
  have hf' : (b0 : Int) / 16 = 4 := by omega
  have k1 : ¬ ((n : Int) < 4 * m) := by omega
  have k2 : ¬ ((n : Int) < N) := by omega
  have k3 : ¬ ((N : Int) < K) := by omega
  have k4 : ¬ ((9000 : Int) < N) := by omega
  have k5 : (K : Int) ≤ cap := by omega
  have k6 : (K : Int) ≤ N := by omega
  have k7 : (N : Int) ≤ cap := by omega
  have z9 : (m : Int) * 4 = K := by omega
  have k8 : ¬ ((n : Int) < K) := by omega
  have k11 : (20 : Int) ≤ K := by omega
  have k12 : ¬ ((K : Int) < 20) := by omega
  have HBH : Hid (Bs w (.slice (some ⟨b, o, none⟩) K K) (l.take K)) := by
    have := (hb.sub 0 K (by rw [hl]; omega)).1
    rw [if_neg (by omega)] at this
    have h2 : Bs w (.slice (some ⟨b, o, none⟩) K K) (l.take K) := by simpa [Addr.add] using this
    exact h2
  have HKm := Lib.hid hKm
  clear hKm
  have HLT : Hid (((l.take K).length : Int) ≤ 140737488355328) := by show _ ≤ _; simp; omega
  have HC0 := Lib.hid HC
  have HB := Lib.hid hb
  have HA : Hid (Same w (w.alloc (pktO nilV nilV))) := Same.alloc w _
  have HK : Hid ((w.alloc (pktO nilV nilV)).heap[w.heap.size]? = some (pktO nilV nilV)) := heap_alloc_new w _
  obtain ⟨c0, c2, c3⟩ := HC _ (Same.alloc w (pktO nilV nilV))
  have HG := Get16_any (.slice (some ⟨b, o, none⟩) n cap) l 2 (w.alloc (pktO nilV nilV)) (hb.same (Same.alloc w _))
  rw [get_two l (by rw [hl]; exact hn), numOut, show numOf ((l.drop 2).take 2) = N from hNl] at HG
  have HG := Lib.hid HG
  clear HC
  go_enter Try.func25, Try.ntmps25
  go_wp2_with fail
  refine HG.out.mono ?_
  rintro e w1 ⟨rfl, rfl⟩
  go_wp2_with fail
  by_cases hc : N = K
  · subst hc
    have HP : Hid (Bs w (Value.slice (some ⟨b, o, none⟩) 0 0) ((l.take N).drop N)) := by
      have := (hb.sub N (N - N) (by rw [hl]; omega)).1
      rw [if_pos (by omega), show N - N = 0 from by omega] at this
      rw [show (l.take N).drop N = (l.drop N).take (N - N) from by rw [List.drop_take]]
      have h2 : Bs w (Value.slice (some ⟨b, o, none⟩) 0 0) ((l.drop N).take (N - N)) := by simpa [Addr.add] using this
      exact h2
    obtain ⟨W0, hW⟩ : ∃ W0, W0 = w.alloc (pktO nilV nilV) := ⟨_, rfl⟩
    have HA0 : Hid (Same w W0) := by rw [hW]; exact HA.out
    have HK0 : Hid (W0.heap[w.heap.size]? = some (pktO nilV nilV)) := by rw [hW]; exact HK.out
    rw [← hW]
    clear hW HA HK HG
    refine reg_start (fun w' => Same W0 w') (by kernel_rfl) ?_
    refine reg_take (v := ?_) 0 (some 52) rfl rfl (by kernel_rfl) (fun _ _ _ h => h) (by kernel_rfl) ((Same.refl W0).drew) ?_ ?_
    rotate_left
    · (intro w' hw'; skip; go_simp; try with_reducible rfl)
    try simp only [Act.put, List.setIfInBounds_toArray, List.set_cons_zero, List.set_cons_succ]
    refine reg_take (v := ?_) 1 (some 53) rfl rfl (by kernel_rfl) (fun _ _ _ h => h) (by kernel_rfl) ((Same.refl W0).drew) ?_ ?_
    rotate_left
    · (intro w' hw'; skip; go_simp; try with_reducible rfl)
    try simp only [Act.put, List.setIfInBounds_toArray, List.set_cons_zero, List.set_cons_succ]
    refine reg_take (v := ?_) 2 (some 54) rfl rfl (by kernel_rfl) (fun _ _ _ h => h) (by kernel_rfl) ((Same.refl W0).drew) ?_ ?_
    rotate_left
    · (intro w' hw'; skip; go_simp; try with_reducible rfl)
    try simp only [Act.put, List.setIfInBounds_toArray, List.set_cons_zero, List.set_cons_succ]
    refine reg_take (v := ?_) 3 (some 55) rfl rfl (by kernel_rfl) (fun _ _ _ h => h) (by kernel_rfl) ((Same.refl W0).drew) ?_ ?_
    rotate_left
    · (intro w' hw'; skip; go_simp; try with_reducible rfl)
    try simp only [Act.put, List.setIfInBounds_toArray, List.set_cons_zero, List.set_cons_succ]
    refine reg_take (v := ?_) 4 (some 56) rfl rfl (by kernel_rfl) (fun _ _ _ h => h) (by kernel_rfl) ((Same.refl W0).drew) ?_ ?_
    rotate_left
    · (intro w' hw'; skip; go_simp; try with_reducible rfl)
    try simp only [Act.put, List.setIfInBounds_toArray, List.set_cons_zero, List.set_cons_succ]
    refine reg_take (v := ?_) 5 (some 57) rfl rfl (by kernel_rfl) (fun _ _ _ h => h) (by kernel_rfl) ((Same.refl W0).drew) ?_ ?_
    rotate_left
    · (intro w' hw'; skip; go_simp; try with_reducible rfl)
    try simp only [Act.put, List.setIfInBounds_toArray, List.set_cons_zero, List.set_cons_succ]
    refine reg_take (v := ?_) 6 (some 58) rfl rfl (by kernel_rfl) (fun _ _ _ h => h) (by kernel_rfl) ((Same.refl W0).drew) ?_ ?_
    rotate_left
    · (intro w' hw'; skip; go_simp; try with_reducible rfl)
    try simp only [Act.put, List.setIfInBounds_toArray, List.set_cons_zero, List.set_cons_succ]
    refine reg_take (v := ?_) 7 (some 59) rfl rfl (by kernel_rfl) (fun _ _ _ h => h) (by kernel_rfl) ((Same.refl W0).drew) ?_ ?_
    rotate_left
    · (intro w' hw'; skip; go_simp; try with_reducible rfl)
    try simp only [Act.put, List.setIfInBounds_toArray, List.set_cons_zero, List.set_cons_succ]
    refine reg_take (v := ?_) 8 (some 60) rfl rfl (by kernel_rfl) (fun _ _ _ h => h) (by kernel_rfl) ((Same.refl W0).drew) ?_ ?_
    rotate_left
    · (intro w' hw'; skip; go_simp; try with_reducible rfl)
    try simp only [Act.put, List.setIfInBounds_toArray, List.set_cons_zero, List.set_cons_succ]
    refine reg_take (v := ?_) 9 (some 61) rfl rfl (by kernel_rfl) (fun _ _ _ h => h) (by kernel_rfl) ((Same.refl W0).drew) ?_ ?_
    rotate_left
    · (intro w' hw'; skip; go_simp; try with_reducible rfl)
    try simp only [Act.put, List.setIfInBounds_toArray, List.set_cons_zero, List.set_cons_succ]
    refine reg_one 10 rfl (by kernel_rfl) (by kernel_rfl) ?_
    generalize hD : W0.drew = D at *
    have HS0 : Hid (Same W0 D) := by rw [← hD]; exact (Same.refl W0).drew
    clear hD
    go_simp
    refine ⟨HS0.out.trans (Same.alloc D _), ?_⟩
    try simp only [Act.put, List.setIfInBounds_toArray, List.set_cons_zero, List.set_cons_succ]
    refine reg_one 11 rfl (by kernel_rfl) (by kernel_rfl) ?_
    refine wp_store_row 58 _ _ (by rfl) D.heap.size #[.slice (some ⟨b, o, none⟩) N N, Value.slice (some ⟨b, o, none⟩) 0 0] (by rfl) (by rfl) 58 _ (heap_alloc_new D _) (by kernel_rfl) (by rfl) (by simp [Value.oneCell']) ?_
    have HS2 : Hid (Same W0 ((D.alloc (pktO nilV nilV)).setRow D.heap.size #[.slice (some ⟨b, o, none⟩) N N, Value.slice (some ⟨b, o, none⟩) 0 0])) := below_setRow (HS0.out.trans (Same.alloc D _)) HS0.out.size _
    refine ⟨HS2.out, ?_⟩
    try simp only [Act.put]
    refine reg_done (by kernel_rfl) ?_
    have HR2 := Lib.hid (setRow_heap (D.alloc (pktO nilV nilV)) D.heap.size _ #[.slice (some ⟨b, o, none⟩) N N, Value.slice (some ⟨b, o, none⟩) 0 0] _ _ (heap_alloc_new D _))
    generalize (D.alloc (pktO nilV nilV)).setRow D.heap.size _ = W2 at *
    have hc0 : W2.cell? ⟨D.heap.size, 0, none⟩ = some (.slice (some ⟨b, o, none⟩) N N) := by simp [World.cell?, HR2.out]
    have hc1 : W2.cell? ⟨D.heap.size, 1, none⟩ = some (Value.slice (some ⟨b, o, none⟩) 0 0) := by simp [World.cell?, HR2.out]
    go_wp2_with fail
    have HGd := Lib.hid (cGood_any _ (l.take N) W2 (HBH.out.same (HA0.out.trans HS2.out)) HLT.out)
    have HR0 : Hid (W2.heap[w.heap.size]? = some (pktO nilV nilV)) := HS2.out.block HK0.out
    have HSw := Lib.hid (HA0.out.trans HS2.out)
    clear HR2 HS2 HS0 HA0 HK0
    by_cases hs : sumB (l.take N) = 65535
    · rw [show decide (sumB (l.take N) = 65535) = true from decide_eq_true hs] at HGd
      have HHs := Lib.hid hs
      clear hs
      refine HGd.out.mono ?_
      rintro e w3 ⟨rfl, h3⟩
      have HS3 := Lib.hid (HSw.out.trans h3)
      have HR3 := Lib.hid (h3.block HR0.out)
      have d0 : w3.cell? ⟨D.heap.size, 0, none⟩ = some (.slice (some ⟨b, o, none⟩) N N) := by rw [Below.cell h3 (World.block_lt_of_cell? W2 _ hc0)]; exact hc0
      have d1 : w3.cell? ⟨D.heap.size, 1, none⟩ = some (Value.slice (some ⟨b, o, none⟩) 0 0) := by rw [Below.cell h3 (World.block_lt_of_cell? W2 _ hc1)]; exact hc1
      have r0 : w3.cell? ⟨w.heap.size, 0, none⟩ = some nilV := by simp [World.cell?, HR3.out]
      have r1 : w3.cell? ⟨w.heap.size, 1, none⟩ = some nilV := by simp [World.cell?, HR3.out]
      have hfz : ∀ j, w3.frozen? ⟨w.heap.size, j, none⟩ = false := fun j => by simp [World.frozen?, HR3.out]
      clear h3 hc0 hc1
      go_wp2_with fail
      have HE : Hid (Same w ((w3.setCell ⟨w.heap.size, 0, none⟩ (.slice (some ⟨b, o, none⟩) N N)).setCell ⟨w.heap.size, 1, none⟩ (Value.slice (some ⟨b, o, none⟩) 0 0))) := (HS3.out.set (Nat.le_refl _) _).set (Nat.le_refl _) _
      have hkE : ((w3.setCell ⟨w.heap.size, 0, none⟩ (.slice (some ⟨b, o, none⟩) N N)).setCell ⟨w.heap.size, 1, none⟩ (Value.slice (some ⟨b, o, none⟩) 0 0)).heap[w.heap.size]? = some (pktO (.slice (some ⟨b, o, none⟩) N N) (Value.slice (some ⟨b, o, none⟩) 0 0)) := by simp [World.setCell, Array.getElem?_modify, HR3.out]
      generalize (w3.setCell ⟨w.heap.size, 0, none⟩ (.slice (some ⟨b, o, none⟩) N N)).setCell ⟨w.heap.size, 1, none⟩ (Value.slice (some ⟨b, o, none⟩) 0 0) = E at *
      have e0 : E.cell? ⟨w.heap.size, 0, none⟩ = some (.slice (some ⟨b, o, none⟩) N N) := by simp [World.cell?, hkE]
      have e1 : E.cell? ⟨w.heap.size, 1, none⟩ = some (Value.slice (some ⟨b, o, none⟩) 0 0) := by simp [World.cell?, hkE]
      refine bodyPost_ret (v := cutV (.slice (some ⟨b, o, none⟩) N N) (Value.slice (some ⟨b, o, none⟩) 0 0) 0) ?_ rfl ⟨_, _, rfl, HBH.out.same HE.out, by first | exact HP.out.same HE.out | simpa using HP.out.same HE.out, HE.out⟩
      simp [results, Try.results25, go_sem, e0, e1]
    · rw [show decide (sumB (l.take N) = 65535) = false from decide_eq_false hs] at HGd
      have HHs := Lib.hid hs
      clear hs
      refine HGd.out.mono ?_
      rintro e w3 ⟨rfl, h3⟩
      have HS3 := Lib.hid (HSw.out.trans h3)
      have HR3 := Lib.hid (h3.block HR0.out)
      have r0 : w3.cell? ⟨w.heap.size, 0, none⟩ = some nilV := by simp [World.cell?, HR3.out]
      have r1 : w3.cell? ⟨w.heap.size, 1, none⟩ = some nilV := by simp [World.cell?, HR3.out]
      have hfz : ∀ j, w3.frozen? ⟨w.heap.size, j, none⟩ = false := fun j => by simp [World.frozen?, HR3.out]
      clear h3 hc0 hc1
      go_wp2_with fail
      have HE : Hid (Same w ((w3.setCell ⟨w.heap.size, 0, none⟩ nilV).setCell ⟨w.heap.size, 1, none⟩ nilV)) := (HS3.out.set (Nat.le_refl _) _).set (Nat.le_refl _) _
      have hkE : ((w3.setCell ⟨w.heap.size, 0, none⟩ nilV).setCell ⟨w.heap.size, 1, none⟩ nilV).heap[w.heap.size]? = some (pktO nilV nilV) := by simp [World.setCell, Array.getElem?_modify, HR3.out]
      generalize (w3.setCell ⟨w.heap.size, 0, none⟩ nilV).setCell ⟨w.heap.size, 1, none⟩ nilV = E at *
      have e0 : E.cell? ⟨w.heap.size, 0, none⟩ = some nilV := by simp [World.cell?, hkE]
      have e1 : E.cell? ⟨w.heap.size, 1, none⟩ = some nilV := by simp [World.cell?, hkE]
      refine bodyPost_ret (v := cutV nilV nilV 5) ?_ rfl ⟨_, _, rfl, Bs.nil _, Bs.nil _, HE.out⟩
      simp [results, Try.results25, go_sem, e0, e1]

  · have HP : Hid (Bs w (Value.slice (some ⟨b, o + K, none⟩) (N - K) (N - K)) ((l.take N).drop K)) := by
      have := (hb.sub K (N - K) (by rw [hl]; omega)).1
      rw [if_neg (by omega), Option.map_some, addr_add] at this
      rw [show (l.take N).drop K = (l.drop K).take (N - K) from by rw [List.drop_take]]
      have h2 : Bs w (Value.slice (some ⟨b, o + K, none⟩) (N - K) (N - K)) ((l.drop K).take (N - K)) := by simpa [Addr.add] using this
      exact h2
    obtain ⟨W0, hW⟩ : ∃ W0, W0 = w.alloc (pktO nilV nilV) := ⟨_, rfl⟩
    have HA0 : Hid (Same w W0) := by rw [hW]; exact HA.out
    have HK0 : Hid (W0.heap[w.heap.size]? = some (pktO nilV nilV)) := by rw [hW]; exact HK.out
    rw [← hW]
    clear hW HA HK HG
    refine reg_start (fun w' => Same W0 w') (by kernel_rfl) ?_
    refine reg_take (v := ?_) 0 (some 52) rfl rfl (by kernel_rfl) (fun _ _ _ h => h) (by kernel_rfl) ((Same.refl W0).drew) ?_ ?_
    rotate_left
    · (intro w' hw'; skip; go_simp; try with_reducible rfl)
    try simp only [Act.put, List.setIfInBounds_toArray, List.set_cons_zero, List.set_cons_succ]
    refine reg_take (v := ?_) 1 (some 53) rfl rfl (by kernel_rfl) (fun _ _ _ h => h) (by kernel_rfl) ((Same.refl W0).drew) ?_ ?_
    rotate_left
    · (intro w' hw'; skip; go_simp; try with_reducible rfl)
    try simp only [Act.put, List.setIfInBounds_toArray, List.set_cons_zero, List.set_cons_succ]
    refine reg_take (v := ?_) 2 (some 54) rfl rfl (by kernel_rfl) (fun _ _ _ h => h) (by kernel_rfl) ((Same.refl W0).drew) ?_ ?_
    rotate_left
    · (intro w' hw'; skip; go_simp; try with_reducible rfl)
    try simp only [Act.put, List.setIfInBounds_toArray, List.set_cons_zero, List.set_cons_succ]
    refine reg_take (v := ?_) 3 (some 55) rfl rfl (by kernel_rfl) (fun _ _ _ h => h) (by kernel_rfl) ((Same.refl W0).drew) ?_ ?_
    rotate_left
    · (intro w' hw'; skip; go_simp; try with_reducible rfl)
    try simp only [Act.put, List.setIfInBounds_toArray, List.set_cons_zero, List.set_cons_succ]
    refine reg_take (v := ?_) 4 (some 56) rfl rfl (by kernel_rfl) (fun _ _ _ h => h) (by kernel_rfl) ((Same.refl W0).drew) ?_ ?_
    rotate_left
    · (intro w' hw'; skip; go_simp; try with_reducible rfl)
    try simp only [Act.put, List.setIfInBounds_toArray, List.set_cons_zero, List.set_cons_succ]
    refine reg_take (v := ?_) 5 (some 57) rfl rfl (by kernel_rfl) (fun _ _ _ h => h) (by kernel_rfl) ((Same.refl W0).drew) ?_ ?_
    rotate_left
    · (intro w' hw'; skip; go_simp; try with_reducible rfl)
    try simp only [Act.put, List.setIfInBounds_toArray, List.set_cons_zero, List.set_cons_succ]
    refine reg_take (v := ?_) 6 (some 58) rfl rfl (by kernel_rfl) (fun _ _ _ h => h) (by kernel_rfl) ((Same.refl W0).drew) ?_ ?_
    rotate_left
    · (intro w' hw'; skip; go_simp; try with_reducible rfl)
    try simp only [Act.put, List.setIfInBounds_toArray, List.set_cons_zero, List.set_cons_succ]
    refine reg_take (v := ?_) 7 (some 59) rfl rfl (by kernel_rfl) (fun _ _ _ h => h) (by kernel_rfl) ((Same.refl W0).drew) ?_ ?_
    rotate_left
    · (intro w' hw'; skip; go_simp; try with_reducible rfl)
    try simp only [Act.put, List.setIfInBounds_toArray, List.set_cons_zero, List.set_cons_succ]
    refine reg_take (v := ?_) 8 (some 60) rfl rfl (by kernel_rfl) (fun _ _ _ h => h) (by kernel_rfl) ((Same.refl W0).drew) ?_ ?_
    rotate_left
    · (intro w' hw'; skip; go_simp; try with_reducible rfl)
    try simp only [Act.put, List.setIfInBounds_toArray, List.set_cons_zero, List.set_cons_succ]
    refine reg_take (v := ?_) 9 (some 61) rfl rfl (by kernel_rfl) (fun _ _ _ h => h) (by kernel_rfl) ((Same.refl W0).drew) ?_ ?_
    rotate_left
    · (intro w' hw'; skip; go_simp; try with_reducible rfl)
    try simp only [Act.put, List.setIfInBounds_toArray, List.set_cons_zero, List.set_cons_succ]
    refine reg_one 10 rfl (by kernel_rfl) (by kernel_rfl) ?_
    generalize hD : W0.drew = D at *
    have HS0 : Hid (Same W0 D) := by rw [← hD]; exact (Same.refl W0).drew
    clear hD
    go_simp
    refine ⟨HS0.out.trans (Same.alloc D _), ?_⟩
    try simp only [Act.put, List.setIfInBounds_toArray, List.set_cons_zero, List.set_cons_succ]
    refine reg_one 11 rfl (by kernel_rfl) (by kernel_rfl) ?_
    refine wp_store_row 58 _ _ (by rfl) D.heap.size #[.slice (some ⟨b, o, none⟩) K K, Value.slice (some ⟨b, o + K, none⟩) (N - K) (N - K)] (by rfl) (by rfl) 58 _ (heap_alloc_new D _) (by kernel_rfl) (by rfl) (by simp [Value.oneCell']) ?_
    have HS2 : Hid (Same W0 ((D.alloc (pktO nilV nilV)).setRow D.heap.size #[.slice (some ⟨b, o, none⟩) K K, Value.slice (some ⟨b, o + K, none⟩) (N - K) (N - K)])) := below_setRow (HS0.out.trans (Same.alloc D _)) HS0.out.size _
    refine ⟨HS2.out, ?_⟩
    try simp only [Act.put]
    refine reg_done (by kernel_rfl) ?_
    have HR2 := Lib.hid (setRow_heap (D.alloc (pktO nilV nilV)) D.heap.size _ #[.slice (some ⟨b, o, none⟩) K K, Value.slice (some ⟨b, o + K, none⟩) (N - K) (N - K)] _ _ (heap_alloc_new D _))
    generalize (D.alloc (pktO nilV nilV)).setRow D.heap.size _ = W2 at *
    have hc0 : W2.cell? ⟨D.heap.size, 0, none⟩ = some (.slice (some ⟨b, o, none⟩) K K) := by simp [World.cell?, HR2.out]
    have hc1 : W2.cell? ⟨D.heap.size, 1, none⟩ = some (Value.slice (some ⟨b, o + K, none⟩) (N - K) (N - K)) := by simp [World.cell?, HR2.out]
    go_wp2_with fail
    have HGd := Lib.hid (cGood_any _ (l.take K) W2 (HBH.out.same (HA0.out.trans HS2.out)) HLT.out)
    have HR0 : Hid (W2.heap[w.heap.size]? = some (pktO nilV nilV)) := HS2.out.block HK0.out
    have HSw := Lib.hid (HA0.out.trans HS2.out)
    clear HR2 HS2 HS0 HA0 HK0
    by_cases hs : sumB (l.take K) = 65535
    · rw [show decide (sumB (l.take K) = 65535) = true from decide_eq_true hs] at HGd
      have HHs := Lib.hid hs
      clear hs
      refine HGd.out.mono ?_
      rintro e w3 ⟨rfl, h3⟩
      have HS3 := Lib.hid (HSw.out.trans h3)
      have HR3 := Lib.hid (h3.block HR0.out)
      have d0 : w3.cell? ⟨D.heap.size, 0, none⟩ = some (.slice (some ⟨b, o, none⟩) K K) := by rw [Below.cell h3 (World.block_lt_of_cell? W2 _ hc0)]; exact hc0
      have d1 : w3.cell? ⟨D.heap.size, 1, none⟩ = some (Value.slice (some ⟨b, o + K, none⟩) (N - K) (N - K)) := by rw [Below.cell h3 (World.block_lt_of_cell? W2 _ hc1)]; exact hc1
      have r0 : w3.cell? ⟨w.heap.size, 0, none⟩ = some nilV := by simp [World.cell?, HR3.out]
      have r1 : w3.cell? ⟨w.heap.size, 1, none⟩ = some nilV := by simp [World.cell?, HR3.out]
      have hfz : ∀ j, w3.frozen? ⟨w.heap.size, j, none⟩ = false := fun j => by simp [World.frozen?, HR3.out]
      clear h3 hc0 hc1
      go_wp2_with fail
      have HE : Hid (Same w ((w3.setCell ⟨w.heap.size, 0, none⟩ (.slice (some ⟨b, o, none⟩) K K)).setCell ⟨w.heap.size, 1, none⟩ (Value.slice (some ⟨b, o + K, none⟩) (N - K) (N - K)))) := (HS3.out.set (Nat.le_refl _) _).set (Nat.le_refl _) _
      have hkE : ((w3.setCell ⟨w.heap.size, 0, none⟩ (.slice (some ⟨b, o, none⟩) K K)).setCell ⟨w.heap.size, 1, none⟩ (Value.slice (some ⟨b, o + K, none⟩) (N - K) (N - K))).heap[w.heap.size]? = some (pktO (.slice (some ⟨b, o, none⟩) K K) (Value.slice (some ⟨b, o + K, none⟩) (N - K) (N - K))) := by simp [World.setCell, Array.getElem?_modify, HR3.out]
      generalize (w3.setCell ⟨w.heap.size, 0, none⟩ (.slice (some ⟨b, o, none⟩) K K)).setCell ⟨w.heap.size, 1, none⟩ (Value.slice (some ⟨b, o + K, none⟩) (N - K) (N - K)) = E at *
      have e0 : E.cell? ⟨w.heap.size, 0, none⟩ = some (.slice (some ⟨b, o, none⟩) K K) := by simp [World.cell?, hkE]
      have e1 : E.cell? ⟨w.heap.size, 1, none⟩ = some (Value.slice (some ⟨b, o + K, none⟩) (N - K) (N - K)) := by simp [World.cell?, hkE]
      refine bodyPost_ret (v := cutV (.slice (some ⟨b, o, none⟩) K K) (Value.slice (some ⟨b, o + K, none⟩) (N - K) (N - K)) 0) ?_ rfl ⟨_, _, rfl, HBH.out.same HE.out, by first | exact HP.out.same HE.out | simpa using HP.out.same HE.out, HE.out⟩
      simp [results, Try.results25, go_sem, e0, e1]
    · rw [show decide (sumB (l.take K) = 65535) = false from decide_eq_false hs] at HGd
      have HHs := Lib.hid hs
      clear hs
      refine HGd.out.mono ?_
      rintro e w3 ⟨rfl, h3⟩
      have HS3 := Lib.hid (HSw.out.trans h3)
      have HR3 := Lib.hid (h3.block HR0.out)
      have r0 : w3.cell? ⟨w.heap.size, 0, none⟩ = some nilV := by simp [World.cell?, HR3.out]
      have r1 : w3.cell? ⟨w.heap.size, 1, none⟩ = some nilV := by simp [World.cell?, HR3.out]
      have hfz : ∀ j, w3.frozen? ⟨w.heap.size, j, none⟩ = false := fun j => by simp [World.frozen?, HR3.out]
      clear h3 hc0 hc1
      go_wp2_with fail
      have HE : Hid (Same w ((w3.setCell ⟨w.heap.size, 0, none⟩ nilV).setCell ⟨w.heap.size, 1, none⟩ nilV)) := (HS3.out.set (Nat.le_refl _) _).set (Nat.le_refl _) _
      have hkE : ((w3.setCell ⟨w.heap.size, 0, none⟩ nilV).setCell ⟨w.heap.size, 1, none⟩ nilV).heap[w.heap.size]? = some (pktO nilV nilV) := by simp [World.setCell, Array.getElem?_modify, HR3.out]
      generalize (w3.setCell ⟨w.heap.size, 0, none⟩ nilV).setCell ⟨w.heap.size, 1, none⟩ nilV = E at *
      have e0 : E.cell? ⟨w.heap.size, 0, none⟩ = some nilV := by simp [World.cell?, hkE]
      have e1 : E.cell? ⟨w.heap.size, 1, none⟩ = some nilV := by simp [World.cell?, hkE]
      refine bodyPost_ret (v := cutV nilV nilV 5) ?_ rfl ⟨_, _, rfl, Bs.nil _, Bs.nil _, HE.out⟩
      simp [results, Try.results25, go_sem, e0, e1]

end Go.Proofs.Yteoleblnhcnpkaa
