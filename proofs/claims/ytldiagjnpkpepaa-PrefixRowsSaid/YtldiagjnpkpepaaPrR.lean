/- The document's Sort. No condition beyond what it names. -/
import Derived.Test.YtldiagjnpkpepaaPrB
import Derived.Test.YtldiagjnpkpepaaPfxK
import Derived.Test.YtldiagjnpkpepaaPfxF
import Derived.LoopTactic
namespace Go.Proofs.Ytldiagjnpkpepaa
open Go.RowKit Go.Sort
set_option linter.unusedVariables false
set_option linter.unusedSimpArgs false
set_option maxRecDepth 100000
attribute [local go_sem ↓] eq_pfx neq_pfx

theorem rowP_take (l : List (Int × Int)) (k : Nat) (h : k < l.length) : rowP (l.take (k + 1)) = insP l[k] (rowP (l.take k)) := by
  rw [rowP, rowP, List.take_succ_eq_append_getElem h, List.foldl_append]
  rfl
theorem fold_length : ∀ (l m : List (Int × Int)), (l.foldl (fun m p => insP p m) m).length ≤ l.length + m.length
  | [], m => by simp
  | p :: l, m => by
    have h1 := fold_length l (insP p m)
    have h2 := insP_length p m
    rw [List.foldl_cons, List.length_cons]
    omega
theorem rowP_length (l : List (Int × Int)) : (rowP l).length ≤ l.length := by
  have := fold_length l []
  rw [List.length_nil, Nat.add_zero] at this
  exact this
theorem box_at {w u : World} {a n : Int} (h : Same (w.alloc (pfxO a n)) u) : u.cell? ⟨w.heap.size, 0, none⟩ = some (.int .u32 a) ∧ u.cell? ⟨w.heap.size, 1, none⟩ = some (.int .i64 n) := by
  have e : u.heap[w.heap.size]? = some (pfxO a n) := by
    rw [Below.block h w.heap.size (alloc_lt _ _), alloc_eq_grow]
    unfold grow; simp only [Array.getElem?_append, Nat.lt_irrefl, if_false, Nat.sub_self]; rfl
  exact ⟨by rw [World.cell?, e]; rfl, by rw [World.cell?, e]; rfl⟩

theorem Ps.empty (w : World) (ad : Addr) : Ps w (.slice (some ad) 0 0) [] := ⟨some ad, 0, rfl, Nat.le_refl _, by omega, by simp, fun _ _ => ⟨fun h => absurd rfl h, fun j p h => by simp at h⟩⟩
theorem Ps.take {w : World} {ao : Option Addr} {n cap : Nat} {l : List (Int × Int)} (h : Ps w (.slice ao n cap) l) (j : Nat) (hj : j ≤ l.length) : Ps w (.slice ao j cap) (l.take j) := by
  obtain ⟨ao', cap', he, h1, h2, h3, h4⟩ := h
  cases he
  refine ⟨ao, cap, by rw [List.length_take, Nat.min_eq_left hj], by rw [List.length_take]; omega, h2, h3, fun ad had => ?_⟩
  obtain ⟨s, c⟩ := h4 ad had
  refine ⟨fun hne => s (fun e => hne (by rw [e]; simp)), fun i p hi => c i p ?_⟩
  rw [List.getElem?_take] at hi
  split at hi
  · exact hi
  · cases hi
theorem Ps.drop' {w : World} {g o n cap : Nat} {l : List (Int × Int)} (h : Ps w (.slice (some ⟨g, o, none⟩) n cap) l) (j : Nat) (hj : j ≤ l.length) : Ps w (.slice (some ⟨g, o + j * 2, none⟩) (l.length - j) (cap - j)) (l.drop j) := by
  obtain ⟨ao', cap', he, h1, h2, h3, h4⟩ := h
  cases he
  refine ⟨some ⟨g, o + j * 2, none⟩, cap - j, by rw [List.length_drop], by rw [List.length_drop]; omega, by omega, by simp, fun ad had => ?_⟩
  cases had
  refine ⟨fun _ => rfl, fun i p hi => ?_⟩
  rw [List.getElem?_drop] at hi
  obtain ⟨c0, c1⟩ := (h4 _ rfl).2 (j + i) p hi
  rw [pfx_add_of_spot] at c0 c1
  rw [pfx_add_of_spot, pfx_add_of_spot]
  rw [show o + j * 2 + i * 2 = o + (j + i) * 2 from by omega, show o + j * 2 + (i * 2 + 1) = o + ((j + i) * 2 + 1) from by omega]
  exact ⟨c0, c1⟩
theorem Ps.drop {w : World} {g o n cap : Nat} {l : List (Int × Int)} (h : Ps w (.slice (some ⟨g, o, none⟩) n cap) l) (j : Nat) (hj : j < l.length) : Ps w (.slice (some ⟨g, o + j * 2, none⟩) (l.length - j) (cap - j)) (l.drop j) := h.drop' j (Nat.le_of_lt hj)
theorem own_spot {w : World} {B g o n cap : Nat} {s : Option Nat} {l : List (Int × Int)} (h : OwnP w B (.slice (some ⟨g, o, s⟩) n cap) l) : s = none := by
  rcases h.2 with ⟨h0, _⟩ | ⟨g', cap', cur, hv, _⟩
  · cases h0
  · cases hv
    rfl

set_option maxHeartbeats 4000000 in
theorem rSort_any (v : Value) (l : List (Int × Int)) (w : World) (hp : Ps w v l) (hl : l.length ≤ 1000000) :
    Calls Try.prog 11 #[v] w fun e w' => ∃ v', e = .returned v' ∧ OwnP w' w.heap.size v' (rowP l) ∧ Same w w' := by
  have HP := Lib.hid hp
  obtain ⟨ao, cap, rfl, b1, b2, b3, b4⟩ := hp
  clear b4
  have hb : (l.length : Int) ≤ 1000000 := by omega
  go_enter Try.func11, Try.ntmps11
  go_wp2_with fail
  go_loopw [3, 9] (fun ov kv wr => ∃ k : Nat, k ≤ l.length ∧ kv = .int .i64 k ∧ OwnP wr w.heap.size ov (rowP (l.take k)) ∧ Same w wr) (fun _ kv _ => l.length - (intOf kv).toNat)
  case atStart => exact ⟨0, Nat.zero_le _, rfl, OwnP.nil _ _, Same.refl _⟩
  case round =>
    obtain ⟨k, hk, rfl, ho, hs⟩ := hrel
    have HO := Lib.hid ho
    have HS := Lib.hid hs
    clear ho hs
    by_cases hlt : k < l.length
    · obtain ⟨ab, o, sp, rfl⟩ : ∃ ab o sp, ao = some ⟨ab, o, sp⟩ := by
        cases ao with
        | none => have := b3 rfl; omega
        | some ad => exact ⟨ad.block, ad.off, ad.spot, rfl⟩
      obtain ⟨rfl, -, c0, c1⟩ := (HP.out.same HS.out).at k hlt
      have hlt' : (k : Int) < l.length := by omega
      have HPK := Lib.hid (show l[k] = (l[k].1, l[k].2) from rfl)
      generalize l[k].1 = pa at *
      generalize l[k].2 = pb at *
      have HTK := Lib.hid (show rowP (l.take (k + 1)) = insP (pa, pb) (rowP (l.take k)) by rw [rowP_take l k hlt, HPK.out])
      have HML := Lib.hid (show (rowP (l.take k)).length ≤ k from Nat.le_trans (rowP_length _) (by simp; omega))
      generalize rowP (l.take k) = m at *
      obtain ⟨om, mc, rfl, m1, m2, m3, -⟩ := HO.out.ps
      go_wp2_with fail
      have HO1 := Lib.hid (HO.out.same (Same.alloc wr (pfxO pa pb)))
      have HS1 := Lib.hid (HS.out.trans (Same.alloc wr (pfxO pa pb)))
      have HBX : Hid (∀ u, Same (wr.alloc (pfxO pa pb)) u → u.cell? ⟨wr.heap.size, 0, none⟩ = some (.int .u32 pa) ∧ u.cell? ⟨wr.heap.size, 1, none⟩ = some (.int .i64 pb)) := fun u hu => box_at hu
      generalize hW1 : wr.alloc (pfxO pa pb) = W1 at *
      clear hW1 HO HS c0 c1
      generalize wr.heap.size = bx at *
      have hN : Hid ((m.length : Int) ≤ 1000000) := by have := HML.out; show _ ≤ _; omega
      go_loopw [6] (fun iv wi => ∃ j : Nat, iv = .int .i64 j ∧ j ≤ befP (pa, pb) m ∧ Same W1 wi) (fun iv _ => m.length + 1 - (intOf iv).toNat)
      case atStart => exact ⟨0, rfl, Nat.zero_le _, Same.refl _⟩
      case round =>
        obtain ⟨j, rfl, hj, hs⟩ := hrel
        have HSI := Lib.hid hs
        have HJ := Lib.hid hj
        have hjN : j ≤ m.length := Nat.le_trans hj (befP_le _ _)
        clear hs hj
        by_cases hjn : j < m.length
        · obtain ⟨gb, go, gs, rfl⟩ : ∃ gb go gs, om = some ⟨gb, go, gs⟩ := by
            cases om with
            | none => have := m3 rfl; omega
            | some ad => exact ⟨ad.block, ad.off, ad.spot, rfl⟩
          obtain ⟨rfl, -, -, -⟩ := (HO1.out.ps.same HSI.out).at j hjn
          have HC : Hid (∀ u, Same wr u → (u.cell? ⟨gb, go + j * 2, none⟩ = some (.int .u32 m[j].1) ∧ u.cell? ⟨gb, go + j * 2 + 1, none⟩ = some (.int .i64 m[j].2)) ∧ (u.cell? ⟨bx, 0, none⟩ = some (.int .u32 pa) ∧ u.cell? ⟨bx, 1, none⟩ = some (.int .i64 pb))) := fun u hu => by
            obtain ⟨-, -, e0, e1⟩ := (HO1.out.ps.same (HSI.out.trans hu)).at j hjn
            exact ⟨⟨e0, e1⟩, HBX.out u (HSI.out.trans hu)⟩
          have hji : (0 : Int) ≤ (j : Int) ∧ (j : Int) < (m.length : Int) := by omega
          have hjl : (j : Int) < (m.length : Int) := by omega
          have HK := fun w => Lib.hid (rCmp_any m[j].1 m[j].2 pa pb w)
          by_cases hc : ltP m[j] (pa, pb) = true
          · have hz : cmpP m[j].1 m[j].2 pa pb < 0 := by simpa [ltP] using hc
            have HJ2 : Hid (j + 1 ≤ befP (pa, pb) m) := by
              have h1 : j ≠ befP (pa, pb) m := fun e => by
                have := befP_at (pa, pb) m m[j] (by rw [← e]; simp [hjn])
                rw [hc] at this
                cases this
              have := HJ.out
              show _ ≤ _
              omega
            clear hc
            generalize m[j].1 = x at *
            generalize m[j].2 = y at *
            generalize cmpP x y pa pb = z at *
            go_wp2_with fail
            refine reg_start (fun w' => Same wr w') (by kernel_rfl) ?_
            refine reg_take (v := ?_) 0 (some 13) rfl rfl (by kernel_rfl) (fun _ _ _ h => h) (by kernel_rfl) ((Same.refl wr).drew) ?_ ?_
            rotate_left
            · (intro w' hw'; obtain ⟨⟨c0, c1⟩, ⟨e0, e1⟩⟩ := HC.out w' hw'; go_simp; try with_reducible rfl)
            try simp only [Act.put, List.setIfInBounds_toArray, List.set_cons_zero, List.set_cons_succ]
            refine reg_take (v := ?_) 1 (some 14) rfl rfl (by kernel_rfl) (fun _ _ _ h => h) (by kernel_rfl) ((Same.refl wr).drew) ?_ ?_
            rotate_left
            · (intro w' hw'; obtain ⟨⟨c0, c1⟩, ⟨e0, e1⟩⟩ := HC.out w' hw'; go_simp; try with_reducible rfl)
            try simp only [Act.put, List.setIfInBounds_toArray, List.set_cons_zero, List.set_cons_succ]
            refine reg_take (v := ?_) 2 (some 15) rfl rfl (by kernel_rfl) (fun _ _ _ h => h) (by kernel_rfl) ((Same.refl wr).drew) ?_ ?_
            rotate_left
            · (intro w' hw'; obtain ⟨⟨c0, c1⟩, ⟨e0, e1⟩⟩ := HC.out w' hw'; go_simp; try with_reducible rfl)
            try simp only [Act.put, List.setIfInBounds_toArray, List.set_cons_zero, List.set_cons_succ]
            refine reg_take (v := ?_) 3 (some 16) rfl rfl (by kernel_rfl) (fun _ _ _ h => h) (by kernel_rfl) ((Same.refl wr).drew) ?_ ?_
            rotate_left
            · (intro w' hw'; obtain ⟨⟨c0, c1⟩, ⟨e0, e1⟩⟩ := HC.out w' hw'; go_simp; try with_reducible rfl)
            try simp only [Act.put, List.setIfInBounds_toArray, List.set_cons_zero, List.set_cons_succ]
            refine reg_take (v := ?_) 4 (some 17) rfl rfl (by kernel_rfl) (fun _ _ _ h => h) (by kernel_rfl) ((Same.refl wr).drew) ?_ ?_
            rotate_left
            · (intro w' hw'; obtain ⟨⟨c0, c1⟩, ⟨e0, e1⟩⟩ := HC.out w' hw'; go_simp; try with_reducible rfl)
            try simp only [Act.put, List.setIfInBounds_toArray, List.set_cons_zero, List.set_cons_succ]
            refine reg_take (v := ?_) 5 (some 18) rfl rfl (by kernel_rfl) (fun _ _ _ h => h) (by kernel_rfl) ((Same.refl wr).drew) ?_ ?_
            rotate_left
            · (intro w' hw'; obtain ⟨⟨c0, c1⟩, ⟨e0, e1⟩⟩ := HC.out w' hw'; go_simp; try with_reducible rfl)
            try simp only [Act.put, List.setIfInBounds_toArray, List.set_cons_zero, List.set_cons_succ]
            refine reg_take (v := ?_) 6 (some 19) rfl rfl (by kernel_rfl) (fun _ _ _ h => h) (by kernel_rfl) ((Same.refl wr).drew) ?_ ?_
            rotate_left
            · (intro w' hw'; obtain ⟨⟨c0, c1⟩, ⟨e0, e1⟩⟩ := HC.out w' hw'; go_simp; try with_reducible rfl)
            try simp only [Act.put, List.setIfInBounds_toArray, List.set_cons_zero, List.set_cons_succ]
            refine reg_take (v := ?_) 7 (some 20) rfl rfl (by kernel_rfl) (fun _ _ _ h => h) (by kernel_rfl) ((Same.refl wr).drew) ?_ ?_
            rotate_left
            · (intro w' hw'; obtain ⟨⟨c0, c1⟩, ⟨e0, e1⟩⟩ := HC.out w' hw'; go_simp; try with_reducible rfl)
            try simp only [Act.put, List.setIfInBounds_toArray, List.set_cons_zero, List.set_cons_succ]
            refine reg_take (v := ?_) 8 (some 21) rfl rfl (by kernel_rfl) (fun _ _ _ h => h) (by kernel_rfl) ((Same.refl wr).drew) ?_ ?_
            rotate_left
            · (intro w' hw'; obtain ⟨⟨c0, c1⟩, ⟨e0, e1⟩⟩ := HC.out w' hw'; go_simp; try with_reducible rfl)
            try simp only [Act.put, List.setIfInBounds_toArray, List.set_cons_zero, List.set_cons_succ]
            refine reg_take (v := ?_) 9 (some 22) rfl rfl (by kernel_rfl) (fun _ _ _ h => h) (by kernel_rfl) ((Same.refl wr).drew) ?_ ?_
            rotate_left
            · (intro w' hw'; obtain ⟨⟨c0, c1⟩, ⟨e0, e1⟩⟩ := HC.out w' hw'; go_simp; try with_reducible rfl)
            try simp only [Act.put, List.setIfInBounds_toArray, List.set_cons_zero, List.set_cons_succ]
            refine reg_one 10 rfl (by kernel_rfl) (by kernel_rfl) ?_
            go_simp
            refine ((HK _).out).mono ?_
            rintro e u1 ⟨rfl, hs1⟩
            have hS1 := ((Same.refl wr).drew).trans hs1
            skip
            refine ⟨hS1, ?_⟩
            try simp only [Act.put, List.setIfInBounds_toArray, List.set_cons_zero, List.set_cons_succ]
            refine reg_take (v := ?_) 11 (some 24) rfl rfl (by kernel_rfl) (fun _ _ _ h => h) (by kernel_rfl) (hS1) ?_ ?_
            rotate_left
            · (intro w' hw'; obtain ⟨⟨c0, c1⟩, ⟨e0, e1⟩⟩ := HC.out w' hw'; go_simp; try with_reducible rfl)
            try simp only [Act.put, List.setIfInBounds_toArray, List.set_cons_zero, List.set_cons_succ]
            refine reg_take (v := ?_) 12 (some 25) rfl rfl (by kernel_rfl) (fun _ _ _ h => h) (by kernel_rfl) (hS1) ?_ ?_
            rotate_left
            · (intro w' hw'; obtain ⟨⟨c0, c1⟩, ⟨e0, e1⟩⟩ := HC.out w' hw'; go_simp; try with_reducible rfl)
            try simp only [Act.put, List.setIfInBounds_toArray, List.set_cons_zero, List.set_cons_succ]
            refine reg_done (by kernel_rfl) ?_
            go_wp2_with fail
            go_roundw
            case rel => exact ⟨j + 1, by go_num, HJ2.out, HSI.out.trans hS1⟩
            case measure => simp [intOf]; omega
          · have hz : ¬ cmpP m[j].1 m[j].2 pa pb < 0 := by simpa [ltP] using hc
            have hjb : j = befP (pa, pb) m := by
              have := HJ.out
              rcases Nat.lt_or_ge j (befP (pa, pb) m) with h | h
              · exact absurd (befP_lt (pa, pb) m j m[j] h (by simp [hjn])) hc
              · omega
            by_cases he : m[j] = (pa, pb)
            · have hdec : decide (m[j].1 = pa ∧ m[j].2 = pb) = true := by rw [he]; simp
              have HIN := Lib.hid (show insP (pa, pb) m = m by rw [insP, if_pos (by rw [← hjb, ← he]; simp [hjn])])
              clear hc he hjb
              generalize m[j].1 = x at *
              generalize m[j].2 = y at *
              generalize cmpP x y pa pb = z at *
              go_wp2_with fail
              refine reg_start (fun w' => Same wr w') (by kernel_rfl) ?_
              refine reg_take (v := ?_) 0 (some 13) rfl rfl (by kernel_rfl) (fun _ _ _ h => h) (by kernel_rfl) ((Same.refl wr).drew) ?_ ?_
              rotate_left
              · (intro w' hw'; obtain ⟨⟨c0, c1⟩, ⟨e0, e1⟩⟩ := HC.out w' hw'; go_simp; try with_reducible rfl)
              try simp only [Act.put, List.setIfInBounds_toArray, List.set_cons_zero, List.set_cons_succ]
              refine reg_take (v := ?_) 1 (some 14) rfl rfl (by kernel_rfl) (fun _ _ _ h => h) (by kernel_rfl) ((Same.refl wr).drew) ?_ ?_
              rotate_left
              · (intro w' hw'; obtain ⟨⟨c0, c1⟩, ⟨e0, e1⟩⟩ := HC.out w' hw'; go_simp; try with_reducible rfl)
              try simp only [Act.put, List.setIfInBounds_toArray, List.set_cons_zero, List.set_cons_succ]
              refine reg_take (v := ?_) 2 (some 15) rfl rfl (by kernel_rfl) (fun _ _ _ h => h) (by kernel_rfl) ((Same.refl wr).drew) ?_ ?_
              rotate_left
              · (intro w' hw'; obtain ⟨⟨c0, c1⟩, ⟨e0, e1⟩⟩ := HC.out w' hw'; go_simp; try with_reducible rfl)
              try simp only [Act.put, List.setIfInBounds_toArray, List.set_cons_zero, List.set_cons_succ]
              refine reg_take (v := ?_) 3 (some 16) rfl rfl (by kernel_rfl) (fun _ _ _ h => h) (by kernel_rfl) ((Same.refl wr).drew) ?_ ?_
              rotate_left
              · (intro w' hw'; obtain ⟨⟨c0, c1⟩, ⟨e0, e1⟩⟩ := HC.out w' hw'; go_simp; try with_reducible rfl)
              try simp only [Act.put, List.setIfInBounds_toArray, List.set_cons_zero, List.set_cons_succ]
              refine reg_take (v := ?_) 4 (some 17) rfl rfl (by kernel_rfl) (fun _ _ _ h => h) (by kernel_rfl) ((Same.refl wr).drew) ?_ ?_
              rotate_left
              · (intro w' hw'; obtain ⟨⟨c0, c1⟩, ⟨e0, e1⟩⟩ := HC.out w' hw'; go_simp; try with_reducible rfl)
              try simp only [Act.put, List.setIfInBounds_toArray, List.set_cons_zero, List.set_cons_succ]
              refine reg_take (v := ?_) 5 (some 18) rfl rfl (by kernel_rfl) (fun _ _ _ h => h) (by kernel_rfl) ((Same.refl wr).drew) ?_ ?_
              rotate_left
              · (intro w' hw'; obtain ⟨⟨c0, c1⟩, ⟨e0, e1⟩⟩ := HC.out w' hw'; go_simp; try with_reducible rfl)
              try simp only [Act.put, List.setIfInBounds_toArray, List.set_cons_zero, List.set_cons_succ]
              refine reg_take (v := ?_) 6 (some 19) rfl rfl (by kernel_rfl) (fun _ _ _ h => h) (by kernel_rfl) ((Same.refl wr).drew) ?_ ?_
              rotate_left
              · (intro w' hw'; obtain ⟨⟨c0, c1⟩, ⟨e0, e1⟩⟩ := HC.out w' hw'; go_simp; try with_reducible rfl)
              try simp only [Act.put, List.setIfInBounds_toArray, List.set_cons_zero, List.set_cons_succ]
              refine reg_take (v := ?_) 7 (some 20) rfl rfl (by kernel_rfl) (fun _ _ _ h => h) (by kernel_rfl) ((Same.refl wr).drew) ?_ ?_
              rotate_left
              · (intro w' hw'; obtain ⟨⟨c0, c1⟩, ⟨e0, e1⟩⟩ := HC.out w' hw'; go_simp; try with_reducible rfl)
              try simp only [Act.put, List.setIfInBounds_toArray, List.set_cons_zero, List.set_cons_succ]
              refine reg_take (v := ?_) 8 (some 21) rfl rfl (by kernel_rfl) (fun _ _ _ h => h) (by kernel_rfl) ((Same.refl wr).drew) ?_ ?_
              rotate_left
              · (intro w' hw'; obtain ⟨⟨c0, c1⟩, ⟨e0, e1⟩⟩ := HC.out w' hw'; go_simp; try with_reducible rfl)
              try simp only [Act.put, List.setIfInBounds_toArray, List.set_cons_zero, List.set_cons_succ]
              refine reg_take (v := ?_) 9 (some 22) rfl rfl (by kernel_rfl) (fun _ _ _ h => h) (by kernel_rfl) ((Same.refl wr).drew) ?_ ?_
              rotate_left
              · (intro w' hw'; obtain ⟨⟨c0, c1⟩, ⟨e0, e1⟩⟩ := HC.out w' hw'; go_simp; try with_reducible rfl)
              try simp only [Act.put, List.setIfInBounds_toArray, List.set_cons_zero, List.set_cons_succ]
              refine reg_one 10 rfl (by kernel_rfl) (by kernel_rfl) ?_
              go_simp
              refine ((HK _).out).mono ?_
              rintro e u1 ⟨rfl, hs1⟩
              have hS1 := ((Same.refl wr).drew).trans hs1
              skip
              refine ⟨hS1, ?_⟩
              try simp only [Act.put, List.setIfInBounds_toArray, List.set_cons_zero, List.set_cons_succ]
              refine reg_take (v := ?_) 11 (some 24) rfl rfl (by kernel_rfl) (fun _ _ _ h => h) (by kernel_rfl) (hS1) ?_ ?_
              rotate_left
              · (intro w' hw'; obtain ⟨⟨c0, c1⟩, ⟨e0, e1⟩⟩ := HC.out w' hw'; go_simp; try with_reducible rfl)
              try simp only [Act.put, List.setIfInBounds_toArray, List.set_cons_zero, List.set_cons_succ]
              refine reg_take (v := ?_) 12 (some 25) rfl rfl (by kernel_rfl) (fun _ _ _ h => h) (by kernel_rfl) (hS1) ?_ ?_
              rotate_left
              · (intro w' hw'; obtain ⟨⟨c0, c1⟩, ⟨e0, e1⟩⟩ := HC.out w' hw'; go_simp; try with_reducible rfl)
              try simp only [Act.put, List.setIfInBounds_toArray, List.set_cons_zero, List.set_cons_succ]
              refine reg_done (by kernel_rfl) ?_
              have HSJ := Lib.hid hS1
              clear hS1
              go_wp2_with fail
              refine reg_start (fun w' => Same wr w') (by kernel_rfl) ?_
              refine reg_take (v := ?_) 0 (some 28) rfl rfl (by kernel_rfl) (fun _ _ _ h => h) (by kernel_rfl) (HSJ.out.drew) ?_ ?_
              rotate_left
              · (intro w' hw'; obtain ⟨⟨c0, c1⟩, ⟨e0, e1⟩⟩ := HC.out w' hw'; go_simp; try with_reducible rfl)
              try simp only [Act.put, List.setIfInBounds_toArray, List.set_cons_zero, List.set_cons_succ]
              refine reg_take (v := ?_) 1 (some 29) rfl rfl (by kernel_rfl) (fun _ _ _ h => h) (by kernel_rfl) (HSJ.out.drew) ?_ ?_
              rotate_left
              · (intro w' hw'; obtain ⟨⟨c0, c1⟩, ⟨e0, e1⟩⟩ := HC.out w' hw'; go_simp; try with_reducible rfl)
              try simp only [Act.put, List.setIfInBounds_toArray, List.set_cons_zero, List.set_cons_succ]
              refine reg_take (v := ?_) 2 (some 30) rfl rfl (by kernel_rfl) (fun _ _ _ h => h) (by kernel_rfl) (HSJ.out.drew) ?_ ?_
              rotate_left
              · (intro w' hw'; obtain ⟨⟨c0, c1⟩, ⟨e0, e1⟩⟩ := HC.out w' hw'; go_simp; try with_reducible rfl)
              try simp only [Act.put, List.setIfInBounds_toArray, List.set_cons_zero, List.set_cons_succ]
              refine reg_take (v := ?_) 3 (some 31) rfl rfl (by kernel_rfl) (fun _ _ _ h => h) (by kernel_rfl) (HSJ.out.drew) ?_ ?_
              rotate_left
              · (intro w' hw'; obtain ⟨⟨c0, c1⟩, ⟨e0, e1⟩⟩ := HC.out w' hw'; go_simp; try with_reducible rfl)
              try simp only [Act.put, List.setIfInBounds_toArray, List.set_cons_zero, List.set_cons_succ]
              refine reg_take (v := ?_) 4 (some 32) rfl rfl (by kernel_rfl) (fun _ _ _ h => h) (by kernel_rfl) (HSJ.out.drew) ?_ ?_
              rotate_left
              · (intro w' hw'; obtain ⟨⟨c0, c1⟩, ⟨e0, e1⟩⟩ := HC.out w' hw'; go_simp; try with_reducible rfl)
              try simp only [Act.put, List.setIfInBounds_toArray, List.set_cons_zero, List.set_cons_succ]
              refine reg_take (v := ?_) 5 (some 33) rfl rfl (by kernel_rfl) (fun _ _ _ h => h) (by kernel_rfl) (HSJ.out.drew) ?_ ?_
              rotate_left
              · (intro w' hw'; obtain ⟨⟨c0, c1⟩, ⟨e0, e1⟩⟩ := HC.out w' hw'; go_simp; try with_reducible rfl)
              try simp only [Act.put, List.setIfInBounds_toArray, List.set_cons_zero, List.set_cons_succ]
              refine reg_take (v := ?_) 6 (some 34) rfl rfl (by kernel_rfl) (fun _ _ _ h => h) (by kernel_rfl) (HSJ.out.drew) ?_ ?_
              rotate_left
              · (intro w' hw'; obtain ⟨⟨c0, c1⟩, ⟨e0, e1⟩⟩ := HC.out w' hw'; go_simp; try with_reducible rfl)
              try simp only [Act.put, List.setIfInBounds_toArray, List.set_cons_zero, List.set_cons_succ]
              refine reg_take (v := ?_) 7 (some 35) rfl rfl (by kernel_rfl) (fun _ _ _ h => h) (by kernel_rfl) (HSJ.out.drew) ?_ ?_
              rotate_left
              · (intro w' hw'; obtain ⟨⟨c0, c1⟩, ⟨e0, e1⟩⟩ := HC.out w' hw'; go_simp; try with_reducible rfl)
              try simp only [Act.put, List.setIfInBounds_toArray, List.set_cons_zero, List.set_cons_succ]
              refine reg_take (v := ?_) 8 (some 36) rfl rfl (by kernel_rfl) (fun _ _ _ h => h) (by kernel_rfl) (HSJ.out.drew) ?_ ?_
              rotate_left
              · (intro w' hw'; obtain ⟨⟨c0, c1⟩, ⟨e0, e1⟩⟩ := HC.out w' hw'; go_simp; try with_reducible rfl)
              try simp only [Act.put, List.setIfInBounds_toArray, List.set_cons_zero, List.set_cons_succ]
              refine reg_take (v := ?_) 9 (some 37) rfl rfl (by kernel_rfl) (fun _ _ _ h => h) (by kernel_rfl) (HSJ.out.drew) ?_ ?_
              rotate_left
              · (intro w' hw'; obtain ⟨⟨c0, c1⟩, ⟨e0, e1⟩⟩ := HC.out w' hw'; go_simp; try with_reducible rfl)
              try simp only [Act.put, List.setIfInBounds_toArray, List.set_cons_zero, List.set_cons_succ]
              refine reg_take (v := ?_) 10 (some 38) rfl rfl (by kernel_rfl) (fun _ _ _ h => h) (by kernel_rfl) (HSJ.out.drew) ?_ ?_
              rotate_left
              · (intro w' hw'; obtain ⟨⟨c0, c1⟩, ⟨e0, e1⟩⟩ := HC.out w' hw'; go_simp; try with_reducible rfl)
              try simp only [Act.put, List.setIfInBounds_toArray, List.set_cons_zero, List.set_cons_succ]
              refine reg_take (v := ?_) 11 (some 39) rfl rfl (by kernel_rfl) (fun _ _ _ h => h) (by kernel_rfl) (HSJ.out.drew) ?_ ?_
              rotate_left
              · (intro w' hw'; obtain ⟨⟨c0, c1⟩, ⟨e0, e1⟩⟩ := HC.out w' hw'; go_simp; try with_reducible rfl)
              try simp only [Act.put, List.setIfInBounds_toArray, List.set_cons_zero, List.set_cons_succ]
              refine reg_done (by kernel_rfl) ?_
              go_wp2_with fail
              exact ⟨⟨k + 1, by omega, by go_num, by rw [HTK.out, HIN.out]; exact HO1.out.same ((HSI.out.trans HSJ.out).drew), HS1.out.trans ((HSI.out.trans HSJ.out).drew)⟩, by simp [intOf]; omega⟩
            · have hdec : decide (m[j].1 = pa ∧ m[j].2 = pb) = false := by
                rw [decide_eq_false_iff_not]
                intro hh
                exact he (Prod.ext hh.1 hh.2)
              have HIN := Lib.hid (show insP (pa, pb) m = m.take j ++ [(pa, pb)] ++ m.drop j by
                rw [insP, if_neg (by rw [← hjb]; simpa [hjn] using he), ← hjb]; simp)
              clear hc he hjb
              generalize m[j].1 = x at *
              generalize m[j].2 = y at *
              generalize cmpP x y pa pb = z at *
              go_wp2_with fail
              refine reg_start (fun w' => Same wr w') (by kernel_rfl) ?_
              refine reg_take (v := ?_) 0 (some 13) rfl rfl (by kernel_rfl) (fun _ _ _ h => h) (by kernel_rfl) ((Same.refl wr).drew) ?_ ?_
              rotate_left
              · (intro w' hw'; obtain ⟨⟨c0, c1⟩, ⟨e0, e1⟩⟩ := HC.out w' hw'; go_simp; try with_reducible rfl)
              try simp only [Act.put, List.setIfInBounds_toArray, List.set_cons_zero, List.set_cons_succ]
              refine reg_take (v := ?_) 1 (some 14) rfl rfl (by kernel_rfl) (fun _ _ _ h => h) (by kernel_rfl) ((Same.refl wr).drew) ?_ ?_
              rotate_left
              · (intro w' hw'; obtain ⟨⟨c0, c1⟩, ⟨e0, e1⟩⟩ := HC.out w' hw'; go_simp; try with_reducible rfl)
              try simp only [Act.put, List.setIfInBounds_toArray, List.set_cons_zero, List.set_cons_succ]
              refine reg_take (v := ?_) 2 (some 15) rfl rfl (by kernel_rfl) (fun _ _ _ h => h) (by kernel_rfl) ((Same.refl wr).drew) ?_ ?_
              rotate_left
              · (intro w' hw'; obtain ⟨⟨c0, c1⟩, ⟨e0, e1⟩⟩ := HC.out w' hw'; go_simp; try with_reducible rfl)
              try simp only [Act.put, List.setIfInBounds_toArray, List.set_cons_zero, List.set_cons_succ]
              refine reg_take (v := ?_) 3 (some 16) rfl rfl (by kernel_rfl) (fun _ _ _ h => h) (by kernel_rfl) ((Same.refl wr).drew) ?_ ?_
              rotate_left
              · (intro w' hw'; obtain ⟨⟨c0, c1⟩, ⟨e0, e1⟩⟩ := HC.out w' hw'; go_simp; try with_reducible rfl)
              try simp only [Act.put, List.setIfInBounds_toArray, List.set_cons_zero, List.set_cons_succ]
              refine reg_take (v := ?_) 4 (some 17) rfl rfl (by kernel_rfl) (fun _ _ _ h => h) (by kernel_rfl) ((Same.refl wr).drew) ?_ ?_
              rotate_left
              · (intro w' hw'; obtain ⟨⟨c0, c1⟩, ⟨e0, e1⟩⟩ := HC.out w' hw'; go_simp; try with_reducible rfl)
              try simp only [Act.put, List.setIfInBounds_toArray, List.set_cons_zero, List.set_cons_succ]
              refine reg_take (v := ?_) 5 (some 18) rfl rfl (by kernel_rfl) (fun _ _ _ h => h) (by kernel_rfl) ((Same.refl wr).drew) ?_ ?_
              rotate_left
              · (intro w' hw'; obtain ⟨⟨c0, c1⟩, ⟨e0, e1⟩⟩ := HC.out w' hw'; go_simp; try with_reducible rfl)
              try simp only [Act.put, List.setIfInBounds_toArray, List.set_cons_zero, List.set_cons_succ]
              refine reg_take (v := ?_) 6 (some 19) rfl rfl (by kernel_rfl) (fun _ _ _ h => h) (by kernel_rfl) ((Same.refl wr).drew) ?_ ?_
              rotate_left
              · (intro w' hw'; obtain ⟨⟨c0, c1⟩, ⟨e0, e1⟩⟩ := HC.out w' hw'; go_simp; try with_reducible rfl)
              try simp only [Act.put, List.setIfInBounds_toArray, List.set_cons_zero, List.set_cons_succ]
              refine reg_take (v := ?_) 7 (some 20) rfl rfl (by kernel_rfl) (fun _ _ _ h => h) (by kernel_rfl) ((Same.refl wr).drew) ?_ ?_
              rotate_left
              · (intro w' hw'; obtain ⟨⟨c0, c1⟩, ⟨e0, e1⟩⟩ := HC.out w' hw'; go_simp; try with_reducible rfl)
              try simp only [Act.put, List.setIfInBounds_toArray, List.set_cons_zero, List.set_cons_succ]
              refine reg_take (v := ?_) 8 (some 21) rfl rfl (by kernel_rfl) (fun _ _ _ h => h) (by kernel_rfl) ((Same.refl wr).drew) ?_ ?_
              rotate_left
              · (intro w' hw'; obtain ⟨⟨c0, c1⟩, ⟨e0, e1⟩⟩ := HC.out w' hw'; go_simp; try with_reducible rfl)
              try simp only [Act.put, List.setIfInBounds_toArray, List.set_cons_zero, List.set_cons_succ]
              refine reg_take (v := ?_) 9 (some 22) rfl rfl (by kernel_rfl) (fun _ _ _ h => h) (by kernel_rfl) ((Same.refl wr).drew) ?_ ?_
              rotate_left
              · (intro w' hw'; obtain ⟨⟨c0, c1⟩, ⟨e0, e1⟩⟩ := HC.out w' hw'; go_simp; try with_reducible rfl)
              try simp only [Act.put, List.setIfInBounds_toArray, List.set_cons_zero, List.set_cons_succ]
              refine reg_one 10 rfl (by kernel_rfl) (by kernel_rfl) ?_
              go_simp
              refine ((HK _).out).mono ?_
              rintro e u1 ⟨rfl, hs1⟩
              have hS1 := ((Same.refl wr).drew).trans hs1
              skip
              refine ⟨hS1, ?_⟩
              try simp only [Act.put, List.setIfInBounds_toArray, List.set_cons_zero, List.set_cons_succ]
              refine reg_take (v := ?_) 11 (some 24) rfl rfl (by kernel_rfl) (fun _ _ _ h => h) (by kernel_rfl) (hS1) ?_ ?_
              rotate_left
              · (intro w' hw'; obtain ⟨⟨c0, c1⟩, ⟨e0, e1⟩⟩ := HC.out w' hw'; go_simp; try with_reducible rfl)
              try simp only [Act.put, List.setIfInBounds_toArray, List.set_cons_zero, List.set_cons_succ]
              refine reg_take (v := ?_) 12 (some 25) rfl rfl (by kernel_rfl) (fun _ _ _ h => h) (by kernel_rfl) (hS1) ?_ ?_
              rotate_left
              · (intro w' hw'; obtain ⟨⟨c0, c1⟩, ⟨e0, e1⟩⟩ := HC.out w' hw'; go_simp; try with_reducible rfl)
              try simp only [Act.put, List.setIfInBounds_toArray, List.set_cons_zero, List.set_cons_succ]
              refine reg_done (by kernel_rfl) ?_
              have HSJ := Lib.hid hS1
              clear hS1
              go_wp2_with fail
              refine reg_start (fun w' => Same wr w') (by kernel_rfl) ?_
              refine reg_take (v := ?_) 0 (some 28) rfl rfl (by kernel_rfl) (fun _ _ _ h => h) (by kernel_rfl) (HSJ.out.drew) ?_ ?_
              rotate_left
              · (intro w' hw'; obtain ⟨⟨c0, c1⟩, ⟨e0, e1⟩⟩ := HC.out w' hw'; go_simp; try with_reducible rfl)
              try simp only [Act.put, List.setIfInBounds_toArray, List.set_cons_zero, List.set_cons_succ]
              refine reg_take (v := ?_) 1 (some 29) rfl rfl (by kernel_rfl) (fun _ _ _ h => h) (by kernel_rfl) (HSJ.out.drew) ?_ ?_
              rotate_left
              · (intro w' hw'; obtain ⟨⟨c0, c1⟩, ⟨e0, e1⟩⟩ := HC.out w' hw'; go_simp; try with_reducible rfl)
              try simp only [Act.put, List.setIfInBounds_toArray, List.set_cons_zero, List.set_cons_succ]
              refine reg_take (v := ?_) 2 (some 30) rfl rfl (by kernel_rfl) (fun _ _ _ h => h) (by kernel_rfl) (HSJ.out.drew) ?_ ?_
              rotate_left
              · (intro w' hw'; obtain ⟨⟨c0, c1⟩, ⟨e0, e1⟩⟩ := HC.out w' hw'; go_simp; try with_reducible rfl)
              try simp only [Act.put, List.setIfInBounds_toArray, List.set_cons_zero, List.set_cons_succ]
              refine reg_take (v := ?_) 3 (some 31) rfl rfl (by kernel_rfl) (fun _ _ _ h => h) (by kernel_rfl) (HSJ.out.drew) ?_ ?_
              rotate_left
              · (intro w' hw'; obtain ⟨⟨c0, c1⟩, ⟨e0, e1⟩⟩ := HC.out w' hw'; go_simp; try with_reducible rfl)
              try simp only [Act.put, List.setIfInBounds_toArray, List.set_cons_zero, List.set_cons_succ]
              refine reg_take (v := ?_) 4 (some 32) rfl rfl (by kernel_rfl) (fun _ _ _ h => h) (by kernel_rfl) (HSJ.out.drew) ?_ ?_
              rotate_left
              · (intro w' hw'; obtain ⟨⟨c0, c1⟩, ⟨e0, e1⟩⟩ := HC.out w' hw'; go_simp; try with_reducible rfl)
              try simp only [Act.put, List.setIfInBounds_toArray, List.set_cons_zero, List.set_cons_succ]
              refine reg_take (v := ?_) 5 (some 33) rfl rfl (by kernel_rfl) (fun _ _ _ h => h) (by kernel_rfl) (HSJ.out.drew) ?_ ?_
              rotate_left
              · (intro w' hw'; obtain ⟨⟨c0, c1⟩, ⟨e0, e1⟩⟩ := HC.out w' hw'; go_simp; try with_reducible rfl)
              try simp only [Act.put, List.setIfInBounds_toArray, List.set_cons_zero, List.set_cons_succ]
              refine reg_take (v := ?_) 6 (some 34) rfl rfl (by kernel_rfl) (fun _ _ _ h => h) (by kernel_rfl) (HSJ.out.drew) ?_ ?_
              rotate_left
              · (intro w' hw'; obtain ⟨⟨c0, c1⟩, ⟨e0, e1⟩⟩ := HC.out w' hw'; go_simp; try with_reducible rfl)
              try simp only [Act.put, List.setIfInBounds_toArray, List.set_cons_zero, List.set_cons_succ]
              refine reg_take (v := ?_) 7 (some 35) rfl rfl (by kernel_rfl) (fun _ _ _ h => h) (by kernel_rfl) (HSJ.out.drew) ?_ ?_
              rotate_left
              · (intro w' hw'; obtain ⟨⟨c0, c1⟩, ⟨e0, e1⟩⟩ := HC.out w' hw'; go_simp; try with_reducible rfl)
              try simp only [Act.put, List.setIfInBounds_toArray, List.set_cons_zero, List.set_cons_succ]
              refine reg_take (v := ?_) 8 (some 36) rfl rfl (by kernel_rfl) (fun _ _ _ h => h) (by kernel_rfl) (HSJ.out.drew) ?_ ?_
              rotate_left
              · (intro w' hw'; obtain ⟨⟨c0, c1⟩, ⟨e0, e1⟩⟩ := HC.out w' hw'; go_simp; try with_reducible rfl)
              try simp only [Act.put, List.setIfInBounds_toArray, List.set_cons_zero, List.set_cons_succ]
              refine reg_take (v := ?_) 9 (some 37) rfl rfl (by kernel_rfl) (fun _ _ _ h => h) (by kernel_rfl) (HSJ.out.drew) ?_ ?_
              rotate_left
              · (intro w' hw'; obtain ⟨⟨c0, c1⟩, ⟨e0, e1⟩⟩ := HC.out w' hw'; go_simp; try with_reducible rfl)
              try simp only [Act.put, List.setIfInBounds_toArray, List.set_cons_zero, List.set_cons_succ]
              refine reg_take (v := ?_) 10 (some 38) rfl rfl (by kernel_rfl) (fun _ _ _ h => h) (by kernel_rfl) (HSJ.out.drew) ?_ ?_
              rotate_left
              · (intro w' hw'; obtain ⟨⟨c0, c1⟩, ⟨e0, e1⟩⟩ := HC.out w' hw'; go_simp; try with_reducible rfl)
              try simp only [Act.put, List.setIfInBounds_toArray, List.set_cons_zero, List.set_cons_succ]
              refine reg_take (v := ?_) 11 (some 39) rfl rfl (by kernel_rfl) (fun _ _ _ h => h) (by kernel_rfl) (HSJ.out.drew) ?_ ?_
              rotate_left
              · (intro w' hw'; obtain ⟨⟨c0, c1⟩, ⟨e0, e1⟩⟩ := HC.out w' hw'; go_simp; try with_reducible rfl)
              try simp only [Act.put, List.setIfInBounds_toArray, List.set_cons_zero, List.set_cons_succ]
              refine reg_done (by kernel_rfl) ?_
              go_wp2_with fail
              generalize hW0 : u1.drew = W0 at *
              have HW := Lib.hid (show Same W1 W0 from hW0 ▸ (HSI.out.trans HSJ.out).drew)
              clear hW0
              have HBX9 : Hid (∀ u, Same W0 u → u.cell? ⟨bx, 0, none⟩ = some (.int .u32 pa) ∧ u.cell? ⟨bx, 1, none⟩ = some (.int .i64 pb)) := fun u hu => HBX.out u (HW.out.trans hu)
              have HPt : Hid (∀ u, Same W0 u → Ps u (.slice (some ⟨gb, go, none⟩) j mc) (m.take j)) := fun u hu => (HO1.out.ps.same (HW.out.trans hu)).take j hjN
              have HPd : Hid (∀ u, Same W0 u → Ps u (.slice (some ⟨gb, go + j * 2, none⟩) (m.length - j) (mc - j)) (m.drop j)) := fun u hu => (HO1.out.ps.same (HW.out.trans hu)).drop j hjn
              have hcj : ¬ (mc = j) := by omega
              have hjc : (j : Int) ≤ (mc : Int) := by omega
              have hmc : (m.length : Int) ≤ (mc : Int) := by omega
              have hjm : (j : Int) ≤ (m.length : Int) := by omega
              clear HC HK HBX HSI HSJ m3 hjl hji hz hdec
              refine reg_start (fun w' => Same W0 w') (by kernel_rfl) ?_
              generalize hD : W0.drew = D0 at *
              have HT0 : Hid (Same W0 D0) := by rw [← hD]; exact (Same.refl W0).drew
              clear hD
              refine reg_take (v := ?_) 1 (some 41) rfl rfl (by kernel_rfl) (fun _ _ _ h => h) (by kernel_rfl) (HT0.out) ?_ ?_
              rotate_left
              · (intro w' hw'; obtain ⟨e0, e1⟩ := HBX9.out w' hw'; go_simp; try with_reducible rfl)
              try simp only [Act.put, List.setIfInBounds_toArray, List.set_cons_zero, List.set_cons_succ]
              refine reg_take (v := ?_) 2 (some 42) rfl rfl (by kernel_rfl) (fun _ _ _ h => h) (by kernel_rfl) (HT0.out) ?_ ?_
              rotate_left
              · (intro w' hw'; obtain ⟨e0, e1⟩ := HBX9.out w' hw'; go_simp; try with_reducible rfl)
              try simp only [Act.put, List.setIfInBounds_toArray, List.set_cons_zero, List.set_cons_succ]
              refine reg_take (v := ?_) 3 (some 43) rfl rfl (by kernel_rfl) (fun _ _ _ h => h) (by kernel_rfl) (HT0.out) ?_ ?_
              rotate_left
              · (intro w' hw'; obtain ⟨e0, e1⟩ := HBX9.out w' hw'; go_simp; try with_reducible rfl)
              try simp only [Act.put, List.setIfInBounds_toArray, List.set_cons_zero, List.set_cons_succ]
              refine reg_take (v := ?_) 5 (some 45) rfl rfl (by kernel_rfl) (fun _ _ _ h => h) (by kernel_rfl) (HT0.out) ?_ ?_
              rotate_left
              · (intro w' hw'; obtain ⟨e0, e1⟩ := HBX9.out w' hw'; go_simp; try with_reducible rfl)
              try simp only [Act.put, List.setIfInBounds_toArray, List.set_cons_zero, List.set_cons_succ]
              refine reg_take (v := ?_) 8 (some 48) rfl rfl (by kernel_rfl) (fun _ _ _ h => h) (by kernel_rfl) (HT0.out) ?_ ?_
              rotate_left
              · (intro w' hw'; obtain ⟨e0, e1⟩ := HBX9.out w' hw'; go_simp; try with_reducible rfl)
              try simp only [Act.put, List.setIfInBounds_toArray, List.set_cons_zero, List.set_cons_succ]
              refine reg_take (v := ?_) 9 (some 49) rfl rfl (by kernel_rfl) (fun _ _ _ h => h) (by kernel_rfl) (HT0.out) ?_ ?_
              rotate_left
              · (intro w' hw'; obtain ⟨e0, e1⟩ := HBX9.out w' hw'; go_simp; try with_reducible rfl)
              try simp only [Act.put, List.setIfInBounds_toArray, List.set_cons_zero, List.set_cons_succ]
              refine reg_take (v := ?_) 10 (some 50) rfl rfl (by kernel_rfl) (fun _ _ _ h => h) (by kernel_rfl) (HT0.out) ?_ ?_
              rotate_left
              · (intro w' hw'; obtain ⟨e0, e1⟩ := HBX9.out w' hw'; go_simp; try with_reducible rfl)
              try simp only [Act.put, List.setIfInBounds_toArray, List.set_cons_zero, List.set_cons_succ]
              refine reg_two 0 6 rfl rfl (by kernel_rfl) (by kernel_rfl) (by kernel_rfl) ?_ ?_
              · have HA := Lib.hid (OwnP.none D0)
                have HT1 := Lib.hid (HT0.out.trans (Same.alloc D0 (.cells #[] 58)))
                go_simp
                refine ⟨HT1.out, ?_⟩
                have HAB := Lib.hid (show D0.heap.size < (D0.alloc (.cells #[] 58)).heap.size from alloc_lt _ _)
                have HZ0 := HT0.out.size
                obtain ⟨z0, hz0⟩ : ∃ z0, D0.heap.size = z0 := ⟨_, rfl⟩
                rw [hz0] at HA HAB HZ0
                simp only [hz0]
                generalize D0.alloc (.cells #[] 58) = D1 at *
                clear hz0
                have HA := Lib.hid (HA.out.mono HZ0)
                try simp only [Act.put, List.setIfInBounds_toArray, List.set_cons_zero, List.set_cons_succ]
                refine reg_two 4 6 rfl rfl (by kernel_rfl) (by kernel_rfl) (by kernel_rfl) ?_ ?_
                · refine wp_append_ps _ _ (by rfl) W0 HT1.out _ [] (by rfl) HA.out _ (m.take j) (by rfl) (HPt.out _ HT1.out) (by have := HML.out; simp only [List.length_append, List.length_take, List.length_drop, List.length_cons, List.length_nil]; omega) ?_
                  intro v4 D2 ho4 hs4 hg4
                  have HC := Lib.hid ho4
                  have HT2 := Lib.hid hs4
                  clear ho4 hs4 hg4
                  refine ⟨HT2.out, ?_⟩
                  try simp only [Act.put, List.setIfInBounds_toArray, List.set_cons_zero, List.set_cons_succ]
                  refine reg_one 6 rfl (by kernel_rfl) (by kernel_rfl) ?_
                  have HB := Lib.hid (OwnP.one D2 (pa, pb))
                  have HT3 := Lib.hid (HT2.out.trans (Same.alloc D2 (.cells #[.int .u32 pa, .int .i64 pb] 58)))
                  go_simp
                  refine ⟨HT3.out, ?_⟩
                  have HC := Lib.hid (HC.out.same (Same.alloc D2 (.cells #[.int .u32 pa, .int .i64 pb] 58)))
                  have HZ1 := HT2.out.size
                  obtain ⟨z1, hz1⟩ : ∃ z1, D2.heap.size = z1 := ⟨_, rfl⟩
                  try rw [hz1] at HB
                  simp only [hz1]
                  generalize D2.alloc (.cells #[.int .u32 pa, .int .i64 pb] 58) = D3 at *
                  try simp only [Act.put, List.setIfInBounds_toArray, List.set_cons_zero, List.set_cons_succ]
                  refine reg_one 7 rfl (by kernel_rfl) (by kernel_rfl) ?_
                  refine wp_append_ps _ _ (by rfl) W0 HT3.out _ (m.take j) (by rfl) HC.out _ [(pa, pb)] (by rfl) HB.out.ps (by have := HML.out; simp only [List.length_append, List.length_take, List.length_drop, List.length_cons, List.length_nil]; omega) ?_
                  intro v7 D4 ho7 hs7 hg7
                  have HE := Lib.hid ho7
                  have HT4 := Lib.hid hs7
                  clear ho7 hs7 hg7
                  refine ⟨HT4.out, ?_⟩
                  try simp only [Act.put, List.setIfInBounds_toArray, List.set_cons_zero, List.set_cons_succ]
                  refine reg_one 11 rfl (by kernel_rfl) (by kernel_rfl) ?_
                  refine wp_append_ps _ _ (by rfl) W0 HT4.out _ _ (by rfl) HE.out _ (m.drop j) (by rfl) (HPd.out _ HT4.out) (by have := HML.out; simp only [List.length_append, List.length_take, List.length_drop, List.length_cons, List.length_nil]; omega) ?_
                  intro v11 D5 ho11 hs11 hg11
                  have HG := Lib.hid ho11
                  have HT5 := Lib.hid hs11
                  clear ho11 hs11 hg11
                  refine ⟨HT5.out, ?_⟩
                  try simp only [Act.put, List.setIfInBounds_toArray, List.set_cons_zero, List.set_cons_succ]
                  refine reg_take (v := ?_) 12 (some 3) rfl rfl (by kernel_rfl) (fun _ _ _ h => h) (by kernel_rfl) (HT5.out) ?_ ?_
                  rotate_left
                  · (intro w' hw'; obtain ⟨e0, e1⟩ := HBX9.out w' hw'; go_simp; try with_reducible rfl)
                  try simp only [Act.put, List.setIfInBounds_toArray, List.set_cons_zero, List.set_cons_succ]
                  refine reg_done (by kernel_rfl) ?_
                  go_wp2_with fail
                  exact ⟨⟨k + 1, by omega, by go_num, by rw [HTK.out, HIN.out]; exact HG.out.mono (Nat.le_trans HS1.out.size HW.out.size), HS1.out.trans (HW.out.trans HT5.out)⟩, by simp [intOf]; omega⟩
                · have HB := Lib.hid (OwnP.one D1 (pa, pb))
                  have HT2 := Lib.hid (HT1.out.trans (Same.alloc D1 (.cells #[.int .u32 pa, .int .i64 pb] 58)))
                  go_simp
                  refine ⟨HT2.out, ?_⟩
                  have HA := Lib.hid (HA.out.same (Same.alloc D1 (.cells #[.int .u32 pa, .int .i64 pb] 58)))
                  have HZ1 := HT1.out.size
                  obtain ⟨z1, hz1⟩ : ∃ z1, D1.heap.size = z1 := ⟨_, rfl⟩
                  try rw [hz1] at HB
                  simp only [hz1]
                  generalize D1.alloc (.cells #[.int .u32 pa, .int .i64 pb] 58) = D2 at *
                  have HNE := Lib.hid (show z0 ≠ z1 by have := HAB.out; omega)
                  try simp only [Act.put, List.setIfInBounds_toArray, List.set_cons_zero, List.set_cons_succ]
                  refine reg_one 4 rfl (by kernel_rfl) (by kernel_rfl) ?_
                  refine wp_append_ps _ _ (by rfl) W0 HT2.out _ [] (by rfl) HA.out _ (m.take j) (by rfl) (HPt.out _ HT2.out) (by have := HML.out; simp only [List.length_append, List.length_take, List.length_drop, List.length_cons, List.length_nil]; omega) ?_
                  intro v4 D3 ho4 hs4 hg4
                  have HC := Lib.hid ho4
                  have HT3 := Lib.hid hs4
                  have HB := Lib.hid (HB.out.mod (grown_mod hg4 z0 (.inr rfl)) (by simp only [Value.ownBlock]; intro e; have e := Option.some.inj e; have := HNE.out; omega))
                  clear ho4 hs4 hg4
                  refine ⟨HT3.out, ?_⟩
                  try simp only [Act.put, List.setIfInBounds_toArray, List.set_cons_zero, List.set_cons_succ]
                  refine reg_one 7 rfl (by kernel_rfl) (by kernel_rfl) ?_
                  refine wp_append_ps _ _ (by rfl) W0 HT3.out _ (m.take j) (by rfl) HC.out _ [(pa, pb)] (by rfl) HB.out.ps (by have := HML.out; simp only [List.length_append, List.length_take, List.length_drop, List.length_cons, List.length_nil]; omega) ?_
                  intro v7 D4 ho7 hs7 hg7
                  have HE := Lib.hid ho7
                  have HT4 := Lib.hid hs7
                  clear ho7 hs7 hg7
                  refine ⟨HT4.out, ?_⟩
                  try simp only [Act.put, List.setIfInBounds_toArray, List.set_cons_zero, List.set_cons_succ]
                  refine reg_one 11 rfl (by kernel_rfl) (by kernel_rfl) ?_
                  refine wp_append_ps _ _ (by rfl) W0 HT4.out _ _ (by rfl) HE.out _ (m.drop j) (by rfl) (HPd.out _ HT4.out) (by have := HML.out; simp only [List.length_append, List.length_take, List.length_drop, List.length_cons, List.length_nil]; omega) ?_
                  intro v11 D5 ho11 hs11 hg11
                  have HG := Lib.hid ho11
                  have HT5 := Lib.hid hs11
                  clear ho11 hs11 hg11
                  refine ⟨HT5.out, ?_⟩
                  try simp only [Act.put, List.setIfInBounds_toArray, List.set_cons_zero, List.set_cons_succ]
                  refine reg_take (v := ?_) 12 (some 3) rfl rfl (by kernel_rfl) (fun _ _ _ h => h) (by kernel_rfl) (HT5.out) ?_ ?_
                  rotate_left
                  · (intro w' hw'; obtain ⟨e0, e1⟩ := HBX9.out w' hw'; go_simp; try with_reducible rfl)
                  try simp only [Act.put, List.setIfInBounds_toArray, List.set_cons_zero, List.set_cons_succ]
                  refine reg_done (by kernel_rfl) ?_
                  go_wp2_with fail
                  exact ⟨⟨k + 1, by omega, by go_num, by rw [HTK.out, HIN.out]; exact HG.out.mono (Nat.le_trans HS1.out.size HW.out.size), HS1.out.trans (HW.out.trans HT5.out)⟩, by simp [intOf]; omega⟩
              · have HB := Lib.hid (OwnP.one D0 (pa, pb))
                have HT1 := Lib.hid (HT0.out.trans (Same.alloc D0 (.cells #[.int .u32 pa, .int .i64 pb] 58)))
                go_simp
                refine ⟨HT1.out, ?_⟩
                have HABx := Lib.hid (show D0.heap.size < (D0.alloc (.cells #[.int .u32 pa, .int .i64 pb] 58)).heap.size from alloc_lt _ _)
                have HZ1 := HT0.out.size
                obtain ⟨z1, hz1⟩ : ∃ z1, D0.heap.size = z1 := ⟨_, rfl⟩
                try rw [hz1] at HB
                simp only [hz1]
                generalize D0.alloc (.cells #[.int .u32 pa, .int .i64 pb] 58) = D1 at *
                try simp only [Act.put, List.setIfInBounds_toArray, List.set_cons_zero, List.set_cons_succ]
                refine reg_one 0 rfl (by kernel_rfl) (by kernel_rfl) ?_
                have HA := Lib.hid (OwnP.none D1)
                have HT2 := Lib.hid (HT1.out.trans (Same.alloc D1 (.cells #[] 58)))
                go_simp
                refine ⟨HT2.out, ?_⟩
                have HAB := Lib.hid (show D1.heap.size < (D1.alloc (.cells #[] 58)).heap.size from alloc_lt _ _)
                have HB := Lib.hid (HB.out.same (Same.alloc D1 (.cells #[] 58)))
                have HZ0 := HT1.out.size
                obtain ⟨z0, hz0⟩ : ∃ z0, D1.heap.size = z0 := ⟨_, rfl⟩
                rw [hz0] at HA HAB HZ0
                simp only [hz0]
                generalize D1.alloc (.cells #[] 58) = D2 at *
                have HNE := Lib.hid (show z0 ≠ z1 by have := HABx.out; omega)
                clear hz0
                have HA := Lib.hid (HA.out.mono HZ0)
                try simp only [Act.put, List.setIfInBounds_toArray, List.set_cons_zero, List.set_cons_succ]
                refine reg_one 4 rfl (by kernel_rfl) (by kernel_rfl) ?_
                refine wp_append_ps _ _ (by rfl) W0 HT2.out _ [] (by rfl) HA.out _ (m.take j) (by rfl) (HPt.out _ HT2.out) (by have := HML.out; simp only [List.length_append, List.length_take, List.length_drop, List.length_cons, List.length_nil]; omega) ?_
                intro v4 D3 ho4 hs4 hg4
                have HC := Lib.hid ho4
                have HT3 := Lib.hid hs4
                have HB := Lib.hid (HB.out.mod (grown_mod hg4 z0 (.inr rfl)) (by simp only [Value.ownBlock]; intro e; have e := Option.some.inj e; have := HNE.out; omega))
                clear ho4 hs4 hg4
                refine ⟨HT3.out, ?_⟩
                try simp only [Act.put, List.setIfInBounds_toArray, List.set_cons_zero, List.set_cons_succ]
                refine reg_one 7 rfl (by kernel_rfl) (by kernel_rfl) ?_
                refine wp_append_ps _ _ (by rfl) W0 HT3.out _ (m.take j) (by rfl) HC.out _ [(pa, pb)] (by rfl) HB.out.ps (by have := HML.out; simp only [List.length_append, List.length_take, List.length_drop, List.length_cons, List.length_nil]; omega) ?_
                intro v7 D4 ho7 hs7 hg7
                have HE := Lib.hid ho7
                have HT4 := Lib.hid hs7
                clear ho7 hs7 hg7
                refine ⟨HT4.out, ?_⟩
                try simp only [Act.put, List.setIfInBounds_toArray, List.set_cons_zero, List.set_cons_succ]
                refine reg_one 11 rfl (by kernel_rfl) (by kernel_rfl) ?_
                refine wp_append_ps _ _ (by rfl) W0 HT4.out _ _ (by rfl) HE.out _ (m.drop j) (by rfl) (HPd.out _ HT4.out) (by have := HML.out; simp only [List.length_append, List.length_take, List.length_drop, List.length_cons, List.length_nil]; omega) ?_
                intro v11 D5 ho11 hs11 hg11
                have HG := Lib.hid ho11
                have HT5 := Lib.hid hs11
                clear ho11 hs11 hg11
                refine ⟨HT5.out, ?_⟩
                try simp only [Act.put, List.setIfInBounds_toArray, List.set_cons_zero, List.set_cons_succ]
                refine reg_take (v := ?_) 12 (some 3) rfl rfl (by kernel_rfl) (fun _ _ _ h => h) (by kernel_rfl) (HT5.out) ?_ ?_
                rotate_left
                · (intro w' hw'; obtain ⟨e0, e1⟩ := HBX9.out w' hw'; go_simp; try with_reducible rfl)
                try simp only [Act.put, List.setIfInBounds_toArray, List.set_cons_zero, List.set_cons_succ]
                refine reg_done (by kernel_rfl) ?_
                go_wp2_with fail
                exact ⟨⟨k + 1, by omega, by go_num, by rw [HTK.out, HIN.out]; exact HG.out.mono (Nat.le_trans HS1.out.size HW.out.size), HS1.out.trans (HW.out.trans HT5.out)⟩, by simp [intOf]; omega⟩
        · have hjl : ¬ (j : Int) < (m.length : Int) := by omega
          go_wp2_with fail
          refine reg_start (fun w' => Same wr w') (by kernel_rfl) ?_
          refine reg_take (v := ?_) 0 (some 13) rfl rfl (by kernel_rfl) (fun _ _ _ h => h) (by kernel_rfl) ((Same.refl wr).drew) ?_ ?_
          rotate_left
          · (intro w' hw'; skip; go_simp; try with_reducible rfl)
          try simp only [Act.put, List.setIfInBounds_toArray, List.set_cons_zero, List.set_cons_succ]
          refine reg_take (v := ?_) 1 (some 14) rfl rfl (by kernel_rfl) (fun _ _ _ h => h) (by kernel_rfl) ((Same.refl wr).drew) ?_ ?_
          rotate_left
          · (intro w' hw'; skip; go_simp; try with_reducible rfl)
          try simp only [Act.put, List.setIfInBounds_toArray, List.set_cons_zero, List.set_cons_succ]
          refine reg_take (v := ?_) 2 (some 15) rfl rfl (by kernel_rfl) (fun _ _ _ h => h) (by kernel_rfl) ((Same.refl wr).drew) ?_ ?_
          rotate_left
          · (intro w' hw'; skip; go_simp; try with_reducible rfl)
          try simp only [Act.put, List.setIfInBounds_toArray, List.set_cons_zero, List.set_cons_succ]
          refine reg_take (v := ?_) 3 (some 16) rfl rfl (by kernel_rfl) (fun _ _ _ h => h) (by kernel_rfl) ((Same.refl wr).drew) ?_ ?_
          rotate_left
          · (intro w' hw'; skip; go_simp; try with_reducible rfl)
          try simp only [Act.put, List.setIfInBounds_toArray, List.set_cons_zero, List.set_cons_succ]
          refine reg_take (v := ?_) 4 (some 17) rfl rfl (by kernel_rfl) (fun _ _ _ h => h) (by kernel_rfl) ((Same.refl wr).drew) ?_ ?_
          rotate_left
          · (intro w' hw'; skip; go_simp; try with_reducible rfl)
          try simp only [Act.put, List.setIfInBounds_toArray, List.set_cons_zero, List.set_cons_succ]
          refine reg_skip 5 (some 18) rfl rfl (by kernel_rfl) (fun _ _ _ h => h) (by kernel_rfl) ((Same.refl wr).drew) ?_
          try simp only [Act.put, List.setIfInBounds_toArray, List.set_cons_zero, List.set_cons_succ]
          refine reg_skip 6 (some 19) rfl rfl (by kernel_rfl) (fun _ _ _ h => h) (by kernel_rfl) ((Same.refl wr).drew) ?_
          try simp only [Act.put, List.setIfInBounds_toArray, List.set_cons_zero, List.set_cons_succ]
          refine reg_skip 7 (some 20) rfl rfl (by kernel_rfl) (fun _ _ _ h => h) (by kernel_rfl) ((Same.refl wr).drew) ?_
          try simp only [Act.put, List.setIfInBounds_toArray, List.set_cons_zero, List.set_cons_succ]
          refine reg_skip 8 (some 21) rfl rfl (by kernel_rfl) (fun _ _ _ h => h) (by kernel_rfl) ((Same.refl wr).drew) ?_
          try simp only [Act.put, List.setIfInBounds_toArray, List.set_cons_zero, List.set_cons_succ]
          refine reg_skip 9 (some 22) rfl rfl (by kernel_rfl) (fun _ _ _ h => h) (by kernel_rfl) ((Same.refl wr).drew) ?_
          try simp only [Act.put, List.setIfInBounds_toArray, List.set_cons_zero, List.set_cons_succ]
          refine reg_skip 10 (some 23) rfl rfl (by kernel_rfl) (fun _ _ _ h => h) (by kernel_rfl) ((Same.refl wr).drew) ?_
          try simp only [Act.put, List.setIfInBounds_toArray, List.set_cons_zero, List.set_cons_succ]
          refine reg_skip 11 (some 24) rfl rfl (by kernel_rfl) (fun _ _ _ h => h) (by kernel_rfl) ((Same.refl wr).drew) ?_
          try simp only [Act.put, List.setIfInBounds_toArray, List.set_cons_zero, List.set_cons_succ]
          refine reg_take (v := ?_) 12 (some 25) rfl rfl (by kernel_rfl) (fun _ _ _ h => h) (by kernel_rfl) ((Same.refl wr).drew) ?_ ?_
          rotate_left
          · (intro w' hw'; skip; go_simp; try with_reducible rfl)
          try simp only [Act.put, List.setIfInBounds_toArray, List.set_cons_zero, List.set_cons_succ]
          refine reg_done (by kernel_rfl) ?_
          go_wp2_with fail
          refine reg_start (fun w' => Same wr w') (by kernel_rfl) ?_
          refine reg_take (v := ?_) 0 (some 28) rfl rfl (by kernel_rfl) (fun _ _ _ h => h) (by kernel_rfl) ((Same.refl wr).drew.drew) ?_ ?_
          rotate_left
          · (intro w' hw'; skip; go_simp; try with_reducible rfl)
          try simp only [Act.put, List.setIfInBounds_toArray, List.set_cons_zero, List.set_cons_succ]
          refine reg_take (v := ?_) 1 (some 29) rfl rfl (by kernel_rfl) (fun _ _ _ h => h) (by kernel_rfl) ((Same.refl wr).drew.drew) ?_ ?_
          rotate_left
          · (intro w' hw'; skip; go_simp; try with_reducible rfl)
          try simp only [Act.put, List.setIfInBounds_toArray, List.set_cons_zero, List.set_cons_succ]
          refine reg_take (v := ?_) 2 (some 30) rfl rfl (by kernel_rfl) (fun _ _ _ h => h) (by kernel_rfl) ((Same.refl wr).drew.drew) ?_ ?_
          rotate_left
          · (intro w' hw'; skip; go_simp; try with_reducible rfl)
          try simp only [Act.put, List.setIfInBounds_toArray, List.set_cons_zero, List.set_cons_succ]
          refine reg_take (v := ?_) 3 (some 31) rfl rfl (by kernel_rfl) (fun _ _ _ h => h) (by kernel_rfl) ((Same.refl wr).drew.drew) ?_ ?_
          rotate_left
          · (intro w' hw'; skip; go_simp; try with_reducible rfl)
          try simp only [Act.put, List.setIfInBounds_toArray, List.set_cons_zero, List.set_cons_succ]
          refine reg_take (v := ?_) 4 (some 32) rfl rfl (by kernel_rfl) (fun _ _ _ h => h) (by kernel_rfl) ((Same.refl wr).drew.drew) ?_ ?_
          rotate_left
          · (intro w' hw'; skip; go_simp; try with_reducible rfl)
          try simp only [Act.put, List.setIfInBounds_toArray, List.set_cons_zero, List.set_cons_succ]
          refine reg_skip 5 (some 33) rfl rfl (by kernel_rfl) (fun _ _ _ h => h) (by kernel_rfl) ((Same.refl wr).drew.drew) ?_
          try simp only [Act.put, List.setIfInBounds_toArray, List.set_cons_zero, List.set_cons_succ]
          refine reg_skip 6 (some 34) rfl rfl (by kernel_rfl) (fun _ _ _ h => h) (by kernel_rfl) ((Same.refl wr).drew.drew) ?_
          try simp only [Act.put, List.setIfInBounds_toArray, List.set_cons_zero, List.set_cons_succ]
          refine reg_skip 7 (some 35) rfl rfl (by kernel_rfl) (fun _ _ _ h => h) (by kernel_rfl) ((Same.refl wr).drew.drew) ?_
          try simp only [Act.put, List.setIfInBounds_toArray, List.set_cons_zero, List.set_cons_succ]
          refine reg_skip 8 (some 36) rfl rfl (by kernel_rfl) (fun _ _ _ h => h) (by kernel_rfl) ((Same.refl wr).drew.drew) ?_
          try simp only [Act.put, List.setIfInBounds_toArray, List.set_cons_zero, List.set_cons_succ]
          refine reg_skip 9 (some 37) rfl rfl (by kernel_rfl) (fun _ _ _ h => h) (by kernel_rfl) ((Same.refl wr).drew.drew) ?_
          try simp only [Act.put, List.setIfInBounds_toArray, List.set_cons_zero, List.set_cons_succ]
          refine reg_skip 10 (some 38) rfl rfl (by kernel_rfl) (fun _ _ _ h => h) (by kernel_rfl) ((Same.refl wr).drew.drew) ?_
          try simp only [Act.put, List.setIfInBounds_toArray, List.set_cons_zero, List.set_cons_succ]
          refine reg_take (v := ?_) 11 (some 39) rfl rfl (by kernel_rfl) (fun _ _ _ h => h) (by kernel_rfl) ((Same.refl wr).drew.drew) ?_ ?_
          rotate_left
          · (intro w' hw'; skip; go_simp; try with_reducible rfl)
          try simp only [Act.put, List.setIfInBounds_toArray, List.set_cons_zero, List.set_cons_succ]
          refine reg_done (by kernel_rfl) ?_
          go_wp2_with fail
          have hjb : j = befP (pa, pb) m := by
            have h1 := HJ.out
            have h2 := befP_le (pa, pb) m
            omega
          have HIN := Lib.hid (show insP (pa, pb) m = m.take j ++ [(pa, pb)] ++ m.drop j by
            rw [insP, if_neg (by rw [← hjb, List.getElem?_eq_none (by omega)]; simp), ← hjb]; simp)
          clear hjb
          generalize hW0 : wr.drew.drew = W0 at *
          have HW := Lib.hid (show Same W1 W0 from hW0 ▸ HSI.out.drew.drew)
          clear hW0
          have HBX9 : Hid (∀ u, Same W0 u → u.cell? ⟨bx, 0, none⟩ = some (.int .u32 pa) ∧ u.cell? ⟨bx, 1, none⟩ = some (.int .i64 pb)) := fun u hu => HBX.out u (HW.out.trans hu)
          cases om with
          | none =>
            have hm0 := m3 rfl
            subst hm0
            obtain rfl : m = [] := List.eq_nil_of_length_eq_zero (by omega)
            obtain rfl : j = 0 := by simpa using hjN
            have HPt : Hid (∀ u, Same W0 u → Ps u (.slice none 0 0) (([] : List (Int × Int)).take 0)) := fun u hu => Ps.nil u
            have HPd : Hid (∀ u, Same W0 u → Ps u (.slice none 0 0) (([] : List (Int × Int)).drop 0)) := fun u hu => Ps.nil u
            clear HBX HSI m3 hjl
            refine reg_start (fun w' => Same W0 w') (by kernel_rfl) ?_
            generalize hD : W0.drew = D0 at *
            have HT0 : Hid (Same W0 D0) := by rw [← hD]; exact (Same.refl W0).drew
            clear hD
            refine reg_take (v := ?_) 1 (some 41) rfl rfl (by kernel_rfl) (fun _ _ _ h => h) (by kernel_rfl) (HT0.out) ?_ ?_
            rotate_left
            · (intro w' hw'; obtain ⟨e0, e1⟩ := HBX9.out w' hw'; go_simp; try with_reducible rfl)
            try simp only [Act.put, List.setIfInBounds_toArray, List.set_cons_zero, List.set_cons_succ]
            refine reg_take (v := ?_) 2 (some 42) rfl rfl (by kernel_rfl) (fun _ _ _ h => h) (by kernel_rfl) (HT0.out) ?_ ?_
            rotate_left
            · (intro w' hw'; obtain ⟨e0, e1⟩ := HBX9.out w' hw'; go_simp; try with_reducible rfl)
            try simp only [Act.put, List.setIfInBounds_toArray, List.set_cons_zero, List.set_cons_succ]
            refine reg_take (v := ?_) 3 (some 43) rfl rfl (by kernel_rfl) (fun _ _ _ h => h) (by kernel_rfl) (HT0.out) ?_ ?_
            rotate_left
            · (intro w' hw'; obtain ⟨e0, e1⟩ := HBX9.out w' hw'; go_simp; try with_reducible rfl)
            try simp only [Act.put, List.setIfInBounds_toArray, List.set_cons_zero, List.set_cons_succ]
            refine reg_take (v := ?_) 5 (some 45) rfl rfl (by kernel_rfl) (fun _ _ _ h => h) (by kernel_rfl) (HT0.out) ?_ ?_
            rotate_left
            · (intro w' hw'; obtain ⟨e0, e1⟩ := HBX9.out w' hw'; go_simp; try with_reducible rfl)
            try simp only [Act.put, List.setIfInBounds_toArray, List.set_cons_zero, List.set_cons_succ]
            refine reg_take (v := ?_) 8 (some 48) rfl rfl (by kernel_rfl) (fun _ _ _ h => h) (by kernel_rfl) (HT0.out) ?_ ?_
            rotate_left
            · (intro w' hw'; obtain ⟨e0, e1⟩ := HBX9.out w' hw'; go_simp; try with_reducible rfl)
            try simp only [Act.put, List.setIfInBounds_toArray, List.set_cons_zero, List.set_cons_succ]
            refine reg_take (v := ?_) 9 (some 49) rfl rfl (by kernel_rfl) (fun _ _ _ h => h) (by kernel_rfl) (HT0.out) ?_ ?_
            rotate_left
            · (intro w' hw'; obtain ⟨e0, e1⟩ := HBX9.out w' hw'; go_simp; try with_reducible rfl)
            try simp only [Act.put, List.setIfInBounds_toArray, List.set_cons_zero, List.set_cons_succ]
            refine reg_take (v := ?_) 10 (some 50) rfl rfl (by kernel_rfl) (fun _ _ _ h => h) (by kernel_rfl) (HT0.out) ?_ ?_
            rotate_left
            · (intro w' hw'; obtain ⟨e0, e1⟩ := HBX9.out w' hw'; go_simp; try with_reducible rfl)
            try simp only [Act.put, List.setIfInBounds_toArray, List.set_cons_zero, List.set_cons_succ]
            refine reg_two 0 6 rfl rfl (by kernel_rfl) (by kernel_rfl) (by kernel_rfl) ?_ ?_
            · have HA := Lib.hid (OwnP.none D0)
              have HT1 := Lib.hid (HT0.out.trans (Same.alloc D0 (.cells #[] 58)))
              go_simp
              refine ⟨HT1.out, ?_⟩
              have HAB := Lib.hid (show D0.heap.size < (D0.alloc (.cells #[] 58)).heap.size from alloc_lt _ _)
              have HZ0 := HT0.out.size
              obtain ⟨z0, hz0⟩ : ∃ z0, D0.heap.size = z0 := ⟨_, rfl⟩
              rw [hz0] at HA HAB HZ0
              simp only [hz0]
              generalize D0.alloc (.cells #[] 58) = D1 at *
              clear hz0
              have HA := Lib.hid (HA.out.mono HZ0)
              try simp only [Act.put, List.setIfInBounds_toArray, List.set_cons_zero, List.set_cons_succ]
              refine reg_two 4 6 rfl rfl (by kernel_rfl) (by kernel_rfl) (by kernel_rfl) ?_ ?_
              · refine wp_append_ps _ _ (by rfl) W0 HT1.out _ [] (by rfl) HA.out _ ((([] : List (Int × Int)).take 0)) (by rfl) (HPt.out _ HT1.out) (by have := HML.out; simp only [List.length_append, List.length_take, List.length_drop, List.length_cons, List.length_nil]; omega) ?_
                intro v4 D2 ho4 hs4 hg4
                have HC := Lib.hid ho4
                have HT2 := Lib.hid hs4
                clear ho4 hs4 hg4
                refine ⟨HT2.out, ?_⟩
                try simp only [Act.put, List.setIfInBounds_toArray, List.set_cons_zero, List.set_cons_succ]
                refine reg_one 6 rfl (by kernel_rfl) (by kernel_rfl) ?_
                have HB := Lib.hid (OwnP.one D2 (pa, pb))
                have HT3 := Lib.hid (HT2.out.trans (Same.alloc D2 (.cells #[.int .u32 pa, .int .i64 pb] 58)))
                go_simp
                refine ⟨HT3.out, ?_⟩
                have HC := Lib.hid (HC.out.same (Same.alloc D2 (.cells #[.int .u32 pa, .int .i64 pb] 58)))
                have HZ1 := HT2.out.size
                obtain ⟨z1, hz1⟩ : ∃ z1, D2.heap.size = z1 := ⟨_, rfl⟩
                try rw [hz1] at HB
                simp only [hz1]
                generalize D2.alloc (.cells #[.int .u32 pa, .int .i64 pb] 58) = D3 at *
                try simp only [Act.put, List.setIfInBounds_toArray, List.set_cons_zero, List.set_cons_succ]
                refine reg_one 7 rfl (by kernel_rfl) (by kernel_rfl) ?_
                refine wp_append_ps _ _ (by rfl) W0 HT3.out _ ((([] : List (Int × Int)).take 0)) (by rfl) HC.out _ [(pa, pb)] (by rfl) HB.out.ps (by have := HML.out; simp only [List.length_append, List.length_take, List.length_drop, List.length_cons, List.length_nil]; omega) ?_
                intro v7 D4 ho7 hs7 hg7
                have HE := Lib.hid ho7
                have HT4 := Lib.hid hs7
                clear ho7 hs7 hg7
                refine ⟨HT4.out, ?_⟩
                try simp only [Act.put, List.setIfInBounds_toArray, List.set_cons_zero, List.set_cons_succ]
                refine reg_one 11 rfl (by kernel_rfl) (by kernel_rfl) ?_
                refine wp_append_ps _ _ (by rfl) W0 HT4.out _ _ (by rfl) HE.out _ ((([] : List (Int × Int)).drop 0)) (by rfl) (HPd.out _ HT4.out) (by have := HML.out; simp only [List.length_append, List.length_take, List.length_drop, List.length_cons, List.length_nil]; omega) ?_
                intro v11 D5 ho11 hs11 hg11
                have HG := Lib.hid ho11
                have HT5 := Lib.hid hs11
                clear ho11 hs11 hg11
                refine ⟨HT5.out, ?_⟩
                try simp only [Act.put, List.setIfInBounds_toArray, List.set_cons_zero, List.set_cons_succ]
                refine reg_take (v := ?_) 12 (some 3) rfl rfl (by kernel_rfl) (fun _ _ _ h => h) (by kernel_rfl) (HT5.out) ?_ ?_
                rotate_left
                · (intro w' hw'; obtain ⟨e0, e1⟩ := HBX9.out w' hw'; go_simp; try with_reducible rfl)
                try simp only [Act.put, List.setIfInBounds_toArray, List.set_cons_zero, List.set_cons_succ]
                refine reg_done (by kernel_rfl) ?_
                go_wp2_with fail
                exact ⟨⟨k + 1, by omega, by go_num, by rw [HTK.out, HIN.out]; exact HG.out.mono (Nat.le_trans HS1.out.size HW.out.size), HS1.out.trans (HW.out.trans HT5.out)⟩, by simp [intOf]; omega⟩
              · have HB := Lib.hid (OwnP.one D1 (pa, pb))
                have HT2 := Lib.hid (HT1.out.trans (Same.alloc D1 (.cells #[.int .u32 pa, .int .i64 pb] 58)))
                go_simp
                refine ⟨HT2.out, ?_⟩
                have HA := Lib.hid (HA.out.same (Same.alloc D1 (.cells #[.int .u32 pa, .int .i64 pb] 58)))
                have HZ1 := HT1.out.size
                obtain ⟨z1, hz1⟩ : ∃ z1, D1.heap.size = z1 := ⟨_, rfl⟩
                try rw [hz1] at HB
                simp only [hz1]
                generalize D1.alloc (.cells #[.int .u32 pa, .int .i64 pb] 58) = D2 at *
                have HNE := Lib.hid (show z0 ≠ z1 by have := HAB.out; omega)
                try simp only [Act.put, List.setIfInBounds_toArray, List.set_cons_zero, List.set_cons_succ]
                refine reg_one 4 rfl (by kernel_rfl) (by kernel_rfl) ?_
                refine wp_append_ps _ _ (by rfl) W0 HT2.out _ [] (by rfl) HA.out _ ((([] : List (Int × Int)).take 0)) (by rfl) (HPt.out _ HT2.out) (by have := HML.out; simp only [List.length_append, List.length_take, List.length_drop, List.length_cons, List.length_nil]; omega) ?_
                intro v4 D3 ho4 hs4 hg4
                have HC := Lib.hid ho4
                have HT3 := Lib.hid hs4
                have HB := Lib.hid (HB.out.mod (grown_mod hg4 z0 (.inr rfl)) (by simp only [Value.ownBlock]; intro e; have e := Option.some.inj e; have := HNE.out; omega))
                clear ho4 hs4 hg4
                refine ⟨HT3.out, ?_⟩
                try simp only [Act.put, List.setIfInBounds_toArray, List.set_cons_zero, List.set_cons_succ]
                refine reg_one 7 rfl (by kernel_rfl) (by kernel_rfl) ?_
                refine wp_append_ps _ _ (by rfl) W0 HT3.out _ ((([] : List (Int × Int)).take 0)) (by rfl) HC.out _ [(pa, pb)] (by rfl) HB.out.ps (by have := HML.out; simp only [List.length_append, List.length_take, List.length_drop, List.length_cons, List.length_nil]; omega) ?_
                intro v7 D4 ho7 hs7 hg7
                have HE := Lib.hid ho7
                have HT4 := Lib.hid hs7
                clear ho7 hs7 hg7
                refine ⟨HT4.out, ?_⟩
                try simp only [Act.put, List.setIfInBounds_toArray, List.set_cons_zero, List.set_cons_succ]
                refine reg_one 11 rfl (by kernel_rfl) (by kernel_rfl) ?_
                refine wp_append_ps _ _ (by rfl) W0 HT4.out _ _ (by rfl) HE.out _ ((([] : List (Int × Int)).drop 0)) (by rfl) (HPd.out _ HT4.out) (by have := HML.out; simp only [List.length_append, List.length_take, List.length_drop, List.length_cons, List.length_nil]; omega) ?_
                intro v11 D5 ho11 hs11 hg11
                have HG := Lib.hid ho11
                have HT5 := Lib.hid hs11
                clear ho11 hs11 hg11
                refine ⟨HT5.out, ?_⟩
                try simp only [Act.put, List.setIfInBounds_toArray, List.set_cons_zero, List.set_cons_succ]
                refine reg_take (v := ?_) 12 (some 3) rfl rfl (by kernel_rfl) (fun _ _ _ h => h) (by kernel_rfl) (HT5.out) ?_ ?_
                rotate_left
                · (intro w' hw'; obtain ⟨e0, e1⟩ := HBX9.out w' hw'; go_simp; try with_reducible rfl)
                try simp only [Act.put, List.setIfInBounds_toArray, List.set_cons_zero, List.set_cons_succ]
                refine reg_done (by kernel_rfl) ?_
                go_wp2_with fail
                exact ⟨⟨k + 1, by omega, by go_num, by rw [HTK.out, HIN.out]; exact HG.out.mono (Nat.le_trans HS1.out.size HW.out.size), HS1.out.trans (HW.out.trans HT5.out)⟩, by simp [intOf]; omega⟩
            · have HB := Lib.hid (OwnP.one D0 (pa, pb))
              have HT1 := Lib.hid (HT0.out.trans (Same.alloc D0 (.cells #[.int .u32 pa, .int .i64 pb] 58)))
              go_simp
              refine ⟨HT1.out, ?_⟩
              have HABx := Lib.hid (show D0.heap.size < (D0.alloc (.cells #[.int .u32 pa, .int .i64 pb] 58)).heap.size from alloc_lt _ _)
              have HZ1 := HT0.out.size
              obtain ⟨z1, hz1⟩ : ∃ z1, D0.heap.size = z1 := ⟨_, rfl⟩
              try rw [hz1] at HB
              simp only [hz1]
              generalize D0.alloc (.cells #[.int .u32 pa, .int .i64 pb] 58) = D1 at *
              try simp only [Act.put, List.setIfInBounds_toArray, List.set_cons_zero, List.set_cons_succ]
              refine reg_one 0 rfl (by kernel_rfl) (by kernel_rfl) ?_
              have HA := Lib.hid (OwnP.none D1)
              have HT2 := Lib.hid (HT1.out.trans (Same.alloc D1 (.cells #[] 58)))
              go_simp
              refine ⟨HT2.out, ?_⟩
              have HAB := Lib.hid (show D1.heap.size < (D1.alloc (.cells #[] 58)).heap.size from alloc_lt _ _)
              have HB := Lib.hid (HB.out.same (Same.alloc D1 (.cells #[] 58)))
              have HZ0 := HT1.out.size
              obtain ⟨z0, hz0⟩ : ∃ z0, D1.heap.size = z0 := ⟨_, rfl⟩
              rw [hz0] at HA HAB HZ0
              simp only [hz0]
              generalize D1.alloc (.cells #[] 58) = D2 at *
              have HNE := Lib.hid (show z0 ≠ z1 by have := HABx.out; omega)
              clear hz0
              have HA := Lib.hid (HA.out.mono HZ0)
              try simp only [Act.put, List.setIfInBounds_toArray, List.set_cons_zero, List.set_cons_succ]
              refine reg_one 4 rfl (by kernel_rfl) (by kernel_rfl) ?_
              refine wp_append_ps _ _ (by rfl) W0 HT2.out _ [] (by rfl) HA.out _ ((([] : List (Int × Int)).take 0)) (by rfl) (HPt.out _ HT2.out) (by have := HML.out; simp only [List.length_append, List.length_take, List.length_drop, List.length_cons, List.length_nil]; omega) ?_
              intro v4 D3 ho4 hs4 hg4
              have HC := Lib.hid ho4
              have HT3 := Lib.hid hs4
              have HB := Lib.hid (HB.out.mod (grown_mod hg4 z0 (.inr rfl)) (by simp only [Value.ownBlock]; intro e; have e := Option.some.inj e; have := HNE.out; omega))
              clear ho4 hs4 hg4
              refine ⟨HT3.out, ?_⟩
              try simp only [Act.put, List.setIfInBounds_toArray, List.set_cons_zero, List.set_cons_succ]
              refine reg_one 7 rfl (by kernel_rfl) (by kernel_rfl) ?_
              refine wp_append_ps _ _ (by rfl) W0 HT3.out _ ((([] : List (Int × Int)).take 0)) (by rfl) HC.out _ [(pa, pb)] (by rfl) HB.out.ps (by have := HML.out; simp only [List.length_append, List.length_take, List.length_drop, List.length_cons, List.length_nil]; omega) ?_
              intro v7 D4 ho7 hs7 hg7
              have HE := Lib.hid ho7
              have HT4 := Lib.hid hs7
              clear ho7 hs7 hg7
              refine ⟨HT4.out, ?_⟩
              try simp only [Act.put, List.setIfInBounds_toArray, List.set_cons_zero, List.set_cons_succ]
              refine reg_one 11 rfl (by kernel_rfl) (by kernel_rfl) ?_
              refine wp_append_ps _ _ (by rfl) W0 HT4.out _ _ (by rfl) HE.out _ ((([] : List (Int × Int)).drop 0)) (by rfl) (HPd.out _ HT4.out) (by have := HML.out; simp only [List.length_append, List.length_take, List.length_drop, List.length_cons, List.length_nil]; omega) ?_
              intro v11 D5 ho11 hs11 hg11
              have HG := Lib.hid ho11
              have HT5 := Lib.hid hs11
              clear ho11 hs11 hg11
              refine ⟨HT5.out, ?_⟩
              try simp only [Act.put, List.setIfInBounds_toArray, List.set_cons_zero, List.set_cons_succ]
              refine reg_take (v := ?_) 12 (some 3) rfl rfl (by kernel_rfl) (fun _ _ _ h => h) (by kernel_rfl) (HT5.out) ?_ ?_
              rotate_left
              · (intro w' hw'; obtain ⟨e0, e1⟩ := HBX9.out w' hw'; go_simp; try with_reducible rfl)
              try simp only [Act.put, List.setIfInBounds_toArray, List.set_cons_zero, List.set_cons_succ]
              refine reg_done (by kernel_rfl) ?_
              go_wp2_with fail
              exact ⟨⟨k + 1, by omega, by go_num, by rw [HTK.out, HIN.out]; exact HG.out.mono (Nat.le_trans HS1.out.size HW.out.size), HS1.out.trans (HW.out.trans HT5.out)⟩, by simp [intOf]; omega⟩
          | some ad =>
            have hjc : (j : Int) ≤ (mc : Int) := by omega
            have hmc : (m.length : Int) ≤ (mc : Int) := by omega
            have hjm : (j : Int) ≤ (m.length : Int) := by omega
            obtain ⟨gb, go, gs⟩ := ad
            obtain rfl : gs = none := own_spot HO1.out
            have HPt : Hid (∀ u, Same W0 u → Ps u (.slice (some ⟨gb, go, none⟩) j mc) (m.take j)) := fun u hu => (HO1.out.ps.same (HW.out.trans hu)).take j hjN
            clear HBX HSI m3 hjl
            by_cases hcj : mc = j
            · subst hcj
              have hmj : m.length = mc := by omega
              simp only [hmj]
              have HPd : Hid (∀ u, Same W0 u → Ps u (.slice (some ⟨gb, go, none⟩) 0 0) (m.drop mc)) := fun u hu => by
                rw [List.drop_eq_nil_of_le (by omega)]
                exact Ps.empty _ _
              refine reg_start (fun w' => Same W0 w') (by kernel_rfl) ?_
              generalize hD : W0.drew = D0 at *
              have HT0 : Hid (Same W0 D0) := by rw [← hD]; exact (Same.refl W0).drew
              clear hD
              refine reg_take (v := ?_) 1 (some 41) rfl rfl (by kernel_rfl) (fun _ _ _ h => h) (by kernel_rfl) (HT0.out) ?_ ?_
              rotate_left
              · (intro w' hw'; obtain ⟨e0, e1⟩ := HBX9.out w' hw'; go_simp; try with_reducible rfl)
              try simp only [Act.put, List.setIfInBounds_toArray, List.set_cons_zero, List.set_cons_succ]
              refine reg_take (v := ?_) 2 (some 42) rfl rfl (by kernel_rfl) (fun _ _ _ h => h) (by kernel_rfl) (HT0.out) ?_ ?_
              rotate_left
              · (intro w' hw'; obtain ⟨e0, e1⟩ := HBX9.out w' hw'; go_simp; try with_reducible rfl)
              try simp only [Act.put, List.setIfInBounds_toArray, List.set_cons_zero, List.set_cons_succ]
              refine reg_take (v := ?_) 3 (some 43) rfl rfl (by kernel_rfl) (fun _ _ _ h => h) (by kernel_rfl) (HT0.out) ?_ ?_
              rotate_left
              · (intro w' hw'; obtain ⟨e0, e1⟩ := HBX9.out w' hw'; go_simp; try with_reducible rfl)
              try simp only [Act.put, List.setIfInBounds_toArray, List.set_cons_zero, List.set_cons_succ]
              refine reg_take (v := ?_) 5 (some 45) rfl rfl (by kernel_rfl) (fun _ _ _ h => h) (by kernel_rfl) (HT0.out) ?_ ?_
              rotate_left
              · (intro w' hw'; obtain ⟨e0, e1⟩ := HBX9.out w' hw'; go_simp; try with_reducible rfl)
              try simp only [Act.put, List.setIfInBounds_toArray, List.set_cons_zero, List.set_cons_succ]
              refine reg_take (v := ?_) 8 (some 48) rfl rfl (by kernel_rfl) (fun _ _ _ h => h) (by kernel_rfl) (HT0.out) ?_ ?_
              rotate_left
              · (intro w' hw'; obtain ⟨e0, e1⟩ := HBX9.out w' hw'; go_simp; try with_reducible rfl)
              try simp only [Act.put, List.setIfInBounds_toArray, List.set_cons_zero, List.set_cons_succ]
              refine reg_take (v := ?_) 9 (some 49) rfl rfl (by kernel_rfl) (fun _ _ _ h => h) (by kernel_rfl) (HT0.out) ?_ ?_
              rotate_left
              · (intro w' hw'; obtain ⟨e0, e1⟩ := HBX9.out w' hw'; go_simp; try with_reducible rfl)
              try simp only [Act.put, List.setIfInBounds_toArray, List.set_cons_zero, List.set_cons_succ]
              refine reg_take (v := ?_) 10 (some 50) rfl rfl (by kernel_rfl) (fun _ _ _ h => h) (by kernel_rfl) (HT0.out) ?_ ?_
              rotate_left
              · (intro w' hw'; obtain ⟨e0, e1⟩ := HBX9.out w' hw'; go_simp; try with_reducible rfl)
              try simp only [Act.put, List.setIfInBounds_toArray, List.set_cons_zero, List.set_cons_succ]
              refine reg_two 0 6 rfl rfl (by kernel_rfl) (by kernel_rfl) (by kernel_rfl) ?_ ?_
              · have HA := Lib.hid (OwnP.none D0)
                have HT1 := Lib.hid (HT0.out.trans (Same.alloc D0 (.cells #[] 58)))
                go_simp
                refine ⟨HT1.out, ?_⟩
                have HAB := Lib.hid (show D0.heap.size < (D0.alloc (.cells #[] 58)).heap.size from alloc_lt _ _)
                have HZ0 := HT0.out.size
                obtain ⟨z0, hz0⟩ : ∃ z0, D0.heap.size = z0 := ⟨_, rfl⟩
                rw [hz0] at HA HAB HZ0
                simp only [hz0]
                generalize D0.alloc (.cells #[] 58) = D1 at *
                clear hz0
                have HA := Lib.hid (HA.out.mono HZ0)
                try simp only [Act.put, List.setIfInBounds_toArray, List.set_cons_zero, List.set_cons_succ]
                refine reg_two 4 6 rfl rfl (by kernel_rfl) (by kernel_rfl) (by kernel_rfl) ?_ ?_
                · refine wp_append_ps _ _ (by rfl) W0 HT1.out _ [] (by rfl) HA.out _ (m.take mc) (by rfl) (HPt.out _ HT1.out) (by have := HML.out; simp only [List.length_append, List.length_take, List.length_drop, List.length_cons, List.length_nil]; omega) ?_
                  intro v4 D2 ho4 hs4 hg4
                  have HC := Lib.hid ho4
                  have HT2 := Lib.hid hs4
                  clear ho4 hs4 hg4
                  refine ⟨HT2.out, ?_⟩
                  try simp only [Act.put, List.setIfInBounds_toArray, List.set_cons_zero, List.set_cons_succ]
                  refine reg_one 6 rfl (by kernel_rfl) (by kernel_rfl) ?_
                  have HB := Lib.hid (OwnP.one D2 (pa, pb))
                  have HT3 := Lib.hid (HT2.out.trans (Same.alloc D2 (.cells #[.int .u32 pa, .int .i64 pb] 58)))
                  go_simp
                  refine ⟨HT3.out, ?_⟩
                  have HC := Lib.hid (HC.out.same (Same.alloc D2 (.cells #[.int .u32 pa, .int .i64 pb] 58)))
                  have HZ1 := HT2.out.size
                  obtain ⟨z1, hz1⟩ : ∃ z1, D2.heap.size = z1 := ⟨_, rfl⟩
                  try rw [hz1] at HB
                  simp only [hz1]
                  generalize D2.alloc (.cells #[.int .u32 pa, .int .i64 pb] 58) = D3 at *
                  try simp only [Act.put, List.setIfInBounds_toArray, List.set_cons_zero, List.set_cons_succ]
                  refine reg_one 7 rfl (by kernel_rfl) (by kernel_rfl) ?_
                  refine wp_append_ps _ _ (by rfl) W0 HT3.out _ (m.take mc) (by rfl) HC.out _ [(pa, pb)] (by rfl) HB.out.ps (by have := HML.out; simp only [List.length_append, List.length_take, List.length_drop, List.length_cons, List.length_nil]; omega) ?_
                  intro v7 D4 ho7 hs7 hg7
                  have HE := Lib.hid ho7
                  have HT4 := Lib.hid hs7
                  clear ho7 hs7 hg7
                  refine ⟨HT4.out, ?_⟩
                  try simp only [Act.put, List.setIfInBounds_toArray, List.set_cons_zero, List.set_cons_succ]
                  refine reg_one 11 rfl (by kernel_rfl) (by kernel_rfl) ?_
                  refine wp_append_ps _ _ (by rfl) W0 HT4.out _ _ (by rfl) HE.out _ (m.drop mc) (by rfl) (HPd.out _ HT4.out) (by have := HML.out; simp only [List.length_append, List.length_take, List.length_drop, List.length_cons, List.length_nil]; omega) ?_
                  intro v11 D5 ho11 hs11 hg11
                  have HG := Lib.hid ho11
                  have HT5 := Lib.hid hs11
                  clear ho11 hs11 hg11
                  refine ⟨HT5.out, ?_⟩
                  try simp only [Act.put, List.setIfInBounds_toArray, List.set_cons_zero, List.set_cons_succ]
                  refine reg_take (v := ?_) 12 (some 3) rfl rfl (by kernel_rfl) (fun _ _ _ h => h) (by kernel_rfl) (HT5.out) ?_ ?_
                  rotate_left
                  · (intro w' hw'; obtain ⟨e0, e1⟩ := HBX9.out w' hw'; go_simp; try with_reducible rfl)
                  try simp only [Act.put, List.setIfInBounds_toArray, List.set_cons_zero, List.set_cons_succ]
                  refine reg_done (by kernel_rfl) ?_
                  go_wp2_with fail
                  exact ⟨⟨k + 1, by omega, by go_num, by rw [HTK.out, HIN.out]; exact HG.out.mono (Nat.le_trans HS1.out.size HW.out.size), HS1.out.trans (HW.out.trans HT5.out)⟩, by simp [intOf]; omega⟩
                · have HB := Lib.hid (OwnP.one D1 (pa, pb))
                  have HT2 := Lib.hid (HT1.out.trans (Same.alloc D1 (.cells #[.int .u32 pa, .int .i64 pb] 58)))
                  go_simp
                  refine ⟨HT2.out, ?_⟩
                  have HA := Lib.hid (HA.out.same (Same.alloc D1 (.cells #[.int .u32 pa, .int .i64 pb] 58)))
                  have HZ1 := HT1.out.size
                  obtain ⟨z1, hz1⟩ : ∃ z1, D1.heap.size = z1 := ⟨_, rfl⟩
                  try rw [hz1] at HB
                  simp only [hz1]
                  generalize D1.alloc (.cells #[.int .u32 pa, .int .i64 pb] 58) = D2 at *
                  have HNE := Lib.hid (show z0 ≠ z1 by have := HAB.out; omega)
                  try simp only [Act.put, List.setIfInBounds_toArray, List.set_cons_zero, List.set_cons_succ]
                  refine reg_one 4 rfl (by kernel_rfl) (by kernel_rfl) ?_
                  refine wp_append_ps _ _ (by rfl) W0 HT2.out _ [] (by rfl) HA.out _ (m.take mc) (by rfl) (HPt.out _ HT2.out) (by have := HML.out; simp only [List.length_append, List.length_take, List.length_drop, List.length_cons, List.length_nil]; omega) ?_
                  intro v4 D3 ho4 hs4 hg4
                  have HC := Lib.hid ho4
                  have HT3 := Lib.hid hs4
                  have HB := Lib.hid (HB.out.mod (grown_mod hg4 z0 (.inr rfl)) (by simp only [Value.ownBlock]; intro e; have e := Option.some.inj e; have := HNE.out; omega))
                  clear ho4 hs4 hg4
                  refine ⟨HT3.out, ?_⟩
                  try simp only [Act.put, List.setIfInBounds_toArray, List.set_cons_zero, List.set_cons_succ]
                  refine reg_one 7 rfl (by kernel_rfl) (by kernel_rfl) ?_
                  refine wp_append_ps _ _ (by rfl) W0 HT3.out _ (m.take mc) (by rfl) HC.out _ [(pa, pb)] (by rfl) HB.out.ps (by have := HML.out; simp only [List.length_append, List.length_take, List.length_drop, List.length_cons, List.length_nil]; omega) ?_
                  intro v7 D4 ho7 hs7 hg7
                  have HE := Lib.hid ho7
                  have HT4 := Lib.hid hs7
                  clear ho7 hs7 hg7
                  refine ⟨HT4.out, ?_⟩
                  try simp only [Act.put, List.setIfInBounds_toArray, List.set_cons_zero, List.set_cons_succ]
                  refine reg_one 11 rfl (by kernel_rfl) (by kernel_rfl) ?_
                  refine wp_append_ps _ _ (by rfl) W0 HT4.out _ _ (by rfl) HE.out _ (m.drop mc) (by rfl) (HPd.out _ HT4.out) (by have := HML.out; simp only [List.length_append, List.length_take, List.length_drop, List.length_cons, List.length_nil]; omega) ?_
                  intro v11 D5 ho11 hs11 hg11
                  have HG := Lib.hid ho11
                  have HT5 := Lib.hid hs11
                  clear ho11 hs11 hg11
                  refine ⟨HT5.out, ?_⟩
                  try simp only [Act.put, List.setIfInBounds_toArray, List.set_cons_zero, List.set_cons_succ]
                  refine reg_take (v := ?_) 12 (some 3) rfl rfl (by kernel_rfl) (fun _ _ _ h => h) (by kernel_rfl) (HT5.out) ?_ ?_
                  rotate_left
                  · (intro w' hw'; obtain ⟨e0, e1⟩ := HBX9.out w' hw'; go_simp; try with_reducible rfl)
                  try simp only [Act.put, List.setIfInBounds_toArray, List.set_cons_zero, List.set_cons_succ]
                  refine reg_done (by kernel_rfl) ?_
                  go_wp2_with fail
                  exact ⟨⟨k + 1, by omega, by go_num, by rw [HTK.out, HIN.out]; exact HG.out.mono (Nat.le_trans HS1.out.size HW.out.size), HS1.out.trans (HW.out.trans HT5.out)⟩, by simp [intOf]; omega⟩
              · have HB := Lib.hid (OwnP.one D0 (pa, pb))
                have HT1 := Lib.hid (HT0.out.trans (Same.alloc D0 (.cells #[.int .u32 pa, .int .i64 pb] 58)))
                go_simp
                refine ⟨HT1.out, ?_⟩
                have HABx := Lib.hid (show D0.heap.size < (D0.alloc (.cells #[.int .u32 pa, .int .i64 pb] 58)).heap.size from alloc_lt _ _)
                have HZ1 := HT0.out.size
                obtain ⟨z1, hz1⟩ : ∃ z1, D0.heap.size = z1 := ⟨_, rfl⟩
                try rw [hz1] at HB
                simp only [hz1]
                generalize D0.alloc (.cells #[.int .u32 pa, .int .i64 pb] 58) = D1 at *
                try simp only [Act.put, List.setIfInBounds_toArray, List.set_cons_zero, List.set_cons_succ]
                refine reg_one 0 rfl (by kernel_rfl) (by kernel_rfl) ?_
                have HA := Lib.hid (OwnP.none D1)
                have HT2 := Lib.hid (HT1.out.trans (Same.alloc D1 (.cells #[] 58)))
                go_simp
                refine ⟨HT2.out, ?_⟩
                have HAB := Lib.hid (show D1.heap.size < (D1.alloc (.cells #[] 58)).heap.size from alloc_lt _ _)
                have HB := Lib.hid (HB.out.same (Same.alloc D1 (.cells #[] 58)))
                have HZ0 := HT1.out.size
                obtain ⟨z0, hz0⟩ : ∃ z0, D1.heap.size = z0 := ⟨_, rfl⟩
                rw [hz0] at HA HAB HZ0
                simp only [hz0]
                generalize D1.alloc (.cells #[] 58) = D2 at *
                have HNE := Lib.hid (show z0 ≠ z1 by have := HABx.out; omega)
                clear hz0
                have HA := Lib.hid (HA.out.mono HZ0)
                try simp only [Act.put, List.setIfInBounds_toArray, List.set_cons_zero, List.set_cons_succ]
                refine reg_one 4 rfl (by kernel_rfl) (by kernel_rfl) ?_
                refine wp_append_ps _ _ (by rfl) W0 HT2.out _ [] (by rfl) HA.out _ (m.take mc) (by rfl) (HPt.out _ HT2.out) (by have := HML.out; simp only [List.length_append, List.length_take, List.length_drop, List.length_cons, List.length_nil]; omega) ?_
                intro v4 D3 ho4 hs4 hg4
                have HC := Lib.hid ho4
                have HT3 := Lib.hid hs4
                have HB := Lib.hid (HB.out.mod (grown_mod hg4 z0 (.inr rfl)) (by simp only [Value.ownBlock]; intro e; have e := Option.some.inj e; have := HNE.out; omega))
                clear ho4 hs4 hg4
                refine ⟨HT3.out, ?_⟩
                try simp only [Act.put, List.setIfInBounds_toArray, List.set_cons_zero, List.set_cons_succ]
                refine reg_one 7 rfl (by kernel_rfl) (by kernel_rfl) ?_
                refine wp_append_ps _ _ (by rfl) W0 HT3.out _ (m.take mc) (by rfl) HC.out _ [(pa, pb)] (by rfl) HB.out.ps (by have := HML.out; simp only [List.length_append, List.length_take, List.length_drop, List.length_cons, List.length_nil]; omega) ?_
                intro v7 D4 ho7 hs7 hg7
                have HE := Lib.hid ho7
                have HT4 := Lib.hid hs7
                clear ho7 hs7 hg7
                refine ⟨HT4.out, ?_⟩
                try simp only [Act.put, List.setIfInBounds_toArray, List.set_cons_zero, List.set_cons_succ]
                refine reg_one 11 rfl (by kernel_rfl) (by kernel_rfl) ?_
                refine wp_append_ps _ _ (by rfl) W0 HT4.out _ _ (by rfl) HE.out _ (m.drop mc) (by rfl) (HPd.out _ HT4.out) (by have := HML.out; simp only [List.length_append, List.length_take, List.length_drop, List.length_cons, List.length_nil]; omega) ?_
                intro v11 D5 ho11 hs11 hg11
                have HG := Lib.hid ho11
                have HT5 := Lib.hid hs11
                clear ho11 hs11 hg11
                refine ⟨HT5.out, ?_⟩
                try simp only [Act.put, List.setIfInBounds_toArray, List.set_cons_zero, List.set_cons_succ]
                refine reg_take (v := ?_) 12 (some 3) rfl rfl (by kernel_rfl) (fun _ _ _ h => h) (by kernel_rfl) (HT5.out) ?_ ?_
                rotate_left
                · (intro w' hw'; obtain ⟨e0, e1⟩ := HBX9.out w' hw'; go_simp; try with_reducible rfl)
                try simp only [Act.put, List.setIfInBounds_toArray, List.set_cons_zero, List.set_cons_succ]
                refine reg_done (by kernel_rfl) ?_
                go_wp2_with fail
                exact ⟨⟨k + 1, by omega, by go_num, by rw [HTK.out, HIN.out]; exact HG.out.mono (Nat.le_trans HS1.out.size HW.out.size), HS1.out.trans (HW.out.trans HT5.out)⟩, by simp [intOf]; omega⟩
            · have HPd : Hid (∀ u, Same W0 u → Ps u (.slice (some ⟨gb, go + j * 2, none⟩) (m.length - j) (mc - j)) (m.drop j)) := fun u hu => (HO1.out.ps.same (HW.out.trans hu)).drop' j hjN
              refine reg_start (fun w' => Same W0 w') (by kernel_rfl) ?_
              generalize hD : W0.drew = D0 at *
              have HT0 : Hid (Same W0 D0) := by rw [← hD]; exact (Same.refl W0).drew
              clear hD
              refine reg_take (v := ?_) 1 (some 41) rfl rfl (by kernel_rfl) (fun _ _ _ h => h) (by kernel_rfl) (HT0.out) ?_ ?_
              rotate_left
              · (intro w' hw'; obtain ⟨e0, e1⟩ := HBX9.out w' hw'; go_simp; try with_reducible rfl)
              try simp only [Act.put, List.setIfInBounds_toArray, List.set_cons_zero, List.set_cons_succ]
              refine reg_take (v := ?_) 2 (some 42) rfl rfl (by kernel_rfl) (fun _ _ _ h => h) (by kernel_rfl) (HT0.out) ?_ ?_
              rotate_left
              · (intro w' hw'; obtain ⟨e0, e1⟩ := HBX9.out w' hw'; go_simp; try with_reducible rfl)
              try simp only [Act.put, List.setIfInBounds_toArray, List.set_cons_zero, List.set_cons_succ]
              refine reg_take (v := ?_) 3 (some 43) rfl rfl (by kernel_rfl) (fun _ _ _ h => h) (by kernel_rfl) (HT0.out) ?_ ?_
              rotate_left
              · (intro w' hw'; obtain ⟨e0, e1⟩ := HBX9.out w' hw'; go_simp; try with_reducible rfl)
              try simp only [Act.put, List.setIfInBounds_toArray, List.set_cons_zero, List.set_cons_succ]
              refine reg_take (v := ?_) 5 (some 45) rfl rfl (by kernel_rfl) (fun _ _ _ h => h) (by kernel_rfl) (HT0.out) ?_ ?_
              rotate_left
              · (intro w' hw'; obtain ⟨e0, e1⟩ := HBX9.out w' hw'; go_simp; try with_reducible rfl)
              try simp only [Act.put, List.setIfInBounds_toArray, List.set_cons_zero, List.set_cons_succ]
              refine reg_take (v := ?_) 8 (some 48) rfl rfl (by kernel_rfl) (fun _ _ _ h => h) (by kernel_rfl) (HT0.out) ?_ ?_
              rotate_left
              · (intro w' hw'; obtain ⟨e0, e1⟩ := HBX9.out w' hw'; go_simp; try with_reducible rfl)
              try simp only [Act.put, List.setIfInBounds_toArray, List.set_cons_zero, List.set_cons_succ]
              refine reg_take (v := ?_) 9 (some 49) rfl rfl (by kernel_rfl) (fun _ _ _ h => h) (by kernel_rfl) (HT0.out) ?_ ?_
              rotate_left
              · (intro w' hw'; obtain ⟨e0, e1⟩ := HBX9.out w' hw'; go_simp; try with_reducible rfl)
              try simp only [Act.put, List.setIfInBounds_toArray, List.set_cons_zero, List.set_cons_succ]
              refine reg_take (v := ?_) 10 (some 50) rfl rfl (by kernel_rfl) (fun _ _ _ h => h) (by kernel_rfl) (HT0.out) ?_ ?_
              rotate_left
              · (intro w' hw'; obtain ⟨e0, e1⟩ := HBX9.out w' hw'; go_simp; try with_reducible rfl)
              try simp only [Act.put, List.setIfInBounds_toArray, List.set_cons_zero, List.set_cons_succ]
              refine reg_two 0 6 rfl rfl (by kernel_rfl) (by kernel_rfl) (by kernel_rfl) ?_ ?_
              · have HA := Lib.hid (OwnP.none D0)
                have HT1 := Lib.hid (HT0.out.trans (Same.alloc D0 (.cells #[] 58)))
                go_simp
                refine ⟨HT1.out, ?_⟩
                have HAB := Lib.hid (show D0.heap.size < (D0.alloc (.cells #[] 58)).heap.size from alloc_lt _ _)
                have HZ0 := HT0.out.size
                obtain ⟨z0, hz0⟩ : ∃ z0, D0.heap.size = z0 := ⟨_, rfl⟩
                rw [hz0] at HA HAB HZ0
                simp only [hz0]
                generalize D0.alloc (.cells #[] 58) = D1 at *
                clear hz0
                have HA := Lib.hid (HA.out.mono HZ0)
                try simp only [Act.put, List.setIfInBounds_toArray, List.set_cons_zero, List.set_cons_succ]
                refine reg_two 4 6 rfl rfl (by kernel_rfl) (by kernel_rfl) (by kernel_rfl) ?_ ?_
                · refine wp_append_ps _ _ (by rfl) W0 HT1.out _ [] (by rfl) HA.out _ (m.take j) (by rfl) (HPt.out _ HT1.out) (by have := HML.out; simp only [List.length_append, List.length_take, List.length_drop, List.length_cons, List.length_nil]; omega) ?_
                  intro v4 D2 ho4 hs4 hg4
                  have HC := Lib.hid ho4
                  have HT2 := Lib.hid hs4
                  clear ho4 hs4 hg4
                  refine ⟨HT2.out, ?_⟩
                  try simp only [Act.put, List.setIfInBounds_toArray, List.set_cons_zero, List.set_cons_succ]
                  refine reg_one 6 rfl (by kernel_rfl) (by kernel_rfl) ?_
                  have HB := Lib.hid (OwnP.one D2 (pa, pb))
                  have HT3 := Lib.hid (HT2.out.trans (Same.alloc D2 (.cells #[.int .u32 pa, .int .i64 pb] 58)))
                  go_simp
                  refine ⟨HT3.out, ?_⟩
                  have HC := Lib.hid (HC.out.same (Same.alloc D2 (.cells #[.int .u32 pa, .int .i64 pb] 58)))
                  have HZ1 := HT2.out.size
                  obtain ⟨z1, hz1⟩ : ∃ z1, D2.heap.size = z1 := ⟨_, rfl⟩
                  try rw [hz1] at HB
                  simp only [hz1]
                  generalize D2.alloc (.cells #[.int .u32 pa, .int .i64 pb] 58) = D3 at *
                  try simp only [Act.put, List.setIfInBounds_toArray, List.set_cons_zero, List.set_cons_succ]
                  refine reg_one 7 rfl (by kernel_rfl) (by kernel_rfl) ?_
                  refine wp_append_ps _ _ (by rfl) W0 HT3.out _ (m.take j) (by rfl) HC.out _ [(pa, pb)] (by rfl) HB.out.ps (by have := HML.out; simp only [List.length_append, List.length_take, List.length_drop, List.length_cons, List.length_nil]; omega) ?_
                  intro v7 D4 ho7 hs7 hg7
                  have HE := Lib.hid ho7
                  have HT4 := Lib.hid hs7
                  clear ho7 hs7 hg7
                  refine ⟨HT4.out, ?_⟩
                  try simp only [Act.put, List.setIfInBounds_toArray, List.set_cons_zero, List.set_cons_succ]
                  refine reg_one 11 rfl (by kernel_rfl) (by kernel_rfl) ?_
                  refine wp_append_ps _ _ (by rfl) W0 HT4.out _ _ (by rfl) HE.out _ (m.drop j) (by rfl) (HPd.out _ HT4.out) (by have := HML.out; simp only [List.length_append, List.length_take, List.length_drop, List.length_cons, List.length_nil]; omega) ?_
                  intro v11 D5 ho11 hs11 hg11
                  have HG := Lib.hid ho11
                  have HT5 := Lib.hid hs11
                  clear ho11 hs11 hg11
                  refine ⟨HT5.out, ?_⟩
                  try simp only [Act.put, List.setIfInBounds_toArray, List.set_cons_zero, List.set_cons_succ]
                  refine reg_take (v := ?_) 12 (some 3) rfl rfl (by kernel_rfl) (fun _ _ _ h => h) (by kernel_rfl) (HT5.out) ?_ ?_
                  rotate_left
                  · (intro w' hw'; obtain ⟨e0, e1⟩ := HBX9.out w' hw'; go_simp; try with_reducible rfl)
                  try simp only [Act.put, List.setIfInBounds_toArray, List.set_cons_zero, List.set_cons_succ]
                  refine reg_done (by kernel_rfl) ?_
                  go_wp2_with fail
                  exact ⟨⟨k + 1, by omega, by go_num, by rw [HTK.out, HIN.out]; exact HG.out.mono (Nat.le_trans HS1.out.size HW.out.size), HS1.out.trans (HW.out.trans HT5.out)⟩, by simp [intOf]; omega⟩
                · have HB := Lib.hid (OwnP.one D1 (pa, pb))
                  have HT2 := Lib.hid (HT1.out.trans (Same.alloc D1 (.cells #[.int .u32 pa, .int .i64 pb] 58)))
                  go_simp
                  refine ⟨HT2.out, ?_⟩
                  have HA := Lib.hid (HA.out.same (Same.alloc D1 (.cells #[.int .u32 pa, .int .i64 pb] 58)))
                  have HZ1 := HT1.out.size
                  obtain ⟨z1, hz1⟩ : ∃ z1, D1.heap.size = z1 := ⟨_, rfl⟩
                  try rw [hz1] at HB
                  simp only [hz1]
                  generalize D1.alloc (.cells #[.int .u32 pa, .int .i64 pb] 58) = D2 at *
                  have HNE := Lib.hid (show z0 ≠ z1 by have := HAB.out; omega)
                  try simp only [Act.put, List.setIfInBounds_toArray, List.set_cons_zero, List.set_cons_succ]
                  refine reg_one 4 rfl (by kernel_rfl) (by kernel_rfl) ?_
                  refine wp_append_ps _ _ (by rfl) W0 HT2.out _ [] (by rfl) HA.out _ (m.take j) (by rfl) (HPt.out _ HT2.out) (by have := HML.out; simp only [List.length_append, List.length_take, List.length_drop, List.length_cons, List.length_nil]; omega) ?_
                  intro v4 D3 ho4 hs4 hg4
                  have HC := Lib.hid ho4
                  have HT3 := Lib.hid hs4
                  have HB := Lib.hid (HB.out.mod (grown_mod hg4 z0 (.inr rfl)) (by simp only [Value.ownBlock]; intro e; have e := Option.some.inj e; have := HNE.out; omega))
                  clear ho4 hs4 hg4
                  refine ⟨HT3.out, ?_⟩
                  try simp only [Act.put, List.setIfInBounds_toArray, List.set_cons_zero, List.set_cons_succ]
                  refine reg_one 7 rfl (by kernel_rfl) (by kernel_rfl) ?_
                  refine wp_append_ps _ _ (by rfl) W0 HT3.out _ (m.take j) (by rfl) HC.out _ [(pa, pb)] (by rfl) HB.out.ps (by have := HML.out; simp only [List.length_append, List.length_take, List.length_drop, List.length_cons, List.length_nil]; omega) ?_
                  intro v7 D4 ho7 hs7 hg7
                  have HE := Lib.hid ho7
                  have HT4 := Lib.hid hs7
                  clear ho7 hs7 hg7
                  refine ⟨HT4.out, ?_⟩
                  try simp only [Act.put, List.setIfInBounds_toArray, List.set_cons_zero, List.set_cons_succ]
                  refine reg_one 11 rfl (by kernel_rfl) (by kernel_rfl) ?_
                  refine wp_append_ps _ _ (by rfl) W0 HT4.out _ _ (by rfl) HE.out _ (m.drop j) (by rfl) (HPd.out _ HT4.out) (by have := HML.out; simp only [List.length_append, List.length_take, List.length_drop, List.length_cons, List.length_nil]; omega) ?_
                  intro v11 D5 ho11 hs11 hg11
                  have HG := Lib.hid ho11
                  have HT5 := Lib.hid hs11
                  clear ho11 hs11 hg11
                  refine ⟨HT5.out, ?_⟩
                  try simp only [Act.put, List.setIfInBounds_toArray, List.set_cons_zero, List.set_cons_succ]
                  refine reg_take (v := ?_) 12 (some 3) rfl rfl (by kernel_rfl) (fun _ _ _ h => h) (by kernel_rfl) (HT5.out) ?_ ?_
                  rotate_left
                  · (intro w' hw'; obtain ⟨e0, e1⟩ := HBX9.out w' hw'; go_simp; try with_reducible rfl)
                  try simp only [Act.put, List.setIfInBounds_toArray, List.set_cons_zero, List.set_cons_succ]
                  refine reg_done (by kernel_rfl) ?_
                  go_wp2_with fail
                  exact ⟨⟨k + 1, by omega, by go_num, by rw [HTK.out, HIN.out]; exact HG.out.mono (Nat.le_trans HS1.out.size HW.out.size), HS1.out.trans (HW.out.trans HT5.out)⟩, by simp [intOf]; omega⟩
              · have HB := Lib.hid (OwnP.one D0 (pa, pb))
                have HT1 := Lib.hid (HT0.out.trans (Same.alloc D0 (.cells #[.int .u32 pa, .int .i64 pb] 58)))
                go_simp
                refine ⟨HT1.out, ?_⟩
                have HABx := Lib.hid (show D0.heap.size < (D0.alloc (.cells #[.int .u32 pa, .int .i64 pb] 58)).heap.size from alloc_lt _ _)
                have HZ1 := HT0.out.size
                obtain ⟨z1, hz1⟩ : ∃ z1, D0.heap.size = z1 := ⟨_, rfl⟩
                try rw [hz1] at HB
                simp only [hz1]
                generalize D0.alloc (.cells #[.int .u32 pa, .int .i64 pb] 58) = D1 at *
                try simp only [Act.put, List.setIfInBounds_toArray, List.set_cons_zero, List.set_cons_succ]
                refine reg_one 0 rfl (by kernel_rfl) (by kernel_rfl) ?_
                have HA := Lib.hid (OwnP.none D1)
                have HT2 := Lib.hid (HT1.out.trans (Same.alloc D1 (.cells #[] 58)))
                go_simp
                refine ⟨HT2.out, ?_⟩
                have HAB := Lib.hid (show D1.heap.size < (D1.alloc (.cells #[] 58)).heap.size from alloc_lt _ _)
                have HB := Lib.hid (HB.out.same (Same.alloc D1 (.cells #[] 58)))
                have HZ0 := HT1.out.size
                obtain ⟨z0, hz0⟩ : ∃ z0, D1.heap.size = z0 := ⟨_, rfl⟩
                rw [hz0] at HA HAB HZ0
                simp only [hz0]
                generalize D1.alloc (.cells #[] 58) = D2 at *
                have HNE := Lib.hid (show z0 ≠ z1 by have := HABx.out; omega)
                clear hz0
                have HA := Lib.hid (HA.out.mono HZ0)
                try simp only [Act.put, List.setIfInBounds_toArray, List.set_cons_zero, List.set_cons_succ]
                refine reg_one 4 rfl (by kernel_rfl) (by kernel_rfl) ?_
                refine wp_append_ps _ _ (by rfl) W0 HT2.out _ [] (by rfl) HA.out _ (m.take j) (by rfl) (HPt.out _ HT2.out) (by have := HML.out; simp only [List.length_append, List.length_take, List.length_drop, List.length_cons, List.length_nil]; omega) ?_
                intro v4 D3 ho4 hs4 hg4
                have HC := Lib.hid ho4
                have HT3 := Lib.hid hs4
                have HB := Lib.hid (HB.out.mod (grown_mod hg4 z0 (.inr rfl)) (by simp only [Value.ownBlock]; intro e; have e := Option.some.inj e; have := HNE.out; omega))
                clear ho4 hs4 hg4
                refine ⟨HT3.out, ?_⟩
                try simp only [Act.put, List.setIfInBounds_toArray, List.set_cons_zero, List.set_cons_succ]
                refine reg_one 7 rfl (by kernel_rfl) (by kernel_rfl) ?_
                refine wp_append_ps _ _ (by rfl) W0 HT3.out _ (m.take j) (by rfl) HC.out _ [(pa, pb)] (by rfl) HB.out.ps (by have := HML.out; simp only [List.length_append, List.length_take, List.length_drop, List.length_cons, List.length_nil]; omega) ?_
                intro v7 D4 ho7 hs7 hg7
                have HE := Lib.hid ho7
                have HT4 := Lib.hid hs7
                clear ho7 hs7 hg7
                refine ⟨HT4.out, ?_⟩
                try simp only [Act.put, List.setIfInBounds_toArray, List.set_cons_zero, List.set_cons_succ]
                refine reg_one 11 rfl (by kernel_rfl) (by kernel_rfl) ?_
                refine wp_append_ps _ _ (by rfl) W0 HT4.out _ _ (by rfl) HE.out _ (m.drop j) (by rfl) (HPd.out _ HT4.out) (by have := HML.out; simp only [List.length_append, List.length_take, List.length_drop, List.length_cons, List.length_nil]; omega) ?_
                intro v11 D5 ho11 hs11 hg11
                have HG := Lib.hid ho11
                have HT5 := Lib.hid hs11
                clear ho11 hs11 hg11
                refine ⟨HT5.out, ?_⟩
                try simp only [Act.put, List.setIfInBounds_toArray, List.set_cons_zero, List.set_cons_succ]
                refine reg_take (v := ?_) 12 (some 3) rfl rfl (by kernel_rfl) (fun _ _ _ h => h) (by kernel_rfl) (HT5.out) ?_ ?_
                rotate_left
                · (intro w' hw'; obtain ⟨e0, e1⟩ := HBX9.out w' hw'; go_simp; try with_reducible rfl)
                try simp only [Act.put, List.setIfInBounds_toArray, List.set_cons_zero, List.set_cons_succ]
                refine reg_done (by kernel_rfl) ?_
                go_wp2_with fail
                exact ⟨⟨k + 1, by omega, by go_num, by rw [HTK.out, HIN.out]; exact HG.out.mono (Nat.le_trans HS1.out.size HW.out.size), HS1.out.trans (HW.out.trans HT5.out)⟩, by simp [intOf]; omega⟩
    · have hlt' : ¬ (k : Int) < l.length := by omega
      obtain rfl : k = l.length := by omega
      rw [List.take_length] at HO
      go_wp2_with fail
      go_ret
      exact ⟨_, rfl, HO.out, HS.out⟩
end Go.Proofs.Ytldiagjnpkpepaa
