/- Contract of the document's own Parse of layer 7. No condition beyond what it names. -/
import Derived.Test.YtfhaaenmllkbnaaAtRT
namespace Go.Proofs.Ytfhaaenmllkbnaa
open Go.RowKit
set_option linter.unusedVariables false

/-- the cells of the types that were met -/
def metN (n : Nat) (seen : List Int) : Array Value := ((List.range n).map fun (i : Nat) => Value.bool (decide ((i : Int) ∈ seen))).toArray
def metC (seen : List Int) : Array Value := metN 256 seen
theorem metInfo : (Try.prog.info? 71).bind (fun i => i.zero) = some (.agg (metC [])) := by kernel_rfl
theorem zero_met (w : World) : (zeroValue 71).run Try.prog w = .ok (.agg (metC [])) w := by
  have h := metInfo
  cases hi : Try.prog.info? 71 with
  | none => rw [hi] at h; cases h
  | some i =>
    rw [hi] at h
    have hz : i.zero = some (.agg (metC [])) := h
    simp [zeroValue, typeInfo, hi, hz]
theorem metN_set (n : Nat) (seen : List Int) (t : Nat) : (metN n seen).setIfInBounds t (.bool true) = metN n ((t : Int) :: seen) := by
  unfold metN
  apply Array.ext'
  simp only [Array.toList_setIfInBounds]
  apply List.ext_getElem?
  intro i
  by_cases hi : t = i
  · subst hi
    by_cases h : t < n
    · simp [h]
    · simp [h]
  · by_cases h : i < n
    · have hne : ¬ (i : Int) = (t : Int) := by omega
      simp [hi, h, hne]
    · simp [h]
theorem metN_at (n : Nat) (seen : List Int) (t : Nat) (ht : t < n) : (metN n seen)[t]? = some (.bool (decide ((t : Int) ∈ seen))) := by
  unfold metN
  simp [ht]
abbrev metO (seen : List Int) : Obj := .cells (metC seen) 71
theorem met_at {w : World} {M : Nat} {seen : List Int} (hk : w.heap[M]? = some (metO seen)) (t : Nat) (ht : t < 256) : w.cell? ⟨M, t, none⟩ = some (.bool (decide ((t : Int) ∈ seen))) := by
  simp only [World.cell?, hk]
  exact metN_at 256 seen t ht
theorem met_set {w : World} {M : Nat} {seen : List Int} (hk : w.heap[M]? = some (metO seen)) (t : Nat) : (w.setCell ⟨M, t, none⟩ (.bool true)).heap[M]? = some (metO ((t : Int) :: seen)) := by
  have : (w.setCell ⟨M, t, none⟩ (.bool true)).heap[M]? = some (.cells ((metC seen).setIfInBounds t (.bool true)) 71 (0, 0)) := by
    simp [World.setCell, Array.getElem?_modify, hk]
  rw [this]
  exact congrArg (fun c => some (Obj.cells c 71 (0, 0))) (metN_set 256 seen t)

abbrev zeroAt (t : TypeId) : Obj := .cells #[.int .i64 0, .slice none 0 0, .int .u32 0, .int .i64 0, .bool false] t
theorem nofr {w : World} {R : Nat} {cs : Array Value} {t : TypeId} (hk : w.heap[R]? = some (.cells cs t (0, 0))) (j : Nat) : w.frozen? ⟨R, j, none⟩ = false := by
  simp [World.frozen?, hk]
theorem setRow_mod (s : Nat) (w : World) (cs : Array Value) : Mod s w (w.setRow s cs) := ⟨rfl, rfl, rfl, by simp [World.setRow], fun k _ hs => setRow_other w s k cs hs⟩
/-- a way out, two structs in the cells that the call made first -/
theorem two_end {t2 t3 : TypeId} {w u : World} (R2 R3 : Nat) (hne : R2 ≠ R3) (h2 : w.heap.size ≤ R2) (h3 : w.heap.size ≤ R3) (vs2 old2 vs3 old3 : List Value) (hs : Same w u)
    (hk2 : u.heap[R2]? = some (.cells old2.toArray t2 (0, 0))) (hk3 : u.heap[R3]? = some (.cells old3.toArray t3 (0, 0))) (hl2 : old2.length = vs2.length) (hl3 : old3.length = vs3.length) :
    (setsC R3 (setsC R2 u 0 vs2) 0 vs3).heap[R2]? = some (.cells vs2.toArray t2 (0, 0)) ∧ (setsC R3 (setsC R2 u 0 vs2) 0 vs3).heap[R3]? = some (.cells vs3.toArray t3 (0, 0)) ∧ Same w (setsC R3 (setsC R2 u 0 vs2) 0 vs3) ∧
      Kept [R2, R3] u (setsC R3 (setsC R2 u 0 vs2) 0 vs3) := by
  have q := sets_cells R2 t2 vs2 u [] old2 hk2 hl2
  have k3 : (setsC R2 u 0 vs2).heap[R3]? = some (.cells old3.toArray t3 (0, 0)) := (q.1.block R3 (Array.getElem?_eq_some_iff.1 hk3).1 (Ne.symm hne)).trans hk3
  have r := sets_cells R3 t3 vs3 (setsC R2 u 0 vs2) [] old3 k3 hl3
  have hK : Kept [R2, R3] u (setsC R3 (setsC R2 u 0 vs2) 0 vs3) := ((Kept.refl _ u).mod q.1 (.inl (by simp))).mod r.1 (.inl (by simp))
  refine ⟨(r.1.block R2 (Array.getElem?_eq_some_iff.1 q.2).1 hne).trans q.2, r.2, hK.to_same hs (fun s hs => ?_), hK⟩
  simp at hs
  rcases hs with rfl | rfl <;> assumption

/-- what Split's attributes are -/
theorem splitA_in : ∀ (f : Nat) (l : List UInt8) (a : Nat) (rs : List Rw), splitA f l a = some rs → ∀ r, r ∈ rs → (0 ≤ r.flags ∧ r.flags ≤ 255) ∧ (∃ t : Nat, r.type = t ∧ t < 256) ∧ r.value.length ≤ l.length
  | 0, l, a, rs, h, r, hr => by cases h; cases hr
  | f + 1, l, a, rs, h, r, hr => by
    rw [splitA] at h
    split at h
    · cases h; cases hr
    · split at h
      · cases h
      · rename_i r0 b hat
        obtain ⟨ys, hys, rfl⟩ := Option.map_eq_some_iff.1 h
        rcases List.mem_cons.1 hr with rfl | hr
        · unfold attrAt at hat
          split at hat
          · cases hat
          · split at hat
            · cases hat
            · cases hat
              have h1 := nmb_lt l a 1
              have h2 := nmb_lt l (a + 1) 1
              exact ⟨⟨by simp only; omega, by simp only; omega⟩, ⟨_, rfl, by omega⟩, by simp; omega⟩
        · exact splitA_in f l b ys hys r hr

set_option maxRecDepth 100000 in
set_option maxHeartbeats 4000000 in
theorem rParse7_any (v : Value) (l : List UInt8) (w : World) (hb : Bs w v l) (hl : (l.length : Int) ≤ 1000000) :
    Calls Try.prog 11 #[v] w fun e w' => ∃ va vd, e = .returned (.tuple #[atV (parseT l).1 va, ftV (parseT l).2 vd]) ∧ Rs intLay w' va (parseT l).1.path ∧ Bs w' vd (parseT l).2.data ∧ Same w w' := by
  have HB := Lib.hid hb
  have HSp := fun w hb => Lib.hid (rSplit_any v l w hb hl)
  have H2 := Lib.hid (Same.alloc w (zeroAt 38))
  have H3 := Lib.hid (Same.alloc (w.alloc (zeroAt 38)) (zeroFt 26))
  have HR2 : Hid (((w.alloc (zeroAt 38)).alloc (zeroFt 26)).heap[w.heap.size]? = some (zeroAt 38)) := H3.out.block (heap_alloc_new w _)
  have HR3 : Hid (((w.alloc (zeroAt 38)).alloc (zeroFt 26)).heap[w.heap.size + 1]? = some (zeroFt 26)) := by
    have := heap_alloc_new (w.alloc (zeroAt 38)) (zeroFt 26)
    rw [show (w.alloc (zeroAt 38)).heap.size = w.heap.size + 1 from by simp] at this
    exact this
  obtain ⟨P, hP⟩ : ∃ P, parseT l = P := ⟨_, rfl⟩
  rw [hP]
  obtain ⟨ao, cap, rfl, -, -, -, -⟩ := hb
  cases hsp : splitL l with
  | none =>
    have e1 : splitR l = [] := by unfold splitR; rw [hsp]; rfl
    have e2 : splitF l = ⟨3, 1, []⟩ := by unfold splitF; rw [hsp]; rfl
    have e3 : P = (zeroA, ⟨3, 1, []⟩) := by rw [← hP]; unfold parseT; rw [hsp]; rfl
    rw [e1, e2] at HSp
    have HPP := Lib.hid e3
    clear e1 e2 e3 hsp hP
    go_enter Try.func11, Try.ntmps11
    go_wp2_with fail
    refine (HSp _ (HB.out.same (H2.out.trans H3.out))).out.mono ?_
    rintro e W ⟨v1, vd, rfl, hr1, hd1, hs1⟩
    have HS1 := Lib.hid ((H2.out.trans H3.out).trans hs1)
    have HR2w := Lib.hid (hs1.block HR2.out)
    have HR3w := Lib.hid (hs1.block HR3.out)
    have HRW := Lib.hid hr1
    have HDW := Lib.hid hd1
    obtain ⟨ad, cd, rfl⟩ := hd1.form0 rfl
    have HZ3 : Hid (w.heap.size + 1 < W.heap.size) := (Array.getElem?_eq_some_iff.1 HR3w.out).1
    clear hr1 hd1 hs1 HR2 HR3 H2 H3
    simp only [List.length_nil]
    go_wp2_with fail
    have HA5 := Lib.hid (Same.alloc W (ftO 26 ⟨3, 1, []⟩ (.slice ad 0 cd)))
    have HK5 := Lib.hid (heap_alloc_new W (ftO 26 ⟨3, 1, []⟩ (.slice ad 0 cd)))
    have HR2d := Lib.hid (HA5.out.drew.block HR2w.out)
    have HR3d := Lib.hid (HA5.out.drew.block HR3w.out)
    have HSd := Lib.hid (HS1.out.trans HA5.out.drew)
    have HDd := Lib.hid (HDW.out.same HA5.out.drew)
    generalize hV : (W.alloc (ftO 26 ⟨3, 1, []⟩ (.slice ad 0 cd))) = V at *
    have HKd : Hid (V.drew.heap[W.heap.size]? = some (ftO 26 ⟨3, 1, []⟩ (.slice ad 0 cd))) := HK5.out
    have HN2 : Hid (w.heap.size ≠ W.heap.size) := by have := HZ3.out; show _ ≠ _; omega
    have HN3 : Hid (w.heap.size + 1 ≠ W.heap.size) := by have := HZ3.out; show _ ≠ _; omega
    refine reg_start (fun w' => w'.heap[W.heap.size]? = some (ftO 26 ⟨3, 1, []⟩ (.slice ad 0 cd))) (by kernel_rfl) ?_
    refine reg_take (v := ?_) 0 (some 20) rfl rfl (by kernel_rfl) (fun _ _ _ h => h) (by kernel_rfl) (HKd.out) ?_ ?_
    rotate_left
    · (intro w' hw'; obtain ⟨c0, c1, c2⟩ := FtAt.of hw'; go_simp; try with_reducible rfl)
    try simp only [Act.put, List.setIfInBounds_toArray, List.set_cons_zero, List.set_cons_succ]
    refine reg_take (v := ?_) 1 (some 21) rfl rfl (by kernel_rfl) (fun _ _ _ h => h) (by kernel_rfl) (HKd.out) ?_ ?_
    rotate_left
    · (intro w' hw'; obtain ⟨c0, c1, c2⟩ := FtAt.of hw'; go_simp; try with_reducible rfl)
    try simp only [Act.put, List.setIfInBounds_toArray, List.set_cons_zero, List.set_cons_succ]
    refine reg_one 2 rfl (by kernel_rfl) (by kernel_rfl) ?_
    refine wp_store_row 38 _ _ (by rfl) w.heap.size #[.int .i64 0, .slice none 0 0, .int .u32 0, .int .i64 0, .bool false] (by rfl) (by rfl) 38 _ HR2d.out (by kernel_rfl) (by rfl) (by simp [Value.oneCell']) ?_
    have hS2 := (setRow_other V.drew w.heap.size W.heap.size #[.int .i64 0, .slice none 0 0, .int .u32 0, .int .i64 0, .bool false] (Ne.symm HN2.out)).trans HKd.out
    have hR3 := (setRow_other V.drew w.heap.size (w.heap.size + 1) #[.int .i64 0, .slice none 0 0, .int .u32 0, .int .i64 0, .bool false] (by omega)).trans HR3d.out
    have hR2 := setRow_heap V.drew w.heap.size _ #[.int .i64 0, .slice none 0 0, .int .u32 0, .int .i64 0, .bool false] _ _ HR2d.out
    have hM2 := setRow_mod w.heap.size V.drew #[.int .i64 0, .slice none 0 0, .int .u32 0, .int .i64 0, .bool false]
    refine ⟨hS2, ?_⟩
    try simp only [Act.put]
    generalize V.drew.setRow w.heap.size _ = V2 at *
    refine reg_one 3 rfl (by kernel_rfl) (by kernel_rfl) ?_
    refine wp_store_row 26 _ _ (by rfl) (w.heap.size + 1) #[.int .i64 3, .int .i64 1, .slice ad 0 cd] (by rfl) (by rfl) 26 _ hR3 (by kernel_rfl) (by rfl) (by simp [Value.oneCell']) ?_
    have hS3 := (setRow_other V2 (w.heap.size + 1) W.heap.size #[.int .i64 3, .int .i64 1, .slice ad 0 cd] (Ne.symm HN3.out)).trans hS2
    have hR22 := (setRow_other V2 (w.heap.size + 1) w.heap.size #[.int .i64 3, .int .i64 1, .slice ad 0 cd] (by omega)).trans hR2
    have hR33 := setRow_heap V2 (w.heap.size + 1) _ #[.int .i64 3, .int .i64 1, .slice ad 0 cd] _ _ hR3
    have hM3 := setRow_mod (w.heap.size + 1) V2 #[.int .i64 3, .int .i64 1, .slice ad 0 cd]
    refine ⟨hS3, ?_⟩
    try simp only [Act.put]
    generalize V2.setRow (w.heap.size + 1) _ = V3 at *
    refine reg_done (by kernel_rfl) ?_
    have HKp : Kept [w.heap.size, w.heap.size + 1] V.drew V3 := ((Kept.refl _ _).mod hM2 (.inl (by simp))).mod hM3 (.inl (by simp))
    have hSw : Same w V3 := HKp.to_same HSd.out (fun s hs => by simp at hs; omega)
    clear hS2 hS3 hR3 hR2 hM2 hM3
    go_wp2_with fail
    obtain ⟨x0, x1, x2, x3, x4⟩ := AtAt.of (a := zeroA) (vp := .slice none 0 0) hR22
    obtain ⟨y0, y1, y2⟩ := FtAt.of (f := ⟨3, 1, []⟩) (vd := .slice ad 0 cd) hR33
    have hbd : Bs V3 (.slice ad 0 cd) [] := ⟨ad, cd, rfl, by simp, by obtain ⟨_, _, h, _, h2, _⟩ := HDd.out; cases h; exact h2, by obtain ⟨_, _, h, _, _, h2, _⟩ := HDd.out; cases h; exact h2, fun _ _ => ⟨fun h => absurd rfl h, fun j u hu => by simp at hu⟩⟩
    refine bodyPost_ret (v := .tuple #[atV zeroA (.slice none 0 0), ftV ⟨3, 1, []⟩ (.slice ad 0 cd)]) ?_ rfl ⟨_, _, by rw [HPP.out], by rw [HPP.out]; exact Rs.nil _ _, by rw [HPP.out]; exact hbd, hSw⟩
    simp [results, Try.results11, go_sem, x0, x1, x2, x3, x4, y0, y1, y2, zeroA]
  | some rs =>
    have e1 : splitR l = rs := by unfold splitR; rw [hsp]; rfl
    have e2 : splitF l = ⟨0, 0, []⟩ := by unfold splitF; rw [hsp]; rfl
    have e3 : parseR rs [] zeroA = P := by rw [← hP]; unfold parseT; rw [hsp]
    have HIN := Lib.hid (splitA_in l.length l 0 rs hsp)
    rw [e1, e2] at HSp
    have HPP := Lib.hid e3
    clear e1 e2 e3 hsp hP
    obtain ⟨n, hn⟩ : ∃ n, rs.length = n := ⟨_, rfl⟩
    have HN := Lib.hid hn
    go_enter Try.func11, Try.ntmps11
    go_wp2_with fail
    refine (HSp _ (HB.out.same (H2.out.trans H3.out))).out.mono ?_
    rintro e W ⟨v1, vd, rfl, hr1, hd1, hs1⟩
    have HS1 := Lib.hid ((H2.out.trans H3.out).trans hs1)
    have HR2w := Lib.hid (hs1.block HR2.out)
    have HR3w := Lib.hid (hs1.block HR3.out)
    have HRW := Lib.hid hr1
    have HDW := Lib.hid hd1
    obtain ⟨ad, cd, rfl⟩ := hd1.form0 rfl
    have HZ3 : Hid (w.heap.size + 1 < W.heap.size) := (Array.getElem?_eq_some_iff.1 HR3w.out).1
    clear hr1 hd1 hs1 HR2 HR3 H2 H3
    simp only [List.length_nil]
    obtain ⟨a1, c1, rfl⟩ := HRW.out.form hn
    have i0 := HRW.out.cap
    rw [hn] at i0
    have HAT : Hid (0 < n → ∃ b o cap, (Value.slice a1 n c1) = .slice (some ⟨b, o, none⟩) n cap ∧ ∀ j r, rs[j]? = some r → ∃ s : Sl, ∀ w', Same W w' → Bs w' (svV r s) r.value ∧ w'.cell? ⟨b, o + j * 3, none⟩ = some (.int .i64 r.flags) ∧ w'.cell? ⟨b, o + j * 3 + 1, none⟩ = some (.int .i64 r.type) ∧ w'.cell? ⟨b, o + j * 3 + 2, none⟩ = some (svV r s)) := fun h => by
      obtain ⟨b, o, cap, hv, _, _, hc⟩ := HRW.out.at (by omega)
      exact ⟨b, o, cap, by rw [hv, hn], hc⟩
    have hzm := fun w => zero_met w
    have HV1 := Lib.hid (Same.alloc W (ftO 26 ⟨0, 0, []⟩ (.slice ad 0 cd)))
    have HV2 := Lib.hid (Same.alloc (W.alloc (ftO 26 ⟨0, 0, []⟩ (.slice ad 0 cd))) (zeroAt 38))
    have HV3 := Lib.hid (Same.alloc ((W.alloc (ftO 26 ⟨0, 0, []⟩ (.slice ad 0 cd))).alloc (zeroAt 38)) (metO []))
    have HKA : Hid ((((W.alloc (ftO 26 ⟨0, 0, []⟩ (.slice ad 0 cd))).alloc (zeroAt 38)).alloc (metO [])).heap[W.heap.size + 1]? = some (zeroAt 38)) := by
      have := heap_alloc_new (W.alloc (ftO 26 ⟨0, 0, []⟩ (.slice ad 0 cd))) (zeroAt 38)
      rw [show (W.alloc (ftO 26 ⟨0, 0, []⟩ (.slice ad 0 cd))).heap.size = W.heap.size + 1 from by simp] at this
      exact HV3.out.block this
    have HKM : Hid ((((W.alloc (ftO 26 ⟨0, 0, []⟩ (.slice ad 0 cd))).alloc (zeroAt 38)).alloc (metO [])).heap[W.heap.size + 1 + 1]? = some (metO [])) := by
      have := heap_alloc_new ((W.alloc (ftO 26 ⟨0, 0, []⟩ (.slice ad 0 cd))).alloc (zeroAt 38)) (metO [])
      rw [show ((W.alloc (ftO 26 ⟨0, 0, []⟩ (.slice ad 0 cd))).alloc (zeroAt 38)).heap.size = W.heap.size + 1 + 1 from by simp] at this
      exact this
    have HSV := Lib.hid ((HV1.out.trans HV2.out).trans HV3.out)
    clear HRW hn
    go_wp2_with fail
    generalize hV : (((W.alloc (ftO 26 ⟨0, 0, []⟩ (.slice ad 0 cd))).alloc (zeroAt 38)).alloc (metO [])) = V at *
    have HVz : Hid (W.heap.size + 1 + 1 < V.heap.size) := (Array.getElem?_eq_some_iff.1 HKM.out).1
    clear hV HV1 HV2 HV3 hzm
    have HR2v := Lib.hid (HSV.out.block HR2w.out)
    have HR3v := Lib.hid (HSV.out.block HR3w.out)
    have HSwV := Lib.hid (HS1.out.trans HSV.out)
    go_loopw [24] (fun i wr => ∃ (k : Nat) (seen : List Int) (a : At) (vp : Value), k ≤ n ∧ i = .int .i64 k ∧ wr.heap[W.heap.size + 1]? = some (atO 38 a vp) ∧ Rs intLay wr vp a.path ∧
      (∀ g, vp.ownBlock = some g → V.heap.size ≤ g) ∧ wr.heap[W.heap.size + 1 + 1]? = some (metO seen) ∧ Kept [W.heap.size + 1, W.heap.size + 1 + 1] V wr ∧ parseR (rs.drop k) seen a = P) (fun i _ => n - (intOf i).toNat)
    case atStart => exact ⟨0, [], zeroA, .slice none 0 0, by omega, rfl, HKA.out, Rs.nil _ _, (fun g h => by cases h), HKM.out, Kept.refl _ _, HPP.out⟩
    case round =>
      obtain ⟨k, seen, a, vp, hk, rfl, hka, hpa, hvp, hkm, hkp, hpr⟩ := hrel
      have HKa := Lib.hid hka
      have HPa := Lib.hid hpa
      have HVp := Lib.hid hvp
      have HKm := Lib.hid hkm
      have HKp := Lib.hid hkp
      have HPr := Lib.hid hpr
      have HSr : Hid (Same V wr ∨ True) := .inr trivial
      clear hka hpa hvp hkm hkp hpr HSr
      have HSW2 : Hid (Same W wr) := HKp.out.to_same HSV.out (fun s hs => by simp at hs; omega)
      have HSW0 : Hid (Same w wr) := HS1.out.trans HSW2.out
      have HR2r := Lib.hid (HSW2.out.block HR2w.out)
      have HR3r := Lib.hid (HSW2.out.block HR3w.out)
      by_cases h8 : k = n
      · subst h8
        have hpr := HPr.out
        rw [List.drop_of_length_le (by have := HN.out; omega), parseR] at hpr
        have HPQ := Lib.hid hpr.symm
        have m1 := met_at HKm.out 1 (by decide)
        have m2 := met_at HKm.out 2 (by decide)
        have m3 := met_at HKm.out 3 (by decide)
        rw [show ((1 : Nat) : Int) = 1 from rfl] at m1
        rw [show ((2 : Nat) : Int) = 2 from rfl] at m2
        rw [show ((3 : Nat) : Int) = 3 from rfl] at m3
        obtain ⟨pa, pc, rfl⟩ := HPa.out.form rfl
        obtain ⟨q0, q1, q2, q3, q4⟩ := AtAt.of HKa.out
        clear hpr
        by_cases s1 : (1 : Int) ∈ seen
        · rw [decide_eq_true s1] at m1
          by_cases s2 : (2 : Int) ∈ seen
          · rw [decide_eq_true s2] at m2
            by_cases s3 : (3 : Int) ∈ seen
            · rw [decide_eq_true s3] at m3
              have hms : missT seen = none := by unfold missT; rw [if_neg (by simpa using s1), if_neg (by simpa using s2), if_neg (by simpa using s3)]
              have hpq := HPQ.out
              rw [hms] at hpq
              have HPQ2 := Lib.hid hpq
              clear hpq hms s1 s2 s3
              go_wp2_with fail
              refine wp_loop_rounds 6 ?_
              rw [rounds_succ]
              go_wp2_with fail
              rw [rounds_succ]
              go_wp2_with fail
              rw [rounds_succ]
              go_wp2_with fail
              rw [rounds_succ]
              have hE := two_end (t2 := 38) (t3 := 26) w.heap.size (w.heap.size + 1) (by omega) (Nat.le_refl _) (by omega) [.int .i64 (a.origin), .slice pa a.path.length pc, .int .u32 (a.hop), .int .i64 (a.med), .bool (a.has)] [.int .i64 0, .slice none 0 0, .int .u32 0, .int .i64 0, .bool false] [.int .i64 (0), .int .i64 (0), .slice none 0 0] [.int .i64 0, .int .i64 0, .slice none 0 0] HSW0.out HR2r.out HR3r.out rfl rfl
              have hQ := (sets_cells w.heap.size 38 [.int .i64 (a.origin), .slice pa a.path.length pc, .int .u32 (a.hop), .int .i64 (a.med), .bool (a.has)] wr [] [.int .i64 0, .slice none 0 0, .int .u32 0, .int .i64 0, .bool false] HR2r.out rfl).1
              dsimp only [setsC, Nat.reduceAdd, List.length_nil] at hE hQ
              obtain ⟨b0, b1, b2, b3, b4⟩ := AtAt.of (a := zeroA) (vp := .slice none 0 0) HR2r.out
              have hfz2 := nofr HR2r.out
              have hk3' := (hQ.block (w.heap.size + 1) (Array.getElem?_eq_some_iff.1 HR3r.out).1 (by omega)).trans HR3r.out
              obtain ⟨f0, f1, f2⟩ := FtAt.of (f := noFt) (vd := .slice none 0 0) hk3'
              have hfz3 := nofr hk3'
              have HE := Lib.hid hE
              clear hE hQ hk3'
              go_wp2_with fail
              have hE := HE.out
              generalize World.setCell _ ⟨w.heap.size + 1, 2, none⟩ _ = U at hE ⊢
              obtain ⟨x0, x1, x2, x3, x4⟩ := AtAt.of (a := ⟨a.origin, a.path, a.hop, a.med, a.has⟩) (vp := .slice pa a.path.length pc) hE.1
              obtain ⟨y0, y1, y2⟩ := FtAt.of (f := ⟨0, 0, []⟩) (vd := .slice none 0 0) hE.2.1
              refine bodyPost_ret (v := .tuple #[atV ⟨a.origin, a.path, a.hop, a.med, a.has⟩ (.slice pa a.path.length pc), ftV ⟨0, 0, []⟩ (.slice none 0 0)]) ?_ rfl ⟨_, _, by rw [HPQ2.out]; rfl, by rw [HPQ2.out]; exact (HPa.out.kept hE.2.2.2 (fun g hg => by have h1 := HVp.out g hg; have h2 := HVz.out; have h3 := HZ3.out; simp; omega)), by rw [HPQ2.out]; exact Bs.nil _, hE.2.2.1⟩
              simp [results, Try.results11, go_sem, x0, x1, x2, x3, x4, y0, y1, y2]
            · rw [decide_eq_false s3] at m3
              have hms : missT seen = some 3 := by unfold missT; rw [if_neg (by simpa using s1), if_neg (by simpa using s2), if_pos (by simpa using s3)]
              have hpq := HPQ.out
              rw [hms] at hpq
              have HPQ2 := Lib.hid hpq
              have HBt : Hid (Bs (wr.alloc (.cells #[.int .u8 3] 5)) (.slice (some ⟨wr.heap.size, 0, none⟩) 1 1) [byteAt 3 0]) := by
                have := Bs.one0 wr 3
                exact this
              clear hpq hms s3
              go_wp2_with fail
              refine wp_loop_rounds 6 ?_
              rw [rounds_succ]
              go_wp2_with fail
              rw [rounds_succ]
              go_wp2_with fail
              rw [rounds_succ]
              go_wp2_with fail
              refine (rFault_any 3 (some ⟨wr.heap.size, 0, none⟩) 1 1 _).mono ?_
              rintro e w10 ⟨rfl, hs10⟩
              have HSw := Lib.hid (HSW0.out.trans ((Same.alloc wr _).trans hs10))
              have HK22 := Lib.hid (((Same.alloc wr (.cells #[.int .u8 3] 5)).trans hs10).block HR2r.out)
              have HK33 := Lib.hid (((Same.alloc wr (.cells #[.int .u8 3] 5)).trans hs10).block HR3r.out)
              have HBu := Lib.hid (HBt.out.same hs10)
              clear hs10 m1 m2 m3 q0 q1 q2 q3 q4
              have hE := two_end (t2 := 38) (t3 := 26) w.heap.size (w.heap.size + 1) (by omega) (Nat.le_refl _) (by omega) [.int .i64 (0), .slice none 0 0, .int .u32 (0), .int .i64 (0), .bool (false)] [.int .i64 0, .slice none 0 0, .int .u32 0, .int .i64 0, .bool false] [.int .i64 (3), .int .i64 (3), .slice (some ⟨wr.heap.size, 0, none⟩) 1 1] [.int .i64 0, .int .i64 0, .slice none 0 0] HSw.out HK22.out HK33.out rfl rfl
              have hQ := (sets_cells w.heap.size 38 [.int .i64 (0), .slice none 0 0, .int .u32 (0), .int .i64 (0), .bool (false)] w10 [] [.int .i64 0, .slice none 0 0, .int .u32 0, .int .i64 0, .bool false] HK22.out rfl).1
              dsimp only [setsC, Nat.reduceAdd, List.length_nil] at hE hQ
              obtain ⟨b0, b1, b2, b3, b4⟩ := AtAt.of (a := zeroA) (vp := .slice none 0 0) HK22.out
              have hfz2 := nofr HK22.out
              have hk3' := (hQ.block (w.heap.size + 1) (Array.getElem?_eq_some_iff.1 HK33.out).1 (by omega)).trans HK33.out
              obtain ⟨f0, f1, f2⟩ := FtAt.of (f := noFt) (vd := .slice none 0 0) hk3'
              have hfz3 := nofr hk3'
              have HE := Lib.hid hE
              clear hE hQ hk3'
              go_wp2_with fail
              have hE := HE.out
              generalize World.setCell _ ⟨w.heap.size + 1, 2, none⟩ _ = U at hE ⊢
              obtain ⟨x0, x1, x2, x3, x4⟩ := AtAt.of (a := ⟨0, [], 0, 0, false⟩) (vp := .slice none 0 0) hE.1
              obtain ⟨y0, y1, y2⟩ := FtAt.of (f := ⟨3, 3, [byteAt 3 0]⟩) (vd := .slice (some ⟨wr.heap.size, 0, none⟩) 1 1) hE.2.1
              refine bodyPost_ret (v := .tuple #[atV ⟨0, [], 0, 0, false⟩ (.slice none 0 0), ftV ⟨3, 3, [byteAt 3 0]⟩ (.slice (some ⟨wr.heap.size, 0, none⟩) 1 1)]) ?_ rfl ⟨_, _, by rw [HPQ2.out]; rfl, by rw [HPQ2.out]; exact Rs.nil _ _, by rw [HPQ2.out]; exact (HBu.out.kept hE.2.2.2 (fun g hg => by have h2 := HSW2.out.size; have h3 := HZ3.out; cases hg; simp; omega)), hE.2.2.1⟩
              simp [results, Try.results11, go_sem, x0, x1, x2, x3, x4, y0, y1, y2]
          · rw [decide_eq_false s2] at m2
            have hms : missT seen = some 2 := by unfold missT; rw [if_neg (by simpa using s1), if_pos (by simpa using s2)]
            have hpq := HPQ.out
            rw [hms] at hpq
            have HPQ2 := Lib.hid hpq
            have HBt : Hid (Bs (wr.alloc (.cells #[.int .u8 2] 5)) (.slice (some ⟨wr.heap.size, 0, none⟩) 1 1) [byteAt 2 0]) := by
              have := Bs.one0 wr 2
              exact this
            clear hpq hms s2
            go_wp2_with fail
            refine wp_loop_rounds 6 ?_
            rw [rounds_succ]
            go_wp2_with fail
            rw [rounds_succ]
            go_wp2_with fail
            refine (rFault_any 3 (some ⟨wr.heap.size, 0, none⟩) 1 1 _).mono ?_
            rintro e w10 ⟨rfl, hs10⟩
            have HSw := Lib.hid (HSW0.out.trans ((Same.alloc wr _).trans hs10))
            have HK22 := Lib.hid (((Same.alloc wr (.cells #[.int .u8 2] 5)).trans hs10).block HR2r.out)
            have HK33 := Lib.hid (((Same.alloc wr (.cells #[.int .u8 2] 5)).trans hs10).block HR3r.out)
            have HBu := Lib.hid (HBt.out.same hs10)
            clear hs10 m1 m2 m3 q0 q1 q2 q3 q4
            have hE := two_end (t2 := 38) (t3 := 26) w.heap.size (w.heap.size + 1) (by omega) (Nat.le_refl _) (by omega) [.int .i64 (0), .slice none 0 0, .int .u32 (0), .int .i64 (0), .bool (false)] [.int .i64 0, .slice none 0 0, .int .u32 0, .int .i64 0, .bool false] [.int .i64 (3), .int .i64 (3), .slice (some ⟨wr.heap.size, 0, none⟩) 1 1] [.int .i64 0, .int .i64 0, .slice none 0 0] HSw.out HK22.out HK33.out rfl rfl
            have hQ := (sets_cells w.heap.size 38 [.int .i64 (0), .slice none 0 0, .int .u32 (0), .int .i64 (0), .bool (false)] w10 [] [.int .i64 0, .slice none 0 0, .int .u32 0, .int .i64 0, .bool false] HK22.out rfl).1
            dsimp only [setsC, Nat.reduceAdd, List.length_nil] at hE hQ
            obtain ⟨b0, b1, b2, b3, b4⟩ := AtAt.of (a := zeroA) (vp := .slice none 0 0) HK22.out
            have hfz2 := nofr HK22.out
            have hk3' := (hQ.block (w.heap.size + 1) (Array.getElem?_eq_some_iff.1 HK33.out).1 (by omega)).trans HK33.out
            obtain ⟨f0, f1, f2⟩ := FtAt.of (f := noFt) (vd := .slice none 0 0) hk3'
            have hfz3 := nofr hk3'
            have HE := Lib.hid hE
            clear hE hQ hk3'
            go_wp2_with fail
            have hE := HE.out
            generalize World.setCell _ ⟨w.heap.size + 1, 2, none⟩ _ = U at hE ⊢
            obtain ⟨x0, x1, x2, x3, x4⟩ := AtAt.of (a := ⟨0, [], 0, 0, false⟩) (vp := .slice none 0 0) hE.1
            obtain ⟨y0, y1, y2⟩ := FtAt.of (f := ⟨3, 3, [byteAt 2 0]⟩) (vd := .slice (some ⟨wr.heap.size, 0, none⟩) 1 1) hE.2.1
            refine bodyPost_ret (v := .tuple #[atV ⟨0, [], 0, 0, false⟩ (.slice none 0 0), ftV ⟨3, 3, [byteAt 2 0]⟩ (.slice (some ⟨wr.heap.size, 0, none⟩) 1 1)]) ?_ rfl ⟨_, _, by rw [HPQ2.out]; rfl, by rw [HPQ2.out]; exact Rs.nil _ _, by rw [HPQ2.out]; exact (HBu.out.kept hE.2.2.2 (fun g hg => by have h2 := HSW2.out.size; have h3 := HZ3.out; cases hg; simp; omega)), hE.2.2.1⟩
            simp [results, Try.results11, go_sem, x0, x1, x2, x3, x4, y0, y1, y2]
        · rw [decide_eq_false s1] at m1
          have hms : missT seen = some 1 := by unfold missT; rw [if_pos (by simpa using s1)]
          have hpq := HPQ.out
          rw [hms] at hpq
          have HPQ2 := Lib.hid hpq
          have HBt : Hid (Bs (wr.alloc (.cells #[.int .u8 1] 5)) (.slice (some ⟨wr.heap.size, 0, none⟩) 1 1) [byteAt 1 0]) := by
            have := Bs.one0 wr 1
            exact this
          clear hpq hms s1
          go_wp2_with fail
          refine wp_loop_rounds 6 ?_
          rw [rounds_succ]
          go_wp2_with fail
          refine (rFault_any 3 (some ⟨wr.heap.size, 0, none⟩) 1 1 _).mono ?_
          rintro e w10 ⟨rfl, hs10⟩
          have HSw := Lib.hid (HSW0.out.trans ((Same.alloc wr _).trans hs10))
          have HK22 := Lib.hid (((Same.alloc wr (.cells #[.int .u8 1] 5)).trans hs10).block HR2r.out)
          have HK33 := Lib.hid (((Same.alloc wr (.cells #[.int .u8 1] 5)).trans hs10).block HR3r.out)
          have HBu := Lib.hid (HBt.out.same hs10)
          clear hs10 m1 m2 m3 q0 q1 q2 q3 q4
          have hE := two_end (t2 := 38) (t3 := 26) w.heap.size (w.heap.size + 1) (by omega) (Nat.le_refl _) (by omega) [.int .i64 (0), .slice none 0 0, .int .u32 (0), .int .i64 (0), .bool (false)] [.int .i64 0, .slice none 0 0, .int .u32 0, .int .i64 0, .bool false] [.int .i64 (3), .int .i64 (3), .slice (some ⟨wr.heap.size, 0, none⟩) 1 1] [.int .i64 0, .int .i64 0, .slice none 0 0] HSw.out HK22.out HK33.out rfl rfl
          have hQ := (sets_cells w.heap.size 38 [.int .i64 (0), .slice none 0 0, .int .u32 (0), .int .i64 (0), .bool (false)] w10 [] [.int .i64 0, .slice none 0 0, .int .u32 0, .int .i64 0, .bool false] HK22.out rfl).1
          dsimp only [setsC, Nat.reduceAdd, List.length_nil] at hE hQ
          obtain ⟨b0, b1, b2, b3, b4⟩ := AtAt.of (a := zeroA) (vp := .slice none 0 0) HK22.out
          have hfz2 := nofr HK22.out
          have hk3' := (hQ.block (w.heap.size + 1) (Array.getElem?_eq_some_iff.1 HK33.out).1 (by omega)).trans HK33.out
          obtain ⟨f0, f1, f2⟩ := FtAt.of (f := noFt) (vd := .slice none 0 0) hk3'
          have hfz3 := nofr hk3'
          have HE := Lib.hid hE
          clear hE hQ hk3'
          go_wp2_with fail
          have hE := HE.out
          generalize World.setCell _ ⟨w.heap.size + 1, 2, none⟩ _ = U at hE ⊢
          obtain ⟨x0, x1, x2, x3, x4⟩ := AtAt.of (a := ⟨0, [], 0, 0, false⟩) (vp := .slice none 0 0) hE.1
          obtain ⟨y0, y1, y2⟩ := FtAt.of (f := ⟨3, 3, [byteAt 1 0]⟩) (vd := .slice (some ⟨wr.heap.size, 0, none⟩) 1 1) hE.2.1
          refine bodyPost_ret (v := .tuple #[atV ⟨0, [], 0, 0, false⟩ (.slice none 0 0), ftV ⟨3, 3, [byteAt 1 0]⟩ (.slice (some ⟨wr.heap.size, 0, none⟩) 1 1)]) ?_ rfl ⟨_, _, by rw [HPQ2.out]; rfl, by rw [HPQ2.out]; exact Rs.nil _ _, by rw [HPQ2.out]; exact (HBu.out.kept hE.2.2.2 (fun g hg => by have h2 := HSW2.out.size; have h3 := HZ3.out; cases hg; simp; omega)), hE.2.2.1⟩
          simp [results, Try.results11, go_sem, x0, x1, x2, x3, x4, y0, y1, y2]
      · have hk8 : (k : Int) < n := by omega
        have hkn : k < rs.length := by have := HN.out; omega
        obtain ⟨b, o1, cp, e1, HC1⟩ := HAT.out (by omega)
        cases e1
        obtain ⟨r, hr⟩ : ∃ r, rs[k]? = some r := ⟨_, List.getElem?_eq_getElem hkn⟩
        obtain ⟨sl, HC⟩ := HC1 k r hr
        obtain ⟨hfl, ⟨t, ht, ht2⟩, hvl⟩ := HIN.out r (List.mem_of_getElem? hr)
        have hdr : rs.drop k = r :: rs.drop (k + 1) := by rw [List.drop_eq_getElem_cons hkn]; rw [List.getElem?_eq_getElem hkn] at hr; cases hr; rfl
        obtain ⟨fl, ty, vl⟩ := r
        simp only at ht hfl hvl
        subst ht
        obtain ⟨so, sc⟩ := sl
        have HCC := Lib.hid HC
        obtain ⟨hbr, x0, x1, x2⟩ := HC wr HSW2.out
        simp only at x0 x1 x2 hbr
        have HBR := Lib.hid hbr
        have hpr := HPr.out
        rw [hdr, parseR] at hpr
        have HA9 := Lib.hid (Same.alloc wr (rwO 66 ⟨fl, t, vl⟩ (.slice so vl.length sc)))
        have hm9 := met_at (HA9.out.block HKm.out) t ht2
        clear hk8 hkn HC1 HC hdr hr hbr
        by_cases hseen : (t : Int) ∈ seen
        · rw [decide_eq_true hseen] at hm9
          rw [if_pos hseen] at hpr
          have HPQ := Lib.hid hpr.symm
          clear hpr hseen
          have ht3 : (t : Int) < 256 := by omega
          go_wp2_with fail
          refine (rFault_any 1 none 0 0 _).mono ?_
          rintro e w9 ⟨rfl, hs9⟩
          have HSw := Lib.hid (HSW0.out.trans (HA9.out.trans hs9))
          have HK2 := Lib.hid ((HA9.out.trans hs9).block HR2r.out)
          have HK3 := Lib.hid ((HA9.out.trans hs9).block HR3r.out)
          clear hs9 hm9 x0 x1 x2
          have hE := two_end (t2 := 38) (t3 := 26) w.heap.size (w.heap.size + 1) (by omega) (Nat.le_refl _) (by omega) [.int .i64 (0), .slice none 0 0, .int .u32 (0), .int .i64 (0), .bool (false)] [.int .i64 0, .slice none 0 0, .int .u32 0, .int .i64 0, .bool false] [.int .i64 (3), .int .i64 (1), .slice none 0 0] [.int .i64 0, .int .i64 0, .slice none 0 0] HSw.out HK2.out HK3.out rfl rfl
          have hQ := (sets_cells w.heap.size 38 [.int .i64 (0), .slice none 0 0, .int .u32 (0), .int .i64 (0), .bool (false)] w9 [] [.int .i64 0, .slice none 0 0, .int .u32 0, .int .i64 0, .bool false] HK2.out rfl).1
          dsimp only [setsC, Nat.reduceAdd, List.length_nil] at hE hQ
          obtain ⟨b0, b1, b2, b3, b4⟩ := AtAt.of (a := zeroA) (vp := .slice none 0 0) HK2.out
          have hfz2 := nofr HK2.out
          have hk3' := (hQ.block (w.heap.size + 1) (Array.getElem?_eq_some_iff.1 HK3.out).1 (by omega)).trans HK3.out
          obtain ⟨f0, f1, f2⟩ := FtAt.of (f := noFt) (vd := .slice none 0 0) hk3'
          have hfz3 := nofr hk3'
          have HE := Lib.hid hE
          clear hE hQ hk3'
          go_wp2_with fail
          have hE := HE.out
          generalize World.setCell _ ⟨w.heap.size + 1, 2, none⟩ _ = U at hE ⊢
          obtain ⟨x0, x1, x2, x3, x4⟩ := AtAt.of (a := ⟨0, [], 0, 0, false⟩) (vp := .slice none 0 0) hE.1
          obtain ⟨y0, y1, y2⟩ := FtAt.of (f := ⟨3, 1, []⟩) (vd := .slice none 0 0) hE.2.1
          refine bodyPost_ret (v := .tuple #[atV ⟨0, [], 0, 0, false⟩ (.slice none 0 0), ftV ⟨3, 1, []⟩ (.slice none 0 0)]) ?_ rfl ⟨_, _, by rw [HPQ.out]; rfl, by rw [HPQ.out]; exact Rs.nil _ _, by rw [HPQ.out]; exact Bs.nil _, hE.2.2.1⟩
          simp [results, Try.results11, go_sem, x0, x1, x2, x3, x4, y0, y1, y2]
        · rw [decide_eq_false hseen] at hm9
          rw [if_neg hseen] at hpr
          have HPQ := Lib.hid hpr
          have HM9 := Lib.hid (HA9.out.block HKm.out)
          have hfM := nofr HM9.out
          have HMS := Lib.hid (met_set HM9.out t)
          have HAS : Hid (((wr.alloc (rwO 66 ⟨fl, t, vl⟩ (.slice so vl.length sc))).setCell ⟨W.heap.size + 1 + 1, t, none⟩ (.bool true)).heap[W.heap.size + 1]? = some (atO 38 a vp)) :=
            ((Mod.setCell (W.heap.size + 1 + 1) t (wr.alloc (rwO 66 ⟨fl, t, vl⟩ (.slice so vl.length sc))) (.bool true)).block _ (by have := HVz.out; have := HKp.out.size; simp; omega) (by omega)).trans (HA9.out.block HKa.out)
          have HKS : Hid (Kept [W.heap.size + 1, W.heap.size + 1 + 1] V ((wr.alloc (rwO 66 ⟨fl, t, vl⟩ (.slice so vl.length sc))).setCell ⟨W.heap.size + 1 + 1, t, none⟩ (.bool true))) := (HKp.out.same HA9.out).set t _ (.inl (by simp))
          have ht3 : (t : Int) < 256 := by omega
          have HBX : Hid (((wr.alloc (rwO 66 ⟨fl, t, vl⟩ (.slice so vl.length sc))).setCell ⟨W.heap.size + 1 + 1, t, none⟩ (.bool true)).heap[wr.heap.size]? = some (rwO 66 ⟨fl, t, vl⟩ (.slice so vl.length sc))) :=
            ((Mod.setCell (W.heap.size + 1 + 1) t (wr.alloc (rwO 66 ⟨fl, t, vl⟩ (.slice so vl.length sc))) (.bool true)).block _ (by simp) (by have := HVz.out; have := HKp.out.size; omega)).trans (heap_alloc_new wr _)
          obtain ⟨z0, z1, z2⟩ := RwAt.of HBX.out
          have HSWs : Hid (Same W ((wr.alloc (rwO 66 ⟨fl, t, vl⟩ (.slice so vl.length sc))).setCell ⟨W.heap.size + 1 + 1, t, none⟩ (.bool true))) := HKS.out.to_same HSV.out (fun s hs => by simp at hs; omega)
          have HPs : Hid (Rs intLay ((wr.alloc (rwO 66 ⟨fl, t, vl⟩ (.slice so vl.length sc))).setCell ⟨W.heap.size + 1 + 1, t, none⟩ (.bool true)) vp a.path) := (HPa.out.same HA9.out).mod (Mod.setCell _ _ _ _) (fun he => by have h1 := HVp.out _ he; have h2 := HVz.out; omega)
          obtain ⟨hbs, -, -, -⟩ := HCC.out _ HSWs.out
          have HTk := Lib.hid (rTake7_any (W.heap.size + 1) a vp ⟨fl, t, vl⟩ (.slice so vl.length sc) _ HAS.out HPs.out (fun g hg he => by have := HVp.out g hg; have := HVz.out; omega) hbs hfl (by simp only; omega))
          have HZs : Hid (wr.heap.size < ((wr.alloc (rwO 66 ⟨fl, t, vl⟩ (.slice so vl.length sc))).setCell ⟨W.heap.size + 1 + 1, t, none⟩ (.bool true)).heap.size) := (Array.getElem?_eq_some_iff.1 HBX.out).1
          clear hpr hseen hbs
          go_wp2_with fail
          refine HTk.out.mono ?_
          rintro e w9 ⟨vp9, rfl, hk9, hp9, hv9, hkp9⟩
          have HK9 := Lib.hid hk9
          have HP9 := Lib.hid hp9
          have HV9 := Lib.hid hv9
          have HKP9 := Lib.hid hkp9
          have HM99 : Hid (w9.heap[W.heap.size + 1 + 1]? = some (metO ((t : Int) :: seen))) := hkp9.at HMS.out (by simp)
          have HB9 : Hid (w9.heap[wr.heap.size]? = some (rwO 66 ⟨fl, t, vl⟩ (.slice so vl.length sc))) := hkp9.at HBX.out (by have := HVz.out; have := HKp.out.size; simp; omega)
          have HKV9 : Hid (Kept [W.heap.size + 1, W.heap.size + 1 + 1] V w9) := HKS.out.trans (hkp9.more (fun s hs => by simp at hs; simp [hs]))
          have HSW9 : Hid (Same W w9) := HKV9.out.to_same HSV.out (fun s hs => by simp at hs; omega)
          obtain ⟨E, hE⟩ : ∃ E, takeE ⟨fl, t, vl⟩ = E := ⟨_, rfl⟩
          obtain ⟨S, hS⟩ : ∃ S, takeS a ⟨fl, t, vl⟩ = S := ⟨_, rfl⟩
          have hpq := HPQ.out
          rw [hE, hS] at hpq
          have HPQ2 := Lib.hid hpq
          rw [hS] at HK9 HP9
          rw [hE]
          obtain ⟨z0, z1, z2⟩ := RwAt.of HB9.out
          clear hk9 hp9 hv9 hkp9 hpq HTk hE hS hm9 hfM x0 x1 x2
          by_cases h0 : E = 0
          · subst h0
            have hpq := HPQ2.out
            rw [if_pos rfl] at hpq
            have HPQ3 := Lib.hid hpq
            clear hpq
            go_wp2_with fail
            exact ⟨⟨k + 1, (t : Int) :: seen, S, vp9, by omega, rfl, HK9.out, HP9.out, fun g hg => by
              rcases (HV9.out g hg).2 with h | h
              · exact HVp.out g h
              · have := HZs.out; have := HKp.out.size; omega, HM99.out, HKV9.out, HPQ3.out⟩, by simp [intOf]; omega⟩
          have hE0 : (E == 0) = false := by simpa using h0
          have HK2 := Lib.hid (HSW9.out.block HR2w.out)
          have HK3 := Lib.hid (HSW9.out.block HR3w.out)
          by_cases h11 : E = 11
          · subst h11
            have hpq := HPQ2.out
            rw [if_neg (by decide), if_pos rfl] at hpq
            have HPQ3 := Lib.hid hpq.symm
            clear hpq
            go_wp2_with fail
            refine (rFault_any 11 none 0 0 _).mono ?_
            rintro e w10 ⟨rfl, hs10⟩
            have HSw := Lib.hid ((HS1.out.trans HSW9.out).trans hs10)
            have HK22 := Lib.hid (hs10.block HK2.out)
            have HK33 := Lib.hid (hs10.block HK3.out)
            clear hs10 z0 z1 z2
            have hE := two_end (t2 := 38) (t3 := 26) w.heap.size (w.heap.size + 1) (by omega) (Nat.le_refl _) (by omega) [.int .i64 (0), .slice none 0 0, .int .u32 (0), .int .i64 (0), .bool (false)] [.int .i64 0, .slice none 0 0, .int .u32 0, .int .i64 0, .bool false] [.int .i64 (3), .int .i64 (11), .slice none 0 0] [.int .i64 0, .int .i64 0, .slice none 0 0] HSw.out HK22.out HK33.out rfl rfl
            have hQ := (sets_cells w.heap.size 38 [.int .i64 (0), .slice none 0 0, .int .u32 (0), .int .i64 (0), .bool (false)] w10 [] [.int .i64 0, .slice none 0 0, .int .u32 0, .int .i64 0, .bool false] HK22.out rfl).1
            dsimp only [setsC, Nat.reduceAdd, List.length_nil] at hE hQ
            obtain ⟨b0, b1, b2, b3, b4⟩ := AtAt.of (a := zeroA) (vp := .slice none 0 0) HK22.out
            have hfz2 := nofr HK22.out
            have hk3' := (hQ.block (w.heap.size + 1) (Array.getElem?_eq_some_iff.1 HK33.out).1 (by omega)).trans HK33.out
            obtain ⟨f0, f1, f2⟩ := FtAt.of (f := noFt) (vd := .slice none 0 0) hk3'
            have hfz3 := nofr hk3'
            have HE := Lib.hid hE
            clear hE hQ hk3'
            go_wp2_with fail
            have hE := HE.out
            generalize World.setCell _ ⟨w.heap.size + 1, 2, none⟩ _ = U at hE ⊢
            obtain ⟨x0, x1, x2, x3, x4⟩ := AtAt.of (a := ⟨0, [], 0, 0, false⟩) (vp := .slice none 0 0) hE.1
            obtain ⟨y0, y1, y2⟩ := FtAt.of (f := ⟨3, 11, []⟩) (vd := .slice none 0 0) hE.2.1
            refine bodyPost_ret (v := .tuple #[atV ⟨0, [], 0, 0, false⟩ (.slice none 0 0), ftV ⟨3, 11, []⟩ (.slice none 0 0)]) ?_ rfl ⟨_, _, by rw [HPQ3.out]; rfl, by rw [HPQ3.out]; exact Rs.nil _ _, by rw [HPQ3.out]; exact Bs.nil _, hE.2.2.1⟩
            simp [results, Try.results11, go_sem, x0, x1, x2, x3, x4, y0, y1, y2]
          · have hpq := HPQ2.out
            rw [if_neg h0, if_neg h11] at hpq
            have HPQ3 := Lib.hid hpq.symm
            have hE11 : (E == 11) = false := by simpa using h11
            obtain ⟨hb9, -, -, -⟩ := HCC.out _ HSW9.out
            have HOn := Lib.hid (rOne7_any ⟨fl, t, vl⟩ (.slice so vl.length sc) w9 hb9)
            clear hpq hb9
            go_wp2_with fail
            refine HOn.out.mono ?_
            rintro e w10 ⟨v10, rfl, ho10, hs10⟩
            obtain ⟨OB, hOB⟩ : ∃ OB, oneB ⟨fl, t, vl⟩ = OB := ⟨_, rfl⟩
            have hpq := HPQ3.out
            rw [hOB] at hpq ho10
            have HPQ4 := Lib.hid hpq
            have HO10 := Lib.hid ho10
            obtain ⟨a10, c10, rfl⟩ := ho10.bs.form0 rfl
            have HS10 := Lib.hid hs10
            clear hpq hOB ho10 hs10 z0 z1 z2
            obtain ⟨m10, hm10⟩ : ∃ m, OB.length = m := ⟨_, rfl⟩
            rw [hm10] at HO10 ⊢
            go_wp2_with fail
            refine (rFault_any E a10 m10 c10 _).mono ?_
            rintro e w11 ⟨rfl, hs11⟩
            have HSw := Lib.hid ((HS1.out.trans HSW9.out).trans (HS10.out.trans hs11))
            have HK22 := Lib.hid ((HS10.out.trans hs11).block HK2.out)
            have HK33 := Lib.hid ((HS10.out.trans hs11).block HK3.out)
            have HO11 := Lib.hid (HO10.out.same hs11)
            clear hs11
            have hE := two_end (t2 := 38) (t3 := 26) w.heap.size (w.heap.size + 1) (by omega) (Nat.le_refl _) (by omega) [.int .i64 (0), .slice none 0 0, .int .u32 (0), .int .i64 (0), .bool (false)] [.int .i64 0, .slice none 0 0, .int .u32 0, .int .i64 0, .bool false] [.int .i64 (3), .int .i64 (E), .slice a10 m10 c10] [.int .i64 0, .int .i64 0, .slice none 0 0] HSw.out HK22.out HK33.out rfl rfl
            have hQ := (sets_cells w.heap.size 38 [.int .i64 (0), .slice none 0 0, .int .u32 (0), .int .i64 (0), .bool (false)] w11 [] [.int .i64 0, .slice none 0 0, .int .u32 0, .int .i64 0, .bool false] HK22.out rfl).1
            dsimp only [setsC, Nat.reduceAdd, List.length_nil] at hE hQ
            obtain ⟨b0, b1, b2, b3, b4⟩ := AtAt.of (a := zeroA) (vp := .slice none 0 0) HK22.out
            have hfz2 := nofr HK22.out
            have hk3' := (hQ.block (w.heap.size + 1) (Array.getElem?_eq_some_iff.1 HK33.out).1 (by omega)).trans HK33.out
            obtain ⟨f0, f1, f2⟩ := FtAt.of (f := noFt) (vd := .slice none 0 0) hk3'
            have hfz3 := nofr hk3'
            have HE := Lib.hid hE
            clear hE hQ hk3'
            go_wp2_with fail
            have hE := HE.out
            generalize World.setCell _ ⟨w.heap.size + 1, 2, none⟩ _ = U at hE ⊢
            obtain ⟨x0, x1, x2, x3, x4⟩ := AtAt.of (a := ⟨0, [], 0, 0, false⟩) (vp := .slice none 0 0) hE.1
            obtain ⟨y0, y1, y2⟩ := FtAt.of (f := ⟨3, E, OB⟩) (vd := .slice a10 m10 c10) hE.2.1
            refine bodyPost_ret (v := .tuple #[atV ⟨0, [], 0, 0, false⟩ (.slice none 0 0), ftV ⟨3, E, OB⟩ (.slice a10 m10 c10)]) ?_ rfl ⟨_, _, by rw [HPQ4.out]; rfl, by rw [HPQ4.out]; exact Rs.nil _ _, by rw [HPQ4.out]; exact (HO11.out.bs.kept hE.2.2.2 (fun g hg => by have h1 := (HO11.out.lt g hg).1; have h2 := HSW9.out.size; have h3 := HZ3.out; simp; omega)), hE.2.2.1⟩
            simp [results, Try.results11, go_sem, x0, x1, x2, x3, x4, y0, y1, y2]
end Go.Proofs.Ytfhaaenmllkbnaa
