/- The developers' layer 4: bytes copied into a head; its check sum written. No condition beyond what each names. Contracts of the developers' layer 4: a head written, Build. No condition beyond what each names. -/
import Derived.Laws.CopyOwn
import Derived.Test.YtcemdajkddidnaaGreatDoorQIpDA
import Derived.Test.YtcemdajkddidnaaGreatDoorQIpH
import Derived.Test.YtcemdajkddidnaaGreatDoorQOwn
import Derived.Test.YtcemdajkddidnaaGreatDoorQPut
import Derived.Test.YtcemdajkddidnaaGreatDoorQChkD
namespace Go.Proofs.YtcemdajkddidnaaGreatDoor
open Go.RowKit
set_option linter.unusedVariables false

/-- bytes laid over others from a place on -/
def layB (l : List UInt8) (off : Nat) (m : List UInt8) : List UInt8 := l.take off ++ (m ++ l.drop (off + m.length))
theorem layB_length (l : List UInt8) (off : Nat) (m : List UInt8) (h : off + m.length ≤ l.length) : (layB l off m).length = l.length := by simp [layB]; omega

theorem take_lay {α : Type} (L R ms : List α) (off : Nat) (h : off + ms.length ≤ L.length) :
    ((L ++ R).take off ++ ms ++ (L ++ R).drop (off + ms.length)).take L.length = L.take off ++ (ms ++ L.drop (off + ms.length)) := by
  have e1 : (L ++ R).take off = L.take off := List.take_append_of_le_length (by omega)
  have e2 : (L ++ R).drop (off + ms.length) = L.drop (off + ms.length) ++ R := List.drop_append_of_le_length h
  rw [e1, e2, ← List.append_assoc (L.take off ++ ms), List.take_append_of_le_length (by simp; omega), List.take_of_length_le (by simp; omega), List.append_assoc]

theorem own_copied {w : World} {B g n cap : Nat} {l : List UInt8} (h : OwnB w B (.slice (some ⟨g, 0, none⟩) n cap) l) (off : Nat) (m : List UInt8) (hfit : off + m.length ≤ l.length) :
    ∃ cur : Array Value, w.heap[g]? = some (.cells cur 5 (0, 0)) ∧ off + (m.map b8).length ≤ cur.size ∧
      OwnB (w.setRow g (cur.toList.take off ++ m.map b8 ++ cur.toList.drop (off + (m.map b8).length)).toArray) B (.slice (some ⟨g, 0, none⟩) n cap) (layB l off m) := by
  obtain ⟨hx, h2⟩ := h
  rcases h2 with ⟨h', _⟩ | ⟨g', cap', cur, h', hb, hg, hnc, hcm, hcs, htake⟩
  · simp at h'
  · simp only [Value.slice.injEq, Option.some.injEq, Addr.mk.injEq, and_true] at h'
    obtain ⟨rfl, rfl, rfl⟩ := h'
    have hsz : l.length ≤ cur.size := by omega
    refine ⟨cur, hg, by simp; omega, ?_⟩
    have hl := layB_length l off m hfit
    refine ⟨by simp, .inr ⟨g, cap, _, by rw [hl], hb, setRow_heap w g _ _ _ _ hg, by rw [hl]; exact hnc, hcm, ?_, ?_⟩⟩
    · simp; omega
    · have e : cur.toList = l.map b8 ++ cur.toList.drop (l.length * 1) := by rw [← htake, List.take_append_drop]
      have hL : (l.map b8).length = l.length := by simp
      rw [e, hl]
      have := take_lay (l.map b8) (cur.toList.drop (l.length * 1)) (m.map b8) off (by simpa using hfit)
      rw [hL] at this
      rw [Nat.mul_one] at this ⊢
      simpa [layB, List.map_append, List.map_take, List.map_drop] using this

theorem run_copy_h (w : World) (dT sT ty : TypeId) (hu : Tryz.prog.underlying dT = some (.slice 5)) (B g n cap : Nat) (l : List UInt8) (hown : OwnB w B (.slice (some ⟨g, 0, none⟩) n cap) l) (off dcap : Nat) (hn : n = l.length) (x : Value) (m : List UInt8) (hx : Bs w x m) (hm : m ≠ []) (hfit : off + m.length ≤ l.length) :
    ∃ w', (Builtin.copy_ #[dT, sT] ty #[.slice (some ⟨g, off, none⟩) (n - off) dcap, x]).run Tryz.prog w = .ok (goInt m.length) w' ∧ OwnB w' B (.slice (some ⟨g, 0, none⟩) n cap) (layB l off m) ∧ Mod g w w' := by
  obtain ⟨cur, hg, hsz, ho⟩ := own_copied hown off m hfit
  obtain ⟨ao, c2, rfl, q1, q2, q3, q4⟩ := hx
  cases ao with
  | none => have := q3 rfl; exact absurd (List.eq_nil_of_length_eq_zero (by omega)) hm
  | some ad =>
    have hr := run_copy_row (P := Tryz.prog) w dT sT ty 5 g off (n - off) dcap ad m.length c2 cur 5 (m.map b8) hu (by kernel_rfl) hg (by rw [List.length_map]; exact (Nat.min_eq_left (by omega)).symm) (fun j u hj => by
      simp only [List.getElem?_map, Option.map_eq_some_iff] at hj
      obtain ⟨b, hb, rfl⟩ := hj
      exact (q4 ad rfl).2 j b hb) hsz (fun u hu => by
      obtain ⟨b, _, rfl⟩ := List.mem_map.1 hu
      rfl)
    rw [List.length_map] at hr ho
    exact ⟨_, hr, ho, rfl, rfl, rfl, by simp [World.setRow], fun k _ hs => setRow_other w g k _ hs⟩

/-- copy of bytes into a row that the call owns -/
theorem wp_copy_h {w : World} {o : Oper} {a : Act} {K : Act → World → Prop} {Q : Exit → Act → World → Prop} (d s : Operand) (dT sT : TypeId)
    (ho : o.op = .call { callee := .builtin .copy, args := #[d, s], argTypes := #[dT, sT] }) (hu : Tryz.prog.underlying dT = some (.slice 5))
    (B g n cap : Nat) (l : List UInt8) (hown : OwnB w B (.slice (some ⟨g, 0, none⟩) n cap) l) (off dcap : Nat) (hn : n = l.length) (hd : a.eval d = .slice (some ⟨g, off, none⟩) (n - off) dcap)
    (x : Value) (m : List UInt8) (hs : a.eval s = x) (hx : Bs w x m) (hm : m ≠ []) (hfit : off + m.length ≤ l.length)
    (h : ∀ w', OwnB w' B (.slice (some ⟨g, 0, none⟩) n cap) (layB l off m) → Mod g w w' → K (a.put o.dst (goInt m.length)) w') : Oper.wp Tryz.prog o a w K Q := by
  obtain ⟨w', hr, h1, h2⟩ := run_copy_h w dT sT o.type hu B g n cap l hown off dcap hn x m hx hm hfit
  unfold Oper.wp
  simp [execOp, ho, resolve, invoke, builtin, hd, hs, hr, Result.andThen]
  exact h w' h1 h2
theorem wpList_copy_h {w : World} {ops : Array Oper} {rest : List Oper} {o : Oper} {a : Act} {Q : Exit → Act → World → Prop} (hgd : o.guard = none) (d s : Operand) (dT sT : TypeId)
    (ho : o.op = .call { callee := .builtin .copy, args := #[d, s], argTypes := #[dT, sT] }) (hu : Tryz.prog.underlying dT = some (.slice 5))
    (B g n cap : Nat) (l : List UInt8) (hown : OwnB w B (.slice (some ⟨g, 0, none⟩) n cap) l) (off dcap : Nat) (hn : n = l.length) (hd : a.eval d = .slice (some ⟨g, off, none⟩) (n - off) dcap)
    (x : Value) (m : List UInt8) (hs : a.eval s = x) (hx : Bs w x m) (hm : m ≠ []) (hfit : off + m.length ≤ l.length)
    (h : ∀ w', OwnB w' B (.slice (some ⟨g, 0, none⟩) n cap) (layB l off m) → Mod g w w' → wpList Tryz.prog ops Q rest (a.put o.dst (goInt m.length)) w') : wpList Tryz.prog ops Q (o :: rest) a w :=
  wpList_plain hgd fun K hK => wp_copy_h d s dT sT ho hu B g n cap l hown off dcap hn hd x m hs hx hm hfit fun w' h1 h2 => hK _ _ (h w' h1 h2)

/-- a head with its check sum anew -/
def sumH (l : List UInt8) : List UInt8 := layB (layB l 10 [0, 0]) 10 [byteAt ((65535 - sumB (layB l 10 [0, 0]) : Nat) : Int) 1, byteAt ((65535 - sumB (layB l 10 [0, 0]) : Nat) : Int) 0]
theorem sumH_length (l : List UInt8) (h : 12 ≤ l.length) : (sumH l).length = l.length := by
  have h1 : (layB l 10 [0, 0]).length = l.length := layB_length _ _ _ (by simpa using h)
  rw [sumH, layB_length _ _ _ (by rw [h1]; simpa using h), h1]

set_option maxRecDepth 100000 in
theorem ipSum_any (B g n cap : Nat) (l : List UInt8) (hn : n = l.length) (h12 : 12 ≤ l.length) (hl : l.length ≤ 65535) (w : World) (ho : OwnB w B (.slice (some ⟨g, 0, none⟩) n cap) l) :
    Calls Tryz.prog 88 #[.slice (some ⟨g, 0, none⟩) n cap] w fun e w' => e = .returned (.tuple #[]) ∧ OwnB w' B (.slice (some ⟨g, 0, none⟩) n cap) (sumH l) ∧ Mod g w w' := by
  have HO := Lib.hid ho
  have hcap : n ≤ cap := by
    rcases ho.2 with ⟨h', _⟩ | ⟨g', cap', cur, h', hb, hg, hnc, hcm, hcs, htake⟩
    · simp at h'
    · simp at h'; omega
  have k1 : (10 : Int) ≤ n := by omega
  have k2 : ¬ (cap = 10) := by omega
  have k3 : (10 : Int) ≤ cap := by omega
  have k4 : (n : Int) ≤ cap := by omega
  obtain ⟨l1, hl1⟩ : ∃ l1, l1 = layB l 10 [0, 0] := ⟨_, rfl⟩
  have hl1n : Hid (l1.length = l.length) := by rw [hl1]; exact layB_length _ _ _ (by simpa using h12)
  have HL1 := Lib.hid hl1
  have HN := Lib.hid (show n = l.length from hn)
  have H12 := Lib.hid h12
  have HLL := Lib.hid hl
  have HQ : Hid (sumH l = layB l1 10 [byteAt ((65535 - sumB l1 : Nat) : Int) 1, byteAt ((65535 - sumB l1 : Nat) : Int) 0]) := by rw [hl1]; rfl
  clear ho hl1 hn h12 hl
  have HT : Hid (∀ w', Mod g w w' → True) := fun _ _ => trivial
  go_enter Tryz.func88, Tryz.ntmps88
  go_wp2_with fail
  refine reg_start (fun w' => Mod g w w') (by kernel_rfl) ?_
  refine reg_take (v := ?_) 0 (some 2) rfl rfl (by kernel_rfl) (fun _ _ _ h => h) (by kernel_rfl) (Mod.of_same (s := g) (Same.refl w).drew) ?_ ?_
  rotate_left
  · (intro w' hw'; skip; go_simp; try with_reducible rfl)
  try simp only [Act.put, List.setIfInBounds_toArray, List.set_cons_zero, List.set_cons_succ]
  refine reg_take (v := ?_) 1 (some 3) rfl rfl (by kernel_rfl) (fun _ _ _ h => h) (by kernel_rfl) (Mod.of_same (s := g) (Same.refl w).drew) ?_ ?_
  rotate_left
  · (intro w' hw'; skip; go_simp; try with_reducible rfl)
  try simp only [Act.put, List.setIfInBounds_toArray, List.set_cons_zero, List.set_cons_succ]
  refine reg_one 2 rfl (by kernel_rfl) (by kernel_rfl) ?_
  go_simp
  refine ((Put16_any (.slice none 0 0) [] 0 _ (Bs.nil _) (by simp))).mono ?_
  rintro e u1 ⟨v1, rfl, ho1, hs1⟩
  have hS1 := (Mod.of_same (s := g) (Same.refl w).drew).trans (Mod.of_same hs1)
  skip
  refine ⟨hS1, ?_⟩
  try simp only [Act.put, List.setIfInBounds_toArray, List.set_cons_zero, List.set_cons_succ]
  refine reg_one 3 rfl (by kernel_rfl) (by kernel_rfl) ?_
  refine wp_copy_h _ _ _ _ (by rfl) Tryz.underlying82 B g n cap l (HO.out.same ((Same.refl w).drew.trans hs1)) 10 _ HN.out (by rfl) _ [0, 0] (by rfl) ho1.bs (by simp) (by have := H12.out; simp; omega) ?_
  intro w2 ho2 hm2
  have hS3 := hS1.trans hm2
  refine ⟨hS3, ?_⟩
  try simp only [Act.put]
  refine reg_done (by kernel_rfl) ?_
  have HO2 : Hid (OwnB w2 B (.slice (some ⟨g, 0, none⟩) n cap) l1) := by rw [HL1.out]; exact ho2
  have HM2 := Lib.hid ((Mod.of_same ((Same.refl w).drew.trans hs1)).trans hm2)
  clear ho1 hs1 ho2 hm2 HO hS1 hS3
  go_wp2_with fail
  refine reg_start (fun w' => Mod g w2 w') (by kernel_rfl) ?_
  refine reg_take (v := ?_) 0 (some 6) rfl rfl (by kernel_rfl) (fun _ _ _ h => h) (by kernel_rfl) (Mod.of_same (s := g) (Same.refl w2).drew) ?_ ?_
  rotate_left
  · (intro w' hw'; skip; go_simp; try with_reducible rfl)
  try simp only [Act.put, List.setIfInBounds_toArray, List.set_cons_zero, List.set_cons_succ]
  refine reg_take (v := ?_) 1 (some 7) rfl rfl (by kernel_rfl) (fun _ _ _ h => h) (by kernel_rfl) (Mod.of_same (s := g) (Same.refl w2).drew) ?_ ?_
  rotate_left
  · (intro w' hw'; skip; go_simp; try with_reducible rfl)
  try simp only [Act.put, List.setIfInBounds_toArray, List.set_cons_zero, List.set_cons_succ]
  refine reg_take (v := ?_) 2 (some 8) rfl rfl (by kernel_rfl) (fun _ _ _ h => h) (by kernel_rfl) (Mod.of_same (s := g) (Same.refl w2).drew) ?_ ?_
  rotate_left
  · (intro w' hw'; skip; go_simp; try with_reducible rfl)
  try simp only [Act.put, List.setIfInBounds_toArray, List.set_cons_zero, List.set_cons_succ]
  refine reg_one 3 rfl (by kernel_rfl) (by kernel_rfl) ?_
  go_simp
  refine ((cOf_any _ l1 _ (HO2.out.same (Same.refl w2).drew).bs (by have := hl1n.out; have := HLL.out; omega))).mono ?_
  rintro e u1 ⟨rfl, hs1⟩
  have hS1 := (Mod.of_same (s := g) (Same.refl w2).drew).trans (Mod.of_same hs1)
  skip
  refine ⟨hS1, ?_⟩
  try simp only [Act.put, List.setIfInBounds_toArray, List.set_cons_zero, List.set_cons_succ]
  refine reg_one 4 rfl (by kernel_rfl) (by kernel_rfl) ?_
  go_simp
  refine ((Put16_any (.slice none 0 0) [] _ _ (Bs.nil _) (by simp))).mono ?_
  rintro e u2 ⟨v3, rfl, ho3, hs2⟩
  have hS2 := (hS1).trans (Mod.of_same hs2)
  skip
  refine ⟨hS2, ?_⟩
  try simp only [Act.put, List.setIfInBounds_toArray, List.set_cons_zero, List.set_cons_succ]
  refine reg_one 5 rfl (by kernel_rfl) (by kernel_rfl) ?_
  refine wp_copy_h _ _ _ _ (by rfl) Tryz.underlying82 B g n cap l1 (HO2.out.same (((Same.refl w2).drew.trans hs1).trans hs2)) 10 _ (HN.out.trans hl1n.out.symm) (by rfl) _ [byteAt ((65535 - sumB l1 : Nat) : Int) 1, byteAt ((65535 - sumB l1 : Nat) : Int) 0] (by rfl) ho3.bs (by simp) (by rw [hl1n.out]; exact H12.out) ?_
  intro w4 ho4 hm4
  have hS5 := hS2.trans hm4
  refine ⟨hS5, ?_⟩
  try simp only [Act.put]
  refine reg_done (by kernel_rfl) ?_
  have HO4 := Lib.hid ho4
  have HM4 := Lib.hid (HM2.out.trans ((Mod.of_same (((Same.refl w2).drew.trans hs1).trans hs2)).trans hm4))
  clear ho3 hs1 hs2 ho4 hm4 HO2 hS1 hS2 hS5
  go_wp2_with fail
  go_end0
  refine ⟨rfl, ?_, HM4.out⟩
  rw [HQ.out]
  exact HO4.out

/-- a head, bytes written into it at a place, with its check sum anew -/
def updH (l : List UInt8) (at_ : Nat) (m : List UInt8) : List UInt8 := sumH (layB l at_ m)
theorem updH_length (l : List UInt8) (at_ : Nat) (m : List UInt8) (h : at_ + m.length ≤ l.length) (h2 : 12 ≤ l.length) : (updH l at_ m).length = l.length := by
  have h1 := layB_length l at_ m h
  rw [updH, sumH_length _ (by rw [h1]; exact h2), h1]

end Go.Proofs.YtcemdajkddidnaaGreatDoor
namespace Go.Proofs.YtcemdajkddidnaaGreatDoor
open Go.RowKit
set_option linter.unusedVariables false

theorem wraps_i64 (n : Int) (h₀ : 0 ≤ n) (h₁ : n < 2 ^ 63) : IntKind.i64.wrap n = n := by rw [IntKind.wrap_i64]; omega
theorem or_words (k : Int) (h0 : 0 ≤ k) (h1 : k < 64) : bits .or .i64 64 k = 64 + k := by
  exact bits_join .i64 63 (by decide) wraps_i64 6 (x := 64) (y := k) (by omega) (by omega) (by omega) h0 (by omega) (by omega)
theorem or_frag (f g : Int) (f0 : 0 ≤ f) (f1 : f ≤ 7) (g0 : 0 ≤ g) (g1 : g ≤ 8191) : bits .or .i64 (f * 8192) g = f * 8192 + g := by
  exact bits_join .i64 63 (by decide) wraps_i64 13 (x := f * 8192) (y := g) (by omega) (by omega) (by omega) g0 (by omega) (by omega)
theorem OwnB.forms {w : World} {B : Nat} {v : Value} {l : List UInt8} (h : OwnB w B v l) (hl : 0 < l.length) : ∃ g cap, v = .slice (some ⟨g, 0, none⟩) l.length cap ∧ l.length ≤ cap ∧ B ≤ g := h.form hl

/-- the head's bytes as write lays them: then the sum -/
theorem sum_head (h : Hd) (n : Int) : sumH (headB h n 0) = sealH h n := by
  have e0 : layB (headB h n 0) 10 [0, 0] = headB h n 0 := by
    have z1 : byteAt 0 1 = 0 := by decide
    have z0 : byteAt 0 0 = 0 := by decide
    simp [layB, headB, z1, z0]
  rw [sumH, e0]
  rfl

set_option maxRecDepth 100000 in
set_option maxHeartbeats 1000000 in
theorem ipWrite_any (h : Hd) (hg : goodH h) (hsrc : 0 ≤ h.src ∧ h.src ≤ 4294967295) (hdst : 0 ≤ h.dst ∧ h.dst ≤ 4294967295) (n : Int) (hn : 0 ≤ n ∧ n ≤ 65535) (vo : Value) (w : World) (hb : Bs w vo h.opts) :
    Calls Tryz.prog 63 #[hdV h vo, .int .i64 n] w fun e w' => ∃ v, e = .returned v ∧ OwnB w' w.heap.size v (sealH h n) ∧ Same w w' := by
  have HSE := Lib.hid (sum_head h n)
  have HLE := Lib.hid (headB_length h n 0)
  obtain ⟨tos, id, flags, frag, ttl, proto, src, dst, opts⟩ := h
  have HG := Lib.hid hg
  have HB := Lib.hid hb
  obtain ⟨⟨g0, g1⟩, ⟨g2, g3⟩, ⟨g4, g5⟩, ⟨g6, g7⟩, ⟨g8, g9⟩, ⟨g10, g11⟩, g12, g13⟩ := hg
  obtain ⟨p1, p2⟩ := hsrc
  obtain ⟨p3, p4⟩ := hdst
  obtain ⟨p5, p6⟩ := hn
  simp only at g0 g1 g2 g3 g4 g5 g6 g7 g8 g9 g10 g11 g12 g13 p1 p2 p3 p4
  obtain ⟨ao, cap, rfl, q1, q2, -, -⟩ := hb
  have z1 := or_words ((20 + (opts.length : Int)) / 4) (by omega) (by omega)
  have z2 := or_frag flags frag g8 g9 g10 g11
  obtain ⟨W0, hW⟩ : ∃ W0, W0 = w.alloc (hdO 56 ⟨tos, id, flags, frag, ttl, proto, src, dst, opts⟩ (.slice ao opts.length cap)) := ⟨_, rfl⟩
  have HX : Hid (∀ w', Same W0 w' → HdAt w' w.heap.size ⟨tos, id, flags, frag, ttl, proto, src, dst, opts⟩ (.slice ao opts.length cap)) := by rw [hW]; exact hd_box 56 ⟨tos, id, flags, frag, ttl, proto, src, dst, opts⟩ _ w
  have H0 : Hid (Same w W0) := by rw [hW]; exact Same.alloc w _
  have HW := Lib.hid hW
  clear hW
  go_enter Tryz.func63, Tryz.ntmps63
  go_wp2_with fail
  refine (Put8_any _ [] (64 + (20 + (opts.length : Int)) / 4) _ (Bs.nil _) (by simp)).mono ?_
  rintro e w1 ⟨v1, rfl, ho1, hs1⟩
  have HS1 : Hid (Same W0 w1) := by rw [HW.out]; exact hs1
  have HO1 : Hid (OwnB w1 W0.heap.size v1 ([] ++ [byteAt (64 + (20 + (opts.length : Int)) / 4) 0])) := by rw [HW.out]; exact ho1
  obtain ⟨c0, c1, c2, c3, c4, c5, c6, c7, c8⟩ := HX.out w1 HS1.out
  clear ho1 hs1
  go_wp2_with fail
  refine (Put8_any _ _ tos _ HO1.out.bs (by simp)).mono ?_
  rintro e w2 ⟨v2, rfl, ho2, hs2⟩
  have HS2 := Lib.hid (HS1.out.trans hs2)
  have HO2 := Lib.hid (ho2.mono (B' := W0.heap.size) HS1.out.size)
  clear ho2 hs2 c0 c1 c2 c3 c4 c5 c6 c7 c8 HS1 HO1
  obtain ⟨c0, c1, c2, c3, c4, c5, c6, c7, c8⟩ := HX.out w2 HS2.out
  go_wp2_with fail
  refine (Put16_any _ _ n _ HO2.out.bs (by simp)).mono ?_
  rintro e w3 ⟨v3, rfl, ho3, hs3⟩
  have HS3 := Lib.hid (HS2.out.trans hs3)
  have HO3 := Lib.hid (ho3.mono (B' := W0.heap.size) HS2.out.size)
  clear ho3 hs3 c0 c1 c2 c3 c4 c5 c6 c7 c8 HS2 HO2
  obtain ⟨c0, c1, c2, c3, c4, c5, c6, c7, c8⟩ := HX.out w3 HS3.out
  go_wp2_with fail
  refine (Put16_any _ _ id _ HO3.out.bs (by simp)).mono ?_
  rintro e w4 ⟨v4, rfl, ho4, hs4⟩
  have HS4 := Lib.hid (HS3.out.trans hs4)
  have HO4 := Lib.hid (ho4.mono (B' := W0.heap.size) HS3.out.size)
  clear ho4 hs4 c0 c1 c2 c3 c4 c5 c6 c7 c8 HS3 HO3
  obtain ⟨c0, c1, c2, c3, c4, c5, c6, c7, c8⟩ := HX.out w4 HS4.out
  go_wp2_with fail
  refine (Put16_any _ _ (flags * 8192 + frag) _ HO4.out.bs (by simp)).mono ?_
  rintro e w5 ⟨v5, rfl, ho5, hs5⟩
  have HS5 := Lib.hid (HS4.out.trans hs5)
  have HO5 := Lib.hid (ho5.mono (B' := W0.heap.size) HS4.out.size)
  clear ho5 hs5 c0 c1 c2 c3 c4 c5 c6 c7 c8 HS4 HO4
  obtain ⟨c0, c1, c2, c3, c4, c5, c6, c7, c8⟩ := HX.out w5 HS5.out
  go_wp2_with fail
  refine (Put8_any _ _ ttl _ HO5.out.bs (by simp)).mono ?_
  rintro e w6 ⟨v6, rfl, ho6, hs6⟩
  have HS6 := Lib.hid (HS5.out.trans hs6)
  have HO6 := Lib.hid (ho6.mono (B' := W0.heap.size) HS5.out.size)
  clear ho6 hs6 c0 c1 c2 c3 c4 c5 c6 c7 c8 HS5 HO5
  obtain ⟨c0, c1, c2, c3, c4, c5, c6, c7, c8⟩ := HX.out w6 HS6.out
  go_wp2_with fail
  refine (Put8_any _ _ proto _ HO6.out.bs (by simp)).mono ?_
  rintro e w7 ⟨v7, rfl, ho7, hs7⟩
  have HS7 := Lib.hid (HS6.out.trans hs7)
  have HO7 := Lib.hid (ho7.mono (B' := W0.heap.size) HS6.out.size)
  clear ho7 hs7 c0 c1 c2 c3 c4 c5 c6 c7 c8 HS6 HO6
  obtain ⟨c0, c1, c2, c3, c4, c5, c6, c7, c8⟩ := HX.out w7 HS7.out
  go_wp2_with fail
  refine (Put16_any _ _ 0 _ HO7.out.bs (by simp)).mono ?_
  rintro e w8 ⟨v8, rfl, ho8, hs8⟩
  have HS8 := Lib.hid (HS7.out.trans hs8)
  have HO8 := Lib.hid (ho8.mono (B' := W0.heap.size) HS7.out.size)
  clear ho8 hs8 c0 c1 c2 c3 c4 c5 c6 c7 c8 HS7 HO7
  obtain ⟨c0, c1, c2, c3, c4, c5, c6, c7, c8⟩ := HX.out w8 HS8.out
  go_wp2_with fail
  refine (Put32_any _ _ src _ HO8.out.bs (by simp)).mono ?_
  rintro e w9 ⟨v9, rfl, ho9, hs9⟩
  have HS9 := Lib.hid (HS8.out.trans hs9)
  have HO9 := Lib.hid (ho9.mono (B' := W0.heap.size) HS8.out.size)
  clear ho9 hs9 c0 c1 c2 c3 c4 c5 c6 c7 c8 HS8 HO8
  obtain ⟨c0, c1, c2, c3, c4, c5, c6, c7, c8⟩ := HX.out w9 HS9.out
  go_wp2_with fail
  refine (Put32_any _ _ dst _ HO9.out.bs (by simp)).mono ?_
  rintro e w10 ⟨v10, rfl, ho10, hs10⟩
  have HS10 := Lib.hid (HS9.out.trans hs10)
  have HO10 := Lib.hid (ho10.mono (B' := W0.heap.size) HS9.out.size)
  clear ho10 hs10 c0 c1 c2 c3 c4 c5 c6 c7 c8 HS9 HO9
  obtain ⟨c0, c1, c2, c3, c4, c5, c6, c7, c8⟩ := HX.out w10 HS10.out
  have HEQ : Hid ((((((((((([] ++ [byteAt (64 + (20 + (opts.length : Int)) / 4) 0]) ++ [byteAt tos 0]) ++ [byteAt n 1, byteAt n 0]) ++ [byteAt id 1, byteAt id 0]) ++ [byteAt (flags * 8192 + frag) 1, byteAt (flags * 8192 + frag) 0]) ++ [byteAt ttl 0]) ++ [byteAt proto 0]) ++ [byteAt 0 1, byteAt 0 0]) ++ [byteAt src 3, byteAt src 2, byteAt src 1, byteAt src 0]) ++ [byteAt dst 3, byteAt dst 2, byteAt dst 1, byteAt dst 0]) ++ opts = headB ⟨tos, id, flags, frag, ttl, proto, src, dst, opts⟩ n 0) := by
    show _ = _
    simp [headB]
  obtain ⟨LA, hLA⟩ : ∃ LA, LA = ((((((((([] ++ [byteAt (64 + (20 + (opts.length : Int)) / 4) 0]) ++ [byteAt tos 0]) ++ [byteAt n 1, byteAt n 0]) ++ [byteAt id 1, byteAt id 0]) ++ [byteAt (flags * 8192 + frag) 1, byteAt (flags * 8192 + frag) 0]) ++ [byteAt ttl 0]) ++ [byteAt proto 0]) ++ [byteAt 0 1, byteAt 0 0]) ++ [byteAt src 3, byteAt src 2, byteAt src 1, byteAt src 0]) ++ [byteAt dst 3, byteAt dst 2, byteAt dst 1, byteAt dst 0] := ⟨_, rfl⟩
  rw [← hLA] at HO10 HEQ
  have HLL : Hid (LA.length + opts.length ≤ 140737488355328) := by rw [hLA]; show _ ≤ _; simp; omega
  obtain ⟨LH, hLH⟩ : ∃ LH, LH = headB ⟨tos, id, flags, frag, ttl, proto, src, dst, opts⟩ n 0 := ⟨_, rfl⟩
  rw [← hLH] at HEQ HSE HLE
  have HLE2 : Hid (LH.length = 20 + opts.length) := HLE.out
  obtain ⟨SE, hSE⟩ : ∃ SE, SE = sealH ⟨tos, id, flags, frag, ttl, proto, src, dst, opts⟩ n := ⟨_, rfl⟩
  rw [← hSE] at HSE
  have HSQ := Lib.hid hSE
  clear hLA hLH HLE hSE
  go_wp2_with (at_builtin; refine wpList_append_bs rfl _ _ rfl W0 HS10.out _ LA rfl HO10.out _ opts rfl (HB.out.same (H0.out.trans HS10.out)) HLL.out ?_; intro v11 w11 ho11 hs11; rw [HEQ.out] at ho11; obtain ⟨g, cp, rfl, hcp, hBg⟩ := OwnB.forms ho11 (by rw [HLE2.out]; omega))
  have HO11 := Lib.hid ho11
  have HS11 := Lib.hid hs11
  have HBg := Lib.hid hBg
  clear ho11 hs11 hBg c0 c1 c2 c3 c4 c5 c6 c7 c8 HS10 HO10
  refine (ipSum_any W0.heap.size g LH.length cp LH rfl (by rw [HLE2.out]; omega) (by rw [HLE2.out]; omega) w11 HO11.out).mono ?_
  rintro e w12 ⟨rfl, ho12, hm12⟩
  rw [HSE.out] at ho12
  have HO12 := Lib.hid (ho12.mono H0.out.size)
  have HS12 : Hid (Same w w12) := Below.trans (H0.out.trans HS11.out) (hm12.below (Nat.le_trans H0.out.size HBg.out) (H0.out.trans HS11.out).size)
  clear ho12 hm12
  go_wp2_with fail
  go_ret
  rw [← HSQ.out]
  exact ⟨_, rfl, HO12.out, HS12.out⟩

set_option maxRecDepth 100000 in
set_option maxHeartbeats 1000000 in
theorem ipBuild_any (h : Hd) (hr : HdR h) (p : List UInt8) (vo vp : Value) (w : World) (hb : Bs w vo h.opts) (hp : Bs w vp p) (ho : h.opts.length ≤ 140737488355328) (hpl : p.length ≤ 140737488355328) :
    Calls Tryz.prog 39 #[hdV h vo, vp] w fun e w' => ∃ v, e = .returned v ∧ OwnB w' w.heap.size v (buildB h p) ∧ Same w w' := by
  have HB := Lib.hid hb
  have HP := Lib.hid hp
  have HGc := fun ao cap w => Lib.hid (ipGood_any h ao cap w)
  have HWr := fun (hg : goodH h) (n : Int) hn vo w hb => Lib.hid (ipWrite_any h hg hr.1 hr.2 n hn vo w hb)
  have HWr := Lib.hid HWr
  have HSL := fun n => sealH_length h n
  obtain ⟨ao, cap, rfl, q1, q2, -, -⟩ := hb
  obtain ⟨ap, caq, rfl, r1, r2, -, -⟩ := hp
  obtain ⟨tos, id, flags, frag, ttl, proto, src, dst, opts⟩ := h
  simp only at q1 ho HSL
  have HSLh := Lib.hid HSL
  clear HSL
  obtain ⟨W0, hW⟩ : ∃ W0, W0 = w.alloc (hdO 56 ⟨tos, id, flags, frag, ttl, proto, src, dst, opts⟩ (.slice ao opts.length cap)) := ⟨_, rfl⟩
  have HX : Hid (∀ w', Same W0 w' → HdAt w' w.heap.size ⟨tos, id, flags, frag, ttl, proto, src, dst, opts⟩ (.slice ao opts.length cap)) := by rw [hW]; exact hd_box 56 ⟨tos, id, flags, frag, ttl, proto, src, dst, opts⟩ _ w
  have H0 : Hid (Same w W0) := by rw [hW]; exact Same.alloc w _
  have HW := Lib.hid hW
  clear hW
  by_cases hg : goodH ⟨tos, id, flags, frag, ttl, proto, src, dst, opts⟩
  · have HGo := Lib.hid hg
    rw [show decide (goodH ⟨tos, id, flags, frag, ttl, proto, src, dst, opts⟩) = true from decide_eq_true hg] at HGc
    obtain ⟨-, -, -, -, -, -, g1, -⟩ := hg
    simp only at g1
    by_cases hs : 20 + opts.length + p.length ≤ 9000
    · have hle : ¬ (9000 < 20 + (opts.length : Int) + p.length) := by omega
      have hq : Hid (buildB ⟨tos, id, flags, frag, ttl, proto, src, dst, opts⟩ p = sealH ⟨tos, id, flags, frag, ttl, proto, src, dst, opts⟩ (20 + (opts.length : Int) + (p.length : Int)) ++ p) := by
        show _ = _
        rw [buildB, if_pos ⟨HGo.out, hs⟩, sizeH]
        push_cast
        rfl
      rw [hq.out]
      clear hq
      go_enter Tryz.func39, Tryz.ntmps39
      go_wp2_with fail
      refine (HGc _ _ _).out.mono ?_
      rintro e w1 ⟨rfl, hs1⟩
      have HS1 : Hid (Same W0 w1) := by rw [HW.out]; exact hs1
      clear hs1
      obtain ⟨c0, c1, c2, c3, c4, c5, c6, c7, c8⟩ := HX.out w1 HS1.out
      go_wp2_with fail
      refine (HWr.out HGo.out (20 + (opts.length : Int) + (p.length : Int)) (by omega) _ _ (HB.out.same (H0.out.trans HS1.out))).out.mono ?_
      rintro e w2 ⟨v2, rfl, ho2, hs2⟩
      have HS2 := Lib.hid ((H0.out.trans HS1.out).trans hs2)
      have HO2 := Lib.hid ho2
      have HLn : Hid ((sealH ⟨tos, id, flags, frag, ttl, proto, src, dst, opts⟩ (20 + (opts.length : Int) + (p.length : Int))).length + p.length ≤ 140737488355328) := by
        show _ ≤ _
        rw [HSLh.out]; omega
      obtain ⟨vao, vcap, hv, -, -, -, -⟩ := ho2.bs
      obtain ⟨no, hno⟩ : ∃ no, (sealH ⟨tos, id, flags, frag, ttl, proto, src, dst, opts⟩ (20 + (opts.length : Int) + (p.length : Int))).length = no := ⟨_, rfl⟩
      rw [hno] at hv
      subst hv
      clear ho2 hs2 hno c0 c1 c2 c3 c4 c5 c6 c7 c8
      go_wp2_with fail
      have HA := Lib.hid (Same.alloc w2 (.cells #[.slice vao no vcap, .slice ap p.length caq] 82))
      refine (concat_h w2.heap.size _ _ _ p _ (HO2.out.bs.same HA.out) (HP.out.same (HS2.out.trans HA.out)) HLn.out (heap_alloc_new w2 _)).mono ?_
      rintro e w3 ⟨v3, rfl, ho3, hs3⟩
      have HO3 := Lib.hid (ho3.mono (HS2.out.trans HA.out).size)
      have HS3 := Lib.hid ((HS2.out.trans HA.out).trans hs3)
      clear ho3 hs3
      go_wp2_with fail
      go_ret
      exact ⟨v3, rfl, HO3.out, HS3.out⟩
    · have hle : 9000 < 20 + (opts.length : Int) + p.length := by omega
      have hq : buildB ⟨tos, id, flags, frag, ttl, proto, src, dst, opts⟩ p = [] := if_neg fun h => hs h.2
      rw [hq]
      clear hq hs
      go_enter Tryz.func39, Tryz.ntmps39
      go_wp2_with fail
      refine (HGc _ _ _).out.mono ?_
      rintro e w1 ⟨rfl, hs1⟩
      have HS1 : Hid (Same W0 w1) := by rw [HW.out]; exact hs1
      clear hs1
      go_wp2_with fail
      go_ret
      exact ⟨_, rfl, OwnB.nil _ _, H0.out.trans HS1.out⟩
  · have hq : buildB ⟨tos, id, flags, frag, ttl, proto, src, dst, opts⟩ p = [] := if_neg fun h => hg h.1
    rw [hq]
    clear hq
    rw [show decide (goodH ⟨tos, id, flags, frag, ttl, proto, src, dst, opts⟩) = false from decide_eq_false hg] at HGc
    clear hg HWr
    go_enter Tryz.func39, Tryz.ntmps39
    go_wp2_with fail
    refine (HGc _ _ _).out.mono ?_
    rintro e w1 ⟨rfl, hs1⟩
    have HS1 : Hid (Same W0 w1) := by rw [HW.out]; exact hs1
    clear hs1
    go_wp2_with fail
    go_ret
    exact ⟨_, rfl, OwnB.nil _ _, H0.out.trans HS1.out⟩
end Go.Proofs.YtcemdajkddidnaaGreatDoor
