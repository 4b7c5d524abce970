/- The developers' layer 4: bytes copied into a head; its check sum written. No condition beyond what each names. -/
import Derived.Test.YteoleblnhcnpkaaIpDA
import Derived.Test.YteoleblnhcnpkaaIpH
import Derived.Test.YteoleblnhcnpkaaOwn
import Derived.Test.YteoleblnhcnpkaaPut
import Derived.Test.YteoleblnhcnpkaaChkD
import Derived.Laws.CopyOwn
namespace Go.Proofs.Yteoleblnhcnpkaa
open Go.RowKit
set_option linter.unusedVariables false

/-- bytes laid over others from a place on -/
def layB (l : List UInt8) (off : Nat) (m : List UInt8) : List UInt8 := l.take off ++ (m ++ l.drop (off + m.length))
theorem layB_length (l : List UInt8) (off : Nat) (m : List UInt8) (h : off + m.length ≤ l.length) : (layB l off m).length = l.length := by simp [layB]; omega

theorem take_lay {α : Type} (L R ms : List α) (off : Nat) (h : off + ms.length ≤ L.length) :
    ((L ++ R).take off ++ ms ++ (L ++ R).drop (off + ms.length)).take L.length = L.take off ++ (ms ++ L.drop (off + ms.length)) := by
  have e1 : (L ++ R).take off = L.take off := List.take_append_of_le_length (by omega)
  have e2 : (L ++ R).drop (off + ms.length) = L.drop (off + ms.length) ++ R := List.drop_append_of_le_length h
  rw [e1, e2, ← List.append_assoc (L.take off ++ ms), List.take_append_of_le_length (by simp; omega), List.take_of_length_le (by simp; omega), List.append_assoc]

theorem own_copied {w : World} {B g n cap : Nat} {l : List UInt8} (h : OwnB w B (.slice (some ⟨g, 0, none⟩) n cap) l) (off : Nat) (m : List UInt8) (hfit : off + m.length ≤ l.length) :
    ∃ cur : Array Value, w.heap[g]? = some (.cells cur 5 (0, 0)) ∧ off + (m.map b8).length ≤ cur.size ∧
      OwnB (w.setRow g (cur.toList.take off ++ m.map b8 ++ cur.toList.drop (off + (m.map b8).length)).toArray) B (.slice (some ⟨g, 0, none⟩) n cap) (layB l off m) := by
  obtain ⟨hx, h2⟩ := h
  rcases h2 with ⟨h', _⟩ | ⟨g', cap', cur, h', hb, hg, hnc, hcm, hcs, htake⟩
  · simp at h'
  · simp only [Value.slice.injEq, Option.some.injEq, Addr.mk.injEq, and_true] at h'
    obtain ⟨rfl, rfl, rfl⟩ := h'
    have hsz : l.length ≤ cur.size := by omega
    refine ⟨cur, hg, by simp; omega, ?_⟩
    have hl := layB_length l off m hfit
    refine ⟨by simp, .inr ⟨g, cap, _, by rw [hl], hb, setRow_heap w g _ _ _ _ hg, by rw [hl]; exact hnc, hcm, ?_, ?_⟩⟩
    · simp; omega
    · have e : cur.toList = l.map b8 ++ cur.toList.drop (l.length * 1) := by rw [← htake, List.take_append_drop]
      have hL : (l.map b8).length = l.length := by simp
      rw [e, hl]
      have := take_lay (l.map b8) (cur.toList.drop (l.length * 1)) (m.map b8) off (by simpa using hfit)
      rw [hL] at this
      rw [Nat.mul_one] at this ⊢
      simpa [layB, List.map_append, List.map_take, List.map_drop] using this

theorem run_copy_h (w : World) (dT sT ty : TypeId) (hu : Try.prog.underlying dT = some (.slice 5)) (B g n cap : Nat) (l : List UInt8) (hown : OwnB w B (.slice (some ⟨g, 0, none⟩) n cap) l) (off dcap : Nat) (hn : n = l.length) (x : Value) (m : List UInt8) (hx : Bs w x m) (hm : m ≠ []) (hfit : off + m.length ≤ l.length) :
    ∃ w', (Builtin.copy_ #[dT, sT] ty #[.slice (some ⟨g, off, none⟩) (n - off) dcap, x]).run Try.prog w = .ok (goInt m.length) w' ∧ OwnB w' B (.slice (some ⟨g, 0, none⟩) n cap) (layB l off m) ∧ Mod g w w' := by
  obtain ⟨cur, hg, hsz, ho⟩ := own_copied hown off m hfit
  obtain ⟨ao, c2, rfl, q1, q2, q3, q4⟩ := hx
  cases ao with
  | none => have := q3 rfl; exact absurd (List.eq_nil_of_length_eq_zero (by omega)) hm
  | some ad =>
    have hr := run_copy_row (P := Try.prog) w dT sT ty 5 g off (n - off) dcap ad m.length c2 cur 5 (m.map b8) hu (by kernel_rfl) hg (by rw [List.length_map]; exact (Nat.min_eq_left (by omega)).symm) (fun j u hj => by
      simp only [List.getElem?_map, Option.map_eq_some_iff] at hj
      obtain ⟨b, hb, rfl⟩ := hj
      exact (q4 ad rfl).2 j b hb) hsz (fun u hu => by
      obtain ⟨b, _, rfl⟩ := List.mem_map.1 hu
      rfl)
    rw [List.length_map] at hr ho
    exact ⟨_, hr, ho, rfl, rfl, rfl, by simp [World.setRow], fun k _ hs => setRow_other w g k _ hs⟩

/-- copy of bytes into a row that the call owns -/
theorem wp_copy_h {w : World} {o : Oper} {a : Act} {K : Act → World → Prop} {Q : Exit → Act → World → Prop} (d s : Operand) (dT sT : TypeId)
    (ho : o.op = .call { callee := .builtin .copy, args := #[d, s], argTypes := #[dT, sT] }) (hu : Try.prog.underlying dT = some (.slice 5))
    (B g n cap : Nat) (l : List UInt8) (hown : OwnB w B (.slice (some ⟨g, 0, none⟩) n cap) l) (off dcap : Nat) (hn : n = l.length) (hd : a.eval d = .slice (some ⟨g, off, none⟩) (n - off) dcap)
    (x : Value) (m : List UInt8) (hs : a.eval s = x) (hx : Bs w x m) (hm : m ≠ []) (hfit : off + m.length ≤ l.length)
    (h : ∀ w', OwnB w' B (.slice (some ⟨g, 0, none⟩) n cap) (layB l off m) → Mod g w w' → K (a.put o.dst (goInt m.length)) w') : Oper.wp Try.prog o a w K Q := by
  obtain ⟨w', hr, h1, h2⟩ := run_copy_h w dT sT o.type hu B g n cap l hown off dcap hn x m hx hm hfit
  unfold Oper.wp
  simp [execOp, ho, resolve, invoke, builtin, hd, hs, hr, Result.andThen]
  exact h w' h1 h2
theorem wpList_copy_h {w : World} {ops : Array Oper} {rest : List Oper} {o : Oper} {a : Act} {Q : Exit → Act → World → Prop} (hgd : o.guard = none) (d s : Operand) (dT sT : TypeId)
    (ho : o.op = .call { callee := .builtin .copy, args := #[d, s], argTypes := #[dT, sT] }) (hu : Try.prog.underlying dT = some (.slice 5))
    (B g n cap : Nat) (l : List UInt8) (hown : OwnB w B (.slice (some ⟨g, 0, none⟩) n cap) l) (off dcap : Nat) (hn : n = l.length) (hd : a.eval d = .slice (some ⟨g, off, none⟩) (n - off) dcap)
    (x : Value) (m : List UInt8) (hs : a.eval s = x) (hx : Bs w x m) (hm : m ≠ []) (hfit : off + m.length ≤ l.length)
    (h : ∀ w', OwnB w' B (.slice (some ⟨g, 0, none⟩) n cap) (layB l off m) → Mod g w w' → wpList Try.prog ops Q rest (a.put o.dst (goInt m.length)) w') : wpList Try.prog ops Q (o :: rest) a w :=
  wpList_plain hgd fun K hK => wp_copy_h d s dT sT ho hu B g n cap l hown off dcap hn hd x m hs hx hm hfit fun w' h1 h2 => hK _ _ (h w' h1 h2)

/-- a head with its check sum anew -/
def sumH (l : List UInt8) : List UInt8 := layB (layB l 10 [0, 0]) 10 [byteAt ((65535 - sumB (layB l 10 [0, 0]) : Nat) : Int) 1, byteAt ((65535 - sumB (layB l 10 [0, 0]) : Nat) : Int) 0]
theorem sumH_length (l : List UInt8) (h : 12 ≤ l.length) : (sumH l).length = l.length := by
  have h1 : (layB l 10 [0, 0]).length = l.length := layB_length _ _ _ (by simpa using h)
  rw [sumH, layB_length _ _ _ (by rw [h1]; simpa using h), h1]

set_option maxRecDepth 100000 in
theorem ipSum_any (B g n cap : Nat) (l : List UInt8) (hn : n = l.length) (h12 : 12 ≤ l.length) (hl : l.length ≤ 65535) (w : World) (ho : OwnB w B (.slice (some ⟨g, 0, none⟩) n cap) l) :
    Calls Try.prog 61 #[.slice (some ⟨g, 0, none⟩) n cap] w fun e w' => e = .returned (.tuple #[]) ∧ OwnB w' B (.slice (some ⟨g, 0, none⟩) n cap) (sumH l) ∧ Mod g w w' := by
  have HO := Lib.hid ho
  have hcap : n ≤ cap := by
    rcases ho.2 with ⟨h', _⟩ | ⟨g', cap', cur, h', hb, hg, hnc, hcm, hcs, htake⟩
    · simp at h'
    · simp at h'; omega
  have k1 : (10 : Int) ≤ n := by omega
  have k2 : ¬ (cap = 10) := by omega
  have k3 : (10 : Int) ≤ cap := by omega
  have k4 : (n : Int) ≤ cap := by omega
  obtain ⟨l1, hl1⟩ : ∃ l1, l1 = layB l 10 [0, 0] := ⟨_, rfl⟩
  have hl1n : Hid (l1.length = l.length) := by rw [hl1]; exact layB_length _ _ _ (by simpa using h12)
  have HL1 := Lib.hid hl1
  have HN := Lib.hid (show n = l.length from hn)
  have H12 := Lib.hid h12
  have HLL := Lib.hid hl
  have HQ : Hid (sumH l = layB l1 10 [byteAt ((65535 - sumB l1 : Nat) : Int) 1, byteAt ((65535 - sumB l1 : Nat) : Int) 0]) := by rw [hl1]; rfl
  clear ho hl1 hn h12 hl
  have HT : Hid (∀ w', Mod g w w' → True) := fun _ _ => trivial
  go_enter Try.func61, Try.ntmps61
  go_wp2_with fail
  refine reg_start (fun w' => Mod g w w') (by kernel_rfl) ?_
  refine reg_take (v := ?_) 0 (some 2) rfl rfl (by kernel_rfl) (fun _ _ _ h => h) (by kernel_rfl) (Mod.of_same (s := g) (Same.refl w).drew) ?_ ?_
  rotate_left
  · (intro w' hw'; skip; go_simp; try with_reducible rfl)
  try simp only [Act.put, List.setIfInBounds_toArray, List.set_cons_zero, List.set_cons_succ]
  refine reg_take (v := ?_) 1 (some 3) rfl rfl (by kernel_rfl) (fun _ _ _ h => h) (by kernel_rfl) (Mod.of_same (s := g) (Same.refl w).drew) ?_ ?_
  rotate_left
  · (intro w' hw'; skip; go_simp; try with_reducible rfl)
  try simp only [Act.put, List.setIfInBounds_toArray, List.set_cons_zero, List.set_cons_succ]
  refine reg_one 2 rfl (by kernel_rfl) (by kernel_rfl) ?_
  go_simp
  refine ((Put16_any (.slice none 0 0) [] 0 _ (Bs.nil _) (by simp))).mono ?_
  rintro e u1 ⟨v1, rfl, ho1, hs1⟩
  have hS1 := (Mod.of_same (s := g) (Same.refl w).drew).trans (Mod.of_same hs1)
  skip
  refine ⟨hS1, ?_⟩
  try simp only [Act.put, List.setIfInBounds_toArray, List.set_cons_zero, List.set_cons_succ]
  refine reg_one 3 rfl (by kernel_rfl) (by kernel_rfl) ?_
  refine wp_copy_h _ _ _ _ (by rfl) Try.underlying56 B g n cap l (HO.out.same ((Same.refl w).drew.trans hs1)) 10 _ HN.out (by rfl) _ [0, 0] (by rfl) ho1.bs (by simp) (by have := H12.out; simp; omega) ?_
  intro w2 ho2 hm2
  have hS3 := hS1.trans hm2
  refine ⟨hS3, ?_⟩
  try simp only [Act.put]
  refine reg_done (by kernel_rfl) ?_
  have HO2 : Hid (OwnB w2 B (.slice (some ⟨g, 0, none⟩) n cap) l1) := by rw [HL1.out]; exact ho2
  have HM2 := Lib.hid ((Mod.of_same ((Same.refl w).drew.trans hs1)).trans hm2)
  clear ho1 hs1 ho2 hm2 HO hS1 hS3
  go_wp2_with fail
  refine reg_start (fun w' => Mod g w2 w') (by kernel_rfl) ?_
  refine reg_take (v := ?_) 0 (some 6) rfl rfl (by kernel_rfl) (fun _ _ _ h => h) (by kernel_rfl) (Mod.of_same (s := g) (Same.refl w2).drew) ?_ ?_
  rotate_left
  · (intro w' hw'; skip; go_simp; try with_reducible rfl)
  try simp only [Act.put, List.setIfInBounds_toArray, List.set_cons_zero, List.set_cons_succ]
  refine reg_take (v := ?_) 1 (some 7) rfl rfl (by kernel_rfl) (fun _ _ _ h => h) (by kernel_rfl) (Mod.of_same (s := g) (Same.refl w2).drew) ?_ ?_
  rotate_left
  · (intro w' hw'; skip; go_simp; try with_reducible rfl)
  try simp only [Act.put, List.setIfInBounds_toArray, List.set_cons_zero, List.set_cons_succ]
  refine reg_take (v := ?_) 2 (some 8) rfl rfl (by kernel_rfl) (fun _ _ _ h => h) (by kernel_rfl) (Mod.of_same (s := g) (Same.refl w2).drew) ?_ ?_
  rotate_left
  · (intro w' hw'; skip; go_simp; try with_reducible rfl)
  try simp only [Act.put, List.setIfInBounds_toArray, List.set_cons_zero, List.set_cons_succ]
  refine reg_one 3 rfl (by kernel_rfl) (by kernel_rfl) ?_
  go_simp
  refine ((cOf_any _ l1 _ (HO2.out.same (Same.refl w2).drew).bs (by have := hl1n.out; have := HLL.out; omega))).mono ?_
  rintro e u1 ⟨rfl, hs1⟩
  have hS1 := (Mod.of_same (s := g) (Same.refl w2).drew).trans (Mod.of_same hs1)
  skip
  refine ⟨hS1, ?_⟩
  try simp only [Act.put, List.setIfInBounds_toArray, List.set_cons_zero, List.set_cons_succ]
  refine reg_one 4 rfl (by kernel_rfl) (by kernel_rfl) ?_
  go_simp
  refine ((Put16_any (.slice none 0 0) [] _ _ (Bs.nil _) (by simp))).mono ?_
  rintro e u2 ⟨v3, rfl, ho3, hs2⟩
  have hS2 := (hS1).trans (Mod.of_same hs2)
  skip
  refine ⟨hS2, ?_⟩
  try simp only [Act.put, List.setIfInBounds_toArray, List.set_cons_zero, List.set_cons_succ]
  refine reg_one 5 rfl (by kernel_rfl) (by kernel_rfl) ?_
  refine wp_copy_h _ _ _ _ (by rfl) Try.underlying56 B g n cap l1 (HO2.out.same (((Same.refl w2).drew.trans hs1).trans hs2)) 10 _ (HN.out.trans hl1n.out.symm) (by rfl) _ [byteAt ((65535 - sumB l1 : Nat) : Int) 1, byteAt ((65535 - sumB l1 : Nat) : Int) 0] (by rfl) ho3.bs (by simp) (by rw [hl1n.out]; exact H12.out) ?_
  intro w4 ho4 hm4
  have hS5 := hS2.trans hm4
  refine ⟨hS5, ?_⟩
  try simp only [Act.put]
  refine reg_done (by kernel_rfl) ?_
  have HO4 := Lib.hid ho4
  have HM4 := Lib.hid (HM2.out.trans ((Mod.of_same (((Same.refl w2).drew.trans hs1).trans hs2)).trans hm4))
  clear ho3 hs1 hs2 ho4 hm4 HO2 hS1 hS2 hS5
  go_wp2_with fail
  go_end0
  refine ⟨rfl, ?_, HM4.out⟩
  rw [HQ.out]
  exact HO4.out

/-- a head, bytes written into it at a place, with its check sum anew -/
def updH (l : List UInt8) (at_ : Nat) (m : List UInt8) : List UInt8 := sumH (layB l at_ m)
theorem updH_length (l : List UInt8) (at_ : Nat) (m : List UInt8) (h : at_ + m.length ≤ l.length) (h2 : 12 ≤ l.length) : (updH l at_ m).length = l.length := by
  have h1 := layB_length l at_ m h
  rw [updH, sumH_length _ (by rw [h1]; exact h2), h1]

end Go.Proofs.Yteoleblnhcnpkaa
