/- Contracts of the developers' layer 6: cut, around, carries. No condition beyond what each names. -/
import Derived.Test.YteoleblnhcnpkaaTuF
import Derived.Test.YteoleblnhcnpkaaCells
import Derived.Test.YteoleblnhcnpkaaIpDG
import Derived.Test.YteoleblnhcnpkaaIpRF
namespace Go.Proofs.Yteoleblnhcnpkaa
open Go.RowKit
set_option linter.unusedVariables false

/-- what cut tells -/
abbrev tcV (v : Value) (h : Hd) (vo : Value) (e : Int) : Value := .tuple #[v, hdV h vo, .int .i64 e]
/-- the cells of a header -/
abbrev hdL (h : Hd) (vo : Value) : List Value := [.int .i64 h.tos, .int .i64 h.id, .int .i64 h.flags, .int .i64 h.frag, .int .i64 h.ttl, .int .i64 h.proto, .int .u32 h.src, .int .u32 h.dst, vo]
theorem hd_sets (t : TypeId) (u : World) (R : Nat) (g0 g : Hd) (v0 vo : Value) (hk : u.heap[R]? = some (hdO t g0 v0)) : Mod R u (setsL R u 0 (hdL g vo)) ∧ (setsL R u 0 (hdL g vo)).heap[R]? = some (hdO t g vo) :=
  sets_all R t (hdL g vo) (hdL g0 v0) u hk rfl
/-- a way out, its header in the cell that the call made first -/
theorem hd_end {t : TypeId} {w u : World} (g : Hd) (vo : Value) (hs : Same w u) (g0 : Hd) (v0 : Value) (hk : u.heap[w.heap.size]? = some (hdO t g0 v0)) :
    (setsL w.heap.size u 0 (hdL g vo)).heap[w.heap.size]? = some (hdO t g vo) ∧ Same w (setsL w.heap.size u 0 (hdL g vo)) ∧ Mod w.heap.size u (setsL w.heap.size u 0 (hdL g vo)) := by
  have := hd_sets t u w.heap.size g0 g v0 vo hk
  exact ⟨this.2, Below.trans hs (this.1.below (Nat.le_refl _) hs.size), this.1⟩

set_option maxRecDepth 100000 in
set_option maxHeartbeats 1000000 in
theorem tcut_any (v : Value) (l : List UInt8) (w : World) (hb : Bs w v l) :
    Calls Try.prog 18 #[v] w fun e w' => ∃ v' vo, e = .returned (tcV v' (parseH l) vo (parseE l)) ∧ Bs w' v' (wholeP l) ∧ Bs w' vo (parseH l).opts ∧ (∀ B, v'.ownBlock = some B → v.ownBlock = some B) ∧ Same w w' := by
  have HP := fun w hb => Lib.hid (ipParse_any v l w hb)
  have HB := Lib.hid hb
  have HK : Hid ((w.alloc (zeroO 31)).heap[w.heap.size]? = some (zeroO 31)) := heap_alloc_new w _
  by_cases h0 : parseE l = 0
  · obtain ⟨e1, hN, hN0, hN1, hN2⟩ := whole_length h0
    obtain ⟨b, o, cap, rfl, hcap, hcm, b0, b2, b3, hb0, hb2, hb3, e0, e2, HC⟩ := heads hb (parse_ok h0).1
    have HG := fun w hb => Lib.hid (Get16_any (.slice (some ⟨b, o, none⟩) l.length cap) l 2 w hb)
    rw [get_two l (parse_ok h0).1, numOut, show numOf ((l.drop 2).take 2) = lenH l from rfl] at HG
    rw [h0] at HP ⊢
    have HBF : Hid (∀ w', Same w w' → Bs w' (.slice (some ⟨b, o, none⟩) (lenH l) (lenH l)) (wholeP l)) := fun w' hw => by
      have := ((HB.out.same hw).sub 0 (lenH l) (by omega)).1
      rw [if_neg (by omega), List.drop_zero, ← e1] at this
      simpa [Addr.add] using this
    generalize wholeP l = P at *
    generalize lenH l = N at *
    generalize parseP l = p at *
    obtain ⟨n, hn⟩ : ∃ n, l.length = n := ⟨_, rfl⟩
    rw [hn] at hcap hN2 HB HG HP ⊢
    generalize parseH l = H at *
    clear e0 e1 e2 HC h0 hn hN
    obtain ⟨q0, q1, q2, q3, q4, q5, q6, q7, q8⟩ := H
    obtain ⟨n8, hn8⟩ : ∃ n, q8.length = n := ⟨_, rfl⟩
    have HN8 := Lib.hid hn8
    clear hn8
    have x3 : (N : Int) ≤ cap := by omega
    go_enter Try.func18, Try.ntmps18
    go_wp2_with fail
    refine (HP _ (HB.out.same (Same.alloc w _))).out.mono ?_
    rintro e w1 ⟨vo, vp, rfl, ho, hp, hs1⟩
    have HS1 := Lib.hid ((Same.alloc w _).trans hs1)
    have HR1 := Lib.hid (hs1.block HK.out)
    obtain ⟨a1, c1, hv1, -, -, -, -⟩ := ho.bs
    rw [HN8.out] at hv1
    subst hv1
    obtain ⟨b1, d1, rfl, -, -, -, -⟩ := hp.bs
    have HO1 := Lib.hid ho.bs
    have HOW : Hid ((Value.slice a1 n8 c1).ownBlock ≠ some w.heap.size) := fun he => by have := (ho.lt _ he).1; simp at this; omega
    clear ho hp hs1
    have HA1 := Lib.hid (Same.alloc w1 (hdO 31 ⟨q0, q1, q2, q3, q4, q5, q6, q7, q8⟩ (.slice a1 n8 c1)))
    have HK1 := Lib.hid (heap_alloc_new w1 (hdO 31 ⟨q0, q1, q2, q3, q4, q5, q6, q7, q8⟩ (.slice a1 n8 c1)))
    generalize p.length = np at *
    go_wp2_with fail
    refine (HG _ (HB.out.same (HS1.out.trans HA1.out))).out.mono ?_
    rintro e w2 ⟨rfl, rfl⟩
    go_wp2_with fail
    generalize hw2 : (w1.alloc (hdO 31 ⟨q0, q1, q2, q3, q4, q5, q6, q7, q8⟩ (.slice a1 n8 c1))) = w2 at *
    have HR2 : Hid (w2.drew.heap[w.heap.size]? = some (zeroO 31)) := HA1.out.drew.block HR1.out
    have HK2 : Hid (w2.drew.heap[w1.heap.size]? = some (hdO 31 ⟨q0, q1, q2, q3, q4, q5, q6, q7, q8⟩ (.slice a1 n8 c1))) := HK1.out
    have HRP : Hid (w.heap.size ≠ w1.heap.size) := by
      have := (Array.getElem?_eq_some_iff.1 HR1.out).1
      show _ ≠ _; omega
    refine reg_start (fun w' => w'.heap[w1.heap.size]? = some (hdO 31 ⟨q0, q1, q2, q3, q4, q5, q6, q7, q8⟩ (.slice a1 n8 c1))) (by kernel_rfl) ?_
    refine reg_take (v := ?_) 0 (some 25) rfl rfl (by kernel_rfl) (fun _ _ _ h => h) (by kernel_rfl) (HK2.out) ?_ ?_
    rotate_left
    · (intro w' hw'; obtain ⟨c0, c1, c2, c3, c4, c5, c6, c7, c8⟩ := HdAt.of hw'; go_simp; try with_reducible rfl)
    try simp only [Act.put, List.setIfInBounds_toArray, List.set_cons_zero, List.set_cons_succ]
    refine reg_take (v := ?_) 1 (some 26) rfl rfl (by kernel_rfl) (fun _ _ _ h => h) (by kernel_rfl) (HK2.out) ?_ ?_
    rotate_left
    · (intro w' hw'; obtain ⟨c0, c1, c2, c3, c4, c5, c6, c7, c8⟩ := HdAt.of hw'; go_simp; try with_reducible rfl)
    try simp only [Act.put, List.setIfInBounds_toArray, List.set_cons_zero, List.set_cons_succ]
    refine reg_take (v := ?_) 2 (some 27) rfl rfl (by kernel_rfl) (fun _ _ _ h => h) (by kernel_rfl) (HK2.out) ?_ ?_
    rotate_left
    · (intro w' hw'; obtain ⟨c0, c1, c2, c3, c4, c5, c6, c7, c8⟩ := HdAt.of hw'; go_simp; try with_reducible rfl)
    try simp only [Act.put, List.setIfInBounds_toArray, List.set_cons_zero, List.set_cons_succ]
    refine reg_take (v := ?_) 3 (some 28) rfl rfl (by kernel_rfl) (fun _ _ _ h => h) (by kernel_rfl) (HK2.out) ?_ ?_
    rotate_left
    · (intro w' hw'; obtain ⟨c0, c1, c2, c3, c4, c5, c6, c7, c8⟩ := HdAt.of hw'; go_simp; try with_reducible rfl)
    try simp only [Act.put, List.setIfInBounds_toArray, List.set_cons_zero, List.set_cons_succ]
    refine reg_take (v := ?_) 4 (some 29) rfl rfl (by kernel_rfl) (fun _ _ _ h => h) (by kernel_rfl) (HK2.out) ?_ ?_
    rotate_left
    · (intro w' hw'; obtain ⟨c0, c1, c2, c3, c4, c5, c6, c7, c8⟩ := HdAt.of hw'; go_simp; try with_reducible rfl)
    try simp only [Act.put, List.setIfInBounds_toArray, List.set_cons_zero, List.set_cons_succ]
    refine reg_take (v := ?_) 5 (some 2) rfl rfl (by kernel_rfl) (fun _ _ _ h => h) (by kernel_rfl) (HK2.out) ?_ ?_
    rotate_left
    · (intro w' hw'; obtain ⟨c0, c1, c2, c3, c4, c5, c6, c7, c8⟩ := HdAt.of hw'; go_simp; try with_reducible rfl)
    try simp only [Act.put, List.setIfInBounds_toArray, List.set_cons_zero, List.set_cons_succ]
    refine reg_one 6 rfl (by kernel_rfl) (by kernel_rfl) ?_
    refine wp_store_row 31 _ _ (by rfl) w.heap.size #[.int .i64 q0, .int .i64 q1, .int .i64 q2, .int .i64 q3, .int .i64 q4, .int .i64 q5, .int .u32 q6, .int .u32 q7, .slice a1 n8 c1] (by rfl) (by rfl) 31 _ HR2.out (by kernel_rfl) (by rfl) (hd_one ⟨q0, q1, q2, q3, q4, q5, q6, q7, []⟩ _ _ _) ?_
    have hS6 := (setRow_other w2.drew w.heap.size w1.heap.size #[.int .i64 q0, .int .i64 q1, .int .i64 q2, .int .i64 q3, .int .i64 q4, .int .i64 q5, .int .u32 q6, .int .u32 q7, .slice a1 n8 c1] (Ne.symm HRP.out)).trans HK2.out
    refine ⟨hS6, ?_⟩
    try simp only [Act.put]
    refine reg_take (v := ?_) 7 (some 4) rfl rfl (by kernel_rfl) (fun _ _ _ h => h) (by kernel_rfl) (hS6) ?_ ?_
    rotate_left
    · (intro w' hw'; obtain ⟨c0, c1, c2, c3, c4, c5, c6, c7, c8⟩ := HdAt.of hw'; go_simp; try with_reducible rfl)
    try simp only [Act.put, List.setIfInBounds_toArray, List.set_cons_zero, List.set_cons_succ]
    refine reg_done (by kernel_rfl) ?_
    have HSw : Hid (Same w w2.drew) := (HS1.out.trans HA1.out).drew
    have HR3 := Lib.hid (setRow_heap w2.drew w.heap.size _ #[.int .i64 q0, .int .i64 q1, .int .i64 q2, .int .i64 q3, .int .i64 q4, .int .i64 q5, .int .u32 q6, .int .u32 q7, .slice a1 n8 c1] _ _ HR2.out)
    have HM3 := Lib.hid (Mod.setRow w.heap.size w2.drew #[.int .i64 q0, .int .i64 q1, .int .i64 q2, .int .i64 q3, .int .i64 q4, .int .i64 q5, .int .u32 q6, .int .u32 q7, .slice a1 n8 c1])
    have HS3 := Lib.hid (below_setRow HSw.out (Nat.le_refl w.heap.size) #[.int .i64 q0, .int .i64 q1, .int .i64 q2, .int .i64 q3, .int .i64 q4, .int .i64 q5, .int .u32 q6, .int .u32 q7, .slice a1 n8 c1])
    clear hS6
    generalize w2.drew.setRow w.heap.size _ = u3 at *
    go_wp2_with fail
    obtain ⟨x0, x1, x2, x3, x4, x5, x6, x7, x8⟩ := HdAt.of (h := ⟨q0, q1, q2, q3, q4, q5, q6, q7, q8⟩) (vo := .slice a1 n8 c1) HR3.out
    refine bodyPost_ret (v := tcV (.slice (some ⟨b, o, none⟩) N N) ⟨q0, q1, q2, q3, q4, q5, q6, q7, q8⟩ (.slice a1 n8 c1) 0) ?_ rfl ⟨_, _, rfl, HBF.out _ HS3.out, Bs.mod HM3.out HOW.out (HO1.out.same HA1.out.drew), fun B hB => hB, HS3.out⟩
    simp [results, Try.results18, go_sem, x0, x1, x2, x3, x4, x5, x6, x7, x8]
  · have e1 : parseH l = ⟨0, 0, 0, 0, 0, 0, 0, 0, []⟩ := if_neg h0
    have e2 : wholeP l = [] := if_neg h0
    rw [e1, e2]
    have hE : (parseE l != 0) = true := by simpa using h0
    rw [e1] at HP
    generalize parseE l = E at *
    generalize parseP l = p at *
    clear h0 e1 e2
    obtain ⟨ao, cap, rfl, -, -, -, -⟩ := hb
    go_enter Try.func18, Try.ntmps18
    go_wp2_with fail
    refine (HP _ (HB.out.same (Same.alloc w _))).out.mono ?_
    rintro e w1 ⟨vo, vp, rfl, ho, hp, hs1⟩
    have HS1 := Lib.hid ((Same.alloc w _).trans hs1)
    have HR1 := Lib.hid (hs1.block HK.out)
    obtain ⟨a1, c1, hv1, -, -, -, -⟩ := ho.bs
    rw [List.length_nil] at hv1
    subst hv1
    obtain ⟨b1, d1, rfl, -, -, -, -⟩ := hp.bs
    clear hs1 ho hp
    have HA := Lib.hid (Same.alloc w1 (hdO 31 ⟨0, 0, 0, 0, 0, 0, 0, 0, []⟩ (.slice a1 0 c1)))
    have HR2 := Lib.hid (HA.out.block HR1.out)
    obtain ⟨c0, c1, c2, c3, c4, c5, c6, c7, c8⟩ := HdAt.of (h := ⟨0, 0, 0, 0, 0, 0, 0, 0, []⟩) (vo := nilV) HR2.out
    have hfz := not_frozen HR2.out
    go_wp2_with fail
    have HE := hd_end ⟨0, 0, 0, 0, 0, 0, 0, 0, []⟩ nilV (HS1.out.trans HA.out) ⟨0, 0, 0, 0, 0, 0, 0, 0, []⟩ nilV HR2.out
    dsimp only [setsL, hdL, Nat.reduceAdd] at HE
    generalize World.setCell _ ⟨w.heap.size, 8, none⟩ _ = U at HE ⊢
    obtain ⟨x0, x1, x2, x3, x4, x5, x6, x7, x8⟩ := HdAt.of (h := ⟨0, 0, 0, 0, 0, 0, 0, 0, []⟩) (vo := nilV) HE.1
    refine bodyPost_ret (v := tcV nilV ⟨0, 0, 0, 0, 0, 0, 0, 0, []⟩ nilV E) ?_ rfl ⟨_, _, rfl, Bs.nil _, Bs.nil _, (fun B hB => by cases hB), HE.2.1⟩
    simp [results, Try.results18, go_sem, x0, x1, x2, x3, x4, x5, x6, x7, x8]

set_option maxRecDepth 100000 in
theorem around_any (h : Hd) (src dst : Int) (ao : Option Addr) (n cap : Nat) (w : World) (hf : 0 ≤ h.flags ∧ h.flags ≤ 7) :
    Calls Try.prog 20 #[hdV h (.slice ao n cap), .int .u32 src, .int .u32 dst] w fun e w' => e = .returned (hdV (arH h src dst) nilV) ∧ Same w w' := by
  obtain ⟨q0, q1, q2, q3, q4, q5, q6, q7, q8⟩ := h
  have z2 := i64_and2t q2 hf.1 hf.2
  obtain ⟨f, hf2⟩ : ∃ f : Int, f = if q2 / 2 % 2 = 1 then 2 else 0 := ⟨_, rfl⟩
  rw [← hf2] at z2
  have e : arH ⟨q0, q1, q2, q3, q4, q5, q6, q7, q8⟩ src dst = ⟨q0, q1, f, 0, 64, 4, src, dst, []⟩ := by rw [hf2]; rfl
  rw [e]
  clear e hf2
  have H0 := Lib.hid (Same.alloc w (hdO 31 ⟨q0, q1, q2, q3, q4, q5, q6, q7, q8⟩ (.slice ao n cap)))
  have HR0 := Lib.hid (heap_alloc_new (w.alloc (hdO 31 ⟨q0, q1, q2, q3, q4, q5, q6, q7, q8⟩ (.slice ao n cap))) (zeroO 31))
  have HA := Lib.hid (Same.alloc (w.alloc (hdO 31 ⟨q0, q1, q2, q3, q4, q5, q6, q7, q8⟩ (.slice ao n cap))) (zeroO 31))
  obtain ⟨c0, c1, c2, c3, c4, c5, c6, c7, c8⟩ := HdAt.of (HA.out.block (heap_alloc_new w (hdO 31 ⟨q0, q1, q2, q3, q4, q5, q6, q7, q8⟩ (.slice ao n cap))))
  obtain ⟨d0, d1, d2, d3, d4, d5, d6, d7, d8⟩ := HdAt.of (h := zeroH) (vo := nilV) HR0.out
  have hfz := not_frozen HR0.out
  go_enter Try.func20, Try.ntmps20
  go_wp2_with fail
  refine bodyPost_ret (v := hdV ⟨q0, q1, f, 0, 64, 4, src, dst, []⟩ nilV) ?_ rfl ⟨rfl, H0.out.trans (Same.alloc _ _)⟩
  simp [results, Try.results20, go_sem]

set_option maxRecDepth 100000 in
theorem carries_any (h : Hd) (ao : Option Addr) (n cap : Nat) (w : World) :
    Calls Try.prog 24 #[hdV h (.slice ao n cap)] w fun e w' => e = .returned (.int .i64 (carE h)) ∧ Same w w' := by
  obtain ⟨q0, q1, q2, q3, q4, q5, q6, q7, q8⟩ := h
  have z1 := i64_and1t q2
  have H0 := Lib.hid (Same.alloc w (hdO 31 ⟨q0, q1, q2, q3, q4, q5, q6, q7, q8⟩ (.slice ao n cap)))
  obtain ⟨c0, c1, c2, c3, c4, c5, c6, c7, c8⟩ := HdAt.of (heap_alloc_new w (hdO 31 ⟨q0, q1, q2, q3, q4, q5, q6, q7, q8⟩ (.slice ao n cap)))
  unfold carE
  simp only
  by_cases h5 : q5 = 4
  · subst h5
    rw [if_neg (by simp)]
    by_cases h3 : 0 < q3
    · rw [if_pos (.inl h3)]
      go_enter Try.func24, Try.ntmps24
      go_wp2_with fail
      go_ret
      exact ⟨rfl, Same.alloc _ _⟩
    · by_cases h2 : q2 % 2 = 1
      · rw [if_pos (.inr h2)]
        go_enter Try.func24, Try.ntmps24
        go_wp2_with fail
        go_ret
        exact ⟨rfl, Same.alloc _ _⟩
      · rw [if_neg (by omega)]
        have h20 : q2 % 2 = 0 := by omega
        go_enter Try.func24, Try.ntmps24
        go_wp2_with fail
        go_ret
        exact ⟨rfl, Same.alloc _ _⟩
  · rw [if_pos h5]
    go_enter Try.func24, Try.ntmps24
    go_wp2_with fail
    go_ret
    exact ⟨rfl, Same.alloc _ _⟩
end Go.Proofs.Yteoleblnhcnpkaa
