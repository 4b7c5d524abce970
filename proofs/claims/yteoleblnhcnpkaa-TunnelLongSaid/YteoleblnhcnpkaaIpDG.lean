/- Contracts of the developers' layer 4: Parse. No condition beyond what each names. -/
import Derived.Test.YteoleblnhcnpkaaIpDF
namespace Go.Proofs.Yteoleblnhcnpkaa
open Go.RowKit
set_option linter.unusedVariables false

theorem headP_ok {l : List UInt8} (h : parseE l = 0) : headP l = l.take (endH l) ∧ 20 ≤ (headP l).length ∧ (headP l).length ≤ 60 ∧ (headP l).length = endH l ∧ parseH l = readH (headP l) ∧ (parseP l).length ≤ 9000 := by
  obtain ⟨h1, h2, h3, h4, h5, h6, h7, h8⟩ := parse_ok h
  have e : headP l = l.take (endH l) := if_pos h
  have hE : endH l ≤ 60 := by unfold endH; omega
  have hp : parseP l = (l.take (lenH l)).drop (endH l) := if_pos h
  have hlen : (headP l).length = endH l := by rw [e]; simp; omega
  refine ⟨e, by omega, by omega, hlen, ?_, ?_⟩
  · rw [parseH, if_pos h, e]
  · rw [hp]; simp; omega

theorem pkt_at {w : World} {B : Nat} {vh vp : Value} (h : w.heap[B]? = some (pktO vh vp)) : w.cell? ⟨B, 0, none⟩ = some vh ∧ w.cell? ⟨B, 1, none⟩ = some vp := by
  constructor <;> simp [World.cell?, h]

set_option maxRecDepth 100000 in
set_option maxHeartbeats 1000000 in
theorem ipParse_any (v : Value) (l : List UInt8) (w : World) (hb : Bs w v l) :
    Calls Try.prog 15 #[v] w fun e w' => ∃ vo vp, e = .returned (parV (parseH l) vo vp (parseE l)) ∧ OwnB w' w.heap.size vo (parseH l).opts ∧ OwnB w' w.heap.size vp (parseP l) ∧ Same w w' := by
  have HCu := fun w hb => Lib.hid (ipCut_any v l w hb)
  have HB := Lib.hid hb
  have HK : Hid ((w.alloc (zeroO 31)).heap[w.heap.size]? = some (zeroO 31)) := heap_alloc_new w _
  obtain ⟨ao, cap, rfl, -, -, -, -⟩ := hb
  by_cases h0 : parseE l = 0
  · obtain ⟨hh0, hh1, hh2, hh3, hh4, hh5⟩ := headP_ok h0
    rw [hh4]
    rw [h0] at HCu ⊢
    have HRd := fun vh w hb => Lib.hid (ipRead_any vh (headP l) w hb hh1 (by omega))
    have HCl := fun vp w hb => Lib.hid (clone_any vp (parseP l) w hb (by omega))
    rw [show (readH (headP l)).opts = (headP l).drop 20 from rfl]
    clear hh0 hh1 hh2 hh3 hh4 hh5 h0
    generalize headP l = hd at *
    generalize parseP l = p at *
    have hq := readH_eq hd
    rw [hq] at HRd ⊢
    clear hq
    generalize hd.drop 20 = ops at *
    generalize ((fld hd 1 1 : Nat) : Int) = f0 at *
    generalize ((fld hd 4 2 : Nat) : Int) = f1 at *
    generalize ((fld hd 6 2 : Nat) : Int) / 8192 = f2 at *
    generalize ((fld hd 6 2 : Nat) : Int) % 8192 = f3 at *
    generalize ((fld hd 8 1 : Nat) : Int) = f4 at *
    generalize ((fld hd 9 1 : Nat) : Int) = f5 at *
    generalize ((fld hd 12 4 : Nat) : Int) = f6 at *
    generalize ((fld hd 16 4 : Nat) : Int) = f7 at *
    go_enter Try.func15, Try.ntmps15
    go_wp2_with fail
    refine (HCu _ (HB.out.same (Same.alloc w _))).out.mono ?_
    rintro e w1 ⟨vh, vp, rfl, hvh, hvp, hs1⟩
    have HS1 := Lib.hid ((Same.alloc w _).trans hs1)
    have HR1 := Lib.hid (hs1.block HK.out)
    have HVH := Lib.hid hvh
    have HVP := Lib.hid hvp
    obtain ⟨ah, ch, hvhe, -, -, -, -⟩ := hvh
    obtain ⟨ap, cp, hvpe, -, -, -, -⟩ := hvp
    obtain ⟨nh, hnh⟩ : ∃ nh, hd.length = nh := ⟨_, rfl⟩
    obtain ⟨np, hnp⟩ : ∃ np, p.length = np := ⟨_, rfl⟩
    rw [hnh] at hvhe
    rw [hnp] at hvpe
    subst hvhe hvpe
    clear hs1 hnh hnp
    go_wp2_with fail
    have HP : Hid ((w1.alloc (pktO (.slice ah nh ch) (.slice ap np cp))).heap[w1.heap.size]? = some (pktO (.slice ah nh ch) (.slice ap np cp))) := heap_alloc_new w1 _
    have HS2 : Hid (Same w1 (w1.alloc (pktO (.slice ah nh ch) (.slice ap np cp)))) := Same.alloc w1 _
    have HRP : Hid (w.heap.size ≠ w1.heap.size) := by
      have := (Array.getElem?_eq_some_iff.1 HR1.out).1
      show _ ≠ _; omega
    generalize (w1.alloc (pktO (.slice ah nh ch) (.slice ap np cp))) = w2 at *
    have HPd : Hid (w2.drew.heap[w1.heap.size]? = some (pktO (.slice ah nh ch) (.slice ap np cp))) := HP.out
    have HSd : Hid (Same w1 w2.drew) := HS2.out.drew
    refine reg_start (fun w' => w'.heap[w1.heap.size]? = some (pktO (.slice ah nh ch) (.slice ap np cp))) (by kernel_rfl) ?_
    refine reg_take (v := ?_) 0 (some 16) rfl rfl (by kernel_rfl) (fun _ _ _ h => h) (by kernel_rfl) (HPd.out) ?_ ?_
    rotate_left
    · (intro w' hw'; obtain ⟨d0, d1⟩ := pkt_at hw'; go_simp; try with_reducible rfl)
    try simp only [Act.put, List.setIfInBounds_toArray, List.set_cons_zero, List.set_cons_succ]
    refine reg_take (v := ?_) 1 (some 17) rfl rfl (by kernel_rfl) (fun _ _ _ h => h) (by kernel_rfl) (HPd.out) ?_ ?_
    rotate_left
    · (intro w' hw'; obtain ⟨d0, d1⟩ := pkt_at hw'; go_simp; try with_reducible rfl)
    try simp only [Act.put, List.setIfInBounds_toArray, List.set_cons_zero, List.set_cons_succ]
    refine reg_take (v := ?_) 3 (some 19) rfl rfl (by kernel_rfl) (fun _ _ _ h => h) (by kernel_rfl) (HPd.out) ?_ ?_
    rotate_left
    · (intro w' hw'; obtain ⟨d0, d1⟩ := pkt_at hw'; go_simp; try with_reducible rfl)
    try simp only [Act.put, List.setIfInBounds_toArray, List.set_cons_zero, List.set_cons_succ]
    refine reg_take (v := ?_) 4 (some 20) rfl rfl (by kernel_rfl) (fun _ _ _ h => h) (by kernel_rfl) (HPd.out) ?_ ?_
    rotate_left
    · (intro w' hw'; obtain ⟨d0, d1⟩ := pkt_at hw'; go_simp; try with_reducible rfl)
    try simp only [Act.put, List.setIfInBounds_toArray, List.set_cons_zero, List.set_cons_succ]
    refine reg_one 2 rfl (by kernel_rfl) (by kernel_rfl) ?_
    go_simp
    refine ((HRd _ _ (HVH.out.same HSd.out)).out).mono ?_
    rintro e u1 ⟨vo, rfl, ho1, hs1⟩
    have hS1 := hs1.block (HPd.out)
    have HO1 := Lib.hid ho1
    clear ho1
    obtain ⟨vao, vcap, hvv, -, -, -, -⟩ := HO1.out.bs
    obtain ⟨no, hno⟩ : ∃ no, ops.length = no := ⟨_, rfl⟩
    rw [hno] at hvv
    subst hvv
    clear hno
    refine ⟨hS1, ?_⟩
    try simp only [Act.put, List.setIfInBounds_toArray, List.set_cons_zero, List.set_cons_succ]
    refine reg_one 5 rfl (by kernel_rfl) (by kernel_rfl) ?_
    go_simp
    refine ((HCl _ _ (HVP.out.same (HSd.out.trans hs1))).out).mono ?_
    rintro e u2 ⟨vc, rfl, ho2, hs2⟩
    have hS2 := hs2.block (hS1)
    have HO2 := Lib.hid ho2
    clear ho2
    refine ⟨hS2, ?_⟩
    try simp only [Act.put, List.setIfInBounds_toArray, List.set_cons_zero, List.set_cons_succ]
    refine reg_one 6 rfl (by kernel_rfl) (by kernel_rfl) ?_
    refine wp_store_row 31 _ _ (by rfl) w.heap.size #[.int .i64 f0, .int .i64 f1, .int .i64 f2, .int .i64 f3, .int .i64 f4, .int .i64 f5, .int .u32 f6, .int .u32 f7, .slice vao no vcap] (by rfl) (by rfl) 31 _ (((HSd.out.trans hs1).trans hs2).block HR1.out) (by kernel_rfl) (by rfl) (hd_one ⟨f0, f1, f2, f3, f4, f5, f6, f7, []⟩ _ _ _) ?_
    have hS6 := (setRow_other u2 w.heap.size w1.heap.size #[.int .i64 f0, .int .i64 f1, .int .i64 f2, .int .i64 f3, .int .i64 f4, .int .i64 f5, .int .u32 f6, .int .u32 f7, .slice vao no vcap] (Ne.symm HRP.out)).trans hS2
    refine ⟨hS6, ?_⟩
    try simp only [Act.put]
    refine reg_take (v := ?_) 7 (some 3) rfl rfl (by kernel_rfl) (fun _ _ _ h => h) (by kernel_rfl) (hS6) ?_ ?_
    rotate_left
    · (intro w' hw'; obtain ⟨d0, d1⟩ := pkt_at hw'; go_simp; try with_reducible rfl)
    try simp only [Act.put, List.setIfInBounds_toArray, List.set_cons_zero, List.set_cons_succ]
    refine reg_take (v := ?_) 8 (some 4) rfl rfl (by kernel_rfl) (fun _ _ _ h => h) (by kernel_rfl) (hS6) ?_ ?_
    rotate_left
    · (intro w' hw'; obtain ⟨d0, d1⟩ := pkt_at hw'; go_simp; try with_reducible rfl)
    try simp only [Act.put, List.setIfInBounds_toArray, List.set_cons_zero, List.set_cons_succ]
    refine reg_done (by kernel_rfl) ?_
    have HS2' : Hid (Same w u2) := HS1.out.trans ((HSd.out.trans hs1).trans hs2)
    have HRu := Lib.hid (((HSd.out.trans hs1).trans hs2).block HR1.out)
    have HR2 := Lib.hid (setRow_heap u2 w.heap.size _ #[.int .i64 f0, .int .i64 f1, .int .i64 f2, .int .i64 f3, .int .i64 f4, .int .i64 f5, .int .u32 f6, .int .u32 f7, .slice vao no vcap] _ _ HRu.out)
    have HM2 := Lib.hid (Mod.setRow w.heap.size u2 #[.int .i64 f0, .int .i64 f1, .int .i64 f2, .int .i64 f3, .int .i64 f4, .int .i64 f5, .int .u32 f6, .int .u32 f7, .slice vao no vcap])
    have HSw := Lib.hid (below_setRow HS2'.out (Nat.le_refl w.heap.size) #[.int .i64 f0, .int .i64 f1, .int .i64 f2, .int .i64 f3, .int .i64 f4, .int .i64 f5, .int .u32 f6, .int .u32 f7, .slice vao no vcap])
    have hR1 : w.heap.size < w1.heap.size := (Array.getElem?_eq_some_iff.1 HR1.out).1
    have hz1 : w1.heap.size ≤ w2.drew.heap.size := HSd.out.size
    have hz2 : w1.heap.size ≤ u1.heap.size := (HSd.out.trans hs1).size
    have HOa : Hid (OwnB u2 w.heap.size (.slice vao no vcap) ops) := (HO1.out.same hs2).mono (by omega)
    have HOb : Hid (OwnB u2 w.heap.size vc p) := HO2.out.mono (by omega)
    have HNa : Hid ((Value.slice vao no vcap).ownBlock ≠ some w.heap.size) := fun he => by have := (HO1.out.lt _ he).1; omega
    have HNb : Hid (vc.ownBlock ≠ some w.heap.size) := fun he => by have := (HO2.out.lt _ he).1; omega
    clear hS2 hS6 hs1 hs2 hR1 hz1 hz2
    go_wp2_with fail
    generalize u2.setRow w.heap.size _ = u3 at *
    obtain ⟨c0, c1, c2, c3, c4, c5, c6, c7, c8⟩ := HdAt.of (h := ⟨f0, f1, f2, f3, f4, f5, f6, f7, ops⟩) (vo := .slice vao no vcap) HR2.out
    refine bodyPost_ret (v := parV ⟨f0, f1, f2, f3, f4, f5, f6, f7, ops⟩ (.slice vao no vcap) vc 0) ?_ rfl ⟨_, vc, rfl, OwnB.mod HM2.out HNa.out HOa.out, OwnB.mod HM2.out HNb.out HOb.out, HSw.out⟩
    simp [results, Try.results15, go_sem, c0, c1, c2, c3, c4, c5, c6, c7, c8]
  · have e1 : parseH l = zeroH := if_neg h0
    have e2 : parseP l = [] := if_neg h0
    rw [e1, e2]
    have hE : (parseE l != 0) = true := by simpa using h0
    generalize parseE l = E at *
    generalize headP l = hd at *
    clear h0 e1 e2
    go_enter Try.func15, Try.ntmps15
    go_wp2_with fail
    refine (HCu _ (HB.out.same (Same.alloc w _))).out.mono ?_
    rintro e w1 ⟨vh, vp, rfl, hvh, hvp, hs1⟩
    have HS1 := Lib.hid ((Same.alloc w _).trans hs1)
    have HR1 := Lib.hid (hs1.block HK.out)
    obtain ⟨ah, ch, rfl, -, -, -, -⟩ := hvh
    obtain ⟨ap, cp, rfl, -, -, -, -⟩ := hvp
    generalize hd.length = nh at *
    generalize (parseP l).length = np at *
    clear hs1
    have HA := Lib.hid (Same.alloc w1 (pktO (.slice ah nh ch) (.slice ap np cp)))
    have HR2 := Lib.hid (HA.out.block HR1.out)
    obtain ⟨c0, c1, c2, c3, c4, c5, c6, c7, c8⟩ := HdAt.of (h := zeroH) (vo := nilV) HR2.out
    have hfz : ∀ j, (w1.alloc (pktO (.slice ah nh ch) (.slice ap np cp))).frozen? ⟨w.heap.size, j, none⟩ = false := fun j => by simp only [World.frozen?, HR2.out]; simp
    go_wp2_with fail
    have HH := hd_set 31 (w1.alloc (pktO (.slice ah nh ch) (.slice ap np cp))) w.heap.size zeroH ⟨0, 0, 0, 0, 0, 0, 0, 0, []⟩ nilV (.slice none 0 0) HR2.out
    dsimp only [hdSet] at HH
    have HM := Lib.hid HH.1
    have HE := Lib.hid HH.2
    clear HH c0 c1 c2 c3 c4 c5 c6 c7 c8 hfz
    generalize World.setCell _ ⟨w.heap.size, 8, none⟩ (.slice none 0 0) = E2 at *
    have HSE : Hid (Same w E2) := Below.trans (HS1.out.trans HA.out) (HM.out.below (Nat.le_refl _) (HS1.out.trans HA.out).size)
    obtain ⟨c0, c1, c2, c3, c4, c5, c6, c7, c8⟩ := HdAt.of (h := ⟨0, 0, 0, 0, 0, 0, 0, 0, []⟩) (vo := nilV) HE.out
    refine bodyPost_ret (v := parV zeroH nilV nilV E) ?_ rfl ⟨_, _, rfl, OwnB.nil _ _, OwnB.nil _ _, HSE.out⟩
    simp [results, Try.results15, go_sem, c0, c1, c2, c3, c4, c5, c6, c7, c8, zeroH]
end Go.Proofs.Yteoleblnhcnpkaa
