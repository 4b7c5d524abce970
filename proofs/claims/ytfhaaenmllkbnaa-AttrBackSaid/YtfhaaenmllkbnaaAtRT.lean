/- Contract of the document's own take of layer 7. No condition beyond what it names. -/
import Derived.Test.YtfhaaenmllkbnaaAtRP
namespace Go.Proofs.Ytfhaaenmllkbnaa
open Go.RowKit
set_option linter.unusedVariables false

/-- what take leaves -/
def TookA (w : World) (A : Nat) (a : At) (vp : Value) (r : Rw) (e : Ending) (w' : World) : Prop :=
  ∃ vp', e = .returned (.int .i64 (takeE r)) ∧ w'.heap[A]? = some (atO 38 (takeS a r) vp') ∧ Rs intLay w' vp' (takeS a r).path ∧ (∀ g, vp'.ownBlock = some g → g ≠ A ∧ (vp.ownBlock = some g ∨ w.heap.size ≤ g)) ∧ Kept [A] w w'

theorem takeS_bad {a : At} {r : Rw} (h : takeE r ≠ 0) : takeS a r = a := by unfold takeS; rw [if_pos h]
theorem fl_want (fl want : Int) (h : 0 ≤ fl ∧ fl ≤ 255) (hw : want = 64 ∨ want = 128) : ((if extF fl then fl - 16 else fl) ≠ want) ↔ ¬ (fl = want ∨ fl = want + 16) := by
  by_cases k : extF fl
  · rw [if_pos k]; unfold extF at k; omega
  · rw [if_neg k]; unfold extF at k; omega

set_option maxRecDepth 100000 in
set_option maxHeartbeats 1000000 in
theorem take_unk (A : Nat) (a : At) (vp : Value) (fl ty : Int) (vl : List UInt8) (vo : Value) (w : World) (hk : w.heap[A]? = some (atO 38 a vp)) (hp : Rs intLay w vp a.path) (hpA : ∀ g, vp.ownBlock = some g → g ≠ A)
    (hb : Bs w vo vl) (hf : 0 ≤ fl ∧ fl ≤ 255) (hl : (vl.length : Int) ≤ 1000000) (hty : ¬ knownT ty) :
    Calls Try.prog 35 #[.pointer (some ⟨A, 0, none⟩), rwV ⟨fl, ty, vl⟩ vo] w (TookA w A a vp ⟨fl, ty, vl⟩) := by
  have HK := Lib.hid hk
  have HP := Lib.hid hp
  have HPA := Lib.hid hpA
  have HB := Lib.hid hb
  have hAl := (Array.getElem?_eq_some_iff.1 hk).1
  obtain ⟨m, hm⟩ : ∃ m, vl.length = m := ⟨_, rfl⟩
  have HVM := Lib.hid hm
  obtain ⟨so, sc, rfl⟩ := hb.form0 hm
  have H0 := Lib.hid (Same.alloc w (rwO 66 ⟨fl, ty, vl⟩ (.slice so m sc)))
  have HA := Lib.hid (H0.out.block HK.out)
  have HPo := Lib.hid (HP.out.same H0.out)
  have HKp : Hid (Kept [A] w (w.alloc (rwO 66 ⟨fl, ty, vl⟩ (.slice so m sc)))) := (Kept.refl [A] w).same H0.out
  obtain ⟨c0, c1, c2⟩ := RwAt.of (heap_alloc_new w (rwO 66 ⟨fl, ty, vl⟩ (.slice so m sc)))
  clear hk hp hpA hb
  have t1 : (ty == 1) = false := by unfold knownT at hty; simp; omega
  have t2 : (ty == 2) = false := by unfold knownT at hty; simp; omega
  have t3 : (ty == 3) = false := by unfold knownT at hty; simp; omega
  have t4 : (ty == 4) = false := by unfold knownT at hty; simp; omega
  have hz := i64_and128 fl
  by_cases h7 : fl / 128 % 2 = 1
  · rw [if_pos h7] at hz
    have he : takeE ⟨fl, ty, vl⟩ = 0 := by unfold takeE; rw [if_pos hty, if_pos h7]
    have hs : takeS a ⟨fl, ty, vl⟩ = a := by
      unfold takeS
      rw [if_neg (by rw [he]; decide)]
      unfold knownT at hty
      simp only
      rw [if_neg (by omega), if_neg (by omega), if_neg (by omega), if_neg (by omega)]
    have HE := Lib.hid (And.intro he hs)
    clear he hs hty h7
    go_enter Try.func35, Try.ntmps35
    go_wp2_with fail
    go_ret
    exact ⟨vp, by rw [HE.out.1]; rfl, by rw [HE.out.2]; exact HA.out, by rw [HE.out.2]; exact HPo.out, (fun g hg => ⟨HPA.out g hg, .inl hg⟩), HKp.out⟩
  · rw [if_neg h7] at hz
    have he : takeE ⟨fl, ty, vl⟩ = 2 := by unfold takeE; rw [if_pos hty, if_neg h7]
    have HE := Lib.hid he
    clear he hty h7
    go_enter Try.func35, Try.ntmps35
    go_wp2_with fail
    go_ret
    exact ⟨vp, by rw [HE.out]; rfl, by rw [takeS_bad (by rw [HE.out]; decide)]; exact HA.out, by rw [takeS_bad (by rw [HE.out]; decide)]; exact HPo.out, (fun g hg => ⟨HPA.out g hg, .inl hg⟩), HKp.out⟩

set_option maxRecDepth 100000 in
set_option maxHeartbeats 1000000 in
theorem take_1 (A : Nat) (a : At) (vp : Value) (fl ty : Int) (vl : List UInt8) (vo : Value) (w : World) (hk : w.heap[A]? = some (atO 38 a vp)) (hp : Rs intLay w vp a.path) (hpA : ∀ g, vp.ownBlock = some g → g ≠ A)
    (hb : Bs w vo vl) (hf : 0 ≤ fl ∧ fl ≤ 255) (hl : (vl.length : Int) ≤ 1000000) (hty : ty = 1) :
    Calls Try.prog 35 #[.pointer (some ⟨A, 0, none⟩), rwV ⟨fl, ty, vl⟩ vo] w (TookA w A a vp ⟨fl, ty, vl⟩) := by
  subst hty
  have HK := Lib.hid hk
  have HP := Lib.hid hp
  have HPA := Lib.hid hpA
  have HB := Lib.hid hb
  have hAl := (Array.getElem?_eq_some_iff.1 hk).1
  obtain ⟨m, hm⟩ : ∃ m, vl.length = m := ⟨_, rfl⟩
  have HVM := Lib.hid hm
  obtain ⟨so, sc, rfl⟩ := hb.form0 hm
  have H0 := Lib.hid (Same.alloc w (rwO 66 ⟨fl, 1, vl⟩ (.slice so m sc)))
  have HA := Lib.hid (H0.out.block HK.out)
  have HPo := Lib.hid (HP.out.same H0.out)
  have HKp : Hid (Kept [A] w (w.alloc (rwO 66 ⟨fl, 1, vl⟩ (.slice so m sc)))) := (Kept.refl [A] w).same H0.out
  obtain ⟨c0, c1, c2⟩ := RwAt.of (heap_alloc_new w (rwO 66 ⟨fl, 1, vl⟩ (.slice so m sc)))
  clear hk hp hpA hb
  have hz := i64_andNot16 fl hf.1 hf.2
  have hw := fl_want fl 64 hf (by decide)
  obtain ⟨q, hq⟩ : ∃ q, (if extF fl then fl - 16 else fl) = q := ⟨_, rfl⟩
  rw [hq] at hz hw
  by_cases hq4 : q = 64
  · have hfl : fl = 64 ∨ fl = 64 + 16 := Classical.byContradiction fun k => hw.2 k hq4
    subst hq4
    have hkn : takeE ⟨fl, 1, vl⟩ = (if 0 < sizeT 1 ∧ vl.length ≠ sizeT 1 then 5 else if (1 : Int) = 1 then (if 2 < nmb vl 0 1 then 6 else 0)
      else if (1 : Int) = 2 then (if (pathL vl).isNone then 11 else 0) else if (1 : Int) = 3 then (if hopOk (nmb vl 0 4) then 0 else 8) else 0) := by
      unfold takeE
      rw [if_neg (by simp only; decide), if_neg (by simp only; exact fun h => h hfl)]
    clear hw hq hfl
    by_cases hsz : m = 1
    · have HGt := fun w hb => Lib.hid (rGet_in (.slice so m sc) vl 0 1 w hb (by decide) (by rw [hm, hsz]; decide))
      rw [show numOf ((vl.drop 0).take 1) = nmb vl 0 1 from rfl] at HGt
      have hn := nmb_lt vl 0 1
      rw [if_neg (by rw [hm, hsz]; decide)] at hkn
      simp only [Int.reduceEq, if_true, if_false] at hkn
      obtain ⟨n, hnn⟩ : ∃ n, nmb vl 0 1 = n := ⟨_, rfl⟩
      rw [hnn] at HGt hn
      have HNN := Lib.hid hnn
      have HKN := Lib.hid hkn
      have HSM := Lib.hid hsz
      have m1 : (m : Int) = 1 := by omega
      have HBa := Lib.hid (HB.out.same H0.out)
      have n1 : (n : Int) < 256 := by omega
      clear hkn hm hsz
      by_cases hn2 : 2 < n
      · have he : takeE ⟨fl, 1, vl⟩ = 6 := by rw [HKN.out, HNN.out, if_pos hn2]
        have HE := Lib.hid he
        have n2 : (2 : Int) < n := by omega
        clear he
        go_enter Try.func35, Try.ntmps35
        go_wp2_with fail
        refine (HGt _ HBa.out).out.mono ?_
        rintro e w1 ⟨rfl, rfl⟩
        go_wp2_with fail
        go_ret
        exact ⟨vp, by rw [HE.out]; rfl, by rw [takeS_bad (by rw [HE.out]; decide)]; exact HA.out, by rw [takeS_bad (by rw [HE.out]; decide)]; exact HPo.out, (fun g hg => ⟨HPA.out g hg, .inl hg⟩), HKp.out⟩
      · have he : takeE ⟨fl, 1, vl⟩ = 0 := by rw [HKN.out, HNN.out, if_neg hn2]
        have hs : takeS a ⟨fl, 1, vl⟩ = { a with origin := n } := by unfold takeS; rw [if_neg (by rw [he]; decide), if_pos rfl, HNN.out]
        have HE := Lib.hid (And.intro he hs)
        have n2 : ¬ (2 : Int) < n := by omega
        clear he hs
        go_enter Try.func35, Try.ntmps35
        go_wp2_with fail
        refine (HGt _ HBa.out).out.mono ?_
        rintro e w1 ⟨rfl, rfl⟩
        generalize (w.alloc (rwO 66 ⟨fl, 1, vl⟩ (.slice so m sc))) = W1 at *
        obtain ⟨b0, b1, b2, b3, b4⟩ := AtAt.of HA.out
        have hfz : ∀ j, W1.frozen? ⟨A, j, none⟩ = false := fun j => by simp only [World.frozen?, HA.out]; simp
        go_wp2_with fail
        go_ret
        have HMd : Mod A W1 (World.setCell W1 ⟨A, 0, none⟩ (.int .i64 (n : Int))) := Mod.setCell _ _ _ _
        exact ⟨vp, by rw [HE.out.1]; rfl, by rw [HE.out.2]; simp [World.setCell, Array.getElem?_modify, HA.out], by rw [HE.out.2]; exact HPo.out.mod HMd (fun h => HPA.out _ h rfl), (fun g hg => ⟨HPA.out g hg, .inl hg⟩), HKp.out.mod HMd (.inl (by simp))⟩
    · have hne : ((m : Int) != 1) = true := by simp; omega
      have he : takeE ⟨fl, 1, vl⟩ = 5 := by rw [hkn, if_pos ⟨by decide, by rw [hm]; exact hsz⟩]
      have HE := Lib.hid he
      clear he hkn hsz
      go_enter Try.func35, Try.ntmps35
      go_wp2_with fail
      go_ret
      exact ⟨vp, by rw [HE.out]; rfl, by rw [takeS_bad (by rw [HE.out]; decide)]; exact HA.out, by rw [takeS_bad (by rw [HE.out]; decide)]; exact HPo.out, (fun g hg => ⟨HPA.out g hg, .inl hg⟩), HKp.out⟩
  · have hne : (q != 64) = true := by simpa using hq4
    have he : takeE ⟨fl, 1, vl⟩ = 4 := by unfold takeE; rw [if_neg (by simp only; decide), if_pos (by simp only; exact hw.1 hq4)]
    have HE := Lib.hid he
    clear he hw hq hq4
    go_enter Try.func35, Try.ntmps35
    go_wp2_with fail
    go_ret
    exact ⟨vp, by rw [HE.out]; rfl, by rw [takeS_bad (by rw [HE.out]; decide)]; exact HA.out, by rw [takeS_bad (by rw [HE.out]; decide)]; exact HPo.out, (fun g hg => ⟨HPA.out g hg, .inl hg⟩), HKp.out⟩

set_option maxRecDepth 100000 in
set_option maxHeartbeats 1000000 in
theorem take_3 (A : Nat) (a : At) (vp : Value) (fl ty : Int) (vl : List UInt8) (vo : Value) (w : World) (hk : w.heap[A]? = some (atO 38 a vp)) (hp : Rs intLay w vp a.path) (hpA : ∀ g, vp.ownBlock = some g → g ≠ A)
    (hb : Bs w vo vl) (hf : 0 ≤ fl ∧ fl ≤ 255) (hl : (vl.length : Int) ≤ 1000000) (hty : ty = 3) :
    Calls Try.prog 35 #[.pointer (some ⟨A, 0, none⟩), rwV ⟨fl, ty, vl⟩ vo] w (TookA w A a vp ⟨fl, ty, vl⟩) := by
  subst hty
  have HK := Lib.hid hk
  have HP := Lib.hid hp
  have HPA := Lib.hid hpA
  have HB := Lib.hid hb
  have hAl := (Array.getElem?_eq_some_iff.1 hk).1
  obtain ⟨m, hm⟩ : ∃ m, vl.length = m := ⟨_, rfl⟩
  have HVM := Lib.hid hm
  obtain ⟨so, sc, rfl⟩ := hb.form0 hm
  have H0 := Lib.hid (Same.alloc w (rwO 66 ⟨fl, 3, vl⟩ (.slice so m sc)))
  have HA := Lib.hid (H0.out.block HK.out)
  have HPo := Lib.hid (HP.out.same H0.out)
  have HKp : Hid (Kept [A] w (w.alloc (rwO 66 ⟨fl, 3, vl⟩ (.slice so m sc)))) := (Kept.refl [A] w).same H0.out
  obtain ⟨c0, c1, c2⟩ := RwAt.of (heap_alloc_new w (rwO 66 ⟨fl, 3, vl⟩ (.slice so m sc)))
  clear hk hp hpA hb
  have hz := i64_andNot16 fl hf.1 hf.2
  have hw := fl_want fl 64 hf (by decide)
  obtain ⟨q, hq⟩ : ∃ q, (if extF fl then fl - 16 else fl) = q := ⟨_, rfl⟩
  rw [hq] at hz hw
  by_cases hq4 : q = 64
  · have hfl : fl = 64 ∨ fl = 64 + 16 := Classical.byContradiction fun k => hw.2 k hq4
    subst hq4
    have hkn : takeE ⟨fl, 3, vl⟩ = (if 0 < sizeT 3 ∧ vl.length ≠ sizeT 3 then 5 else if (3 : Int) = 1 then (if 2 < nmb vl 0 1 then 6 else 0)
      else if (3 : Int) = 2 then (if (pathL vl).isNone then 11 else 0) else if (3 : Int) = 3 then (if hopOk (nmb vl 0 4) then 0 else 8) else 0) := by
      unfold takeE
      rw [if_neg (by simp only; decide), if_neg (by simp only; exact fun h => h hfl)]
    clear hw hq hfl
    by_cases hsz : m = 4
    · have HGt := fun w hb => Lib.hid (rGet_in (.slice so m sc) vl 0 4 w hb (by decide) (by rw [hm, hsz]; decide))
      rw [show numOf ((vl.drop 0).take 4) = nmb vl 0 4 from rfl] at HGt
      have hn := nmb_lt vl 0 4
      rw [if_neg (by rw [hm, hsz]; decide)] at hkn
      simp only [Int.reduceEq, if_true, if_false] at hkn
      obtain ⟨n, hnn⟩ : ∃ n, nmb vl 0 4 = n := ⟨_, rfl⟩
      rw [hnn] at HGt hn
      have HNN := Lib.hid hnn
      have HKN := Lib.hid hkn
      have HSM := Lib.hid hsz
      have m1 : (m : Int) = 4 := by omega
      have HBa := Lib.hid (HB.out.same H0.out)
      have n1 : (n : Int) < 4294967296 := by omega
      clear hkn hm hsz
      have HHp := fun w => Lib.hid (rHop_any (n : Int) (by omega) w)
      by_cases hn2 : hopOk (n : Int)
      · rw [decide_eq_true hn2] at HHp
        have he : takeE ⟨fl, 3, vl⟩ = 0 := by rw [HKN.out, HNN.out, if_pos hn2]
        have hs : takeS a ⟨fl, 3, vl⟩ = { a with hop := n } := by unfold takeS; rw [if_neg (by rw [he]; decide), if_neg (by simp), if_neg (by simp), if_pos rfl, HNN.out]
        have HE := Lib.hid (And.intro he hs)
        clear he hs hn2
        go_enter Try.func35, Try.ntmps35
        go_wp2_with fail
        refine (HGt _ HBa.out).out.mono ?_
        rintro e w1 ⟨rfl, rfl⟩
        go_wp2_with fail
        refine (HHp _).out.mono ?_
        rintro e w2 ⟨rfl, rfl⟩
        generalize (w.alloc (rwO 66 ⟨fl, 3, vl⟩ (.slice so m sc))) = W1 at *
        obtain ⟨b0, b1, b2, b3, b4⟩ := AtAt.of HA.out
        have hfz : ∀ j, W1.frozen? ⟨A, j, none⟩ = false := fun j => by simp only [World.frozen?, HA.out]; simp
        go_wp2_with fail
        go_ret
        have HMd : Mod A W1 (World.setCell W1 ⟨A, 2, none⟩ (.int .u32 (n : Int))) := Mod.setCell _ _ _ _
        exact ⟨vp, by rw [HE.out.1]; rfl, by rw [HE.out.2]; simp [World.setCell, Array.getElem?_modify, HA.out], by rw [HE.out.2]; exact HPo.out.mod HMd (fun h => HPA.out _ h rfl), (fun g hg => ⟨HPA.out g hg, .inl hg⟩), HKp.out.mod HMd (.inl (by simp))⟩
      · rw [decide_eq_false hn2] at HHp
        have he : takeE ⟨fl, 3, vl⟩ = 8 := by rw [HKN.out, HNN.out, if_neg hn2]
        have HE := Lib.hid he
        clear he hn2
        go_enter Try.func35, Try.ntmps35
        go_wp2_with fail
        refine (HGt _ HBa.out).out.mono ?_
        rintro e w1 ⟨rfl, rfl⟩
        go_wp2_with fail
        refine (HHp _).out.mono ?_
        rintro e w2 ⟨rfl, rfl⟩
        go_wp2_with fail
        go_ret
        exact ⟨vp, by rw [HE.out]; rfl, by rw [takeS_bad (by rw [HE.out]; decide)]; exact HA.out, by rw [takeS_bad (by rw [HE.out]; decide)]; exact HPo.out, (fun g hg => ⟨HPA.out g hg, .inl hg⟩), HKp.out⟩
    · have hne : ((m : Int) != 4) = true := by simp; omega
      have he : takeE ⟨fl, 3, vl⟩ = 5 := by rw [hkn, if_pos ⟨by decide, by rw [hm]; exact hsz⟩]
      have HE := Lib.hid he
      clear he hkn hsz
      go_enter Try.func35, Try.ntmps35
      go_wp2_with fail
      go_ret
      exact ⟨vp, by rw [HE.out]; rfl, by rw [takeS_bad (by rw [HE.out]; decide)]; exact HA.out, by rw [takeS_bad (by rw [HE.out]; decide)]; exact HPo.out, (fun g hg => ⟨HPA.out g hg, .inl hg⟩), HKp.out⟩
  · have hne : (q != 64) = true := by simpa using hq4
    have he : takeE ⟨fl, 3, vl⟩ = 4 := by unfold takeE; rw [if_neg (by simp only; decide), if_pos (by simp only; exact hw.1 hq4)]
    have HE := Lib.hid he
    clear he hw hq hq4
    go_enter Try.func35, Try.ntmps35
    go_wp2_with fail
    go_ret
    exact ⟨vp, by rw [HE.out]; rfl, by rw [takeS_bad (by rw [HE.out]; decide)]; exact HA.out, by rw [takeS_bad (by rw [HE.out]; decide)]; exact HPo.out, (fun g hg => ⟨HPA.out g hg, .inl hg⟩), HKp.out⟩

set_option maxRecDepth 100000 in
set_option maxHeartbeats 1000000 in
theorem take_4 (A : Nat) (a : At) (vp : Value) (fl ty : Int) (vl : List UInt8) (vo : Value) (w : World) (hk : w.heap[A]? = some (atO 38 a vp)) (hp : Rs intLay w vp a.path) (hpA : ∀ g, vp.ownBlock = some g → g ≠ A)
    (hb : Bs w vo vl) (hf : 0 ≤ fl ∧ fl ≤ 255) (hl : (vl.length : Int) ≤ 1000000) (hty : ty = 4) :
    Calls Try.prog 35 #[.pointer (some ⟨A, 0, none⟩), rwV ⟨fl, ty, vl⟩ vo] w (TookA w A a vp ⟨fl, ty, vl⟩) := by
  subst hty
  have HK := Lib.hid hk
  have HP := Lib.hid hp
  have HPA := Lib.hid hpA
  have HB := Lib.hid hb
  have hAl := (Array.getElem?_eq_some_iff.1 hk).1
  obtain ⟨m, hm⟩ : ∃ m, vl.length = m := ⟨_, rfl⟩
  have HVM := Lib.hid hm
  obtain ⟨so, sc, rfl⟩ := hb.form0 hm
  have H0 := Lib.hid (Same.alloc w (rwO 66 ⟨fl, 4, vl⟩ (.slice so m sc)))
  have HA := Lib.hid (H0.out.block HK.out)
  have HPo := Lib.hid (HP.out.same H0.out)
  have HKp : Hid (Kept [A] w (w.alloc (rwO 66 ⟨fl, 4, vl⟩ (.slice so m sc)))) := (Kept.refl [A] w).same H0.out
  obtain ⟨c0, c1, c2⟩ := RwAt.of (heap_alloc_new w (rwO 66 ⟨fl, 4, vl⟩ (.slice so m sc)))
  clear hk hp hpA hb
  have hz := i64_andNot16 fl hf.1 hf.2
  have hw := fl_want fl 128 hf (by decide)
  obtain ⟨q, hq⟩ : ∃ q, (if extF fl then fl - 16 else fl) = q := ⟨_, rfl⟩
  rw [hq] at hz hw
  by_cases hq4 : q = 128
  · have hfl : fl = 128 ∨ fl = 128 + 16 := Classical.byContradiction fun k => hw.2 k hq4
    subst hq4
    have hkn : takeE ⟨fl, 4, vl⟩ = (if 0 < sizeT 4 ∧ vl.length ≠ sizeT 4 then 5 else if (4 : Int) = 1 then (if 2 < nmb vl 0 1 then 6 else 0)
      else if (4 : Int) = 2 then (if (pathL vl).isNone then 11 else 0) else if (4 : Int) = 3 then (if hopOk (nmb vl 0 4) then 0 else 8) else 0) := by
      unfold takeE
      rw [if_neg (by simp only; decide), if_neg (by simp only; exact fun h => h hfl)]
    clear hw hq hfl
    by_cases hsz : m = 4
    · have HGt := fun w hb => Lib.hid (rGet_in (.slice so m sc) vl 0 4 w hb (by decide) (by rw [hm, hsz]; decide))
      rw [show numOf ((vl.drop 0).take 4) = nmb vl 0 4 from rfl] at HGt
      have hn := nmb_lt vl 0 4
      rw [if_neg (by rw [hm, hsz]; decide)] at hkn
      simp only [Int.reduceEq, if_false] at hkn
      obtain ⟨n, hnn⟩ : ∃ n, nmb vl 0 4 = n := ⟨_, rfl⟩
      rw [hnn] at HGt hn
      have HNN := Lib.hid hnn
      have HKN := Lib.hid hkn
      have HSM := Lib.hid hsz
      have m1 : (m : Int) = 4 := by omega
      have HBa := Lib.hid (HB.out.same H0.out)
      have n1 : (n : Int) < 4294967296 := by omega
      clear hkn hm hsz
      have he : takeE ⟨fl, 4, vl⟩ = 0 := HKN.out
      have hs : takeS a ⟨fl, 4, vl⟩ = { a with med := n, has := true } := by unfold takeS; rw [if_neg (by rw [he]; decide), if_neg (by simp), if_neg (by simp), if_neg (by simp), if_pos rfl, HNN.out]
      have HE := Lib.hid (And.intro he hs)
      clear he hs
      go_enter Try.func35, Try.ntmps35
      go_wp2_with fail
      refine (HGt _ HBa.out).out.mono ?_
      rintro e w1 ⟨rfl, rfl⟩
      generalize (w.alloc (rwO 66 ⟨fl, 4, vl⟩ (.slice so m sc))) = W1 at *
      obtain ⟨b0, b1, b2, b3, b4⟩ := AtAt.of HA.out
      have hfz : ∀ j, W1.frozen? ⟨A, j, none⟩ = false := fun j => by simp only [World.frozen?, HA.out]; simp
      have hfz2 : ∀ j, (World.setCell W1 ⟨A, 3, none⟩ (.int .i64 (n : Int))).frozen? ⟨A, j, none⟩ = false := fun j => by simp [World.frozen?, World.setCell, Array.getElem?_modify, HA.out]
      obtain ⟨d0, d1, d2, d3, d4⟩ : AtAt (World.setCell W1 ⟨A, 3, none⟩ (.int .i64 (n : Int))) A ⟨a.origin, a.path, a.hop, n, a.has⟩ vp := AtAt.of (t := 38) (by simp [World.setCell, Array.getElem?_modify, HA.out])
      go_wp2_with fail
      go_ret
      have HMd : Mod A W1 (World.setCell (World.setCell W1 ⟨A, 3, none⟩ (.int .i64 (n : Int))) ⟨A, 4, none⟩ (.bool true)) := (Mod.setCell _ _ _ _).trans (Mod.setCell _ _ _ _)
      exact ⟨vp, by rw [HE.out.1]; rfl, by rw [HE.out.2]; simp [World.setCell, Array.getElem?_modify, HA.out], by rw [HE.out.2]; exact HPo.out.mod HMd (fun h => HPA.out _ h rfl), (fun g hg => ⟨HPA.out g hg, .inl hg⟩), HKp.out.mod HMd (.inl (by simp))⟩
    · have hne : ((m : Int) != 4) = true := by simp; omega
      have he : takeE ⟨fl, 4, vl⟩ = 5 := by rw [hkn, if_pos ⟨by decide, by rw [hm]; exact hsz⟩]
      have HE := Lib.hid he
      clear he hkn hsz
      go_enter Try.func35, Try.ntmps35
      go_wp2_with fail
      go_ret
      exact ⟨vp, by rw [HE.out]; rfl, by rw [takeS_bad (by rw [HE.out]; decide)]; exact HA.out, by rw [takeS_bad (by rw [HE.out]; decide)]; exact HPo.out, (fun g hg => ⟨HPA.out g hg, .inl hg⟩), HKp.out⟩
  · have hne : (q != 128) = true := by simpa using hq4
    have he : takeE ⟨fl, 4, vl⟩ = 4 := by unfold takeE; rw [if_neg (by simp only; decide), if_pos (by simp only; exact hw.1 hq4)]
    have HE := Lib.hid he
    clear he hw hq hq4
    go_enter Try.func35, Try.ntmps35
    go_wp2_with fail
    go_ret
    exact ⟨vp, by rw [HE.out]; rfl, by rw [takeS_bad (by rw [HE.out]; decide)]; exact HA.out, by rw [takeS_bad (by rw [HE.out]; decide)]; exact HPo.out, (fun g hg => ⟨HPA.out g hg, .inl hg⟩), HKp.out⟩

set_option maxRecDepth 100000 in
set_option maxHeartbeats 1000000 in
theorem take_2 (A : Nat) (a : At) (vp : Value) (fl ty : Int) (vl : List UInt8) (vo : Value) (w : World) (hk : w.heap[A]? = some (atO 38 a vp)) (hp : Rs intLay w vp a.path) (hpA : ∀ g, vp.ownBlock = some g → g ≠ A)
    (hb : Bs w vo vl) (hf : 0 ≤ fl ∧ fl ≤ 255) (hl : (vl.length : Int) ≤ 1000000) (hty : ty = 2) :
    Calls Try.prog 35 #[.pointer (some ⟨A, 0, none⟩), rwV ⟨fl, ty, vl⟩ vo] w (TookA w A a vp ⟨fl, ty, vl⟩) := by
  subst hty
  have HK := Lib.hid hk
  have HP := Lib.hid hp
  have HPA := Lib.hid hpA
  have HB := Lib.hid hb
  have hAl := (Array.getElem?_eq_some_iff.1 hk).1
  obtain ⟨m, hm⟩ : ∃ m, vl.length = m := ⟨_, rfl⟩
  have HVM := Lib.hid hm
  obtain ⟨so, sc, rfl⟩ := hb.form0 hm
  have H0 := Lib.hid (Same.alloc w (rwO 66 ⟨fl, 2, vl⟩ (.slice so m sc)))
  have HA := Lib.hid (H0.out.block HK.out)
  have HPo := Lib.hid (HP.out.same H0.out)
  have HKp : Hid (Kept [A] w (w.alloc (rwO 66 ⟨fl, 2, vl⟩ (.slice so m sc)))) := (Kept.refl [A] w).same H0.out
  obtain ⟨c0, c1, c2⟩ := RwAt.of (heap_alloc_new w (rwO 66 ⟨fl, 2, vl⟩ (.slice so m sc)))
  clear hk hp hpA hb
  have hz := i64_andNot16 fl hf.1 hf.2
  have hw := fl_want fl 64 hf (by decide)
  obtain ⟨q, hq⟩ : ∃ q, (if extF fl then fl - 16 else fl) = q := ⟨_, rfl⟩
  rw [hq] at hz hw
  by_cases hq4 : q = 64
  · have hfl : fl = 64 ∨ fl = 64 + 16 := Classical.byContradiction fun k => hw.2 k hq4
    subst hq4
    have hkn : takeE ⟨fl, 2, vl⟩ = (if 0 < sizeT 2 ∧ vl.length ≠ sizeT 2 then 5 else if (2 : Int) = 1 then (if 2 < nmb vl 0 1 then 6 else 0)
      else if (2 : Int) = 2 then (if (pathL vl).isNone then 11 else 0) else if (2 : Int) = 3 then (if hopOk (nmb vl 0 4) then 0 else 8) else 0) := by
      unfold takeE
      rw [if_neg (by simp only; decide), if_neg (by simp only; exact fun h => h hfl)]
    clear hw hq hfl
    rw [if_neg (by simp [sizeT])] at hkn
    simp only [Int.reduceEq, if_true, if_false] at hkn
    have HGt := fun w hb => Lib.hid (rGet_in (.slice so m sc) vl 0 0 w hb (by decide) (by omega))
    have HPt := fun w hb => Lib.hid (rPath7_any (.slice so m sc) vl w hb (by omega))
    have HBa := Lib.hid (HB.out.same H0.out)
    rw [show numOf ((vl.drop 0).take 0) = 0 from by simp [numOf]] at HGt
    cases hpl : pathL vl with
    | none =>
      rw [hpl] at HPt hkn
      have HE : Hid (takeE ⟨fl, 2, vl⟩ = 11) := hkn
      clear hkn hpl
      go_enter Try.func35, Try.ntmps35
      go_wp2_with fail
      refine (HGt _ HBa.out).out.mono ?_
      rintro e w1 ⟨rfl, rfl⟩
      go_wp2_with fail
      refine (HPt _ HBa.out).out.mono ?_
      rintro e w2 ⟨v2, rfl, ho2, hs2⟩
      have HS2 := Lib.hid hs2
      clear ho2 hs2
      go_wp2_with fail
      go_ret
      exact ⟨vp, by rw [HE.out]; rfl, by rw [takeS_bad (by rw [HE.out]; decide)]; exact HS2.out.block HA.out, by rw [takeS_bad (by rw [HE.out]; decide)]; exact HPo.out.same HS2.out, (fun g hg => ⟨HPA.out g hg, .inl hg⟩), HKp.out.same HS2.out⟩
    | some ns =>
      rw [hpl] at HPt hkn
      have he : takeE ⟨fl, 2, vl⟩ = 0 := hkn
      have hs : takeS a ⟨fl, 2, vl⟩ = { a with path := ns } := by unfold takeS; rw [if_neg (by rw [he]; decide), if_neg (by simp), if_pos rfl]; simp only; rw [hpl]; rfl
      have HE := Lib.hid (And.intro he hs)
      clear hkn hpl he hs
      go_enter Try.func35, Try.ntmps35
      go_wp2_with fail
      refine (HGt _ HBa.out).out.mono ?_
      rintro e w1 ⟨rfl, rfl⟩
      go_wp2_with fail
      refine (HPt _ HBa.out).out.mono ?_
      rintro e w2 ⟨v2, rfl, ho2, hs2⟩
      have HS2 := Lib.hid hs2
      have HO2 : Hid (OwnR intLay w2 (w.alloc (rwO 66 ⟨fl, 2, vl⟩ (.slice so m sc))).heap.size v2 ns) := ho2
      have HA2 := Lib.hid (hs2.block HA.out)
      obtain ⟨p1, p2, hv2⟩ := ho2.rs.form rfl
      rw [show (some ns : Option (List Int)).getD [] = ns from rfl] at hv2
      subst hv2
      clear ho2 hs2
      obtain ⟨b0, b1, b2, b3, b4⟩ := AtAt.of HA2.out
      have hfz : ∀ j, w2.frozen? ⟨A, j, none⟩ = false := fun j => by simp only [World.frozen?, HA2.out]; simp
      have hfz2 := HA2.out
      go_wp2_with fail
      go_ret
      have HMd : Mod A w2 (World.setCell w2 ⟨A, 1, none⟩ (.slice p1 ns.length p2)) := Mod.setCell _ _ _ _
      have hne : ∀ g, (Value.slice p1 ns.length p2).ownBlock = some g → g ≠ A := fun g hg => by have := (HO2.out.lt g hg).1; simp at this; omega
      exact ⟨_, by rw [HE.out.1]; rfl, by rw [HE.out.2]; simp [World.setCell, Array.getElem?_modify, HA2.out], by rw [HE.out.2]; exact HO2.out.rs.mod HMd (fun h => hne _ h rfl), (fun g hg => ⟨hne g hg, .inr (by have := (HO2.out.lt g hg).1; simp at this; omega)⟩), (HKp.out.same HS2.out).mod HMd (.inl (by simp))⟩
  · have hne : (q != 64) = true := by simpa using hq4
    have he : takeE ⟨fl, 2, vl⟩ = 4 := by unfold takeE; rw [if_neg (by simp only; decide), if_pos (by simp only; exact hw.1 hq4)]
    have HE := Lib.hid he
    clear he hw hq hq4
    go_enter Try.func35, Try.ntmps35
    go_wp2_with fail
    go_ret
    exact ⟨vp, by rw [HE.out]; rfl, by rw [takeS_bad (by rw [HE.out]; decide)]; exact HA.out, by rw [takeS_bad (by rw [HE.out]; decide)]; exact HPo.out, (fun g hg => ⟨HPA.out g hg, .inl hg⟩), HKp.out⟩

theorem rTake7_any (A : Nat) (a : At) (vp : Value) (r : Rw) (vo : Value) (w : World) (hk : w.heap[A]? = some (atO 38 a vp)) (hp : Rs intLay w vp a.path) (hpA : ∀ g, vp.ownBlock = some g → g ≠ A)
    (hb : Bs w vo r.value) (hf : 0 ≤ r.flags ∧ r.flags ≤ 255) (hl : (r.value.length : Int) ≤ 1000000) :
    Calls Try.prog 35 #[.pointer (some ⟨A, 0, none⟩), rwV r vo] w (TookA w A a vp r) := by
  obtain ⟨fl, ty, vl⟩ := r
  by_cases h1 : ty = 1
  · exact take_1 A a vp fl ty vl vo w hk hp hpA hb hf hl h1
  by_cases h2 : ty = 2
  · exact take_2 A a vp fl ty vl vo w hk hp hpA hb hf hl h2
  by_cases h3 : ty = 3
  · exact take_3 A a vp fl ty vl vo w hk hp hpA hb hf hl h3
  by_cases h4 : ty = 4
  · exact take_4 A a vp fl ty vl vo w hk hp hpA hb hf hl h4
  · exact take_unk A a vp fl ty vl vo w hk hp hpA hb hf hl (by unfold knownT; omega)
end Go.Proofs.Ytfhaaenmllkbnaa
