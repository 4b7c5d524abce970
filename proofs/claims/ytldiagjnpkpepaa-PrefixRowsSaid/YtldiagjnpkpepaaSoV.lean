/- sort.choosePivot_func where less makes memory. No condition. -/
import Derived.Test.YtldiagjnpkpepaaSoC
namespace Go.Proofs.Ytldiagjnpkpepaa
open Go.Proofs Go.Shelf Go.RowKit Go.Lib Go.Sort
set_option linter.unusedVariables false
set_option maxRecDepth 1000000
variable {P : Program} {ρ : Ren} {α : Type} [Inhabited α]

/-- a world on the way within choosePivot_func: its box, its counter -/
structure Pv (enc : α → List Value) (k : Nat) (W : World) (blk off : Nat) (d : Array α) (g : Nat) (lb : Array Value) (sf : Nat) (sb : Array Value) (s : Nat) (V : World) : Prop where
  cnt : Cnt enc k W blk off d (W.heap.size + 1) 0 s V
  b0 : V.cell? ⟨W.heap.size, 0, none⟩ = some (.func (.func g) #[] lb)
  b1 : V.cell? ⟨W.heap.size, 1, none⟩ = some (.func (.func sf) #[] sb)
theorem Pv.sw {enc : α → List Value} {k : Nat} {W : World} {blk off : Nat} {d : Array α} {g : Nat} {lb : Array Value} {sf : Nat} {sb : Array Value} {s : Nat} {V : World} (h : Pv enc k W blk off d g lb sf sb s V) : SWD enc k W blk off d V := h.cnt.sw
theorem Pv.on {enc : α → List Value} {k : Nat} {W : World} {blk off : Nat} {d : Array α} {g : Nat} {lb : Array Value} {sf : Nat} {sb : Array Value} {s t : Nat} {V V' : World} (h : Pv enc k W blk off d g lb sf sb s V) (c : Cnt enc k W blk off d (W.heap.size + 1) 0 t V') (b : But (W.heap.size + 1) V V') :
    Pv enc k W blk off d g lb sf sb t V' := by
  have h1 : W.heap.size < V.heap.size := by have := h.cnt.lt; omega
  have h2 : W.heap.size ≠ W.heap.size + 1 := by omega
  exact ⟨c, (b.2 ⟨W.heap.size, 0, none⟩ h1 h2).trans h.b0, (b.2 ⟨W.heap.size, 1, none⟩ h1 h2).trans h.b1⟩
theorem Pv.start {enc : α → List Value} {k : Nat} {W : World} {blk off : Nat} {d : Array α} {g : Nat} {lb : Array Value} {sf : Nat} {sb : Array Value} {t t3 : TypeId} (hH : HoldsK enc k W blk off d) :
    Pv enc k W blk off d g lb sf sb 0 ((W.alloc (.cells #[.func (.func g) #[] lb, .func (.func sf) #[] sb] t)).alloc (.cells #[.int .i64 0] t3)) := by
  refine ⟨⟨((SWD.start hH).alloc _).alloc _, fun j hj => ?_, by omega, by simp⟩, ?_, ?_⟩
  · have : j = 0 := by simp at hj; omega
    subst this
    exact ⟨by rw [World.cell?_alloc_at _ _ _ _ (by simp)]; rfl, World.frozen?_alloc_at _ _ _ _ (by simp)⟩
  · rw [World.cell?_alloc_past _ _ _ (by simp)]; simp
  · rw [World.cell?_alloc_past _ _ _ (by simp)]; simp

set_option maxHeartbeats 2000000 in
theorem choosePivotM (L : LaysGg.n29 P ρ) (enc : α → List Value) (k : Nat) (lt : α → α → Bool) (g : Nat) (lb : Array Value) (sf : Nat) (sb : Array Value) (blk off a b : Nat) (W : World) (d : Array α)
    (eg : ∀ args w, (callFunc g args).run P w = .ok (.enter g args) w) (hless : LessM P g lb enc k lt blk off d.size W) (hH : HoldsK enc k W blk off d) (hab : a < b) (hb : b ≤ d.size) (hsz : d.size < 4611686018427387904) :
    Calls P (ρ.f 29) #[.agg #[.func (.func g) #[] lb, .func (.func sf) #[] sb], .int .i64 a, .int .i64 b] W fun e w' =>
      e = .returned (.tuple #[.int .i64 (choosePivot lt d a b).1, .int .i64 (hintCode (choosePivot lt d a b).2)]) ∧ SWD enc k W blk off d w' := by
  have mixed := L.mixed; have t0 := L.t0; have a0 := L.a0; have z0 := L.z0; have v0 := L.v0; have t3 := L.t3; have a3 := L.a3; have z3 := L.z3; have v3 := L.v3; have t4 := L.t4; have a4 := L.a4; have z4 := L.z4; have v4 := L.v4; have t26 := L.t26; have a26 := L.a26; have z26 := L.z26; have v26 := L.v26; have t37 := L.t37; have a37 := L.a37; have z37 := L.z37; have v37 := L.v37; have t44 := L.t44; have a44 := L.a44; have z44 := L.z44; have v44 := L.v44; have t53 := L.t53; have a53 := L.a53; have z53 := L.z53; have v53 := L.v53; have t64 := L.t64; have a64 := L.a64; have z64 := L.z64; have v64 := L.v64; have t67 := L.t67; have a67 := L.a67; have z67 := L.z67; have v67 := L.v67
  have u44 := run_underlying L.t44
  have e37 : ∀ args w, (callFunc (ρ.f 37) args).run P w = .ok (.enter (ρ.f 37) args) w := enters_of L.f37 (by kernel_rfl) rfl
  have e38 : ∀ args w, (callFunc (ρ.f 38) args).run P w = .ok (.enter (ρ.f 38) args) w := enters_of L.f38 (by kernel_rfl) rfl
  have S0 := Lib.hid (Pv.start (g := g) (lb := lb) (sf := sf) (sb := sb) (t := ρ.t 44) (t3 := ρ.t 3) hH)
  have MA : Hid (∀ (x s : Nat) V, Pv enc k W blk off d g lb sf sb s V → 1 ≤ x → x + 1 < d.size → s + 3 < 4611686018427387904 → Calls P (ρ.f 37) #[.agg #[.func (.func g) #[] lb, .func (.func sf) #[] sb], .int .i64 x, .pointer (some ⟨W.heap.size + 1, 0, none⟩)] V fun e w' => e = .returned (.int .i64 (medianAdjacent lt d x s).1) ∧ Pv enc k W blk off d g lb sf sb (medianAdjacent lt d x s).2 w') := fun x s V h h1 h2 h3 =>
    (medianAdjacentM (P := P) (ρ := ρ) { L with } enc k lt g lb (.func sf) #[] sb blk off W V d x (W.heap.size + 1) 0 s eg hless h.cnt h1 h2 hsz h3).mono fun _ _ ⟨he, c, b⟩ => ⟨he, h.on c b⟩
  have MD : Hid (∀ (x y z s : Nat) V, Pv enc k W blk off d g lb sf sb s V → x < d.size → y < d.size → z < d.size → s + 3 < 4611686018427387904 → Calls P (ρ.f 38) #[.agg #[.func (.func g) #[] lb, .func (.func sf) #[] sb], .int .i64 x, .int .i64 y, .int .i64 z, .pointer (some ⟨W.heap.size + 1, 0, none⟩)] V fun e w' => e = .returned (.int .i64 (median lt d x y z s).1) ∧ Pv enc k W blk off d g lb sf sb (median lt d x y z s).2 w') := fun x y z s V h h1 h2 h3 h4 =>
    (medianM (P := P) (ρ := ρ) { L with } enc k lt g lb (.func sf) #[] sb blk off W V d x y z (W.heap.size + 1) 0 s eg hless h.cnt h1 h2 h3 h4).mono fun _ _ ⟨he, c, b⟩ => ⟨he, h.on c b⟩
  clear hless hH
  rw [choosePivot_eq]
  obtain ⟨I, hI⟩ : ∃ I : Nat, I = a + (b - a) / 4 * 1 := ⟨_, rfl⟩
  obtain ⟨J, hJ⟩ : ∃ J : Nat, J = a + (b - a) / 4 * 2 := ⟨_, rfl⟩
  obtain ⟨K, hK⟩ : ∃ K : Nat, K = a + (b - a) / 4 * 3 := ⟨_, rfl⟩
  have eI : ((a : Int) + ((b : Int) - (a : Int)) / 4) = (I : Int) := by omega
  have eJ : ((a : Int) + ((b : Int) - (a : Int)) / 4 * 2) = (J : Int) := by omega
  have eK : ((a : Int) + ((b : Int) - (a : Int)) / 4 * 3) = (K : Int) := by omega
  have x0 := S0.out.b0
  have y0 := S0.out.b1
  by_cases h8 : b - a ≥ 8
  · by_cases h50 : b - a ≥ 50
    · obtain ⟨i1, s1, h1⟩ : ∃ i1 s1, medianAdjacent lt d I 0 = (i1, s1) := ⟨_, _, rfl⟩
      obtain ⟨j1, s2, h2⟩ : ∃ j1 s2, medianAdjacent lt d J s1 = (j1, s2) := ⟨_, _, rfl⟩
      obtain ⟨k1, s3, h3⟩ : ∃ k1 s3, medianAdjacent lt d K s2 = (k1, s3) := ⟨_, _, rfl⟩
      obtain ⟨p, s, h4⟩ : ∃ p s, median lt d i1 j1 k1 s3 = (p, s) := ⟨_, _, rfl⟩
      have hraw : rawPivot lt d a b = (p, s) := by simp only [rawPivot, if_pos h8, if_pos h50, ← hI, ← hJ, ← hK, h1, h2, h3, h4]
      have m1 := medianAdjacent_mem lt d I 0; rw [h1] at m1
      have m2 := medianAdjacent_mem lt d J s1; rw [h2] at m2
      have m3 := medianAdjacent_mem lt d K s2; rw [h3] at m3
      have n1 := medianAdjacent_count lt d I 0; rw [h1] at n1
      have n2 := medianAdjacent_count lt d J s1; rw [h2] at n2
      have n3 := medianAdjacent_count lt d K s2; rw [h3] at n3
      simp only [] at m1 m2 m3 n1 n2 n3
      have c1 := fun V h => MA.out I 0 V h (by omega) (by omega) (by omega)
      have c2 := fun V h => MA.out J s1 V h (by omega) (by omega) (by omega)
      have c3 := fun V h => MA.out K s2 V h (by omega) (by omega) (by omega)
      have c4 := fun V h => MD.out i1 j1 k1 s3 V h (by omega) (by omega) (by omega) (by omega)
      rw [h1] at c1; rw [h2] at c2; rw [h3] at c3; rw [h4] at c4
      rw [hraw]
      obtain ⟨Hc, hHc⟩ : ∃ Hc : Int, Hc = hintCode (hintOf s) := ⟨_, rfl⟩
      have hh0 : s = 0 → Hc = 1 := fun h => by rw [hHc, h]; rfl
      have hh12 : s = 12 → Hc = 2 := fun h => by rw [hHc, h]; rfl
      have hhx : s ≠ 0 → s ≠ 12 → Hc = 0 := fun h1 h2 => by rw [hHc]; unfold hintOf; rw [if_neg h1, if_neg h2]; rfl
      show Calls P (ρ.f 29) _ W fun e w' => e = .returned (.tuple #[.int .i64 (p : Int), .int .i64 (hintCode (hintOf s))]) ∧ SWD enc k W blk off d w'
      rw [← hHc]
      clear hHc hraw
      clear h1 h2 h3 h4 MA MD hI hJ hK m1 m2 m3
      go_enter L.f29, BodyGg.n29_ntmps ρ
      go_wp2_with (first
        | (go_at_fn_of (ρ.f 37) (Value.int .i64 (I : Int)); refine (c1 _ S0.out).mono ?_; rintro e w1 ⟨rfl, p1'⟩; have p1 := Lib.hid p1'; have x1 := p1'.b0; have y1 := p1'.b1; obtain ⟨z1, u1⟩ := one_cell p1'.cnt.hs; clear p1')
        | (go_at_fn_of (ρ.f 37) (Value.int .i64 (J : Int)); refine (c2 _ p1.out).mono ?_; rintro e w2 ⟨rfl, p2'⟩; have p2 := Lib.hid p2'; have x2 := p2'.b0; have y2 := p2'.b1; obtain ⟨z2, u2⟩ := one_cell p2'.cnt.hs; clear p2')
        | (go_at_fn_of (ρ.f 37) (Value.int .i64 (K : Int)); refine (c3 _ p2.out).mono ?_; rintro e w3 ⟨rfl, p3'⟩; have p3 := Lib.hid p3'; have x3 := p3'.b0; have y3 := p3'.b1; obtain ⟨z3, u3⟩ := one_cell p3'.cnt.hs; clear p3')
        | (go_at_fn (ρ.f 38); refine (c4 _ p3.out).mono ?_; rintro e w4 ⟨rfl, p4'⟩; have p4 := Lib.hid p4'; have x4 := p4'.b0; have y4 := p4'.b1; obtain ⟨z4, u4⟩ := one_cell p4'.cnt.hs; clear p4'))
      all_goals
        go_ret2
        refine ⟨?_, (p4.out).sw⟩
        first
          | (have e0 : (s : Int) = 0 := of_beq_int (by assumption)
             rw [hh0 (by omega)]; rfl)
          | (have e1 : (s : Int) = 12 := of_beq_int (by assumption)
             rw [hh12 (by omega)]; rfl)
          | (have e0 : (s : Int) ≠ 0 := of_bne_int (by assumption)
             have e1 : (s : Int) ≠ 12 := of_bne_int (by assumption)
             rw [hhx (by omega) (by omega)]; rfl)
          | (rw [hh0 (by omega)]; rfl)
    · obtain ⟨p, s, h4⟩ : ∃ p s, median lt d I J K 0 = (p, s) := ⟨_, _, rfl⟩
      have hraw : rawPivot lt d a b = (p, s) := by simp only [rawPivot, if_pos h8, if_neg h50, ← hI, ← hJ, ← hK, h4]
      have c4 := fun V h => MD.out I J K 0 V h (by omega) (by omega) (by omega) (by omega)
      rw [h4] at c4
      rw [hraw]
      obtain ⟨Hc, hHc⟩ : ∃ Hc : Int, Hc = hintCode (hintOf s) := ⟨_, rfl⟩
      have hh0 : s = 0 → Hc = 1 := fun h => by rw [hHc, h]; rfl
      have hh12 : s = 12 → Hc = 2 := fun h => by rw [hHc, h]; rfl
      have hhx : s ≠ 0 → s ≠ 12 → Hc = 0 := fun h1 h2 => by rw [hHc]; unfold hintOf; rw [if_neg h1, if_neg h2]; rfl
      show Calls P (ρ.f 29) _ W fun e w' => e = .returned (.tuple #[.int .i64 (p : Int), .int .i64 (hintCode (hintOf s))]) ∧ SWD enc k W blk off d w'
      rw [← hHc]
      clear hHc hraw
      clear h4 MA MD hI hJ hK
      go_enter L.f29, BodyGg.n29_ntmps ρ
      go_wp2_with (go_at_fn (ρ.f 38); refine (c4 _ S0.out).mono ?_; rintro e w4 ⟨rfl, p4'⟩; have p4 := Lib.hid p4'; have x4 := p4'.b0; have y4 := p4'.b1; obtain ⟨z4, u4⟩ := one_cell p4'.cnt.hs; clear p4')
      all_goals
        go_ret2
        refine ⟨?_, (p4.out).sw⟩
        first
          | (have e0 : (s : Int) = 0 := of_beq_int (by assumption)
             rw [hh0 (by omega)]; rfl)
          | (have e1 : (s : Int) = 12 := of_beq_int (by assumption)
             rw [hh12 (by omega)]; rfl)
          | (have e0 : (s : Int) ≠ 0 := of_bne_int (by assumption)
             have e1 : (s : Int) ≠ 12 := of_bne_int (by assumption)
             rw [hhx (by omega) (by omega)]; rfl)
          | (rw [hh0 (by omega)]; rfl)
  · obtain ⟨p, hp⟩ : ∃ p : Nat, p = J := ⟨_, rfl⟩
    obtain ⟨s, hs⟩ : ∃ s : Nat, s = 0 := ⟨_, rfl⟩
    have hraw : rawPivot lt d a b = (p, s) := by simp only [rawPivot, if_neg h8, ← hJ, hp, hs]
    rw [hraw]
    obtain ⟨Hc, hHc⟩ : ∃ Hc : Int, Hc = hintCode (hintOf s) := ⟨_, rfl⟩
    have hh0 : s = 0 → Hc = 1 := fun h => by rw [hHc, h]; rfl
    have hh12 : s = 12 → Hc = 2 := fun h => by rw [hHc, h]; rfl
    have hhx : s ≠ 0 → s ≠ 12 → Hc = 0 := fun h1 h2 => by rw [hHc]; unfold hintOf; rw [if_neg h1, if_neg h2]; rfl
    show Calls P (ρ.f 29) _ W fun e w' => e = .returned (.tuple #[.int .i64 (p : Int), .int .i64 (hintCode (hintOf s))]) ∧ SWD enc k W blk off d w'
    rw [← hHc]
    clear hHc hraw
    subst hp
    clear MA MD hI hJ hK
    go_enter L.f29, BodyGg.n29_ntmps ρ
    go_wp2
    all_goals
      go_ret2
      refine ⟨?_, (S0.out).sw⟩
      first
        | (have e0 : (s : Int) = 0 := of_beq_int (by assumption)
           rw [hh0 (by omega)]; rfl)
        | (have e1 : (s : Int) = 12 := of_beq_int (by assumption)
           rw [hh12 (by omega)]; rfl)
        | (have e0 : (s : Int) ≠ 0 := of_bne_int (by assumption)
           have e1 : (s : Int) ≠ 12 := of_bne_int (by assumption)
           rw [hhx (by omega) (by omega)]; rfl)
        | (rw [hh0 (by omega)]; rfl)
end Go.Proofs.Ytldiagjnpkpepaa
