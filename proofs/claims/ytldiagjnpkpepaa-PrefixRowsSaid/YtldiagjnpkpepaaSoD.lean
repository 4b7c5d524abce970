/- sort.siftDown_func where less makes memory. No condition. -/
import Derived.Test.YtldiagjnpkpepaaSoB
import Derived.Shelf.SlSortFuncK.SiftDownK
namespace Go.Proofs.Ytldiagjnpkpepaa
open Go.Proofs Go.Shelf Go.RowKit Go.Lib Go.Sort
set_option linter.unusedVariables false
set_option maxRecDepth 1000000
variable {P : Program} {ρ : Ren} {α : Type} [Inhabited α]

set_option maxHeartbeats 2000000 in
theorem siftDownM (L : LaysGg.n34 P ρ) (enc : α → List Value) (k : Nat) (hk : ∀ x, (enc x).length = k) (lt : α → α → Bool) (g : Nat) (lb : Array Value) (sf : Nat) (sb : Array Value) (blk off lo hi first : Nat) (d : Array α) (w : World)
    (eg : ∀ args w, (callFunc g args).run P w = .ok (.enter g args) w) (hless : LessM P g lb enc k lt blk off d.size w) (hswap : SwapSwapsK P sf sb enc k blk off d.size)
    (hH : HoldsK enc k w blk off d) (hblk : blk < w.heap.size) (hlo : lo ≤ hi) (hb : first + hi ≤ d.size) (hsz : d.size < 4611686018427387904) :
    Calls P (ρ.f 34) #[.agg #[.func (.func g) #[] lb, .func (.func sf) #[] sb], .int .i64 lo, .int .i64 hi, .int .i64 first] w fun e w' => e = .returned (.tuple #[]) ∧ SWD enc k w blk off (siftDown lt hi first lo d) w' := by
  have mixed := L.mixed; have t0 := L.t0; have a0 := L.a0; have z0 := L.z0; have v0 := L.v0; have t3 := L.t3; have a3 := L.a3; have z3 := L.z3; have v3 := L.v3; have t4 := L.t4; have a4 := L.a4; have z4 := L.z4; have v4 := L.v4; have t26 := L.t26; have a26 := L.a26; have z26 := L.z26; have v26 := L.v26; have t37 := L.t37; have a37 := L.a37; have z37 := L.z37; have v37 := L.v37; have t44 := L.t44; have a44 := L.a44; have z44 := L.z44; have v44 := L.v44
  have u44 := run_underlying L.t44
  have HL := Lib.hid hless
  have HS := Lib.hid hswap
  have HH := Lib.hid hH
  have A0 : AtB enc k w blk off g lb sf sb d (w.alloc (.cells #[.func (.func g) #[] lb, .func (.func sf) #[] sb] (ρ.t 44))) := AtB.start hH
  clear hless hswap hH
  go_enter L.f34, BodyGg.n34_ntmps ρ
  go_wp2
  generalize w.alloc (.cells #[.func (.func g) #[] lb, .func (.func sf) #[] sb] (ρ.t 44)) = W0 at *
  go_loopg [8] (hi - lo) (fun kx s8 wr => ∃ (root : Nat) (dk : Array α), s8 = .int .i64 root ∧ root ≤ hi ∧ hi - root ≤ kx ∧ dk.size = d.size ∧ AtB enc k w blk off g lb sf sb dk wr ∧ Hid (siftDown lt hi first root dk = siftDown lt hi first lo d))
  case atStart => exact ⟨lo, d, rfl, hlo, Nat.le_refl _, rfl, A0, rfl⟩
  case round =>
    obtain ⟨root, dk, rfl, hr, hkx, hds, B, HE⟩ := hrel
    have c0 := B.c0
    have c1 := B.c1
    clear A0
    by_cases h0 : hi ≤ 2 * root + 1
    · have h0z : (hi : Int) ≤ 2 * (root : Int) + 1 := by omega
      go_wp2
      go_end0
      exact ⟨rfl, by rw [← HE.out, sd_end lt dk h0]; exact B.sw⟩
    · have h0z : ¬ ((hi : Int) ≤ 2 * (root : Int) + 1) := by omega
      by_cases h1 : 2 * root + 2 < hi
      · have h1z : 2 * (root : Int) + 1 + 1 < (hi : Int) := by omega
        have hl1 := B.less HL.out hds (first + (2 * root + 1)) (first + (2 * root + 2)) (by omega) (by omega) ((first : Int) + (2 * (root : Int) + 1)) ((first : Int) + (2 * (root : Int) + 1) + 1) (by omega) (by omega)
        cases hL : lt dk[first + (2 * root + 1)]! dk[first + (2 * root + 2)]! with
        | true =>
          rw [hL] at hl1
          cases hG : lt dk[first + root]! dk[first + (2 * root + 2)]! with
          | true =>
            have hl2 : ∀ W, AtB enc k w blk off g lb sf sb dk W → Calls P g (#[.int .i64 ((first : Int) + (root : Int)), .int .i64 ((first : Int) + (2 * (root : Int) + 1 + 1))] ++ lb) W fun e W' => e = .returned (.bool true) ∧ AtB enc k w blk off g lb sf sb dk W' := fun W h => by
              have := h.less HL.out hds (first + root) (first + (2 * root + 2)) (by omega) (by omega) ((first : Int) + (root : Int)) ((first : Int) + (2 * (root : Int) + 1 + 1)) (by omega) (by omega)
              rw [hG] at this; exact this
            go_wp2_with (first | (go_at_fn g; refine hl1.mono ?_; rintro e w1 ⟨rfl, B1⟩; have d0 := B1.c0; have d1 := B1.c1) | (go_at_fn g; refine (hl2 _ B1).mono ?_; rintro e w2 ⟨rfl, B2⟩; have e0 := B2.c0; have e1 := B2.c1))
            obtain ⟨w3, hs, B3⟩ := B2.swaps HS.out hk hblk HH.out rfl hds (first + root) (first + (2 * root + 2)) (by omega) (by omega) ((first : Int) + (root : Int)) ((first : Int) + (2 * (root : Int) + 1 + 1)) (by omega) (by omega)
            rw [hs, Oper.upon_value]
            clear hs
            go_wp2
            go_roundg (hi - (2 * root + 2))
            case measure => omega
            case rel => exact ⟨2 * root + 2, swp dk (first + root) (first + (2 * root + 2)), by go_num, by omega, Nat.le_refl _, by rw [size_swp]; exact hds, B3, (show Hid _ from by rw [← HE.out, sd_right_go lt dk h1 hL hG]; exact rfl)⟩
          | false =>
            have hl2 : ∀ W, AtB enc k w blk off g lb sf sb dk W → Calls P g (#[.int .i64 ((first : Int) + (root : Int)), .int .i64 ((first : Int) + (2 * (root : Int) + 1 + 1))] ++ lb) W fun e W' => e = .returned (.bool false) ∧ AtB enc k w blk off g lb sf sb dk W' := fun W h => by
              have := h.less HL.out hds (first + root) (first + (2 * root + 2)) (by omega) (by omega) ((first : Int) + (root : Int)) ((first : Int) + (2 * (root : Int) + 1 + 1)) (by omega) (by omega)
              rw [hG] at this; exact this
            go_wp2_with (first | (go_at_fn g; refine hl1.mono ?_; rintro e w1 ⟨rfl, B1⟩; have d0 := B1.c0; have d1 := B1.c1) | (go_at_fn g; refine (hl2 _ B1).mono ?_; rintro e w2 ⟨rfl, B2⟩; have e0 := B2.c0; have e1 := B2.c1))
            (try simp only [Exit.inBlock, Exit.then]); refine bodyPost_ret (results_none rfl _ _ _) rfl ?_
            exact ⟨rfl, by rw [← HE.out, sd_right_stop lt dk h1 hL hG]; exact B2.sw⟩
        | false =>
          rw [hL] at hl1
          cases hG : lt dk[first + root]! dk[first + (2 * root + 1)]! with
          | true =>
            have hl2 : ∀ W, AtB enc k w blk off g lb sf sb dk W → Calls P g (#[.int .i64 ((first : Int) + (root : Int)), .int .i64 ((first : Int) + (2 * (root : Int) + 1))] ++ lb) W fun e W' => e = .returned (.bool true) ∧ AtB enc k w blk off g lb sf sb dk W' := fun W h => by
              have := h.less HL.out hds (first + root) (first + (2 * root + 1)) (by omega) (by omega) ((first : Int) + (root : Int)) ((first : Int) + (2 * (root : Int) + 1)) (by omega) (by omega)
              rw [hG] at this; exact this
            go_wp2_with (first | (go_at_fn g; refine hl1.mono ?_; rintro e w1 ⟨rfl, B1⟩; have d0 := B1.c0; have d1 := B1.c1) | (go_at_fn g; refine (hl2 _ B1).mono ?_; rintro e w2 ⟨rfl, B2⟩; have e0 := B2.c0; have e1 := B2.c1))
            obtain ⟨w3, hs, B3⟩ := B2.swaps HS.out hk hblk HH.out rfl hds (first + root) (first + (2 * root + 1)) (by omega) (by omega) ((first : Int) + (root : Int)) ((first : Int) + (2 * (root : Int) + 1)) (by omega) (by omega)
            rw [hs, Oper.upon_value]
            clear hs
            go_wp2
            go_roundg (hi - (2 * root + 1))
            case measure => omega
            case rel => exact ⟨2 * root + 1, swp dk (first + root) (first + (2 * root + 1)), by go_num, by omega, Nat.le_refl _, by rw [size_swp]; exact hds, B3, (show Hid _ from by rw [← HE.out, sd_left_go lt dk (by omega) (fun _ => hL) hG]; exact rfl)⟩
          | false =>
            have hl2 : ∀ W, AtB enc k w blk off g lb sf sb dk W → Calls P g (#[.int .i64 ((first : Int) + (root : Int)), .int .i64 ((first : Int) + (2 * (root : Int) + 1))] ++ lb) W fun e W' => e = .returned (.bool false) ∧ AtB enc k w blk off g lb sf sb dk W' := fun W h => by
              have := h.less HL.out hds (first + root) (first + (2 * root + 1)) (by omega) (by omega) ((first : Int) + (root : Int)) ((first : Int) + (2 * (root : Int) + 1)) (by omega) (by omega)
              rw [hG] at this; exact this
            go_wp2_with (first | (go_at_fn g; refine hl1.mono ?_; rintro e w1 ⟨rfl, B1⟩; have d0 := B1.c0; have d1 := B1.c1) | (go_at_fn g; refine (hl2 _ B1).mono ?_; rintro e w2 ⟨rfl, B2⟩; have e0 := B2.c0; have e1 := B2.c1))
            (try simp only [Exit.inBlock, Exit.then]); refine bodyPost_ret (results_none rfl _ _ _) rfl ?_
            exact ⟨rfl, by rw [← HE.out, sd_left_stop lt dk (by omega) (fun _ => hL) hG]; exact B2.sw⟩
      · have h1z : ¬ (2 * (root : Int) + 1 + 1 < (hi : Int)) := by omega
        cases hG : lt dk[first + root]! dk[first + (2 * root + 1)]! with
        | true =>
          have hl2 : ∀ W, AtB enc k w blk off g lb sf sb dk W → Calls P g (#[.int .i64 ((first : Int) + (root : Int)), .int .i64 ((first : Int) + (2 * (root : Int) + 1))] ++ lb) W fun e W' => e = .returned (.bool true) ∧ AtB enc k w blk off g lb sf sb dk W' := fun W h => by
            have := h.less HL.out hds (first + root) (first + (2 * root + 1)) (by omega) (by omega) ((first : Int) + (root : Int)) ((first : Int) + (2 * (root : Int) + 1)) (by omega) (by omega)
            rw [hG] at this; exact this
          go_wp2_with (go_at_fn g; refine (hl2 _ B).mono ?_; rintro e w2 ⟨rfl, B2⟩; have e0 := B2.c0; have e1 := B2.c1)
          obtain ⟨w3, hs, B3⟩ := B2.swaps HS.out hk hblk HH.out rfl hds (first + root) (first + (2 * root + 1)) (by omega) (by omega) ((first : Int) + (root : Int)) ((first : Int) + (2 * (root : Int) + 1)) (by omega) (by omega)
          rw [hs, Oper.upon_value]
          clear hs
          go_wp2
          go_roundg (hi - (2 * root + 1))
          case measure => omega
          case rel => exact ⟨2 * root + 1, swp dk (first + root) (first + (2 * root + 1)), by go_num, by omega, Nat.le_refl _, by rw [size_swp]; exact hds, B3, (show Hid _ from by rw [← HE.out, sd_left_go lt dk (by omega) (fun h => absurd h h1) hG]; exact rfl)⟩
        | false =>
          have hl2 : ∀ W, AtB enc k w blk off g lb sf sb dk W → Calls P g (#[.int .i64 ((first : Int) + (root : Int)), .int .i64 ((first : Int) + (2 * (root : Int) + 1))] ++ lb) W fun e W' => e = .returned (.bool false) ∧ AtB enc k w blk off g lb sf sb dk W' := fun W h => by
            have := h.less HL.out hds (first + root) (first + (2 * root + 1)) (by omega) (by omega) ((first : Int) + (root : Int)) ((first : Int) + (2 * (root : Int) + 1)) (by omega) (by omega)
            rw [hG] at this; exact this
          go_wp2_with (go_at_fn g; refine (hl2 _ B).mono ?_; rintro e w2 ⟨rfl, B2⟩; have e0 := B2.c0; have e1 := B2.c1)
          (try simp only [Exit.inBlock, Exit.then]); refine bodyPost_ret (results_none rfl _ _ _) rfl ?_
          exact ⟨rfl, by rw [← HE.out, sd_left_stop lt dk (by omega) (fun h => absurd h h1) hG]; exact B2.sw⟩
end Go.Proofs.Ytldiagjnpkpepaa
