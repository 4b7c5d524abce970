/- sort.insertionSort_func where less makes memory. No condition. -/
import Derived.Test.YtldiagjnpkpepaaSoB
namespace Go.Proofs.Ytldiagjnpkpepaa
open Go.Proofs Go.Shelf Go.RowKit Go.Lib Go.Sort
set_option linter.unusedVariables false
set_option maxRecDepth 1000000
variable {P : Program} {ρ : Ren} {α : Type} [Inhabited α]

set_option maxHeartbeats 2000000 in
theorem insertionM (L : LaysGg.n26 P ρ) (enc : α → List Value) (k : Nat) (hk : ∀ x, (enc x).length = k) (lt : α → α → Bool) (g : Nat) (lb : Array Value) (sf : Nat) (sb : Array Value) (blk off a b : Nat) (d : Array α) (w : World)
    (eg : ∀ args w, (callFunc g args).run P w = .ok (.enter g args) w) (hless : LessM P g lb enc k lt blk off d.size w) (hswap : SwapSwapsK P sf sb enc k blk off d.size)
    (hH : HoldsK enc k w blk off d) (hblk : blk < w.heap.size) (hab : a ≤ b) (hb : b ≤ d.size) (hsz : d.size < 4611686018427387904) :
    Calls P (ρ.f 26) #[.agg #[.func (.func g) #[] lb, .func (.func sf) #[] sb], .int .i64 a, .int .i64 b] w fun e w' => e = .returned (.tuple #[]) ∧ SWD enc k w blk off (Sort.insertionSort lt d a b) w' := by
  have mixed := L.mixed; have t0 := L.t0; have a0 := L.a0; have z0 := L.z0; have v0 := L.v0; have t3 := L.t3; have a3 := L.a3; have z3 := L.z3; have v3 := L.v3; have t4 := L.t4; have a4 := L.a4; have z4 := L.z4; have v4 := L.v4; have t26 := L.t26; have a26 := L.a26; have z26 := L.z26; have v26 := L.v26; have t37 := L.t37; have a37 := L.a37; have z37 := L.z37; have v37 := L.v37; have t44 := L.t44; have a44 := L.a44; have z44 := L.z44; have v44 := L.v44
  have u44 := run_underlying L.t44
  have HL := Lib.hid hless
  have HS := Lib.hid hswap
  have HH := Lib.hid hH
  have A0 : AtB enc k w blk off g lb sf sb d (w.alloc (.cells #[.func (.func g) #[] lb, .func (.func sf) #[] sb] (ρ.t 44))) := AtB.start hH
  clear hless hswap hH
  go_enter L.f26, BodyGg.n26_ntmps ρ
  go_wp2
  generalize w.alloc (.cells #[.func (.func g) #[] lb, .func (.func sf) #[] sb] (ρ.t 44)) = W0 at *
  go_loopg [6] (b + 1 - a) (fun kx vi wr => ∃ (i : Nat) (dk : Array α), vi = .int .i64 i ∧ a < i ∧ i ≤ b + 1 ∧ b + 1 - i ≤ kx ∧ dk.size = d.size ∧ AtB enc k w blk off g lb sf sb dk wr ∧ Hid (insOuter lt a b i dk = insOuter lt a b (a + 1) d))
  case atStart => exact ⟨a + 1, d, by go_num, by omega, by omega, by omega, rfl, A0, rfl⟩
  case round =>
    obtain ⟨i, dk, rfl, hai, hib, hkx, hsk, A, HO⟩ := hrel
    by_cases hlt : i < b
    · have hltz : (i : Int) < b := by omega
      go_wp2
      go_loopg [7] (i - a) (fun ky vj wr2 => ∃ (j : Nat) (dj : Array α), vj = .int .i64 j ∧ a ≤ j ∧ j ≤ i ∧ j - a ≤ ky ∧ dj.size = d.size ∧ AtB enc k w blk off g lb sf sb dj wr2 ∧ Hid (insInner lt a j dj = insInner lt a i dk))
      case atStart => exact ⟨i, dk, rfl, by omega, Nat.le_refl _, Nat.le_refl _, hsk, A, rfl⟩
      case round =>
        obtain ⟨j, dj, rfl, haj, hji, hky, hsj, B, HI⟩ := hrel
        have c0 := B.c0
        have c1 := B.c1
        by_cases hja : a < j
        · have hjz : (a : Int) < j := by omega
          have hl := B.less HL.out hsj j (j - 1) (by omega) (by omega) j ((j : Int) - 1) rfl (by omega)
          clear A A0
          cases hlv : lt dj[j]! dj[j - 1]! with
          | true =>
            rw [hlv] at hl
            go_wp2_with (go_at_fn g; refine hl.mono ?_; rintro e w' ⟨rfl, B1⟩; have c1' := B1.c1)
            obtain ⟨w2, hs, B2⟩ := B1.swaps HS.out hk hblk HH.out rfl hsj j (j - 1) (by omega) (by omega) j ((j : Int) - 1) rfl (by omega)
            rw [hs, Oper.upon_value]
            clear hs
            go_wp2
            go_roundg (j - 1 - a)
            case measure => omega
            case rel => exact ⟨j - 1, swp dj j (j - 1), by congr 1 <;> omega, by omega, by omega, Nat.le_refl _, by rw [size_swp]; exact hsj, B2, (show Hid _ from by rw [← HI.out, insInner_go lt a j dj hja hlv]; exact rfl)⟩
          | false =>
            rw [hlv] at hl
            go_wp2_with (go_at_fn g; refine hl.mono ?_; rintro e w' ⟨rfl, B1⟩)
            go_roundg (b + 1 - (i + 1))
            case measure => omega
            case rel => exact ⟨i + 1, dj, by go_num, by omega, by omega, Nat.le_refl _, hsj, B1, (show Hid _ from by rw [← HO.out, insOuter_go _ _ _ _ _ hlt, ← HI.out, insInner_stop _ _ _ _ (Or.inr hlv)]; exact rfl)⟩
        · have hjz : ¬ (a : Int) < j := by omega
          go_wp2
          go_roundg (b + 1 - (i + 1))
          case measure => omega
          case rel => exact ⟨i + 1, dj, by go_num, by omega, by omega, Nat.le_refl _, hsj, B, (show Hid _ from by rw [← HO.out, insOuter_go _ _ _ _ _ hlt, ← HI.out, insInner_stop _ _ _ _ (Or.inl (by omega))]; exact rfl)⟩
    · have hge : ¬ (i : Int) < b := by omega
      go_wp2
      go_end0
      exact ⟨rfl, by unfold Sort.insertionSort; rw [← HO.out, insOuter_stop _ _ _ _ _ hlt]; exact A.sw⟩
end Go.Proofs.Ytldiagjnpkpepaa
