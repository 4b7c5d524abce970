/- sort.heapSort_func where less makes memory. No condition. -/
import Derived.Test.YtldiagjnpkpepaaSoD
import Derived.Shelf.SlSortFuncK.HeapSortK
namespace Go.Proofs.Ytldiagjnpkpepaa
open Go.Proofs Go.Shelf Go.RowKit Go.Lib Go.Sort
set_option linter.unusedVariables false
set_option maxRecDepth 1000000
variable {P : Program} {ρ : Ren} {α : Type} [Inhabited α]

set_option maxHeartbeats 2000000 in
theorem heapSortM (L : LaysGg.n27 P ρ) (enc : α → List Value) (k : Nat) (hk : ∀ x, (enc x).length = k) (lt : α → α → Bool) (g : Nat) (lb : Array Value) (sf : Nat) (sb : Array Value) (blk off a b : Nat) (d : Array α) (w : World)
    (eg : ∀ args w, (callFunc g args).run P w = .ok (.enter g args) w) (hless : LessM P g lb enc k lt blk off d.size w) (hswap : SwapSwapsK P sf sb enc k blk off d.size)
    (hH : HoldsK enc k w blk off d) (hblk : blk < w.heap.size) (hab : a ≤ b) (hb : b ≤ d.size) (hsz : d.size < 4611686018427387904) :
    Calls P (ρ.f 27) #[.agg #[.func (.func g) #[] lb, .func (.func sf) #[] sb], .int .i64 a, .int .i64 b] w fun e w' => e = .returned (.tuple #[]) ∧ SWD enc k w blk off (heapSort lt d a b) w' := by
  have mixed := L.mixed; have t0 := L.t0; have a0 := L.a0; have z0 := L.z0; have v0 := L.v0; have t3 := L.t3; have a3 := L.a3; have z3 := L.z3; have v3 := L.v3; have t4 := L.t4; have a4 := L.a4; have z4 := L.z4; have v4 := L.v4; have t26 := L.t26; have a26 := L.a26; have z26 := L.z26; have v26 := L.v26; have t37 := L.t37; have a37 := L.a37; have z37 := L.z37; have v37 := L.v37; have t44 := L.t44; have a44 := L.a44; have z44 := L.z44; have v44 := L.v44
  have u44 := run_underlying L.t44
  have e34 : ∀ args w, (callFunc (ρ.f 34) args).run P w = .ok (.enter (ρ.f 34) args) w := enters_of L.f34 (by kernel_rfl) rfl
  have ecast : ((b - a : Nat) : Int) = (b : Int) - (a : Int) := by omega
  have HL := Lib.hid hless
  have HS := Lib.hid hswap
  have HH := Lib.hid hH
  have A0 : AtB enc k w blk off g lb sf sb d (w.alloc (.cells #[.func (.func g) #[] lb, .func (.func sf) #[] sb] (ρ.t 44))) := AtB.start hH
  clear hless hswap hH
  go_enter L.f27, BodyGg.n27_ntmps ρ
  go_wp2
  generalize w.alloc (.cells #[.func (.func g) #[] lb, .func (.func sf) #[] sb] (ρ.t 44)) = W0 at *
  go_loopg [9] ((b - a - 1) / 2 + 1) (fun kx s9 wr => s9 = .int .i64 ((kx : Int) - 1) ∧ kx ≤ (b - a - 1) / 2 + 1 ∧ ∃ (dk : Array α), dk.size = d.size ∧ AtB enc k w blk off g lb sf sb dk wr ∧ Hid (heapBuild lt (b - a) a kx dk = heapBuild lt (b - a) a ((b - a - 1) / 2 + 1) d))
  case atStart => exact ⟨by rw [half_start hab], Nat.le_refl _, d, rfl, A0, rfl⟩
  case round =>
    obtain ⟨rfl, hkk, dk, hds, A, HE⟩ := hrel
    have c0 := A.c0
    have c1 := A.c1
    clear A0
    cases gk with
    | zero =>
      have hB : Hid (dk = heapBuild lt (b - a) a ((b - a - 1) / 2 + 1) d) := HE.out
      clear HE hkk
      go_wp2
      go_loopg [10] (b - a) (fun kx s10 wr2 => s10 = .int .i64 ((kx : Int) - 1) ∧ kx ≤ b - a ∧ ∃ (dj : Array α), dj.size = d.size ∧ AtB enc k w blk off g lb sf sb dj wr2 ∧ Hid (heapPop lt a kx dj = heapPop lt a (b - a) dk))
      case atStart => exact ⟨by rw [ecast], Nat.le_refl _, dk, hds, A, rfl⟩
      case round =>
        clear A c0 c1
        obtain ⟨rfl, hkk, dj, hdj, B, HE2⟩ := hrel
        have c0 := B.c0
        have c1 := B.c1
        cases gk with
        | zero =>
          go_wp2
          go_end0
          have e : dj = heapSort lt d a b := by rw [heapSort, ← hB.out, ← HE2.out]; rfl
          rw [← e]
          exact ⟨rfl, B.sw⟩
        | succ kx =>
          obtain ⟨w2, hs, B2⟩ := B.swaps HS.out hk hblk HH.out rfl hdj a (a + kx) (by omega) (by omega) (a : Int) ((a : Int) + (kx : Int)) rfl (by omega)
          have d0 := B2.c0
          have d1 := B2.c1
          have hd2 : (swp dj a (a + kx)).size = d.size := by rw [size_swp]; exact hdj
          have hcall := siftDownM (P := P) (ρ := ρ) { L with } enc k hk lt g lb sf sb blk off 0 kx a (swp dj a (a + kx)) w2 eg (by rw [hd2]; exact HL.out.on hblk hd2 B2.sw) (by rw [hd2]; exact HS.out) (B2.sw.holds hblk HH.out hd2) (B2.sw.lt hblk) (Nat.zero_le _) (by rw [hd2]; omega) (by rw [hd2]; exact hsz)
          go_wp2_with (go_at_fn (ρ.f 34); refine hcall.mono ?_; rintro e w1 ⟨rfl, m⟩)
          go_roundg kx
          case measure => omega
          case rel =>
            have hss : (siftDown lt kx a 0 (swp dj a (a + kx))).size = (swp dj a (a + kx)).size := size_siftDown lt _ _ _ _ _ (Nat.le_refl _)
            exact ⟨by simp, by omega, siftDown lt kx a 0 (swp dj a (a + kx)), by rw [hss, hd2], B2.then hblk hss m, HE2⟩
    | succ kx =>
      have hcall := siftDownM (P := P) (ρ := ρ) { L with } enc k hk lt g lb sf sb blk off kx (b - a) a dk wr eg (by rw [hds]; exact HL.out.on hblk hds A.sw) (by rw [hds]; exact HS.out) (A.sw.holds hblk HH.out hds) (A.sw.lt hblk) (by omega) (by omega) (by omega)
      rw [ecast] at hcall
      go_wp2_with (go_at_fn (ρ.f 34); refine hcall.mono ?_; rintro e w1 ⟨rfl, m⟩)
      go_roundg kx
      case measure => omega
      case rel =>
        have hss : (siftDown lt (b - a) a kx dk).size = dk.size := size_siftDown lt _ _ _ _ _ (Nat.le_refl _)
        exact ⟨by simp, by omega, siftDown lt (b - a) a kx dk, by rw [hss, hds], A.then hblk hss m, HE⟩
end Go.Proofs.Ytldiagjnpkpepaa
