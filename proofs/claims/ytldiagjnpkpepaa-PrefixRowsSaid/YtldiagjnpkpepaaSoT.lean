/- sort.partition_func where less makes memory. No condition. -/
import Derived.Test.YtldiagjnpkpepaaSoB
import Derived.Shelf.SlSortFuncK.PartitionK
namespace Go.Proofs.Ytldiagjnpkpepaa
open Go.Proofs Go.Shelf Go.RowKit Go.Lib Go.Sort
set_option linter.unusedVariables false
set_option maxRecDepth 1000000
variable {P : Program} {ρ : Ren} {α : Type} [Inhabited α]

set_option maxHeartbeats 8000000 in
theorem partitionM (L : LaysGg.n33 P ρ) (enc : α → List Value) (k : Nat) (hk : ∀ x, (enc x).length = k) (lt : α → α → Bool) (g : Nat) (lb : Array Value) (sf : Nat) (sb : Array Value) (blk off a b pivot : Nat) (d : Array α) (w : World)
    (eg : ∀ args w, (callFunc g args).run P w = .ok (.enter g args) w) (hless : LessM P g lb enc k lt blk off d.size w) (hswap : SwapSwapsK P sf sb enc k blk off d.size)
    (hH : HoldsK enc k w blk off d) (hblk : blk < w.heap.size) (hap : a ≤ pivot) (hpb : pivot < b) (hb : b ≤ d.size) (hsz : d.size < 4611686018427387904) :
    Calls P (ρ.f 33) #[.agg #[.func (.func g) #[] lb, .func (.func sf) #[] sb], .int .i64 a, .int .i64 b, .int .i64 pivot] w fun e w' => e = .returned (.tuple #[.int .i64 (Sort.partition lt d a b pivot).1, .bool (Sort.partition lt d a b pivot).2.1]) ∧ SWD enc k w blk off (Sort.partition lt d a b pivot).2.2 w' := by
  have mixed := L.mixed; have t0 := L.t0; have a0 := L.a0; have z0 := L.z0; have v0 := L.v0; have t3 := L.t3; have a3 := L.a3; have z3 := L.z3; have v3 := L.v3; have t4 := L.t4; have a4 := L.a4; have z4 := L.z4; have v4 := L.v4; have t26 := L.t26; have a26 := L.a26; have z26 := L.z26; have v26 := L.v26; have t37 := L.t37; have a37 := L.a37; have z37 := L.z37; have v37 := L.v37; have t44 := L.t44; have a44 := L.a44; have z44 := L.z44; have v44 := L.v44
  have u44 := run_underlying L.t44
  have HS := Lib.hid hswap
  have HH := Lib.hid hH
  have HLs : Hid (∀ (X : Array α) (V : World) (x y : Nat) (v : Bool), AtB enc k w blk off g lb sf sb X V → X.size = d.size → x < d.size → y < d.size → lt X[x]! X[y]! = v → Calls P g (#[.int .i64 (x : Int), .int .i64 (y : Int)] ++ lb) V fun e w' => e = .returned (.bool v) ∧ AtB enc k w blk off g lb sf sb X w') := fun X V x y v h hX h1 h2 hv => by
    rw [← hv]; exact h.less hless hX x y h1 h2 _ _ rfl rfl
  have A0 : AtB enc k w blk off g lb sf sb d (w.alloc (.cells #[.func (.func g) #[] lb, .func (.func sf) #[] sb] (ρ.t 44))) := AtB.start hH
  clear hless hswap hH
  obtain ⟨i, hi⟩ : ∃ i : Nat, i = a + 1 := ⟨_, rfl⟩
  obtain ⟨j, hj⟩ : ∃ j : Nat, j = b - 1 := ⟨_, rfl⟩
  have hai : a < i := by omega
  have hij : i ≤ j + 1 := by omega
  have hjb : j < b := by omega
  have Hi : Hid (i = a + 1) := hi
  have Hj : Hid (j = b - 1) := hj
  clear hi hj
  go_enter L.f33, BodyGg.n33_ntmps ρ
  go_wp2
  generalize w.alloc (.cells #[.func (.func g) #[] lb, .func (.func sf) #[] sb] (ρ.t 44)) = W0 at *
  have hs : d.size = d.size := rfl
  obtain ⟨wA, hsA, A⟩ := A0.swaps HS.out hk hblk HH.out rfl hs a pivot (by omega) (by omega) (a : Int) (pivot : Int) rfl rfl
  rw [hsA, Oper.upon_value]
  clear hsA
  have Ac0 := A.c0
  have Ac1 := A.c1
  clear hs
  obtain ⟨dk, hdk⟩ : ∃ dk : Array α, dk = swp d a pivot := ⟨_, rfl⟩
  have Hdk : Hid (dk = swp d a pivot) := hdk
  have hs : dk.size = d.size := by rw [hdk]; exact size_swp _ _ _
  rw [← hdk] at A
  clear hdk A0
  go_wp2
  rw [show ((a : Int) + 1) = (i : Int) by have := Hi.out; omega, show ((b : Int) - 1) = (j : Int) by have := Hj.out; omega]
  go_loopg [10] (j + 1 - i) (fun g1 vi w1 => ∃ (i' : Nat), vi = .int .i64 i' ∧ i ≤ i' ∧ i' ≤ j + 1 ∧ j + 1 - i' ≤ g1 ∧ AtB enc k w blk off g lb sf sb dk w1 ∧ Hid (Sort.scanUp (fun x => lt x dk[a]!) dk j i' = Sort.scanUp (fun x => lt x dk[a]!) dk j i))
  case atStart => exact ⟨i, rfl, Nat.le_refl _, hij, Nat.le_refl _, A, rfl⟩
  case round =>
    obtain ⟨i', rfl, hii, hij', hg1, B, hsc⟩ := hrel
    have Bc0 := B.c0
    have Bc1 := B.c1
    by_cases hle : i' ≤ j
    · have hlez : (i' : Int) ≤ (j : Int) := by omega
      cases hlv : lt dk[i']! dk[a]! with
      | true =>
        go_wp2_with (go_at_fn g; refine (HLs.out dk _ i' a true B hs (by omega) (by omega) hlv).mono ?_; rintro e w' ⟨rfl, B1⟩; have B1c0 := B1.c0; have B1c1 := B1.c1)
        go_roundg (j + 1 - (i' + 1))
        case measure => omega
        case rel => exact ⟨i' + 1, by go_num, by omega, by omega, Nat.le_refl _, B1, (scanUp_go (fun x => lt x dk[a]!) dk j i' hle (by simp [hlv])).symm.trans hsc.out⟩
      | false =>
        have hi2 : Hid (i' = Sort.scanUp (fun x => lt x dk[a]!) dk j i) := (scanUp_end (fun x => lt x dk[a]!) dk j i' (Or.inr (by simp [hlv]))).symm.trans hsc.out
        go_wp2_with (go_at_fn g; refine (HLs.out dk _ i' a false B hs (by omega) (by omega) hlv).mono ?_; rintro e w' ⟨rfl, B1⟩; have B1c0 := B1.c0; have B1c1 := B1.c1)
        go_loopg [11] j (fun g2 vj w2 => ∃ (j' : Nat), vj = .int .i64 j' ∧ j' ≤ j ∧ i' ≤ j' + 1 ∧ j' ≤ g2 ∧ AtB enc k w blk off g lb sf sb dk w2 ∧ Hid (Sort.scanDown (fun x => !lt x dk[a]!) dk i' j' = Sort.scanDown (fun x => !lt x dk[a]!) dk i' j))
        case atStart => exact ⟨j, rfl, Nat.le_refl _, hij', Nat.le_refl _, B1, rfl⟩
        case round =>
          obtain ⟨j', rfl, hjj, hij2, hg2, C, hsd⟩ := hrel
          have Cc0 := C.c0
          have Cc1 := C.c1
          by_cases hle2 : i' ≤ j'
          · have hle2z : (i' : Int) ≤ (j' : Int) := by omega
            cases hlv2 : lt dk[j']! dk[a]! with
            | false =>
              go_wp2_with (go_at_fn g; refine (HLs.out dk _ j' a false C hs (by omega) (by omega) hlv2).mono ?_; rintro e w' ⟨rfl, C1⟩; have C1c0 := C1.c0; have C1c1 := C1.c1)
              go_roundg (j' - 1)
              case measure => omega
              case rel => exact ⟨j' - 1, by go_num, by omega, by omega, Nat.le_refl _, C1, (scanDown_go (fun x => !lt x dk[a]!) dk i' j' hle2 (by omega) (by simp [hlv2])).symm.trans hsd.out⟩
            | true =>
              have hj2 : Hid (j' = Sort.scanDown (fun x => !lt x dk[a]!) dk i' j) := (scanDown_end (fun x => !lt x dk[a]!) dk i' j' (Or.inr (by simp [hlv2]))).symm.trans hsd.out
              have hlt3 := part_scans_lt lt a i j dk (by omega) hi2.out hj2.out hle2
              go_wp2_with (go_at_fn g; refine (HLs.out dk _ j' a true C hs (by omega) (by omega) hlv2).mono ?_; rintro e w' ⟨rfl, C1⟩; have C1c0 := C1.c0; have C1c1 := C1.c1)
              obtain ⟨wC2, hsC2, C2⟩ := C1.swaps HS.out hk hblk HH.out rfl hs i' j' (by omega) (by omega) (i' : Int) (j' : Int) rfl rfl
              rw [hsC2, Oper.upon_value]
              clear hsC2
              have C2c0 := C2.c0
              have C2c1 := C2.c1
              go_wp2
              obtain ⟨I0, hI0⟩ : ∃ I0 : Nat, I0 = i' + 1 := ⟨_, rfl⟩
              obtain ⟨J0, hJ0⟩ : ∃ J0 : Nat, J0 = j' - 1 := ⟨_, rfl⟩
              obtain ⟨D0, hD0⟩ : ∃ D0 : Array α, D0 = Sort.swp dk i' j' := ⟨_, rfl⟩
              have PF : Hid (Sort.partition lt d a b pivot = ((Sort.partLoop lt a I0 J0 D0).1, false, Sort.swp (Sort.partLoop lt a I0 J0 D0).2 (Sort.partLoop lt a I0 J0 D0).1 a)) := by
                show _ = _
                rw [hI0, hJ0, hD0]; exact part_first_go lt d a b pivot Hi.out Hj.out Hdk.out hi2.out hj2.out (by omega)
              go_loopg [10, 11] b (fun g0 vi vj wr => ∃ (i j : Nat) (dk : Array α), vi = .int .i64 i ∧ vj = .int .i64 j ∧ a < i ∧ i ≤ j + 1 ∧ j < b ∧ j + 1 - i ≤ g0 ∧ dk.size = d.size ∧ AtB enc k w blk off g lb sf sb dk wr ∧ Hid (Sort.partLoop lt a i j dk = Sort.partLoop lt a I0 J0 D0))
              case atStart => exact ⟨i' + 1, j' - 1, swp dk i' j', by go_num, by go_num, by omega, by omega, by omega, by omega, by rw [size_swp]; exact hs, C2, (show Hid _ from by show _ = _; rw [hI0, hJ0, hD0])⟩
              case round =>
                clear hI0 hJ0 hD0 hi2 hj2 hlt3 hlv hlv2 hsc hsd B B1 C C1 C2 Hi Hj Hdk hai hij hjb hs hii hij' hjj hij2 hle hle2 hlez hle2z hg1 hg2 Bc0 Bc1 B1c0 B1c1 Cc0 Cc1 C1c0 C1c1 C2c0 C2c1
                obtain ⟨i, j, dk, rfl, rfl, hai, hij, hjb, hg0, hs, A, AE⟩ := hrel
                have Ac0 := A.c0
                have Ac1 := A.c1
                go_wp2
                go_loopg [10] (j + 1 - i) (fun g1 vi w1 => ∃ (i' : Nat), vi = .int .i64 i' ∧ i ≤ i' ∧ i' ≤ j + 1 ∧ j + 1 - i' ≤ g1 ∧ AtB enc k w blk off g lb sf sb dk w1 ∧ Hid (Sort.scanUp (fun x => lt x dk[a]!) dk j i' = Sort.scanUp (fun x => lt x dk[a]!) dk j i))
                case atStart => exact ⟨i, rfl, Nat.le_refl _, hij, Nat.le_refl _, A, rfl⟩
                case round =>
                  obtain ⟨i', rfl, hii, hij', hg1, B, hsc⟩ := hrel
                  have Bc0 := B.c0
                  have Bc1 := B.c1
                  by_cases hle : i' ≤ j
                  · have hlez : (i' : Int) ≤ (j : Int) := by omega
                    cases hlv : lt dk[i']! dk[a]! with
                    | true =>
                      go_wp2_with (go_at_fn g; refine (HLs.out dk _ i' a true B hs (by omega) (by omega) hlv).mono ?_; rintro e w' ⟨rfl, B1⟩; have B1c0 := B1.c0; have B1c1 := B1.c1)
                      go_roundg (j + 1 - (i' + 1))
                      case measure => omega
                      case rel => exact ⟨i' + 1, by go_num, by omega, by omega, Nat.le_refl _, B1, (scanUp_go (fun x => lt x dk[a]!) dk j i' hle (by simp [hlv])).symm.trans hsc.out⟩
                    | false =>
                      have hi2 : Hid (i' = Sort.scanUp (fun x => lt x dk[a]!) dk j i) := (scanUp_end (fun x => lt x dk[a]!) dk j i' (Or.inr (by simp [hlv]))).symm.trans hsc.out
                      go_wp2_with (go_at_fn g; refine (HLs.out dk _ i' a false B hs (by omega) (by omega) hlv).mono ?_; rintro e w' ⟨rfl, B1⟩; have B1c0 := B1.c0; have B1c1 := B1.c1)
                      go_loopg [11] j (fun g2 vj w2 => ∃ (j' : Nat), vj = .int .i64 j' ∧ j' ≤ j ∧ i' ≤ j' + 1 ∧ j' ≤ g2 ∧ AtB enc k w blk off g lb sf sb dk w2 ∧ Hid (Sort.scanDown (fun x => !lt x dk[a]!) dk i' j' = Sort.scanDown (fun x => !lt x dk[a]!) dk i' j))
                      case atStart => exact ⟨j, rfl, Nat.le_refl _, hij', Nat.le_refl _, B1, rfl⟩
                      case round =>
                        obtain ⟨j', rfl, hjj, hij2, hg2, C, hsd⟩ := hrel
                        have Cc0 := C.c0
                        have Cc1 := C.c1
                        by_cases hle2 : i' ≤ j'
                        · have hle2z : (i' : Int) ≤ (j' : Int) := by omega
                          cases hlv2 : lt dk[j']! dk[a]! with
                          | false =>
                            go_wp2_with (go_at_fn g; refine (HLs.out dk _ j' a false C hs (by omega) (by omega) hlv2).mono ?_; rintro e w' ⟨rfl, C1⟩; have C1c0 := C1.c0; have C1c1 := C1.c1)
                            go_roundg (j' - 1)
                            case measure => omega
                            case rel => exact ⟨j' - 1, by go_num, by omega, by omega, Nat.le_refl _, C1, (scanDown_go (fun x => !lt x dk[a]!) dk i' j' hle2 (by omega) (by simp [hlv2])).symm.trans hsd.out⟩
                          | true =>
                            have hj2 : Hid (j' = Sort.scanDown (fun x => !lt x dk[a]!) dk i' j) := (scanDown_end (fun x => !lt x dk[a]!) dk i' j' (Or.inr (by simp [hlv2]))).symm.trans hsd.out
                            have hlt3 := part_scans_lt lt a i j dk (by omega) hi2.out hj2.out hle2
                            go_wp2_with (go_at_fn g; refine (HLs.out dk _ j' a true C hs (by omega) (by omega) hlv2).mono ?_; rintro e w' ⟨rfl, C1⟩; have C1c0 := C1.c0; have C1c1 := C1.c1)
                            obtain ⟨wC2, hsC2, C2⟩ := C1.swaps HS.out hk hblk HH.out rfl hs i' j' (by omega) (by omega) (i' : Int) (j' : Int) rfl rfl
                            rw [hsC2, Oper.upon_value]
                            clear hsC2
                            have C2c0 := C2.c0
                            have C2c1 := C2.c1
                            go_wp2
                            go_roundg (j' - 1 + 1 - (i' + 1))
                            case measure => omega
                            case rel => exact ⟨i' + 1, j' - 1, swp dk i' j', by go_num, by go_num, by omega, by omega, by omega, Nat.le_refl _, by rw [size_swp]; exact hs, C2, (show Hid _ from by rw [← AE.out]; exact (part_go lt a i j dk hi2.out hj2.out (by omega)).symm)⟩
                        · have hle2z : ¬ (i' : Int) ≤ (j' : Int) := by omega
                          have hj2 : Hid (j' = Sort.scanDown (fun x => !lt x dk[a]!) dk i' j) := (scanDown_end (fun x => !lt x dk[a]!) dk i' j' (Or.inl hle2)).symm.trans hsd.out
                          go_wp2
                          obtain ⟨wC2, hsC2, C2⟩ := C.swaps HS.out hk hblk HH.out rfl hs j' a (by omega) (by omega) (j' : Int) (a : Int) rfl rfl
                          rw [hsC2, Oper.upon_value]
                          clear hsC2
                          have C2c0 := C2.c0
                          have C2c1 := C2.c1
                          go_wp2
                          go_ret2
                          have e := part_break lt a i j dk hi2.out hj2.out (by omega)
                          rw [PF.out, ← AE.out, e]
                          exact ⟨rfl, C2.sw⟩
                  · have hlez : ¬ (i' : Int) ≤ (j : Int) := by omega
                    have hi2 : Hid (i' = Sort.scanUp (fun x => lt x dk[a]!) dk j i) := (scanUp_end (fun x => lt x dk[a]!) dk j i' (Or.inl hle)).symm.trans hsc.out
                    go_wp2
                    go_loopg [11] j (fun g2 vj w2 => ∃ (j' : Nat), vj = .int .i64 j' ∧ j' ≤ j ∧ i' ≤ j' + 1 ∧ j' ≤ g2 ∧ AtB enc k w blk off g lb sf sb dk w2 ∧ Hid (Sort.scanDown (fun x => !lt x dk[a]!) dk i' j' = Sort.scanDown (fun x => !lt x dk[a]!) dk i' j))
                    case atStart => exact ⟨j, rfl, Nat.le_refl _, hij', Nat.le_refl _, B, rfl⟩
                    case round =>
                      obtain ⟨j', rfl, hjj, hij2, hg2, C, hsd⟩ := hrel
                      have Cc0 := C.c0
                      have Cc1 := C.c1
                      by_cases hle2 : i' ≤ j'
                      · exfalso; omega
                      · have hle2z : ¬ (i' : Int) ≤ (j' : Int) := by omega
                        have hj2 : Hid (j' = Sort.scanDown (fun x => !lt x dk[a]!) dk i' j) := (scanDown_end (fun x => !lt x dk[a]!) dk i' j' (Or.inl hle2)).symm.trans hsd.out
                        go_wp2
                        obtain ⟨wC2, hsC2, C2⟩ := C.swaps HS.out hk hblk HH.out rfl hs j' a (by omega) (by omega) (j' : Int) (a : Int) rfl rfl
                        rw [hsC2, Oper.upon_value]
                        clear hsC2
                        have C2c0 := C2.c0
                        have C2c1 := C2.c1
                        go_wp2
                        go_ret2
                        have e := part_break lt a i j dk hi2.out hj2.out (by omega)
                        rw [PF.out, ← AE.out, e]
                        exact ⟨rfl, C2.sw⟩
          · have hle2z : ¬ (i' : Int) ≤ (j' : Int) := by omega
            have hj2 : Hid (j' = Sort.scanDown (fun x => !lt x dk[a]!) dk i' j) := (scanDown_end (fun x => !lt x dk[a]!) dk i' j' (Or.inl hle2)).symm.trans hsd.out
            go_wp2
            obtain ⟨wC2, hsC2, C2⟩ := C.swaps HS.out hk hblk HH.out rfl hs j' a (by omega) (by omega) (j' : Int) (a : Int) rfl rfl
            rw [hsC2, Oper.upon_value]
            clear hsC2
            have C2c0 := C2.c0
            have C2c1 := C2.c1
            go_wp2
            go_ret2
            have e := part_first_break lt d a b pivot Hi.out Hj.out Hdk.out hi2.out hj2.out (by omega)
            rw [e]
            exact ⟨rfl, C2.sw⟩
    · have hlez : ¬ (i' : Int) ≤ (j : Int) := by omega
      have hi2 : Hid (i' = Sort.scanUp (fun x => lt x dk[a]!) dk j i) := (scanUp_end (fun x => lt x dk[a]!) dk j i' (Or.inl hle)).symm.trans hsc.out
      go_wp2
      go_loopg [11] j (fun g2 vj w2 => ∃ (j' : Nat), vj = .int .i64 j' ∧ j' ≤ j ∧ i' ≤ j' + 1 ∧ j' ≤ g2 ∧ AtB enc k w blk off g lb sf sb dk w2 ∧ Hid (Sort.scanDown (fun x => !lt x dk[a]!) dk i' j' = Sort.scanDown (fun x => !lt x dk[a]!) dk i' j))
      case atStart => exact ⟨j, rfl, Nat.le_refl _, hij', Nat.le_refl _, B, rfl⟩
      case round =>
        obtain ⟨j', rfl, hjj, hij2, hg2, C, hsd⟩ := hrel
        have Cc0 := C.c0
        have Cc1 := C.c1
        by_cases hle2 : i' ≤ j'
        · exfalso; omega
        · have hle2z : ¬ (i' : Int) ≤ (j' : Int) := by omega
          have hj2 : Hid (j' = Sort.scanDown (fun x => !lt x dk[a]!) dk i' j) := (scanDown_end (fun x => !lt x dk[a]!) dk i' j' (Or.inl hle2)).symm.trans hsd.out
          go_wp2
          obtain ⟨wC2, hsC2, C2⟩ := C.swaps HS.out hk hblk HH.out rfl hs j' a (by omega) (by omega) (j' : Int) (a : Int) rfl rfl
          rw [hsC2, Oper.upon_value]
          clear hsC2
          have C2c0 := C2.c0
          have C2c1 := C2.c1
          go_wp2
          go_ret2
          have e := part_first_break lt d a b pivot Hi.out Hj.out Hdk.out hi2.out hj2.out (by omega)
          rw [e]
          exact ⟨rfl, C2.sw⟩
end Go.Proofs.Ytldiagjnpkpepaa
