/- Rows of prefixes in bytes: the developers' All. No condition beyond what it names. -/
import Derived.Test.YtldiagjnpkpepaaPfxB
import Derived.Test.YtldiagjnpkpepaaMemP
import Derived.LoopTactic
namespace Go.Proofs.Ytldiagjnpkpepaa
open Go.RowKit
set_option linter.unusedVariables false
set_option maxRecDepth 100000

/-- rows in bytes -/
def allL (ps : List (Int × Int)) : List UInt8 := ps.flatMap fun p => bytesL p.1 p.2
theorem bytesL_len (a n : Int) : (bytesL a n).length ≤ 5 := by unfold bytesL; simp; omega
theorem allL_take (ps : List (Int × Int)) (k : Nat) (hk : k < ps.length) : allL (ps.take (k + 1)) = allL (ps.take k) ++ bytesL ps[k].1 ps[k].2 := by
  unfold allL
  rw [List.take_add_one, List.getElem?_eq_getElem hk, List.flatMap_append]
  congr 1
  show List.flatMap _ [ps[k]] = _
  rw [List.flatMap_cons, List.flatMap_nil, List.append_nil]
theorem allL_len : ∀ ps : List (Int × Int), (allL ps).length ≤ 5 * ps.length
  | [] => Nat.le_refl _
  | p :: ps => by
    have h1 := allL_len ps
    have h2 := bytesL_len p.1 p.2
    unfold allL at *
    simp only [List.flatMap_cons, List.length_append, List.length_cons]
    omega

theorem All_any (v : Value) (ps : List (Int × Int)) (w : World) (hp : Ps w v ps) (hl : ps.length ≤ 1000000) :
    Calls Try.prog 12 #[v] w fun e w' => ∃ u, e = .returned u ∧ Bs w' u (allL ps) ∧ Same w w' := by
  have HP := Lib.hid hp
  obtain ⟨ao, cap, rfl, b1, b2, b3, b4⟩ := hp
  clear b4
  have hb : (ps.length : Int) ≤ 1000000 := by omega
  go_enter Try.func12, Try.ntmps12
  go_wp2_with fail
  go_loopw [3, 8] (fun bv i wr => ∃ k : Nat, k ≤ ps.length ∧ i = .int .i64 k ∧ OwnB wr w.heap.size bv (allL (ps.take k)) ∧ Same w wr) (fun _ i _ => ps.length - (intOf i).toNat)
  case atStart => exact ⟨0, Nat.zero_le _, rfl, OwnB.nil _ _, Same.refl _⟩
  case round =>
    obtain ⟨k, hk, rfl, ho, hs⟩ := hrel
    have HO := Lib.hid ho
    have HS := Lib.hid hs
    clear ho hs
    by_cases hlt : k < ps.length
    · obtain ⟨ab, o, sp, rfl⟩ : ∃ ab o sp, ao = some ⟨ab, o, sp⟩ := by
        cases ao with
        | none => have := b3 rfl; omega
        | some ad => exact ⟨ad.block, ad.off, ad.spot, rfl⟩
      obtain ⟨rfl, -, c0, c1⟩ := (HP.out.same HS.out).at k hlt
      have hlt' : (k : Int) < ps.length := by omega
      have HT := Lib.hid (allL_take ps k hlt)
      have hlen := allL_len (ps.take k)
      have hlen2 := bytesL_len ps[k].1 ps[k].2
      have htk : (ps.take k).length ≤ 1000000 := by simp; omega
      have HLN : Hid ((allL (ps.take k)).length + (bytesL ps[k].1 ps[k].2).length ≤ 140737488355328) := by show _ ≤ _; omega
      clear hlen hlen2 htk
      have HBy := fun w => Lib.hid (Bytes_any ps[k].1 ps[k].2 w)
      generalize ps[k].1 = x at *
      generalize ps[k].2 = y at *
      go_wp2_with fail
      refine (HBy _).out.mono ?_
      rintro e u ⟨bv, rfl, hbs, hu⟩
      have HS2 := Lib.hid ((HS.out.trans (Same.alloc wr (pfxO x y))).trans hu)
      have HO2 := Lib.hid (HO.out.same ((Same.alloc wr (pfxO x y)).trans hu))
      have HX := Lib.hid hbs
      clear hbs hu c0 c1
      go_wp2_with (first
        | (at_builtin; refine wpList_append_bs rfl _ (.tmp 14) rfl w HS2.out _ (allL (ps.take k)) rfl HO2.out _ _ rfl HX.out HLN.out ?_; intro v1 w1 ho1 hs1; have HO3 := Lib.hid ho1; have HS3 := Lib.hid hs1; clear ho1 hs1))
      exact ⟨⟨k + 1, by omega, by go_num, by rw [HT.out]; exact HO3.out, HS3.out⟩, by simp [intOf]; omega⟩
    · have hlt' : (ps.length : Int) ≤ k := by omega
      obtain rfl : k = ps.length := by omega
      rw [List.take_length] at HO
      go_wp2_with fail
      go_ret
      exact ⟨_, rfl, HO.out.bs, HS.out⟩
end Go.Proofs.Ytldiagjnpkpepaa
