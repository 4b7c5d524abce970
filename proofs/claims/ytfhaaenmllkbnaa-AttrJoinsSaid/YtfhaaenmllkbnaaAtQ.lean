/- Arithmetic of layer 7: what is said of a path, put into bytes and read again; cut, doubled, changed. No condition. -/
import Derived.Test.YtfhaaenmllkbnaaAtN
namespace Go.Proofs.Ytfhaaenmllkbnaa
open Go.RowKit
set_option linter.unusedVariables false

theorem partL_pairs : ∀ (p : List Int) (pre : List UInt8) (acc : List Int), (∀ n, n ∈ p → 1 ≤ n ∧ n ≤ 65535) → acc.length + p.length ≤ 16 →
    partL p.length (pre ++ (p.map fun n => [byteAt n 1, byteAt n 0]).flatten) pre.length acc = some (acc ++ p)
  | [], pre, acc, _, _ => by simp [partL]
  | n :: p, pre, acc, hp, hl => by
    have h1 := hp n (by simp)
    have hn : (nmb (pre ++ ((n :: p).map fun n => [byteAt n 1, byteAt n 0]).flatten) pre.length 2 : Int) = n := by
      have := nmb_app pre (((n :: p).map fun n => [byteAt n 1, byteAt n 0]).flatten) 0 2
      rw [Nat.add_zero] at this
      rw [this]
      simp [nmb, numOf, byteAt_val]
      omega
    simp only [List.length_cons] at hl ⊢
    rw [partL, if_neg, hn]
    · have := partL_pairs p (pre ++ [byteAt n 1, byteAt n 0]) (acc ++ [n]) (fun m hm => hp m (by simp [hm])) (by simp; omega)
      rw [List.append_assoc, List.length_append] at this
      simp only [List.map_cons, List.flatten_cons]
      rw [show pre.length + [byteAt n 1, byteAt n 0].length = pre.length + 2 from rfl] at this
      rw [this]
      simp
    · rintro (h | h | h)
      · simp at h; omega
      · omega
      · omega
theorem pairs_length (p : List Int) : (p.map fun n => [byteAt n 1, byteAt n 0]).flatten.length = 2 * p.length := by
  induction p with
  | nil => rfl
  | cons n p ih => simp only [List.map_cons, List.flatten_cons, List.length_append, ih, List.length_cons, List.length_nil]; omega
theorem pathL_pathB (p : List Int) (hp : ∀ n, n ∈ p → 1 ≤ n ∧ n ≤ 65535) (hl : p.length ≤ 16) : pathL (pathB p) = some p := by
  by_cases h0 : p = []
  · subst h0; rfl
  have hpos : 0 < p.length := List.length_pos_iff.2 h0
  have e : pathB p = [2, byteAt p.length 0] ++ (p.map fun n => [byteAt n 1, byteAt n 0]).flatten := if_neg h0
  have hlen : (pathB p).length = 2 + 2 * p.length := by rw [e, List.length_append, pairs_length]; rfl
  unfold pathL
  rw [hlen, show 2 + 2 * p.length = (1 + 2 * p.length) + 1 from by omega]
  have n0 : nmb (pathB p) 0 1 = 2 := by rw [e]; rfl
  have n1 : nmb (pathB p) (0 + 1) 1 = p.length := by
    rw [e]
    simp [nmb, numOf, byteAt_val]
    omega
  rw [pathA, if_neg (by omega), if_neg (by rw [n0, n1]; omega), n1]
  have := partL_pairs p [2, byteAt p.length 0] [] hp (by simpa using hl)
  rw [← e] at this
  rw [show 0 + 2 = ([2, byteAt p.length 0] : List UInt8).length from rfl, this, List.nil_append]
  simp only
  have hend : (pathB p).length ≤ ([2, byteAt (p.length : Int) 0] : List UInt8).length + 2 * p.length := by rw [hlen]; exact Nat.le_refl _
  cases h : 1 + 2 * p.length with
  | zero => rfl
  | succ f => rw [pathA, if_pos hend]

theorem nmb_four (n : Int) (h : 0 ≤ n ∧ n ≤ 4294967295) : (nmb [byteAt n 3, byteAt n 2, byteAt n 1, byteAt n 0] 0 4 : Int) = n := by
  simp [nmb, numOf, byteAt_val]
  omega
theorem nmb_one (n : Int) (h : 0 ≤ n ∧ n ≤ 255) : (nmb [byteAt n 0] 0 1 : Int) = n := by
  simp [nmb, numOf, byteAt_val]
  omega

/-- one attribute more is read -/
theorem parseR_step {r : Rw} {rs : List Rw} {seen : List Int} {a : At} (hs : r.type ∉ seen) (ht : takeE r = 0) : parseR (r :: rs) seen a = parseR rs (r.type :: seen) (takeS a r) := by
  rw [parseR, if_neg hs, if_pos ht]

theorem take_r1 (o : Int) (a : At) (h : 0 ≤ o ∧ o ≤ 2) : takeE ⟨64, 1, [byteAt o 0]⟩ = 0 ∧ takeS a ⟨64, 1, [byteAt o 0]⟩ = { a with origin := o } := by
  have hn := nmb_one o (by omega)
  have e : takeE ⟨64, 1, [byteAt o 0]⟩ = 0 := by
    unfold takeE
    rw [if_neg (by simp only; decide), if_neg (by simp only; decide), if_neg (by simp [sizeT]), if_pos rfl, if_neg (by simp only; omega)]
  refine ⟨e, ?_⟩
  unfold takeS
  rw [if_neg (by rw [e]; decide), if_pos rfl]
  simp only [hn]
theorem take_r2 (p : List Int) (a : At) (hp : ∀ n, n ∈ p → 1 ≤ n ∧ n ≤ 65535) (hl : p.length ≤ 16) : takeE ⟨64, 2, pathB p⟩ = 0 ∧ takeS a ⟨64, 2, pathB p⟩ = { a with path := p } := by
  have hn := pathL_pathB p hp hl
  have e : takeE ⟨64, 2, pathB p⟩ = 0 := by
    unfold takeE
    rw [if_neg (by simp only; decide), if_neg (by simp only; decide), if_neg (by simp [sizeT]), if_neg (by simp), if_pos rfl, if_neg (by simp [hn])]
  refine ⟨e, ?_⟩
  unfold takeS
  rw [if_neg (by rw [e]; decide), if_neg (by simp), if_pos rfl]
  simp only [hn]
  rfl
theorem take_r3 (h : Int) (a : At) (hh : hopOk h) (hr : 0 ≤ h ∧ h ≤ 4294967295) : takeE ⟨64, 3, [byteAt h 3, byteAt h 2, byteAt h 1, byteAt h 0]⟩ = 0 ∧ takeS a ⟨64, 3, [byteAt h 3, byteAt h 2, byteAt h 1, byteAt h 0]⟩ = { a with hop := h } := by
  have hn := nmb_four h hr
  have e : takeE ⟨64, 3, [byteAt h 3, byteAt h 2, byteAt h 1, byteAt h 0]⟩ = 0 := by
    unfold takeE
    rw [if_neg (by simp only; decide), if_neg (by simp only; decide), if_neg (by simp [sizeT]), if_neg (by simp), if_neg (by simp), if_pos rfl, if_pos (by simp only [hn]; exact hh)]
  refine ⟨e, ?_⟩
  unfold takeS
  rw [if_neg (by rw [e]; decide), if_neg (by simp), if_neg (by simp), if_pos rfl]
  simp only [hn]
theorem take_r4 (m : Int) (a : At) (hr : 0 ≤ m ∧ m ≤ 4294967295) : takeE ⟨128, 4, [byteAt m 3, byteAt m 2, byteAt m 1, byteAt m 0]⟩ = 0 ∧ takeS a ⟨128, 4, [byteAt m 3, byteAt m 2, byteAt m 1, byteAt m 0]⟩ = { a with med := m, has := true } := by
  have hn := nmb_four m hr
  have e : takeE ⟨128, 4, [byteAt m 3, byteAt m 2, byteAt m 1, byteAt m 0]⟩ = 0 := by
    unfold takeE
    rw [if_neg (by simp only; decide), if_neg (by simp only; decide), if_neg (by simp [sizeT]), if_neg (by simp), if_neg (by simp), if_neg (by simp)]
  refine ⟨e, ?_⟩
  unfold takeS
  rw [if_neg (by rw [e]; decide), if_neg (by simp), if_neg (by simp), if_neg (by simp), if_pos rfl]
  simp only [hn]

/-- canonical attributes are read as they stand -/
def stdR (r : Rw) : Prop := (0 ≤ r.flags ∧ r.flags ≤ 255) ∧ (0 ≤ r.type ∧ r.type ≤ 255) ∧ r.value.length ≤ 255
theorem canR_std {r : Rw} (h : stdR r) : canR r = r := by
  obtain ⟨⟨h1, h2⟩, ⟨h3, h4⟩, h5⟩ := h
  obtain ⟨f, t, v⟩ := r
  unfold canR capT
  simp only at h1 h2 h3 h4 h5 ⊢
  rw [List.take_of_length_le (by split <;> omega), Int.emod_eq_of_lt h1 (by omega), Int.emod_eq_of_lt h3 (by omega)]
theorem map_std {rs : List Rw} (h : ∀ r, r ∈ rs → stdR r) : rs.map canR = rs := by
  induction rs with
  | nil => rfl
  | cons r rs ih => rw [List.map_cons, canR_std (h r (by simp)), ih (fun x hx => h x (by simp [hx]))]
theorem pathB_length (p : List Int) (hl : p.length ≤ 16) : (pathB p).length ≤ 34 := by
  unfold pathB
  split
  · simp
  · rw [List.length_append, pairs_length]; simp; omega
theorem rawsA_std (a : At) (hl : a.path.length ≤ 16) : ∀ r, r ∈ rawsA a → stdR r := by
  have := pathB_length a.path hl
  intro r hr
  unfold rawsA at hr
  simp only [List.cons_append, List.nil_append, List.mem_cons] at hr
  rcases hr with rfl | rfl | rfl | hr
  · exact ⟨by simp, by simp, by simp⟩
  · exact ⟨by simp, by simp, by simp only; omega⟩
  · exact ⟨by simp, by simp, by simp⟩
  · split at hr
    · simp only [List.mem_cons, List.not_mem_nil, or_false] at hr
      subst hr
      exact ⟨by simp, by simp, by simp⟩
    · cases hr
theorem parseT_join {rs : List Rw} (h : ∀ r, r ∈ rs → stdR r) : parseT (joinB rs) = parseR rs [] zeroA := by
  unfold parseT
  rw [splitL_join, map_std h]

/-- the next hop is such a number -/
def hopR (a : At) : Prop := 0 ≤ a.hop ∧ a.hop ≤ 4294967295

/-- the three that must be are read -/
theorem parse_three (a : At) (hg : goodA a) (hr : hopR a) (rest : List Rw) :
    parseR (⟨64, 1, [byteAt a.origin 0]⟩ :: ⟨64, 2, pathB a.path⟩ :: ⟨64, 3, [byteAt a.hop 3, byteAt a.hop 2, byteAt a.hop 1, byteAt a.hop 0]⟩ :: rest) [] zeroA = parseR rest [3, 2, 1] ⟨a.origin, a.path, a.hop, 0, false⟩ := by
  obtain ⟨g1, g2, g3, g4, g5, g6⟩ := hg
  obtain ⟨a1, a2⟩ := take_r1 a.origin zeroA g2
  obtain ⟨b1, b2⟩ := take_r2 a.path ⟨a.origin, [], 0, 0, false⟩ g1 g3
  obtain ⟨c1, c2⟩ := take_r3 a.hop ⟨a.origin, a.path, 0, 0, false⟩ g4 hr
  rw [parseR_step (by simp) a1, a2, parseR_step (by simp) b1]
  have e2 : takeS { zeroA with origin := a.origin } ⟨64, 2, pathB a.path⟩ = ⟨a.origin, a.path, 0, 0, false⟩ := b2
  rw [e2, parseR_step (by simp) c1, c2]
/-- all are read -/
theorem parse_raws (a : At) (hg : goodA a) (hr : hopR a) (rest : List Rw) : parseR (rawsA a ++ rest) [] zeroA = parseR rest (if a.has then [4, 3, 2, 1] else [3, 2, 1]) a := by
  obtain ⟨o, p, h, m, hs⟩ := a
  have g6 := hg.2.2.2.2.2
  have g5 := hg.2.2.2.2.1
  simp only at g5 g6
  unfold rawsA
  rw [List.append_assoc]
  have e3 := parse_three ⟨o, p, h, m, hs⟩ hg hr
  cases hs with
  | false =>
    obtain rfl : m = 0 := by simpa using g6
    exact e3 rest
  | true =>
    refine (e3 _).trans ?_
    obtain ⟨d1, d2⟩ := take_r4 m ⟨o, p, h, 0, false⟩ g5
    show parseR (⟨128, 4, [byteAt m 3, byteAt m 2, byteAt m 1, byteAt m 0]⟩ :: rest) [3, 2, 1] ⟨o, p, h, 0, false⟩ = _
    rw [parseR_step (by simp) d1, d2]
    rfl
theorem parse_end (a : At) (seen : List Int) (h1 : (1 : Int) ∈ seen) (h2 : (2 : Int) ∈ seen) (h3 : (3 : Int) ∈ seen) : parseR [] seen a = (a, noFt) := by
  have : missT seen = none := by unfold missT; rw [if_neg (by simpa using h1), if_neg (by simpa using h2), if_neg (by simpa using h3)]
  rw [parseR, this]

theorem parse_back (a : At) (hg : goodA a) (hr : hopR a) : parseT (attrB a) = (a, noFt) := by
  rw [show attrB a = joinB (rawsA a) from if_pos hg, parseT_join (rawsA_std a hg.2.2.1)]
  have := parse_raws a hg hr []
  rw [List.append_nil] at this
  rw [this]
  split <;> exact parse_end _ _ (by simp) (by simp) (by simp)

/-- cut they are none, but where all that must be was read -/
theorem parse_cut7 (a : At) (hg : goodA a) (hr : hopR a) (k : Nat) (hk : k < (attrB a).length) :
    (parseT ((attrB a).take k)).2.code = 3 ∨ ((parseT ((attrB a).take k)).2.code = 0 ∧ (parseT ((attrB a).take k)).1 = { a with med := 0, has := false }) := by
  rw [show attrB a = joinB (rawsA a) from if_pos hg] at hk ⊢
  rcases splitL_cut (rawsA a) k hk with h | ⟨j, hj, h⟩
  · left
    unfold parseT
    rw [h]
    rfl
  · have hstd : ((rawsA a).take j).map canR = (rawsA a).take j := map_std fun r hr => rawsA_std a hg.2.2.1 r (List.mem_of_mem_take hr)
    have e : parseT ((joinB (rawsA a)).take k) = parseR ((rawsA a).take j) [] zeroA := by
      unfold parseT
      rw [h, hstd]
    rw [e]
    obtain ⟨g1, g2, g3, g4, g5, g6⟩ := hg
    obtain ⟨a1, a2⟩ := take_r1 a.origin zeroA g2
    obtain ⟨b1, b2⟩ := take_r2 a.path ⟨a.origin, [], 0, 0, false⟩ g1 g3
    have hlen : (rawsA a).length ≤ 4 := by unfold rawsA; split <;> simp
    have hj4 : j = 0 ∨ j = 1 ∨ j = 2 ∨ j = 3 := by omega
    rcases hj4 with rfl | rfl | rfl | rfl
    · left; rfl
    · left
      rw [show (rawsA a).take 1 = [⟨64, 1, [byteAt a.origin 0]⟩] from rfl, parseR_step (by simp) a1, parseR]
      rfl
    · left
      rw [show (rawsA a).take 2 = [⟨64, 1, [byteAt a.origin 0]⟩, ⟨64, 2, pathB a.path⟩] from rfl, parseR_step (by simp) a1, a2, parseR_step (by simp) b1, parseR]
      rfl
    · right
      have := parse_three a ⟨g1, g2, g3, g4, g5, g6⟩ hr []
      rw [show (rawsA a).take 3 = [⟨64, 1, [byteAt a.origin 0]⟩, ⟨64, 2, pathB a.path⟩, ⟨64, 3, [byteAt a.hop 3, byteAt a.hop 2, byteAt a.hop 1, byteAt a.hop 0]⟩] from rfl, this, parse_end _ _ (by simp) (by simp) (by simp)]
      exact ⟨rfl, rfl⟩
theorem one_origin (f o : Int) (hf : ¬ extF f) : oneB ⟨f, 1, [byteAt o 0]⟩ = [byteAt f 0, 1, 1, byteAt o 0] := by
  unfold oneB
  simp only [if_neg hf, List.take_of_length_le (show [byteAt o 0].length ≤ 255 by simp)]
  rw [show ((([byteAt o 0] : List UInt8).length : Nat) : Int) = 1 from rfl, show byteAt 1 0 = 1 by decide]
  rfl
theorem attrB_four (a : At) (hg : goodA a) : attrB a = [64, 1, 1, byteAt a.origin 0] ++ joinB (rawsA a).tail := by
  rw [show attrB a = joinB (rawsA a) from if_pos hg, show rawsA a = ⟨64, 1, [byteAt a.origin 0]⟩ :: (rawsA a).tail from rfl, joinB_cons, one_origin 64 a.origin (by decide), show byteAt 64 0 = 64 by decide]
  rfl
/-- one twice -/
theorem parse_twice (a : At) (hg : goodA a) (hr : hopR a) : parseT (attrB a ++ [64, 1, 1, byteAt a.origin 0]) = (zeroA, faultF 1 []) := by
  have e1 : ([64, 1, 1, byteAt a.origin 0] : List UInt8) = joinB [⟨64, 1, [byteAt a.origin 0]⟩] := by rw [joinB_cons, one_origin 64 a.origin (by decide), show byteAt 64 0 = 64 by decide]; rfl
  rw [show attrB a = joinB (rawsA a) from if_pos hg, e1, ← joinB_append, parseT_join, parse_raws a hg hr, parseR, if_pos]
  · split <;> simp
  · intro r hr
    rcases List.mem_append.1 hr with h | h
    · exact rawsA_std a hg.2.2.1 r h
    · simp only [List.mem_cons, List.not_mem_nil, or_false] at h
      subst h
      exact ⟨by simp, by simp, by simp⟩
/-- the first one is missing -/
theorem parse_tail (a : At) (hg : goodA a) (hr : hopR a) : parseT (joinB (rawsA a).tail) = (zeroA, faultF 3 [1]) := by
  rw [parseT_join (fun r hr => rawsA_std a hg.2.2.1 r (List.mem_of_mem_tail hr))]
  obtain ⟨o, p, h, m, hs⟩ := a
  obtain ⟨g1, g2, g3, g4, g5, g6⟩ := hg
  obtain ⟨b1, b2⟩ := take_r2 p zeroA g1 g3
  obtain ⟨c1, c2⟩ := take_r3 h { zeroA with path := p } g4 hr
  cases hs with
  | false =>
    show parseR [⟨64, 2, pathB p⟩, ⟨64, 3, [byteAt h 3, byteAt h 2, byteAt h 1, byteAt h 0]⟩] [] zeroA = _
    rw [parseR_step (by simp) b1, b2, parseR_step (by simp) c1, c2, parseR]
    rfl
  | true =>
    show parseR [⟨64, 2, pathB p⟩, ⟨64, 3, [byteAt h 3, byteAt h 2, byteAt h 1, byteAt h 0]⟩, ⟨128, 4, [byteAt m 3, byteAt m 2, byteAt m 1, byteAt m 0]⟩] [] zeroA = _
    obtain ⟨d1, d2⟩ := take_r4 m { { zeroA with path := p } with hop := h } g5
    rw [parseR_step (by simp) b1, b2, parseR_step (by simp) c1, c2, parseR_step (by simp) d1, d2, parseR]
    rfl

theorem one_any (f t n : Int) (hf : ¬ extF f) : oneB ⟨f, t, [byteAt n 0]⟩ = [byteAt f 0, byteAt t 0, 1, byteAt n 0] := by
  unfold oneB
  simp only [if_neg hf, List.take_of_length_le (show [byteAt n 0].length ≤ 255 by simp)]
  rw [show ((([byteAt n 0] : List UInt8).length : Nat) : Int) = 1 from rfl, show byteAt 1 0 = 1 by decide]
  rfl
theorem tail_std (a : At) (hl : a.path.length ≤ 16) : ∀ r, r ∈ (rawsA a).tail → stdR r := fun r hr => rawsA_std a hl r (List.mem_of_mem_tail hr)
/-- an origin that may not be -/
theorem fault_origin (a : At) (hl : a.path.length ≤ 16) (v : Int) (hv : 3 ≤ v ∧ v ≤ 255) : parseT ([64, 1, 1, byteAt v 0] ++ joinB (rawsA a).tail) = (zeroA, faultF 6 [64, 1, 1, byteAt v 0]) := by
  have e : oneB ⟨64, 1, [byteAt v 0]⟩ = [64, 1, 1, byteAt v 0] := by rw [one_origin 64 v (by decide), show byteAt 64 0 = 64 by decide]
  have hn := nmb_one v (by omega)
  have ht : takeE ⟨64, 1, [byteAt v 0]⟩ = 6 := by
    unfold takeE
    rw [if_neg (by simp only; decide), if_neg (by simp only; decide), if_neg (by simp [sizeT]), if_pos rfl, if_pos (by simp only; omega)]
  rw [← e, ← joinB_cons, parseT_join, parseR, if_neg (by simp), if_neg (by rw [ht]; decide), ht, if_neg (by decide)]
  intro r hr
  rcases List.mem_cons.1 hr with rfl | h
  · exact ⟨by simp, by simp, by simp⟩
  · exact tail_std a hl r h
/-- other flags -/
theorem fault_flags (a : At) (hl : a.path.length ≤ 16) (v : Int) : parseT ([128, 1, 1, byteAt v 0] ++ joinB (rawsA a).tail) = (zeroA, faultF 4 [128, 1, 1, byteAt v 0]) := by
  have e : oneB ⟨128, 1, [byteAt v 0]⟩ = [128, 1, 1, byteAt v 0] := by rw [one_origin 128 v (by decide), show byteAt 128 0 = 128 by decide]
  have ht : takeE ⟨128, 1, [byteAt v 0]⟩ = 4 := by
    unfold takeE
    rw [if_neg (by simp only; decide), if_pos (by simp only; decide)]
  rw [← e, ← joinB_cons, parseT_join, parseR, if_neg (by simp), if_neg (by rw [ht]; decide), ht, if_neg (by decide)]
  intro r hr
  rcases List.mem_cons.1 hr with rfl | h
  · exact ⟨by simp, by simp, by simp⟩
  · exact tail_std a hl r h
theorem unk_std (f t n : Int) (hf : 0 ≤ f ∧ f ≤ 255) (ht : 5 ≤ t ∧ t ≤ 255) : stdR ⟨f, t, [byteAt n 0]⟩ := ⟨hf, ⟨by simp only; omega, by simp only; omega⟩, by simp⟩
theorem unk_seen (a : At) (t : Int) (ht : 5 ≤ t) : t ∉ (if a.has then [4, 3, 2, 1] else [3, 2, 1] : List Int) := by split <;> simp <;> omega
/-- an unknown one that is not optional -/
theorem fault_unknown (a : At) (hg : goodA a) (hr : hopR a) (t n : Int) (ht : 5 ≤ t ∧ t ≤ 255) : parseT (attrB a ++ [64, byteAt t 0, 1, byteAt n 0]) = (zeroA, faultF 2 [64, byteAt t 0, 1, byteAt n 0]) := by
  have e : oneB ⟨64, t, [byteAt n 0]⟩ = [64, byteAt t 0, 1, byteAt n 0] := by rw [one_any 64 t n (by decide), show byteAt 64 0 = 64 by decide]
  have e1 : ([64, byteAt t 0, 1, byteAt n 0] : List UInt8) = joinB [⟨64, t, [byteAt n 0]⟩] := by rw [joinB_cons, e]; simp [joinB]
  have hte : takeE ⟨64, t, [byteAt n 0]⟩ = 2 := by
    unfold takeE
    rw [if_pos (by simp only; unfold knownT; omega), if_neg (by simp only; decide)]
  rw [show attrB a = joinB (rawsA a) from if_pos hg]
  conv => lhs; rw [e1]
  rw [← joinB_append, parseT_join, parse_raws a hg hr, parseR, if_neg (unk_seen a t ht.1), if_neg (by rw [hte]; decide), hte, if_neg (by decide), e]
  intro r hr
  rcases List.mem_append.1 hr with h | h
  · exact rawsA_std a hg.2.2.1 r h
  · simp only [List.mem_cons, List.not_mem_nil, or_false] at h
    subst h
    exact unk_std 64 t n (by decide) ht
/-- an unknown one that is optional -/
theorem skip_unknown (a : At) (hg : goodA a) (hr : hopR a) (t n : Int) (ht : 5 ≤ t ∧ t ≤ 255) : parseT (attrB a ++ [192, byteAt t 0, 1, byteAt n 0]) = (a, noFt) := by
  have e : oneB ⟨192, t, [byteAt n 0]⟩ = [192, byteAt t 0, 1, byteAt n 0] := by rw [one_any 192 t n (by decide), show byteAt 192 0 = 192 by decide]
  have e1 : ([192, byteAt t 0, 1, byteAt n 0] : List UInt8) = joinB [⟨192, t, [byteAt n 0]⟩] := by rw [joinB_cons, e]; simp [joinB]
  have hk : ¬ knownT t := by unfold knownT; omega
  have hte : takeE ⟨192, t, [byteAt n 0]⟩ = 0 := by
    unfold takeE
    rw [if_pos hk, if_pos (by simp only; decide)]
  have hts : takeS a ⟨192, t, [byteAt n 0]⟩ = a := by
    unfold takeS
    rw [if_neg (by rw [hte]; decide), if_neg (by simp only; omega), if_neg (by simp only; omega), if_neg (by simp only; omega), if_neg (by simp only; omega)]
  rw [show attrB a = joinB (rawsA a) from if_pos hg, e1, ← joinB_append, parseT_join, parse_raws a hg hr, parseR_step (unk_seen a t ht.1) hte, hts]
  · split <;> exact parse_end _ _ (by simp) (by simp) (by simp)
  · intro r hr
    rcases List.mem_append.1 hr with h | h
    · exact rawsA_std a hg.2.2.1 r h
    · simp only [List.mem_cons, List.not_mem_nil, or_false] at h
      subst h
      exact unk_std 192 t n (by decide) ht
theorem attrB_length (a : At) (hg : goodA a) : 14 ≤ (attrB a).length := by
  rw [attrB_four a hg]
  have h1 : (rawsA a).tail = ⟨64, 2, pathB a.path⟩ :: ⟨64, 3, [byteAt a.hop 3, byteAt a.hop 2, byteAt a.hop 1, byteAt a.hop 0]⟩ :: (if a.has then [⟨128, 4, [byteAt a.med 3, byteAt a.med 2, byteAt a.med 1, byteAt a.med 0]⟩] else []) := rfl
  rw [h1, joinB_cons, joinB_cons]
  have h2 := oneB_len3 ⟨64, 2, pathB a.path⟩
  have h3 : (oneB ⟨64, 3, [byteAt a.hop 3, byteAt a.hop 2, byteAt a.hop 1, byteAt a.hop 0]⟩).length = 7 := by
    unfold oneB
    simp only [if_neg (show ¬ extF 64 by decide)]
    rfl
  simp only [List.length_append, List.length_cons, List.length_nil, h3]
  omega
end Go.Proofs.Ytfhaaenmllkbnaa
