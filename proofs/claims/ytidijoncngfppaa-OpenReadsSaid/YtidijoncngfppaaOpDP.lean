/- The developers' layer 8: Parse; all that is asked of layer 8. No condition beyond what each names. -/
import Derived.Test.YtidijoncngfppaaOpDR
import Derived.Test.YtidijoncngfppaaOpDS
import Derived.Test.YtidijoncngfppaaOpDB
namespace Go.Proofs.Ytidijoncngfppaa
open Go.RowKit
set_option linter.unusedVariables false
set_option maxRecDepth 100000

theorem wp_append_rO {α : Type} (L : Lay α) {t : TypeId} {z : Value} {bytes : Nat} (ht : Try.prog.underlying t = some (.slice L.e)) (hi : (Try.prog.info? L.e).map (fun i => (i.zero, i.size, i.bytes)) = some (some z, L.k, bytes)) (hz : z.cells.size = L.k) (hk : 0 < L.k) (hbt : bytes ≤ 64)
    {w : World} {o : Oper} {a : Act} {K : Act → World → Prop} {Q : Exit → Act → World → Prop} (sl xo : Operand)
    (ho : o.op = .call { callee := .builtin .append, args := #[sl, xo], argTypes := #[t, t] })
    (B : Nat) (hB : B ≤ w.heap.size) (v : Value) (l : List α) (hs : a.eval sl = v) (hown : OwnR L w B v l) (x : Value) (m : List α) (hxe : a.eval xo = x) (hx : Rs L w x m) (hlen : l.length + m.length ≤ 1099511627776)
    (h : ∀ v' w', OwnR L w' B v' (l ++ m) → w.grownBy w' v.ownBlock → (v'.ownBlock = v.ownBlock ∨ v'.ownBlock = some w.heap.size) → K (a.put o.dst v') w') : Oper.wp Try.prog o a w K Q := by
  obtain ⟨v', w', hr, h1, h2, h3⟩ := run_append_r2 L ht hi hz hk hbt w o.type _ v l hown x m hx hlen hB
  exact Lib.wp_append_run w sl xo _ _ ho v x hs hxe v' w' hr (h v' w' h1 h2 h3)

/-- what parameters make of a body -/
def goP (P : Oq × Ft) (A H I : Nat) : Sum Int (List Cp) → Prop
  | .inl s => P = (zeroOq, ⟨2, s, []⟩)
  | .inr cs => P = (⟨A, H, I, cs⟩, noFt)
theorem parsA_over {f : Nat} {l : List UInt8} {a : Nat} {acc : List Cp} (h : l.length ≤ a) : parsA f l a acc = .inr acc := by
  cases f with
  | zero => rfl
  | succ f => rw [parsA, if_pos h]
theorem parsA_step {f : Nat} {l : List UInt8} {a : Nat} {acc : List Cp} (ha : a < l.length) (hf : l.length ≤ a + f) : ∃ f', f = f' + 1 ∧ parsA f l a acc = match parP l a with
    | .inl s => .inl s
    | .inr (cs, b) => parsA f' l b (acc ++ cs) := by
  cases f with
  | zero => omega
  | succ f =>
    refine ⟨f, rfl, ?_⟩
    unfold parP
    rw [parsA, if_neg (by omega)]
    by_cases h1 : l.length < a + 2
    · rw [if_pos h1, if_pos h1]
    rw [if_neg h1, if_neg h1]
    by_cases h2 : l.length < a + 2 + nmb l (a + 1) 1
    · rw [if_pos h2, if_pos h2]
    rw [if_neg h2, if_neg h2]
    by_cases h3 : nmb l a 1 ≠ 2
    · rw [if_pos h3, if_pos h3]
    rw [if_neg h3, if_neg h3]
    cases capsL ((l.drop (a + 2)).take (nmb l (a + 1) 1)) <;> rfl
theorem parseO_head (l : List UInt8) (asn : Int) : parseO l asn = if (headF l asn).code ≠ 0 then (zeroOq, headF l asn) else match parsA l.length l 10 [] with
    | .inl s => (zeroOq, badO s [])
    | .inr cs => (⟨nmb l 1 2, nmb l 3 2, nmb l 5 4, cs⟩, noFt) := by
  unfold parseO headF
  by_cases h1 : l.length < 10
  · rw [if_pos h1, if_pos h1, if_pos (by simp)]; rfl
  rw [if_neg h1, if_neg h1]
  by_cases h2 : nmb l 0 1 ≠ 4
  · rw [if_pos h2, if_pos h2, if_pos (by simp)]; rfl
  rw [if_neg h2, if_neg h2]
  by_cases h3 : numF l asn ≠ -1
  · rw [if_pos h3, if_pos h3, if_pos (by simp)]; rfl
  · rw [if_neg h3, if_neg h3, if_neg (by simp [noFt])]
    cases parsA l.length l 10 [] <;> rfl
theorem headF_short {l : List UInt8} {asn : Int} (h : l.length < 10) : (headF l asn).code = 2 := by unfold headF; rw [if_pos h]
theorem headF_no {l : List UInt8} {asn : Int} (h : ¬ (headF l asn).code ≠ 0) : headF l asn = noFt := by
  unfold headF at *
  split at h
  · simp at h
  · split at h
    · simp at h
    · split at h
      · simp at h
      · rw [if_neg (by assumption), if_neg (by assumption), if_neg (by assumption)]

set_option maxHeartbeats 8000000 in
theorem oParse_any (v : Value) (l : List UInt8) (asn : Int) (w : World) (hb : Bs w v l) (hl : (l.length : Int) ≤ 1000000) :
    Calls Try.prog 18 #[v, .int .i64 asn] w fun e w' => ∃ vc vd, e = .returned (.tuple #[oqV (parseO l asn).1 vc, ftV (parseO l asn).2 vd]) ∧ CapsW 30 w' vc (parseO l asn).1.caps ∧ Bs w' vd (parseO l asn).2.data ∧ Same w w' := by
  have HB := Lib.hid hb
  have HRd := fun w hb => Lib.hid (Read_any v l w hb (by omega))
  have HLL : Hid ((l.length : Int) ≤ 1000000) := hl
  have HPH := Lib.hid (parseO_head l asn)
  obtain ⟨P, hP⟩ : ∃ P, parseO l asn = P := ⟨_, rfl⟩
  rw [hP] at HPH ⊢
  obtain ⟨nl, hnl⟩ : ∃ n, l.length = n := ⟨_, rfl⟩
  obtain ⟨ao, cap, rfl⟩ := hb.form0 hnl
  clear hP hnl hb hl
  have HS0 := Lib.hid (((Same.alloc w (oqO 25 zeroOq (.slice none 0 0))).trans (Same.alloc _ (zeroFt 44))).trans (Same.alloc _ (zeroFt 44)))
  have h4 : (((w.alloc (oqO 25 zeroOq (.slice none 0 0))).alloc (zeroFt 44)).alloc (zeroFt 44)).heap[w.heap.size]? = some (oqO 25 zeroOq (.slice none 0 0)) := ((Same.alloc _ _).trans (Same.alloc _ _)).block (heap_alloc_new w _)
  have h5 : (((w.alloc (oqO 25 zeroOq (.slice none 0 0))).alloc (zeroFt 44)).alloc (zeroFt 44)).heap[w.heap.size + 1]? = some (zeroFt 44) := by
    have := heap_alloc_new (w.alloc (oqO 25 zeroOq (.slice none 0 0))) (zeroFt 44)
    rw [show (w.alloc (oqO 25 zeroOq (.slice none 0 0))).heap.size = w.heap.size + 1 from by simp] at this
    exact (Same.alloc _ _).block this
  have h6 : (((w.alloc (oqO 25 zeroOq (.slice none 0 0))).alloc (zeroFt 44)).alloc (zeroFt 44)).heap[w.heap.size + 1 + 1]? = some (zeroFt 44) := by
    have := heap_alloc_new ((w.alloc (oqO 25 zeroOq (.slice none 0 0))).alloc (zeroFt 44)) (zeroFt 44)
    rw [show ((w.alloc (oqO 25 zeroOq (.slice none 0 0))).alloc (zeroFt 44)).heap.size = w.heap.size + 1 + 1 from by simp] at this
    exact this
  have HR4 := Lib.hid h4
  have HR5 := Lib.hid h5
  have HF6 := Lib.hid h6
  clear h4 h5 h6
  generalize hW0 : ((w.alloc (oqO 25 zeroOq (.slice none 0 0))).alloc (zeroFt 44)).alloc (zeroFt 44) = W0 at HS0 HR4 HR5 HF6
  dsimp only [zeroOq] at hW0
  go_enter Try.func18, Try.ntmps18
  go_wp2_with fail
  clear hW0
  refine (HRd _ (HB.out.same HS0.out)).out.mono ?_
  rintro e W1 ⟨s, sv, rfl, hsz, hsrc, hs1, hown⟩
  have HS1 := Lib.hid (HS0.out.trans hs1)
  have HR41 := Lib.hid (hs1.block HR4.out)
  have HR51 := Lib.hid (hs1.block HR5.out)
  have HF61 := Lib.hid (hs1.block HF6.out)
  have HFZ : Hid (w.heap.size + 1 + 1 < W0.heap.size) := (Array.getElem?_eq_some_iff.1 HF6.out).1
  have HSZ : Hid (W0.heap.size ≤ s) := hsz
  have HSV : Hid (∀ g, sv.ownBlock = some g → W0.heap.size ≤ g) := hown
  have HSRC := Lib.hid hsrc
  have HSVL : Hid (∀ g, sv.ownBlock = some g → g < W1.heap.size) := hsrc.lt
  have HSL : Hid (s < W1.heap.size) := hsrc.src.lt
  clear hsz hown hsrc hs1 HR4 HR5 HF6 HS0 HRd HB
  go_wp2_with fail
  refine (oHead_any s (w.heap.size + 1 + 1) sv l asn W1 HSRC.out HF61.out (by have := HSZ.out; have := HFZ.out; omega) (fun he => by have := HSV.out _ he; have := HFZ.out; omega) HLL.out).mono ?_
  rintro e W2 ⟨A, H, I, a0, er0, rfl, hfa, hk, hsr, h10⟩
  have HFA2 := Lib.hid hfa
  have HK2 := Lib.hid hk
  have HSR2 := Lib.hid hsr
  have H10 := Lib.hid h10
  have hR42 := hk.at HR41.out (by have := HSZ.out; have := HFZ.out; simp; omega)
  have hR52 := hk.at HR51.out (by have := HSZ.out; have := HFZ.out; simp; omega)
  have HS2 : Hid (Same w W2) := hk.to_same HS1.out (fun k hk => by have := HSZ.out; have := HFZ.out; simp at hk; omega)
  have HAL := Lib.hid (Same.alloc W2 (oqO 25 ⟨A, H, I, []⟩ (.slice none 0 0)))
  have HO3 := Lib.hid (heap_alloc_new W2 (oqO 25 ⟨A, H, I, []⟩ (.slice none 0 0)))
  have HR43 := Lib.hid (HAL.out.block hR42)
  have HR53 := Lib.hid (HAL.out.block hR52)
  have HFA3 := Lib.hid (HFA2.out.same HAL.out)
  have HSR3 := Lib.hid (HSR2.out.same HAL.out)
  have HS3 := Lib.hid (HS2.out.trans HAL.out)
  have HB2 : Hid (W1.heap.size ≤ W2.heap.size) := hk.size
  have HZ3 : Hid ((W2.alloc (oqO 25 ⟨A, H, I, []⟩ (.slice none 0 0))).heap.size = W2.heap.size + 1) := by show _ = _; simp
  clear hfa hk hsr h10 hR42 hR52 HFA2 HK2 HSR2 HAL HR41 HR51 HF61 HSRC HS1 HS2
  go_wp2_with fail
  generalize hW3 : W2.alloc (.cells #[.int .i64 (A : Int), .int .i64 (H : Int), .int .u32 (I : Int), .slice none 0 0] 25) = W3 at HO3 HR43 HR53 HFA3 HSR3 HS3 HZ3 ⊢
  generalize hO : W2.heap.size = O at HO3 HB2 HZ3 ⊢
  clear hW3 hO
  generalize hBB : W1.heap.size = B at HFA3 HB2 HSVL HSL
  clear hBB
  have HFB : Hid (w.heap.size + 1 + 1 < B) := by have := HFZ.out; have := HSZ.out; have := HSL.out; show _ < _; omega
  have hst : (((headF l asn).code ≠ 0 ∧ P = (zeroOq, headF l asn)) ∨ (headF l asn = noFt ∧ a0 = 10 ∧ er0 = 0 ∧ 10 ≤ l.length ∧ goP P A H I (parsA l.length l 10 []))) := by
    by_cases hc : (headF l asn).code ≠ 0
    · exact .inl ⟨hc, by rw [HPH.out, if_pos hc]⟩
    · have h0 := headF_no hc
      have h1 : 10 ≤ l.length := by
        by_cases h : l.length < 10
        · exact absurd (headF_short (asn := asn) h) (by rw [h0]; decide)
        · omega
      obtain ⟨z1, z2, z3, z4, z5⟩ := H10.out h1
      refine .inr ⟨h0, z1, z2, h1, ?_⟩
      have hp := HPH.out
      rw [if_neg hc, ← z3, ← z4, ← z5] at hp
      rw [hp]
      cases parsA l.length l 10 [] <;> rfl
  have HST := Lib.hid hst
  clear hst HPH H10
  go_loopw [] (fun wr => ∃ fc : Ft, FaultAt wr (w.heap.size + 1 + 1) B fc ∧ wr.heap[w.heap.size]? = some (oqO 25 zeroOq (.slice none 0 0)) ∧ wr.heap[w.heap.size + 1]? = some (zeroFt 44) ∧ Same w wr ∧ W3.heap.size ≤ wr.heap.size ∧
    ((fc.code ≠ 0 ∧ P = (zeroOq, fc)) ∨ (fc = noFt ∧ ∃ (a f : Nat) (xs : List (Cp × Sl)) (lv : Value), SrcB wr s sv l a 0 ∧ wr.heap[O]? = some (oqO 25 ⟨A, H, I, []⟩ lv) ∧ OwnR (capLay 30) wr W3.heap.size lv xs ∧
      (∀ x, x ∈ xs → Bs wr (cvV x.1 x.2) x.1.value ∧ ∀ g, (cvV x.1 x.2).ownBlock = some g → W3.heap.size ≤ g ∧ g < wr.heap.size ∧ lv.ownBlock ≠ some g) ∧
      l.length ≤ a + f ∧ xs.length ≤ a * 1000000 ∧ goP P A H I (parsA f l a (xs.map (·.1)))))) (fun wr => l.length - posW wr s 2)
  case atStart =>
    refine ⟨headF l asn, HFA3.out, HR43.out, HR53.out, HS3.out, Nat.le_refl _, ?_⟩
    rcases HST.out with h | ⟨h1, h2, h3, h4, h5⟩
    · exact .inl h
    · subst h2 h3
      exact .inr ⟨h1, 10, l.length, [], _, HSR3.out, HO3.out, OwnR.nil _ _ _, (fun x h => by cases h), by omega, by simp, h5⟩
  case round =>
    obtain ⟨fc, hfa, hr4, hr5, hsw, hsz, hst⟩ := hrel
    have HFA := Lib.hid hfa
    have HR4 := Lib.hid hr4
    have HR5 := Lib.hid hr5
    have HSW := Lib.hid hsw
    have HWZ : Hid (W3.heap.size ≤ wr.heap.size) := hsz
    clear hr4 hr5 hsw hsz HST HFA3 HR43 HR53 HS3 HSR3 HO3
    obtain ⟨vd, k1, k2, k3⟩ := hfa
    have HF := Lib.hid k1
    have HD := Lib.hid k2
    have HK3 : Hid (∀ g, vd.ownBlock = some g → B ≤ g) := k3
    clear k1 k2 k3
    rcases hst with ⟨hc, hp⟩ | ⟨rfl, a, f, xs, lv, hsr, ho, hov, hxb, hf, hxa, hgo⟩
    · have HP := Lib.hid hp
      obtain ⟨k0, k1, k2⟩ := fc
      have h1 : (k0 == 0) = false := by simpa using hc
      have h2 : (k0 != 0) = true := by simpa using hc
      simp only at HD
      obtain ⟨nd, hnd⟩ : ∃ n, k2.length = n := ⟨_, rfl⟩
      obtain ⟨ad, cd, rfl⟩ := HD.out.form0 hnd
      obtain ⟨c0, c1, c2⟩ := FtAt.of HF.out
      clear hp hc hnd
      go_wp2_with fail
      clear c0 c1 c2 h1 h2
      have HR4d : Hid (wr.drew.heap[w.heap.size]? = some (oqO 25 zeroOq (.slice none 0 0))) := HR4.out
      have HR5d : Hid (wr.drew.heap[w.heap.size + 1]? = some (zeroFt 44)) := HR5.out
      have HFd : Hid (wr.drew.heap[w.heap.size + 1 + 1]? = some (ftO 44 ⟨k0, k1, k2⟩ (.slice ad nd cd))) := HF.out
      have HSd : Hid (Same w wr.drew) := HSW.out.drew
      have HDd : Hid (Bs wr.drew (.slice ad nd cd) k2) := HD.out.same (Same.refl wr).drew
      refine reg_start (fun w' => w'.heap[w.heap.size + 1 + 1]? = some (ftO 44 ⟨k0, k1, k2⟩ (.slice ad nd cd))) (by kernel_rfl) ?_
      generalize wr.drew = V at HR4d HR5d HFd HSd HDd ⊢
      refine reg_take (v := ?_) 0 (some 35) rfl rfl (by kernel_rfl) (fun _ _ _ h => h) (by kernel_rfl) (HFd.out) ?_ ?_
      rotate_left
      · (intro w' hw'; obtain ⟨c0, c1, c2⟩ := FtAt.of hw'; go_simp; try with_reducible rfl)
      try simp only [Act.put, List.setIfInBounds_toArray, List.set_cons_zero, List.set_cons_succ]
      refine reg_take (v := ?_) 1 (some 36) rfl rfl (by kernel_rfl) (fun _ _ _ h => h) (by kernel_rfl) (HFd.out) ?_ ?_
      rotate_left
      · (intro w' hw'; obtain ⟨c0, c1, c2⟩ := FtAt.of hw'; go_simp; try with_reducible rfl)
      try simp only [Act.put, List.setIfInBounds_toArray, List.set_cons_zero, List.set_cons_succ]
      refine reg_one 2 rfl (by kernel_rfl) (by kernel_rfl) ?_
      refine wp_store_row 25 _ _ (by rfl) w.heap.size #[.int .i64 0, .int .i64 0, .int .u32 0, .slice none 0 0] (by rfl) (by rfl) 25 _ HR4d.out (by kernel_rfl) (by rfl) (by simp [Value.oneCell']) ?_
      have hS2 := (setRow_other V w.heap.size (w.heap.size + 1 + 1) #[.int .i64 0, .int .i64 0, .int .u32 0, .slice none 0 0] (by omega)).trans HFd.out
      have hR3 := (setRow_other V w.heap.size (w.heap.size + 1) #[.int .i64 0, .int .i64 0, .int .u32 0, .slice none 0 0] (by omega)).trans HR5d.out
      have hR2 := setRow_heap V w.heap.size _ #[.int .i64 0, .int .i64 0, .int .u32 0, .slice none 0 0] _ _ HR4d.out
      have hM2 := setRow_mod w.heap.size V #[.int .i64 0, .int .i64 0, .int .u32 0, .slice none 0 0]
      refine ⟨hS2, ?_⟩
      try simp only [Act.put]
      generalize V.setRow w.heap.size _ = V2 at *
      refine reg_one 3 rfl (by kernel_rfl) (by kernel_rfl) ?_
      refine wp_store_row 44 _ _ (by rfl) (w.heap.size + 1) #[.int .i64 k0, .int .i64 k1, .slice ad nd cd] (by rfl) (by rfl) 44 _ hR3 (by kernel_rfl) (by rfl) (by simp [Value.oneCell']) ?_
      have hS3 := (setRow_other V2 (w.heap.size + 1) (w.heap.size + 1 + 1) #[.int .i64 k0, .int .i64 k1, .slice ad nd cd] (by omega)).trans hS2
      have hR22 := (setRow_other V2 (w.heap.size + 1) w.heap.size #[.int .i64 k0, .int .i64 k1, .slice ad nd cd] (by omega)).trans hR2
      have hR33 := setRow_heap V2 (w.heap.size + 1) _ #[.int .i64 k0, .int .i64 k1, .slice ad nd cd] _ _ hR3
      have hM3 := setRow_mod (w.heap.size + 1) V2 #[.int .i64 k0, .int .i64 k1, .slice ad nd cd]
      refine ⟨hS3, ?_⟩
      try simp only [Act.put]
      generalize V2.setRow (w.heap.size + 1) _ = V3 at *
      refine reg_done (by kernel_rfl) ?_
      have HKp : Kept [w.heap.size, w.heap.size + 1] V V3 := ((Kept.refl _ _).mod hM2 (.inl (by simp))).mod hM3 (.inl (by simp))
      have hSw : Same w V3 := HKp.to_same HSd.out (fun s hs => by simp at hs; omega)
      have hBd : Bs V3 (.slice ad nd cd) k2 := by
        by_cases he : k2 = []
        · subst he; exact HDd.out.empty
        · exact HDd.out.kept HKp (fun g hg => by
            have h3 := HK3.out g hg
            have := HFB.out
            simp
            omega)
      clear hS2 hS3 hR3 hR2 hM2 hM3
      go_wp2_with fail
      obtain ⟨x0, x1, x2, x3⟩ := OqAt.of (o := zeroOq) (vc := .slice none 0 0) hR22
      obtain ⟨y0, y1, y2⟩ := FtAt.of (f := ⟨k0, k1, k2⟩) (vd := .slice ad nd cd) hR33
      refine bodyPost_ret (v := .tuple #[oqV zeroOq (.slice none 0 0), ftV ⟨k0, k1, k2⟩ (.slice ad nd cd)]) ?_ rfl ⟨_, _, by rw [HP.out], by rw [HP.out]; exact CapsW.nil _ _, by rw [HP.out]; exact hBd, hSw⟩
      simp [results, Try.results18, go_sem, x0, x1, x2, x3, y0, y1, y2, zeroOq]
    have HSR := Lib.hid hsr
    have HO := Lib.hid ho
    have HOV := Lib.hid hov
    have HXB := Lib.hid hxb
    have HGO := Lib.hid hgo
    have HXA : Hid (xs.length ≤ a * 1000000) := hxa
    have HFU : Hid (l.length ≤ a + f) := hf
    have HAL : Hid (a ≤ l.length) := hsr.le
    have hpos := hsr.posO
    rw [hpos]
    have HLf := Lib.hid (Left_made s sv l a 0 wr HSR.out)
    rw [if_pos rfl] at HLf
    clear hsr ho hov hxb hgo hf hxa hpos HD
    obtain ⟨c0, c1, c2⟩ := FtAt.of (f := noFt) HF.out
    have c0' : wr.cell? ⟨w.heap.size + 1 + 1, 0, none⟩ = some (.int .i64 0) := c0
    clear c0 c1 c2
    go_wp2_with fail
    clear c0'
    refine HLf.out.mono ?_
    rintro e u1 ⟨rfl, hs1⟩
    replace HSR := Lib.hid (HSR.out.same hs1)
    replace HO := Lib.hid (hs1.block HO.out)
    replace HOV := Lib.hid (HOV.out.same hs1)
    replace HXB : Hid (∀ x, x ∈ xs → Bs u1 (cvV x.1 x.2) x.1.value ∧ ∀ g, (cvV x.1 x.2).ownBlock = some g → W3.heap.size ≤ g ∧ g < u1.heap.size ∧ lv.ownBlock ≠ some g) := fun x hx => ⟨(HXB.out x hx).1.same hs1, fun g hg => ⟨((HXB.out x hx).2 g hg).1, Nat.lt_of_lt_of_le ((HXB.out x hx).2 g hg).2.1 hs1.size, ((HXB.out x hx).2 g hg).2.2⟩⟩
    replace HFA := Lib.hid (HFA.out.same hs1)
    replace HR4 := Lib.hid (hs1.block HR4.out)
    replace HR5 := Lib.hid (hs1.block HR5.out)
    replace HF := Lib.hid (hs1.block HF.out)
    replace HSW := Lib.hid (HSW.out.trans hs1)
    replace HWZ : Hid (W3.heap.size ≤ u1.heap.size) := Nat.le_trans HWZ.out hs1.size
    clear hs1 HLf
    by_cases hend : l.length ≤ a
    · have i1 : ¬ (0 < (l.length : Int) - a) := by omega
      have hp : P = (⟨A, H, I, xs.map (·.1)⟩, noFt) := by
        have := HGO.out
        rw [parsA_over hend] at this
        exact this
      have HP := Lib.hid hp
      obtain ⟨nx, hnx⟩ : ∃ n, xs.length = n := ⟨_, rfl⟩
      obtain ⟨la, lc, rfl⟩ := HOV.out.rs.form hnx
      obtain ⟨c0, c1, c2⟩ := FtAt.of (f := noFt) HF.out
      have c0' : u1.cell? ⟨w.heap.size + 1 + 1, 0, none⟩ = some (.int .i64 0) := c0
      obtain ⟨t0, t1, t2, t3⟩ := OqAt.of HO.out
      clear c0 c1 c2 hp hnx hend
      have hE := two_end (t2 := 25) (t3 := 44) w.heap.size (w.heap.size + 1) (by omega) (Nat.le_refl _) (by omega) [.int .i64 (A : Int), .int .i64 (H : Int), .int .u32 (I : Int), .slice la nx lc] [.int .i64 0, .int .i64 0, .int .u32 0, .slice none 0 0] [.int .i64 0, .int .i64 0, .slice none 0 0] [.int .i64 0, .int .i64 0, .slice none 0 0] HSW.out HR4.out HR5.out rfl rfl
      have hQ := (sets_cells w.heap.size 25 [.int .i64 (A : Int), .int .i64 (H : Int), .int .u32 (I : Int), .slice la nx lc] u1 [] [.int .i64 0, .int .i64 0, .int .u32 0, .slice none 0 0] HR4.out rfl).1
      dsimp only [setsC, Nat.reduceAdd, List.length_nil] at hE hQ
      obtain ⟨b0, b1, b2, b3⟩ := OqAt.of (o := zeroOq) (vc := .slice none 0 0) HR4.out
      have hfz2 := nofr HR4.out
      have hk3' := (hQ.block (w.heap.size + 1) (Array.getElem?_eq_some_iff.1 HR5.out).1 (by omega)).trans HR5.out
      obtain ⟨f0, f1, f2⟩ := FtAt.of (f := noFt) (vd := .slice none 0 0) hk3'
      have hfz3 := nofr hk3'
      have HE := Lib.hid hE
      clear hE hQ hk3'
      go_wp2_with fail
      have hE := HE.out
      generalize World.setCell _ ⟨w.heap.size + 1, 2, none⟩ _ = U at hE ⊢
      obtain ⟨x0, x1, x2, x3⟩ := OqAt.of (o := ⟨A, H, I, []⟩) (vc := .slice la nx lc) hE.1
      obtain ⟨y0, y1, y2⟩ := FtAt.of (f := noFt) (vd := .slice none 0 0) hE.2.1
      have hcaps : CapsW 30 U (.slice la nx lc) (xs.map (·.1)) := by
        have hnm : ∀ g, g ∈ [w.heap.size, w.heap.size + 1] → g < W3.heap.size := fun g hg => by have := HFB.out; have := HB2.out; have := HZ3.out; simp at hg; omega
        exact ⟨xs, rfl, (HOV.out.kept hE.2.2.2 (fun g hg hm => by have := (HOV.out.lt g hg).1; have := hnm g hm; omega)).rs, fun x hx => (HXB.out x hx).1.kept hE.2.2.2 (fun g hg hm => by have := ((HXB.out x hx).2 g hg).1; have := hnm g hm; omega)⟩
      refine bodyPost_ret (v := .tuple #[oqV ⟨A, H, I, xs.map (·.1)⟩ (.slice la nx lc), ftV noFt (.slice none 0 0)]) ?_ rfl ⟨_, _, by rw [HP.out], by rw [HP.out]; exact hcaps, by rw [HP.out]; exact Bs.nil _, hE.2.2.1⟩
      simp [results, Try.results18, go_sem, x0, x1, x2, x3, y0, y1, y2, noFt]
    have HA1 : Hid (a < l.length) := by show _ < _; omega
    have i1 : (0 < (l.length : Int) - a) := by omega
    clear hend
    go_wp2_with fail
    clear i1
    -- the round's region, of open order
    have hD : Same u1 u1.drew := (Same.refl u1).drew
    replace HSR := Lib.hid (HSR.out.same hD)
    replace HO := Lib.hid (hD.block HO.out)
    replace HOV := Lib.hid (HOV.out.same hD)
    replace HXB : Hid (∀ x, x ∈ xs → Bs u1.drew (cvV x.1 x.2) x.1.value ∧ ∀ g, (cvV x.1 x.2).ownBlock = some g → W3.heap.size ≤ g ∧ g < u1.drew.heap.size ∧ lv.ownBlock ≠ some g) := fun x hx => ⟨(HXB.out x hx).1.same hD, fun g hg => ⟨((HXB.out x hx).2 g hg).1, Nat.lt_of_lt_of_le ((HXB.out x hx).2 g hg).2.1 hD.size, ((HXB.out x hx).2 g hg).2.2⟩⟩
    replace HFA := Lib.hid (HFA.out.same hD)
    replace HR4 := Lib.hid (hD.block HR4.out)
    replace HR5 := Lib.hid (hD.block HR5.out)
    replace HSW := Lib.hid (HSW.out.trans hD)
    replace HWZ : Hid (W3.heap.size ≤ u1.drew.heap.size) := Nat.le_trans HWZ.out hD.size
    have HCALL := Lib.hid (oPar_any s (w.heap.size + 1 + 1) B sv l a u1.drew HSR.out HA1.out HFA.out HFB.out (by have := HSZ.out; have := HFZ.out; omega) (fun he => by have := HSV.out _ he; have := HFZ.out; omega) HLL.out)
    have HSO : Hid (O ∉ [s, w.heap.size + 1 + 1]) := by have := HSL.out; have := HB2.out; have := HFB.out; show _ ∉ _; simp; omega
    have HNB : Hid (∀ g, g ∈ [s, w.heap.size + 1 + 1, O] → g < W3.heap.size) := fun g hg => by have := HSL.out; have := HB2.out; have := HFB.out; have := HZ3.out; simp at hg; omega
    have hss : ∃ SS : List Nat, (s ∈ SS ∧ (w.heap.size + 1 + 1) ∈ SS ∧ O ∈ SS ∧ ∀ g, lv.ownBlock = some g → g ∈ SS) ∧ (w.heap.size ∉ SS ∧ w.heap.size + 1 ∉ SS) ∧ ∀ k, k ∈ SS → w.heap.size ≤ k := by
      have q1 := HSZ.out
      have q2 := HFZ.out
      have q3 := HB2.out
      have q4 := HSL.out
      have q5 := HZ3.out
      have q6 := HFB.out
      have hlt := fun g hg => (HOV.out.lt g hg).1
      refine ⟨[s, w.heap.size + 1 + 1, O] ++ lv.ownBlock.toList, ⟨by simp, by simp, by simp, fun g hg => by simp [hg]⟩, ⟨fun hm => ?_, fun hm => ?_⟩, fun k hm => ?_⟩
      all_goals
        rcases List.mem_append.1 hm with h | h
        · simp at h; omega
        · have := hlt _ (by simpa using h); omega
    obtain ⟨SS, hss⟩ := hss
    have HSS := Lib.hid hss
    have HQ0 : Hid (Kept SS u1.drew u1.drew) := Kept.refl _ _
    clear hss
    clear hD HF
    refine reg_start (fun w' => Kept SS u1.drew w') (by kernel_rfl) ?_
    generalize u1.drew = D at HSR HO HOV HXB HFA HR4 HR5 HSW HWZ HCALL HQ0 ⊢
    refine reg_take (v := ?_) 0 (some 25) rfl rfl (by kernel_rfl) (fun _ _ _ h => h) (by kernel_rfl) (HQ0.out) ?_ ?_
    rotate_left
    · (intro w' hw'; go_simp; try with_reducible rfl)
    try simp only [Act.put, List.setIfInBounds_toArray, List.set_cons_zero, List.set_cons_succ]
    refine reg_take (v := ?_) 2 (some 27) rfl rfl (by kernel_rfl) (fun _ _ _ h => h) (by kernel_rfl) (HQ0.out) ?_ ?_
    rotate_left
    · (intro w' hw'; go_simp; try with_reducible rfl)
    try simp only [Act.put, List.setIfInBounds_toArray, List.set_cons_zero, List.set_cons_succ]
    refine reg_take (v := ?_) 3 (some 28) rfl rfl (by kernel_rfl) (fun _ _ _ h => h) (by kernel_rfl) (HQ0.out) ?_ ?_
    rotate_left
    · (intro w' hw'; go_simp; try with_reducible rfl)
    try simp only [Act.put, List.setIfInBounds_toArray, List.set_cons_zero, List.set_cons_succ]
    refine reg_two 1 4 rfl rfl (by kernel_rfl) (by kernel_rfl) (by kernel_rfl) ?_ ?_
    · obtain ⟨t0, t1, t2, t3⟩ := OqAt.of HO.out
      go_simp
      clear t0 t1 t2 t3
      refine ⟨HQ0.out, ?_⟩
      try simp only [Act.put, List.setIfInBounds_toArray, List.set_cons_zero, List.set_cons_succ]
      refine reg_one 4 rfl (by kernel_rfl) (by kernel_rfl) ?_
      go_simp
      refine HCALL.out.mono ?_
      rintro e X ⟨v, ys, b, er, rfl, hrs, hyb, hkx, hsx, hab, hyl, hcs⟩
      have HRS := Lib.hid hrs
      have HYB := Lib.hid hyb
      have HKX := Lib.hid hkx
      have HSX := Lib.hid hsx
      have HAB : Hid (a < b) := hab
      have HYL : Hid (ys.length ≤ l.length) := hyl
      have HCS := Lib.hid hcs
      have HOX := Lib.hid (hkx.at HO.out HSO.out)
      have HK4 := Lib.hid (hkx.more (tt := SS) (fun k hk => (List.mem_cons.1 hk).elim (fun h => h ▸ HSS.out.1.1) (fun h => (List.mem_singleton.1 h) ▸ HSS.out.1.2.1)))
      have HOVX := Lib.hid (HOV.out.kept hkx (fun g hg hm => by have := (HOV.out.lt g hg).1; have := HNB.out g (by simp at hm ⊢; omega); omega))
      clear hrs hyb hkx hsx hab hyl hcs
      refine ⟨HK4.out, ?_⟩
      try simp only [Act.put, List.setIfInBounds_toArray, List.set_cons_zero, List.set_cons_succ]
      have HLn : Hid (xs.length + ys.length ≤ 1099511627776) := by have := HXA.out; have := HYL.out; have := HA1.out; have := HLL.out; show _ ≤ _; omega
      have HX3 : Hid (W3.heap.size ≤ X.heap.size) := Nat.le_trans HWZ.out HKX.out.size
      refine reg_one 5 rfl (by kernel_rfl) (by kernel_rfl) ?_
      refine wp_append_rO (capLay 30) Try.underlying23 capInfoD rfl (by decide) (by decide) _ _ rfl W3.heap.size HX3.out lv xs rfl HOVX.out v ys rfl HRS.out HLn.out ?_
      intro v9 w9 ho9 hg9 hl9
      have HOb : Hid (∀ g, lv.ownBlock = some g → W3.heap.size ≤ g ∧ g < D.heap.size) := HOV.out.lt
      have HKg : Hid (Kept lv.ownBlock.toList X w9) := (Kept.refl _ _).grown hg9 (fun s hs => .inl (by rw [hs]; simp))
      have HRow : Hid (∀ g, g ∈ lv.ownBlock.toList → W3.heap.size ≤ g ∧ g < D.heap.size) := fun g hg => HOb.out g (by simpa using hg)
      have hS5 : Kept SS D w9 := HK4.out.grown hg9 (fun s hs => .inl (HSS.out.1.2.2.2 s hs))
      have HG9 := Lib.hid hg9
      have HL9 := Lib.hid hl9
      have HO9 := Lib.hid ho9
      have HS5 := Lib.hid hS5
      obtain ⟨n9, hn9⟩ : ∃ n, (xs ++ ys).length = n := ⟨_, rfl⟩
      obtain ⟨la, lc, rfl⟩ := ho9.rs.form hn9
      clear hg9 hl9 ho9 hn9
      refine ⟨hS5, ?_⟩
      try simp only [Act.put, List.setIfInBounds_toArray, List.set_cons_zero, List.set_cons_succ]
      refine reg_take (v := ?_) 6 (some 31) rfl rfl (by kernel_rfl) (fun _ _ _ h => h) (by kernel_rfl) (HS5.out) ?_ ?_
      rotate_left
      · (intro w' hw'; go_simp; try with_reducible rfl)
      try simp only [Act.put, List.setIfInBounds_toArray, List.set_cons_zero, List.set_cons_succ]
      have HOw := Lib.hid (HKg.out.at HOX.out (fun hm => by have := (HRow.out _ hm).1; have := HNB.out O (by simp); omega))
      obtain ⟨t0, t1, t2, t3⟩ := OqAt.of HOw.out
      have hfz := nofr HOw.out
      have HS7 := Lib.hid (HS5.out.set 3 (.slice la n9 lc) (.inl HSS.out.1.2.2.1) (s := O))
      have HO7 : Hid ((w9.setCell ⟨O, 3, none⟩ (.slice la n9 lc)).heap[O]? = some (oqO 25 ⟨A, H, I, []⟩ (.slice la n9 lc))) := by show _ = _; simp [World.setCell, Array.getElem?_modify, HOw.out]
      have HM7 := Lib.hid (Mod.setCell O 3 w9 (.slice la n9 lc))
      refine reg_one 7 rfl (by kernel_rfl) (by kernel_rfl) ?_
      go_simp
      clear t0 t1 t2 t3 hfz
      refine ⟨HS7.out, ?_⟩
      try simp only [Act.put, List.setIfInBounds_toArray, List.set_cons_zero, List.set_cons_succ]
      generalize w9.setCell ⟨O, 3, none⟩ (.slice la n9 lc) = Z at HS7 HO7 HM7 ⊢
      refine reg_done (by kernel_rfl) ?_
      go_wp2_with fail
      have hKZ : Kept [O] w9 Z := (Kept.refl [O] w9).mod HM7.out (.inl (by simp))
      have hOn : O < W3.heap.size := HNB.out O (by simp)
      have hsZ : SrcB Z s sv l b er := (HSX.out.keptO HKg.out (fun hm => by have := (HRow.out _ hm).1; have := HNB.out s (by simp); omega) (fun g hg hm => by have := (HRow.out _ hm).1; have := HSVL.out g hg; have := HB2.out; omega)).keptO hKZ (by have := HSL.out; have := HB2.out; simp; omega) (fun g hg => by have := HSVL.out g hg; have := HB2.out; simp; omega)
      have hposZ := hsZ.posO
      have hR4Z := HS7.out.at HR4.out HSS.out.2.1.1
      have hR5Z := HS7.out.at HR5.out HSS.out.2.1.2
      have hSZ : Same w Z := HS7.out.to_same HSW.out HSS.out.2.2
      have hszZ : W3.heap.size ≤ Z.heap.size := Nat.le_trans HWZ.out HS7.out.size
      have hFk : ∀ fc : Ft, fc.data = [] → FaultAt X (w.heap.size + 1 + 1) B fc → FaultAt Z (w.heap.size + 1 + 1) B fc := fun fc hd h => (h.keptE hd HKg.out (fun hm => by have := (HRow.out _ hm).1; have := HNB.out (w.heap.size + 1 + 1) (by simp); omega)).keptE hd hKZ (by have := HFB.out; have := HB2.out; simp; omega)
      obtain ⟨f', rfl, hstep⟩ := parsA_step (f := f) (acc := xs.map (·.1)) HA1.out HFU.out
      have hgo := HGO.out
      rw [hstep] at hgo
      rcases HCS.out with ⟨sub, hpp, hff⟩ | ⟨hpp, rfl, hff⟩
      · rw [hpp] at hgo
        exact ⟨⟨_, hFk _ rfl hff, hR4Z, hR5Z, hSZ, hszZ, .inl ⟨by simp, hgo⟩⟩, by rw [hposZ]; have := HAB.out; have := HA1.out; omega⟩
      · rw [hpp] at hgo
        refine ⟨⟨noFt, hFk _ rfl hff, hR4Z, hR5Z, hSZ, hszZ, .inr ⟨rfl, b, f', xs ++ ys, _, hsZ, HO7.out, HO9.out.kept hKZ (fun g hg => by have := (HO9.out.lt g hg).1; simp; omega), fun x hx => ?_, by have := HAB.out; have := HFU.out; omega, ?_, ?_⟩⟩, by rw [hposZ]; have := HAB.out; have := HA1.out; omega⟩
        · rcases List.mem_append.1 hx with hx | hx
          · obtain ⟨z1, z2⟩ := HXB.out x hx
            refine ⟨((z1.kept HKX.out (fun g hg hm => ?_)).kept HKg.out (fun g hg h => ?_)).kept hKZ (fun g hg => ?_), fun g hg => ?_⟩
            · have := (z2 g hg).1; have := HNB.out g (by simp at hm ⊢; omega); omega
            · exact (z2 g hg).2.2 (by simpa using h)
            · have := (z2 g hg).1; simp; omega
            · obtain ⟨q1, q2, q3⟩ := z2 g hg
              have h1 := HKX.out.size
              have h2 := HKg.out.size
              have h3 := hKZ.size
              refine ⟨q1, by omega, fun he => ?_⟩
              rcases HL9.out with h | h
              · exact q3 (h ▸ he)
              · rw [h] at he; have := Option.some.inj he; omega
          · obtain ⟨z1, z2⟩ := HYB.out x hx
            refine ⟨(z1.kept HKg.out (fun g hg hm => ?_)).kept hKZ (fun g hg => ?_), fun g hg => ?_⟩
            · have := (z2 g hg).1; have := (HRow.out _ hm).2; omega
            · have := (z2 g hg).1; have := HWZ.out; simp; omega
            · obtain ⟨q1, q2⟩ := z2 g hg
              have h0 := HWZ.out
              have h2 := HKg.out.size
              have h3 := hKZ.size
              refine ⟨by omega, by omega, fun he => ?_⟩
              rcases HL9.out with h | h
              · rw [h] at he; have := (HOb.out g he).2; omega
              · rw [h] at he; have := Option.some.inj he; omega
        · have h1 := HXA.out; have h2 := HYL.out; have h3 := HAB.out; have h4 := HLL.out; rw [List.length_append]; omega
        · rw [List.map_append]; exact hgo
    · go_simp
      refine HCALL.out.mono ?_
      rintro e X ⟨v, ys, b, er, rfl, hrs, hyb, hkx, hsx, hab, hyl, hcs⟩
      have HRS := Lib.hid hrs
      have HYB := Lib.hid hyb
      have HKX := Lib.hid hkx
      have HSX := Lib.hid hsx
      have HAB : Hid (a < b) := hab
      have HYL : Hid (ys.length ≤ l.length) := hyl
      have HCS := Lib.hid hcs
      have HOX := Lib.hid (hkx.at HO.out HSO.out)
      have HK4 := Lib.hid (hkx.more (tt := SS) (fun k hk => (List.mem_cons.1 hk).elim (fun h => h ▸ HSS.out.1.1) (fun h => (List.mem_singleton.1 h) ▸ HSS.out.1.2.1)))
      have HOVX := Lib.hid (HOV.out.kept hkx (fun g hg hm => by have := (HOV.out.lt g hg).1; have := HNB.out g (by simp at hm ⊢; omega); omega))
      clear hrs hyb hkx hsx hab hyl hcs
      refine ⟨HK4.out, ?_⟩
      try simp only [Act.put, List.setIfInBounds_toArray, List.set_cons_zero, List.set_cons_succ]
      refine reg_one 1 rfl (by kernel_rfl) (by kernel_rfl) ?_
      obtain ⟨t0, t1, t2, t3⟩ := OqAt.of HOX.out
      go_simp
      clear t0 t1 t2 t3
      refine ⟨HK4.out, ?_⟩
      try simp only [Act.put, List.setIfInBounds_toArray, List.set_cons_zero, List.set_cons_succ]
      have HLn : Hid (xs.length + ys.length ≤ 1099511627776) := by have := HXA.out; have := HYL.out; have := HA1.out; have := HLL.out; show _ ≤ _; omega
      have HX3 : Hid (W3.heap.size ≤ X.heap.size) := Nat.le_trans HWZ.out HKX.out.size
      refine reg_one 5 rfl (by kernel_rfl) (by kernel_rfl) ?_
      refine wp_append_rO (capLay 30) Try.underlying23 capInfoD rfl (by decide) (by decide) _ _ rfl W3.heap.size HX3.out lv xs rfl HOVX.out v ys rfl HRS.out HLn.out ?_
      intro v9 w9 ho9 hg9 hl9
      have HOb : Hid (∀ g, lv.ownBlock = some g → W3.heap.size ≤ g ∧ g < D.heap.size) := HOV.out.lt
      have HKg : Hid (Kept lv.ownBlock.toList X w9) := (Kept.refl _ _).grown hg9 (fun s hs => .inl (by rw [hs]; simp))
      have HRow : Hid (∀ g, g ∈ lv.ownBlock.toList → W3.heap.size ≤ g ∧ g < D.heap.size) := fun g hg => HOb.out g (by simpa using hg)
      have hS5 : Kept SS D w9 := HK4.out.grown hg9 (fun s hs => .inl (HSS.out.1.2.2.2 s hs))
      have HG9 := Lib.hid hg9
      have HL9 := Lib.hid hl9
      have HO9 := Lib.hid ho9
      have HS5 := Lib.hid hS5
      obtain ⟨n9, hn9⟩ : ∃ n, (xs ++ ys).length = n := ⟨_, rfl⟩
      obtain ⟨la, lc, rfl⟩ := ho9.rs.form hn9
      clear hg9 hl9 ho9 hn9
      refine ⟨hS5, ?_⟩
      try simp only [Act.put, List.setIfInBounds_toArray, List.set_cons_zero, List.set_cons_succ]
      refine reg_take (v := ?_) 6 (some 31) rfl rfl (by kernel_rfl) (fun _ _ _ h => h) (by kernel_rfl) (HS5.out) ?_ ?_
      rotate_left
      · (intro w' hw'; go_simp; try with_reducible rfl)
      try simp only [Act.put, List.setIfInBounds_toArray, List.set_cons_zero, List.set_cons_succ]
      have HOw := Lib.hid (HKg.out.at HOX.out (fun hm => by have := (HRow.out _ hm).1; have := HNB.out O (by simp); omega))
      obtain ⟨t0, t1, t2, t3⟩ := OqAt.of HOw.out
      have hfz := nofr HOw.out
      have HS7 := Lib.hid (HS5.out.set 3 (.slice la n9 lc) (.inl HSS.out.1.2.2.1) (s := O))
      have HO7 : Hid ((w9.setCell ⟨O, 3, none⟩ (.slice la n9 lc)).heap[O]? = some (oqO 25 ⟨A, H, I, []⟩ (.slice la n9 lc))) := by show _ = _; simp [World.setCell, Array.getElem?_modify, HOw.out]
      have HM7 := Lib.hid (Mod.setCell O 3 w9 (.slice la n9 lc))
      refine reg_one 7 rfl (by kernel_rfl) (by kernel_rfl) ?_
      go_simp
      clear t0 t1 t2 t3 hfz
      refine ⟨HS7.out, ?_⟩
      try simp only [Act.put, List.setIfInBounds_toArray, List.set_cons_zero, List.set_cons_succ]
      generalize w9.setCell ⟨O, 3, none⟩ (.slice la n9 lc) = Z at HS7 HO7 HM7 ⊢
      refine reg_done (by kernel_rfl) ?_
      go_wp2_with fail
      have hKZ : Kept [O] w9 Z := (Kept.refl [O] w9).mod HM7.out (.inl (by simp))
      have hOn : O < W3.heap.size := HNB.out O (by simp)
      have hsZ : SrcB Z s sv l b er := (HSX.out.keptO HKg.out (fun hm => by have := (HRow.out _ hm).1; have := HNB.out s (by simp); omega) (fun g hg hm => by have := (HRow.out _ hm).1; have := HSVL.out g hg; have := HB2.out; omega)).keptO hKZ (by have := HSL.out; have := HB2.out; simp; omega) (fun g hg => by have := HSVL.out g hg; have := HB2.out; simp; omega)
      have hposZ := hsZ.posO
      have hR4Z := HS7.out.at HR4.out HSS.out.2.1.1
      have hR5Z := HS7.out.at HR5.out HSS.out.2.1.2
      have hSZ : Same w Z := HS7.out.to_same HSW.out HSS.out.2.2
      have hszZ : W3.heap.size ≤ Z.heap.size := Nat.le_trans HWZ.out HS7.out.size
      have hFk : ∀ fc : Ft, fc.data = [] → FaultAt X (w.heap.size + 1 + 1) B fc → FaultAt Z (w.heap.size + 1 + 1) B fc := fun fc hd h => (h.keptE hd HKg.out (fun hm => by have := (HRow.out _ hm).1; have := HNB.out (w.heap.size + 1 + 1) (by simp); omega)).keptE hd hKZ (by have := HFB.out; have := HB2.out; simp; omega)
      obtain ⟨f', rfl, hstep⟩ := parsA_step (f := f) (acc := xs.map (·.1)) HA1.out HFU.out
      have hgo := HGO.out
      rw [hstep] at hgo
      rcases HCS.out with ⟨sub, hpp, hff⟩ | ⟨hpp, rfl, hff⟩
      · rw [hpp] at hgo
        exact ⟨⟨_, hFk _ rfl hff, hR4Z, hR5Z, hSZ, hszZ, .inl ⟨by simp, hgo⟩⟩, by rw [hposZ]; have := HAB.out; have := HA1.out; omega⟩
      · rw [hpp] at hgo
        refine ⟨⟨noFt, hFk _ rfl hff, hR4Z, hR5Z, hSZ, hszZ, .inr ⟨rfl, b, f', xs ++ ys, _, hsZ, HO7.out, HO9.out.kept hKZ (fun g hg => by have := (HO9.out.lt g hg).1; simp; omega), fun x hx => ?_, by have := HAB.out; have := HFU.out; omega, ?_, ?_⟩⟩, by rw [hposZ]; have := HAB.out; have := HA1.out; omega⟩
        · rcases List.mem_append.1 hx with hx | hx
          · obtain ⟨z1, z2⟩ := HXB.out x hx
            refine ⟨((z1.kept HKX.out (fun g hg hm => ?_)).kept HKg.out (fun g hg h => ?_)).kept hKZ (fun g hg => ?_), fun g hg => ?_⟩
            · have := (z2 g hg).1; have := HNB.out g (by simp at hm ⊢; omega); omega
            · exact (z2 g hg).2.2 (by simpa using h)
            · have := (z2 g hg).1; simp; omega
            · obtain ⟨q1, q2, q3⟩ := z2 g hg
              have h1 := HKX.out.size
              have h2 := HKg.out.size
              have h3 := hKZ.size
              refine ⟨q1, by omega, fun he => ?_⟩
              rcases HL9.out with h | h
              · exact q3 (h ▸ he)
              · rw [h] at he; have := Option.some.inj he; omega
          · obtain ⟨z1, z2⟩ := HYB.out x hx
            refine ⟨(z1.kept HKg.out (fun g hg hm => ?_)).kept hKZ (fun g hg => ?_), fun g hg => ?_⟩
            · have := (z2 g hg).1; have := (HRow.out _ hm).2; omega
            · have := (z2 g hg).1; have := HWZ.out; simp; omega
            · obtain ⟨q1, q2⟩ := z2 g hg
              have h0 := HWZ.out
              have h2 := HKg.out.size
              have h3 := hKZ.size
              refine ⟨by omega, by omega, fun he => ?_⟩
              rcases HL9.out with h | h
              · rw [h] at he; have := (HOb.out g he).2; omega
              · rw [h] at he; have := Option.some.inj he; omega
        · have h1 := HXA.out; have h2 := HYL.out; have h3 := HAB.out; have h4 := HLL.out; rw [List.length_append]; omega
        · rw [List.map_append]; exact hgo
theorem openC : OpenC := ⟨oGood_any, oBytes_any, oParse_any, oHold_any, oSame_any, oHas_any⟩
end Go.Proofs.Ytidijoncngfppaa
