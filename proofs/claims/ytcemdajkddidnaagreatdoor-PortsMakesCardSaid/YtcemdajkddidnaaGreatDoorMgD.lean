/- A statement whose order is open, in the round of a range over a function: what the plain calculus says of it holds there as well. No condition. A statement whose order is open: two operations that may come. No condition. -/
import Derived.RangeFuncCalls
import Derived.OwnWalkIn
import Derived.TacticsInMore
import Derived.OrdersIn
import Derived.Test.YtcemdajkddidnaaGreatDoorQReg
namespace Go.Proofs.YtcemdajkddidnaaGreatDoor
open Go.RowKit
set_option linter.unusedVariables false

/-- on is the only way out -/
def normQ (K : Act → World → Prop) : Exit → Act → World → Prop
  | .normal, a, w => K a w
  | _, _, _ => False

theorem normQ_in (K : Act → World → Prop) : ¬ LetsOut (normQ K) := fun ⟨_, _, h⟩ => h

/-- a fence that lets all through -/
structure Open (P : Program) (F : Fence) : Prop where
  fn : ∀ f, F.fn f
  depth : F.depth.isSome = true → False
  calls : ∀ {n f args w R}, Calls P f args w R → CallsIn F n P f args w R
  rows : ∀ {n row args w R}, Rows P row args w R → RowsIn F n P row args w R
theorem open_wide (P : Program) : Open P Fence.wide where
  fn := fun _ => trivial
  depth := fun h => by cases h
  calls := fun h => callsIn_wide.2 h
  rows := fun h c cs _ => let ⟨v, w2, r, s⟩ := h c cs; ⟨v, w2, r, stepsIn_wide.2 s⟩
theorem open_round (P : Program) (l : Nat) : Open P (Fence.wide.inRound l) where
  fn := fun _ => trivial
  depth := fun h => by cases h
  calls := fun h => CallsIn.inRound l (callsIn_wide.2 h)
  rows := fun h c cs _ => let ⟨v, w2, r, s⟩ := h c cs; ⟨v, w2, r, stepsIn_wide.2 s⟩

theorem oper_in {P : Program} {F : Fence} (hF : Open P F) {n : Nat} {o : Oper} {a : Act} {w : World} {K K' : Act → World → Prop} {Q : Exit → Act → World → Prop} (hd : ∀ c, o.op ≠ .defer c) (hQ : ¬ LetsOut Q) (hK : ∀ a w, K a w → K' a w)
    (h : o.wp P a w K Q) : o.wpIn F n P a w K' Q := by
  unfold Oper.wp at h
  refine ⟨fun f _ => hF.fn f, ?_⟩
  rw [Oper.semAt_eq _ _ _ hd]
  generalize (execOp a.eval o).run P w = r at h ⊢
  cases r with
  | halt x w' => cases x <;> exact h
  | ok x w' =>
    cases x with
    | value v => exact hK _ _ h
    | skip => exact hK _ _ h
    | defer d => exact hK _ _ h
    | enter f args =>
      refine ⟨fun hh => (hF.depth hh).elim, hF.calls (Calls.mono h fun e w'' he => ?_)⟩
      cases e with
      | returned v => exact hK _ _ he
      | panicked c => exact he
      | outgrown => exact absurd he hQ
    | row row args =>
      exact ⟨fun hh => (hF.depth hh).elim, hF.rows (Rows.mono h fun v w'' he => hK _ _ he)⟩
    | _ => exact False.elim h

theorem wpOps_in {P : Program} {F : Fence} (hF : Open P F) {n : Nat} {ops : Array Oper} {Q : Exit → Act → World → Prop} (hQ : ¬ LetsOut Q) (hd : ∀ (i : Nat) (o : Oper), ops[i]? = some o → ∀ c, o.op ≠ .defer c) :
    ∀ (is : List Nat) (a : Act) (w : World), wpOps P ops Q is a w → wpOpsIn F n P ops Q is a w := by
  intro is
  induction is with
  | nil => intro a w h; exact h
  | cons i rest ih =>
    intro a w h
    unfold wpOps at h
    unfold wpOpsIn
    cases ho : ops[i]? with
    | none => rw [ho] at h; exact ih _ _ h
    | some o =>
      rw [ho] at h
      simp only at h ⊢
      split
      · rename_i hw
        rw [if_pos hw] at h
        rcases h with h | ⟨_, h⟩
        · exact oper_in hF (hd i o ho) hQ (fun a w hh => ih a w hh) h
        · exact absurd h hQ
      · rename_i hw
        rw [if_neg hw] at h
        exact ⟨fun f _ => hF.fn f, ih _ _ h⟩

def noDefer (ops : Array Oper) : Bool := ops.toList.all fun o => match o.op with | .defer _ => false | _ => true

/-- the region, behind such a fence -/
theorem reg_start_F {P : Program} {F : Fence} (hF : Open P F) {n id : Nat} {ops : Array Oper} {a : Act} {w : World} {Q : Exit → Act → World → Prop} (S : World → Prop) (hm : P.follows .mixedOrders = true) (hd : noDefer ops = true)
    (h : wpAnyH P .any ops (normQ (Q .normal)) S ops.size (Array.replicate ops.size false) a w.drew) : (Code.region id ops true).wpIn F n P Q a w := by
  have hd2 : ∀ (i : Nat) (o : Oper), ops[i]? = some o → ∀ c, o.op ≠ .defer c := fun i o ho c hc => by
    have := List.all_eq_true.1 hd o (by simpa using Array.mem_of_getElem? ho)
    rw [hc] at this
    cases this
  have h2 : (Code.region id ops true).wpIn F n P (normQ (Q .normal)) a w := wpIn_region_draw fun t => by
    simp only [Region.schedule, hm, Bool.true_or, if_true]
    exact wpOps_in hF (normQ_in _) hd2 _ _ _ (wpAny_sound ops.size t _ a _ (wpAny_of_held _ _ _ _ h))
  refine Code.wpIn_mono (fun e a w hh => ?_) h2
  cases e <;> first | exact hh | exact False.elim hh
theorem reg_start_in {P : Program} {l n id : Nat} {ops : Array Oper} {a : Act} {w : World} {Q : Exit → Act → World → Prop} (S : World → Prop) (hm : P.follows .mixedOrders = true) (hd : noDefer ops = true)
    (h : wpAnyH P .any ops (normQ (Q .normal)) S ops.size (Array.replicate ops.size false) a w.drew) : (Code.region id ops true).wpIn (Fence.wide.inRound l) n P Q a w := reg_start_F (open_round P l) S hm hd h
theorem reg_start_wide {P : Program} {n id : Nat} {ops : Array Oper} {a : Act} {w : World} {Q : Exit → Act → World → Prop} (S : World → Prop) (hm : P.follows .mixedOrders = true) (hd : noDefer ops = true)
    (h : wpAnyH P .any ops (normQ (Q .normal)) S ops.size (Array.replicate ops.size false) a w.drew) : (Code.region id ops true).wpIn Fence.wide n P Q a w := reg_start_F (open_wide P) S hm hd h
end Go.Proofs.YtcemdajkddidnaaGreatDoor
namespace Go.Proofs.YtcemdajkddidnaaGreatDoor
open Go.RowKit
set_option linter.unusedVariables false
set_option maxRecDepth 100000

section
variable {P : Program} {ops : Array Oper} {Q : Exit → Act → World → Prop} {S : World → Prop} {listed : Array Bool} {a : Act} {w : World} {fuel : Nat}
/-- two operations that may come now: either way -/
theorem reg_two (i j : Nat) {oi oj : Oper} (hi' : ops.toList[i]? = some oi) (hj' : ops.toList[j]? = some oj) (hr : Region.ready .any ops listed = [i, j]) (hwi : Region.wanted oi (yielded ops a.tmps) = true) (hwj : Region.wanted oj (yielded ops a.tmps) = true)
    (hI : Oper.wp P oi a w (fun a' w' => S w' ∧ wpAnyH P .any ops Q S fuel (listed.setIfInBounds i true) a' w') Q)
    (hJ : Oper.wp P oj a w (fun a' w' => S w' ∧ wpAnyH P .any ops Q S fuel (listed.setIfInBounds j true) a' w') Q) : wpAnyH P .any ops Q S (fuel + 1) listed a w := by
  have hi : ops[i]? = some oi := by simpa using hi'
  have hj : ops[j]? = some oj := by simpa using hj'
  refine wpAnyH_all hr (by simp) fun q hq => ?_
  have hq2 : q = i ∨ q = j := by simpa using hq
  rcases hq2 with rfl | rfl
  · unfold wpOp
    simp only [hi, hwi, if_true]
    exact .inl hI
  · unfold wpOp
    simp only [hj, hwj, if_true]
    exact .inl hJ
end
end Go.Proofs.YtcemdajkddidnaaGreatDoor
