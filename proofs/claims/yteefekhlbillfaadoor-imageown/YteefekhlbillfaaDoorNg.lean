/-
  SEAT YteefekhlbillfaaDoor: a region that draws its order, inside a round of a range over a function.
-/
import Derived.Test.YteefekhlbillfaaDoorNf
import Derived.Deep.RegionHeld3
namespace Go.Proofs.YteefekhlbillfaaDoor
open Go.RowKit
set_option linter.unusedVariables false

/-- An operation that is no call of the machine's own rows and defers nothing. -/
def noDefer (o : Oper) : Bool := match o.op with
  | .defer _ => false
  | _ => true

theorem noDefer_spec {o : Oper} (h : noDefer o = true) : ∀ c, o.op ≠ .defer c := by
  intro c e
  unfold noDefer at h
  rw [e] at h
  cases h

theorem rowsIn_round {n l : Nat} {P : Program} {row : String} {args : Array Value} {w : World} {R : Value → World → Prop} (h : Rows P row args w R) : RowsIn (Fence.wide.inRound l) n P row args w R := fun c cs _ => by
  obtain ⟨v, w', r, s⟩ := h c cs
  exact ⟨v, w', r, stepsIn_wide.2 s⟩

theorem oper_round {P : Program} {l n : Nat} {o : Oper} {a : Act} {w : World} {K : Act → World → Prop} {Q : Exit → Act → World → Prop} (hd : noDefer o = true) (h : o.wp P a w K Q) : o.wpIn (Fence.wide.inRound l) n P a w K Q := by
  unfold Oper.wpIn
  refine ⟨fun _ _ => trivial, ?_⟩
  rw [show (Fence.wide.inRound l).round = some l from rfl, Oper.semAt_some l _ _ (noDefer_spec hd)]
  unfold Oper.wp at h
  generalize (execOp a.eval o).run P w = r at *
  cases r with
  | ok x w' =>
    cases x <;> simp only [Oper.upon, Oper.uponIn] at h ⊢
    all_goals first
      | exact h
      | exact ⟨(fun e => by cases e), CallsIn.inRound l (callsIn_wide.2 h)⟩
      | exact ⟨(fun e => by cases e), rowsIn_round h⟩
  | halt x w' => cases x <;> simp only [Oper.upon, Oper.uponIn] at h ⊢ <;> exact h

theorem ops_round {P : Program} {l n : Nat} {ops : Array Oper} {Q : Exit → Act → World → Prop} (hd : ops.all noDefer = true) (hlo : ¬ LetsOut Q) : ∀ (r : List Nat) (a : Act) (w : World), wpOps P ops Q r a w → wpOpsIn (Fence.wide.inRound l) n P ops Q r a w := by
  intro r
  induction r with
  | nil => intro a w h; exact h
  | cons i r ih =>
    intro a w h
    simp only [wpOps, wpOpsIn] at h ⊢
    cases ho : ops[i]? with
    | none => rw [ho] at h; exact ih _ _ h
    | some o =>
      rw [ho] at h
      simp only at h ⊢
      have hdo : noDefer o = true := by
        obtain ⟨hi, he⟩ := Array.getElem?_eq_some_iff.1 ho
        rw [← he]
        exact (Array.all_eq_true.1 hd) i hi
      split
      · next hw =>
        rw [if_pos hw] at h
        rcases h with h | h
        · exact oper_round hdo (Oper.wp_mono (fun a w => ih a w) h)
        · exact absurd h.2 hlo
      · next hw =>
        rw [if_neg hw] at h
        exact ⟨fun _ _ => trivial, ih _ _ h⟩

/-- THE BEGINNING of a walk through a region that draws, in a round. -/
theorem wpIn_region_round {P : Program} {ops : Array Oper} {Q : Exit → Act → World → Prop} {S : World → Prop} {id l n : Nat} {a : Act} {w : World} (hm : P.follows .mixedOrders = true) (hd : ops.all noDefer = true) (hlo : ¬ LetsOut Q) (hS : S w.drew)
    (h : S w.drew → wpAnyH P .any ops Q S ops.size (Array.replicate ops.size false) a w.drew) : (Code.region id ops true).wpIn (Fence.wide.inRound l) n P Q a w :=
  wpIn_region_draw fun t => by
    simp only [Region.schedule, hm, Bool.true_or, if_true]
    exact ops_round hd hlo _ _ _ (wpAny_sound ops.size t _ a _ (wpAny_of_held _ _ _ _ (h hS)))

/-- Two operations come up, and the first of them yields its value ahead of the other and behind it (S'): it is taken first. -/
theorem wpAnyH_two {P : Program} {md : Region.Mode} {ops : Array Oper} {Q : Exit → Act → World → Prop} {S S' : World → Prop} {i j : Nat} {oi oj : Oper} {v : Value} {fuel : Nat} {listed : Array Bool} {a : Act} {w : World}
    (hi : ops[i]? = some oi) (hj : ops[j]? = some oj) (hne : i ≠ j) (hs : Region.noSelect ops = true) (hap : oi.apart ops oj = true)
    (rs : List Nat) (hrs : rs ≠ [] ∧ ∀ k ∈ rs, k = i ∨ k = j) (hr : Region.ready md ops listed = rs) (hri : Region.ready md ops (listed.setIfInBounds i true) = [j]) (hrj : Region.ready md ops (listed.setIfInBounds j true) = [i])
    (hQ : ∀ c a w, Q (.panic c) (a.put oi.dst v) w → Q (.panic c) a w) (hy : YieldsIf P ops S' oi v a) (hS : S w) (hS' : S' w)
    (h : ∀ K' : Act → World → Prop, Shut (∀ a w, S w → S' w → (wpAnyH P md ops Q S fuel ((listed.setIfInBounds i true).setIfInBounds j true) a w) → K' a w) → if Region.wanted oj (yielded ops (a.put oi.dst v).tmps) = true then Oper.wp P oj (a.put oi.dst v) w K' Q else K' ((a.put oi.dst v).put oj.dst undef) w) :
    wpAnyH P md ops Q S (fuel + 2) listed a w := by
  have hw : wpOp P ops Q j (fun a' w' => S w' ∧ S' w' ∧ wpAnyH P md ops Q S fuel ((listed.setIfInBounds i true).setIfInBounds j true) a' w') (a.put oi.dst v) w :=
    wpOp_step hj (fun K' hK => h K' (fun a w h1 h2 h3 => hK a w ⟨h1, h2, h3⟩))
  refine wpAnyH_all hr hrs.1 fun k hk => ?_
  rcases hrs.2 k hk with rfl | rfl
  · refine YieldsIf.wpOp hi hy hS' ⟨hS, wpAnyH_all hri (by simp) fun k' hk' => ?_⟩
    obtain rfl : k' = j := by simpa using hk'
    exact wpOp_mono (fun a w h => ⟨h.1, h.2.2⟩) hw
  · have hsel := Region.noSelect_spec hs
    refine wpOp_mono (fun a' w' h => ?_) (wpOp_putIf hj hap (hsel i oi · · hi) (hsel k oj · · hj) hQ hy hw)
    obtain ⟨hy', h1, h2, h3⟩ := h
    refine ⟨h1, wpAnyH_all hrj (by simp) fun k' hk' => ?_⟩
    obtain rfl : k' = i := by simpa using hk'
    refine YieldsIf.wpOp hi hy' h2 ⟨h1, ?_⟩
    rw [Array.setIfInBounds_comm _ _ (Ne.symm hne)]
    exact h3

end Go.Proofs.YteefekhlbillfaaDoor
