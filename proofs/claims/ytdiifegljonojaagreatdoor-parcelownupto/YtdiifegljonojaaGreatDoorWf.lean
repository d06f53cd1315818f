/-
  SEAT YtdiifegljonojaaGreatDoor: a region that draws its order, inside a round of a range over a function; what a round keeps.
-/
import Derived.Test.YtdiifegljonojaaGreatDoorWe
import Derived.Deep.RegionHeld3
namespace Go.Proofs.YtdiifegljonojaaGreatDoor
open Go.RowKit
set_option linter.unusedVariables false

/-- An operation that is no call of the machine's own rows and defers nothing. -/
def noDefer (o : Oper) : Bool := match o.op with
  | .defer _ => false
  | _ => true

theorem noDefer_spec {o : Oper} (h : noDefer o = true) : ∀ c, o.op ≠ .defer c := by
  intro c e
  unfold noDefer at h
  rw [e] at h
  cases h

theorem rowsIn_round {n l : Nat} {P : Program} {row : String} {args : Array Value} {w : World} {R : Value → World → Prop} (h : Rows P row args w R) : RowsIn (Fence.wide.inRound l) n P row args w R := fun c cs _ => by
  obtain ⟨v, w', r, s⟩ := h c cs
  exact ⟨v, w', r, stepsIn_wide.2 s⟩

theorem oper_round {P : Program} {l n : Nat} {o : Oper} {a : Act} {w : World} {K : Act → World → Prop} {Q : Exit → Act → World → Prop} (hd : noDefer o = true) (h : o.wp P a w K Q) : o.wpIn (Fence.wide.inRound l) n P a w K Q := by
  unfold Oper.wpIn
  refine ⟨fun _ _ => trivial, ?_⟩
  rw [show (Fence.wide.inRound l).round = some l from rfl, Oper.semAt_some l _ _ (noDefer_spec hd)]
  unfold Oper.wp at h
  generalize (execOp a.eval o).run P w = r at *
  cases r with
  | ok x w' =>
    cases x <;> simp only [Oper.upon, Oper.uponIn] at h ⊢
    all_goals first
      | exact h
      | exact ⟨(fun e => by cases e), CallsIn.inRound l (callsIn_wide.2 h)⟩
      | exact ⟨(fun e => by cases e), rowsIn_round h⟩
  | halt x w' => cases x <;> simp only [Oper.upon, Oper.uponIn] at h ⊢ <;> exact h

theorem ops_round {P : Program} {l n : Nat} {ops : Array Oper} {Q : Exit → Act → World → Prop} (hd : ops.all noDefer = true) (hlo : ¬ LetsOut Q) : ∀ (r : List Nat) (a : Act) (w : World), wpOps P ops Q r a w → wpOpsIn (Fence.wide.inRound l) n P ops Q r a w := by
  intro r
  induction r with
  | nil => intro a w h; exact h
  | cons i r ih =>
    intro a w h
    simp only [wpOps, wpOpsIn] at h ⊢
    cases ho : ops[i]? with
    | none => rw [ho] at h; exact ih _ _ h
    | some o =>
      rw [ho] at h
      simp only at h ⊢
      have hdo : noDefer o = true := by
        obtain ⟨hi, he⟩ := Array.getElem?_eq_some_iff.1 ho
        rw [← he]
        exact (Array.all_eq_true.1 hd) i hi
      split
      · next hw =>
        rw [if_pos hw] at h
        rcases h with h | h
        · exact oper_round hdo (Oper.wp_mono (fun a w => ih a w) h)
        · exact absurd h.2 hlo
      · next hw =>
        rw [if_neg hw] at h
        exact ⟨fun _ _ => trivial, ih _ _ h⟩

/-- THE BEGINNING of a walk through a region that draws, in a round. -/
theorem wpIn_region_round {P : Program} {ops : Array Oper} {Q : Exit → Act → World → Prop} {S : World → Prop} {id l n : Nat} {a : Act} {w : World} (hm : P.follows .mixedOrders = true) (hd : ops.all noDefer = true) (hlo : ¬ LetsOut Q) (hS : S w.drew)
    (h : S w.drew → wpAnyH P .any ops Q S ops.size (Array.replicate ops.size false) a w.drew) : (Code.region id ops true).wpIn (Fence.wide.inRound l) n P Q a w :=
  wpIn_region_draw fun t => by
    simp only [Region.schedule, hm, Bool.true_or, if_true]
    exact ops_round hd hlo _ _ _ (wpAny_sound ops.size t _ a _ (wpAny_of_held _ _ _ _ (h hS)))

/-- Two operations come up, and the first of them yields its value ahead of the other and behind it (S'): it is taken first. -/
theorem wpAnyH_two {P : Program} {md : Region.Mode} {ops : Array Oper} {Q : Exit → Act → World → Prop} {S S' : World → Prop} {i j : Nat} {oi oj : Oper} {v : Value} {fuel : Nat} {listed : Array Bool} {a : Act} {w : World}
    (hi : ops[i]? = some oi) (hj : ops[j]? = some oj) (hne : i ≠ j) (hs : Region.noSelect ops = true) (hap : oi.apart ops oj = true)
    (rs : List Nat) (hrs : rs ≠ [] ∧ ∀ k ∈ rs, k = i ∨ k = j) (hr : Region.ready md ops listed = rs) (hri : Region.ready md ops (listed.setIfInBounds i true) = [j]) (hrj : Region.ready md ops (listed.setIfInBounds j true) = [i])
    (hQ : ∀ c a w, Q (.panic c) (a.put oi.dst v) w → Q (.panic c) a w) (hy : YieldsIf P ops S' oi v a) (hS : S w) (hS' : S' w)
    (h : ∀ K' : Act → World → Prop, Shut (∀ a w, S w → S' w → (wpAnyH P md ops Q S fuel ((listed.setIfInBounds i true).setIfInBounds j true) a w) → K' a w) → if Region.wanted oj (yielded ops (a.put oi.dst v).tmps) = true then Oper.wp P oj (a.put oi.dst v) w K' Q else K' ((a.put oi.dst v).put oj.dst undef) w) :
    wpAnyH P md ops Q S (fuel + 2) listed a w := by
  have hw : wpOp P ops Q j (fun a' w' => S w' ∧ S' w' ∧ wpAnyH P md ops Q S fuel ((listed.setIfInBounds i true).setIfInBounds j true) a' w') (a.put oi.dst v) w :=
    wpOp_step hj (fun K' hK => h K' (fun a w h1 h2 h3 => hK a w ⟨h1, h2, h3⟩))
  refine wpAnyH_all hr hrs.1 fun k hk => ?_
  rcases hrs.2 k hk with rfl | rfl
  · refine YieldsIf.wpOp hi hy hS' ⟨hS, wpAnyH_all hri (by simp) fun k' hk' => ?_⟩
    obtain rfl : k' = j := by simpa using hk'
    exact wpOp_mono (fun a w h => ⟨h.1, h.2.2⟩) hw
  · have hsel := Region.noSelect_spec hs
    refine wpOp_mono (fun a' w' h => ?_) (wpOp_putIf hj hap (hsel i oi · · hi) (hsel k oj · · hj) hQ hy hw)
    obtain ⟨hy', h1, h2, h3⟩ := h
    refine ⟨h1, wpAnyH_all hrj (by simp) fun k' hk' => ?_⟩
    obtain rfl : k' = i := by simpa using hk'
    refine YieldsIf.wpOp hi hy' h2 ⟨h1, ?_⟩
    rw [Array.setIfInBounds_comm _ _ (Ne.symm hne)]
    exact h3

theorem blk_own {β : Type} (i : Nat) (cs : Array Value) (t : TypeId) (f : Nat × Nat) : Go.Own (fun (_ : β) W => W.heap[i]? = some (.cells cs t f)) := by
  intro s X Y row hs hg hrow
  refine (hg.block i (Array.getElem?_eq_some_iff.1 hs).1 (fun e => ?_)).trans hs
  obtain ⟨o, ho, hc⟩ := hrow i e.symm
  rw [hs] at ho
  cases ho
  cases hc

theorem WrA.kept {w w' : World} {B q : Nat} {laid : List Int} {row : Option Nat} (h : WrA w B q laid) (hg : w.grownBy w' row) (hrow : ∀ r, row = some r → ∃ o : Obj, w.heap[r]? = some o ∧ o.isCells = false) : WrA w' B q laid := by
  obtain ⟨g, cap, hq, ho, hB, hr⟩ := h
  refine ⟨g, cap, ?_, ?_, hB, hr⟩
  · refine (hg.block q (Array.getElem?_eq_some_iff.1 hq).1 (fun e => ?_)).trans hq
    obtain ⟨o, h1, h2⟩ := hrow q e.symm
    rw [hq] at h1
    cases h1
    cases h2
  · refine World.ownsRow.kept ho hg (.inr fun e => ?_)
    obtain ⟨cur, hc⟩ := Own.blk ho
    obtain ⟨o, h1, h2⟩ := hrow g (by simpa [Value.ownBlock] using e.symm)
    rw [hc] at h1
    cases h1
    cases h2

theorem wrAt_own {β : Type} (B q : Nat) (f : β → List Int) : Go.Own (fun (s : β) W => WrA W B q (f s)) := fun s X Y row hs hg hrow => hs.kept hg hrow

theorem Kw.others {B : Nat} {w w' : World} (h : Kw B w w') : KeepsOthers w w' := ⟨h.bel.size, fun k o hk hc => h.oth k o hk (fun cs f e => by rw [e] at hc; cases hc) (fun cs f e => by rw [e] at hc; cases hc)⟩

theorem blk_ne {w : World} {i j : Nat} {cs cs' : Array Value} {t t' : TypeId} {f f' : Nat × Nat} (hi : w.heap[i]? = some (.cells cs t f)) (hj : w.heap[j]? = some (.cells cs' t' f')) (h : t ≠ t') : i ≠ j := by
  intro e
  rw [e, hj] at hi
  cases hi
  exact h rfl

theorem blk_other {w w' : World} {i j : Nat} {cs cs' : Array Value} {t t' : TypeId} {f f' : Nat × Nat} (hi : w.heap[i]? = some (.cells cs t f)) (hj : w.heap[j]? = some (.cells cs' t' f')) (h : t ≠ t') (hg : w.grownBy w' (some j)) : w'.heap[i]? = some (.cells cs t f) :=
  (hg.block i (Array.getElem?_eq_some_iff.1 hi).1 (fun e => blk_ne hi hj h (by cases e; rfl))).trans hi

theorem WrA.other {w w' : World} {B q j : Nat} {laid : List Int} {cs : Array Value} {t : TypeId} {f : Nat × Nat} (h : WrA w B q laid) (hj : w.heap[j]? = some (.cells cs t f)) (h1 : t ≠ 47) (h2 : t ≠ 5) (hg : w.grownBy w' (some j)) : WrA w' B q laid := by
  obtain ⟨g, cap, hq, ho, hB, hr⟩ := h
  obtain ⟨cur, hc⟩ := Own.blk ho
  exact ⟨g, cap, blk_other hq hj (Ne.symm h1) hg, Own.apart ho hg (blk_ne hc hj (Ne.symm h2)), hB, hr⟩

/-- No panic is let by. -/
def noPanic (Q : Exit → Act → World → Prop) : Exit → Act → World → Prop
  | .panic _, _, _ => False
  | e, a, w => Q e a w
theorem noPanic_le {Q : Exit → Act → World → Prop} : ∀ (e : Exit) (a : Act) (w : World), noPanic Q e a w → Q e a w
  | .panic _, _, _, h => h.elim
  | .normal, _, _, h => h
  | .ret, _, _, h => h
  | .exit _, _, _, h => h
  | .goto _, _, _, h => h
  | .outgrown, _, _, h => h

def RV (w : World) (a : Option Addr) (len size : Nat) (xs : List Value) : Prop :=
  xs.length = len * size ∧ (a = none → len = 0) ∧ ∀ x, a = some x → ∀ j u, xs[j]? = some u → w.cell? (x.add j) = some u

theorem step_append_src {w : World} {ops : Array Oper} {o : Oper} {a : Act} {K : Act → World → Prop} {Q : Exit → Act → World → Prop} {X : Prop} (hgd : o.guard = none) (s x : Operand) (T : TypeId)
    (ho : o.op = .call { callee := .builtin .append, args := #[s, x], argTypes := #[T, T] })
    (base : Nat) (E : TypeId) (i : TypeInfo) (z : Value) (size bytes : Nat) (ht : Tryz.prog.underlying T = some (.slice E)) (hi : Tryz.prog.info? E = some i) (hz : i.zero = some z)
    (hsize : i.size = size) (hby : i.bytes = bytes) (hzs : z.cells.size = size) (hsz : 0 < size)
    (v : Value) (n : Nat) (xs : List Value) (hs : a.eval s = v) (hown : w.ownsRow base E size v n xs)
    (ad : Option Addr) (m c : Nat) (news : List Value) (hx : a.eval x = .slice ad m c) (hrd : RV w ad m size news) (h1 : ∀ u ∈ news, u.oneCell' = true)
    (h63 : n + m ≤ maxLen) (hbytes : (n + m) * bytes ≤ 140737488355328) (hbase : base ≤ w.heap.size)
    (h : ∀ v' w', w'.ownsRow base E size v' (n + m) (xs ++ news) → w.grownBy w' v.ownBlock → K (a.put o.dst v') w') :
    if Region.wanted o (yielded ops a.tmps) = true then Oper.wp Tryz.prog o a w K Q else X := by
  rcases Nat.eq_zero_or_pos m with h0 | hm
  · subst h0
    have hz0 : news = [] := List.eq_nil_of_length_eq_zero (by have := hrd.1; omega)
    subst hz0
    have hw : Region.wanted o (yielded ops a.tmps) = true := by simp [Region.wanted, hgd]
    rw [if_pos hw]
    have hrun : (Builtin.append_ #[T, T] o.type #[v, .slice ad 0 c]).run Tryz.prog w = .ok v w := by
      cases ad with
      | some ad =>
        have hl0 : (loadCells ad 0).run Tryz.prog w = .ok #[] w := by
          have := run_loadCells (P := Tryz.prog) w ad 0 (fun _ => undef) (fun j hj => absurd hj (Nat.not_lt_zero _))
          simpa using this
        rcases hown.2 with ⟨rfl, rfl⟩ | ⟨g, cap, cur, rfl, _, _, hnc, _⟩
        · simp [Builtin.append_, run_underlying ht, sizeOf, typeInfo, hi, Builtin.lenOf, Builtin.firstCells, hl0, Result.andThen]
        · simp [Builtin.append_, run_underlying ht, sizeOf, typeInfo, hi, Builtin.lenOf, Builtin.firstCells, hnc, storeCells, hl0, Result.andThen]
      | none =>
        rcases hown.2 with ⟨rfl, rfl⟩ | ⟨g, cap, cur, rfl, _, _, hnc, _⟩
        · simp [Builtin.append_, run_underlying ht, sizeOf, typeInfo, hi, Builtin.lenOf, Builtin.firstCells]
        · simp [Builtin.append_, run_underlying ht, sizeOf, typeInfo, hi, Builtin.lenOf, Builtin.firstCells, hnc, storeCells]
    unfold Oper.wp
    simp [execOp, ho, resolve, invoke, builtin, hs, hx, hrun, Result.andThen]
    exact h v w (by simpa using hown) (World.grownBy.refl _ _)
  · cases ad with
    | none => exact absurd (hrd.2.1 rfl) (by omega)
    | some ad => exact step_append_lies w hgd s x T ho base E i z size bytes ht hi hz hsize hby hzs hsz v n xs hs hown ad m c news hx hrd.1 (fun j u hj => hrd.2.2 ad rfl j u hj) h1 hm h63 hbytes hbase _ rfl (fun g cap w' o1 g1 _ _ => h _ w' o1 g1)
theorem ownFrom_kw {β : Type} {B B' : Nat} {w : World} (hB : B ≤ w.heap.size) (hB' : w.heap.size ≤ B') : OwnFrom B' (fun (_ : β) W => Kw B w W) := by
  intro s W W' row hs hg hr
  refine ⟨hs.bel.grown hg (Nat.le_trans hB hs.bel.size) (fun k e => by have := (hr k e).1; omega), fun i o hi h1 h2 => ?_⟩
  have hi2 := hs.oth i o hi h1 h2
  refine (hg.block i (Array.getElem?_eq_some_iff.1 hi2).1 (fun e => ?_)).trans hi2
  have h3 := (hr i e.symm).1
  have h4 := (Array.getElem?_eq_some_iff.1 hi).1
  omega
end Go.Proofs.YtdiifegljonojaaGreatDoor
