/-
  SEAT Ytjginocbbnmgaaa: going through a tree while it and the reference's are changed.
-/
import Derived.Test.YtjginocbbnmgaaaTpP
namespace Go.Proofs.Ytjginocbbnmgaaa
open Go.RowKit Go.Shelf
set_option linter.unusedVariables false
variable {bx : Nat}

/-- What shows the blocks of nodes and of things shows a node. -/
theorem NodeOn.types2 {s s' : Nat → Option Obj} (key : ∀ (g : Nat) (cs : Array Value) (t : TypeId), (t = 96 ∨ t = 3) → s g = some (.cells cs t (0, 0)) → s' g = some (.cells cs t (0, 0))) : ∀ {l : Nat} {o : Option Nat} {M : Mp}, NodeOn s l o M → NodeOn s' l o M := by
  have kt : ∀ (t : Option Nat) (m : Option Int), ThingOn s t m → ThingOn s' t m := fun t m h => by
    cases t with
    | none => cases m with
      | none => trivial
      | some x => cases h
    | some g => cases m with
      | none => cases h
      | some x => exact key g _ 3 (Or.inr rfl) h
  intro l
  induction l with
  | zero =>
    intro o M h
    cases o with
    | none => exact h
    | some g =>
      obtain ⟨ts, h1, h2, h3, h4⟩ := h
      exact ⟨ts, h1, key g _ 96 (Or.inl rfl) h2, fun i hi => kt _ _ (h3 i hi), h4⟩
  | succ l ih =>
    intro o M h
    cases o with
    | none => exact h
    | some g =>
      obtain ⟨bs, h1, h2, h3, h4⟩ := h
      exact ⟨bs, h1, key g _ 96 (Or.inl rfl) h2, fun i hi => ih (h3 i hi), h4⟩
/-- All blocks of cells stand. -/
def CellsStay (A B : World) : Prop := A.heap.size ≤ B.heap.size ∧ ∀ (g : Nat) (cs : Array Value) (t : TypeId), A.heap[g]? = some (.cells cs t (0, 0)) → B.heap[g]? = some (.cells cs t (0, 0))
theorem CellsStay.of {A B : World} {row : Option Nat} (hg : A.grownBy B row) (hr : ∀ r, row = some r → ∃ o : Obj, A.heap[r]? = some o ∧ o.isCells = false) : CellsStay A B := ⟨hg.size, fun g cs t h => by
  refine (hg.block g (lt_of_block h) (fun e => ?_)).trans h
  obtain ⟨o, ho, hc⟩ := hr g e.symm
  rw [h] at ho
  cases ho
  cases hc⟩
theorem TreeX.cells {A B : World} {gt h : Nat} {M : Mp} (hT : TreeX bx A gt h M) (hk : CellsStay A B) : TreeX bx B gt h M := by
  obtain ⟨top, h1, h2, h3⟩ := hT.on.blk
  exact ⟨⟨⟨top, hk.2 _ _ _ h1, h2, fun l hl => NodeOn.types (fun g cs t _ hg => hk.2 g cs t hg) (h3 l hl)⟩, hT.on.out, hT.on.h5, Nat.lt_of_lt_of_le hT.on.low hk.1⟩, hT.fit⟩
theorem Rd.stay {A B : World} {v : Value} {L : List (Int × Int)} (h : Rd A v L) (hk : ∀ q, v.ownBlock = some q → ∀ cur, A.heap[q]? = some (.cells cur 35 (0, 0)) → B.heap[q]? = some (.cells cur 35 (0, 0))) : Rd B v L := by
  obtain ⟨r2, r3⟩ := h
  refine ⟨r2, r3.imp id (fun ⟨g, cap, cur, a, b, c, d⟩ => ⟨g, cap, cur, a, b, hk g (by rw [a]; rfl) _ c, d⟩)⟩
theorem RefOn.cells {A B : World} {gr : Nat} {v : Value} {L : List (Int × Int)} (h : RefOn A gr v L) (hk : CellsStay A B) : RefOn B gr v L := ⟨hk.2 _ _ _ h.1, h.2.1.stay (fun q _ cur hc => hk.2 q cur 35 hc), h.2.2⟩
theorem DuoX.cells {A B : World} {gt gr h : Nat} {M : Mp} {v : Value} (hD : DuoX bx A gt gr h M v) (hk : CellsStay A B) : DuoX bx B gt gr h M v := ⟨hD.tree.cells hk, hD.ref.cells hk⟩
/-- A box of another kind stands. -/
theorem TreeX.keep {x y : World} {B gt h' : Nat} {M : Mp} (hT : TreeX bx x gt h' M) (hg : x.grownBy y (some gt)) {cs : Array Value} {t : TypeId} (h : x.heap[B]? = some (.cells cs t (0, 0))) (ht : t ≠ 72) : y.heap[B]? = some (.cells cs t (0, 0)) := by
  obtain ⟨p1, p2, p3, hb⟩ := hT.box
  refine (hg.block B (lt_of_block h) (fun e => ?_)).trans h
  injection e with e
  rw [e] at h
  rw [hb] at h
  injection h with h
  injection h with _ h
  exact ht h.symm
theorem RefOn.keep {x y : World} {B gr : Nat} {u u' : Value} {L : List (Int × Int)} (hR : RefOn x gr u L) (hc : Chg x y gr u u') {cs : Array Value} {t : TypeId} (h : x.heap[B]? = some (.cells cs t (0, 0))) (ht1 : t ≠ 61) (ht2 : t ≠ 35) : y.heap[B]? = some (.cells cs t (0, 0)) := by
  refine (hc.block B (lt_of_block h) (fun e => ?_) (fun e => ?_)).trans h
  · have h2 := hR.1
    rw [← e, h] at h2
    injection h2 with h2
    injection h2 with _ h2
    exact ht1 h2
  · obtain ⟨cur, h2⟩ := hR.row e
    rw [h] at h2
    injection h2 with h2
    injection h2 with _ h2
    exact ht2 h2
/-- A key that is there is dropped into a new row. -/
theorem rdrop_new (gr : Nat) (n : Nat) (v : Value) (M : Mp) (W : World) (h : RefOn W gr v (allOf M)) (hn : n < 1048576) (y : Int) (hm : M n = some y) :
    Calls Try.prog 47 #[.pointer (some ⟨gr, 0, none⟩), .int .i64 (n : Int)] W fun e w' => e = .returned (.bool (at1 M (n : Int)).isSome) ∧ ∃ v', RefOn w' gr v' (allOf (del M (n : Int))) ∧ W.grownBy w' (some gr) ∧ ∀ q, v'.ownBlock = some q → W.heap.size ≤ q := by
  obtain ⟨lo, hi, hlo, hhi, hall⟩ := all_split M hn
  have ea : at1 M (n : Int) = M n := by unfold at1; rw [if_pos (by omega)]; simp
  have ed : allOf (del M (n : Int)) = lo ++ ([] ++ hi) := by
    rw [hall (del M (n : Int)) (fun j hj => by unfold del; rw [if_neg (by omega)]), ent_none (by unfold del; rw [if_pos rfl])]
  have em := hall M (fun _ _ => rfl)
  rw [ea, ed, hm]
  rw [em, ent_some hm] at h
  refine (rdrop_some gr lo.length n v _ W h (by simp) fun i hp => ?_).mono ?_
  · have := place_split hlo (fun p hp => by
      rcases List.mem_append.1 hp with q | q
      · rw [List.mem_singleton.1 q]; exact Int.le_refl _
      · have := hhi p q; omega) hp
    rw [this]; exact ⟨hasK_at, rfl⟩
  · rintro e w' ⟨rfl, v', hr, hg, ho⟩
    rw [erase_split] at hr
    exact ⟨rfl, v', hr, hg, ho⟩

/-- A tree whose nodes lie below n₀ and are no box of the reference's. -/
structure PTwo (W : World) (n₀ gt gr h : Nat) (M : Mp) : Prop where
  blk : ∃ top n, W.heap[gt]? = some (.cells #[ptr top, .int .i64 (h : Int), .int .i64 n] 72 (0, 0)) ∧ (h = 0 → top = none) ∧ ∀ l, h = l + 1 → NodeOn (seenH W (Ex n₀ (gt, gr))) l top M
  low : gt < n₀
  out : ∀ k, spn h ≤ k → M k = none
  void : h = 0 → ∀ k, M k = none
  h5 : h ≤ 5
theorem PTwo.below {A B : World} {n₀ gt gr h : Nat} {M : Mp} (hT : PTwo A n₀ gt gr h M) (hb : Below n₀ A B) : PTwo B n₀ gt gr h M := by
  obtain ⟨top, n, h1, h2, h3⟩ := hT.blk
  exact ⟨⟨top, n, (hb.block gt hT.low).trans h1, h2, fun l hl => (h3 l hl).mono (Stay.shows (Stay.of_below hb))⟩, hT.low, hT.out, hT.void, hT.h5⟩
theorem DuoX.two {w : World} {gt gr h : Nat} {M : Mp} {v : Value} (hD : DuoX bx w gt gr h M v) : PTwo w w.heap.size gt gr h M := by
  obtain ⟨top, h1, h2, h3⟩ := hD.tree.on.blk
  refine ⟨⟨top, _, h1, fun q => (h2 q).1, fun l hl => NodeOn.types2 (fun g cs t ht hg => ?_) (h3 l hl)⟩, lt_of_block h1, hD.tree.on.out, fun q k => hD.tree.fit.zero q k, hD.tree.on.h5⟩
  obtain ⟨q1, q2⟩ := seen_block hg
  have hlt := lt_of_block q2
  refine seen_of (fun q => ?_) q2
  rcases q with q | q | q
  · exact q1 (Or.inl q)
  · simp only at q
    have h9 := hD.ref.1
    rw [← q, q2] at h9
    injection h9 with h9
    injection h9 with _ h9
    rcases ht with rfl | rfl <;> cases h9
  · omega
theorem all_void2 {W : World} {n₀ gt gr h : Nat} {M : Mp} (hT : PTwo W n₀ gt gr h M) {n : Int} (h1 : W.heap[gt]? = some (.cells #[.pointer none, .int .i64 (h : Int), .int .i64 n] 72 (0, 0))) : allOf M = [] := by
  rw [← items_high hT.h5 hT.out]
  refine items_void _ ?_
  obtain ⟨top, n', q1, q2, q3⟩ := hT.blk
  rw [h1] at q1
  injection q1 with q1
  injection q1 with q1
  have ht : top = none := by
    cases top with
    | none => rfl
    | some g => simp [ptr] at q1
  subst ht
  cases h with
  | zero => exact fun k _ => hT.void rfl k
  | succ l => exact NodeOn.isVoid (q3 l rfl)
theorem all_some2 (n l n₀ gt gr g lv : Nat) (M : Mp) (A : List (Int × Int)) (hA : items M 0 (spn (lv + 1)) = A) (J Jx : List (Int × Int) → World → Prop) (W : World) (hAJ : AbidesFrom W.heap.size J) (hY : ∀ pre x W1, J pre W1 → pre.length < A.length → YieldAt Fence.wide (n - 1) Try.prog l (encP x) W1 fun e W' =>
      (e = .returned (.bool true) ∧ J (pre ++ [x]) W' ∧ Stay n₀ (gt, gr) W1 W') ∨ (e = .returned (.bool false) ∧ Jx (pre ++ [x]) W')) (h0 : J [] W) (hl : lv ≤ 4) (hN : NodeOn (seenH W (Ex n₀ (gt, gr))) lv (some g) M) :
    Calls Try.prog 53 #[.pointer (some ⟨g, 0, none⟩), .int .i64 (lv : Int), .int .i64 0, .func (.yield l) #[] #[]] W.drew fun e W' => (∃ b, e = .returned (.bool b)) ∧ ((∃ xs, xs = A ∧ J xs W') ∨ (∃ pre, pre <+: A ∧ Jx pre W')) := by
  have hyo : YieldOk l n₀ (gt, gr) A.length J Jx := fun m pre x W1 hj hlen => YieldAt.mono (YieldAt.anyDepth rfl m (hY pre x W1 hj hlen)) (fun e W' h => h)
  have hJ' : J [] W.drew := hAJ [] W W.drew none h0 (grown_drewN W 1 none) (fun r e => by cases e)
  have hs : 0 + spn (lv + 1) ≤ 1048576 := by
    have := dig_le5 (lv + 1) (by omega)
    omega
  have he := each_any lv hl l n₀ (gt, gr) A.length J Jx hyo 3 g 0 M [] W.drew hN hs hJ' (by rw [hA]; simp)
  rw [hA, show ((0 : Nat) : Int) = 0 from rfl] at he
  refine callsIn_wide.1 (CallsIn.mono he ?_)
  rintro e W' (⟨rfl, hj, _⟩ | ⟨rfl, q, hq, hx⟩)
  · exact ⟨⟨_, rfl⟩, .inl ⟨_, rfl, by simpa using hj⟩⟩
  · exact ⟨⟨_, rfl⟩, .inr ⟨q, hq, by simpa using hx⟩⟩
/-- t.All() hands back a value that tells all things by rising keys, while both are changed. -/
theorem all_stops2 (n Bt n₀ gt gr h : Nat) (M : Mp) (A : List (Int × Int)) (hA : allOf M = A) (w : World) (hBt : Bt < w.heap.size) (hn₀ : n₀ ≤ w.heap.size) (hc : w.cell? ⟨Bt, 0, none⟩ = some (.pointer (some ⟨gt, 0, none⟩))) (hT : PTwo w n₀ gt gr h M) :
    SeqStopsK Fence.wide n Try.prog 52 #[.pointer (some ⟨Bt, 0, none⟩)] encP (Stay n₀ (gt, gr)) (fun ys => ys = A) (fun pre => pre <+: A) A.length w := fun l J Jx W hW hAJ hAx hY h0 => by
  have hTW := hT.below (hW.mono hn₀)
  have hcW : W.cell? ⟨Bt, 0, none⟩ = some (.pointer (some ⟨gt, 0, none⟩)) := (hW.cell (p := ⟨Bt, 0, none⟩) hBt).trans hc
  obtain ⟨top, nn, h1, h2, h3⟩ := hTW.blk
  have c1 : W.cell? ⟨gt, 1, none⟩ = some (.int .i64 (h : Int)) := by rw [cell_of_row _ _ 1 _ 72 (0, 0) h1]; rfl
  refine callsIn_wide.2 ?_
  cases top with
  | none =>
    have hv := all_void2 hTW h1
    rw [hA] at hv
    refine (all1_none l gt Bt h W hcW (by rw [cell_of_row _ _ 0 _ 72 (0, 0) h1]; rfl)).mono ?_
    rintro e W' ⟨hv', rfl⟩
    exact ⟨hv', .inl ⟨[], hv.symm, h0⟩⟩
  | some g =>
    obtain ⟨lv, rfl⟩ : ∃ lv, h = lv + 1 := by
      cases h with
      | zero => cases h2 rfl
      | succ l => exact ⟨l, rfl⟩
    have h5 := hTW.h5
    have hall := (items_high hTW.h5 hTW.out).trans hA
    exact all1_some l gt Bt g lv W hcW (by rw [cell_of_row _ _ 0 _ 72 (0, 0) h1]; rfl) (by rw [c1, Int.natCast_add]; rfl) (by omega) _ (all_some2 n l n₀ gt gr g lv M A hall J Jx W hAJ hY h0 (by omega) (h3 lv rfl))
end Go.Proofs.Ytjginocbbnmgaaa
