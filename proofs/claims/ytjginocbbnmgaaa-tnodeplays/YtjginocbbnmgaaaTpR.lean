/-
  SEAT Ytjginocbbnmgaaa: all things gone through while others are put and dropped.
-/
import Derived.Test.YtjginocbbnmgaaaTpQ
import Derived.Deep.RegionHeld3
namespace Go.Proofs.Ytjginocbbnmgaaa
open Go.RowKit Go.Shelf
set_option linter.unusedVariables false
variable {bx : Nat}

/-- An operation that is no call of the machine's own rows and defers nothing. -/
def noDefer (o : Oper) : Bool := match o.op with
  | .defer _ => false
  | _ => true

theorem noDefer_spec {o : Oper} (h : noDefer o = true) : ∀ c, o.op ≠ .defer c := by
  intro c e
  unfold noDefer at h
  rw [e] at h
  cases h

theorem rowsIn_round {n l : Nat} {P : Program} {row : String} {args : Array Value} {w : World} {R : Value → World → Prop} (h : Rows P row args w R) : RowsIn (Fence.wide.inRound l) n P row args w R := fun c cs _ => by
  obtain ⟨v, w', r, s⟩ := h c cs
  exact ⟨v, w', r, stepsIn_wide.2 s⟩

theorem oper_round {P : Program} {l n : Nat} {o : Oper} {a : Act} {w : World} {K : Act → World → Prop} {Q : Exit → Act → World → Prop} (hd : noDefer o = true) (h : o.wp P a w K Q) : o.wpIn (Fence.wide.inRound l) n P a w K Q := by
  unfold Oper.wpIn
  refine ⟨fun _ _ => trivial, ?_⟩
  rw [show (Fence.wide.inRound l).round = some l from rfl, Oper.semAt_some l _ _ (noDefer_spec hd)]
  unfold Oper.wp at h
  generalize (execOp a.eval o).run P w = r at *
  cases r with
  | ok x w' =>
    cases x <;> simp only [Oper.upon, Oper.uponIn] at h ⊢
    all_goals first
      | exact h
      | exact ⟨(fun e => by cases e), CallsIn.inRound l (callsIn_wide.2 h)⟩
      | exact ⟨(fun e => by cases e), rowsIn_round h⟩
  | halt x w' => cases x <;> simp only [Oper.upon, Oper.uponIn] at h ⊢ <;> exact h

theorem ops_round {P : Program} {l n : Nat} {ops : Array Oper} {Q : Exit → Act → World → Prop} (hd : ops.all noDefer = true) (hlo : ¬ LetsOut Q) : ∀ (r : List Nat) (a : Act) (w : World), wpOps P ops Q r a w → wpOpsIn (Fence.wide.inRound l) n P ops Q r a w := by
  intro r
  induction r with
  | nil => intro a w h; exact h
  | cons i r ih =>
    intro a w h
    simp only [wpOps, wpOpsIn] at h ⊢
    cases ho : ops[i]? with
    | none => rw [ho] at h; exact ih _ _ h
    | some o =>
      rw [ho] at h
      simp only at h ⊢
      have hdo : noDefer o = true := by
        obtain ⟨hi, he⟩ := Array.getElem?_eq_some_iff.1 ho
        rw [← he]
        exact (Array.all_eq_true.1 hd) i hi
      split
      · next hw =>
        rw [if_pos hw] at h
        rcases h with h | h
        · exact oper_round hdo (Oper.wp_mono (fun a w => ih a w) h)
        · exact absurd h.2 hlo
      · next hw =>
        rw [if_neg hw] at h
        exact ⟨fun _ _ => trivial, ih _ _ h⟩

/-- THE BEGINNING of a walk through a region that draws, in a round. -/
theorem wpIn_region_round {P : Program} {ops : Array Oper} {Q : Exit → Act → World → Prop} {S : World → Prop} {id l n : Nat} {a : Act} {w : World} (hm : P.follows .mixedOrders = true) (hd : ops.all noDefer = true) (hlo : ¬ LetsOut Q) (hS : S w.drew)
    (h : S w.drew → wpAnyH P .any ops Q S ops.size (Array.replicate ops.size false) a w.drew) : (Code.region id ops true).wpIn (Fence.wide.inRound l) n P Q a w :=
  wpIn_region_draw fun t => by
    simp only [Region.schedule, hm, Bool.true_or, if_true]
    exact ops_round hd hlo _ _ _ (wpAny_sound ops.size t _ a _ (wpAny_of_held _ _ _ _ (h hS)))

/-- No panic is let by. -/
def noPanic (Q : Exit → Act → World → Prop) : Exit → Act → World → Prop
  | .panic _, _, _ => False
  | e, a, w => Q e a w
theorem noPanic_le {Q : Exit → Act → World → Prop} : ∀ (e : Exit) (a : Act) (w : World), noPanic Q e a w → Q e a w
  | .panic _, _, _, h => h.elim
  | .normal, _, _, h => h
  | .ret, _, _, h => h
  | .exit _, _, _, h => h
  | .goto _, _, _, h => h
  | .outgrown, _, _, h => h


theorem DuoX.avoid {w W : World} {gt gr h : Nat} {M : Mp} {v : Value} (hD : Duo w gt gr h M v) (hb : Below w.heap.size w W) (h1 : w.heap.size ≤ bx) (h2 : bx < W.heap.size) : DuoX bx W gt gr h M v := by
  obtain ⟨top, t1, t2, t3⟩ := hD.tree.on.blk
  exact ⟨⟨⟨⟨top, (hb.block gt (lt_of_block t1)).trans t1, t2, fun l hl => (t3 l hl).mono (shows_below (E := Eg gt gt) (E' := Eg gt bx) hb (fun i hi q => by rcases q with q | q; exact Or.inl q; omega))⟩, hD.tree.on.out, hD.tree.on.h5, h2⟩, hD.tree.fit⟩, hD.ref.below hb⟩
theorem DuoX.plain {W : World} {gt gr h : Nat} {M : Mp} {v : Value} (hD : DuoX bx W gt gr h M v) : Duo W gt gr h M v := by
  obtain ⟨top, t1, t2, t3⟩ := hD.tree.on.blk
  exact ⟨⟨⟨⟨top, t1, t2, fun l hl => (t3 l hl).mono (fun i o hi => by obtain ⟨q1, q2⟩ := seen_block hi; exact seen_of (fun q => q1 (by rcases q with q | q <;> exact Or.inl q)) q2)⟩, hD.tree.on.out, hD.tree.on.h5, lt_of_block t1⟩, hD.tree.fit⟩, hD.ref⟩
/-- The counter is told anew. -/
theorem DuoX.tick {W W' : World} {gt gr h : Nat} {M : Mp} {v : Value} (hD : DuoX bx W gt gr h M v) {cs : Array Value} (hb : W.heap[bx]? = some (.cells cs 3 (0, 0))) (hg : W.grownBy W' (some bx)) : DuoX bx W' gt gr h M v := by
  have key : ∀ (g : Nat) (ds : Array Value) (t : TypeId), t ≠ 3 → W.heap[g]? = some (.cells ds t (0, 0)) → W'.heap[g]? = some (.cells ds t (0, 0)) := fun g ds t ht hd => by
    refine (hg.block g (lt_of_block hd) (fun e => ?_)).trans hd
    injection e with e
    rw [e, hb] at hd
    injection hd with hd
    injection hd with _ hd
    exact ht hd.symm
  obtain ⟨top, t1, t2, t3⟩ := hD.tree.on.blk
  refine ⟨⟨⟨⟨top, key _ _ _ (by decide) t1, t2, fun l hl => (t3 l hl).mono (fun i o hi => ?_)⟩, hD.tree.on.out, hD.tree.on.h5, Nat.lt_of_lt_of_le hD.tree.on.low hg.size⟩, hD.tree.fit⟩, key _ _ _ (by decide) hD.ref.1, hD.ref.2.1.stay (fun q _ cur hc => key q cur 35 (by decide) hc), hD.ref.2.2⟩
  obtain ⟨q1, q2⟩ := seen_block hi
  exact seen_of q1 ((hg.block i (lt_of_block q2) (fun e => q1 (Or.inr (by injection e)))).trans q2)
/-- A box of another kind is told anew. -/
theorem DuoX.other {W W' : World} {gt gr h : Nat} {M : Mp} {v : Value} (hD : DuoX bx W gt gr h M v) {g : Nat} {cs : Array Value} (hb : W.heap[g]? = some (.cells cs 4 (0, 0))) (hg : W.grownBy W' (some g)) : DuoX bx W' gt gr h M v := by
  have key : ∀ (g2 : Nat) (ds : Array Value) (t : TypeId), t ≠ 4 → W.heap[g2]? = some (.cells ds t (0, 0)) → W'.heap[g2]? = some (.cells ds t (0, 0)) := fun g2 ds t ht hd => by
    refine (hg.block g2 (lt_of_block hd) (fun e => ?_)).trans hd
    injection e with e
    rw [e, hb] at hd
    injection hd with hd
    injection hd with _ hd
    exact ht hd.symm
  obtain ⟨top, t1, t2, t3⟩ := hD.tree.on.blk
  exact ⟨⟨⟨⟨top, key _ _ _ (by decide) t1, t2, fun l hl => NodeOn.types (fun g9 cs9 t9 ht9 hg9 => key g9 cs9 t9 (by rcases ht9 with rfl | rfl <;> decide) hg9) (t3 l hl)⟩, hD.tree.on.out, hD.tree.on.h5, Nat.lt_of_lt_of_le hD.tree.on.low hg.size⟩, hD.tree.fit⟩, key _ _ _ (by decide) hD.ref.1, hD.ref.2.1.stay (fun q _ cur hc => key q cur 35 (by decide) hc), hD.ref.2.2⟩
theorem keeps_row {B : Nat} {W W' : World} {g : Nat} {cs : Array Value} {t : TypeId} {f : Nat × Nat} (hg : W.grownBy W' (some g)) (hc : W.heap[g]? = some (.cells cs t f)) : KeepsFrom B W W' :=
  ⟨hg.size, fun k o _ hk ho => (hg.block k (Array.getElem?_eq_some_iff.1 hk).1 (fun e => by
    injection e with e
    rw [e, hc] at hk
    cases hk
    cases ho)).trans hk⟩
theorem keeps_chg {B : Nat} {W W' : World} {gr : Nat} {u u' : Value} {L : List (Int × Int)} (hR : RefOn W gr u L) (hc : Chg W W' gr u u') : KeepsFrom B W W' :=
  ⟨hc.size, fun k o _ hk ho => (hc.block k (Array.getElem?_eq_some_iff.1 hk).1 (fun e => by
    have h9 := hR.1
    rw [← e, hk] at h9
    cases h9
    cases ho) (fun e => by
    obtain ⟨cur, h9⟩ := hR.row e
    rw [hk] at h9
    cases h9
    cases ho)).trans hk⟩
theorem keeps_tree {B : Nat} {W W' : World} {gt h : Nat} {M : Mp} (hT : TreeX bx W gt h M) (hg : W.grownBy W' (some gt)) : KeepsFrom B W W' := by
  obtain ⟨_, _, _, hb⟩ := hT.box
  exact keeps_row hg hb
theorem stay_grown {n₀ gt gr : Nat} {W W' : World} (hg : W.grownBy W' (some gt)) (hs : n₀ ≤ W.heap.size) : Stay n₀ (gt, gr) W W' := fun i h1 h2 _ => hg.block i (by omega) (fun e => h2 (by injection e))
theorem stay_ref {n₀ gt gr : Nat} {W W' : World} (hg : W.grownBy W' (some gr)) (hs : n₀ ≤ W.heap.size) : Stay n₀ (gt, gr) W W' := fun i h1 _ h3 => hg.block i (by omega) (fun e => h3 (by injection e))
theorem stay_far {n₀ gt gr g : Nat} {W W' : World} (hg : W.grownBy W' (some g)) (hs : n₀ ≤ W.heap.size) (h : n₀ ≤ g) : Stay n₀ (gt, gr) W W' := fun i h1 _ _ => hg.block i (by omega) (fun e => by injection e with e; omega)
theorem stay_chg {n₀ gt gr : Nat} {W W' : World} {u u' : Value} (hc : Chg W W' gr u u') (hs : n₀ ≤ W.heap.size) (ho : ∀ q, u.ownBlock = some q → n₀ ≤ q) : Stay n₀ (gt, gr) W W' := fun i h1 _ h3 => hc.block i (by omega) h3 (fun e => by have := ho i e; omega)
/-- The reference's Drop in a round: the row that was there stays. -/
theorem rdrop_round (gr n₀ : Nat) (n : Nat) (v : Value) (M : Mp) (W : World) (h : RefOn W gr v (allOf M)) (hs : n₀ ≤ W.heap.size) (hout : ∀ k, 1048576 ≤ k → M k = none) (hv : (∃ y, M n = some y) ∨ ∀ r, v.ownBlock = some r → n₀ ≤ r) (hn : n < 1048576) :
    Calls Try.prog 47 #[.pointer (some ⟨gr, 0, none⟩), .int .i64 (n : Int)] W fun e w' => e = .returned (.bool (at1 M (n : Int)).isSome) ∧ ∃ v', RefOn w' gr v' (allOf (del M (n : Int))) ∧ Chg W w' gr v v' ∧ (∀ r, v'.ownBlock = some r → n₀ ≤ r) ∧ ∀ gt, Stay n₀ (gt, gr) W w' := by
  cases hm : M n with
  | some y =>
    refine (rdrop_new gr n v M W h hn y hm).mono ?_
    rintro e w' ⟨rfl, v', h1, h2, h3⟩
    exact ⟨rfl, v', h1, Chg.new h2 h3, fun r hr => Nat.le_trans hs (h3 r hr), fun gt => stay_ref h2 hs⟩
  | none =>
    have hv2 : ∀ r, v.ownBlock = some r → n₀ ≤ r := by
      rcases hv with ⟨y, hy⟩ | hv
      · rw [hm] at hy; cases hy
      · exact hv
    refine (rdrop_m gr n v M W h hout).mono ?_
    rintro e w' ⟨rfl, v', h1, h2⟩
    exact ⟨rfl, v', h1, h2, fun r hr => (h2.own r hr).elim (hv2 r) (fun q => Nat.le_trans hs q), fun gt => stay_chg h2 hs hv2⟩

theorem items_mem (M : Mp) : ∀ (n i : Nat) (p : Int × Int), (items M 0 n)[i]? = some p → ∃ K : Nat, K < n ∧ p.1 = (K : Int) ∧ M K = some p.2
  | 0, i, p, h => by simp [items] at h
  | n + 1, i, p, h => by
    simp only [items] at h
    rcases Nat.lt_or_ge i (items M 0 n).length with q | q
    · rw [List.getElem?_append_left q] at h
      obtain ⟨K, h1, h2, h3⟩ := items_mem M n i p h
      exact ⟨K, by omega, h2, h3⟩
    · rw [List.getElem?_append_right q] at h
      cases hm : M n with
      | none => rw [hm] at h; simp at h
      | some v =>
        rw [hm] at h
        have h9 := List.mem_of_getElem? h
        simp at h9
        subst h9
        exact ⟨n, by omega, rfl, hm⟩
theorem all_mem {M : Mp} {i : Nat} {p : Int × Int} (h : (allOf M)[i]? = some p) : ∃ K : Nat, K < 1048576 ∧ p.1 = (K : Int) ∧ M K = some p.2 := items_mem M 1048576 i p h
theorem Rd.lies {W : World} {v : Value} {xs : List (Int × Int)} (h : Rd W v xs) (hp : 0 < xs.length) : ∃ g cap, v = .slice (some ⟨g, 0, none⟩) xs.length cap ∧ g < W.heap.size ∧ ∀ i p, xs[i]? = some p → W.cell? ⟨g, i * 2, none⟩ = some (.int .i64 p.1) ∧ W.cell? ⟨g, i * 2 + 1, none⟩ = some (.int .i64 p.2) := by
  rcases Rd.reads h with ⟨_, rfl⟩ | ⟨g, cap, rfl, hl, hc⟩
  · simp at hp
  · refine ⟨g, cap, rfl, ?_, hc⟩
    obtain ⟨h1, _⟩ := hc 0 xs[0] (List.getElem?_eq_getElem hp)
    unfold World.cell? at h1
    rcases Nat.lt_or_ge g W.heap.size with q | q
    · exact q
    · simp [Array.getElem?_eq_none q] at h1
/-- What stands through the rounds. -/
structure Chd (w W : World) (gt gr : Nat) (q k x : Int) (M : Mp) (v : Value) (A pre : List (Int × Int)) : Prop where
  duo : ∃ h' M' v', DuoX (w.heap.size + 1 + 1 + 1 + 1 + 1) W gt gr h' M' v' ∧ ((pre = [] ∧ v' = v ∧ M' = M) ∨ ∀ r, v'.ownBlock = some r → w.heap.size ≤ r)
  front : pre = A.take pre.length
  stay : Stay w.heap.size (gt, gr) w W
  os : W.os = w.os
  tape : W.tape = w.tape
  output : W.output = w.output
  size : w.heap.size ≤ W.heap.size
  b0 : Boxed W (w.heap.size) 24 (.pointer (some ⟨gt, 0, none⟩))
  b1 : Boxed W (w.heap.size + 1) 59 (.pointer (some ⟨gr, 0, none⟩))
  b2 : BxOn W (w.heap.size + 1 + 1) q k x
  b3 : Boxed W (w.heap.size + 1 + 1 + 1) 4 (.bool false)
  b4 : Boxed W (w.heap.size + 1 + 1 + 1 + 1) 28 v
  b5 : Boxed W (w.heap.size + 1 + 1 + 1 + 1 + 1) 3 (.int .i64 (pre.length : Int))
theorem chd_own (w : World) (gt gr : Nat) (q k x : Int) (M : Mp) (v : Value) (A : List (Int × Int)) {n : Nat} (hn : w.heap.size ≤ n) : OwnFrom n (fun pre W => Chd w W gt gr q k x M v A pre) := fun pre W W' row hs hg hr => by
  have hk : CellsStay W W' := CellsStay.of hg (fun r e => (hr r e).2)
  obtain ⟨h', M', v', d1, d2⟩ := hs.duo
  exact ⟨⟨h', M', v', d1.cells hk, d2⟩, hs.front, hs.stay.trans (fun i hi _ _ => hg.block i (by have := hs.size; omega) (fun e => by have := (hr i e.symm).1; omega)), hg.os.trans hs.os, hg.tape.trans hs.tape, hg.output.trans hs.output, Nat.le_trans hs.size hg.size, hk.2 _ _ _ hs.b0, hk.2 _ _ _ hs.b1, hk.2 _ _ _ hs.b2, hk.2 _ _ _ hs.b3, hk.2 _ _ _ hs.b4, hk.2 _ _ _ hs.b5⟩
theorem Chd.row {w W : World} {gt gr : Nat} {q k x : Int} {M : Mp} {v : Value} {A pre : List (Int × Int)} (hC : Chd w W gt gr q k x M v A pre) {h : Nat} (hD : Duo w gt gr h M v) (hA : allOf M = A) : Rd W v A := by
  have h1 := hD.ref.2.1
  rw [hA] at h1
  refine h1.stay (fun r hr cur hc => (hC.stay r (lt_of_block hc) (fun e => ?_) (fun e => ?_)).trans hc)
  · simp only at e
    obtain ⟨_, _, _, hb⟩ := hD.tree.box
    rw [e, hb] at hc
    injection hc with hc
    injection hc with _ hc
    cases hc
  · simp only at e
    have h9 := hD.ref.1
    rw [← e, hc] at h9
    injection h9 with h9
    injection h9 with _ h9
    cases h9
theorem not_front {A pre : List (Int × Int)} {y p : Int × Int} (hy : A[pre.length]? = some y) (h : y ≠ p) : ¬ pre ++ [p] <+: A := fun ⟨t, ht⟩ => h (by
  rw [← ht] at hy
  simp at hy
  exact hy.symm)
theorem front_snoc {A pre : List (Int × Int)} {y : Int × Int} (hy : A[pre.length]? = some y) (h : pre = A.take pre.length) : pre ++ [y] = A.take (pre ++ [y]).length := by
  rw [List.length_append, List.length_singleton, List.take_add_one, hy, ← h]
  rfl


attribute [local go_sem] Oper.semAt_some
set_option maxHeartbeats 8000000 in
set_option maxRecDepth 100000 in
theorem changing_any (gt gr h : Nat) (q k x : Int) (M : Mp) (a : Option Addr) (N cap : Nat) (A : List (Int × Int)) (hA : allOf M = A) (hN : A.length = N) (w : World) (hD : Duo w gt gr h M (.slice a N cap)) :
    Calls Try.prog 49 #[.pointer (some ⟨gt, 0, none⟩), .pointer (some ⟨gr, 0, none⟩), .agg #[.int .i64 q, .int .i64 k, .int .i64 x]] w fun e w' => Playd w w' gt gr (.slice a N cap) e := by
  have HN : Hid (A.length = N) := hN
  have HA : Hid (allOf M = A) := hA
  have HD : Hid (Duo w gt gr h M (.slice a N cap)) := hD
  have hN6 : N ≤ 1048576 := by rw [← hN, ← hA]; exact hD.ref.2.2
  have hb4 : Below w.heap.size w ((((w.alloc (.cells #[.pointer (some ⟨gt, 0, none⟩)] 24)).alloc (.cells #[.pointer (some ⟨gr, 0, none⟩)] 59)).alloc (.cells #[.int .i64 q, .int .i64 k, .int .i64 x] 64)).alloc (.cells #[.bool false] 4)) := ((((Below.refl _ w).alloc (Nat.le_refl _) _).alloc (by simp) _).alloc (by simp; omega) _).alloc (by simp; omega) _
  have cgr : ((((w.alloc (.cells #[.pointer (some ⟨gt, 0, none⟩)] 24)).alloc (.cells #[.pointer (some ⟨gr, 0, none⟩)] 59)).alloc (.cells #[.int .i64 q, .int .i64 k, .int .i64 x] 64)).alloc (.cells #[.bool false] 4)).cell? ⟨gr, 0, none⟩ = some (.slice a N cap) := by obtain ⟨_, _, _, hcc, _⟩ := ref_form (hD.ref.below hb4); exact hcc
  have HB7 : Hid (Below w.heap.size w (((((((w.alloc (.cells #[.pointer (some ⟨gt, 0, none⟩)] 24)).alloc (.cells #[.pointer (some ⟨gr, 0, none⟩)] 59)).alloc (.cells #[.int .i64 q, .int .i64 k, .int .i64 x] 64)).alloc (.cells #[.bool false] 4)).alloc (.cells #[.slice a N cap] 28)).alloc (.cells #[.int .i64 0] 3)).alloc (.cells #[.pointer (some ⟨gt, 0, none⟩)] 24))) := ((hb4.alloc (by simp; omega) _).alloc (by simp; omega) _).alloc (by simp; omega) _
  clear hb4 hA hD hN
  refine (callsIn_wide (n := 3)).1 ?_
  refine callsIn_of_wp_marks Try.func49 rfl trivial ?_ rfl
  refine wpIn_mono ?_ noPanic_le
  simp only [Try.ntmps49, List.size_toArray, List.length_cons, List.length_nil, Nat.reduceAdd, Nat.reduceSub, Array.replicate_succ, Array.replicate_zero, List.push_toArray, List.append_toArray, List.nil_append, List.cons_append]
  refine wpIn_wide.2 ?_
  go_wp2_with (first | (go_at_call 35; refine (allf_any gt _).mono ?_; rintro e w' ⟨rfl, rfl⟩))
  clear cgr
  have hbx : ∀ (u : World) (v : Value) (t : TypeId), Boxed (u.alloc (.cells #[v] t)) u.heap.size t v := fun u v t => Boxed.new u t v
  have hC0 : Chd w (((((((w.alloc (.cells #[.pointer (some ⟨gt, 0, none⟩)] 24)).alloc (.cells #[.pointer (some ⟨gr, 0, none⟩)] 59)).alloc (.cells #[.int .i64 q, .int .i64 k, .int .i64 x] 64)).alloc (.cells #[.bool false] 4)).alloc (.cells #[.slice a N cap] 28)).alloc (.cells #[.int .i64 0] 3)).alloc (.cells #[.pointer (some ⟨gt, 0, none⟩)] 24)) gt gr q k x M (.slice a N cap) A [] := by
    refine ⟨⟨h, M, _, HD.out.avoid HB7.out (by omega) (by simp), Or.inl ⟨rfl, rfl, rfl⟩⟩, by simp, fun i hi _ _ => HB7.out.block i hi, HB7.out.os, HB7.out.tape, HB7.out.output, HB7.out.size, ?_, ?_, ?_, ?_, ?_, ?_⟩
    · exact (((((Boxed.new w 24 _).alloc _).alloc _).alloc _).alloc _).alloc _ |>.alloc _
    · have h9 := Boxed.new (w.alloc (.cells #[.pointer (some ⟨gt, 0, none⟩)] 24)) 59 (.pointer (some ⟨gr, 0, none⟩))
      simp only [World.size_alloc] at h9
      exact ((((h9.alloc _).alloc _).alloc _).alloc _).alloc _
    · have h9 := BxOn.new ((w.alloc (.cells #[.pointer (some ⟨gt, 0, none⟩)] 24)).alloc (.cells #[.pointer (some ⟨gr, 0, none⟩)] 59)) q k x
      simp only [World.size_alloc] at h9
      exact (((h9.below (below_alloc _ _)).below (below_alloc _ _)).below (below_alloc _ _)).below (below_alloc _ _)
    · have h9 := Boxed.new (((w.alloc (.cells #[.pointer (some ⟨gt, 0, none⟩)] 24)).alloc (.cells #[.pointer (some ⟨gr, 0, none⟩)] 59)).alloc (.cells #[.int .i64 q, .int .i64 k, .int .i64 x] 64)) 4 (.bool false)
      simp only [World.size_alloc] at h9
      exact ((h9.alloc _).alloc _).alloc _
    · have h9 := Boxed.new ((((w.alloc (.cells #[.pointer (some ⟨gt, 0, none⟩)] 24)).alloc (.cells #[.pointer (some ⟨gr, 0, none⟩)] 59)).alloc (.cells #[.int .i64 q, .int .i64 k, .int .i64 x] 64)).alloc (.cells #[.bool false] 4)) 28 (.slice a N cap)
      simp only [World.size_alloc] at h9
      exact (h9.alloc _).alloc _
    · have h9 := Boxed.new (((((w.alloc (.cells #[.pointer (some ⟨gt, 0, none⟩)] 24)).alloc (.cells #[.pointer (some ⟨gr, 0, none⟩)] 59)).alloc (.cells #[.int .i64 q, .int .i64 k, .int .i64 x] 64)).alloc (.cells #[.bool false] 4)).alloc (.cells #[.slice a N cap] 28)) 3 (.int .i64 0)
      simp only [World.size_alloc] at h9
      exact h9.alloc _
  have bT : Boxed (((((((w.alloc (.cells #[.pointer (some ⟨gt, 0, none⟩)] 24)).alloc (.cells #[.pointer (some ⟨gr, 0, none⟩)] 59)).alloc (.cells #[.int .i64 q, .int .i64 k, .int .i64 x] 64)).alloc (.cells #[.bool false] 4)).alloc (.cells #[.slice a N cap] 28)).alloc (.cells #[.int .i64 0] 3)).alloc (.cells #[.pointer (some ⟨gt, 0, none⟩)] 24)) (w.heap.size + 1 + 1 + 1 + 1 + 1 + 1) 24 (.pointer (some ⟨gt, 0, none⟩)) := by
    have h9 := Boxed.new ((((((w.alloc (.cells #[.pointer (some ⟨gt, 0, none⟩)] 24)).alloc (.cells #[.pointer (some ⟨gr, 0, none⟩)] 59)).alloc (.cells #[.int .i64 q, .int .i64 k, .int .i64 x] 64)).alloc (.cells #[.bool false] 4)).alloc (.cells #[.slice a N cap] 28)).alloc (.cells #[.int .i64 0] 3)) 24 (.pointer (some ⟨gt, 0, none⟩))
    simp only [World.size_alloc] at h9
    exact h9
  clear hbx
  refine (wpIn_wide (n := 3)).1 ?_
  refine' wpIn_rangeFunc_ownG (n := 3) rfl (show 1 ≤ 3 by decide) (gf := 52) (lb := #[.pointer (some ⟨w.heap.size + 1 + 1 + 1 + 1 + 1 + 1, 0, none⟩)]) rfl trivial (enters_of Try.func52 (by kernel_rfl) rfl)
    (all_stops2 2 (w.heap.size + 1 + 1 + 1 + 1 + 1 + 1) w.heap.size gt gr h M A HA.out _ (by simp) (by simp; omega) bT.cell (HD.out.two.below HB7.out)) (fun h1 h2 => Stay.trans h1 h2) (fun W l o o' hl _ _ _ => fun i hi _ _ => World.putObj_heap_other (by simp at hl; omega)) (Below.refl _ _) (fun _ => rfl)
    (fun pre W => Chd w W gt gr q k x M (.slice a N cap) A pre)
    (fun _ pre _ => ¬ pre <+: A)
    (chd_own w gt gr q k x M (.slice a N cap) A (by simp; omega))
    (fun _ _ _ _ _ hs _ _ => hs)
    hC0
    _ ?assign ?body ?done ?stop
  case assign =>
    intro l y W K hK
    gi_wp2
    exact hK
  case body =>
    rintro l pre ⟨p1, p2⟩ W hC hlt
    have hpl : pre.length < N := by rw [← HN.out]; exact hlt
    obtain ⟨⟨y1, y2⟩, hy⟩ : ∃ y, A[pre.length]? = some y := ⟨A[pre.length], List.getElem?_eq_getElem hlt⟩
    obtain ⟨g, cap', hsl, hgl, hcells⟩ := Rd.lies (hC.row HD.out HA.out) (show 0 < A.length by omega)
    obtain ⟨x0, x1⟩ := hcells pre.length _ hy
    dsimp only at x0 x1
    have hal : a = some ⟨g, 0, none⟩ := by injection hsl
    subst hal
    have HC : Hid (Chd w W gt gr q k x M (.slice (some ⟨g, 0, none⟩) N cap) A pre) := hC
    have HY : Hid (A[pre.length]? = some (y1, y2)) := hy
    have c7 := hC.b4.cell
    have c8 := hC.b5.cell
    have f8 := hC.b5.frozen
    have c6 := hC.b3.cell
    have f6 := hC.b3.frozen
    have d1 : ¬ (N : Int) ≤ (pre.length : Int) := by omega
    have d2 : (pre.length : Int) < (N : Int) := by omega
    have wi : IntKind.i64.wrap ((pre.length : Int) + 1) = (pre.length : Int) + 1 := by rw [IntKind.wrap_i64]; omega
    obtain ⟨kk, hkk, hpk, hKv⟩ := all_mem (M := M) (by rw [HA.out]; exact hy)
    dsimp only at hpk hKv
    subst hpk
    have HKV : Hid (M kk = some y2) := hKv
    clear hC hy hsl hgl hcells hlt hKv HA HD HB7 hC0 bT
    obtain ⟨i, hi⟩ : ∃ i, pre.length = i := ⟨_, rfl⟩
    have HI : Hid (pre.length = i) := hi
    rw [hi] at x0 x1 c8 d1 d2 wi hpl
    clear hi
    refine wpIn_block ?_
    by_cases e1 : (kk : Int) = p1
    · by_cases e2 : y2 = p2
      · subst e1 e2
        obtain ⟨h', M', v', hdu, hvm⟩ := HC.out.duo
        obtain ⟨Bb, hBb⟩ : ∃ Bb, (at1 M' (kk : Int)).isSome = Bb := ⟨_, rfl⟩
        have HB : Hid ((at1 M' (kk : Int)).isSome = Bb) := hBb
        obtain ⟨M4, hM4⟩ : ∃ M4, (if k < 0 ∨ 1048575 < k then del M' (kk : Int) else upd (del M' (kk : Int)) k.toNat x) = M4 := ⟨_, rfl⟩
        have HPM : Hid ((if k < 0 ∨ 1048575 < k then del M' (kk : Int) else upd (del M' (kk : Int)) k.toNat x) = M4) := hM4
        obtain ⟨E, hE⟩ : ∃ E : Int, (if k < 0 ∨ 1048575 < k then (90 : Int) else 0) = E := ⟨_, rfl⟩
        have HPE : Hid ((if k < 0 ∨ 1048575 < k then (90 : Int) else 0) = E) := hE
        have HMV : Hid ((∃ y, M' kk = some y) ∨ ∀ r, v'.ownBlock = some r → w.heap.size ≤ r) := by
          rcases hvm with ⟨_, _, h3⟩ | h3
          · exact Or.inl ⟨_, by rw [h3]; exact HKV.out⟩
          · exact Or.inr h3
        have HOUT : Hid (∀ j, 1048576 ≤ j → M' j = none) := fun j hj => hdu.tree.out hj
        have hgc : W.grownBy (W.setCell ⟨w.heap.size + 1 + 1 + 1 + 1 + 1, 0, none⟩ (.int .i64 ((i : Int) + 1))) (some (w.heap.size + 1 + 1 + 1 + 1 + 1)) := grownBy_setCell' W _ _
        have HDU : Hid (DuoX (w.heap.size + 1 + 1 + 1 + 1 + 1) (W.setCell ⟨w.heap.size + 1 + 1 + 1 + 1 + 1, 0, none⟩ (.int .i64 ((i : Int) + 1))).drew gt gr h' M' v') := (hdu.tick HC.out.b5 hgc).below (below_drew _)
        obtain ⟨u0, hu0⟩ : ∃ u0, (W.setCell ⟨w.heap.size + 1 + 1 + 1 + 1 + 1, 0, none⟩ (.int .i64 ((i : Int) + 1))).drew = u0 := ⟨_, rfl⟩
        have hgd : W.grownBy u0 (some (w.heap.size + 1 + 1 + 1 + 1 + 1)) := by rw [← hu0]; exact ⟨hgc.os, hgc.tape, hgc.output, hgc.size, hgc.block⟩
        rw [hu0] at HDU
        have HT0 : Hid (TreeX (w.heap.size + 1 + 1 + 1 + 1 + 1) u0 gt h' M') := HDU.out.tree
        have HR0 : Hid (RefOn u0 gr v' (allOf M')) := HDU.out.ref
        have HW0 : Hid (u0.os = w.os ∧ u0.tape = w.tape ∧ u0.output = w.output ∧ w.heap.size ≤ u0.heap.size) := ⟨hgd.os.trans HC.out.os, hgd.tape.trans HC.out.tape, hgd.output.trans HC.out.output, Nat.le_trans HC.out.size hgd.size⟩
        have HSZ0 : Hid (w.heap.size ≤ u0.heap.size) := HW0.out.2.2.2
        have HS0 : Hid (Stay w.heap.size (gt, gr) W u0) := stay_far hgd HC.out.size (by omega)
        have HK0 : Hid (∀ B, KeepsFrom B W u0) := fun B => keeps_row hgd HC.out.b5
        have hot : ∀ (Bk : Nat) (v9 : Value) (t9 : TypeId), Boxed W Bk t9 v9 → Bk ≠ w.heap.size + 1 + 1 + 1 + 1 + 1 → Boxed u0 Bk t9 v9 := fun Bk v9 t9 hb9 hne => (hgd.block Bk (lt_of_block hb9) (fun e => hne (by injection e))).trans hb9
        have Hb0u0 : Hid (Boxed u0 (w.heap.size) 24 (.pointer (some ⟨gt, 0, none⟩))) := hot _ _ _ HC.out.b0 (by omega)
        have Hb1u0 : Hid (Boxed u0 (w.heap.size + 1) 59 (.pointer (some ⟨gr, 0, none⟩))) := hot _ _ _ HC.out.b1 (by omega)
        have Hb2u0 : Hid (BxOn u0 (w.heap.size + 1 + 1) q k x) := (hgd.block _ (lt_of_block HC.out.b2) (fun e => by injection e with e; omega)).trans HC.out.b2
        have Hb3u0 : Hid (Boxed u0 (w.heap.size + 1 + 1 + 1) 4 (.bool false)) := hot _ _ _ HC.out.b3 (by omega)
        have Hb4u0 : Hid (Boxed u0 (w.heap.size + 1 + 1 + 1 + 1) 28 (.slice (some ⟨g, 0, none⟩) N cap)) := hot _ _ _ HC.out.b4 (by omega)
        have Hb5u0 : Hid (Boxed u0 (w.heap.size + 1 + 1 + 1 + 1 + 1) 3 (.int .i64 ((i : Int) + 1))) := by
          unfold Hid
          rw [← hu0]
          exact HC.out.b5.set _
        have HU0 : Hid ((W.setCell ⟨w.heap.size + 1 + 1 + 1 + 1 + 1, 0, none⟩ (.int .i64 ((i : Int) + 1))).drew = u0) := hu0
        clear hdu hvm hBb hM4 hE hgc hu0 hgd hot HDU
        gi_wp2
        refine wpIn_region_round (S := (fun y : World => y.cell? ⟨w.heap.size, 0, none⟩ = some (.pointer (some ⟨gt, 0, none⟩)) ∧ y.cell? ⟨w.heap.size + 1, 0, none⟩ = some (.pointer (some ⟨gr, 0, none⟩)))) (by kernel_rfl) (by kernel_rfl) (fun h => by obtain ⟨_, _, h⟩ := h; exact h) (by rw [HU0.out]; exact ⟨Hb0u0.out.cell, Hb1u0.out.cell⟩) (fun hHeld => ?_)
        rw [HU0.out] at hHeld ⊢
        refine wpAnyH_take (i := 0) (oi := { dst := some 43, op := Op.load 59 (Operand.tmp 4), type := 59, pos := "law.go:77", after := #[], guard := none }) (v := ?v0r9) rfl (by kernel_rfl) (by kernel_rfl) (by kernel_rfl) (fun _ _ _ h => h) (Or.inl ⟨by rfl, ?y0r9⟩) (by assumption) ?r0r9
        case y0r9 => (intro x hx; (try dsimp only at hx); go_simp; try with_reducible rfl)
        try simp only [Act.put, List.setIfInBounds_toArray, List.set_cons_zero, List.set_cons_succ]
        refine wpAnyH_take (i := 1) (oi := { dst := some 44, op := Op.move (Operand.tmp 9), type := 3, pos := "law.go:77", after := #[], guard := none }) (v := ?v1r9) rfl (by kernel_rfl) (by kernel_rfl) (by kernel_rfl) (fun _ _ _ h => h) (Or.inl ⟨by rfl, ?y1r9⟩) (by assumption) ?r1r9
        case y1r9 => (intro x hx; (try dsimp only at hx); go_simp; try with_reducible rfl)
        try simp only [Act.put, List.setIfInBounds_toArray, List.set_cons_zero, List.set_cons_succ]
        refine wpAnyH_take (i := 3) (oi := { dst := some 46, op := Op.load 24 (Operand.tmp 3), type := 24, pos := "law.go:77", after := #[], guard := none }) (v := ?v3r9) rfl (by kernel_rfl) (by kernel_rfl) (by kernel_rfl) (fun _ _ _ h => h) (Or.inl ⟨by rfl, ?y3r9⟩) (by assumption) ?r3r9
        case y3r9 => (intro x hx; (try dsimp only at hx); go_simp; try with_reducible rfl)
        try simp only [Act.put, List.setIfInBounds_toArray, List.set_cons_zero, List.set_cons_succ]
        refine wpAnyH_take (i := 4) (oi := { dst := some 47, op := Op.move (Operand.tmp 9), type := 3, pos := "law.go:77", after := #[], guard := none }) (v := ?v4r9) rfl (by kernel_rfl) (by kernel_rfl) (by kernel_rfl) (fun _ _ _ h => h) (Or.inl ⟨by rfl, ?y4r9⟩) (by assumption) ?r4r9
        case y4r9 => (intro x hx; (try dsimp only at hx); go_simp; try with_reducible rfl)
        try simp only [Act.put, List.setIfInBounds_toArray, List.set_cons_zero, List.set_cons_succ]
        refine wpAnyH_ready (rs := [2]) (by kernel_rfl) (by simp) ?_
        refine AllReadyH.cons (o := { dst := some 45, op := Op.call { callee := Callee.value (Operand.func 47), args := #[Operand.tmp 43, Operand.tmp 44], argTypes := #[59, 3] }, type := 4, pos := "law.go:77", after := #[{ on := 0, ground := Ground.data }, { on := 1, ground := Ground.data }], guard := none }) rfl (fun K hK => ?_) AllReadyH.nil
        go_simp
        go_at_call 47
        refine (rdrop_round gr w.heap.size kk v' M' _ HR0.out HSZ0.out HOUT.out HMV.out hkk).mono ?_
        rintro e u1 ⟨rfl, v1, r1, ch1, ow1, st1⟩
        rw [HB.out]
        have HT1 : Hid (TreeX (w.heap.size + 1 + 1 + 1 + 1 + 1) u1 gt h' M') := HT0.out.chg HR0.out ch1
        have HR1 : Hid (RefOn u1 gr v1 (allOf (del M' (kk : Int)))) := r1
        have HO1 : Hid (∀ r, v1.ownBlock = some r → w.heap.size ≤ r) := ow1
        have HS1 : Hid (Stay w.heap.size (gt, gr) W u1) := HS0.out.trans (st1 gt)
        have HK1 : Hid (∀ B, KeepsFrom B W u1) := fun B => (HK0.out B).trans (keeps_chg HR0.out ch1)
        have HW1 : Hid (u1.os = w.os ∧ u1.tape = w.tape ∧ u1.output = w.output ∧ w.heap.size ≤ u1.heap.size) := ⟨ch1.os.trans HW0.out.1, ch1.tape.trans HW0.out.2.1, ch1.output.trans HW0.out.2.2.1, Nat.le_trans HW0.out.2.2.2 ch1.size⟩
        have Hb0u1 : Hid (Boxed u1 (w.heap.size) 24 (.pointer (some ⟨gt, 0, none⟩))) := RefOn.keep HR0.out ch1 Hb0u0.out (by decide) (by decide)
        have Hb1u1 : Hid (Boxed u1 (w.heap.size + 1) 59 (.pointer (some ⟨gr, 0, none⟩))) := RefOn.keep HR0.out ch1 Hb1u0.out (by decide) (by decide)
        have Hb2u1 : Hid (BxOn u1 (w.heap.size + 1 + 1) q k x) := RefOn.keep HR0.out ch1 Hb2u0.out (by decide) (by decide)
        have Hb3u1 : Hid (Boxed u1 (w.heap.size + 1 + 1 + 1) 4 (.bool false)) := RefOn.keep HR0.out ch1 Hb3u0.out (by decide) (by decide)
        have Hb4u1 : Hid (Boxed u1 (w.heap.size + 1 + 1 + 1 + 1) 28 (.slice (some ⟨g, 0, none⟩) N cap)) := RefOn.keep HR0.out ch1 Hb4u0.out (by decide) (by decide)
        have Hb5u1 : Hid (Boxed u1 (w.heap.size + 1 + 1 + 1 + 1 + 1) 3 (.int .i64 ((i : Int) + 1))) := RefOn.keep HR0.out ch1 Hb5u0.out (by decide) (by decide)
        have hSnew := And.intro Hb0u1.out.cell Hb1u1.out.cell
        clear r1 ch1 ow1 st1
        go_wp2_with fail
        refine hK.out _ _ hSnew (fun hHeld2 => ?_)
        clear hK K hSnew
        clear hHeld
        have hHeld := hHeld2
        clear hHeld2
        try simp only [Act.put, List.setIfInBounds_toArray, List.set_cons_zero, List.set_cons_succ]
        refine wpAnyH_ready (rs := [5]) (by kernel_rfl) (by simp) ?_
        refine AllReadyH.cons (o := { dst := some 48, op := Op.call { callee := Callee.value (Operand.func 17), args := #[Operand.tmp 46, Operand.tmp 47], argTypes := #[24, 3] }, type := 4, pos := "law.go:77", after := #[{ on := 3, ground := Ground.data }, { on := 4, ground := Ground.data }, { on := 2, ground := Ground.chain }], guard := none }) rfl (fun K hK => ?_) AllReadyH.nil
        go_simp
        go_at_call 17
        refine (drop_any gt h' (kk : Int) M' _ HT1.out (by omega)).mono ?_
        rintro e u2 ⟨h2, rfl, t2, g2⟩
        rw [HB.out]
        have HT2 : Hid (TreeX (w.heap.size + 1 + 1 + 1 + 1 + 1) u2 gt h2 (del M' (kk : Int))) := t2
        have HR2 : Hid (RefOn u2 gr v1 (allOf (del M' (kk : Int)))) := HR1.out.grown HT1.out g2
        have HS2 : Hid (Stay w.heap.size (gt, gr) W u2) := HS1.out.trans (stay_grown g2 HW1.out.2.2.2)
        have HK2 : Hid (∀ B, KeepsFrom B W u2) := fun B => (HK1.out B).trans (keeps_tree HT1.out g2)
        have HW2 : Hid (u2.os = w.os ∧ u2.tape = w.tape ∧ u2.output = w.output ∧ w.heap.size ≤ u2.heap.size) := ⟨g2.os.trans HW1.out.1, g2.tape.trans HW1.out.2.1, g2.output.trans HW1.out.2.2.1, Nat.le_trans HW1.out.2.2.2 g2.size⟩
        have Hb0u2 : Hid (Boxed u2 (w.heap.size) 24 (.pointer (some ⟨gt, 0, none⟩))) := TreeX.keep HT1.out g2 Hb0u1.out (by decide)
        have Hb1u2 : Hid (Boxed u2 (w.heap.size + 1) 59 (.pointer (some ⟨gr, 0, none⟩))) := TreeX.keep HT1.out g2 Hb1u1.out (by decide)
        have Hb2u2 : Hid (BxOn u2 (w.heap.size + 1 + 1) q k x) := TreeX.keep HT1.out g2 Hb2u1.out (by decide)
        have Hb3u2 : Hid (Boxed u2 (w.heap.size + 1 + 1 + 1) 4 (.bool false)) := TreeX.keep HT1.out g2 Hb3u1.out (by decide)
        have Hb4u2 : Hid (Boxed u2 (w.heap.size + 1 + 1 + 1 + 1) 28 (.slice (some ⟨g, 0, none⟩) N cap)) := TreeX.keep HT1.out g2 Hb4u1.out (by decide)
        have Hb5u2 : Hid (Boxed u2 (w.heap.size + 1 + 1 + 1 + 1 + 1) 3 (.int .i64 ((i : Int) + 1))) := TreeX.keep HT1.out g2 Hb5u1.out (by decide)
        have hSnew := And.intro Hb0u2.out.cell Hb1u2.out.cell
        clear t2 g2
        go_wp2_with fail
        refine hK.out _ _ hSnew (fun hHeld5 => ?_)
        clear hK K hSnew
        clear hHeld
        have hHeld := hHeld5
        clear hHeld5
        try simp only [Act.put, List.setIfInBounds_toArray, List.set_cons_zero, List.set_cons_succ]
        refine wpAnyH_take (i := 6) (oi := { dst := some 49, op := Op.binOp BinOp.neq 4 (Operand.tmp 45) (Operand.tmp 48) 4, type := 4, pos := "law.go:77", after := #[{ on := 2, ground := Ground.data }, { on := 5, ground := Ground.data }], guard := none }) (v := ?v6r9) rfl (by kernel_rfl) (by kernel_rfl) (by kernel_rfl) (fun _ _ _ h => h) (Or.inl ⟨by rfl, ?y6r9⟩) (by assumption) ?r6r9
        case y6r9 => (intro x hx; (try dsimp only at hx); go_simp; try with_reducible rfl)
        try simp only [Act.put, List.setIfInBounds_toArray, List.set_cons_zero, List.set_cons_succ]
        refine wpAnyH_done (by kernel_rfl) ?_ _
        gi_wp2
        have HW3 : Hid (u2.drew.os = w.os ∧ u2.drew.tape = w.tape ∧ u2.drew.output = w.output ∧ w.heap.size ≤ u2.drew.heap.size) := HW2.out
        obtain ⟨u3, hu3⟩ : ∃ u3, u2.drew = u3 := ⟨_, rfl⟩
        have hb3 : Below u2.heap.size u2 u3 := by rw [← hu3]; exact below_drew _
        rw [hu3] at HW3
        have HT3 : Hid (TreeX (w.heap.size + 1 + 1 + 1 + 1 + 1) u3 gt h2 (del M' (kk : Int))) := HT2.out.below hb3
        have HR3 : Hid (RefOn u3 gr v1 (allOf (del M' (kk : Int)))) := HR2.out.below hb3
        have HS3 : Hid (Stay w.heap.size (gt, gr) W u3) := HS2.out.trans (fun i9 h9 _ _ => hb3.block i9 (by have := HW2.out.2.2.2; omega))
        have HK3 : Hid (∀ B, KeepsFrom B W u3) := fun B => (HK2.out B).trans ⟨hb3.size, fun k9 o9 _ h9 _ => (hb3.block k9 (Array.getElem?_eq_some_iff.1 h9).1).trans h9⟩
        have Hb0u3 : Hid (Boxed u3 (w.heap.size) 24 (.pointer (some ⟨gt, 0, none⟩))) := (hb3.block _ (lt_of_block Hb0u2.out)).trans Hb0u2.out
        have Hb1u3 : Hid (Boxed u3 (w.heap.size + 1) 59 (.pointer (some ⟨gr, 0, none⟩))) := (hb3.block _ (lt_of_block Hb1u2.out)).trans Hb1u2.out
        have Hb2u3 : Hid (BxOn u3 (w.heap.size + 1 + 1) q k x) := (hb3.block _ (lt_of_block Hb2u2.out)).trans Hb2u2.out
        have Hb3u3 : Hid (Boxed u3 (w.heap.size + 1 + 1 + 1) 4 (.bool false)) := (hb3.block _ (lt_of_block Hb3u2.out)).trans Hb3u2.out
        have Hb4u3 : Hid (Boxed u3 (w.heap.size + 1 + 1 + 1 + 1) 28 (.slice (some ⟨g, 0, none⟩) N cap)) := (hb3.block _ (lt_of_block Hb4u2.out)).trans Hb4u2.out
        have Hb5u3 : Hid (Boxed u3 (w.heap.size + 1 + 1 + 1 + 1 + 1) 3 (.int .i64 ((i : Int) + 1))) := (hb3.block _ (lt_of_block Hb5u2.out)).trans Hb5u2.out
        have HU3 : Hid (u2.drew = u3) := hu3
        clear hu3 hb3
        refine wpIn_region_round (S := (fun y : World => y.cell? ⟨w.heap.size, 0, none⟩ = some (.pointer (some ⟨gt, 0, none⟩)) ∧ y.cell? ⟨w.heap.size + 1, 0, none⟩ = some (.pointer (some ⟨gr, 0, none⟩)) ∧ y.cell? ⟨w.heap.size + 1 + 1, 1, none⟩ = some (.int .i64 k) ∧ y.cell? ⟨w.heap.size + 1 + 1, 2, none⟩ = some (.int .i64 x))) (by kernel_rfl) (by kernel_rfl) (fun h => by obtain ⟨_, _, h⟩ := h; exact h) (by rw [HU3.out]; exact ⟨Hb0u3.out.cell, Hb1u3.out.cell, (BxOn.cells Hb2u3.out).2.1, (BxOn.cells Hb2u3.out).2.2⟩) (fun hHeld => ?_)
        rw [HU3.out] at hHeld ⊢
        refine wpAnyH_take (i := 0) (oi := { dst := some 50, op := Op.load 24 (Operand.tmp 3), type := 24, pos := "law.go:80", after := #[], guard := none }) (v := ?v0r11) rfl (by kernel_rfl) (by kernel_rfl) (by kernel_rfl) (fun _ _ _ h => h) (Or.inl ⟨by rfl, ?y0r11⟩) (by assumption) ?r0r11
        case y0r11 => (intro x hx; (try dsimp only at hx); go_simp; try with_reducible rfl)
        try simp only [Act.put, List.setIfInBounds_toArray, List.set_cons_zero, List.set_cons_succ]
        refine wpAnyH_take (i := 1) (oi := { dst := some 51, op := Op.fieldAddr 64 (Operand.tmp 5) 1, type := 0, pos := "law.go:80", after := #[], guard := none }) (v := ?v1r11) rfl (by kernel_rfl) (by kernel_rfl) (by kernel_rfl) (fun _ _ _ h => h) (Or.inl ⟨by rfl, ?y1r11⟩) (by assumption) ?r1r11
        case y1r11 => (intro x hx; (try dsimp only at hx); go_simp; try with_reducible rfl)
        try simp only [Act.put, List.setIfInBounds_toArray, List.set_cons_zero, List.set_cons_succ]
        refine wpAnyH_take (i := 2) (oi := { dst := some 52, op := Op.load 3 (Operand.tmp 51), type := 3, pos := "law.go:80", after := #[{ on := 1, ground := Ground.data }], guard := none }) (v := ?v2r11) rfl (by kernel_rfl) (by kernel_rfl) (by kernel_rfl) (fun _ _ _ h => h) (Or.inl ⟨by rfl, ?y2r11⟩) (by assumption) ?r2r11
        case y2r11 => (intro x hx; (try dsimp only at hx); go_simp; try with_reducible rfl)
        try simp only [Act.put, List.setIfInBounds_toArray, List.set_cons_zero, List.set_cons_succ]
        refine wpAnyH_take (i := 3) (oi := { dst := some 53, op := Op.fieldAddr 64 (Operand.tmp 5) 2, type := 0, pos := "law.go:80", after := #[], guard := none }) (v := ?v3r11) rfl (by kernel_rfl) (by kernel_rfl) (by kernel_rfl) (fun _ _ _ h => h) (Or.inl ⟨by rfl, ?y3r11⟩) (by assumption) ?r3r11
        case y3r11 => (intro x hx; (try dsimp only at hx); go_simp; try with_reducible rfl)
        try simp only [Act.put, List.setIfInBounds_toArray, List.set_cons_zero, List.set_cons_succ]
        refine wpAnyH_take (i := 4) (oi := { dst := some 54, op := Op.load 3 (Operand.tmp 53), type := 3, pos := "law.go:80", after := #[{ on := 3, ground := Ground.data }], guard := none }) (v := ?v4r11) rfl (by kernel_rfl) (by kernel_rfl) (by kernel_rfl) (fun _ _ _ h => h) (Or.inl ⟨by rfl, ?y4r11⟩) (by assumption) ?r4r11
        case y4r11 => (intro x hx; (try dsimp only at hx); go_simp; try with_reducible rfl)
        try simp only [Act.put, List.setIfInBounds_toArray, List.set_cons_zero, List.set_cons_succ]
        refine wpAnyH_take (i := 7) (oi := { dst := some 57, op := Op.load 59 (Operand.tmp 4), type := 59, pos := "law.go:80", after := #[], guard := none }) (v := ?v7r11) rfl (by kernel_rfl) (by kernel_rfl) (by kernel_rfl) (fun _ _ _ h => h) (Or.inl ⟨by rfl, ?y7r11⟩) (by assumption) ?r7r11
        case y7r11 => (intro x hx; (try dsimp only at hx); go_simp; try with_reducible rfl)
        try simp only [Act.put, List.setIfInBounds_toArray, List.set_cons_zero, List.set_cons_succ]
        refine wpAnyH_take (i := 8) (oi := { dst := some 58, op := Op.fieldAddr 64 (Operand.tmp 5) 1, type := 0, pos := "law.go:80", after := #[], guard := none }) (v := ?v8r11) rfl (by kernel_rfl) (by kernel_rfl) (by kernel_rfl) (fun _ _ _ h => h) (Or.inl ⟨by rfl, ?y8r11⟩) (by assumption) ?r8r11
        case y8r11 => (intro x hx; (try dsimp only at hx); go_simp; try with_reducible rfl)
        try simp only [Act.put, List.setIfInBounds_toArray, List.set_cons_zero, List.set_cons_succ]
        refine wpAnyH_take (i := 9) (oi := { dst := some 59, op := Op.load 3 (Operand.tmp 58), type := 3, pos := "law.go:80", after := #[{ on := 8, ground := Ground.data }], guard := none }) (v := ?v9r11) rfl (by kernel_rfl) (by kernel_rfl) (by kernel_rfl) (fun _ _ _ h => h) (Or.inl ⟨by rfl, ?y9r11⟩) (by assumption) ?r9r11
        case y9r11 => (intro x hx; (try dsimp only at hx); go_simp; try with_reducible rfl)
        try simp only [Act.put, List.setIfInBounds_toArray, List.set_cons_zero, List.set_cons_succ]
        refine wpAnyH_take (i := 10) (oi := { dst := some 60, op := Op.fieldAddr 64 (Operand.tmp 5) 2, type := 0, pos := "law.go:80", after := #[], guard := none }) (v := ?v10r11) rfl (by kernel_rfl) (by kernel_rfl) (by kernel_rfl) (fun _ _ _ h => h) (Or.inl ⟨by rfl, ?y10r11⟩) (by assumption) ?r10r11
        case y10r11 => (intro x hx; (try dsimp only at hx); go_simp; try with_reducible rfl)
        try simp only [Act.put, List.setIfInBounds_toArray, List.set_cons_zero, List.set_cons_succ]
        refine wpAnyH_take (i := 11) (oi := { dst := some 61, op := Op.load 3 (Operand.tmp 60), type := 3, pos := "law.go:80", after := #[{ on := 10, ground := Ground.data }], guard := none }) (v := ?v11r11) rfl (by kernel_rfl) (by kernel_rfl) (by kernel_rfl) (fun _ _ _ h => h) (Or.inl ⟨by rfl, ?y11r11⟩) (by assumption) ?r11r11
        case y11r11 => (intro x hx; (try dsimp only at hx); go_simp; try with_reducible rfl)
        try simp only [Act.put, List.setIfInBounds_toArray, List.set_cons_zero, List.set_cons_succ]
        refine wpAnyH_ready (rs := [5]) (by kernel_rfl) (by simp) ?_
        refine AllReadyH.cons (o := { dst := some 55, op := Op.call { callee := Callee.value (Operand.func 16), args := #[Operand.tmp 50, Operand.tmp 52, Operand.tmp 54], argTypes := #[24, 3, 3] }, type := 32, pos := "law.go:80", after := #[{ on := 0, ground := Ground.data }, { on := 2, ground := Ground.data }, { on := 4, ground := Ground.data }], guard := none }) rfl (fun K hK => ?_) AllReadyH.nil
        go_simp
        go_at_call 16
        refine (put_m gt h2 k x (del M' (kk : Int)) _ HT3.out).mono ?_
        rintro e u4 ⟨h4, rfl, t4, g4⟩
        rw [HPM.out] at t4
        rw [HPE.out]
        have HT4 : Hid (TreeX (w.heap.size + 1 + 1 + 1 + 1 + 1) u4 gt h4 M4) := t4
        have HR4 : Hid (RefOn u4 gr v1 (allOf (del M' (kk : Int)))) := HR3.out.grown HT3.out g4
        have HS4 : Hid (Stay w.heap.size (gt, gr) W u4) := HS3.out.trans (stay_grown g4 HW3.out.2.2.2)
        have HK4 : Hid (∀ B, KeepsFrom B W u4) := fun B => (HK3.out B).trans (keeps_tree HT3.out g4)
        have HW4 : Hid (u4.os = w.os ∧ u4.tape = w.tape ∧ u4.output = w.output ∧ w.heap.size ≤ u4.heap.size) := ⟨g4.os.trans HW3.out.1, g4.tape.trans HW3.out.2.1, g4.output.trans HW3.out.2.2.1, Nat.le_trans HW3.out.2.2.2 g4.size⟩
        have Hb0u4 : Hid (Boxed u4 (w.heap.size) 24 (.pointer (some ⟨gt, 0, none⟩))) := TreeX.keep HT3.out g4 Hb0u3.out (by decide)
        have Hb1u4 : Hid (Boxed u4 (w.heap.size + 1) 59 (.pointer (some ⟨gr, 0, none⟩))) := TreeX.keep HT3.out g4 Hb1u3.out (by decide)
        have Hb2u4 : Hid (BxOn u4 (w.heap.size + 1 + 1) q k x) := TreeX.keep HT3.out g4 Hb2u3.out (by decide)
        have Hb3u4 : Hid (Boxed u4 (w.heap.size + 1 + 1 + 1) 4 (.bool false)) := TreeX.keep HT3.out g4 Hb3u3.out (by decide)
        have Hb4u4 : Hid (Boxed u4 (w.heap.size + 1 + 1 + 1 + 1) 28 (.slice (some ⟨g, 0, none⟩) N cap)) := TreeX.keep HT3.out g4 Hb4u3.out (by decide)
        have Hb5u4 : Hid (Boxed u4 (w.heap.size + 1 + 1 + 1 + 1 + 1) 3 (.int .i64 ((i : Int) + 1))) := TreeX.keep HT3.out g4 Hb5u3.out (by decide)
        have hSnew := (And.intro Hb0u4.out.cell (And.intro Hb1u4.out.cell (And.intro (BxOn.cells Hb2u4.out).2.1 (BxOn.cells Hb2u4.out).2.2)))
        clear t4 g4
        go_wp2_with fail
        refine hK.out _ _ hSnew (fun hHeld5 => ?_)
        clear hK K hSnew
        clear hHeld
        have hHeld := hHeld5
        clear hHeld5
        try simp only [Act.put, List.setIfInBounds_toArray, List.set_cons_zero, List.set_cons_succ]
        refine wpAnyH_ready (rs := [6]) (by kernel_rfl) (by simp) ?_
        refine AllReadyH.cons (o := { dst := some 56, op := Op.call { callee := Callee.value (Operand.func 20), args := #[Operand.tmp 55], argTypes := #[32] }, type := 3, pos := "law.go:80", after := #[{ on := 5, ground := Ground.data }, { on := 5, ground := Ground.chain }], guard := none }) rfl (fun K hK => ?_) AllReadyH.nil
        go_simp
        go_at_call 20
        refine (no_any _ _).mono ?_
        rintro e u9 ⟨rfl, hu9⟩
        rw [← hu9]
        clear hu9
        have hSnew := (And.intro Hb0u4.out.cell (And.intro Hb1u4.out.cell (And.intro (BxOn.cells Hb2u4.out).2.1 (BxOn.cells Hb2u4.out).2.2)))
        go_wp2_with fail
        refine hK.out _ _ hSnew (fun hHeld6 => ?_)
        clear hK K hSnew
        clear hHeld
        have hHeld := hHeld6
        clear hHeld6
        try simp only [Act.put, List.setIfInBounds_toArray, List.set_cons_zero, List.set_cons_succ]
        refine wpAnyH_ready (rs := [12]) (by kernel_rfl) (by simp) ?_
        refine AllReadyH.cons (o := { dst := some 62, op := Op.call { callee := Callee.value (Operand.func 45), args := #[Operand.tmp 57, Operand.tmp 59, Operand.tmp 61], argTypes := #[59, 3, 3] }, type := 3, pos := "law.go:80", after := #[{ on := 7, ground := Ground.data }, { on := 9, ground := Ground.data }, { on := 11, ground := Ground.data }, { on := 6, ground := Ground.chain }], guard := none }) rfl (fun K hK => ?_) AllReadyH.nil
        go_simp
        go_at_call 45
        refine (rput_m gr k x v1 (del M' (kk : Int)) _ HR4.out).mono ?_
        rintro e u5 ⟨rfl, v5, r5, ch5⟩
        rw [HPM.out] at r5
        rw [HPE.out]
        have HT5 : Hid (TreeX (w.heap.size + 1 + 1 + 1 + 1 + 1) u5 gt h4 M4) := HT4.out.chg HR4.out ch5
        have HR5 : Hid (RefOn u5 gr v5 (allOf M4)) := r5
        have HO5 : Hid (∀ r, v5.ownBlock = some r → w.heap.size ≤ r) := fun r hr => (ch5.own r hr).elim (HO1.out r) (fun q => Nat.le_trans HW4.out.2.2.2 q)
        have HS5 : Hid (Stay w.heap.size (gt, gr) W u5) := HS4.out.trans (stay_chg ch5 HW4.out.2.2.2 HO1.out)
        have HK5 : Hid (∀ B, KeepsFrom B W u5) := fun B => (HK4.out B).trans (keeps_chg HR4.out ch5)
        have HW5 : Hid (u5.os = w.os ∧ u5.tape = w.tape ∧ u5.output = w.output ∧ w.heap.size ≤ u5.heap.size) := ⟨ch5.os.trans HW4.out.1, ch5.tape.trans HW4.out.2.1, ch5.output.trans HW4.out.2.2.1, Nat.le_trans HW4.out.2.2.2 ch5.size⟩
        have Hb0u5 : Hid (Boxed u5 (w.heap.size) 24 (.pointer (some ⟨gt, 0, none⟩))) := RefOn.keep HR4.out ch5 Hb0u4.out (by decide) (by decide)
        have Hb1u5 : Hid (Boxed u5 (w.heap.size + 1) 59 (.pointer (some ⟨gr, 0, none⟩))) := RefOn.keep HR4.out ch5 Hb1u4.out (by decide) (by decide)
        have Hb2u5 : Hid (BxOn u5 (w.heap.size + 1 + 1) q k x) := RefOn.keep HR4.out ch5 Hb2u4.out (by decide) (by decide)
        have Hb3u5 : Hid (Boxed u5 (w.heap.size + 1 + 1 + 1) 4 (.bool false)) := RefOn.keep HR4.out ch5 Hb3u4.out (by decide) (by decide)
        have Hb4u5 : Hid (Boxed u5 (w.heap.size + 1 + 1 + 1 + 1) 28 (.slice (some ⟨g, 0, none⟩) N cap)) := RefOn.keep HR4.out ch5 Hb4u4.out (by decide) (by decide)
        have Hb5u5 : Hid (Boxed u5 (w.heap.size + 1 + 1 + 1 + 1 + 1) 3 (.int .i64 ((i : Int) + 1))) := RefOn.keep HR4.out ch5 Hb5u4.out (by decide) (by decide)
        have hSnew := (And.intro Hb0u5.out.cell (And.intro Hb1u5.out.cell (And.intro (BxOn.cells Hb2u5.out).2.1 (BxOn.cells Hb2u5.out).2.2)))
        clear r5 ch5
        go_wp2_with fail
        refine hK.out _ _ hSnew (fun hHeld12 => ?_)
        clear hK K hSnew
        clear hHeld
        have hHeld := hHeld12
        clear hHeld12
        try simp only [Act.put, List.setIfInBounds_toArray, List.set_cons_zero, List.set_cons_succ]
        refine wpAnyH_take (i := 13) (oi := { dst := some 63, op := Op.binOp BinOp.neq 3 (Operand.tmp 56) (Operand.tmp 62) 3, type := 4, pos := "law.go:80", after := #[{ on := 6, ground := Ground.data }, { on := 12, ground := Ground.data }], guard := none }) (v := ?v13r11) rfl (by kernel_rfl) (by kernel_rfl) (by kernel_rfl) (fun _ _ _ h => h) (Or.inl ⟨by rfl, ?y13r11⟩) (by assumption) ?r13r11
        case y13r11 => (intro x hx; (try dsimp only at hx); go_simp; try with_reducible rfl)
        try simp only [Act.put, List.setIfInBounds_toArray, List.set_cons_zero, List.set_cons_succ]
        refine wpAnyH_done (by kernel_rfl) ?_ _
        gi_wp2
        refine ⟨HK5.out _, HS5.out, ⟨⟨h4, M4, v5, ⟨HT5.out, HR5.out⟩, Or.inr HO5.out⟩, front_snoc HY.out HC.out.front, HC.out.stay.trans HS5.out, HW5.out.1, HW5.out.2.1, HW5.out.2.2.1, HW5.out.2.2.2, Hb0u5.out, Hb1u5.out, Hb2u5.out, Hb3u5.out, Hb4u5.out, ?_⟩⟩
        have h9 := Hb5u5.out
        rw [List.length_append, List.length_singleton, HI.out, Int.natCast_add]
        exact h9
      · have e3 : (y2 == p2) = false := by rw [beq_eq_false_iff_ne]; exact e2
        have HNF : Hid (¬ pre ++ [(p1, p2)] <+: A) := not_front HY.out (fun e => e2 (by injection e))
        have e4 : ((kk : Int) == p1) = true := by rw [beq_iff_eq]; exact e1
        clear e1 e2
        gi_wp2
        all_goals exact ⟨keeps_row (grownBy_setCell' W _ _) HC.out.b3, HNF.out⟩
    · have e3 : ((kk : Int) == p1) = false := by rw [beq_eq_false_iff_ne]; exact e1
      have HNF : Hid (¬ pre ++ [(p1, p2)] <+: A) := not_front HY.out (fun e => e1 (by injection e))
      gi_wp2
      all_goals exact ⟨keeps_row (grownBy_setCell' W _ _) HC.out.b3, HNF.out⟩
  case done =>
    rintro D ys W hDl rfl hC hK
    obtain ⟨h', M', v', hdu, hvm⟩ := hC.duo
    have hlen : ys.length = N := HN.out
    have c7 := hC.b4.cell
    have c8 := hC.b5.cell
    have c6 := hC.b3.cell
    have f6 := hC.b3.frozen
    rw [hlen] at c8
    have hgs : W.grownBy (W.setCell ⟨w.heap.size + 1 + 1 + 1, 0, none⟩ (.bool true)) (some (w.heap.size + 1 + 1 + 1)) := grownBy_setCell' W _ _
    have hKv : (W.setCell ⟨w.heap.size + 1 + 1 + 1, 0, none⟩ (.bool true)).heap[D]? = some (.deferred (some [])) := (hgs.block D (Array.getElem?_eq_some_iff.1 hK).1 (fun e => by
      injection e with e
      have h9 := hC.b3
      unfold Boxed at h9
      rw [← e, hK] at h9
      cases h9)).trans hK
    have hD8 : w.heap.size ≤ D := by simp at hDl; omega
    have HDU : Hid (DuoX (w.heap.size + 1 + 1 + 1 + 1 + 1) (W.setCell ⟨w.heap.size + 1 + 1 + 1, 0, none⟩ (.bool true)) gt gr h' M' v') := hdu.other hC.b3 hgs
    have HVM : Hid (∀ r, v'.ownBlock = some r → (Value.slice a N cap).ownBlock = some r ∨ w.heap.size ≤ r) := fun r hr => by
      rcases hvm with ⟨_, h2, _⟩ | h2
      · rw [h2] at hr; exact Or.inl hr
      · exact Or.inr (h2 r hr)
    have HSY : Hid (Stay w.heap.size (gt, gr) w (W.setCell ⟨w.heap.size + 1 + 1 + 1, 0, none⟩ (.bool true))) := hC.stay.trans (stay_far hgs hC.size (by omega))
    have HWS : Hid (W.os = w.os ∧ W.tape = w.tape ∧ W.output = w.output ∧ w.heap.size ≤ W.heap.size) := ⟨hC.os, hC.tape, hC.output, hC.size⟩
    have HKV : Hid ((W.setCell ⟨w.heap.size + 1 + 1 + 1, 0, none⟩ (.bool true)).heap[D]? = some (.deferred (some []))) := hKv
    have HB3 : Hid (Boxed (W.setCell ⟨w.heap.size + 1 + 1 + 1, 0, none⟩ (.bool true)) (w.heap.size + 1 + 1 + 1) 4 (.bool true)) := hC.b3.set _
    have HGS : Hid _ := hgs
    clear HA HD HB7 hC0 bT hdu hvm hgs hKv hK hC
    go_wp2
    refine ⟨by simp, .inl ⟨_, _, rfl, run_takeDeferred HKV.out, ?_⟩⟩
    have hdn := lt_of_block HKV.out
    have hcl : ∀ o, ((W.setCell ⟨w.heap.size + 1 + 1 + 1, 0, none⟩ (.bool true)).putObj D o).cell? ⟨w.heap.size + 1 + 1 + 1, 0, none⟩ = some (.bool true) := fun o => by
      have h9 : Boxed ((W.setCell ⟨w.heap.size + 1 + 1 + 1, 0, none⟩ (.bool true)).putObj D o) (w.heap.size + 1 + 1 + 1) 4 (.bool true) := ((grownBy_putObj' _ D o).block _ (lt_of_block HB3.out) (fun e => by
        injection e with e
        have h8 := HB3.out
        unfold Boxed at h8
        have h7 := HKV.out
        rw [← e, h8] at h7
        cases h7)).trans HB3.out
      exact h9.cell
    have hst : ∀ o, CellsStay (W.setCell ⟨w.heap.size + 1 + 1 + 1, 0, none⟩ (.bool true)) ((W.setCell ⟨w.heap.size + 1 + 1 + 1, 0, none⟩ (.bool true)).putObj D o) := fun o => CellsStay.of (grownBy_putObj' _ D o) (fun r e => by cases e; exact ⟨_, HKV.out, rfl⟩)
    refine ⟨.bool true, by simp [results, Try.results49, go_sem, hcl], rfl, h', M', v', (HDU.out.cells (hst _)).plain, ⟨HWS.out.1, HWS.out.2.1, HWS.out.2.2.1, ?_, fun i h1 h2 h3 _ => ?_, HVM.out⟩⟩
    · have := HWS.out.2.2.2
      simpa using this
    · refine ((grownBy_putObj' _ D _).block i ?_ (fun e => by injection e with e; omega)).trans (HSY.out i h1 h2 h3)
      have := HWS.out.2.2.2
      simp
      omega
  case stop =>
    rintro D c pre W _ hp hx _
    exact absurd hp hx

end Go.Proofs.Ytjginocbbnmgaaa
