/-
  SEAT Ytoaahellfflooaa: the reference's places and objects.
-/
import Derived.Test.YtoaahellfflooaaTa
namespace Go.Proofs.Ytoaahellfflooaa
open Go.RowKit
set_option linter.unusedVariables false

def placeQ (st : Option (List Int)) : (Int × Int) × Option (List Int) := (((numQ 2 4095 st).1, (numQ 2 255 (numQ 2 4095 st).2).1), (numQ 2 255 (numQ 2 4095 st).2).2)
def chkQ (st : Option (List Int)) : Chk × Option (List Int) := (⟨(numQ 4 1048575 st).1, (placeQ (numQ 4 1048575 st).2).1, (numQ 2 2048 (placeQ (numQ 4 1048575 st).2).2).1⟩, (numQ 2 2048 (placeQ (numQ 4 1048575 st).2).2).2)
def chsQ : Nat → List Chk → Option (List Int) → List Chk × Option (List Int)
  | 0, acc, st => (acc, st)
  | _ + 1, acc, none => (acc, none)
  | k + 1, acc, some bs => chsQ k (acc ++ [(chkQ (some bs)).1]) (chkQ (some bs)).2
def okQ (E : Int) : Option (List Int) → Option (List Int)
  | none => none
  | some r => if E = 0 then some r else none
def headQ (st : Option (List Int)) : (Nd × (Int × Int)) × Option (List Int) :=
  (((nodeR (takeQ (numQ 1 255 st).1.toNat (numQ 1 255 st).2).1).1, (placeQ (okQ (nodeR (takeQ (numQ 1 255 st).1.toNat (numQ 1 255 st).2).1).2 (takeQ (numQ 1 255 st).1.toNat (numQ 1 255 st).2).2)).1), (placeQ (okQ (nodeR (takeQ (numQ 1 255 st).1.toNat (numQ 1 255 st).2).1).2 (takeQ (numQ 1 255 st).1.toNat (numQ 1 255 st).2).2)).2)
def tailQ (id : Int) (hd : Bool) (x : (Nd × (Int × Int)) × Option (List Int)) : Ob × Option (List Int) :=
  (⟨id, hd, x.1.1, x.1.2, (chsQ (numQ 4 65536 x.2).1.toNat [] (numQ 4 65536 x.2).2).1⟩, (chsQ (numQ 4 65536 x.2).1.toNat [] (numQ 4 65536 x.2).2).2)
def objQ (st : Option (List Int)) : Ob × Option (List Int) :=
  if (numQ 1 1 (numQ 4 1048575 st).2).1 = 1 then tailQ (numQ 4 1048575 st).1 true (headQ (numQ 1 1 (numQ 4 1048575 st).2).2)
  else tailQ (numQ 4 1048575 st).1 false ((Nd.zero, (0, 0)), (numQ 1 1 (numQ 4 1048575 st).2).2)
theorem numQ_ge {n : Nat} {m : Int} {st : Option (List Int)} (hm : 0 ≤ m) (hb : ∀ r, st = some r → Byt r) : 0 ≤ (numQ n m st).1 ∧ (numQ n m st).1 ≤ m := by
  cases st with
  | none => exact ⟨Int.le_refl _, hm⟩
  | some r =>
    by_cases h : n ≤ r.length ∧ getL r 0 n ≤ m
    · rw [show numQ n m (some r) = (getL r 0 n, some (r.drop n)) from if_pos h]
      exact ⟨(getL_range (hb r rfl) 0 n).1, h.2⟩
    · rw [show numQ n m (some r) = (0, none) from if_neg h]
      exact ⟨Int.le_refl _, hm⟩
theorem RwAt.bytR {w : World} {B q : Nat} {zs : List Int} {st : Option (List Int)} (h : RwAt w B q zs st) : ∀ r, st = some r → Byt r := by
  intro r hr
  subst hr
  have hb := h.byt
  obtain ⟨_, _, _, _, _, _, _, _, _, _, _, _, h8⟩ := h
  rw [h8]; exact fun x hx => hb x (List.mem_of_mem_drop hx)

theorem res32 {W : World} {P : Nat} {tmps : Array Value} {c0 c1 : Value} (h : W.heap[P]? = some (.cells #[c0, c1] 52 (0, 0))) (h2 : tmps[2]? = some (.pointer (some ⟨P, 0, none⟩))) : (results Try.f32 tmps).run Try.prog W = .ok (.agg #[c0, c1]) W := by
  have q0 := blk_cell h 0 rfl
  have q1 := blk_cell h 1 rfl
  simp [results, Try.results32, go_sem, q0, q1, h2]
structure PlV (w : World) (B q : Nat) (zs : List Int) (v : Int × Int) (st : Option (List Int)) (e : Ending) (w' : World) : Prop where
  v : e = .returned (.agg #[.int .i64 v.1, .int .i64 v.2])
  rw : RwAt w' B q zs st
  gr : w.grownBy w' (some q)
set_option maxHeartbeats 4000000 in
set_option maxRecDepth 100000 in
theorem rplace_any (B q : Nat) (zs : List Int) (st : Option (List Int)) (w : World) (hR : RwAt w B q zs st) (hl : zs.length ≤ 140737488355000) :
    Calls Try.prog 32 #[.pointer (some ⟨q, 0, none⟩)] w (PlV w B q zs (placeQ st).1 (placeQ st).2) := by
  have hA := hR.below (below_alloc w (.cells #[.int .i64 0, .int .i64 0] 52))
  have HC1 := hide (rnum_any B q 2 4095 zs st _ hA (by omega) (by omega) hl (by omega) (by omega))
  have HQ := hide hR.lt
  have HP : Hid (placeQ st = (((numQ 2 4095 st).1, (numQ 2 255 (numQ 2 4095 st).2).1), (numQ 2 255 (numQ 2 4095 st).2).2)) := rfl
  obtain ⟨⟨a, s1⟩, hs1⟩ : ∃ x, numQ 2 4095 st = x := ⟨_, rfl⟩
  rw [hs1] at HC1 HP
  simp only at HC1 HP
  have HC2 := hide (fun u (h : RwAt u B q zs s1) => rnum_any B q 2 255 zs s1 u h (by omega) (by omega) hl (by omega) (by omega))
  obtain ⟨⟨b, s2⟩, hs2⟩ : ∃ x, numQ 2 255 s1 = x := ⟨_, rfl⟩
  rw [hs2] at HC2 HP
  simp only at HC2 HP
  have HRS := hide (heap_alloc_new w (.cells #[.int .i64 0, .int .i64 0] 52))
  have HGA := hide (grown_of (below_alloc w (.cells #[.int .i64 0, .int .i64 0] 52)) (some q))
  clear hA hs1 hs2 hR hl
  go_enter Try.func32, Try.ntmps32
  go_wp2_with (first
    | (have h9 := HC1; clear h9; go_at_call 14; refine HC1.out.mono ?_; rintro e u1 ⟨rfl, rw1, g1⟩; have HR1 := hide rw1; have HS1 := hide ((g1.block _ (lt_of_block HRS.out) (fun e => by have := Option.some.inj e; have := HQ.out; omega)).trans HRS.out); have HG1 := hide (grownBy_trans HGA.out g1); clear rw1 g1 HC1)
    | (have h9 := HR1; clear h9; go_at_call 14; refine (HC2.out _ HR1.out).mono ?_; rintro e u2 ⟨rfl, rw2, g2⟩; have HR2 := hide rw2; have hb := (g2.block _ (lt_of_block HS1.out) (fun e => by have := Option.some.inj e; have := HQ.out; omega)).trans HS1.out; have r0 := blk_free hb 0; have r1 := blk_free hb 1; have s0 := blk_cell hb 0 rfl; have s1 := blk_cell hb 1 rfl; have HS2 := hide hb; have HG2 := hide (grownBy_trans HG1.out g2); clear rw2 g2 hb))
  have k0 := blk3_set (j := 0) HS2.out (.int .i64 a)
  have k1 := blk3_set (j := 1) k0 (.int .i64 b)
  refine bodyPost_ret (v := .agg #[.int .i64 a, .int .i64 b]) (res32 k1 rfl) rfl ?_
  rw [HP.out]
  have hq := HQ.out
  have g1 := set_grown u2 w.heap.size 0 (.int .i64 a)
  have g2 := set_grown (u2.setCell ⟨w.heap.size, 0, none⟩ (.int .i64 a)) w.heap.size 1 (.int .i64 b)
  refine ⟨rfl, (HR2.out.other g1 (fun e => by have := Option.some.inj e; omega) (fun i hi => by cases hi; omega)).other g2 (fun e => by have := Option.some.inj e; omega) (fun i hi => by cases hi; omega), grown_over (grown_over HG2.out g1 (Nat.le_refl _)) g2 (Nat.le_refl _)⟩

/-- How it stands while an object is read. -/
structure Lp (w u : World) (B q A : Nat) (c : Array Value) (zs : List Int) (st : Option (List Int)) (C : Nat) (v : Value) (k : Nat) (cs : List Value) : Prop where
  rd : RwAt u B q zs st
  res : u.heap[w.heap.size]? = some (.cells #[.int .i64 0, .bool false, .int .i64 0, .int .i64 0, .string ⟨#[]⟩, .int .i64 0, .int .i64 0, .int .u64 0, .int .i64 0, .string ⟨#[]⟩, .int .i64 0, .int .i64 0, .slice none 0 0] 55 (0, 0))
  box : u.heap[A]? = some (.cells c 55 (0, 0))
  own : u.ownsRow C 71 4 v k cs
  gr : w.grownBy u (some q)
  lt : B ≤ q ∧ q < w.heap.size ∧ w.heap.size < A ∧ A < C ∧ C ≤ u.heap.size
section
variable {w u u' : World} {B q A : Nat} {c : Array Value} {zs : List Int} {st s2 : Option (List Int)} {C : Nat} {v v' : Value} {k k2 : Nat} {cs cs2 : List Value}
theorem Lp.call (h : Lp w u B q A c zs st C v k cs) (g : u.grownBy u' (some q)) (r : RwAt u' B q zs s2) : Lp w u' B q A c zs s2 C v k cs := by
  obtain ⟨h1, h2, h3, h4, h5⟩ := h.lt
  exact ⟨r, (g.block _ (lt_of_block h.res) (fun e => by have := Option.some.inj e; omega)).trans h.res, (g.block _ (lt_of_block h.box) (fun e => by have := Option.some.inj e; omega)).trans h.box, own_oth h.own g (oth_lt 71 (by omega : q < C)) (Nat.le_refl _), grownBy_trans h.gr g, h1, h2, h3, h4, Nat.le_trans h5 g.size⟩
theorem Lp.below (h : Lp w u B q A c zs st C v k cs) (g : Below u.heap.size u u') : Lp w u' B q A c zs st C v k cs := h.call (grown_of g _) (h.rd.below g)
theorem Lp.alloc (h : Lp w u B q A c zs st C v k cs) (b : Obj) : Lp w (u.alloc b) B q A c zs st C v k cs := h.below (below_alloc u b)
theorem Lp.store (h : Lp w u B q A c zs st C v k cs) (j : Nat) (x : Value) : Lp w (u.setCell ⟨A, j, none⟩ x) B q A (c.setIfInBounds j x) zs st C v k cs := by
  obtain ⟨h1, h2, h3, h4, h5⟩ := h.lt
  have g := set_grown u A j x
  exact ⟨h.rd.other g (fun e => by have := Option.some.inj e; omega) (fun i hi => by cases hi; omega), (g.block _ (lt_of_block h.res) (fun e => by have := Option.some.inj e; omega)).trans h.res, blk3_set h.box x, own_set h.own A j x h4, grown_over h.gr g (by omega), h1, h2, h3, h4, Nat.le_trans h5 g.size⟩
theorem Lp.side (h : Lp w u B q A c zs st C v k cs) (X j : Nat) (x : Value) (hX : C ≤ X) (hv : ∀ i, v.ownBlock = some i → i ≠ X) : Lp w (u.setCell ⟨X, j, none⟩ x) B q A c zs st C v k cs := by
  obtain ⟨h1, h2, h3, h4, h5⟩ := h.lt
  have g := set_grown u X j x
  refine ⟨h.rd.other g (fun e => by have := Option.some.inj e; omega) (fun i hi => by cases hi; omega), (g.block _ (lt_of_block h.res) (fun e => by have := Option.some.inj e; omega)).trans h.res, (g.block _ (lt_of_block h.box) (fun e => by have := Option.some.inj e; omega)).trans h.box, h.own.kept g ?_, grown_over h.gr g (by omega), h1, h2, h3, h4, Nat.le_trans h5 g.size⟩
  cases hb : v.ownBlock with
  | none => exact Or.inl rfl
  | some i => exact Or.inr (fun e => hv i hb (Option.some.inj e))
theorem Lp.push (h : Lp w u B q A c zs st C v k cs) (g : u.grownBy u' v.ownBlock) (ho : u'.ownsRow C 71 4 v' k2 cs2) : Lp w u' B q A c zs st C v' k2 cs2 := by
  obtain ⟨h1, h2, h3, h4, h5⟩ := h.lt
  have hge : ∀ i, v.ownBlock = some i → C ≤ i := fun i hi => (h.own.lt i hi).1
  refine ⟨h.rd.other g (fun e => by have := hge q e; omega) (fun i hi => by have := hge i hi; omega), (g.block _ (lt_of_block h.res) (fun e => by have := hge _ e.symm; omega)).trans h.res, (g.block _ (lt_of_block h.box) (fun e => by have := hge _ e.symm; omega)).trans h.box, ho, ?_, h1, h2, h3, h4, Nat.le_trans h5 g.size⟩
  exact ⟨g.os.trans h.gr.os, g.tape.trans h.gr.tape, g.output.trans h.gr.output, Nat.le_trans h.gr.size g.size, fun i hi hne => (g.block i (Nat.lt_of_lt_of_le hi h.gr.size) (fun e => by have := hge _ e.symm; omega)).trans (h.gr.block i hi hne)⟩
theorem Lp.fresh (h : Lp w u B q A c zs st C v k cs) : ∀ i, v.ownBlock = some i → i ≠ u.heap.size := fun i hi => by have := (h.own.lt i hi).2; omega
end
theorem chsQ_dead (k : Nat) (acc : List Chk) : chsQ k acc none = (acc, none) := by cases k <;> rfl
theorem res15 {W : World} {P : Nat} {tmps : Array Value} {c0 c1 c2 c3 c4 c5 c6 c7 c8 c9 c10 c11 c12 : Value} (h : W.heap[P]? = some (.cells #[c0, c1, c2, c3, c4, c5, c6, c7, c8, c9, c10, c11, c12] 55 (0, 0))) (h2 : tmps[2]? = some (.pointer (some ⟨P, 0, none⟩))) : (results Try.f15 tmps).run Try.prog W = .ok (.agg #[c0, c1, c2, c3, c4, c5, c6, c7, c8, c9, c10, c11, c12]) W := by
  have q0 := blk_cell h 0 rfl
  have q1 := blk_cell h 1 rfl
  have q2 := blk_cell h 2 rfl
  have q3 := blk_cell h 3 rfl
  have q4 := blk_cell h 4 rfl
  have q5 := blk_cell h 5 rfl
  have q6 := blk_cell h 6 rfl
  have q7 := blk_cell h 7 rfl
  have q8 := blk_cell h 8 rfl
  have q9 := blk_cell h 9 rfl
  have q10 := blk_cell h 10 rfl
  have q11 := blk_cell h 11 rfl
  have q12 := blk_cell h 12 rfl
  simp [results, Try.results15, go_sem, q0, q1, q2, q3, q4, q5, q6, q7, q8, q9, q10, q11, q12, h2]
theorem over13 {u : World} {l : Nat} {y0 y1 y2 y3 y4 y5 y6 y7 y8 y9 y10 y11 y12 : Value} (v0 v1 v2 v3 v4 v5 v6 v7 v8 v9 v10 v11 v12 : Value) (h : u.heap[l]? = some (.cells #[y0, y1, y2, y3, y4, y5, y6, y7, y8, y9, y10, y11, y12] 55 (0, 0))) : ((((((((((((((u.setCell ⟨l, 0, none⟩ (v0)).setCell ⟨l, 1, none⟩ (v1)).setCell ⟨l, 2, none⟩ (v2)).setCell ⟨l, 3, none⟩ (v3)).setCell ⟨l, 4, none⟩ (v4)).setCell ⟨l, 5, none⟩ (v5)).setCell ⟨l, 6, none⟩ (v6)).setCell ⟨l, 7, none⟩ (v7)).setCell ⟨l, 8, none⟩ (v8)).setCell ⟨l, 9, none⟩ (v9)).setCell ⟨l, 10, none⟩ (v10)).setCell ⟨l, 11, none⟩ (v11)).setCell ⟨l, 12, none⟩ (v12))).heap[l]? = some (.cells #[v0, v1, v2, v3, v4, v5, v6, v7, v8, v9, v10, v11, v12] 55 (0, 0)) ∧ u.grownBy ((((((((((((((u.setCell ⟨l, 0, none⟩ (v0)).setCell ⟨l, 1, none⟩ (v1)).setCell ⟨l, 2, none⟩ (v2)).setCell ⟨l, 3, none⟩ (v3)).setCell ⟨l, 4, none⟩ (v4)).setCell ⟨l, 5, none⟩ (v5)).setCell ⟨l, 6, none⟩ (v6)).setCell ⟨l, 7, none⟩ (v7)).setCell ⟨l, 8, none⟩ (v8)).setCell ⟨l, 9, none⟩ (v9)).setCell ⟨l, 10, none⟩ (v10)).setCell ⟨l, 11, none⟩ (v11)).setCell ⟨l, 12, none⟩ (v12))) (some l) := by
  have g0 : ((u.setCell ⟨l, 0, none⟩ (v0))).heap[l]? = some (.cells #[v0, y1, y2, y3, y4, y5, y6, y7, y8, y9, y10, y11, y12] 55 (0, 0)) := heap_setCell_same _ l 0 _ _ v0 h
  have g1 : (((u.setCell ⟨l, 0, none⟩ (v0)).setCell ⟨l, 1, none⟩ (v1))).heap[l]? = some (.cells #[v0, v1, y2, y3, y4, y5, y6, y7, y8, y9, y10, y11, y12] 55 (0, 0)) := heap_setCell_same _ l 1 _ _ v1 g0
  have g2 : ((((u.setCell ⟨l, 0, none⟩ (v0)).setCell ⟨l, 1, none⟩ (v1)).setCell ⟨l, 2, none⟩ (v2))).heap[l]? = some (.cells #[v0, v1, v2, y3, y4, y5, y6, y7, y8, y9, y10, y11, y12] 55 (0, 0)) := heap_setCell_same _ l 2 _ _ v2 g1
  have g3 : (((((u.setCell ⟨l, 0, none⟩ (v0)).setCell ⟨l, 1, none⟩ (v1)).setCell ⟨l, 2, none⟩ (v2)).setCell ⟨l, 3, none⟩ (v3))).heap[l]? = some (.cells #[v0, v1, v2, v3, y4, y5, y6, y7, y8, y9, y10, y11, y12] 55 (0, 0)) := heap_setCell_same _ l 3 _ _ v3 g2
  have g4 : ((((((u.setCell ⟨l, 0, none⟩ (v0)).setCell ⟨l, 1, none⟩ (v1)).setCell ⟨l, 2, none⟩ (v2)).setCell ⟨l, 3, none⟩ (v3)).setCell ⟨l, 4, none⟩ (v4))).heap[l]? = some (.cells #[v0, v1, v2, v3, v4, y5, y6, y7, y8, y9, y10, y11, y12] 55 (0, 0)) := heap_setCell_same _ l 4 _ _ v4 g3
  have g5 : (((((((u.setCell ⟨l, 0, none⟩ (v0)).setCell ⟨l, 1, none⟩ (v1)).setCell ⟨l, 2, none⟩ (v2)).setCell ⟨l, 3, none⟩ (v3)).setCell ⟨l, 4, none⟩ (v4)).setCell ⟨l, 5, none⟩ (v5))).heap[l]? = some (.cells #[v0, v1, v2, v3, v4, v5, y6, y7, y8, y9, y10, y11, y12] 55 (0, 0)) := heap_setCell_same _ l 5 _ _ v5 g4
  have g6 : ((((((((u.setCell ⟨l, 0, none⟩ (v0)).setCell ⟨l, 1, none⟩ (v1)).setCell ⟨l, 2, none⟩ (v2)).setCell ⟨l, 3, none⟩ (v3)).setCell ⟨l, 4, none⟩ (v4)).setCell ⟨l, 5, none⟩ (v5)).setCell ⟨l, 6, none⟩ (v6))).heap[l]? = some (.cells #[v0, v1, v2, v3, v4, v5, v6, y7, y8, y9, y10, y11, y12] 55 (0, 0)) := heap_setCell_same _ l 6 _ _ v6 g5
  have g7 : (((((((((u.setCell ⟨l, 0, none⟩ (v0)).setCell ⟨l, 1, none⟩ (v1)).setCell ⟨l, 2, none⟩ (v2)).setCell ⟨l, 3, none⟩ (v3)).setCell ⟨l, 4, none⟩ (v4)).setCell ⟨l, 5, none⟩ (v5)).setCell ⟨l, 6, none⟩ (v6)).setCell ⟨l, 7, none⟩ (v7))).heap[l]? = some (.cells #[v0, v1, v2, v3, v4, v5, v6, v7, y8, y9, y10, y11, y12] 55 (0, 0)) := heap_setCell_same _ l 7 _ _ v7 g6
  have g8 : ((((((((((u.setCell ⟨l, 0, none⟩ (v0)).setCell ⟨l, 1, none⟩ (v1)).setCell ⟨l, 2, none⟩ (v2)).setCell ⟨l, 3, none⟩ (v3)).setCell ⟨l, 4, none⟩ (v4)).setCell ⟨l, 5, none⟩ (v5)).setCell ⟨l, 6, none⟩ (v6)).setCell ⟨l, 7, none⟩ (v7)).setCell ⟨l, 8, none⟩ (v8))).heap[l]? = some (.cells #[v0, v1, v2, v3, v4, v5, v6, v7, v8, y9, y10, y11, y12] 55 (0, 0)) := heap_setCell_same _ l 8 _ _ v8 g7
  have g9 : (((((((((((u.setCell ⟨l, 0, none⟩ (v0)).setCell ⟨l, 1, none⟩ (v1)).setCell ⟨l, 2, none⟩ (v2)).setCell ⟨l, 3, none⟩ (v3)).setCell ⟨l, 4, none⟩ (v4)).setCell ⟨l, 5, none⟩ (v5)).setCell ⟨l, 6, none⟩ (v6)).setCell ⟨l, 7, none⟩ (v7)).setCell ⟨l, 8, none⟩ (v8)).setCell ⟨l, 9, none⟩ (v9))).heap[l]? = some (.cells #[v0, v1, v2, v3, v4, v5, v6, v7, v8, v9, y10, y11, y12] 55 (0, 0)) := heap_setCell_same _ l 9 _ _ v9 g8
  have g10 : ((((((((((((u.setCell ⟨l, 0, none⟩ (v0)).setCell ⟨l, 1, none⟩ (v1)).setCell ⟨l, 2, none⟩ (v2)).setCell ⟨l, 3, none⟩ (v3)).setCell ⟨l, 4, none⟩ (v4)).setCell ⟨l, 5, none⟩ (v5)).setCell ⟨l, 6, none⟩ (v6)).setCell ⟨l, 7, none⟩ (v7)).setCell ⟨l, 8, none⟩ (v8)).setCell ⟨l, 9, none⟩ (v9)).setCell ⟨l, 10, none⟩ (v10))).heap[l]? = some (.cells #[v0, v1, v2, v3, v4, v5, v6, v7, v8, v9, v10, y11, y12] 55 (0, 0)) := heap_setCell_same _ l 10 _ _ v10 g9
  have g11 : (((((((((((((u.setCell ⟨l, 0, none⟩ (v0)).setCell ⟨l, 1, none⟩ (v1)).setCell ⟨l, 2, none⟩ (v2)).setCell ⟨l, 3, none⟩ (v3)).setCell ⟨l, 4, none⟩ (v4)).setCell ⟨l, 5, none⟩ (v5)).setCell ⟨l, 6, none⟩ (v6)).setCell ⟨l, 7, none⟩ (v7)).setCell ⟨l, 8, none⟩ (v8)).setCell ⟨l, 9, none⟩ (v9)).setCell ⟨l, 10, none⟩ (v10)).setCell ⟨l, 11, none⟩ (v11))).heap[l]? = some (.cells #[v0, v1, v2, v3, v4, v5, v6, v7, v8, v9, v10, v11, y12] 55 (0, 0)) := heap_setCell_same _ l 11 _ _ v11 g10
  have g12 : ((((((((((((((u.setCell ⟨l, 0, none⟩ (v0)).setCell ⟨l, 1, none⟩ (v1)).setCell ⟨l, 2, none⟩ (v2)).setCell ⟨l, 3, none⟩ (v3)).setCell ⟨l, 4, none⟩ (v4)).setCell ⟨l, 5, none⟩ (v5)).setCell ⟨l, 6, none⟩ (v6)).setCell ⟨l, 7, none⟩ (v7)).setCell ⟨l, 8, none⟩ (v8)).setCell ⟨l, 9, none⟩ (v9)).setCell ⟨l, 10, none⟩ (v10)).setCell ⟨l, 11, none⟩ (v11)).setCell ⟨l, 12, none⟩ (v12))).heap[l]? = some (.cells #[v0, v1, v2, v3, v4, v5, v6, v7, v8, v9, v10, v11, v12] 55 (0, 0)) := heap_setCell_same _ l 12 _ _ v12 g11
  exact ⟨g12, (((((((((((((set_grown u l 0 v0).trans (set_grown _ l 1 v1)).trans (set_grown _ l 2 v2)).trans (set_grown _ l 3 v3)).trans (set_grown _ l 4 v4)).trans (set_grown _ l 5 v5)).trans (set_grown _ l 6 v6)).trans (set_grown _ l 7 v7)).trans (set_grown _ l 8 v8)).trans (set_grown _ l 9 v9)).trans (set_grown _ l 10 v10)).trans (set_grown _ l 11 v11)).trans (set_grown _ l 12 v12))⟩

structure ObQ (w : World) (B q : Nat) (zs : List Int) (r : Ob × Option (List Int)) (e : Ending) (w' : World) : Prop where
  v : ∃ va vc, e = .returned (.agg #[.int .i64 r.1.id, .bool r.1.hd, .int .i64 r.1.nd.k, .int .i64 r.1.nd.p, .string r.1.nd.N, .int .i64 r.1.nd.z, .int .i64 r.1.nd.m, .int .u64 r.1.nd.st, .int .i64 r.1.nd.h, .string r.1.nd.T, .int .i64 r.1.pl.1, .int .i64 r.1.pl.2, .slice va r.1.ch.length vc]) ∧ w'.ownsRow w.heap.size 71 4 (.slice va r.1.ch.length vc) r.1.ch.length (flatChk r.1.ch)
  rw : RwAt w' B q zs r.2
  gr : w.grownBy w' (some q)
  ch : r.1.ch.length ≤ 65536

theorem news4 (u : World) (e : TypeId) (x0 x1 x2 x3 : Value) : ∀ a, a = u.heap.size → ∀ j v, [x0, x1, x2, x3][j]? = some v → (u.alloc (.cells #[x0, x1, x2, x3] e)).cell? ((⟨a, 0, none⟩ : Addr).add j) = some v := by
  rintro a rfl j v hj
  exact lit4_news u e x0 x1 x2 x3 j v hj
end Go.Proofs.Ytoaahellfflooaa
