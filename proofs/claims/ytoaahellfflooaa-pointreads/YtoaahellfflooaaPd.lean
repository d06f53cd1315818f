/-
  SEAT Ytoaahellfflooaa: an object is read.
-/
import Derived.Test.YtoaahellfflooaaPc
namespace Go.Proofs.Ytoaahellfflooaa
open Go.RowKit
set_option linter.unusedVariables false

/-- A header. -/
structure Nd where
  k : Int
  p : Int
  N : ByteArray
  z : Int
  m : Int
  st : Int
  h : Int
  T : ByteArray
abbrev Nd.cells (x : Nd) : List Value := [.int .i64 x.k, .int .i64 x.p, .string x.N, .int .i64 x.z, .int .i64 x.m, .int .u64 x.st, .int .i64 x.h, .string x.T]
abbrev Nd.zero : Nd := ⟨0, 0, ⟨#[]⟩, 0, 0, 0, 0, ⟨#[]⟩⟩
def Nd.err (x : Nd) : Int := nodeE x.k x.p x.N x.z x.m x.st x.h x.T
def nodeF (zs : List Int) : Nd := ⟨zs.getD 0 0, getL zs 1 4, strOfNums ((zs.drop 24).take (kN zs)), getL zs 5 4, getL zs 9 2, getL zs 11 8, getL zs 19 4, strOfNums (zs.drop (25 + kN zs))⟩
theorem fits_dec (zs : List Int) (n : Nat) : fitsN zs n ∨ ¬ fitsN zs n := Classical.em _
instance (zs : List Int) (n : Nat) : Decidable (fitsN zs n) := by unfold fitsN; exact inferInstance
/-- What bytes are as a header, and the error. -/
def nodeR (zs : List Int) : Nd × Int := if fitsN zs zs.length then (if (nodeF zs).err = 0 then (nodeF zs, 0) else (Nd.zero, (nodeF zs).err)) else (Nd.zero, 80)
theorem node_nr (zs : List Int) (hz : Byt zs) (h4 : zs.length ≤ 140737488351300) : Nr zs zs.length (nodeR zs).1.k (nodeR zs).1.p (nodeR zs).1.N (nodeR zs).1.z (nodeR zs).1.m (nodeR zs).1.st (nodeR zs).1.h (nodeR zs).1.T (nodeR zs).2 := by
  unfold nodeR
  by_cases hf : fitsN zs zs.length
  · rw [if_pos hf]
    have f : Flp zs zs.length (nodeF zs).k (nodeF zs).p (nodeF zs).N (nodeF zs).z (nodeF zs).m (nodeF zs).st (nodeF zs).h (nodeF zs).T := ⟨hf, rfl, rfl, rfl, rfl, rfl, rfl, rfl, rfl⟩
    by_cases hE : (nodeF zs).err = 0
    · rw [if_pos hE]; exact nr_ok zs _ _ _ _ _ _ _ _ _ f hz rfl h4 hE
    · rw [if_neg hE]; exact nr_bad zs _ _ _ _ _ _ _ _ _ _ f hz rfl h4 rfl hE
  · rw [if_neg hf]; exact nr_short zs _ hz h4 hf
theorem nodeR_ok {zs : List Int} (h : (nodeR zs).2 = 0) : (nodeR zs).1.err = 0 := by
  unfold nodeR at h ⊢
  split at h
  · split at h
    · rename_i h1 h2; rw [if_pos h1, if_pos h2]; exact h2
    · rename_i h1 h2; exact absurd h h2
  · cases h

/-- An object; its chunks lie elsewhere. -/
structure Ob where
  id : Int
  hd : Bool
  nd : Nd
  pl : Int × Int
  ch : List Chk
def Ob.cells (x : Ob) (v : Value) : List Value := [.int .i64 x.id, .bool x.hd, .int .i64 x.nd.k, .int .i64 x.nd.p, .string x.nd.N, .int .i64 x.nd.z, .int .i64 x.nd.m, .int .u64 x.nd.st, .int .i64 x.nd.h, .string x.nd.T, .int .i64 x.pl.1, .int .i64 x.pl.2, v]
def rowR (n : Nat) (bs : List Int) : Option (List Int × List Int) := if n ≤ bs.length then some (bs.take n, bs.drop n) else none
def headR (bs : List Int) : Option ((Nd × (Int × Int)) × List Int) := match numR 1 bs with
  | none => none
  | some (n, r1) => match rowR n.toNat r1 with
    | none => none
    | some (b, r2) => if (nodeR b).2 = 0 then (match placeR r2 with
      | none => none
      | some (p, r3) => some (((nodeR b).1, p), r3)) else none
def objR (bs : List Int) : Option (Ob × List Int) := match numR 4 bs with
  | none => none
  | some (id, r1) => match flagR r1 with
    | none => none
    | some (false, r2) => (match manyR chkR r2 with
      | none => none
      | some (ch, r3) => some (⟨id, false, Nd.zero, (0, 0), ch⟩, r3))
    | some (true, r2) => match headR r2 with
      | none => none
      | some ((nd, p), r3) => match manyR chkR r3 with
        | none => none
        | some (ch, r4) => some (⟨id, true, nd, p, ch⟩, r4)

theorem own_slice {w : World} {B e size n : Nat} {v : Value} {xs : List Value} (h : w.ownsRow B e size v n xs) : ∃ a c, v = .slice a n c := by
  rcases h.2 with ⟨h3, h4⟩ | ⟨g, cap, cur, hv, _⟩
  · subst h4; exact ⟨none, 0, h3⟩
  · exact ⟨_, _, hv⟩
theorem own_low {w : World} {B C e size n : Nat} {v : Value} {xs : List Value} (h : w.ownsRow B e size v n xs) (hC : C ≤ B) : w.ownsRow C e size v n xs := by
  obtain ⟨h1, h2⟩ := h
  refine ⟨h1, ?_⟩
  rcases h2 with h2 | ⟨g, cap, cur, hv, hg, hh, r⟩
  · exact Or.inl h2
  · exact Or.inr ⟨g, cap, cur, hv, Nat.le_trans hC hg, hh, r⟩
section
variable {w u u' : World} {B q : Nat} {ty : TypeId} {z c : Array Value} {A : Nat} {rest r2 : List Int}
theorem Bx.below (h : Bx w u B q ty z A c rest) (g : Below u.heap.size u u') : Bx w u' B q ty z A c rest := h.call (grown_of g _) (h.rd.below g)
theorem Bx.alloc (h : Bx w u B q ty z A c rest) (b : Obj) : Bx w (u.alloc b) B q ty z A c rest := h.below (below_alloc u b)
end
/-- The same with a row of chunks of its own. -/
structure Bc (w u : World) (B q : Nat) (z : Array Value) (A : Nat) (c : Array Value) (rest : List Int) (C : Nat) (v : Value) (n : Nat) (cs : List Value) : Prop where
  bx : Bx w u B q 55 z A c rest
  own : u.ownsRow C 71 4 v n cs
  lt : A < C
section
variable {w u u' : World} {B q : Nat} {z c : Array Value} {A : Nat} {rest r2 : List Int} {C : Nat} {v : Value} {n : Nat} {cs : List Value}
theorem own_set {u : World} {C e size n : Nat} {v : Value} {cs : List Value} (h : u.ownsRow C e size v n cs) (g j : Nat) (x : Value) (hg : g < C) : (u.setCell ⟨g, j, none⟩ x).ownsRow C e size v n cs := by
  refine h.kept (set_grown u g j x) ?_
  cases hv : v.ownBlock with
  | none => exact Or.inl rfl
  | some k => exact Or.inr (fun e => by have := (h.lt k hv).1; have := Option.some.inj e; omega)
theorem Bx.rows {u0 : World} (h : Bx w u0 B q 55 z A c rest) (g : u0.grownBy u (some q)) (r : RdAt u B q r2) (own : u.ownsRow u0.heap.size 71 4 v n cs) : Bc w u B q z A c r2 u0.heap.size v n cs := ⟨h.call g r, own, lt_of_block h.box⟩
theorem Bc.store (h : Bc w u B q z A c rest C v n cs) (j : Nat) (x : Value) : Bc w (u.setCell ⟨A, j, none⟩ x) B q z A (c.setIfInBounds j x) rest C v n cs :=
  ⟨h.bx.store j x, own_set h.own A j x h.lt, h.lt⟩
theorem Bc.put (h : Bc w u B q z A c rest C v n cs) (j : Nat) (x : Value) : Bc w (u.setCell ⟨w.heap.size, j, none⟩ x) B q (z.setIfInBounds j x) A c rest C v n cs :=
  ⟨h.bx.put j x, own_set h.own _ j x (Nat.lt_trans h.bx.lt.2.2 h.lt), h.lt⟩
end
theorem Bc.all {w u : World} {B q : Nat} {c : Array Value} {A : Nat} {rest : List Int} {C : Nat} {v : Value} {n : Nat} {cs : List Value} {z0 z1 z2 z3 z4 z5 z6 z7 z8 z9 z10 z11 z12 : Value} (v0 v1 v2 v3 v4 v5 v6 v7 v8 v9 v10 v11 v12 : Value) (h : Bc w u B q #[z0, z1, z2, z3, z4, z5, z6, z7, z8, z9, z10, z11, z12] A c rest C v n cs) : Bc w (((((((((((((u.setCell ⟨w.heap.size, 0, none⟩ v0).setCell ⟨w.heap.size, 1, none⟩ v1).setCell ⟨w.heap.size, 2, none⟩ v2).setCell ⟨w.heap.size, 3, none⟩ v3).setCell ⟨w.heap.size, 4, none⟩ v4).setCell ⟨w.heap.size, 5, none⟩ v5).setCell ⟨w.heap.size, 6, none⟩ v6).setCell ⟨w.heap.size, 7, none⟩ v7).setCell ⟨w.heap.size, 8, none⟩ v8).setCell ⟨w.heap.size, 9, none⟩ v9).setCell ⟨w.heap.size, 10, none⟩ v10).setCell ⟨w.heap.size, 11, none⟩ v11).setCell ⟨w.heap.size, 12, none⟩ v12) B q #[v0, v1, v2, v3, v4, v5, v6, v7, v8, v9, v10, v11, v12] A c rest C v n cs := by
  have g0 : Bc w _ B q #[v0, z1, z2, z3, z4, z5, z6, z7, z8, z9, z10, z11, z12] A c rest C v n cs := h.put 0 v0
  have g1 : Bc w _ B q #[v0, v1, z2, z3, z4, z5, z6, z7, z8, z9, z10, z11, z12] A c rest C v n cs := g0.put 1 v1
  have g2 : Bc w _ B q #[v0, v1, v2, z3, z4, z5, z6, z7, z8, z9, z10, z11, z12] A c rest C v n cs := g1.put 2 v2
  have g3 : Bc w _ B q #[v0, v1, v2, v3, z4, z5, z6, z7, z8, z9, z10, z11, z12] A c rest C v n cs := g2.put 3 v3
  have g4 : Bc w _ B q #[v0, v1, v2, v3, v4, z5, z6, z7, z8, z9, z10, z11, z12] A c rest C v n cs := g3.put 4 v4
  have g5 : Bc w _ B q #[v0, v1, v2, v3, v4, v5, z6, z7, z8, z9, z10, z11, z12] A c rest C v n cs := g4.put 5 v5
  have g6 : Bc w _ B q #[v0, v1, v2, v3, v4, v5, v6, z7, z8, z9, z10, z11, z12] A c rest C v n cs := g5.put 6 v6
  have g7 : Bc w _ B q #[v0, v1, v2, v3, v4, v5, v6, v7, z8, z9, z10, z11, z12] A c rest C v n cs := g6.put 7 v7
  have g8 : Bc w _ B q #[v0, v1, v2, v3, v4, v5, v6, v7, v8, z9, z10, z11, z12] A c rest C v n cs := g7.put 8 v8
  have g9 : Bc w _ B q #[v0, v1, v2, v3, v4, v5, v6, v7, v8, v9, z10, z11, z12] A c rest C v n cs := g8.put 9 v9
  have g10 : Bc w _ B q #[v0, v1, v2, v3, v4, v5, v6, v7, v8, v9, v10, z11, z12] A c rest C v n cs := g9.put 10 v10
  have g11 : Bc w _ B q #[v0, v1, v2, v3, v4, v5, v6, v7, v8, v9, v10, v11, z12] A c rest C v n cs := g10.put 11 v11
  have g12 : Bc w _ B q #[v0, v1, v2, v3, v4, v5, v6, v7, v8, v9, v10, v11, v12] A c rest C v n cs := g11.put 12 v12
  exact g12
theorem Bx.head {w u : World} {B q : Nat} {z : Array Value} {A : Nat} {rest : List Int} {z0 z1 z2 z3 z4 z5 z6 z7 z8 z9 z10 z11 z12 : Value} (v2 v3 v4 v5 v6 v7 v8 v9 : Value) (h : Bx w u B q 55 z A #[z0, z1, z2, z3, z4, z5, z6, z7, z8, z9, z10, z11, z12] rest) : Bx w ((((((((u.setCell ⟨A, 2, none⟩ v2).setCell ⟨A, 3, none⟩ v3).setCell ⟨A, 4, none⟩ v4).setCell ⟨A, 5, none⟩ v5).setCell ⟨A, 6, none⟩ v6).setCell ⟨A, 7, none⟩ v7).setCell ⟨A, 8, none⟩ v8).setCell ⟨A, 9, none⟩ v9) B q 55 z A #[z0, z1, v2, v3, v4, v5, v6, v7, v8, v9, z10, z11, z12] rest := by
  have g0 : Bx w _ B q 55 z A #[z0, z1, v2, z3, z4, z5, z6, z7, z8, z9, z10, z11, z12] rest := h.store 2 v2
  have g1 : Bx w _ B q 55 z A #[z0, z1, v2, v3, z4, z5, z6, z7, z8, z9, z10, z11, z12] rest := g0.store 3 v3
  have g2 : Bx w _ B q 55 z A #[z0, z1, v2, v3, v4, z5, z6, z7, z8, z9, z10, z11, z12] rest := g1.store 4 v4
  have g3 : Bx w _ B q 55 z A #[z0, z1, v2, v3, v4, v5, z6, z7, z8, z9, z10, z11, z12] rest := g2.store 5 v5
  have g4 : Bx w _ B q 55 z A #[z0, z1, v2, v3, v4, v5, v6, z7, z8, z9, z10, z11, z12] rest := g3.store 6 v6
  have g5 : Bx w _ B q 55 z A #[z0, z1, v2, v3, v4, v5, v6, v7, z8, z9, z10, z11, z12] rest := g4.store 7 v7
  have g6 : Bx w _ B q 55 z A #[z0, z1, v2, v3, v4, v5, v6, v7, v8, z9, z10, z11, z12] rest := g5.store 8 v8
  have g7 : Bx w _ B q 55 z A #[z0, z1, v2, v3, v4, v5, v6, v7, v8, v9, z10, z11, z12] rest := g6.store 9 v9
  exact g7
theorem res39 {W : World} {P : Nat} {tmps : Array Value} {c0 c1 c2 c3 c4 c5 c6 c7 c8 c9 c10 c11 c12 : Value} (h : W.heap[P]? = some (.cells #[c0, c1, c2, c3, c4, c5, c6, c7, c8, c9, c10, c11, c12] 55 (0, 0))) (h2 : tmps[2]? = some (.pointer (some ⟨P, 0, none⟩))) : (results Try.f39 tmps).run Try.prog W = .ok (.agg #[c0, c1, c2, c3, c4, c5, c6, c7, c8, c9, c10, c11, c12]) W := by
  have q0 := blk_cell h 0 rfl
  have q1 := blk_cell h 1 rfl
  have q2 := blk_cell h 2 rfl
  have q3 := blk_cell h 3 rfl
  have q4 := blk_cell h 4 rfl
  have q5 := blk_cell h 5 rfl
  have q6 := blk_cell h 6 rfl
  have q7 := blk_cell h 7 rfl
  have q8 := blk_cell h 8 rfl
  have q9 := blk_cell h 9 rfl
  have q10 := blk_cell h 10 rfl
  have q11 := blk_cell h 11 rfl
  have q12 := blk_cell h 12 rfl
  simp [results, Try.results39, go_sem, q0, q1, q2, q3, q4, q5, q6, q7, q8, q9, q10, q11, q12, h2]

/-- An object that is read, in memory. -/
def ObV (w : World) (x : Ob) (val : Value) (u : World) : Prop := ∃ v, val = .agg (x.cells v).toArray ∧ u.ownsRow w.heap.size 71 4 v x.ch.length (flatChk x.ch) ∧ x.ch.length ≤ 4294967296

set_option maxHeartbeats 4000000 in
set_option maxRecDepth 100000 in
theorem obj_e1 (B q : Nat) (rest : List Int) (w : World) (hR : RdAt w B q rest) (hl : rest.length ≤ 140737488355000) (h1 : numR 4 rest = none) :
    Calls Try.prog 39 #[.pointer (some ⟨q, 0, none⟩)] w (Left w B q (objR rest) (ObV w)) := by
  have HS0 := hide (B1.one (ty := 55) (z := #[.int .i64 0, .bool false, .int .i64 0, .int .i64 0, .string ⟨#[]⟩, .int .i64 0, .int .i64 0, .int .u64 0, .int .i64 0, .string ⟨#[]⟩, .int .i64 0, .int .i64 0, .slice none 0 0]) hR)
  have HL0 := hide hl
  clear hR hl
  go_enter Try.func39, Try.ntmps39
  go_wp2_with (first
    | (have h9 := HS0; clear h9; go_at_call 35; refine (whole_any B q 4 rest _ HS0.out.rd HL0.out (by omega) (by omega)).mono ?_; intro e u1 lf
       rw [h1] at lf; obtain ⟨rfl, g⟩ := lf
       exact ⟨rfl, left_err (by unfold objR; simp only [h1]) (grown_trans HS0.out.gr g)⟩))

set_option maxHeartbeats 4000000 in
set_option maxRecDepth 100000 in
theorem obj_e2 (B q : Nat) (rest : List Int) (w : World) (hR : RdAt w B q rest) (hl : rest.length ≤ 140737488355000) (id : Int) (r1 : List Int) (h1 : Hid (numR 4 rest = some (id, r1))) (hl1 : Hid (r1.length ≤ 140737488355000)) (h2 : flagR r1 = none) :
    Calls Try.prog 39 #[.pointer (some ⟨q, 0, none⟩)] w (Left w B q (objR rest) (ObV w)) := by
  have HS0 := hide (B1.one (ty := 55) (z := #[.int .i64 0, .bool false, .int .i64 0, .int .i64 0, .string ⟨#[]⟩, .int .i64 0, .int .i64 0, .int .u64 0, .int .i64 0, .string ⟨#[]⟩, .int .i64 0, .int .i64 0, .slice none 0 0]) hR)
  have HL0 := hide hl
  clear hR hl
  go_enter Try.func39, Try.ntmps39
  go_wp2_with (first
    | (have h9 := HS0; clear h9; go_at_call 35; refine (whole_any B q 4 rest _ HS0.out.rd HL0.out (by omega) (by omega)).mono ?_; intro e u1 lf
       rw [h1.out] at lf; obtain ⟨val, rfl, rfl, rd, g⟩ := lf
       have hb := HS0.out.call g rd
       have HS1 := hide (hb.made #[.int .i64 id, .bool false, .int .i64 0, .int .i64 0, .string ⟨#[]⟩, .int .i64 0, .int .i64 0, .int .u64 0, .int .i64 0, .string ⟨#[]⟩, .int .i64 0, .int .i64 0, .slice none 0 0])
       clear HS0 rd g hb)
    | (have h9 := HS1; clear h9; go_at_call 53; refine (flag_any B q r1 _ HS1.out.rd hl1.out).mono ?_; intro e u2 lf
       rw [h2] at lf; obtain ⟨rfl, g⟩ := lf
       exact ⟨rfl, left_err (by unfold objR; simp only [h1.out, h2]) (grown_trans HS1.out.gr g)⟩))

set_option maxHeartbeats 4000000 in
set_option maxRecDepth 100000 in
theorem obj_f (B q : Nat) (rest : List Int) (w : World) (hR : RdAt w B q rest) (hl : rest.length ≤ 140737488355000) (id : Int) (r1 r2 : List Int) (h1 : Hid (numR 4 rest = some (id, r1))) (hl1 : Hid (r1.length ≤ 140737488355000)) (h2 : Hid (flagR r1 = some (false, r2))) (hl2 : Hid (r2.length ≤ 140737488355000)) :
    Calls Try.prog 39 #[.pointer (some ⟨q, 0, none⟩)] w (Left w B q (objR rest) (ObV w)) := by
  have HS0 := hide (B1.one (ty := 55) (z := #[.int .i64 0, .bool false, .int .i64 0, .int .i64 0, .string ⟨#[]⟩, .int .i64 0, .int .i64 0, .int .u64 0, .int .i64 0, .string ⟨#[]⟩, .int .i64 0, .int .i64 0, .slice none 0 0]) hR)
  have HL0 := hide hl
  clear hR hl
  go_enter Try.func39, Try.ntmps39
  go_wp2_with (first
    | (have h9 := HS0; clear h9; go_at_call 35; refine (whole_any B q 4 rest _ HS0.out.rd HL0.out (by omega) (by omega)).mono ?_; intro e u1 lf
       rw [h1.out] at lf; obtain ⟨val, rfl, rfl, rd, g⟩ := lf
       have hb := HS0.out.call g rd
       have HS1 := hide (hb.made #[.int .i64 id, .bool false, .int .i64 0, .int .i64 0, .string ⟨#[]⟩, .int .i64 0, .int .i64 0, .int .u64 0, .int .i64 0, .string ⟨#[]⟩, .int .i64 0, .int .i64 0, .slice none 0 0])
       clear HS0 rd g hb)
    | (have h9 := HS1; clear h9; go_at_call 53; refine (flag_any B q r1 _ HS1.out.rd hl1.out).mono ?_; intro e u2 lf
       rw [h2.out] at lf; obtain ⟨val, rfl, rfl, rd, g⟩ := lf
       have hb := HS1.out.call g rd
       have c2_1 : (u2).cell? ⟨u1.heap.size, 1, none⟩ = some (.bool false) := blk_cell hb.box 1 rfl
       have f2_1 : (u2).frozen? ⟨u1.heap.size, 1, none⟩ = false := blk_free hb.box 1
       have HS2 : Hid (Bx w (u2.setCell ⟨u1.heap.size, 1, none⟩ (.bool false)) B q 55 #[.int .i64 0, .bool false, .int .i64 0, .int .i64 0, .string ⟨#[]⟩, .int .i64 0, .int .i64 0, .int .u64 0, .int .i64 0, .string ⟨#[]⟩, .int .i64 0, .int .i64 0, .slice none 0 0] u1.heap.size #[.int .i64 id, .bool false, .int .i64 0, .int .i64 0, .string ⟨#[]⟩, .int .i64 0, .int .i64 0, .int .u64 0, .int .i64 0, .string ⟨#[]⟩, .int .i64 0, .int .i64 0, .slice none 0 0] r2) := hb.store 1 (.bool false)
       clear HS1 rd g hb)
    | (have h9 := HS2; clear h9; go_at_call 56; refine (manyChk_any B q r2 _ HS2.out.rd hl2.out).mono ?_; intro e u9 lf
       rcases h9 : manyR chkR r2 with _ | ⟨ch, r9⟩
       · rw [h9] at lf; obtain ⟨rfl, g⟩ := lf
         exact ⟨rfl, left_err (by unfold objR; simp only [h1.out, h2.out, h9]) (grown_trans HS2.out.gr g)⟩
       rw [h9] at lf; obtain ⟨val, rfl, ⟨own, hle⟩, rd, g⟩ := lf
       obtain ⟨va, vc, rfl⟩ := own_slice own
       have H9 := hide h9
       have HLE := hide hle
       have hb := HS2.out.call g rd
       have c9_0 : (u9).cell? ⟨u1.heap.size, 0, none⟩ = some (.int .i64 id) := blk_cell hb.box 0 rfl
       have c9_1 : (u9).cell? ⟨u1.heap.size, 1, none⟩ = some (.bool false) := blk_cell hb.box 1 rfl
       have c9_2 : (u9).cell? ⟨u1.heap.size, 2, none⟩ = some (.int .i64 0) := blk_cell hb.box 2 rfl
       have c9_3 : (u9).cell? ⟨u1.heap.size, 3, none⟩ = some (.int .i64 0) := blk_cell hb.box 3 rfl
       have c9_4 : (u9).cell? ⟨u1.heap.size, 4, none⟩ = some (.string ⟨#[]⟩) := blk_cell hb.box 4 rfl
       have c9_5 : (u9).cell? ⟨u1.heap.size, 5, none⟩ = some (.int .i64 0) := blk_cell hb.box 5 rfl
       have c9_6 : (u9).cell? ⟨u1.heap.size, 6, none⟩ = some (.int .i64 0) := blk_cell hb.box 6 rfl
       have c9_7 : (u9).cell? ⟨u1.heap.size, 7, none⟩ = some (.int .u64 0) := blk_cell hb.box 7 rfl
       have c9_8 : (u9).cell? ⟨u1.heap.size, 8, none⟩ = some (.int .i64 0) := blk_cell hb.box 8 rfl
       have c9_9 : (u9).cell? ⟨u1.heap.size, 9, none⟩ = some (.string ⟨#[]⟩) := blk_cell hb.box 9 rfl
       have c9_10 : (u9).cell? ⟨u1.heap.size, 10, none⟩ = some (.int .i64 0) := blk_cell hb.box 10 rfl
       have c9_11 : (u9).cell? ⟨u1.heap.size, 11, none⟩ = some (.int .i64 0) := blk_cell hb.box 11 rfl
       have c9_12 : (u9).cell? ⟨u1.heap.size, 12, none⟩ = some (.slice none 0 0) := blk_cell hb.box 12 rfl
       have f9_12 : (u9).frozen? ⟨u1.heap.size, 12, none⟩ = false := blk_free hb.box 12
       have rz0 : (u9).frozen? ⟨w.heap.size, 0, none⟩ = false := blk_free hb.res 0
       have sz0 : (u9).cell? ⟨w.heap.size, 0, none⟩ = some (.int .i64 0) := blk_cell hb.res 0 rfl
       have rz1 : (u9).frozen? ⟨w.heap.size, 1, none⟩ = false := blk_free hb.res 1
       have sz1 : (u9).cell? ⟨w.heap.size, 1, none⟩ = some (.bool false) := blk_cell hb.res 1 rfl
       have rz2 : (u9).frozen? ⟨w.heap.size, 2, none⟩ = false := blk_free hb.res 2
       have sz2 : (u9).cell? ⟨w.heap.size, 2, none⟩ = some (.int .i64 0) := blk_cell hb.res 2 rfl
       have rz3 : (u9).frozen? ⟨w.heap.size, 3, none⟩ = false := blk_free hb.res 3
       have sz3 : (u9).cell? ⟨w.heap.size, 3, none⟩ = some (.int .i64 0) := blk_cell hb.res 3 rfl
       have rz4 : (u9).frozen? ⟨w.heap.size, 4, none⟩ = false := blk_free hb.res 4
       have sz4 : (u9).cell? ⟨w.heap.size, 4, none⟩ = some (.string ⟨#[]⟩) := blk_cell hb.res 4 rfl
       have rz5 : (u9).frozen? ⟨w.heap.size, 5, none⟩ = false := blk_free hb.res 5
       have sz5 : (u9).cell? ⟨w.heap.size, 5, none⟩ = some (.int .i64 0) := blk_cell hb.res 5 rfl
       have rz6 : (u9).frozen? ⟨w.heap.size, 6, none⟩ = false := blk_free hb.res 6
       have sz6 : (u9).cell? ⟨w.heap.size, 6, none⟩ = some (.int .i64 0) := blk_cell hb.res 6 rfl
       have rz7 : (u9).frozen? ⟨w.heap.size, 7, none⟩ = false := blk_free hb.res 7
       have sz7 : (u9).cell? ⟨w.heap.size, 7, none⟩ = some (.int .u64 0) := blk_cell hb.res 7 rfl
       have rz8 : (u9).frozen? ⟨w.heap.size, 8, none⟩ = false := blk_free hb.res 8
       have sz8 : (u9).cell? ⟨w.heap.size, 8, none⟩ = some (.int .i64 0) := blk_cell hb.res 8 rfl
       have rz9 : (u9).frozen? ⟨w.heap.size, 9, none⟩ = false := blk_free hb.res 9
       have sz9 : (u9).cell? ⟨w.heap.size, 9, none⟩ = some (.string ⟨#[]⟩) := blk_cell hb.res 9 rfl
       have rz10 : (u9).frozen? ⟨w.heap.size, 10, none⟩ = false := blk_free hb.res 10
       have sz10 : (u9).cell? ⟨w.heap.size, 10, none⟩ = some (.int .i64 0) := blk_cell hb.res 10 rfl
       have rz11 : (u9).frozen? ⟨w.heap.size, 11, none⟩ = false := blk_free hb.res 11
       have sz11 : (u9).cell? ⟨w.heap.size, 11, none⟩ = some (.int .i64 0) := blk_cell hb.res 11 rfl
       have rz12 : (u9).frozen? ⟨w.heap.size, 12, none⟩ = false := blk_free hb.res 12
       have sz12 : (u9).cell? ⟨w.heap.size, 12, none⟩ = some (.slice none 0 0) := blk_cell hb.res 12 rfl
       have hb9 := HS2.out.rows g rd own
       have HS9 : Hid (Bc w _ B q #[.int .i64 0, .bool false, .int .i64 0, .int .i64 0, .string ⟨#[]⟩, .int .i64 0, .int .i64 0, .int .u64 0, .int .i64 0, .string ⟨#[]⟩, .int .i64 0, .int .i64 0, .slice none 0 0] u1.heap.size #[.int .i64 id, .bool false, .int .i64 0, .int .i64 0, .string ⟨#[]⟩, .int .i64 0, .int .i64 0, .int .u64 0, .int .i64 0, .string ⟨#[]⟩, .int .i64 0, .int .i64 0, .slice va ch.length vc] r9 _ (.slice va ch.length vc) ch.length (flatChk ch)) := hb9.store 12 (.slice va ch.length vc)
       have n1 : ¬ w.heap.size = u1.heap.size := by have := hb.lt; omega
       have n2 : ¬ u1.heap.size = w.heap.size := by have := hb.lt; omega
       have HG9 := hide (show w.heap.size ≤ _ from Nat.le_of_lt (lt_of_block HS2.out.res))
       clear HS2 rd g hb hb9 own hle h9))
  have hf := HS9.out
  have HF := hide (hf.all (.int .i64 id) (.bool false) (.int .i64 0) (.int .i64 0) (.string ⟨#[]⟩) (.int .i64 0) (.int .i64 0) (.int .u64 0) (.int .i64 0) (.string ⟨#[]⟩) (.int .i64 0) (.int .i64 0) (.slice va ch.length vc))
  clear hf
  refine bodyPost_ret (v := .agg #[.int .i64 id, .bool false, .int .i64 0, .int .i64 0, .string ⟨#[]⟩, .int .i64 0, .int .i64 0, .int .u64 0, .int .i64 0, .string ⟨#[]⟩, .int .i64 0, .int .i64 0, .slice va ch.length vc]) (res39 HF.out.bx.res rfl) rfl ?_
  exact left_ok (v := ⟨id, false, Nd.zero, (0, 0), ch⟩) (by unfold objR; simp only [h1.out, h2.out, H9.out]) ⟨_, rfl, own_low HF.out.own HG9.out, HLE.out⟩ HF.out.bx.rd HF.out.bx.gr

end Go.Proofs.Ytoaahellfflooaa
