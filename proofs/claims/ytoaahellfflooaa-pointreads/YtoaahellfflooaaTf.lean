/-
  SEAT Ytoaahellfflooaa: the reference's Read.
-/
import Derived.Test.YtoaahellfflooaaTe
import Derived.Test.YtoaahellfflooaaKw
import Derived.Deep.Cut
import Derived.Deep.RegionHeld3
namespace Go.Proofs.Ytoaahellfflooaa
open Go.RowKit
set_option linter.unusedVariables false

theorem readQ_none {zs : List Int} {s : St} (hb : Byt zs) (h : stQ zs = (s, none)) : readR zs = none := by
  unfold readR
  rcases hp : stR zs with _ | ⟨s2, r⟩
  · rfl
  · cases r with
    | cons x r => rfl
    | nil =>
      simp only
      by_cases hm : mayS s2 = true
      · have h2 := stQ_of hp hb hm
        rw [h] at h2; cases h2
      · rw [if_neg hm]
theorem readQ_some {zs r : List Int} {s : St} (h : stQ zs = (s, some r)) : readR zs = if r = [] ∧ mayS s = true then some s else none := by
  have h1 := stQ_live h
  unfold readR
  rw [h1]
  cases r with
  | nil => simp
  | cons x r => simp

structure Rq (w u : World) (A : Nat) (c : Array Value) (zs : List Int) (st : Option (List Int)) : Prop where
  rd : RwAt u w.heap.size (w.heap.size + 1) zs st
  res : u.heap[w.heap.size]? = some (.cells #[.int .u64 0, .int .u64 0, .int .i64 0, .int .i64 0, .slice none 0 0, .slice none 0 0] 27 (0, 0))
  box : u.heap[A]? = some (.cells c 27 (0, 0))
  gr : Below w.heap.size w u
  lt : w.heap.size + 1 < A
section
variable {w u u' : World} {A : Nat} {c : Array Value} {zs : List Int} {st s2 : Option (List Int)}
theorem Rq.call (h : Rq w u A c zs st) (g : u.grownBy u' (some (w.heap.size + 1))) (r : RwAt u' w.heap.size (w.heap.size + 1) zs s2) : Rq w u' A c zs s2 := by
  have hl := h.lt
  exact ⟨r, (g.block _ (lt_of_block h.res) (fun e => by have := Option.some.inj e; omega)).trans h.res, (g.block _ (lt_of_block h.box) (fun e => by have := Option.some.inj e; omega)).trans h.box, h.gr.grown g h.gr.size (fun k hk => by cases hk; omega), hl⟩
theorem Rq.below (h : Rq w u A c zs st) (g : Below u.heap.size u u') : Rq w u' A c zs st := h.call (grown_of g _) (h.rd.below g)
theorem Rq.alloc (h : Rq w u A c zs st) (b : Obj) : Rq w (u.alloc b) A c zs st := h.below (below_alloc u b)
theorem Rq.store (h : Rq w u A c zs st) (j : Nat) (x : Value) : Rq w (u.setCell ⟨A, j, none⟩ x) A (c.setIfInBounds j x) zs st := by
  have hl := h.lt
  have g := set_grown u A j x
  exact ⟨h.rd.other g (fun e => by have := Option.some.inj e; omega) (fun i hi => by cases hi; omega), (g.block _ (lt_of_block h.res) (fun e => by have := Option.some.inj e; omega)).trans h.res, blk3_set h.box x, h.gr.grown g h.gr.size (fun k hk => by cases hk; omega), hl⟩
theorem Rq.far (h : Rq w u A c zs st) {r : Option Nat} (g : u.grownBy u' r) (hr : ∀ k, r = some k → A < k) : Rq w u' A c zs st := by
  have hl := h.lt
  exact ⟨h.rd.other g (fun e => by have := hr _ e; omega) (fun i hi => by have := hr _ hi; omega), (g.block _ (lt_of_block h.res) (fun e => by have := hr _ e.symm; omega)).trans h.res, (g.block _ (lt_of_block h.box) (fun e => by have := hr _ e.symm; omega)).trans h.box, h.gr.grown g h.gr.size (fun k hk => by have := hr _ hk; omega), hl⟩
theorem Rq.side (h : Rq w u A c zs st) (X j : Nat) (x : Value) (hX : A < X) : Rq w (u.setCell ⟨X, j, none⟩ x) A c zs st := h.far (set_grown u X j x) (fun k hk => by cases hk; exact hX)
end
theorem own_far {u : World} {C e size n : Nat} {v : Value} {cs : List Value} (h : u.ownsRow C e size v n cs) : ∀ k, v.ownBlock = some k → C ≤ k := fun k hk => (h.lt k hk).1
theorem own_side {u : World} {C e size n X : Nat} {v : Value} {cs : List Value} (h : u.ownsRow C e size v n cs) (j : Nat) (x : Value) (hX : ∀ i, v.ownBlock = some i → i ≠ X) : (u.setCell ⟨X, j, none⟩ x).ownsRow C e size v n cs := by
  refine h.kept (set_grown u X j x) ?_
  cases hb : v.ownBlock with
  | none => exact Or.inl rfl
  | some i => exact Or.inr (fun e => hX i hb (Option.some.inj e))
theorem own_bel {u u' : World} {C e size n : Nat} {v : Value} {cs : List Value} (h : u.ownsRow C e size v n cs) (g : Below u.heap.size u u') : u'.ownsRow C e size v n cs := own_oth h (grown_of g none) (oth_none u C e) (Nat.le_refl _)
theorem own_q {u u' : World} {C e size n q : Nat} {v : Value} {cs : List Value} (h : u.ownsRow C e size v n cs) (g : u.grownBy u' (some q)) (hq : q < C) : u'.ownsRow C e size v n cs := own_oth h g (oth_lt e hq) (Nat.le_refl _)
theorem res5 {W : World} {P : Nat} {tmps : Array Value} {c0 c1 c2 c3 c4 c5 : Value} {E : Int} (h : W.heap[P]? = some (.cells #[c0, c1, c2, c3, c4, c5] 27 (0, 0))) (h2 : tmps[2]? = some (.pointer (some ⟨P, 0, none⟩))) (h3 : tmps[3]? = some (.int .i64 E)) : (results Try.f5 tmps).run Try.prog W = .ok (.tuple #[.agg #[c0, c1, c2, c3, c4, c5], .int .i64 E]) W := by
  have q0 := blk_cell h 0 rfl
  have q1 := blk_cell h 1 rfl
  have q2 := blk_cell h 2 rfl
  have q3 := blk_cell h 3 rfl
  have q4 := blk_cell h 4 rfl
  have q5 := blk_cell h 5 rfl
  simp [results, Try.results5, go_sem, q0, q1, q2, q3, q4, q5, h2, h3]
theorem info55b : (Try.prog.info? 55).map (fun i => (i.zero, i.size, i.bytes)) = some (some (.agg #[.int .i64 0, .bool false, .int .i64 0, .int .i64 0, .string ⟨#[]⟩, .int .i64 0, .int .i64 0, .int .u64 0, .int .i64 0, .string ⟨#[]⟩, .int .i64 0, .int .i64 0, .slice none 0 0]), 13, 136) := info55

set_option maxHeartbeats 8000000 in
set_option maxRecDepth 100000 in
theorem rread_any (x0 : Option Addr) (c0 : Nat) (zs : List Int) (w : World) (hrow : Reads w x0 zs.length zs) (hl : zs.length ≤ 140737488355000) (hnc : zs.length ≤ c0) (hcm : c0 ≤ 9223372036854775807) :
    Calls Try.prog 5 #[.slice x0 zs.length c0] w fun e w' => RdV w zs e w' ∧ Below w.heap.size w w' := by
  have HBZ : Hid (Byt zs) := hrow.2.1
  have HZL := hide hl
  have hb2 : Below w.heap.size w ((w.alloc (.cells #[.int .u64 0, .int .u64 0, .int .i64 0, .int .i64 0, .slice none 0 0, .slice none 0 0] 27)).alloc (.cells #[.slice x0 zs.length c0, .int .i64 0, .bool true] 45)) := ((Below.refl _ _).alloc (Nat.le_refl _) _).alloc (by simp) _
  have hr0 : RwAt ((w.alloc (.cells #[.int .u64 0, .int .u64 0, .int .i64 0, .int .i64 0, .slice none 0 0, .slice none 0 0] 27)).alloc (.cells #[.slice x0 zs.length c0, .int .i64 0, .bool true] 45)) w.heap.size (w.heap.size + 1) zs (some zs) :=
    ⟨x0, c0, 0, true, by have h9 := heap_alloc_new (w.alloc (.cells #[.int .u64 0, .int .u64 0, .int .i64 0, .int .i64 0, .slice none 0 0, .slice none 0 0] 27)) (.cells #[.slice x0 zs.length c0, .int .i64 0, .bool true] 45); rw [World.size_alloc] at h9; exact h9, hrow.below hb2, hnc, hcm, (fun a ha hp => by obtain ⟨b9, o9, e9, hb9, _⟩ := hrow.pos hp; rw [ha] at e9; cases e9; exact hb9), by omega, Nat.zero_le _, rfl, rfl⟩
  have HR0 := hide hr0
  have HRS := hide (show ((w.alloc (.cells #[.int .u64 0, .int .u64 0, .int .i64 0, .int .i64 0, .slice none 0 0, .slice none 0 0] 27)).alloc (.cells #[.slice x0 zs.length c0, .int .i64 0, .bool true] 45)).heap[w.heap.size]? = some (.cells #[.int .u64 0, .int .u64 0, .int .i64 0, .int .i64 0, .slice none 0 0, .slice none 0 0] 27 (0, 0)) by rw [Below.heap_alloc _ _ _ (by simp)]; exact heap_alloc_new _ _)
  have HB2 := hide hb2
  have HSQ0 : Hid (stQ zs = stQ zs) := rfl
  have HC1 := hide (fun u (h : RwAt u w.heap.size (w.heap.size + 1) zs (some zs)) => rnum_any w.heap.size (w.heap.size + 1) 8 281474976710655 zs (some zs) u h (by omega) (by omega) hl (by omega) (by omega))
  have hg1 := fun u (h : RwAt u w.heap.size (w.heap.size + 1) zs (some zs)) => numQ_ge (n := 8) (m := 281474976710655) (by omega) h.bytR
  obtain ⟨⟨fl, s1⟩, hs1⟩ : ∃ x, numQ 8 281474976710655 (some zs) = x := ⟨_, rfl⟩
  rw [hs1] at HC1 hg1
  simp only at HC1 hg1
  have HG1 := hide hg1
  have HC2 := hide (fun u (h : RwAt u w.heap.size (w.heap.size + 1) zs s1) => rnum_any w.heap.size (w.heap.size + 1) 8 281474976710656 zs s1 u h (by omega) (by omega) hl (by omega) (by omega))
  have hg2 := fun u (h : RwAt u w.heap.size (w.heap.size + 1) zs s1) => numQ_ge (n := 8) (m := 281474976710656) (by omega) h.bytR
  obtain ⟨⟨nx, s2⟩, hs2⟩ : ∃ x, numQ 8 281474976710656 s1 = x := ⟨_, rfl⟩
  rw [hs2] at HC2 hg2
  simp only at HC2 hg2
  have HG2 := hide hg2
  have HC3 := hide (fun u (h : RwAt u w.heap.size (w.heap.size + 1) zs s2) => rnum_any w.heap.size (w.heap.size + 1) 4 4096 zs s2 u h (by omega) (by omega) hl (by omega) (by omega))
  have hg3 := fun u (h : RwAt u w.heap.size (w.heap.size + 1) zs s2) => numQ_ge (n := 4) (m := 4096) (by omega) h.bytR
  obtain ⟨⟨cu, s3⟩, hs3⟩ : ∃ x, numQ 4 4096 s2 = x := ⟨_, rfl⟩
  rw [hs3] at HC3 hg3
  simp only at HC3 hg3
  have HG3 := hide hg3
  have HC4 := hide (fun u (h : RwAt u w.heap.size (w.heap.size + 1) zs s3) => rnum_any w.heap.size (w.heap.size + 1) 4 4096 zs s3 u h (by omega) (by omega) hl (by omega) (by omega))
  have hg4 := fun u (h : RwAt u w.heap.size (w.heap.size + 1) zs s3) => numQ_ge (n := 4) (m := 4096) (by omega) h.bytR
  obtain ⟨⟨la, s4⟩, hs4⟩ : ∃ x, numQ 4 4096 s3 = x := ⟨_, rfl⟩
  rw [hs4] at HC4 hg4
  simp only at HC4 hg4
  have HG4 := hide hg4
  have HC5 := hide (fun u (h : RwAt u w.heap.size (w.heap.size + 1) zs s4) => rnum_any w.heap.size (w.heap.size + 1) 4 4096 zs s4 u h (by omega) (by omega) hl (by omega) (by omega))
  have hg5 := fun u (h : RwAt u w.heap.size (w.heap.size + 1) zs s4) => numQ_ge (n := 4) (m := 4096) (by omega) h.bytR
  obtain ⟨⟨nb, s5⟩, hs5⟩ : ∃ x, numQ 4 4096 s4 = x := ⟨_, rfl⟩
  rw [hs5] at HC5 hg5
  simp only at HC5 hg5
  have HG5 := hide hg5
  obtain ⟨⟨bl, s6⟩, hbl⟩ : ∃ x, timesQ blkQ nb.toNat [] s5 = x := ⟨_, rfl⟩
  have HC6 := hide (fun u (h : RwAt u w.heap.size (w.heap.size + 1) zs s6) => rnum_any w.heap.size (w.heap.size + 1) 4 1048575 zs s6 u h (by omega) (by omega) hl (by omega) (by omega))
  have hg6 := fun u (h : RwAt u w.heap.size (w.heap.size + 1) zs s6) => numQ_ge (n := 4) (m := 1048575) (by omega) h.bytR
  obtain ⟨⟨no, s7'⟩, hs7⟩ : ∃ x, numQ 4 1048575 s6 = x := ⟨_, rfl⟩
  rw [hs7] at HC6 hg6
  simp only at HC6 hg6
  have HG6 := hide hg6
  have HSQ := hide (show stQ zs = (⟨fl, nx, cu - 1, la - 1, bl, (timesQ objQ no.toNat [] s7').1⟩, (timesQ objQ no.toNat [] s7').2) by
    unfold stQ
    rw [hs1]; simp only; rw [hs2]; simp only; rw [hs3]; simp only; rw [hs4]; simp only
    have e1 : manyQ blkQ 4096 s4 = (bl, s6) := by unfold manyQ; rw [hs5]; exact hbl
    rw [e1]; simp only
    have e2 : manyQ objQ 1048575 s6 = timesQ objQ no.toNat [] s7' := by unfold manyQ; rw [hs7]
    rw [e2])
  have HBL := hide hbl
  obtain ⟨i0, hi0, hz0, hz1, hz2⟩ := info_parts info48
  have HI : Hid (Try.prog.info? 48 = some i0 ∧ i0.zero = some (.agg #[.int .i64 0, .int .u64 0, .bool false, .int .i64 0]) ∧ i0.size = 4 ∧ i0.bytes = 32) := ⟨hi0, hz0, hz1, hz2⟩
  obtain ⟨j0, hj0, hk0, hk1, hk2⟩ := info_parts info55b
  have HJ : Hid (Try.prog.info? 55 = some j0 ∧ j0.zero = some (.agg #[.int .i64 0, .bool false, .int .i64 0, .int .i64 0, .string ⟨#[]⟩, .int .i64 0, .int .i64 0, .int .u64 0, .int .i64 0, .string ⟨#[]⟩, .int .i64 0, .int .i64 0, .slice none 0 0]) ∧ j0.size = 13 ∧ j0.bytes = 136) := ⟨hj0, hk0, hk1, hk2⟩
  have HNE := hide (fun u (h : RwAt u w.heap.size (w.heap.size + 1) zs s7') (hn : 0 < no) => show zs ≠ [] by
    intro e
    obtain ⟨r9, e9, h9⟩ := numQ_pos (n := 4) (m := 1048575) (st := s6) (by rw [hs7]; exact hn)
    obtain ⟨b8, e8, h8⟩ := timesQ_live (fun st v r h => blkQ_live h) _ _ _ _ _ (hbl.trans (by rw [e9]))
    obtain ⟨b7, e7, n7, _⟩ := numQ_live (hs5.trans (by rw [e8]))
    obtain ⟨b6, e6, n6, _⟩ := numQ_live (hs4.trans (by rw [e7]))
    obtain ⟨b5, e5, n5, _⟩ := numQ_live (hs3.trans (by rw [e6]))
    obtain ⟨b4, e4, n4, _⟩ := numQ_live (hs2.trans (by rw [e5]))
    obtain ⟨b3, e3, n3, _⟩ := numQ_live (hs1.trans (by rw [e4]))
    cases e3
    have := numR_eat n3
    rw [e] at this
    simp at this)
  clear hrow hl hnc hcm hb2 hr0 hs1 hs2 hs3 hs4 hs5 hbl hs7 hg1 hg2 hg3 hg4 hg5 hg6 HSQ0 hi0 hz0 hz1 hz2 hj0 hk0 hk1 hk2
  go_enter Try.func5, Try.ntmps5
  go_wp2_with (first
    | (have h9 := HC1; clear h9; go_at_call 14; refine (HC1.out _ HR0.out).mono ?_; rintro e u1 ⟨rfl, rd, g⟩
       have hv := HG1.out _ HR0.out
       have hw1 : IntKind.u64.wrap fl = fl := by rw [IntKind.wrap_u64]; omega
       have hrs := (g.block _ (lt_of_block HRS.out) (fun e => by have := Option.some.inj e; omega)).trans HRS.out
       have hsz := lt_of_block hrs
       have hg2 : w.heap.size + 1 < u1.heap.size := rd.lt.2
       have hb : Rq w (u1.alloc (.cells #[.int .u64 fl, .int .u64 0, .int .i64 0, .int .i64 0, .slice none 0 0, .slice none 0 0] 27)) u1.heap.size #[.int .u64 fl, .int .u64 0, .int .i64 0, .int .i64 0, .slice none 0 0, .slice none 0 0] zs s1 := ⟨rd.below (below_alloc u1 _), by rw [Below.heap_alloc _ _ _ hsz]; exact hrs, heap_alloc_new _ _, (HB2.out.grown g HB2.out.size (fun k hk => by cases hk; omega)).trans ((below_alloc u1 _).mono (by omega)), hg2⟩
       have HS1 := hide hb
       clear rd g hv hrs hsz hg2 hb HC1 HR0 HRS HB2)
    | (have h9 := HS1; clear h9; go_at_call 14; refine (HC2.out _ HS1.out.rd).mono ?_; rintro e u2 ⟨rfl, rd, g⟩
       have hv := HG2.out _ HS1.out.rd
       have hw2 : IntKind.u64.wrap nx = nx := by rw [IntKind.wrap_u64]; omega
       have hb := HS1.out.call g rd
       have x2_1 : u2.cell? ⟨u1.heap.size, 1, none⟩ = some (.int .u64 0) := blk_cell hb.box 1 rfl
       have y2_1 : u2.frozen? ⟨u1.heap.size, 1, none⟩ = false := blk_free hb.box 1
       have HS2 : Hid (Rq w (u2.setCell ⟨u1.heap.size, 1, none⟩ (.int .u64 nx)) u1.heap.size #[.int .u64 fl, .int .u64 nx, .int .i64 0, .int .i64 0, .slice none 0 0, .slice none 0 0] zs s2) := (hb.store 1 (.int .u64 nx))
       clear HS1 rd g hv hb HC2)
    | (have h9 := HS2; clear h9; go_at_call 14; refine (HC3.out _ HS2.out.rd).mono ?_; rintro e u3 ⟨rfl, rd, g⟩
       have hv := HG3.out _ HS2.out.rd
       have hw3 : IntKind.i64.wrap (cu - 1) = cu - 1 := by rw [IntKind.wrap_i64]; omega
       have hb := HS2.out.call g rd
       have x3_2 : u3.cell? ⟨u1.heap.size, 2, none⟩ = some (.int .i64 0) := blk_cell hb.box 2 rfl
       have y3_2 : u3.frozen? ⟨u1.heap.size, 2, none⟩ = false := blk_free hb.box 2
       have HS3 : Hid (Rq w (u3.setCell ⟨u1.heap.size, 2, none⟩ (.int .i64 (cu - 1))) u1.heap.size #[.int .u64 fl, .int .u64 nx, .int .i64 (cu - 1), .int .i64 0, .slice none 0 0, .slice none 0 0] zs s3) := (hb.store 2 (.int .i64 (cu - 1)))
       clear HS2 rd g hv hb HC3)
    | (have h9 := HS3; clear h9; go_at_call 14; refine (HC4.out _ HS3.out.rd).mono ?_; rintro e u4 ⟨rfl, rd, g⟩
       have hv := HG4.out _ HS3.out.rd
       have hw4 : IntKind.i64.wrap (la - 1) = la - 1 := by rw [IntKind.wrap_i64]; omega
       have hb := HS3.out.call g rd
       have x4_3 : u4.cell? ⟨u1.heap.size, 3, none⟩ = some (.int .i64 0) := blk_cell hb.box 3 rfl
       have y4_3 : u4.frozen? ⟨u1.heap.size, 3, none⟩ = false := blk_free hb.box 3
       have HS4 : Hid (Rq w (u4.setCell ⟨u1.heap.size, 3, none⟩ (.int .i64 (la - 1))) u1.heap.size #[.int .u64 fl, .int .u64 nx, .int .i64 (cu - 1), .int .i64 (la - 1), .slice none 0 0, .slice none 0 0] zs s4) := (hb.store 3 (.int .i64 (la - 1)))
       clear HS3 rd g hv hb HC4)
    | (have h9 := HS4; clear h9; go_at_call 14; refine (HC5.out _ HS4.out.rd).mono ?_; rintro e u5 ⟨rfl, rd, g⟩
       have hv := HG5.out _ HS4.out.rd
       obtain ⟨n, hn⟩ : ∃ n : Nat, nb = n := ⟨nb.toNat, by omega⟩
       have HNB := hide (show n ≤ 4096 by omega)
       have HN5 := hide hn
       have hb := HS4.out.call g rd
       have HSZ := hide (lt_of_block hb.box)
       have HS5 := hide hb
       clear HS4 rd g HC5 hv hn hb))
  have hn := HN5.out
  subst hn
  clear HN5
  obtain ⟨A, hA⟩ : ∃ A, u1.heap.size = A := ⟨_, rfl⟩
  rw [hA] at HS5 HSZ
  rw [hA]
  clear hA
  go_loopw [7] (fun s7 wr => ∃ (k : Nat) (l : List Blk) (st : Option (List Int)) (va : Option Addr) (vc : Nat), k ≤ n ∧ s7 = .int .i64 k ∧ Hid (l.length = k) ∧ Hid (Rq w wr A #[.int .u64 fl, .int .u64 nx, .int .i64 (cu - 1), .int .i64 (la - 1), .slice va k vc, .slice none 0 0] zs st) ∧ Hid (wr.ownsRow (A + 1) 48 4 (.slice va k vc) k (flatBlk l)) ∧ Hid (A + 1 ≤ wr.heap.size) ∧ Hid (timesQ blkQ n [] s5 = timesQ blkQ (n - k) l st))
    (fun s7 _ => n - (intOf s7).toNat)
  case atStart => exact ⟨0, [], s5, none, 0, Nat.zero_le _, rfl, rfl, HS5, World.ownsRow_nil _ _ _ _, HSZ, rfl⟩
  case round =>
    clear HS5 HSZ
    obtain ⟨bn, l, st, ba, bc, hk, rfl, HLK, HQ, HOB, HSZ, HTQ⟩ := hrel
    have hrd := HQ.out.rd
    obtain ⟨x9, c9, t9, ok9, h0, _, _, _, _, _, _, hst⟩ := hrd
    have co := blk_cell h0 2 rfl
    clear h0
    by_cases hlt : bn < n
    · have e9 : (bn : Int) < n := by omega
      cases st with
      | none =>
        simp only at hst
        subst hst
        have HB6 := hide (show timesQ blkQ n [] s5 = (l, none) by rw [HTQ.out, timesQ_dead])
        have hbl6 := HBL.out
        simp only [Int.toNat_natCast] at hbl6
        rw [HB6.out] at hbl6
        cases hbl6
        have HBN : Hid (bl.length = bn) := HLK
        go_upto_region 17 with (have h9 := HQ; clear h9; go_at_call 14; refine (HC6.out _ HQ.out.rd).mono ?_; rintro e u6 ⟨rfl, rd, g⟩; have hv := HG6.out _ HQ.out.rd; have HNE1 := hide (HNE.out _ rd); obtain ⟨m, hm⟩ : ∃ m : Nat, no = m := ⟨no.toNat, by omega⟩; have HNM := hide (show m ≤ 1048575 by omega); have HN6 := hide hm; have hlt := HQ.out.lt; have HQ0 := hide (HQ.out.call g rd); have HOB0 := hide (own_q HOB.out g (by omega)); clear rd g hv hm hlt)
        have hm := HN6.out
        subst hm
        have HNE2 := hide (fun (h : 0 < m) => HNE1.out (by omega))
        clear HN6 HNE1 HNE HQ HOB HB6
        clear HC6
        go_loopw [9] (fun s9 wr => ∃ (k : Nat) (l : List Ob) (ls : List (Ob × Value)) (st : Option (List Int)) (oa : Option Addr) (oc : Nat), k ≤ m ∧ s9 = .int .i64 k ∧ Hid (l.length = k) ∧ Hid (ls.map Prod.fst = l) ∧ Hid (Rq w wr A #[.int .u64 fl, .int .u64 nx, .int .i64 (cu - 1), .int .i64 (la - 1), .slice ba bn bc, .slice oa k oc] zs st) ∧ Hid (wr.ownsRow (A + 1) 48 4 (.slice ba bn bc) bn (flatBlk bl)) ∧ Hid (wr.ownsRow (A + 1) 55 13 (.slice oa k oc) k (flatO ls)) ∧ Hid (ObsOk wr (A + 1) ls) ∧ Hid (timesQ objQ m [] s7' = timesQ objQ (m - k) l st))
          (fun s9 _ => m - (intOf s9).toNat)
        case atStart => exact ⟨0, [], [], s7', none, 0, Nat.zero_le _, rfl, rfl, rfl, HQ0, HOB0, World.ownsRow_nil _ _ _ _, (fun x hx => by cases hx), rfl⟩
        case round =>
          clear HQ0 HOB0
          obtain ⟨k, l, ls, st, oa, oc, hk, rfl, HLK, HLS, HQ, HOB, HOO, HOK, HTQ⟩ := hrel
          have hrd := HQ.out.rd
          obtain ⟨x9, c9, t9, ok9, h0, _, _, _, _, _, _, hst⟩ := hrd
          have co := blk_cell h0 2 rfl
          clear h0
          by_cases hlt : k < m
          · have e9 : (k : Int) < m := by omega
            cases st with
            | none =>
              simp only at hst
              subst hst
              have HST := hide (show stQ zs = (⟨fl, nx, cu - 1, la - 1, bl, l⟩, none) by rw [HSQ.out]; simp only [Int.toNat_natCast]; rw [HTQ.out, timesQ_dead])
              have hres := HQ.out.res
              have hbox := HQ.out.box
              have hlt := HQ.out.lt
              have r0 : wr.frozen? ⟨w.heap.size, 0, none⟩ = false := blk_free hres 0
              have z0 : wr.cell? ⟨w.heap.size, 0, none⟩ = some (.int .u64 0) := blk_cell hres 0 rfl
              have r1 : wr.frozen? ⟨w.heap.size, 1, none⟩ = false := blk_free hres 1
              have z1 : wr.cell? ⟨w.heap.size, 1, none⟩ = some (.int .u64 0) := blk_cell hres 1 rfl
              have r2 : wr.frozen? ⟨w.heap.size, 2, none⟩ = false := blk_free hres 2
              have z2 : wr.cell? ⟨w.heap.size, 2, none⟩ = some (.int .i64 0) := blk_cell hres 2 rfl
              have r3 : wr.frozen? ⟨w.heap.size, 3, none⟩ = false := blk_free hres 3
              have z3 : wr.cell? ⟨w.heap.size, 3, none⟩ = some (.int .i64 0) := blk_cell hres 3 rfl
              have r4 : wr.frozen? ⟨w.heap.size, 4, none⟩ = false := blk_free hres 4
              have z4 : wr.cell? ⟨w.heap.size, 4, none⟩ = some (.slice none 0 0) := blk_cell hres 4 rfl
              have r5 : wr.frozen? ⟨w.heap.size, 5, none⟩ = false := blk_free hres 5
              have z5 : wr.cell? ⟨w.heap.size, 5, none⟩ = some (.slice none 0 0) := blk_cell hres 5 rfl
              have HRN := hide (readQ_none HBZ.out HST.out)
              clear hres hbox
              go_wp2
              obtain ⟨k9, g9⟩ := over6 (.int .u64 0) (.int .u64 0) (.int .i64 0) (.int .i64 0) (.slice none 0 0) (.slice none 0 0) HQ.out.res
              refine bodyPost_ret (v := .tuple #[.agg #[.int .u64 0, .int .u64 0, .int .i64 0, .int .i64 0, .slice none 0 0, .slice none 0 0], .int .i64 140]) (res5 k9 rfl rfl) rfl ?_
              refine ⟨?_, HQ.out.gr.grown g9 HQ.out.gr.size (fun i hi => by cases hi; exact Nat.le_refl _)⟩
              unfold RdV
              rw [HRN.out]
            | some rest =>
              obtain ⟨hst, _⟩ := hst
              subst hst
              have HTK := hide (show m - k = m - (k + 1) + 1 by omega)
              have hkb : k < 1048576 := by have := HNM.out; omega
              have HCO := hide (robj_any w.heap.size (w.heap.size + 1) zs (some rest) (wr.drew) (HQ.out.rd.below (drewB wr)) HZL.out (HNE2.out (by omega)))
              obtain ⟨⟨⟨id, hd, ⟨xk, xp, xN, xz, xm, xs, xh, xT⟩, ⟨p1, p2⟩, ch⟩, t1⟩, ht1⟩ : ∃ x, objQ (some rest) = x := ⟨_, rfl⟩
              rw [ht1] at HCO
              have HT1 := hide ht1
              have hbd := HQ.out.below (drewB wr)
              have eL0 : wr.drew.cell? ⟨A, 5, none⟩ = some (.slice oa k oc) := blk_cell hbd.box 5 rfl
              have HQd := hide hbd
              have HOBd := hide (own_bel HOB.out (drewB wr))
              have HOOd := hide (own_bel HOO.out (drewB wr))
              have HOKd := hide (HOK.out.oth (grown_of (drewB wr) none) (oth_none wr (A + 1) 71) (Nat.le_refl _))
              clear ht1 hbd HQ HOB HOO HOK
              go_upto_region 19 with fail
              refine wp_region_held_drew (S := (fun _ => True)) (by kernel_rfl) (trivial) (fun hHeld => ?_)
              refine tk 0 ?_
              refine tk 2 ?_
              refine rn2 1 3 (fun K hK => ?qa1) (fun K hK => ?qb1)
              case' qa1 =>
                go_simp
                go_wp2_with fail
                have hSnew := hHeld
                refine hK.out _ _ hSnew (fun hHeldN => ?_)
                clear hK K hSnew
                clear hHeld
                have hHeld := hHeldN
                clear hHeldN
                try simp only [Act.put, List.setIfInBounds_toArray, List.set_cons_zero, List.set_cons_succ]
                refine rn1 3 (fun K hK => ?_)
                go_simp
                go_at_call 15
                refine HCO.out.mono ?_
                rintro e x9 ⟨⟨va, vc, rfl, own⟩, rd, g, hchl⟩
                simp only at own hchl rd
                have hb := HQd.out.call g rd
                have eL1 : x9.cell? ⟨A, 5, none⟩ = some (.slice oa k oc) := blk_cell hb.box 5 rfl
                have hba := hb.alloc (.cells #[.int .i64 id, .bool hd, .int .i64 xk, .int .i64 xp, .string xN, .int .i64 xz, .int .i64 xm, .int .u64 xs, .int .i64 xh, .string xT, .int .i64 p1, .int .i64 p2, .slice va ch.length vc] 55)
                have eL2 : (x9.alloc (.cells #[.int .i64 id, .bool hd, .int .i64 xk, .int .i64 xp, .string xN, .int .i64 xz, .int .i64 xm, .int .u64 xs, .int .i64 xh, .string xT, .int .i64 p1, .int .i64 p2, .slice va ch.length vc] 55)).cell? ⟨A, 5, none⟩ = some (.slice oa k oc) := blk_cell hba.box 5 rfl
                have hlt := hb.lt
                have HQ9 := hide hba
                have hb9 := below_alloc x9 (.cells #[.int .i64 id, .bool hd, .int .i64 xk, .int .i64 xp, .string xN, .int .i64 xz, .int .i64 xm, .int .u64 xs, .int .i64 xh, .string xT, .int .i64 p1, .int .i64 p2, .slice va ch.length vc] 55)
                have HOB9 := hide (own_bel (own_q HOBd.out g (by omega)) hb9)
                have HOO9 := hide (own_bel (own_q HOOd.out g (by omega)) hb9)
                have HOK9 := hide ((HOKd.out.oth g (oth_lt 71 (by omega : w.heap.size + 1 < A + 1)) (Nat.le_refl _)).oth (grown_of hb9 none) (oth_none x9 (A + 1) 71) (Nat.le_refl _))
                have HOW9 := hide (own_low (own_bel own hb9) (show A + 1 ≤ wr.drew.heap.size from lt_of_block HQd.out.box))
                have HSZ9 := hide (show A + 1 ≤ (x9.alloc (.cells #[.int .i64 id, .bool hd, .int .i64 xk, .int .i64 xp, .string xN, .int .i64 xz, .int .i64 xm, .int .u64 xs, .int .i64 xh, .string xT, .int .i64 p1, .int .i64 p2, .slice va ch.length vc] 55)).heap.size from lt_of_block hba.box)
                clear own rd g hchl hb hba hb9 hlt
                go_wp2_with fail
                have hSnew := hHeld
                refine hK.out _ _ hSnew (fun hHeldN => ?_)
                clear hK K hSnew
                clear hHeld
                have hHeld := hHeldN
                clear hHeldN
                try simp only [Act.put, List.setIfInBounds_toArray, List.set_cons_zero, List.set_cons_succ]
                refine rn1 4 (fun K hK => ?_)
                go_simp
                go_wp2_with fail
                have hSnew := hHeld
                refine hK.out _ _ hSnew (fun hHeldN => ?_)
                clear hK K hSnew
                clear hHeld
                have hHeld := hHeldN
                clear hHeldN
                try simp only [Act.put, List.setIfInBounds_toArray, List.set_cons_zero, List.set_cons_succ]
              case' qb1 =>
                go_simp
                go_at_call 15
                refine HCO.out.mono ?_
                rintro e x9 ⟨⟨va, vc, rfl, own⟩, rd, g, hchl⟩
                simp only at own hchl rd
                have hb := HQd.out.call g rd
                have eL1 : x9.cell? ⟨A, 5, none⟩ = some (.slice oa k oc) := blk_cell hb.box 5 rfl
                have hba := hb.alloc (.cells #[.int .i64 id, .bool hd, .int .i64 xk, .int .i64 xp, .string xN, .int .i64 xz, .int .i64 xm, .int .u64 xs, .int .i64 xh, .string xT, .int .i64 p1, .int .i64 p2, .slice va ch.length vc] 55)
                have eL2 : (x9.alloc (.cells #[.int .i64 id, .bool hd, .int .i64 xk, .int .i64 xp, .string xN, .int .i64 xz, .int .i64 xm, .int .u64 xs, .int .i64 xh, .string xT, .int .i64 p1, .int .i64 p2, .slice va ch.length vc] 55)).cell? ⟨A, 5, none⟩ = some (.slice oa k oc) := blk_cell hba.box 5 rfl
                have hlt := hb.lt
                have HQ9 := hide hba
                have hb9 := below_alloc x9 (.cells #[.int .i64 id, .bool hd, .int .i64 xk, .int .i64 xp, .string xN, .int .i64 xz, .int .i64 xm, .int .u64 xs, .int .i64 xh, .string xT, .int .i64 p1, .int .i64 p2, .slice va ch.length vc] 55)
                have HOB9 := hide (own_bel (own_q HOBd.out g (by omega)) hb9)
                have HOO9 := hide (own_bel (own_q HOOd.out g (by omega)) hb9)
                have HOK9 := hide ((HOKd.out.oth g (oth_lt 71 (by omega : w.heap.size + 1 < A + 1)) (Nat.le_refl _)).oth (grown_of hb9 none) (oth_none x9 (A + 1) 71) (Nat.le_refl _))
                have HOW9 := hide (own_low (own_bel own hb9) (show A + 1 ≤ wr.drew.heap.size from lt_of_block HQd.out.box))
                have HSZ9 := hide (show A + 1 ≤ (x9.alloc (.cells #[.int .i64 id, .bool hd, .int .i64 xk, .int .i64 xp, .string xN, .int .i64 xz, .int .i64 xm, .int .u64 xs, .int .i64 xh, .string xT, .int .i64 p1, .int .i64 p2, .slice va ch.length vc] 55)).heap.size from lt_of_block hba.box)
                clear own rd g hchl hb hba hb9 hlt
                go_wp2_with fail
                have hSnew := hHeld
                refine hK.out _ _ hSnew (fun hHeldN => ?_)
                clear hK K hSnew
                clear hHeld
                have hHeld := hHeldN
                clear hHeldN
                try simp only [Act.put, List.setIfInBounds_toArray, List.set_cons_zero, List.set_cons_succ]
                refine rn2 1 4 (fun K hK => ?qa2) (fun K hK => ?qb2)
                case' qa2 =>
                  go_simp
                  go_wp2_with fail
                  have hSnew := hHeld
                  refine hK.out _ _ hSnew (fun hHeldN => ?_)
                  clear hK K hSnew
                  clear hHeld
                  have hHeld := hHeldN
                  clear hHeldN
                  try simp only [Act.put, List.setIfInBounds_toArray, List.set_cons_zero, List.set_cons_succ]
                  refine rn1 4 (fun K hK => ?_)
                  go_simp
                  go_wp2_with fail
                  have hSnew := hHeld
                  refine hK.out _ _ hSnew (fun hHeldN => ?_)
                  clear hK K hSnew
                  clear hHeld
                  have hHeld := hHeldN
                  clear hHeldN
                  try simp only [Act.put, List.setIfInBounds_toArray, List.set_cons_zero, List.set_cons_succ]
                case' qb2 =>
                  go_simp
                  go_wp2_with fail
                  have hSnew := hHeld
                  refine hK.out _ _ hSnew (fun hHeldN => ?_)
                  clear hK K hSnew
                  clear hHeld
                  have hHeld := hHeldN
                  clear hHeldN
                  try simp only [Act.put, List.setIfInBounds_toArray, List.set_cons_zero, List.set_cons_succ]
                  refine rn1 1 (fun K hK => ?_)
                  go_simp
                  go_wp2_with fail
                  have hSnew := hHeld
                  refine hK.out _ _ hSnew (fun hHeldN => ?_)
                  clear hK K hSnew
                  clear hHeld
                  have hHeld := hHeldN
                  clear hHeldN
                  try simp only [Act.put, List.setIfInBounds_toArray, List.set_cons_zero, List.set_cons_succ]
              all_goals
                refine rn1 5 (fun K hK => ?_)
                refine wp_append_own _ (.tmp 76) (.tmp 79) 25 rfl (A + 1) 55 j0 _ 13 136 Try.underlying25 HJ.out.1 HJ.out.2.1 HJ.out.2.2.1 HJ.out.2.2.2 rfl (by decide) (.slice oa k oc) k (flatO ls) rfl HOO9.out ⟨x9.heap.size, 0, none⟩ 1 1 [.int .i64 id, .bool hd, .int .i64 xk, .int .i64 xp, .string xN, .int .i64 xz, .int .i64 xm, .int .u64 xs, .int .i64 xh, .string xT, .int .i64 p1, .int .i64 p2, .slice va ch.length vc] rfl rfl (list_news x9 55 [.int .i64 id, .bool hd, .int .i64 xk, .int .i64 xp, .string xN, .int .i64 xz, .int .i64 xm, .int .u64 xs, .int .i64 xh, .string xT, .int .i64 p1, .int .i64 p2, .slice va ch.length vc]) (by simp [Value.oneCell']) (by simp only [maxLen]; omega) (by omega) HSZ9.out ?_
                intro v8 t8 own8 grow8 _h8
                obtain ⟨ga, gc, rfl⟩ := own_slice own8
                have hb := HQ9.out.far grow8 (fun i hi => by have := own_far HOO9.out i hi; omega)
                have b5 : t8.cell? ⟨A, 5, none⟩ = some (.slice oa k oc) := blk_cell hb.box 5 rfl
                have f5 : t8.frozen? ⟨A, 5, none⟩ = false := blk_free hb.box 5
                have HQ5 : Hid (Rq w (t8.setCell ⟨A, 5, none⟩ (.slice ga (k + 1) gc)) A #[.int .u64 fl, .int .u64 nx, .int .i64 (cu - 1), .int .i64 (la - 1), .slice ba bn bc, .slice ga (k + 1) gc] zs t1) := hb.store 5 _
                have ho48 : Oth (x9.alloc (.cells #[.int .i64 id, .bool hd, .int .i64 xk, .int .i64 xp, .string xN, .int .i64 xz, .int .i64 xm, .int .u64 xs, .int .i64 xh, .string xT, .int .i64 p1, .int .i64 p2, .slice va ch.length vc] 55)) (Value.ownBlock (.slice oa k oc)) (A + 1) 48 := oth_own HOO9.out (by decide)
                have ho71 : Oth (x9.alloc (.cells #[.int .i64 id, .bool hd, .int .i64 xk, .int .i64 xp, .string xN, .int .i64 xz, .int .i64 xm, .int .u64 xs, .int .i64 xh, .string xT, .int .i64 p1, .int .i64 p2, .slice va ch.length vc] 55)) (Value.ownBlock (.slice oa k oc)) (A + 1) 71 := oth_own HOO9.out (by decide)
                have HOB5 := hide (own_set (own_oth HOB9.out grow8 ho48 (Nat.le_refl _)) A 5 (.slice ga (k + 1) gc) (Nat.lt_succ_self _))
                have HOO5 := hide (own_set own8 A 5 (.slice ga (k + 1) gc) (Nat.lt_succ_self _))
                have HOK5 := hide (show ObsOk (t8.setCell ⟨A, 5, none⟩ (.slice ga (k + 1) gc)) (A + 1) (ls ++ [(⟨id, hd, ⟨xk, xp, xN, xz, xm, xs, xh, xT⟩, (p1, p2), ch⟩, .slice va ch.length vc)]) from fun y hy => (List.mem_append.1 hy).elim (fun h3 => own_set ((HOK9.out.oth grow8 ho71 (Nat.le_refl _)) y h3) A 5 _ (Nat.lt_succ_self _)) (fun h3 => by rw [List.mem_singleton] at h3; subst h3; exact own_set (own_oth HOW9.out grow8 ho71 (Nat.le_refl _)) A 5 _ (Nat.lt_succ_self _)))
                have hSnew : (fun _ : World => True) t8 := trivial
                clear own8 grow8 _h8 hb ho48 ho71
                refine hK.out _ _ hSnew (fun hHeldN => ?_)
                clear hK K hSnew
                clear hHeld
                have hHeld := hHeldN
                clear hHeldN
                try simp only [Act.put, List.setIfInBounds_toArray, List.set_cons_zero, List.set_cons_succ]
                refine tk 6 ?_
                refine rn1 7 (fun K hK => ?_)
                go_simp
                go_wp2_with fail
                have hSnew := hHeld
                refine hK.out _ _ hSnew (fun hHeldN => ?_)
                clear hK K hSnew
                clear hHeld
                have hHeld := hHeldN
                clear hHeldN
                try simp only [Act.put, List.setIfInBounds_toArray, List.set_cons_zero, List.set_cons_succ]
                refine wpAnyH_done (by kernel_rfl) ?_ _
                clear hHeld
                go_wp2
                go_roundw
                case rel => exact ⟨k + 1, l ++ [⟨id, hd, ⟨xk, xp, xN, xz, xm, xs, xh, xT⟩, (p1, p2), ch⟩], ls ++ [(⟨id, hd, ⟨xk, xp, xN, xz, xm, xs, xh, xT⟩, (p1, p2), ch⟩, .slice va ch.length vc)], t1, ga, gc, by omega, by go_num, by show _ = _; rw [List.length_append, HLK.out]; rfl, by show _ = _; rw [List.map_append, HLS.out]; rfl, HQ5, HOB5, by show World.ownsRow _ _ _ _ _ _ _; rw [flatO_add]; exact HOO5.out, HOK5, by show _ = _; rw [HTQ.out, HTK.out, timesQ, HT1.out]⟩
                case measure => simp [intOf]; omega
          · have e9 : decide ((k : Int) < m) = false := decide_eq_false (by omega)
            have hkm : k = m := by omega
            have HST := hide (show stQ zs = (⟨fl, nx, cu - 1, la - 1, bl, l⟩, st) by rw [HSQ.out]; simp only [Int.toNat_natCast]; rw [HTQ.out, show m - k = 0 by omega]; rfl)
            clear hkm
            cases st with
            | none =>
              simp only at hst
              subst hst
              have hres := HQ.out.res
              have hbox := HQ.out.box
              have hlt := HQ.out.lt
              have r0 : wr.frozen? ⟨w.heap.size, 0, none⟩ = false := blk_free hres 0
              have z0 : wr.cell? ⟨w.heap.size, 0, none⟩ = some (.int .u64 0) := blk_cell hres 0 rfl
              have r1 : wr.frozen? ⟨w.heap.size, 1, none⟩ = false := blk_free hres 1
              have z1 : wr.cell? ⟨w.heap.size, 1, none⟩ = some (.int .u64 0) := blk_cell hres 1 rfl
              have r2 : wr.frozen? ⟨w.heap.size, 2, none⟩ = false := blk_free hres 2
              have z2 : wr.cell? ⟨w.heap.size, 2, none⟩ = some (.int .i64 0) := blk_cell hres 2 rfl
              have r3 : wr.frozen? ⟨w.heap.size, 3, none⟩ = false := blk_free hres 3
              have z3 : wr.cell? ⟨w.heap.size, 3, none⟩ = some (.int .i64 0) := blk_cell hres 3 rfl
              have r4 : wr.frozen? ⟨w.heap.size, 4, none⟩ = false := blk_free hres 4
              have z4 : wr.cell? ⟨w.heap.size, 4, none⟩ = some (.slice none 0 0) := blk_cell hres 4 rfl
              have r5 : wr.frozen? ⟨w.heap.size, 5, none⟩ = false := blk_free hres 5
              have z5 : wr.cell? ⟨w.heap.size, 5, none⟩ = some (.slice none 0 0) := blk_cell hres 5 rfl
              have HRN := hide (readQ_none HBZ.out HST.out)
              clear hres hbox
              go_wp2
              obtain ⟨k9, g9⟩ := over6 (.int .u64 0) (.int .u64 0) (.int .i64 0) (.int .i64 0) (.slice none 0 0) (.slice none 0 0) HQ.out.res
              refine bodyPost_ret (v := .tuple #[.agg #[.int .u64 0, .int .u64 0, .int .i64 0, .int .i64 0, .slice none 0 0, .slice none 0 0], .int .i64 140]) (res5 k9 rfl rfl) rfl ?_
              refine ⟨?_, HQ.out.gr.grown g9 HQ.out.gr.size (fun i hi => by cases hi; exact Nat.le_refl _)⟩
              unfold RdV
              rw [HRN.out]
            | some rest =>
              clear hst co
              have hres := HQ.out.res
              have hbox := HQ.out.box
              have hlt := HQ.out.lt
              have r0 : wr.frozen? ⟨w.heap.size, 0, none⟩ = false := blk_free hres 0
              have z0 : wr.cell? ⟨w.heap.size, 0, none⟩ = some (.int .u64 0) := blk_cell hres 0 rfl
              have r1 : wr.frozen? ⟨w.heap.size, 1, none⟩ = false := blk_free hres 1
              have z1 : wr.cell? ⟨w.heap.size, 1, none⟩ = some (.int .u64 0) := blk_cell hres 1 rfl
              have r2 : wr.frozen? ⟨w.heap.size, 2, none⟩ = false := blk_free hres 2
              have z2 : wr.cell? ⟨w.heap.size, 2, none⟩ = some (.int .i64 0) := blk_cell hres 2 rfl
              have r3 : wr.frozen? ⟨w.heap.size, 3, none⟩ = false := blk_free hres 3
              have z3 : wr.cell? ⟨w.heap.size, 3, none⟩ = some (.int .i64 0) := blk_cell hres 3 rfl
              have r4 : wr.frozen? ⟨w.heap.size, 4, none⟩ = false := blk_free hres 4
              have z4 : wr.cell? ⟨w.heap.size, 4, none⟩ = some (.slice none 0 0) := blk_cell hres 4 rfl
              have r5 : wr.frozen? ⟨w.heap.size, 5, none⟩ = false := blk_free hres 5
              have z5 : wr.cell? ⟨w.heap.size, 5, none⟩ = some (.slice none 0 0) := blk_cell hres 5 rfl
              obtain ⟨x9, c9, t9, ok9, h0, _, _, _, _, _, ht9, ⟨hst, hrest⟩⟩ := HQ.out.rd
              subst hst
              have co2 := blk_cell h0 1 rfl
              have co3 := blk_cell h0 2 rfl
              have HRQ := hide (readQ_some HST.out)
              have HZL2 := HZL
              obtain ⟨len, hlen⟩ : ∃ len, zs.length = len := ⟨_, rfl⟩
              by_cases ht : t9 < zs.length
              · have HRN := hide (show readR zs = none by rw [HRQ.out, if_neg (fun h => by have h8 := h.1; rw [hrest] at h8; have h7 := congrArg List.length h8; rw [List.length_drop] at h7; simp only [List.length_nil] at h7; omega)])
                have d9 : (t9 : Int) < (zs.length : Int) := by omega
                clear hres hbox h0 hrest ht9 hlen ht
                go_wp2
                obtain ⟨k9, g9⟩ := over6 (.int .u64 0) (.int .u64 0) (.int .i64 0) (.int .i64 0) (.slice none 0 0) (.slice none 0 0) HQ.out.res
                refine bodyPost_ret (v := .tuple #[.agg #[.int .u64 0, .int .u64 0, .int .i64 0, .int .i64 0, .slice none 0 0, .slice none 0 0], .int .i64 140]) (res5 k9 rfl rfl) rfl ?_
                refine ⟨?_, HQ.out.gr.grown g9 HQ.out.gr.size (fun i hi => by cases hi; exact Nat.le_refl _)⟩
                unfold RdV
                rw [HRN.out]
              · have hnil : rest = [] := by rw [hrest]; exact List.drop_of_length_le (by omega)
                have d9 : decide ((t9 : Int) < (zs.length : Int)) = false := decide_eq_false (by omega)
                have d9n : decide (t9 < zs.length) = false := decide_eq_false (by omega)
                have HLV := hide (stQ_live HST.out)
                have HSZ2 := hide (state_sz HLV.out HZL.out)
                have HCH2 := hide (state_ch HLV.out HZL.out)
                have hown : StOwn wr (A + 1) ⟨fl, nx, cu - 1, la - 1, bl, l⟩ (.slice ba bn bc) (.slice oa k oc) ls := ⟨by rw [HBN.out]; exact HOB.out, by rw [HLK.out]; exact HOO.out, HOK.out, HLS.out, by simp only [HBN.out]; have := HNB.out; omega, by simp only [HLK.out]; have := HNM.out; omega⟩
                have HOWN := hide hown
                obtain ⟨ba', bc', oa', oc', e1, e2, hon2⟩ := hown.on HSZ2.out (fun x hx => HCH2.out x.1 (by have h1 := HLS.out; simp only; rw [← h1]; exact List.mem_map_of_mem hx))
                simp only [HBN.out, HLK.out] at e1 e2 hon2
                cases e1
                cases e2
                have HSTO := hide hon2
                have b0 : wr.cell? ⟨A, 0, none⟩ = some (.int .u64 fl) := blk_cell hbox 0 rfl
                have b1 : wr.cell? ⟨A, 1, none⟩ = some (.int .u64 nx) := blk_cell hbox 1 rfl
                have b2 : wr.cell? ⟨A, 2, none⟩ = some (.int .i64 (cu - 1)) := blk_cell hbox 2 rfl
                have b3 : wr.cell? ⟨A, 3, none⟩ = some (.int .i64 (la - 1)) := blk_cell hbox 3 rfl
                have b4 : wr.cell? ⟨A, 4, none⟩ = some (.slice ba bn bc) := blk_cell hbox 4 rfl
                have b5 : wr.cell? ⟨A, 5, none⟩ = some (.slice oa k oc) := blk_cell hbox 5 rfl
                subst hnil
                clear hres hbox h0 hrest ht9 hlen ht hown hon2
                cases hm : mayS ⟨fl, nx, cu - 1, la - 1, bl, l⟩ with
                | false =>
                  have HRN := hide (show readR zs = none by rw [HRQ.out, if_neg (fun h => by rw [hm] at h; cases h.2)])
                  go_wp2_with (go_at_call 16; refine (rmay16 ⟨fl, nx, cu - 1, la - 1, bl, l⟩ ba oa bn k bc oc ls _ HSTO.out).mono ?_; rintro e v9 ⟨rfl, b9⟩; rw [hm]; have HQ9 := hide (HQ.out.below b9); clear r0 r1 r2 r3 r4 r5 z0 z1 z2 z3 z4 z5; have hres := HQ9.out.res; have r0 : v9.frozen? ⟨w.heap.size, 0, none⟩ = false := blk_free hres 0; have z0 : v9.cell? ⟨w.heap.size, 0, none⟩ = some (.int .u64 0) := blk_cell hres 0 rfl; have r1 : v9.frozen? ⟨w.heap.size, 1, none⟩ = false := blk_free hres 1; have z1 : v9.cell? ⟨w.heap.size, 1, none⟩ = some (.int .u64 0) := blk_cell hres 1 rfl; have r2 : v9.frozen? ⟨w.heap.size, 2, none⟩ = false := blk_free hres 2; have z2 : v9.cell? ⟨w.heap.size, 2, none⟩ = some (.int .i64 0) := blk_cell hres 2 rfl; have r3 : v9.frozen? ⟨w.heap.size, 3, none⟩ = false := blk_free hres 3; have z3 : v9.cell? ⟨w.heap.size, 3, none⟩ = some (.int .i64 0) := blk_cell hres 3 rfl; have r4 : v9.frozen? ⟨w.heap.size, 4, none⟩ = false := blk_free hres 4; have z4 : v9.cell? ⟨w.heap.size, 4, none⟩ = some (.slice none 0 0) := blk_cell hres 4 rfl; have r5 : v9.frozen? ⟨w.heap.size, 5, none⟩ = false := blk_free hres 5; have z5 : v9.cell? ⟨w.heap.size, 5, none⟩ = some (.slice none 0 0) := blk_cell hres 5 rfl; clear b9 hres)
                  obtain ⟨k9, g9⟩ := over6 (.int .u64 0) (.int .u64 0) (.int .i64 0) (.int .i64 0) (.slice none 0 0) (.slice none 0 0) HQ9.out.res
                  refine bodyPost_ret (v := .tuple #[.agg #[.int .u64 0, .int .u64 0, .int .i64 0, .int .i64 0, .slice none 0 0, .slice none 0 0], .int .i64 140]) (res5 k9 rfl rfl) rfl ?_
                  refine ⟨?_, HQ9.out.gr.grown g9 HQ9.out.gr.size (fun i hi => by cases hi; exact Nat.le_refl _)⟩
                  unfold RdV
                  rw [HRN.out]
                | true =>
                  have HRN := hide (show readR zs = some ⟨fl, nx, cu - 1, la - 1, bl, l⟩ by rw [HRQ.out, if_pos ⟨rfl, hm⟩])
                  have n1 : ¬ A = w.heap.size := by omega
                  have n2 : ¬ w.heap.size = A := by omega
                  go_wp2_with (go_at_call 16; refine (rmay16 ⟨fl, nx, cu - 1, la - 1, bl, l⟩ ba oa bn k bc oc ls _ HSTO.out).mono ?_; rintro e v9 ⟨rfl, b9⟩; rw [hm]; have HQ9 := hide (HQ.out.below b9); have HOW9 := hide (HOWN.out.kept (grown_of b9 none) (fun k hk => by cases hk)); clear r0 r1 r2 r3 r4 r5 z0 z1 z2 z3 z4 z5 b0 b1 b2 b3 b4 b5; have hres := HQ9.out.res; have hbox := HQ9.out.box; have r0 : v9.frozen? ⟨w.heap.size, 0, none⟩ = false := blk_free hres 0; have z0 : v9.cell? ⟨w.heap.size, 0, none⟩ = some (.int .u64 0) := blk_cell hres 0 rfl; have b0 : v9.cell? ⟨A, 0, none⟩ = some (.int .u64 fl) := blk_cell hbox 0 rfl; have r1 : v9.frozen? ⟨w.heap.size, 1, none⟩ = false := blk_free hres 1; have z1 : v9.cell? ⟨w.heap.size, 1, none⟩ = some (.int .u64 0) := blk_cell hres 1 rfl; have b1 : v9.cell? ⟨A, 1, none⟩ = some (.int .u64 nx) := blk_cell hbox 1 rfl; have r2 : v9.frozen? ⟨w.heap.size, 2, none⟩ = false := blk_free hres 2; have z2 : v9.cell? ⟨w.heap.size, 2, none⟩ = some (.int .i64 0) := blk_cell hres 2 rfl; have b2 : v9.cell? ⟨A, 2, none⟩ = some (.int .i64 (cu - 1)) := blk_cell hbox 2 rfl; have r3 : v9.frozen? ⟨w.heap.size, 3, none⟩ = false := blk_free hres 3; have z3 : v9.cell? ⟨w.heap.size, 3, none⟩ = some (.int .i64 0) := blk_cell hres 3 rfl; have b3 : v9.cell? ⟨A, 3, none⟩ = some (.int .i64 (la - 1)) := blk_cell hbox 3 rfl; have r4 : v9.frozen? ⟨w.heap.size, 4, none⟩ = false := blk_free hres 4; have z4 : v9.cell? ⟨w.heap.size, 4, none⟩ = some (.slice none 0 0) := blk_cell hres 4 rfl; have b4 : v9.cell? ⟨A, 4, none⟩ = some (.slice ba bn bc) := blk_cell hbox 4 rfl; have r5 : v9.frozen? ⟨w.heap.size, 5, none⟩ = false := blk_free hres 5; have z5 : v9.cell? ⟨w.heap.size, 5, none⟩ = some (.slice none 0 0) := blk_cell hres 5 rfl; have b5 : v9.cell? ⟨A, 5, none⟩ = some (.slice oa k oc) := blk_cell hbox 5 rfl; clear b9 hres hbox)
                  obtain ⟨k9, g9⟩ := over6 (.int .u64 fl) (.int .u64 nx) (.int .i64 (cu - 1)) (.int .i64 (la - 1)) (.slice ba bn bc) (.slice oa k oc) HQ9.out.res
                  refine bodyPost_ret (v := .tuple #[.agg #[.int .u64 fl, .int .u64 nx, .int .i64 (cu - 1), .int .i64 (la - 1), .slice ba bn bc, .slice oa k oc], .int .i64 0]) (res5 k9 rfl rfl) rfl ?_
                  refine ⟨?_, HQ9.out.gr.grown g9 HQ9.out.gr.size (fun i hi => by cases hi; exact Nat.le_refl _)⟩
                  unfold RdV
                  rw [HRN.out]
                  exact ⟨ba, bn, bc, oa, k, oc, ls, rfl, (HOW9.out.kept g9 (fun i hi => by cases hi; have := HQ9.out.lt; omega)).low (by have := HQ9.out.lt; omega)⟩
      | some bs =>
        obtain ⟨hst, _⟩ := hst
        subst hst
        have HTK := hide (show n - bn = n - (bn + 1) + 1 by omega)
        have hkb : bn < 4097 := by have := HNB.out; omega
        have HCa := hide (fun u (h : RwAt u w.heap.size (w.heap.size + 1) zs (some bs)) => rnum_any w.heap.size (w.heap.size + 1) 1 6 zs (some bs) u h (by omega) (by omega) HZL.out (by omega) (by omega))
        have HGa := hide (fun u (h : RwAt u w.heap.size (w.heap.size + 1) zs (some bs)) => numQ_ge (n := 1) (m := 6) (by omega) h.bytR)
        obtain ⟨⟨ca, t1⟩, ha⟩ : ∃ x, numQ 1 6 (some bs) = x := ⟨_, rfl⟩
        rw [ha] at HCa HGa
        simp only at HCa HGa
        have HCb := hide (fun u (h : RwAt u w.heap.size (w.heap.size + 1) zs t1) => rnum_any w.heap.size (w.heap.size + 1) 6 281474976710655 zs t1 u h (by omega) (by omega) HZL.out (by omega) (by omega))
        have HGb := hide (fun u (h : RwAt u w.heap.size (w.heap.size + 1) zs t1) => numQ_ge (n := 6) (m := 281474976710655) (by omega) h.bytR)
        obtain ⟨⟨cb, t2⟩, hb⟩ : ∃ x, numQ 6 281474976710655 t1 = x := ⟨_, rfl⟩
        rw [hb] at HCb HGb
        simp only at HCb HGb
        have HCc := hide (fun u (h : RwAt u w.heap.size (w.heap.size + 1) zs t2) => rnum_any w.heap.size (w.heap.size + 1) 1 1 zs t2 u h (by omega) (by omega) HZL.out (by omega) (by omega))
        have HGc := hide (fun u (h : RwAt u w.heap.size (w.heap.size + 1) zs t2) => numQ_ge (n := 1) (m := 1) (by omega) h.bytR)
        obtain ⟨⟨cc, t3⟩, hc⟩ : ∃ x, numQ 1 1 t2 = x := ⟨_, rfl⟩
        rw [hc] at HCc HGc
        simp only at HCc HGc
        have HCd := hide (fun u (h : RwAt u w.heap.size (w.heap.size + 1) zs t3) => rnum_any w.heap.size (w.heap.size + 1) 2 256 zs t3 u h (by omega) (by omega) HZL.out (by omega) (by omega))
        have HGd := hide (fun u (h : RwAt u w.heap.size (w.heap.size + 1) zs t3) => numQ_ge (n := 2) (m := 256) (by omega) h.bytR)
        obtain ⟨⟨cd, t4⟩, hd⟩ : ∃ x, numQ 2 256 t3 = x := ⟨_, rfl⟩
        rw [hd] at HCd HGd
        simp only at HCd HGd
        have HCK : Hid (blkQ (some bs) = (⟨ca, cb, cc == 1, cd⟩, t4)) := by show _ = _; unfold blkQ; rw [ha]; simp only; rw [hb]; simp only; rw [hc]; simp only; rw [hd]
        obtain ⟨fg, hfg⟩ : ∃ fg, (cc == 1) = fg := ⟨_, rfl⟩
        rw [hfg] at HCK
        clear ha hb hc hd
        go_wp2_with (first
          | (have h9 := HCa; clear h9; go_at_call 14; refine (HCa.out _ HQ.out.rd).mono ?_; rintro e y1 ⟨rfl, rd, g⟩
             have hb := HQ.out.call g rd
             have hlt := hb.lt
             have ho := own_q HOB.out g (by omega)
             have hob := ho.lt
             have HFR := hide (show ∀ i, Value.ownBlock (.slice ba bn bc) = some i → i ≠ y1.heap.size from fun i hi => by have := (hob i hi).2; omega)
             have HX1 := hide (heap_alloc_new y1 (.cells #[.int .i64 ca, .int .u64 0, .bool false, .int .i64 0] 48))
             have HAX := hide (lt_of_block hb.box)
             have HQ1 := hide (hb.alloc (.cells #[.int .i64 ca, .int .u64 0, .bool false, .int .i64 0] 48))
             have HO1 := hide (own_bel ho (below_alloc y1 (.cells #[.int .i64 ca, .int .u64 0, .bool false, .int .i64 0] 48)))
             clear HCa rd g hb ho hob hlt)
          | (have h9 := HQ1; clear h9; go_at_call 14; refine (HCb.out _ HQ1.out.rd).mono ?_; rintro e y2 ⟨rfl, rd, g⟩
             have hv := HGb.out _ HQ1.out.rd
             have hwb : IntKind.u64.wrap cb = cb := by rw [IntKind.wrap_u64]; omega
             have hb := HQ1.out.call g rd
             have hlt := hb.lt
             have hx : y2.heap[y1.heap.size]? = some (.cells #[.int .i64 ca, .int .u64 0, .bool false, .int .i64 0] 48 (0, 0)) := (g.block _ (lt_of_block HX1.out) (fun e => by have := Option.some.inj e; have := HAX.out; omega)).trans HX1.out
             have w1 := blk_cell hx 1 rfl
             have z1 := blk_free hx 1
             have HX2 : Hid ((y2.setCell ⟨y1.heap.size, 1, none⟩ (.int .u64 cb)).heap[y1.heap.size]? = some (.cells #[.int .i64 ca, .int .u64 cb, .bool false, .int .i64 0] 48 (0, 0))) := blk3_set hx _
             have HQ2 := hide (hb.side y1.heap.size 1 (.int .u64 cb) HAX.out)
             have HO2 := hide (own_side (own_q HO1.out g (by omega)) 1 (.int .u64 cb) HFR.out)
             clear HQ1 HO1 rd g hb hx hv hlt)
          | (have h9 := HQ2; clear h9; go_at_call 14; refine (HCc.out _ HQ2.out.rd).mono ?_; rintro e y3 ⟨rfl, rd, g⟩
             have hb := HQ2.out.call g rd
             have hlt := hb.lt
             have hx : y3.heap[y1.heap.size]? = some (.cells #[.int .i64 ca, .int .u64 cb, .bool false, .int .i64 0] 48 (0, 0)) := (g.block _ (lt_of_block HX2.out) (fun e => by have := Option.some.inj e; have := HAX.out; omega)).trans HX2.out
             have w2 := blk_cell hx 2 rfl
             have z2 := blk_free hx 2
             have HX3 : Hid ((y3.setCell ⟨y1.heap.size, 2, none⟩ (.bool fg)).heap[y1.heap.size]? = some (.cells #[.int .i64 ca, .int .u64 cb, .bool fg, .int .i64 0] 48 (0, 0))) := blk3_set hx _
             have HQ3 := hide (hb.side y1.heap.size 2 (.bool fg) HAX.out)
             have HO3 := hide (own_side (own_q HO2.out g (by omega)) 2 (.bool fg) HFR.out)
             clear HQ2 HO2 rd g hb hx hlt)
          | (have h9 := HQ3; clear h9; go_at_call 14; refine (HCd.out _ HQ3.out.rd).mono ?_; rintro e y4 ⟨rfl, rd, g⟩
             have hb := HQ3.out.call g rd
             have hlt := hb.lt
             have hx : y4.heap[y1.heap.size]? = some (.cells #[.int .i64 ca, .int .u64 cb, .bool fg, .int .i64 0] 48 (0, 0)) := (g.block _ (lt_of_block HX3.out) (fun e => by have := Option.some.inj e; have := HAX.out; omega)).trans HX3.out
             have j0' : y4.cell? ⟨y1.heap.size, 0, none⟩ = some (.int .i64 ca) := blk_cell hx 0 rfl
             have j1' : y4.cell? ⟨y1.heap.size, 1, none⟩ = some (.int .u64 cb) := blk_cell hx 1 rfl
             have j2' : y4.cell? ⟨y1.heap.size, 2, none⟩ = some (.bool fg) := blk_cell hx 2 rfl
             have j3' : y4.cell? ⟨y1.heap.size, 3, none⟩ = some (.int .i64 0) := blk_cell hx 3 rfl
             have z3 := blk_free hx 3
             have b4 : y4.cell? ⟨A, 4, none⟩ = some (.slice ba bn bc) := blk_cell hb.box 4 rfl
             have n1 : ¬ A = y1.heap.size := by have := HAX.out; omega
             have n2 : ¬ y1.heap.size = A := fun e => n1 e.symm
             have hq := hb.side y1.heap.size 3 (.int .i64 cd) HAX.out
             have ho := own_side (own_q HO3.out g (by omega)) 3 (.int .i64 cd) HFR.out
             have HQ4 := hide (hq.alloc (.cells #[.int .i64 ca, .int .u64 cb, .bool fg, .int .i64 cd] 48))
             have HO4 := hide (own_bel ho (below_alloc _ (.cells #[.int .i64 ca, .int .u64 cb, .bool fg, .int .i64 cd] 48)))
             have HSZ4 := hide (show A + 1 ≤ _ from lt_of_block HQ4.out.box)
             clear HQ3 HO3 rd g hb hx hq ho hlt)
          | (at_builtin; refine wpList_append_own ((y4.setCell ⟨y1.heap.size, 3, none⟩ (.int .i64 cd)).alloc (.cells #[.int .i64 ca, .int .u64 cb, .bool fg, .int .i64 cd] 48)) rfl (.tmp 57) (.tmp 59) 24 rfl (A + 1) 48 i0 _ 4 32 Try.underlying24 HI.out.1 HI.out.2.1 HI.out.2.2.1 HI.out.2.2.2 rfl (by decide) (.slice ba bn bc) bn (flatBlk l) rfl HO4.out ⟨y4.heap.size, 0, none⟩ 1 1 [.int .i64 ca, .int .u64 cb, .bool fg, .int .i64 cd] rfl rfl (news4 _ _ _ _ _ _ _ (by simp)) (by simp [Value.oneCell']) (by simp only [maxLen]; omega) (by omega) HSZ4.out ?_; intro v8 t8 own8 grow8 _h8
             obtain ⟨ga, gc, rfl⟩ := own_slice own8
             have hb := HQ4.out.far grow8 (fun i hi => by have := own_far HO4.out i hi; omega)
             have b4n : t8.cell? ⟨A, 4, none⟩ = some (.slice ba bn bc) := blk_cell hb.box 4 rfl
             have f4 := blk_free hb.box 4
             have HQ5 : Hid (Rq w (t8.setCell ⟨A, 4, none⟩ (.slice ga (bn + 1) gc)) A #[.int .u64 fl, .int .u64 nx, .int .i64 (cu - 1), .int .i64 (la - 1), .slice ga (bn + 1) gc, .slice none 0 0] zs t4) := hb.store 4 _
             have HO5 := hide (own_set own8 A 4 (.slice ga (bn + 1) gc) (Nat.lt_succ_self _))
             have HSZ5 := hide (show A + 1 ≤ (t8.setCell ⟨A, 4, none⟩ (.slice ga (bn + 1) gc)).heap.size from lt_of_block HQ5.out.box)
             clear own8 grow8 _h8 hb))
        go_roundw
        case rel => exact ⟨bn + 1, l ++ [⟨ca, cb, fg, cd⟩], t4, ga, gc, by omega, by go_num, by show _ = _; rw [List.length_append, HLK.out]; rfl, HQ5, by show World.ownsRow _ _ _ _ _ _ _; rw [flatBlk_add]; exact HO5.out, HSZ5, by show _ = _; rw [HTQ.out, HTK.out, timesQ, HCK.out]⟩
        case measure => simp [intOf]; omega
    · have e9 : decide ((bn : Int) < n) = false := decide_eq_false (by omega)
      have HB6 := hide (show timesQ blkQ n [] s5 = (l, st) by rw [HTQ.out, show n - bn = 0 by omega]; rfl)
      have hbl6 := HBL.out
      simp only [Int.toNat_natCast] at hbl6
      rw [HB6.out] at hbl6
      cases hbl6
      have HBN : Hid (bl.length = bn) := HLK
      go_upto_region 17 with (have h9 := HQ; clear h9; go_at_call 14; refine (HC6.out _ HQ.out.rd).mono ?_; rintro e u6 ⟨rfl, rd, g⟩; have hv := HG6.out _ HQ.out.rd; have HNE1 := hide (HNE.out _ rd); obtain ⟨m, hm⟩ : ∃ m : Nat, no = m := ⟨no.toNat, by omega⟩; have HNM := hide (show m ≤ 1048575 by omega); have HN6 := hide hm; have hlt := HQ.out.lt; have HQ0 := hide (HQ.out.call g rd); have HOB0 := hide (own_q HOB.out g (by omega)); clear rd g hv hm hlt)
      have hm := HN6.out
      subst hm
      have HNE2 := hide (fun (h : 0 < m) => HNE1.out (by omega))
      clear HN6 HNE1 HNE HQ HOB HB6
      clear HC6
      go_loopw [9] (fun s9 wr => ∃ (k : Nat) (l : List Ob) (ls : List (Ob × Value)) (st : Option (List Int)) (oa : Option Addr) (oc : Nat), k ≤ m ∧ s9 = .int .i64 k ∧ Hid (l.length = k) ∧ Hid (ls.map Prod.fst = l) ∧ Hid (Rq w wr A #[.int .u64 fl, .int .u64 nx, .int .i64 (cu - 1), .int .i64 (la - 1), .slice ba bn bc, .slice oa k oc] zs st) ∧ Hid (wr.ownsRow (A + 1) 48 4 (.slice ba bn bc) bn (flatBlk bl)) ∧ Hid (wr.ownsRow (A + 1) 55 13 (.slice oa k oc) k (flatO ls)) ∧ Hid (ObsOk wr (A + 1) ls) ∧ Hid (timesQ objQ m [] s7' = timesQ objQ (m - k) l st))
        (fun s9 _ => m - (intOf s9).toNat)
      case atStart => exact ⟨0, [], [], s7', none, 0, Nat.zero_le _, rfl, rfl, rfl, HQ0, HOB0, World.ownsRow_nil _ _ _ _, (fun x hx => by cases hx), rfl⟩
      case round =>
        clear HQ0 HOB0
        obtain ⟨k, l, ls, st, oa, oc, hk, rfl, HLK, HLS, HQ, HOB, HOO, HOK, HTQ⟩ := hrel
        have hrd := HQ.out.rd
        obtain ⟨x9, c9, t9, ok9, h0, _, _, _, _, _, _, hst⟩ := hrd
        have co := blk_cell h0 2 rfl
        clear h0
        by_cases hlt : k < m
        · have e9 : (k : Int) < m := by omega
          cases st with
          | none =>
            simp only at hst
            subst hst
            have HST := hide (show stQ zs = (⟨fl, nx, cu - 1, la - 1, bl, l⟩, none) by rw [HSQ.out]; simp only [Int.toNat_natCast]; rw [HTQ.out, timesQ_dead])
            have hres := HQ.out.res
            have hbox := HQ.out.box
            have hlt := HQ.out.lt
            have r0 : wr.frozen? ⟨w.heap.size, 0, none⟩ = false := blk_free hres 0
            have z0 : wr.cell? ⟨w.heap.size, 0, none⟩ = some (.int .u64 0) := blk_cell hres 0 rfl
            have r1 : wr.frozen? ⟨w.heap.size, 1, none⟩ = false := blk_free hres 1
            have z1 : wr.cell? ⟨w.heap.size, 1, none⟩ = some (.int .u64 0) := blk_cell hres 1 rfl
            have r2 : wr.frozen? ⟨w.heap.size, 2, none⟩ = false := blk_free hres 2
            have z2 : wr.cell? ⟨w.heap.size, 2, none⟩ = some (.int .i64 0) := blk_cell hres 2 rfl
            have r3 : wr.frozen? ⟨w.heap.size, 3, none⟩ = false := blk_free hres 3
            have z3 : wr.cell? ⟨w.heap.size, 3, none⟩ = some (.int .i64 0) := blk_cell hres 3 rfl
            have r4 : wr.frozen? ⟨w.heap.size, 4, none⟩ = false := blk_free hres 4
            have z4 : wr.cell? ⟨w.heap.size, 4, none⟩ = some (.slice none 0 0) := blk_cell hres 4 rfl
            have r5 : wr.frozen? ⟨w.heap.size, 5, none⟩ = false := blk_free hres 5
            have z5 : wr.cell? ⟨w.heap.size, 5, none⟩ = some (.slice none 0 0) := blk_cell hres 5 rfl
            have HRN := hide (readQ_none HBZ.out HST.out)
            clear hres hbox
            go_wp2
            obtain ⟨k9, g9⟩ := over6 (.int .u64 0) (.int .u64 0) (.int .i64 0) (.int .i64 0) (.slice none 0 0) (.slice none 0 0) HQ.out.res
            refine bodyPost_ret (v := .tuple #[.agg #[.int .u64 0, .int .u64 0, .int .i64 0, .int .i64 0, .slice none 0 0, .slice none 0 0], .int .i64 140]) (res5 k9 rfl rfl) rfl ?_
            refine ⟨?_, HQ.out.gr.grown g9 HQ.out.gr.size (fun i hi => by cases hi; exact Nat.le_refl _)⟩
            unfold RdV
            rw [HRN.out]
          | some rest =>
            obtain ⟨hst, _⟩ := hst
            subst hst
            have HTK := hide (show m - k = m - (k + 1) + 1 by omega)
            have hkb : k < 1048576 := by have := HNM.out; omega
            have HCO := hide (robj_any w.heap.size (w.heap.size + 1) zs (some rest) (wr.drew) (HQ.out.rd.below (drewB wr)) HZL.out (HNE2.out (by omega)))
            obtain ⟨⟨⟨id, hd, ⟨xk, xp, xN, xz, xm, xs, xh, xT⟩, ⟨p1, p2⟩, ch⟩, t1⟩, ht1⟩ : ∃ x, objQ (some rest) = x := ⟨_, rfl⟩
            rw [ht1] at HCO
            have HT1 := hide ht1
            have hbd := HQ.out.below (drewB wr)
            have eL0 : wr.drew.cell? ⟨A, 5, none⟩ = some (.slice oa k oc) := blk_cell hbd.box 5 rfl
            have HQd := hide hbd
            have HOBd := hide (own_bel HOB.out (drewB wr))
            have HOOd := hide (own_bel HOO.out (drewB wr))
            have HOKd := hide (HOK.out.oth (grown_of (drewB wr) none) (oth_none wr (A + 1) 71) (Nat.le_refl _))
            clear ht1 hbd HQ HOB HOO HOK
            go_upto_region 19 with fail
            refine wp_region_held_drew (S := (fun _ => True)) (by kernel_rfl) (trivial) (fun hHeld => ?_)
            refine tk 0 ?_
            refine tk 2 ?_
            refine rn2 1 3 (fun K hK => ?qa1z) (fun K hK => ?qb1z)
            case' qa1z =>
              go_simp
              go_wp2_with fail
              have hSnew := hHeld
              refine hK.out _ _ hSnew (fun hHeldN => ?_)
              clear hK K hSnew
              clear hHeld
              have hHeld := hHeldN
              clear hHeldN
              try simp only [Act.put, List.setIfInBounds_toArray, List.set_cons_zero, List.set_cons_succ]
              refine rn1 3 (fun K hK => ?_)
              go_simp
              go_at_call 15
              refine HCO.out.mono ?_
              rintro e x9 ⟨⟨va, vc, rfl, own⟩, rd, g, hchl⟩
              simp only at own hchl rd
              have hb := HQd.out.call g rd
              have eL1 : x9.cell? ⟨A, 5, none⟩ = some (.slice oa k oc) := blk_cell hb.box 5 rfl
              have hba := hb.alloc (.cells #[.int .i64 id, .bool hd, .int .i64 xk, .int .i64 xp, .string xN, .int .i64 xz, .int .i64 xm, .int .u64 xs, .int .i64 xh, .string xT, .int .i64 p1, .int .i64 p2, .slice va ch.length vc] 55)
              have eL2 : (x9.alloc (.cells #[.int .i64 id, .bool hd, .int .i64 xk, .int .i64 xp, .string xN, .int .i64 xz, .int .i64 xm, .int .u64 xs, .int .i64 xh, .string xT, .int .i64 p1, .int .i64 p2, .slice va ch.length vc] 55)).cell? ⟨A, 5, none⟩ = some (.slice oa k oc) := blk_cell hba.box 5 rfl
              have hlt := hb.lt
              have HQ9 := hide hba
              have hb9 := below_alloc x9 (.cells #[.int .i64 id, .bool hd, .int .i64 xk, .int .i64 xp, .string xN, .int .i64 xz, .int .i64 xm, .int .u64 xs, .int .i64 xh, .string xT, .int .i64 p1, .int .i64 p2, .slice va ch.length vc] 55)
              have HOB9 := hide (own_bel (own_q HOBd.out g (by omega)) hb9)
              have HOO9 := hide (own_bel (own_q HOOd.out g (by omega)) hb9)
              have HOK9 := hide ((HOKd.out.oth g (oth_lt 71 (by omega : w.heap.size + 1 < A + 1)) (Nat.le_refl _)).oth (grown_of hb9 none) (oth_none x9 (A + 1) 71) (Nat.le_refl _))
              have HOW9 := hide (own_low (own_bel own hb9) (show A + 1 ≤ wr.drew.heap.size from lt_of_block HQd.out.box))
              have HSZ9 := hide (show A + 1 ≤ (x9.alloc (.cells #[.int .i64 id, .bool hd, .int .i64 xk, .int .i64 xp, .string xN, .int .i64 xz, .int .i64 xm, .int .u64 xs, .int .i64 xh, .string xT, .int .i64 p1, .int .i64 p2, .slice va ch.length vc] 55)).heap.size from lt_of_block hba.box)
              clear own rd g hchl hb hba hb9 hlt
              go_wp2_with fail
              have hSnew := hHeld
              refine hK.out _ _ hSnew (fun hHeldN => ?_)
              clear hK K hSnew
              clear hHeld
              have hHeld := hHeldN
              clear hHeldN
              try simp only [Act.put, List.setIfInBounds_toArray, List.set_cons_zero, List.set_cons_succ]
              refine rn1 4 (fun K hK => ?_)
              go_simp
              go_wp2_with fail
              have hSnew := hHeld
              refine hK.out _ _ hSnew (fun hHeldN => ?_)
              clear hK K hSnew
              clear hHeld
              have hHeld := hHeldN
              clear hHeldN
              try simp only [Act.put, List.setIfInBounds_toArray, List.set_cons_zero, List.set_cons_succ]
            case' qb1z =>
              go_simp
              go_at_call 15
              refine HCO.out.mono ?_
              rintro e x9 ⟨⟨va, vc, rfl, own⟩, rd, g, hchl⟩
              simp only at own hchl rd
              have hb := HQd.out.call g rd
              have eL1 : x9.cell? ⟨A, 5, none⟩ = some (.slice oa k oc) := blk_cell hb.box 5 rfl
              have hba := hb.alloc (.cells #[.int .i64 id, .bool hd, .int .i64 xk, .int .i64 xp, .string xN, .int .i64 xz, .int .i64 xm, .int .u64 xs, .int .i64 xh, .string xT, .int .i64 p1, .int .i64 p2, .slice va ch.length vc] 55)
              have eL2 : (x9.alloc (.cells #[.int .i64 id, .bool hd, .int .i64 xk, .int .i64 xp, .string xN, .int .i64 xz, .int .i64 xm, .int .u64 xs, .int .i64 xh, .string xT, .int .i64 p1, .int .i64 p2, .slice va ch.length vc] 55)).cell? ⟨A, 5, none⟩ = some (.slice oa k oc) := blk_cell hba.box 5 rfl
              have hlt := hb.lt
              have HQ9 := hide hba
              have hb9 := below_alloc x9 (.cells #[.int .i64 id, .bool hd, .int .i64 xk, .int .i64 xp, .string xN, .int .i64 xz, .int .i64 xm, .int .u64 xs, .int .i64 xh, .string xT, .int .i64 p1, .int .i64 p2, .slice va ch.length vc] 55)
              have HOB9 := hide (own_bel (own_q HOBd.out g (by omega)) hb9)
              have HOO9 := hide (own_bel (own_q HOOd.out g (by omega)) hb9)
              have HOK9 := hide ((HOKd.out.oth g (oth_lt 71 (by omega : w.heap.size + 1 < A + 1)) (Nat.le_refl _)).oth (grown_of hb9 none) (oth_none x9 (A + 1) 71) (Nat.le_refl _))
              have HOW9 := hide (own_low (own_bel own hb9) (show A + 1 ≤ wr.drew.heap.size from lt_of_block HQd.out.box))
              have HSZ9 := hide (show A + 1 ≤ (x9.alloc (.cells #[.int .i64 id, .bool hd, .int .i64 xk, .int .i64 xp, .string xN, .int .i64 xz, .int .i64 xm, .int .u64 xs, .int .i64 xh, .string xT, .int .i64 p1, .int .i64 p2, .slice va ch.length vc] 55)).heap.size from lt_of_block hba.box)
              clear own rd g hchl hb hba hb9 hlt
              go_wp2_with fail
              have hSnew := hHeld
              refine hK.out _ _ hSnew (fun hHeldN => ?_)
              clear hK K hSnew
              clear hHeld
              have hHeld := hHeldN
              clear hHeldN
              try simp only [Act.put, List.setIfInBounds_toArray, List.set_cons_zero, List.set_cons_succ]
              refine rn2 1 4 (fun K hK => ?qa2z) (fun K hK => ?qb2z)
              case' qa2z =>
                go_simp
                go_wp2_with fail
                have hSnew := hHeld
                refine hK.out _ _ hSnew (fun hHeldN => ?_)
                clear hK K hSnew
                clear hHeld
                have hHeld := hHeldN
                clear hHeldN
                try simp only [Act.put, List.setIfInBounds_toArray, List.set_cons_zero, List.set_cons_succ]
                refine rn1 4 (fun K hK => ?_)
                go_simp
                go_wp2_with fail
                have hSnew := hHeld
                refine hK.out _ _ hSnew (fun hHeldN => ?_)
                clear hK K hSnew
                clear hHeld
                have hHeld := hHeldN
                clear hHeldN
                try simp only [Act.put, List.setIfInBounds_toArray, List.set_cons_zero, List.set_cons_succ]
              case' qb2z =>
                go_simp
                go_wp2_with fail
                have hSnew := hHeld
                refine hK.out _ _ hSnew (fun hHeldN => ?_)
                clear hK K hSnew
                clear hHeld
                have hHeld := hHeldN
                clear hHeldN
                try simp only [Act.put, List.setIfInBounds_toArray, List.set_cons_zero, List.set_cons_succ]
                refine rn1 1 (fun K hK => ?_)
                go_simp
                go_wp2_with fail
                have hSnew := hHeld
                refine hK.out _ _ hSnew (fun hHeldN => ?_)
                clear hK K hSnew
                clear hHeld
                have hHeld := hHeldN
                clear hHeldN
                try simp only [Act.put, List.setIfInBounds_toArray, List.set_cons_zero, List.set_cons_succ]
            all_goals
              refine rn1 5 (fun K hK => ?_)
              refine wp_append_own _ (.tmp 76) (.tmp 79) 25 rfl (A + 1) 55 j0 _ 13 136 Try.underlying25 HJ.out.1 HJ.out.2.1 HJ.out.2.2.1 HJ.out.2.2.2 rfl (by decide) (.slice oa k oc) k (flatO ls) rfl HOO9.out ⟨x9.heap.size, 0, none⟩ 1 1 [.int .i64 id, .bool hd, .int .i64 xk, .int .i64 xp, .string xN, .int .i64 xz, .int .i64 xm, .int .u64 xs, .int .i64 xh, .string xT, .int .i64 p1, .int .i64 p2, .slice va ch.length vc] rfl rfl (list_news x9 55 [.int .i64 id, .bool hd, .int .i64 xk, .int .i64 xp, .string xN, .int .i64 xz, .int .i64 xm, .int .u64 xs, .int .i64 xh, .string xT, .int .i64 p1, .int .i64 p2, .slice va ch.length vc]) (by simp [Value.oneCell']) (by simp only [maxLen]; omega) (by omega) HSZ9.out ?_
              intro v8 t8 own8 grow8 _h8
              obtain ⟨ga, gc, rfl⟩ := own_slice own8
              have hb := HQ9.out.far grow8 (fun i hi => by have := own_far HOO9.out i hi; omega)
              have b5 : t8.cell? ⟨A, 5, none⟩ = some (.slice oa k oc) := blk_cell hb.box 5 rfl
              have f5 : t8.frozen? ⟨A, 5, none⟩ = false := blk_free hb.box 5
              have HQ5 : Hid (Rq w (t8.setCell ⟨A, 5, none⟩ (.slice ga (k + 1) gc)) A #[.int .u64 fl, .int .u64 nx, .int .i64 (cu - 1), .int .i64 (la - 1), .slice ba bn bc, .slice ga (k + 1) gc] zs t1) := hb.store 5 _
              have ho48 : Oth (x9.alloc (.cells #[.int .i64 id, .bool hd, .int .i64 xk, .int .i64 xp, .string xN, .int .i64 xz, .int .i64 xm, .int .u64 xs, .int .i64 xh, .string xT, .int .i64 p1, .int .i64 p2, .slice va ch.length vc] 55)) (Value.ownBlock (.slice oa k oc)) (A + 1) 48 := oth_own HOO9.out (by decide)
              have ho71 : Oth (x9.alloc (.cells #[.int .i64 id, .bool hd, .int .i64 xk, .int .i64 xp, .string xN, .int .i64 xz, .int .i64 xm, .int .u64 xs, .int .i64 xh, .string xT, .int .i64 p1, .int .i64 p2, .slice va ch.length vc] 55)) (Value.ownBlock (.slice oa k oc)) (A + 1) 71 := oth_own HOO9.out (by decide)
              have HOB5 := hide (own_set (own_oth HOB9.out grow8 ho48 (Nat.le_refl _)) A 5 (.slice ga (k + 1) gc) (Nat.lt_succ_self _))
              have HOO5 := hide (own_set own8 A 5 (.slice ga (k + 1) gc) (Nat.lt_succ_self _))
              have HOK5 := hide (show ObsOk (t8.setCell ⟨A, 5, none⟩ (.slice ga (k + 1) gc)) (A + 1) (ls ++ [(⟨id, hd, ⟨xk, xp, xN, xz, xm, xs, xh, xT⟩, (p1, p2), ch⟩, .slice va ch.length vc)]) from fun y hy => (List.mem_append.1 hy).elim (fun h3 => own_set ((HOK9.out.oth grow8 ho71 (Nat.le_refl _)) y h3) A 5 _ (Nat.lt_succ_self _)) (fun h3 => by rw [List.mem_singleton] at h3; subst h3; exact own_set (own_oth HOW9.out grow8 ho71 (Nat.le_refl _)) A 5 _ (Nat.lt_succ_self _)))
              have hSnew : (fun _ : World => True) t8 := trivial
              clear own8 grow8 _h8 hb ho48 ho71
              refine hK.out _ _ hSnew (fun hHeldN => ?_)
              clear hK K hSnew
              clear hHeld
              have hHeld := hHeldN
              clear hHeldN
              try simp only [Act.put, List.setIfInBounds_toArray, List.set_cons_zero, List.set_cons_succ]
              refine tk 6 ?_
              refine rn1 7 (fun K hK => ?_)
              go_simp
              go_wp2_with fail
              have hSnew := hHeld
              refine hK.out _ _ hSnew (fun hHeldN => ?_)
              clear hK K hSnew
              clear hHeld
              have hHeld := hHeldN
              clear hHeldN
              try simp only [Act.put, List.setIfInBounds_toArray, List.set_cons_zero, List.set_cons_succ]
              refine wpAnyH_done (by kernel_rfl) ?_ _
              clear hHeld
              go_wp2
              go_roundw
              case rel => exact ⟨k + 1, l ++ [⟨id, hd, ⟨xk, xp, xN, xz, xm, xs, xh, xT⟩, (p1, p2), ch⟩], ls ++ [(⟨id, hd, ⟨xk, xp, xN, xz, xm, xs, xh, xT⟩, (p1, p2), ch⟩, .slice va ch.length vc)], t1, ga, gc, by omega, by go_num, by show _ = _; rw [List.length_append, HLK.out]; rfl, by show _ = _; rw [List.map_append, HLS.out]; rfl, HQ5, HOB5, by show World.ownsRow _ _ _ _ _ _ _; rw [flatO_add]; exact HOO5.out, HOK5, by show _ = _; rw [HTQ.out, HTK.out, timesQ, HT1.out]⟩
              case measure => simp [intOf]; omega
        · have e9 : decide ((k : Int) < m) = false := decide_eq_false (by omega)
          have hkm : k = m := by omega
          have HST := hide (show stQ zs = (⟨fl, nx, cu - 1, la - 1, bl, l⟩, st) by rw [HSQ.out]; simp only [Int.toNat_natCast]; rw [HTQ.out, show m - k = 0 by omega]; rfl)
          clear hkm
          cases st with
          | none =>
            simp only at hst
            subst hst
            have hres := HQ.out.res
            have hbox := HQ.out.box
            have hlt := HQ.out.lt
            have r0 : wr.frozen? ⟨w.heap.size, 0, none⟩ = false := blk_free hres 0
            have z0 : wr.cell? ⟨w.heap.size, 0, none⟩ = some (.int .u64 0) := blk_cell hres 0 rfl
            have r1 : wr.frozen? ⟨w.heap.size, 1, none⟩ = false := blk_free hres 1
            have z1 : wr.cell? ⟨w.heap.size, 1, none⟩ = some (.int .u64 0) := blk_cell hres 1 rfl
            have r2 : wr.frozen? ⟨w.heap.size, 2, none⟩ = false := blk_free hres 2
            have z2 : wr.cell? ⟨w.heap.size, 2, none⟩ = some (.int .i64 0) := blk_cell hres 2 rfl
            have r3 : wr.frozen? ⟨w.heap.size, 3, none⟩ = false := blk_free hres 3
            have z3 : wr.cell? ⟨w.heap.size, 3, none⟩ = some (.int .i64 0) := blk_cell hres 3 rfl
            have r4 : wr.frozen? ⟨w.heap.size, 4, none⟩ = false := blk_free hres 4
            have z4 : wr.cell? ⟨w.heap.size, 4, none⟩ = some (.slice none 0 0) := blk_cell hres 4 rfl
            have r5 : wr.frozen? ⟨w.heap.size, 5, none⟩ = false := blk_free hres 5
            have z5 : wr.cell? ⟨w.heap.size, 5, none⟩ = some (.slice none 0 0) := blk_cell hres 5 rfl
            have HRN := hide (readQ_none HBZ.out HST.out)
            clear hres hbox
            go_wp2
            obtain ⟨k9, g9⟩ := over6 (.int .u64 0) (.int .u64 0) (.int .i64 0) (.int .i64 0) (.slice none 0 0) (.slice none 0 0) HQ.out.res
            refine bodyPost_ret (v := .tuple #[.agg #[.int .u64 0, .int .u64 0, .int .i64 0, .int .i64 0, .slice none 0 0, .slice none 0 0], .int .i64 140]) (res5 k9 rfl rfl) rfl ?_
            refine ⟨?_, HQ.out.gr.grown g9 HQ.out.gr.size (fun i hi => by cases hi; exact Nat.le_refl _)⟩
            unfold RdV
            rw [HRN.out]
          | some rest =>
            clear hst co
            have hres := HQ.out.res
            have hbox := HQ.out.box
            have hlt := HQ.out.lt
            have r0 : wr.frozen? ⟨w.heap.size, 0, none⟩ = false := blk_free hres 0
            have z0 : wr.cell? ⟨w.heap.size, 0, none⟩ = some (.int .u64 0) := blk_cell hres 0 rfl
            have r1 : wr.frozen? ⟨w.heap.size, 1, none⟩ = false := blk_free hres 1
            have z1 : wr.cell? ⟨w.heap.size, 1, none⟩ = some (.int .u64 0) := blk_cell hres 1 rfl
            have r2 : wr.frozen? ⟨w.heap.size, 2, none⟩ = false := blk_free hres 2
            have z2 : wr.cell? ⟨w.heap.size, 2, none⟩ = some (.int .i64 0) := blk_cell hres 2 rfl
            have r3 : wr.frozen? ⟨w.heap.size, 3, none⟩ = false := blk_free hres 3
            have z3 : wr.cell? ⟨w.heap.size, 3, none⟩ = some (.int .i64 0) := blk_cell hres 3 rfl
            have r4 : wr.frozen? ⟨w.heap.size, 4, none⟩ = false := blk_free hres 4
            have z4 : wr.cell? ⟨w.heap.size, 4, none⟩ = some (.slice none 0 0) := blk_cell hres 4 rfl
            have r5 : wr.frozen? ⟨w.heap.size, 5, none⟩ = false := blk_free hres 5
            have z5 : wr.cell? ⟨w.heap.size, 5, none⟩ = some (.slice none 0 0) := blk_cell hres 5 rfl
            obtain ⟨x9, c9, t9, ok9, h0, _, _, _, _, _, ht9, ⟨hst, hrest⟩⟩ := HQ.out.rd
            subst hst
            have co2 := blk_cell h0 1 rfl
            have co3 := blk_cell h0 2 rfl
            have HRQ := hide (readQ_some HST.out)
            have HZL2 := HZL
            obtain ⟨len, hlen⟩ : ∃ len, zs.length = len := ⟨_, rfl⟩
            by_cases ht : t9 < zs.length
            · have HRN := hide (show readR zs = none by rw [HRQ.out, if_neg (fun h => by have h8 := h.1; rw [hrest] at h8; have h7 := congrArg List.length h8; rw [List.length_drop] at h7; simp only [List.length_nil] at h7; omega)])
              have d9 : (t9 : Int) < (zs.length : Int) := by omega
              clear hres hbox h0 hrest ht9 hlen ht
              go_wp2
              obtain ⟨k9, g9⟩ := over6 (.int .u64 0) (.int .u64 0) (.int .i64 0) (.int .i64 0) (.slice none 0 0) (.slice none 0 0) HQ.out.res
              refine bodyPost_ret (v := .tuple #[.agg #[.int .u64 0, .int .u64 0, .int .i64 0, .int .i64 0, .slice none 0 0, .slice none 0 0], .int .i64 140]) (res5 k9 rfl rfl) rfl ?_
              refine ⟨?_, HQ.out.gr.grown g9 HQ.out.gr.size (fun i hi => by cases hi; exact Nat.le_refl _)⟩
              unfold RdV
              rw [HRN.out]
            · have hnil : rest = [] := by rw [hrest]; exact List.drop_of_length_le (by omega)
              have d9 : decide ((t9 : Int) < (zs.length : Int)) = false := decide_eq_false (by omega)
              have d9n : decide (t9 < zs.length) = false := decide_eq_false (by omega)
              have HLV := hide (stQ_live HST.out)
              have HSZ2 := hide (state_sz HLV.out HZL.out)
              have HCH2 := hide (state_ch HLV.out HZL.out)
              have hown : StOwn wr (A + 1) ⟨fl, nx, cu - 1, la - 1, bl, l⟩ (.slice ba bn bc) (.slice oa k oc) ls := ⟨by rw [HBN.out]; exact HOB.out, by rw [HLK.out]; exact HOO.out, HOK.out, HLS.out, by simp only [HBN.out]; have := HNB.out; omega, by simp only [HLK.out]; have := HNM.out; omega⟩
              have HOWN := hide hown
              obtain ⟨ba', bc', oa', oc', e1, e2, hon2⟩ := hown.on HSZ2.out (fun x hx => HCH2.out x.1 (by have h1 := HLS.out; simp only; rw [← h1]; exact List.mem_map_of_mem hx))
              simp only [HBN.out, HLK.out] at e1 e2 hon2
              cases e1
              cases e2
              have HSTO := hide hon2
              have b0 : wr.cell? ⟨A, 0, none⟩ = some (.int .u64 fl) := blk_cell hbox 0 rfl
              have b1 : wr.cell? ⟨A, 1, none⟩ = some (.int .u64 nx) := blk_cell hbox 1 rfl
              have b2 : wr.cell? ⟨A, 2, none⟩ = some (.int .i64 (cu - 1)) := blk_cell hbox 2 rfl
              have b3 : wr.cell? ⟨A, 3, none⟩ = some (.int .i64 (la - 1)) := blk_cell hbox 3 rfl
              have b4 : wr.cell? ⟨A, 4, none⟩ = some (.slice ba bn bc) := blk_cell hbox 4 rfl
              have b5 : wr.cell? ⟨A, 5, none⟩ = some (.slice oa k oc) := blk_cell hbox 5 rfl
              subst hnil
              clear hres hbox h0 hrest ht9 hlen ht hown hon2
              cases hm : mayS ⟨fl, nx, cu - 1, la - 1, bl, l⟩ with
              | false =>
                have HRN := hide (show readR zs = none by rw [HRQ.out, if_neg (fun h => by rw [hm] at h; cases h.2)])
                go_wp2_with (go_at_call 16; refine (rmay16 ⟨fl, nx, cu - 1, la - 1, bl, l⟩ ba oa bn k bc oc ls _ HSTO.out).mono ?_; rintro e v9 ⟨rfl, b9⟩; rw [hm]; have HQ9 := hide (HQ.out.below b9); clear r0 r1 r2 r3 r4 r5 z0 z1 z2 z3 z4 z5; have hres := HQ9.out.res; have r0 : v9.frozen? ⟨w.heap.size, 0, none⟩ = false := blk_free hres 0; have z0 : v9.cell? ⟨w.heap.size, 0, none⟩ = some (.int .u64 0) := blk_cell hres 0 rfl; have r1 : v9.frozen? ⟨w.heap.size, 1, none⟩ = false := blk_free hres 1; have z1 : v9.cell? ⟨w.heap.size, 1, none⟩ = some (.int .u64 0) := blk_cell hres 1 rfl; have r2 : v9.frozen? ⟨w.heap.size, 2, none⟩ = false := blk_free hres 2; have z2 : v9.cell? ⟨w.heap.size, 2, none⟩ = some (.int .i64 0) := blk_cell hres 2 rfl; have r3 : v9.frozen? ⟨w.heap.size, 3, none⟩ = false := blk_free hres 3; have z3 : v9.cell? ⟨w.heap.size, 3, none⟩ = some (.int .i64 0) := blk_cell hres 3 rfl; have r4 : v9.frozen? ⟨w.heap.size, 4, none⟩ = false := blk_free hres 4; have z4 : v9.cell? ⟨w.heap.size, 4, none⟩ = some (.slice none 0 0) := blk_cell hres 4 rfl; have r5 : v9.frozen? ⟨w.heap.size, 5, none⟩ = false := blk_free hres 5; have z5 : v9.cell? ⟨w.heap.size, 5, none⟩ = some (.slice none 0 0) := blk_cell hres 5 rfl; clear b9 hres)
                obtain ⟨k9, g9⟩ := over6 (.int .u64 0) (.int .u64 0) (.int .i64 0) (.int .i64 0) (.slice none 0 0) (.slice none 0 0) HQ9.out.res
                refine bodyPost_ret (v := .tuple #[.agg #[.int .u64 0, .int .u64 0, .int .i64 0, .int .i64 0, .slice none 0 0, .slice none 0 0], .int .i64 140]) (res5 k9 rfl rfl) rfl ?_
                refine ⟨?_, HQ9.out.gr.grown g9 HQ9.out.gr.size (fun i hi => by cases hi; exact Nat.le_refl _)⟩
                unfold RdV
                rw [HRN.out]
              | true =>
                have HRN := hide (show readR zs = some ⟨fl, nx, cu - 1, la - 1, bl, l⟩ by rw [HRQ.out, if_pos ⟨rfl, hm⟩])
                have n1 : ¬ A = w.heap.size := by omega
                have n2 : ¬ w.heap.size = A := by omega
                go_wp2_with (go_at_call 16; refine (rmay16 ⟨fl, nx, cu - 1, la - 1, bl, l⟩ ba oa bn k bc oc ls _ HSTO.out).mono ?_; rintro e v9 ⟨rfl, b9⟩; rw [hm]; have HQ9 := hide (HQ.out.below b9); have HOW9 := hide (HOWN.out.kept (grown_of b9 none) (fun k hk => by cases hk)); clear r0 r1 r2 r3 r4 r5 z0 z1 z2 z3 z4 z5 b0 b1 b2 b3 b4 b5; have hres := HQ9.out.res; have hbox := HQ9.out.box; have r0 : v9.frozen? ⟨w.heap.size, 0, none⟩ = false := blk_free hres 0; have z0 : v9.cell? ⟨w.heap.size, 0, none⟩ = some (.int .u64 0) := blk_cell hres 0 rfl; have b0 : v9.cell? ⟨A, 0, none⟩ = some (.int .u64 fl) := blk_cell hbox 0 rfl; have r1 : v9.frozen? ⟨w.heap.size, 1, none⟩ = false := blk_free hres 1; have z1 : v9.cell? ⟨w.heap.size, 1, none⟩ = some (.int .u64 0) := blk_cell hres 1 rfl; have b1 : v9.cell? ⟨A, 1, none⟩ = some (.int .u64 nx) := blk_cell hbox 1 rfl; have r2 : v9.frozen? ⟨w.heap.size, 2, none⟩ = false := blk_free hres 2; have z2 : v9.cell? ⟨w.heap.size, 2, none⟩ = some (.int .i64 0) := blk_cell hres 2 rfl; have b2 : v9.cell? ⟨A, 2, none⟩ = some (.int .i64 (cu - 1)) := blk_cell hbox 2 rfl; have r3 : v9.frozen? ⟨w.heap.size, 3, none⟩ = false := blk_free hres 3; have z3 : v9.cell? ⟨w.heap.size, 3, none⟩ = some (.int .i64 0) := blk_cell hres 3 rfl; have b3 : v9.cell? ⟨A, 3, none⟩ = some (.int .i64 (la - 1)) := blk_cell hbox 3 rfl; have r4 : v9.frozen? ⟨w.heap.size, 4, none⟩ = false := blk_free hres 4; have z4 : v9.cell? ⟨w.heap.size, 4, none⟩ = some (.slice none 0 0) := blk_cell hres 4 rfl; have b4 : v9.cell? ⟨A, 4, none⟩ = some (.slice ba bn bc) := blk_cell hbox 4 rfl; have r5 : v9.frozen? ⟨w.heap.size, 5, none⟩ = false := blk_free hres 5; have z5 : v9.cell? ⟨w.heap.size, 5, none⟩ = some (.slice none 0 0) := blk_cell hres 5 rfl; have b5 : v9.cell? ⟨A, 5, none⟩ = some (.slice oa k oc) := blk_cell hbox 5 rfl; clear b9 hres hbox)
                obtain ⟨k9, g9⟩ := over6 (.int .u64 fl) (.int .u64 nx) (.int .i64 (cu - 1)) (.int .i64 (la - 1)) (.slice ba bn bc) (.slice oa k oc) HQ9.out.res
                refine bodyPost_ret (v := .tuple #[.agg #[.int .u64 fl, .int .u64 nx, .int .i64 (cu - 1), .int .i64 (la - 1), .slice ba bn bc, .slice oa k oc], .int .i64 0]) (res5 k9 rfl rfl) rfl ?_
                refine ⟨?_, HQ9.out.gr.grown g9 HQ9.out.gr.size (fun i hi => by cases hi; exact Nat.le_refl _)⟩
                unfold RdV
                rw [HRN.out]
                exact ⟨ba, bn, bc, oa, k, oc, ls, rfl, (HOW9.out.kept g9 (fun i hi => by cases hi; have := HQ9.out.lt; omega)).low (by have := HQ9.out.lt; omega)⟩
end Go.Proofs.Ytoaahellfflooaa
