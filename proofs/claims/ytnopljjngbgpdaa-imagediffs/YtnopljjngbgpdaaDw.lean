/-
  SEAT Ytnopljjngbgpdaa: ImageDiffs, walked.
-/
import Derived.Test.YtnopljjngbgpdaaDs
import Derived.Test.YtnopljjngbgpdaaW
namespace Go.Proofs.Ytnopljjngbgpdaa
open Go.RowKit
set_option linter.unusedVariables false

theorem own_front {w w0 : World} {B g n c : Nat} {a : Option Addr} {zs : List Int} (h : Own w B g (n + 70) c (room zs 70)) (hr : Reads w0 a n zs) : Reads w (some ⟨g, 0, none⟩) n zs := by
  have q := h.reads (room_range zs 70 hr.2.1) n (by omega)
  rwa [show (room zs 70).take n = zs by rw [room, List.take_left' hr.1]] at q
theorem own_front_le {w : World} {B g n c : Nat} {xs : List Int} (h : Own w B g (n + 70) c xs) : n ≤ c ∧ c ≤ 9223372036854775807 := by
  obtain ⟨h1, h2⟩ := h.room_le (by omega)
  unfold maxLen at h2
  omega

theorem ownB_front {w w0 : World} {B g n c : Nat} {a : Option Addr} {zs : List Bool} (h : OwnB w B g (n + 9) c (roomB zs 9)) (hr : ReadsB w0 a n zs) : ReadsB w (some ⟨g, 0, none⟩) n zs := by
  have q := h.reads n (by omega)
  rwa [show (roomB zs 9).take n = zs by rw [roomB, List.take_left' hr.1]] at q
theorem blk_b {X Y : World} {i : Nat} {o : Obj} (h : X.heap[i]? = some o) (hb : Below X.heap.size X Y) : Y.heap[i]? = some o := (hb.block i (lt_of_b h)).trans h

set_option maxHeartbeats 8000000 in
set_option maxRecDepth 100000 in
theorem diffsWalk (b q s : Int) (a1 a2 : Option Addr) (n1 c1 n2 c2 : Nat) (xs : List Int) (ms : List Bool) (b' q' s' : Int) (a3 a4 : Option Addr) (n3 c3 n4 c4 : Nat) (ys : List Int) (ns : List Bool) (w : World) (h1 : n1 ≤ 140737488351232) (h2 : n2 ≤ 140737488351232) (r1 : Reads w a1 n1 xs) (r2 : ReadsB w a2 n2 ms) (h3 : n3 ≤ 140737488351232) (h4 : n4 ≤ 140737488351232) (r3 : Reads w a3 n3 ys) (r4 : ReadsB w a4 n4 ns) :
    Calls Try.prog 5 #[.agg #[.int .i64 b, .int .i64 q, .int .i64 s, .slice a1 n1 c1, .slice a2 n2 c2], .agg #[.int .i64 b', .int .i64 q', .int .i64 s', .slice a3 n3 c3, .slice a4 n4 c4]] w fun e w' => e = .returned (.bool true) ∧ Below w.heap.size w w' := by
  obtain ⟨E, hE⟩ : ∃ E, difE b q s b' q' s' (chkE b q s n1 n2) (chkE b' q' s' n3 n4) = E := ⟨_, rfl⟩
  have HE : Hid (difE b q s b' q' s' (chkE b q s n1 n2) (chkE b' q' s' n3 n4) = E) := hE
  obtain ⟨E1, hE1⟩ : ∃ E1, chkE b q s n1 n2 = E1 := ⟨_, rfl⟩
  have HE1 : Hid (chkE b q s n1 n2 = E1) := hE1
  have hdl := difD_len (b := b) (q := q) (s := s) (b' := b') (q' := q') (s' := s') (n1 := n1) (n2 := n2) (n3 := n3) (n4 := n4) xs ys ms ns
  rw [hE] at hdl
  obtain ⟨DL, hD⟩ : ∃ DL, difD b q s E xs ys ms ns = DL := ⟨_, rfl⟩
  have HD : Hid (difD b q s E xs ys ms ns = DL) := hD
  rw [hD] at hdl
  obtain ⟨ND, hND⟩ : ∃ ND, DL.length = ND := ⟨_, rfl⟩
  have HND : Hid (DL.length = ND) := hND
  rw [hND] at hdl
  have HR1 : Hid (Reads w a1 n1 xs) := r1
  have HR2 : Hid (ReadsB w a2 n2 ms) := r2
  have HR3 : Hid (Reads w a3 n3 ys) := r3
  have HR4 : Hid (ReadsB w a4 n4 ns) := r4
  have hb0 : Below w.heap.size w ((w.alloc (.cells #[.int .i64 b, .int .i64 q, .int .i64 s, .slice a1 n1 c1, .slice a2 n2 c2] 27)).alloc (.cells #[.int .i64 b', .int .i64 q', .int .i64 s', .slice a3 n3 c3, .slice a4 n4 c4] 27)) := below_trans (below_alloc w _) (below_alloc _ _)
  have HB0 : Hid (Below w.heap.size w ((w.alloc (.cells #[.int .i64 b, .int .i64 q, .int .i64 s, .slice a1 n1 c1, .slice a2 n2 c2] 27)).alloc (.cells #[.int .i64 b', .int .i64 q', .int .i64 s', .slice a3 n3 c3, .slice a4 n4 c4] 27))) := hb0
  have HP0 : Hid (((w.alloc (.cells #[.int .i64 b, .int .i64 q, .int .i64 s, .slice a1 n1 c1, .slice a2 n2 c2] 27)).alloc (.cells #[.int .i64 b', .int .i64 q', .int .i64 s', .slice a3 n3 c3, .slice a4 n4 c4] 27)).heap[w.heap.size]? = some (.cells #[.int .i64 b, .int .i64 q, .int .i64 s, .slice a1 n1 c1, .slice a2 n2 c2] 27 (0, 0))) := (Below.heap_alloc _ _ _ (by simp)).trans (heap_alloc_new w _)
  have HQ0 : Hid (((w.alloc (.cells #[.int .i64 b, .int .i64 q, .int .i64 s, .slice a1 n1 c1, .slice a2 n2 c2] 27)).alloc (.cells #[.int .i64 b', .int .i64 q', .int .i64 s', .slice a3 n3 c3, .slice a4 n4 c4] 27)).heap[w.heap.size + 1]? = some (.cells #[.int .i64 b', .int .i64 q', .int .i64 s', .slice a3 n3 c3, .slice a4 n4 c4] 27 (0, 0))) := by
    have h9 := heap_alloc_new (w.alloc (.cells #[.int .i64 b, .int .i64 q, .int .i64 s, .slice a1 n1 c1, .slice a2 n2 c2] 27)) (.cells #[.int .i64 b', .int .i64 q', .int .i64 s', .slice a3 n3 c3, .slice a4 n4 c4] 27); rw [World.size_alloc] at h9; exact h9
  obtain ⟨c0, c1', cz, c3', c4'⟩ := cells5 HP0.out
  obtain ⟨d0, d1, dz, d3, d4⟩ := cells5 HQ0.out
  have HNN : Hid (n1 ≤ 140737488351232 ∧ n2 ≤ 140737488351232 ∧ n3 ≤ 140737488351232 ∧ n4 ≤ 140737488351232) := ⟨h1, h2, h3, h4⟩
  have T1 : Hid True := trivial
  have T2 : Hid True := trivial
  clear r1 r2 r3 r4 hE hE1 hD hND hb0
  go_enter Try.func5, Try.ntmps5
  go_upto_region 8 with (first
    | (go_at_call 15; refine (rdiff_any b q s b' q' s' a1 a2 a3 a4 n1 c1 n2 c2 n3 c3 n4 c4 xs ys ms ns _ (by omega) (by omega) (by omega) (by omega) (HR1.out.below HB0.out) (HR2.out.below HB0.out) (HR3.out.below HB0.out) (HR4.out.below HB0.out)).mono ?_; rintro e u1 ⟨v1, rfl, o1, bl1⟩
       rw [HE.out] at o1 ⊢; rw [HD.out, HND.out] at o1
       obtain ⟨ra, ka, rfl, rp1⟩ := ownP_reads o1
       have HL1 : Hid (ReadsP u1 ra ND DL) := rp1
       have HB1 : Hid (Below w.heap.size w u1) := below_trans HB0.out bl1
       have HP1 : Hid (u1.heap[w.heap.size]? = some (.cells #[.int .i64 b, .int .i64 q, .int .i64 s, .slice a1 n1 c1, .slice a2 n2 c2] 27 (0, 0))) := blk_b HP0.out bl1
       have HQ1 : Hid (u1.heap[w.heap.size + 1]? = some (.cells #[.int .i64 b', .int .i64 q', .int .i64 s', .slice a3 n3 c3, .slice a4 n4 c4] 27 (0, 0))) := blk_b HQ0.out bl1
       clear o1 rp1 bl1 c0 c1' cz c3' c4' d0 d1 dz d3 d4
       obtain ⟨c0, c1', cz, c3', c4'⟩ := cells5 HP1.out
       obtain ⟨d0, d1, dz, d3, d4⟩ := cells5 HQ1.out)
    | (go_at_call 6; have zz := T1; clear T1 zz; refine (lent_any b q s a1 a2 n1 c1 n2 c2 xs ms _ HNN.out.1 HNN.out.2.1 (HR1.out.below HB1.out) (HR2.out.below HB1.out)).mono ?_; rintro e u2 ⟨⟨g, cg, g', cg', rfl, own1, own2⟩, bl2⟩
       have HO1 : Hid (Own (u2.alloc (.cells #[.int .i64 b, .int .i64 q, .int .i64 s, .slice (some ⟨g, 0, none⟩) n1 cg, .slice (some ⟨g', 0, none⟩) n2 cg'] 27)) w.heap.size g (n1 + 70) cg (room xs 70)) := (own1.base HB1.out.size).below (below_alloc _ _)
       have HO2 : Hid (OwnB (u2.alloc (.cells #[.int .i64 b, .int .i64 q, .int .i64 s, .slice (some ⟨g, 0, none⟩) n1 cg, .slice (some ⟨g', 0, none⟩) n2 cg'] 27)) w.heap.size g' (n2 + 9) cg' (roomB ms 9)) := (own2.base HB1.out.size).below (below_alloc _ _)
       have bv2 : Below u1.heap.size u1 (u2.alloc (.cells #[.int .i64 b, .int .i64 q, .int .i64 s, .slice (some ⟨g, 0, none⟩) n1 cg, .slice (some ⟨g', 0, none⟩) n2 cg'] 27)) := below_trans bl2 (below_alloc _ _)
       have HB2 : Hid (Below w.heap.size w (u2.alloc (.cells #[.int .i64 b, .int .i64 q, .int .i64 s, .slice (some ⟨g, 0, none⟩) n1 cg, .slice (some ⟨g', 0, none⟩) n2 cg'] 27))) := below_trans HB1.out bv2
       have HL2 : Hid (ReadsP (u2.alloc (.cells #[.int .i64 b, .int .i64 q, .int .i64 s, .slice (some ⟨g, 0, none⟩) n1 cg, .slice (some ⟨g', 0, none⟩) n2 cg'] 27)) ra ND DL) := HL1.out.below bv2
       have HP2 : Hid ((u2.alloc (.cells #[.int .i64 b, .int .i64 q, .int .i64 s, .slice (some ⟨g, 0, none⟩) n1 cg, .slice (some ⟨g', 0, none⟩) n2 cg'] 27)).heap[w.heap.size]? = some (.cells #[.int .i64 b, .int .i64 q, .int .i64 s, .slice a1 n1 c1, .slice a2 n2 c2] 27 (0, 0))) := blk_b HP1.out bv2
       have HQ2 : Hid ((u2.alloc (.cells #[.int .i64 b, .int .i64 q, .int .i64 s, .slice (some ⟨g, 0, none⟩) n1 cg, .slice (some ⟨g', 0, none⟩) n2 cg'] 27)).heap[w.heap.size + 1]? = some (.cells #[.int .i64 b', .int .i64 q', .int .i64 s', .slice a3 n3 c3, .slice a4 n4 c4] 27 (0, 0))) := blk_b HQ1.out bv2
       have HX2 : Hid ((u2.alloc (.cells #[.int .i64 b, .int .i64 q, .int .i64 s, .slice (some ⟨g, 0, none⟩) n1 cg, .slice (some ⟨g', 0, none⟩) n2 cg'] 27)).heap[u2.heap.size]? = some (.cells #[.int .i64 b, .int .i64 q, .int .i64 s, .slice (some ⟨g, 0, none⟩) n1 cg, .slice (some ⟨g', 0, none⟩) n2 cg'] 27 (0, 0))) := heap_alloc_new _ _
       clear own1 own2 bl2 bv2 c0 c1' cz c3' c4' d0 d1 dz d3 d4
       obtain ⟨c0, c1', cz, c3', c4'⟩ := cells5 HP2.out
       obtain ⟨d0, d1, dz, d3, d4⟩ := cells5 HQ2.out
       obtain ⟨f0, f1, f2, f3, f4⟩ := cells5 HX2.out)
    | (go_at_call 6; have zz := T2; clear T2 zz; refine (lent_any b' q' s' a3 a4 n3 c3 n4 c4 ys ns _ HNN.out.2.2.1 HNN.out.2.2.2 (HR3.out.below HB2.out) (HR4.out.below HB2.out)).mono ?_; rintro e u3 ⟨⟨h, ch, h', ch', rfl, own3, own4⟩, bl3⟩
       have bv3 : Below (u2.alloc (.cells #[.int .i64 b, .int .i64 q, .int .i64 s, .slice (some ⟨g, 0, none⟩) n1 cg, .slice (some ⟨g', 0, none⟩) n2 cg'] 27)).heap.size (u2.alloc (.cells #[.int .i64 b, .int .i64 q, .int .i64 s, .slice (some ⟨g, 0, none⟩) n1 cg, .slice (some ⟨g', 0, none⟩) n2 cg'] 27)) (u3.alloc (.cells #[.int .i64 b', .int .i64 q', .int .i64 s', .slice (some ⟨h, 0, none⟩) n3 ch, .slice (some ⟨h', 0, none⟩) n4 ch'] 27)) := below_trans bl3 (below_alloc _ _)
       have HB3 : Hid (Below w.heap.size w (u3.alloc (.cells #[.int .i64 b', .int .i64 q', .int .i64 s', .slice (some ⟨h, 0, none⟩) n3 ch, .slice (some ⟨h', 0, none⟩) n4 ch'] 27))) := below_trans HB2.out bv3
       have HO3 : Hid (Own (u3.alloc (.cells #[.int .i64 b', .int .i64 q', .int .i64 s', .slice (some ⟨h, 0, none⟩) n3 ch, .slice (some ⟨h', 0, none⟩) n4 ch'] 27)) w.heap.size g (n1 + 70) cg (room xs 70)) := HO1.out.below bv3
       have HO4 : Hid (OwnB (u3.alloc (.cells #[.int .i64 b', .int .i64 q', .int .i64 s', .slice (some ⟨h, 0, none⟩) n3 ch, .slice (some ⟨h', 0, none⟩) n4 ch'] 27)) w.heap.size g' (n2 + 9) cg' (roomB ms 9)) := HO2.out.below bv3
       have HO5 : Hid (Own (u3.alloc (.cells #[.int .i64 b', .int .i64 q', .int .i64 s', .slice (some ⟨h, 0, none⟩) n3 ch, .slice (some ⟨h', 0, none⟩) n4 ch'] 27)) w.heap.size h (n3 + 70) ch (room ys 70)) := (own3.base HB2.out.size).below (below_alloc _ _)
       have HO6 : Hid (OwnB (u3.alloc (.cells #[.int .i64 b', .int .i64 q', .int .i64 s', .slice (some ⟨h, 0, none⟩) n3 ch, .slice (some ⟨h', 0, none⟩) n4 ch'] 27)) w.heap.size h' (n4 + 9) ch' (roomB ns 9)) := (own4.base HB2.out.size).below (below_alloc _ _)
       have HL3 : Hid (ReadsP (u3.alloc (.cells #[.int .i64 b', .int .i64 q', .int .i64 s', .slice (some ⟨h, 0, none⟩) n3 ch, .slice (some ⟨h', 0, none⟩) n4 ch'] 27)) ra ND DL) := HL2.out.below bv3
       have HP3 : Hid ((u3.alloc (.cells #[.int .i64 b', .int .i64 q', .int .i64 s', .slice (some ⟨h, 0, none⟩) n3 ch, .slice (some ⟨h', 0, none⟩) n4 ch'] 27)).heap[w.heap.size]? = some (.cells #[.int .i64 b, .int .i64 q, .int .i64 s, .slice a1 n1 c1, .slice a2 n2 c2] 27 (0, 0))) := blk_b HP2.out bv3
       have HQ3 : Hid ((u3.alloc (.cells #[.int .i64 b', .int .i64 q', .int .i64 s', .slice (some ⟨h, 0, none⟩) n3 ch, .slice (some ⟨h', 0, none⟩) n4 ch'] 27)).heap[w.heap.size + 1]? = some (.cells #[.int .i64 b', .int .i64 q', .int .i64 s', .slice a3 n3 c3, .slice a4 n4 c4] 27 (0, 0))) := blk_b HQ2.out bv3
       have HX3 : Hid ((u3.alloc (.cells #[.int .i64 b', .int .i64 q', .int .i64 s', .slice (some ⟨h, 0, none⟩) n3 ch, .slice (some ⟨h', 0, none⟩) n4 ch'] 27)).heap[u2.heap.size]? = some (.cells #[.int .i64 b, .int .i64 q, .int .i64 s, .slice (some ⟨g, 0, none⟩) n1 cg, .slice (some ⟨g', 0, none⟩) n2 cg'] 27 (0, 0))) := blk_b HX2.out bv3
       have HY3 : Hid ((u3.alloc (.cells #[.int .i64 b', .int .i64 q', .int .i64 s', .slice (some ⟨h, 0, none⟩) n3 ch, .slice (some ⟨h', 0, none⟩) n4 ch'] 27)).heap[u3.heap.size]? = some (.cells #[.int .i64 b', .int .i64 q', .int .i64 s', .slice (some ⟨h, 0, none⟩) n3 ch, .slice (some ⟨h', 0, none⟩) n4 ch'] 27 (0, 0))) := heap_alloc_new _ _
       have T3 : Hid True := trivial
       clear own3 own4 bl3 bv3 c0 c1' cz c3' c4' d0 d1 dz d3 d4 f0 f1 f2 f3 f4
       obtain ⟨c0, c1', cz, c3', c4'⟩ := cells5 HP3.out
       obtain ⟨d0, d1, dz, d3, d4⟩ := cells5 HQ3.out
       obtain ⟨f0, f1, f2, f3, f4⟩ := cells5 HX3.out
       obtain ⟨g0, g1, g2, g3, g4⟩ := cells5 HY3.out)
    | (go_at_call 16; have zz := T3; clear T3 zz; refine (diff_any b q s b' q' s' _ _ _ _ n1 cg n2 cg' n3 ch n4 ch' xs ys ms ns _ (by omega) (by omega) (by omega) (by omega) (own_front HO3.out HR1.out) (ownB_front HO4.out HR2.out) (own_front HO5.out HR3.out) (ownB_front HO6.out HR4.out) (own_front_le HO3.out) (own_front_le HO5.out)).mono ?_; rintro e u4 ⟨v4, rfl, o4, bl4⟩
       rw [HE.out] at o4 ⊢; rw [HD.out, HND.out] at o4
       obtain ⟨rb, kb, rfl, rp4⟩ := ownP_reads o4
       have HL4 : Hid (ReadsP u4 rb ND DL) := rp4
       have HL5 : Hid (ReadsP u4 ra ND DL) := HL3.out.below bl4
       have HB4 : Hid (Below w.heap.size w u4) := below_trans HB3.out bl4
       have HO7 : Hid (Own u4 w.heap.size g (n1 + 70) cg (room xs 70)) := HO3.out.below bl4
       have HO8 : Hid (OwnB u4 w.heap.size g' (n2 + 9) cg' (roomB ms 9)) := HO4.out.below bl4
       have HO9 : Hid (Own u4 w.heap.size h (n3 + 70) ch (room ys 70)) := HO5.out.below bl4
       have HO0 : Hid (OwnB u4 w.heap.size h' (n4 + 9) ch' (roomB ns 9)) := HO6.out.below bl4
       have HP4 : Hid (u4.heap[w.heap.size]? = some (.cells #[.int .i64 b, .int .i64 q, .int .i64 s, .slice a1 n1 c1, .slice a2 n2 c2] 27 (0, 0))) := blk_b HP3.out bl4
       have HQ4 : Hid (u4.heap[w.heap.size + 1]? = some (.cells #[.int .i64 b', .int .i64 q', .int .i64 s', .slice a3 n3 c3, .slice a4 n4 c4] 27 (0, 0))) := blk_b HQ3.out bl4
       have HX4 : Hid (u4.heap[u2.heap.size]? = some (.cells #[.int .i64 b, .int .i64 q, .int .i64 s, .slice (some ⟨g, 0, none⟩) n1 cg, .slice (some ⟨g', 0, none⟩) n2 cg'] 27 (0, 0))) := blk_b HX3.out bl4
       have T4 : Hid True := trivial
       clear o4 rp4 bl4 c0 c1' cz c3' c4' d0 d1 dz d3 d4 f0 f1 f2 f3 f4 g0 g1 g2 g3 g4
       obtain ⟨c0, c1', cz, c3', c4'⟩ := cells5 HP4.out
       obtain ⟨d0, d1, dz, d3, d4⟩ := cells5 HQ4.out
       obtain ⟨f0, f1, f2, f3, f4⟩ := cells5 HX4.out)
    | (go_at_call 8; refine (no_any _ _).mono ?_; rintro e u9 ⟨rfl, h9⟩; rw [h9]; clear h9)
    | (go_at_call 17; refine (samePl_eq rb ra ND kb ka DL _ HL4.out HL5.out (by omega)).mono ?_; rintro e u5 ⟨rfl, q5, h5⟩
       have bl5 : Below u4.heap.size u4 u5 := (by rw [h5]; exact ⟨rfl, rfl, rfl, Nat.le_refl _, fun _ _ => rfl⟩)
       have HB5 : Hid (Below w.heap.size w u5) := below_trans HB4.out bl5
       have HOa : Hid (Own u5 w.heap.size g (n1 + 70) cg (room xs 70)) := HO7.out.below bl5
       have HOb : Hid (OwnB u5 w.heap.size g' (n2 + 9) cg' (roomB ms 9)) := HO8.out.below bl5
       have HOc : Hid (Own u5 w.heap.size h (n3 + 70) ch (room ys 70)) := HO9.out.below bl5
       have HOd : Hid (OwnB u5 w.heap.size h' (n4 + 9) ch' (roomB ns 9)) := HO0.out.below bl5
       have HP5 : Hid (u5.heap[w.heap.size]? = some (.cells #[.int .i64 b, .int .i64 q, .int .i64 s, .slice a1 n1 c1, .slice a2 n2 c2] 27 (0, 0))) := blk_b HP4.out bl5
       have HQ5 : Hid (u5.heap[w.heap.size + 1]? = some (.cells #[.int .i64 b', .int .i64 q', .int .i64 s', .slice a3 n3 c3, .slice a4 n4 c4] 27 (0, 0))) := blk_b HQ4.out bl5
       have HX5 : Hid (u5.heap[u2.heap.size]? = some (.cells #[.int .i64 b, .int .i64 q, .int .i64 s, .slice (some ⟨g, 0, none⟩) n1 cg, .slice (some ⟨g', 0, none⟩) n2 cg'] 27 (0, 0))) := blk_b HX4.out bl5
       have T5 : Hid True := trivial
       clear h5 bl5 c0 c1' cz c3' c4' d0 d1 dz d3 d4 f0 f1 f2 f3 f4
       obtain ⟨c0, c1', cz, c3', c4'⟩ := cells5 HP5.out
       obtain ⟨d0, d1, dz, d3, d4⟩ := cells5 HQ5.out
       obtain ⟨f0, f1, f2, f3, f4⟩ := cells5 HX5.out)
    | (go_at_call 10; have zz := T5; clear T5 zz; refine (kept_any w.heap.size g cg n1 c1 a1 xs _ HNN.out.1 (HR1.out.below HB5.out) HOa.out).mono ?_; rintro e u9 ⟨rfl, h9⟩; rw [h9]; clear h9)
    | (go_at_call 11; have zz := T4; clear T4 zz; refine (held_any w.heap.size g' cg' n2 c2 a2 ms _ HNN.out.2.1 (HR2.out.below HB5.out) HOb.out).mono ?_; rintro e u6 ⟨rfl, q6, h6⟩
       have bl6 : Below u5.heap.size u5 u6 := (by rw [h6]; exact ⟨rfl, rfl, rfl, Nat.le_refl _, fun _ _ => rfl⟩)
       have HB6 : Hid (Below w.heap.size w u6) := below_trans HB5.out bl6
       have HOe : Hid (Own u6 w.heap.size g (n1 + 70) cg (room xs 70)) := HOa.out.below bl6
       have HOf : Hid (OwnB u6 w.heap.size g' (n2 + 9) cg' (roomB ms 9)) := HOb.out.below bl6
       have HOg : Hid (Own u6 w.heap.size h (n3 + 70) ch (room ys 70)) := HOc.out.below bl6
       have HOh : Hid (OwnB u6 w.heap.size h' (n4 + 9) ch' (roomB ns 9)) := HOd.out.below bl6
       have HP6 : Hid (u6.heap[w.heap.size]? = some (.cells #[.int .i64 b, .int .i64 q, .int .i64 s, .slice a1 n1 c1, .slice a2 n2 c2] 27 (0, 0))) := blk_b HP5.out bl6
       have HQ6 : Hid (u6.heap[w.heap.size + 1]? = some (.cells #[.int .i64 b', .int .i64 q', .int .i64 s', .slice a3 n3 c3, .slice a4 n4 c4] 27 (0, 0))) := blk_b HQ5.out bl6
       have HX6 : Hid (u6.heap[u2.heap.size]? = some (.cells #[.int .i64 b, .int .i64 q, .int .i64 s, .slice (some ⟨g, 0, none⟩) n1 cg, .slice (some ⟨g', 0, none⟩) n2 cg'] 27 (0, 0))) := blk_b HX5.out bl6
       clear h6 bl6 c0 c1' cz c3' c4' d0 d1 dz d3 d4 f0 f1 f2 f3 f4
       obtain ⟨c0, c1', cz, c3', c4'⟩ := cells5 HP6.out
       obtain ⟨d0, d1, dz, d3, d4⟩ := cells5 HQ6.out
       obtain ⟨f0, f1, f2, f3, f4⟩ := cells5 HX6.out)
    | (go_at_call 10; refine (kept_any w.heap.size h ch n3 c3 a3 ys _ HNN.out.2.2.1 (HR3.out.below HB6.out) HOg.out).mono ?_; rintro e u9 ⟨rfl, h9⟩; rw [h9]; clear h9)
    | (go_at_call 11; refine (held_any w.heap.size h' ch' n4 c4 a4 ns _ HNN.out.2.2.2 (HR4.out.below HB6.out) HOh.out).mono ?_; rintro e u7 ⟨rfl, q7, h7⟩
       have bl7 : Below u6.heap.size u6 u7 := (by rw [h7]; exact ⟨rfl, rfl, rfl, Nat.le_refl _, fun _ _ => rfl⟩)
       have HB7 : Hid (Below w.heap.size w u7) := below_trans HB6.out bl7
       have HOi : Hid (Own u7 w.heap.size g (n1 + 70) cg (room xs 70)) := HOe.out.below bl7
       have HOj : Hid (OwnB u7 w.heap.size g' (n2 + 9) cg' (roomB ms 9)) := HOf.out.below bl7
       have HP7 : Hid (u7.heap[w.heap.size]? = some (.cells #[.int .i64 b, .int .i64 q, .int .i64 s, .slice a1 n1 c1, .slice a2 n2 c2] 27 (0, 0))) := blk_b HP6.out bl7
       have HX7 : Hid (u7.heap[u2.heap.size]? = some (.cells #[.int .i64 b, .int .i64 q, .int .i64 s, .slice (some ⟨g, 0, none⟩) n1 cg, .slice (some ⟨g', 0, none⟩) n2 cg'] 27 (0, 0))) := blk_b HX6.out bl7
       clear h7 bl7 c0 c1' cz c3' c4' d0 d1 dz d3 d4 f0 f1 f2 f3 f4
       obtain ⟨c0, c1', cz, c3', c4'⟩ := cells5 HP7.out
       obtain ⟨f0, f1, f2, f3, f4⟩ := cells5 HX7.out)
    | (go_at_call 16; refine (diff_self b q s _ _ n1 cg n2 cg' xs ms _ (by omega) (by omega) (own_front HOi.out HR1.out) (ownB_front HOj.out HR2.out) (own_front_le HOi.out)).mono ?_; rintro e u8 ⟨rc, kc, rfl, bl8⟩; rw [HE1.out]
       have HB8 : Hid (Below w.heap.size w u8) := below_trans HB7.out bl8
       have HP8 : Hid (u8.heap[w.heap.size]? = some (.cells #[.int .i64 b, .int .i64 q, .int .i64 s, .slice a1 n1 c1, .slice a2 n2 c2] 27 (0, 0))) := blk_b HP7.out bl8
       clear bl8 c0 c1' cz c3' c4' f0 f1 f2 f3 f4))
  refine wp_region_held_drew (S := (fun y : World => y.cell? ⟨w.heap.size, 0, none⟩ = some (.int .i64 b) ∧ y.cell? ⟨w.heap.size, 1, none⟩ = some (.int .i64 q) ∧ y.cell? ⟨w.heap.size, 2, none⟩ = some (.int .i64 s) ∧ y.cell? ⟨w.heap.size, 3, none⟩ = some (.slice a1 n1 c1) ∧ y.cell? ⟨w.heap.size, 4, none⟩ = some (.slice a2 n2 c2))) (by kernel_rfl) (cells5 HP8.out) (fun hHeld => ?_)
  refine wpAnyH_take (i := 0) (oi := { dst := some 85, op := Op.move (Operand.tmp 16), type := 30, pos := "law.go:152", after := #[], guard := none }) (v := ?v0rw) rfl (by kernel_rfl) (by kernel_rfl) (by kernel_rfl) (fun _ _ _ h => h) (Or.inl ⟨by rfl, ?y0rw⟩) (by assumption) ?r0rw
  case y0rw => (intro x hx; (try dsimp only at hx); go_simp; try with_reducible rfl)
  try simp only [Act.put, List.setIfInBounds_toArray, List.set_cons_zero, List.set_cons_succ]
  refine wpAnyH_take (i := 2) (oi := { dst := some 87, op := Op.load 27 (Operand.tmp 2), type := 27, pos := "law.go:152", after := #[], guard := none }) (v := ?v2rw) rfl (by kernel_rfl) (by kernel_rfl) (by kernel_rfl) (fun _ _ _ h => h) (Or.inl ⟨by rfl, ?y2rw⟩) (by assumption) ?r2rw
  case y2rw => (intro x hx; (try dsimp only at hx); go_simp; try with_reducible rfl)
  try simp only [Act.put, List.setIfInBounds_toArray, List.set_cons_zero, List.set_cons_succ]
  refine wpAnyH_ready (rs := [1]) (by kernel_rfl) (by simp) ?_
  refine AllReadyH.cons (o := { dst := some 86, op := Op.call { callee := Callee.value (Operand.func 8), args := #[Operand.tmp 85], argTypes := #[30] }, type := 3, pos := "law.go:152", after := #[{ on := 0, ground := Ground.data }], guard := none }) rfl (fun K hK => ?_) AllReadyH.nil
  go_simp
  go_at_call 8
  refine (no_any _ _).mono ?_
  rintro e u9 ⟨rfl, h9⟩
  rw [h9]
  clear h9
  have hSnew := cells5 HP8.out
  go_wp2_with fail
  refine hK.out _ _ hSnew (fun hHeld1 => ?_)
  clear hK K hSnew
  clear hHeld
  have hHeld := hHeld1
  clear hHeld1
  try simp only [Act.put, List.setIfInBounds_toArray, List.set_cons_zero, List.set_cons_succ]
  refine wpAnyH_ready (rs := [3]) (by kernel_rfl) (by simp) ?_
  refine AllReadyH.cons (o := { dst := some 88, op := Op.call { callee := Callee.value (Operand.func 9), args := #[Operand.tmp 87], argTypes := #[27] }, type := 3, pos := "law.go:152", after := #[{ on := 2, ground := Ground.data }, { on := 1, ground := Ground.chain }], guard := none }) rfl (fun K hK => ?_) AllReadyH.nil
  go_simp
  go_at_call 9
  refine (rcheck_any b q s a1 a2 n1 c1 n2 c2 _ (by omega) (by omega)).mono ?_
  rintro e u10 ⟨rfl, bl9⟩
  rw [HE1.out]
  have HB9 : Hid (Below w.heap.size w u10) := below_trans HB8.out (below_trans (⟨rfl, rfl, rfl, Nat.le_refl _, fun _ _ => rfl⟩ : Below u8.heap.size u8 u8.drew) bl9)
  have hSnew := cells5 (blk_b (X := u8.drew) HP8.out bl9)
  clear bl9
  go_wp2_with fail
  refine hK.out _ _ hSnew (fun hHeld3 => ?_)
  clear hK K hSnew
  clear hHeld
  have hHeld := hHeld3
  clear hHeld3
  try simp only [Act.put, List.setIfInBounds_toArray, List.set_cons_zero, List.set_cons_succ]
  refine wpAnyH_take (i := 4) (oi := { dst := some 89, op := Op.binOp BinOp.eql 3 (Operand.tmp 86) (Operand.tmp 88) 3, type := 4, pos := "law.go:152", after := #[{ on := 1, ground := Ground.data }, { on := 3, ground := Ground.data }], guard := none }) (v := ?v4rw) rfl (by kernel_rfl) (by kernel_rfl) (by kernel_rfl) (fun _ _ _ h => h) (Or.inl ⟨by rfl, ?y4rw⟩) (by assumption) ?r4rw
  case y4rw => (intro x hx; (try dsimp only at hx); go_simp; try with_reducible rfl)
  try simp only [Act.put, List.setIfInBounds_toArray, List.set_cons_zero, List.set_cons_succ]
  refine wpAnyH_take (i := 5) (oi := { dst := some 90, op := Op.move (Operand.tmp 89), type := 4, pos := "law.go:152", after := #[{ on := 4, ground := Ground.data }, { on := 3, ground := Ground.chain }], guard := none }) (v := ?v5rw) rfl (by kernel_rfl) (by kernel_rfl) (by kernel_rfl) (fun _ _ _ h => h) (Or.inl ⟨by rfl, ?y5rw⟩) (by assumption) ?r5rw
  case y5rw => (intro x hx; (try dsimp only at hx); go_simp; try with_reducible rfl)
  try simp only [Act.put, List.setIfInBounds_toArray, List.set_cons_zero, List.set_cons_succ]
  refine wpAnyH_take (i := 6) (oi := { dst := some 91, op := Op.move (Operand.tmp 15), type := 46, pos := "law.go:152", after := #[{ on := 5, ground := Ground.guard }], guard := some (5, true) }) (v := ?v6rw) rfl (by kernel_rfl) (by kernel_rfl) (by kernel_rfl) (fun _ _ _ h => h) (Or.inl ⟨by rfl, ?y6rw⟩) (by assumption) ?r6rw
  case y6rw => (intro x hx; (try dsimp only at hx); go_simp; try with_reducible rfl)
  try simp only [Act.put, List.setIfInBounds_toArray, List.set_cons_zero, List.set_cons_succ]
  refine wpAnyH_take (i := 7) (oi := { dst := some 92, op := Op.call { callee := Callee.builtin Builtin.len, args := #[Operand.tmp 91], argTypes := #[46] }, type := 3, pos := "law.go:152", after := #[{ on := 6, ground := Ground.data }, { on := 5, ground := Ground.guard }], guard := some (5, true) }) (v := ?v7rw) rfl (by kernel_rfl) (by kernel_rfl) (by kernel_rfl) (fun _ _ _ h => h) (Or.inl ⟨by rfl, ?y7rw⟩) (by assumption) ?r7rw
  case y7rw => (intro x hx; (try dsimp only at hx); go_simp; try with_reducible rfl)
  try simp only [Act.put, List.setIfInBounds_toArray, List.set_cons_zero, List.set_cons_succ]
  refine wpAnyH_take (i := 8) (oi := { dst := some 93, op := Op.binOp BinOp.eql 3 (Operand.tmp 92) (Operand.const (Value.int IntKind.i64 0)) 3, type := 4, pos := "law.go:152", after := #[{ on := 7, ground := Ground.data }, { on := 5, ground := Ground.guard }], guard := some (5, true) }) (v := ?v8rw) rfl (by kernel_rfl) (by kernel_rfl) (by kernel_rfl) (fun _ _ _ h => h) (Or.inl ⟨by rfl, ?y8rw⟩) (by assumption) ?r8rw
  case y8rw => (intro x hx; (try dsimp only at hx); go_simp; try with_reducible rfl)
  try simp only [Act.put, List.setIfInBounds_toArray, List.set_cons_zero, List.set_cons_succ]
  refine wpAnyH_take (i := 9) (oi := { dst := some 94, op := Op.pick (Operand.tmp 90) (Operand.tmp 93) (Operand.const (Value.bool false)), type := 4, pos := "law.go:152", after := #[{ on := 5, ground := Ground.data }, { on := 8, ground := Ground.data }], guard := none }) (v := ?v9rw) rfl (by kernel_rfl) (by kernel_rfl) (by kernel_rfl) (fun _ _ _ h => h) (Or.inl ⟨by rfl, ?y9rw⟩) (by assumption) ?r9rw
  case y9rw => (intro x hx; (try dsimp only at hx); go_simp; try with_reducible rfl)
  try simp only [Act.put, List.setIfInBounds_toArray, List.set_cons_zero, List.set_cons_succ]
  refine wpAnyH_take (i := 10) (oi := { dst := some 4, op := Op.assign (Operand.tmp 94), type := 4, pos := "law.go:152", after := #[{ on := 9, ground := Ground.data }, { on := 5, ground := Ground.chain }, { on := 0, ground := Ground.phase }, { on := 1, ground := Ground.phase }, { on := 2, ground := Ground.phase }, { on := 3, ground := Ground.phase }, { on := 4, ground := Ground.phase }, { on := 5, ground := Ground.phase }, { on := 6, ground := Ground.phase }, { on := 7, ground := Ground.phase }, { on := 8, ground := Ground.phase }, { on := 9, ground := Ground.phase }], guard := none }) (v := ?v10rw) rfl (by kernel_rfl) (by kernel_rfl) (by kernel_rfl) (fun _ _ _ h => h) (Or.inl ⟨by rfl, ?y10rw⟩) (by assumption) ?r10rw
  case y10rw => (intro x hx; (try dsimp only at hx); go_simp; try with_reducible rfl)
  try simp only [Act.put, List.setIfInBounds_toArray, List.set_cons_zero, List.set_cons_succ]
  refine wpAnyH_done (by kernel_rfl) ?_ _
  go_wp2
  go_ret
  exact ⟨by simp, HB9.out⟩

end Go.Proofs.Ytnopljjngbgpdaa
