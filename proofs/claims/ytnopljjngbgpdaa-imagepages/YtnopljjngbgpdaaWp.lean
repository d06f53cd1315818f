/-
  SEAT Ytnopljjngbgpdaa: ImagePages, walked.
-/
import Derived.Test.YtnopljjngbgpdaaHi
namespace Go.Proofs.Ytnopljjngbgpdaa
open Go.RowKit
set_option linter.unusedVariables false

theorem box57 {w u : World} {b q s x y : Int} {vc vm : Value} (h : ((w.alloc (.cells #[.int .i64 b, .int .i64 q, .int .i64 s, vc, vm] 27)).alloc (.cells #[.int .i64 x, .int .i64 y] 38)).grownBy u none) :
    (u.cell? ⟨w.heap.size, 0, none⟩ = some (.int .i64 b) ∧ u.cell? ⟨w.heap.size, 1, none⟩ = some (.int .i64 q) ∧ u.cell? ⟨w.heap.size, 2, none⟩ = some (.int .i64 s) ∧ u.cell? ⟨w.heap.size, 3, none⟩ = some vc ∧ u.cell? ⟨w.heap.size, 4, none⟩ = some vm) ∧
    (u.cell? ⟨w.heap.size + 1, 0, none⟩ = some (.int .i64 x) ∧ u.cell? ⟨w.heap.size + 1, 1, none⟩ = some (.int .i64 y)) := by
  have e1 : (w.alloc (.cells #[.int .i64 b, .int .i64 q, .int .i64 s, vc, vm] 27)).heap.size = w.heap.size + 1 := by simp
  have a0 : ((w.alloc (.cells #[.int .i64 b, .int .i64 q, .int .i64 s, vc, vm] 27)).alloc (.cells #[.int .i64 x, .int .i64 y] 38)).heap[w.heap.size]? = some (.cells #[.int .i64 b, .int .i64 q, .int .i64 s, vc, vm] 27) := by
    rw [Below.heap_alloc _ _ _ (by simp)]; exact heap_alloc_new _ _
  have a1 : ((w.alloc (.cells #[.int .i64 b, .int .i64 q, .int .i64 s, vc, vm] 27)).alloc (.cells #[.int .i64 x, .int .i64 y] 38)).heap[w.heap.size + 1]? = some (.cells #[.int .i64 x, .int .i64 y] 38) := by
    rw [← e1]; exact heap_alloc_new _ _
  have c0 := (h.block w.heap.size (by simp; omega) (by simp)).trans a0
  have c1 := (h.block (w.heap.size + 1) (by simp) (by simp)).trans a1
  clear h a0 a1 e1
  refine ⟨⟨?_, ?_, ?_, ?_, ?_⟩, ⟨?_, ?_⟩⟩
  all_goals first | (simp [World.cell?, c0]; done) | (simp [World.cell?, c1]; done)

theorem below_cellj {x y : World} (h : Below x.heap.size x y) (z j : Nat) (v : Value) (hz : x.cell? ⟨z, j, none⟩ = some v) : y.cell? ⟨z, j, none⟩ = some v := by
  rw [h.cell (block_lt_of_cell hz)]; exact hz

theorem own_front {w w0 : World} {B g n c : Nat} {a : Option Addr} {zs : List Int} (h : Own w B g (n + 70) c (room zs 70)) (hr : Reads w0 a n zs) : Reads w (some ⟨g, 0, none⟩) n zs := by
  have q := h.reads (room_range zs 70 hr.2.1) n (by omega)
  rwa [show (room zs 70).take n = zs by rw [room, List.take_left' hr.1]] at q
theorem own_front_le {w : World} {B g n c : Nat} {xs : List Int} (h : Own w B g (n + 70) c xs) : n ≤ c ∧ c ≤ 9223372036854775807 := by
  obtain ⟨h1, h2⟩ := h.room_le (by omega)
  unfold maxLen at h2
  omega

set_option maxHeartbeats 2000000 in
set_option maxRecDepth 100000 in
theorem pagesWalk (b q s : Int) (a a' : Option Addr) (n c m c' : Nat) (zs : List Int) (bs : List Bool) (x y : Int) (w : World) (hn : n ≤ 140737488351232) (hm : m ≤ 140737488351232) (hr : Reads w a n zs) (hrb : ReadsB w a' m bs) (hx : -9223372036854775808 ≤ x ∧ x ≤ 9223372036854775807) (hy : -9223372036854775808 ≤ y ∧ y ≤ 9223372036854775807) :
    Calls Try.prog 4 #[.agg #[.int .i64 b, .int .i64 q, .int .i64 s, .slice a n c, .slice a' m c'], .agg #[.int .i64 x, .int .i64 y]] w fun e w' => e = .returned (.bool true) ∧ Below w.heap.size w w' := by
  clear hx hy
  have hb0 : Below w.heap.size w ((w.alloc (.cells #[.int .i64 b, .int .i64 q, .int .i64 s, .slice a n c, .slice a' m c'] 27)).alloc (.cells #[.int .i64 x, .int .i64 y] 38)) := (below_alloc w _).alloc (below_alloc w _).size _
  obtain ⟨E, C, D, d1, d2, hR, hP⟩ := pages_both b q s n m x y zs (by omega) (by omega)
  have HR : Hid _ := hR
  have HP : Hid _ := hP
  have HRD : Hid (Reads w a n zs) := hr
  have HRB : Hid (ReadsB w a' m bs) := hrb
  have HN : Hid (n ≤ 140737488351232 ∧ m ≤ 140737488351232) := ⟨hn, hm⟩
  have HB0 : Hid (Below w.heap.size w ((w.alloc (.cells #[.int .i64 b, .int .i64 q, .int .i64 s, .slice a n c, .slice a' m c'] 27)).alloc (.cells #[.int .i64 x, .int .i64 y] 38))) := hb0
  clear hR hP hr hrb hn hm hb0
  go_enter Try.func4, Try.ntmps4
  go_wp2_with (first
    | (go_at_call 12; refine (HR.out _ a a' c c' (HRD.out.below HB0.out)).mono ?_; rintro e u1 ⟨a1, k1, a2, k2, rfl, rd1, rd2, b1⟩
       have RD1 : Hid (Reads u1 a1 C d1) := rd1
       have RD2 : Hid (Reads u1 a2 D d2) := rd2
       have g1 := grown_of b1 none
       obtain ⟨⟨c0, c1, c2, c3, c4⟩, p0, p1⟩ := box57 g1
       have s1 : w.heap.size + 2 ≤ u1.heap.size := (by have := b1.size; simp at this; omega)
       have q1 : w.heap.size < u1.heap.size := (by omega)
       have q2 : w.heap.size + 1 < u1.heap.size := (by omega)
       clear rd1 rd2 b1)
    | (go_at_call 6; refine (lent_any b q s a a' n c m c' zs bs _ HN.out.1 HN.out.2 (HRD.out.below (below_trans HB0.out (below_of (grownBy_trans g1 (grown_of (by go_grown; all_goals (first | omega | (simp; omega))) none))))) (HRB.out.below (below_trans HB0.out (below_of (grownBy_trans g1 (grown_of (by go_grown; all_goals (first | omega | (simp; omega))) none)))))).mono ?_; rintro e u2 ⟨⟨g, cg, g', cg', rfl, own1, own2⟩, b2⟩
       have bw12 := below_via (u := u1) b2 (by go_grown; all_goals (first | omega | (simp; omega)))
       have e0 := below_cellj b2 u1.heap.size 0 (.slice a1 C k1) (by simp)
       have e1 := below_cellj b2 u1.heap.size 1 (.slice a2 D k2) (by simp)
       have HO1 : Hid (Own u2 u1.heap.size g (n + 70) cg (room zs 70)) := Own.base own1 (by simp)
       have HO2 : Hid (OwnB u2 u1.heap.size g' (m + 9) cg' (roomB bs 9)) := OwnB.base own2 (by simp)
       have g2 := grownBy_trans g1 (grown_of bw12 none)
       have s2 : u1.heap.size + 1 ≤ u2.heap.size := (by have := b2.size; simp at this; omega)
       have q3 : w.heap.size < u2.heap.size := (by omega)
       have q4 : w.heap.size + 1 < u2.heap.size := (by omega)
       have q5 : u1.heap.size < u2.heap.size := (by omega)
       clear own1 own2 b2 c0 c1 c2 c3 c4 p0 p1
       obtain ⟨⟨c0, c1, c2, c3, c4⟩, p0, p1⟩ := box57 g2)
    | (go_at_call 13; refine (HP.out _ g _ cg cg' ((own_front HO1.out HRD.out).below (below_alloc u2 _)) (own_front_le HO1.out).1 (own_front_le HO1.out).2).mono ?_; rintro e u3 ⟨a3, k3, a4, k4, rfl, rd3, rd4, b3⟩
       have bw23 := below_via (u := u2) b3 (below_alloc u2 _)
       have RD3 : Hid (Reads u3 a3 C d1) := rd3
       have RD4 : Hid (Reads u3 a4 D d2) := rd4
       have e2 := below_cellj bw23 u1.heap.size 0 _ e0
       have e3 := below_cellj bw23 u1.heap.size 1 _ e1
       have g3 := grownBy_trans g2 (grown_of bw23 none)
       have s3 := bw23.size
       have q6 : w.heap.size < u3.heap.size := (by omega)
       have q7 : w.heap.size + 1 < u3.heap.size := (by omega)
       have q8 : u1.heap.size < u3.heap.size := (by omega)
       clear rd3 rd4 b3 c0 c1 c2 c3 c4 p0 p1
       obtain ⟨⟨c0, c1, c2, c3, c4⟩, p0, p1⟩ := box57 g3)
    | (go_at_call 8; refine (no_any _ _).mono ?_; rintro e u4 ⟨rfl, h4⟩; subst h4)
    | (go_at_call 14; have mm := M1; refine (same_eq a4 a2 D k4 k2 d2 _ (RD4.out.below (below_alloc u3 _)) (RD2.out.below (below_trans (below_trans bw12 bw23) (below_alloc u3 _)))).mono ?_; rintro e u6 ⟨rfl, h6⟩; subst h6)
    | (go_at_call 14; refine (same_eq a3 a1 C k3 k1 d1 _ (RD3.out.below (below_alloc u3 _)) (RD1.out.below (below_trans (below_trans bw12 bw23) (below_alloc u3 _)))).mono ?_; rintro e u5 ⟨rfl, h5⟩; subst h5; have M1 : Hid True := trivial)
    | (go_at_call 10; refine (kept_any u1.heap.size g cg n c a zs _ HN.out.1 (HRD.out.below (below_trans HB0.out (below_trans (below_of g3) (below_alloc u3 _)))) (Own.below HO1.out (below_trans bw23 (below_alloc u3 _)))).mono ?_; rintro e u7 ⟨rfl, h7⟩; subst h7)
    | (go_at_call 11; refine (held_any u1.heap.size g' cg' m c' a' bs _ HN.out.2 (HRB.out.below (below_trans HB0.out (below_trans (below_of g3) (below_alloc u3 _)))) (OwnB.below HO2.out (below_trans bw23 (below_alloc u3 _)))).mono ?_; rintro e u8 ⟨rfl, k8, h8⟩; have g8 := drewN_grown h8; clear h8))
  go_ret
  exact ⟨rfl, below_trans HB0.out (below_trans (below_trans (below_of g3) (below_alloc u3 _)) (below_of g8))⟩

end Go.Proofs.Ytnopljjngbgpdaa
