/-
  SEAT YtnopljjngbgpdabDoor: ImagePacks, walked.
-/
import Derived.Test.YtnopljjngbgpdabDoorPu
import Derived.Test.YtnopljjngbgpdabDoorE
namespace Go.Proofs.YtnopljjngbgpdabDoor
open Go.RowKit
set_option linter.unusedVariables false

theorem no_any2 (x : Int) (w : World) : Calls Tryd.prog 12 #[.int .i64 x] w fun e w' => e = .returned (.int .i64 x) ∧ w' = w := by
  go_enter Tryd.func12, Tryd.ntmps12
  go_wp2
  go_ret
  exact ⟨rfl, rfl⟩

theorem pack_bad2 (b p s : Int) (a a' : Option Addr) (n c m c' : Nat) (w : World) (hE : chkE b p s n m ≠ 0) (hn : n ≤ 140737488355000) (hm : m ≤ 140737488355000) :
    Calls Tryd.prog 11 #[.agg #[.int .i64 b, .int .i64 p, .int .i64 s, .slice a n c, .slice a' m c']] w fun e w' => e = .returned (.tuple #[.slice none 0 0, .int .i64 (chkE b p s n m)]) ∧ Below w.heap.size w w' := by
  obtain ⟨x, hx⟩ : ∃ x, chkE b p s n m = x := ⟨_, rfl⟩
  rw [hx] at hE ⊢
  have hx1 : (x == 0) = false := by rw [beq_eq_false_iff_ne]; exact hE
  have HX : Hid (chkE b p s n m = x) := hx
  clear hx
  go_enter Tryd.func11, Tryd.ntmps11
  go_wp2_with (first
    | (go_at_call 10; refine (check_any b p s a a' n c m c' _ hn hm).mono ?_; rintro e t1 ⟨rfl, b1⟩; rw [HX.out]
       have HB1 : Hid (Below w.heap.size w t1) := below_trans (below_alloc w _) b1
       clear b1))
  go_ret2
  exact ⟨rfl, HB1.out⟩

theorem own_front {w w0 : World} {B g n c : Nat} {a : Option Addr} {zs : List Int} (h : Own w B g (n + 70) c (room zs 70)) (hr : Reads w0 a n zs) : Reads w (some ⟨g, 0, none⟩) n zs := by
  have q := h.reads (room_range zs 70 hr.2.1) n (by omega)
  rwa [show (room zs 70).take n = zs by rw [room, List.take_left' hr.1]] at q
theorem own_front_le {w : World} {B g n c : Nat} {xs : List Int} (h : Own w B g (n + 70) c xs) : n ≤ c ∧ c ≤ 9223372036854775807 := by
  obtain ⟨h1, h2⟩ := h.room_le (by omega)
  unfold maxLen at h2
  omega

theorem ownB_front {w w0 : World} {B g n c : Nat} {a : Option Addr} {zs : List Bool} (h : OwnB w B g (n + 9) c (roomB zs 9)) (hr : ReadsB w0 a n zs) : ReadsB w (some ⟨g, 0, none⟩) n zs := by
  have q := h.reads n (by omega)
  rwa [show (roomB zs 9).take n = zs by rw [roomB, List.take_left' hr.1]] at q

set_option maxHeartbeats 1000000 in
set_option maxRecDepth 100000 in
theorem rpack_bad (b q s : Int) (a a' : Option Addr) (n c m c' : Nat) (w : World) (hE : chkE b q s n m ≠ 0) (hn : n ≤ 140737488355000) (hm : m ≤ 140737488355000) :
    Calls Tryd.prog 21 #[.agg #[.int .i64 b, .int .i64 q, .int .i64 s, .slice a n c, .slice a' m c']] w fun e w' => e = .returned (.tuple #[.slice none 0 0, .int .i64 (chkE b q s n m)]) ∧ Below w.heap.size w w' := by
  obtain ⟨E, hEE⟩ : ∃ E, chkE b q s n m = E := ⟨_, rfl⟩
  have HEE : Hid (chkE b q s n m = E) := hEE
  rw [hEE] at hE ⊢
  have p1 : (E != 0) = true := by simpa using hE
  have HM0 : Hid ((w.alloc (.cells #[.int .i64 b, .int .i64 q, .int .i64 s, .slice a n c, .slice a' m c'] 27)).heap[w.heap.size]? = some (.cells #[.int .i64 b, .int .i64 q, .int .i64 s, .slice a n c, .slice a' m c'] 27 (0, 0))) := heap_alloc_new w _
  have HB0 : Hid (Below w.heap.size w (w.alloc (.cells #[.int .i64 b, .int .i64 q, .int .i64 s, .slice a n c, .slice a' m c'] 27))) := below_alloc w _
  obtain ⟨x0, x1, x2, x3, x4⟩ := cells5 HM0.out
  clear hE hEE
  go_enter Tryd.func21, Tryd.ntmps21
  go_wp2_with (first
    | (go_at_call 40; refine (rcheck_any b q s _ _ n _ m _ _ (by omega) (by omega)).mono ?_; rintro e u1 ⟨rfl, bl⟩; rw [HEE.out]
       have HB1 : Hid (Below w.heap.size w u1) := below_trans HB0.out bl
       clear bl x0 x1 x2 x3 x4))
  go_ret2
  exact ⟨rfl, HB1.out⟩
set_option maxHeartbeats 2000000 in
set_option maxRecDepth 100000 in
theorem packs_badW (b q s : Int) (a a' : Option Addr) (n c m c' : Nat) (zs : List Int) (bs : List Bool) (w : World) (h1 : n ≤ 140737488351232) (h2 : m ≤ 140737488351232) (r1 : Reads w a n zs) (r2 : ReadsB w a' m bs) (k1 : n ≤ c) (k2 : c ≤ 9223372036854775807) (ht : Tab w) (hE : chkE b q s n m ≠ 0) :
    Calls Tryd.prog 8 #[.agg #[.int .i64 b, .int .i64 q, .int .i64 s, .slice a n c, .slice a' m c']] w fun e w' => e = .returned (.bool true) ∧ Below w.heap.size w w' := by
  obtain ⟨E, hEE⟩ : ∃ E, chkE b q s n m = E := ⟨_, rfl⟩
  have HE : Hid (chkE b q s n m ≠ 0) := hE
  have HEE : Hid (chkE b q s n m = E) := hEE
  clear hE hEE
  have HR1 : Hid (Reads w a n zs) := r1
  have HR2 : Hid (ReadsB w a' m bs) := r2
  have HT : Hid (Tab w) := ht
  have HM0 : Hid ((w.alloc (.cells #[.int .i64 b, .int .i64 q, .int .i64 s, .slice a n c, .slice a' m c'] 27)).heap[w.heap.size]? = some (.cells #[.int .i64 b, .int .i64 q, .int .i64 s, .slice a n c, .slice a' m c'] 27 (0, 0))) := heap_alloc_new w _
  have HB0 : Hid (Below w.heap.size w (w.alloc (.cells #[.int .i64 b, .int .i64 q, .int .i64 s, .slice a n c, .slice a' m c'] 27))) := below_alloc w _
  obtain ⟨x0, x1, x2, x3, x4⟩ := cells5 HM0.out
  clear r1 r2 ht k1 k2
  go_enter Tryd.func8, Tryd.ntmps8
  go_wp2_with (first
    | (go_at_call 21; refine (rpack_bad b q s a a' n c m c' _ HE.out (by omega) (by omega)).mono ?_; rintro e u1 ⟨rfl, bl⟩; rw [HEE.out]
       have HB1 : Hid (Below w.heap.size w u1) := below_trans HB0.out bl
       have HM1 : Hid (u1.heap[w.heap.size]? = some (.cells #[.int .i64 b, .int .i64 q, .int .i64 s, .slice a n c, .slice a' m c'] 27 (0, 0))) := (bl.block _ (lt_of_bk HM0.out)).trans HM0.out
       clear bl x0 x1 x2 x3 x4
       obtain ⟨x0, x1, x2, x3, x4⟩ := cells5 HM1.out)
    | (go_at_call 22; refine (lent_any b q s a a' n c m c' zs bs _ (by omega) (by omega) (HR1.out.below HB1.out) (HR2.out.below HB1.out)).mono ?_; rintro e u2 ⟨⟨g, cg, g', cg', rfl, own2, own3⟩, bl⟩
       have bv : Below u1.heap.size u1 (u2.alloc (.cells #[.int .i64 b, .int .i64 q, .int .i64 s, .slice (some ⟨g, 0, none⟩) n cg, .slice (some ⟨g', 0, none⟩) m cg'] 27)) := below_trans bl (below_alloc _ _)
       have HO2 : Hid (Own (u2.alloc (.cells #[.int .i64 b, .int .i64 q, .int .i64 s, .slice (some ⟨g, 0, none⟩) n cg, .slice (some ⟨g', 0, none⟩) m cg'] 27)) w.heap.size g (n + 70) cg (room zs 70)) := (own2.base HB1.out.size).below (below_alloc _ _)
       have HO3 : Hid (OwnB (u2.alloc (.cells #[.int .i64 b, .int .i64 q, .int .i64 s, .slice (some ⟨g, 0, none⟩) n cg, .slice (some ⟨g', 0, none⟩) m cg'] 27)) w.heap.size g' (m + 9) cg' (roomB bs 9)) := (own3.base HB1.out.size).below (below_alloc _ _)
       have HB2 : Hid (Below w.heap.size w (u2.alloc (.cells #[.int .i64 b, .int .i64 q, .int .i64 s, .slice (some ⟨g, 0, none⟩) n cg, .slice (some ⟨g', 0, none⟩) m cg'] 27))) := below_trans HB1.out bv
       have HM2 : Hid ((u2.alloc (.cells #[.int .i64 b, .int .i64 q, .int .i64 s, .slice (some ⟨g, 0, none⟩) n cg, .slice (some ⟨g', 0, none⟩) m cg'] 27)).heap[w.heap.size]? = some (.cells #[.int .i64 b, .int .i64 q, .int .i64 s, .slice a n c, .slice a' m c'] 27 (0, 0))) := (bv.block _ (lt_of_bk HM1.out)).trans HM1.out
       have HX2 : Hid ((u2.alloc (.cells #[.int .i64 b, .int .i64 q, .int .i64 s, .slice (some ⟨g, 0, none⟩) n cg, .slice (some ⟨g', 0, none⟩) m cg'] 27)).heap[u2.heap.size]? = some (.cells #[.int .i64 b, .int .i64 q, .int .i64 s, .slice (some ⟨g, 0, none⟩) n cg, .slice (some ⟨g', 0, none⟩) m cg'] 27 (0, 0))) := heap_alloc_new _ _
       clear own2 own3 bl bv x0 x1 x2 x3 x4
       obtain ⟨x0, x1, x2, x3, x4⟩ := cells5 HM2.out
       obtain ⟨y0, y1, y2, y3, y4⟩ := cells5 HX2.out)
    | (go_at_call 11; refine (pack_bad2 b q s _ _ n cg m cg' _ HE.out (by omega) (by omega)).mono ?_; rintro e u3 ⟨rfl, bl⟩; rw [HEE.out]
       have HB3 : Hid (Below w.heap.size w u3) := below_trans HB2.out bl
       have HM3 : Hid (u3.heap[w.heap.size]? = some (.cells #[.int .i64 b, .int .i64 q, .int .i64 s, .slice a n c, .slice a' m c'] 27 (0, 0))) := (bl.block _ (lt_of_bk HM2.out)).trans HM2.out
       have HP2 : Hid (Own u3 w.heap.size g (n + 70) cg (room zs 70)) := HO2.out.below bl
       have HP3 : Hid (OwnB u3 w.heap.size g' (m + 9) cg' (roomB bs 9)) := HO3.out.below bl
       clear bl y0 y1 y2 y3 y4 x0 x1 x2 x3 x4
       obtain ⟨x0, x1, x2, x3, x4⟩ := cells5 HM3.out)
    | (go_at_call 12; refine (no_any2 _ _).mono ?_; rintro e u9 ⟨rfl, h9⟩; rw [h9]; clear h9)
    | (go_at_call 16; refine (same_eq none none 0 0 0 [] _ ⟨rfl, (fun x hx => by cases hx), fun _ => rfl, fun x hx => by cases hx⟩ ⟨rfl, (fun x hx => by cases hx), fun _ => rfl, fun x hx => by cases hx⟩).mono ?_; rintro e u9 ⟨rfl, h9⟩; rw [h9]; clear h9)
    | (go_at_call 23; refine (kept_any w.heap.size g cg n c a zs _ (by omega) (HR1.out.below HB3.out) HP2.out).mono ?_; rintro e u9 ⟨rfl, h9⟩; rw [h9]; clear h9)
    | (go_at_call 24; refine (held_any w.heap.size g' cg' m c' a' bs _ (by omega) (HR2.out.below HB3.out) HP3.out).mono ?_; rintro e u4 ⟨rfl, q4, h4⟩
       have HB4 : Hid (Below w.heap.size w u4) := below_trans HB3.out (by rw [h4]; exact ⟨rfl, rfl, rfl, Nat.le_refl _, fun _ _ => rfl⟩)
       clear h4 x0 x1 x2 x3 x4))
  go_ret
  exact ⟨rfl, HB4.out⟩

set_option maxHeartbeats 2000000 in
set_option maxRecDepth 100000 in
theorem packs_okW (MI : Img) (b q s : Int) (a a' : Option Addr) (n c m c' : Nat) (zs : List Int) (bs : List Bool) (w : World) (h1 : n ≤ 140737488351232) (h2 : m ≤ 140737488351232) (r1 : Reads w a n zs) (r2 : ReadsB w a' m bs) (k1 : n ≤ c) (k2 : c ≤ 9223372036854775807) (ht : Tab w) (hok : MI.Ok)
    (RPK : Calls Tryd.prog 21 #[.agg #[.int .i64 b, .int .i64 q, .int .i64 s, .slice a n c, .slice a' m c']] (w.alloc (.cells #[.int .i64 b, .int .i64 q, .int .i64 s, .slice a n c, .slice a' m c'] 27)) fun e w' => ∃ g cc, e = .returned (.tuple #[.slice (some ⟨g, 0, none⟩) (packL MI).length cc, .int .i64 0]) ∧ Own w' (w.alloc (.cells #[.int .i64 b, .int .i64 q, .int .i64 s, .slice a n c, .slice a' m c'] 27)).heap.size g (packL MI).length cc (packL MI) ∧ Below (w.alloc (.cells #[.int .i64 b, .int .i64 q, .int .i64 s, .slice a n c, .slice a' m c'] 27)).heap.size (w.alloc (.cells #[.int .i64 b, .int .i64 q, .int .i64 s, .slice a n c, .slice a' m c'] 27)) w')
    (PPK : ∀ {a a' : Option Addr} {c c' : Nat} (w : World), Reads w a n zs → ReadsB w a' m bs → n ≤ c → c ≤ 9223372036854775807 → Tab w → Calls Tryd.prog 11 #[.agg #[.int .i64 b, .int .i64 q, .int .i64 s, .slice a n c, .slice a' m c']] w fun e w' => ∃ g cap, e = .returned (.tuple #[.slice (some ⟨g, 0, none⟩) (packL MI).length cap, .int .i64 0]) ∧ Own w' w.heap.size g (packL MI).length cap (packL MI) ∧ Below w.heap.size w w') :
    Calls Tryd.prog 8 #[.agg #[.int .i64 b, .int .i64 q, .int .i64 s, .slice a n c, .slice a' m c']] w fun e w' => e = .returned (.bool true) ∧ Below w.heap.size w w' := by
  have HPB : Hid (∀ x ∈ packL MI, 0 ≤ x ∧ x ≤ 255) := pack_byt MI hok
  have HR1 : Hid (Reads w a n zs) := r1
  have HR2 : Hid (ReadsB w a' m bs) := r2
  have HT : Hid (Tab w) := ht
  have HM0 : Hid ((w.alloc (.cells #[.int .i64 b, .int .i64 q, .int .i64 s, .slice a n c, .slice a' m c'] 27)).heap[w.heap.size]? = some (.cells #[.int .i64 b, .int .i64 q, .int .i64 s, .slice a n c, .slice a' m c'] 27 (0, 0))) := heap_alloc_new w _
  have HB0 : Hid (Below w.heap.size w (w.alloc (.cells #[.int .i64 b, .int .i64 q, .int .i64 s, .slice a n c, .slice a' m c'] 27))) := below_alloc w _
  obtain ⟨x0, x1, x2, x3, x4⟩ := cells5 HM0.out
  clear r1 r2 ht k1 k2
  go_enter Tryd.func8, Tryd.ntmps8
  go_wp2_with (first
    | (go_at_call 21; refine RPK.mono ?_; rintro e u1 ⟨gw, cw, rfl, own1, bl⟩
       have HW1 : Hid (Own u1 (w.alloc (.cells #[.int .i64 b, .int .i64 q, .int .i64 s, .slice a n c, .slice a' m c'] 27)).heap.size gw (packL MI).length cw (packL MI)) := own1
       have HB1 : Hid (Below w.heap.size w u1) := below_trans HB0.out bl
       have HM1 : Hid (u1.heap[w.heap.size]? = some (.cells #[.int .i64 b, .int .i64 q, .int .i64 s, .slice a n c, .slice a' m c'] 27 (0, 0))) := (bl.block _ (lt_of_bk HM0.out)).trans HM0.out
       clear bl x0 x1 x2 x3 x4 own1
       obtain ⟨x0, x1, x2, x3, x4⟩ := cells5 HM1.out)
    | (go_at_call 22; refine (lent_any b q s a a' n c m c' zs bs _ (by omega) (by omega) (HR1.out.below HB1.out) (HR2.out.below HB1.out)).mono ?_; rintro e u2 ⟨⟨g, cg, g', cg', rfl, own2, own3⟩, bl⟩
       have bv : Below u1.heap.size u1 (u2.alloc (.cells #[.int .i64 b, .int .i64 q, .int .i64 s, .slice (some ⟨g, 0, none⟩) n cg, .slice (some ⟨g', 0, none⟩) m cg'] 27)) := below_trans bl (below_alloc _ _)
       have HO2 : Hid (Own (u2.alloc (.cells #[.int .i64 b, .int .i64 q, .int .i64 s, .slice (some ⟨g, 0, none⟩) n cg, .slice (some ⟨g', 0, none⟩) m cg'] 27)) w.heap.size g (n + 70) cg (room zs 70)) := (own2.base HB1.out.size).below (below_alloc _ _)
       have HO3 : Hid (OwnB (u2.alloc (.cells #[.int .i64 b, .int .i64 q, .int .i64 s, .slice (some ⟨g, 0, none⟩) n cg, .slice (some ⟨g', 0, none⟩) m cg'] 27)) w.heap.size g' (m + 9) cg' (roomB bs 9)) := (own3.base HB1.out.size).below (below_alloc _ _)
       have HB2 : Hid (Below w.heap.size w (u2.alloc (.cells #[.int .i64 b, .int .i64 q, .int .i64 s, .slice (some ⟨g, 0, none⟩) n cg, .slice (some ⟨g', 0, none⟩) m cg'] 27))) := below_trans HB1.out bv
       have HM2 : Hid ((u2.alloc (.cells #[.int .i64 b, .int .i64 q, .int .i64 s, .slice (some ⟨g, 0, none⟩) n cg, .slice (some ⟨g', 0, none⟩) m cg'] 27)).heap[w.heap.size]? = some (.cells #[.int .i64 b, .int .i64 q, .int .i64 s, .slice a n c, .slice a' m c'] 27 (0, 0))) := (bv.block _ (lt_of_bk HM1.out)).trans HM1.out
       have HX2 : Hid ((u2.alloc (.cells #[.int .i64 b, .int .i64 q, .int .i64 s, .slice (some ⟨g, 0, none⟩) n cg, .slice (some ⟨g', 0, none⟩) m cg'] 27)).heap[u2.heap.size]? = some (.cells #[.int .i64 b, .int .i64 q, .int .i64 s, .slice (some ⟨g, 0, none⟩) n cg, .slice (some ⟨g', 0, none⟩) m cg'] 27 (0, 0))) := heap_alloc_new _ _
       have HW2 : Hid (Own (u2.alloc (.cells #[.int .i64 b, .int .i64 q, .int .i64 s, .slice (some ⟨g, 0, none⟩) n cg, .slice (some ⟨g', 0, none⟩) m cg'] 27)) (w.alloc (.cells #[.int .i64 b, .int .i64 q, .int .i64 s, .slice a n c, .slice a' m c'] 27)).heap.size gw (packL MI).length cw (packL MI)) := HW1.out.below bv
       clear own2 own3 bl bv x0 x1 x2 x3 x4
       obtain ⟨x0, x1, x2, x3, x4⟩ := cells5 HM2.out
       obtain ⟨y0, y1, y2, y3, y4⟩ := cells5 HX2.out)
    | (go_at_call 11; refine (PPK _ (own_front HO2.out HR1.out) (ownB_front HO3.out HR2.out) (own_front_le HO2.out).1 (own_front_le HO2.out).2 (HT.out.below HB2.out)).mono ?_; rintro e u3 ⟨gp, cp, rfl, own3, bl⟩
       have HPR : Hid (Own u3 (u2.alloc (.cells #[.int .i64 b, .int .i64 q, .int .i64 s, .slice (some ⟨g, 0, none⟩) n cg, .slice (some ⟨g', 0, none⟩) m cg'] 27)).heap.size gp (packL MI).length cp (packL MI)) := own3
       have HPW : Hid (Own u3 (w.alloc (.cells #[.int .i64 b, .int .i64 q, .int .i64 s, .slice a n c, .slice a' m c'] 27)).heap.size gw (packL MI).length cw (packL MI)) := HW2.out.below bl
       have HB3 : Hid (Below w.heap.size w u3) := below_trans HB2.out bl
       have HM3 : Hid (u3.heap[w.heap.size]? = some (.cells #[.int .i64 b, .int .i64 q, .int .i64 s, .slice a n c, .slice a' m c'] 27 (0, 0))) := (bl.block _ (lt_of_bk HM2.out)).trans HM2.out
       have HP2 : Hid (Own u3 w.heap.size g (n + 70) cg (room zs 70)) := HO2.out.below bl
       have HP3 : Hid (OwnB u3 w.heap.size g' (m + 9) cg' (roomB bs 9)) := HO3.out.below bl
       clear bl y0 y1 y2 y3 y4 x0 x1 x2 x3 x4 own3
       obtain ⟨x0, x1, x2, x3, x4⟩ := cells5 HM3.out)
    | (go_at_call 12; refine (no_any2 _ _).mono ?_; rintro e u9 ⟨rfl, h9⟩; rw [h9]; clear h9)
    | (go_at_call 16; refine (same_eq _ _ _ _ _ (packL MI) _ (HPR.out.all HPB.out) (HPW.out.all HPB.out)).mono ?_; rintro e u9 ⟨rfl, h9⟩; rw [h9]; clear h9)
    | (go_at_call 23; refine (kept_any w.heap.size g cg n c a zs _ (by omega) (HR1.out.below HB3.out) HP2.out).mono ?_; rintro e u9 ⟨rfl, h9⟩; rw [h9]; clear h9)
    | (go_at_call 24; refine (held_any w.heap.size g' cg' m c' a' bs _ (by omega) (HR2.out.below HB3.out) HP3.out).mono ?_; rintro e u4 ⟨rfl, q4, h4⟩
       have HB4 : Hid (Below w.heap.size w u4) := below_trans HB3.out (by rw [h4]; exact ⟨rfl, rfl, rfl, Nat.le_refl _, fun _ _ => rfl⟩)
       clear h4 x0 x1 x2 x3 x4))
  go_ret
  exact ⟨rfl, HB4.out⟩

end Go.Proofs.YtnopljjngbgpdabDoor
