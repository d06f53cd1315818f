/-
  SEAT YtgdmagmbkmgdfabDoor: heads.
-/
import Derived.Test.YtgdmagmbkmgdfabDoorHc
import Derived.Test.YtgdmagmbkmgdfabDoorCkChk
namespace Go.Proofs.YtgdmagmbkmgdfabDoor
open Go.RowKit
set_option linter.unusedVariables false

theorem smallH : Small 3 2 258 7 9 1 300 4000 := by unfold Small; omega
theorem fitsH : Fits [un 3, un 2, 258, 7, un 9, un 1, un 300, un 4000] 8 := (fits_small 3 2 258 7 9 1 300 4000 (by omega) (by omega) (by omega) (by omega) (by omega) (by omega) (by omega) (by omega) (by omega) (by omega) (by omega) (by omega) (by omega) (by omega)).2 smallH
theorem pkH : pk [un 3, un 2, 258, 7, un 9, un 1, un 300, un 4000] 8 = tagL 3 2 258 7 9 1 300 4000 := pk_small 3 2 258 7 9 1 300 4000 (by omega) (by omega) smallH
theorem litH : tagL 3 2 258 7 9 1 300 4000 = [3, 2, 2, 1, 0, 0, 0, 0, 7, 0, 0, 0, 0, 0, 9, 0, 0, 0, 1, 0, 0, 0, 44, 1, 160, 15] := by decide +kernel
theorem chkH1 : chk.chkE 8 4 1 3 2 258 7 9 1 300 4000 = 61 := by decide +kernel
theorem chkH2 : chk.chkE 8 4 2 3 2 258 7 9 1 300 4000 = 0 := by decide +kernel

theorem cap_of {w : World} {B g n c : Nat} {xs : List Int} (h : Own w B g (n + 1) c xs) : n + 1 ≤ c := by
  obtain ⟨g', c', e1, e2, _⟩ := own_shape h (by omega)
  cases e1
  omega

theorem cellsH {w : World} {B g c : Nat} (h : Own w B g 26 c (tagL 3 2 258 7 9 1 300 4000)) : w.cell? ⟨g, 0, none⟩ = some (.int .u8 3) ∧ w.cell? ⟨g, 2, none⟩ = some (.int .u8 2) ∧ w.cell? ⟨g, 3, none⟩ = some (.int .u8 1) ∧ w.cell? ⟨g, 22, none⟩ = some (.int .u8 44) := by
  rw [litH] at h
  exact ⟨h.cell 0 (by omega), h.cell 2 (by omega), h.cell 3 (by omega), h.cell 22 (by omega)⟩

set_option maxHeartbeats 2000000 in
set_option maxRecDepth 100000 in
theorem heads_any (w : World) (hT : Tab w) : Calls Tryd.prog 5 #[] w fun e w' => e = .returned (.bool true) ∧ Below w.heap.size w w' := by
  have HT : Hid (Tab w) := hT
  have bx0 := Box.made w 3 2 258 7 9 1 300 4000
  have b0 : Below w.heap.size w (w.alloc (.cells #[.int .i64 3, .int .i64 2, .int .u64 258, .int .u64 7, .int .i64 9, .int .i64 1, .int .i64 300, .int .i64 4000] 24)) := (Below.refl _ _).alloc (Nat.le_refl _) _
  have HS : Hid (Small 3 2 258 7 9 1 300 4000) := smallH
  have HFF : Hid (Fits [un 3, un 2, 258, 7, un 9, un 1, un 300, un 4000] 8) := fitsH
  have HPK : Hid (pk [un 3, un 2, 258, 7, un 9, un 1, un 300, un 4000] 8 = tagL 3 2 258 7 9 1 300 4000) := pkH
  have k1 := chkH1
  have k2 := chkH2
  have HK1 : Hid (chk.chkE 8 4 1 3 2 258 7 9 1 300 4000 = 61) := k1
  have HK2 : Hid (chk.chkE 8 4 2 3 2 258 7 9 1 300 4000 = 0) := k2
  clear hT k1 k2
  go_enter Tryd.func5, Tryd.ntmps5
  go_wp2_with (first
    | (go_at_call 9; have h9 := b0; clear h9; refine (pack_yes 3 2 258 7 9 1 300 4000 _ ?_ ?_ ?_ ?_).mono ?_; exact HT.out.below b0; omega; omega; exact HFF.out; rintro e u1 ⟨⟨g1, c1, rfl, o1⟩, b1⟩; rw [HPK.out] at o1; have bx1 := bx0.below b1; obtain ⟨⟨x0, x1, x2, x3, x4, x5, x6, x7⟩, _⟩ := t8_cells bx1; have bw1 := b0.trans (b1.mono b0.size); clear b0 bx0 b1)
    | (go_at_call 6; have h9 := o1; clear h9; refine (tlay_yes 3 2 258 7 9 1 300 4000 _ ?_ ?_ ?_ ?_ ?_).mono ?_; exact HT.out.below bw1; omega; omega; exact HFF.out; exact HS.out; rintro e u2 ⟨⟨g2, c2, rfl, o2⟩, b2⟩; have o12 := o1.below b2; have r2 := o2.all (railL_range _); have bx2 := bx1.below b2; have bw2 := bw1.trans (b2.mono bw1.size); have hT2 := HT.out.below bw2; clear x0 x1 x2 x3 x4 x5 x6 x7; clear o1 bx1 bw1 b2 o2)
    | (go_at_call 12; have h9 := r2; clear h9; refine (lift_tags _ _ 3 2 258 7 9 1 300 4000 _ ?_ ?_ ?_ ?_ ?_).mono ?_; exact hT2; omega; omega; exact HS.out; (with_reducible exact r2); rintro e u3 ⟨rfl, b3⟩; have b3A := b3.alloc b3.size (.cells #[.int .i64 3, .int .i64 2, .int .u64 258, .int .u64 7, .int .i64 9, .int .i64 1, .int .i64 300, .int .i64 4000] 24); have bx3 := bx2.below b3A; obtain ⟨⟨x0, x1, x2, x3, x4, x5, x6, x7⟩, _⟩ := t8_cells bx3; have o13 := o12.below b3A; obtain ⟨y0, y2, y3, y22⟩ := cellsH o13; have c26 : 26 ≤ c1 := cap_of o13; have bw3 := bw2.trans (b3A.mono bw2.size); have HO : Hid (Own _ _ _ _ _ _) := o13; have HBX : Hid (Box _ _ _ _ _ _ _ _ _ _) := bx3; have HBW : Hid (Below _ _ _) := bw3; clear r2 hT2 b3 b3A o12 o13 bx2 bx3 bw2 bw3)
    | (go_at_call 7; refine (no_any _ _).mono ?_; rintro e u ⟨rfl, rfl⟩)
    | (go_at_call 13; refine (same8 _ _ _ _ _ _ _ _ _).mono ?_; rintro e u4 ⟨rfl, b4⟩; clear x0 x1 x2 x3 x4 x5 x6 x7; have bx4 := HBX.out.below b4; obtain ⟨⟨x0, x1, x2, x3, x4, x5, x6, x7⟩, _⟩ := t8_cells bx4; have o4 := HO.out.below b4; have bw4 := HBW.out.trans (b4.mono HBW.out.size); clear HBX HO HBW y0 y2 y3 y22 b4)
    | (go_at_call 15; have h9 := bx4; clear h9; refine (chk.check_any 8 4 1 3 2 258 7 9 1 300 4000 _).mono ?_; rintro e u5 ⟨rfl, b5⟩; rw [HK1.out]; clear x0 x1 x2 x3 x4 x5 x6 x7; have bx5 := bx4.below b5; obtain ⟨⟨x0, x1, x2, x3, x4, x5, x6, x7⟩, _⟩ := t8_cells bx5; have o5 := o4.below b5; have bw5 := bw4.trans (b5.mono bw4.size); clear bx4 o4 bw4 b5)
    | (go_at_call 15; have h9 := bx5; clear h9; refine (chk.check_any 8 4 2 3 2 258 7 9 1 300 4000 _).mono ?_; rintro e u6 ⟨rfl, b6⟩; rw [HK2.out]; clear x0 x1 x2 x3 x4 x5 x6 x7; have bw6 := bw5.trans (b6.mono bw5.size); clear bx5 o5 bw5 b6)
    | (go_at_call 11; have h9 := bw6; clear h9; refine (read8_bad _ 25 _ _ ?_ ?_).mono ?_; omega; omega; rintro e u7 ⟨rfl, b7⟩; have bw7 := bw6.trans ((b7.alloc b7.size (.cells #[.int .i64 0, .int .i64 0, .int .u64 0, .int .u64 0, .int .i64 0, .int .i64 0, .int .i64 0, .int .i64 0] 24)).mono bw6.size)))
  go_ret
  exact ⟨rfl, bw7⟩
end Go.Proofs.YtgdmagmbkmgdfabDoor
