/-
  SEAT Ytjginocbbnmgaaa: heads, its walk.
-/
import Derived.Test.YtjginocbbnmgaaaToA
namespace Go.Proofs.Ytjginocbbnmgaaa
open Go.RowKit Go.Shelf
set_option linter.unusedVariables false
variable {bx : Nat}

theorem high_H2 {w : World} {gt h : Nat} (hT : Tree w gt h H2) : h = 2 := by
  obtain ⟨h1, h2, h3⟩ := hT.high (K := 16) rfl (fun k hk => by rw [H2_get, if_neg (by omega), if_neg (by omega)])
  have h5 := hT.on.h5
  rcases (by omega : h = 1 ∨ h = 2 ∨ h = 3 ∨ h = 4 ∨ h = 5) with rfl | rfl | rfl | rfl | rfl
  · exact absurd h2 (by decide)
  · rfl
  · exact h3.elim (fun q => by omega) (fun q => absurd q (by decide))
  · exact h3.elim (fun q => by omega) (fun q => absurd q (by decide))
  · exact h3.elim (fun q => by omega) (fun q => absurd q (by decide))
theorem high_H1 {w : World} {gt h : Nat} (hT : Tree w gt h H1) : h = 1 := by
  obtain ⟨h1, h2, h3⟩ := hT.high (K := 5) rfl (fun k hk => by show (if k = 5 then some 50 else none) = none; rw [if_neg (by omega)])
  have h5 := hT.on.h5
  rcases (by omega : h = 1 ∨ h = 2 ∨ h = 3 ∨ h = 4 ∨ h = 5) with rfl | rfl | rfl | rfl | rfl
  · rfl
  · exact h3.elim (fun q => by omega) (fun q => absurd q (by decide))
  · exact h3.elim (fun q => by omega) (fun q => absurd q (by decide))
  · exact h3.elim (fun q => by omega) (fun q => absurd q (by decide))
  · exact h3.elim (fun q => by omega) (fun q => absurd q (by decide))
theorem got16 : got (at1 H2 16) = .tuple #[.int .i64 160, .bool true] := rfl
theorem got6 : got (at1 H2 6) = .tuple #[.int .i64 0, .bool false] := rfl
theorem at5 : (at1 H1 5).isSome = true := rfl
theorem at50 : (at1 M0 5).isSome = false := rfl
theorem put5 (gt h : Nat) (w : World) (hT : Tree w gt h M0) : Calls Try.prog 16 #[.pointer (some ⟨gt, 0, none⟩), .int .i64 5, .int .i64 50] w fun e w' => ∃ h', e = .returned (.int .i64 0) ∧ Tree w' gt h' H1 ∧ w.grownBy w' (some gt) := put_any gt h 5 50 M0 w hT (by omega)
theorem put16 (gt h : Nat) (w : World) (hT : Tree w gt h H1) : Calls Try.prog 16 #[.pointer (some ⟨gt, 0, none⟩), .int .i64 16, .int .i64 160] w fun e w' => ∃ h', e = .returned (.int .i64 0) ∧ Tree w' gt h' H2 ∧ w.grownBy w' (some gt) := put_any gt h 16 160 H1 w hT (by omega)
theorem cut6 (gt h : Nat) (w : World) (hT : Tree w gt h H2) : Calls Try.prog 11 #[.pointer (some ⟨gt, 0, none⟩), .int .i64 6] w fun e w' => ∃ h', e = .returned (.int .i64 1) ∧ Tree w' gt h' H1 ∧ w.grownBy w' (some gt) := by
  refine (cut_any gt h 6 H2 w hT (by omega)).mono ?_
  rintro e w' ⟨h', rfl, t1, t2⟩
  rw [cut_H2] at t1
  have e6 : max (6 : Int) 0 = 6 := by omega
  rw [e6, cnt_H2]
  exact ⟨h', rfl, t1, t2⟩
theorem drop5 (gt h : Nat) (w : World) (hT : Tree w gt h H1) : Calls Try.prog 17 #[.pointer (some ⟨gt, 0, none⟩), .int .i64 5] w fun e w' => ∃ h', e = .returned (.bool true) ∧ Tree w' gt h' M0 ∧ w.grownBy w' (some gt) := by
  refine (drop_any gt h 5 H1 w hT (by omega)).mono ?_
  rintro e w' ⟨h', rfl, t1, t2⟩
  rw [del_H1] at t1
  exact ⟨h', by rw [at5], t1, t2⟩
theorem drop50 (gt h : Nat) (w : World) (hT : Tree w gt h M0) : Calls Try.prog 17 #[.pointer (some ⟨gt, 0, none⟩), .int .i64 5] w fun e w' => ∃ h', e = .returned (.bool false) ∧ Tree w' gt h' M0 ∧ w.grownBy w' (some gt) := by
  refine (drop_any gt h 5 M0 w hT (by omega)).mono ?_
  rintro e w' ⟨h', rfl, t1, t2⟩
  rw [del_M0] at t1
  exact ⟨h', by rw [at50], t1, t2⟩
theorem TreeX.box {w : World} {gt h : Nat} {M : Mp} (hT : TreeX bx w gt h M) : ∃ p q r, w.heap[gt]? = some (.cells #[p, q, r] 72 (0, 0)) := by
  obtain ⟨top, h1, _⟩ := hT.on.blk
  exact ⟨_, _, _, h1⟩
/-- What grows beside the one block that is new keeps all that is old. -/
theorem keep_new {w a b : World} {gt : Nat} (h : Below w.heap.size w a) (hg : w.heap.size ≤ gt) (h' : a.grownBy b (some gt)) : Below w.heap.size w b := h.grown h' h.size (fun k e => by cases e; exact hg)
theorem rd_lit (u : World) : Rd (u.alloc (.cells #[.int .i64 5, .int .i64 50, .int .i64 16, .int .i64 160] 35)) (.slice (some ⟨u.heap.size, 0, none⟩) 2 2) [(5, 50), (16, 160)] :=
  ⟨rfl, Or.inr ⟨u.heap.size, 2, _, rfl, by omega, heap_alloc_last u _, Nat.le_refl _, by decide, rfl, rfl⟩⟩
set_option maxHeartbeats 4000000 in
set_option maxRecDepth 100000 in
theorem heads_any (w : World) : Calls Try.prog 9 #[] w fun e w' => e = .returned (.bool true) ∧ Below w.heap.size w w' := by
  go_enter Try.func9, Try.ntmps9
  go_upto_region 4 with (first | (go_at_call 15; refine (new_t _).mono ?_; rintro e u1 ⟨rfl, t1, b1⟩; obtain ⟨gt, hgt⟩ : ∃ gt, w.heap.size = gt := ⟨_, rfl⟩; rw [hgt] at t1 ⊢; have HGT : Hid _ := hgt; have T1 : Hid _ := t1; have B1 : Hid _ := b1; clear t1 b1 hgt))
  go_upto_region 5 with (first | (go_at_call 16; refine (put5 gt 0 _ T1.out).mono ?_; rintro e u2 ⟨h2, rfl, t2, g2⟩; have T2 : Hid _ := t2; have B2 : Hid _ := keep_new B1.out (Nat.le_of_eq HGT.out) g2; clear t2 g2))
  go_upto_region 6 with (first | (go_at_call 16; refine (put16 gt h2 _ T2.out).mono ?_; rintro e u3 ⟨h3, rfl, t3, g3⟩; obtain rfl := high_H2 t3; have T3 : Hid _ := t3; have B3 : Hid _ := keep_new B2.out (Nat.le_of_eq HGT.out) g3; clear t3 g3))
  go_upto_region 7 with (first | (go_at_call 16; refine (put_bad gt 2 (-1) 0 0 _ (by omega)).mono ?_; rintro e u4 ⟨rfl, rfl⟩))
  go_upto_region 8 with (first | (go_at_call 19; refine (get_t gt 2 16 H2 _ T3.out).mono ?_; rintro e u5 ⟨rfl, t5, b5⟩; rw [got16]; have T5 : Hid _ := t5; have B5 : Hid _ := B3.out.trans (b5.mono B3.out.size); clear t5 b5))
  go_upto_region 9 with (first | (go_at_call 19; refine (get_t gt 2 6 H2 _ T5.out).mono ?_; rintro e u6 ⟨rfl, t6, b6⟩; rw [got6]; have T6 : Hid _ := t6; have B6 : Hid _ := B5.out.trans (b6.mono B5.out.size); clear t6 b6))
  go_upto_region 11 with (first
    | (go_at_call 20; refine (no_any _ _).mono ?_; rintro e u ⟨rfl, rfl⟩)
    | (go_at_call 14; refine (len_t gt 2 H2 _ T6.out).mono ?_; rintro e u ⟨rfl, rfl⟩; rw [num_H2])
    | (go_at_call 13; refine (height_t gt 2 H2 _ T6.out).mono ?_; rintro e u ⟨rfl, rfl⟩))
  go_upto_region 13 with (first
    | (go_at_call 12; refine (pairs_t gt 2 H2 _ T6.out).mono ?_; rintro e u7 ⟨v, rfl, r7, t7, b7⟩; rw [all_H2] at r7; have R7 : Hid _ := r7; have T7 : Hid _ := t7; have B7 : Hid _ := B6.out.trans (b7.mono B6.out.size); clear r7 t7 b7)
    | (go_at_call 18; refine (same_t _ _ _ [(5, 50), (16, 160)] (Rd.below R7.out (below_new _ _)) (rd_lit _)).mono ?_; rintro e u8 ⟨rfl, b8⟩; have T8 : Hid _ := (T7.out.below (below_new _ _)).below b8; have B8 : Hid _ := (B7.out.trans ((below_new _ _).mono B7.out.size)).trans (b8.mono (Nat.le_trans B7.out.size (by simp))); clear b8))
  go_wp2_with (first
    | (go_at_call 11; refine (cut6 gt 2 _ T8.out).mono ?_; rintro e u9 ⟨h9, rfl, t9, g9⟩; obtain rfl := high_H1 t9; have T9 : Hid _ := t9; have B9 : Hid _ := keep_new B8.out (Nat.le_of_eq HGT.out) g9; clear t9 g9)
    | (go_at_call 13; refine (height_t gt 1 H1 _ T9.out).mono ?_; rintro e u ⟨rfl, rfl⟩)
    | (go_at_call 17; refine (drop5 gt 1 _ T9.out).mono ?_; rintro e ua ⟨ha, rfl, ta, ga⟩; have TA : Hid _ := ta; have BA : Hid _ := keep_new B9.out (Nat.le_of_eq HGT.out) ga; clear ta ga T9)
    | (go_at_call 17; refine (drop50 gt ha _ TA.out).mono ?_; rintro e ub ⟨hb, rfl, tb, gb⟩; obtain rfl := tb.low0 (fun _ => rfl); have TB : Hid _ := tb; have BB : Hid _ := keep_new BA.out (Nat.le_of_eq HGT.out) gb; clear tb gb TA)
    | (go_at_call 13; refine (height_t gt 0 M0 _ TB.out).mono ?_; rintro e u ⟨rfl, rfl⟩))
  go_ret
  exact ⟨rfl, BB.out⟩
end Go.Proofs.Ytjginocbbnmgaaa
