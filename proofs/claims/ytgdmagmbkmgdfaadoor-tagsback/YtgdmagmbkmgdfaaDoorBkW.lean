/-
  SEAT YtgdmagmbkmgdfaaDoor: TagsBack: the walk.
-/
import Derived.Test.YtgdmagmbkmgdfaaDoorWiW
namespace Go.Proofs.YtgdmagmbkmgdfaaDoor
open Go.RowKit Go.ChangeShapes Go.WideShapes Go.ChangeAt
set_option linter.unusedVariables false

/-- The boxes, all that was told since, the table. -/
structure Bk (w0 w : World) (B P sec n0 n1 n2 n3 n4 n5 n6 n7 : Int) (R : List (Value × List Int)) : Prop where
  gx : Geo w w0.heap.size B P sec
  bx : Box w (w0.heap.size + 1) n0 n1 n2 n3 n4 n5 n6 n7
  lv : Live w (w0.heap.size + 2) R
  bel : Below w0.heap.size w0 w
  tab : Tab w

section
variable {w0 w w' : World} {B P sec n0 n1 n2 n3 n4 n5 n6 n7 : Int} {R : List (Value × List Int)}
theorem Bk.hB (h : Bk w0 w B P sec n0 n1 n2 n3 n4 n5 n6 n7 R) : w0.heap.size + 2 ≤ w.heap.size := h.bx.lt
theorem Bk.below (h : Bk w0 w B P sec n0 n1 n2 n3 n4 n5 n6 n7 R) (hb : Below w.heap.size w w') : Bk w0 w' B P sec n0 n1 n2 n3 n4 n5 n6 n7 R := ⟨h.gx.below hb, h.bx.below hb, h.lv.below hb, h.bel.trans (hb.mono h.bel.size), h.tab.below hb⟩
theorem Bk.add {n : Nat} {v : Value} {xs : List Int} (h : Bk w0 w B P sec n0 n1 n2 n3 n4 n5 n6 n7 R) (hb : Below w.heap.size w w') (hl : xs.length = n) (hr : w'.ownsRow w.heap.size 5 1 v n (xs.map (Value.int .u8))) : Bk w0 w' B P sec n0 n1 n2 n3 n4 n5 n6 n7 ((v, xs) :: R) :=
  ⟨h.gx.below hb, h.bx.below hb, h.lv.add hb h.hB hl hr, h.bel.trans (hb.mono h.bel.size), h.tab.below hb⟩
theorem Bk.start {u : World} (hT : Tab w0) (b : Below ((w0.alloc (.cells #[.int .i64 B, .int .i64 P, .int .i64 sec] 46)).alloc (.cells #[.int .i64 n0, .int .i64 n1, .int .u64 n2, .int .u64 n3, .int .i64 n4, .int .i64 n5, .int .i64 n6, .int .i64 n7] 25)).heap.size ((w0.alloc (.cells #[.int .i64 B, .int .i64 P, .int .i64 sec] 46)).alloc (.cells #[.int .i64 n0, .int .i64 n1, .int .u64 n2, .int .u64 n3, .int .i64 n4, .int .i64 n5, .int .i64 n6, .int .i64 n7] 25)) u) : Bk w0 u B P sec n0 n1 n2 n3 n4 n5 n6 n7 [] := by
  have b0 : Below w0.heap.size w0 u := chk.below2 b
  refine ⟨((Geo.made w0 B P sec).below ((Below.refl _ _).alloc (Nat.le_refl _) (.cells #[.int .i64 n0, .int .i64 n1, .int .u64 n2, .int .u64 n3, .int .i64 n4, .int .i64 n5, .int .i64 n6, .int .i64 n7] 25))).below b, ?_, ⟨by simp, List.Pairwise.nil⟩, b0, hT.below b0⟩
  have := (Box.made (w0.alloc (.cells #[.int .i64 B, .int .i64 P, .int .i64 sec] 46)) n0 n1 n2 n3 n4 n5 n6 n7).below b
  rw [size_al] at this
  exact this
theorem Bk.row {n c : Nat} {a : Option Addr} {xs : List Int} (h : Bk w0 w B P sec n0 n1 n2 n3 n4 n5 n6 n7 R) (hm : (.slice a n c, xs) ∈ R) (hl : xs.length = n) (hr : ∀ x ∈ xs, 0 ≤ x ∧ x ≤ 255) : Reads w a n xs := h.lv.reads hm hl hr
end

/-- All that is known of what is packed, and of what is read. -/
structure Bx (n0 n1 n2 n3 n4 n5 n6 n7 : Int) (Q L : List Int) (N M : Nat) (C : Int) : Prop where
  nQ : Q.length = N
  nL : L.length = M
  rQ : ∀ x ∈ Q, 0 ≤ x ∧ x ≤ 255
  rL : ∀ x ∈ L, 0 ≤ x ∧ x ≤ 255
  c16 : ∀ w : World, Tab w → Calls Tryd.prog 16 #[T8 n0 n1 n2 n3 n4 n5 n6 n7] w fun e w' => ∃ a c, e = .returned (.tuple #[.slice a N c, .int .i64 C]) ∧ w'.ownsRow w.heap.size 5 1 (.slice a N c) N (Q.map (Value.int .u8)) ∧ Below w.heap.size w w'
  c17 : ∀ w : World, Tab w → Calls Tryd.prog 17 #[T8 n0 n1 n2 n3 n4 n5 n6 n7] w fun e w' => ∃ a c, e = .returned (.tuple #[.slice a M c, .int .i64 C]) ∧ w'.ownsRow w.heap.size 5 1 (.slice a M c) M (L.map (Value.int .u8)) ∧ Below w.heap.size w w'

/-- Read of bytes of this length; Pack of what is read. -/
structure Bz (l : Nat) (zs : List Int) (m0 m1 m2 m3 m4 m5 m6 m7 K : Int) : Prop where
  c10 : ∀ (w : World) (a : Option Addr) (cap : Nat), Tab w → Reads w a l zs → Calls Tryd.prog 10 #[.slice a l cap] w fun e w' => e = .returned (.tuple #[T8 m0 m1 m2 m3 m4 m5 m6 m7, .int .i64 K]) ∧ Below w.heap.size w w'
  c16 : l = 26 → ∀ w : World, Tab w → Calls Tryd.prog 16 #[T8 m0 m1 m2 m3 m4 m5 m6 m7] w fun e w' => ∃ a c, e = .returned (.tuple #[.slice a 26 c, .int .i64 0]) ∧ w'.ownsRow w.heap.size 5 1 (.slice a 26 c) 26 (zs.map (Value.int .u8)) ∧ Below w.heap.size w w'

set_option maxHeartbeats 4000000 in
set_option maxRecDepth 100000 in
theorem backA (B P sec n0 n1 n2 n3 n4 n5 n6 n7 E : Int) (a : Option Addr) (cap : Nat) (zs : List Int) (m0 m1 m2 m3 m4 m5 m6 m7 K : Int) (w : World) (hT : Tab w) (h2 : 0 ≤ n2) (h3 : 0 ≤ n3) (hE : chk.chkE B P sec n0 n1 n2 n3 n4 n5 n6 n7 = E) (hsm : Small n0 n1 n2 n3 n4 n5 n6 n7) (hx : Bx n0 n1 n2 n3 n4 n5 n6 n7 (tagL n0 n1 n2 n3 n4 n5 n6 n7) (railL (tagL n0 n1 n2 n3 n4 n5 n6 n7)) 26 54 0) (hz : Bz 26 zs m0 m1 m2 m3 m4 m5 m6 m7 K) (hw : Reads w a 26 zs) (hK : K = 0) :
    Calls Tryd.prog 7 #[.agg #[.int .i64 B, .int .i64 P, .int .i64 sec], T8 n0 n1 n2 n3 n4 n5 n6 n7, .slice a 26 cap] w fun e w' => e = .returned (.bool true) ∧ Below w.heap.size w w' := by
  subst hK
  have HT : Hid (Tab w) := hT
  have HE : Hid (chk.chkE B P sec n0 n1 n2 n3 n4 n5 n6 n7 = E) := hE
  have HX : Hid (Bx n0 n1 n2 n3 n4 n5 n6 n7 (tagL n0 n1 n2 n3 n4 n5 n6 n7) (railL (tagL n0 n1 n2 n3 n4 n5 n6 n7)) 26 54 0) := hx
  have HZ : Hid (Bz 26 zs m0 m1 m2 m3 m4 m5 m6 m7 0) := hz
  have HW : Hid (Reads w a 26 zs) := hw
  have g0 : Hid True := trivial
  have HSM : Hid (Small n0 n1 n2 n3 n4 n5 n6 n7) := hsm
  have hdz : decide (zs = zs) = true := decide_eq_true rfl
  clear hT hE hx hz hw hsm
  by_cases hE0 : E = 0
  all_goals
    try subst hE0
    try (have hE1 : (E == 0) = false := by simpa using hE0)
    go_enter Tryd.func7, Tryd.ntmps7
    go_wp2_with (first
      | (go_at_call 21; have h9 := g0; clear h9; refine (heads_any _ ?_).mono ?_; exact HT.out.below (((Below.refl w.heap.size w).alloc (Nat.le_refl _) _).alloc (by simp) _); rintro e u1 ⟨rfl, b1⟩; have t1 := Bk.start HT.out b1; obtain ⟨⟨x0, x1, x2, x3, x4, x5, x6, x7⟩, _⟩ := t8_cells t1.bx; clear g0 b1)
      | (go_at_call 16; have h9 := t1; clear h9; refine (HX.out.c16 _ ?_).mono ?_; (with_reducible exact t1.tab); rintro e u2 ⟨ax, cx, rfl, o2, b2⟩; have t2 := t1.add b2 HX.out.nQ o2; clear x0 x1 x2 x3 x4 x5 x6 x7; obtain ⟨⟨x0, x1, x2, x3, x4, x5, x6, x7⟩, _⟩ := t8_cells t2.bx; clear t1 o2 b2)
      | (go_at_call 17; have h9 := t2; clear h9; refine (HX.out.c17 _ ?_).mono ?_; (with_reducible exact t2.tab); rintro e u3 ⟨ay, cy, rfl, o3, b3⟩; have t3 := t2.add b3 HX.out.nL o3; clear x0 x1 x2 x3 x4 x5 x6 x7; obtain ⟨⟨x0, x1, x2, x3, x4, x5, x6, x7⟩, _⟩ := t8_cells t3.bx; obtain ⟨p0, p1, p2⟩ := t3.gx.cells; clear t2 o3 b3)
      | (go_at_call 22; have h9 := t3; clear h9; refine (chk.check_any B P sec n0 n1 n2 n3 n4 n5 n6 n7 _).mono ?_; rintro e u4 ⟨rfl, b4⟩; rw [HE.out]; have t4 := t3.below b4; clear x0 x1 x2 x3 x4 x5 x6 x7; clear p0 p1 p2; have rx := t4.row (a := ax) (c := cx) (xs := tagL n0 n1 n2 n3 n4 n5 n6 n7) (by simp) HX.out.nQ HX.out.rQ; clear t3 b4)
      | (go_at_call 11; refine (no_any _ _).mono ?_; rintro e u ⟨rfl, rfl⟩)
      | (go_at_call 10; have h9 := rx; clear h9; refine (read_tags _ _ n0 n1 n2 n3 n4 n5 n6 n7 _ ?_ ?_ ?_ ?_ ?_).mono ?_; exact t4.tab; exact h2; exact h3; exact HSM.out; (with_reducible exact rx); rintro e u5 ⟨rfl, b5⟩; have b5A := b5.alloc b5.size (.cells #[.int .i64 n0, .int .i64 n1, .int .u64 n2, .int .u64 n3, .int .i64 n4, .int .i64 n5, .int .i64 n6, .int .i64 n7] 25); have t5 := t4.below b5A; have k5 := Box.made u5 n0 n1 n2 n3 n4 n5 n6 n7; have ry := t5.row (a := ay) (c := cy) (xs := railL (tagL n0 n1 n2 n3 n4 n5 n6 n7)) (by simp) HX.out.nL HX.out.rL; clear t4 rx b5 b5A)
      | (go_at_call 20; have h9 := ry; clear h9; refine (lift_tags _ _ n0 n1 n2 n3 n4 n5 n6 n7 _ ?_ ?_ ?_ ?_ ?_).mono ?_; exact t5.tab; exact h2; exact h3; exact HSM.out; (with_reducible exact ry); rintro e u6 ⟨rfl, b6⟩; have b6A := b6.alloc b6.size (.cells #[.int .i64 n0, .int .i64 n1, .int .u64 n2, .int .u64 n3, .int .i64 n4, .int .i64 n5, .int .i64 n6, .int .i64 n7] 25); have t6 := t5.below b6A; have k6 := k5.below b6A; obtain ⟨⟨y0, y1, y2, y3, y4, y5, y6, y7⟩, _⟩ := t8_cells k6; obtain ⟨⟨x0, x1, x2, x3, x4, x5, x6, x7⟩, _⟩ := t8_cells t6.bx; have j6 := Box.made u6 n0 n1 n2 n3 n4 n5 n6 n7; clear t5 ry b6 b6A k5 k6)
      | (go_at_call 12; have h9 := j6; clear h9; refine (same8 _ _ _ _ _ _ _ _ _).mono ?_; rintro e u7 ⟨rfl, b7⟩; have t7 := t6.below b7; clear x0 x1 x2 x3 x4 x5 x6 x7; clear y0 y1 y2 y3 y4 y5 y6 y7; obtain ⟨⟨x0, x1, x2, x3, x4, x5, x6, x7⟩, _⟩ := t8_cells t7.bx; obtain ⟨⟨y0, y1, y2, y3, y4, y5, y6, y7⟩, _⟩ := t8_cells (j6.below b7); clear t6 b7 j6)
      | (go_at_call 12; have h9 := t7; clear h9; refine (same8 _ _ _ _ _ _ _ _ _).mono ?_; rintro e u8 ⟨rfl, b8⟩; have t8 := t7.below b8; clear x0 x1 x2 x3 x4 x5 x6 x7; clear y0 y1 y2 y3 y4 y5 y6 y7; have r4 := HW.out.below t8.bel; have t4 := t8; clear t7 t8 b8)
      | (go_at_call 10; have h9 := r4; clear h9; refine (HZ.out.c10 _ _ _ ?_ ?_).mono ?_; (with_reducible exact t4.tab); (with_reducible exact r4); rintro e u9 ⟨rfl, b9⟩; have b9A := b9.alloc b9.size (.cells #[.int .i64 m0, .int .i64 m1, .int .u64 m2, .int .u64 m3, .int .i64 m4, .int .i64 m5, .int .i64 m6, .int .i64 m7] 25); have t9 := t4.below b9A; clear r4 t4 b9 b9A)
      | (go_at_call 16; have h9 := t9; clear h9; refine (HZ.out.c16 rfl _ ?_).mono ?_; exact t9.tab; rintro e uA ⟨az, cz, rfl, oA, bA⟩; have tA := t9.add bA HW.out.1 oA; have rz := tA.row (a := az) (c := cz) (xs := zs) (by simp) HW.out.1 HW.out.2.1; have rb := HW.out.below tA.bel; clear t9 oA bA)
      | (go_at_call 18; have h9 := rz; clear h9; refine (same_any _ _ _ _ _ zs zs _ ?_ ?_ ?_).mono ?_; omega; (with_reducible exact rz); (with_reducible exact rb); rintro e uB ⟨rfl, kB, rfl⟩))
    go_ret
    exact ⟨rfl, below_drewN tA.bel _⟩

set_option maxHeartbeats 4000000 in
set_option maxRecDepth 100000 in
theorem backB (B P sec n0 n1 n2 n3 n4 n5 n6 n7 E : Int) (a : Option Addr) (l cap : Nat) (zs : List Int) (m0 m1 m2 m3 m4 m5 m6 m7 K : Int) (w : World) (hT : Tab w) (h2 : 0 ≤ n2) (h3 : 0 ≤ n3) (hE : chk.chkE B P sec n0 n1 n2 n3 n4 n5 n6 n7 = E) (hsm : Small n0 n1 n2 n3 n4 n5 n6 n7) (hx : Bx n0 n1 n2 n3 n4 n5 n6 n7 (tagL n0 n1 n2 n3 n4 n5 n6 n7) (railL (tagL n0 n1 n2 n3 n4 n5 n6 n7)) 26 54 0) (hz : Bz l zs m0 m1 m2 m3 m4 m5 m6 m7 K) (hw : Reads w a l zs) (hK : K = 60) (hl : l ≠ 26) (hl2 : l ≤ 140737488351232) :
    Calls Tryd.prog 7 #[.agg #[.int .i64 B, .int .i64 P, .int .i64 sec], T8 n0 n1 n2 n3 n4 n5 n6 n7, .slice a l cap] w fun e w' => e = .returned (.bool true) ∧ Below w.heap.size w w' := by
  subst hK
  have HT : Hid (Tab w) := hT
  have HE : Hid (chk.chkE B P sec n0 n1 n2 n3 n4 n5 n6 n7 = E) := hE
  have HX : Hid (Bx n0 n1 n2 n3 n4 n5 n6 n7 (tagL n0 n1 n2 n3 n4 n5 n6 n7) (railL (tagL n0 n1 n2 n3 n4 n5 n6 n7)) 26 54 0) := hx
  have HZ : Hid (Bz l zs m0 m1 m2 m3 m4 m5 m6 m7 60) := hz
  have HW : Hid (Reads w a l zs) := hw
  have g0 : Hid True := trivial
  have HSM : Hid (Small n0 n1 n2 n3 n4 n5 n6 n7) := hsm
  have hl3 : ((l : Int) == 26) = false := by simp; omega
  clear hT hE hx hz hw hsm
  by_cases hE0 : E = 0
  all_goals
    try subst hE0
    try (have hE1 : (E == 0) = false := by simpa using hE0)
    go_enter Tryd.func7, Tryd.ntmps7
    go_wp2_with (first
      | (go_at_call 21; have h9 := g0; clear h9; refine (heads_any _ ?_).mono ?_; exact HT.out.below (((Below.refl w.heap.size w).alloc (Nat.le_refl _) _).alloc (by simp) _); rintro e u1 ⟨rfl, b1⟩; have t1 := Bk.start HT.out b1; obtain ⟨⟨x0, x1, x2, x3, x4, x5, x6, x7⟩, _⟩ := t8_cells t1.bx; clear g0 b1)
      | (go_at_call 16; have h9 := t1; clear h9; refine (HX.out.c16 _ ?_).mono ?_; (with_reducible exact t1.tab); rintro e u2 ⟨ax, cx, rfl, o2, b2⟩; have t2 := t1.add b2 HX.out.nQ o2; clear x0 x1 x2 x3 x4 x5 x6 x7; obtain ⟨⟨x0, x1, x2, x3, x4, x5, x6, x7⟩, _⟩ := t8_cells t2.bx; clear t1 o2 b2)
      | (go_at_call 17; have h9 := t2; clear h9; refine (HX.out.c17 _ ?_).mono ?_; (with_reducible exact t2.tab); rintro e u3 ⟨ay, cy, rfl, o3, b3⟩; have t3 := t2.add b3 HX.out.nL o3; clear x0 x1 x2 x3 x4 x5 x6 x7; obtain ⟨⟨x0, x1, x2, x3, x4, x5, x6, x7⟩, _⟩ := t8_cells t3.bx; obtain ⟨p0, p1, p2⟩ := t3.gx.cells; clear t2 o3 b3)
      | (go_at_call 22; have h9 := t3; clear h9; refine (chk.check_any B P sec n0 n1 n2 n3 n4 n5 n6 n7 _).mono ?_; rintro e u4 ⟨rfl, b4⟩; rw [HE.out]; have t4 := t3.below b4; clear x0 x1 x2 x3 x4 x5 x6 x7; clear p0 p1 p2; have rx := t4.row (a := ax) (c := cx) (xs := tagL n0 n1 n2 n3 n4 n5 n6 n7) (by simp) HX.out.nQ HX.out.rQ; clear t3 b4)
      | (go_at_call 11; refine (no_any _ _).mono ?_; rintro e u ⟨rfl, rfl⟩)
      | (go_at_call 10; have h9 := rx; clear h9; refine (read_tags _ _ n0 n1 n2 n3 n4 n5 n6 n7 _ ?_ ?_ ?_ ?_ ?_).mono ?_; exact t4.tab; exact h2; exact h3; exact HSM.out; (with_reducible exact rx); rintro e u5 ⟨rfl, b5⟩; have b5A := b5.alloc b5.size (.cells #[.int .i64 n0, .int .i64 n1, .int .u64 n2, .int .u64 n3, .int .i64 n4, .int .i64 n5, .int .i64 n6, .int .i64 n7] 25); have t5 := t4.below b5A; have k5 := Box.made u5 n0 n1 n2 n3 n4 n5 n6 n7; have ry := t5.row (a := ay) (c := cy) (xs := railL (tagL n0 n1 n2 n3 n4 n5 n6 n7)) (by simp) HX.out.nL HX.out.rL; clear t4 rx b5 b5A)
      | (go_at_call 20; have h9 := ry; clear h9; refine (lift_tags _ _ n0 n1 n2 n3 n4 n5 n6 n7 _ ?_ ?_ ?_ ?_ ?_).mono ?_; exact t5.tab; exact h2; exact h3; exact HSM.out; (with_reducible exact ry); rintro e u6 ⟨rfl, b6⟩; have b6A := b6.alloc b6.size (.cells #[.int .i64 n0, .int .i64 n1, .int .u64 n2, .int .u64 n3, .int .i64 n4, .int .i64 n5, .int .i64 n6, .int .i64 n7] 25); have t6 := t5.below b6A; have k6 := k5.below b6A; obtain ⟨⟨y0, y1, y2, y3, y4, y5, y6, y7⟩, _⟩ := t8_cells k6; obtain ⟨⟨x0, x1, x2, x3, x4, x5, x6, x7⟩, _⟩ := t8_cells t6.bx; have j6 := Box.made u6 n0 n1 n2 n3 n4 n5 n6 n7; clear t5 ry b6 b6A k5 k6)
      | (go_at_call 12; have h9 := j6; clear h9; refine (same8 _ _ _ _ _ _ _ _ _).mono ?_; rintro e u7 ⟨rfl, b7⟩; have t7 := t6.below b7; clear x0 x1 x2 x3 x4 x5 x6 x7; clear y0 y1 y2 y3 y4 y5 y6 y7; obtain ⟨⟨x0, x1, x2, x3, x4, x5, x6, x7⟩, _⟩ := t8_cells t7.bx; obtain ⟨⟨y0, y1, y2, y3, y4, y5, y6, y7⟩, _⟩ := t8_cells (j6.below b7); clear t6 b7 j6)
      | (go_at_call 12; have h9 := t7; clear h9; refine (same8 _ _ _ _ _ _ _ _ _).mono ?_; rintro e u8 ⟨rfl, b8⟩; have t8 := t7.below b8; clear x0 x1 x2 x3 x4 x5 x6 x7; clear y0 y1 y2 y3 y4 y5 y6 y7; have r4 := HW.out.below t8.bel; have t4 := t8; clear t7 t8 b8)
      | (go_at_call 10; have h9 := r4; clear h9; refine (HZ.out.c10 _ _ _ ?_ ?_).mono ?_; (with_reducible exact t4.tab); (with_reducible exact r4); rintro e u9 ⟨rfl, b9⟩; have b9A := b9.alloc b9.size (.cells #[.int .i64 m0, .int .i64 m1, .int .u64 m2, .int .u64 m3, .int .i64 m4, .int .i64 m5, .int .i64 m6, .int .i64 m7] 25); have t9 := t4.below b9A; clear r4 t4 b9 b9A))
    go_ret
    exact ⟨rfl, t9.bel⟩

set_option maxHeartbeats 4000000 in
set_option maxRecDepth 100000 in
theorem backC (B P sec n0 n1 n2 n3 n4 n5 n6 n7 E : Int) (a : Option Addr) (cap : Nat) (zs : List Int) (m0 m1 m2 m3 m4 m5 m6 m7 K : Int) (w : World) (hT : Tab w) (h2 : 0 ≤ n2) (h3 : 0 ≤ n3) (hE : chk.chkE B P sec n0 n1 n2 n3 n4 n5 n6 n7 = E) (hx : Bx n0 n1 n2 n3 n4 n5 n6 n7 [] [] 0 0 61) (hne : E ≠ 0) (hz : Bz 26 zs m0 m1 m2 m3 m4 m5 m6 m7 K) (hw : Reads w a 26 zs) (hK : K = 0) :
    Calls Tryd.prog 7 #[.agg #[.int .i64 B, .int .i64 P, .int .i64 sec], T8 n0 n1 n2 n3 n4 n5 n6 n7, .slice a 26 cap] w fun e w' => e = .returned (.bool true) ∧ Below w.heap.size w w' := by
  subst hK
  have HT : Hid (Tab w) := hT
  have HE : Hid (chk.chkE B P sec n0 n1 n2 n3 n4 n5 n6 n7 = E) := hE
  have HX : Hid (Bx n0 n1 n2 n3 n4 n5 n6 n7 [] [] 0 0 61) := hx
  have HZ : Hid (Bz 26 zs m0 m1 m2 m3 m4 m5 m6 m7 0) := hz
  have HW : Hid (Reads w a 26 zs) := hw
  have g0 : Hid True := trivial
  have hne2 : (E == 0) = false := by simpa using hne
  have hdz : decide (zs = zs) = true := decide_eq_true rfl
  clear hT hE hx hz hw hne
  go_enter Tryd.func7, Tryd.ntmps7
  go_wp2_with (first
    | (go_at_call 21; have h9 := g0; clear h9; refine (heads_any _ ?_).mono ?_; exact HT.out.below (((Below.refl w.heap.size w).alloc (Nat.le_refl _) _).alloc (by simp) _); rintro e u1 ⟨rfl, b1⟩; have t1 := Bk.start HT.out b1; obtain ⟨⟨x0, x1, x2, x3, x4, x5, x6, x7⟩, _⟩ := t8_cells t1.bx; clear g0 b1)
    | (go_at_call 16; have h9 := t1; clear h9; refine (HX.out.c16 _ ?_).mono ?_; (with_reducible exact t1.tab); rintro e u2 ⟨ax, cx, rfl, o2, b2⟩; have t2 := t1.add b2 HX.out.nQ o2; clear x0 x1 x2 x3 x4 x5 x6 x7; obtain ⟨⟨x0, x1, x2, x3, x4, x5, x6, x7⟩, _⟩ := t8_cells t2.bx; clear t1 o2 b2)
    | (go_at_call 17; have h9 := t2; clear h9; refine (HX.out.c17 _ ?_).mono ?_; (with_reducible exact t2.tab); rintro e u3 ⟨ay, cy, rfl, o3, b3⟩; have t3 := t2.add b3 HX.out.nL o3; clear x0 x1 x2 x3 x4 x5 x6 x7; obtain ⟨⟨x0, x1, x2, x3, x4, x5, x6, x7⟩, _⟩ := t8_cells t3.bx; obtain ⟨p0, p1, p2⟩ := t3.gx.cells; clear t2 o3 b3)
    | (go_at_call 22; have h9 := t3; clear h9; refine (chk.check_any B P sec n0 n1 n2 n3 n4 n5 n6 n7 _).mono ?_; rintro e u4 ⟨rfl, b4⟩; rw [HE.out]; have t4 := t3.below b4; clear x0 x1 x2 x3 x4 x5 x6 x7; clear p0 p1 p2; have r4 := HW.out.below t4.bel; clear t3 b4)
    | (go_at_call 11; refine (no_any _ _).mono ?_; rintro e u ⟨rfl, rfl⟩)
    | (go_at_call 10; have h9 := r4; clear h9; refine (HZ.out.c10 _ _ _ ?_ ?_).mono ?_; (with_reducible exact t4.tab); (with_reducible exact r4); rintro e u9 ⟨rfl, b9⟩; have b9A := b9.alloc b9.size (.cells #[.int .i64 m0, .int .i64 m1, .int .u64 m2, .int .u64 m3, .int .i64 m4, .int .i64 m5, .int .i64 m6, .int .i64 m7] 25); have t9 := t4.below b9A; clear r4 t4 b9 b9A)
    | (go_at_call 16; have h9 := t9; clear h9; refine (HZ.out.c16 rfl _ ?_).mono ?_; exact t9.tab; rintro e uA ⟨az, cz, rfl, oA, bA⟩; have tA := t9.add bA HW.out.1 oA; have rz := tA.row (a := az) (c := cz) (xs := zs) (by simp) HW.out.1 HW.out.2.1; have rb := HW.out.below tA.bel; clear t9 oA bA)
    | (go_at_call 18; have h9 := rz; clear h9; refine (same_any _ _ _ _ _ zs zs _ ?_ ?_ ?_).mono ?_; omega; (with_reducible exact rz); (with_reducible exact rb); rintro e uB ⟨rfl, kB, rfl⟩))
  go_ret
  exact ⟨rfl, below_drewN tA.bel _⟩

set_option maxHeartbeats 4000000 in
set_option maxRecDepth 100000 in
theorem backD (B P sec n0 n1 n2 n3 n4 n5 n6 n7 E : Int) (a : Option Addr) (l cap : Nat) (zs : List Int) (m0 m1 m2 m3 m4 m5 m6 m7 K : Int) (w : World) (hT : Tab w) (h2 : 0 ≤ n2) (h3 : 0 ≤ n3) (hE : chk.chkE B P sec n0 n1 n2 n3 n4 n5 n6 n7 = E) (hx : Bx n0 n1 n2 n3 n4 n5 n6 n7 [] [] 0 0 61) (hne : E ≠ 0) (hz : Bz l zs m0 m1 m2 m3 m4 m5 m6 m7 K) (hw : Reads w a l zs) (hK : K = 60) (hl : l ≠ 26) (hl2 : l ≤ 140737488351232) :
    Calls Tryd.prog 7 #[.agg #[.int .i64 B, .int .i64 P, .int .i64 sec], T8 n0 n1 n2 n3 n4 n5 n6 n7, .slice a l cap] w fun e w' => e = .returned (.bool true) ∧ Below w.heap.size w w' := by
  subst hK
  have HT : Hid (Tab w) := hT
  have HE : Hid (chk.chkE B P sec n0 n1 n2 n3 n4 n5 n6 n7 = E) := hE
  have HX : Hid (Bx n0 n1 n2 n3 n4 n5 n6 n7 [] [] 0 0 61) := hx
  have HZ : Hid (Bz l zs m0 m1 m2 m3 m4 m5 m6 m7 60) := hz
  have HW : Hid (Reads w a l zs) := hw
  have g0 : Hid True := trivial
  have hne2 : (E == 0) = false := by simpa using hne
  have hl3 : ((l : Int) == 26) = false := by simp; omega
  clear hT hE hx hz hw hne
  go_enter Tryd.func7, Tryd.ntmps7
  go_wp2_with (first
    | (go_at_call 21; have h9 := g0; clear h9; refine (heads_any _ ?_).mono ?_; exact HT.out.below (((Below.refl w.heap.size w).alloc (Nat.le_refl _) _).alloc (by simp) _); rintro e u1 ⟨rfl, b1⟩; have t1 := Bk.start HT.out b1; obtain ⟨⟨x0, x1, x2, x3, x4, x5, x6, x7⟩, _⟩ := t8_cells t1.bx; clear g0 b1)
    | (go_at_call 16; have h9 := t1; clear h9; refine (HX.out.c16 _ ?_).mono ?_; (with_reducible exact t1.tab); rintro e u2 ⟨ax, cx, rfl, o2, b2⟩; have t2 := t1.add b2 HX.out.nQ o2; clear x0 x1 x2 x3 x4 x5 x6 x7; obtain ⟨⟨x0, x1, x2, x3, x4, x5, x6, x7⟩, _⟩ := t8_cells t2.bx; clear t1 o2 b2)
    | (go_at_call 17; have h9 := t2; clear h9; refine (HX.out.c17 _ ?_).mono ?_; (with_reducible exact t2.tab); rintro e u3 ⟨ay, cy, rfl, o3, b3⟩; have t3 := t2.add b3 HX.out.nL o3; clear x0 x1 x2 x3 x4 x5 x6 x7; obtain ⟨⟨x0, x1, x2, x3, x4, x5, x6, x7⟩, _⟩ := t8_cells t3.bx; obtain ⟨p0, p1, p2⟩ := t3.gx.cells; clear t2 o3 b3)
    | (go_at_call 22; have h9 := t3; clear h9; refine (chk.check_any B P sec n0 n1 n2 n3 n4 n5 n6 n7 _).mono ?_; rintro e u4 ⟨rfl, b4⟩; rw [HE.out]; have t4 := t3.below b4; clear x0 x1 x2 x3 x4 x5 x6 x7; clear p0 p1 p2; have r4 := HW.out.below t4.bel; clear t3 b4)
    | (go_at_call 11; refine (no_any _ _).mono ?_; rintro e u ⟨rfl, rfl⟩)
    | (go_at_call 10; have h9 := r4; clear h9; refine (HZ.out.c10 _ _ _ ?_ ?_).mono ?_; (with_reducible exact t4.tab); (with_reducible exact r4); rintro e u9 ⟨rfl, b9⟩; have b9A := b9.alloc b9.size (.cells #[.int .i64 m0, .int .i64 m1, .int .u64 m2, .int .u64 m3, .int .i64 m4, .int .i64 m5, .int .i64 m6, .int .i64 m7] 25); have t9 := t4.below b9A; clear r4 t4 b9 b9A))
  go_ret
  exact ⟨rfl, t9.bel⟩

end Go.Proofs.YtgdmagmbkmgdfaaDoor
