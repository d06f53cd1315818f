/-
  SEAT Ytgdmagmbkmgdfad: NodeBack: the walk.
-/
import Derived.Test.YtgdmagmbkmgdfadBA
namespace Go.Proofs.Ytgdmagmbkmgdfad
open Go.RowKit
set_option linter.unusedVariables false

theorem made_at (w : World) (q : Nat) (h : w.heap.size = q) : (w.alloc (.cells #[] 5)).ownsRow q 5 1 (.slice (some ⟨q, 0, none⟩) 0 0) 0 (([] : List Int).map (Value.int .u8)) := by
  subst h
  exact made0 w
theorem marked_read {u : World} {B g len c : Nat} {zs : List Int} (h : Own u B g (len + 3) c (zs ++ [161, 178, 195])) (hl : zs.length = len) (hz : ∀ x ∈ zs, 0 ≤ x ∧ x ≤ 255) : Reads u (some ⟨g, 0, none⟩) len zs ∧ len ≤ c ∧ c ≤ 9223372036854775807 := by
  have h8 := h.reads (marks_range zs hz) len (by omega)
  rw [List.take_left' hl] at h8
  have hcc := own_shape h (by omega)
  obtain ⟨_, _, e9, h9, h10, _⟩ := hcc
  simp [maxLen] at e9 h10
  exact ⟨h8, by omega, by omega⟩
theorem own_free {w : World} {B g n cap : Nat} {xs : List Int} (h : Own w B g n cap xs) (hn : 0 < n) (j : Nat) : w.frozen? ⟨g, j, none⟩ = false := by
  rcases h.2 with ⟨h1, _⟩ | ⟨g', cap', cur, hv, hg, hh, r⟩
  · cases h1
  · cases hv
    simp [World.frozen?, hh]
theorem nox_ne {u : World} {B g n c P : Nat} {xs : List Int} {k p : Int} {N : ByteArray} {z m st h : Int} {T : ByteArray} (ho : Own u B g n c xs) (hb : Nox u P k p N z m st h T) : P ≠ g := by
  rintro rfl
  rcases ho.2 with ⟨h1, _⟩ | ⟨g', cap', cur, hv, hg, hh, r⟩
  · cases h1
  · cases hv
    unfold Nox at hb
    rw [hb] at hh
    simp at hh


set_option maxHeartbeats 4000000 in
set_option maxRecDepth 100000 in
theorem back_bad (a : Option Addr) (len cap : Nat) (zs : List Int) (E : Int) (hE : E ≠ 0) (at_ by_ : Int) (w : World) (hr : Reads w a len zs) (hs : len ≤ 140737488351232) (hc : len ≤ cap) (hcm : cap ≤ 9223372036854775807) (hn : Nr zs len 0 0 ⟨#[]⟩ 0 0 0 0 ⟨#[]⟩ E) :
    Calls Try.prog 3 #[.slice a len cap, .int .i64 at_, .int .u8 by_] w fun e w' => e = .returned (.bool true) ∧ Below w.heap.size w w' := by
  have hzr := hr.2.1
  have hzl := hr.1
  have HN : Hid _ := hn
  have HR : Hid (Reads w a len zs) := hr
  have HRB : Hid (∀ u, Below w.heap.size w u → Reads u a len zs) := fun u hu => hr.below hu
  have d1 : (E != 0) = true := by simpa using hE
  clear hn hr
  go_enter Try.func3, Try.ntmps3
  go_wp2_with (first
    | (go_at_call 5; have h9 := HR; clear h9; refine (marked_any a len cap zs _ HR.out ?_).mono ?_; omega; rintro e u1 ⟨g1, c1, rfl, o1, b1⟩; obtain ⟨r1, k1, n1⟩ := marked_read o1 hzl hzr; have R1 : Hid _ := r1; have B1 : Hid (Below w.heap.size w u1) := b1; clear o1 b1 r1 HR)
    | (go_at_call 4; have h9 := R1; clear h9; refine (HN.out.c14 _ _ c1 R1.out k1 n1).mono ?_; rintro e u2 ⟨rfl, b2⟩; have q2 := b2.alloc b2.size (.cells #[.int .i64 0, .int .i64 0, .string ⟨#[]⟩, .int .i64 0, .int .i64 0, .int .u64 0, .int .i64 0, .string ⟨#[]⟩] 25); have B2 : Hid (Below w.heap.size w (u2.alloc (.cells #[.int .i64 0, .int .i64 0, .string ⟨#[]⟩, .int .i64 0, .int .i64 0, .int .u64 0, .int .i64 0, .string ⟨#[]⟩] 25))) := B1.out.trans (q2.mono B1.out.size); have X2 : Hid (Nox (u2.alloc (.cells #[.int .i64 0, .int .i64 0, .string ⟨#[]⟩, .int .i64 0, .int .i64 0, .int .u64 0, .int .i64 0, .string ⟨#[]⟩] 25)) u2.heap.size 0 0 ⟨#[]⟩ 0 0 0 0 ⟨#[]⟩) := nox_made u2 0 0 ⟨#[]⟩ 0 0 0 0 ⟨#[]⟩; clear b2 q2 B1 R1 k1 n1)
    | (go_at_call 6; refine (HN.out.c12 _ a cap (HRB.out _ B2.out) hc hcm).mono ?_; rintro e u3 ⟨rfl, b3⟩; have q3 := b3.alloc b3.size (.cells #[.int .i64 0, .int .i64 0, .string ⟨#[]⟩, .int .i64 0, .int .i64 0, .int .u64 0, .int .i64 0, .string ⟨#[]⟩] 25); have B3 : Hid (Below w.heap.size w (u3.alloc (.cells #[.int .i64 0, .int .i64 0, .string ⟨#[]⟩, .int .i64 0, .int .i64 0, .int .u64 0, .int .i64 0, .string ⟨#[]⟩] 25))) := B2.out.trans (q3.mono B2.out.size); have x3 := X2.out.below q3 (lt_of_block X2.out); obtain ⟨⟨y0, y1, y2, y3, y4, y5, y6, y7⟩, gzy⟩ := n8_cells x3; clear gzy; have X3 : Hid (Nox (u3.alloc (.cells #[.int .i64 0, .int .i64 0, .string ⟨#[]⟩, .int .i64 0, .int .i64 0, .int .u64 0, .int .i64 0, .string ⟨#[]⟩] 25)) u2.heap.size 0 0 ⟨#[]⟩ 0 0 0 0 ⟨#[]⟩) := x3; clear b3 q3 x3 B2 X2))
  go_ret
  exact ⟨by simp, B3.out⟩


set_option maxHeartbeats 4000000 in
set_option maxRecDepth 100000 in
theorem back_same_p (a : Option Addr) (len cap : Nat) (zs : List Int) (at_ : Int) (k p : Int) (N : ByteArray) (z m st h : Int) (T : ByteArray) (E2 : Int) (j : Nat) (y0 y1 : Int) (h26 : 25 ≤ len) (hp : ∀ u : World, Calls Try.prog 7 #[.agg #[.int .i64 k, .int .i64 p, .string N, .int .i64 z, .int .i64 m, .int .u64 st, .int .i64 h, .string T]] u fun e w' => (∃ v, e = .returned (.tuple #[v, .int .i64 0]) ∧ w'.ownsRow u.heap.size 5 1 v len (zs.map (Value.int .u8))) ∧ Below u.heap.size u w') (hn2 : Nr (zs.set j y1) len k p N z m st h T E2) (hy0 : zs.getD j 0 = y0) (hy0r : 0 ≤ y0 ∧ y0 ≤ 255) (hyr : 0 ≤ y1 ∧ y1 ≤ 255) (hj : j < len) (hjk : at_.tmod len = j) (hxy : bits .xor .u8 y0 0 = y1)  (w : World) (hr : Reads w a len zs) (hs : len ≤ 140737488351232) (hc : len ≤ cap) (hcm : cap ≤ 9223372036854775807) (hn : Nr zs len k p N z m st h T 0) :
    Calls Try.prog 3 #[.slice a len cap, .int .i64 at_, .int .u8 0] w fun e w' => e = .returned (.bool true) ∧ Below w.heap.size w w' := by
  have hzr := hr.2.1
  have hzl := hr.1
  have HN : Hid _ := hn
  have HR : Hid (Reads w a len zs) := hr
  have HRB : Hid (∀ u, Below w.heap.size w u → Reads u a len zs) := fun u hu => hr.below hu
  have HP : Hid _ := hp
  have HN2 : Hid _ := hn2
  have HY0 : Hid _ := hy0
  have HZ1 : Hid (∀ x ∈ zs.set j y1, 0 ≤ x ∧ x ≤ 255) := fun x hx => by
    rcases List.mem_or_eq_of_mem_set hx with h9 | h9
    · exact hzr x h9
    · rw [h9]; exact hyr
  have HZL : Hid ((zs.set j y1).length = len) := by unfold Hid; simp [hzl]
  have hjl : (j : Int) < len := by omega
  have d1 : ¬ ((j : Int) < 0) := by omega
  clear hp hn2 hy0
  clear hn hr
  go_enter Try.func3, Try.ntmps3
  go_wp2_with (first
    | (go_at_call 5; have h9 := HR; clear h9; refine (marked_any a len cap zs _ HR.out ?_).mono ?_; omega; rintro e u1 ⟨g1, c1, rfl, o1, b1⟩; obtain ⟨r1, k1, n1⟩ := marked_read o1 hzl hzr; have R1 : Hid _ := r1; have B1 : Hid (Below w.heap.size w u1) := b1; clear o1 b1 r1 HR)
    | (go_at_call 4; have h9 := R1; clear h9; refine (HN.out.c14 _ _ c1 R1.out k1 n1).mono ?_; rintro e u2 ⟨rfl, b2⟩; have q2 := b2.alloc b2.size (.cells #[.int .i64 k, .int .i64 p, .string N, .int .i64 z, .int .i64 m, .int .u64 st, .int .i64 h, .string T] 25); have B2 : Hid (Below w.heap.size w (u2.alloc (.cells #[.int .i64 k, .int .i64 p, .string N, .int .i64 z, .int .i64 m, .int .u64 st, .int .i64 h, .string T] 25))) := B1.out.trans (q2.mono B1.out.size); have X2 : Hid (Nox (u2.alloc (.cells #[.int .i64 k, .int .i64 p, .string N, .int .i64 z, .int .i64 m, .int .u64 st, .int .i64 h, .string T] 25)) u2.heap.size k p N z m st h T) := nox_made u2 k p N z m st h T; clear b2 q2 B1 R1 k1 n1)
    | (go_at_call 6; refine (HN.out.c12 _ a cap (HRB.out _ B2.out) hc hcm).mono ?_; rintro e u3 ⟨rfl, b3⟩; have q3 := b3.alloc b3.size (.cells #[.int .i64 k, .int .i64 p, .string N, .int .i64 z, .int .i64 m, .int .u64 st, .int .i64 h, .string T] 25); have B3 : Hid (Below w.heap.size w (u3.alloc (.cells #[.int .i64 k, .int .i64 p, .string N, .int .i64 z, .int .i64 m, .int .u64 st, .int .i64 h, .string T] 25))) := B2.out.trans (q3.mono B2.out.size); have x3 := X2.out.below q3 (lt_of_block X2.out); obtain ⟨⟨y0, y1, y2, y3, y4, y5, y6, y7⟩, gzy⟩ := n8_cells x3; clear gzy; have X3 : Hid (Nox (u3.alloc (.cells #[.int .i64 k, .int .i64 p, .string N, .int .i64 z, .int .i64 m, .int .u64 st, .int .i64 h, .string T] 25)) u2.heap.size k p N z m st h T) := x3; clear b3 q3 x3 B2 X2)
    | (go_at_call 7; refine (HP.out _).mono ?_; rintro e u4 ⟨⟨v4, rfl, o4⟩, b4⟩; obtain ⟨g4, c4, he4, _, _, _, _⟩ := own_shape o4 (by omega); subst he4; have B4 : Hid (Below w.heap.size w u4) := B3.out.trans (b4.mono B3.out.size); have X4 : Hid (Nox u4 u2.heap.size k p N z m st h T) := X3.out.below b4 (lt_of_block X3.out); have cv1 := fun q => conv _ len c4 zs (u4.drewN q) ((reads_of o4 hzr).drewN q); have cv2 := fun q => conv a len cap zs (u4.drewN q) ((HRB.out _ B4.out).drewN q); have cv3 := conv _ len c4 zs u4 (reads_of o4 hzr); have cv4 := conv a len cap zs u4 (HRB.out _ B4.out); clear y0 y1 y2 y3 y4 y5 y6 y7; clear o4 b4 B3 X3)
    | (at_builtin; have h9 := B4; clear h9; refine wpList_append_reads rfl (.tmp 65) (.tmp 66) rfl u4.heap.size _ 0 [] rfl (made_at _ _ (by simp)) _ _ _ zs rfl ?_ ?_ ?_ ?_; (exact Reads.below (HRB.out _ B4.out) ((Below.refl _ _).alloc (Nat.le_refl _) _)); omega; simp; intro v5 u5 o5 gg5; have q5 := ((Below.refl u4.heap.size u4).alloc (Nat.le_refl _) _).grown gg5 (by simp) (fun q hq => by cases hq; simp); have B5 : Hid (Below w.heap.size w u5) := B4.out.trans (q5.mono B4.out.size); have x5 := X4.out.below q5 (lt_of_block X4.out); have o6 : u5.ownsRow u4.heap.size 5 1 v5 len (zs.map (Value.int .u8)) := (by simpa using o5); obtain ⟨g5, c5, he5, _, _, hb5, _⟩ := own_shape o6 (by omega); subst he5; have o7 : Own u5 u4.heap.size g5 len c5 zs := o6; have y5 := o7.cell j (by omega); rw [HY0.out] at y5; have f5 := own_free o7 (by omega) j; have O8 : Hid (Own (u5.setCell ⟨g5, j, none⟩ (.int .u8 y1)) u4.heap.size g5 len c5 (zs.set j y1)) := (o7.set j y1).1; have B8 : Hid (Below w.heap.size w (u5.setCell ⟨g5, j, none⟩ (.int .u8 y1))) := B5.out.setCell (by have h8 := B4.out.size; show w.heap.size ≤ g5; omega) _; have X8 : Hid (Nox (u5.setCell ⟨g5, j, none⟩ (.int .u8 y1)) u2.heap.size k p N z m st h T) := ((o7.set j y1).2.block _ (lt_of_block x5) (fun e => nox_ne o7 x5 (Option.some.inj e))).trans x5; clear o5 gg5 q5 o6 o7 x5 B4 B5 X4 cv1 cv2 cv3 cv4)
    | (go_at_call 5; have h9 := O8; clear h9; refine (marked_any _ len c5 (zs.set j y1) _ (O8.out.all HZ1.out) ?_).mono ?_; omega; rintro e u9 ⟨g9, c9, rfl, o9, b9⟩; obtain ⟨r9, k9, n9⟩ := marked_read o9 HZL.out HZ1.out; have R9 : Hid _ := r9; have B9 : Hid (Below w.heap.size w u9) := B8.out.trans (b9.mono B8.out.size); have X9 : Hid (Nox u9 u2.heap.size k p N z m st h T) := X8.out.below b9 (lt_of_block X8.out); clear o9 b9 r9 O8 B8 X8 y5 f5)
    | (go_at_call 4; have h9 := R9; clear h9; refine (HN2.out.c14 _ _ c9 R9.out k9 n9).mono ?_; rintro e u10 ⟨rfl, b10⟩; have q10 := b10.alloc b10.size (.cells #[.int .i64 k, .int .i64 p, .string N, .int .i64 z, .int .i64 m, .int .u64 st, .int .i64 h, .string T] 25); have B10 : Hid (∀ X, Below w.heap.size w (u10.alloc X)) := fun X => B9.out.trans ((b10.alloc b10.size X).mono B9.out.size); have x10 := X9.out.below q10 (lt_of_block X9.out); obtain ⟨⟨t0, t1, t2, t3, t4, t5, t6, t7⟩, gzt⟩ := n8_cells x10; clear gzt; clear b10 q10 x10 B9 X9 R9 k9 n9))
  go_ret
  exact ⟨by simp, B10.out _⟩


set_option maxHeartbeats 4000000 in
set_option maxRecDepth 100000 in
theorem back_ref_p (a : Option Addr) (len cap : Nat) (zs : List Int) (at_ by_ : Int) (k p : Int) (N : ByteArray) (z m st h : Int) (T : ByteArray) (E2 : Int) (j : Nat) (y0 y1 : Int) (h26 : 25 ≤ len) (hp : ∀ u : World, Calls Try.prog 7 #[.agg #[.int .i64 k, .int .i64 p, .string N, .int .i64 z, .int .i64 m, .int .u64 st, .int .i64 h, .string T]] u fun e w' => (∃ v, e = .returned (.tuple #[v, .int .i64 0]) ∧ w'.ownsRow u.heap.size 5 1 v len (zs.map (Value.int .u8))) ∧ Below u.heap.size u w') (hn2 : Nr (zs.set j y1) len 0 0 ⟨#[]⟩ 0 0 0 0 ⟨#[]⟩ E2) (hy0 : zs.getD j 0 = y0) (hy0r : 0 ≤ y0 ∧ y0 ≤ 255) (hyr : 0 ≤ y1 ∧ y1 ≤ 255) (hj : j < len) (hjk : at_.tmod len = j) (hxy : bits .xor .u8 y0 by_ = y1) (hby : by_ ≠ 0) (hbr : 0 ≤ by_ ∧ by_ ≤ 255) (hE2 : E2 ≠ 0) (w : World) (hr : Reads w a len zs) (hs : len ≤ 140737488351232) (hc : len ≤ cap) (hcm : cap ≤ 9223372036854775807) (hn : Nr zs len k p N z m st h T 0) :
    Calls Try.prog 3 #[.slice a len cap, .int .i64 at_, .int .u8 by_] w fun e w' => e = .returned (.bool true) ∧ Below w.heap.size w w' := by
  have hzr := hr.2.1
  have hzl := hr.1
  have HN : Hid _ := hn
  have HR : Hid (Reads w a len zs) := hr
  have HRB : Hid (∀ u, Below w.heap.size w u → Reads u a len zs) := fun u hu => hr.below hu
  have HP : Hid _ := hp
  have HN2 : Hid _ := hn2
  have HY0 : Hid _ := hy0
  have HZ1 : Hid (∀ x ∈ zs.set j y1, 0 ≤ x ∧ x ≤ 255) := fun x hx => by
    rcases List.mem_or_eq_of_mem_set hx with h9 | h9
    · exact hzr x h9
    · rw [h9]; exact hyr
  have HZL : Hid ((zs.set j y1).length = len) := by unfold Hid; simp [hzl]
  have hjl : (j : Int) < len := by omega
  have d1 : ¬ ((j : Int) < 0) := by omega
  have d2 : (by_ == 0) = false := by simpa using hby
  have d3 : (by_ != 0) = true := by simpa using hby
  have d4 : (E2 != 0) = true := by simpa using hE2
  clear hp hn2 hy0
  clear hn hr
  go_enter Try.func3, Try.ntmps3
  go_wp2_with (first
    | (go_at_call 5; have h9 := HR; clear h9; refine (marked_any a len cap zs _ HR.out ?_).mono ?_; omega; rintro e u1 ⟨g1, c1, rfl, o1, b1⟩; obtain ⟨r1, k1, n1⟩ := marked_read o1 hzl hzr; have R1 : Hid _ := r1; have B1 : Hid (Below w.heap.size w u1) := b1; clear o1 b1 r1 HR)
    | (go_at_call 4; have h9 := R1; clear h9; refine (HN.out.c14 _ _ c1 R1.out k1 n1).mono ?_; rintro e u2 ⟨rfl, b2⟩; have q2 := b2.alloc b2.size (.cells #[.int .i64 k, .int .i64 p, .string N, .int .i64 z, .int .i64 m, .int .u64 st, .int .i64 h, .string T] 25); have B2 : Hid (Below w.heap.size w (u2.alloc (.cells #[.int .i64 k, .int .i64 p, .string N, .int .i64 z, .int .i64 m, .int .u64 st, .int .i64 h, .string T] 25))) := B1.out.trans (q2.mono B1.out.size); have X2 : Hid (Nox (u2.alloc (.cells #[.int .i64 k, .int .i64 p, .string N, .int .i64 z, .int .i64 m, .int .u64 st, .int .i64 h, .string T] 25)) u2.heap.size k p N z m st h T) := nox_made u2 k p N z m st h T; clear b2 q2 B1 R1 k1 n1)
    | (go_at_call 6; refine (HN.out.c12 _ a cap (HRB.out _ B2.out) hc hcm).mono ?_; rintro e u3 ⟨rfl, b3⟩; have q3 := b3.alloc b3.size (.cells #[.int .i64 k, .int .i64 p, .string N, .int .i64 z, .int .i64 m, .int .u64 st, .int .i64 h, .string T] 25); have B3 : Hid (Below w.heap.size w (u3.alloc (.cells #[.int .i64 k, .int .i64 p, .string N, .int .i64 z, .int .i64 m, .int .u64 st, .int .i64 h, .string T] 25))) := B2.out.trans (q3.mono B2.out.size); have x3 := X2.out.below q3 (lt_of_block X2.out); obtain ⟨⟨y0, y1, y2, y3, y4, y5, y6, y7⟩, gzy⟩ := n8_cells x3; clear gzy; have X3 : Hid (Nox (u3.alloc (.cells #[.int .i64 k, .int .i64 p, .string N, .int .i64 z, .int .i64 m, .int .u64 st, .int .i64 h, .string T] 25)) u2.heap.size k p N z m st h T) := x3; clear b3 q3 x3 B2 X2)
    | (go_at_call 7; refine (HP.out _).mono ?_; rintro e u4 ⟨⟨v4, rfl, o4⟩, b4⟩; obtain ⟨g4, c4, he4, _, _, _, _⟩ := own_shape o4 (by omega); subst he4; have B4 : Hid (Below w.heap.size w u4) := B3.out.trans (b4.mono B3.out.size); have X4 : Hid (Nox u4 u2.heap.size k p N z m st h T) := X3.out.below b4 (lt_of_block X3.out); have cv1 := fun q => conv _ len c4 zs (u4.drewN q) ((reads_of o4 hzr).drewN q); have cv2 := fun q => conv a len cap zs (u4.drewN q) ((HRB.out _ B4.out).drewN q); have cv3 := conv _ len c4 zs u4 (reads_of o4 hzr); have cv4 := conv a len cap zs u4 (HRB.out _ B4.out); clear y0 y1 y2 y3 y4 y5 y6 y7; clear o4 b4 B3 X3)
    | (at_builtin; have h9 := B4; clear h9; refine wpList_append_reads rfl (.tmp 65) (.tmp 66) rfl u4.heap.size _ 0 [] rfl (made_at _ _ (by simp)) _ _ _ zs rfl ?_ ?_ ?_ ?_; (exact Reads.below (HRB.out _ B4.out) ((Below.refl _ _).alloc (Nat.le_refl _) _)); omega; simp; intro v5 u5 o5 gg5; have q5 := ((Below.refl u4.heap.size u4).alloc (Nat.le_refl _) _).grown gg5 (by simp) (fun q hq => by cases hq; simp); have B5 : Hid (Below w.heap.size w u5) := B4.out.trans (q5.mono B4.out.size); have x5 := X4.out.below q5 (lt_of_block X4.out); have o6 : u5.ownsRow u4.heap.size 5 1 v5 len (zs.map (Value.int .u8)) := (by simpa using o5); obtain ⟨g5, c5, he5, _, _, hb5, _⟩ := own_shape o6 (by omega); subst he5; have o7 : Own u5 u4.heap.size g5 len c5 zs := o6; have y5 := o7.cell j (by omega); rw [HY0.out] at y5; have f5 := own_free o7 (by omega) j; have O8 : Hid (Own (u5.setCell ⟨g5, j, none⟩ (.int .u8 y1)) u4.heap.size g5 len c5 (zs.set j y1)) := (o7.set j y1).1; have B8 : Hid (Below w.heap.size w (u5.setCell ⟨g5, j, none⟩ (.int .u8 y1))) := B5.out.setCell (by have h8 := B4.out.size; show w.heap.size ≤ g5; omega) _; have X8 : Hid (Nox (u5.setCell ⟨g5, j, none⟩ (.int .u8 y1)) u2.heap.size k p N z m st h T) := ((o7.set j y1).2.block _ (lt_of_block x5) (fun e => nox_ne o7 x5 (Option.some.inj e))).trans x5; clear o5 gg5 q5 o6 o7 x5 B4 B5 X4 cv1 cv2 cv3 cv4)
    | (go_at_call 5; have h9 := O8; clear h9; refine (marked_any _ len c5 (zs.set j y1) _ (O8.out.all HZ1.out) ?_).mono ?_; omega; rintro e u9 ⟨g9, c9, rfl, o9, b9⟩; obtain ⟨r9, k9, n9⟩ := marked_read o9 HZL.out HZ1.out; have R9 : Hid _ := r9; have B9 : Hid (Below w.heap.size w u9) := B8.out.trans (b9.mono B8.out.size); have X9 : Hid (Nox u9 u2.heap.size k p N z m st h T) := X8.out.below b9 (lt_of_block X8.out); clear o9 b9 r9 O8 B8 X8 y5 f5)
    | (go_at_call 4; have h9 := R9; clear h9; refine (HN2.out.c14 _ _ c9 R9.out k9 n9).mono ?_; rintro e u10 ⟨rfl, b10⟩; have q10 := b10.alloc b10.size (.cells #[.int .i64 0, .int .i64 0, .string ⟨#[]⟩, .int .i64 0, .int .i64 0, .int .u64 0, .int .i64 0, .string ⟨#[]⟩] 25); have B10 : Hid (∀ X, Below w.heap.size w (u10.alloc X)) := fun X => B9.out.trans ((b10.alloc b10.size X).mono B9.out.size); have x10 := X9.out.below q10 (lt_of_block X9.out); obtain ⟨⟨t0, t1, t2, t3, t4, t5, t6, t7⟩, gzt⟩ := n8_cells x10; clear gzt; clear b10 q10 x10 B9 X9 R9 k9 n9))
  go_ret
  exact ⟨by simp, B10.out _⟩


set_option maxHeartbeats 4000000 in
set_option maxRecDepth 100000 in
theorem back_other_p (a : Option Addr) (len cap : Nat) (zs : List Int) (at_ by_ : Int) (k p : Int) (N : ByteArray) (z m st h : Int) (T : ByteArray) (k2 p2 : Int) (N2 : ByteArray) (z2 m2 st2 h2 : Int) (T2 : ByteArray) (E2 : Int) (j : Nat) (y0 y1 : Int) (h26 : 25 ≤ len) (hp : ∀ u : World, Calls Try.prog 7 #[.agg #[.int .i64 k, .int .i64 p, .string N, .int .i64 z, .int .i64 m, .int .u64 st, .int .i64 h, .string T]] u fun e w' => (∃ v, e = .returned (.tuple #[v, .int .i64 0]) ∧ w'.ownsRow u.heap.size 5 1 v len (zs.map (Value.int .u8))) ∧ Below u.heap.size u w') (hn2 : Nr (zs.set j y1) len k2 p2 N2 z2 m2 st2 h2 T2 E2) (hy0 : zs.getD j 0 = y0) (hy0r : 0 ≤ y0 ∧ y0 ≤ 255) (hyr : 0 ≤ y1 ∧ y1 ≤ 255) (hj : j < len) (hjk : at_.tmod len = j) (hxy : bits .xor .u8 y0 by_ = y1) (hby : by_ ≠ 0) (hbr : 0 ≤ by_ ∧ by_ ≤ 255) (hE2 : E2 = 0) (hne : ¬ (k2 = k ∧ p2 = p ∧ N2.toList = N.toList ∧ z2 = z ∧ m2 = m ∧ st2 = st ∧ h2 = h ∧ T2.toList = T.toList)) (w : World) (hr : Reads w a len zs) (hs : len ≤ 140737488351232) (hc : len ≤ cap) (hcm : cap ≤ 9223372036854775807) (hn : Nr zs len k p N z m st h T 0) :
    Calls Try.prog 3 #[.slice a len cap, .int .i64 at_, .int .u8 by_] w fun e w' => e = .returned (.bool true) ∧ Below w.heap.size w w' := by
  have hzr := hr.2.1
  have hzl := hr.1
  have HN : Hid _ := hn
  have HR : Hid (Reads w a len zs) := hr
  have HRB : Hid (∀ u, Below w.heap.size w u → Reads u a len zs) := fun u hu => hr.below hu
  have HP : Hid _ := hp
  have HN2 : Hid _ := hn2
  have HY0 : Hid _ := hy0
  have HZ1 : Hid (∀ x ∈ zs.set j y1, 0 ≤ x ∧ x ≤ 255) := fun x hx => by
    rcases List.mem_or_eq_of_mem_set hx with h9 | h9
    · exact hzr x h9
    · rw [h9]; exact hyr
  have HZL : Hid ((zs.set j y1).length = len) := by unfold Hid; simp [hzl]
  have hjl : (j : Int) < len := by omega
  have d1 : ¬ ((j : Int) < 0) := by omega
  have d2 : (by_ == 0) = false := by simpa using hby
  have d3 : (by_ != 0) = true := by simpa using hby
  have d4 : (E2 != 0) = false := by simpa using hE2
  have HNE : Hid _ := hne
  clear hne
  clear hp hn2 hy0
  clear hn hr
  go_enter Try.func3, Try.ntmps3
  go_wp2_with (first
    | (go_at_call 5; have h9 := HR; clear h9; refine (marked_any a len cap zs _ HR.out ?_).mono ?_; omega; rintro e u1 ⟨g1, c1, rfl, o1, b1⟩; obtain ⟨r1, k1, n1⟩ := marked_read o1 hzl hzr; have R1 : Hid _ := r1; have B1 : Hid (Below w.heap.size w u1) := b1; clear o1 b1 r1 HR)
    | (go_at_call 4; have h9 := R1; clear h9; refine (HN.out.c14 _ _ c1 R1.out k1 n1).mono ?_; rintro e u2 ⟨rfl, b2⟩; have q2 := b2.alloc b2.size (.cells #[.int .i64 k, .int .i64 p, .string N, .int .i64 z, .int .i64 m, .int .u64 st, .int .i64 h, .string T] 25); have B2 : Hid (Below w.heap.size w (u2.alloc (.cells #[.int .i64 k, .int .i64 p, .string N, .int .i64 z, .int .i64 m, .int .u64 st, .int .i64 h, .string T] 25))) := B1.out.trans (q2.mono B1.out.size); have X2 : Hid (Nox (u2.alloc (.cells #[.int .i64 k, .int .i64 p, .string N, .int .i64 z, .int .i64 m, .int .u64 st, .int .i64 h, .string T] 25)) u2.heap.size k p N z m st h T) := nox_made u2 k p N z m st h T; clear b2 q2 B1 R1 k1 n1)
    | (go_at_call 6; refine (HN.out.c12 _ a cap (HRB.out _ B2.out) hc hcm).mono ?_; rintro e u3 ⟨rfl, b3⟩; have q3 := b3.alloc b3.size (.cells #[.int .i64 k, .int .i64 p, .string N, .int .i64 z, .int .i64 m, .int .u64 st, .int .i64 h, .string T] 25); have B3 : Hid (Below w.heap.size w (u3.alloc (.cells #[.int .i64 k, .int .i64 p, .string N, .int .i64 z, .int .i64 m, .int .u64 st, .int .i64 h, .string T] 25))) := B2.out.trans (q3.mono B2.out.size); have x3 := X2.out.below q3 (lt_of_block X2.out); obtain ⟨⟨y0, y1, y2, y3, y4, y5, y6, y7⟩, gzy⟩ := n8_cells x3; clear gzy; have X3 : Hid (Nox (u3.alloc (.cells #[.int .i64 k, .int .i64 p, .string N, .int .i64 z, .int .i64 m, .int .u64 st, .int .i64 h, .string T] 25)) u2.heap.size k p N z m st h T) := x3; clear b3 q3 x3 B2 X2)
    | (go_at_call 7; refine (HP.out _).mono ?_; rintro e u4 ⟨⟨v4, rfl, o4⟩, b4⟩; obtain ⟨g4, c4, he4, _, _, _, _⟩ := own_shape o4 (by omega); subst he4; have B4 : Hid (Below w.heap.size w u4) := B3.out.trans (b4.mono B3.out.size); have X4 : Hid (Nox u4 u2.heap.size k p N z m st h T) := X3.out.below b4 (lt_of_block X3.out); have cv1 := fun q => conv _ len c4 zs (u4.drewN q) ((reads_of o4 hzr).drewN q); have cv2 := fun q => conv a len cap zs (u4.drewN q) ((HRB.out _ B4.out).drewN q); have cv3 := conv _ len c4 zs u4 (reads_of o4 hzr); have cv4 := conv a len cap zs u4 (HRB.out _ B4.out); clear y0 y1 y2 y3 y4 y5 y6 y7; clear o4 b4 B3 X3)
    | (at_builtin; have h9 := B4; clear h9; refine wpList_append_reads rfl (.tmp 65) (.tmp 66) rfl u4.heap.size _ 0 [] rfl (made_at _ _ (by simp)) _ _ _ zs rfl ?_ ?_ ?_ ?_; (exact Reads.below (HRB.out _ B4.out) ((Below.refl _ _).alloc (Nat.le_refl _) _)); omega; simp; intro v5 u5 o5 gg5; have q5 := ((Below.refl u4.heap.size u4).alloc (Nat.le_refl _) _).grown gg5 (by simp) (fun q hq => by cases hq; simp); have B5 : Hid (Below w.heap.size w u5) := B4.out.trans (q5.mono B4.out.size); have x5 := X4.out.below q5 (lt_of_block X4.out); have o6 : u5.ownsRow u4.heap.size 5 1 v5 len (zs.map (Value.int .u8)) := (by simpa using o5); obtain ⟨g5, c5, he5, _, _, hb5, _⟩ := own_shape o6 (by omega); subst he5; have o7 : Own u5 u4.heap.size g5 len c5 zs := o6; have y5 := o7.cell j (by omega); rw [HY0.out] at y5; have f5 := own_free o7 (by omega) j; have O8 : Hid (Own (u5.setCell ⟨g5, j, none⟩ (.int .u8 y1)) u4.heap.size g5 len c5 (zs.set j y1)) := (o7.set j y1).1; have B8 : Hid (Below w.heap.size w (u5.setCell ⟨g5, j, none⟩ (.int .u8 y1))) := B5.out.setCell (by have h8 := B4.out.size; show w.heap.size ≤ g5; omega) _; have X8 : Hid (Nox (u5.setCell ⟨g5, j, none⟩ (.int .u8 y1)) u2.heap.size k p N z m st h T) := ((o7.set j y1).2.block _ (lt_of_block x5) (fun e => nox_ne o7 x5 (Option.some.inj e))).trans x5; clear o5 gg5 q5 o6 o7 x5 B4 B5 X4 cv1 cv2 cv3 cv4)
    | (go_at_call 5; have h9 := O8; clear h9; refine (marked_any _ len c5 (zs.set j y1) _ (O8.out.all HZ1.out) ?_).mono ?_; omega; rintro e u9 ⟨g9, c9, rfl, o9, b9⟩; obtain ⟨r9, k9, n9⟩ := marked_read o9 HZL.out HZ1.out; have R9 : Hid _ := r9; have B9 : Hid (Below w.heap.size w u9) := B8.out.trans (b9.mono B8.out.size); have X9 : Hid (Nox u9 u2.heap.size k p N z m st h T) := X8.out.below b9 (lt_of_block X8.out); clear o9 b9 r9 O8 B8 X8 y5 f5)
    | (go_at_call 4; have h9 := R9; clear h9; refine (HN2.out.c14 _ _ c9 R9.out k9 n9).mono ?_; rintro e u10 ⟨rfl, b10⟩; have q10 := b10.alloc b10.size (.cells #[.int .i64 k2, .int .i64 p2, .string N2, .int .i64 z2, .int .i64 m2, .int .u64 st2, .int .i64 h2, .string T2] 25); have B10 : Hid (∀ X, Below w.heap.size w (u10.alloc X)) := fun X => B9.out.trans ((b10.alloc b10.size X).mono B9.out.size); have x10 := X9.out.below q10 (lt_of_block X9.out); obtain ⟨⟨t0, t1, t2, t3, t4, t5, t6, t7⟩, gzt⟩ := n8_cells x10; clear gzt; clear b10 q10 x10 B9 X9 R9 k9 n9))
  all_goals first
    | (go_ret; exact ⟨rfl, B10.out _⟩)
    | exact absurd ⟨by assumption, by assumption, by assumption, by assumption, by assumption, by assumption, by assumption, by assumption⟩ HNE.out


set_option maxHeartbeats 4000000 in
set_option maxRecDepth 100000 in
theorem back_same_n (a : Option Addr) (len cap : Nat) (zs : List Int) (at_ : Int) (k p : Int) (N : ByteArray) (z m st h : Int) (T : ByteArray) (E2 : Int) (j : Nat) (y0 y1 : Int) (h26 : 25 ≤ len) (hp : ∀ u : World, Calls Try.prog 7 #[.agg #[.int .i64 k, .int .i64 p, .string N, .int .i64 z, .int .i64 m, .int .u64 st, .int .i64 h, .string T]] u fun e w' => (∃ v, e = .returned (.tuple #[v, .int .i64 0]) ∧ w'.ownsRow u.heap.size 5 1 v len (zs.map (Value.int .u8))) ∧ Below u.heap.size u w') (hn2 : Nr (zs.set j y1) len k p N z m st h T E2) (hy0 : zs.getD j 0 = y0) (hy0r : 0 ≤ y0 ∧ y0 ≤ 255) (hyr : 0 ≤ y1 ∧ y1 ≤ 255) (hj : j < len) (q : Int) (hjk : at_.tmod len = q) (hq : q < 0) (hqj : q + len = j) (hxy : bits .xor .u8 y0 0 = y1)  (w : World) (hr : Reads w a len zs) (hs : len ≤ 140737488351232) (hc : len ≤ cap) (hcm : cap ≤ 9223372036854775807) (hn : Nr zs len k p N z m st h T 0) :
    Calls Try.prog 3 #[.slice a len cap, .int .i64 at_, .int .u8 0] w fun e w' => e = .returned (.bool true) ∧ Below w.heap.size w w' := by
  have hzr := hr.2.1
  have hzl := hr.1
  have HN : Hid _ := hn
  have HR : Hid (Reads w a len zs) := hr
  have HRB : Hid (∀ u, Below w.heap.size w u → Reads u a len zs) := fun u hu => hr.below hu
  have HP : Hid _ := hp
  have HN2 : Hid _ := hn2
  have HY0 : Hid _ := hy0
  have HZ1 : Hid (∀ x ∈ zs.set j y1, 0 ≤ x ∧ x ≤ 255) := fun x hx => by
    rcases List.mem_or_eq_of_mem_set hx with h9 | h9
    · exact hzr x h9
    · rw [h9]; exact hyr
  have HZL : Hid ((zs.set j y1).length = len) := by unfold Hid; simp [hzl]
  have hjl : (j : Int) < len := by omega
  clear hp hn2 hy0
  clear hn hr
  go_enter Try.func3, Try.ntmps3
  go_wp2_with (first
    | (go_at_call 5; have h9 := HR; clear h9; refine (marked_any a len cap zs _ HR.out ?_).mono ?_; omega; rintro e u1 ⟨g1, c1, rfl, o1, b1⟩; obtain ⟨r1, k1, n1⟩ := marked_read o1 hzl hzr; have R1 : Hid _ := r1; have B1 : Hid (Below w.heap.size w u1) := b1; clear o1 b1 r1 HR)
    | (go_at_call 4; have h9 := R1; clear h9; refine (HN.out.c14 _ _ c1 R1.out k1 n1).mono ?_; rintro e u2 ⟨rfl, b2⟩; have q2 := b2.alloc b2.size (.cells #[.int .i64 k, .int .i64 p, .string N, .int .i64 z, .int .i64 m, .int .u64 st, .int .i64 h, .string T] 25); have B2 : Hid (Below w.heap.size w (u2.alloc (.cells #[.int .i64 k, .int .i64 p, .string N, .int .i64 z, .int .i64 m, .int .u64 st, .int .i64 h, .string T] 25))) := B1.out.trans (q2.mono B1.out.size); have X2 : Hid (Nox (u2.alloc (.cells #[.int .i64 k, .int .i64 p, .string N, .int .i64 z, .int .i64 m, .int .u64 st, .int .i64 h, .string T] 25)) u2.heap.size k p N z m st h T) := nox_made u2 k p N z m st h T; clear b2 q2 B1 R1 k1 n1)
    | (go_at_call 6; refine (HN.out.c12 _ a cap (HRB.out _ B2.out) hc hcm).mono ?_; rintro e u3 ⟨rfl, b3⟩; have q3 := b3.alloc b3.size (.cells #[.int .i64 k, .int .i64 p, .string N, .int .i64 z, .int .i64 m, .int .u64 st, .int .i64 h, .string T] 25); have B3 : Hid (Below w.heap.size w (u3.alloc (.cells #[.int .i64 k, .int .i64 p, .string N, .int .i64 z, .int .i64 m, .int .u64 st, .int .i64 h, .string T] 25))) := B2.out.trans (q3.mono B2.out.size); have x3 := X2.out.below q3 (lt_of_block X2.out); obtain ⟨⟨y0, y1, y2, y3, y4, y5, y6, y7⟩, gzy⟩ := n8_cells x3; clear gzy; have X3 : Hid (Nox (u3.alloc (.cells #[.int .i64 k, .int .i64 p, .string N, .int .i64 z, .int .i64 m, .int .u64 st, .int .i64 h, .string T] 25)) u2.heap.size k p N z m st h T) := x3; clear b3 q3 x3 B2 X2)
    | (go_at_call 7; refine (HP.out _).mono ?_; rintro e u4 ⟨⟨v4, rfl, o4⟩, b4⟩; obtain ⟨g4, c4, he4, _, _, _, _⟩ := own_shape o4 (by omega); subst he4; have B4 : Hid (Below w.heap.size w u4) := B3.out.trans (b4.mono B3.out.size); have X4 : Hid (Nox u4 u2.heap.size k p N z m st h T) := X3.out.below b4 (lt_of_block X3.out); have cv1 := fun q => conv _ len c4 zs (u4.drewN q) ((reads_of o4 hzr).drewN q); have cv2 := fun q => conv a len cap zs (u4.drewN q) ((HRB.out _ B4.out).drewN q); have cv3 := conv _ len c4 zs u4 (reads_of o4 hzr); have cv4 := conv a len cap zs u4 (HRB.out _ B4.out); clear y0 y1 y2 y3 y4 y5 y6 y7; clear o4 b4 B3 X3)
    | (at_builtin; have h9 := B4; clear h9; refine wpList_append_reads rfl (.tmp 65) (.tmp 66) rfl u4.heap.size _ 0 [] rfl (made_at _ _ (by simp)) _ _ _ zs rfl ?_ ?_ ?_ ?_; (exact Reads.below (HRB.out _ B4.out) ((Below.refl _ _).alloc (Nat.le_refl _) _)); omega; simp; intro v5 u5 o5 gg5; have q5 := ((Below.refl u4.heap.size u4).alloc (Nat.le_refl _) _).grown gg5 (by simp) (fun q hq => by cases hq; simp); have B5 : Hid (Below w.heap.size w u5) := B4.out.trans (q5.mono B4.out.size); have x5 := X4.out.below q5 (lt_of_block X4.out); have o6 : u5.ownsRow u4.heap.size 5 1 v5 len (zs.map (Value.int .u8)) := (by simpa using o5); obtain ⟨g5, c5, he5, _, _, hb5, _⟩ := own_shape o6 (by omega); subst he5; have o7 : Own u5 u4.heap.size g5 len c5 zs := o6; have y5 := o7.cell j (by omega); rw [HY0.out] at y5; have f5 := own_free o7 (by omega) j; have O8 : Hid (Own (u5.setCell ⟨g5, j, none⟩ (.int .u8 y1)) u4.heap.size g5 len c5 (zs.set j y1)) := (o7.set j y1).1; have B8 : Hid (Below w.heap.size w (u5.setCell ⟨g5, j, none⟩ (.int .u8 y1))) := B5.out.setCell (by have h8 := B4.out.size; show w.heap.size ≤ g5; omega) _; have X8 : Hid (Nox (u5.setCell ⟨g5, j, none⟩ (.int .u8 y1)) u2.heap.size k p N z m st h T) := ((o7.set j y1).2.block _ (lt_of_block x5) (fun e => nox_ne o7 x5 (Option.some.inj e))).trans x5; clear o5 gg5 q5 o6 o7 x5 B4 B5 X4 cv1 cv2 cv3 cv4)
    | (go_at_call 5; have h9 := O8; clear h9; refine (marked_any _ len c5 (zs.set j y1) _ (O8.out.all HZ1.out) ?_).mono ?_; omega; rintro e u9 ⟨g9, c9, rfl, o9, b9⟩; obtain ⟨r9, k9, n9⟩ := marked_read o9 HZL.out HZ1.out; have R9 : Hid _ := r9; have B9 : Hid (Below w.heap.size w u9) := B8.out.trans (b9.mono B8.out.size); have X9 : Hid (Nox u9 u2.heap.size k p N z m st h T) := X8.out.below b9 (lt_of_block X8.out); clear o9 b9 r9 O8 B8 X8 y5 f5)
    | (go_at_call 4; have h9 := R9; clear h9; refine (HN2.out.c14 _ _ c9 R9.out k9 n9).mono ?_; rintro e u10 ⟨rfl, b10⟩; have q10 := b10.alloc b10.size (.cells #[.int .i64 k, .int .i64 p, .string N, .int .i64 z, .int .i64 m, .int .u64 st, .int .i64 h, .string T] 25); have B10 : Hid (∀ X, Below w.heap.size w (u10.alloc X)) := fun X => B9.out.trans ((b10.alloc b10.size X).mono B9.out.size); have x10 := X9.out.below q10 (lt_of_block X9.out); obtain ⟨⟨t0, t1, t2, t3, t4, t5, t6, t7⟩, gzt⟩ := n8_cells x10; clear gzt; clear b10 q10 x10 B9 X9 R9 k9 n9))
  go_ret
  exact ⟨by simp, B10.out _⟩


set_option maxHeartbeats 4000000 in
set_option maxRecDepth 100000 in
theorem back_ref_n (a : Option Addr) (len cap : Nat) (zs : List Int) (at_ by_ : Int) (k p : Int) (N : ByteArray) (z m st h : Int) (T : ByteArray) (E2 : Int) (j : Nat) (y0 y1 : Int) (h26 : 25 ≤ len) (hp : ∀ u : World, Calls Try.prog 7 #[.agg #[.int .i64 k, .int .i64 p, .string N, .int .i64 z, .int .i64 m, .int .u64 st, .int .i64 h, .string T]] u fun e w' => (∃ v, e = .returned (.tuple #[v, .int .i64 0]) ∧ w'.ownsRow u.heap.size 5 1 v len (zs.map (Value.int .u8))) ∧ Below u.heap.size u w') (hn2 : Nr (zs.set j y1) len 0 0 ⟨#[]⟩ 0 0 0 0 ⟨#[]⟩ E2) (hy0 : zs.getD j 0 = y0) (hy0r : 0 ≤ y0 ∧ y0 ≤ 255) (hyr : 0 ≤ y1 ∧ y1 ≤ 255) (hj : j < len) (q : Int) (hjk : at_.tmod len = q) (hq : q < 0) (hqj : q + len = j) (hxy : bits .xor .u8 y0 by_ = y1) (hby : by_ ≠ 0) (hbr : 0 ≤ by_ ∧ by_ ≤ 255) (hE2 : E2 ≠ 0) (w : World) (hr : Reads w a len zs) (hs : len ≤ 140737488351232) (hc : len ≤ cap) (hcm : cap ≤ 9223372036854775807) (hn : Nr zs len k p N z m st h T 0) :
    Calls Try.prog 3 #[.slice a len cap, .int .i64 at_, .int .u8 by_] w fun e w' => e = .returned (.bool true) ∧ Below w.heap.size w w' := by
  have hzr := hr.2.1
  have hzl := hr.1
  have HN : Hid _ := hn
  have HR : Hid (Reads w a len zs) := hr
  have HRB : Hid (∀ u, Below w.heap.size w u → Reads u a len zs) := fun u hu => hr.below hu
  have HP : Hid _ := hp
  have HN2 : Hid _ := hn2
  have HY0 : Hid _ := hy0
  have HZ1 : Hid (∀ x ∈ zs.set j y1, 0 ≤ x ∧ x ≤ 255) := fun x hx => by
    rcases List.mem_or_eq_of_mem_set hx with h9 | h9
    · exact hzr x h9
    · rw [h9]; exact hyr
  have HZL : Hid ((zs.set j y1).length = len) := by unfold Hid; simp [hzl]
  have hjl : (j : Int) < len := by omega
  have d2 : (by_ == 0) = false := by simpa using hby
  have d3 : (by_ != 0) = true := by simpa using hby
  have d4 : (E2 != 0) = true := by simpa using hE2
  clear hp hn2 hy0
  clear hn hr
  go_enter Try.func3, Try.ntmps3
  go_wp2_with (first
    | (go_at_call 5; have h9 := HR; clear h9; refine (marked_any a len cap zs _ HR.out ?_).mono ?_; omega; rintro e u1 ⟨g1, c1, rfl, o1, b1⟩; obtain ⟨r1, k1, n1⟩ := marked_read o1 hzl hzr; have R1 : Hid _ := r1; have B1 : Hid (Below w.heap.size w u1) := b1; clear o1 b1 r1 HR)
    | (go_at_call 4; have h9 := R1; clear h9; refine (HN.out.c14 _ _ c1 R1.out k1 n1).mono ?_; rintro e u2 ⟨rfl, b2⟩; have q2 := b2.alloc b2.size (.cells #[.int .i64 k, .int .i64 p, .string N, .int .i64 z, .int .i64 m, .int .u64 st, .int .i64 h, .string T] 25); have B2 : Hid (Below w.heap.size w (u2.alloc (.cells #[.int .i64 k, .int .i64 p, .string N, .int .i64 z, .int .i64 m, .int .u64 st, .int .i64 h, .string T] 25))) := B1.out.trans (q2.mono B1.out.size); have X2 : Hid (Nox (u2.alloc (.cells #[.int .i64 k, .int .i64 p, .string N, .int .i64 z, .int .i64 m, .int .u64 st, .int .i64 h, .string T] 25)) u2.heap.size k p N z m st h T) := nox_made u2 k p N z m st h T; clear b2 q2 B1 R1 k1 n1)
    | (go_at_call 6; refine (HN.out.c12 _ a cap (HRB.out _ B2.out) hc hcm).mono ?_; rintro e u3 ⟨rfl, b3⟩; have q3 := b3.alloc b3.size (.cells #[.int .i64 k, .int .i64 p, .string N, .int .i64 z, .int .i64 m, .int .u64 st, .int .i64 h, .string T] 25); have B3 : Hid (Below w.heap.size w (u3.alloc (.cells #[.int .i64 k, .int .i64 p, .string N, .int .i64 z, .int .i64 m, .int .u64 st, .int .i64 h, .string T] 25))) := B2.out.trans (q3.mono B2.out.size); have x3 := X2.out.below q3 (lt_of_block X2.out); obtain ⟨⟨y0, y1, y2, y3, y4, y5, y6, y7⟩, gzy⟩ := n8_cells x3; clear gzy; have X3 : Hid (Nox (u3.alloc (.cells #[.int .i64 k, .int .i64 p, .string N, .int .i64 z, .int .i64 m, .int .u64 st, .int .i64 h, .string T] 25)) u2.heap.size k p N z m st h T) := x3; clear b3 q3 x3 B2 X2)
    | (go_at_call 7; refine (HP.out _).mono ?_; rintro e u4 ⟨⟨v4, rfl, o4⟩, b4⟩; obtain ⟨g4, c4, he4, _, _, _, _⟩ := own_shape o4 (by omega); subst he4; have B4 : Hid (Below w.heap.size w u4) := B3.out.trans (b4.mono B3.out.size); have X4 : Hid (Nox u4 u2.heap.size k p N z m st h T) := X3.out.below b4 (lt_of_block X3.out); have cv1 := fun q => conv _ len c4 zs (u4.drewN q) ((reads_of o4 hzr).drewN q); have cv2 := fun q => conv a len cap zs (u4.drewN q) ((HRB.out _ B4.out).drewN q); have cv3 := conv _ len c4 zs u4 (reads_of o4 hzr); have cv4 := conv a len cap zs u4 (HRB.out _ B4.out); clear y0 y1 y2 y3 y4 y5 y6 y7; clear o4 b4 B3 X3)
    | (at_builtin; have h9 := B4; clear h9; refine wpList_append_reads rfl (.tmp 65) (.tmp 66) rfl u4.heap.size _ 0 [] rfl (made_at _ _ (by simp)) _ _ _ zs rfl ?_ ?_ ?_ ?_; (exact Reads.below (HRB.out _ B4.out) ((Below.refl _ _).alloc (Nat.le_refl _) _)); omega; simp; intro v5 u5 o5 gg5; have q5 := ((Below.refl u4.heap.size u4).alloc (Nat.le_refl _) _).grown gg5 (by simp) (fun q hq => by cases hq; simp); have B5 : Hid (Below w.heap.size w u5) := B4.out.trans (q5.mono B4.out.size); have x5 := X4.out.below q5 (lt_of_block X4.out); have o6 : u5.ownsRow u4.heap.size 5 1 v5 len (zs.map (Value.int .u8)) := (by simpa using o5); obtain ⟨g5, c5, he5, _, _, hb5, _⟩ := own_shape o6 (by omega); subst he5; have o7 : Own u5 u4.heap.size g5 len c5 zs := o6; have y5 := o7.cell j (by omega); rw [HY0.out] at y5; have f5 := own_free o7 (by omega) j; have O8 : Hid (Own (u5.setCell ⟨g5, j, none⟩ (.int .u8 y1)) u4.heap.size g5 len c5 (zs.set j y1)) := (o7.set j y1).1; have B8 : Hid (Below w.heap.size w (u5.setCell ⟨g5, j, none⟩ (.int .u8 y1))) := B5.out.setCell (by have h8 := B4.out.size; show w.heap.size ≤ g5; omega) _; have X8 : Hid (Nox (u5.setCell ⟨g5, j, none⟩ (.int .u8 y1)) u2.heap.size k p N z m st h T) := ((o7.set j y1).2.block _ (lt_of_block x5) (fun e => nox_ne o7 x5 (Option.some.inj e))).trans x5; clear o5 gg5 q5 o6 o7 x5 B4 B5 X4 cv1 cv2 cv3 cv4)
    | (go_at_call 5; have h9 := O8; clear h9; refine (marked_any _ len c5 (zs.set j y1) _ (O8.out.all HZ1.out) ?_).mono ?_; omega; rintro e u9 ⟨g9, c9, rfl, o9, b9⟩; obtain ⟨r9, k9, n9⟩ := marked_read o9 HZL.out HZ1.out; have R9 : Hid _ := r9; have B9 : Hid (Below w.heap.size w u9) := B8.out.trans (b9.mono B8.out.size); have X9 : Hid (Nox u9 u2.heap.size k p N z m st h T) := X8.out.below b9 (lt_of_block X8.out); clear o9 b9 r9 O8 B8 X8 y5 f5)
    | (go_at_call 4; have h9 := R9; clear h9; refine (HN2.out.c14 _ _ c9 R9.out k9 n9).mono ?_; rintro e u10 ⟨rfl, b10⟩; have q10 := b10.alloc b10.size (.cells #[.int .i64 0, .int .i64 0, .string ⟨#[]⟩, .int .i64 0, .int .i64 0, .int .u64 0, .int .i64 0, .string ⟨#[]⟩] 25); have B10 : Hid (∀ X, Below w.heap.size w (u10.alloc X)) := fun X => B9.out.trans ((b10.alloc b10.size X).mono B9.out.size); have x10 := X9.out.below q10 (lt_of_block X9.out); obtain ⟨⟨t0, t1, t2, t3, t4, t5, t6, t7⟩, gzt⟩ := n8_cells x10; clear gzt; clear b10 q10 x10 B9 X9 R9 k9 n9))
  go_ret
  exact ⟨by simp, B10.out _⟩


set_option maxHeartbeats 4000000 in
set_option maxRecDepth 100000 in
theorem back_other_n (a : Option Addr) (len cap : Nat) (zs : List Int) (at_ by_ : Int) (k p : Int) (N : ByteArray) (z m st h : Int) (T : ByteArray) (k2 p2 : Int) (N2 : ByteArray) (z2 m2 st2 h2 : Int) (T2 : ByteArray) (E2 : Int) (j : Nat) (y0 y1 : Int) (h26 : 25 ≤ len) (hp : ∀ u : World, Calls Try.prog 7 #[.agg #[.int .i64 k, .int .i64 p, .string N, .int .i64 z, .int .i64 m, .int .u64 st, .int .i64 h, .string T]] u fun e w' => (∃ v, e = .returned (.tuple #[v, .int .i64 0]) ∧ w'.ownsRow u.heap.size 5 1 v len (zs.map (Value.int .u8))) ∧ Below u.heap.size u w') (hn2 : Nr (zs.set j y1) len k2 p2 N2 z2 m2 st2 h2 T2 E2) (hy0 : zs.getD j 0 = y0) (hy0r : 0 ≤ y0 ∧ y0 ≤ 255) (hyr : 0 ≤ y1 ∧ y1 ≤ 255) (hj : j < len) (q : Int) (hjk : at_.tmod len = q) (hq : q < 0) (hqj : q + len = j) (hxy : bits .xor .u8 y0 by_ = y1) (hby : by_ ≠ 0) (hbr : 0 ≤ by_ ∧ by_ ≤ 255) (hE2 : E2 = 0) (hne : ¬ (k2 = k ∧ p2 = p ∧ N2.toList = N.toList ∧ z2 = z ∧ m2 = m ∧ st2 = st ∧ h2 = h ∧ T2.toList = T.toList)) (w : World) (hr : Reads w a len zs) (hs : len ≤ 140737488351232) (hc : len ≤ cap) (hcm : cap ≤ 9223372036854775807) (hn : Nr zs len k p N z m st h T 0) :
    Calls Try.prog 3 #[.slice a len cap, .int .i64 at_, .int .u8 by_] w fun e w' => e = .returned (.bool true) ∧ Below w.heap.size w w' := by
  have hzr := hr.2.1
  have hzl := hr.1
  have HN : Hid _ := hn
  have HR : Hid (Reads w a len zs) := hr
  have HRB : Hid (∀ u, Below w.heap.size w u → Reads u a len zs) := fun u hu => hr.below hu
  have HP : Hid _ := hp
  have HN2 : Hid _ := hn2
  have HY0 : Hid _ := hy0
  have HZ1 : Hid (∀ x ∈ zs.set j y1, 0 ≤ x ∧ x ≤ 255) := fun x hx => by
    rcases List.mem_or_eq_of_mem_set hx with h9 | h9
    · exact hzr x h9
    · rw [h9]; exact hyr
  have HZL : Hid ((zs.set j y1).length = len) := by unfold Hid; simp [hzl]
  have hjl : (j : Int) < len := by omega
  have d2 : (by_ == 0) = false := by simpa using hby
  have d3 : (by_ != 0) = true := by simpa using hby
  have d4 : (E2 != 0) = false := by simpa using hE2
  have HNE : Hid _ := hne
  clear hne
  clear hp hn2 hy0
  clear hn hr
  go_enter Try.func3, Try.ntmps3
  go_wp2_with (first
    | (go_at_call 5; have h9 := HR; clear h9; refine (marked_any a len cap zs _ HR.out ?_).mono ?_; omega; rintro e u1 ⟨g1, c1, rfl, o1, b1⟩; obtain ⟨r1, k1, n1⟩ := marked_read o1 hzl hzr; have R1 : Hid _ := r1; have B1 : Hid (Below w.heap.size w u1) := b1; clear o1 b1 r1 HR)
    | (go_at_call 4; have h9 := R1; clear h9; refine (HN.out.c14 _ _ c1 R1.out k1 n1).mono ?_; rintro e u2 ⟨rfl, b2⟩; have q2 := b2.alloc b2.size (.cells #[.int .i64 k, .int .i64 p, .string N, .int .i64 z, .int .i64 m, .int .u64 st, .int .i64 h, .string T] 25); have B2 : Hid (Below w.heap.size w (u2.alloc (.cells #[.int .i64 k, .int .i64 p, .string N, .int .i64 z, .int .i64 m, .int .u64 st, .int .i64 h, .string T] 25))) := B1.out.trans (q2.mono B1.out.size); have X2 : Hid (Nox (u2.alloc (.cells #[.int .i64 k, .int .i64 p, .string N, .int .i64 z, .int .i64 m, .int .u64 st, .int .i64 h, .string T] 25)) u2.heap.size k p N z m st h T) := nox_made u2 k p N z m st h T; clear b2 q2 B1 R1 k1 n1)
    | (go_at_call 6; refine (HN.out.c12 _ a cap (HRB.out _ B2.out) hc hcm).mono ?_; rintro e u3 ⟨rfl, b3⟩; have q3 := b3.alloc b3.size (.cells #[.int .i64 k, .int .i64 p, .string N, .int .i64 z, .int .i64 m, .int .u64 st, .int .i64 h, .string T] 25); have B3 : Hid (Below w.heap.size w (u3.alloc (.cells #[.int .i64 k, .int .i64 p, .string N, .int .i64 z, .int .i64 m, .int .u64 st, .int .i64 h, .string T] 25))) := B2.out.trans (q3.mono B2.out.size); have x3 := X2.out.below q3 (lt_of_block X2.out); obtain ⟨⟨y0, y1, y2, y3, y4, y5, y6, y7⟩, gzy⟩ := n8_cells x3; clear gzy; have X3 : Hid (Nox (u3.alloc (.cells #[.int .i64 k, .int .i64 p, .string N, .int .i64 z, .int .i64 m, .int .u64 st, .int .i64 h, .string T] 25)) u2.heap.size k p N z m st h T) := x3; clear b3 q3 x3 B2 X2)
    | (go_at_call 7; refine (HP.out _).mono ?_; rintro e u4 ⟨⟨v4, rfl, o4⟩, b4⟩; obtain ⟨g4, c4, he4, _, _, _, _⟩ := own_shape o4 (by omega); subst he4; have B4 : Hid (Below w.heap.size w u4) := B3.out.trans (b4.mono B3.out.size); have X4 : Hid (Nox u4 u2.heap.size k p N z m st h T) := X3.out.below b4 (lt_of_block X3.out); have cv1 := fun q => conv _ len c4 zs (u4.drewN q) ((reads_of o4 hzr).drewN q); have cv2 := fun q => conv a len cap zs (u4.drewN q) ((HRB.out _ B4.out).drewN q); have cv3 := conv _ len c4 zs u4 (reads_of o4 hzr); have cv4 := conv a len cap zs u4 (HRB.out _ B4.out); clear y0 y1 y2 y3 y4 y5 y6 y7; clear o4 b4 B3 X3)
    | (at_builtin; have h9 := B4; clear h9; refine wpList_append_reads rfl (.tmp 65) (.tmp 66) rfl u4.heap.size _ 0 [] rfl (made_at _ _ (by simp)) _ _ _ zs rfl ?_ ?_ ?_ ?_; (exact Reads.below (HRB.out _ B4.out) ((Below.refl _ _).alloc (Nat.le_refl _) _)); omega; simp; intro v5 u5 o5 gg5; have q5 := ((Below.refl u4.heap.size u4).alloc (Nat.le_refl _) _).grown gg5 (by simp) (fun q hq => by cases hq; simp); have B5 : Hid (Below w.heap.size w u5) := B4.out.trans (q5.mono B4.out.size); have x5 := X4.out.below q5 (lt_of_block X4.out); have o6 : u5.ownsRow u4.heap.size 5 1 v5 len (zs.map (Value.int .u8)) := (by simpa using o5); obtain ⟨g5, c5, he5, _, _, hb5, _⟩ := own_shape o6 (by omega); subst he5; have o7 : Own u5 u4.heap.size g5 len c5 zs := o6; have y5 := o7.cell j (by omega); rw [HY0.out] at y5; have f5 := own_free o7 (by omega) j; have O8 : Hid (Own (u5.setCell ⟨g5, j, none⟩ (.int .u8 y1)) u4.heap.size g5 len c5 (zs.set j y1)) := (o7.set j y1).1; have B8 : Hid (Below w.heap.size w (u5.setCell ⟨g5, j, none⟩ (.int .u8 y1))) := B5.out.setCell (by have h8 := B4.out.size; show w.heap.size ≤ g5; omega) _; have X8 : Hid (Nox (u5.setCell ⟨g5, j, none⟩ (.int .u8 y1)) u2.heap.size k p N z m st h T) := ((o7.set j y1).2.block _ (lt_of_block x5) (fun e => nox_ne o7 x5 (Option.some.inj e))).trans x5; clear o5 gg5 q5 o6 o7 x5 B4 B5 X4 cv1 cv2 cv3 cv4)
    | (go_at_call 5; have h9 := O8; clear h9; refine (marked_any _ len c5 (zs.set j y1) _ (O8.out.all HZ1.out) ?_).mono ?_; omega; rintro e u9 ⟨g9, c9, rfl, o9, b9⟩; obtain ⟨r9, k9, n9⟩ := marked_read o9 HZL.out HZ1.out; have R9 : Hid _ := r9; have B9 : Hid (Below w.heap.size w u9) := B8.out.trans (b9.mono B8.out.size); have X9 : Hid (Nox u9 u2.heap.size k p N z m st h T) := X8.out.below b9 (lt_of_block X8.out); clear o9 b9 r9 O8 B8 X8 y5 f5)
    | (go_at_call 4; have h9 := R9; clear h9; refine (HN2.out.c14 _ _ c9 R9.out k9 n9).mono ?_; rintro e u10 ⟨rfl, b10⟩; have q10 := b10.alloc b10.size (.cells #[.int .i64 k2, .int .i64 p2, .string N2, .int .i64 z2, .int .i64 m2, .int .u64 st2, .int .i64 h2, .string T2] 25); have B10 : Hid (∀ X, Below w.heap.size w (u10.alloc X)) := fun X => B9.out.trans ((b10.alloc b10.size X).mono B9.out.size); have x10 := X9.out.below q10 (lt_of_block X9.out); obtain ⟨⟨t0, t1, t2, t3, t4, t5, t6, t7⟩, gzt⟩ := n8_cells x10; clear gzt; clear b10 q10 x10 B9 X9 R9 k9 n9))
  all_goals first
    | (go_ret; exact ⟨rfl, B10.out _⟩)
    | exact absurd ⟨by assumption, by assumption, by assumption, by assumption, by assumption, by assumption, by assumption, by assumption⟩ HNE.out


theorem set_self (zs : List Int) (j : Nat) (h : j < zs.length) : zs.set j (zs.getD j 0) = zs := by
  rw [List.getD_eq_getElem?_getD, List.getElem?_eq_getElem h]
  exact List.set_getElem_self h
theorem toL_inj {a b : ByteArray} (h : a.toList = b.toList) : a = b := by
  rw [Go.ByteArray.toList_eq, Go.ByteArray.toList_eq] at h
  exact bytes_ext h

theorem backGood (a : Option Addr) (len cap : Nat) (zs : List Int) (k p : Int) (N : ByteArray) (z m st h : Int) (T : ByteArray) (at_ by_ : Int) (w : World) (hr : Reads w a len zs) (hs : len ≤ 140737488351232) (hc : len ≤ cap) (hcm : cap ≤ 9223372036854775807) (f : Flp zs len k p N z m st h T) (hE : nodeE k p N z m st h T = 0) (hby : 0 ≤ by_ ∧ by_ ≤ 255) :
    Calls Try.prog 3 #[.slice a len cap, .int .i64 at_, .int .u8 by_] w fun e w' => e = .returned (.bool true) ∧ Below w.heap.size w w' := by
  have hz := hr.2.1
  have hl := hr.1
  have hn := nr_ok zs len k p N z m st h T f hz hl (by omega) hE
  have hnb := node_back zs len k p N z m st h T f hz hl
  obtain ⟨f1, f2, f3⟩ := f.hf
  have hst : 0 ≤ st ∧ st < 18446744073709551616 := by
    have h9 := getL_range hz 11 8
    rw [f.e4] at h9
    have p8 : (256 : Int) ^ 8 = 18446744073709551616 := by decide
    omega
  have hp := fun u => pack_ok k p N z m st h T u hE hst.1 hst.2
  have hM := nodeL_length k p N z m st h T
  rw [hnb, hl] at hM
  rw [← hM, hnb] at hp
  have fin : ∀ j, j < len → ((at_.tmod len = j) ∨ (∃ q, at_.tmod len = q ∧ q < 0 ∧ q + len = j)) → Calls Try.prog 3 #[.slice a len cap, .int .i64 at_, .int .u8 by_] w fun e w' => e = .returned (.bool true) ∧ Below w.heap.size w w' := by
    intro j hj hc2
    obtain ⟨y0, hy0⟩ : ∃ y, zs.getD j 0 = y := ⟨_, rfl⟩
    have hy0r : 0 ≤ y0 ∧ y0 ≤ 255 := by rw [← hy0]; exact byteAt hz j
    by_cases h0 : by_ = 0
    · subst h0
      have e1 := xor_zero y0 hy0r
      have hn2 : Nr (zs.set j y0) len k p N z m st h T 0 := by rw [← hy0, set_self zs j (by omega)]; exact hn
      rcases hc2 with h9 | ⟨q, h9, hq, hqj⟩
      · exact back_same_p a len cap zs at_ k p N z m st h T 0 j y0 y0 (by omega) hp hn2 hy0 hy0r hy0r hj h9 e1 w hr hs hc hcm hn
      · exact back_same_n a len cap zs at_ k p N z m st h T 0 j y0 y0 (by omega) hp hn2 hy0 hy0r hy0r hj q h9 hq hqj e1 w hr hs hc hcm hn
    · obtain ⟨y1, hy1⟩ : ∃ y, bits .xor .u8 y0 by_ = y := ⟨_, rfl⟩
      have hyr : 0 ≤ y1 ∧ y1 ≤ 255 := by rw [← hy1]; exact xor_byte y0 by_ hy0r hby
      have hne : y1 ≠ y0 := by rw [← hy1]; exact xor_ne y0 by_ hy0r hby h0
      obtain ⟨zs2, hz2⟩ : ∃ l, l = zs.set j y1 := ⟨_, rfl⟩
      have hzz : ∀ x ∈ zs2, 0 ≤ x ∧ x ≤ 255 := by
        intro x hx
        rw [hz2] at hx
        rcases List.mem_or_eq_of_mem_set hx with h9 | h9
        · exact hz x h9
        · rw [h9]; exact hyr
      have hl2 : zs2.length = len := by rw [hz2]; simp [hl]
      have hd : zs2 ≠ zs := by
        intro e
        have h9 : zs2.getD j 0 = y1 := by rw [hz2, getD_set zs j j y1 (by omega)]; simp
        rw [e, hy0] at h9
        exact hne h9.symm
      by_cases hf2 : fitsN zs2 len
      · have ff : Flp zs2 len (zs2.getD 0 0) (getL zs2 1 4) (strOfNums ((zs2.drop 24).take (kN zs2))) (getL zs2 5 4) (getL zs2 9 2) (getL zs2 11 8) (getL zs2 19 4) (strOfNums (zs2.drop (25 + kN zs2))) := ⟨hf2, rfl, rfl, rfl, rfl, rfl, rfl, rfl, rfl⟩
        by_cases hE2 : nodeE (zs2.getD 0 0) (getL zs2 1 4) (strOfNums ((zs2.drop 24).take (kN zs2))) (getL zs2 5 4) (getL zs2 9 2) (getL zs2 11 8) (getL zs2 19 4) (strOfNums (zs2.drop (25 + kN zs2))) = 0
        · have hn2 := nr_ok zs2 len _ _ _ _ _ _ _ _ ff hzz hl2 (by omega) hE2
          have hb2 := node_back zs2 len _ _ _ _ _ _ _ _ ff hzz hl2
          rw [hz2] at hn2
          have hno : ¬ (zs2.getD 0 0 = k ∧ getL zs2 1 4 = p ∧ (strOfNums ((zs2.drop 24).take (kN zs2))).toList = N.toList ∧ getL zs2 5 4 = z ∧ getL zs2 9 2 = m ∧ getL zs2 11 8 = st ∧ getL zs2 19 4 = h ∧ (strOfNums (zs2.drop (25 + kN zs2))).toList = T.toList) := by
            rintro ⟨e1, e2, e3, e4, e5, e6, e7, e8⟩
            rw [e1, e2, toL_inj e3, e4, e5, e6, e7, toL_inj e8] at hb2
            exact hd (hb2.symm.trans hnb)
          rw [hz2] at hno
          rcases hc2 with h9 | ⟨q, h9, hq, hqj⟩
          · exact back_other_p a len cap zs at_ by_ k p N z m st h T _ _ _ _ _ _ _ _ 0 j y0 y1 (by omega) hp hn2 hy0 hy0r hyr hj h9 hy1 h0 hby rfl hno w hr hs hc hcm hn
          · exact back_other_n a len cap zs at_ by_ k p N z m st h T _ _ _ _ _ _ _ _ 0 j y0 y1 (by omega) hp hn2 hy0 hy0r hyr hj q h9 hq hqj hy1 h0 hby rfl hno w hr hs hc hcm hn
        · have hn2 := nr_bad zs2 len _ _ _ _ _ _ _ _ _ ff hzz hl2 (by omega) rfl hE2
          rw [hz2] at hn2 hE2
          rcases hc2 with h9 | ⟨q, h9, hq, hqj⟩
          · exact back_ref_p a len cap zs at_ by_ k p N z m st h T _ j y0 y1 (by omega) hp hn2 hy0 hy0r hyr hj h9 hy1 h0 hby hE2 w hr hs hc hcm hn
          · exact back_ref_n a len cap zs at_ by_ k p N z m st h T _ j y0 y1 (by omega) hp hn2 hy0 hy0r hyr hj q h9 hq hqj hy1 h0 hby hE2 w hr hs hc hcm hn
      · have hn2 := nr_short zs2 len hzz (by omega) hf2
        rw [hz2] at hn2
        rcases hc2 with h9 | ⟨q, h9, hq, hqj⟩
        · exact back_ref_p a len cap zs at_ by_ k p N z m st h T 80 j y0 y1 (by omega) hp hn2 hy0 hy0r hyr hj h9 hy1 h0 hby (by decide) w hr hs hc hcm hn
        · exact back_ref_n a len cap zs at_ by_ k p N z m st h T 80 j y0 y1 (by omega) hp hn2 hy0 hy0r hyr hj q h9 hq hqj hy1 h0 hby (by decide) w hr hs hc hcm hn
  have ha := Int.tmod_lt_of_pos at_ (show (0 : Int) < len by omega)
  have hb : -(len : Int) < at_.tmod len := by
    have h9 := Int.neg_tmod at_ len ▸ Int.tmod_lt_of_pos (-at_) (show (0 : Int) < len by omega)
    omega
  by_cases hq : at_.tmod len < 0
  · exact fin (at_.tmod len + len).toNat (by omega) (Or.inr ⟨_, rfl, hq, by omega⟩)
  · exact fin (at_.tmod len).toNat (by omega) (Or.inl (by omega))

theorem backWalk (a : Option Addr) (len cap : Nat) (zs : List Int) (at_ by_ : Int) (w : World) (hr : Reads w a len zs) (hs : len ≤ 140737488351232) (hc : len ≤ cap) (hcm : cap ≤ 9223372036854775807) (wa : (Lit.int .i64 at_).wf = true) (wb : (Lit.int .u8 by_).wf = true) :
    Calls Try.prog 3 #[.slice a len cap, .int .i64 at_, .int .u8 by_] w fun e w' => e = .returned (.bool true) ∧ Below w.heap.size w w' := by
  have hz := hr.2.1
  have hl := hr.1
  have hby := bounds_u8 wb
  by_cases hf : fitsN zs len
  · have f : Flp zs len (zs.getD 0 0) (getL zs 1 4) (strOfNums ((zs.drop 24).take (kN zs))) (getL zs 5 4) (getL zs 9 2) (getL zs 11 8) (getL zs 19 4) (strOfNums (zs.drop (25 + kN zs))) := ⟨hf, rfl, rfl, rfl, rfl, rfl, rfl, rfl, rfl⟩
    by_cases hE : nodeE (zs.getD 0 0) (getL zs 1 4) (strOfNums ((zs.drop 24).take (kN zs))) (getL zs 5 4) (getL zs 9 2) (getL zs 11 8) (getL zs 19 4) (strOfNums (zs.drop (25 + kN zs))) = 0
    · exact backGood a len cap zs _ _ _ _ _ _ _ _ at_ by_ w hr hs hc hcm f hE hby
    · exact back_bad a len cap zs _ hE at_ by_ w hr hs hc hcm (nr_bad zs len _ _ _ _ _ _ _ _ _ f hz hl (by omega) rfl hE)
  · exact back_bad a len cap zs 80 (by decide) at_ by_ w hr hs hc hcm (nr_short zs len hz (by omega) hf)

end Go.Proofs.Ytgdmagmbkmgdfad
