/-
  SEAT Ytgdmagmbkmgdfac: NodeReads: the walk.
-/
import Derived.Test.YtgdmagmbkmgdfacRL
namespace Go.Proofs.Ytgdmagmbkmgdfac
open Go.RowKit
set_option linter.unusedVariables false


/-- How it stands in NodeReads: the marked copy, the two headers told. -/
structure Lw (w u : World) (B g n c : Nat) (xs : List Int) (p1 p2 : Nat) (k p : Int) (N : ByteArray) (z m st h : Int) (T : ByteArray) : Prop where
  own : Own u B g n c xs
  b1 : Nox u p1 k p N z m st h T
  b2 : Nox u p2 k p N z m st h T
  bel : Below w.heap.size w u
  hB : w.heap.size ≤ B

section
variable {w u u' : World} {B g n c : Nat} {xs : List Int} {p1 p2 : Nat} {k p : Int} {N : ByteArray} {z m st h : Int} {T : ByteArray}
theorem nox_ne {u : World} {B g n c P : Nat} {xs : List Int} {k p : Int} {N : ByteArray} {z m st h : Int} {T : ByteArray} (ho : Own u B g n c xs) (hn : 0 < n) (hb : Nox u P k p N z m st h T) : P ≠ g := by
  rintro rfl
  rcases ho.2 with ⟨h1, _⟩ | ⟨g', cap', cur, hv, hg, hh, r⟩
  · cases h1
  · cases hv
    unfold Nox at hb
    rw [hb] at hh
    simp at hh
theorem Lw.below (hl : Lw w u B g n c xs p1 p2 k p N z m st h T) (hb : Below u.heap.size u u') : Lw w u' B g n c xs p1 p2 k p N z m st h T :=
  ⟨hl.own.below hb, hl.b1.below hb (lt_of_block hl.b1), hl.b2.below hb (lt_of_block hl.b2), hl.bel.trans (hb.mono hl.bel.size), hl.hB⟩
theorem Lw.set (hl : Lw w u B g n c xs p1 p2 k p N z m st h T) (hn : 0 < n) (j : Nat) (y : Int) : Lw w (u.setCell ⟨g, j, none⟩ (.int .u8 y)) B g n c (xs.set j y) p1 p2 k p N z m st h T := by
  have hg := (hl.own.set j y).2
  refine ⟨(hl.own.set j y).1, (hg.block p1 (lt_of_block hl.b1) (fun e => nox_ne hl.own hn hl.b1 (Option.some.inj e))).trans hl.b1, (hg.block p2 (lt_of_block hl.b2) (fun e => nox_ne hl.own hn hl.b2 (Option.some.inj e))).trans hl.b2, hl.bel.setCell ?_ _, hl.hB⟩
  have := hl.own.lt
  have := hl.hB
  show w.heap.size ≤ g
  omega
theorem Lw.drewN (hl : Lw w u B g n c xs p1 p2 k p N z m st h T) (q : Nat) : Lw w (u.drewN q) B g n c xs p1 p2 k p N z m st h T := ⟨hl.own.drewN q, hl.b1, hl.b2, ⟨hl.bel.os, hl.bel.tape, hl.bel.output, hl.bel.size, hl.bel.block⟩, hl.hB⟩
end
theorem xor1_range (z : Int) (h0 : 0 ≤ z) (h1 : z ≤ 255) : 0 ≤ bits .xor .u8 z 1 ∧ bits .xor .u8 z 1 ≤ 255 := by
  rw [u8_xor z 1 h0 (by omega) (by decide) (by decide)]
  have : z.toNat ^^^ 1 < 2 ^ 8 := Nat.xor_lt_two_pow (by omega) (by decide)
  exact ⟨by omega, by simp; omega⟩
/-- The first k places written over. -/
def fillR (k : Nat) (xs : List Int) : List Int := List.replicate k 115 ++ xs.drop k
theorem fillR_step (k : Nat) (xs : List Int) (h : k < xs.length) : (fillR k xs).set k 115 = fillR (k + 1) xs := by
  unfold fillR
  rw [List.set_append_right _ _ (by simp), List.length_replicate, Nat.sub_self, List.drop_eq_getElem_cons h, List.set_cons_zero, List.replicate_succ', List.append_assoc]
  rfl

theorem made_at (w : World) (q : Nat) (h : w.heap.size = q) : (w.alloc (.cells #[] 5)).ownsRow q 5 1 (.slice (some ⟨q, 0, none⟩) 0 0) 0 (([] : List Int).map (Value.int .u8)) := by
  subst h
  exact made0 w

theorem own_free {w : World} {B g n cap : Nat} {xs : List Int} (h : Own w B g n cap xs) (hn : 0 < n) (j : Nat) : w.frozen? ⟨g, j, none⟩ = false := by
  rcases h.2 with ⟨h1, _⟩ | ⟨g', cap', cur, hv, hg, hh, r⟩
  · cases h1
  · cases hv
    simp [World.frozen?, hh]


set_option maxHeartbeats 4000000 in
set_option maxRecDepth 100000 in
theorem reads_zero (a : Option Addr) (len cap : Nat) (zs : List Int) (k p : Int) (N : ByteArray) (z m st h : Int) (T : ByteArray) (E : Int) (h0 : len = 0) (w : World) (hr : Reads w a len zs) (hs : len ≤ 140737488351232) (hc : len ≤ cap) (hcm : cap ≤ 9223372036854775807) (hk : Nr zs len k p N z m st h T E) :
    Calls Try.prog 5 #[.slice a len cap] w fun e w' => e = .returned (.bool true) ∧ Below w.heap.size w w' := by
  have hz := hr.2.1
  have hlen := hr.1
  have HK : Hid _ := hk
  have HR : Hid (Reads w a len zs) := hr
  have HRB : Hid (∀ u, Below w.heap.size w u → Reads u a len zs) := fun u hu => hr.below hu
  have HZ : Hid _ := h0
  have d1 : ¬ ((0 : Int) < (len : Int)) := by omega
  have d2 : ¬ (0 < len) := by omega
  clear h0
  clear hk hr
  go_enter Try.func5, Try.ntmps5
  go_wp2_with (first
    | (go_at_call 12; have h9 := HR; clear h9; refine (HK.out.c12 _ a cap HR.out hc hcm).mono ?_; rintro e u1 ⟨rfl, q1⟩; have B1 : Hid (Below w.heap.size w (u1.alloc (.cells #[.int .i64 k, .int .i64 p, .string N, .int .i64 z, .int .i64 m, .int .u64 st, .int .i64 h, .string T] 28))) := q1.alloc q1.size _; have HR1 : Hid (Reads (u1.alloc (.cells #[.int .i64 k, .int .i64 p, .string N, .int .i64 z, .int .i64 m, .int .u64 st, .int .i64 h, .string T] 28)) a len zs) := HR.out.below B1.out; have X1 : Hid (Nox (u1.alloc (.cells #[.int .i64 k, .int .i64 p, .string N, .int .i64 z, .int .i64 m, .int .u64 st, .int .i64 h, .string T] 28)) u1.heap.size k p N z m st h T) := nox_made u1 k p N z m st h T; clear q1 HR)
    | (go_at_call 13; refine (marked_any a len cap zs _ HR1.out ?_).mono ?_; omega; rintro e u2 ⟨g, c, rfl, o2, q2⟩; have O2 : Hid (Own _ _ _ _ _ _) := o2; have B2 : Hid (Below _ _ _) := q2; clear o2 q2)
    | (go_at_call 14; have h9 := O2; clear h9; have hcc := own_shape O2.out (by omega); refine (HK.out.c14 _ _ c ?_ ?_ ?_).mono ?_; (have h8 := O2.out.reads (marks_range zs hz) len (by omega); rw [List.take_left' hlen] at h8; exact h8); (obtain ⟨_, _, e9, h9, _⟩ := hcc; simp at e9; omega); (obtain ⟨_, _, e9, _, h9, _⟩ := hcc; simp [maxLen] at e9 h9; omega); rintro e u3 ⟨rfl, q3⟩; have l3 : Lw w (u3.alloc (.cells #[.int .i64 k, .int .i64 p, .string N, .int .i64 z, .int .i64 m, .int .u64 st, .int .i64 h, .string T] 28)) (u1.alloc (.cells #[.int .i64 k, .int .i64 p, .string N, .int .i64 z, .int .i64 m, .int .u64 st, .int .i64 h, .string T] 28)).heap.size g (len + 3) c (zs ++ [161, 178, 195]) u1.heap.size u3.heap.size k p N z m st h T := (by have s1 := B1.out.size; have s2 := B2.out.size; have s3 := q3.size; have q4 := q3.alloc q3.size (.cells #[.int .i64 k, .int .i64 p, .string N, .int .i64 z, .int .i64 m, .int .u64 st, .int .i64 h, .string T] 28); exact ⟨O2.out.below q4, (X1.out.below B2.out (lt_of_block X1.out)).below q4 (lt_of_block (X1.out.below B2.out (lt_of_block X1.out))), nox_made u3 k p N z m st h T, (B1.out.trans (B2.out.mono s1)).trans (q4.mono (by omega)), s1⟩); have L3 : Hid _ := l3; clear l3 q3 O2 B2 X1 hcc B1)
    | (go_at_call 15; refine (kept_any _ g len c len cap a zs _ ?_ ?_ L3.out.own).mono ?_; omega; exact HRB.out _ L3.out.bel; rintro e u4 ⟨rfl, k4, rfl⟩; have l4 := L3.out.drewN k4; have L4 : Hid _ := l4; clear L3 l4))

  go_loopw [13] (fun i wr => ∃ q : Nat, q ≤ len ∧ i = .int .i64 q ∧ Lw w wr (u1.alloc (.cells #[.int .i64 k, .int .i64 p, .string N, .int .i64 z, .int .i64 m, .int .u64 st, .int .i64 h, .string T] 28)).heap.size g (len + 3) c (fillR q (zs ++ [161, 178, 195])) u1.heap.size u3.heap.size k p N z m st h T)
    (fun i _ => len - (intOf i).toNat)
  case atStart => exact ⟨0, Nat.zero_le _, rfl, L4.out⟩
  case round =>
    obtain ⟨q, hq, rfl, lq⟩ := hrel
    by_cases hlt : q < len
    · exact absurd hlt (by have := HZ.out; omega)
    · have hqn : q = len := by omega
      subst hqn
      obtain ⟨⟨g0, g1, g2, g3, g4, g5, g6, g7⟩, gz⟩ := n8_cells lq.b1
      obtain ⟨⟨x0, x1, x2, x3, x4, x5, x6, x7⟩, xz⟩ := n8_cells lq.b2
      have LQ : Hid _ := lq
      clear lq gz xz
      go_wp2
      go_ret
      exact ⟨by simp, LQ.out.bel⟩


set_option maxHeartbeats 4000000 in
set_option maxRecDepth 100000 in
theorem reads_one (a : Option Addr) (n cap : Nat) (zs : List Int) (k p : Int) (N : ByteArray) (z m st h : Int) (T : ByteArray) (E : Int) (k2 p2 : Int) (N2 : ByteArray) (z2 m2 st2 h2 : Int) (T2 : ByteArray) (E2 y0 y1 : Int) (w : World) (hr : Reads w a (n + 1) zs) (hs : (n + 1) ≤ 140737488351232) (hc : (n + 1) ≤ cap) (hcm : cap ≤ 9223372036854775807) (hk : Nr zs (n + 1) k p N z m st h T E) (hk2 : Nr (zs.set n y1) (n + 1) k2 p2 N2 z2 m2 st2 h2 T2 E2) (hy0 : (zs ++ [161, 178, 195]).getD n 0 = y0) (hxy : bits .xor .u8 y0 1 = y1) (hy0r : 0 ≤ y0 ∧ y0 ≤ 255) (hyr : 0 ≤ y1 ∧ y1 ≤ 255) :
    Calls Try.prog 5 #[.slice a (n + 1) cap] w fun e w' => e = .returned (.bool true) ∧ Below w.heap.size w w' := by
  have hz := hr.2.1
  have hlen := hr.1
  have HK : Hid _ := hk
  have HR : Hid (Reads w a (n + 1) zs) := hr
  have HRB : Hid (∀ u, Below w.heap.size w u → Reads u a (n + 1) zs) := fun u hu => hr.below hu
  have d1 : (0 : Int) < ((n + 1 : Nat) : Int) := by omega
  have d2 : decide ((0 : Int) < ((n + 1 : Nat) : Int)) = true := decide_eq_true d1
  have hn9 : (n : Int) < ((n + 1 : Nat) : Int) := by omega
  have HK2 : Hid _ := hk2
  have HY0 : Hid _ := hy0
  have HZ1 : Hid (∀ x ∈ zs.set n y1, 0 ≤ x ∧ x ≤ 255) := fun x hx => by
    rcases List.mem_or_eq_of_mem_set hx with h9 | h9
    · exact hz x h9
    · rw [h9]; exact hyr
  have HT : Hid (∀ (u : World) {B g c : Nat}, Own u B g (n + 1 + 3) c ((zs ++ [161, 178, 195]).set n y1) → Reads u (some ⟨g, 0, none⟩) (n + 1) (zs.set n y1)) := fun u B g c ho => by
    have h8 := ho.reads (fun x hx => by rcases List.mem_or_eq_of_mem_set hx with h9 | h9; exact marks_range zs hz x h9; rw [h9]; exact hyr) (n + 1) (by omega)
    rw [List.set_append_left _ _ (by omega), List.take_left' (by simp [hlen])] at h8
    exact h8
  clear hk2 hy0 hyr
  clear hk hr
  go_enter Try.func5, Try.ntmps5
  go_wp2_with (first
    | (go_at_call 12; have h9 := HR; clear h9; refine (HK.out.c12 _ a cap HR.out hc hcm).mono ?_; rintro e u1 ⟨rfl, q1⟩; have B1 : Hid (Below w.heap.size w (u1.alloc (.cells #[.int .i64 k, .int .i64 p, .string N, .int .i64 z, .int .i64 m, .int .u64 st, .int .i64 h, .string T] 28))) := q1.alloc q1.size _; have HR1 : Hid (Reads (u1.alloc (.cells #[.int .i64 k, .int .i64 p, .string N, .int .i64 z, .int .i64 m, .int .u64 st, .int .i64 h, .string T] 28)) a (n + 1) zs) := HR.out.below B1.out; have X1 : Hid (Nox (u1.alloc (.cells #[.int .i64 k, .int .i64 p, .string N, .int .i64 z, .int .i64 m, .int .u64 st, .int .i64 h, .string T] 28)) u1.heap.size k p N z m st h T) := nox_made u1 k p N z m st h T; clear q1 HR)
    | (go_at_call 13; refine (marked_any a (n + 1) cap zs _ HR1.out ?_).mono ?_; omega; rintro e u2 ⟨g, c, rfl, o2, q2⟩; have O2 : Hid (Own _ _ _ _ _ _) := o2; have B2 : Hid (Below _ _ _) := q2; clear o2 q2)
    | (go_at_call 14; have h9 := O2; clear h9; have hcc := own_shape O2.out (by omega); refine (HK.out.c14 _ _ c ?_ ?_ ?_).mono ?_; (have h8 := O2.out.reads (marks_range zs hz) (n + 1) (by omega); rw [List.take_left' hlen] at h8; exact h8); (obtain ⟨_, _, e9, h9, _⟩ := hcc; simp at e9; omega); (obtain ⟨_, _, e9, _, h9, _⟩ := hcc; simp [maxLen] at e9 h9; omega); rintro e u3 ⟨rfl, q3⟩; have l3 : Lw w (u3.alloc (.cells #[.int .i64 k, .int .i64 p, .string N, .int .i64 z, .int .i64 m, .int .u64 st, .int .i64 h, .string T] 28)) (u1.alloc (.cells #[.int .i64 k, .int .i64 p, .string N, .int .i64 z, .int .i64 m, .int .u64 st, .int .i64 h, .string T] 28)).heap.size g ((n + 1) + 3) c (zs ++ [161, 178, 195]) u1.heap.size u3.heap.size k p N z m st h T := (by have s1 := B1.out.size; have s2 := B2.out.size; have s3 := q3.size; have q4 := q3.alloc q3.size (.cells #[.int .i64 k, .int .i64 p, .string N, .int .i64 z, .int .i64 m, .int .u64 st, .int .i64 h, .string T] 28); exact ⟨O2.out.below q4, (X1.out.below B2.out (lt_of_block X1.out)).below q4 (lt_of_block (X1.out.below B2.out (lt_of_block X1.out))), nox_made u3 k p N z m st h T, (B1.out.trans (B2.out.mono s1)).trans (q4.mono (by omega)), s1⟩); have L3 : Hid _ := l3; clear l3 q3 O2 B2 X1 hcc B1)
    | (go_at_call 15; refine (kept_any _ g (n + 1) c (n + 1) cap a zs _ ?_ ?_ L3.out.own).mono ?_; omega; exact HRB.out _ L3.out.bel; rintro e u4 ⟨rfl, k4, rfl⟩; have l4 := L3.out.drewN k4; have y4 := l4.own.cell n (by omega); rw [HY0.out] at y4; have f4 := own_free l4.own (by omega) n; have L5 : Hid _ := l4.set (by omega) n y1; clear L3 l4)
    | (at_builtin; have h9 := L5; clear h9; refine wpList_append_reads rfl (.tmp 45) (.tmp 46) rfl (u3.heap.size + 1) _ 0 [] rfl (made_at _ _ (by simp)) _ _ _ (zs.set n y1) rfl ?_ ?_ ?_ ?_; (exact (Reads.below (HT.out _ L5.out.own) ((Below.refl _ _).alloc (Nat.le_refl _) _))); omega; simp; intro v6 u6 o6 g6; have q6 := ((Below.refl _ _).alloc (Nat.le_refl _) _).grown g6 (by simp) (fun q hq => by cases hq; simp); have o7 : u6.ownsRow _ 5 1 v6 (n + 1) ((zs.set n y1).map (Value.int .u8)) := (by simpa using o6); obtain ⟨g7, c7, e7, h7, h8, _, _⟩ := own_shape o7 (by omega); subst e7; have r7 := reads_of o7 HZ1.out; have R7 : Hid _ := r7; have L6 : Hid _ := L5.out.below q6; have hc7 : n + 1 ≤ c7 := h7; have hm7 : c7 ≤ 9223372036854775807 := (by unfold maxLen at h8; omega); clear o6 g6 o7 r7 h7 h8 L5 y4 f4 q6)
    | (go_at_call 12; have h9 := L6; clear h9; refine (HK2.out.c12 _ _ c7 R7.out hc7 hm7).mono ?_; rintro e u7 ⟨rfl, q7⟩; have L7 : Hid _ := L6.out.below (q7.alloc q7.size (.cells #[.int .i64 k2, .int .i64 p2, .string N2, .int .i64 z2, .int .i64 m2, .int .u64 st2, .int .i64 h2, .string T2] 28)); have X7 : Hid (Nox (u7.alloc (.cells #[.int .i64 k2, .int .i64 p2, .string N2, .int .i64 z2, .int .i64 m2, .int .u64 st2, .int .i64 h2, .string T2] 28)) u7.heap.size k2 p2 N2 z2 m2 st2 h2 T2) := nox_made u7 k2 p2 N2 z2 m2 st2 h2 T2; clear q7 L6 R7)
    | (go_at_call 14; have h9 := L7; clear h9; have hcc := own_shape L7.out.own (by omega); refine (HK2.out.c14 _ _ c (HT.out _ L7.out.own) ?_ ?_).mono ?_; (obtain ⟨_, _, e9, h9, _⟩ := hcc; simp at e9; omega); (obtain ⟨_, _, e9, _, h9, _⟩ := hcc; simp [maxLen] at e9 h9; omega); rintro e u8 ⟨rfl, q8⟩; have q9 := q8.alloc q8.size (.cells #[.int .i64 k2, .int .i64 p2, .string N2, .int .i64 z2, .int .i64 m2, .int .u64 st2, .int .i64 h2, .string T2] 28); have L8 : Hid _ := L7.out.below q9; have x8 := X7.out.below q9 (lt_of_block X7.out); obtain ⟨⟨t0, t1, t2, t3, t4, t5, t6, t7⟩, gzt⟩ := n8_cells x8; clear gzt; clear q8 q9 L7 X7 x8 hcc))

  go_loopw [13] (fun i wr => ∃ q : Nat, q ≤ (n + 1) ∧ i = .int .i64 q ∧ Lw w wr (u1.alloc (.cells #[.int .i64 k, .int .i64 p, .string N, .int .i64 z, .int .i64 m, .int .u64 st, .int .i64 h, .string T] 28)).heap.size g ((n + 1) + 3) c (fillR q ((zs ++ [161, 178, 195]).set n y1)) u1.heap.size u3.heap.size k p N z m st h T)
    (fun i _ => (n + 1) - (intOf i).toNat)
  case atStart => exact ⟨0, Nat.zero_le _, rfl, L8.out⟩
  case round =>
    obtain ⟨q, hq, rfl, lq⟩ := hrel
    by_cases hlt : q < (n + 1)
    · have yq := lq.own.cell q (by omega)
      have fq := own_free lq.own (by omega) q
      have ls := lq.set (by omega) q 115
      rw [fillR_step q _ (by simp; omega)] at ls
      have LS : Hid _ := ls
      have dq : (q : Int) < ((n + 1) : Nat) := by omega
      have dq2 : decide ((q : Int) < ((n + 1) : Nat)) = true := decide_eq_true dq
      clear lq ls
      go_wp2
      go_roundw
      case rel => exact ⟨q + 1, by omega, by go_num, LS.out⟩
      case measure => simp [intOf]; omega
    · have hqn : q = (n + 1) := by omega
      subst hqn
      obtain ⟨⟨g0, g1, g2, g3, g4, g5, g6, g7⟩, gz⟩ := n8_cells lq.b1
      obtain ⟨⟨x0, x1, x2, x3, x4, x5, x6, x7⟩, xz⟩ := n8_cells lq.b2
      have LQ : Hid _ := lq
      clear lq gz xz
      go_wp2
      go_ret
      exact ⟨by simp, LQ.out.bel⟩


theorem readsWalk (a : Option Addr) (len cap : Nat) (zs : List Int) (w : World) (hr : Reads w a len zs) (hs : len ≤ 140737488351232) (hc : len ≤ cap) (hcm : cap ≤ 9223372036854775807) :
    Calls Try.prog 5 #[.slice a len cap] w fun e w' => e = .returned (.bool true) ∧ Below w.heap.size w w' := by
  obtain ⟨k, p, N, z, m, st, h, T, E, hk⟩ := nr_of zs len hr.2.1 hr.1 (by omega)
  match len, hr, hs, hc, hk with
  | 0, hr, hs, hc, hk => exact reads_zero a 0 cap zs k p N z m st h T E rfl w hr hs hc hcm hk
  | n + 1, hr, hs, hc, hk =>
    have hlen := hr.1
    obtain ⟨y0, hy0⟩ : ∃ y, (zs ++ [161, 178, 195]).getD n 0 = y := ⟨_, rfl⟩
    have hy0r : 0 ≤ y0 ∧ y0 ≤ 255 := by rw [← hy0]; exact byteAt (marks_range zs hr.2.1) n
    have hyr := xor1_range y0 hy0r.1 hy0r.2
    obtain ⟨k2, p2, N2, z2, m2, st2, h2, T2, E2, hk2⟩ := nr_of (zs.set n (bits .xor .u8 y0 1)) (n + 1) (fun x hx => by rcases List.mem_or_eq_of_mem_set hx with h9 | h9; exact hr.2.1 x h9; rw [h9]; exact hyr) (by simp [hlen]) (by omega)
    exact reads_one a n cap zs k p N z m st h T E k2 p2 N2 z2 m2 st2 h2 T2 E2 y0 _ w hr hs hc hcm hk hk2 hy0 rfl hy0r hyr

end Go.Proofs.Ytgdmagmbkmgdfac
