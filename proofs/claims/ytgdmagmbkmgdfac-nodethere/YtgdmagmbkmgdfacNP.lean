/-
  SEAT Ytgdmagmbkmgdfac: NodePacks: the walk.
-/
import Derived.Test.YtgdmagmbkmgdfacEB
namespace Go.Proofs.Ytgdmagmbkmgdfac
open Go.RowKit Go.ChangeShapes Go.WideShapes Go.ChangeAt
set_option linter.unusedVariables false

theorem nodeL_length (k p : Int) (N : ByteArray) (z m st h : Int) (T : ByteArray) : (nodeL k p N z m st h T).length = 1 + 4 + 4 + 2 + 8 + 4 + (1 + N.size) + (1 + T.size) := by
  simp only [nodeL, List.length_append, dg_length, strL_length]
theorem nodeL_range (k p : Int) (N : ByteArray) (z m st h : Int) (T : ByteArray) : ∀ x ∈ nodeL k p N z m st h T, 0 ≤ x ∧ x ≤ 255 := by
  intro x hx
  simp only [nodeL, List.mem_append] at hx
  rcases hx with ((((((h1 | h1) | h1) | h1) | h1) | h1) | (h1 | h1)) | (h1 | h1)
  all_goals first | exact dg_range _ _ x h1 | exact strL_range _ x h1

/-- What both Packs answer. -/
structure Nk (k p : Int) (N : ByteArray) (z m st h : Int) (T : ByteArray) (Q : List Int) (M : Nat) (E : Int) : Prop where
  nQ : Q.length = M
  rQ : ∀ x ∈ Q, 0 ≤ x ∧ x ≤ 255
  hM : M ≤ 1000
  c16 : ∀ w : World, Calls Try.prog 16 #[.agg #[.int .i64 k, .int .i64 p, .string N, .int .i64 z, .int .i64 m, .int .u64 st, .int .i64 h, .string T]] w fun e w' => ∃ a c, e = .returned (.tuple #[.slice a M c, .int .i64 E]) ∧ w'.ownsRow w.heap.size 5 1 (.slice a M c) M (Q.map (Value.int .u8)) ∧ Below w.heap.size w w'
  c17 : ∀ w : World, Calls Try.prog 17 #[.agg #[.int .i64 k, .int .i64 p, .string N, .int .i64 z, .int .i64 m, .int .u64 st, .int .i64 h, .string T]] w fun e w' => ∃ a c, e = .returned (.tuple #[.slice a M c, .int .i64 E]) ∧ w'.ownsRow w.heap.size 5 1 (.slice a M c) M (Q.map (Value.int .u8)) ∧ Below w.heap.size w w'

theorem nk_of (k p : Int) (N : ByteArray) (z m st h : Int) (T : ByteArray) (hN : N.size ≤ 9223372036854775807) (hT : T.size ≤ 9223372036854775807) (h0 : 0 ≤ st) (h1 : st < 18446744073709551616) : ∃ Q M E, Nk k p N z m st h T Q M E := by
  by_cases hE : nodeE k p N z m st h T = 0
  · obtain ⟨_, _, hn, _, _, _, ht⟩ := node_zero k p N z m st h T hE
    refine ⟨nodeL k p N z m st h T, _, 0, nodeL_length k p N z m st h T, nodeL_range k p N z m st h T, by omega, fun w => ?_, fun w => ?_⟩
    · refine (rpack_ok k p N z m st h T w hE h0 h1).mono fun e w' ⟨⟨v, he, ho⟩, hb⟩ => ?_
      obtain ⟨a, c, rfl⟩ := own_any2 ho
      exact ⟨a, c, he, ho, hb⟩
    · refine (pack_ok k p N z m st h T w hE h0 h1).mono fun e w' ⟨⟨v, he, ho⟩, hb⟩ => ?_
      obtain ⟨a, c, rfl⟩ := own_any2 ho
      exact ⟨a, c, he, ho, hb⟩
  · refine ⟨[], 0, nodeE k p N z m st h T, rfl, by simp, by omega, fun w => ?_, fun w => ?_⟩
    · exact (rpack_bad k p N z m st h T w hN hT _ rfl hE).mono fun e w' ⟨he, hb⟩ => ⟨_, _, he, World.ownsRow_nil _ _ _ _, hb⟩
    · exact (pack_bad k p N z m st h T w hN hT _ rfl hE).mono fun e w' ⟨he, hb⟩ => ⟨_, _, he, World.ownsRow_nil _ _ _ _, hb⟩

structure Ns (w0 u : World) (X Y : Obj) (R : List (Value × List Int)) : Prop where
  lv : Live u (w0.heap.size + 2) R
  bel : Below ((w0.alloc X).alloc Y).heap.size ((w0.alloc X).alloc Y) u

section
variable {w0 u u' : World} {X Y : Obj} {R : List (Value × List Int)}
theorem Ns.hB (h : Ns w0 u X Y R) : w0.heap.size + 2 ≤ u.heap.size := by have := h.bel.size; simp at this; omega
theorem Ns.add {n : Nat} {v : Value} {xs : List Int} (h : Ns w0 u X Y R) (hb : Below u.heap.size u u') (hl : xs.length = n) (hr : u'.ownsRow u.heap.size 5 1 v n (xs.map (Value.int .u8))) : Ns w0 u' X Y ((v, xs) :: R) :=
  ⟨h.lv.add hb h.hB hl hr, h.bel.trans (hb.mono h.bel.size)⟩
theorem Ns.row {n c : Nat} {a : Option Addr} {xs : List Int} (h : Ns w0 u X Y R) (hm : (.slice a n c, xs) ∈ R) (hl : xs.length = n) (hr : ∀ x ∈ xs, 0 ≤ x ∧ x ≤ 255) : Reads u a n xs := h.lv.reads hm hl hr
theorem Ns.all (h : Ns w0 u X Y R) : Below w0.heap.size w0 u := (((Below.refl w0.heap.size w0).alloc (Nat.le_refl _) X).alloc (by simp) Y).trans (h.bel.mono (by simp; omega))
theorem cells2 {k2 p2 : Int} {N2 : ByteArray} {z2 m2 st2 h2 : Int} {T2 : ByteArray} (q : Below ((w0.alloc X).alloc (.cells #[.int .i64 k2, .int .i64 p2, .string N2, .int .i64 z2, .int .i64 m2, .int .u64 st2, .int .i64 h2, .string T2] 28)).heap.size ((w0.alloc X).alloc (.cells #[.int .i64 k2, .int .i64 p2, .string N2, .int .i64 z2, .int .i64 m2, .int .u64 st2, .int .i64 h2, .string T2] 28)) u) : u.cell? ⟨w0.heap.size + 1, 0, none⟩ = some (.int .i64 k2) ∧ u.cell? ⟨w0.heap.size + 1, 1, none⟩ = some (.int .i64 p2) ∧ u.cell? ⟨w0.heap.size + 1, 2, none⟩ = some (.string N2) ∧ u.cell? ⟨w0.heap.size + 1, 3, none⟩ = some (.int .i64 z2) ∧ u.cell? ⟨w0.heap.size + 1, 4, none⟩ = some (.int .i64 m2) ∧ u.cell? ⟨w0.heap.size + 1, 5, none⟩ = some (.int .u64 st2) ∧ u.cell? ⟨w0.heap.size + 1, 6, none⟩ = some (.int .i64 h2) ∧ u.cell? ⟨w0.heap.size + 1, 7, none⟩ = some (.string T2) := by
  have h := box8 q
  rw [size_al] at h
  exact h
theorem cells1 {k p : Int} {N : ByteArray} {z m st h : Int} {T : ByteArray} (q : Below ((w0.alloc (.cells #[.int .i64 k, .int .i64 p, .string N, .int .i64 z, .int .i64 m, .int .u64 st, .int .i64 h, .string T] 28)).alloc Y).heap.size ((w0.alloc (.cells #[.int .i64 k, .int .i64 p, .string N, .int .i64 z, .int .i64 m, .int .u64 st, .int .i64 h, .string T] 28)).alloc Y) u) : u.cell? ⟨w0.heap.size, 0, none⟩ = some (.int .i64 k) ∧ u.cell? ⟨w0.heap.size, 1, none⟩ = some (.int .i64 p) ∧ u.cell? ⟨w0.heap.size, 2, none⟩ = some (.string N) ∧ u.cell? ⟨w0.heap.size, 3, none⟩ = some (.int .i64 z) ∧ u.cell? ⟨w0.heap.size, 4, none⟩ = some (.int .i64 m) ∧ u.cell? ⟨w0.heap.size, 5, none⟩ = some (.int .u64 st) ∧ u.cell? ⟨w0.heap.size, 6, none⟩ = some (.int .i64 h) ∧ u.cell? ⟨w0.heap.size, 7, none⟩ = some (.string T) :=
  box8 (((Below.refl _ _).alloc (Nat.le_refl _) Y).trans (q.mono (by simp)))
end

set_option maxHeartbeats 4000000 in
set_option maxRecDepth 100000 in
theorem packsGo (k p : Int) (N : ByteArray) (z m st h : Int) (T : ByteArray) (k2 p2 : Int) (N2 : ByteArray) (z2 m2 st2 h2 : Int) (T2 : ByteArray) (Q Q2 : List Int) (M M2 : Nat) (E E2 : Int) (w : World) (hk : Nk k p N z m st h T Q M E) (hj : Nk k2 p2 N2 z2 m2 st2 h2 T2 Q2 M2 E2) :
    Calls Try.prog 6 #[.agg #[.int .i64 k, .int .i64 p, .string N, .int .i64 z, .int .i64 m, .int .u64 st, .int .i64 h, .string T], .agg #[.int .i64 k2, .int .i64 p2, .string N2, .int .i64 z2, .int .i64 m2, .int .u64 st2, .int .i64 h2, .string T2]] w fun e w' => e = .returned (.bool true) ∧ Below w.heap.size w w' := by
  have HK : Hid (Nk k p N z m st h T Q M E) := hk
  have HJ : Hid (Nk k2 p2 N2 z2 m2 st2 h2 T2 Q2 M2 E2) := hj
  have s0 : Ns w ((w.alloc (.cells #[.int .i64 k, .int .i64 p, .string N, .int .i64 z, .int .i64 m, .int .u64 st, .int .i64 h, .string T] 28)).alloc (.cells #[.int .i64 k2, .int .i64 p2, .string N2, .int .i64 z2, .int .i64 m2, .int .u64 st2, .int .i64 h2, .string T2] 28)) (.cells #[.int .i64 k, .int .i64 p, .string N, .int .i64 z, .int .i64 m, .int .u64 st, .int .i64 h, .string T] 28) (.cells #[.int .i64 k2, .int .i64 p2, .string N2, .int .i64 z2, .int .i64 m2, .int .u64 st2, .int .i64 h2, .string T2] 28) [] := ⟨⟨by simp, List.Pairwise.nil⟩, Below.refl _ _⟩
  obtain ⟨y0, y1, y2, y3, y4, y5, y6, y7⟩ := cells1 s0.bel
  clear hk hj
  go_enter Try.func6, Try.ntmps6
  go_wp2_with (first
    | (go_at_call 16; have h9 := s0; clear h9; refine (HK.out.c16 _).mono ?_; rintro e u1 ⟨aw, cw, rfl, o1, b1⟩; have s1 : Ns w u1 (.cells #[.int .i64 k, .int .i64 p, .string N, .int .i64 z, .int .i64 m, .int .u64 st, .int .i64 h, .string T] 28) (.cells #[.int .i64 k2, .int .i64 p2, .string N2, .int .i64 z2, .int .i64 m2, .int .u64 st2, .int .i64 h2, .string T2] 28) [(.slice aw M cw, Q)] := s0.add b1 HK.out.nQ o1; clear y0 y1 y2 y3 y4 y5 y6 y7 s0 o1 b1; obtain ⟨y0, y1, y2, y3, y4, y5, y6, y7⟩ := cells2 s1.bel)
    | (go_at_call 16; have h9 := s1; clear h9; refine (HJ.out.c16 _).mono ?_; rintro e u2 ⟨aa, ca, rfl, o2, b2⟩; have s2 : Ns w u2 (.cells #[.int .i64 k, .int .i64 p, .string N, .int .i64 z, .int .i64 m, .int .u64 st, .int .i64 h, .string T] 28) (.cells #[.int .i64 k2, .int .i64 p2, .string N2, .int .i64 z2, .int .i64 m2, .int .u64 st2, .int .i64 h2, .string T2] 28) [(.slice aa M2 ca, Q2), (.slice aw M cw, Q)] := s1.add b2 HJ.out.nQ o2; clear y0 y1 y2 y3 y4 y5 y6 y7 s1 o2 b2; obtain ⟨y0, y1, y2, y3, y4, y5, y6, y7⟩ := cells1 s2.bel)
    | (go_at_call 17; have h9 := s2; clear h9; refine (HK.out.c17 _).mono ?_; rintro e u3 ⟨ab, cb, rfl, o3, b3⟩; have s3 : Ns w u3 (.cells #[.int .i64 k, .int .i64 p, .string N, .int .i64 z, .int .i64 m, .int .u64 st, .int .i64 h, .string T] 28) (.cells #[.int .i64 k2, .int .i64 p2, .string N2, .int .i64 z2, .int .i64 m2, .int .u64 st2, .int .i64 h2, .string T2] 28) [(.slice ab M cb, Q), (.slice aa M2 ca, Q2), (.slice aw M cw, Q)] := s2.add b3 HK.out.nQ o3; clear y0 y1 y2 y3 y4 y5 y6 y7 s2 o3 b3; obtain ⟨y0, y1, y2, y3, y4, y5, y6, y7⟩ := cells1 s3.bel)
    | (go_at_call 17; have h9 := s3; clear h9; refine (HK.out.c17 _).mono ?_; rintro e u4 ⟨ac, cc, rfl, o4, b4⟩; have s4 : Ns w u4 (.cells #[.int .i64 k, .int .i64 p, .string N, .int .i64 z, .int .i64 m, .int .u64 st, .int .i64 h, .string T] 28) (.cells #[.int .i64 k2, .int .i64 p2, .string N2, .int .i64 z2, .int .i64 m2, .int .u64 st2, .int .i64 h2, .string T2] 28) [(.slice ac M cc, Q), (.slice ab M cb, Q), (.slice aa M2 ca, Q2), (.slice aw M cw, Q)] := s3.add b4 HK.out.nQ o4; clear y0 y1 y2 y3 y4 y5 y6 y7 s3 o4 b4; obtain ⟨y0, y1, y2, y3, y4, y5, y6, y7⟩ := cells2 s4.bel)
    | (go_at_call 17; have h9 := s4; clear h9; refine (HJ.out.c17 _).mono ?_; rintro e u5 ⟨ao, co, rfl, o5, b5⟩; have s5 : Ns w u5 (.cells #[.int .i64 k, .int .i64 p, .string N, .int .i64 z, .int .i64 m, .int .u64 st, .int .i64 h, .string T] 28) (.cells #[.int .i64 k2, .int .i64 p2, .string N2, .int .i64 z2, .int .i64 m2, .int .u64 st2, .int .i64 h2, .string T2] 28) [(.slice ao M2 co, Q2), (.slice ac M cc, Q), (.slice ab M cb, Q), (.slice aa M2 ca, Q2), (.slice aw M cw, Q)] := s4.add b5 HJ.out.nQ o5; clear y0 y1 y2 y3 y4 y5 y6 y7 s4 o5 b5; obtain ⟨y0, y1, y2, y3, y4, y5, y6, y7⟩ := cells1 s5.bel)
    | (go_at_call 17; have h9 := s5; clear h9; refine (HK.out.c17 _).mono ?_; rintro e u6 ⟨ad, cd, rfl, o6, b6⟩; have s6 : Ns w u6 (.cells #[.int .i64 k, .int .i64 p, .string N, .int .i64 z, .int .i64 m, .int .u64 st, .int .i64 h, .string T] 28) (.cells #[.int .i64 k2, .int .i64 p2, .string N2, .int .i64 z2, .int .i64 m2, .int .u64 st2, .int .i64 h2, .string T2] 28) [(.slice ad M cd, Q), (.slice ao M2 co, Q2), (.slice ac M cc, Q), (.slice ab M cb, Q), (.slice aa M2 ca, Q2), (.slice aw M cw, Q)] := s5.add b6 HK.out.nQ o6; clear y0 y1 y2 y3 y4 y5 y6 y7 s5 o6 b6; have rw := conv aw M cw Q u6 (s6.row (c := cw) (by simp) HK.out.nQ HK.out.rQ); have ra := conv aa M2 ca Q2 u6 (s6.row (c := ca) (by simp) HJ.out.nQ HJ.out.rQ); have rb := conv ab M cb Q u6 (s6.row (c := cb) (by simp) HK.out.nQ HK.out.rQ); have rc := conv ac M cc Q u6 (s6.row (c := cc) (by simp) HK.out.nQ HK.out.rQ); have ro := conv ao M2 co Q2 u6 (s6.row (c := co) (by simp) HJ.out.nQ HJ.out.rQ); have rd := conv ad M cd Q u6 (s6.row (c := cd) (by simp) HK.out.nQ HK.out.rQ); have cun := owns_any (u6.alloc (.cells #[.slice ab M cb, .slice ac M cc, .slice ao M2 co, .slice ad M cd] 32)) (w.heap.size + 2) u6.heap.size 4 4 _ _ _ (nine s6.lv [(.slice ab M cb, Q), (.slice ac M cc, Q), (.slice ao M2 co, Q2), (.slice ad M cd, Q)] (by simp) (by have e1 := HK.out.nQ; have e2 := HJ.out.nQ; have e3 := HK.out.hM; have e4 := HJ.out.hM; simp only [List.mem_cons, List.not_mem_nil, or_false]; rintro q (rfl | rfl | rfl | rfl) <;> simp only [e1, e2] <;> omega) 4 rfl _ rfl) (by omega) (by have := s6.hB; simp; omega); have HUN : Hid _ := fun (_ : Unit) => cun; clear cun)
    | (go_at_call 18; refine Calls.mono (HUN.out ()) ?_; rintro e u7 ⟨rfl, b7⟩))
  go_ret
  exact ⟨rfl, s6.all.trans ((((Below.refl u6.heap.size u6).alloc (Nat.le_refl _) _).mono s6.all.size).trans (b7.mono (by omega)))⟩

theorem packsWalk (k p : Int) (N : ByteArray) (z m st h : Int) (T : ByteArray) (k2 p2 : Int) (N2 : ByteArray) (z2 m2 st2 h2 : Int) (T2 : ByteArray) (w : World) (hN : N.size ≤ maxLen) (hT : T.size ≤ maxLen) (hN2 : N2.size ≤ maxLen) (hT2 : T2.size ≤ maxLen) (ws : (Lit.int .u64 st).wf = true) (ws2 : (Lit.int .u64 st2).wf = true) :
    Calls Try.prog 6 #[.agg #[.int .i64 k, .int .i64 p, .string N, .int .i64 z, .int .i64 m, .int .u64 st, .int .i64 h, .string T], .agg #[.int .i64 k2, .int .i64 p2, .string N2, .int .i64 z2, .int .i64 m2, .int .u64 st2, .int .i64 h2, .string T2]] w fun e w' => e = .returned (.bool true) ∧ Below w.heap.size w w' := by
  have b1 := bounds_u64 ws
  have b2 := bounds_u64 ws2
  unfold maxLen at hN hT hN2 hT2
  obtain ⟨Q, M, E, hk⟩ := nk_of k p N z m st h T (by omega) (by omega) b1.1 (by omega)
  obtain ⟨Q2, M2, E2, hj⟩ := nk_of k2 p2 N2 z2 m2 st2 h2 T2 (by omega) (by omega) b2.1 (by omega)
  exact packsGo k p N z m st h T k2 p2 N2 z2 m2 st2 h2 T2 Q Q2 M M2 E E2 w hk hj
end Go.Proofs.Ytgdmagmbkmgdfac
