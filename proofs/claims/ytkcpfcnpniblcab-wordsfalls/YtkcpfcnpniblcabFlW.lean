/-
  SEAT Ytkcpfcnpniblcab: WordsFalls: the walk.
-/
import Derived.Test.YtkcpfcnpniblcabSt
namespace Go.Proofs.Ytkcpfcnpniblcab.wordsFalls
open Go.RowKit
set_option linter.unusedVariables false

/-- All that is known of the bytes: lengths, ranges, what the calls make of them. -/
structure Fx (z0 z1 z2 y0 y1 y2 F0 F1 R0 : List Int) (l0 l1 l2 N : Nat) (C fill : Int) : Prop where
  nz0 : z0.length = l0
  rz0 : ∀ x ∈ z0, 0 ≤ x ∧ x ≤ 255
  nz1 : z1.length = l1
  rz1 : ∀ x ∈ z1, 0 ≤ x ∧ x ≤ 255
  nz2 : z2.length = l2
  rz2 : ∀ x ∈ z2, 0 ≤ x ∧ x ≤ 255
  ny0 : y0.length = l0
  ry0 : ∀ x ∈ y0, 0 ≤ x ∧ x ≤ 255
  ny1 : y1.length = l1
  ry1 : ∀ x ∈ y1, 0 ≤ x ∧ x ≤ 255
  ny2 : y2.length = l2
  ry2 : ∀ x ∈ y2, 0 ≤ x ∧ x ≤ 255
  nF0 : F0.length = N
  rF0 : ∀ x ∈ F0, 0 ≤ x ∧ x ≤ 255
  nF1 : F1.length = N
  rF1 : ∀ x ∈ F1, 0 ≤ x ∧ x ≤ 255
  nR0 : R0.length = l0
  rR0 : ∀ x ∈ R0, 0 ≤ x ∧ x ≤ 255
  m0 : z0.map (fun z => bits .xor .u8 z 90) = y0
  m1 : z1.map (fun z => bits .xor .u8 z 90) = y1
  m2 : z2.map (fun z => bits .xor .u8 z 90) = y2
  c7 : ∀ (w : World) (a : Option Addr) (c : Nat) (a' : Option Addr) (c' : Nat) (am : Option Addr) (cm : Nat), Reads w a l0 z0 → Reads w a' l1 z1 → Reads w am l2 z2 → Calls Try.prog 7 #[.slice a l0 c, .slice a' l1 c', .slice am l2 cm, .int .u8 fill] w fun e w' => ∃ ar cr, e = .returned (.tuple #[.slice ar N cr, .int .i64 C]) ∧ w'.ownsRow w.heap.size 5 1 (.slice ar N cr) N (F0.map (Value.int .u8)) ∧ Below w.heap.size w w'
  d7 : ∀ (w : World) (a : Option Addr) (c : Nat) (a' : Option Addr) (c' : Nat) (am : Option Addr) (cm : Nat), Reads w a l0 y0 → Reads w a' l1 y1 → Reads w am l2 y2 → Calls Try.prog 7 #[.slice a l0 c, .slice a' l1 c', .slice am l2 cm, .int .u8 fill] w fun e w' => ∃ ar cr, e = .returned (.tuple #[.slice ar N cr, .int .i64 C]) ∧ w'.ownsRow w.heap.size 5 1 (.slice ar N cr) N (F1.map (Value.int .u8)) ∧ Below w.heap.size w w'
  c23 : ∀ (w : World) (a : Option Addr) (c : Nat) (a' : Option Addr) (c' : Nat) (am : Option Addr) (cm : Nat), Reads w a l0 z0 → Reads w a' l1 z1 → Reads w am l2 z2 → Calls Try.prog 23 #[.slice a l0 c, .slice a' l1 c', .slice am l2 cm, .int .u8 fill] w fun e w' => ∃ ar cr, e = .returned (.tuple #[.slice ar N cr, .int .i64 C]) ∧ w'.ownsRow w.heap.size 5 1 (.slice ar N cr) N (F0.map (Value.int .u8)) ∧ Below w.heap.size w w'
  d23 : ∀ (w : World) (a : Option Addr) (c : Nat) (a' : Option Addr) (c' : Nat) (am : Option Addr) (cm : Nat), Reads w a l0 y0 → Reads w a' l1 y1 → Reads w am l2 y2 → Calls Try.prog 23 #[.slice a l0 c, .slice a' l1 c', .slice am l2 cm, .int .u8 fill] w fun e w' => ∃ ar cr, e = .returned (.tuple #[.slice ar N cr, .int .i64 C]) ∧ w'.ownsRow w.heap.size 5 1 (.slice ar N cr) N (F1.map (Value.int .u8)) ∧ Below w.heap.size w w'
  c8 : ∀ (w : World) (a : Option Addr) (c : Nat) (am : Option Addr) (cm : Nat), Reads w a l0 z0 → Reads w am l2 z2 → Calls Try.prog 8 #[.slice a l0 c, .slice am l2 cm, .int .u8 fill] w fun e w' => ∃ g cr, e = .returned (.slice (some ⟨g, 0, none⟩) l0 cr) ∧ w'.ownsRow w.heap.size 5 1 (.slice (some ⟨g, 0, none⟩) l0 cr) l0 (R0.map (Value.int .u8)) ∧ Below w.heap.size w w'
  c24 : ∀ (w : World) (a : Option Addr) (c : Nat) (am : Option Addr) (cm : Nat), Reads w a l0 z0 → Reads w am l2 z2 → Calls Try.prog 24 #[.slice a l0 c, .slice am l2 cm, .int .u8 fill] w fun e w' => ∃ g cr, e = .returned (.slice (some ⟨g, 0, none⟩) l0 cr) ∧ w'.ownsRow w.heap.size 5 1 (.slice (some ⟨g, 0, none⟩) l0 cr) l0 (R0.map (Value.int .u8)) ∧ Below w.heap.size w w'

theorem map_range {z : List Int} (h : ∀ x ∈ z, 0 ≤ x ∧ x ≤ 255) : ∀ x ∈ z.map (fun z => bits .xor .u8 z 90), 0 ≤ x ∧ x ≤ 255 := by
  intro x hx
  obtain ⟨y, hy, rfl⟩ := List.mem_map.1 hx
  exact xor_range y (h y hy).1 (h y hy).2

theorem fx (z0 z1 z2 : List Int) (l0 l1 l2 : Nat) (fill : Int) (h0 : z0.length = l0) (h1 : z1.length = l1) (h2 : z2.length = l2) (r0 : ∀ x ∈ z0, 0 ≤ x ∧ x ≤ 255) (r1 : ∀ x ∈ z1, 0 ≤ x ∧ x ≤ 255) (r2 : ∀ x ∈ z2, 0 ≤ x ∧ x ≤ 255)
    (s0 : l0 ≤ 140737488351232) (s1 : l1 ≤ 140737488351232) (s2 : l2 ≤ 140737488351232) (hf : 0 ≤ fill ∧ fill ≤ 255) : ∃ y0 y1 y2 F0 F1 R0 N C, N ≤ 140737488351232 ∧ Fx z0 z1 z2 y0 y1 y2 F0 F1 R0 l0 l1 l2 N C fill := by
  obtain ⟨N, C, F, hN, hF, k7, k23⟩ := falls_any l0 l1 l2 fill s0 s1 s2 hf
  have f0 := hF z0 z1 z2 r0 r1 r2
  have f1 := hF _ _ _ (map_range r0) (map_range r1) (map_range r2)
  exact ⟨_, _, _, F z0 z1 z2, _, riseL z0 z2 fill l0, N, C, hN, h0, r0, h1, r1, h2, r2, by simp [h0], map_range r0, by simp [h1], map_range r1, by simp [h2], map_range r2, f0.1, f0.2, f1.1, f1.2, riseL_length _ _ _ _, riseL_range z0 z2 fill r0 r2 hf l0, rfl, rfl, rfl,
    fun w a c a' c' am cm => k7 w a c a' c' am cm z0 z1 z2, fun w a c a' c' am cm => k7 w a c a' c' am cm _ _ _, fun w a c a' c' am cm => k23 w a c a' c' am cm z0 z1 z2, fun w a c a' c' am cm => k23 w a c a' c' am cm _ _ _,
    fun w a c am cm h h' => rise_any a l0 c z0 am l2 cm z2 fill w s0 s2 h h', fun w a c am cm h h' => rrise_any a l0 c z0 am l2 cm z2 fill w s0 s2 h h'⟩

theorem s1 : strOfNums [254, 15] = ⟨#[254, 15]⟩ := by decide +kernel
theorem s2 : strOfNums [3, 129] = ⟨#[3, 129]⟩ := by decide +kernel

set_option maxHeartbeats 2000000 in
set_option maxRecDepth 100000 in
theorem walkW (a0 : Option Addr) (len0 cap0 : Nat) (z0 : List Int) (a1 : Option Addr) (len1 cap1 : Nat) (z1 : List Int) (a2 : Option Addr) (len2 cap2 : Nat) (z2 : List Int) (a3 : Int) (w : World) (w0 : Reads w a0 len0 z0) (s0 : len0 ≤ 140737488351232) (w1 : Reads w a1 len1 z1) (s1 : len1 ≤ 140737488351232) (w2 : Reads w a2 len2 z2) (s2 : len2 ≤ 140737488351232) (w3 : 0 ≤ a3 ∧ a3 ≤ 255) :
    Calls Try.prog 6 #[.slice a0 len0 cap0, .slice a1 len1 cap1, .slice a2 len2 cap2, .int .u8 a3] w fun e w' => e = .returned (.bool true) ∧ Below w.heap.size w w' := by
  obtain ⟨y0, y1, y2, F0, F1, R0, N, C, hN, hfx⟩ := fx z0 z1 z2 len0 len1 len2 a3 w0.1 w1.1 w2.1 w0.2.1 w1.2.1 w2.2.1 s0 s1 s2 w3
  have HF : Hid (Fx z0 z1 z2 y0 y1 y2 F0 F1 R0 len0 len1 len2 N C a3) := hfx
  have HW0 : Hid (Reads w a0 len0 z0) := w0
  have HW1 : Hid (Reads w a1 len1 z1) := w1
  have HW2 : Hid (Reads w a2 len2 z2) := w2
  have q0 : Hid True := trivial
  clear hfx w0 w1 w2 w3
  go_enter Try.func6, Try.ntmps6
  go_wp2_with (first
    | (go_at_call 12; have h9 := q0; clear h9; refine (marked_any _ _ _ z0 _ ?_ ?_).mono ?_; (with_reducible exact HW0.out); omega; rintro e u1 ⟨gx, cx, rfl, o1, b1⟩; rw [← HF.out.nz0] at o1; have q1 := HW1.out.below b1; clear q0)
    | (go_at_call 12; have h9 := q1; clear h9; refine (marked_any _ _ _ z1 _ ?_ ?_).mono ?_; (with_reducible exact q1); omega; rintro e u2 ⟨gy, cy, rfl, o2, b2⟩; rw [← HF.out.nz1] at o2; have q2 := (HW2.out.below b1).below b2; clear q1)
    | (go_at_call 12; have h9 := q2; clear h9; refine (marked_any _ _ _ z2 _ ?_ ?_).mono ?_; (with_reducible exact q2); omega; rintro e u3 ⟨gz, cz, rfl, o3, b3⟩; rw [← HF.out.nz2] at o3; have t3 := St.start o1 b1 o2 b2 o3 b3; have q3 := HW0.out.below t3.bel; have p3 := HW1.out.below t3.bel; have k3 := HW2.out.below t3.bel; clear q2 o1 b1 o2 b2 o3 b3)
    | (go_at_call 23; have h9 := q3; clear h9; refine (HF.out.c23 _ _ _ _ _ _ _ ?_ ?_ ?_).mono ?_; (with_reducible exact q3); (with_reducible exact p3); (with_reducible exact k3); rintro e u4 ⟨af, cf, rfl, o4, b4⟩; have t4 := t3.add b4 HF.out.nF0 o4; have q4 := q3.below b4; have k4 := k3.below b4; clear t3 q3 p3 k3 o4 b4)
    | (go_at_call 24; have h9 := q4; clear h9; refine (HF.out.c24 _ _ _ _ _ ?_ ?_).mono ?_; (with_reducible exact q4); (with_reducible exact k4); rintro e u5 ⟨gr, cr, rfl, o5, b5⟩; have t5 := t4.add b5 HF.out.nR0 o5; have q5 := t5.rx HF.out.nz0 HF.out.rz0; have p5 := t5.ry HF.out.nz1 HF.out.rz1; have k5 := t5.rz HF.out.nz2 HF.out.rz2; clear t4 q4 k4 o5 b5)
    | (go_at_call 7; have h9 := q5; clear h9; refine (HF.out.c7 _ _ _ _ _ _ _ ?_ ?_ ?_).mono ?_; (with_reducible exact q5); (with_reducible exact p5); (with_reducible exact k5); rintro e u6 ⟨aA, cA, rfl, o6, b6⟩; have t6 := t5.add b6 HF.out.nF0 o6; have q6 := q5.below b6; have p6 := p5.below b6; have k6 := k5.below b6; clear t5 q5 p5 k5 o6 b6)
    | (go_at_call 8; have h9 := q6; clear h9; refine (HF.out.c8 _ _ _ _ _ ?_ ?_).mono ?_; (with_reducible exact q6); (with_reducible exact k6); rintro e u7 ⟨gP, cP, rfl, o7, b7⟩; have t7 := t6.add b7 HF.out.nR0 o7; have q7 := q6.below b7; have p7 := p6.below b7; have k7 := k6.below b7; clear t6 q6 p6 k6 o7 b7)
    | (go_at_call 7; have h9 := q7; clear h9; refine (HF.out.c7 _ _ _ _ _ _ _ ?_ ?_ ?_).mono ?_; (with_reducible exact q7); (with_reducible exact p7); (with_reducible exact k7); rintro e u8 ⟨aB, cB, rfl, o8, b8⟩; have t8 := t7.add b8 HF.out.nF0 o8; have q8 := q7.below b8; have p8 := p7.below b8; have k8 := k7.below b8; clear t7 q7 p7 k7 o8 b8)
    | (go_at_call 8; have h9 := q8; clear h9; refine (HF.out.c8 _ _ _ _ _ ?_ ?_).mono ?_; (with_reducible exact q8); (with_reducible exact k8); rintro e u9 ⟨gQ, cQ, rfl, o9, b9⟩; have t9 := t8.add b9 HF.out.nR0 o9; have q9 := q8.below b9; have p9 := p8.below b9; have k9 := k8.below b9; clear t8 q8 p8 k8 o9 b9)
    | (go_at_call 7; have h9 := t9; clear h9; refine (fall_lit u9).mono ?_; rintro e uA ⟨gO, cO, rfl, oA, bA⟩; have tA := t9.add bA rfl oA; clear t9 q9 p9 k9 oA bA)
    | (go_at_call 8; have h9 := tA; clear h9; refine (rise_lit uA).mono ?_; rintro e uB ⟨gR, cR, rfl, oB, bB⟩; have tB := tA.add bB rfl oB; have qB := tB.rx HF.out.nz0 HF.out.rz0; have pB := tB.ry HF.out.nz1 HF.out.rz1; have kB := tB.rz HF.out.nz2 HF.out.rz2; clear tA oB bB)
    | (go_at_call 7; have h9 := qB; clear h9; refine (HF.out.c7 _ _ _ _ _ _ _ ?_ ?_ ?_).mono ?_; (with_reducible exact qB); (with_reducible exact pB); (with_reducible exact kB); rintro e uC ⟨aC, cC, rfl, oC, bC⟩; have tC := tB.add bC HF.out.nF0 oC; have qC := qB.below bC; have pC := pB.below bC; have kC := kB.below bC; clear tB qB pB kB oC bC)
    | (go_at_call 8; have h9 := qC; clear h9; refine (HF.out.c8 _ _ _ _ _ ?_ ?_).mono ?_; (with_reducible exact qC); (with_reducible exact kC); rintro e uD ⟨gS, cS, rfl, oD, bD⟩; have tD := tC.add bD HF.out.nR0 oD; have vfell := tD.str (a := af) (c := cf) (xs := F0) (by simp) HF.out.nF0 HF.out.rF0; have vrose := tD.str (a := (some ⟨gr, 0, none⟩)) (c := cr) (xs := R0) (by simp) HF.out.nR0 HF.out.rR0; have va := tD.str (a := aA) (c := cA) (xs := F0) (by simp) HF.out.nF0 HF.out.rF0; have vb := tD.str (a := aB) (c := cB) (xs := F0) (by simp) HF.out.nF0 HF.out.rF0; have vc := tD.str (a := aC) (c := cC) (xs := F0) (by simp) HF.out.nF0 HF.out.rF0; have vp := tD.str (a := (some ⟨gP, 0, none⟩)) (c := cP) (xs := R0) (by simp) HF.out.nR0 HF.out.rR0; have vq := tD.str (a := (some ⟨gQ, 0, none⟩)) (c := cQ) (xs := R0) (by simp) HF.out.nR0 HF.out.rR0; have vs := tD.str (a := (some ⟨gS, 0, none⟩)) (c := cS) (xs := R0) (by simp) HF.out.nR0 HF.out.rR0; have vo := tD.str (a := some ⟨gO, 0, none⟩) (c := cO) (xs := [254, 15]) (n := 2) (by simp) rfl (by decide); have vr := tD.str (a := some ⟨gR, 0, none⟩) (c := cR) (xs := [3, 129]) (n := 2) (by simp) rfl (by decide); rw [wordsFalls.s1] at vo; rw [wordsFalls.s2] at vr; clear tC qC pC kC oD bD)
    | (go_at_call 9; refine (no_any _ _).mono ?_; rintro e u ⟨rfl, rfl⟩)
    | (go_at_call 14; have h9 := tD; clear h9; refine (kept_any w.heap.size gx _ cx len0 _ a0 z0 _ ?_ ?_ ?_).mono ?_; omega; (with_reducible exact HW0.out.below tD.bel); (with_reducible exact tD.kx HF.out.nz0); rintro e uE ⟨rfl, kE, hE⟩; have tE := tD.drewN kE; rw [← hE] at tE; clear hE tD vfell vrose va vb vc vp vq vs vo vr)
    | (go_at_call 14; have h9 := tE; clear h9; refine (kept_any w.heap.size gy _ cy len1 _ a1 z1 _ ?_ ?_ ?_).mono ?_; omega; (with_reducible exact HW1.out.below tE.bel); (with_reducible exact tE.ky HF.out.nz1); rintro e uF ⟨rfl, kF, hF⟩; have tF := tE.drewN kF; rw [← hF] at tF; clear hF tE)
    | (go_at_call 14; have h9 := tF; clear h9; refine (kept_any w.heap.size gz _ cz len2 _ a2 z2 _ ?_ ?_ ?_).mono ?_; omega; (with_reducible exact HW2.out.below tF.bel); (with_reducible exact tF.kz HF.out.nz2); rintro e uG ⟨rfl, kG, hG⟩; have tG := tF.drewN kG; rw [← hG] at tG; clear hG tF)
    | (go_at_call 21; have h9 := tG; clear h9; refine (changed_any w.heap.size gx len0 (z0.length + 3) cx z0 [161, 178, 195] _ ?_ ?_ ?_ ?_).mono ?_; omega; exact HF.out.nz0; exact HF.out.rz0; (with_reducible exact tG.ox); rintro e uH ⟨rfl, oH, gH⟩; rw [HF.out.m0] at oH; have tH := tG.setx gH (HF.out.ny0.trans HF.out.nz0.symm) oH; clear tG oH gH)
    | (go_at_call 21; have h9 := tH; clear h9; refine (changed_any w.heap.size gy len1 (z1.length + 3) cy z1 [161, 178, 195] _ ?_ ?_ ?_ ?_).mono ?_; omega; exact HF.out.nz1; exact HF.out.rz1; (with_reducible exact tH.oy); rintro e uI ⟨rfl, oI, gI⟩; rw [HF.out.m1] at oI; have tI := tH.sety gI (HF.out.ny1.trans HF.out.nz1.symm) oI; clear tH oI gI)
    | (go_at_call 21; have h9 := tI; clear h9; refine (changed_any w.heap.size gz len2 (z2.length + 3) cz z2 [161, 178, 195] _ ?_ ?_ ?_ ?_).mono ?_; omega; exact HF.out.nz2; exact HF.out.rz2; (with_reducible exact tI.oz); rintro e uJ ⟨rfl, oJ, gJ⟩; rw [HF.out.m2] at oJ; have tJ := tI.setz gJ (HF.out.ny2.trans HF.out.nz2.symm) oJ; have vfell := tJ.str (a := af) (c := cf) (xs := F0) (by simp) HF.out.nF0 HF.out.rF0; have vrose := tJ.str (a := (some ⟨gr, 0, none⟩)) (c := cr) (xs := R0) (by simp) HF.out.nR0 HF.out.rR0; have va := tJ.str (a := aA) (c := cA) (xs := F0) (by simp) HF.out.nF0 HF.out.rF0; have vp := tJ.str (a := (some ⟨gP, 0, none⟩)) (c := cP) (xs := R0) (by simp) HF.out.nR0 HF.out.rR0; have cun := apart_any (uJ.alloc (.cells #[.slice aA N cA, .slice aB N cB, .slice (some ⟨gO, 0, none⟩) 2 cO, .slice aC N cC, .slice (some ⟨gP, 0, none⟩) len0 cP, .slice (some ⟨gQ, 0, none⟩) len0 cQ, .slice (some ⟨gR, 0, none⟩) 2 cR, .slice (some ⟨gS, 0, none⟩) len0 cS] 22)) u3.heap.size uJ.heap.size 8 8 _ _ _ (rows_at tJ.lv [7, 5, 3, 1, 6, 4, 2, 0] (by decide) (by simp) [(.slice aA N cA, F0), (.slice aB N cB, F0), (.slice (some ⟨gO, 0, none⟩) 2 cO, [254, 15]), (.slice aC N cC, F0), (.slice (some ⟨gP, 0, none⟩) len0 cP, R0), (.slice (some ⟨gQ, 0, none⟩) len0 cQ, R0), (.slice (some ⟨gR, 0, none⟩) 2 cR, [3, 129]), (.slice (some ⟨gS, 0, none⟩) len0 cS, R0)] rfl (by have e1 := HF.out.nF0; have e2 := HF.out.nR0; simp only [List.mem_cons, List.not_mem_nil, or_false]; rintro p (rfl | rfl | rfl | rfl | rfl | rfl | rfl | rfl) <;> simp only [e1, e2, List.length_cons, List.length_nil] <;> omega) 8 rfl _ rfl) (by omega) (by have := tJ.hB; simp; omega); have HUN : Hid _ := cun; clear cun tI oJ gJ)
    | (go_at_call 22; have h9 := HUN; clear h9; refine Calls.mono HUN.out ?_; rintro e uK ⟨rfl, bK⟩; have tK := (tJ.below ((Below.refl uJ.heap.size uJ).alloc (Nat.le_refl _) _)).under bK tJ.base; have qK := (tK.rx HF.out.ny0 HF.out.ry0).below ((Below.refl uK.heap.size uK).alloc (Nat.le_refl _) (.cells #[] 5)); clear HUN tJ bK vfell vrose va vp)
    | (at_builtin; have h9 := qK; clear h9; refine wpList_append_reads rfl (.tmp 212) (.tmp 213) rfl uK.heap.size _ _ [] rfl (made0 uK) _ _ _ y0 rfl qK (by omega) (by simp) ?_; intro vL wL hownL hgrowL; simp only [Nat.zero_add, List.nil_append] at hownL; obtain ⟨aL, cL, hvL, rL⟩ := own_any hownL HF.out.ry0; subst hvL; have bL : Below uK.heap.size uK wL := (((Below.refl _ _).alloc (Nat.le_refl _) _).grown hgrowL (by simp) (fun k hk => ((made0 uK).lt k hk).1)); have tL := tK.below bL; have qL := (tL.ry HF.out.ny1 HF.out.ry1).below ((Below.refl wL.heap.size wL).alloc (Nat.le_refl _) (.cells #[] 5)); clear tK; clear qK hownL hgrowL bL)
    | (at_builtin; have h9 := qL; clear h9; refine wpList_append_reads rfl (.tmp 215) (.tmp 216) rfl wL.heap.size _ _ [] rfl (made0 wL) _ _ _ y1 rfl qL (by omega) (by simp) ?_; intro vM wM hownM hgrowM; simp only [Nat.zero_add, List.nil_append] at hownM; obtain ⟨aM, cM, hvM, rM⟩ := own_any hownM HF.out.ry1; subst hvM; have bM : Below wL.heap.size wL wM := (((Below.refl _ _).alloc (Nat.le_refl _) _).grown hgrowM (by simp) (fun k hk => ((made0 wL).lt k hk).1)); have tM := tL.below bM; have rL2 := rL.below bM; have qM := (tM.rz HF.out.ny2 HF.out.ry2).below ((Below.refl wM.heap.size wM).alloc (Nat.le_refl _) (.cells #[] 5)); clear tL rL; clear qL hownM hgrowM bM)
    | (at_builtin; have h9 := qM; clear h9; refine wpList_append_reads rfl (.tmp 218) (.tmp 219) rfl wM.heap.size _ _ [] rfl (made0 wM) _ _ _ y2 rfl qM (by omega) (by simp) ?_; intro vN wN hownN hgrowN; simp only [Nat.zero_add, List.nil_append] at hownN; obtain ⟨aN, cN, hvN, rN⟩ := own_any hownN HF.out.ry2; subst hvN; have bN : Below wM.heap.size wM wN := (((Below.refl _ _).alloc (Nat.le_refl _) _).grown hgrowN (by simp) (fun k hk => ((made0 wM).lt k hk).1)); have tN := tM.below bN; have rL3 := rL2.below bN; have rM3 := rM.below bN; clear tM rL2 rM; clear qM hownN hgrowN bN)
    | (go_at_call 23; have h9 := rN; clear h9; refine (HF.out.d23 _ _ _ _ _ _ _ ?_ ?_ ?_).mono ?_; (with_reducible exact rL3); (with_reducible exact rM3); (with_reducible exact rN); rintro e uO ⟨aF, cF, rfl, oO, bO⟩; have tO := tN.add bO HF.out.nF1 oO; have qO := tO.rx HF.out.ny0 HF.out.ry0; have pO := tO.ry HF.out.ny1 HF.out.ry1; have kO := tO.rz HF.out.ny2 HF.out.ry2; clear tN rL3 rM3 rN oO bO)
    | (go_at_call 7; have h9 := qO; clear h9; refine (HF.out.d7 _ _ _ _ _ _ _ ?_ ?_ ?_).mono ?_; (with_reducible exact qO); (with_reducible exact pO); (with_reducible exact kO); rintro e uP ⟨aP, cPP, rfl, oP, bP⟩; have tP := tO.add bP HF.out.nF1 oP; have v1 := tP.str (a := aF) (c := cF) (xs := F1) (by simp) HF.out.nF1 HF.out.rF1; have v2 := tP.str (a := aP) (c := cPP) (xs := F1) (by simp) HF.out.nF1 HF.out.rF1; clear tO qO pO kO oP bP))
  go_ret
  exact ⟨rfl, tP.bel⟩
end Go.Proofs.Ytkcpfcnpniblcab.wordsFalls
