/-
  SEAT Ytkcpfcnpniblcaa: WordsJoins: the walk.
-/
import Derived.Test.YtkcpfcnpniblcaaJn
namespace Go.Proofs.Ytkcpfcnpniblcaa
open Go.RowKit
set_option linter.unusedVariables false

theorem str_append (a b : List Int) : strOfNums a ++ strOfNums b = strOfNums (a ++ b) := by
  refine bytes_ext ?_
  rw [ByteArray.data_append, Array.toList_append, strOfNums_data, strOfNums_data, strOfNums_data, List.map_append]

theorem own_form' {w : World} {B n : Nat} {v : Value} {xs : List Value} (h : w.ownsRow B 5 1 v n xs) : ∃ a c, v = .slice a n c := own_form h

theorem join3 (u : World) (a0 a1 a2 : Option Addr) (l0 l1 l2 c0 c1 c2 : Nat) (z0 z1 z2 : List Int) (hl : l0 + l1 + l2 ≤ 100000000) (r0 : Reads u a0 l0 z0) (r1 : Reads u a1 l1 z1) (r2 : Reads u a2 l2 z2) :
    Calls Try.prog 8 #[.slice (some ⟨u.heap.size, 0, none⟩) 3 3] (u.alloc (.cells #[.slice a0 l0 c0, .slice a1 l1 c1, .slice a2 l2 c2] 22)) fun e w' => ∃ a c, e = .returned (.slice a (l0 + l1 + l2) c) ∧ w'.ownsRow u.heap.size 5 1 (.slice a (l0 + l1 + l2) c) (l0 + l1 + l2) ((z0 ++ z1 ++ z2).map (Value.int .u8)) ∧ Below u.heap.size u w' := by
  have bA := (Below.refl u.heap.size u).alloc (Nat.le_refl _) (.cells #[.slice a0 l0 c0, .slice a1 l1 c1, .slice a2 l2 c2] 22)
  refine (join_parts (some ⟨u.heap.size, 0, none⟩) 3 3 (fun i => if i = 0 then a0 else if i = 1 then a1 else a2) (fun i => if i = 0 then l0 else if i = 1 then l1 else l2) (fun i => if i = 0 then c0 else if i = 1 then c1 else c2) (fun i => if i = 0 then z0 else if i = 1 then z1 else z2) _ (by omega) (by simp [sumL]; omega) ⟨fun i hi => ⟨u.heap.size, rfl, by simp, ?_⟩, fun i hi => ?_⟩).mono fun e w' ⟨v, he, ho, hb⟩ => ?_
  · rcases (show i = 0 ∨ i = 1 ∨ i = 2 by omega) with rfl | rfl | rfl <;> simp
  · rcases (show i = 0 ∨ i = 1 ∨ i = 2 by omega) with rfl | rfl | rfl
    · exact r0.below bA
    · exact r1.below bA
    · exact r2.below bA
  · simp [sumL, catL] at ho
    obtain ⟨a, c, rfl⟩ := own_form ho
    exact ⟨a, c, he, by simpa using own_base ho (by simp), bA.trans (hb.mono bA.size)⟩

theorem join1 (u : World) (a0 : Option Addr) (l0 c0 : Nat) (z0 : List Int) (hl : l0 ≤ 100000000) (r0 : Reads u a0 l0 z0) :
    Calls Try.prog 8 #[.slice (some ⟨u.heap.size, 0, none⟩) 1 1] (u.alloc (.cells #[.slice a0 l0 c0] 22)) fun e w' => ∃ a c, e = .returned (.slice a l0 c) ∧ w'.ownsRow u.heap.size 5 1 (.slice a l0 c) l0 (z0.map (Value.int .u8)) ∧ Below u.heap.size u w' := by
  have bA := (Below.refl u.heap.size u).alloc (Nat.le_refl _) (.cells #[.slice a0 l0 c0] 22)
  refine (join_parts (some ⟨u.heap.size, 0, none⟩) 1 1 (fun _ => a0) (fun _ => l0) (fun _ => c0) (fun _ => z0) _ (by omega) (by simp [sumL]; omega) ⟨fun i hi => ⟨u.heap.size, rfl, by simp, ?_⟩, fun i hi => r0.below bA⟩).mono fun e w' ⟨v, he, ho, hb⟩ => ?_
  · obtain rfl : i = 0 := by omega
    simp
  · simp [sumL, catL] at ho
    obtain ⟨a, c, rfl⟩ := own_form ho
    exact ⟨a, c, he, own_base ho (by simp), bA.trans (hb.mono bA.size)⟩

theorem join0 (u : World) : Calls Try.prog 8 #[.slice none 0 0] u fun e w' => ∃ a c, e = .returned (.slice a 0 c) ∧ w'.ownsRow u.heap.size 5 1 (.slice a 0 c) 0 (([] : List Int).map (Value.int .u8)) ∧ Below u.heap.size u w' := by
  refine (join_parts none 0 0 (fun _ => none) (fun _ => 0) (fun _ => 0) (fun _ => []) u (by omega) (by simp [sumL]) ⟨fun i hi => by omega, fun i hi => by omega⟩).mono fun e w' ⟨v, he, ho, hb⟩ => ?_
  simp [sumL, catL] at ho
  obtain ⟨a, c, rfl⟩ := own_form ho
  exact ⟨a, c, he, ho, hb⟩

theorem join_lit (u : World) : Calls Try.prog 8 #[.slice (some ⟨u.heap.size + 1, 0, none⟩) 1 1] ((u.alloc (.cells #[.int .u8 7, .int .u8 8] 5)).alloc (.cells #[.slice (some ⟨u.heap.size, 0, none⟩) 2 2] 22))
    fun e w' => ∃ a c, e = .returned (.slice a 2 c) ∧ w'.ownsRow u.heap.size 5 1 (.slice a 2 c) 2 (([7, 8] : List Int).map (Value.int .u8)) ∧ Below u.heap.size u w' := by
  have b1 := (Below.refl u.heap.size u).alloc (Nat.le_refl _) (.cells #[.int .u8 7, .int .u8 8] 5)
  have r1 := lit2 u 7 8 (by decide) (by decide)
  have h := join1 (u.alloc (.cells #[.int .u8 7, .int .u8 8] 5)) _ 2 2 _ (by omega) r1
  have e1 : (u.alloc (.cells #[.int .u8 7, .int .u8 8] 5)).heap.size = u.heap.size + 1 := by simp
  rw [e1] at h
  exact h.mono fun e w' ⟨a, c, he, ho, hb⟩ => ⟨a, c, he, own_base ho (by omega), b1.trans (hb.mono (by omega))⟩

theorem s78 : strOfNums [7, 8] = ⟨#[7, 8]⟩ := by decide +kernel

/-- All that is known of the bytes. -/
structure Fx (z0 z1 z2 y0 y1 y2 J : List Int) (l0 l1 l2 N : Nat) (S : ByteArray) : Prop where
  nz0 : z0.length = l0
  rz0 : ∀ x ∈ z0, 0 ≤ x ∧ x ≤ 255
  nz1 : z1.length = l1
  rz1 : ∀ x ∈ z1, 0 ≤ x ∧ x ≤ 255
  nz2 : z2.length = l2
  rz2 : ∀ x ∈ z2, 0 ≤ x ∧ x ≤ 255
  ny0 : y0.length = l0
  ry0 : ∀ x ∈ y0, 0 ≤ x ∧ x ≤ 255
  ny1 : y1.length = l1
  ry1 : ∀ x ∈ y1, 0 ≤ x ∧ x ≤ 255
  ny2 : y2.length = l2
  ry2 : ∀ x ∈ y2, 0 ≤ x ∧ x ≤ 255
  nJ : J.length = N
  rJ : ∀ x ∈ J, 0 ≤ x ∧ x ≤ 255
  m0 : z0.map (fun z => bits .xor .u8 z 90) = y0
  m1 : z1.map (fun z => bits .xor .u8 z 90) = y1
  m2 : z2.map (fun z => bits .xor .u8 z 90) = y2
  j : z0 ++ z1 ++ z2 = J
  s : strOfNums J = S
  k : l0 + l1 + l2 = N

theorem map_range {z : List Int} (h : ∀ x ∈ z, 0 ≤ x ∧ x ≤ 255) : ∀ x ∈ z.map (fun z => bits .xor .u8 z 90), 0 ≤ x ∧ x ≤ 255 := by
  intro x hx
  obtain ⟨y, hy, rfl⟩ := List.mem_map.1 hx
  exact xor_range y (h y hy).1 (h y hy).2

set_option maxHeartbeats 2000000 in
set_option maxRecDepth 100000 in
theorem joinsW (a0 : Option Addr) (len0 cap0 : Nat) (z0 : List Int) (a1 : Option Addr) (len1 cap1 : Nat) (z1 : List Int) (a2 : Option Addr) (len2 cap2 : Nat) (z2 y0 y1 y2 J : List Int) (N : Nat) (S : ByteArray) (w : World) (w0 : Reads w a0 len0 z0) (s0 : len0 ≤ 1048576) (w1 : Reads w a1 len1 z1) (s1 : len1 ≤ 1048576) (w2 : Reads w a2 len2 z2) (s2 : len2 ≤ 1048576)
    (hfx : Fx z0 z1 z2 y0 y1 y2 J len0 len1 len2 N S) (hN : N ≤ 4000000) :
    Calls Try.prog 3 #[.slice a0 len0 cap0, .slice a1 len1 cap1, .slice a2 len2 cap2] w fun e w' => e = .returned (.bool true) ∧ Below w.heap.size w w' := by
  have HF : Hid (Fx z0 z1 z2 y0 y1 y2 J len0 len1 len2 N S) := hfx
  have HW0 : Hid (Reads w a0 len0 z0) := w0
  have HW1 : Hid (Reads w a1 len1 z1) := w1
  have HW2 : Hid (Reads w a2 len2 z2) := w2
  obtain ⟨S0, hS0⟩ : ∃ S0, strOfNums z0 = S0 := ⟨_, rfl⟩
  obtain ⟨S1, hS1⟩ : ∃ S1, strOfNums z1 = S1 := ⟨_, rfl⟩
  obtain ⟨S2, hS2⟩ : ∃ S2, strOfNums z2 = S2 := ⟨_, rfl⟩
  have HS0 : Hid (strOfNums z0 = S0) := hS0
  have HS1 : Hid (strOfNums z1 = S1) := hS1
  have HS2 : Hid (strOfNums z2 = S2) := hS2
  have g0 : S0.size = len0 := by rw [← hS0, strOfNums_size]; exact w0.1
  have g1 : S1.size = len1 := by rw [← hS1, strOfNums_size]; exact w1.1
  have g2 : S2.size = len2 := by rw [← hS2, strOfNums_size]; exact w2.1
  have g3 : (S0 ++ S1).size = len0 + len1 := by rw [ByteArray.size_append, g0, g1]
  have g4 : ¬ 9223372036854775807 < len0 + len1 := by omega
  have g5 : ¬ 9223372036854775807 < len0 + len1 + len2 := by omega
  have hS : S0 ++ S1 ++ S2 = S := by rw [← hS0, ← hS1, ← hS2, str_append, str_append, hfx.j, hfx.s]
  have q0 : Hid True := trivial
  clear hfx w0 w1 w2 hS0 hS1 hS2
  go_enter Try.func3, Try.ntmps3
  go_wp2_with (first
    | (go_at_call 7; have h9 := q0; clear h9; refine (marked_any _ _ _ z0 _ ?_ ?_).mono ?_; (with_reducible exact HW0.out); omega; rintro e u1 ⟨gx, cx, rfl, o1, b1⟩; rw [← HF.out.nz0] at o1; have q1 := HW1.out.below b1; clear q0)
    | (go_at_call 7; have h9 := q1; clear h9; refine (marked_any _ _ _ z1 _ ?_ ?_).mono ?_; (with_reducible exact q1); omega; rintro e u2 ⟨gy, cy, rfl, o2, b2⟩; rw [← HF.out.nz1] at o2; have q2 := (HW2.out.below b1).below b2; clear q1)
    | (go_at_call 7; have h9 := q2; clear h9; refine (marked_any _ _ _ z2 _ ?_ ?_).mono ?_; (with_reducible exact q2); omega; rintro e u3 ⟨gz, cz, rfl, o3, b3⟩; rw [← HF.out.nz2] at o3; have t3 := St.start o1 b1 o2 b2 o3 b3; have va := conv _ _ cap0 _ _ (HW0.out.below t3.bel); have vb := conv _ _ cap1 _ _ (HW1.out.below t3.bel); have vc := conv _ _ cap2 _ _ (HW2.out.below t3.bel); rw [HS0.out] at va; rw [HS1.out] at vb; rw [HS2.out] at vc; have rx3 := t3.rx HF.out.nz0 HF.out.rz0; have ry3 := t3.ry HF.out.nz1 HF.out.rz1; have rz3 := t3.rz HF.out.nz2 HF.out.rz2; clear q2 o1 b1 o2 b2 o3 b3)
    | (go_at_call 8; have h9 := rx3; have h8 := ry3; clear h9 h8; refine (join3 u3 _ _ _ _ _ _ _ _ _ z0 z1 z2 ?_ ?_ ?_ ?_).mono ?_; omega; (with_reducible exact rx3); (with_reducible exact ry3); (with_reducible exact rz3); rintro e u4 ⟨al, cl, rfl, o4, b4⟩; rw [HF.out.j, HF.out.k] at o4; rw [HF.out.k]; have t4 := t3.add b4 HF.out.nJ o4; have rx4 := t4.rx HF.out.nz0 HF.out.rz0; have ry4 := t4.ry HF.out.nz1 HF.out.rz1; have rz4 := t4.rz HF.out.nz2 HF.out.rz2; clear t3 rx3 ry3 rz3 va vb vc o4 b4)
    | (go_at_call 8; have h9 := rx4; have h8 := ry4; clear h9 h8; refine (join3 u4 _ _ _ _ _ _ _ _ _ z0 z1 z2 ?_ ?_ ?_ ?_).mono ?_; omega; (with_reducible exact rx4); (with_reducible exact ry4); (with_reducible exact rz4); rintro e u5 ⟨am, cm, rfl, o5, b5⟩; rw [HF.out.j, HF.out.k] at o5; rw [HF.out.k]; have t5 := t4.add b5 HF.out.nJ o5; clear t4 rx4 ry4 rz4 o5 b5)
    | (go_at_call 8; have h9 := t5; clear h9; refine (join_lit u5).mono ?_; rintro e u6 ⟨ao, co, rfl, o6, b6⟩; have t6 := t5.add b6 rfl o6; have rx6 := t6.rx HF.out.nz0 HF.out.rz0; have ry6 := t6.ry HF.out.nz1 HF.out.rz1; have rz6 := t6.rz HF.out.nz2 HF.out.rz2; clear t5 o6 b6)
    | (go_at_call 8; have h9 := rx6; have h8 := ry6; clear h9 h8; refine (join3 u6 _ _ _ _ _ _ _ _ _ z0 z1 z2 ?_ ?_ ?_ ?_).mono ?_; omega; (with_reducible exact rx6); (with_reducible exact ry6); (with_reducible exact rz6); rintro e u7 ⟨an, cn, rfl, o7, b7⟩; rw [HF.out.j, HF.out.k] at o7; rw [HF.out.k]; have t7 := t6.add b7 HF.out.nJ o7; have rx7 := t7.rx HF.out.nz0 HF.out.rz0; clear t6 rx6 ry6 rz6 o7 b7)
    | (go_at_call 8; have h9 := rx7; clear h9; refine (join1 u7 _ _ _ z0 ?_ ?_).mono ?_; omega; (with_reducible exact rx7); rintro e u8 ⟨ak, ck, rfl, o8, b8⟩; have t8 := t7.add b8 HF.out.nz0 o8; clear t7 rx7 o8 b8)
    | (go_at_call 8; have h9 := t8; clear h9; refine (join0 u8).mono ?_; rintro e u9 ⟨ae, ce, rfl, o9, b9⟩; have t9 := t8.add b9 rfl o9; have vl := t9.str (a := al) (c := cl) (xs := J) (by simp) HF.out.nJ HF.out.rJ; have vm := t9.str (a := am) (c := cm) (xs := J) (by simp) HF.out.nJ HF.out.rJ; have vn := t9.str (a := an) (c := cn) (xs := J) (by simp) HF.out.nJ HF.out.rJ; have vk := t9.str (a := ak) (c := ck) (xs := z0) (by simp) HF.out.nz0 HF.out.rz0; have vo := t9.str (a := ao) (c := co) (xs := [7, 8]) (n := 2) (by simp) rfl (by decide); have va := conv _ _ cap0 _ _ (HW0.out.below t9.bel); rw [HF.out.s] at vl vm vn; rw [HS0.out] at vk va; rw [s78] at vo; clear t8 o9 b9)
    | (go_at_call 9; have h9 := t9; clear h9; refine (kept_any w.heap.size gx _ cx len0 _ a0 z0 _ ?_ ?_ ?_).mono ?_; omega; (with_reducible exact HW0.out.below t9.bel); (with_reducible exact t9.kx HF.out.nz0); rintro e uE ⟨rfl, kE, hE⟩; have tE := t9.drewN kE; rw [← hE] at tE; clear hE t9 vl vm vn vk vo va)
    | (go_at_call 9; have h9 := tE; clear h9; refine (kept_any w.heap.size gy _ cy len1 _ a1 z1 _ ?_ ?_ ?_).mono ?_; omega; (with_reducible exact HW1.out.below tE.bel); (with_reducible exact tE.ky HF.out.nz1); rintro e uF ⟨rfl, kF, hF⟩; have tF := tE.drewN kF; rw [← hF] at tF; clear hF tE)
    | (go_at_call 9; have h9 := tF; clear h9; refine (kept_any w.heap.size gz _ cz len2 _ a2 z2 _ ?_ ?_ ?_).mono ?_; omega; (with_reducible exact HW2.out.below tF.bel); (with_reducible exact tF.kz HF.out.nz2); rintro e uG ⟨rfl, kG, hG⟩; have tG := tF.drewN kG; rw [← hG] at tG; clear hG tF)
    | (go_at_call 10; have h9 := tG; clear h9; refine (changed_any w.heap.size gx len0 (z0.length + 3) cx z0 [161, 178, 195] _ ?_ ?_ ?_ ?_).mono ?_; omega; exact HF.out.nz0; exact HF.out.rz0; (with_reducible exact tG.ox); rintro e uH ⟨rfl, oH, gH⟩; rw [HF.out.m0] at oH; have tH := tG.setx gH (HF.out.ny0.trans HF.out.nz0.symm) oH; clear tG oH gH)
    | (go_at_call 10; have h9 := tH; clear h9; refine (changed_any w.heap.size gy len1 (z1.length + 3) cy z1 [161, 178, 195] _ ?_ ?_ ?_ ?_).mono ?_; omega; exact HF.out.nz1; exact HF.out.rz1; (with_reducible exact tH.oy); rintro e uI ⟨rfl, oI, gI⟩; rw [HF.out.m1] at oI; have tI := tH.sety gI (HF.out.ny1.trans HF.out.nz1.symm) oI; clear tH oI gI)
    | (go_at_call 10; have h9 := tI; clear h9; refine (changed_any w.heap.size gz len2 (z2.length + 3) cz z2 [161, 178, 195] _ ?_ ?_ ?_ ?_).mono ?_; omega; exact HF.out.nz2; exact HF.out.rz2; (with_reducible exact tI.oz); rintro e uJ ⟨rfl, oJ, gJ⟩; rw [HF.out.m2] at oJ; have tJ := tI.setz gJ (HF.out.ny2.trans HF.out.nz2.symm) oJ; have vl := tJ.str (a := al) (c := cl) (xs := J) (by simp) HF.out.nJ HF.out.rJ; have vk := tJ.str (a := ak) (c := ck) (xs := z0) (by simp) HF.out.nz0 HF.out.rz0; have va := conv _ _ cap0 _ _ (HW0.out.below tJ.bel); rw [HF.out.s] at vl; rw [HS0.out] at vk va; have cun := apart_any (uJ.alloc (.cells #[.slice al N cl, .slice am N cm, .slice ao 2 co, .slice an N cn, .slice ak len0 ck, .slice ae 0 ce] 22)) u3.heap.size uJ.heap.size 6 6 _ _ _ (rows_at tJ.lv [5, 4, 3, 2, 1, 0] (by decide) (by simp) [(.slice al N cl, J), (.slice am N cm, J), (.slice ao 2 co, [7, 8]), (.slice an N cn, J), (.slice ak len0 ck, z0), (.slice ae 0 ce, [])] rfl (by have e1 := HF.out.nJ; have e2 := HF.out.nz0; simp only [List.mem_cons, List.not_mem_nil, or_false]; rintro p (rfl | rfl | rfl | rfl | rfl | rfl) <;> simp only [e1, e2, List.length_cons, List.length_nil] <;> omega) 6 rfl _ rfl) (by omega) (by have := tJ.hB; simp; omega); have HUN : Hid _ := cun; clear cun tI oJ gJ)
    | (go_at_call 11; have h9 := HUN; clear h9; refine Calls.mono HUN.out ?_; rintro e uK ⟨rfl, bK⟩; have tK := (tJ.below ((Below.refl uJ.heap.size uJ).alloc (Nat.le_refl _) _)).under bK tJ.base; clear HUN tJ bK vl vk va))
  go_ret
  exact ⟨rfl, tK.bel⟩

theorem joinsWalk (a0 : Option Addr) (len0 cap0 : Nat) (z0 : List Int) (a1 : Option Addr) (len1 cap1 : Nat) (z1 : List Int) (a2 : Option Addr) (len2 cap2 : Nat) (z2 : List Int) (w : World) (w0 : Reads w a0 len0 z0) (s0 : len0 ≤ 1048576) (w1 : Reads w a1 len1 z1) (s1 : len1 ≤ 1048576) (w2 : Reads w a2 len2 z2) (s2 : len2 ≤ 1048576) :
    Calls Try.prog 3 #[.slice a0 len0 cap0, .slice a1 len1 cap1, .slice a2 len2 cap2] w fun e w' => e = .returned (.bool true) ∧ Below w.heap.size w w' := by
  have h0 := w0.1
  have h1 := w1.1
  have h2 := w2.1
  refine joinsW a0 len0 cap0 z0 a1 len1 cap1 z1 a2 len2 cap2 z2 _ _ _ (z0 ++ z1 ++ z2) (len0 + len1 + len2) _ w w0 s0 w1 s1 w2 s2 ⟨h0, w0.2.1, h1, w1.2.1, h2, w2.2.1, by simp [h0], map_range w0.2.1, by simp [h1], map_range w1.2.1, by simp [h2], map_range w2.2.1, by simp [h0, h1, h2, Nat.add_assoc], ?_, rfl, rfl, rfl, rfl, rfl, rfl⟩ (by omega)
  intro x hx
  rcases List.mem_append.1 hx with hx | hx
  · rcases List.mem_append.1 hx with hx | hx
    · exact w0.2.1 x hx
    · exact w1.2.1 x hx
  · exact w2.2.1 x hx
end Go.Proofs.Ytkcpfcnpniblcaa
