/-
  SEAT YtmbdacdgbmpedabDoor: PathThere's walk.
-/
import Derived.Test.YtmbdacdgbmpedabDoorTh
namespace Go.Proofs.YtmbdacdgbmpedabDoor
open Go.RowKit
set_option linter.unusedVariables false


theorem ow_len {w : World} {B c : Nat} {a : Option Addr} {M : List ByteArray} {x : ByteArray} (h : Ow w B (.slice a (M ++ [x]).length c) (M ++ [x])) : Ow w B (.slice a (M.length + 1) c) (M ++ [x]) := by simpa using h
theorem ow_more {w : World} {B : Nat} {v : Value} {M : List ByteArray} {x : ByteArray} (h : w.ownsRow B 9 1 v (M.length + 1) (M.map Value.string ++ [.string x])) : Ow w B v (M ++ [x]) := by
  show World.ownsRow _ _ _ _ _ _ _
  simpa using h

set_option maxHeartbeats 4000000 in
set_option maxRecDepth 100000 in
theorem there_tn (a0 : Option Addr) (c0 : Nat) (xs : List ByteArray) (s : ByteArray) (w : World) (h0 : Vw w (.slice a0 xs.length c0) xs) (b0 : ∀ x ∈ xs, x.size ≤ 9223372036854775807) (hs : s.size ≤ 9223372036854775807) (hj : joE xs = 0) (he : spE s ≠ 0) :
    Calls Tryd.prog 3 #[.slice a0 xs.length c0, .string s] w fun e w' => e = .returned (.bool true) ∧ Below w.heap.size w w' := by
  have H0 : Hid (Vw w (.slice a0 xs.length c0) xs) := h0
  have BD0 : Hid (∀ x ∈ xs, x.size ≤ 9223372036854775807) := b0
  clear h0 b0
  obtain ⟨jb1, jb2, jb3⟩ := join_back hj
  obtain ⟨P, gJ⟩ : ∃ P, joS xs = P := ⟨_, rfl⟩
  have gE := hj
  have hP : tg xs = P := by rw [← jb1]; exact gJ
  have hPE : spE P = 0 := by rw [← hP]; exact jb2
  have hPN : spN P = xs := by rw [← hP]; exact jb3
  have hPs : P.size ≤ 9223372036854775807 := by have := (sp_facts hPE).2.2.1; omega
  obtain ⟨p0, p1⟩ := beg_byte (sp_facts hPE).1
  have p2 : ¬ (P.size : Int) < 1 := by omega
  have p3 : decide ((P.size : Int) < 1) = false := decide_eq_false (by omega)
  clear jb1 jb2 jb3 hP
  have T2 : Hid True := trivial
  have T3 : Hid True := trivial
  have T4 : Hid True := trivial
  have T5 : Hid True := trivial
  have gC : clS s = ⟨#[]⟩ := by simp [clS, he]
  have gL : spN s = [] := by simp [spN, he]
  obtain ⟨F, gS⟩ : ∃ F, spE s = F := ⟨_, rfl⟩
  rw [gS] at he
  have f0 : (F == 0) = false := by simpa using he
  go_enter Tryd.func3, Tryd.ntmps3
  go_wp2_with (first
    | (go_at_call 4; refine (join_any _ xs _ H0.out BD0.out).mono ?_; rintro e u1 ⟨rfl, bel⟩; rw [gJ, gE]; have B1 : Hid (Below w.heap.size w u1) := bel; have C1 : Hid (Below w.heap.size w u1) := bel; clear bel)
    | (go_at_call 5; have h9 := T2; clear h9; refine (psplit_any P _ hPs).mono ?_; rintro e u2 ⟨v2, rfl, ow, bel⟩; rw [hPE]; rw [hPN] at ow; have O2 : Hid (Ow u2 u1.heap.size v2 xs) := ow; have C2 : Hid (Below w.heap.size w u2) := C1.out.trans (bel.mono C1.out.size); clear ow bel T2)
    | (go_at_call 6; have h9 := T3; clear h9; refine (same_eq _ _ xs _ O2.out.vw (H0.out.below C2.out)).mono ?_; rintro e u3 ⟨rfl, bel⟩; have C3 : Hid (Below w.heap.size w u3) := C2.out.trans (bel.mono C2.out.size); clear bel T3 O2)
    | (go_at_call 7; have h9 := T4; clear h9; refine (clean_any s _ hs).mono ?_; rintro e u4 ⟨rfl, bel⟩; rw [gC, gS]; have C4 : Hid (Below w.heap.size w u4) := C3.out.trans (bel.mono C3.out.size); clear bel T4)
    | (go_at_call 5; have h9 := T5; clear h9; refine (psplit_any s _ hs).mono ?_; rintro e u5 ⟨v5, rfl, ow, bel⟩; rw [gS]; rw [gL] at ow; have C5 : Hid (Below w.heap.size w u5) := C4.out.trans (bel.mono C4.out.size); obtain ⟨a5, c5, rfl, _⟩ := ow.rd; clear ow; simp only [List.length_nil]; clear bel T5))
  go_ret
  exact ⟨rfl, C5.out⟩

set_option maxHeartbeats 4000000 in
set_option maxRecDepth 100000 in
theorem there_to (a0 : Option Addr) (c0 : Nat) (xs : List ByteArray) (s : ByteArray) (w : World) (h0 : Vw w (.slice a0 xs.length c0) xs) (b0 : ∀ x ∈ xs, x.size ≤ 9223372036854775807) (hs : s.size ≤ 9223372036854775807) (hj : joE xs = 0) (gS : spE s = 0) :
    Calls Tryd.prog 3 #[.slice a0 xs.length c0, .string s] w fun e w' => e = .returned (.bool true) ∧ Below w.heap.size w w' := by
  obtain ⟨i0, hi, hz0, hz1, hz2⟩ := info_parts info9
  have H0 : Hid (Vw w (.slice a0 xs.length c0) xs) := h0
  have BD0 : Hid (∀ x ∈ xs, x.size ≤ 9223372036854775807) := b0
  clear h0 b0
  obtain ⟨jb1, jb2, jb3⟩ := join_back hj
  obtain ⟨P, gJ⟩ : ∃ P, joS xs = P := ⟨_, rfl⟩
  have gE := hj
  have hP : tg xs = P := by rw [← jb1]; exact gJ
  have hPE : spE P = 0 := by rw [← hP]; exact jb2
  have hPN : spN P = xs := by rw [← hP]; exact jb3
  have hPs : P.size ≤ 9223372036854775807 := by have := (sp_facts hPE).2.2.1; omega
  obtain ⟨p0, p1⟩ := beg_byte (sp_facts hPE).1
  have p2 : ¬ (P.size : Int) < 1 := by omega
  have p3 : decide ((P.size : Int) < 1) = false := decide_eq_false (by omega)
  clear jb1 jb2 jb3 hP
  have T2 : Hid True := trivial
  have T3 : Hid True := trivial
  have T4 : Hid True := trivial
  have T5 : Hid True := trivial
  have T8 : Hid True := trivial
  obtain ⟨k1, k2, k3, k4⟩ := clean_back gS
  obtain ⟨L0, gL⟩ : ∃ L0, spN s = L0 := ⟨_, rfl⟩
  obtain ⟨N, gN⟩ : ∃ N, trim L0 = N := ⟨_, rfl⟩
  have hN' : clN s = N := by rw [← gN, ← gL]; rfl
  rw [hN'] at k1 k2 k3 k4
  obtain ⟨C, hC⟩ : ∃ C, tg N = C := ⟨_, rfl⟩
  rw [hC] at k1 k2 k3 k4
  have gC := k1
  have hCE := k2
  have hCN := k3
  have hCC := k4
  have hCs : C.size ≤ 9223372036854775807 := by have := (sp_facts hCE).2.2.1; omega
  clear k1 k2 k3 k4 hN' hC
  go_enter Tryd.func3, Tryd.ntmps3
  go_wp2_with (first
    | (go_at_call 4; refine (join_any _ xs _ H0.out BD0.out).mono ?_; rintro e u1 ⟨rfl, bel⟩; rw [gJ, gE]; have B1 : Hid (Below w.heap.size w u1) := bel; have C1 : Hid (Below w.heap.size w u1) := bel; clear bel)
    | (go_at_call 5; have h9 := T2; clear h9; refine (psplit_any P _ hPs).mono ?_; rintro e u2 ⟨v2, rfl, ow, bel⟩; rw [hPE]; rw [hPN] at ow; have O2 : Hid (Ow u2 u1.heap.size v2 xs) := ow; have C2 : Hid (Below w.heap.size w u2) := C1.out.trans (bel.mono C1.out.size); clear ow bel T2)
    | (go_at_call 6; have h9 := T3; clear h9; refine (same_eq _ _ xs _ O2.out.vw (H0.out.below C2.out)).mono ?_; rintro e u3 ⟨rfl, bel⟩; have C3 : Hid (Below w.heap.size w u3) := C2.out.trans (bel.mono C2.out.size); clear bel T3 O2)
    | (go_at_call 7; have h9 := T4; clear h9; refine (clean_any s _ hs).mono ?_; rintro e u4 ⟨rfl, bel⟩; rw [gC, gS]; have C4 : Hid (Below w.heap.size w u4) := C3.out.trans (bel.mono C3.out.size); clear bel T4)
    | (go_at_call 5; have h9 := T5; clear h9; refine (psplit_any s _ hs).mono ?_; rintro e u5 ⟨v5, rfl, ow, bel⟩; rw [gS]; rw [gL] at ow; have C5 : Hid (Below w.heap.size w u5) := C4.out.trans (bel.mono C4.out.size); have O5 : Hid (Vw u5 v5 L0) := ow.vw; clear ow; clear bel T5))
  go_loopw [10] (fun l wr => ∃ ys, Vw u5 l ys ∧ trim ys = N ∧ wr = u5) (fun l _ => lenV l)
  case atStart => exact ⟨L0, O5.out, gN, rfl⟩
  case round =>
    obtain ⟨ys, hv, htr, rfl⟩ := hrel
    obtain ⟨a, c, rfl, h1, h2, rd, hx⟩ := hv
    clear O5
    cases ys with
    | nil =>
      have hN0 : N = [] := htr.symm
      have HV : Hid (Vw wr (.slice a 0 c) N) := by rw [hN0]; exact ⟨a, c, rfl, h1, h2, rd, hx⟩
      have hN1 : N.length = 0 := by rw [hN0]; rfl
      rw [hN0] at hCN
      rcases pa_ways C with ⟨q0, _⟩ | ⟨_, q1, q2, q3, q4⟩ | ⟨_, M, x, q1, _⟩
      · exact absurd hCE q0
      · have hPE9 := q2
        have hPN9 := q3
        have hPL := q4
        subst hN0
        simp only [List.length_nil]
        clear rd hx htr q1 q2 q3 q4 hN1
        go_wp2_with (first
            | (go_at_call 7; refine (clean_any C _ hCs).mono ?_; rintro e u6 ⟨rfl, bel⟩; rw [hCC, hCE]; have C6 : Hid (Below w.heap.size w u6) := C5.out.trans (bel.mono C5.out.size); have D6 : Hid (Below wr.heap.size wr u6) := bel; clear bel)
            | (go_at_call 5; refine (psplit_any C _ hCs).mono ?_; rintro e u7 ⟨v7, rfl, ow, bel⟩; rw [hCE]; rw [hCN] at ow; have D7 : Hid (Below wr.heap.size wr u7) := D6.out.trans (bel.mono D6.out.size); have C7 : Hid (Below w.heap.size w u7) := C6.out.trans (bel.mono C6.out.size); obtain ⟨a7, c7, rfl, _⟩ := ow.rd; have O7 : Hid (Ow u7 u6.heap.size (.slice a7 ([] : List ByteArray).length c7) []) := ow; clear ow; clear bel)
            | (go_at_call 6; have h9 := T8; clear h9; refine (same_eq _ _ [] _ (HV.out.below D7.out) O7.out.vw).mono ?_; rintro e u8 ⟨rfl, bel⟩; have C8 : Hid (Below w.heap.size w u8) := C7.out.trans (bel.mono C7.out.size); have E8 : Hid (Below u7.heap.size u7 u8) := bel; skip; clear bel T8)
            | (go_at_call 8; refine (parent_any C _ hCs).mono ?_; rintro e u9 ⟨v9, rfl, ow, bel⟩; rw [hPL, hPE9]; rw [hPN9] at ow; clear ow; have C9 : Hid (Below w.heap.size w u9) := C8.out.trans (bel.mono C8.out.size); have E9 : Hid (Below u8.heap.size u8 u9) := bel; clear bel))
        go_ret
        exact ⟨rfl, C9.out⟩
      · rw [hCN] at q1; cases M <;> simp at q1
    | cons y r =>
      cases a with
      | none => have := rd.nil rfl; simp at this
      | some x0 =>
        obtain ⟨b, o, rfl⟩ := hx x0 rfl (by simp)
        have hc := rd.cell _ rfl 0 y rfl
        rw [add_zero, Nat.add_zero] at hc
        have HR : Hid (RdS wr (some ⟨b, o, none⟩) (r.length + 1) (y :: r)) := rd
        have HT : Hid (trim (y :: r) = N) := htr
        simp only [List.length_cons] at *
        clear rd htr hx
        cases hu : upB y with
        | true =>
          have hl : y.toList = [46, 46] := (up_list y).1 hu
          go_wp2
          refine ⟨⟨r, vw_tail HR.out h1 h2, by rw [← HT.out, trim_up hu], by simp⟩, by simp [lenV]⟩
        | false =>
          have hl : ¬ y.toList = [46, 46] := fun e => by rw [(up_list y).2 e] at hu; cases hu
          have hl2 : (y.toList == [46, 46]) = false := by simp [hl]
          have hN0 : N = y :: r := by rw [← HT.out, trim_no hu]
          have HV : Hid (Vw wr (.slice (some ⟨b, o, none⟩) (r.length + 1) c) N) := by
            rw [hN0]; exact ⟨_, _, rfl, h1, h2, HR.out, fun x hx _ => by cases hx; exact ⟨_, _, rfl⟩⟩
          have HN1 : Hid (N = y :: r) := hN0
          have HU : Hid (upB y = false) := hu
          clear hu HR hN0
          rcases pa_ways C with ⟨q0, _⟩ | ⟨_, q1, q2, q3, q4⟩ | ⟨_, M, x, q1, ⟨qu, q2, q3, q4⟩ | ⟨qu, q2, q3, q4⟩⟩
          · exact absurd hCE q0
          · rw [hCN, HN1.out] at q1; cases q1
          · have hNM : N = M ++ [x] := by rw [← hCN]; exact q1
            have hPE9 := q2
            have hPN9 := q3
            have hPL := q4
            have hlx : x.toList = [46, 46] := (up_list x).1 qu
            have hml : M.length ≤ 64 := par_len hCE q1
            clear q1 q2 q3 q4
            clear HT HN1
            subst hNM
            go_wp2_with (first
                | (go_at_call 7; refine (clean_any C _ hCs).mono ?_; rintro e u6 ⟨rfl, bel⟩; rw [hCC, hCE]; have C6 : Hid (Below w.heap.size w u6) := C5.out.trans (bel.mono C5.out.size); have D6 : Hid (Below wr.heap.size wr u6) := bel; clear bel)
                | (go_at_call 5; refine (psplit_any C _ hCs).mono ?_; rintro e u7 ⟨v7, rfl, ow, bel⟩; rw [hCE]; rw [hCN] at ow; have D7 : Hid (Below wr.heap.size wr u7) := D6.out.trans (bel.mono D6.out.size); have C7 : Hid (Below w.heap.size w u7) := C6.out.trans (bel.mono C6.out.size); obtain ⟨a7, c7, rfl, _⟩ := ow.rd; have O7 : Hid (Ow u7 u6.heap.size (.slice a7 (M.length + 1) c7) (M ++ [x])) := ow_len ow; try simp only [List.length_append, List.length_cons, List.length_nil, Nat.zero_add]; obtain ⟨g7, rfl, hc7, c73, c74⟩ := ow_last ow; clear ow; clear bel)
                | (go_at_call 6; have h9 := T8; clear h9; refine (same_eq _ _ (M ++ [x]) _ (HV.out.below D7.out) O7.out.vw).mono ?_; rintro e u8 ⟨rfl, bel⟩; have C8 : Hid (Below w.heap.size w u8) := C7.out.trans (bel.mono C7.out.size); have E8 : Hid (Below u7.heap.size u7 u8) := bel; have k8 := hc7; rw [← bel.cell (World.block_lt_of_cell? _ _ hc7)] at k8; clear bel T8)
                | (go_at_call 8; refine (parent_any C _ hCs).mono ?_; rintro e u9 ⟨v9, rfl, ow, bel⟩; rw [hPL, hPE9]; rw [hPN9] at ow; clear ow; have C9 : Hid (Below w.heap.size w u9) := C8.out.trans (bel.mono C8.out.size); have E9 : Hid (Below u8.heap.size u8 u9) := bel; have k9 := k8; rw [← bel.cell (World.block_lt_of_cell? _ _ k8)] at k9; clear bel))
            go_ret
            exact ⟨rfl, C9.out⟩
          · have hNM : N = M ++ [x] := by rw [← hCN]; exact q1
            have hPE9 := q2
            have hPN9 := q3
            have hPL := q4
            have hml : M.length ≤ 64 := par_len hCE q1
            have n1 : M.length + 1 ≤ maxLen := by simp [maxLen]; omega
            have n2 : (M.length + 1) * 16 ≤ 140737488355328 := by omega
            clear q1 q2 q3 q4
            clear HT HN1
            subst hNM
            go_wp2_with (first
                | (go_at_call 7; refine (clean_any C _ hCs).mono ?_; rintro e u6 ⟨rfl, bel⟩; rw [hCC, hCE]; have C6 : Hid (Below w.heap.size w u6) := C5.out.trans (bel.mono C5.out.size); have D6 : Hid (Below wr.heap.size wr u6) := bel; clear bel)
                | (go_at_call 5; refine (psplit_any C _ hCs).mono ?_; rintro e u7 ⟨v7, rfl, ow, bel⟩; rw [hCE]; rw [hCN] at ow; have D7 : Hid (Below wr.heap.size wr u7) := D6.out.trans (bel.mono D6.out.size); have C7 : Hid (Below w.heap.size w u7) := C6.out.trans (bel.mono C6.out.size); obtain ⟨a7, c7, rfl, _⟩ := ow.rd; have O7 : Hid (Ow u7 u6.heap.size (.slice a7 (M.length + 1) c7) (M ++ [x])) := ow_len ow; try simp only [List.length_append, List.length_cons, List.length_nil, Nat.zero_add]; clear ow; clear bel)
                | (go_at_call 6; have h9 := T8; clear h9; refine (same_eq _ _ (M ++ [x]) _ (HV.out.below D7.out) O7.out.vw).mono ?_; rintro e u8 ⟨rfl, bel⟩; have C8 : Hid (Below w.heap.size w u8) := C7.out.trans (bel.mono C7.out.size); have E8 : Hid (Below u7.heap.size u7 u8) := bel; skip; clear bel T8)
                | (go_at_call 8; refine (parent_any C _ hCs).mono ?_; rintro e u9 ⟨v9, rfl, ow, bel⟩; rw [hPL, hPE9]; rw [hPN9] at ow; obtain ⟨a9, c9, rfl, _⟩ := ow.rd; have O9 : Hid (Ow u9 u8.heap.size (.slice a9 M.length c9) M) := ow; clear ow; have C9 : Hid (Below w.heap.size w u9) := C8.out.trans (bel.mono C8.out.size); have E9 : Hid (Below u8.heap.size u8 u9) := bel; clear bel)
                | (at_builtin; refine wpList_append_own _ rfl (.tmp 130) (.tmp 132) 22 rfl u8.heap.size 9 i0 _ 1 16 Tryd.underlying22 hi hz0 hz1 hz2 rfl (by decide) _ _ _ rfl (World.ownsRow.alloc O9.out _) ⟨u9.heap.size, 0, none⟩ 1 1 [.string x] rfl rfl (World.news_of_block (heap_alloc_new u9 _)) (by simp [Value.oneCell']) n1 n2 (by have := E9.out.size; simp; omega) ?_; intro v10 w10 own10 grow10 _; have O10 : Hid (Ow w10 u8.heap.size v10 (M ++ [x])) := ow_more own10; have E10 : Hid (Below u8.heap.size u8 w10) := (E9.out.alloc E9.out.size _).grown grow10 (by have := E9.out.size; simp; omega) (fun q hq => (O9.out.at q hq).1); clear own10 grow10)
                | (go_at_call 6; refine (same_eq _ _ (M ++ [x]) _ O10.out.vw ((O7.out.below E8.out).below E10.out).vw).mono ?_; rintro e w11 ⟨rfl, bel⟩; have E11 : Hid (Below u8.heap.size u8 w11) := E10.out.trans (bel.mono E10.out.size); clear bel))
            go_ret
            exact ⟨rfl, C8.out.trans (E11.out.mono C8.out.size)⟩

set_option maxHeartbeats 4000000 in
set_option maxRecDepth 100000 in
theorem there_fn (a0 : Option Addr) (c0 : Nat) (xs : List ByteArray) (s : ByteArray) (w : World) (h0 : Vw w (.slice a0 xs.length c0) xs) (b0 : ∀ x ∈ xs, x.size ≤ 9223372036854775807) (hs : s.size ≤ 9223372036854775807) (hj : joE xs ≠ 0) (he : spE s ≠ 0) :
    Calls Tryd.prog 3 #[.slice a0 xs.length c0, .string s] w fun e w' => e = .returned (.bool true) ∧ Below w.heap.size w w' := by
  have H0 : Hid (Vw w (.slice a0 xs.length c0) xs) := h0
  have BD0 : Hid (∀ x ∈ xs, x.size ≤ 9223372036854775807) := b0
  clear h0 b0
  obtain ⟨P, gJ⟩ : ∃ P, joS xs = P := ⟨_, rfl⟩
  obtain ⟨E, gE⟩ : ∃ E, joE xs = E := ⟨_, rfl⟩
  rw [gE] at hj
  have e0 : (E == 0) = false := by simpa using hj
  have T4 : Hid True := trivial
  have T5 : Hid True := trivial
  have gC : clS s = ⟨#[]⟩ := by simp [clS, he]
  have gL : spN s = [] := by simp [spN, he]
  obtain ⟨F, gS⟩ : ∃ F, spE s = F := ⟨_, rfl⟩
  rw [gS] at he
  have f0 : (F == 0) = false := by simpa using he
  go_enter Tryd.func3, Tryd.ntmps3
  go_wp2_with (first
    | (go_at_call 4; refine (join_any _ xs _ H0.out BD0.out).mono ?_; rintro e u1 ⟨rfl, bel⟩; rw [gJ, gE]; have B1 : Hid (Below w.heap.size w u1) := bel; have C1 : Hid (Below w.heap.size w u1) := bel; clear bel)
    | (go_at_call 7; have h9 := T4; clear h9; refine (clean_any s _ hs).mono ?_; rintro e u4 ⟨rfl, bel⟩; rw [gC, gS]; have C4 : Hid (Below w.heap.size w u4) := C1.out.trans (bel.mono C1.out.size); clear bel T4)
    | (go_at_call 5; have h9 := T5; clear h9; refine (psplit_any s _ hs).mono ?_; rintro e u5 ⟨v5, rfl, ow, bel⟩; rw [gS]; rw [gL] at ow; have C5 : Hid (Below w.heap.size w u5) := C4.out.trans (bel.mono C4.out.size); obtain ⟨a5, c5, rfl, _⟩ := ow.rd; clear ow; simp only [List.length_nil]; clear bel T5))
  go_ret
  exact ⟨rfl, C5.out⟩

set_option maxHeartbeats 4000000 in
set_option maxRecDepth 100000 in
theorem there_fo (a0 : Option Addr) (c0 : Nat) (xs : List ByteArray) (s : ByteArray) (w : World) (h0 : Vw w (.slice a0 xs.length c0) xs) (b0 : ∀ x ∈ xs, x.size ≤ 9223372036854775807) (hs : s.size ≤ 9223372036854775807) (hj : joE xs ≠ 0) (gS : spE s = 0) :
    Calls Tryd.prog 3 #[.slice a0 xs.length c0, .string s] w fun e w' => e = .returned (.bool true) ∧ Below w.heap.size w w' := by
  obtain ⟨i0, hi, hz0, hz1, hz2⟩ := info_parts info9
  have H0 : Hid (Vw w (.slice a0 xs.length c0) xs) := h0
  have BD0 : Hid (∀ x ∈ xs, x.size ≤ 9223372036854775807) := b0
  clear h0 b0
  obtain ⟨P, gJ⟩ : ∃ P, joS xs = P := ⟨_, rfl⟩
  obtain ⟨E, gE⟩ : ∃ E, joE xs = E := ⟨_, rfl⟩
  rw [gE] at hj
  have e0 : (E == 0) = false := by simpa using hj
  have T4 : Hid True := trivial
  have T5 : Hid True := trivial
  have T8 : Hid True := trivial
  obtain ⟨k1, k2, k3, k4⟩ := clean_back gS
  obtain ⟨L0, gL⟩ : ∃ L0, spN s = L0 := ⟨_, rfl⟩
  obtain ⟨N, gN⟩ : ∃ N, trim L0 = N := ⟨_, rfl⟩
  have hN' : clN s = N := by rw [← gN, ← gL]; rfl
  rw [hN'] at k1 k2 k3 k4
  obtain ⟨C, hC⟩ : ∃ C, tg N = C := ⟨_, rfl⟩
  rw [hC] at k1 k2 k3 k4
  have gC := k1
  have hCE := k2
  have hCN := k3
  have hCC := k4
  have hCs : C.size ≤ 9223372036854775807 := by have := (sp_facts hCE).2.2.1; omega
  clear k1 k2 k3 k4 hN' hC
  go_enter Tryd.func3, Tryd.ntmps3
  go_wp2_with (first
    | (go_at_call 4; refine (join_any _ xs _ H0.out BD0.out).mono ?_; rintro e u1 ⟨rfl, bel⟩; rw [gJ, gE]; have B1 : Hid (Below w.heap.size w u1) := bel; have C1 : Hid (Below w.heap.size w u1) := bel; clear bel)
    | (go_at_call 7; have h9 := T4; clear h9; refine (clean_any s _ hs).mono ?_; rintro e u4 ⟨rfl, bel⟩; rw [gC, gS]; have C4 : Hid (Below w.heap.size w u4) := C1.out.trans (bel.mono C1.out.size); clear bel T4)
    | (go_at_call 5; have h9 := T5; clear h9; refine (psplit_any s _ hs).mono ?_; rintro e u5 ⟨v5, rfl, ow, bel⟩; rw [gS]; rw [gL] at ow; have C5 : Hid (Below w.heap.size w u5) := C4.out.trans (bel.mono C4.out.size); have O5 : Hid (Vw u5 v5 L0) := ow.vw; clear ow; clear bel T5))
  go_loopw [10] (fun l wr => ∃ ys, Vw u5 l ys ∧ trim ys = N ∧ wr = u5) (fun l _ => lenV l)
  case atStart => exact ⟨L0, O5.out, gN, rfl⟩
  case round =>
    obtain ⟨ys, hv, htr, rfl⟩ := hrel
    obtain ⟨a, c, rfl, h1, h2, rd, hx⟩ := hv
    clear O5
    cases ys with
    | nil =>
      have hN0 : N = [] := htr.symm
      have HV : Hid (Vw wr (.slice a 0 c) N) := by rw [hN0]; exact ⟨a, c, rfl, h1, h2, rd, hx⟩
      have hN1 : N.length = 0 := by rw [hN0]; rfl
      rw [hN0] at hCN
      rcases pa_ways C with ⟨q0, _⟩ | ⟨_, q1, q2, q3, q4⟩ | ⟨_, M, x, q1, _⟩
      · exact absurd hCE q0
      · have hPE9 := q2
        have hPN9 := q3
        have hPL := q4
        subst hN0
        simp only [List.length_nil]
        clear rd hx htr q1 q2 q3 q4 hN1
        go_wp2_with (first
            | (go_at_call 7; refine (clean_any C _ hCs).mono ?_; rintro e u6 ⟨rfl, bel⟩; rw [hCC, hCE]; have C6 : Hid (Below w.heap.size w u6) := C5.out.trans (bel.mono C5.out.size); have D6 : Hid (Below wr.heap.size wr u6) := bel; clear bel)
            | (go_at_call 5; refine (psplit_any C _ hCs).mono ?_; rintro e u7 ⟨v7, rfl, ow, bel⟩; rw [hCE]; rw [hCN] at ow; have D7 : Hid (Below wr.heap.size wr u7) := D6.out.trans (bel.mono D6.out.size); have C7 : Hid (Below w.heap.size w u7) := C6.out.trans (bel.mono C6.out.size); obtain ⟨a7, c7, rfl, _⟩ := ow.rd; have O7 : Hid (Ow u7 u6.heap.size (.slice a7 ([] : List ByteArray).length c7) []) := ow; clear ow; clear bel)
            | (go_at_call 6; have h9 := T8; clear h9; refine (same_eq _ _ [] _ (HV.out.below D7.out) O7.out.vw).mono ?_; rintro e u8 ⟨rfl, bel⟩; have C8 : Hid (Below w.heap.size w u8) := C7.out.trans (bel.mono C7.out.size); have E8 : Hid (Below u7.heap.size u7 u8) := bel; skip; clear bel T8)
            | (go_at_call 8; refine (parent_any C _ hCs).mono ?_; rintro e u9 ⟨v9, rfl, ow, bel⟩; rw [hPL, hPE9]; rw [hPN9] at ow; clear ow; have C9 : Hid (Below w.heap.size w u9) := C8.out.trans (bel.mono C8.out.size); have E9 : Hid (Below u8.heap.size u8 u9) := bel; clear bel))
        go_ret
        exact ⟨rfl, C9.out⟩
      · rw [hCN] at q1; cases M <;> simp at q1
    | cons y r =>
      cases a with
      | none => have := rd.nil rfl; simp at this
      | some x0 =>
        obtain ⟨b, o, rfl⟩ := hx x0 rfl (by simp)
        have hc := rd.cell _ rfl 0 y rfl
        rw [add_zero, Nat.add_zero] at hc
        have HR : Hid (RdS wr (some ⟨b, o, none⟩) (r.length + 1) (y :: r)) := rd
        have HT : Hid (trim (y :: r) = N) := htr
        simp only [List.length_cons] at *
        clear rd htr hx
        cases hu : upB y with
        | true =>
          have hl : y.toList = [46, 46] := (up_list y).1 hu
          go_wp2
          refine ⟨⟨r, vw_tail HR.out h1 h2, by rw [← HT.out, trim_up hu], by simp⟩, by simp [lenV]⟩
        | false =>
          have hl : ¬ y.toList = [46, 46] := fun e => by rw [(up_list y).2 e] at hu; cases hu
          have hl2 : (y.toList == [46, 46]) = false := by simp [hl]
          have hN0 : N = y :: r := by rw [← HT.out, trim_no hu]
          have HV : Hid (Vw wr (.slice (some ⟨b, o, none⟩) (r.length + 1) c) N) := by
            rw [hN0]; exact ⟨_, _, rfl, h1, h2, HR.out, fun x hx _ => by cases hx; exact ⟨_, _, rfl⟩⟩
          have HN1 : Hid (N = y :: r) := hN0
          have HU : Hid (upB y = false) := hu
          clear hu HR hN0
          rcases pa_ways C with ⟨q0, _⟩ | ⟨_, q1, q2, q3, q4⟩ | ⟨_, M, x, q1, ⟨qu, q2, q3, q4⟩ | ⟨qu, q2, q3, q4⟩⟩
          · exact absurd hCE q0
          · rw [hCN, HN1.out] at q1; cases q1
          · have hNM : N = M ++ [x] := by rw [← hCN]; exact q1
            have hPE9 := q2
            have hPN9 := q3
            have hPL := q4
            have hlx : x.toList = [46, 46] := (up_list x).1 qu
            have hml : M.length ≤ 64 := par_len hCE q1
            clear q1 q2 q3 q4
            clear HT HN1
            subst hNM
            go_wp2_with (first
                | (go_at_call 7; refine (clean_any C _ hCs).mono ?_; rintro e u6 ⟨rfl, bel⟩; rw [hCC, hCE]; have C6 : Hid (Below w.heap.size w u6) := C5.out.trans (bel.mono C5.out.size); have D6 : Hid (Below wr.heap.size wr u6) := bel; clear bel)
                | (go_at_call 5; refine (psplit_any C _ hCs).mono ?_; rintro e u7 ⟨v7, rfl, ow, bel⟩; rw [hCE]; rw [hCN] at ow; have D7 : Hid (Below wr.heap.size wr u7) := D6.out.trans (bel.mono D6.out.size); have C7 : Hid (Below w.heap.size w u7) := C6.out.trans (bel.mono C6.out.size); obtain ⟨a7, c7, rfl, _⟩ := ow.rd; have O7 : Hid (Ow u7 u6.heap.size (.slice a7 (M.length + 1) c7) (M ++ [x])) := ow_len ow; try simp only [List.length_append, List.length_cons, List.length_nil, Nat.zero_add]; obtain ⟨g7, rfl, hc7, c73, c74⟩ := ow_last ow; clear ow; clear bel)
                | (go_at_call 6; have h9 := T8; clear h9; refine (same_eq _ _ (M ++ [x]) _ (HV.out.below D7.out) O7.out.vw).mono ?_; rintro e u8 ⟨rfl, bel⟩; have C8 : Hid (Below w.heap.size w u8) := C7.out.trans (bel.mono C7.out.size); have E8 : Hid (Below u7.heap.size u7 u8) := bel; have k8 := hc7; rw [← bel.cell (World.block_lt_of_cell? _ _ hc7)] at k8; clear bel T8)
                | (go_at_call 8; refine (parent_any C _ hCs).mono ?_; rintro e u9 ⟨v9, rfl, ow, bel⟩; rw [hPL, hPE9]; rw [hPN9] at ow; clear ow; have C9 : Hid (Below w.heap.size w u9) := C8.out.trans (bel.mono C8.out.size); have E9 : Hid (Below u8.heap.size u8 u9) := bel; have k9 := k8; rw [← bel.cell (World.block_lt_of_cell? _ _ k8)] at k9; clear bel))
            go_ret
            exact ⟨rfl, C9.out⟩
          · have hNM : N = M ++ [x] := by rw [← hCN]; exact q1
            have hPE9 := q2
            have hPN9 := q3
            have hPL := q4
            have hml : M.length ≤ 64 := par_len hCE q1
            have n1 : M.length + 1 ≤ maxLen := by simp [maxLen]; omega
            have n2 : (M.length + 1) * 16 ≤ 140737488355328 := by omega
            clear q1 q2 q3 q4
            clear HT HN1
            subst hNM
            go_wp2_with (first
                | (go_at_call 7; refine (clean_any C _ hCs).mono ?_; rintro e u6 ⟨rfl, bel⟩; rw [hCC, hCE]; have C6 : Hid (Below w.heap.size w u6) := C5.out.trans (bel.mono C5.out.size); have D6 : Hid (Below wr.heap.size wr u6) := bel; clear bel)
                | (go_at_call 5; refine (psplit_any C _ hCs).mono ?_; rintro e u7 ⟨v7, rfl, ow, bel⟩; rw [hCE]; rw [hCN] at ow; have D7 : Hid (Below wr.heap.size wr u7) := D6.out.trans (bel.mono D6.out.size); have C7 : Hid (Below w.heap.size w u7) := C6.out.trans (bel.mono C6.out.size); obtain ⟨a7, c7, rfl, _⟩ := ow.rd; have O7 : Hid (Ow u7 u6.heap.size (.slice a7 (M.length + 1) c7) (M ++ [x])) := ow_len ow; try simp only [List.length_append, List.length_cons, List.length_nil, Nat.zero_add]; clear ow; clear bel)
                | (go_at_call 6; have h9 := T8; clear h9; refine (same_eq _ _ (M ++ [x]) _ (HV.out.below D7.out) O7.out.vw).mono ?_; rintro e u8 ⟨rfl, bel⟩; have C8 : Hid (Below w.heap.size w u8) := C7.out.trans (bel.mono C7.out.size); have E8 : Hid (Below u7.heap.size u7 u8) := bel; skip; clear bel T8)
                | (go_at_call 8; refine (parent_any C _ hCs).mono ?_; rintro e u9 ⟨v9, rfl, ow, bel⟩; rw [hPL, hPE9]; rw [hPN9] at ow; obtain ⟨a9, c9, rfl, _⟩ := ow.rd; have O9 : Hid (Ow u9 u8.heap.size (.slice a9 M.length c9) M) := ow; clear ow; have C9 : Hid (Below w.heap.size w u9) := C8.out.trans (bel.mono C8.out.size); have E9 : Hid (Below u8.heap.size u8 u9) := bel; clear bel)
                | (at_builtin; refine wpList_append_own _ rfl (.tmp 130) (.tmp 132) 22 rfl u8.heap.size 9 i0 _ 1 16 Tryd.underlying22 hi hz0 hz1 hz2 rfl (by decide) _ _ _ rfl (World.ownsRow.alloc O9.out _) ⟨u9.heap.size, 0, none⟩ 1 1 [.string x] rfl rfl (World.news_of_block (heap_alloc_new u9 _)) (by simp [Value.oneCell']) n1 n2 (by have := E9.out.size; simp; omega) ?_; intro v10 w10 own10 grow10 _; have O10 : Hid (Ow w10 u8.heap.size v10 (M ++ [x])) := ow_more own10; have E10 : Hid (Below u8.heap.size u8 w10) := (E9.out.alloc E9.out.size _).grown grow10 (by have := E9.out.size; simp; omega) (fun q hq => (O9.out.at q hq).1); clear own10 grow10)
                | (go_at_call 6; refine (same_eq _ _ (M ++ [x]) _ O10.out.vw ((O7.out.below E8.out).below E10.out).vw).mono ?_; rintro e w11 ⟨rfl, bel⟩; have E11 : Hid (Below u8.heap.size u8 w11) := E10.out.trans (bel.mono E10.out.size); clear bel))
            go_ret
            exact ⟨rfl, C8.out.trans (E11.out.mono C8.out.size)⟩

theorem there_walk (a0 : Option Addr) (c0 : Nat) (xs : List ByteArray) (s : ByteArray) (w : World) (h0 : Vw w (.slice a0 xs.length c0) xs) (b0 : ∀ x ∈ xs, x.size ≤ 9223372036854775807) (hs : s.size ≤ 140737488351232) :
    Calls Tryd.prog 3 #[.slice a0 xs.length c0, .string s] w fun e w' => e = .returned (.bool true) ∧ Below w.heap.size w w' := by
  have hs' : s.size ≤ 9223372036854775807 := by omega
  by_cases hj : joE xs = 0
  · by_cases he : spE s = 0
    · exact there_to a0 c0 xs s w h0 b0 hs' hj he
    · exact there_tn a0 c0 xs s w h0 b0 hs' hj he
  · by_cases he : spE s = 0
    · exact there_fo a0 c0 xs s w h0 b0 hs' hj he
    · exact there_fn a0 c0 xs s w h0 b0 hs' hj he

end Go.Proofs.YtmbdacdgbmpedabDoor
