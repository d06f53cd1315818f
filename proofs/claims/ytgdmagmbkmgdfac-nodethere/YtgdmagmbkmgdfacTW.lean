/-
  SEAT Ytgdmagmbkmgdfac: NodeThere: the walk.
-/
import Derived.Test.YtgdmagmbkmgdfacTA
namespace Go.Proofs.Ytgdmagmbkmgdfac
open Go.RowKit
set_option linter.unusedVariables false

theorem made_at (w : World) (q : Nat) (h : w.heap.size = q) : (w.alloc (.cells #[] 5)).ownsRow q 5 1 (.slice (some ⟨q, 0, none⟩) 0 0) 0 (([] : List Int).map (Value.int .u8)) := by
  subst h
  exact made0 w
theorem marked_read {u : World} {B g len c : Nat} {zs : List Int} (h : Own u B g (len + 3) c (zs ++ [161, 178, 195])) (hl : zs.length = len) (hz : ∀ x ∈ zs, 0 ≤ x ∧ x ≤ 255) : Reads u (some ⟨g, 0, none⟩) len zs ∧ len ≤ c ∧ c ≤ 9223372036854775807 := by
  have h8 := h.reads (marks_range zs hz) len (by omega)
  rw [List.take_left' hl] at h8
  have hcc := own_shape h (by omega)
  obtain ⟨_, _, e9, h9, h10, _⟩ := hcc
  simp [maxLen] at e9 h10
  exact ⟨h8, by omega, by omega⟩


set_option maxHeartbeats 4000000 in
set_option maxRecDepth 100000 in
theorem there_p (k p : Int) (N : ByteArray) (z m st h : Int) (T : ByteArray) (cut more : Int) (M j : Nat) (zs : List Int) (w : World) (hM26 : 26 ≤ M) (hM : M ≤ 215) (hzl : zs.length = M) (hzr : ∀ x ∈ zs, 0 ≤ x ∧ x ≤ 255) (hN : N.size ≤ 9223372036854775807) (hT : T.size ≤ 9223372036854775807) (hE : nodeE k p N z m st h T = 0)
    (hp : ∀ u : World, Calls Try.prog 17 #[.agg #[.int .i64 k, .int .i64 p, .string N, .int .i64 z, .int .i64 m, .int .u64 st, .int .i64 h, .string T]] u fun e w' => (∃ v, e = .returned (.tuple #[v, .int .i64 0]) ∧ w'.ownsRow u.heap.size 5 1 v M (zs.map (Value.int .u8))) ∧ Below u.heap.size u w')
    (hn : Nr zs M k p N z m st h T 0) (hns : Nr (zs.take j) j 0 0 ⟨#[]⟩ 0 0 0 0 ⟨#[]⟩ 80) (hnl : Nr (zs ++ [more]) (M + 1) 0 0 ⟨#[]⟩ 0 0 0 0 ⟨#[]⟩ 80) (hm0 : 0 ≤ more) (hm1 : more ≤ 255) (hj : j < M) (hjk : cut.tmod M = j) :
    Calls Try.prog 7 #[.agg #[.int .i64 k, .int .i64 p, .string N, .int .i64 z, .int .i64 m, .int .u64 st, .int .i64 h, .string T], .int .i64 cut, .int .u8 more] w fun e w' => e = .returned (.bool true) ∧ Below w.heap.size w w' := by
  have HP : Hid _ := hp
  have HNR : Hid _ := hn
  have HNS : Hid _ := hns
  have HNL : Hid _ := hnl
  have HTL : Hid ((zs.take j).length = j) := by unfold Hid; simp; omega
  have HTR : Hid (∀ x ∈ zs.take j, 0 ≤ x ∧ x ≤ 255) := fun x hx => hzr x (List.mem_of_mem_take hx)
  have HLL : Hid ((zs ++ [more]).length = M + 1) := by unfold Hid; simp [hzl]
  have HLR : Hid (∀ x ∈ zs ++ [more], 0 ≤ x ∧ x ≤ 255) := fun x hx => by
    rcases List.mem_append.1 hx with h9 | h9
    · exact hzr x h9
    · simp at h9; omega
  have HTK : Hid (∀ (u : World) {g : Nat}, Reads u (some ⟨g, 0, none⟩) M zs → Reads u (some ⟨g, 0, none⟩) j (zs.take j)) := fun u g hu => by
    have h9 := hu.piece 0 j (by omega) (fun _ _ => rfl)
    simpa using h9
  have s0 : Np w (w.alloc (.cells #[.int .i64 k, .int .i64 p, .string N, .int .i64 z, .int .i64 m, .int .u64 st, .int .i64 h, .string T] 28)) (.cells #[.int .i64 k, .int .i64 p, .string N, .int .i64 z, .int .i64 m, .int .u64 st, .int .i64 h, .string T] 28) [] := ⟨⟨by simp, List.Pairwise.nil⟩, Below.refl _ _⟩
  obtain ⟨y0, y1, y2, y3, y4, y5, y6, y7⟩ := box8 s0.bel
  have d1 : ¬ ((j : Int) < 0) := by omega
  clear hp hn hns hnl
  go_enter Try.func7, Try.ntmps7
  go_wp2_with (first
    | (go_at_call 17; refine (HP.out _).mono ?_; rintro e u1 ⟨⟨v, rfl, o1⟩, b1⟩; obtain ⟨g, c, he, hMc, hcm, _, _⟩ := own_shape o1 (by omega); subst he; have s1 : Np w u1 (.cells #[.int .i64 k, .int .i64 p, .string N, .int .i64 z, .int .i64 m, .int .u64 st, .int .i64 h, .string T] 28) [(.slice (some ⟨g, 0, none⟩) M c, zs)] := s0.add b1 hzl o1; have hcm2 : c ≤ 9223372036854775807 := (by unfold maxLen at hcm; omega); clear y0 y1 y2 y3 y4 y5 y6 y7; obtain ⟨y0, y1, y2, y3, y4, y5, y6, y7⟩ := box8 s1.bel; clear s0 o1 b1 hcm)
    | (go_at_call 11; have h9 := s1; clear h9; refine (rcheck_any _ _ _ _ _ _ _ _ _ hN hT).mono ?_; rintro e u2 ⟨rfl, b2⟩; rw [hE]; have s2 := s1.below b2; clear y0 y1 y2 y3 y4 y5 y6 y7; obtain ⟨y0, y1, y2, y3, y4, y5, y6, y7⟩ := box8 s2.bel; clear s1 b2)
    | (go_at_call 13; have h9 := s2; clear h9; refine (marked_any _ M c zs _ (s2.row (c := c) (by simp) hzl hzr) ?_).mono ?_; omega; rintro e u3 ⟨g3, c3, rfl, o3, b3⟩; have s3 := s2.below b3; obtain ⟨r3, k3, n3⟩ := marked_read o3 hzl hzr; have R3 : Hid _ := r3; clear y0 y1 y2 y3 y4 y5 y6 y7; obtain ⟨y0, y1, y2, y3, y4, y5, y6, y7⟩ := box8 s3.bel; clear s2 o3 b3 r3)
    | (go_at_call 14; have h9 := R3; clear h9; refine (HNR.out.c14 _ _ c3 R3.out k3 n3).mono ?_; rintro e u4 ⟨rfl, b4⟩; have s4 := s3.below (b4.alloc b4.size (.cells #[.int .i64 k, .int .i64 p, .string N, .int .i64 z, .int .i64 m, .int .u64 st, .int .i64 h, .string T] 28)); clear y0 y1 y2 y3 y4 y5 y6 y7; obtain ⟨y0, y1, y2, y3, y4, y5, y6, y7⟩ := box8 s4.bel; clear s3 b4 R3 k3 n3)
    | (go_at_call 13; have h9 := s4; clear h9; refine (marked_any _ j c (zs.take j) _ (HTK.out _ (s4.row (c := c) (by simp) hzl hzr)) ?_).mono ?_; omega; rintro e u5 ⟨g5, c5, rfl, o5, b5⟩; have s5 := s4.below b5; obtain ⟨r5, k5, n5⟩ := marked_read o5 HTL.out HTR.out; have R5 : Hid _ := r5; clear s4 o5 b5 r5)
    | (go_at_call 14; have h9 := R5; clear h9; refine (HNS.out.c14 _ _ c5 R5.out k5 n5).mono ?_; rintro e u6 ⟨rfl, b6⟩; have s6 := s5.below (b6.alloc b6.size (.cells #[.int .i64 0, .int .i64 0, .string ⟨#[]⟩, .int .i64 0, .int .i64 0, .int .u64 0, .int .i64 0, .string ⟨#[]⟩] 28)); clear y0 y1 y2 y3 y4 y5 y6 y7; clear s5 b6 R5 k5 n5)
    | (at_builtin; have h9 := s6; clear h9; refine wpList_append_reads rfl (.tmp 83) (.tmp 84) rfl (u6.heap.size + 1) _ 0 [] rfl (made_at _ _ (by simp)) _ _ _ zs rfl ?_ ?_ ?_ ?_; (exact Reads.below (s6.row (c := c) (by simp) hzl hzr) ((Below.refl _ _).alloc (Nat.le_refl _) _)); omega; simp; intro v7 u7 o7 g7; have q7 := ((Below.refl _ _).alloc (Nat.le_refl _) _).grown g7 (by simp) (fun q hq => by cases hq; simp); have B7 : Hid (Below w.heap.size w u7) := below1 (s6.below q7).bel; have o8 : u7.ownsRow (u6.heap.size + 1) 5 1 v7 M (zs.map (Value.int .u8)) := (by simpa using o7); have O8 : Hid (u7.ownsRow (u6.heap.size + 1) 5 1 v7 M (zs.map (Value.int .u8))) := o8; have hz7 : u6.heap.size + 1 ≤ u7.heap.size := (by have h8 := q7.size; simp at h8; omega); have hw6 : w.heap.size ≤ u6.heap.size := (by have h8 := s6.bel.size; simp at h8; omega); clear s6 o7 g7 q7 o8)
    | (at_builtin; have h9 := O8; clear h9; refine wpList_append_reads rfl (.tmp 85) (.tmp 87) rfl (u6.heap.size + 1) _ M zs rfl (O8.out.alloc _) _ _ _ [more] rfl (one_reads _ more hm0 hm1) ?_ ?_ ?_; omega; (simp <;> omega); intro v9 u9 o9 g9; have B9 : Hid (Below w.heap.size w u9) := (B7.out.alloc B7.out.size _).grown g9 (by have h8 := B7.out.size; simp <;> omega) (fun q hq => by have h8 := (O8.out.lt q hq).1; omega); obtain ⟨g10, c10, he10, _, _, _, _⟩ := own_shape o9 (by omega); subst he10; have R10 : Hid (Reads u9 (some ⟨g10, 0, none⟩) (M + 1) (zs ++ [more])) := reads_of o9 HLR.out; clear o9 g9 O8 B7 hz7 hw6)
    | (go_at_call 13; have h9 := R10; clear h9; refine (marked_any _ (M + 1) c10 (zs ++ [more]) _ R10.out ?_).mono ?_; omega; rintro e u11 ⟨g11, c11, rfl, o11, b11⟩; have b12 : Hid _ := B9.out.trans (b11.mono B9.out.size); obtain ⟨r11, k11, n11⟩ := marked_read o11 HLL.out HLR.out; have R11 : Hid _ := r11; clear o11 b11 r11 R10 B9)
    | (go_at_call 14; have h9 := R11; clear h9; refine (HNL.out.c14 _ _ c11 R11.out k11 n11).mono ?_; rintro e u12 ⟨rfl, b13⟩; have b14 : Hid _ := b12.out.trans ((b13.alloc b13.size (.cells #[.int .i64 0, .int .i64 0, .string ⟨#[]⟩, .int .i64 0, .int .i64 0, .int .u64 0, .int .i64 0, .string ⟨#[]⟩] 28)).mono b12.out.size); clear b13 R11 b12 k11 n11))
  go_ret
  exact ⟨by simp, b14.out⟩


set_option maxHeartbeats 4000000 in
set_option maxRecDepth 100000 in
theorem there_n (k p : Int) (N : ByteArray) (z m st h : Int) (T : ByteArray) (cut more : Int) (M j : Nat) (zs : List Int) (w : World) (hM26 : 26 ≤ M) (hM : M ≤ 215) (hzl : zs.length = M) (hzr : ∀ x ∈ zs, 0 ≤ x ∧ x ≤ 255) (hN : N.size ≤ 9223372036854775807) (hT : T.size ≤ 9223372036854775807) (hE : nodeE k p N z m st h T = 0)
    (hp : ∀ u : World, Calls Try.prog 17 #[.agg #[.int .i64 k, .int .i64 p, .string N, .int .i64 z, .int .i64 m, .int .u64 st, .int .i64 h, .string T]] u fun e w' => (∃ v, e = .returned (.tuple #[v, .int .i64 0]) ∧ w'.ownsRow u.heap.size 5 1 v M (zs.map (Value.int .u8))) ∧ Below u.heap.size u w')
    (hn : Nr zs M k p N z m st h T 0) (hns : Nr (zs.take j) j 0 0 ⟨#[]⟩ 0 0 0 0 ⟨#[]⟩ 80) (hnl : Nr (zs ++ [more]) (M + 1) 0 0 ⟨#[]⟩ 0 0 0 0 ⟨#[]⟩ 80) (hm0 : 0 ≤ more) (hm1 : more ≤ 255) (hj : j < M) (q : Int) (hjk : cut.tmod M = q) (hq : q < 0) (hqj : q + M = j) :
    Calls Try.prog 7 #[.agg #[.int .i64 k, .int .i64 p, .string N, .int .i64 z, .int .i64 m, .int .u64 st, .int .i64 h, .string T], .int .i64 cut, .int .u8 more] w fun e w' => e = .returned (.bool true) ∧ Below w.heap.size w w' := by
  have HP : Hid _ := hp
  have HNR : Hid _ := hn
  have HNS : Hid _ := hns
  have HNL : Hid _ := hnl
  have HTL : Hid ((zs.take j).length = j) := by unfold Hid; simp; omega
  have HTR : Hid (∀ x ∈ zs.take j, 0 ≤ x ∧ x ≤ 255) := fun x hx => hzr x (List.mem_of_mem_take hx)
  have HLL : Hid ((zs ++ [more]).length = M + 1) := by unfold Hid; simp [hzl]
  have HLR : Hid (∀ x ∈ zs ++ [more], 0 ≤ x ∧ x ≤ 255) := fun x hx => by
    rcases List.mem_append.1 hx with h9 | h9
    · exact hzr x h9
    · simp at h9; omega
  have HTK : Hid (∀ (u : World) {g : Nat}, Reads u (some ⟨g, 0, none⟩) M zs → Reads u (some ⟨g, 0, none⟩) j (zs.take j)) := fun u g hu => by
    have h9 := hu.piece 0 j (by omega) (fun _ _ => rfl)
    simpa using h9
  have s0 : Np w (w.alloc (.cells #[.int .i64 k, .int .i64 p, .string N, .int .i64 z, .int .i64 m, .int .u64 st, .int .i64 h, .string T] 28)) (.cells #[.int .i64 k, .int .i64 p, .string N, .int .i64 z, .int .i64 m, .int .u64 st, .int .i64 h, .string T] 28) [] := ⟨⟨by simp, List.Pairwise.nil⟩, Below.refl _ _⟩
  obtain ⟨y0, y1, y2, y3, y4, y5, y6, y7⟩ := box8 s0.bel
  clear hp hn hns hnl
  go_enter Try.func7, Try.ntmps7
  go_wp2_with (first
    | (go_at_call 17; refine (HP.out _).mono ?_; rintro e u1 ⟨⟨v, rfl, o1⟩, b1⟩; obtain ⟨g, c, he, hMc, hcm, _, _⟩ := own_shape o1 (by omega); subst he; have s1 : Np w u1 (.cells #[.int .i64 k, .int .i64 p, .string N, .int .i64 z, .int .i64 m, .int .u64 st, .int .i64 h, .string T] 28) [(.slice (some ⟨g, 0, none⟩) M c, zs)] := s0.add b1 hzl o1; have hcm2 : c ≤ 9223372036854775807 := (by unfold maxLen at hcm; omega); clear y0 y1 y2 y3 y4 y5 y6 y7; obtain ⟨y0, y1, y2, y3, y4, y5, y6, y7⟩ := box8 s1.bel; clear s0 o1 b1 hcm)
    | (go_at_call 11; have h9 := s1; clear h9; refine (rcheck_any _ _ _ _ _ _ _ _ _ hN hT).mono ?_; rintro e u2 ⟨rfl, b2⟩; rw [hE]; have s2 := s1.below b2; clear y0 y1 y2 y3 y4 y5 y6 y7; obtain ⟨y0, y1, y2, y3, y4, y5, y6, y7⟩ := box8 s2.bel; clear s1 b2)
    | (go_at_call 13; have h9 := s2; clear h9; refine (marked_any _ M c zs _ (s2.row (c := c) (by simp) hzl hzr) ?_).mono ?_; omega; rintro e u3 ⟨g3, c3, rfl, o3, b3⟩; have s3 := s2.below b3; obtain ⟨r3, k3, n3⟩ := marked_read o3 hzl hzr; have R3 : Hid _ := r3; clear y0 y1 y2 y3 y4 y5 y6 y7; obtain ⟨y0, y1, y2, y3, y4, y5, y6, y7⟩ := box8 s3.bel; clear s2 o3 b3 r3)
    | (go_at_call 14; have h9 := R3; clear h9; refine (HNR.out.c14 _ _ c3 R3.out k3 n3).mono ?_; rintro e u4 ⟨rfl, b4⟩; have s4 := s3.below (b4.alloc b4.size (.cells #[.int .i64 k, .int .i64 p, .string N, .int .i64 z, .int .i64 m, .int .u64 st, .int .i64 h, .string T] 28)); clear y0 y1 y2 y3 y4 y5 y6 y7; obtain ⟨y0, y1, y2, y3, y4, y5, y6, y7⟩ := box8 s4.bel; clear s3 b4 R3 k3 n3)
    | (go_at_call 13; have h9 := s4; clear h9; refine (marked_any _ j c (zs.take j) _ (HTK.out _ (s4.row (c := c) (by simp) hzl hzr)) ?_).mono ?_; omega; rintro e u5 ⟨g5, c5, rfl, o5, b5⟩; have s5 := s4.below b5; obtain ⟨r5, k5, n5⟩ := marked_read o5 HTL.out HTR.out; have R5 : Hid _ := r5; clear s4 o5 b5 r5)
    | (go_at_call 14; have h9 := R5; clear h9; refine (HNS.out.c14 _ _ c5 R5.out k5 n5).mono ?_; rintro e u6 ⟨rfl, b6⟩; have s6 := s5.below (b6.alloc b6.size (.cells #[.int .i64 0, .int .i64 0, .string ⟨#[]⟩, .int .i64 0, .int .i64 0, .int .u64 0, .int .i64 0, .string ⟨#[]⟩] 28)); clear y0 y1 y2 y3 y4 y5 y6 y7; clear s5 b6 R5 k5 n5)
    | (at_builtin; have h9 := s6; clear h9; refine wpList_append_reads rfl (.tmp 83) (.tmp 84) rfl (u6.heap.size + 1) _ 0 [] rfl (made_at _ _ (by simp)) _ _ _ zs rfl ?_ ?_ ?_ ?_; (exact Reads.below (s6.row (c := c) (by simp) hzl hzr) ((Below.refl _ _).alloc (Nat.le_refl _) _)); omega; simp; intro v7 u7 o7 g7; have q7 := ((Below.refl _ _).alloc (Nat.le_refl _) _).grown g7 (by simp) (fun q hq => by cases hq; simp); have B7 : Hid (Below w.heap.size w u7) := below1 (s6.below q7).bel; have o8 : u7.ownsRow (u6.heap.size + 1) 5 1 v7 M (zs.map (Value.int .u8)) := (by simpa using o7); have O8 : Hid (u7.ownsRow (u6.heap.size + 1) 5 1 v7 M (zs.map (Value.int .u8))) := o8; have hz7 : u6.heap.size + 1 ≤ u7.heap.size := (by have h8 := q7.size; simp at h8; omega); have hw6 : w.heap.size ≤ u6.heap.size := (by have h8 := s6.bel.size; simp at h8; omega); clear s6 o7 g7 q7 o8)
    | (at_builtin; have h9 := O8; clear h9; refine wpList_append_reads rfl (.tmp 85) (.tmp 87) rfl (u6.heap.size + 1) _ M zs rfl (O8.out.alloc _) _ _ _ [more] rfl (one_reads _ more hm0 hm1) ?_ ?_ ?_; omega; (simp <;> omega); intro v9 u9 o9 g9; have B9 : Hid (Below w.heap.size w u9) := (B7.out.alloc B7.out.size _).grown g9 (by have h8 := B7.out.size; simp <;> omega) (fun q hq => by have h8 := (O8.out.lt q hq).1; omega); obtain ⟨g10, c10, he10, _, _, _, _⟩ := own_shape o9 (by omega); subst he10; have R10 : Hid (Reads u9 (some ⟨g10, 0, none⟩) (M + 1) (zs ++ [more])) := reads_of o9 HLR.out; clear o9 g9 O8 B7 hz7 hw6)
    | (go_at_call 13; have h9 := R10; clear h9; refine (marked_any _ (M + 1) c10 (zs ++ [more]) _ R10.out ?_).mono ?_; omega; rintro e u11 ⟨g11, c11, rfl, o11, b11⟩; have b12 : Hid _ := B9.out.trans (b11.mono B9.out.size); obtain ⟨r11, k11, n11⟩ := marked_read o11 HLL.out HLR.out; have R11 : Hid _ := r11; clear o11 b11 r11 R10 B9)
    | (go_at_call 14; have h9 := R11; clear h9; refine (HNL.out.c14 _ _ c11 R11.out k11 n11).mono ?_; rintro e u12 ⟨rfl, b13⟩; have b14 : Hid _ := b12.out.trans ((b13.alloc b13.size (.cells #[.int .i64 0, .int .i64 0, .string ⟨#[]⟩, .int .i64 0, .int .i64 0, .int .u64 0, .int .i64 0, .string ⟨#[]⟩] 28)).mono b12.out.size); clear b13 R11 b12 k11 n11))
  go_ret
  exact ⟨by simp, b14.out⟩


set_option maxHeartbeats 1000000 in
set_option maxRecDepth 100000 in
theorem there_bad (k p : Int) (N : ByteArray) (z m st h : Int) (T : ByteArray) (cut more : Int) (E : Int) (w : World) (hN : N.size ≤ 9223372036854775807) (hT : T.size ≤ 9223372036854775807) (hE : nodeE k p N z m st h T = E) (h0 : E ≠ 0) :
    Calls Try.prog 7 #[.agg #[.int .i64 k, .int .i64 p, .string N, .int .i64 z, .int .i64 m, .int .u64 st, .int .i64 h, .string T], .int .i64 cut, .int .u8 more] w fun e w' => e = .returned (.bool true) ∧ Below w.heap.size w w' := by
  have h1 : (E != 0) = true := by simpa using h0
  have s0 : Np w (w.alloc (.cells #[.int .i64 k, .int .i64 p, .string N, .int .i64 z, .int .i64 m, .int .u64 st, .int .i64 h, .string T] 28)) (.cells #[.int .i64 k, .int .i64 p, .string N, .int .i64 z, .int .i64 m, .int .u64 st, .int .i64 h, .string T] 28) [] := ⟨⟨by simp, List.Pairwise.nil⟩, Below.refl _ _⟩
  obtain ⟨y0, y1, y2, y3, y4, y5, y6, y7⟩ := box8 s0.bel
  go_enter Try.func7, Try.ntmps7
  go_wp2_with (first
    | (go_at_call 17; refine (pack_bad _ _ _ _ _ _ _ _ _ hN hT E hE h0).mono ?_; rintro e u1 ⟨rfl, b1⟩; have s1 := s0.below b1; clear y0 y1 y2 y3 y4 y5 y6 y7; obtain ⟨y0, y1, y2, y3, y4, y5, y6, y7⟩ := box8 s1.bel; clear s0 b1)
    | (go_at_call 11; refine (rcheck_any _ _ _ _ _ _ _ _ _ hN hT).mono ?_; rintro e u2 ⟨rfl, b2⟩; rw [hE]; have s2 := s1.below b2; clear y0 y1 y2 y3 y4 y5 y6 y7; obtain ⟨y0, y1, y2, y3, y4, y5, y6, y7⟩ := box8 s2.bel; clear s1 b2)
    | (go_at_call 10; refine (check_any _ _ _ _ _ _ _ _ _ hN hT).mono ?_; rintro e u3 ⟨rfl, b3⟩; rw [hE]; have s3 := s2.below b3; clear y0 y1 y2 y3 y4 y5 y6 y7 s2 b3))
  go_ret
  exact ⟨by simp, below1 s3.bel⟩

theorem node_name (k p : Int) (N : ByteArray) (z m st h : Int) (T : ByteArray) (h0 : nodeE k p N z m st h T = 0) : 1 ≤ N.size := by
  unfold nodeE at h0
  split at h0
  · split at h0
    · rename_i h2
      simp only [Good, Bool.and_eq_true, decide_eq_true_eq] at h2
      exact h2.1.1.1.1.1
    · simp at h0
  · simp at h0

theorem thereWalk (k p : Int) (N : ByteArray) (z m st h : Int) (T : ByteArray) (cut more : Int) (w : World) (hN : N.size ≤ maxLen) (hT : T.size ≤ maxLen) (wc : (Lit.int .i64 cut).wf = true) (wm : (Lit.int .u8 more).wf = true) (ws : (Lit.int .u64 st).wf = true) :
    Calls Try.prog 7 #[.agg #[.int .i64 k, .int .i64 p, .string N, .int .i64 z, .int .i64 m, .int .u64 st, .int .i64 h, .string T], .int .i64 cut, .int .u8 more] w fun e w' => e = .returned (.bool true) ∧ Below w.heap.size w w' := by
  have bs := bounds_u64 ws
  have bm := bounds_u8 wm
  unfold maxLen at hN hT
  by_cases hE : nodeE k p N z m st h T = 0
  · obtain ⟨_, _, n63, _, _, _, t127⟩ := node_zero k p N z m st h T hE
    have n1 := node_name k p N z m st h T hE
    have f := flp_node k p N z m st h T hE bs.1 (by omega)
    have hzl := nodeL_length k p N z m st h T
    have hzr := nodeL_range k p N z m st h T
    obtain ⟨zs, hzs⟩ : ∃ zs, zs = nodeL k p N z m st h T := ⟨_, rfl⟩
    have hp := fun u => pack_ok k p N z m st h T u hE bs.1 (by omega)
    rw [← hzs] at f hzl hzr hp
    obtain ⟨M, hM⟩ : ∃ M, M = 1 + 4 + 4 + 2 + 8 + 4 + (1 + N.size) + (1 + T.size) := ⟨_, rfl⟩
    rw [← hM] at f hzl hp
    have hn := nr_ok zs M k p N z m st h T f hzr hzl (by omega) hE
    have hnl := nr_short (zs ++ [more]) (M + 1) (fun x hx => by
      rcases List.mem_append.1 hx with h9 | h9
      · exact hzr x h9
      · simp at h9; omega) (by omega) (long_short zs M more hzl f.hf)
    have hns : ∀ j, j < M → Nr (zs.take j) j 0 0 ⟨#[]⟩ 0 0 0 0 ⟨#[]⟩ 80 := fun j hj => nr_short (zs.take j) j (fun x hx => hzr x (List.mem_of_mem_take hx)) (by omega) (cut_short zs M j f.hf hj)
    have ha := Int.tmod_lt_of_pos cut (show (0 : Int) < M by omega)
    have hb : -(M : Int) < cut.tmod M := by
      have h9 := Int.neg_tmod cut M ▸ Int.tmod_lt_of_pos (-cut) (show (0 : Int) < M by omega)
      omega
    by_cases hq : cut.tmod M < 0
    · exact there_n k p N z m st h T cut more M (cut.tmod M + M).toNat zs w (by omega) (by omega) hzl hzr (by omega) (by omega) hE hp hn (hns _ (by omega)) hnl bm.1 bm.2 (by omega) (cut.tmod M) rfl hq (by omega)
    · exact there_p k p N z m st h T cut more M (cut.tmod M).toNat zs w (by omega) (by omega) hzl hzr (by omega) (by omega) hE hp hn (hns _ (by omega)) hnl bm.1 bm.2 (by omega) (by omega)
  · exact there_bad k p N z m st h T cut more _ w (by omega) (by omega) rfl hE

end Go.Proofs.Ytgdmagmbkmgdfac
