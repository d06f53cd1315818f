/-
  SEAT YtgdmagmbkmgdfaaDoor: the reference's Pack.
-/
import Derived.Test.YtgdmagmbkmgdfaaDoorPb
namespace Go.Proofs.YtgdmagmbkmgdfaaDoor
open Go.RowKit
set_option linter.unusedVariables false

theorem Box.c0 {w : World} {T : Nat} {n0 n1 n2 n3 n4 n5 n6 n7 : Int} (h : Box w T n0 n1 n2 n3 n4 n5 n6 n7) : w.cell? ⟨T, 0, none⟩ = some (.int .i64 n0) := by unfold Box at h; simp [World.cell?, h]
theorem Box.c1 {w : World} {T : Nat} {n0 n1 n2 n3 n4 n5 n6 n7 : Int} (h : Box w T n0 n1 n2 n3 n4 n5 n6 n7) : w.cell? ⟨T, 1, none⟩ = some (.int .i64 n1) := by unfold Box at h; simp [World.cell?, h]
theorem Box.c2 {w : World} {T : Nat} {n0 n1 n2 n3 n4 n5 n6 n7 : Int} (h : Box w T n0 n1 n2 n3 n4 n5 n6 n7) : w.cell? ⟨T, 2, none⟩ = some (.int .u64 n2) := by unfold Box at h; simp [World.cell?, h]
theorem Box.c3 {w : World} {T : Nat} {n0 n1 n2 n3 n4 n5 n6 n7 : Int} (h : Box w T n0 n1 n2 n3 n4 n5 n6 n7) : w.cell? ⟨T, 3, none⟩ = some (.int .u64 n3) := by unfold Box at h; simp [World.cell?, h]
theorem Box.c4 {w : World} {T : Nat} {n0 n1 n2 n3 n4 n5 n6 n7 : Int} (h : Box w T n0 n1 n2 n3 n4 n5 n6 n7) : w.cell? ⟨T, 4, none⟩ = some (.int .i64 n4) := by unfold Box at h; simp [World.cell?, h]
theorem Box.c5 {w : World} {T : Nat} {n0 n1 n2 n3 n4 n5 n6 n7 : Int} (h : Box w T n0 n1 n2 n3 n4 n5 n6 n7) : w.cell? ⟨T, 5, none⟩ = some (.int .i64 n5) := by unfold Box at h; simp [World.cell?, h]
theorem Box.c6 {w : World} {T : Nat} {n0 n1 n2 n3 n4 n5 n6 n7 : Int} (h : Box w T n0 n1 n2 n3 n4 n5 n6 n7) : w.cell? ⟨T, 6, none⟩ = some (.int .i64 n6) := by unfold Box at h; simp [World.cell?, h]
theorem Box.c7 {w : World} {T : Nat} {n0 n1 n2 n3 n4 n5 n6 n7 : Int} (h : Box w T n0 n1 n2 n3 n4 n5 n6 n7) : w.cell? ⟨T, 7, none⟩ = some (.int .i64 n7) := by unfold Box at h; simp [World.cell?, h]

/-- Do all fields fit their bytes? -/
def Small (n0 n1 n2 n3 n4 n5 n6 n7 : Int) : Prop := (0 ≤ n0 ∧ n0 ≤ 255) ∧ (0 ≤ n1 ∧ n1 ≤ 255) ∧ n2 ≤ 281474976710655 ∧ n3 ≤ 281474976710655 ∧ (0 ≤ n4 ∧ n4 ≤ 4294967295) ∧ (0 ≤ n5 ∧ n5 ≤ 4294967295) ∧ (0 ≤ n6 ∧ n6 ≤ 65535) ∧ (0 ≤ n7 ∧ n7 ≤ 65535)
/-- The bytes of fields. -/
def tagL (n0 n1 n2 n3 n4 n5 n6 n7 : Int) : List Int := lowL n0 1 ++ lowL n1 1 ++ lowL n2 6 ++ lowL n3 6 ++ lowL n4 4 ++ lowL n5 4 ++ lowL n6 2 ++ lowL n7 2
theorem tagL_length (n0 n1 n2 n3 n4 n5 n6 n7 : Int) : (tagL n0 n1 n2 n3 n4 n5 n6 n7).length = 26 := by simp [tagL, lowL_length]
theorem tagL_range (n0 n1 n2 n3 n4 n5 n6 n7 : Int) : ∀ x ∈ tagL n0 n1 n2 n3 n4 n5 n6 n7, 0 ≤ x ∧ x ≤ 255 := by
  intro x hx
  simp only [tagL, List.mem_append] at hx
  rcases hx with ((((((hx | hx) | hx) | hx) | hx) | hx) | hx) | hx <;> exact lowL_range _ _ x hx

set_option maxHeartbeats 2000000 in
set_option maxRecDepth 100000 in
theorem rpack_no (n0 n1 n2 n3 n4 n5 n6 n7 : Int) (w : World) (hs : ¬ Small n0 n1 n2 n3 n4 n5 n6 n7) :
    Calls Tryd.prog 14 #[T8 n0 n1 n2 n3 n4 n5 n6 n7] w fun e w' => e = .returned (.tuple #[.slice none 0 0, .int .i64 61]) ∧ Below w.heap.size w w' := by
  unfold Small at hs
  by_cases k0 : 0 ≤ n0 ∧ n0 ≤ 255
  case neg =>
    clear hs
    go_enter Tryd.func14, Tryd.ntmps14
    go_wp2_with (first
      | (go_at_call 25; refine (rfits_yes _ _ _ ?_ ?_).mono ?_; omega; omega; rintro e u ⟨rfl, rfl⟩)
      | (go_at_call 25; refine (rfits_no _ _ _ ?_).mono ?_; omega; rintro e u ⟨rfl, rfl⟩))
    go_ret2
    exact ⟨rfl, (Below.refl _ _).alloc (Nat.le_refl _) _⟩
  by_cases k1 : 0 ≤ n1 ∧ n1 ≤ 255
  case neg =>
    clear hs
    go_enter Tryd.func14, Tryd.ntmps14
    go_wp2_with (first
      | (go_at_call 25; refine (rfits_yes _ _ _ ?_ ?_).mono ?_; omega; omega; rintro e u ⟨rfl, rfl⟩)
      | (go_at_call 25; refine (rfits_no _ _ _ ?_).mono ?_; omega; rintro e u ⟨rfl, rfl⟩))
    go_ret2
    exact ⟨rfl, (Below.refl _ _).alloc (Nat.le_refl _) _⟩
  by_cases k2 : n2 ≤ 281474976710655
  case neg =>
    clear hs
    have j2 : 281474976710655 < n2 := by omega
    go_enter Tryd.func14, Tryd.ntmps14
    go_wp2_with (first
      | (go_at_call 25; refine (rfits_yes _ _ _ ?_ ?_).mono ?_; omega; omega; rintro e u ⟨rfl, rfl⟩)
      | (go_at_call 25; refine (rfits_no _ _ _ ?_).mono ?_; omega; rintro e u ⟨rfl, rfl⟩))
    go_ret2
    exact ⟨rfl, (Below.refl _ _).alloc (Nat.le_refl _) _⟩
  have j2 : ¬ 281474976710655 < n2 := by omega
  by_cases k3 : n3 ≤ 281474976710655
  case neg =>
    clear hs
    have j3 : 281474976710655 < n3 := by omega
    go_enter Tryd.func14, Tryd.ntmps14
    go_wp2_with (first
      | (go_at_call 25; refine (rfits_yes _ _ _ ?_ ?_).mono ?_; omega; omega; rintro e u ⟨rfl, rfl⟩)
      | (go_at_call 25; refine (rfits_no _ _ _ ?_).mono ?_; omega; rintro e u ⟨rfl, rfl⟩))
    go_ret2
    exact ⟨rfl, (Below.refl _ _).alloc (Nat.le_refl _) _⟩
  have j3 : ¬ 281474976710655 < n3 := by omega
  by_cases k4 : 0 ≤ n4 ∧ n4 ≤ 4294967295
  case neg =>
    clear hs
    go_enter Tryd.func14, Tryd.ntmps14
    go_wp2_with (first
      | (go_at_call 25; refine (rfits_yes _ _ _ ?_ ?_).mono ?_; omega; omega; rintro e u ⟨rfl, rfl⟩)
      | (go_at_call 25; refine (rfits_no _ _ _ ?_).mono ?_; omega; rintro e u ⟨rfl, rfl⟩))
    go_ret2
    exact ⟨rfl, (Below.refl _ _).alloc (Nat.le_refl _) _⟩
  by_cases k5 : 0 ≤ n5 ∧ n5 ≤ 4294967295
  case neg =>
    clear hs
    go_enter Tryd.func14, Tryd.ntmps14
    go_wp2_with (first
      | (go_at_call 25; refine (rfits_yes _ _ _ ?_ ?_).mono ?_; omega; omega; rintro e u ⟨rfl, rfl⟩)
      | (go_at_call 25; refine (rfits_no _ _ _ ?_).mono ?_; omega; rintro e u ⟨rfl, rfl⟩))
    go_ret2
    exact ⟨rfl, (Below.refl _ _).alloc (Nat.le_refl _) _⟩
  by_cases k6 : 0 ≤ n6 ∧ n6 ≤ 65535
  case neg =>
    clear hs
    go_enter Tryd.func14, Tryd.ntmps14
    go_wp2_with (first
      | (go_at_call 25; refine (rfits_yes _ _ _ ?_ ?_).mono ?_; omega; omega; rintro e u ⟨rfl, rfl⟩)
      | (go_at_call 25; refine (rfits_no _ _ _ ?_).mono ?_; omega; rintro e u ⟨rfl, rfl⟩))
    go_ret2
    exact ⟨rfl, (Below.refl _ _).alloc (Nat.le_refl _) _⟩
  by_cases k7 : 0 ≤ n7 ∧ n7 ≤ 65535
  case neg =>
    clear hs
    go_enter Tryd.func14, Tryd.ntmps14
    go_wp2_with (first
      | (go_at_call 25; refine (rfits_yes _ _ _ ?_ ?_).mono ?_; omega; omega; rintro e u ⟨rfl, rfl⟩)
      | (go_at_call 25; refine (rfits_no _ _ _ ?_).mono ?_; omega; rintro e u ⟨rfl, rfl⟩))
    go_ret2
    exact ⟨rfl, (Below.refl _ _).alloc (Nat.le_refl _) _⟩
  exact absurd ⟨k0, k1, k2, k3, k4, k5, k6, k7⟩ hs

theorem own_any' {w : World} {B n : Nat} {v : Value} {xs : List Int} (h : w.ownsRow B 5 1 v n (xs.map (Value.int .u8))) (hr : ∀ x ∈ xs, 0 ≤ x ∧ x ≤ 255) : ∃ a c, v = .slice a n c := by
  obtain ⟨a, c, e, _⟩ := own_any h hr
  exact ⟨a, c, e⟩
theorem own_kept {w w' : World} {B n : Nat} {v : Value} {xs : List Value} (h : w.ownsRow B 5 1 v n xs) (hb : Below w.heap.size w w') : w'.ownsRow B 5 1 v n xs := by
  obtain ⟨h1, h2⟩ := h
  refine ⟨h1, ?_⟩
  rcases h2 with h2 | ⟨g', cap', cur, hv, hg, hh, r⟩
  · exact Or.inl h2
  · refine Or.inr ⟨g', cap', cur, hv, hg, ?_, r⟩
    rw [hb.block g' ?_]
    · exact hh
    · rcases Nat.lt_or_ge g' w.heap.size with h | h
      · exact h
      · simp [Array.getElem?_eq_none h] at hh

theorem rd_of {w : World} {B n c : Nat} {a : Option Addr} {xs : List Int} (h : w.ownsRow B 5 1 (.slice a n c) n (xs.map (Value.int .u8))) (hr : ∀ x ∈ xs, 0 ≤ x ∧ x ≤ 255) : Reads w a n xs := by
  obtain ⟨a', c', e, hrd⟩ := own_any h hr
  cases e
  exact hrd

theorem box_grown {w w' : World} {T B n : Nat} {n0 n1 n2 n3 n4 n5 n6 n7 : Int} {v : Value} {xs : List Value} (h : Box w T n0 n1 n2 n3 n4 n5 n6 n7) (ho : w.ownsRow B 5 1 v n xs) (hg : w.grownBy w' v.ownBlock) : Box w' T n0 n1 n2 n3 n4 n5 n6 n7 := by
  refine (hg.block T h.lt fun e => ?_).trans h
  rcases ho.2 with ⟨rfl, _⟩ | ⟨g', cap, cur, rfl, _, hh, _⟩
  · cases e
  · simp [Value.ownBlock] at e
    subst e
    unfold Box at h
    rw [h] at hh
    simp at hh

set_option maxHeartbeats 2000000 in
set_option maxRecDepth 100000 in
theorem rpack_yes (n0 n1 n2 n3 n4 n5 n6 n7 : Int) (w : World) (h2 : 0 ≤ n2) (h3 : 0 ≤ n3) (hs : Small n0 n1 n2 n3 n4 n5 n6 n7) :
    Calls Tryd.prog 14 #[T8 n0 n1 n2 n3 n4 n5 n6 n7] w fun e w' => (∃ g c, e = .returned (.tuple #[.slice (some ⟨g, 0, none⟩) 26 c, .int .i64 0]) ∧ Own w' w.heap.size g 26 c (tagL n0 n1 n2 n3 n4 n5 n6 n7)) ∧ Below w.heap.size w w' := by
  obtain ⟨⟨p0, q0⟩, ⟨p1, q1⟩, q2, q3, ⟨p4, q4⟩, ⟨p5, q5⟩, ⟨p6, q6⟩, ⟨p7, q7⟩⟩ := hs
  have j2 : ¬ 281474976710655 < n2 := by omega
  have j3 : ¬ 281474976710655 < n3 := by omega
  have w0 : IntKind.u64.wrap n0 = n0 := by rw [IntKind.wrap_u64]; omega
  have w1 : IntKind.u64.wrap n1 = n1 := by rw [IntKind.wrap_u64]; omega
  have w4 : IntKind.u64.wrap n4 = n4 := by rw [IntKind.wrap_u64]; omega
  have w5 : IntKind.u64.wrap n5 = n5 := by rw [IntKind.wrap_u64]; omega
  have w6 : IntKind.u64.wrap n6 = n6 := by rw [IntKind.wrap_u64]; omega
  have w7 : IntKind.u64.wrap n7 = n7 := by rw [IntKind.wrap_u64]; omega
  have HR : Hid (∀ (v : Int) (n : Nat), ∀ x ∈ lowL v n, 0 ≤ x ∧ x ≤ 255) := lowL_range
  have HB0 : Hid (Box (w.alloc (.cells #[.int .i64 n0, .int .i64 n1, .int .u64 n2, .int .u64 n3, .int .i64 n4, .int .i64 n5, .int .i64 n6, .int .i64 n7] 25)) w.heap.size n0 n1 n2 n3 n4 n5 n6 n7) := Box.made w n0 n1 n2 n3 n4 n5 n6 n7
  have HBA : Hid (Below w.heap.size w (w.alloc (.cells #[.int .i64 n0, .int .i64 n1, .int .u64 n2, .int .u64 n3, .int .i64 n4, .int .i64 n5, .int .i64 n6, .int .i64 n7] 25))) := (Below.refl _ _).alloc (Nat.le_refl _) _
  have g0 : Hid True := trivial
  go_enter Tryd.func14, Tryd.ntmps14
  go_wp2_with (first
    | (go_at_call 25; refine (rfits_yes _ _ _ ?_ ?_).mono ?_; omega; omega; rintro e u ⟨rfl, rfl⟩)
    | (go_at_call 26; have h9 := g0; clear h9; refine (low_any n0 1 _ ?_ ?_ ?_).mono ?_; omega; omega; omega; rintro e u0 ⟨a0, c0, rfl, o0, b0⟩; have bx0 := HB0.out.below b0; have bw0 := HBA.out.trans (b0.mono HBA.out.size); have x1 := bx0.c1; have r0 : u0.ownsRow w.heap.size 5 1 (.slice a0 1 c0) 1 ((lowL n0 1).map (Value.int .u8)) := ⟨o0.1, o0.2.imp id fun ⟨g, c, cur, h1, h2, h3⟩ => ⟨g, c, cur, h1, Nat.le_trans HBA.out.size h2, h3⟩⟩; clear g0 b0 o0)
    | (go_at_call 26; have h9 := x1; clear h9; refine (low_any n1 1 _ ?_ ?_ ?_).mono ?_; omega; omega; omega; rintro e u1' ⟨a1, c1, rfl, o1, b1⟩; have m1 := own_kept r0 b1; have rd1 := rd_of o1 (HR.out _ _); have by1 := bx0.below b1; have bz1 := bw0.trans (b1.mono bw0.size); clear x1 r0 o1 b1 bx0 bw0)
    | (at_builtin; have h9 := m1; clear h9; refine wpList_append_reads rfl (.tmp 51) (.tmp 55) rfl w.heap.size _ 1 (lowL n0 1) rfl m1 _ _ _ (lowL n1 1) rfl rd1 (by omega) bz1.size ?_; intro y1 v1 r1 gr1; obtain ⟨ga1, gc1, hy1⟩ := own_any' r1 (by intro x hx; simp only [List.mem_append] at hx; rcases hx with hx | hx <;> exact HR.out _ _ x hx); subst hy1; have bx1 : Box v1 w.heap.size n0 n1 n2 n3 n4 n5 n6 n7 := box_grown by1 m1 gr1; have bw1 := bz1.grown gr1 bz1.size (fun k hk => (m1.lt k hk).1); have x2 := bx1.c2; clear m1 rd1 by1 bz1 gr1)
    | (go_at_call 26; have h9 := x2; clear h9; refine (low_any n2 6 _ ?_ ?_ ?_).mono ?_; omega; omega; omega; rintro e u2' ⟨a2, c2, rfl, o2, b2⟩; have m2 := own_kept r1 b2; have rd2 := rd_of o2 (HR.out _ _); have by2 := bx1.below b2; have bz2 := bw1.trans (b2.mono bw1.size); clear x2 r1 o2 b2 bx1 bw1)
    | (at_builtin; have h9 := m2; clear h9; refine wpList_append_reads rfl (.tmp 57) (.tmp 60) rfl w.heap.size _ 2 (lowL n0 1 ++ lowL n1 1) rfl m2 _ _ _ (lowL n2 6) rfl rd2 (by omega) bz2.size ?_; intro y2 v2 r2 gr2; obtain ⟨ga2, gc2, hy2⟩ := own_any' r2 (by intro x hx; simp only [List.mem_append] at hx; rcases hx with (hx | hx) | hx <;> exact HR.out _ _ x hx); subst hy2; have bx2 : Box v2 w.heap.size n0 n1 n2 n3 n4 n5 n6 n7 := box_grown by2 m2 gr2; have bw2 := bz2.grown gr2 bz2.size (fun k hk => (m2.lt k hk).1); have x3 := bx2.c3; clear m2 rd2 by2 bz2 gr2)
    | (go_at_call 26; have h9 := x3; clear h9; refine (low_any n3 6 _ ?_ ?_ ?_).mono ?_; omega; omega; omega; rintro e u3' ⟨a3, c3, rfl, o3, b3⟩; have m3 := own_kept r2 b3; have rd3 := rd_of o3 (HR.out _ _); have by3 := bx2.below b3; have bz3 := bw2.trans (b3.mono bw2.size); clear x3 r2 o3 b3 bx2 bw2)
    | (at_builtin; have h9 := m3; clear h9; refine wpList_append_reads rfl (.tmp 62) (.tmp 65) rfl w.heap.size _ 8 (lowL n0 1 ++ lowL n1 1 ++ lowL n2 6) rfl m3 _ _ _ (lowL n3 6) rfl rd3 (by omega) bz3.size ?_; intro y3 v3 r3 gr3; obtain ⟨ga3, gc3, hy3⟩ := own_any' r3 (by intro x hx; simp only [List.mem_append] at hx; rcases hx with ((hx | hx) | hx) | hx <;> exact HR.out _ _ x hx); subst hy3; have bx3 : Box v3 w.heap.size n0 n1 n2 n3 n4 n5 n6 n7 := box_grown by3 m3 gr3; have bw3 := bz3.grown gr3 bz3.size (fun k hk => (m3.lt k hk).1); have x4 := bx3.c4; clear m3 rd3 by3 bz3 gr3)
    | (go_at_call 26; have h9 := x4; clear h9; refine (low_any n4 4 _ ?_ ?_ ?_).mono ?_; omega; omega; omega; rintro e u4' ⟨a4, c4, rfl, o4, b4⟩; have m4 := own_kept r3 b4; have rd4 := rd_of o4 (HR.out _ _); have by4 := bx3.below b4; have bz4 := bw3.trans (b4.mono bw3.size); clear x4 r3 o4 b4 bx3 bw3)
    | (at_builtin; have h9 := m4; clear h9; refine wpList_append_reads rfl (.tmp 67) (.tmp 71) rfl w.heap.size _ 14 (lowL n0 1 ++ lowL n1 1 ++ lowL n2 6 ++ lowL n3 6) rfl m4 _ _ _ (lowL n4 4) rfl rd4 (by omega) bz4.size ?_; intro y4 v4 r4 gr4; obtain ⟨ga4, gc4, hy4⟩ := own_any' r4 (by intro x hx; simp only [List.mem_append] at hx; rcases hx with (((hx | hx) | hx) | hx) | hx <;> exact HR.out _ _ x hx); subst hy4; have bx4 : Box v4 w.heap.size n0 n1 n2 n3 n4 n5 n6 n7 := box_grown by4 m4 gr4; have bw4 := bz4.grown gr4 bz4.size (fun k hk => (m4.lt k hk).1); have x5 := bx4.c5; clear m4 rd4 by4 bz4 gr4)
    | (go_at_call 26; have h9 := x5; clear h9; refine (low_any n5 4 _ ?_ ?_ ?_).mono ?_; omega; omega; omega; rintro e u5' ⟨a5, c5, rfl, o5, b5⟩; have m5 := own_kept r4 b5; have rd5 := rd_of o5 (HR.out _ _); have by5 := bx4.below b5; have bz5 := bw4.trans (b5.mono bw4.size); clear x5 r4 o5 b5 bx4 bw4)
    | (at_builtin; have h9 := m5; clear h9; refine wpList_append_reads rfl (.tmp 73) (.tmp 77) rfl w.heap.size _ 18 (lowL n0 1 ++ lowL n1 1 ++ lowL n2 6 ++ lowL n3 6 ++ lowL n4 4) rfl m5 _ _ _ (lowL n5 4) rfl rd5 (by omega) bz5.size ?_; intro y5 v5 r5 gr5; obtain ⟨ga5, gc5, hy5⟩ := own_any' r5 (by intro x hx; simp only [List.mem_append] at hx; rcases hx with ((((hx | hx) | hx) | hx) | hx) | hx <;> exact HR.out _ _ x hx); subst hy5; have bx5 : Box v5 w.heap.size n0 n1 n2 n3 n4 n5 n6 n7 := box_grown by5 m5 gr5; have bw5 := bz5.grown gr5 bz5.size (fun k hk => (m5.lt k hk).1); have x6 := bx5.c6; clear m5 rd5 by5 bz5 gr5)
    | (go_at_call 26; have h9 := x6; clear h9; refine (low_any n6 2 _ ?_ ?_ ?_).mono ?_; omega; omega; omega; rintro e u6' ⟨a6, c6, rfl, o6, b6⟩; have m6 := own_kept r5 b6; have rd6 := rd_of o6 (HR.out _ _); have by6 := bx5.below b6; have bz6 := bw5.trans (b6.mono bw5.size); clear x6 r5 o6 b6 bx5 bw5)
    | (at_builtin; have h9 := m6; clear h9; refine wpList_append_reads rfl (.tmp 79) (.tmp 83) rfl w.heap.size _ 22 (lowL n0 1 ++ lowL n1 1 ++ lowL n2 6 ++ lowL n3 6 ++ lowL n4 4 ++ lowL n5 4) rfl m6 _ _ _ (lowL n6 2) rfl rd6 (by omega) bz6.size ?_; intro y6 v6 r6 gr6; obtain ⟨ga6, gc6, hy6⟩ := own_any' r6 (by intro x hx; simp only [List.mem_append] at hx; rcases hx with (((((hx | hx) | hx) | hx) | hx) | hx) | hx <;> exact HR.out _ _ x hx); subst hy6; have bx6 : Box v6 w.heap.size n0 n1 n2 n3 n4 n5 n6 n7 := box_grown by6 m6 gr6; have bw6 := bz6.grown gr6 bz6.size (fun k hk => (m6.lt k hk).1); have x7 := bx6.c7; clear m6 rd6 by6 bz6 gr6)
    | (go_at_call 26; have h9 := x7; clear h9; refine (low_any n7 2 _ ?_ ?_ ?_).mono ?_; omega; omega; omega; rintro e u7' ⟨a7, c7, rfl, o7, b7⟩; have m7 := own_kept r6 b7; have rd7 := rd_of o7 (HR.out _ _); have by7 := bx6.below b7; have bz7 := bw6.trans (b7.mono bw6.size); clear x7 r6 o7 b7 bx6 bw6)
    | (at_builtin; have h9 := m7; clear h9; refine wpList_append_reads rfl (.tmp 85) (.tmp 89) rfl w.heap.size _ 24 (lowL n0 1 ++ lowL n1 1 ++ lowL n2 6 ++ lowL n3 6 ++ lowL n4 4 ++ lowL n5 4 ++ lowL n6 2) rfl m7 _ _ _ (lowL n7 2) rfl rd7 (by omega) bz7.size ?_; intro y7 v7 r7 gr7; obtain ⟨ga7, gc7, hy7⟩ := own_any' r7 (by intro x hx; simp only [List.mem_append] at hx; rcases hx with ((((((hx | hx) | hx) | hx) | hx) | hx) | hx) | hx <;> exact HR.out _ _ x hx); subst hy7; have bx7 : Box v7 w.heap.size n0 n1 n2 n3 n4 n5 n6 n7 := box_grown by7 m7 gr7; have bw7 := bz7.grown gr7 bz7.size (fun k hk => (m7.lt k hk).1); clear m7 rd7 by7 bz7 gr7))
  obtain ⟨g, c, hv, _⟩ := own_shape r7 (by omega)
  cases hv
  go_ret2
  exact ⟨⟨_, _, rfl, r7⟩, bw7⟩
end Go.Proofs.YtgdmagmbkmgdfaaDoor
