/-
  SEAT YtgdmagmbkmgdfabDoor: numbersOf, Pack.
-/
import Derived.Test.YtgdmagmbkmgdfabDoorCi
namespace Go.Proofs.YtgdmagmbkmgdfabDoor
open Go.RowKit
set_option linter.unusedVariables false

/-- A number as it is carried: one below 0 becomes very great. -/
abbrev un (n : Int) : Int := IntKind.u64.wrap n
theorem un_mod (n : Int) : un n = n % 18446744073709551616 := IntKind.wrap_u64 n
theorem un_pos (n : Int) : 0 ≤ un n := by rw [un_mod]; exact Int.emod_nonneg _ (by decide)

set_option maxHeartbeats 400000 in
theorem numbersOf_any (n0 n1 n2 n3 n4 n5 n6 n7 : Int) (w : World) :
    Calls Tryd.prog 17 #[T8 n0 n1 n2 n3 n4 n5 n6 n7] w fun e w' => e = .returned (.agg #[.int .u64 (un n0), .int .u64 (un n1), .int .u64 n2, .int .u64 n3, .int .u64 (un n4), .int .u64 (un n5), .int .u64 (un n6), .int .u64 (un n7)]) ∧ Below w.heap.size w w' := by
  go_enter Tryd.func17, Tryd.ntmps17
  go_wp2
  exact bodyPost_ret (v := .agg #[.int .u64 (un n0), .int .u64 (un n1), .int .u64 n2, .int .u64 n3, .int .u64 (un n4), .int .u64 (un n5), .int .u64 (un n6), .int .u64 (un n7)]) (by simp [results, Tryd.results17, go_sem]) rfl ⟨rfl, ((Below.refl _ _).alloc (Nat.le_refl _) _).alloc (by simp) _⟩

theorem made_full (w : World) (n : Nat) (hn : n ≤ 9223372036854775807) : Own (w.alloc (.cells (madeCells #[.int .u8 0] n) 5)) w.heap.size w.heap.size n n (List.replicate n 0) := by
  have h := World.ownsRow_lit (base := w.heap.size) (e := 5) (size := 1) w (madeCells #[.int .u8 0] n) n (Nat.le_refl _) (by simp [maxLen]; omega) (by simp [madeCells])
  have e : (madeCells #[Value.int .u8 0] n).toList = (List.replicate n (0 : Int)).map (Value.int .u8) := by
    refine List.ext_getElem (by simp [madeCells]) fun i h1 h2 => ?_
    simp [madeCells, Nat.mod_one]
  rw [e] at h
  exact h

theorem Own.alloc' {w : World} {B g n cap : Nat} {xs : List Int} (h : Own w B g n cap xs) (o : Obj) : Own (w.alloc o) B g n cap xs := World.ownsRow.alloc h o

theorem own_dn {w : World} {B B' g n c : Nat} {xs : List Int} (h : Own w B g n c xs) (hb : B' ≤ B) : Own w B' g n c xs :=
  ⟨h.1, h.2.imp id fun ⟨g, c, cur, h1, h2, h3⟩ => ⟨g, c, cur, h1, Nat.le_trans hb h2, h3⟩⟩

theorem nums8 (u : World) (v0 v1 v2 v3 v4 v5 v6 v7 : Int) : ∀ i, i < 8 → (u.alloc (.cells #[.int .u64 v0, .int .u64 v1, .int .u64 v2, .int .u64 v3, .int .u64 v4, .int .u64 v5, .int .u64 v6, .int .u64 v7] 46)).cell? ⟨u.heap.size, i, none⟩ = some (.int .u64 ([v0, v1, v2, v3, v4, v5, v6, v7].getD i 0)) := by
  intro i hi
  rcases (show i = 0 ∨ i = 1 ∨ i = 2 ∨ i = 3 ∨ i = 4 ∨ i = 5 ∨ i = 6 ∨ i = 7 by omega) with rfl | rfl | rfl | rfl | rfl | rfl | rfl | rfl <;> simp

theorem pos8 (n0 n1 n4 n5 n6 n7 : Int) {n2 n3 : Int} (h2 : 0 ≤ n2) (h3 : 0 ≤ n3) : ∀ i, 0 ≤ [un n0, un n1, n2, n3, un n4, un n5, un n6, un n7].getD i 0 := by
  intro i
  match i with
  | 0 => exact un_pos _
  | 1 => exact un_pos _
  | 2 => exact h2
  | 3 => exact h3
  | 4 => exact un_pos _
  | 5 => exact un_pos _
  | 6 => exact un_pos _
  | 7 => exact un_pos _
  | i + 8 => simp

theorem carry_yes (p g B : Nat) (vs : List Int) (w : World) (hT : Tab w) (hv : ∀ i, i < 8 → w.cell? ⟨p, i, none⟩ = some (.int .u64 (vs.getD i 0))) (hp : p < w.heap.size) (hpg : p ≠ g) (hpos : ∀ i, 0 ≤ vs.getD i 0) (hown : Own w B g 26 26 (List.replicate 26 0)) (hf : Fits vs 8) :
    Calls Tryd.prog 18 #[.int .i64 0, .slice (some ⟨g, 0, none⟩) 26 26, .pointer (some ⟨p, 0, none⟩)] w fun e w' => e = .returned (.bool true) ∧ Own w' B g 26 26 (pk vs 8) ∧ w.grownBy w' (some g) :=
  (carry_in p g B vs w hT hv hp hpg hpos hown).mono fun e w' ⟨h, hg⟩ => by
    rcases h with ⟨he, _, ho⟩ | ⟨_, hn⟩
    · exact ⟨he, ho, hg⟩
    · exact absurd hf hn

theorem carry_no (p g B : Nat) (vs : List Int) (w : World) (hT : Tab w) (hv : ∀ i, i < 8 → w.cell? ⟨p, i, none⟩ = some (.int .u64 (vs.getD i 0))) (hp : p < w.heap.size) (hpg : p ≠ g) (hpos : ∀ i, 0 ≤ vs.getD i 0) (hown : Own w B g 26 26 (List.replicate 26 0)) (hf : ¬ Fits vs 8) :
    Calls Tryd.prog 18 #[.int .i64 0, .slice (some ⟨g, 0, none⟩) 26 26, .pointer (some ⟨p, 0, none⟩)] w fun e w' => e = .returned (.bool false) ∧ w.grownBy w' (some g) :=
  (carry_in p g B vs w hT hv hp hpg hpos hown).mono fun e w' ⟨h, hg⟩ => by
    rcases h with ⟨_, hn, _⟩ | ⟨he, _⟩
    · exact absurd hn hf
    · exact ⟨he, hg⟩

set_option maxHeartbeats 600000 in
set_option maxRecDepth 100000 in
theorem pack_yes (n0 n1 n2 n3 n4 n5 n6 n7 : Int) (w : World) (hT : Tab w) (h2 : 0 ≤ n2) (h3 : 0 ≤ n3) (hf : Fits [un n0, un n1, n2, n3, un n4, un n5, un n6, un n7] 8) :
    Calls Tryd.prog 9 #[T8 n0 n1 n2 n3 n4 n5 n6 n7] w fun e w' => (∃ g c, e = .returned (.tuple #[.slice (some ⟨g, 0, none⟩) 26 c, .int .i64 0]) ∧ Own w' w.heap.size g 26 c (pk [un n0, un n1, n2, n3, un n4, un n5, un n6, un n7] 8)) ∧ Below w.heap.size w w' := by
  obtain ⟨i0, hi, hz0, hz1, hz2⟩ := info_parts info5
  have hmk : ∀ u : World, (Instr.makeSlice 25 (.int .i64 26) (.int .i64 26)).run Tryd.prog u =
      .ok (.slice (some ⟨u.heap.size, 0, none⟩) 26 26) (u.alloc (.cells (madeCells #[.int .u8 0] 26) 5)) := fun u => by
    have h := run_make (P := Tryd.prog) u 25 5 i0 (.int .u8 0) Tryd.underlying25 hi hz0 .i64 .i64 26 26 (by omega) (by omega) (by rw [hz2]; omega) (by omega)
    simpa [hz1, Value.cells] using h
  obtain ⟨C, hC⟩ : ∃ C, C = madeCells #[Value.int .u8 0] 26 := ⟨_, rfl⟩
  have o0 : Own ((w.alloc (.cells #[.int .i64 n0, .int .i64 n1, .int .u64 n2, .int .u64 n3, .int .i64 n4, .int .i64 n5, .int .i64 n6, .int .i64 n7] 24)).alloc (.cells C 5)) (w.heap.size + 1) (w.heap.size + 1) 26 26 (List.replicate 26 0) := by
    have h := made_full (w.alloc (.cells #[.int .i64 n0, .int .i64 n1, .int .u64 n2, .int .u64 n3, .int .i64 n4, .int .i64 n5, .int .i64 n6, .int .i64 n7] 24)) 26 (by omega)
    rw [← hC] at h
    simpa using h
  have bA : Below w.heap.size w ((w.alloc (.cells #[.int .i64 n0, .int .i64 n1, .int .u64 n2, .int .u64 n3, .int .i64 n4, .int .i64 n5, .int .i64 n6, .int .i64 n7] 24)).alloc (.cells C 5)) := ((Below.refl _ _).alloc (Nat.le_refl _) _).alloc (by simp) _
  rw [← hC] at hmk
  have HO : Hid (Own _ _ _ _ _ _) := o0
  have HBA : Hid (Below _ _ _) := bA
  have HT : Hid (Tab w) := hT
  have HF : Hid (Fits [un n0, un n1, n2, n3, un n4, un n5, un n6, un n7] 8) := hf
  clear hC o0 bA hT hf
  go_enter Tryd.func9, Tryd.ntmps9
  go_wp2_with (first
    | (go_at_call 17; refine (numbersOf_any _ _ _ _ _ _ _ _ _).mono ?_; rintro e u1 ⟨rfl, b1⟩; have o1 := HO.out.below b1; have bw1 := HBA.out.trans (b1.mono HBA.out.size); have bB := bw1.alloc bw1.size (.cells #[.int .u64 (un n0), .int .u64 (un n1), .int .u64 n2, .int .u64 n3, .int .u64 (un n4), .int .u64 (un n5), .int .u64 (un n6), .int .u64 (un n7)] 46); have o2 := o1.alloc' (.cells #[.int .u64 (un n0), .int .u64 (un n1), .int .u64 n2, .int .u64 n3, .int .u64 (un n4), .int .u64 (un n5), .int .u64 (un n6), .int .u64 (un n7)] 46); have hg1 := o1.lt.2; clear b1 o1)
    | (go_at_call 18; refine (carry_yes u1.heap.size (w.heap.size + 1) (w.heap.size + 1) [un n0, un n1, n2, n3, un n4, un n5, un n6, un n7] _ ?_ ?_ ?_ ?_ ?_ ?_ ?_).mono ?_; exact HT.out.below bB; exact nums8 u1 _ _ _ _ _ _ _ _; simp; omega; exact pos8 _ _ _ _ _ _ h2 h3; exact o2; exact HF.out; rintro e u2 ⟨rfl, o3, g2⟩; have bw2 := bB.grown g2 bB.size (fun k hk => by cases hk; omega)))
  go_ret2
  exact ⟨⟨_, _, rfl, own_dn o3 (by omega)⟩, bw2⟩

set_option maxHeartbeats 600000 in
set_option maxRecDepth 100000 in
theorem pack_no (n0 n1 n2 n3 n4 n5 n6 n7 : Int) (w : World) (hT : Tab w) (h2 : 0 ≤ n2) (h3 : 0 ≤ n3) (hf : ¬ Fits [un n0, un n1, n2, n3, un n4, un n5, un n6, un n7] 8) :
    Calls Tryd.prog 9 #[T8 n0 n1 n2 n3 n4 n5 n6 n7] w fun e w' => e = .returned (.tuple #[.slice none 0 0, .int .i64 61]) ∧ Below w.heap.size w w' := by
  obtain ⟨i0, hi, hz0, hz1, hz2⟩ := info_parts info5
  have hmk : ∀ u : World, (Instr.makeSlice 25 (.int .i64 26) (.int .i64 26)).run Tryd.prog u =
      .ok (.slice (some ⟨u.heap.size, 0, none⟩) 26 26) (u.alloc (.cells (madeCells #[.int .u8 0] 26) 5)) := fun u => by
    have h := run_make (P := Tryd.prog) u 25 5 i0 (.int .u8 0) Tryd.underlying25 hi hz0 .i64 .i64 26 26 (by omega) (by omega) (by rw [hz2]; omega) (by omega)
    simpa [hz1, Value.cells] using h
  obtain ⟨C, hC⟩ : ∃ C, C = madeCells #[Value.int .u8 0] 26 := ⟨_, rfl⟩
  have o0 : Own ((w.alloc (.cells #[.int .i64 n0, .int .i64 n1, .int .u64 n2, .int .u64 n3, .int .i64 n4, .int .i64 n5, .int .i64 n6, .int .i64 n7] 24)).alloc (.cells C 5)) (w.heap.size + 1) (w.heap.size + 1) 26 26 (List.replicate 26 0) := by
    have h := made_full (w.alloc (.cells #[.int .i64 n0, .int .i64 n1, .int .u64 n2, .int .u64 n3, .int .i64 n4, .int .i64 n5, .int .i64 n6, .int .i64 n7] 24)) 26 (by omega)
    rw [← hC] at h
    simpa using h
  have bA : Below w.heap.size w ((w.alloc (.cells #[.int .i64 n0, .int .i64 n1, .int .u64 n2, .int .u64 n3, .int .i64 n4, .int .i64 n5, .int .i64 n6, .int .i64 n7] 24)).alloc (.cells C 5)) := ((Below.refl _ _).alloc (Nat.le_refl _) _).alloc (by simp) _
  rw [← hC] at hmk
  have HO : Hid (Own _ _ _ _ _ _) := o0
  have HBA : Hid (Below _ _ _) := bA
  have HT : Hid (Tab w) := hT
  have HF : Hid (¬ Fits [un n0, un n1, n2, n3, un n4, un n5, un n6, un n7] 8) := hf
  clear hC o0 bA hT hf
  go_enter Tryd.func9, Tryd.ntmps9
  go_wp2_with (first
    | (go_at_call 17; refine (numbersOf_any _ _ _ _ _ _ _ _ _).mono ?_; rintro e u1 ⟨rfl, b1⟩; have o1 := HO.out.below b1; have bw1 := HBA.out.trans (b1.mono HBA.out.size); have bB := bw1.alloc bw1.size (.cells #[.int .u64 (un n0), .int .u64 (un n1), .int .u64 n2, .int .u64 n3, .int .u64 (un n4), .int .u64 (un n5), .int .u64 (un n6), .int .u64 (un n7)] 46); have o2 := o1.alloc' (.cells #[.int .u64 (un n0), .int .u64 (un n1), .int .u64 n2, .int .u64 n3, .int .u64 (un n4), .int .u64 (un n5), .int .u64 (un n6), .int .u64 (un n7)] 46); have hg1 := o1.lt.2; clear b1 o1)
    | (go_at_call 18; refine (carry_no u1.heap.size (w.heap.size + 1) (w.heap.size + 1) [un n0, un n1, n2, n3, un n4, un n5, un n6, un n7] _ ?_ ?_ ?_ ?_ ?_ ?_ ?_).mono ?_; exact HT.out.below bB; exact nums8 u1 _ _ _ _ _ _ _ _; simp; omega; exact pos8 _ _ _ _ _ _ h2 h3; exact o2; exact HF.out; rintro e u2 ⟨rfl, g2⟩; have bw2 := bB.grown g2 bB.size (fun k hk => by cases hk; omega)))
  go_ret2
  exact ⟨rfl, bw2⟩
end Go.Proofs.YtgdmagmbkmgdfabDoor
