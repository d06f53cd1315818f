/-
  SEAT YtgdmagmbkmgdfabDoor: Check, the program's and the reference's.
-/
import Derived.Test.YtgdmagmbkmgdfabDoorCkKinA
import Derived.Test.YtgdmagmbkmgdfabDoorCkKinB
import Derived.Test.YtgdmagmbkmgdfabDoorCkKinC
import Derived.Test.YtgdmagmbkmgdfabDoorCkKinD
import Derived.Test.YtgdmagmbkmgdfabDoorCkKinE
import Derived.Test.YtgdmagmbkmgdfabDoorCkKin4
namespace Go.Proofs.YtgdmagmbkmgdfabDoor.chk
open Go.RowKit
set_option linter.unusedVariables false

theorem kind_any (k f s b o c n z : Int) (w : World) : Calls Tryd.prog 24 #[.agg #[.int .i64 k, .int .i64 f, .int .u64 s, .int .u64 b, .int .i64 o, .int .i64 c, .int .i64 n, .int .i64 z]] w fun e w' => e = .returned (.bool (Kin k f o c n)) ∧ Below w.heap.size w w' := by
  by_cases h1 : k = 1
  · subst h1; exact kind1 f s b o c n z w
  by_cases h2 : k = 2
  · subst h2; exact kind2 f s b o c n z w
  by_cases h3 : k = 3
  · subst h3; exact kind3 f s b o c n z w
  by_cases h4 : k = 4
  · subst h4
    by_cases g1 : o < 1 ∨ 65536 < o
    · exact kind4_o f s b o c n z w g1
    by_cases g2 : c < 0 ∨ o - 1 < c
    · exact kind4_c f s b o c n z w (by omega) (by omega) g2
    by_cases g3 : c = o - 1
    · by_cases g4 : f = 4
      · exact kind4_e f s b o c n z 4 w (by omega) (by omega) (by omega) (by omega) (Or.inl ⟨g3, rfl⟩) g4
      · exact kind4_n f s b o c n z 4 w (by omega) (by omega) (by omega) (by omega) (Or.inl ⟨g3, rfl⟩) g4
    · by_cases g4 : f = 0
      · exact kind4_e f s b o c n z 0 w (by omega) (by omega) (by omega) (by omega) (Or.inr ⟨g3, rfl⟩) g4
      · exact kind4_n f s b o c n z 0 w (by omega) (by omega) (by omega) (by omega) (Or.inr ⟨g3, rfl⟩) g4
  exact kindx k f s b o c n z w h1 h2 h3 h4

def chkE (B P sec k f s b o c n z : Int) : Int := if Fits B P sec = true then (if Ser s b = true ∧ Pag sec n z = true ∧ Kin k f o c n = true then 0 else 61) else 40
theorem chkE_shape {B P sec k f s b o c n z : Int} (h : Fits B P sec = false) : Ending.returned (.int .i64 40) = .returned (.int .i64 (chkE B P sec k f s b o c n z)) := by simp [chkE, h]
theorem chkE_no {B P sec k f s b o c n z : Int} (h : Fits B P sec = true) (h1 : ¬ (Ser s b = true ∧ Pag sec n z = true ∧ Kin k f o c n = true)) : Ending.returned (.int .i64 61) = .returned (.int .i64 (chkE B P sec k f s b o c n z)) := by
  unfold chkE; rw [if_pos h, if_neg h1]
theorem chkE_ok {B P sec k f s b o c n z : Int} (h : Fits B P sec = true) (h1 : Ser s b = true ∧ Pag sec n z = true ∧ Kin k f o c n = true) : Ending.returned (.int .i64 0) = .returned (.int .i64 (chkE B P sec k f s b o c n z)) := by
  unfold chkE; rw [if_pos h, if_pos h1]
theorem fits_s {b p s : Int} (h : Fits b p s = true) : 1 ≤ s ∧ s ≤ 8 := by
  have := of_decide_eq_true h
  omega

theorem box11 {w u : World} {B P sec k f s b o c n z : Int} (h : Below ((w.alloc (.cells #[.int .i64 B, .int .i64 P, .int .i64 sec] 44)).alloc (.cells #[.int .i64 k, .int .i64 f, .int .u64 s, .int .u64 b, .int .i64 o, .int .i64 c, .int .i64 n, .int .i64 z] 24)).heap.size ((w.alloc (.cells #[.int .i64 B, .int .i64 P, .int .i64 sec] 44)).alloc (.cells #[.int .i64 k, .int .i64 f, .int .u64 s, .int .u64 b, .int .i64 o, .int .i64 c, .int .i64 n, .int .i64 z] 24)) u) :
    u.cell? ⟨w.heap.size, 0, none⟩ = some (.int .i64 B) ∧ u.cell? ⟨w.heap.size, 1, none⟩ = some (.int .i64 P) ∧ u.cell? ⟨w.heap.size, 2, none⟩ = some (.int .i64 sec) ∧ u.cell? ⟨w.heap.size + 1, 0, none⟩ = some (.int .i64 k) ∧ u.cell? ⟨w.heap.size + 1, 1, none⟩ = some (.int .i64 f) ∧ u.cell? ⟨w.heap.size + 1, 2, none⟩ = some (.int .u64 s) ∧ u.cell? ⟨w.heap.size + 1, 3, none⟩ = some (.int .u64 b) ∧ u.cell? ⟨w.heap.size + 1, 4, none⟩ = some (.int .i64 o) ∧ u.cell? ⟨w.heap.size + 1, 5, none⟩ = some (.int .i64 c) ∧ u.cell? ⟨w.heap.size + 1, 6, none⟩ = some (.int .i64 n) ∧ u.cell? ⟨w.heap.size + 1, 7, none⟩ = some (.int .i64 z) := by
  refine ⟨?_, ?_, ?_, ?_, ?_, ?_, ?_, ?_, ?_, ?_, ?_⟩ <;> (rw [h.cell (by simp <;> omega)]; simp)
theorem below2 {w u : World} {x y : Obj} (h : Below ((w.alloc x).alloc y).heap.size ((w.alloc x).alloc y) u) : Below w.heap.size w u :=
  Below.trans (((Below.refl _ _).alloc (Nat.le_refl _) _).alloc (by simp) _) (h.mono (by simp; omega))

set_option maxHeartbeats 4000000 in
theorem check_any (B P sec k f s b o c n z : Int) (w : World) : Calls Tryd.prog 15 #[.agg #[.int .i64 B, .int .i64 P, .int .i64 sec], .agg #[.int .i64 k, .int .i64 f, .int .u64 s, .int .u64 b, .int .i64 o, .int .i64 c, .int .i64 n, .int .i64 z]] w fun e w' => e = .returned (.int .i64 (chkE B P sec k f s b o c n z)) ∧ Below w.heap.size w w' := by
  cases hF : Fits B P sec with
  | false =>
    go_enter Tryd.func15, Tryd.ntmps15
    go_wp2_with (first
      | (go_at_call 21; refine (shape_any _ _ _ _).mono ?_; rintro e u1 ⟨rfl, bel1⟩; rw [hF]))
    go_ret
    exact ⟨chkE_shape hF, below2 bel1⟩
  | true =>
    have hs := fits_s hF
    cases hS : Ser s b with
    | false =>
      go_enter Tryd.func15, Tryd.ntmps15
      go_wp2_with (first
        | (go_at_call 21; refine (shape_any _ _ _ _).mono ?_; rintro e u1 ⟨rfl, bel1⟩; rw [hF]; obtain ⟨a0, a1, a2, c0, c1, c2, c3, c4, c5, c6, c7⟩ := box11 bel1)
        | (go_at_call 22; refine (serials_any _ _ _ _ _ _ _ _ _).mono ?_; rintro e u2 ⟨rfl, bel2⟩; rw [hS]; have bel12 := bel1.trans (bel2.mono bel1.size)))
      go_ret
      exact ⟨chkE_no hF (fun h => by simp [hS] at h), below2 bel12⟩
    | true =>
      cases hP : Pag sec n z with
      | false =>
        go_enter Tryd.func15, Tryd.ntmps15
        go_wp2_with (first
          | (go_at_call 21; refine (shape_any _ _ _ _).mono ?_; rintro e u1 ⟨rfl, bel1⟩; rw [hF]; obtain ⟨a0, a1, a2, c0, c1, c2, c3, c4, c5, c6, c7⟩ := box11 bel1)
          | (go_at_call 22; refine (serials_any _ _ _ _ _ _ _ _ _).mono ?_; rintro e u2 ⟨rfl, bel2⟩; rw [hS]; have bel12 := bel1.trans (bel2.mono bel1.size); obtain ⟨a0, a1, a2, c0, c1, c2, c3, c4, c5, c6, c7⟩ := box11 bel12)
          | (go_at_call 23; refine (fitsPage_any _ _ _ _ _ _ _ _ _ _ _ _ hs.1 hs.2).mono ?_; rintro e u3 ⟨rfl, bel3⟩; rw [hP]; have bel13 := bel12.trans (bel3.mono bel12.size)))
        go_ret
        exact ⟨chkE_no hF (fun h => by simp [hP] at h), below2 bel13⟩
      | true =>
        cases hK : Kin k f o c n with
        | false =>
          go_enter Tryd.func15, Tryd.ntmps15
          go_wp2_with (first
            | (go_at_call 21; refine (shape_any _ _ _ _).mono ?_; rintro e u1 ⟨rfl, bel1⟩; rw [hF]; obtain ⟨a0, a1, a2, c0, c1, c2, c3, c4, c5, c6, c7⟩ := box11 bel1)
            | (go_at_call 22; refine (serials_any _ _ _ _ _ _ _ _ _).mono ?_; rintro e u2 ⟨rfl, bel2⟩; rw [hS]; have bel12 := bel1.trans (bel2.mono bel1.size); obtain ⟨a0, a1, a2, c0, c1, c2, c3, c4, c5, c6, c7⟩ := box11 bel12)
            | (go_at_call 23; refine (fitsPage_any _ _ _ _ _ _ _ _ _ _ _ _ hs.1 hs.2).mono ?_; rintro e u3 ⟨rfl, bel3⟩; rw [hP]; have bel13 := bel12.trans (bel3.mono bel12.size); obtain ⟨a0, a1, a2, c0, c1, c2, c3, c4, c5, c6, c7⟩ := box11 bel13)
            | (go_at_call 24; refine (kind_any _ _ _ _ _ _ _ _ _).mono ?_; rintro e u4 ⟨rfl, bel4⟩; rw [hK]; have bel14 := bel13.trans (bel4.mono bel13.size)))
          go_ret
          exact ⟨chkE_no hF (fun h => by simp [hK] at h), below2 bel14⟩
        | true =>
          go_enter Tryd.func15, Tryd.ntmps15
          go_wp2_with (first
            | (go_at_call 21; refine (shape_any _ _ _ _).mono ?_; rintro e u1 ⟨rfl, bel1⟩; rw [hF]; obtain ⟨a0, a1, a2, c0, c1, c2, c3, c4, c5, c6, c7⟩ := box11 bel1)
            | (go_at_call 22; refine (serials_any _ _ _ _ _ _ _ _ _).mono ?_; rintro e u2 ⟨rfl, bel2⟩; rw [hS]; have bel12 := bel1.trans (bel2.mono bel1.size); obtain ⟨a0, a1, a2, c0, c1, c2, c3, c4, c5, c6, c7⟩ := box11 bel12)
            | (go_at_call 23; refine (fitsPage_any _ _ _ _ _ _ _ _ _ _ _ _ hs.1 hs.2).mono ?_; rintro e u3 ⟨rfl, bel3⟩; rw [hP]; have bel13 := bel12.trans (bel3.mono bel12.size); obtain ⟨a0, a1, a2, c0, c1, c2, c3, c4, c5, c6, c7⟩ := box11 bel13)
            | (go_at_call 24; refine (kind_any _ _ _ _ _ _ _ _ _).mono ?_; rintro e u4 ⟨rfl, bel4⟩; rw [hK]; have bel14 := bel13.trans (bel4.mono bel13.size)))
          go_ret
          exact ⟨chkE_ok hF ⟨hS, hP, hK⟩, below2 bel14⟩

theorem no_any (n : Int) (w : World) : Calls Tryd.prog 7 #[.int .i64 n] w fun e w' => e = .returned (.int .i64 n) ∧ w = w' := by
  go_enter Tryd.func7, Tryd.ntmps7
  go_wp2
  go_ret
  exact ⟨rfl, rfl⟩
end Go.Proofs.YtgdmagmbkmgdfabDoor.chk
