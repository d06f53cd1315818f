/-
  SEAT Ytgijbpkfheillaa: the reference's Oldest.
-/
import Derived.Test.YtgijbpkfheillaaPlD
namespace Go.Proofs.Ytgijbpkfheillaa
open Go.RowKit
set_option linter.unusedVariables false

theorem lowest_congr {es : List Ent} {p q : Ent → Bool} : ∀ k, (∀ i, i < k → p (es.getD i Ent.zero) = q (es.getD i Ent.zero)) → lowest es p k = lowest es q k
  | 0, _ => rfl
  | k + 1, h => by rw [lowest, lowest, lowest_congr k (fun i hi => h i (by omega)), h k (by omega)]
/-- Logged blocks have a Head. -/
def HeadsE (es : List Ent) : Prop := ∀ i, i < es.length → logE (es.getD i Ent.zero) = true → 0 < (es.getD i Ent.zero).h
theorem next_first {es : List Ent} (h : HeadsE es) : lowest es (nextP 0 false) es.length = lowest es candE es.length :=
  lowest_congr _ (fun i hi => by
    unfold nextP candE
    cases hl : logE (es.getD i Ent.zero) with
    | false => rfl
    | true =>
      rw [decide_eq_true (h i hi hl)]
      simp)
theorem next_above {es : List Ent} (H : Int) : lowest es (nextP H true) es.length = lowest es (aboveE H) es.length :=
  lowest_congr _ (fun i hi => by unfold nextP aboveE; simp)
set_option maxHeartbeats 1000000 in
theorem roldest_any (gr gl g c : Nat) (P : Int) (es : List Ent) (cur last vic : Int) (w : World) (h : RefB w gr gl g c P es cur last vic) (hn : es.length ≤ 5000) (hh : HeadsE es) :
    Calls Try.prog 52 #[.pointer (some ⟨gr, 0, none⟩)] w fun e w' => e = .returned (oldV (oldE es)) ∧ ∃ q, w' = w.drewN q := by
  obtain ⟨c0, c1, c2, c3, c4, c5⟩ := h.cells
  have HB : Hid (RefB w gr gl g c P es cur last vic) := h
  have HN1 : Hid _ := next_first hh
  clear h hh
  cases h1 : lowest es candE es.length with
  | none =>
    have HV : Hid (oldE es = none) := by unfold Hid oldE; rw [h1]
    have H1 : Hid _ := h1
    have oI : optI none = -1 := rfl
    clear h1
    go_enter Try.func52, Try.ntmps52
    go_wp2_with (first | (go_at_call 72; refine (rnext_any gr gl g c P es cur last vic 0 false _ HB.out hn).mono ?_; rintro e tA ⟨rfl, q1, rfl⟩; rw [HN1.out, H1.out, oI]))
    go_ret3
    exact ⟨by rw [HV.out]; rfl, by first | exact ⟨_, rfl⟩ | (simp only [World.drewN_drewN]; exact ⟨_, rfl⟩)⟩
  | some v =>
    have hvl := (lowest_lt h1).1
    have H1 : Hid _ := h1
    have oI : optI (some v) = (v : Int) := rfl
    obtain ⟨_, y1, _, _⟩ := HB.out.entry v hvl
    obtain ⟨H, hH⟩ : ∃ H, (es.getD v Ent.zero).h = H := ⟨_, rfl⟩
    rw [hH] at y1
    have HN2 : Hid _ := next_above (es := es) H
    have dv : (v : Int) < es.length := by omega
    have nv : ¬ ((v : Int) < 0) := by omega
    cases h2 : lowest es (aboveE H) es.length with
    | none =>
      have HV : Hid (oldE es = none) := by unfold Hid oldE; rw [h1]; simp only; rw [hH, h2]
      have H2 : Hid _ := h2
      have oJ : optI none = -1 := rfl
      clear h1 h2 hH
      go_enter Try.func52, Try.ntmps52
      go_wp2_with (first | (go_at_call 72; have h9 := HN1; clear h9; refine (rnext_any gr gl g c P es cur last vic 0 false _ HB.out hn).mono ?_; rintro e tA ⟨rfl, q1, rfl⟩; rw [HN1.out, H1.out, oI]; clear HN1) | (go_at_call 72; refine (rnext_any gr gl g c P es cur last vic H true _ (HB.out.drewN _) hn).mono ?_; rintro e tA ⟨rfl, q2, rfl⟩; rw [HN2.out, H2.out, oJ]))
      go_ret3
      exact ⟨by rw [HV.out]; rfl, by first | exact ⟨_, rfl⟩ | (simp only [World.drewN_drewN]; exact ⟨_, rfl⟩)⟩
    | some x =>
      have hxl := (lowest_lt h2).1
      obtain ⟨_, z1, _, _⟩ := HB.out.entry x hxl
      obtain ⟨X, hX⟩ : ∃ X, (es.getD x Ent.zero).h = X := ⟨_, rfl⟩
      rw [hX] at z1
      have HV : Hid (oldE es = some (v, X)) := by unfold Hid oldE; rw [h1]; simp only; rw [hH, h2]; simp only; rw [hX]
      have H2 : Hid _ := h2
      have oJ : optI (some x) = (x : Int) := rfl
      have dx : (x : Int) < es.length := by omega
      have nx : ¬ ((x : Int) < 0) := by omega
      clear h1 h2 hH hX
      go_enter Try.func52, Try.ntmps52
      go_wp2_with (first | (go_at_call 72; have h9 := HN1; clear h9; refine (rnext_any gr gl g c P es cur last vic 0 false _ HB.out hn).mono ?_; rintro e tA ⟨rfl, q1, rfl⟩; rw [HN1.out, H1.out, oI]; clear HN1) | (go_at_call 72; refine (rnext_any gr gl g c P es cur last vic H true _ (HB.out.drewN _) hn).mono ?_; rintro e tA ⟨rfl, q2, rfl⟩; rw [HN2.out, H2.out, oJ]))
      go_quiet (fail)
      go_wp2
      go_ret3
      exact ⟨by rw [HV.out]; rfl, by first | exact ⟨_, rfl⟩ | (simp only [World.drewN_drewN]; exact ⟨_, rfl⟩)⟩
end Go.Proofs.Ytgijbpkfheillaa
