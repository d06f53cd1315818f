/-
  SEAT Ytgijbpkfheillaa: the reference's Clean, Commit.
-/
import Derived.Test.YtgijbpkfheillaaPlI
import Derived.Test.YtgijbpkfheillaaPlH
namespace Go.Proofs.Ytgijbpkfheillaa
open Go.RowKit
set_option linter.unusedVariables false

theorem rg_drew (w : World) (q gr gl g : Nat) : RGrew w (w.drewN q) gr gl g := RGrew.of (gd1 w q none) (Or.inl rfl)
set_option maxHeartbeats 2000000 in
theorem rclean_any (gr gl g c : Nat) (P : Int) (es : List Ent) (cur last : Int) (vo : Option Nat) (w : World) (h : RefB w gr gl g c P es cur last (optI vo)) (hn : es.length ≤ 5000) (hh : HeadsE es) (hv : ∀ a, vo = some a → a < es.length) (hlf : ∀ i, i < es.length → (es.getD i Ent.zero).left = true → (es.getD i Ent.zero).s = 4) :
    Calls Try.prog 63 #[.pointer (some ⟨gr, 0, none⟩)] w fun e w' => e = .returned (oldV (oldE es)) ∧ RefB w' gr gl g c P (settleO es last (cleanV es) vo) cur last (cleanV es) ∧ RGrew w w' gr gl g := by
  have HB : Hid (RefB w gr gl g c P es cur last (optI vo)) := h
  have HH : Hid (HeadsE es) := hh
  obtain ⟨V, hV⟩ : ∃ V, cleanV es = V := ⟨_, rfl⟩
  obtain ⟨A, hA⟩ : ∃ A : World → World, ∀ u, A u = match oldE es with | none => u.setCell ⟨gr, 5, none⟩ (.int .i64 (-1)) | some (v, _) => (u.setCell ⟨gr, 5, none⟩ (.int .i64 (-1))).setCell ⟨gr, 5, none⟩ (.int .i64 (v : Int)) := ⟨_, fun _ => rfl⟩
  have hAB : ∀ u, RefB u gr gl g c P es cur last (optI vo) → RefB (A u) gr gl g c P es cur last V ∧ RGrew u (A u) gr gl g := fun u hu => by
    rw [hA, ← hV]
    unfold cleanV
    cases oldE es with
    | none => exact ⟨hu.setVic _, RGrew.of (grown_set _ gr _ _) (by simp)⟩
    | some p => exact ⟨(hu.setVic _).setVic _, (RGrew.of (grown_set _ gr _ _) (by simp)).trans (RGrew.of (grown_set _ gr _ _) (by simp))⟩
  have HAB : Hid _ := hAB
  rw [hV]
  clear h hh hAB
  cases ho : oldE es with
  | none =>
    have hV1 : V = -1 := by rw [← hV]; unfold cleanV; rw [ho]
    subst hV1
    have HA : Hid (∀ u, A u = u.setCell ⟨gr, 5, none⟩ (.int .i64 (-1))) := fun u => by rw [hA, ho]
    have HO : Hid _ := ho
    clear hV hA ho
    cases vo with
    | none =>
      have oI : optI none = -1 := rfl
      rw [oI] at HB HAB
      go_enter Try.func63, Try.ntmps63
      go_wp2_with (first | (go_at_call 52; refine (roldest_any gr gl g c P es cur last _ _ HB.out hn HH.out).mono ?_; rintro e t1 ⟨rfl, q1, rfl⟩; rw [HO.out]; simp only [oldV]; have hB1 := HB.out.drewN q1; obtain ⟨c0, c1, c2, c3, c4, c5⟩ := hB1.cells; obtain ⟨f5, _, _⟩ := hB1.free 5;  obtain ⟨p1, p2⟩ := HAB.out _ hB1; rw [HA.out] at p1 p2; have HP1 : Hid _ := p1; have HP2 : Hid _ := p2; clear hB1 p1 p2))
      go_ret3
      exact ⟨rfl, HP1.out, (rg_drew _ _ _ _ _).trans HP2.out⟩
    | some a =>
      have oI : optI (some a) = (a : Int) := rfl
      rw [oI] at HB HAB
      have hal := hv a rfl
      have da : (a : Int) < es.length := by omega
      have na : (0 : Int) ≤ (a : Int) := by omega
      have hne := HB.out.ne
      have ng : ¬ (g = gr) := fun e => hne.2.1 e.symm
      have hlfa := hlf a hal
      obtain ⟨X, hX⟩ : ∃ X, es.getD a Ent.zero = X := ⟨_, rfl⟩
      have HX : Hid _ := hX
      have HSE : Hid (settleO es last (-1) (some a) = if X.s = 1 ∧ hollowB X.r X.l = true ∧ (a : Int) ≠ (-1) then es.set a ⟨if (a : Int) = last then 5 else 0, 0, false, 0, false⟩ else es) := by unfold Hid; show settleE es last (-1) a = _; unfold settleE; rw [hX]
      rw [hX] at hlfa
      obtain ⟨s, hd, r, l, lf⟩ := X
      simp only at hlfa HSE
      clear hX hlf
      have nb : ((a : Int) != -1) = true := by simp
      have iv : (a : Int) ≠ -1 := by omega
      by_cases s1 : s = 1
      · subst s1
        cases r with
        | true =>
          go_enter Try.func63, Try.ntmps63
          go_wp2_with (first | (go_at_call 52; refine (roldest_any gr gl g c P es cur last _ _ HB.out hn HH.out).mono ?_; rintro e t1 ⟨rfl, q1, rfl⟩; rw [HO.out]; simp only [oldV]; have hB1 := HB.out.drewN q1; obtain ⟨c0, c1, c2, c3, c4, c5⟩ := hB1.cells; obtain ⟨f5, _, _⟩ := hB1.free 5; obtain ⟨x0, x1, x2, x3⟩ := hB1.entry a hal; rw [HX.out] at x0 x1 x2 x3; simp only at x0 x1 x2 x3; obtain ⟨p1, p2⟩ := HAB.out _ hB1; rw [HA.out] at p1 p2; have HP1 : Hid _ := p1; have HP2 : Hid _ := p2; clear hB1 p1 p2))
          go_ret3
          exact ⟨rfl, by rw [HSE.out, if_neg (by simp [hollowB])]; exact HP1.out, (rg_drew _ _ _ _ _).trans HP2.out⟩
        | false =>
          by_cases l0 : l = 0
          · subst l0
            have hlf0 : lf = false := by cases lf with | false => rfl | true => have := hlfa rfl; omega
            subst hlf0
            go_enter Try.func63, Try.ntmps63
            go_wp2_with (first | (go_at_call 52; refine (roldest_any gr gl g c P es cur last _ _ HB.out hn HH.out).mono ?_; rintro e t1 ⟨rfl, q1, rfl⟩; rw [HO.out]; simp only [oldV]; have hB1 := HB.out.drewN q1; obtain ⟨c0, c1, c2, c3, c4, c5⟩ := hB1.cells; obtain ⟨f5, _, _⟩ := hB1.free 5; obtain ⟨x0, x1, x2, x3⟩ := hB1.entry a hal; rw [HX.out] at x0 x1 x2 x3; simp only at x0 x1 x2 x3; obtain ⟨p1, p2⟩ := HAB.out _ hB1; rw [HA.out] at p1 p2; have HP1 : Hid _ := p1; have HP2 : Hid _ := p2; clear hB1 p1 p2) | (go_at_call 74; refine (remptied_any gr gl g c P es cur last (-1) a _ HP1.out hal hn).mono ?_; rintro e t2 ⟨rfl, b2, g2⟩; have B2 : Hid _ := b2; have G2 : Hid _ := g2; clear b2 g2))
            go_ret3
            exact ⟨rfl, by rw [HSE.out, if_pos (by first | exact ⟨rfl, rfl, iv⟩ | (simp [hollowB, iv]; done) | (simp [hollowB]; omega))]; have h9 := B2.out; rw [HX.out] at h9; exact h9, ((rg_drew _ _ _ _ _).trans HP2.out).trans G2.out⟩
          · have l0b : (l == 0) = false := by simpa using l0
            go_enter Try.func63, Try.ntmps63
            go_wp2_with (first | (go_at_call 52; refine (roldest_any gr gl g c P es cur last _ _ HB.out hn HH.out).mono ?_; rintro e t1 ⟨rfl, q1, rfl⟩; rw [HO.out]; simp only [oldV]; have hB1 := HB.out.drewN q1; obtain ⟨c0, c1, c2, c3, c4, c5⟩ := hB1.cells; obtain ⟨f5, _, _⟩ := hB1.free 5; obtain ⟨x0, x1, x2, x3⟩ := hB1.entry a hal; rw [HX.out] at x0 x1 x2 x3; simp only at x0 x1 x2 x3; obtain ⟨p1, p2⟩ := HAB.out _ hB1; rw [HA.out] at p1 p2; have HP1 : Hid _ := p1; have HP2 : Hid _ := p2; clear hB1 p1 p2))
            go_ret3
            exact ⟨rfl, by rw [HSE.out, if_neg (by simp [hollowB, l0])]; exact HP1.out, (rg_drew _ _ _ _ _).trans HP2.out⟩
      · have s1b : (s == 1) = false := by simpa using s1
        go_enter Try.func63, Try.ntmps63
        go_wp2_with (first | (go_at_call 52; refine (roldest_any gr gl g c P es cur last _ _ HB.out hn HH.out).mono ?_; rintro e t1 ⟨rfl, q1, rfl⟩; rw [HO.out]; simp only [oldV]; have hB1 := HB.out.drewN q1; obtain ⟨c0, c1, c2, c3, c4, c5⟩ := hB1.cells; obtain ⟨f5, _, _⟩ := hB1.free 5; obtain ⟨x0, x1, x2, x3⟩ := hB1.entry a hal; rw [HX.out] at x0 x1 x2 x3; simp only at x0 x1 x2 x3; obtain ⟨p1, p2⟩ := HAB.out _ hB1; rw [HA.out] at p1 p2; have HP1 : Hid _ := p1; have HP2 : Hid _ := p2; clear hB1 p1 p2))
        go_ret3
        exact ⟨rfl, by rw [HSE.out, if_neg (by simp [s1])]; exact HP1.out, (rg_drew _ _ _ _ _).trans HP2.out⟩
  | some p =>
    obtain ⟨v, hdv⟩ := p
    have hV1 : V = (v : Int) := by rw [← hV]; unfold cleanV; rw [ho]
    subst hV1
    have HA : Hid (∀ u, A u = (u.setCell ⟨gr, 5, none⟩ (.int .i64 (-1))).setCell ⟨gr, 5, none⟩ (.int .i64 (v : Int))) := fun u => by rw [hA, ho]
    have HO : Hid _ := ho
    clear hV hA ho
    cases vo with
    | none =>
      have oI : optI none = -1 := rfl
      rw [oI] at HB HAB
      go_enter Try.func63, Try.ntmps63
      go_wp2_with (first | (go_at_call 52; refine (roldest_any gr gl g c P es cur last _ _ HB.out hn HH.out).mono ?_; rintro e t1 ⟨rfl, q1, rfl⟩; rw [HO.out]; simp only [oldV]; have hB1 := HB.out.drewN q1; obtain ⟨c0, c1, c2, c3, c4, c5⟩ := hB1.cells; obtain ⟨f5, _, _⟩ := hB1.free 5;  obtain ⟨p1, p2⟩ := HAB.out _ hB1; rw [HA.out] at p1 p2; have HP1 : Hid _ := p1; have HP2 : Hid _ := p2; clear hB1 p1 p2))
      go_ret3
      exact ⟨rfl, HP1.out, (rg_drew _ _ _ _ _).trans HP2.out⟩
    | some a =>
      have oI : optI (some a) = (a : Int) := rfl
      rw [oI] at HB HAB
      have hal := hv a rfl
      have da : (a : Int) < es.length := by omega
      have na : (0 : Int) ≤ (a : Int) := by omega
      have hne := HB.out.ne
      have ng : ¬ (g = gr) := fun e => hne.2.1 e.symm
      have hlfa := hlf a hal
      obtain ⟨X, hX⟩ : ∃ X, es.getD a Ent.zero = X := ⟨_, rfl⟩
      have HX : Hid _ := hX
      have HSE : Hid (settleO es last (v : Int) (some a) = if X.s = 1 ∧ hollowB X.r X.l = true ∧ (a : Int) ≠ (v : Int) then es.set a ⟨if (a : Int) = last then 5 else 0, 0, false, 0, false⟩ else es) := by unfold Hid; show settleE es last (v : Int) a = _; unfold settleE; rw [hX]
      rw [hX] at hlfa
      obtain ⟨s, hd, r, l, lf⟩ := X
      simp only at hlfa HSE
      clear hX hlf
      by_cases iv : (a : Int) = (v : Int)
      · have ivb : ((a : Int) != (v : Int)) = false := by simpa using iv
        have HIV : Hid _ := iv
        clear iv
        go_enter Try.func63, Try.ntmps63
        go_wp2_with (first | (go_at_call 52; refine (roldest_any gr gl g c P es cur last _ _ HB.out hn HH.out).mono ?_; rintro e t1 ⟨rfl, q1, rfl⟩; rw [HO.out]; simp only [oldV]; have hB1 := HB.out.drewN q1; obtain ⟨c0, c1, c2, c3, c4, c5⟩ := hB1.cells; obtain ⟨f5, _, _⟩ := hB1.free 5; obtain ⟨x0, x1, x2, x3⟩ := hB1.entry a hal; rw [HX.out] at x0 x1 x2 x3; simp only at x0 x1 x2 x3; obtain ⟨p1, p2⟩ := HAB.out _ hB1; rw [HA.out] at p1 p2; have HP1 : Hid _ := p1; have HP2 : Hid _ := p2; clear hB1 p1 p2))
        go_ret3
        exact ⟨rfl, by rw [HSE.out, if_neg (fun q => q.2.2 HIV.out)]; exact HP1.out, (rg_drew _ _ _ _ _).trans HP2.out⟩
      · have ivb : ((a : Int) != (v : Int)) = true := by simpa using iv
        by_cases s1 : s = 1
        · subst s1
          cases r with
          | true =>
            go_enter Try.func63, Try.ntmps63
            go_wp2_with (first | (go_at_call 52; refine (roldest_any gr gl g c P es cur last _ _ HB.out hn HH.out).mono ?_; rintro e t1 ⟨rfl, q1, rfl⟩; rw [HO.out]; simp only [oldV]; have hB1 := HB.out.drewN q1; obtain ⟨c0, c1, c2, c3, c4, c5⟩ := hB1.cells; obtain ⟨f5, _, _⟩ := hB1.free 5; obtain ⟨x0, x1, x2, x3⟩ := hB1.entry a hal; rw [HX.out] at x0 x1 x2 x3; simp only at x0 x1 x2 x3; obtain ⟨p1, p2⟩ := HAB.out _ hB1; rw [HA.out] at p1 p2; have HP1 : Hid _ := p1; have HP2 : Hid _ := p2; clear hB1 p1 p2))
            go_ret3
            exact ⟨rfl, by rw [HSE.out, if_neg (by simp [hollowB])]; exact HP1.out, (rg_drew _ _ _ _ _).trans HP2.out⟩
          | false =>
            by_cases l0 : l = 0
            · subst l0
              have hlf0 : lf = false := by cases lf with | false => rfl | true => have := hlfa rfl; omega
              subst hlf0
              go_enter Try.func63, Try.ntmps63
              go_wp2_with (first | (go_at_call 52; refine (roldest_any gr gl g c P es cur last _ _ HB.out hn HH.out).mono ?_; rintro e t1 ⟨rfl, q1, rfl⟩; rw [HO.out]; simp only [oldV]; have hB1 := HB.out.drewN q1; obtain ⟨c0, c1, c2, c3, c4, c5⟩ := hB1.cells; obtain ⟨f5, _, _⟩ := hB1.free 5; obtain ⟨x0, x1, x2, x3⟩ := hB1.entry a hal; rw [HX.out] at x0 x1 x2 x3; simp only at x0 x1 x2 x3; obtain ⟨p1, p2⟩ := HAB.out _ hB1; rw [HA.out] at p1 p2; have HP1 : Hid _ := p1; have HP2 : Hid _ := p2; clear hB1 p1 p2) | (go_at_call 74; refine (remptied_any gr gl g c P es cur last (v : Int) a _ HP1.out hal hn).mono ?_; rintro e t2 ⟨rfl, b2, g2⟩; have B2 : Hid _ := b2; have G2 : Hid _ := g2; clear b2 g2))
              go_ret3
              exact ⟨rfl, by rw [HSE.out, if_pos (by first | exact ⟨rfl, rfl, iv⟩ | (simp [hollowB, iv]; done) | (simp [hollowB]; omega))]; have h9 := B2.out; rw [HX.out] at h9; exact h9, ((rg_drew _ _ _ _ _).trans HP2.out).trans G2.out⟩
            · have l0b : (l == 0) = false := by simpa using l0
              go_enter Try.func63, Try.ntmps63
              go_wp2_with (first | (go_at_call 52; refine (roldest_any gr gl g c P es cur last _ _ HB.out hn HH.out).mono ?_; rintro e t1 ⟨rfl, q1, rfl⟩; rw [HO.out]; simp only [oldV]; have hB1 := HB.out.drewN q1; obtain ⟨c0, c1, c2, c3, c4, c5⟩ := hB1.cells; obtain ⟨f5, _, _⟩ := hB1.free 5; obtain ⟨x0, x1, x2, x3⟩ := hB1.entry a hal; rw [HX.out] at x0 x1 x2 x3; simp only at x0 x1 x2 x3; obtain ⟨p1, p2⟩ := HAB.out _ hB1; rw [HA.out] at p1 p2; have HP1 : Hid _ := p1; have HP2 : Hid _ := p2; clear hB1 p1 p2))
              go_ret3
              exact ⟨rfl, by rw [HSE.out, if_neg (by simp [hollowB, l0])]; exact HP1.out, (rg_drew _ _ _ _ _).trans HP2.out⟩
        · have s1b : (s == 1) = false := by simpa using s1
          go_enter Try.func63, Try.ntmps63
          go_wp2_with (first | (go_at_call 52; refine (roldest_any gr gl g c P es cur last _ _ HB.out hn HH.out).mono ?_; rintro e t1 ⟨rfl, q1, rfl⟩; rw [HO.out]; simp only [oldV]; have hB1 := HB.out.drewN q1; obtain ⟨c0, c1, c2, c3, c4, c5⟩ := hB1.cells; obtain ⟨f5, _, _⟩ := hB1.free 5; obtain ⟨x0, x1, x2, x3⟩ := hB1.entry a hal; rw [HX.out] at x0 x1 x2 x3; simp only at x0 x1 x2 x3; obtain ⟨p1, p2⟩ := HAB.out _ hB1; rw [HA.out] at p1 p2; have HP1 : Hid _ := p1; have HP2 : Hid _ := p2; clear hB1 p1 p2))
          go_ret3
          exact ⟨rfl, by rw [HSE.out, if_neg (by simp [s1])]; exact HP1.out, (rg_drew _ _ _ _ _).trans HP2.out⟩
end Go.Proofs.Ytgijbpkfheillaa
