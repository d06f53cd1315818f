/-
  SEAT Ytgijbpkfheillaa: one call of both books.
-/
import Derived.Test.YtgijbpkfheillaaPlN
import Derived.Test.YtgijbpkfheillaaPlL
import Derived.Test.YtgijbpkfheillaaPlM
namespace Go.Proofs.Ytgijbpkfheillaa
open Go.RowKit
set_option linter.unusedVariables false

/-- The two books are alike again, and nothing that was there at first is written. -/
def NextT (U w : World) (B gb gk gr gl g c : Nat) (P : Int) : Prop := B ≤ w.heap.size ∧ Below B U w ∧ ∃ es cur last vo, Two w B gb gk gr gl g c P es cur last vo
section
variable {U w : World} {B gb gk gr gl g c : Nat} {P : Int} {es : List Ent} {cur last : Int} {vo : Option Nat}
theorem Two.n (h : Two w B gb gk gr gl g c P es cur last vo) : es.length ≤ 5000 := by have := h.len; omega
theorem next_same (h : Two w B gb gk gr gl g c P es cur last vo) (hu : Below B U w) (hB : B ≤ w.heap.size) : NextT U w B gb gk gr gl g c P := ⟨hB, hu, _, _, _, _, h⟩
theorem next_below {w2 : World} (h : Two w B gb gk gr gl g c P es cur last vo) (hu : Below B U w) (hB : B ≤ w.heap.size) (hb : Below w.heap.size w w2) : NextT U w2 B gb gk gr gl g c P :=
  ⟨Nat.le_trans hB hb.size, hu.trans (hb.mono hB), _, _, _, _, h.below hb⟩
theorem next_step {w1 w2 : World} {es' : List Ent} {cur' last' : Int} {vo' : Option Nat} (h : Two w B gb gk gr gl g c P es cur last vo) (hu : Below B U w) (hB : B ≤ w.heap.size) (b1 : BookAt w1 gb gk P es' cur' last' (optI vo')) (g1 : Grew w w1 gb gk) (r2 : RefB w2 gr gl g c P es' cur' last' (optI vo')) (g2 : RGrew w1 w2 gr gl g) (hok : EOks P es') (hlen : es'.length = es.length) (hcl : -1 ≤ cur' ∧ cur' < es.length) (hvl : ∀ a, vo' = some a → a < es.length) (hvs : ∀ a, vo' = some a → (es'.getD a Ent.zero).s = 1 ∨ (es'.getD a Ent.zero).s = 4 ∨ (es'.getD a Ent.zero).s = 6) : NextT U w2 B gb gk gr gl g c P :=
  ⟨Nat.le_trans hB (Nat.le_trans g1.size g2.size), two_below h hu hB g1 g2, _, _, _, _, h.step b1 g1 r2 g2 hok hlen hcl hvl hvs⟩

theorem vs_set (h : Two w B gb gk gr gl g c P es cur last vo) (i : Nat) (x : Ent) (hi : (es.getD i Ent.zero).s ≠ 1 ∧ (es.getD i Ent.zero).s ≠ 4 ∧ (es.getD i Ent.zero).s ≠ 6) : ∀ a, vo = some a → ((es.set i x).getD a Ent.zero).s = 1 ∨ ((es.set i x).getD a Ent.zero).s = 4 ∨ ((es.set i x).getD a Ent.zero).s = 6 := fun a ha => by
  have h1 := h.vs a ha
  rw [getD_set_other _ _ _ _ (fun e => by rw [e] at h1; omega)]
  exact h1
theorem vs_settle {es : List Ent} {last vic : Int} {i a : Nat} (h : (es.getD a Ent.zero).s = 1 ∨ (es.getD a Ent.zero).s = 4 ∨ (es.getD a Ent.zero).s = 6) (ha : a ≠ i ∨ (i : Int) = vic) : ((settleE es last vic i).getD a Ent.zero).s = 1 ∨ ((settleE es last vic i).getD a Ent.zero).s = 4 ∨ ((settleE es last vic i).getD a Ent.zero).s = 6 := by
  unfold settleE
  split
  · rename_i q
    rcases ha with ha | ha
    · rw [getD_set_other _ _ _ _ ha]; exact h
    · exact absurd ha q.2.2
  · exact h
theorem pair_start (h : Two w B gb gk gr gl g c P es cur last vo) (hu : Below B U w) (hB : B ≤ w.heap.size) (hp : 4 ≤ P ∧ P ≤ 256) (b head : Int) (hh : 0 ≤ head) :
    ∃ er : Int, Calls Try.prog 42 #[.pointer (some ⟨gb, 0, none⟩), .int .i64 b, .int .u64 head] w fun e w1 => e = .returned (.int .i64 er) ∧ Grew w w1 gb gk ∧ Calls Try.prog 56 #[.pointer (some ⟨gr, 0, none⟩), .int .i64 b, .int .u64 head] w1 fun e w2 => e = .returned (.int .i64 er) ∧ RGrew w1 w2 gr gl g ∧ NextT U w2 B gb gk gr gl g c P := by
  cases hb : hasOk es.length b with
  | false =>
    refine ⟨41, (start_out gb gk P es cur last _ b head w h.bk h.n hb).mono ?_⟩
    rintro e w1 ⟨rfl, rfl⟩
    refine ⟨rfl, Grew.refl _ _ _, (rstart_out gr gl g c P es cur last _ b head w h.rf h.n hb).mono ?_⟩
    rintro e w2 ⟨rfl, rfl⟩
    exact ⟨rfl, RGrew.refl _ _ _ _, next_same h hu hB⟩
  | true =>
    have hb' := of_decide_eq_true hb
    obtain ⟨i, rfl⟩ := Int.eq_ofNat_of_zero_le hb'.1
    have hi : i < es.length := by omega
    cases hs : startOk es i head with
    | false =>
      refine ⟨110, (start_bad gb gk P es cur last _ i head w h.bk h.n hi hs).mono ?_⟩
      rintro e w1 ⟨rfl, q1⟩
      refine ⟨rfl, Grew.ofB q1, (rstart_bad gr gl g c P es cur last _ i head w1 (h.rf.below q1) h.n hi hh hs).mono ?_⟩
      rintro e w2 ⟨rfl, rfl⟩
      exact ⟨rfl, RGrew.refl _ _ _ _, next_below h hu hB q1⟩
    | true =>
      refine ⟨0, (start_ok gb gk P es cur last _ i head w h.bk h.n hi hs).mono ?_⟩
      rintro e w1 ⟨rfl, b1, g1⟩
      refine ⟨rfl, Grew.ofk g1, (rstart_ok gr gl g c P es cur last _ i head w1 (h.rf.grew h.bk (Grew.ofk g1)) h.n hi hh hs).mono ?_⟩
      rintro e w2 ⟨rfl, r2, g2⟩
      have hs2 := hs
      unfold startOk at hs2
      simp only [Bool.and_eq_true, decide_eq_true_eq, beq_iff_eq, Option.isNone_iff_eq_none] at hs2
      have hlf : (es.getD i Ent.zero).left = false := by
        cases hl : (es.getD i Ent.zero).left with
        | false => rfl
        | true => have := (h.ok i hi).lf hl; omega
      have hpos : 0 < head := by
        have : ∀ k, 0 ≤ newestF es k := fun k => by
          induction k with
          | zero => exact Int.le_refl _
          | succ k ih => rw [newestF]; omega
        have := this es.length
        omega
      exact ⟨rfl, g2, next_step h hu hB b1 (Grew.ofk g1) r2 g2 (h.ok.set i _ ⟨by simp only; omega, by simp only; omega, by simp only; omega, (fun q => by simp only at q; rw [hlf] at q; cases q), (fun _ => by simp only; omega)⟩) (by simp) h.cl h.vl (vs_set h i _ (by omega))⟩
theorem pair_real (h : Two w B gb gk gr gl g c P es cur last vo) (hu : Below B U w) (hB : B ≤ w.heap.size) (hp : 4 ≤ P ∧ P ≤ 256) :
    ∃ er : Int, Calls Try.prog 43 #[.pointer (some ⟨gb, 0, none⟩)] w fun e w1 => e = .returned (.int .i64 er) ∧ Grew w w1 gb gk ∧ Calls Try.prog 57 #[.pointer (some ⟨gr, 0, none⟩)] w1 fun e w2 => e = .returned (.int .i64 er) ∧ RGrew w1 w2 gr gl g ∧ NextT U w2 B gb gk gr gl g c P := by
  have p1 := real_any gb gk P es cur last (optI vo) w h.bk h.n
  cases ho : openF es es.length with
  | none =>
    rw [ho] at p1
    refine ⟨110, p1.mono ?_⟩
    rintro e w1 ⟨rfl, q1⟩
    have p2 := rreal_any gr gl g c P es cur last (optI vo) w1 (h.rf.below q1) h.n
    rw [ho] at p2
    refine ⟨rfl, Grew.ofB q1, p2.mono ?_⟩
    rintro e w2 ⟨rfl, rfl⟩
    exact ⟨rfl, RGrew.refl _ _ _ _, next_below h hu hB q1⟩
  | some o =>
    rw [ho] at p1
    obtain ⟨hol, hos⟩ := openF_some ho
    refine ⟨0, p1.mono ?_⟩
    rintro e w1 ⟨rfl, b1, g1⟩
    have p2 := rreal_any gr gl g c P es cur last (optI vo) w1 (h.rf.grew h.bk (Grew.ofk g1)) h.n
    rw [ho] at p2
    refine ⟨rfl, Grew.ofk g1, p2.mono ?_⟩
    rintro e w2 ⟨rfl, r2, g2⟩
    have k := h.ok o hol
    exact ⟨rfl, g2, next_step h hu hB b1 (Grew.ofk g1) r2 g2 (h.ok.set o _ ⟨k.s, k.h, k.l, k.lf, k.hd⟩) (by simp) h.cl h.vl (vs_set h o _ (by omega))⟩
theorem pair_wait (h : Two w B gb gk gr gl g c P es cur last vo) (hu : Below B U w) (hB : B ≤ w.heap.size) (hp : 4 ≤ P ∧ P ≤ 256) :
    ∃ er : Int, Calls Try.prog 45 #[.pointer (some ⟨gb, 0, none⟩)] w fun e w1 => e = .returned (.int .i64 er) ∧ Grew w w1 gb gk ∧ Calls Try.prog 60 #[.pointer (some ⟨gr, 0, none⟩)] w1 fun e w2 => e = .returned (.int .i64 er) ∧ RGrew w1 w2 gr gl g ∧ NextT U w2 B gb gk gr gl g c P := by
  have p1 := wait_any gb gk P es cur last (optI vo) w h.bk h.n
  cases ho : openF es es.length with
  | none =>
    rw [ho] at p1
    refine ⟨110, p1.mono ?_⟩
    rintro e w1 ⟨rfl, q1⟩
    have p2 := rwait_any gr gl g c P es cur last (optI vo) w1 (h.rf.below q1) h.n
    rw [ho] at p2
    refine ⟨rfl, Grew.ofB q1, p2.mono ?_⟩
    rintro e w2 ⟨rfl, rfl⟩
    exact ⟨rfl, RGrew.refl _ _ _ _, next_below h hu hB q1⟩
  | some o =>
    rw [ho] at p1
    obtain ⟨hol, hos⟩ := openF_some ho
    refine ⟨0, p1.mono ?_⟩
    rintro e w1 ⟨rfl, b1, g1⟩
    have p2 := rwait_any gr gl g c P es cur last (optI vo) w1 (h.rf.grew h.bk (Grew.ofk g1)) h.n
    rw [ho] at p2
    refine ⟨rfl, Grew.ofk g1, p2.mono ?_⟩
    rintro e w2 ⟨rfl, r2, g2⟩
    have k := h.ok o hol
    exact ⟨rfl, g2, next_step h hu hB b1 (Grew.ofk g1) r2 g2 (h.ok.set o _ ⟨by simp only; omega, k.h, k.l, (fun _ => rfl), (fun _ => k.hd (by omega))⟩) (by simp) h.cl h.vl (vs_set h o _ (by omega))⟩
theorem rsettle_same {es : List Ent} {last vic : Int} {o : Nat} (ho : o < es.length) (hs : (es.getD o Ent.zero).s = 1) (hl : (es.getD o Ent.zero).left = false) (hv : (o : Int) ≠ vic) : rsettleE es last o = settleE es last vic o := by
  unfold rsettleE settleE
  by_cases q : hollowB (es.getD o Ent.zero).r (es.getD o Ent.zero).l = true
  · have q2 : (es.getD o Ent.zero).s = 1 ∧ hollowB (es.getD o Ent.zero).r (es.getD o Ent.zero).l = true ∧ (o : Int) ≠ vic := ⟨hs, q, hv⟩
    rw [if_pos q2, if_pos q, hl]
  · rw [if_neg q, if_neg (fun h => q h.2.1)]
theorem pair_shut (h : Two w B gb gk gr gl g c P es cur last vo) (hu : Below B U w) (hB : B ≤ w.heap.size) (hp : 4 ≤ P ∧ P ≤ 256) :
    ∃ er : Int, Calls Try.prog 44 #[.pointer (some ⟨gb, 0, none⟩)] w fun e w1 => e = .returned (.int .i64 er) ∧ Grew w w1 gb gk ∧ Calls Try.prog 59 #[.pointer (some ⟨gr, 0, none⟩)] w1 fun e w2 => e = .returned (.int .i64 er) ∧ RGrew w1 w2 gr gl g ∧ NextT U w2 B gb gk gr gl g c P := by
  have p1 := shut_any gb gk P es cur last (optI vo) w h.bk h.n
  cases ho : openF es es.length with
  | none =>
    rw [ho] at p1
    refine ⟨110, p1.mono ?_⟩
    rintro e w1 ⟨rfl, q1⟩
    have p2 := rshut_any gr gl g c P es cur last (optI vo) w1 (h.rf.below q1) h.n
    rw [ho] at p2
    refine ⟨rfl, Grew.ofB q1, p2.mono ?_⟩
    rintro e w2 ⟨rfl, rfl⟩
    exact ⟨rfl, RGrew.refl _ _ _ _, next_below h hu hB q1⟩
  | some o =>
    rw [ho] at p1
    obtain ⟨hol, hos⟩ := openF_some ho
    have k := h.ok o hol
    have hlf : (es.getD o Ent.zero).left = false := by
      cases hl : (es.getD o Ent.zero).left with
      | false => rfl
      | true => have := k.lf hl; omega
    have hvo : (o : Int) ≠ optI vo := fun e => by
      cases vo with
      | none => simp [optI] at e
      | some a =>
        have e2 : o = a := by have e3 : (o : Int) = (a : Int) := e; omega
        have := h.vs a rfl
        rw [← e2] at this
        omega
    refine ⟨0, p1.mono ?_⟩
    rintro e w1 ⟨rfl, b1, g1⟩
    have p2 := rshut_any gr gl g c P es cur last (optI vo) w1 (h.rf.grew h.bk (Grew.ofk g1)) h.n
    rw [ho] at p2
    refine ⟨rfl, Grew.ofk g1, p2.mono ?_⟩
    rintro e w2 ⟨rfl, r2, g2⟩
    rw [rsettle_same (vic := optI vo) (by simpa using hol) (by rw [getD_set_same _ _ _ hol]) (by rw [getD_set_same _ _ _ hol]; exact hlf) hvo] at r2
    exact ⟨rfl, g2, next_step h hu hB b1 (Grew.ofk g1) r2 g2 ((h.ok.set o { es.getD o Ent.zero with s := 1 } ⟨by simp only; omega, k.h, k.l, (fun q => by simp only at q; rw [hlf] at q; cases q), (fun _ => k.hd (by omega))⟩).settle hp.1 _ _ _) (by rw [settle_len]; simp) h.cl h.vl (fun a ha => vs_settle (vs_set h o _ (by omega) a ha) (Or.inl (fun e => by have := h.vs a ha; rw [e] at this; omega)))⟩
theorem pair_bad (h : Two w B gb gk gr gl g c P es cur last vo) (hu : Below B U w) (hB : B ≤ w.heap.size) (hp : 4 ≤ P ∧ P ≤ 256) (b : Int) :
    ∃ er : Int, Calls Try.prog 12 #[.pointer (some ⟨gb, 0, none⟩), .int .i64 b] w fun e w1 => e = .returned (.int .i64 er) ∧ Grew w w1 gb gk ∧ Calls Try.prog 61 #[.pointer (some ⟨gr, 0, none⟩), .int .i64 b] w1 fun e w2 => e = .returned (.int .i64 er) ∧ RGrew w1 w2 gr gl g ∧ NextT U w2 B gb gk gr gl g c P := by
  cases hb : hasOk es.length b with
  | false =>
    refine ⟨41, (bad_out gb gk P es cur last _ b w h.bk h.n hb).mono ?_⟩
    rintro e w1 ⟨rfl, rfl⟩
    refine ⟨rfl, Grew.refl _ _ _, (rbad_out gr gl g c P es cur last _ b w h.rf h.n hb).mono ?_⟩
    rintro e w2 ⟨rfl, rfl⟩
    exact ⟨rfl, RGrew.refl _ _ _ _, next_same h hu hB⟩
  | true =>
    have hb' := of_decide_eq_true hb
    obtain ⟨i, rfl⟩ := Int.eq_ofNat_of_zero_le hb'.1
    have hi : i < es.length := by omega
    have fin : ∀ w1 w2, BookAt w1 gb gk P (es.set i ⟨6, 0, false, 0, false⟩) cur last (optI vo) → Grew w w1 gb gk → RefB w2 gr gl g c P (es.set i ⟨6, 0, false, 0, false⟩) cur last (optI vo) → RGrew w1 w2 gr gl g → NextT U w2 B gb gk gr gl g c P := fun w1 w2 b1 g1 r2 g2 => next_step h hu hB b1 g1 r2 g2 (h.ok.set i _ (EOk.plain hp.1 (by simp))) (by simp) h.cl h.vl (fun a ha => by
      by_cases q : a = i
      · subst q; rw [getD_set_same _ _ _ hi]; simp
      · rw [getD_set_other _ _ _ _ q]; exact h.vs a ha)
    by_cases s0 : (es.getD i Ent.zero).s = 0
    · refine ⟨0, (bad_free gb gk P es cur last _ i w h.bk hi h.n s0).mono ?_⟩
      rintro e w1 ⟨rfl, b1, g1⟩
      refine ⟨rfl, Grew.ofk g1, (rbad_ok gr gl g c P es cur last _ i w1 (h.rf.grew h.bk (Grew.ofk g1)) hi h.n (Or.inl s0)).mono ?_⟩
      rintro e w2 ⟨rfl, r2, g2⟩
      exact ⟨rfl, g2, fin _ _ b1 (Grew.ofk g1) r2 g2⟩
    · by_cases hd : (i : Int) ≠ last ∧ doneE (es.getD i Ent.zero) = true
      · refine ⟨0, (bad_done gb gk P es cur last _ i w h.bk hi h.n hd.2 hd.1).mono ?_⟩
        rintro e w1 ⟨rfl, b1, g1⟩
        refine ⟨rfl, Grew.ofk g1, (rbad_ok gr gl g c P es cur last _ i w1 (h.rf.grew h.bk (Grew.ofk g1)) hi h.n (Or.inr hd)).mono ?_⟩
        rintro e w2 ⟨rfl, r2, g2⟩
        exact ⟨rfl, g2, fin _ _ b1 (Grew.ofk g1) r2 g2⟩
      · have hd2 : (i : Int) = last ∨ doneE (es.getD i Ent.zero) = false := by
          by_cases q : (i : Int) = last
          · exact Or.inl q
          · exact Or.inr (by cases q2 : doneE (es.getD i Ent.zero) with | false => rfl | true => exact absurd ⟨q, q2⟩ hd)
        refine ⟨110, (bad_bad gb gk P es cur last _ i w h.bk hi h.n s0 hd2).mono ?_⟩
        rintro e w1 ⟨rfl, q1⟩
        refine ⟨rfl, Grew.ofB q1, (rbad_bad gr gl g c P es cur last _ i w1 (h.rf.below q1) hi h.n s0 hd2).mono ?_⟩
        rintro e w2 ⟨rfl, q2⟩
        exact ⟨rfl, RGrew.ofB q2, next_below h hu hB (q1.trans (q2.mono q1.size))⟩
theorem optI_if {vo : Option Nat} {i : Nat} : ∃ vo', (if (i : Int) = optI vo then -1 else optI vo) = optI vo' ∧ ∀ a, vo' = some a → vo = some a ∧ a ≠ i := by
  by_cases q : (i : Int) = optI vo
  · exact ⟨none, by rw [if_pos q]; rfl, fun a ha => by cases ha⟩
  · exact ⟨vo, by rw [if_neg q], fun a ha => ⟨ha, fun e => by rw [ha, e] at q; exact q rfl⟩⟩
theorem pair_leave (h : Two w B gb gk gr gl g c P es cur last vo) (hu : Below B U w) (hB : B ≤ w.heap.size) (hp : 4 ≤ P ∧ P ≤ 256) (b : Int) :
    ∃ er : Int, Calls Try.prog 18 #[.pointer (some ⟨gb, 0, none⟩), .int .i64 b] w fun e w1 => e = .returned (.int .i64 er) ∧ Grew w w1 gb gk ∧ Calls Try.prog 62 #[.pointer (some ⟨gr, 0, none⟩), .int .i64 b] w1 fun e w2 => e = .returned (.int .i64 er) ∧ RGrew w1 w2 gr gl g ∧ NextT U w2 B gb gk gr gl g c P := by
  cases hb : hasOk es.length b with
  | false =>
    refine ⟨41, (leave_out gb gk P es cur last _ b w h.bk h.n hb).mono ?_⟩
    rintro e w1 ⟨rfl, rfl⟩
    refine ⟨rfl, Grew.refl _ _ _, (rleave_out gr gl g c P es cur last _ b w h.rf h.n hb).mono ?_⟩
    rintro e w2 ⟨rfl, rfl⟩
    exact ⟨rfl, RGrew.refl _ _ _ _, next_same h hu hB⟩
  | true =>
    have hb' := of_decide_eq_true hb
    obtain ⟨i, rfl⟩ := Int.eq_ofNat_of_zero_le hb'.1
    have hi : i < es.length := by omega
    have k := h.ok i hi
    by_cases hd : candE (es.getD i Ent.zero) = true ∧ (es.getD i Ent.zero).l = 0
    · obtain ⟨vo', hvo, hvs⟩ := optI_if (vo := vo) (i := i)
      refine ⟨0, (leave_ok gb gk P es cur last _ i w h.bk h.n hi hd.1 hd.2).mono ?_⟩
      rintro e w1 ⟨rfl, b1, g1⟩
      refine ⟨rfl, g1, (rleave_ok gr gl g c P es cur last _ i w1 (h.rf.grew h.bk g1) h.n hi k.lf hd.1 hd.2).mono ?_⟩
      rintro e w2 ⟨rfl, r2, g2⟩
      rw [hvo] at b1 r2
      have hlg := log_states (cand_of.1 hd.1).1
      have hs2 := (cand_of.1 hd.1).2
      refine ⟨rfl, g2, next_step h hu hB b1 g1 r2 g2 (h.ok.set i _ ?_) (by simp) h.cl (fun a ha => h.vl a (hvs a ha).1) (fun a ha => by rw [getD_set_other _ _ _ _ (hvs a ha).2]; exact h.vs a (hvs a ha).1)⟩
      unfold leaveE
      split
      · rename_i s1
        exact ⟨by simp only; omega, k.h, k.l, (fun q => by have := k.lf q; omega), (fun q => by simp only at q; omega)⟩
      · exact ⟨k.s, k.h, k.l, (fun _ => by simp only; omega), k.hd⟩
    · have hd2 : candE (es.getD i Ent.zero) = false ∨ (es.getD i Ent.zero).l ≠ 0 := by
        by_cases q : (es.getD i Ent.zero).l = 0
        · exact Or.inl (by cases q2 : candE (es.getD i Ent.zero) with | false => rfl | true => exact absurd ⟨q2, q⟩ hd)
        · exact Or.inr q
      refine ⟨110, (leave_bad gb gk P es cur last _ i w h.bk h.n hi hd2).mono ?_⟩
      rintro e w1 ⟨rfl, q1⟩
      refine ⟨rfl, Grew.ofB q1, (rleave_bad gr gl g c P es cur last _ i w1 (h.rf.below q1) h.n hi k.lf hd2).mono ?_⟩
      rintro e w2 ⟨rfl, q2⟩
      exact ⟨rfl, RGrew.ofB q2, next_below h hu hB (q1.trans (q2.mono q1.size))⟩
theorem pair_live (h : Two w B gb gk gr gl g c P es cur last vo) (hu : Below B U w) (hB : B ≤ w.heap.size) (hp : 4 ≤ P ∧ P ≤ 256) (b more : Int) (hm : Wf more) :
    ∃ er : Int, Calls Try.prog 17 #[.pointer (some ⟨gb, 0, none⟩), .int .i64 b, .int .i64 more] w fun e w1 => e = .returned (.int .i64 er) ∧ Grew w w1 gb gk ∧ Calls Try.prog 58 #[.pointer (some ⟨gr, 0, none⟩), .int .i64 b, .int .i64 more] w1 fun e w2 => e = .returned (.int .i64 er) ∧ RGrew w1 w2 gr gl g ∧ NextT U w2 B gb gk gr gl g c P := by
  cases hb : hasOk es.length b with
  | false =>
    refine ⟨41, (live_out gb gk P es cur last _ b more w h.bk h.n hb).mono ?_⟩
    rintro e w1 ⟨rfl, rfl⟩
    refine ⟨rfl, Grew.refl _ _ _, (rlive_out gr gl g c P es cur last _ b more w h.rf h.n hb).mono ?_⟩
    rintro e w2 ⟨rfl, rfl⟩
    exact ⟨rfl, RGrew.refl _ _ _ _, next_same h hu hB⟩
  | true =>
    have hb' := of_decide_eq_true hb
    obtain ⟨i, rfl⟩ := Int.eq_ofNat_of_zero_le hb'.1
    have hi : i < es.length := by omega
    have k := h.ok i hi
    by_cases hd : logE (es.getD i Ent.zero) = true ∧ 0 ≤ (es.getD i Ent.zero).l + more ∧ (es.getD i Ent.zero).l + more ≤ P - 1
    · refine ⟨0, (live_ok gb gk P es cur last _ i more w h.bk h.n hi hp hd.1 hd.2.1 hd.2.2).mono ?_⟩
      rintro e w1 ⟨rfl, b1, g1⟩
      refine ⟨rfl, Grew.ofk g1, (rlive_ok gr gl g c P es cur last _ i more w1 (h.rf.grew h.bk (Grew.ofk g1)) h.n hi hp k.l hm k.lf hd.1 hd.2.1 hd.2.2).mono ?_⟩
      rintro e w2 ⟨rfl, r2, g2⟩
      exact ⟨rfl, g2, next_step h hu hB b1 (Grew.ofk g1) r2 g2 ((h.ok.set i { es.getD i Ent.zero with l := (es.getD i Ent.zero).l + more } ⟨k.s, k.h, hd.2, k.lf, k.hd⟩).settle hp.1 _ _ _) (by rw [settle_len]; simp) h.cl h.vl (fun a ha => by
        refine vs_settle ?_ ?_
        · by_cases q : a = i
          · subst q; rw [getD_set_same _ _ _ hi]; exact h.vs a ha
          · rw [getD_set_other _ _ _ _ q]; exact h.vs a ha
        · by_cases q : a = i
          · exact Or.inr (by rw [ha, q]; rfl)
          · exact Or.inl q)⟩
    · have hd2 : logE (es.getD i Ent.zero) = false ∨ (es.getD i Ent.zero).l + more < 0 ∨ P - 1 < (es.getD i Ent.zero).l + more := by
        cases q : logE (es.getD i Ent.zero) with
        | false => exact Or.inl rfl
        | true =>
          by_cases q1 : (es.getD i Ent.zero).l + more < 0
          · exact Or.inr (Or.inl q1)
          · refine Or.inr (Or.inr (Classical.byContradiction fun q2 => hd ⟨q, by omega, by omega⟩))
      refine ⟨110, (live_bad gb gk P es cur last _ i more w h.bk h.n hi hp k.l hm hd2).mono ?_⟩
      rintro e w1 ⟨rfl, q1⟩
      refine ⟨rfl, Grew.ofB q1, (rlive_bad gr gl g c P es cur last _ i more w1 (h.rf.below q1) h.n hi hp k.l hm k.lf hd2).mono ?_⟩
      rintro e w2 ⟨rfl, q2⟩
      exact ⟨rfl, RGrew.ofB q2, next_below h hu hB (q1.trans (q2.mono q1.size))⟩
theorem pair_clean (h : Two w B gb gk gr gl g c P es cur last vo) (hu : Below B U w) (hB : B ≤ w.heap.size) (hp : 4 ≤ P ∧ P ≤ 256) :
    ∃ a hd b, Calls Try.prog 15 #[.pointer (some ⟨gb, 0, none⟩)] w fun e w1 => e = .returned (.tuple #[.int .i64 a, .int .u64 hd, .bool b]) ∧ Grew w w1 gb gk ∧ Calls Try.prog 63 #[.pointer (some ⟨gr, 0, none⟩)] w1 fun e w2 => e = .returned (.tuple #[.int .i64 a, .int .u64 hd, .bool b]) ∧ RGrew w1 w2 gr gl g ∧ NextT U w2 B gb gk gr gl g c P := by
  obtain ⟨a, hd, b, hv⟩ := oldV_form (oldE es)
  obtain ⟨vo', hvo, hvl, hvc⟩ : ∃ vo', cleanV es = optI vo' ∧ (∀ a, vo' = some a → a < es.length) ∧ ∀ a, vo' = some a → (es.getD a Ent.zero).s = 1 ∨ (es.getD a Ent.zero).s = 4 := by
    unfold cleanV
    cases ho : oldE es with
    | none => exact ⟨none, rfl, (fun a ha => by cases ha), (fun a ha => by cases ha)⟩
    | some p => exact ⟨some p.1, rfl, (fun a ha => by cases ha; exact old_lt (h := p.2) ho), (fun a ha => by
        cases ha
        obtain ⟨_, hc, _⟩ := old_facts (v := p.1) (hd := p.2) ho
        have h1 := log_states (cand_of.1 hc).1
        have h2 := (cand_of.1 hc).2
        omega)⟩
  refine ⟨a, hd, b, (clean_any gb gk P es cur last vo w h.bk h.n h.vl).mono ?_⟩
  rintro e w1 ⟨rfl, b1, g1⟩
  refine ⟨by rw [hv], g1, (rclean_any gr gl g c P es cur last vo w1 (h.rf.grew h.bk g1) h.n h.ok.heads h.vl h.ok.left).mono ?_⟩
  rintro e w2 ⟨rfl, r2, g2⟩
  rw [hvo] at b1 r2
  refine ⟨by rw [hv], g2, next_step h hu hB b1 g1 r2 g2 ?_ ?_ h.cl hvl ?_⟩
  · cases vo with
    | none => exact h.ok
    | some a => exact h.ok.settle hp.1 _ _ _
  · cases vo with
    | none => rfl
    | some a => exact settle_len _ _ _ _
  · intro a ha
    have h1 := hvc a ha
    cases vo with
    | none =>
      rcases h1 with q | q
      · exact Or.inl q
      · exact Or.inr (Or.inl q)
    | some b =>
      refine vs_settle (i := b) ?_ ?_
      · rcases h1 with q | q
        · exact Or.inl q
        · exact Or.inr (Or.inl q)
      · by_cases q : a = b
        · exact Or.inr (by rw [ha, q]; rfl)
        · exact Or.inl q
theorem pair_pick (h : Two w B gb gk gr gl g c P es cur last vo) (hu : Below B U w) (hB : B ≤ w.heap.size) (hp : 4 ≤ P ∧ P ≤ 256) :
    ∃ a b, Calls Try.prog 10 #[.pointer (some ⟨gb, 0, none⟩)] w fun e w1 => e = .returned (.tuple #[.int .i64 a, .bool b]) ∧ Grew w w1 gb gk ∧ Calls Try.prog 55 #[.pointer (some ⟨gr, 0, none⟩)] w1 fun e w2 => e = .returned (.tuple #[.int .i64 a, .bool b]) ∧ RGrew w1 w2 gr gl g ∧ NextT U w2 B gb gk gr gl g c P := by
  have hn0 : 0 < es.length := by have := h.len; omega
  by_cases hp0 : 0 < cnt [0] es es.length
  · -- the first free one
    have hex : ∃ i, i < es.length ∧ (es.getD (nthB es.length cur i) Ent.zero).s = 0 := by
      obtain ⟨x, hx, hm⟩ := cnt_pos _ hp0
      obtain ⟨j, hj, hje⟩ := nth_all h.cl x hx
      exact ⟨j, hj, by rw [hje]; simpa using hm⟩
    have hmin : ∃ i, i < es.length ∧ (es.getD (nthB es.length cur i) Ent.zero).s = 0 ∧ ∀ j, j < i → (es.getD (nthB es.length cur j) Ent.zero).s ≠ 0 := by
      obtain ⟨i, hi, h0⟩ := hex
      induction i using Nat.strongRecOn with
      | ind i ih =>
        by_cases q : ∃ j, j < i ∧ (es.getD (nthB es.length cur j) Ent.zero).s = 0
        · obtain ⟨j, hj, hj0⟩ := q
          exact ih j hj (by omega) hj0
        · exact ⟨i, hi, h0, fun j hj hc => q ⟨j, hj, hc⟩⟩
    obtain ⟨i, hi, h0, hm⟩ := hmin
    have huniq : ∀ i', i' < es.length → (es.getD (nthB es.length cur i') Ent.zero).s = 0 → (∀ j, j < i' → (es.getD (nthB es.length cur j) Ent.zero).s ≠ 0) → i' = i := fun i' hi' h0' hm' => by
      rcases Nat.lt_trichotomy i' i with q | q | q
      · exact absurd h0' (hm i' q)
      · exact q
      · exact absurd h0 (hm' i q)
    refine ⟨(nthB es.length cur i : Nat), true, (pick_some gb gk P es cur last (optI vo) w h.bk h.n hn0 h.cl.1 h.cl.2 hp0).mono ?_⟩
    rintro e w1 ⟨i', hi', h0', hm', rfl, b1, g1⟩
    obtain rfl := huniq i' hi' h0' hm'
    refine ⟨rfl, Grew.ofb g1, (rpick_any gr gl g c P es cur last (optI vo) w1 (h.rf.grew h.bk (Grew.ofb g1)) h.n hn0 h.cl.1 h.cl.2).mono ?_⟩
    rintro e w2 (⟨i2, hi2, h02, hm2, rfl, r2, g2⟩ | ⟨hall, _⟩)
    · obtain rfl := huniq i2 hi2 h02 hm2
      have hx := nth_lt es.length cur i2 hn0
      exact ⟨rfl, g2, next_step h hu hB b1 (Grew.ofb g1) r2 g2 h.ok rfl ⟨by omega, by omega⟩ h.vl h.vs⟩
    · exact absurd h0 (hall _ hi)
  · have hz : cnt [0] es es.length = 0 := by omega
    refine ⟨0, false, (pick_none gb gk P es cur last (optI vo) w h.bk h.n hn0 h.cl.1 h.cl.2 hz).mono ?_⟩
    rintro e w1 ⟨rfl, q, rfl⟩
    refine ⟨rfl, Grew.ofn (gd1 _ q none), (rpick_any gr gl g c P es cur last (optI vo) _ (h.rf.drewN q) h.n hn0 h.cl.1 h.cl.2).mono ?_⟩
    rintro e w2 (⟨i2, hi2, h02, _⟩ | ⟨hall, rfl, rfl⟩)
    · have := some_cnt (nth_lt es.length cur i2 hn0) h02
      omega
    · exact ⟨rfl, RGrew.refl _ _ _ _, hB, below_drewN hu q, _, _, _, _, h.drewN q⟩
/-- A row of numbers, or nil. -/
def RI (w : World) (v : Value) (ds : List Nat) : Prop := ∃ a cap, v = .slice a ds.length cap ∧ (a = none → ds.length = 0) ∧ ∀ x, a = some x → ∃ gg, x = ⟨gg, 0, none⟩ ∧ ∀ j, j < ds.length → w.cell? ⟨gg, j, none⟩ = some (.int .i64 ((ds.getD j 0 : Nat) : Int))
theorem RI.nil (w : World) : RI w (.slice none 0 0) [] := ⟨none, 0, rfl, fun _ => rfl, fun x hx => by cases hx⟩
theorem RI.own {w : World} {B' : Nat} {v : Value} {ds : List Nat} (h : w.ownsRow B' 3 1 v ds.length (intsN ds)) : RI w v ds := by
  rcases h.2 with ⟨hv, h0⟩ | ⟨gg, cap, cu, hv, _⟩
  · exact ⟨none, 0, by rw [hv, h0], fun _ => h0, fun x hx => by cases hx⟩
  · refine ⟨some ⟨gg, 0, none⟩, cap, hv, (fun q => by cases q), fun x hx => ⟨gg, by cases hx; rfl, fun j hj => ?_⟩⟩
    rw [hv] at h
    rw [World.ownsRow.cellAt h j (by omega)]
    unfold intsN
    rw [List.getElem?_map, List.getD_eq_getElem?_getD, List.getElem?_eq_getElem hj]
    rfl
theorem pair_commit (h : Two w B gb gk gr gl g c P es cur last vo) (hu : Below B U w) (hB : B ≤ w.heap.size) (hp : 4 ≤ P ∧ P ≤ 256) (b : Int) :
    ∃ (er : Int) (ds : List Nat), ds.length ≤ 5000 ∧ Calls Try.prog 21 #[.pointer (some ⟨gb, 0, none⟩), .int .i64 b] w fun e w1 => ∃ v1, e = .returned (.tuple #[v1, .int .i64 er]) ∧ Grew w w1 gb gk ∧ Calls Try.prog 31 #[.pointer (some ⟨gr, 0, none⟩), .int .i64 b] w1 fun e w2 => ∃ v2, e = .returned (.tuple #[v2, .int .i64 er]) ∧ RI w2 v1 ds ∧ RI w2 v2 ds ∧ NextT U w2 B gb gk gr gl g c P := by
  cases hb : hasOk es.length b with
  | false =>
    refine ⟨41, [], by simp, (commit_out gb gk P es cur last _ b w h.bk h.n hb).mono ?_⟩
    rintro e w1 ⟨rfl, rfl⟩
    refine ⟨_, rfl, Grew.refl _ _ _, (rcommit_out gr gl g c P es cur last _ b w h.rf h.n hb).mono ?_⟩
    rintro e w2 ⟨rfl, rfl⟩
    exact ⟨_, rfl, RI.nil _, RI.nil _, next_same h hu hB⟩
  | true =>
    have hb' := of_decide_eq_true hb
    obtain ⟨i, rfl⟩ := Int.eq_ofNat_of_zero_le hb'.1
    have hi : i < es.length := by omega
    by_cases hs : (es.getD i Ent.zero).s = 2
    · refine ⟨0, dooms es es.length, by have := dooms_le es es.length; have := h.n; omega, (commit_ok gb gk P es cur last _ i w h.bk h.n hi hs).mono ?_⟩
      rintro e w1 ⟨v1, rfl, o1, b1, g1⟩
      refine ⟨v1, rfl, g1, (rcommit_ok gr gl g c P es cur last _ i w1 (h.rf.grew h.bk g1) h.n hi hs h.ok.left).mono ?_⟩
      rintro e w2 ⟨v2, rfl, o2, r2, g2⟩
      obtain ⟨l1, l2, l3⟩ := h.rf.lt
      have o1' : w2.ownsRow w.heap.size 3 1 v1 (dooms es es.length).length (intsN (dooms es es.length)) := by
        refine ⟨o1.1, ?_⟩
        rcases o1.2 with hn | ⟨gg, cap, cu, hv, hb2, hh, rest⟩
        · exact Or.inl hn
        · exact Or.inr ⟨gg, cap, cu, hv, hb2, (g2.block gg (lt_of_block hh) (by omega) (by omega) (by omega)).trans hh, rest⟩
      refine ⟨v2, rfl, RI.own o1', RI.own o2, next_step h hu hB b1 g1 r2 g2 (h.ok.com hp.1) (by simp) h.cl h.vl (fun a ha => ?_)⟩
      rw [comD]
      have h1 := h.vs a ha
      unfold comE
      rw [if_neg (by omega)]
      exact h1
    · refine ⟨110, [], by simp, (commit_bad gb gk P es cur last _ i w h.bk h.n hi hs).mono ?_⟩
      rintro e w1 ⟨rfl, rfl⟩
      refine ⟨_, rfl, Grew.refl _ _ _, (rcommit_bad gr gl g c P es cur last _ i w h.rf h.n hi hs).mono ?_⟩
      rintro e w2 ⟨rfl, rfl⟩
      exact ⟨_, rfl, RI.nil _, RI.nil _, next_same h hu hB⟩
end
set_option maxHeartbeats 1000000 in
theorem sameInts_eq (v1 v2 : Value) (ds : List Nat) (w : World) (h1 : RI w v1 ds) (h2 : RI w v2 ds) (hl : ds.length ≤ 5000) :
    Calls Try.prog 32 #[v1, v2] w fun e w' => e = .returned (.bool true) ∧ ∃ q, w' = w.drewN q := by
  obtain ⟨a1, c1, rfl, n1, r1⟩ := h1
  obtain ⟨a2, c2, rfl, n2, r2⟩ := h2
  have d0 : ((ds.length : Int) != ds.length) = false := by simp
  have HN1 : Hid _ := n1
  have HN2 : Hid _ := n2
  have HR1 : Hid _ := r1
  have HR2 : Hid _ := r2
  clear n1 n2 r1 r2
  go_enter Try.func32, Try.ntmps32
  go_wp2
  go_loopw [5] (fun s5 wr => ∃ k : Nat, k ≤ ds.length ∧ s5 = .int .i64 k ∧ ∃ q, wr = w.drewN q)
    (fun i _ => ds.length - (intOf i).toNat)
  case atStart => exact ⟨0, Nat.zero_le _, rfl, 0, rfl⟩
  case round =>
    obtain ⟨k, hk, rfl, q, rfl⟩ := hrel
    by_cases hlt : k < ds.length
    · cases a1 with
      | none => have := HN1.out rfl; omega
      | some x1 =>
        cases a2 with
        | none => have := HN2.out rfl; omega
        | some x2 =>
          obtain ⟨g1, rfl, e1⟩ := HR1.out x1 rfl
          obtain ⟨g2, rfl, e2⟩ := HR2.out x2 rfl
          have y1 := e1 k hlt
          have y2 := e2 k hlt
          obtain ⟨d, hd⟩ : ∃ d, ds.getD k 0 = d := ⟨_, rfl⟩
          rw [hd] at y1 y2
          have dk : (k : Int) < ds.length := by omega
          clear e1 e2 hd
          go_wp2
          go_quiet (fail)
          go_wp2
          go_roundw
          case rel => exact ⟨k + 1, by omega, by go_num, _, rfl⟩
          case measure => simp [intOf]; omega
    · have hkn : k = ds.length := by omega
      subst hkn
      go_wp2
      go_ret
      exact ⟨rfl, _, rfl⟩
end Go.Proofs.Ytgijbpkfheillaa
