/-
  SEAT Ytgijbpkfheillaa: BlocksMay: one call of the program's book.
-/
import Derived.Test.YtgijbpkfheillaaMyB
import Derived.Test.YtgijbpkfheillaaPlF
namespace Go.Proofs.Ytgijbpkfheillaa
open Go.RowKit
set_option linter.unusedVariables false

/-- The program's book as it may be. -/
structure One (w : World) (gb gk : Nat) (P : Int) (es : List Ent) (cur last : Int) (vo : Option Nat) : Prop where
  bk : BookAt w gb gk P es cur last (optI vo)
  iv : Inv P last es vo
  len : 8 ≤ es.length ∧ es.length ≤ 4096
  cl : -1 ≤ cur ∧ cur < es.length
theorem setl_len (es : List Ent) (last vic : Int) (i : Nat) : (settleE es last vic i).length = es.length := by
  unfold settleE
  split
  · simp
  · rfl
/-- Behind a call that answered er. -/
def Step (w w' : World) (gb gk : Nat) (P : Int) (es : List Ent) (cur last' er : Int) (keep : Prop) : Prop :=
  ∃ es' cur' vo', One w' gb gk P es' cur' last' vo' ∧ es'.length = es.length ∧ Grew w w' gb gk ∧ (er ≠ 0 → es' = es ∧ cur' = cur) ∧ (keep → NoLeft es → NoLeft es')
section
variable {w w' : World} {gb gk : Nat} {P : Int} {es : List Ent} {cur last : Int} {vo : Option Nat}
theorem One.n (h : One w gb gk P es cur last vo) : es.length ≤ 5000 := by have := h.len; omega
theorem One.below (h : One w gb gk P es cur last vo) (hb : Below w.heap.size w w') : One w' gb gk P es cur last vo := ⟨h.bk.below hb, h.iv, h.len, h.cl⟩
theorem One.drewN (h : One w gb gk P es cur last vo) (k : Nat) : One (w.drewN k) gb gk P es cur last vo := ⟨h.bk.drewN k, h.iv, h.len, h.cl⟩
theorem One.same (h : One w gb gk P es cur last vo) (er : Int) (keep : Prop) : Step w w gb gk P es cur last er keep :=
  ⟨es, cur, vo, h, rfl, Grew.refl _ _ _, fun _ => ⟨rfl, rfl⟩, fun _ q => q⟩
theorem One.step0 (h : One w gb gk P es cur last vo) (er : Int) (keep : Prop) (hb : Below w.heap.size w w') : Step w w' gb gk P es cur last er keep :=
  ⟨es, cur, vo, h.below hb, rfl, Grew.ofB hb, fun _ => ⟨rfl, rfl⟩, fun _ q => q⟩
theorem One.step1 (h : One w gb gk P es cur last vo) {es' : List Ent} {cur' last' : Int} {vo' : Option Nat} {keep : Prop} (b1 : BookAt w' gb gk P es' cur' last' (optI vo')) (iv : Inv P last' es' vo') (hl : es'.length = es.length) (hc : -1 ≤ cur' ∧ cur' < es.length) (hg : Grew w w' gb gk) (hk : keep → NoLeft es → NoLeft es') : Step w w' gb gk P es cur last' 0 keep :=
  ⟨es', cur', vo', ⟨b1, iv, by rw [hl]; exact h.len, by rw [hl]; exact hc⟩, hl, hg, fun q => absurd rfl q, hk⟩
theorem One.notLeft (h : One w gb gk P es cur last vo) {i : Nat} (hi : i < es.length) (hs : (es.getD i Ent.zero).s ≠ 4) : (es.getD i Ent.zero).left = false := by
  cases hl : (es.getD i Ent.zero).left with
  | false => rfl
  | true => exact absurd ((h.iv.row i hi).f hl) hs
theorem one_start (h : One w gb gk P es cur last vo) (hp : 4 ≤ P ∧ P ≤ 256) (b head : Int) :
    Calls Try.prog 42 #[.pointer (some ⟨gb, 0, none⟩), .int .i64 b, .int .u64 head] w fun e w1 => ∃ er, e = .returned (.int .i64 er) ∧ Step w w1 gb gk P es cur last er True := by
  cases hb : hasOk es.length b with
  | false =>
    refine (start_out gb gk P es cur last _ b head w h.bk h.n hb).mono ?_
    rintro e w1 ⟨rfl, rfl⟩
    exact ⟨_, rfl, h.same _ _⟩
  | true =>
    have hb' := of_decide_eq_true hb
    obtain ⟨i, rfl⟩ := Int.eq_ofNat_of_zero_le hb'.1
    have hi : i < es.length := by omega
    cases hs : startOk es i head with
    | false =>
      refine (start_bad gb gk P es cur last _ i head w h.bk h.n hi hs).mono ?_
      rintro e w1 ⟨rfl, q1⟩
      exact ⟨_, rfl, h.step0 _ _ q1⟩
    | true =>
      refine (start_ok gb gk P es cur last _ i head w h.bk h.n hi hs).mono ?_
      rintro e w1 ⟨rfl, b1, g1⟩
      have hs2 := hs
      unfold startOk at hs2
      simp only [Bool.and_eq_true, decide_eq_true_eq, beq_iff_eq, Option.isNone_iff_eq_none] at hs2
      have hlf := h.notLeft hi (by omega)
      have hpos : 0 < head := by
        have : ∀ k, 0 ≤ newestF es k := fun k => by
          induction k with
          | zero => exact Int.le_refl _
          | succ k ih => rw [newestF]; omega
        have := this es.length
        omega
      rw [hlf] at b1
      exact ⟨_, rfl, h.step1 b1 (h.iv.put hi (fun _ _ q => q) h.iv.vl ⟨by simp, by simp, by simp, (fun _ => by simp only; omega), by simp only; omega, by simp, by simp, by simp, by simp⟩ (Or.inr (Or.inr ((newestF_le es es.length head hpos).1 hs2.2))) (fun _ => Or.inr (openF_none_le hs2.1.1.1))) (by simp) h.cl (Grew.ofk g1) (fun _ q => q.put rfl)⟩
theorem one_real (h : One w gb gk P es cur last vo) :
    Calls Try.prog 43 #[.pointer (some ⟨gb, 0, none⟩)] w fun e w1 => ∃ er, e = .returned (.int .i64 er) ∧ Step w w1 gb gk P es cur last er True := by
  refine (real_any gb gk P es cur last _ w h.bk h.n).mono ?_
  cases ho : openF es es.length with
  | none =>
    rintro e w1 ⟨rfl, q1⟩
    exact ⟨_, rfl, h.step0 _ _ q1⟩
  | some o =>
    rintro e w1 ⟨rfl, b1, g1⟩
    obtain ⟨hi, hs⟩ := openF_some ho
    have k := h.iv.row o hi
    have hlf := h.notLeft hi (by omega)
    refine ⟨_, rfl, h.step1 b1 (h.iv.put hi (fun _ _ q => q) h.iv.vl ⟨k.a, ?_, k.d, k.h, k.l, (fun _ => Or.inl rfl), k.q, k.p, k.f⟩ (Or.inr (Or.inl rfl)) (fun _ => Or.inl hs)) (by simp) h.cl (Grew.ofk g1) (fun _ q => q.put hlf)⟩
    intro q
    simp only at q
    omega
theorem one_wait (h : One w gb gk P es cur last vo) :
    Calls Try.prog 45 #[.pointer (some ⟨gb, 0, none⟩)] w fun e w1 => ∃ er, e = .returned (.int .i64 er) ∧ Step w w1 gb gk P es cur last er True := by
  refine (wait_any gb gk P es cur last _ w h.bk h.n).mono ?_
  cases ho : openF es es.length with
  | none =>
    rintro e w1 ⟨rfl, q1⟩
    exact ⟨_, rfl, h.step0 _ _ q1⟩
  | some o =>
    rintro e w1 ⟨rfl, b1, g1⟩
    obtain ⟨hi, hs⟩ := openF_some ho
    have k := h.iv.row o hi
    have hlf := h.notLeft hi (by omega)
    exact ⟨_, rfl, h.step1 b1 (h.iv.put hi (fun _ _ q => q) h.iv.vl ⟨by simp, by simp, by simp, (fun _ => k.h (by omega)), k.l, by simp, by simp, by simp, (fun _ => rfl)⟩ (Or.inr (Or.inl rfl)) (by simp)) (by simp) h.cl (Grew.ofk g1) (fun _ q => q.put hlf)⟩
theorem one_shut (h : One w gb gk P es cur last vo) (hp : 4 ≤ P ∧ P ≤ 256) :
    Calls Try.prog 44 #[.pointer (some ⟨gb, 0, none⟩)] w fun e w1 => ∃ er, e = .returned (.int .i64 er) ∧ Step w w1 gb gk P es cur last er True := by
  refine (shut_any gb gk P es cur last _ w h.bk h.n).mono ?_
  cases ho : openF es es.length with
  | none =>
    rintro e w1 ⟨rfl, q1⟩
    exact ⟨_, rfl, h.step0 _ _ q1⟩
  | some o =>
    rintro e w1 ⟨rfl, b1, g1⟩
    obtain ⟨hi, hs⟩ := openF_some ho
    have k := h.iv.row o hi
    have hlf := h.notLeft hi (by omega)
    refine ⟨_, rfl, h.step1 b1 (h.iv.settle hp.1 hi rfl ⟨by simp, by simp, by simp, (fun _ => k.h (by omega)), k.l, (fun _ => Or.inr (Or.inr trivial)), by simp, by simp, ?_⟩ rfl (by simp)) (by rw [setl_len]; simp) h.cl (Grew.ofk g1) (fun _ q => NoLeft.settle (NoLeft.put q ?_) _ _ _)⟩
    rotate_left
    · exact hlf
    intro q
    simp only at q
    rw [hlf] at q
    cases q
theorem one_live (h : One w gb gk P es cur last vo) (hp : 4 ≤ P ∧ P ≤ 256) (b more : Int) (hm : Wf more) :
    Calls Try.prog 17 #[.pointer (some ⟨gb, 0, none⟩), .int .i64 b, .int .i64 more] w fun e w1 => ∃ er, e = .returned (.int .i64 er) ∧ Step w w1 gb gk P es cur last er True := by
  cases hb : hasOk es.length b with
  | false =>
    refine (live_out gb gk P es cur last _ b more w h.bk h.n hb).mono ?_
    rintro e w1 ⟨rfl, rfl⟩
    exact ⟨_, rfl, h.same _ _⟩
  | true =>
    have hb' := of_decide_eq_true hb
    obtain ⟨i, rfl⟩ := Int.eq_ofNat_of_zero_le hb'.1
    have hi : i < es.length := by omega
    have k := h.iv.row i hi
    by_cases hd : logE (es.getD i Ent.zero) = true ∧ 0 ≤ (es.getD i Ent.zero).l + more ∧ (es.getD i Ent.zero).l + more ≤ P - 1
    · refine (live_ok gb gk P es cur last _ i more w h.bk h.n hi hp hd.1 hd.2.1 hd.2.2).mono ?_
      rintro e w1 ⟨rfl, b1, g1⟩
      have hst := log_states hd.1
      refine ⟨_, rfl, h.step1 b1 (h.iv.settle hp.1 hi rfl ⟨k.a, ?_, ?_, k.h, hd.2, (fun _ => Or.inr (Or.inr trivial)), k.q, k.p, k.f⟩ rfl id) (by rw [setl_len]; simp) h.cl (Grew.ofk g1) (fun _ q => NoLeft.settle (NoLeft.put q ?_) _ _ _)⟩
      rotate_left 2
      · exact q i hi
      · intro q
        simp only at q
        omega
      · intro q
        simp only at q
        omega
    · refine (live_bad gb gk P es cur last _ i more w h.bk h.n hi hp k.l hm ?_).mono ?_
      · cases hl : logE (es.getD i Ent.zero) with
        | false => exact Or.inl rfl
        | true =>
          refine Or.inr ?_
          by_cases h1 : (es.getD i Ent.zero).l + more < 0
          · exact Or.inl h1
          · refine Or.inr ?_
            by_cases h2 : P - 1 < (es.getD i Ent.zero).l + more
            · exact h2
            · exact absurd ⟨hl, by omega, by omega⟩ hd
      · rintro e w1 ⟨rfl, q1⟩
        exact ⟨_, rfl, h.step0 _ _ q1⟩
theorem one_bad (h : One w gb gk P es cur last vo) (hp : 4 ≤ P ∧ P ≤ 256) (b : Int) :
    Calls Try.prog 12 #[.pointer (some ⟨gb, 0, none⟩), .int .i64 b] w fun e w1 => ∃ er, e = .returned (.int .i64 er) ∧ Step w w1 gb gk P es cur last er True := by
  cases hb : hasOk es.length b with
  | false =>
    refine (bad_out gb gk P es cur last _ b w h.bk h.n hb).mono ?_
    rintro e w1 ⟨rfl, rfl⟩
    exact ⟨_, rfl, h.same _ _⟩
  | true =>
    have hb' := of_decide_eq_true hb
    obtain ⟨i, rfl⟩ := Int.eq_ofNat_of_zero_le hb'.1
    have hi : i < es.length := by omega
    have k := h.iv.row i hi
    have fin : ∀ {w1}, (i : Int) ≠ last → BookAt w1 gb gk P (es.set i ⟨6, 0, false, 0, false⟩) cur last (optI vo) → w.grownBy w1 (some gk) → Step w w1 gb gk P es cur last 0 True := fun hl b1 g1 =>
      h.step1 b1 (h.iv.put hi (fun _ _ q => q) h.iv.vl ⟨by simp, by simp, by simp, by simp, by simp only; omega, by simp, by simp, (fun q => absurd q hl), by simp⟩ (Or.inl rfl) (by simp)) (by simp) h.cl (Grew.ofk g1) (fun _ q => q.put rfl)
    by_cases h0 : (es.getD i Ent.zero).s = 0
    · refine (bad_free gb gk P es cur last _ i w h.bk hi h.n h0).mono ?_
      rintro e w1 ⟨rfl, b1, g1⟩
      exact ⟨_, rfl, fin (fun q => (k.p q).1 h0) b1 g1⟩
    · by_cases hd : doneE (es.getD i Ent.zero) = true ∧ (i : Int) ≠ last
      · refine (bad_done gb gk P es cur last _ i w h.bk hi h.n hd.1 hd.2).mono ?_
        rintro e w1 ⟨rfl, b1, g1⟩
        exact ⟨_, rfl, fin hd.2 b1 g1⟩
      · refine (bad_bad gb gk P es cur last _ i w h.bk hi h.n h0 ?_).mono ?_
        · by_cases hl : (i : Int) = last
          · exact Or.inl hl
          · refine Or.inr ?_
            cases hq : doneE (es.getD i Ent.zero) with
            | false => rfl
            | true => exact absurd ⟨hq, hl⟩ hd
        · rintro e w1 ⟨rfl, q1⟩
          exact ⟨_, rfl, h.step0 _ _ q1⟩
theorem one_leave (h : One w gb gk P es cur last vo) (b : Int) :
    Calls Try.prog 18 #[.pointer (some ⟨gb, 0, none⟩), .int .i64 b] w fun e w1 => ∃ er, e = .returned (.int .i64 er) ∧ Step w w1 gb gk P es cur last er (∀ i : Nat, b = i → i < es.length → (es.getD i Ent.zero).s ≠ 4) := by
  cases hb : hasOk es.length b with
  | false =>
    refine (leave_out gb gk P es cur last _ b w h.bk h.n hb).mono ?_
    rintro e w1 ⟨rfl, rfl⟩
    exact ⟨_, rfl, h.same _ _⟩
  | true =>
    have hb' := of_decide_eq_true hb
    obtain ⟨i, rfl⟩ := Int.eq_ofNat_of_zero_le hb'.1
    have hi : i < es.length := by omega
    have k := h.iv.row i hi
    by_cases hd : candE (es.getD i Ent.zero) = true ∧ (es.getD i Ent.zero).l = 0
    · refine (leave_ok gb gk P es cur last _ i w h.bk h.n hi hd.1 hd.2).mono ?_
      rintro e w1 ⟨rfl, b1, g1⟩
      obtain ⟨vo', hvo, hv1, hv2⟩ : ∃ vo', (if (i : Int) = optI vo then -1 else optI vo) = optI vo' ∧ (∀ j, j ≠ i → vo = some j → vo' = some j) ∧ ∀ a, vo' = some a → vo = some a := by
        cases vo with
        | none => exact ⟨none, ite_self _, (fun j _ q => q), fun a q => q⟩
        | some a =>
          by_cases e : i = a
          · subst e
            exact ⟨none, by simp [optI], (fun j hj q => absurd (by injection q with q; exact q.symm) hj), (fun a q => by cases q)⟩
          · refine ⟨some a, if_neg ?_, (fun j _ q => q), fun a q => q⟩
            show ¬ (i : Int) = (a : Int)
            omega
      rw [hvo] at b1
      have hlg := log_states (cand_of'.1 hd.1).1
      have hs2 := (cand_of'.1 hd.1).2
      have hx : RowE P last i (vo' = some i) (leaveE (es.getD i Ent.zero)) ∧ (leaveE (es.getD i Ent.zero)).h = (es.getD i Ent.zero).h ∧ (leaveE (es.getD i Ent.zero)).s ≠ 2 := by
        unfold leaveE
        split
        · rename_i s1
          refine ⟨⟨by simp, by simp, (fun _ => hd.2), (fun _ => k.h (by omega)), k.l, by simp, by simp, by simp, ?_⟩, rfl, by simp⟩
          intro q
          have := k.f q
          omega
        · refine ⟨⟨k.a, k.z, k.d, k.h, k.l, ?_, k.q, k.p, ?_⟩, rfl, hs2⟩
          · intro q
            simp only at q
            omega
          · intro q
            simp only
            omega
      refine ⟨_, rfl, h.step1 b1 (h.iv.put hi hv1 (fun a q => h.iv.vl a (hv2 a q)) hx.1 (Or.inr (Or.inl hx.2.1)) (fun q => absurd q hx.2.2)) (by simp) h.cl g1 (fun q1 q2 => q2.put ?_)⟩
      have := q1 i rfl hi
      unfold leaveE
      rw [if_pos (by omega)]
      exact q2 i hi
    · refine (leave_bad gb gk P es cur last _ i w h.bk h.n hi ?_).mono ?_
      · by_cases q : (es.getD i Ent.zero).l = 0
        · exact Or.inl (by cases q2 : candE (es.getD i Ent.zero) with | false => rfl | true => exact absurd ⟨q2, q⟩ hd)
        · exact Or.inr q
      · rintro e w1 ⟨rfl, q1⟩
        exact ⟨_, rfl, h.step0 _ _ q1⟩
theorem one_commit (h : One w gb gk P es cur last vo) (hp : 4 ≤ P ∧ P ≤ 256) (b : Int) :
    Calls Try.prog 21 #[.pointer (some ⟨gb, 0, none⟩), .int .i64 b] w fun e w1 => ∃ v1 er, e = .returned (.tuple #[v1, .int .i64 er]) ∧ Step w w1 gb gk P es cur (if er = 0 then b else last) er True := by
  cases hb : hasOk es.length b with
  | false =>
    refine (commit_out gb gk P es cur last _ b w h.bk h.n hb).mono ?_
    rintro e w1 ⟨rfl, rfl⟩
    exact ⟨_, 41, rfl, h.same _ _⟩
  | true =>
    have hb' := of_decide_eq_true hb
    obtain ⟨i, rfl⟩ := Int.eq_ofNat_of_zero_le hb'.1
    have hi : i < es.length := by omega
    by_cases hs : (es.getD i Ent.zero).s = 2
    · refine (commit_ok gb gk P es cur last _ i w h.bk h.n hi hs).mono ?_
      rintro e w1 ⟨v1, rfl, o1, b1, g1⟩
      exact ⟨v1, 0, rfl, h.step1 b1 (h.iv.com hp.1 hi hs) (by simp) h.cl g1 (fun _ q => q.com)⟩
    · refine (commit_bad gb gk P es cur last _ i w h.bk h.n hi hs).mono ?_
      rintro e w1 ⟨rfl, rfl⟩
      exact ⟨_, 110, rfl, h.same _ _⟩
theorem one_clean (h : One w gb gk P es cur last vo) (hp : 4 ≤ P ∧ P ≤ 256) :
    Calls Try.prog 15 #[.pointer (some ⟨gb, 0, none⟩)] w fun e w1 => ∃ a hd c, e = .returned (.tuple #[.int .i64 a, .int .u64 hd, .bool c]) ∧ Step w w1 gb gk P es cur last 0 True := by
  refine (clean_any gb gk P es cur last vo w h.bk h.n h.iv.vl).mono ?_
  rintro e w1 ⟨rfl, b1, g1⟩
  obtain ⟨vo', hvo, hvl, hf⟩ : ∃ vo', optI vo' = cleanV es ∧ (∀ a, vo' = some a → a < es.length) ∧ ∃ a hd c, oldV (oldE es) = .tuple #[.int .i64 a, .int .u64 hd, .bool c] := by
    unfold cleanV
    cases ho : oldE es with
    | none => exact ⟨none, rfl, (fun a q => by cases q), _, _, _, rfl⟩
    | some p =>
      obtain ⟨v, hd⟩ := p
      exact ⟨some v, rfl, (fun a q => by injection q with q; subst q; exact old_lt ho), _, _, _, rfl⟩
  obtain ⟨a, hd, c, hf⟩ := hf
  rw [← hvo] at b1
  refine ⟨a, hd, c, by rw [hf], h.step1 b1 (h.iv.clean hp.1 rfl hvl) ?_ h.cl g1 (fun _ q => ?_)⟩
  · cases vo with
    | none => rfl
    | some x => exact setl_len _ _ _ _
  · cases vo with
    | none => exact q
    | some x => exact q.settle _ _ _
theorem one_pick (h : One w gb gk P es cur last vo) :
    Calls Try.prog 10 #[.pointer (some ⟨gb, 0, none⟩)] w fun e w1 => ∃ a c, e = .returned (.tuple #[.int .i64 a, .bool c]) ∧ Step w w1 gb gk P es cur last 0 True := by
  have hl := h.len
  refine (pick_any gb gk P es cur last _ w h.bk h.n (by omega) h.cl.1 h.cl.2).mono ?_
  rintro e w1 (⟨i, hi, h0, _, rfl, b1, g1⟩ | ⟨_, rfl, q, rfl⟩)
  · have := nth_lt es.length cur i (by omega)
    exact ⟨_, _, rfl, h.step1 b1 h.iv rfl (by omega) (Grew.ofb g1) (fun _ q => q)⟩
  · exact ⟨_, _, rfl, es, cur, vo, h.drewN q, rfl, Grew.ofB (below_drewN (Below.refl _ _) q), fun _ => ⟨rfl, rfl⟩, fun _ q => q⟩
end
end Go.Proofs.Ytgijbpkfheillaa
