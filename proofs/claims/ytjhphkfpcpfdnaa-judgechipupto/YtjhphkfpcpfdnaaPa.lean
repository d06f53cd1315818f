/-
  SEAT Ytjhphkfpcpfdnaa: the chip and the judge, without memory.
-/
import Derived.Test.YtjhphkfpcpfdnaaHb
import Derived.Test.YtjhphkfpcpfdnaaJX
namespace Go.Proofs.Ytjhphkfpcpfdnaa
open Go.RowKit Go.Conc
set_option linter.unusedVariables false

def Cmd.j (c : Cmd) : J.Cmd := ⟨c.k, c.b, c.p, c.s⟩
/-- What the judge knows is what the chip has. -/
structure JInv (C : Ch) (st : List J.Blk) : Prop where
  q : ∀ f ∈ C.q, f.k = 1 ∨ f.k = 2
  len : st.length = C.B
  blk : ∀ (i : Nat) b s, C.bl[i]? = some b → st[i]? = some s → s.m = b.m ∧ 0 ≤ s.n ∧ s.n = (if b.r then b.nx else (C.P : Int))
theorem takeF_cases {q : List Ft} (h : ∀ f ∈ q, f.k = 1 ∨ f.k = 2) (n : Int) : takeF n q = Ft.no ∨ (takeF n q).k = 1 ∨ (takeF n q).k = 2 := by
  cases q with
  | nil => exact Or.inl rfl
  | cons f r =>
    by_cases e : f.a = n
    · rw [show takeF n (f :: r) = f from if_pos e]; exact Or.inr (h f (by simp))
    · rw [show takeF n (f :: r) = Ft.no from if_neg e]; exact Or.inl rfl
theorem takeR_mem {q : List Ft} {n : Int} : ∀ f ∈ takeR n q, f ∈ q := by
  cases q with
  | nil => intro f hf; exact hf
  | cons g r =>
    intro f hf
    by_cases e : g.a = n
    · rw [show takeR n (g :: r) = r from if_pos e] at hf; exact List.mem_cons_of_mem _ hf
    · rw [show takeR n (g :: r) = g :: r from if_neg e] at hf; exact hf
theorem endE_cases {q : List Ft} (h : ∀ f ∈ q, f.k = 1 ∨ f.k = 2) (n : Int) : (endE (takeF n q).k = 0 ∧ takeF n q = Ft.no ∧ ((takeF n q).k == 0) = true) ∨ ((endE (takeF n q).k = 44 ∨ endE (takeF n q).k = 45) ∧ ((takeF n q).k == 0) = false) := by
  rcases takeF_cases h n with e | e | e
  · rw [e]; exact Or.inl ⟨rfl, rfl, rfl⟩
  · rw [e]; exact Or.inr ⟨Or.inl rfl, rfl⟩
  · rw [e]; exact Or.inr ⟨Or.inr rfl, rfl⟩
theorem see_none {P : Int} {st : List J.Blk} {c : J.Cmd} (h : ∀ i : Nat, c.b = i → i < st.length → J.kpt P (st.getD i J.Blk.zero) c = false) : J.see P st c = none := by
  unfold J.see
  refine if_neg ?_
  rintro ⟨h0, h1, _, h3⟩
  rw [h c.b.toNat (by omega) (by omega)] at h3
  cases h3
theorem see_not {P : Int} {st : List J.Blk} {c : J.Cmd} (h : J.taken c.s = false) : J.see P st c = none := by
  unfold J.see
  refine if_neg ?_
  rintro ⟨_, _, h3, _⟩
  rw [h] at h3
  cases h3
theorem see_yes {P : Int} {st : List J.Blk} {c : J.Cmd} {i : Nat} (hi : c.b = i) (hl : i < st.length) (ht : J.taken c.s = true) (hk : J.kpt P (st.getD i J.Blk.zero) c = true) : J.see P st c = some (st.set i (J.bhd P (st.getD i J.Blk.zero) c)) := by
  have e : c.b.toNat = i := by omega
  unfold J.see
  rw [if_pos ⟨by omega, by omega, ht, by rw [e]; exact hk⟩, e]
/-- One command: what the trace has of it, and how the judge sees it. -/
structure JStep (C C' : Ch) (st : List J.Blk) (k b p : Int) : Prop where
  ex : ∃ e : Int, C'.tr = C.tr ++ [⟨k, b, p, e⟩] ∧ -9223372036854775808 ≤ e ∧ e ≤ 9223372036854775807 ∧ ((k = 3 ∧ (e = 44 ∨ e = 45)) ∨ ((k = 3 → e = 0 ∨ e = 41) ∧ (J.see C.P st ⟨k, b, p, e⟩).isSome = J.taken e ∧ JInv C' ((J.see C.P st ⟨k, b, p, e⟩).getD st) ∧ J.refR C.P st ⟨k, b, p, e⟩ = true))
section
variable {C : Ch} {st : List J.Blk} {k b p e : Int}
theorem JStep.refused (h : JInv C st) (he : e = 41 ∨ (e = 43 ∧ k ≠ 3)) (hn : J.see C.P st ⟨k, b, p, 0⟩ = none) : JStep C (noteC k b p (e, C)).2 st k b p := by
  have ht : J.taken e = false := by rcases he with rfl | ⟨rfl, _⟩ <;> rfl
  have hs : J.see C.P st ⟨k, b, p, e⟩ = none := see_not ht
  refine ⟨e, rfl, by omega, by omega, Or.inr ⟨fun h3 => by omega, by rw [hs, ht]; rfl, by rw [hs]; exact ⟨h.q, h.len, h.blk⟩, ?_⟩⟩
  unfold J.refR
  rw [if_pos (by simp only; omega)]
  simp only
  rw [hn]
  rfl
theorem JStep.done {D : Ch} {i : Nat} {b' : Bl} {s : J.Blk} (h : JInv C st) (hb : b = i) (hi : i < C.B) (hs : st[i]? = some s) (he : e = 0 ∨ e = 44 ∨ e = 45) (h3 : k = 3 → e = 0) (hk : J.kpt C.P s ⟨k, b, p, e⟩ = true) (htr : D.tr = C.tr) (hq : D.q = takeR C.cnt C.q) (hB : D.B = C.B) (hP : D.P = C.P) (hbl : D.bl = C.bl.set i b')
    (hr : (J.bhd C.P s ⟨k, b, p, e⟩).m = b'.m ∧ 0 ≤ (J.bhd C.P s ⟨k, b, p, e⟩).n ∧ (J.bhd C.P s ⟨k, b, p, e⟩).n = (if b'.r then b'.nx else (C.P : Int))) : JStep C (noteC k b p (e, D)).2 st k b p := by
  have ht : J.taken e = true := by rcases he with rfl | rfl | rfl <;> rfl
  have hg : st.getD i J.Blk.zero = s := by rw [List.getD_eq_getElem?_getD, hs]; rfl
  have hsee : J.see C.P st ⟨k, b, p, e⟩ = some (st.set i (J.bhd C.P s ⟨k, b, p, e⟩)) := by
    have h9 := see_yes (P := C.P) (st := st) (c := ⟨k, b, p, e⟩) (i := i) hb (by rw [h.len]; exact hi) ht (by rw [hg]; exact hk)
    rw [hg] at h9
    exact h9
  refine ⟨e, by show D.tr ++ _ = _; rw [htr], by omega, by omega, Or.inr ⟨fun h9 => Or.inl (h3 h9), by rw [hsee, ht]; rfl, ?_, ?_⟩⟩
  · rw [hsee]
    refine ⟨fun f hf => h.q f (takeR_mem f (by rw [← hq]; exact hf)), by show (st.set i _).length = D.B; rw [List.length_set, h.len, hB], ?_⟩
    intro j bj sj hbj hsj
    have hbj' : (C.bl.set i b')[j]? = some bj := by rw [← hbl]; exact hbj
    have hsj' : (st.set i (J.bhd C.P s ⟨k, b, p, e⟩))[j]? = some sj := hsj
    show _ ∧ _ ∧ sj.n = (if bj.r then bj.nx else (D.P : Int))
    rw [hP]
    by_cases ej : i = j
    · subst ej
      rw [List.getElem?_set_self (by rw [h.len]; exact hi)] at hsj'
      cases hsj'
      have hl : i < C.bl.length := by
        rcases Nat.lt_or_ge i C.bl.length with h9 | h9
        · exact h9
        · rw [List.getElem?_eq_none (by simpa using h9)] at hbj'; cases hbj'
      rw [List.getElem?_set_self hl] at hbj'
      cases hbj'
      exact hr
    · rw [List.getElem?_set_ne ej] at hbj' hsj'
      exact h.blk j bj sj hbj' hsj'
  · unfold J.refR
    rw [if_neg (by simp only; omega), hsee]
    rfl
theorem hasB_nat {B : Nat} {pb : Int} (h : hasB B pb = true) : ∃ i : Nat, pb = i ∧ i < B := by
  unfold hasB at h
  simp only [decide_eq_true_eq] at h
  exact ⟨pb.toNat, by omega, by omega⟩
theorem hasB_no {B : Nat} {pb : Int} (h : hasB B pb = false) : ∀ i : Nat, pb = i → ¬ i < B := by
  intro i e hi
  have h9 : hasB B pb = true := by unfold hasB; simp only [decide_eq_true_eq]; omega
  rw [h] at h9; cases h9
theorem st_get (h : JInv C st) {i : Nat} (hi : i < C.B) : ∃ s, st[i]? = some s ∧ st.getD i J.Blk.zero = s := by
  have hl : i < st.length := by rw [h.len]; exact hi
  exact ⟨st[i], List.getElem?_eq_getElem hl, by rw [List.getD_eq_getElem?_getD, List.getElem?_eq_getElem hl]; rfl⟩
theorem jprog (h : JInv C st) (hok : C.Ok) (hd : C.dark = false) (pb pp : Int) (want : List Int) : JStep C (ProgramC C pb pp (256 * C.S) (54 + 3 * C.S) want).2 st 1 pb pp := by
  unfold ProgramC
  rw [if_neg (by rw [hd]; decide), if_neg (by omega)]
  unfold progC
  cases hp : hasP C.B C.P pb pp with
  | false =>
    rw [if_pos rfl]
    refine JStep.refused h (Or.inl rfl) (see_none (fun i e hi => ?_))
    simp only at e
    rw [h.len] at hi
    obtain ⟨s, hs, hg⟩ := st_get h hi
    obtain ⟨bo, hb⟩ : ∃ x, C.bl[i]? = some x := ⟨_, List.getElem?_eq_getElem (by rw [hok.bl]; exact hi)⟩
    have h0 := (h.blk i bo s hb hs).2.1
    rw [hg]
    unfold J.kpt
    rw [if_pos rfl]
    simp only [Bool.and_eq_false_iff, decide_eq_false_iff_not]
    right
    rintro ⟨h1, h2⟩
    unfold hasP hasB at hp
    have h9 : (decide (0 ≤ pb) && decide (pb < (C.B : Int)) && (decide (0 ≤ pp) && decide (pp < (C.P : Int)))) = true := by simp only [Bool.and_eq_true, decide_eq_true_eq]; omega
    simp_all
    omega
  | true =>
    rw [if_neg (by decide)]
    obtain ⟨i, k, rfl, rfl, hi, hk⟩ := hasP_nat hp
    simp only [Int.toNat_natCast]
    obtain ⟨bo, hb⟩ : ∃ x, C.bl[i]? = some x := ⟨_, List.getElem?_eq_getElem (by rw [hok.bl]; exact hi)⟩
    obtain ⟨s, hs, hg⟩ := st_get h hi
    obtain ⟨r1, r2, r3⟩ := h.blk i bo s hb hs
    rw [hb]
    simp only
    by_cases hm : (bo.m || !bo.r || decide ((k : Int) < bo.nx)) = true
    · rw [if_pos hm]
      refine JStep.refused h (Or.inr ⟨rfl, by decide⟩) (see_none (fun i' e _ => ?_))
      have e' : i' = i := by simp only at e; omega
      subst e'
      rw [hg]
      unfold J.kpt
      rw [if_pos rfl, r1]
      simp only [Bool.or_eq_true, Bool.not_eq_true', decide_eq_true_eq] at hm
      simp only [Bool.and_eq_false_iff, Bool.not_eq_false', decide_eq_false_iff_not]
      rcases hm with (hm | hm) | hm
      · exact Or.inl hm
      · right
        rw [hm] at r3
        simp only [Bool.false_eq_true, if_false] at r3
        omega
      · right
        cases hr : bo.r with
        | true => rw [hr] at r3; simp only [if_true] at r3; omega
        | false => rw [hr] at r3; simp only [Bool.false_eq_true, if_false] at r3; omega
    · rw [if_neg hm]
      obtain ⟨g, hgp⟩ : ∃ x, bo.ps[k]? = some x := ⟨_, List.getElem?_eq_getElem (by rw [hok.ps bo (List.mem_of_getElem? hb)]; exact hk)⟩
      rw [hgp]
      simp only
      simp only [Bool.or_eq_true, Bool.not_eq_true', decide_eq_true_eq, not_or, Bool.not_eq_true, Bool.not_eq_false] at hm
      obtain ⟨⟨m1, m2⟩, m3⟩ := hm
      rw [m2] at r3
      simp only [if_true] at r3
      refine JStep.done (D := progN C i k bo g want) (b' := { bo with nx := (k : Int) + 1, ps := bo.ps.set k ⟨fallL g.bits want (takeF C.cnt C.q).m (takeF C.cnt C.q).f (pgB C.S), (takeF C.cnt C.q).k == 0⟩ }) h rfl hi hs ?_ (fun h9 => by cases h9) ?_ rfl rfl rfl rfl ?_ ?_
      · rcases endE_cases h.q (C.cnt : Int) with h9 | h9 <;> omega
      · unfold J.kpt
        rw [if_pos rfl, r1, m1]
        simp only [Bool.not_false, Bool.true_and, decide_eq_true_eq]
        omega
      · simp [progN]
      · unfold J.bhd
        rw [if_pos rfl]
        simp only [m2, if_true]
        exact ⟨r1, by omega, trivial⟩
theorem jerase (h : JInv C st) (hok : C.Ok) (hd : C.dark = false) (pb : Int) : JStep C (EraseC C pb).2 st 2 pb 0 := by
  unfold EraseC
  rw [if_neg (by rw [hd]; decide)]
  unfold eraseC
  cases hp : hasB C.B pb with
  | false =>
    rw [if_pos rfl]
    exact JStep.refused h (Or.inl rfl) (see_none (fun i e hi => absurd (by rw [h.len] at hi; exact hi) (hasB_no hp i e)))
  | true =>
    rw [if_neg (by decide)]
    obtain ⟨i, rfl, hi⟩ := hasB_nat hp
    simp only [Int.toNat_natCast]
    obtain ⟨bo, hb⟩ : ∃ x, C.bl[i]? = some x := ⟨_, List.getElem?_eq_getElem (by rw [hok.bl]; exact hi)⟩
    obtain ⟨s, hs, hg⟩ := st_get h hi
    obtain ⟨r1, r2, r3⟩ := h.blk i bo s hb hs
    rw [hb]
    simp only
    by_cases hm : bo.m = true
    · rw [if_pos hm]
      refine JStep.refused h (Or.inr ⟨rfl, by decide⟩) (see_none (fun i' e _ => ?_))
      have e' : i' = i := by simp only at e; omega
      subst e'
      rw [hg]
      unfold J.kpt
      rw [if_neg (show ¬ (2 : Int) = 1 by decide), if_pos rfl, r1, hm]
      rfl
    · rw [if_neg hm]
      have hm' : bo.m = false := by cases hx : bo.m with | false => rfl | true => exact absurd hx hm
      refine JStep.done (D := eraseN C i bo) (b' := { bo with r := (takeF C.cnt C.q).k == 0, nx := 0, ps := erJ (pgB C.S) (takeF C.cnt C.q).k (takeF C.cnt C.q).m (takeF C.cnt C.q).f bo.ps C.P }) h rfl hi hs ?_ (fun h9 => by cases h9) ?_ rfl rfl rfl rfl ?_ ?_
      · rcases endE_cases h.q (C.cnt : Int) with h9 | h9 <;> omega
      · unfold J.kpt
        rw [if_neg (show ¬ (2 : Int) = 1 by decide), if_pos rfl, r1, hm']
        rfl
      · simp [eraseN]
      · unfold J.bhd
        rw [if_neg (show ¬ (2 : Int) = 1 by decide), if_pos rfl]
        simp only
        rcases endE_cases h.q (C.cnt : Int) with ⟨h8, _, h9⟩ | ⟨h8, h9⟩
        · rw [h8, h9]; exact ⟨r1, by simp, by simp⟩
        · rw [h9, if_neg (show ¬ endE (takeF (C.cnt : Int) C.q).k = 0 by omega)]; exact ⟨r1, by simp, by simp⟩
theorem jmark (h : JInv C st) (hok : C.Ok) (hd : C.dark = false) (pb : Int) : JStep C (MarkC C pb).2 st 3 pb 0 := by
  unfold MarkC
  rw [if_neg (by rw [hd]; decide)]
  unfold markC
  cases hp : hasB C.B pb with
  | false =>
    rw [if_pos rfl]
    exact JStep.refused h (Or.inl rfl) (see_none (fun i e hi => absurd (by rw [h.len] at hi; exact hi) (hasB_no hp i e)))
  | true =>
    rw [if_neg (by decide)]
    obtain ⟨i, rfl, hi⟩ := hasB_nat hp
    simp only [Int.toNat_natCast]
    obtain ⟨bo, hb⟩ : ∃ x, C.bl[i]? = some x := ⟨_, List.getElem?_eq_getElem (by rw [hok.bl]; exact hi)⟩
    obtain ⟨s, hs, hg⟩ := st_get h hi
    obtain ⟨r1, r2, r3⟩ := h.blk i bo s hb hs
    rw [hb]
    simp only
    rcases endE_cases h.q (C.cnt : Int) with ⟨h8, hno, h9⟩ | ⟨h8, h9⟩
    · have hmk : markB (takeF (C.cnt : Int) C.q).m (takeF (C.cnt : Int) C.q).f = true := by rw [hno]; decide +kernel
      refine JStep.done (b' := { bo with m := bo.m || markB (takeF (C.cnt : Int) C.q).m (takeF (C.cnt : Int) C.q).f }) h rfl hi hs (Or.inl h8) (fun _ => h8) ?_ rfl rfl rfl rfl rfl ?_
      · unfold J.kpt
        rw [if_neg (show ¬ (3 : Int) = 1 by decide), if_neg (show ¬ (3 : Int) = 2 by decide)]
        rfl
      · unfold J.bhd
        rw [if_neg (show ¬ (3 : Int) = 1 by decide), if_neg (show ¬ (3 : Int) = 2 by decide), if_pos rfl, h8, hmk]
        simp only [decide_true, Bool.or_true]
        exact ⟨trivial, r2, r3⟩
    · refine ⟨endE (takeF (C.cnt : Int) C.q).k, rfl, by omega, by omega, Or.inl ⟨rfl, h8⟩⟩
end
/-- A new chip is what a new judge of its marks knows. -/
theorem jnew (B P S : Nat) (bad : List Int) (q : List Ft) (hq : ∀ f ∈ q, f.k = 1 ∨ f.k = 2) : JInv (newC B P S bad q) (J.start true P ((newC B P S bad q).bl.map (fun b => b.m))) := by
  have key : ∀ (bad : List Int) (l : List Bl), (∀ b ∈ l, b.r = true ∧ b.nx = 0) → ∀ b ∈ marks l bad, b.r = true ∧ b.nx = 0 := by
    intro bad
    induction bad with
    | nil => intro l h; exact h
    | cons z r ih =>
      intro l h
      refine ih (markAt l z.toNat) ?_
      unfold markAt
      split
      · rename_i b hb
        intro c hc
        rcases List.mem_or_eq_of_mem_set hc with h1 | h1
        · exact h c h1
        · rw [h1]; exact h b (List.mem_of_getElem? hb)
      · exact h
  refine ⟨hq, ?_, ?_⟩
  · unfold J.start
    rw [List.length_map, List.length_map]
    show (marks _ bad).length = B
    rw [marks_len]
    simp
  · intro i b s hb hs
    have h9 := key bad _ (fun b hb => by
      obtain ⟨b0, hb0, rfl⟩ := List.mem_map.1 hb
      rw [(List.mem_replicate.1 hb0).2]
      exact ⟨rfl, rfl⟩) b (List.mem_of_getElem? hb)
    unfold J.start at hs
    rw [List.map_map, List.getElem?_map, hb] at hs
    simp only [Option.map_some, Option.some.injEq] at hs
    subst hs
    rw [h9.1, h9.2]
    exact ⟨rfl, by simp [J.firstN], by simp [J.firstN]⟩
end Go.Proofs.Ytjhphkfpcpfdnaa
