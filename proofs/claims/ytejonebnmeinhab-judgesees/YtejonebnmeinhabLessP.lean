/-
  SEAT Ytejonebnmeinhab: traces with commands left out, with a Mark put in.
-/
import Derived.Test.YtejonebnmeinhabPure
namespace Go.Proofs.Ytejonebnmeinhab
set_option linter.unusedVariables false

/-- Is a command kept, when 'out' says which are left out? -/
def keepB (outs : List Bool) (i : Nat) (c : Cmd) : Bool := decide (c.k = 2) || decide (outs.length ≤ i) || !(outs.getD i false)
def lessOf (outs : List Bool) : Nat → List Cmd → List Cmd
  | _, [] => []
  | i, c :: r => if keepB outs i c then c :: lessOf outs (i + 1) r else lessOf outs (i + 1) r

theorem lessOf_append (outs : List Bool) (i : Nat) (xs ys : List Cmd) : lessOf outs i (xs ++ ys) = lessOf outs i xs ++ lessOf outs (i + xs.length) ys := by
  induction xs generalizing i with
  | nil => simp [lessOf]
  | cons c r ih =>
    simp only [List.cons_append, lessOf, List.length_cons, ih]
    have e : i + 1 + r.length = i + (r.length + 1) := by omega
    rw [e]
    split <;> simp

theorem lessOf_take (outs : List Bool) (cs : List Cmd) (k : Nat) (c : Cmd) (hk : cs[k]? = some c) : lessOf outs 0 (cs.take (k + 1)) = lessOf outs 0 (cs.take k) ++ (if keepB outs k c then [c] else []) := by
  obtain ⟨hlt, rfl⟩ := List.getElem?_eq_some_iff.1 hk
  rw [List.take_succ_eq_append_getElem hlt, lessOf_append]
  have : (cs.take k).length = k := by rw [List.length_take]; omega
  rw [this, Nat.zero_add]
  simp only [lessOf]

theorem lessOf_length (outs : List Bool) (i : Nat) (cs : List Cmd) : (lessOf outs i cs).length ≤ cs.length := by
  induction cs generalizing i with
  | nil => simp [lessOf]
  | cons c r ih =>
    simp only [lessOf]
    have := ih (i + 1)
    split <;> simp <;> omega

theorem lessOf_mem (outs : List Bool) (i : Nat) (cs : List Cmd) : ∀ c ∈ lessOf outs i cs, c ∈ cs := by
  induction cs generalizing i with
  | nil => simp [lessOf]
  | cons c r ih =>
    simp only [lessOf]
    intro x hx
    split at hx
    · rcases List.mem_cons.1 hx with rfl | h
      · simp
      · exact List.mem_cons_of_mem _ (ih _ x h)
    · exact List.mem_cons_of_mem _ (ih _ x hx)

/-- What is known of the less marked, less filled one. -/
structure BLe (a b : Blk) : Prop where
  m : a.m = true → b.m = true
  n : a.n ≤ b.n
def Le (xs ys : List Blk) : Prop := xs.length = ys.length ∧ ∀ i, BLe (xs.getD i Blk.zero) (ys.getD i Blk.zero)

theorem Le.refl (xs : List Blk) : Le xs xs := ⟨rfl, fun i => ⟨fun h => h, Int.le_refl _⟩⟩

theorem getD_set (xs : List Blk) (j : Nat) (x : Blk) (i : Nat) : (xs.set j x).getD i Blk.zero = if i = j ∧ j < xs.length then x else xs.getD i Blk.zero := by
  simp only [List.getD_eq_getElem?_getD, List.getElem?_set]
  by_cases h : j = i
  · subst h
    by_cases h2 : j < xs.length
    · simp [h2]
    · simp [h2]
  · have : ¬ (i = j ∧ j < xs.length) := fun q => h q.1.symm
    simp [h, this]

theorem BLe.kpt {P : Int} {a b : Blk} {c : Cmd} (h : BLe a b) (hk : kpt P b c = true) : kpt P a c = true := by
  obtain ⟨h1, h2⟩ := h
  obtain ⟨am, an, ae⟩ := a
  obtain ⟨bm, bn, be⟩ := b
  simp only at h1 h2
  unfold Ytejonebnmeinhab.kpt at hk ⊢
  simp only at hk ⊢
  by_cases k1 : c.k = 1
  · simp only [k1, if_true] at hk ⊢
    cases am <;> cases bm <;> simp_all
    omega
  · by_cases k2 : c.k = 2
    · simp only [k2] at hk ⊢
      cases am <;> cases bm <;> simp_all
    · simpa [k1, k2] using hk

theorem BLe.bhd {P : Int} {a b : Blk} {c : Cmd} (h : BLe a b) : BLe (bhd P a c) (bhd P b c) := by
  obtain ⟨h1, h2⟩ := h
  unfold Ytejonebnmeinhab.bhd
  by_cases k1 : c.k = 1
  · simp only [k1, if_true]; exact ⟨h1, Int.le_refl _⟩
  · by_cases k2 : c.k = 2
    · simp only [k2]
      exact ⟨by simpa using h1, by simp⟩
    · rw [if_neg k1, if_neg k1, if_neg k2, if_neg k2]
      by_cases k3 : c.k = 3
      · rw [if_pos k3, if_pos k3]
        refine ⟨?_, h2⟩
        intro h
        simp only [Bool.or_eq_true] at h ⊢
        rcases h with h | h
        · exact Or.inl (h1 h)
        · exact Or.inr h
      · rw [if_neg k3, if_neg k3]
        exact ⟨h1, h2⟩

/-- A Program or a Mark that is left out. -/
theorem BLe.skip {P : Int} {a b : Blk} {c : Cmd} (h : BLe a b) (hk : Ytejonebnmeinhab.kpt P b c = true) (h2 : c.k ≠ 2) : BLe a (Ytejonebnmeinhab.bhd P b c) := by
  obtain ⟨h1, hn⟩ := h
  unfold Ytejonebnmeinhab.bhd
  by_cases k1 : c.k = 1
  · simp only [k1, if_true]
    refine ⟨h1, ?_⟩
    unfold Ytejonebnmeinhab.kpt at hk
    simp only [k1, if_true, Bool.and_eq_true, decide_eq_true_iff] at hk
    have := hk.2.1
    show a.n ≤ c.p + 1
    omega
  · rw [if_neg k1, if_neg h2]
    by_cases k3 : c.k = 3
    · rw [if_pos k3]
      refine ⟨?_, hn⟩
      intro h
      simp only [Bool.or_eq_true]
      exact Or.inl (h1 h)
    · rw [if_neg k3]
      exact ⟨h1, hn⟩

theorem see_inv {P : Int} {st st' : List Blk} {c : Cmd} (h : see P st c = some st') : (0 ≤ c.b ∧ c.b < st.length ∧ taken c.s = true ∧ kpt P (st.getD c.b.toNat Blk.zero) c = true) ∧ st' = st.set c.b.toNat (bhd P (st.getD c.b.toNat Blk.zero) c) := by
  unfold see at h
  split at h
  · rename_i hc
    cases h
    exact ⟨hc, rfl⟩
  · cases h

theorem see_mk {P : Int} {st : List Blk} {c : Cmd} (h : 0 ≤ c.b ∧ c.b < st.length ∧ taken c.s = true ∧ kpt P (st.getD c.b.toNat Blk.zero) c = true) : see P st c = some (st.set c.b.toNat (bhd P (st.getD c.b.toNat Blk.zero) c)) := by
  unfold see
  rw [if_pos h]

theorem less_runs (P : Int) (outs : List Bool) (cs : List Cmd) : ∀ (i : Nat) (s1 s2 t1 : List Blk), Le s2 s1 → runs P s1 cs = some t1 → (runs P s2 (lessOf outs i cs)).isSome := by
  induction cs with
  | nil => intro i s1 s2 t1 _ _; simp [lessOf, runs]
  | cons c r ih =>
    intro i s1 s2 t1 hle h
    simp only [runs] at h
    cases hs : see P s1 c with
    | none => rw [hs] at h; simp at h
    | some s1' =>
      rw [hs] at h
      simp only [Option.bind_some] at h
      obtain ⟨⟨h0, h1, ht, hk⟩, rfl⟩ := see_inv hs
      have hb := hle.2 c.b.toNat
      have hlen := hle.1
      simp only [lessOf]
      cases hkeep : keepB outs i c with
      | true =>
        simp only [if_true, runs]
        rw [see_mk ⟨h0, by omega, ht, hb.kpt hk⟩]
        simp only [Option.bind_some]
        refine ih (i + 1) _ _ t1 ⟨by simp [hlen], fun j => ?_⟩ h
        rw [getD_set, getD_set, hlen]
        split
        · exact hb.bhd
        · exact hle.2 j
      | false =>
        simp only [Bool.false_eq_true, if_false]
        have h2 : c.k ≠ 2 := fun e => by simp [keepB, e] at hkeep
        refine ih (i + 1) _ _ t1 ⟨by simp [hlen], fun j => ?_⟩ h
        rw [getD_set]
        split
        · rename_i q
          rw [q.1]
          exact hb.skip hk h2
        · exact hle.2 j

/-- Commands of other blocks don't care what is known of this one. -/
theorem runs_set (P : Int) (j : Nat) (x : Blk) (cs : List Cmd) : ∀ (st t : List Blk), (∀ c ∈ cs, c.b ≠ (j : Int)) → runs P st cs = some t → (runs P (st.set j x) cs).isSome := by
  induction cs with
  | nil => intro st t _ _; simp [runs]
  | cons c r ih =>
    intro st t hne h
    simp only [runs] at h ⊢
    cases hs : see P st c with
    | none => rw [hs] at h; simp at h
    | some s1 =>
      rw [hs] at h
      simp only [Option.bind_some] at h
      obtain ⟨⟨h0, h1, ht, hk⟩, rfl⟩ := see_inv hs
      have hcj : c.b ≠ (j : Int) := hne c (by simp)
      have hne2 : c.b.toNat ≠ j := by omega
      have e1 : (st.set j x).getD c.b.toNat Blk.zero = st.getD c.b.toNat Blk.zero := by
        rw [getD_set, if_neg (fun q => hne2 q.1)]
      rw [see_mk ⟨h0, by simpa using h1, ht, by rw [e1]; exact hk⟩, e1]
      simp only [Option.bind_some]
      rw [List.set_comm _ _ (fun q => hne2 q.symm)]
      exact ih _ t (fun c hc => hne c (List.mem_cons_of_mem _ hc)) h

theorem mark_runs (P : Int) (st t : List Blk) (blk : Nat) (xs ys : List Cmd) (h : runs P st (xs ++ ys) = some t) (hb : blk < st.length) (hne : ∀ c ∈ ys, c.b ≠ (blk : Int)) : (runs P st (xs ++ [⟨3, blk, 0, 0⟩] ++ ys)).isSome := by
  rw [runs_append] at h
  cases hx : runs P st xs with
  | none => rw [hx] at h; simp at h
  | some s1 =>
    rw [hx] at h
    simp only [Option.bind_some] at h
    have hl := runs_length hx
    rw [List.append_assoc, runs_append, hx]
    simp only [Option.bind_some, List.singleton_append, runs]
    rw [see_mk ⟨by simp, by simp only; omega, rfl, rfl⟩]
    simp only [Option.bind_some, Int.toNat_natCast]
    exact runs_set P blk _ ys s1 t hne h
end Go.Proofs.Ytejonebnmeinhab
