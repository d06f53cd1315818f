/-
  SEAT YtnjcjaaciphcgaaDoor: what is shown is read again, and what is read is what would be shown (plain lists).
-/
import Derived.Test.YtnjcjaaciphcgaaDoorVh
namespace Go.Proofs.YtnjcjaaciphcgaaDoor
open Go.RowKit Go.Sort
set_option linter.unusedVariables false

theorem dig_nat {d : Nat} (h : d < 10) : (UInt8.ofNat (48 + d)).toNat = 48 + d := by
  rw [UInt8.toNat_ofNat']
  omega
theorem dec_chars (u : Nat) : ∀ c ∈ Lib.decDigits u, 48 ≤ c.toNat ∧ c.toNat ≤ 57 := by
  induction u using Nat.strongRecOn with
  | ind u ih =>
    intro c hc
    rw [Lib.decDigits] at hc
    split at hc
    · rename_i h
      rw [List.mem_singleton] at hc
      subst hc
      rw [dig_nat h]
      omega
    · rename_i h
      rcases List.mem_append.1 hc with h1 | h1
      · exact ih (u / 10) (by omega) c h1
      · rw [List.mem_singleton] at h1
        subst h1
        rw [dig_nat (d := u % 10) (by omega)]
        omega
theorem dec_ne (u : Nat) : Lib.decDigits u ≠ [] := by
  rw [Lib.decDigits]
  split <;> simp
theorem parse_append (xs ys : List UInt8) : ∀ acc v, Lib.parseUint10 acc xs = .ok v → Lib.parseUint10 acc (xs ++ ys) = Lib.parseUint10 v ys := by
  induction xs with
  | nil => intro acc v h; simp [Lib.parseUint10] at h; subst h; rfl
  | cons c r ih =>
    intro acc v h
    simp only [List.cons_append, Lib.parseUint10] at h ⊢
    split at h
    · rename_i h1
      rw [if_pos h1]
      split at h
      · cases h
      · rename_i h2
        rw [if_neg h2]
        split at h
        · cases h
        · rename_i h3
          rw [if_neg h3]
          exact ih _ _ h
    · cases h
theorem parse_dec (u : Nat) : u < 18446744073709551616 → Lib.parseUint10 0 (Lib.decDigits u) = .ok u := by
  induction u using Nat.strongRecOn with
  | ind u ih =>
    intro hu
    rw [Lib.decDigits]
    split
    · rename_i h
      have := dig_nat h
      simp only [Lib.parseUint10, this]
      rw [if_pos ⟨by omega, by omega⟩, if_neg (by omega), if_neg (by omega)]
      congr 1
      omega
    · rename_i h
      have := dig_nat (d := u % 10) (by omega)
      rw [parse_append _ _ _ _ (ih (u / 10) (by omega) (by omega))]
      simp only [Lib.parseUint10, this]
      rw [if_pos ⟨by omega, by omega⟩, if_neg (by omega), if_neg (by omega)]
      congr 1
      omega
theorem mag_dec (u : Nat) (hu : u < 18446744073709551616) : Lib.parseMag (Lib.decDigits u) = .ok u := by
  unfold Lib.parseMag
  rw [if_neg (dec_ne u), parse_dec u hu]
theorem uOf_dec (u : Nat) (hu : u < 18446744073709551616) : uOf (Lib.decDigits u) = some u := by
  unfold uOf
  rw [Lib.parseUintB_64, mag_dec u hu]
  simp
theorem atoi_itoa (n : Int) (h : In n) : Lib.atoiAll (Lib.itoa n) = .ok n := by
  obtain ⟨h0, h1⟩ := h
  unfold Lib.itoa
  split
  · rename_i hn
    unfold Lib.atoiAll
    have e45 : (45 : UInt8).toNat = 45 := rfl
    simp only [e45]
    rw [if_pos (Or.inr trivial), mag_dec _ (by omega)]
    simp only
    rw [if_neg (by simp), if_neg (fun h => by have := h.2; omega), if_pos trivial]
    congr 1
    omega
  · rename_i hn
    have hne := dec_ne n.toNat
    have hch := dec_chars n.toNat
    have hm := mag_dec n.toNat (by omega)
    cases hd : Lib.decDigits n.toNat with
    | nil => exact absurd hd hne
    | cons c r =>
      rw [hd] at hch hm
      have hc := hch c (by simp)
      unfold Lib.atoiAll
      simp only
      rw [if_neg (by omega), hm]
      simp only
      rw [if_neg (by omega), if_neg (by omega), if_neg (by omega)]
      congr 1
      omega
theorem numOf_itoa (n : Int) (h : In n) : numOf (Lib.itoa n) = some n := by
  unfold numOf
  rw [atoi_itoa n h]
  simp
theorem itoa_chars (n : Int) : ∀ c ∈ Lib.itoa n, c.toNat = 45 ∨ (48 ≤ c.toNat ∧ c.toNat ≤ 57) := by
  intro c hc
  unfold Lib.itoa at hc
  split at hc
  · rcases List.mem_cons.1 hc with h | h
    · subst h; exact Or.inl rfl
    · exact Or.inr (dec_chars _ c h)
  · exact Or.inr (dec_chars _ c hc)
theorem itoa_ne (n : Int) : Lib.itoa n ≠ [] := by
  unfold Lib.itoa
  split
  · simp
  · exact dec_ne _
theorem kw_chars (i : Nat) : ∀ c ∈ kw i, 97 ≤ c.toNat := by
  unfold kw
  split <;> decide

/-- Neither a blank nor an end of a line. -/
def Fr (x : List UInt8) : Prop := (32 : UInt8) ∉ x ∧ (10 : UInt8) ∉ x
theorem fr_of {x : List UInt8} (h : ∀ c ∈ x, 33 ≤ c.toNat) : Fr x :=
  ⟨fun hc => by have := h _ hc; simp at this, fun hc => by have := h _ hc; simp at this⟩
theorem fr_itoa (n : Int) : Fr (Lib.itoa n) := fr_of fun c hc => by rcases itoa_chars n c hc with h | h <;> omega
theorem fr_dec (u : Nat) : Fr (Lib.decDigits u) := fr_of fun c hc => by have := dec_chars u c hc; omega
theorem fr_kw (i : Nat) : Fr (kw i) := fr_of fun c hc => by have := kw_chars i c hc; omega
theorem fr_kind (k : Int) : Fr (kindB k) := by
  unfold kindB
  split
  · exact fr_kw _
  · exact fr_itoa _
theorem fr_saved (s : Bool) : Fr (savedB s) := by cases s <;> exact ⟨by decide, by decide⟩

theorem cut_line (a r : List UInt8) (h : (10 : UInt8) ∉ a) : cutN (a ++ 10 :: r) = (a, r, true) := by
  induction a with
  | nil => simp [cutN]
  | cons b t ih =>
    simp only [List.mem_cons, not_or] at h
    rw [List.cons_append, cutN, if_neg (fun e => h.1 e.symm), ih h.2]
theorem not10 {a b : List UInt8} (ha : (10 : UInt8) ∉ a) (hb : (10 : UInt8) ∉ b) : (10 : UInt8) ∉ a ++ 32 :: b := by
  simp [ha, hb]
theorem line2_th {a b : List UInt8} (ha : Fr a) (hb : Fr b) (r : List UInt8) : cutN (lineB [a, b] ++ r) = (a ++ 32 :: b, r, true) ∧ thL (lineB [a, b] ++ r) = [a, b] := by
  have e : lineB [a, b] ++ r = (a ++ 32 :: b) ++ 10 :: r := by rw [line2]; simp
  have h1 := cut_line (a ++ 32 :: b) r (not10 ha.2 hb.2)
  rw [e]
  refine ⟨h1, ?_⟩
  unfold thL
  rw [h1]
  simp only
  rw [pp_hit ha.1, pp_free hb.1]
  rfl
theorem line4_th {a b c d : List UInt8} (ha : Fr a) (hb : Fr b) (hc : Fr c) (hd : Fr d) (r : List UInt8) : cutN (lineB [a, b, c, d] ++ r) = (a ++ 32 :: (b ++ 32 :: (c ++ 32 :: d)), r, true) ∧ thL (lineB [a, b, c, d] ++ r) = [a, b, c, d] := by
  have e : lineB [a, b, c, d] ++ r = (a ++ 32 :: (b ++ 32 :: (c ++ 32 :: d))) ++ 10 :: r := by rw [line4]; simp
  have h1 := cut_line (a ++ 32 :: (b ++ 32 :: (c ++ 32 :: d))) r (not10 ha.2 (not10 hb.2 (not10 hc.2 hd.2)))
  rw [e]
  refine ⟨h1, ?_⟩
  unfold thL
  rw [h1]
  simp only
  rw [pp_hit ha.1, pp_hit hb.1, pp_hit hc.1, pp_free hd.1]
  rfl
theorem bh_line {a b : List UInt8} (ha : Fr a) (hb : Fr b) (r : List UInt8) : bh (lineB [a, b] ++ r) a = some b ∧ nx (lineB [a, b] ++ r) = r := by
  obtain ⟨h1, h2⟩ := line2_th ha hb r
  constructor
  · unfold bh thOk
    rw [h1, h2]
    simp
  · unfold nx
    rw [h1]

theorem kw_num {i : Nat} (h1 : 1 ≤ i) (hi : i < 10) (n : Int) : kw i ≠ Lib.itoa n := fun e => by
  cases hk : Lib.itoa n with
  | nil => exact itoa_ne n hk
  | cons c r =>
    have a := itoa_chars n c (by rw [hk]; simp)
    have b := kw_chars i c (by rw [e, hk]; simp)
    omega
theorem kw_inj : ∀ i : Fin 10, ∀ j : Fin 10, kw i.val = kw j.val → i = j := by decide
theorem kd_kind (k : Int) (h : In k) : kdOf (kindB k) = some k := by
  unfold kdOf
  by_cases h1 : 1 ≤ k ∧ k < 10
  · have e : kindB k = kw k.toNat := by unfold kindB; rw [if_pos h1]
    rw [e, find_at (i := k.toNat) (by omega) (by omega) (fun j a b => by
      rw [beq_eq_false_iff_ne]
      intro e9
      have := kw_inj ⟨j, by omega⟩ ⟨k.toNat, by omega⟩ e9
      have := congrArg Fin.val this
      simp at this
      omega) (by simp)]
    simp only
    congr 1
    omega
  · have e : kindB k = Lib.itoa k := by unfold kindB; rw [if_neg h1]
    rw [e, find_none (fun j a b => by rw [beq_eq_false_iff_ne]; exact kw_num a b k)]
    simp only [numOf_itoa k h]
    rw [if_pos e]
theorem fd_row (f : Fd) (h : f.Ok) (r : List UInt8) : fdOf (rowB f ++ r) = some f ∧ nx (rowB f ++ r) = r := by
  obtain ⟨h1, h2, h3, h4⟩ := h
  have l := line4_th (fr_kind f.k) (fr_itoa f.b) (fr_itoa f.p) (fr_itoa f.o) r
  unfold rowB
  constructor
  · unfold fdOf thOk
    rw [l.1, l.2]
    simp only [List.length_cons, List.length_nil]
    rw [if_pos (by decide)]
    simp [fd4, kd_kind f.k h1, numOf_itoa f.b h2, numOf_itoa f.p h3, numOf_itoa f.o h4]
  · unfold nx
    rw [l.1]
theorem row_ne (f : Fd) (r : List UInt8) : rowB f ++ r ≠ [] := by
  unfold rowB lineB
  simp
theorem rows_show (fs : List Fd) (h : ∀ f ∈ fs, f.Ok) : rowsE (rowsB fs) = (some fs, fs.length) := by
  induction fs with
  | nil => rw [show rowsB [] = [] from rfl]; unfold rowsE; rw [dif_pos rfl]; rfl
  | cons f t ih =>
    have e : rowsB (f :: t) = rowB f ++ rowsB t := by simp [rowsB]
    obtain ⟨a, b⟩ := fd_row f (h f (by simp)) (rowsB t)
    rw [e]
    unfold rowsE
    rw [dif_neg (row_ne f _), a, b]
    simp only
    rw [ih (fun g hg => h g (by simp [hg]))]
    rfl

theorem sv_line (s : Bool) (r : List UInt8) : sv (lineB [[115, 97, 118, 101, 100], savedB s] ++ r) = some s := by
  unfold sv
  rw [(bh_line ⟨by decide, by decide⟩ (fr_saved s) r).1]
  cases s <;> rfl
theorem nb_line {word : List UInt8} (hw : Fr word) (n : Int) (h : In n) (r : List UInt8) : nb (lineB [word, Lib.itoa n] ++ r) word = some n := by
  unfold nb
  rw [(bh_line hw (fr_itoa n) r).1]
  exact numOf_itoa n h
theorem rp_show (r : Rp) (h : r.Ok) : rp (showB r) = (some r, 6 + r.fs.length) := by
  have e : showB r = lineB [fw, Lib.decDigits r.fl] ++ (lineB [wC, Lib.itoa r.c] ++ (lineB [wL, Lib.itoa r.l] ++ (lineB [wU, Lib.itoa r.u] ++ (lineB [wB, Lib.itoa r.b] ++ (lineB [[115, 97, 118, 101, 100], savedB r.s] ++ rowsB r.fs))))) := by
    unfold showB headB
    simp [fw, wC, wL, wU, wB]
  have f0 : Fr fw := ⟨by decide, by decide⟩
  have f1 : Fr wC := ⟨by decide, by decide⟩
  have f2 : Fr wL := ⟨by decide, by decide⟩
  have f3 : Fr wU := ⟨by decide, by decide⟩
  have f4 : Fr wB := ⟨by decide, by decide⟩
  have f5 : Fr [115, 97, 118, 101, 100] := ⟨by decide, by decide⟩
  rw [e]
  unfold rp flr
  simp only [(bh_line f0 (fr_dec _) _).1, (bh_line f0 (fr_dec _) _).2, (bh_line f1 (fr_itoa _) _).2, (bh_line f2 (fr_itoa _) _).2, (bh_line f3 (fr_itoa _) _).2, (bh_line f4 (fr_itoa _) _).2, (bh_line f5 (fr_saved _) _).2, Option.bind_some, uOf_dec r.fl h.fl, nb_line f1 r.c h.c, nb_line f2 r.l h.l, nb_line f3 r.u h.u, nb_line f4 r.b h.b, sv_line, rows_show r.fs h.fs]
  rfl

theorem cut_join (l : List UInt8) : (cutN l).2.2 = true → l = (cutN l).1 ++ 10 :: (cutN l).2.1 := by
  induction l with
  | nil => intro h; cases h
  | cons b r ih =>
    unfold cutN
    split
    · rename_i hb
      intro _
      rw [hb]
      rfl
    · intro h
      rw [List.cons_append, ← ih h]
theorem join_two (x : List UInt8) {t : List (List UInt8)} (ht : t ≠ []) : Lib.join (x :: t) [32] = x ++ 32 :: Lib.join t [32] := by
  cases t with
  | nil => exact absurd rfl ht
  | cons y r => simp [Lib.join, List.intercalate]
theorem pp_ne (s : List UInt8) : ∀ w, pp w s ≠ [] := by
  induction s with
  | nil => intro w; simp [pp]
  | cons b r ih =>
    intro w
    unfold pp
    split
    · simp
    · exact ih _
theorem pp_join (s : List UInt8) : ∀ w, Lib.join (pp w s) [32] = w ++ s := by
  induction s with
  | nil => intro w; simp [pp, Lib.join_one]
  | cons b r ih =>
    intro w
    unfold pp
    split
    · rename_i hb
      rw [join_two _ (pp_ne r []), ih [], hb]
      rfl
    · rw [ih]
      simp
theorem line_of {l : List UInt8} {m : Nat} (h : thOk l m = true) : l = lineB (thL l) ++ nx l := by
  unfold thOk at h
  have h1 : (cutN l).2.2 = true := by
    cases hc : (cutN l).2.2 with
    | true => rfl
    | false => rw [hc] at h; simp at h
  unfold lineB thL nx
  rw [pp_join, List.nil_append, List.append_assoc]
  exact cut_join l h1
theorem list2 {X : List (List UInt8)} (h : X.length = 2) : X = [X.getD 0 [], X.getD 1 []] := by
  match X, h with
  | [a, b], _ => rfl
theorem list4 {X : List (List UInt8)} (h : X.length = 4) : X = [X.getD 0 [], X.getD 1 [], X.getD 2 [], X.getD 3 []] := by
  match X, h with
  | [a, b, c, d], _ => rfl
theorem bh_sound {l word x : List UInt8} (h : bh l word = some x) : l = lineB [word, x] ++ nx l := by
  unfold bh at h
  split at h
  · rename_i hc
    have e := line_of hc.1
    rw [list2 (thOk_len hc.1), hc.2, Option.some.inj h] at e
    exact e
  · cases h
theorem numOf_sound {x : List UInt8} {n : Int} (h : numOf x = some n) : Lib.itoa n = x ∧ In n := by
  unfold numOf at h
  split at h
  · rename_i v hv
    split at h
    · rename_i he
      obtain rfl := Option.some.inj h
      exact ⟨he, Lib.atoiAll_bounds hv⟩
    · cases h
  · cases h
theorem uOf_sound {x : List UInt8} {n : Nat} (h : uOf x = some n) : Lib.decDigits n = x ∧ n < 18446744073709551616 := by
  unfold uOf at h
  split at h
  · rename_i v hv
    split at h
    · rename_i he
      obtain rfl := Option.some.inj h
      refine ⟨he, ?_⟩
      have h8 := Lib.parseUintB_le hv
      omega
    · cases h
  · cases h
theorem nb_sound {l word : List UInt8} {n : Int} (h : nb l word = some n) : l = lineB [word, Lib.itoa n] ++ nx l ∧ In n := by
  unfold nb at h
  cases hb : bh l word with
  | none => rw [hb] at h; cases h
  | some x =>
    rw [hb] at h
    obtain ⟨h1, h2⟩ := numOf_sound h
    rw [h1]
    exact ⟨bh_sound hb, h2⟩
theorem flr_sound {l : List UInt8} {n : Nat} (h : flr l = some n) : l = lineB [fw, Lib.decDigits n] ++ nx l ∧ n < 18446744073709551616 := by
  unfold flr at h
  cases hb : bh l fw with
  | none => rw [hb] at h; cases h
  | some x =>
    rw [hb] at h
    obtain ⟨h1, h2⟩ := uOf_sound h
    rw [h1]
    exact ⟨bh_sound hb, h2⟩
theorem sv_sound {l : List UInt8} {s : Bool} (h : sv l = some s) : l = lineB [[115, 97, 118, 101, 100], savedB s] ++ nx l := by
  unfold sv at h
  cases hb : bh l [115, 97, 118, 101, 100] with
  | none => rw [hb] at h; cases h
  | some x =>
    rw [hb] at h
    have h9 := bh_sound hb
    simp only [Option.bind_some] at h
    split at h
    · rename_i hx
      obtain rfl := Option.some.inj h
      rw [hx] at h9
      exact h9
    · split at h
      · rename_i hx
        obtain rfl := Option.some.inj h
        rw [hx] at h9
        exact h9
      · cases h
theorem kd_sound {x : List UInt8} {n : Int} (h : kdOf x = some n) : kindB n = x ∧ In n := by
  unfold kdOf at h
  split at h
  · rename_i i hi
    obtain rfl := Option.some.inj h
    have h1 := List.find?_some hi
    have h2 := List.mem_of_find?_eq_some hi
    rw [List.mem_range'_1] at h2
    constructor
    · unfold kindB
      rw [if_pos ⟨by omega, by omega⟩]
      simpa using h1
    · exact ⟨by omega, by omega⟩
  · split at h
    · rename_i v hv
      split at h
      · rename_i he
        obtain rfl := Option.some.inj h
        exact ⟨he, (numOf_sound hv).2⟩
      · cases h
    · cases h
theorem fd_sound {l : List UInt8} {f : Fd} (h : fdOf l = some f) : l = rowB f ++ nx l ∧ f.Ok := by
  unfold fdOf at h
  split at h
  · rename_i hok
    have e := line_of hok
    rw [list4 (thOk_len hok)] at e
    unfold fd4 at h
    generalize (thL l).getD 0 [] = x0 at h e
    generalize (thL l).getD 1 [] = x1 at h e
    generalize (thL l).getD 2 [] = x2 at h e
    generalize (thL l).getD 3 [] = x3 at h e
    cases h0 : kdOf x0 with
    | none => rw [h0] at h; cases h
    | some a =>
      cases h1 : numOf x1 with
      | none => rw [h0, h1] at h; cases h
      | some b =>
        cases h2 : numOf x2 with
        | none => rw [h0, h1, h2] at h; cases h
        | some c =>
          cases h3 : numOf x3 with
          | none => rw [h0, h1, h2, h3] at h; cases h
          | some d =>
            rw [h0, h1, h2, h3] at h
            obtain rfl := Option.some.inj h
            obtain ⟨a1, a2⟩ := kd_sound h0
            obtain ⟨b1, b2⟩ := numOf_sound h1
            obtain ⟨c1, c2⟩ := numOf_sound h2
            obtain ⟨d1, d2⟩ := numOf_sound h3
            refine ⟨?_, a2, b2, c2, d2⟩
            unfold rowB
            rw [a1, b1, c1, d1]
            exact e
  · cases h
theorem rows_sound (k : Nat) : ∀ (l : List UInt8), l.length ≤ k → ∀ (fs : List Fd) (m : Nat), rowsE l = (some fs, m) → rowsB fs = l ∧ (∀ f ∈ fs, f.Ok) ∧ fs.length ≤ l.length := by
  induction k with
  | zero =>
    intro l hl fs m h
    have h0 : l = [] := List.eq_nil_of_length_eq_zero (by omega)
    subst h0
    unfold rowsE at h
    rw [dif_pos rfl] at h
    obtain rfl : [] = fs := Option.some.inj (Prod.mk.inj h).1
    exact ⟨rfl, by simp, by simp⟩
  | succ k ih =>
    intro l hl fs m h
    by_cases h0 : l = []
    · subst h0
      unfold rowsE at h
      rw [dif_pos rfl] at h
      obtain rfl : [] = fs := Option.some.inj (Prod.mk.inj h).1
      exact ⟨rfl, by simp, by simp⟩
    · have hlt := nx_lt h0
      unfold rowsE at h
      rw [dif_neg h0] at h
      cases hf : fdOf l with
      | none => rw [hf] at h; cases h
      | some f =>
        rw [hf] at h
        simp only at h
        cases hr : (rowsE (nx l)).1 with
        | none => rw [hr] at h; cases h
        | some t =>
          rw [hr] at h
          obtain rfl : f :: t = fs := Option.some.inj (Prod.mk.inj h).1
          obtain ⟨i1, i2, i3⟩ := ih (nx l) (by omega) t (rowsE (nx l)).2 (by rw [← hr])
          obtain ⟨g1, g2⟩ := fd_sound hf
          refine ⟨?_, ?_, ?_⟩
          · have e : rowsB (f :: t) = rowB f ++ rowsB t := by simp [rowsB]
            rw [e, i1]
            exact g1.symm
          · intro x hx
            rcases List.mem_cons.1 hx with rfl | hx
            · exact g2
            · exact i2 x hx
          · simp
            omega
theorem rp_sound {l : List UInt8} {r : Rp} {m : Nat} (h : rp l = (some r, m)) (hl : l.length ≤ 1048576) : showB r = l ∧ r.Ok := by
  unfold rp at h
  split at h
  · cases h
  rename_i f h0
  split at h
  · cases h
  rename_i c h1
  split at h
  · cases h
  rename_i v h2
  split at h
  · cases h
  rename_i u h3
  split at h
  · cases h
  rename_i b h4
  split at h
  · cases h
  rename_i s h5
  obtain ⟨e0, o0⟩ := flr_sound h0
  obtain ⟨e1, o1⟩ := nb_sound h1
  obtain ⟨e2, o2⟩ := nb_sound h2
  obtain ⟨e3, o3⟩ := nb_sound h3
  obtain ⟨e4, o4⟩ := nb_sound h4
  have e5 := sv_sound h5
  have l1 := nx_le l
  have l2 := nx_le (nx l)
  have l3 := nx_le (nx (nx l))
  have l4 := nx_le (nx (nx (nx l)))
  have l5 := nx_le (nx (nx (nx (nx l))))
  have l6 := nx_le (nx (nx (nx (nx (nx l)))))
  cases hr : (rowsE (nx (nx (nx (nx (nx (nx l))))))).1 with
  | none => rw [hr] at h; cases h
  | some fs =>
    rw [hr] at h
    obtain rfl : (⟨f, c, v, u, b, s, fs⟩ : Rp) = r := Option.some.inj (Prod.mk.inj h).1
    obtain ⟨i1, i2, i3⟩ := rows_sound _ _ (Nat.le_refl _) fs (rowsE (nx (nx (nx (nx (nx (nx l))))))).2 (by rw [← hr])
    refine ⟨?_, ⟨o0, o1, o2, o3, o4, i2, by simp only; omega⟩⟩
    have e : showB ⟨f, c, v, u, b, s, fs⟩ = lineB [fw, Lib.decDigits f] ++ (lineB [wC, Lib.itoa c] ++ (lineB [wL, Lib.itoa v] ++ (lineB [wU, Lib.itoa u] ++ (lineB [wB, Lib.itoa b] ++ (lineB [[115, 97, 118, 101, 100], savedB s] ++ rowsB fs))))) := by
      unfold showB headB
      simp [fw, wC, wL, wU, wB]
    rw [e, i1, ← e5, ← e4, ← e3, ← e2, ← e1, ← e0]
theorem rp_one {l : List UInt8} {m : Nat} (h : rp l = (none, m)) : 1 ≤ m := by
  unfold rp at h
  split at h
  · cases h; omega
  split at h
  · cases h; omega
  split at h
  · cases h; omega
  split at h
  · cases h; omega
  split at h
  · cases h; omega
  split at h
  · cases h; omega
  have := (Prod.mk.inj h).2
  omega

end Go.Proofs.YtnjcjaaciphcgaaDoor
