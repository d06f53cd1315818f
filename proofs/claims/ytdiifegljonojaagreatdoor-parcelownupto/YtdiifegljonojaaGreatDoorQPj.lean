/-
  SEAT YtdiifegljonojaaGreatDoor: names put together, over lists.
-/
import Derived.Test.YtdiifegljonojaaGreatDoorQPp
import Derived.Lib.Join
namespace Go.Proofs.YtdiifegljonojaaGreatDoor.Pt
set_option linter.unusedVariables false

/-- Names with a slash ahead of each. -/
def tgL (xs : List (List UInt8)) : List UInt8 := (xs.map (47 :: ·)).flatten
def tgA (xs : List ByteArray) : List UInt8 := tgL (xs.map (·.data.toList))
def tg (xs : List ByteArray) : ByteArray := if xs = [] then byteOf [47] else byteOf (tgA xs)

theorem tgL_cons (x : List UInt8) (r : List (List UInt8)) : tgL (x :: r) = 47 :: x ++ tgL r := by simp [tgL]
theorem tgL_append (xs ys : List (List UInt8)) : tgL (xs ++ ys) = tgL xs ++ tgL ys := by simp [tgL]
theorem tgA_append (xs ys : List ByteArray) : tgA (xs ++ ys) = tgA xs ++ tgA ys := by simp [tgA, tgL]
theorem tg_join (xs : List ByteArray) : (tg xs).data.toList = 47 :: Lib.join (xs.map (·.data.toList)) [47] := by
  unfold tg
  cases xs with
  | nil => rfl
  | cons x r =>
    rw [if_neg (by simp), data_byteOf, List.map_cons, Lib.join_cons]
    simp only [tgA, tgL, List.map_cons, List.flatten_cons, List.map_map, Lib.joinTail]
    rfl
theorem tgL_len (xs : List (List UInt8)) : (tgL xs).length = (xs.map fun x => x.length + 1).sum := by
  induction xs with
  | nil => rfl
  | cons x r ih => rw [tgL_cons]; simp only [List.length_append, List.length_cons, List.map_cons, List.sum_cons]; omega
theorem tg_size (xs : List ByteArray) : (tg xs).size = if xs = [] then 1 else (xs.map fun x => x.size + 1).sum := by
  unfold tg
  split
  · rfl
  · rw [byteOf_size, tgA, tgL_len, List.map_map]
    congr 1
theorem tg_nil : tg [] = byteOf [47] := rfl
theorem tg_cons {xs : List ByteArray} (h : xs ≠ []) : tg xs = byteOf (tgA xs) := by simp [tg, h]

/-- Pieces of what was put together. -/
theorem pp_tg : ∀ (xs : List (List UInt8)) (word : List UInt8), (∀ x ∈ xs, (47 : UInt8) ∉ x) → pp word (tgL xs) = word :: xs := by
  intro xs
  induction xs with
  | nil => intro word _; rfl
  | cons x r ih =>
    intro word h
    have hx : (47 : UInt8) ∉ x := h x (List.mem_cons_self ..)
    have hr : ∀ y ∈ r, (47 : UInt8) ∉ y := fun y hy => h y (List.mem_cons_of_mem _ hy)
    rw [tgL_cons, List.cons_append, pp, if_pos rfl]
    congr 1
    cases r with
    | nil => simp only [tgL, List.map_nil, List.flatten_nil, List.append_nil]; rw [pp_free hx]; rfl
    | cons y r =>
      rw [tgL_cons]
      have := pp_hit hx (y ++ tgL r) []
      rw [List.cons_append, this]
      have h2 := ih [] hr
      rw [tgL_cons, List.cons_append, pp, if_pos rfl] at h2
      injection h2 with _ h2
      rw [h2]; rfl

theorem nm_tg (xs : List ByteArray) (h1 : ∀ x ∈ xs, (47 : UInt8) ∉ x.data.toList) (h2 : ∀ x ∈ xs, noB x = false) : nm (tg xs) = xs := by
  cases xs with
  | nil => rfl
  | cons x r =>
    rw [tg_cons (by simp)]
    unfold nm nmL
    rw [data_byteOf, tgA, pp_tg _ [] (fun y hy => by
      obtain ⟨z, hz, rfl⟩ := List.mem_map.1 hy
      exact h1 z hz)]
    have hn : noL [] = true := rfl
    rw [List.filter_cons, hn]
    have hf : (((x :: r).map (·.data.toList)).filter fun y => !noL y) = (x :: r).map (·.data.toList) := by
      rw [List.filter_eq_self]
      intro y hy
      obtain ⟨z, hz, rfl⟩ := List.mem_map.1 hy
      have := h2 z hz
      rw [← byteOf_data z, noB_of] at this
      simp [this]
    simp only [Bool.not_true, Bool.false_eq_true, if_false]
    rw [hf, List.map_map]
    conv => rhs; rw [← List.map_id (x :: r)]
    exact List.map_congr_left fun y _ => byteOf_data y

/-- What a path's names take. -/
theorem pp_sum : ∀ (s word : List UInt8), ((pp word s).map fun x => x.length + 1).sum = word.length + s.length + 1
  | [], word => by simp [pp]
  | b :: r, word => by
    rw [pp]
    split
    · have := pp_sum r []; simp only [List.map_cons, List.sum_cons, List.length_cons, List.length_nil] at *; omega
    · have := pp_sum r (word ++ [b]); simp only [List.length_append, List.length_cons, List.length_nil] at *; omega
theorem sum_filter (p : List UInt8 → Bool) : ∀ l : List (List UInt8), ((l.filter p).map fun x => x.length + 1).sum ≤ (l.map fun x => x.length + 1).sum
  | [] => Nat.le_refl _
  | x :: r => by
    have ih := sum_filter p r
    rw [List.filter_cons]
    split
    · simp only [List.map_cons, List.sum_cons]; omega
    · simp only [List.map_cons, List.sum_cons]; omega
theorem nm_sum (s : ByteArray) (h : begB s = true) : ((nm s).map fun x => x.size + 1).sum ≤ s.size := by
  have e : ((nm s).map fun x => x.size + 1) = (nmL s.data.toList).map fun x => x.length + 1 := by
    rw [nm, List.map_map]; rfl
  rw [e, Lib.size_eq s]
  unfold begB at h
  cases hl : s.data.toList with
  | nil => rw [hl] at h; cases h
  | cons b r =>
    rw [hl] at h
    have hb : b = 47 := by simpa using h
    subst hb
    unfold nmL
    rw [pp, if_pos rfl, List.filter_cons]
    have hn : noL [] = true := rfl
    rw [hn]
    simp only [Bool.not_true, Bool.false_eq_true, if_false]
    have h1 := sum_filter (fun x => !noL x) (pp [] r)
    have h2 := pp_sum r []
    simp only [List.length_nil, List.length_cons] at *
    omega

end Go.Proofs.YtdiifegljonojaaGreatDoor.Pt
