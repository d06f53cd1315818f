/-
  SEAT YtdiifegljonojaaDoor: what Pack lays is what open reads.
-/
import Derived.Test.YtdiifegljonojaaDoorWl
import Derived.Test.YtdiifegljonojaaDoorRp
import Derived.Test.YtdiifegljonojaaDoorRi
import Derived.Test.YtdiifegljonojaaDoorRk
namespace Go.Proofs.YtdiifegljonojaaDoor
open Go.RowKit
set_option linter.unusedVariables false

theorem getL_app (a r : List Int) : ∀ n, n ≤ a.length → getL (a ++ r) 0 n = getL a 0 n := fun n hn => getL_congr n (fun i hi => by rw [List.getD_eq_getElem?_getD, List.getD_eq_getElem?_getD, List.getElem?_append_left (by omega)])
theorem getL_numL (n : Nat) (v : Int) (h0 : 0 ≤ v) (h : v < 256 ^ n) (r : List Int) : getL (numL n v ++ r) 0 n = v := by
  rw [getL_app _ _ n (by rw [numL_length]; exact Nat.le_refl _)]
  unfold numL
  rw [get_put _ 0 v n (by simp) h0 n (Nat.le_refl _)]
  exact Int.emod_eq_of_lt h0 h
theorem drop_numL (n : Nat) (v : Int) (r : List Int) : (numL n v ++ r).drop n = r := by
  rw [List.drop_left' (numL_length n v)]
theorem whole_numL (n : Nat) (lo hi v : Int) (r : List Int) (h0 : 0 ≤ v) (h : v < 256 ^ n) (h1 : lo ≤ v) (h2 : v ≤ hi) : wholeR n lo hi (numL n v ++ r) = .ok (v, r) := by
  unfold wholeR
  rw [if_pos (by rw [List.length_append, numL_length]; omega), getL_numL n v h0 h, drop_numL, if_pos ⟨h1, h2⟩]
theorem num_numL (n : Nat) (v : Int) (r : List Int) (h0 : 0 ≤ v) (h : v < 256 ^ n) : numR n (numL n v ++ r) = .ok (v, r) := by
  unfold numR
  rw [if_pos (by rw [List.length_append, numL_length]; omega), getL_numL n v h0 h, drop_numL]
theorem take_app (b r : List Int) (n : Nat) (h : b.length = n) : takeR n (b ++ r) = .ok (b, r) := by
  unfold takeR
  rw [if_pos (by rw [List.length_append]; omega), List.take_left' h, List.drop_left' h]

/-- Holes. -/
theorem fhN_lt : ∀ (b : List Int) (i : Nat), i < fhN b → zrs (b.drop i) < 16
  | [], i, h => by simp [fhN] at h
  | x :: r, i, h => by
    rw [fhN] at h
    split at h
    · omega
    · rename_i h1
      cases i with
      | zero => rw [List.drop_zero]; omega
      | succ i => rw [List.drop_succ_cons]; exact fhN_lt r i (by omega)
theorem fhN_at : ∀ (b : List Int), fhN b < b.length → 16 ≤ zrs (b.drop (fhN b))
  | [], h => by simp at h
  | x :: r, h => by
    rw [fhN] at h ⊢
    split at h
    · rename_i h1
      rw [if_pos h1, List.drop_zero]; exact h1
    · rename_i h1
      rw [if_neg h1, List.drop_succ_cons]
      exact fhN_at r (by simp at h; omega)
theorem fhAt_eq {zs : List Int} {k : Nat} (h : k ≤ zs.length) : fhAt zs k = k + fhN (zs.drop k) := by
  have h1 := fhN_le (zs.drop k)
  rw [List.length_drop] at h1
  unfold fhAt
  omega
theorem at_lt {zs : List Int} {k i : Nat} (h : k ≤ zs.length) (h1 : k ≤ i) (h2 : i < fhAt zs k) : zrs (zs.drop i) < 16 := by
  rw [fhAt_eq h] at h2
  have h3 := fhN_lt (zs.drop k) (i - k) (by omega)
  rw [List.drop_drop, show k + (i - k) = i by omega] at h3
  exact h3
theorem at_hole {zs : List Int} {k : Nat} (h : k ≤ zs.length) (h1 : fhAt zs k < zs.length) : 16 ≤ zrs (zs.drop (fhAt zs k)) := by
  rw [fhAt_eq h] at h1 ⊢
  have h3 := fhN_at (zs.drop k) (by rw [List.length_drop]; omega)
  rw [List.drop_drop] at h3
  exact h3
theorem zrs_take : ∀ (b : List Int) (n : Nat), zrs (b.take n) ≤ zrs b
  | [], n => by simp
  | x :: r, 0 => by simp [zrs]
  | x :: r, n + 1 => by
    rw [List.take_succ_cons, zrs, zrs]
    split
    · have := zrs_take r n; omega
    · omega
theorem zrs_end : ∀ (b : List Int), zrs b < b.length → b.getD (zrs b) 0 ≠ 0
  | [], h => by simp at h
  | x :: r, h => by
    rw [zrs] at h ⊢
    split at h
    · rename_i h1
      rw [if_pos h1, List.getD_cons_succ]
      exact zrs_end r (by simp at h; omega)
    · rename_i h1
      rw [if_neg h1, List.getD_cons_zero]; exact h1
theorem zrs_zero : ∀ (b : List Int) (n : Nat), n ≤ zrs b → b.take n = List.replicate n 0
  | b, 0, _ => by simp
  | [], n + 1, h => by simp [zrs] at h
  | x :: r, n + 1, h => by
    rw [zrs] at h
    split at h
    · rename_i h1
      rw [List.take_succ_cons, h1, zrs_zero r n (by omega), List.replicate_succ]
    · omega
theorem fhN_all' : ∀ b : List Int, (∀ i, i < b.length → zrs (b.drop i) < 16) → fhN b = b.length
  | [], _ => rfl
  | x :: r, h => by
    have h0 := h 0 (by simp)
    rw [List.drop_zero] at h0
    rw [fhN, if_neg (by omega), fhN_all' r (fun i hi => by have := h (i + 1) (by simp; omega); rw [List.drop_succ_cons] at this; exact this), List.length_cons]

theorem place_app {d z : List Int} {s : Sg} (h : s.pos + s.bs.length ≤ d.length) : place (d ++ z) s = place d s ++ z := by
  unfold place
  rw [List.take_append_of_le_length (by omega), List.drop_append_of_le_length h]
  simp
theorem fold_app : ∀ (l : List Sg) (d z : List Int), (∀ s ∈ l, s.pos + s.bs.length ≤ d.length) → l.foldl place (d ++ z) = l.foldl place d ++ z
  | [], d, z, _ => rfl
  | s :: r, d, z, h => by
    have h0 := h s (by simp)
    rw [List.foldl_cons, List.foldl_cons, place_app h0]
    exact fold_app r _ z (fun x hx => by rw [place_len h0]; exact h x (by simp [hx]))
theorem lay_add (n k : Nat) (l : List Sg) (h : ∀ s ∈ l, s.pos + s.bs.length ≤ n) : layD (n + k) l = layD n l ++ List.replicate k 0 := by
  unfold layD
  rw [← List.replicate_append_replicate, fold_app _ _ _ (by simpa using h)]
theorem lay_put (n : Nat) (l : List Sg) (b : List Int) (h : ∀ s ∈ l, s.pos + s.bs.length ≤ n) : layD (n + b.length) (l ++ [⟨n, b⟩]) = layD n l ++ b := by
  have hl := layD_len n l h
  rw [layD_snoc, lay_add n b.length l h]
  unfold place
  simp only
  rw [List.take_append_of_le_length (by omega), List.take_of_length_le (by omega), List.drop_eq_nil_of_le (by rw [List.length_append, List.length_replicate]; omega)]
  simp

/-- A filled stretch as it is cut. -/
theorem filled_cut {zs : List Int} {k : Nat} (hk : k < zs.length) (hz : zs.getD k 0 ≠ 0 ∨ True) (behind : Bool) (hb : behind = true → zs.getD k 0 ≠ 0) (hA : k < fhAt zs k) :
    filledB ((zs.drop k).take (fhAt zs k - k)) behind (decide (k + (fhAt zs k - k) < zs.length)) = true := by
  have hle := Nat.le_of_lt hk
  have hA2 := fhAt_le zs k
  have hlen : ((zs.drop k).take (fhAt zs k - k)).length = fhAt zs k - k := by rw [List.length_take, List.length_drop]; omega
  unfold filledB
  have h1 : fhN ((zs.drop k).take (fhAt zs k - k)) = ((zs.drop k).take (fhAt zs k - k)).length := by
    apply fhN_all'
    intro i hi
    rw [hlen] at hi
    rw [List.drop_take]
    have h2 := zrs_take ((zs.drop k).drop i) (fhAt zs k - k - i)
    rw [List.drop_drop] at h2 ⊢
    have h3 := at_lt hle (show k ≤ k + i by omega) (by omega)
    omega
  rw [h1, decide_eq_true rfl]
  have hg : ∀ i, i < fhAt zs k - k → ((zs.drop k).take (fhAt zs k - k)).getD i 0 = zs.getD (k + i) 0 := by
    intro i hi
    rw [List.getD_eq_getElem?_getD, List.getElem?_take_of_lt hi, List.getElem?_drop, ← List.getD_eq_getElem?_getD]
  rw [hg 0 (by omega), Nat.add_zero, hlen, hg (fhAt zs k - k - 1) (by omega), show k + (fhAt zs k - k) = fhAt zs k by omega, show k + (fhAt zs k - k - 1) = fhAt zs k - 1 by omega]
  have h4 : (behind && (zs.getD k 0 == 0)) = false := by
    cases behind with
    | false => rfl
    | true => rw [beq_eq_false_iff_ne.2 (hb rfl)]; rfl
  have h5 : (decide (fhAt zs k < zs.length) && (zs.getD (fhAt zs k - 1) 0 == 0)) = false := by
    by_cases h6 : fhAt zs k < zs.length
    · have h7 := at_hole hle h6
      have h8 : zs.getD (fhAt zs k - 1) 0 ≠ 0 := by
        intro h9
        have h10 := at_lt hle (show k ≤ fhAt zs k - 1 by omega) (by omega)
        rw [zrs_step (by omega) h9, show fhAt zs k - 1 + 1 = fhAt zs k by omega] at h10
        omega
      rw [beq_eq_false_iff_ne.2 h8, Bool.and_false]
    · rw [decide_eq_false h6]; rfl
  rw [h4, h5]
  rfl

theorem p4 : (256 : Int) ^ 4 = 4294967296 := by decide
theorem p1 : (256 : Int) ^ 1 = 256 := by decide
theorem enAt_ne {zs : List Int} {k : Nat} (h : enAt zs k < zs.length) : zs.getD (enAt zs k) 0 ≠ 0 := by
  have h1 := zrs_end (zs.drop (fhAt zs k)) (by rw [List.length_drop]; unfold enAt at h; omega)
  rw [List.getD_eq_getElem?_getD, List.getElem?_drop, ← List.getD_eq_getElem?_getD] at h1
  exact h1

theorem c4 {n : Nat} (h : n ≤ 16777216) : ((n : Nat) : Int) < 256 ^ 4 := by rw [p4]; omega
theorem encR_fill (zs : List Int) (p n : Nat) (X : List Int) : encR zs ⟨p, n, false⟩ ++ X = numL 1 1 ++ (numL 4 (n : Int) ++ ((zs.drop p).take n ++ X)) := by
  show (numL 1 (if false = true then 0 else 1) ++ numL 4 (n : Int) ++ (if false = true then [] else (zs.drop p).take n)) ++ X = _
  rw [if_neg Bool.false_ne_true, if_neg Bool.false_ne_true, List.append_assoc, List.append_assoc]
theorem encR_hole (zs : List Int) (p n : Nat) (X : List Int) : encR zs ⟨p, n, true⟩ ++ X = numL 1 0 ++ (numL 4 (n : Int) ++ X) := by
  show (numL 1 (if true = true then 0 else 1) ++ numL 4 (n : Int) ++ (if true = true then [] else (zs.drop p).take n)) ++ X = _
  rw [if_pos rfl, if_pos rfl, List.append_assoc, List.append_assoc, List.nil_append]
theorem dataL_at (size f pos : Nat) (last : Int) (acc : List Sg) (bs r1 r2 : List Int) (kd k : Int) (h : pos < size) (h1 : wholeR 1 0 1 bs = .ok (kd, r1)) (h2 : ¬ kd = last) (h3 : wholeR 4 (if kd = 0 then 16 else 1) ((size : Int) - (pos : Int)) r1 = .ok (k, r2)) :
    dataL size (f + 1) pos last acc bs = (if kd = 1 then
            match takeR k.toNat r2 with
            | .error e => .error e
            | .ok (b, r3) => if filledB b (last == 0) (decide (pos + k.toNat < size)) then dataL size f (pos + k.toNat) 1 (acc ++ [⟨pos, b⟩]) r3 else .error 191
          else dataL size f (pos + k.toNat) 0 acc r2) := by
  rw [dataL, if_pos h, h1]
  show (if kd = last then Except.error 191 else _) = _
  rw [if_neg h2, h3]
  exact rfl
theorem dataL_hole (size f pos n : Nat) (last : Int) (acc : List Sg) (zs X : List Int) (p : Nat) (hs : size ≤ 16777216) (h : pos < size) (h2 : last ≠ 0) (h3 : 16 ≤ n) (h4 : pos + n ≤ size) :
    dataL size (f + 1) pos last acc (encR zs ⟨p, n, true⟩ ++ X) = dataL size f (pos + n) 0 acc X := by
  rw [encR_hole]
  have a1 : wholeR 1 0 1 (numL 1 0 ++ (numL 4 (n : Int) ++ X)) = .ok (0, numL 4 (n : Int) ++ X) := whole_numL 1 0 1 0 _ (by decide) (by decide) (by decide) (by decide)
  have a2 : wholeR 4 (if (0 : Int) = 0 then 16 else 1) ((size : Int) - (pos : Int)) (numL 4 (n : Int) ++ X) = .ok ((n : Int), X) := by
    rw [if_pos rfl]
    exact whole_numL 4 16 _ (n : Int) X (by omega) (c4 (by omega)) (by omega) (by omega)
  rw [dataL_at size f pos last acc _ _ _ 0 (n : Int) h a1 (fun h => h2 h.symm) a2, if_neg (by decide), Int.toNat_natCast]
theorem dataL_fill (size f pos n : Nat) (last : Int) (acc : List Sg) (zs X : List Int) (p : Nat) (hs : size ≤ 16777216) (h : pos < size) (h2 : last ≠ 1) (h3 : 1 ≤ n) (h4 : pos + n ≤ size) (hl : ((zs.drop p).take n).length = n) (hb : filledB ((zs.drop p).take n) (last == 0) (decide (pos + n < size)) = true) :
    dataL size (f + 1) pos last acc (encR zs ⟨p, n, false⟩ ++ X) = dataL size f (pos + n) 1 (acc ++ [⟨pos, (zs.drop p).take n⟩]) X := by
  rw [encR_fill]
  have a1 : wholeR 1 0 1 (numL 1 1 ++ (numL 4 (n : Int) ++ ((zs.drop p).take n ++ X))) = .ok (1, numL 4 (n : Int) ++ ((zs.drop p).take n ++ X)) := whole_numL 1 0 1 1 _ (by decide) (by decide) (by decide) (by decide)
  have a2 : wholeR 4 (if (1 : Int) = 0 then 16 else 1) ((size : Int) - (pos : Int)) (numL 4 (n : Int) ++ ((zs.drop p).take n ++ X)) = .ok ((n : Int), (zs.drop p).take n ++ X) := by
    rw [if_neg (by decide)]
    exact whole_numL 4 1 _ (n : Int) _ (by omega) (c4 (by omega)) (by omega) (by omega)
  rw [dataL_at size f pos last acc _ _ _ 1 (n : Int) h a1 (fun h => h2 h.symm) a2, if_pos rfl, Int.toNat_natCast, take_app _ _ _ hl]
  show (if filledB ((zs.drop p).take n) (last == 0) (decide (pos + n < size)) = true then _ else _) = _
  rw [if_pos hb]
/-- Data are read as they were laid. -/
theorem dataL_enc (zs : List Int) (hn : zs.length ≤ 16777216) (r : List Int) : ∀ (f k : Nat) (last : Int) (acc : List Sg), zs.length - k ≤ f → k ≤ zs.length → (last = -1 ∨ last = 0) → (last = 0 → k < zs.length → zs.getD k 0 ≠ 0) → layD k acc = zs.take k → (∀ s ∈ acc, s.pos + s.bs.length ≤ k) →
    ∀ g, zs.length - k ≤ g → ∃ segs, dataL zs.length g k last acc ((cutF zs f k).flatMap (encR zs) ++ r) = .ok (segs, r) ∧ layD zs.length segs = zs := by
  intro f
  induction f with
  | zero =>
    intro k last acc h1 h2 h3 h4 h5 h6 g h7
    obtain rfl : k = zs.length := by omega
    refine ⟨acc, ?_, by rw [h5, List.take_length]⟩
    cases g with
    | zero => rfl
    | succ g => rw [dataL, if_neg (by omega)]; rfl
  | succ f ih =>
    intro k last acc h1 h2 h3 h4 h5 h6 g h7
    by_cases hk : k < zs.length
    · obtain ⟨g, rfl⟩ : ∃ g', g = g' + 1 := ⟨g - 1, by omega⟩
      have hle := Nat.le_of_lt hk
      have a1 := fhAt_ge hle
      have a2 := fhAt_le zs k
      have a3 := enAt_le zs k
      have a4 := enAt_gt hk
      have a5 : fhAt zs k ≤ enAt zs k := by unfold enAt; omega
      have hol : fhAt zs k < zs.length → fhAt zs k + 16 ≤ enAt zs k := fun h => by have := at_hole hle h; unfold enAt; omega
      have hzz : zs.take (enAt zs k) = zs.take (fhAt zs k) ++ List.replicate (enAt zs k - fhAt zs k) 0 := by
        have h8 := zrs_zero (zs.drop (fhAt zs k)) (enAt zs k - fhAt zs k) (by unfold enAt; omega)
        rw [← h8]
        conv => lhs; rw [show enAt zs k = fhAt zs k + (enAt zs k - fhAt zs k) by omega, List.take_add]
      rw [cutF, if_pos hk]
      by_cases hA : k < fhAt zs k
      · -- a filled stretch first
        rw [if_pos hA]
        have hbl : ((zs.drop k).take (fhAt zs k - k)).length = fhAt zs k - k := by rw [List.length_take, List.length_drop]; omega
        have hfill : ∀ X : List Int, dataL zs.length (g + 1) k last acc (encR zs ⟨k, fhAt zs k - k, false⟩ ++ X) = dataL zs.length g (fhAt zs k) 1 (acc ++ [⟨k, (zs.drop k).take (fhAt zs k - k)⟩]) X := by
          intro X
          have hfb := filled_cut hk (Or.inr trivial) (last == 0) (fun h => h4 (by simpa using h) hk) hA
          have h8 := dataL_fill zs.length g k (fhAt zs k - k) last acc zs X k hn hk (by rcases h3 with h | h <;> omega) (by omega) (by omega) hbl hfb
          rw [show k + (fhAt zs k - k) = fhAt zs k by omega] at h8
          exact h8
        have hlay : layD (fhAt zs k) (acc ++ [⟨k, (zs.drop k).take (fhAt zs k - k)⟩]) = zs.take (fhAt zs k) := by
          have h8 := lay_put k acc ((zs.drop k).take (fhAt zs k - k)) h6
          rw [hbl, show k + (fhAt zs k - k) = fhAt zs k by omega, h5] at h8
          rw [h8]
          conv => rhs; rw [show fhAt zs k = k + (fhAt zs k - k) by omega, List.take_add]
        have hin : ∀ s ∈ acc ++ [(⟨k, (zs.drop k).take (fhAt zs k - k)⟩ : Sg)], s.pos + s.bs.length ≤ fhAt zs k := by
          intro s hs
          rcases List.mem_append.1 hs with hs | hs
          · have := h6 s hs; omega
          · rw [List.mem_singleton.1 hs]; simp only; rw [hbl]; omega
        by_cases hB : fhAt zs k < enAt zs k
        · rw [if_pos hB]
          simp only [List.flatMap_append, List.flatMap_cons, List.flatMap_nil, List.append_nil, List.append_assoc]
          rw [hfill]
          have hAn : fhAt zs k < zs.length := by omega
          have hol2 := hol hAn
          obtain ⟨g, rfl⟩ : ∃ g', g = g' + 1 := ⟨g - 1, by omega⟩
          have hh : ∀ X : List Int, dataL zs.length (g + 1) (fhAt zs k) 1 (acc ++ [⟨k, (zs.drop k).take (fhAt zs k - k)⟩]) (encR zs ⟨fhAt zs k, enAt zs k - fhAt zs k, true⟩ ++ X) = dataL zs.length g (enAt zs k) 0 (acc ++ [⟨k, (zs.drop k).take (fhAt zs k - k)⟩]) X := by
            intro X
            have h8 := dataL_hole zs.length g (fhAt zs k) (enAt zs k - fhAt zs k) 1 (acc ++ [⟨k, (zs.drop k).take (fhAt zs k - k)⟩]) zs X (fhAt zs k) hn hAn (by decide) (by omega) (by omega)
            rw [show fhAt zs k + (enAt zs k - fhAt zs k) = enAt zs k by omega] at h8
            exact h8
          rw [hh]
          refine ih (enAt zs k) 0 _ (by omega) a3 (Or.inr rfl) (fun _ h => enAt_ne h) ?_ (fun s hs => by have := hin s hs; omega) g (by omega)
          have h8 := lay_add (fhAt zs k) (enAt zs k - fhAt zs k) _ hin
          rw [show fhAt zs k + (enAt zs k - fhAt zs k) = enAt zs k by omega, hlay] at h8
          rw [h8, hzz]
        · rw [if_neg hB]
          simp only [List.flatMap_append, List.flatMap_cons, List.flatMap_nil, List.append_nil, List.append_assoc]
          rw [hfill]
          have hend : fhAt zs k = zs.length := by
            apply Decidable.byContradiction
            intro h9
            have := hol (by omega)
            omega
          have hen : enAt zs k = zs.length := by omega
          rw [hen, hend]
          have hcn : cutF zs f zs.length = [] := by cases f with
            | zero => rfl
            | succ f => rw [cutF, if_neg (by omega)]
          rw [hcn]
          refine ⟨_, ?_, by rw [hend] at hlay; rw [hlay, List.take_length]⟩
          cases g with
          | zero => rfl
          | succ g => rw [dataL, if_neg (by omega)]; rfl
      · rw [if_neg hA]
        have hAk : fhAt zs k = k := by omega
        have hB : fhAt zs k < enAt zs k := by omega
        rw [if_pos hB]
        have hol2 := hol (by omega)
        have hl1 : last = -1 := by
          rcases h3 with h | h
          · exact h
          · have h8 := h4 h hk
            have h9 := at_hole hle (by omega)
            rw [hAk, zrs_stop hk h8] at h9
            omega
        subst hl1
        simp only [List.flatMap_append, List.flatMap_cons, List.flatMap_nil, List.append_nil, List.append_assoc, List.nil_append]
        have hh : ∀ X : List Int, dataL zs.length (g + 1) k (-1) acc (encR zs ⟨fhAt zs k, enAt zs k - fhAt zs k, true⟩ ++ X) = dataL zs.length g (enAt zs k) 0 acc X := by
          intro X
          have h8 := dataL_hole zs.length g k (enAt zs k - fhAt zs k) (-1) acc zs X (fhAt zs k) hn hk (by decide) (by omega) (by omega)
          rw [show k + (enAt zs k - fhAt zs k) = enAt zs k by omega] at h8
          exact h8
        rw [hh]
        refine ih (enAt zs k) 0 acc (by omega) a3 (Or.inr rfl) (fun _ h => enAt_ne h) ?_ (fun s hs => by have := h6 s hs; omega) g (by omega)
        have h8 := lay_add k (enAt zs k - k) acc h6
        rw [show k + (enAt zs k - k) = enAt zs k by omega, h5] at h8
        rw [h8, hzz, hAk]
    · obtain rfl : k = zs.length := by omega
      rw [cutF, if_neg (by omega)]
      refine ⟨acc, ?_, by rw [h5, List.take_length]⟩
      cases g with
      | zero => rfl
      | succ g => rw [dataL, if_neg (by omega)]; rfl
theorem dataR_of (bs r1 r2 : List Int) (n : Nat) (l : List Sg) (h1 : wholeR 4 0 16777216 bs = .ok ((n : Int), r1)) (h2 : dataL n n 0 (-1) [] r1 = .ok (l, r2)) : dataR bs = .ok ((n, l), r2) := by
  unfold dataR
  rw [h1]
  simp only [Int.toNat_natCast]
  rw [h2]
theorem dataR_enc (zs : List Int) (hn : zs.length ≤ 16777216) (r : List Int) : ∃ segs, dataR (encD zs ++ r) = .ok ((zs.length, segs), r) ∧ layD zs.length segs = zs := by
  have hm : ((-1 : Int) = 0) → False := by decide
  have h0 : layD 0 [] = zs.take 0 := by rw [List.take_zero]; exact rfl
  obtain ⟨segs, h1, h2⟩ := dataL_enc zs hn r zs.length 0 (-1) [] (Nat.sub_le _ _) (Nat.zero_le _) (Or.inl rfl) (fun h => (hm h).elim) h0 (fun s hs => absurd hs List.not_mem_nil) zs.length (Nat.sub_le _ _)
  refine ⟨segs, dataR_of _ ((cuts zs).flatMap (encR zs) ++ r) r zs.length segs ?_ ?_, h2⟩
  · unfold encD
    rw [List.append_assoc]
    exact whole_numL 4 0 16777216 (zs.length : Int) _ (by omega) (c4 hn) (by omega) (by omega)
  · unfold cuts
    exact h1

theorem nms_more {s : ByteArray} (h : nmsB s = true) : Pt.tg (Pt.spN s) = s ∧ Pt.joE (Pt.spN s) = 0 ∧ (∀ x ∈ Pt.spN s, Pt.upB x = false ∧ 1 ≤ x.size ∧ x.size ≤ 63) ∧ (Pt.spN s).length ≤ 64 := by
  have hf := nms_facts h
  unfold nmsB at h
  rw [Bool.and_eq_true, Bool.and_eq_true] at h
  obtain ⟨⟨h1, h2⟩, h3⟩ := h
  have he := of_decide_eq_true h1
  have hu : ∀ x ∈ Pt.spN s, Pt.upB x = false := by
    intro x hx
    cases h7 : Pt.upB x with
    | false => rfl
    | true =>
      rw [List.any_eq_true.2 ⟨x, hx, h7⟩] at h3
      cases h3
  have htr : Pt.clN s = Pt.spN s := by
    unfold Pt.clN Pt.trim
    cases hq : Pt.spN s with
    | nil => rfl
    | cons y r =>
      have := hu y (by rw [hq]; exact List.mem_cons_self)
      rw [List.dropWhile_cons, this]
      rfl
  have h2' : (Pt.clS s).toList = s.toList := eq_of_beq h2
  have hcl := Pt.toList_inj h2'
  unfold Pt.clS at hcl
  rw [if_pos he, htr] at hcl
  have hj := (Pt.cl_join he).1
  rw [htr] at hj
  refine ⟨hcl, hj, fun x hx => ⟨hu x hx, ?_, hf.2.2 x hx⟩, hf.2.1⟩
  have hm := Pt.sp_mem he hx
  apply Decidable.byContradiction
  intro h0
  have h9 : x.data.toList = [] := by
    apply List.eq_nil_of_length_eq_zero
    have : x.data.toList.length = x.size := rfl
    omega
  have h8 := hm.1
  unfold Pt.noB at h8
  rw [h9] at h8
  cases h8

theorem c1 {n : Nat} (h : n ≤ 255) : ((n : Nat) : Int) < 256 ^ 1 := by rw [p1]; omega
theorem namesR_enc (ahead : List ByteArray) (d : Nat) (nm : ByteArray) (r : List Int) (h1 : 1 ≤ nm.size) (h2 : nm.size ≤ 63) (hu : Pt.upB nm = false) (hj : Pt.joE (ahead.take d ++ [nm]) = 0) (ha : aheadB ahead d nm = true) :
    namesR ahead d (numL 1 nm.size ++ (numsS nm ++ r)) = .ok (ahead.take d ++ [nm], r) := by
  have a1 : wholeR 1 1 63 (numL 1 nm.size ++ (numsS nm ++ r)) = .ok ((nm.size : Int), numsS nm ++ r) := whole_numL 1 1 63 _ _ (by omega) (c1 (by omega)) (by omega) (by omega)
  have a2 : takeR nm.size (numsS nm ++ r) = .ok (numsS nm, r) := take_app _ _ _ (numsS_len nm)
  unfold namesR
  rw [a1]
  simp only [Int.toNat_natCast]
  rw [a2]
  simp only [strOf_nums, hu, ha, hj, decide_true, Bool.not_false, Bool.and_true, if_true]
theorem targetR_enc (tg : ByteArray) (r : List Int) (h1 : 1 ≤ tg.size) (h2 : tg.size ≤ 127) (hz : Pt.zeroB tg = false) : targetR (numL 1 tg.size ++ (numsS tg ++ r)) = .ok (tg, r) := by
  have a1 : wholeR 1 1 127 (numL 1 tg.size ++ (numsS tg ++ r)) = .ok ((tg.size : Int), numsS tg ++ r) := whole_numL 1 1 127 _ _ (by omega) (c1 (by omega)) (by omega) (by omega)
  have a2 : takeR tg.size (numsS tg ++ r) = .ok (numsS tg, r) := take_app _ _ _ (numsS_len tg)
  unfold targetR
  rw [a1]
  simp only [Int.toNat_natCast]
  rw [a2]
  simp only [strOf_nums, hz, Bool.false_eq_true, if_false]
theorem p2 : (256 : Int) ^ 2 = 65536 := by decide
theorem p8 : (256 : Int) ^ 8 = 18446744073709551616 := by decide
theorem modeR_enc (m s : Int) (r : List Int) (h0 : 0 ≤ m) (h1 : m ≤ 4095) (h2 : 0 ≤ s) (h3 : s < 18446744073709551616) : modeR (numL 2 m ++ (numL 8 s ++ r)) = .ok ((m, s), r) := by
  have a1 : wholeR 2 0 4095 (numL 2 m ++ (numL 8 s ++ r)) = .ok (m, numL 8 s ++ r) := whole_numL 2 0 4095 _ _ h0 (by rw [p2]; omega) h0 h1
  have a2 : numR 8 (numL 8 s ++ r) = .ok (s, r) := num_numL 8 s r h2 (by rw [p8]; exact h3)
  unfold modeR
  rw [a1]
  simp only
  rw [a2]
theorem encP_app (d : Nat) (t m s : Int) (nm : ByteArray) (zs : List Int) (tg : ByteArray) (r : List Int) : encP d t m s nm zs tg ++ r = numL 1 (d : Int) ++ (numL 1 t ++ (numL 2 m ++ (numL 8 s ++ (numL 1 nm.size ++ (numsS nm ++ (encB t zs tg ++ r)))))) := by
  unfold encP
  simp only [List.append_assoc]
theorem pieceR_of (ahead : List ByteArray) (depth : Nat) (bs r1 r2 r3 : List Int) (ty : Int) (ms : Int × Int) (ns : List ByteArray) (h1 : wholeR 1 1 3 bs = .ok (ty, r1)) (h2 : modeR r1 = .ok (ms, r2)) (h3 : namesR ahead depth r2 = .ok (ns, r3)) :
    pieceR ahead depth bs = (if ty = 1 then
          match dataR r3 with
          | .error e => .error e
          | .ok (d, r4) => .ok (⟨ns, ty, ms.1, ms.2, ⟨#[]⟩, d.1, d.2⟩, r4)
        else if ty = 3 then
          match targetR r3 with
          | .error e => .error e
          | .ok (t, r4) => .ok (⟨ns, ty, ms.1, ms.2, t, 0, []⟩, r4)
        else .ok (⟨ns, ty, ms.1, ms.2, ⟨#[]⟩, 0, []⟩, r3)) := by
  unfold pieceR
  rw [h1]
  simp only
  rw [h2]
  simp only
  rw [h3]
  exact rfl
theorem size0 {x : ByteArray} (h : x.size = 0) : (⟨#[]⟩ : ByteArray) = x := by
  obtain ⟨⟨l⟩⟩ := x
  have : l = [] := List.eq_nil_of_length_eq_zero h
  rw [this]
/-- A piece is read as it was laid. -/
theorem piece_enc (ahead : List ByteArray) (d : Nat) (t m s : Int) (nm : ByteArray) (zs : List Int) (tg : ByteArray) (r : List Int) (hb : bodB t m zs.length tg = true) (h2 : 0 ≤ s) (h3 : s < 18446744073709551616) (n1 : 1 ≤ nm.size) (n2 : nm.size ≤ 63) (hu : Pt.upB nm = false) (hj : Pt.joE (ahead.take d ++ [nm]) = 0) (ha : aheadB ahead d nm = true) :
    ∃ p : Pc, pieceR ahead d (numL 1 t ++ (numL 2 m ++ (numL 8 s ++ (numL 1 nm.size ++ (numsS nm ++ (encB t zs tg ++ r)))))) = .ok (p, r) ∧ p.names = ahead.take d ++ [nm] ∧ p.ty = t ∧ p.mode = m ∧ p.stamp = s ∧ layD p.size p.segs = zs ∧ p.target = tg := by
  have hf := bod_facts hb
  have a1 : wholeR 1 1 3 (numL 1 t ++ (numL 2 m ++ (numL 8 s ++ (numL 1 nm.size ++ (numsS nm ++ (encB t zs tg ++ r)))))) = .ok (t, numL 2 m ++ (numL 8 s ++ (numL 1 nm.size ++ (numsS nm ++ (encB t zs tg ++ r))))) := whole_numL 1 1 3 _ _ (by omega) (by rw [p1]; omega) hf.1 hf.2.1
  have a2 := modeR_enc m s (numL 1 nm.size ++ (numsS nm ++ (encB t zs tg ++ r))) hf.2.2.1 hf.2.2.2.1 h2 h3
  have a3 := namesR_enc ahead d nm (encB t zs tg ++ r) n1 n2 hu hj ha
  rw [pieceR_of ahead d _ _ _ _ t (m, s) _ a1 a2 a3]
  unfold bodB at hb
  rw [Bool.and_eq_true] at hb
  have ht := hb.2
  unfold tarB at ht
  by_cases t1 : t = 1
  · rw [if_pos t1]
    rw [if_neg (by omega)] at ht
    have ht' := size0 (of_decide_eq_true ht)
    obtain ⟨segs, g1, g2⟩ := dataR_enc zs hf.2.2.2.2.2.2 r
    have g3 : encB t zs tg = encD zs := by unfold encB; rw [if_pos t1]
    rw [g3, g1]
    exact ⟨_, rfl, rfl, rfl, rfl, rfl, g2, ht'⟩
  · rw [if_neg t1]
    have hz : zs = [] := List.eq_nil_of_length_eq_zero (hf.2.2.2.2.2.1 t1)
    by_cases t3 : t = 3
    · rw [if_pos t3]
      rw [if_pos t3, Bool.and_eq_true, Bool.and_eq_true] at ht
      have g3 : encB t zs tg = numL 1 tg.size ++ numsS tg := by unfold encB; rw [if_neg t1, if_pos t3]
      have hz0 : Pt.zeroB tg = false := by
        have := ht.2
        cases h9 : Pt.zeroB tg with
        | false => rfl
        | true => rw [h9] at this; cases this
      have g1 := targetR_enc tg r (of_decide_eq_true ht.1.1) (of_decide_eq_true ht.1.2) hz0
      rw [g3, List.append_assoc, g1]
      exact ⟨_, rfl, rfl, rfl, rfl, rfl, by rw [hz]; exact rfl, rfl⟩
    · rw [if_neg t3]
      rw [if_neg t3] at ht
      have ht' := size0 (of_decide_eq_true ht)
      have g3 : encB t zs tg = [] := by unfold encB; rw [if_neg t1, if_neg t3]
      rw [g3, List.nil_append]
      exact ⟨_, rfl, rfl, rfl, rfl, rfl, by rw [hz]; exact rfl, ht'⟩

/-- What a leaf in memory holds to. -/
structure Lok (l : Lf) : Prop where
  s0 : 0 ≤ l.stamp
  s1 : l.stamp < 18446744073709551616
  byt : Byt l.data
theorem last_split (ns : List ByteArray) (h : 1 ≤ ns.length) : ns.take (ns.length - 1) ++ [ns.getD (ns.length - 1) ByteArray.empty] = ns := by
  have h1 : ns.length - 1 < ns.length := by omega
  have h2 := List.take_append_getElem h1
  rw [show ns.length - 1 + 1 = ns.length by omega, List.take_length] at h2
  have h3 : ns.getD (ns.length - 1) ByteArray.empty = ns[ns.length - 1] := by simp [List.getD_eq_getElem?_getD, h1]
  rw [h3]; exact h2
theorem getD_mem (ns : List ByteArray) (h : 1 ≤ ns.length) : ns.getD (ns.length - 1) ByteArray.empty ∈ ns := by
  have h1 : ns.length - 1 < ns.length := by omega
  have h3 : ns.getD (ns.length - 1) ByteArray.empty = ns[ns.length - 1] := by simp [List.getD_eq_getElem?_getD, h1]
  rw [h3]; exact List.getElem_mem h1
/-- A leaf that may come is read. -/
theorem leaf_enc (a : Pc) (ns0 : List ByteArray) (d0 : Bool) (l : Lf) (h : okL ns0 d0 l = true) (hl : Lok l) (ha : a.names = ns0) (hd : (a.ty == 2) = d0) (f : Nat) (acc : List Pc) (r : List Int) :
    ∃ p : Pc, piecesL (f + 1) a acc (encL l ++ r) = piecesL f p (acc ++ [p]) r ∧ leafOf p = l ∧ p.names = Pt.spN l.path ∧ p.ty = l.ty := by
  unfold okL at h
  rw [Bool.and_eq_true, Bool.and_eq_true] at h
  obtain ⟨⟨h1, h2⟩, h3⟩ := h
  obtain ⟨q1, q2, q3, q4⟩ := nms_more h1
  unfold folB at h3
  rw [Bool.and_eq_true, Bool.and_eq_true, Bool.and_eq_true] at h3
  obtain ⟨⟨⟨h4, h5⟩, h6⟩, h7⟩ := h3
  have h4 := of_decide_eq_true h4
  have h5 := of_decide_eq_true h5
  have h6 := of_decide_eq_true h6
  have hm := q3 _ (getD_mem _ h4)
  have hsp : ns0.take ((Pt.spN l.path).length - 1) ++ [(Pt.spN l.path).getD ((Pt.spN l.path).length - 1) ByteArray.empty] = Pt.spN l.path := by rw [← h6]; exact last_split _ h4
  obtain ⟨p, g1, g2, g3, g4, g5, g6, g7⟩ := piece_enc ns0 ((Pt.spN l.path).length - 1) l.ty l.mode l.stamp ((Pt.spN l.path).getD ((Pt.spN l.path).length - 1) ByteArray.empty) l.data l.target r h2 hl.s0 hl.s1 hm.2.1 hm.2.2 hm.1 (by rw [hsp]; exact q2) h7
  refine ⟨p, ?_, ?_, g2.trans hsp, g3⟩
  · unfold encL
    rw [encP_app]
    have a1 := num_numL 1 (((Pt.spN l.path).length - 1 : Nat) : Int) (numL 1 l.ty ++ (numL 2 l.mode ++ (numL 8 l.stamp ++ (numL 1 ((Pt.spN l.path).getD ((Pt.spN l.path).length - 1) ByteArray.empty).size ++ (numsS ((Pt.spN l.path).getD ((Pt.spN l.path).length - 1) ByteArray.empty) ++ (encB l.ty l.data l.target ++ r)))))) (by omega) (c1 (by omega))
    have hde : (((Pt.spN l.path).length - 1 : Nat) : Int) ≤ a.deep := by
      have : a.deep = deepB ns0.length d0 := by
        unfold Pc.deep deepB
        rw [ha, ← hd]
        by_cases h9 : a.ty = 2
        · rw [if_pos h9, if_pos (by rw [h9]; rfl)]
        · rw [if_neg h9, if_neg (by rw [beq_eq_false_iff_ne.2 h9]; decide)]
      rw [this]
      omega
    refine pl_go a1 (by omega) ⟨by omega, hde⟩ ?_
    rw [Int.toNat_natCast, ha]
    exact g1
  · unfold leafOf
    rw [g2, hsp, q1, g3, g4, g5, g6, g7]
theorem encL_pos (l : Lf) : 1 ≤ (encL l).length := by
  unfold encL encP
  simp only [List.length_append, numL_length]
  omega
/-- The pieces are read as they were laid. -/
theorem pieces_enc : ∀ (es : List Lf) (ns0 : List ByteArray) (d0 : Bool) (laid x : List Int), goL ns0 d0 laid es = .ok x → (∀ l ∈ es, Lok l) →
    ∃ tl, x = laid ++ tl ∧ es.length ≤ tl.length ∧ ∀ (a : Pc) (acc : List Pc) (f : Nat) (r : List Int), a.names = ns0 → (a.ty == 2) = d0 → es.length ≤ f → ∃ ps, piecesL (f + 1) a acc (tl ++ (numL 1 255 ++ r)) = .ok (acc ++ ps, r) ∧ ps.map leafOf = es
  | [], ns0, d0, laid, x, h, hl => by
    rw [goL] at h
    injection h with h
    refine ⟨[], by rw [List.append_nil]; exact h.symm, Nat.le_refl _, fun a acc f r _ _ _ => ⟨[], ?_, rfl⟩⟩
    rw [List.nil_append, List.append_nil]
    exact pl_end (num_numL 1 255 r (by decide) (by decide))
  | l :: es, ns0, d0, laid, x, h, hl => by
    rw [goL] at h
    split at h
    · rename_i ho
      obtain ⟨tl, g1, g2, g3⟩ := pieces_enc es (Pt.spN l.path) (l.ty == 2) (laid ++ encL l) x h (fun y hy => hl y (List.mem_cons_of_mem _ hy))
      refine ⟨encL l ++ tl, by rw [g1, List.append_assoc], by rw [List.length_append, List.length_cons]; have := encL_pos l; omega, ?_⟩
      intro a acc f r ha hd hf
      obtain ⟨p, k1, k2, k3, k4⟩ := leaf_enc a ns0 d0 l ho (hl l List.mem_cons_self) ha hd f acc (tl ++ (numL 1 255 ++ r))
      rw [List.length_cons] at hf
      obtain ⟨f, rfl⟩ : ∃ f', f = f' + 1 := ⟨f - 1, by omega⟩
      obtain ⟨ps, j1, j2⟩ := g3 p (acc ++ [p]) f r k3 (by rw [k4]) (by omega)
      refine ⟨p :: ps, ?_, by rw [List.map_cons, k2, j2]⟩
      rw [List.append_assoc, k1, j1, List.append_assoc]
      rfl
    · cases h

theorem byt_app {a b : List Int} (h1 : Byt a) (h2 : Byt b) : Byt (a ++ b) := fun x hx => by
  rcases List.mem_append.1 hx with h | h
  · exact h1 x h
  · exact h2 x h
theorem encR_byt {zs : List Int} (h : Byt zs) (s : Sr) : Byt (encR zs s) := by
  unfold encR
  refine byt_app (byt_app (numL_byt _ _) (numL_byt _ _)) ?_
  split
  · exact fun x hx => absurd hx List.not_mem_nil
  · exact fun x hx => h x (List.mem_of_mem_drop (List.mem_of_mem_take hx))
theorem encD_byt {zs : List Int} (h : Byt zs) : Byt (encD zs) := by
  unfold encD
  refine byt_app (numL_byt _ _) ?_
  intro x hx
  obtain ⟨s, _, h2⟩ := List.mem_flatMap.1 hx
  exact encR_byt h s x h2
theorem encL_byt {l : Lf} (h : Byt l.data) : Byt (encL l) := by
  unfold encL encP encB
  refine byt_app (byt_app (byt_app (byt_app (numL_byt _ _) (numL_byt _ _)) (byt_app (numL_byt _ _) (numL_byt _ _))) (byt_app (numL_byt _ _) (numsS_byt _))) ?_
  split
  · exact encD_byt h
  · split
    · exact byt_app (numL_byt _ _) (numsS_byt _)
    · exact fun x hx => absurd hx List.not_mem_nil
theorem goL_byt : ∀ (es : List Lf) (ns0 : List ByteArray) (d0 : Bool) (laid x : List Int), goL ns0 d0 laid es = .ok x → (∀ l ∈ es, Lok l) → Byt laid → Byt x
  | [], ns0, d0, laid, x, h, hl, hb => by
    rw [goL] at h
    injection h with h
    rw [← h]; exact hb
  | l :: es, ns0, d0, laid, x, h, hl, hb => by
    rw [goL] at h
    split at h
    · exact goL_byt es _ _ _ x h (fun y hy => hl y (List.mem_cons_of_mem _ hy)) (byt_app hb (encL_byt (hl l List.mem_cons_self).byt))
    · cases h
theorem headW_byt (l : Lf) : Byt (headW l) := by
  unfold headW
  refine byt_app (byt_app (byt_app ?_ (numL_byt _ _)) (numL_byt _ _)) (numL_byt _ _)
  intro x hx
  simp only [List.mem_cons, List.not_mem_nil, or_false] at hx
  omega

theorem openR_of (bs r r2 : List Int) (l : List Pc) (s : Int) (h1 : piecesR bs = .ok (l, r)) (h2 : numR 4 r = .ok (s, r2)) (h3 : s = ((sumL (nats (bs.take (bs.length - r.length))) : Nat) : Int)) (h4 : r2 = []) : openR bs = .ok l := by
  unfold openR
  rw [h1]
  simp only
  rw [h2]
  simp only
  rw [if_pos h3, if_pos h4]
theorem piecesR_of (bs r : List Int) (ms : Int × Int) (h1 : bs.take 5 = [80, 82, 67, 76, 1]) (h2 : modeR (bs.drop 5) = .ok (ms, r)) : piecesR bs = piecesL (r.length + 1) (rootP ms.1 ms.2) [rootP ms.1 ms.2] r := by
  unfold piecesR
  rw [if_pos h1, h2]
/-- A tree that Pack lays is what open reads. -/
theorem pack_open (es : List Lf) (row : List Int) (h : packM es = .ok row) (hl : ∀ l ∈ es, Lok l) : Byt row ∧ ∃ ps, openR row = .ok ps ∧ ps.map leafOf = es := by
  cases es with
  | nil => cases h
  | cons l r =>
    rw [packM] at h
    split at h
    · rename_i hr
      split at h
      · rename_i hb
        split at h
        · cases h
        · rename_i x hx
          injection h with h
          have hr' : ∀ y ∈ r, Lok y := fun y hy => hl y (List.mem_cons_of_mem _ hy)
          have hbx := goL_byt r _ _ _ x hx hr' (headW_byt l)
          have hbs : Byt (x ++ numL 1 255) := byt_app hbx (numL_byt _ _)
          obtain ⟨tl, g1, g2, g3⟩ := pieces_enc r [] true (headW l) x hx hr'
          have hf := bod_facts hb
          have h0 := hl l List.mem_cons_self
          unfold rootB at hr
          rw [Bool.and_eq_true] at hr
          have hp := of_decide_eq_true hr.1
          have ht := of_decide_eq_true hr.2
          have hsum : ((sumL (nats (x ++ numL 1 255)) : Nat) : Int) < 256 ^ 4 := by
            rw [p4]
            have := sumL_lt hbs
            omega
          have hrow : row = [80, 82, 67, 76, 1] ++ (numL 2 l.mode ++ (numL 8 l.stamp ++ (tl ++ (numL 1 255 ++ numL 4 ((sumL (nats (x ++ numL 1 255)) : Nat) : Int))))) := by
            rw [← h]
            unfold sealW
            conv => lhs; lhs; lhs; rw [g1]
            unfold headW
            rw [show numL 1 1 = [1] from rfl]
            simp only [List.append_assoc, List.cons_append, List.nil_append]
          obtain ⟨ps, k1, k2⟩ := g3 (rootP l.mode l.stamp) [rootP l.mode l.stamp] (tl ++ (numL 1 255 ++ numL 4 ((sumL (nats (x ++ numL 1 255)) : Nat) : Int))).length (numL 4 ((sumL (nats (x ++ numL 1 255)) : Nat) : Int)) rfl rfl (by rw [List.length_append]; omega)
          refine ⟨by rw [← h]; exact byt_app hbs (numL_byt _ _), rootP l.mode l.stamp :: ps, ?_, ?_⟩
          · refine openR_of row (numL 4 ((sumL (nats (x ++ numL 1 255)) : Nat) : Int)) [] _ ((sumL (nats (x ++ numL 1 255)) : Nat) : Int) ?_ ?_ ?_ rfl
            · rw [piecesR_of row _ (l.mode, l.stamp) (by rw [hrow]; rfl) (by rw [hrow]; exact modeR_enc l.mode l.stamp _ hf.2.2.1 hf.2.2.2.1 h0.s0 h0.s1), k1]
              rfl
            · have := num_numL 4 ((sumL (nats (x ++ numL 1 255)) : Nat) : Int) [] (by omega) hsum
              rw [List.append_nil] at this
              exact this
            · have : row.take (row.length - (numL 4 ((sumL (nats (x ++ numL 1 255)) : Nat) : Int)).length) = x ++ numL 1 255 := by
                rw [← h]
                unfold sealW
                rw [List.length_append, Nat.add_sub_cancel, List.take_left' rfl]
              rw [this]
          · rw [List.map_cons, k2]
            congr 1
            unfold leafOf rootP
            have e1 : l.path = Pt.tg [] := by
              rw [Pt.tg_nil]
              exact Pt.toList_inj (by rw [hp, Pt.toList_data, Pt.data_byteOf])
            have e2 : l.data = [] := List.eq_nil_of_length_eq_zero (hf.2.2.2.2.2.1 (by omega))
            have e3 : l.target = ⟨#[]⟩ := by
              unfold bodB at hb
              rw [Bool.and_eq_true] at hb
              have h9 := hb.2
              unfold tarB at h9
              rw [if_neg (by omega)] at h9
              exact (size0 (of_decide_eq_true h9)).symm
            obtain ⟨p, t, m, s, d, g⟩ := l
            simp only at e1 e2 e3 ht
            rw [e1, e2, e3, ht]
            rfl
      · cases h
    · cases h
end Go.Proofs.YtdiifegljonojaaDoor
