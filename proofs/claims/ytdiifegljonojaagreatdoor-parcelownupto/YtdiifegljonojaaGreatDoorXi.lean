/-
  SEAT YtdiifegljonojaaGreatDoor: Xi, of several texts.
-/
import Derived.Test.YtdiifegljonojaaGreatDoorWl
import Derived.Test.YtdiifegljonojaaGreatDoorRp
import Derived.Test.YtdiifegljonojaaGreatDoorRi
import Derived.Test.YtdiifegljonojaaGreatDoorRk
import Derived.Test.YtdiifegljonojaaGreatDoorSa
import Derived.Test.YtdiifegljonojaaGreatDoorWo
import Derived.Test.YtdiifegljonojaaGreatDoorCards
import Derived.Deep.Strs
import Derived.Deep.Grids
import Derived.ChangeOld
import Derived.SizedLaws
import Derived.Lib.LaidTab
namespace Go.Proofs.YtdiifegljonojaaGreatDoor
open Go.RowKit
set_option linter.unusedVariables false

theorem getL_app (a r : List Int) : ∀ n, n ≤ a.length → getL (a ++ r) 0 n = getL a 0 n := fun n hn => getL_congr n (fun i hi => by rw [List.getD_eq_getElem?_getD, List.getD_eq_getElem?_getD, List.getElem?_append_left (by omega)])
theorem getL_numL (n : Nat) (v : Int) (h0 : 0 ≤ v) (h : v < 256 ^ n) (r : List Int) : getL (numL n v ++ r) 0 n = v := by
  rw [getL_app _ _ n (by rw [numL_length]; exact Nat.le_refl _)]
  unfold numL
  rw [get_put _ 0 v n (by simp) h0 n (Nat.le_refl _)]
  exact Int.emod_eq_of_lt h0 h
theorem drop_numL (n : Nat) (v : Int) (r : List Int) : (numL n v ++ r).drop n = r := by
  rw [List.drop_left' (numL_length n v)]
theorem whole_numL (n : Nat) (lo hi v : Int) (r : List Int) (h0 : 0 ≤ v) (h : v < 256 ^ n) (h1 : lo ≤ v) (h2 : v ≤ hi) : wholeR n lo hi (numL n v ++ r) = .ok (v, r) := by
  unfold wholeR
  rw [if_pos (by rw [List.length_append, numL_length]; omega), getL_numL n v h0 h, drop_numL, if_pos ⟨h1, h2⟩]
theorem num_numL (n : Nat) (v : Int) (r : List Int) (h0 : 0 ≤ v) (h : v < 256 ^ n) : numR n (numL n v ++ r) = .ok (v, r) := by
  unfold numR
  rw [if_pos (by rw [List.length_append, numL_length]; omega), getL_numL n v h0 h, drop_numL]
theorem take_app (b r : List Int) (n : Nat) (h : b.length = n) : takeR n (b ++ r) = .ok (b, r) := by
  unfold takeR
  rw [if_pos (by rw [List.length_append]; omega), List.take_left' h, List.drop_left' h]

/-- Holes. -/
theorem fhN_lt : ∀ (b : List Int) (i : Nat), i < fhN b → zrs (b.drop i) < 16
  | [], i, h => by simp [fhN] at h
  | x :: r, i, h => by
    rw [fhN] at h
    split at h
    · omega
    · rename_i h1
      cases i with
      | zero => rw [List.drop_zero]; omega
      | succ i => rw [List.drop_succ_cons]; exact fhN_lt r i (by omega)
theorem fhN_at : ∀ (b : List Int), fhN b < b.length → 16 ≤ zrs (b.drop (fhN b))
  | [], h => by simp at h
  | x :: r, h => by
    rw [fhN] at h ⊢
    split at h
    · rename_i h1
      rw [if_pos h1, List.drop_zero]; exact h1
    · rename_i h1
      rw [if_neg h1, List.drop_succ_cons]
      exact fhN_at r (by simp at h; omega)
theorem fhAt_eq {zs : List Int} {k : Nat} (h : k ≤ zs.length) : fhAt zs k = k + fhN (zs.drop k) := by
  have h1 := fhN_le (zs.drop k)
  rw [List.length_drop] at h1
  unfold fhAt
  omega
theorem at_lt {zs : List Int} {k i : Nat} (h : k ≤ zs.length) (h1 : k ≤ i) (h2 : i < fhAt zs k) : zrs (zs.drop i) < 16 := by
  rw [fhAt_eq h] at h2
  have h3 := fhN_lt (zs.drop k) (i - k) (by omega)
  rw [List.drop_drop, show k + (i - k) = i by omega] at h3
  exact h3
theorem at_hole {zs : List Int} {k : Nat} (h : k ≤ zs.length) (h1 : fhAt zs k < zs.length) : 16 ≤ zrs (zs.drop (fhAt zs k)) := by
  rw [fhAt_eq h] at h1 ⊢
  have h3 := fhN_at (zs.drop k) (by rw [List.length_drop]; omega)
  rw [List.drop_drop] at h3
  exact h3
theorem zrs_take : ∀ (b : List Int) (n : Nat), zrs (b.take n) ≤ zrs b
  | [], n => by simp
  | x :: r, 0 => by simp [zrs]
  | x :: r, n + 1 => by
    rw [List.take_succ_cons, zrs, zrs]
    split
    · have := zrs_take r n; omega
    · omega
theorem zrs_end : ∀ (b : List Int), zrs b < b.length → b.getD (zrs b) 0 ≠ 0
  | [], h => by simp at h
  | x :: r, h => by
    rw [zrs] at h ⊢
    split at h
    · rename_i h1
      rw [if_pos h1, List.getD_cons_succ]
      exact zrs_end r (by simp at h; omega)
    · rename_i h1
      rw [if_neg h1, List.getD_cons_zero]; exact h1
theorem zrs_zero : ∀ (b : List Int) (n : Nat), n ≤ zrs b → b.take n = List.replicate n 0
  | b, 0, _ => by simp
  | [], n + 1, h => by simp [zrs] at h
  | x :: r, n + 1, h => by
    rw [zrs] at h
    split at h
    · rename_i h1
      rw [List.take_succ_cons, h1, zrs_zero r n (by omega), List.replicate_succ]
    · omega
theorem fhN_all' : ∀ b : List Int, (∀ i, i < b.length → zrs (b.drop i) < 16) → fhN b = b.length
  | [], _ => rfl
  | x :: r, h => by
    have h0 := h 0 (by simp)
    rw [List.drop_zero] at h0
    rw [fhN, if_neg (by omega), fhN_all' r (fun i hi => by have := h (i + 1) (by simp; omega); rw [List.drop_succ_cons] at this; exact this), List.length_cons]

theorem place_app {d z : List Int} {s : Sg} (h : s.pos + s.bs.length ≤ d.length) : place (d ++ z) s = place d s ++ z := by
  unfold place
  rw [List.take_append_of_le_length (by omega), List.drop_append_of_le_length h]
  simp
theorem fold_app : ∀ (l : List Sg) (d z : List Int), (∀ s ∈ l, s.pos + s.bs.length ≤ d.length) → l.foldl place (d ++ z) = l.foldl place d ++ z
  | [], d, z, _ => rfl
  | s :: r, d, z, h => by
    have h0 := h s (by simp)
    rw [List.foldl_cons, List.foldl_cons, place_app h0]
    exact fold_app r _ z (fun x hx => by rw [place_len h0]; exact h x (by simp [hx]))
theorem lay_add (n k : Nat) (l : List Sg) (h : ∀ s ∈ l, s.pos + s.bs.length ≤ n) : layD (n + k) l = layD n l ++ List.replicate k 0 := by
  unfold layD
  rw [← List.replicate_append_replicate, fold_app _ _ _ (by simpa using h)]
theorem lay_put (n : Nat) (l : List Sg) (b : List Int) (h : ∀ s ∈ l, s.pos + s.bs.length ≤ n) : layD (n + b.length) (l ++ [⟨n, b⟩]) = layD n l ++ b := by
  have hl := layD_len n l h
  rw [layD_snoc, lay_add n b.length l h]
  unfold place
  simp only
  rw [List.take_append_of_le_length (by omega), List.take_of_length_le (by omega), List.drop_eq_nil_of_le (by rw [List.length_append, List.length_replicate]; omega)]
  simp

/-- A filled stretch as it is cut. -/
theorem filled_cut {zs : List Int} {k : Nat} (hk : k < zs.length) (hz : zs.getD k 0 ≠ 0 ∨ True) (behind : Bool) (hb : behind = true → zs.getD k 0 ≠ 0) (hA : k < fhAt zs k) :
    filledB ((zs.drop k).take (fhAt zs k - k)) behind (decide (k + (fhAt zs k - k) < zs.length)) = true := by
  have hle := Nat.le_of_lt hk
  have hA2 := fhAt_le zs k
  have hlen : ((zs.drop k).take (fhAt zs k - k)).length = fhAt zs k - k := by rw [List.length_take, List.length_drop]; omega
  unfold filledB
  have h1 : fhN ((zs.drop k).take (fhAt zs k - k)) = ((zs.drop k).take (fhAt zs k - k)).length := by
    apply fhN_all'
    intro i hi
    rw [hlen] at hi
    rw [List.drop_take]
    have h2 := zrs_take ((zs.drop k).drop i) (fhAt zs k - k - i)
    rw [List.drop_drop] at h2 ⊢
    have h3 := at_lt hle (show k ≤ k + i by omega) (by omega)
    omega
  rw [h1, decide_eq_true rfl]
  have hg : ∀ i, i < fhAt zs k - k → ((zs.drop k).take (fhAt zs k - k)).getD i 0 = zs.getD (k + i) 0 := by
    intro i hi
    rw [List.getD_eq_getElem?_getD, List.getElem?_take_of_lt hi, List.getElem?_drop, ← List.getD_eq_getElem?_getD]
  rw [hg 0 (by omega), Nat.add_zero, hlen, hg (fhAt zs k - k - 1) (by omega), show k + (fhAt zs k - k) = fhAt zs k by omega, show k + (fhAt zs k - k - 1) = fhAt zs k - 1 by omega]
  have h4 : (behind && (zs.getD k 0 == 0)) = false := by
    cases behind with
    | false => rfl
    | true => rw [beq_eq_false_iff_ne.2 (hb rfl)]; rfl
  have h5 : (decide (fhAt zs k < zs.length) && (zs.getD (fhAt zs k - 1) 0 == 0)) = false := by
    by_cases h6 : fhAt zs k < zs.length
    · have h7 := at_hole hle h6
      have h8 : zs.getD (fhAt zs k - 1) 0 ≠ 0 := by
        intro h9
        have h10 := at_lt hle (show k ≤ fhAt zs k - 1 by omega) (by omega)
        rw [zrs_step (by omega) h9, show fhAt zs k - 1 + 1 = fhAt zs k by omega] at h10
        omega
      rw [beq_eq_false_iff_ne.2 h8, Bool.and_false]
    · rw [decide_eq_false h6]; rfl
  rw [h4, h5]
  rfl

theorem p4 : (256 : Int) ^ 4 = 4294967296 := by decide
theorem p1 : (256 : Int) ^ 1 = 256 := by decide
theorem enAt_ne {zs : List Int} {k : Nat} (h : enAt zs k < zs.length) : zs.getD (enAt zs k) 0 ≠ 0 := by
  have h1 := zrs_end (zs.drop (fhAt zs k)) (by rw [List.length_drop]; unfold enAt at h; omega)
  rw [List.getD_eq_getElem?_getD, List.getElem?_drop, ← List.getD_eq_getElem?_getD] at h1
  exact h1

theorem c4 {n : Nat} (h : n ≤ 16777216) : ((n : Nat) : Int) < 256 ^ 4 := by rw [p4]; omega
theorem encR_fill (zs : List Int) (p n : Nat) (X : List Int) : encR zs ⟨p, n, false⟩ ++ X = numL 1 1 ++ (numL 4 (n : Int) ++ ((zs.drop p).take n ++ X)) := by
  show (numL 1 (if false = true then 0 else 1) ++ numL 4 (n : Int) ++ (if false = true then [] else (zs.drop p).take n)) ++ X = _
  rw [if_neg Bool.false_ne_true, if_neg Bool.false_ne_true, List.append_assoc, List.append_assoc]
theorem encR_hole (zs : List Int) (p n : Nat) (X : List Int) : encR zs ⟨p, n, true⟩ ++ X = numL 1 0 ++ (numL 4 (n : Int) ++ X) := by
  show (numL 1 (if true = true then 0 else 1) ++ numL 4 (n : Int) ++ (if true = true then [] else (zs.drop p).take n)) ++ X = _
  rw [if_pos rfl, if_pos rfl, List.append_assoc, List.append_assoc, List.nil_append]
theorem dataL_at (size f pos : Nat) (last : Int) (acc : List Sg) (bs r1 r2 : List Int) (kd k : Int) (h : pos < size) (h1 : wholeR 1 0 1 bs = .ok (kd, r1)) (h2 : ¬ kd = last) (h3 : wholeR 4 (if kd = 0 then 16 else 1) ((size : Int) - (pos : Int)) r1 = .ok (k, r2)) :
    dataL size (f + 1) pos last acc bs = (if kd = 1 then
            match takeR k.toNat r2 with
            | .error e => .error e
            | .ok (b, r3) => if filledB b (last == 0) (decide (pos + k.toNat < size)) then dataL size f (pos + k.toNat) 1 (acc ++ [⟨pos, b⟩]) r3 else .error 191
          else dataL size f (pos + k.toNat) 0 acc r2) := by
  rw [dataL, if_pos h, h1]
  show (if kd = last then Except.error 191 else _) = _
  rw [if_neg h2, h3]
  exact rfl
theorem dataL_hole (size f pos n : Nat) (last : Int) (acc : List Sg) (zs X : List Int) (p : Nat) (hs : size ≤ 16777216) (h : pos < size) (h2 : last ≠ 0) (h3 : 16 ≤ n) (h4 : pos + n ≤ size) :
    dataL size (f + 1) pos last acc (encR zs ⟨p, n, true⟩ ++ X) = dataL size f (pos + n) 0 acc X := by
  rw [encR_hole]
  have a1 : wholeR 1 0 1 (numL 1 0 ++ (numL 4 (n : Int) ++ X)) = .ok (0, numL 4 (n : Int) ++ X) := whole_numL 1 0 1 0 _ (by decide) (by decide) (by decide) (by decide)
  have a2 : wholeR 4 (if (0 : Int) = 0 then 16 else 1) ((size : Int) - (pos : Int)) (numL 4 (n : Int) ++ X) = .ok ((n : Int), X) := by
    rw [if_pos rfl]
    exact whole_numL 4 16 _ (n : Int) X (by omega) (c4 (by omega)) (by omega) (by omega)
  rw [dataL_at size f pos last acc _ _ _ 0 (n : Int) h a1 (fun h => h2 h.symm) a2, if_neg (by decide), Int.toNat_natCast]
theorem dataL_fill (size f pos n : Nat) (last : Int) (acc : List Sg) (zs X : List Int) (p : Nat) (hs : size ≤ 16777216) (h : pos < size) (h2 : last ≠ 1) (h3 : 1 ≤ n) (h4 : pos + n ≤ size) (hl : ((zs.drop p).take n).length = n) (hb : filledB ((zs.drop p).take n) (last == 0) (decide (pos + n < size)) = true) :
    dataL size (f + 1) pos last acc (encR zs ⟨p, n, false⟩ ++ X) = dataL size f (pos + n) 1 (acc ++ [⟨pos, (zs.drop p).take n⟩]) X := by
  rw [encR_fill]
  have a1 : wholeR 1 0 1 (numL 1 1 ++ (numL 4 (n : Int) ++ ((zs.drop p).take n ++ X))) = .ok (1, numL 4 (n : Int) ++ ((zs.drop p).take n ++ X)) := whole_numL 1 0 1 1 _ (by decide) (by decide) (by decide) (by decide)
  have a2 : wholeR 4 (if (1 : Int) = 0 then 16 else 1) ((size : Int) - (pos : Int)) (numL 4 (n : Int) ++ ((zs.drop p).take n ++ X)) = .ok ((n : Int), (zs.drop p).take n ++ X) := by
    rw [if_neg (by decide)]
    exact whole_numL 4 1 _ (n : Int) _ (by omega) (c4 (by omega)) (by omega) (by omega)
  rw [dataL_at size f pos last acc _ _ _ 1 (n : Int) h a1 (fun h => h2 h.symm) a2, if_pos rfl, Int.toNat_natCast, take_app _ _ _ hl]
  show (if filledB ((zs.drop p).take n) (last == 0) (decide (pos + n < size)) = true then _ else _) = _
  rw [if_pos hb]
/-- Data are read as they were laid. -/
theorem dataL_enc (zs : List Int) (hn : zs.length ≤ 16777216) (r : List Int) : ∀ (f k : Nat) (last : Int) (acc : List Sg), zs.length - k ≤ f → k ≤ zs.length → (last = -1 ∨ last = 0) → (last = 0 → k < zs.length → zs.getD k 0 ≠ 0) → layD k acc = zs.take k → (∀ s ∈ acc, s.pos + s.bs.length ≤ k) →
    ∀ g, zs.length - k ≤ g → ∃ segs, dataL zs.length g k last acc ((cutF zs f k).flatMap (encR zs) ++ r) = .ok (segs, r) ∧ layD zs.length segs = zs := by
  intro f
  induction f with
  | zero =>
    intro k last acc h1 h2 h3 h4 h5 h6 g h7
    obtain rfl : k = zs.length := by omega
    refine ⟨acc, ?_, by rw [h5, List.take_length]⟩
    cases g with
    | zero => rfl
    | succ g => rw [dataL, if_neg (by omega)]; rfl
  | succ f ih =>
    intro k last acc h1 h2 h3 h4 h5 h6 g h7
    by_cases hk : k < zs.length
    · obtain ⟨g, rfl⟩ : ∃ g', g = g' + 1 := ⟨g - 1, by omega⟩
      have hle := Nat.le_of_lt hk
      have a1 := fhAt_ge hle
      have a2 := fhAt_le zs k
      have a3 := enAt_le zs k
      have a4 := enAt_gt hk
      have a5 : fhAt zs k ≤ enAt zs k := by unfold enAt; omega
      have hol : fhAt zs k < zs.length → fhAt zs k + 16 ≤ enAt zs k := fun h => by have := at_hole hle h; unfold enAt; omega
      have hzz : zs.take (enAt zs k) = zs.take (fhAt zs k) ++ List.replicate (enAt zs k - fhAt zs k) 0 := by
        have h8 := zrs_zero (zs.drop (fhAt zs k)) (enAt zs k - fhAt zs k) (by unfold enAt; omega)
        rw [← h8]
        conv => lhs; rw [show enAt zs k = fhAt zs k + (enAt zs k - fhAt zs k) by omega, List.take_add]
      rw [cutF, if_pos hk]
      by_cases hA : k < fhAt zs k
      · -- a filled stretch first
        rw [if_pos hA]
        have hbl : ((zs.drop k).take (fhAt zs k - k)).length = fhAt zs k - k := by rw [List.length_take, List.length_drop]; omega
        have hfill : ∀ X : List Int, dataL zs.length (g + 1) k last acc (encR zs ⟨k, fhAt zs k - k, false⟩ ++ X) = dataL zs.length g (fhAt zs k) 1 (acc ++ [⟨k, (zs.drop k).take (fhAt zs k - k)⟩]) X := by
          intro X
          have hfb := filled_cut hk (Or.inr trivial) (last == 0) (fun h => h4 (by simpa using h) hk) hA
          have h8 := dataL_fill zs.length g k (fhAt zs k - k) last acc zs X k hn hk (by rcases h3 with h | h <;> omega) (by omega) (by omega) hbl hfb
          rw [show k + (fhAt zs k - k) = fhAt zs k by omega] at h8
          exact h8
        have hlay : layD (fhAt zs k) (acc ++ [⟨k, (zs.drop k).take (fhAt zs k - k)⟩]) = zs.take (fhAt zs k) := by
          have h8 := lay_put k acc ((zs.drop k).take (fhAt zs k - k)) h6
          rw [hbl, show k + (fhAt zs k - k) = fhAt zs k by omega, h5] at h8
          rw [h8]
          conv => rhs; rw [show fhAt zs k = k + (fhAt zs k - k) by omega, List.take_add]
        have hin : ∀ s ∈ acc ++ [(⟨k, (zs.drop k).take (fhAt zs k - k)⟩ : Sg)], s.pos + s.bs.length ≤ fhAt zs k := by
          intro s hs
          rcases List.mem_append.1 hs with hs | hs
          · have := h6 s hs; omega
          · rw [List.mem_singleton.1 hs]; simp only; rw [hbl]; omega
        by_cases hB : fhAt zs k < enAt zs k
        · rw [if_pos hB]
          simp only [List.flatMap_append, List.flatMap_cons, List.flatMap_nil, List.append_nil, List.append_assoc]
          rw [hfill]
          have hAn : fhAt zs k < zs.length := by omega
          have hol2 := hol hAn
          obtain ⟨g, rfl⟩ : ∃ g', g = g' + 1 := ⟨g - 1, by omega⟩
          have hh : ∀ X : List Int, dataL zs.length (g + 1) (fhAt zs k) 1 (acc ++ [⟨k, (zs.drop k).take (fhAt zs k - k)⟩]) (encR zs ⟨fhAt zs k, enAt zs k - fhAt zs k, true⟩ ++ X) = dataL zs.length g (enAt zs k) 0 (acc ++ [⟨k, (zs.drop k).take (fhAt zs k - k)⟩]) X := by
            intro X
            have h8 := dataL_hole zs.length g (fhAt zs k) (enAt zs k - fhAt zs k) 1 (acc ++ [⟨k, (zs.drop k).take (fhAt zs k - k)⟩]) zs X (fhAt zs k) hn hAn (by decide) (by omega) (by omega)
            rw [show fhAt zs k + (enAt zs k - fhAt zs k) = enAt zs k by omega] at h8
            exact h8
          rw [hh]
          refine ih (enAt zs k) 0 _ (by omega) a3 (Or.inr rfl) (fun _ h => enAt_ne h) ?_ (fun s hs => by have := hin s hs; omega) g (by omega)
          have h8 := lay_add (fhAt zs k) (enAt zs k - fhAt zs k) _ hin
          rw [show fhAt zs k + (enAt zs k - fhAt zs k) = enAt zs k by omega, hlay] at h8
          rw [h8, hzz]
        · rw [if_neg hB]
          simp only [List.flatMap_append, List.flatMap_cons, List.flatMap_nil, List.append_nil, List.append_assoc]
          rw [hfill]
          have hend : fhAt zs k = zs.length := by
            apply Decidable.byContradiction
            intro h9
            have := hol (by omega)
            omega
          have hen : enAt zs k = zs.length := by omega
          rw [hen, hend]
          have hcn : cutF zs f zs.length = [] := by cases f with
            | zero => rfl
            | succ f => rw [cutF, if_neg (by omega)]
          rw [hcn]
          refine ⟨_, ?_, by rw [hend] at hlay; rw [hlay, List.take_length]⟩
          cases g with
          | zero => rfl
          | succ g => rw [dataL, if_neg (by omega)]; rfl
      · rw [if_neg hA]
        have hAk : fhAt zs k = k := by omega
        have hB : fhAt zs k < enAt zs k := by omega
        rw [if_pos hB]
        have hol2 := hol (by omega)
        have hl1 : last = -1 := by
          rcases h3 with h | h
          · exact h
          · have h8 := h4 h hk
            have h9 := at_hole hle (by omega)
            rw [hAk, zrs_stop hk h8] at h9
            omega
        subst hl1
        simp only [List.flatMap_append, List.flatMap_cons, List.flatMap_nil, List.append_nil, List.append_assoc, List.nil_append]
        have hh : ∀ X : List Int, dataL zs.length (g + 1) k (-1) acc (encR zs ⟨fhAt zs k, enAt zs k - fhAt zs k, true⟩ ++ X) = dataL zs.length g (enAt zs k) 0 acc X := by
          intro X
          have h8 := dataL_hole zs.length g k (enAt zs k - fhAt zs k) (-1) acc zs X (fhAt zs k) hn hk (by decide) (by omega) (by omega)
          rw [show k + (enAt zs k - fhAt zs k) = enAt zs k by omega] at h8
          exact h8
        rw [hh]
        refine ih (enAt zs k) 0 acc (by omega) a3 (Or.inr rfl) (fun _ h => enAt_ne h) ?_ (fun s hs => by have := h6 s hs; omega) g (by omega)
        have h8 := lay_add k (enAt zs k - k) acc h6
        rw [show k + (enAt zs k - k) = enAt zs k by omega, h5] at h8
        rw [h8, hzz, hAk]
    · obtain rfl : k = zs.length := by omega
      rw [cutF, if_neg (by omega)]
      refine ⟨acc, ?_, by rw [h5, List.take_length]⟩
      cases g with
      | zero => rfl
      | succ g => rw [dataL, if_neg (by omega)]; rfl
theorem dataR_of (bs r1 r2 : List Int) (n : Nat) (l : List Sg) (h1 : wholeR 4 0 16777216 bs = .ok ((n : Int), r1)) (h2 : dataL n n 0 (-1) [] r1 = .ok (l, r2)) : dataR bs = .ok ((n, l), r2) := by
  unfold dataR
  rw [h1]
  simp only [Int.toNat_natCast]
  rw [h2]
theorem dataR_enc (zs : List Int) (hn : zs.length ≤ 16777216) (r : List Int) : ∃ segs, dataR (encD zs ++ r) = .ok ((zs.length, segs), r) ∧ layD zs.length segs = zs := by
  have hm : ((-1 : Int) = 0) → False := by decide
  have h0 : layD 0 [] = zs.take 0 := by rw [List.take_zero]; exact rfl
  obtain ⟨segs, h1, h2⟩ := dataL_enc zs hn r zs.length 0 (-1) [] (Nat.sub_le _ _) (Nat.zero_le _) (Or.inl rfl) (fun h => (hm h).elim) h0 (fun s hs => absurd hs List.not_mem_nil) zs.length (Nat.sub_le _ _)
  refine ⟨segs, dataR_of _ ((cuts zs).flatMap (encR zs) ++ r) r zs.length segs ?_ ?_, h2⟩
  · unfold encD
    rw [List.append_assoc]
    exact whole_numL 4 0 16777216 (zs.length : Int) _ (by omega) (c4 hn) (by omega) (by omega)
  · unfold cuts
    exact h1

theorem nms_more {s : ByteArray} (h : nmsB s = true) : Pt.tg (Pt.spN s) = s ∧ Pt.joE (Pt.spN s) = 0 ∧ (∀ x ∈ Pt.spN s, Pt.upB x = false ∧ 1 ≤ x.size ∧ x.size ≤ 63) ∧ (Pt.spN s).length ≤ 64 := by
  have hf := nms_facts h
  unfold nmsB at h
  rw [Bool.and_eq_true, Bool.and_eq_true] at h
  obtain ⟨⟨h1, h2⟩, h3⟩ := h
  have he := of_decide_eq_true h1
  have hu : ∀ x ∈ Pt.spN s, Pt.upB x = false := by
    intro x hx
    cases h7 : Pt.upB x with
    | false => rfl
    | true =>
      rw [List.any_eq_true.2 ⟨x, hx, h7⟩] at h3
      cases h3
  have htr : Pt.clN s = Pt.spN s := by
    unfold Pt.clN Pt.trim
    cases hq : Pt.spN s with
    | nil => rfl
    | cons y r =>
      have := hu y (by rw [hq]; exact List.mem_cons_self)
      rw [List.dropWhile_cons, this]
      rfl
  have h2' : (Pt.clS s).toList = s.toList := eq_of_beq h2
  have hcl := Pt.toList_inj h2'
  unfold Pt.clS at hcl
  rw [if_pos he, htr] at hcl
  have hj := (Pt.cl_join he).1
  rw [htr] at hj
  refine ⟨hcl, hj, fun x hx => ⟨hu x hx, ?_, hf.2.2 x hx⟩, hf.2.1⟩
  have hm := Pt.sp_mem he hx
  apply Decidable.byContradiction
  intro h0
  have h9 : x.data.toList = [] := by
    apply List.eq_nil_of_length_eq_zero
    have : x.data.toList.length = x.size := rfl
    omega
  have h8 := hm.1
  unfold Pt.noB at h8
  rw [h9] at h8
  cases h8

theorem c1 {n : Nat} (h : n ≤ 255) : ((n : Nat) : Int) < 256 ^ 1 := by rw [p1]; omega
theorem namesR_enc (ahead : List ByteArray) (d : Nat) (nm : ByteArray) (r : List Int) (h1 : 1 ≤ nm.size) (h2 : nm.size ≤ 63) (hu : Pt.upB nm = false) (hj : Pt.joE (ahead.take d ++ [nm]) = 0) (ha : aheadB ahead d nm = true) :
    namesR ahead d (numL 1 nm.size ++ (numsS nm ++ r)) = .ok (ahead.take d ++ [nm], r) := by
  have a1 : wholeR 1 1 63 (numL 1 nm.size ++ (numsS nm ++ r)) = .ok ((nm.size : Int), numsS nm ++ r) := whole_numL 1 1 63 _ _ (by omega) (c1 (by omega)) (by omega) (by omega)
  have a2 : takeR nm.size (numsS nm ++ r) = .ok (numsS nm, r) := take_app _ _ _ (numsS_len nm)
  unfold namesR
  rw [a1]
  simp only [Int.toNat_natCast]
  rw [a2]
  simp only [strOf_nums, hu, ha, hj, decide_true, Bool.not_false, Bool.and_true, if_true]
theorem targetR_enc (tg : ByteArray) (r : List Int) (h1 : 1 ≤ tg.size) (h2 : tg.size ≤ 127) (hz : Pt.zeroB tg = false) : targetR (numL 1 tg.size ++ (numsS tg ++ r)) = .ok (tg, r) := by
  have a1 : wholeR 1 1 127 (numL 1 tg.size ++ (numsS tg ++ r)) = .ok ((tg.size : Int), numsS tg ++ r) := whole_numL 1 1 127 _ _ (by omega) (c1 (by omega)) (by omega) (by omega)
  have a2 : takeR tg.size (numsS tg ++ r) = .ok (numsS tg, r) := take_app _ _ _ (numsS_len tg)
  unfold targetR
  rw [a1]
  simp only [Int.toNat_natCast]
  rw [a2]
  simp only [strOf_nums, hz, Bool.false_eq_true, if_false]
theorem p2 : (256 : Int) ^ 2 = 65536 := by decide
theorem p8 : (256 : Int) ^ 8 = 18446744073709551616 := by decide
theorem modeR_enc (m s : Int) (r : List Int) (h0 : 0 ≤ m) (h1 : m ≤ 4095) (h2 : 0 ≤ s) (h3 : s < 18446744073709551616) : modeR (numL 2 m ++ (numL 8 s ++ r)) = .ok ((m, s), r) := by
  have a1 : wholeR 2 0 4095 (numL 2 m ++ (numL 8 s ++ r)) = .ok (m, numL 8 s ++ r) := whole_numL 2 0 4095 _ _ h0 (by rw [p2]; omega) h0 h1
  have a2 : numR 8 (numL 8 s ++ r) = .ok (s, r) := num_numL 8 s r h2 (by rw [p8]; exact h3)
  unfold modeR
  rw [a1]
  simp only
  rw [a2]
theorem encP_app (d : Nat) (t m s : Int) (nm : ByteArray) (zs : List Int) (tg : ByteArray) (r : List Int) : encP d t m s nm zs tg ++ r = numL 1 (d : Int) ++ (numL 1 t ++ (numL 2 m ++ (numL 8 s ++ (numL 1 nm.size ++ (numsS nm ++ (encB t zs tg ++ r)))))) := by
  unfold encP
  simp only [List.append_assoc]
theorem pieceR_of (ahead : List ByteArray) (depth : Nat) (bs r1 r2 r3 : List Int) (ty : Int) (ms : Int × Int) (ns : List ByteArray) (h1 : wholeR 1 1 3 bs = .ok (ty, r1)) (h2 : modeR r1 = .ok (ms, r2)) (h3 : namesR ahead depth r2 = .ok (ns, r3)) :
    pieceR ahead depth bs = (if ty = 1 then
          match dataR r3 with
          | .error e => .error e
          | .ok (d, r4) => .ok (⟨ns, ty, ms.1, ms.2, ⟨#[]⟩, d.1, d.2⟩, r4)
        else if ty = 3 then
          match targetR r3 with
          | .error e => .error e
          | .ok (t, r4) => .ok (⟨ns, ty, ms.1, ms.2, t, 0, []⟩, r4)
        else .ok (⟨ns, ty, ms.1, ms.2, ⟨#[]⟩, 0, []⟩, r3)) := by
  unfold pieceR
  rw [h1]
  simp only
  rw [h2]
  simp only
  rw [h3]
  exact rfl
theorem size0 {x : ByteArray} (h : x.size = 0) : (⟨#[]⟩ : ByteArray) = x := by
  obtain ⟨⟨l⟩⟩ := x
  have : l = [] := List.eq_nil_of_length_eq_zero h
  rw [this]
/-- A piece is read as it was laid. -/
theorem piece_enc (ahead : List ByteArray) (d : Nat) (t m s : Int) (nm : ByteArray) (zs : List Int) (tg : ByteArray) (r : List Int) (hb : bodB t m zs.length tg = true) (h2 : 0 ≤ s) (h3 : s < 18446744073709551616) (n1 : 1 ≤ nm.size) (n2 : nm.size ≤ 63) (hu : Pt.upB nm = false) (hj : Pt.joE (ahead.take d ++ [nm]) = 0) (ha : aheadB ahead d nm = true) :
    ∃ p : Pc, pieceR ahead d (numL 1 t ++ (numL 2 m ++ (numL 8 s ++ (numL 1 nm.size ++ (numsS nm ++ (encB t zs tg ++ r)))))) = .ok (p, r) ∧ p.names = ahead.take d ++ [nm] ∧ p.ty = t ∧ p.mode = m ∧ p.stamp = s ∧ layD p.size p.segs = zs ∧ p.target = tg := by
  have hf := bod_facts hb
  have a1 : wholeR 1 1 3 (numL 1 t ++ (numL 2 m ++ (numL 8 s ++ (numL 1 nm.size ++ (numsS nm ++ (encB t zs tg ++ r)))))) = .ok (t, numL 2 m ++ (numL 8 s ++ (numL 1 nm.size ++ (numsS nm ++ (encB t zs tg ++ r))))) := whole_numL 1 1 3 _ _ (by omega) (by rw [p1]; omega) hf.1 hf.2.1
  have a2 := modeR_enc m s (numL 1 nm.size ++ (numsS nm ++ (encB t zs tg ++ r))) hf.2.2.1 hf.2.2.2.1 h2 h3
  have a3 := namesR_enc ahead d nm (encB t zs tg ++ r) n1 n2 hu hj ha
  rw [pieceR_of ahead d _ _ _ _ t (m, s) _ a1 a2 a3]
  unfold bodB at hb
  rw [Bool.and_eq_true] at hb
  have ht := hb.2
  unfold tarB at ht
  by_cases t1 : t = 1
  · rw [if_pos t1]
    rw [if_neg (by omega)] at ht
    have ht' := size0 (of_decide_eq_true ht)
    obtain ⟨segs, g1, g2⟩ := dataR_enc zs hf.2.2.2.2.2.2 r
    have g3 : encB t zs tg = encD zs := by unfold encB; rw [if_pos t1]
    rw [g3, g1]
    exact ⟨_, rfl, rfl, rfl, rfl, rfl, g2, ht'⟩
  · rw [if_neg t1]
    have hz : zs = [] := List.eq_nil_of_length_eq_zero (hf.2.2.2.2.2.1 t1)
    by_cases t3 : t = 3
    · rw [if_pos t3]
      rw [if_pos t3, Bool.and_eq_true, Bool.and_eq_true] at ht
      have g3 : encB t zs tg = numL 1 tg.size ++ numsS tg := by unfold encB; rw [if_neg t1, if_pos t3]
      have hz0 : Pt.zeroB tg = false := by
        have := ht.2
        cases h9 : Pt.zeroB tg with
        | false => rfl
        | true => rw [h9] at this; cases this
      have g1 := targetR_enc tg r (of_decide_eq_true ht.1.1) (of_decide_eq_true ht.1.2) hz0
      rw [g3, List.append_assoc, g1]
      exact ⟨_, rfl, rfl, rfl, rfl, rfl, by rw [hz]; exact rfl, rfl⟩
    · rw [if_neg t3]
      rw [if_neg t3] at ht
      have ht' := size0 (of_decide_eq_true ht)
      have g3 : encB t zs tg = [] := by unfold encB; rw [if_neg t1, if_neg t3]
      rw [g3, List.nil_append]
      exact ⟨_, rfl, rfl, rfl, rfl, rfl, by rw [hz]; exact rfl, ht'⟩

/-- What a leaf in memory holds to. -/
structure Lok (l : Lf) : Prop where
  s0 : 0 ≤ l.stamp
  s1 : l.stamp < 18446744073709551616
  byt : Byt l.data
theorem last_split (ns : List ByteArray) (h : 1 ≤ ns.length) : ns.take (ns.length - 1) ++ [ns.getD (ns.length - 1) ByteArray.empty] = ns := by
  have h1 : ns.length - 1 < ns.length := by omega
  have h2 := List.take_append_getElem h1
  rw [show ns.length - 1 + 1 = ns.length by omega, List.take_length] at h2
  have h3 : ns.getD (ns.length - 1) ByteArray.empty = ns[ns.length - 1] := by simp [List.getD_eq_getElem?_getD, h1]
  rw [h3]; exact h2
theorem getD_mem (ns : List ByteArray) (h : 1 ≤ ns.length) : ns.getD (ns.length - 1) ByteArray.empty ∈ ns := by
  have h1 : ns.length - 1 < ns.length := by omega
  have h3 : ns.getD (ns.length - 1) ByteArray.empty = ns[ns.length - 1] := by simp [List.getD_eq_getElem?_getD, h1]
  rw [h3]; exact List.getElem_mem h1
/-- A leaf that may come is read. -/
theorem leaf_enc (a : Pc) (ns0 : List ByteArray) (d0 : Bool) (l : Lf) (h : okL ns0 d0 l = true) (hl : Lok l) (ha : a.names = ns0) (hd : (a.ty == 2) = d0) (f : Nat) (acc : List Pc) (r : List Int) :
    ∃ p : Pc, piecesL (f + 1) a acc (encL l ++ r) = piecesL f p (acc ++ [p]) r ∧ leafOf p = l ∧ p.names = Pt.spN l.path ∧ p.ty = l.ty := by
  unfold okL at h
  rw [Bool.and_eq_true, Bool.and_eq_true] at h
  obtain ⟨⟨h1, h2⟩, h3⟩ := h
  obtain ⟨q1, q2, q3, q4⟩ := nms_more h1
  unfold folB at h3
  rw [Bool.and_eq_true, Bool.and_eq_true, Bool.and_eq_true] at h3
  obtain ⟨⟨⟨h4, h5⟩, h6⟩, h7⟩ := h3
  have h4 := of_decide_eq_true h4
  have h5 := of_decide_eq_true h5
  have h6 := of_decide_eq_true h6
  have hm := q3 _ (getD_mem _ h4)
  have hsp : ns0.take ((Pt.spN l.path).length - 1) ++ [(Pt.spN l.path).getD ((Pt.spN l.path).length - 1) ByteArray.empty] = Pt.spN l.path := by rw [← h6]; exact last_split _ h4
  obtain ⟨p, g1, g2, g3, g4, g5, g6, g7⟩ := piece_enc ns0 ((Pt.spN l.path).length - 1) l.ty l.mode l.stamp ((Pt.spN l.path).getD ((Pt.spN l.path).length - 1) ByteArray.empty) l.data l.target r h2 hl.s0 hl.s1 hm.2.1 hm.2.2 hm.1 (by rw [hsp]; exact q2) h7
  refine ⟨p, ?_, ?_, g2.trans hsp, g3⟩
  · unfold encL
    rw [encP_app]
    have a1 := num_numL 1 (((Pt.spN l.path).length - 1 : Nat) : Int) (numL 1 l.ty ++ (numL 2 l.mode ++ (numL 8 l.stamp ++ (numL 1 ((Pt.spN l.path).getD ((Pt.spN l.path).length - 1) ByteArray.empty).size ++ (numsS ((Pt.spN l.path).getD ((Pt.spN l.path).length - 1) ByteArray.empty) ++ (encB l.ty l.data l.target ++ r)))))) (by omega) (c1 (by omega))
    have hde : (((Pt.spN l.path).length - 1 : Nat) : Int) ≤ a.deep := by
      have : a.deep = deepB ns0.length d0 := by
        unfold Pc.deep deepB
        rw [ha, ← hd]
        by_cases h9 : a.ty = 2
        · rw [if_pos h9, if_pos (by rw [h9]; rfl)]
        · rw [if_neg h9, if_neg (by rw [beq_eq_false_iff_ne.2 h9]; decide)]
      rw [this]
      omega
    refine pl_go a1 (by omega) ⟨by omega, hde⟩ ?_
    rw [Int.toNat_natCast, ha]
    exact g1
  · unfold leafOf
    rw [g2, hsp, q1, g3, g4, g5, g6, g7]
theorem encL_pos (l : Lf) : 1 ≤ (encL l).length := by
  unfold encL encP
  simp only [List.length_append, numL_length]
  omega
/-- The pieces are read as they were laid. -/
theorem pieces_enc : ∀ (es : List Lf) (ns0 : List ByteArray) (d0 : Bool) (laid x : List Int), goL ns0 d0 laid es = .ok x → (∀ l ∈ es, Lok l) →
    ∃ tl, x = laid ++ tl ∧ es.length ≤ tl.length ∧ ∀ (a : Pc) (acc : List Pc) (f : Nat) (r : List Int), a.names = ns0 → (a.ty == 2) = d0 → es.length ≤ f → ∃ ps, piecesL (f + 1) a acc (tl ++ (numL 1 255 ++ r)) = .ok (acc ++ ps, r) ∧ ps.map leafOf = es
  | [], ns0, d0, laid, x, h, hl => by
    rw [goL] at h
    injection h with h
    refine ⟨[], by rw [List.append_nil]; exact h.symm, Nat.le_refl _, fun a acc f r _ _ _ => ⟨[], ?_, rfl⟩⟩
    rw [List.nil_append, List.append_nil]
    exact pl_end (num_numL 1 255 r (by decide) (by decide))
  | l :: es, ns0, d0, laid, x, h, hl => by
    rw [goL] at h
    split at h
    · rename_i ho
      obtain ⟨tl, g1, g2, g3⟩ := pieces_enc es (Pt.spN l.path) (l.ty == 2) (laid ++ encL l) x h (fun y hy => hl y (List.mem_cons_of_mem _ hy))
      refine ⟨encL l ++ tl, by rw [g1, List.append_assoc], by rw [List.length_append, List.length_cons]; have := encL_pos l; omega, ?_⟩
      intro a acc f r ha hd hf
      obtain ⟨p, k1, k2, k3, k4⟩ := leaf_enc a ns0 d0 l ho (hl l List.mem_cons_self) ha hd f acc (tl ++ (numL 1 255 ++ r))
      rw [List.length_cons] at hf
      obtain ⟨f, rfl⟩ : ∃ f', f = f' + 1 := ⟨f - 1, by omega⟩
      obtain ⟨ps, j1, j2⟩ := g3 p (acc ++ [p]) f r k3 (by rw [k4]) (by omega)
      refine ⟨p :: ps, ?_, by rw [List.map_cons, k2, j2]⟩
      rw [List.append_assoc, k1, j1, List.append_assoc]
      rfl
    · cases h

theorem byt_app {a b : List Int} (h1 : Byt a) (h2 : Byt b) : Byt (a ++ b) := fun x hx => by
  rcases List.mem_append.1 hx with h | h
  · exact h1 x h
  · exact h2 x h
theorem encR_byt {zs : List Int} (h : Byt zs) (s : Sr) : Byt (encR zs s) := by
  unfold encR
  refine byt_app (byt_app (numL_byt _ _) (numL_byt _ _)) ?_
  split
  · exact fun x hx => absurd hx List.not_mem_nil
  · exact fun x hx => h x (List.mem_of_mem_drop (List.mem_of_mem_take hx))
theorem encD_byt {zs : List Int} (h : Byt zs) : Byt (encD zs) := by
  unfold encD
  refine byt_app (numL_byt _ _) ?_
  intro x hx
  obtain ⟨s, _, h2⟩ := List.mem_flatMap.1 hx
  exact encR_byt h s x h2
theorem encL_byt {l : Lf} (h : Byt l.data) : Byt (encL l) := by
  unfold encL encP encB
  refine byt_app (byt_app (byt_app (byt_app (numL_byt _ _) (numL_byt _ _)) (byt_app (numL_byt _ _) (numL_byt _ _))) (byt_app (numL_byt _ _) (numsS_byt _))) ?_
  split
  · exact encD_byt h
  · split
    · exact byt_app (numL_byt _ _) (numsS_byt _)
    · exact fun x hx => absurd hx List.not_mem_nil
theorem goL_byt : ∀ (es : List Lf) (ns0 : List ByteArray) (d0 : Bool) (laid x : List Int), goL ns0 d0 laid es = .ok x → (∀ l ∈ es, Lok l) → Byt laid → Byt x
  | [], ns0, d0, laid, x, h, hl, hb => by
    rw [goL] at h
    injection h with h
    rw [← h]; exact hb
  | l :: es, ns0, d0, laid, x, h, hl, hb => by
    rw [goL] at h
    split at h
    · exact goL_byt es _ _ _ x h (fun y hy => hl y (List.mem_cons_of_mem _ hy)) (byt_app hb (encL_byt (hl l List.mem_cons_self).byt))
    · cases h
theorem headW_byt (l : Lf) : Byt (headW l) := by
  unfold headW
  refine byt_app (byt_app (byt_app ?_ (numL_byt _ _)) (numL_byt _ _)) (numL_byt _ _)
  intro x hx
  simp only [List.mem_cons, List.not_mem_nil, or_false] at hx
  omega

theorem openR_of (bs r r2 : List Int) (l : List Pc) (s : Int) (h1 : piecesR bs = .ok (l, r)) (h2 : numR 4 r = .ok (s, r2)) (h3 : s = ((sumL (nats (bs.take (bs.length - r.length))) : Nat) : Int)) (h4 : r2 = []) : openR bs = .ok l := by
  unfold openR
  rw [h1]
  simp only
  rw [h2]
  simp only
  rw [if_pos h3, if_pos h4]
theorem piecesR_of (bs r : List Int) (ms : Int × Int) (h1 : bs.take 5 = [80, 82, 67, 76, 1]) (h2 : modeR (bs.drop 5) = .ok (ms, r)) : piecesR bs = piecesL (r.length + 1) (rootP ms.1 ms.2) [rootP ms.1 ms.2] r := by
  unfold piecesR
  rw [if_pos h1, h2]
/-- A tree that Pack lays is what open reads. -/
theorem pack_open (es : List Lf) (row : List Int) (h : packM es = .ok row) (hl : ∀ l ∈ es, Lok l) : Byt row ∧ ∃ ps, openR row = .ok ps ∧ ps.map leafOf = es := by
  cases es with
  | nil => cases h
  | cons l r =>
    rw [packM] at h
    split at h
    · rename_i hr
      split at h
      · rename_i hb
        split at h
        · cases h
        · rename_i x hx
          injection h with h
          have hr' : ∀ y ∈ r, Lok y := fun y hy => hl y (List.mem_cons_of_mem _ hy)
          have hbx := goL_byt r _ _ _ x hx hr' (headW_byt l)
          have hbs : Byt (x ++ numL 1 255) := byt_app hbx (numL_byt _ _)
          obtain ⟨tl, g1, g2, g3⟩ := pieces_enc r [] true (headW l) x hx hr'
          have hf := bod_facts hb
          have h0 := hl l List.mem_cons_self
          unfold rootB at hr
          rw [Bool.and_eq_true] at hr
          have hp := of_decide_eq_true hr.1
          have ht := of_decide_eq_true hr.2
          have hsum : ((sumL (nats (x ++ numL 1 255)) : Nat) : Int) < 256 ^ 4 := by
            rw [p4]
            have := sumL_lt hbs
            omega
          have hrow : row = [80, 82, 67, 76, 1] ++ (numL 2 l.mode ++ (numL 8 l.stamp ++ (tl ++ (numL 1 255 ++ numL 4 ((sumL (nats (x ++ numL 1 255)) : Nat) : Int))))) := by
            rw [← h]
            unfold sealW
            conv => lhs; lhs; lhs; rw [g1]
            unfold headW
            rw [show numL 1 1 = [1] from rfl]
            simp only [List.append_assoc, List.cons_append, List.nil_append]
          obtain ⟨ps, k1, k2⟩ := g3 (rootP l.mode l.stamp) [rootP l.mode l.stamp] (tl ++ (numL 1 255 ++ numL 4 ((sumL (nats (x ++ numL 1 255)) : Nat) : Int))).length (numL 4 ((sumL (nats (x ++ numL 1 255)) : Nat) : Int)) rfl rfl (by rw [List.length_append]; omega)
          refine ⟨by rw [← h]; exact byt_app hbs (numL_byt _ _), rootP l.mode l.stamp :: ps, ?_, ?_⟩
          · refine openR_of row (numL 4 ((sumL (nats (x ++ numL 1 255)) : Nat) : Int)) [] _ ((sumL (nats (x ++ numL 1 255)) : Nat) : Int) ?_ ?_ ?_ rfl
            · rw [piecesR_of row _ (l.mode, l.stamp) (by rw [hrow]; rfl) (by rw [hrow]; exact modeR_enc l.mode l.stamp _ hf.2.2.1 hf.2.2.2.1 h0.s0 h0.s1), k1]
              rfl
            · have := num_numL 4 ((sumL (nats (x ++ numL 1 255)) : Nat) : Int) [] (by omega) hsum
              rw [List.append_nil] at this
              exact this
            · have : row.take (row.length - (numL 4 ((sumL (nats (x ++ numL 1 255)) : Nat) : Int)).length) = x ++ numL 1 255 := by
                rw [← h]
                unfold sealW
                rw [List.length_append, Nat.add_sub_cancel, List.take_left' rfl]
              rw [this]
          · rw [List.map_cons, k2]
            congr 1
            unfold leafOf rootP
            have e1 : l.path = Pt.tg [] := by
              rw [Pt.tg_nil]
              exact Pt.toList_inj (by rw [hp, Pt.toList_data, Pt.data_byteOf])
            have e2 : l.data = [] := List.eq_nil_of_length_eq_zero (hf.2.2.2.2.2.1 (by omega))
            have e3 : l.target = ⟨#[]⟩ := by
              unfold bodB at hb
              rw [Bool.and_eq_true] at hb
              have h9 := hb.2
              unfold tarB at h9
              rw [if_neg (by omega)] at h9
              exact (size0 (of_decide_eq_true h9)).symm
            obtain ⟨p, t, m, s, d, g⟩ := l
            simp only at e1 e2 e3 ht
            rw [e1, e2, e3, ht]
            rfl
      · cases h
    · cases h
theorem lflat_len (es : List Le) : (flatL es).length = es.length * 6 := by
  induction es with
  | nil => rfl
  | cons x r ih =>
    rw [show flatL (x :: r) = x.cells ++ flatL r from rfl, List.length_append, ih]
    simp [Le.cells]
    omega
theorem lflat_cell (es : List Le) (i j : Nat) (hi : i < es.length) (hj : j < 6) : (flatL es)[i * 6 + j]? = es[i].cells[j]? := by
  induction es generalizing i with
  | nil => simp at hi
  | cons x r ih =>
    rw [show flatL (x :: r) = x.cells ++ flatL r from rfl]
    have hl : x.cells.length = 6 := rfl
    cases i with
    | zero => rw [List.getElem?_append_left (by omega)]; simp
    | succ i =>
      rw [List.getElem?_append_right (by omega), hl, show (i + 1) * 6 + j - 6 = i * 6 + j by omega, ih i (by simpa using hi)]
      simp
theorem lno_any (x : Int) (w : World) : Calls Tryz.prog 8 #[.int .i64 x] w fun e w' => e = .returned (.int .i64 x) ∧ w' = w := by
  go_enter Tryz.func8, Tryz.ntmps8
  go_wp2
  go_ret
  exact ⟨rfl, rfl⟩

set_option maxHeartbeats 2000000 in
set_option maxRecDepth 100000 in
theorem lleaf_same (p : ByteArray) (t m s : Int) (xs : List Int) (tg : ByteArray) (a a' : Option Addr) (n c c' : Nat) (w : World) (h : Reads w a n xs) (h' : Reads w a' n xs) :
    Calls Tryz.prog 25 #[.agg #[.string p, .int .i64 t, .int .i64 m, .int .u64 s, .slice a n c, .string tg], .agg #[.string p, .int .i64 t, .int .i64 m, .int .u64 s, .slice a' n c', .string tg]] w fun e w' => e = .returned (.bool true) ∧ Below w.heap.size w w' := by
  have b1 := below_alloc w (.cells #[.string p, .int .i64 t, .int .i64 m, .int .u64 s, .slice a n c, .string tg] 38)
  have b2 := below_alloc (w.alloc (.cells #[.string p, .int .i64 t, .int .i64 m, .int .u64 s, .slice a n c, .string tg] 38)) (.cells #[.string p, .int .i64 t, .int .i64 m, .int .u64 s, .slice a' n c', .string tg] 38)
  have HA := hide ((h.below b1).below b2)
  have HA2 := hide ((h'.below b1).below b2)
  have HB := hide (bel_join b1 b2)
  clear b1 b2 h h'
  go_enter Tryz.func25, Tryz.ntmps25
  go_wp2_with (first
    | (go_at_call 9; refine (same_eq a a' n c c' xs _ HA.out HA2.out).mono ?_; rintro e w2 ⟨rfl, rfl⟩))
  go_ret
  exact ⟨rfl, HB.out⟩
/-- A tree that is looked at. -/
structure VwL (w : World) (v : Value) (es : List Le) : Prop where
  shape : ∃ a c, v = .slice a es.length c ∧ ∀ k, k < es.length → ∃ g off, a = some ⟨g, off, none⟩ ∧ g < w.heap.size ∧ ∀ j, j < 6 → w.cell? ⟨g, off + k * 6 + j, none⟩ = es[k]?.bind (fun x => x.cells[j]?)
  most : es.length ≤ 9223372036854775807
  data : ∀ x ∈ es, ∃ a c, x.d = .slice a x.l.data.length c ∧ Reads w a x.l.data.length x.l.data
theorem VwL.below {w u : World} {v : Value} {es : List Le} (h : VwL w v es) (hb : Below w.heap.size w u) : VwL u v es := by
  refine ⟨?_, h.most, fun x hx => ?_⟩
  · obtain ⟨a, c, h1, h2⟩ := h.shape
    refine ⟨a, c, h1, fun k hk => ?_⟩
    obtain ⟨g, off, g1, g2, g3⟩ := h2 k hk
    exact ⟨g, off, g1, Nat.lt_of_lt_of_le g2 hb.size, fun j hj => by rw [hb.cell g2]; exact g3 j hj⟩
  · obtain ⟨a, c, h1, h2⟩ := h.data x hx
    exact ⟨a, c, h1, h2.below hb⟩
theorem LsOn.vw {w : World} {B : Nat} {v : Value} {es : List Le} (h : LsOn w B v es) (hb : ∀ x ∈ es, Byt x.l.data) : VwL w v es := by
  refine ⟨?_, ?_, fun x hx => own_any (h.oks x hx) (hb x hx)⟩
  · rcases h.own.2 with ⟨hv, h0⟩ | ⟨g, cap, cur, hv, _, hg, _⟩
    · exact ⟨none, 0, by rw [hv, h0], fun k hk => by omega⟩
    · refine ⟨_, _, hv, fun k hk => ⟨g, 0, rfl, (Array.getElem?_eq_some_iff.1 hg).1, fun j hj => ?_⟩⟩
      have hw := h.own
      rw [hv] at hw
      rw [Nat.zero_add, World.ownsRow.cellAt hw (k * 6 + j) (by omega), lflat_cell es k j hk hj, List.getElem?_eq_getElem hk]
      rfl
  · rcases h.own.2 with ⟨hv, h0⟩ | ⟨g, cap, cur, hv, _, hg, h1, h2, _⟩
    · omega
    · unfold maxLen at h2; omega
theorem RdL.vw {w : World} {B : Nat} {v : Value} {es : List Le} (h : RdL w B v es) (hB : B ≤ w.heap.size) : VwL w v es := by
  obtain ⟨a, c, h1, h2, h3, h4⟩ := h.shape
  refine ⟨⟨a, c, h1, fun k hk => ?_⟩, by omega, fun x hx => ?_⟩
  · obtain ⟨b, off, g1, g2, g3⟩ := h4 (by omega)
    exact ⟨b, off, g1, Nat.lt_of_lt_of_le g2 hB, g3 k hk⟩
  · obtain ⟨da, dn, dc, g1, g2, _⟩ := h.data x hx
    have : x.l.data.length = dn := g2.1
    rw [this]
    exact ⟨da, dc, g1, g2⟩

set_option maxHeartbeats 4000000 in
set_option maxRecDepth 100000 in
theorem alike_vw (v1 v2 : Value) (es fs : List Le) (w : World) (h1 : VwL w v1 es) (h2 : VwL w v2 fs) (hl : es.map Le.l = fs.map Le.l) :
    Calls Tryz.prog 11 #[v1, v2] w fun e w' => e = .returned (.bool true) ∧ Below w.heap.size w w' := by
  obtain ⟨a1, c1, rfl, s1⟩ := h1.shape
  obtain ⟨a2, c2, rfl, s2⟩ := h2.shape
  have hle : fs.length = es.length := by have h9 := congrArg List.length hl; simpa using h9.symm
  obtain ⟨m, hm⟩ : ∃ m, es.length = m := ⟨_, rfl⟩
  rw [hle, hm] at s2 ⊢
  rw [hm] at s1
  have hmn : m ≤ 9223372036854775807 := by rw [← hm]; exact h1.most
  have H1 := hide h1.data
  have H2 := hide h2.data
  have HLM := hide hl
  have HS1 := hide s1
  have HS2 := hide s2
  have HM := hide hm
  have HM2 : Hid (fs.length = m) := hle.trans hm
  clear h1 h2 hl s1 s2 hle hm
  go_enter Tryz.func11, Tryz.ntmps11
  go_wp2_with fail
  go_loopw [5] (fun i wr => ∃ k : Nat, k ≤ m ∧ i = .int .i64 (k : Int) ∧ Hid (Below w.heap.size w wr)) (fun i _ => m - (intOf i).toNat)
  case atStart => exact ⟨0, Nat.zero_le _, rfl, Below.refl _ _⟩
  case round =>
    obtain ⟨k, hk, rfl, HBR⟩ := hrel
    by_cases hlt : k < m
    · have i1 : (k : Int) < (m : Int) := by omega
      have wk : IntKind.i64.wrap ((k : Int) + 1) = (k : Int) + 1 := by rw [IntKind.wrap_i64]; omega
      obtain ⟨g1, o1, e1, hg1, q1⟩ := HS1.out k hlt
      obtain ⟨g2, o2, e2, hg2, q2⟩ := HS2.out k hlt
      subst e1
      subst e2
      have hk1 : k < es.length := by have := HM.out; omega
      have hk2 : k < fs.length := by have := HM2.out; omega
      obtain ⟨x, hx⟩ : ∃ x, es[k] = x := ⟨_, rfl⟩
      obtain ⟨y, hy⟩ : ∃ y, fs[k] = y := ⟨_, rfl⟩
      have hxy : x.l = y.l := by
        have h9 := congrArg (fun l => l[k]?) HLM.out
        simp only [List.getElem?_map, List.getElem?_eq_getElem hk1, List.getElem?_eq_getElem hk2, Option.map_some] at h9
        rw [hx, hy] at h9
        exact Option.some.inj h9
      have dx := H1.out x (by rw [← hx]; exact List.getElem_mem hk1)
      have dy := H2.out y (by rw [← hy]; exact List.getElem_mem hk2)
      rw [List.getElem?_eq_getElem hk1, hx] at q1
      rw [List.getElem?_eq_getElem hk2, hy] at q2
      obtain ⟨⟨p, t, m9, s, xs, tg⟩, d⟩ := x
      obtain ⟨ly, d2⟩ := y
      simp only at hxy
      subst hxy
      obtain ⟨a, c, hd1, ra⟩ := dx
      obtain ⟨a', c', hd2, rb⟩ := dy
      simp only at hd1 hd2
      subst hd1
      subst hd2
      obtain ⟨n, hn⟩ : ∃ n, xs.length = n := ⟨_, rfl⟩
      simp only at ra rb q1 q2
      rw [hn] at ra rb q1 q2
      have hgr1 : g1 < wr.heap.size := Nat.lt_of_lt_of_le hg1 HBR.out.size
      have hgr2 : g2 < wr.heap.size := Nat.lt_of_lt_of_le hg2 HBR.out.size
      have x0 : wr.cell? ⟨g1, o1 + k * 6, none⟩ = some (.string p) := by rw [HBR.out.cell hg1]; exact q1 0 (by omega)
      have x1 : wr.cell? ⟨g1, o1 + k * 6 + 1, none⟩ = some (.int .i64 t) := by rw [HBR.out.cell hg1]; exact q1 1 (by omega)
      have x2 : wr.cell? ⟨g1, o1 + k * 6 + 2, none⟩ = some (.int .i64 m9) := by rw [HBR.out.cell hg1]; exact q1 2 (by omega)
      have x3 : wr.cell? ⟨g1, o1 + k * 6 + 3, none⟩ = some (.int .u64 s) := by rw [HBR.out.cell hg1]; exact q1 3 (by omega)
      have x4 : wr.cell? ⟨g1, o1 + k * 6 + 4, none⟩ = some (.slice a n c) := by rw [HBR.out.cell hg1]; exact q1 4 (by omega)
      have x5 : wr.cell? ⟨g1, o1 + k * 6 + 5, none⟩ = some (.string tg) := by rw [HBR.out.cell hg1]; exact q1 5 (by omega)
      have z0 : wr.cell? ⟨g2, o2 + k * 6, none⟩ = some (.string p) := by rw [HBR.out.cell hg2]; exact q2 0 (by omega)
      have z1 : wr.cell? ⟨g2, o2 + k * 6 + 1, none⟩ = some (.int .i64 t) := by rw [HBR.out.cell hg2]; exact q2 1 (by omega)
      have z2 : wr.cell? ⟨g2, o2 + k * 6 + 2, none⟩ = some (.int .i64 m9) := by rw [HBR.out.cell hg2]; exact q2 2 (by omega)
      have z3 : wr.cell? ⟨g2, o2 + k * 6 + 3, none⟩ = some (.int .u64 s) := by rw [HBR.out.cell hg2]; exact q2 3 (by omega)
      have z4 : wr.cell? ⟨g2, o2 + k * 6 + 4, none⟩ = some (.slice a' n c') := by rw [HBR.out.cell hg2]; exact q2 4 (by omega)
      have z5 : wr.cell? ⟨g2, o2 + k * 6 + 5, none⟩ = some (.string tg) := by rw [HBR.out.cell hg2]; exact q2 5 (by omega)
      have HRA := hide ((ra.below HBR.out).below (Below.refl _ wr).drew)
      have HRB := hide ((rb.below HBR.out).below (Below.refl _ wr).drew)
      clear q1 q2 hx hy hk1 hk2 hn ra rb
      go_upto_region 6 with fail
      refine wp_region_held_drew (S := (fun xx : World => xx.cell? ⟨g1, o1 + k * 6, none⟩ = some (.string p) ∧ xx.cell? ⟨g1, o1 + k * 6 + 1, none⟩ = some (.int .i64 t) ∧ xx.cell? ⟨g1, o1 + k * 6 + 2, none⟩ = some (.int .i64 m9) ∧ xx.cell? ⟨g1, o1 + k * 6 + 3, none⟩ = some (.int .u64 s) ∧ xx.cell? ⟨g1, o1 + k * 6 + 4, none⟩ = some (.slice a n c) ∧ xx.cell? ⟨g1, o1 + k * 6 + 5, none⟩ = some (.string tg) ∧ xx.cell? ⟨g2, o2 + k * 6, none⟩ = some (.string p) ∧ xx.cell? ⟨g2, o2 + k * 6 + 1, none⟩ = some (.int .i64 t) ∧ xx.cell? ⟨g2, o2 + k * 6 + 2, none⟩ = some (.int .i64 m9) ∧ xx.cell? ⟨g2, o2 + k * 6 + 3, none⟩ = some (.int .u64 s) ∧ xx.cell? ⟨g2, o2 + k * 6 + 4, none⟩ = some (.slice a' n c') ∧ xx.cell? ⟨g2, o2 + k * 6 + 5, none⟩ = some (.string tg))) (by kernel_rfl) (⟨x0, x1, x2, x3, x4, x5, z0, z1, z2, z3, z4, z5⟩) (fun hHeld => ?_)
      refine wpAnyH_take (i := 0) (oi := { dst := some 17, op := Op.move (Operand.tmp 0), type := 22, pos := "law.go:27", after := #[], guard := none }) (v := ?v0z) rfl (by kernel_rfl) (by kernel_rfl) (by kernel_rfl) (fun _ _ _ h => h) (Or.inl ⟨by rfl, ?y0z⟩) (by assumption) ?r0z
      case y0z => (intro x hx; (try dsimp only at hx); go_simp; try with_reducible rfl)
      try simp only [Act.put, List.setIfInBounds_toArray, List.set_cons_zero, List.set_cons_succ]
      refine wpAnyH_take (i := 1) (oi := { dst := some 18, op := Op.move (Operand.tmp 5), type := 3, pos := "law.go:27", after := #[], guard := none }) (v := ?v1z) rfl (by kernel_rfl) (by kernel_rfl) (by kernel_rfl) (fun _ _ _ h => h) (Or.inl ⟨by rfl, ?y1z⟩) (by assumption) ?r1z
      case y1z => (intro x hx; (try dsimp only at hx); go_simp; try with_reducible rfl)
      try simp only [Act.put, List.setIfInBounds_toArray, List.set_cons_zero, List.set_cons_succ]
      refine wpAnyH_take (i := 2) (oi := { dst := some 19, op := Op.indexAddr 22 (Operand.tmp 17) (Operand.tmp 18), type := 0, pos := "law.go:27", after := #[{ on := 0, ground := Ground.data }, { on := 1, ground := Ground.data }], guard := none }) (v := ?v2z) rfl (by kernel_rfl) (by kernel_rfl) (by kernel_rfl) (fun _ _ _ h => h) (Or.inl ⟨by rfl, ?y2z⟩) (by assumption) ?r2z
      case y2z => (intro x hx; (try dsimp only at hx); go_simp; try with_reducible rfl)
      try simp only [Act.put, List.setIfInBounds_toArray, List.set_cons_zero, List.set_cons_succ]
      refine wpAnyH_take (i := 3) (oi := { dst := some 20, op := Op.load 38 (Operand.tmp 19), type := 38, pos := "law.go:27", after := #[{ on := 2, ground := Ground.data }], guard := none }) (v := ?v3z) rfl (by kernel_rfl) (by kernel_rfl) (by kernel_rfl) (fun _ _ _ h => h) (Or.inl ⟨by rfl, ?y3z⟩) (by assumption) ?r3z
      case y3z => (intro x hx; (try dsimp only at hx); go_simp; try with_reducible rfl)
      try simp only [Act.put, List.setIfInBounds_toArray, List.set_cons_zero, List.set_cons_succ]
      refine wpAnyH_take (i := 4) (oi := { dst := some 21, op := Op.move (Operand.tmp 1), type := 22, pos := "law.go:27", after := #[], guard := none }) (v := ?v4z) rfl (by kernel_rfl) (by kernel_rfl) (by kernel_rfl) (fun _ _ _ h => h) (Or.inl ⟨by rfl, ?y4z⟩) (by assumption) ?r4z
      case y4z => (intro x hx; (try dsimp only at hx); go_simp; try with_reducible rfl)
      try simp only [Act.put, List.setIfInBounds_toArray, List.set_cons_zero, List.set_cons_succ]
      refine wpAnyH_take (i := 5) (oi := { dst := some 22, op := Op.move (Operand.tmp 5), type := 3, pos := "law.go:27", after := #[], guard := none }) (v := ?v5z) rfl (by kernel_rfl) (by kernel_rfl) (by kernel_rfl) (fun _ _ _ h => h) (Or.inl ⟨by rfl, ?y5z⟩) (by assumption) ?r5z
      case y5z => (intro x hx; (try dsimp only at hx); go_simp; try with_reducible rfl)
      try simp only [Act.put, List.setIfInBounds_toArray, List.set_cons_zero, List.set_cons_succ]
      refine wpAnyH_take (i := 6) (oi := { dst := some 23, op := Op.indexAddr 22 (Operand.tmp 21) (Operand.tmp 22), type := 0, pos := "law.go:27", after := #[{ on := 4, ground := Ground.data }, { on := 5, ground := Ground.data }], guard := none }) (v := ?v6z) rfl (by kernel_rfl) (by kernel_rfl) (by kernel_rfl) (fun _ _ _ h => h) (Or.inl ⟨by rfl, ?y6z⟩) (by assumption) ?r6z
      case y6z => (intro x hx; (try dsimp only at hx); go_simp; try with_reducible rfl)
      try simp only [Act.put, List.setIfInBounds_toArray, List.set_cons_zero, List.set_cons_succ]
      refine wpAnyH_take (i := 7) (oi := { dst := some 24, op := Op.load 38 (Operand.tmp 23), type := 38, pos := "law.go:27", after := #[{ on := 6, ground := Ground.data }], guard := none }) (v := ?v7z) rfl (by kernel_rfl) (by kernel_rfl) (by kernel_rfl) (fun _ _ _ h => h) (Or.inl ⟨by rfl, ?y7z⟩) (by assumption) ?r7z
      case y7z => (intro x hx; (try dsimp only at hx); go_simp; try with_reducible rfl)
      try simp only [Act.put, List.setIfInBounds_toArray, List.set_cons_zero, List.set_cons_succ]
      refine wpAnyH_ready (rs := [8]) (by kernel_rfl) (by simp) ?_
      refine AllReadyH.cons (o := { dst := some 25, op := Op.call { callee := Callee.value (Operand.func 25), args := #[Operand.tmp 20, Operand.tmp 24], argTypes := #[38, 38] }, type := 4, pos := "law.go:27", after := #[{ on := 3, ground := Ground.data }, { on := 7, ground := Ground.data }], guard := none }) rfl (fun K hK => ?_) AllReadyH.nil
      go_simp
      go_at_call 25
      refine (lleaf_same p t m9 s xs tg a a' n c c' _ HRA.out HRB.out).mono ?_
      rintro e wz ⟨rfl, bz⟩
      have hSnew : wz.cell? ⟨g1, o1 + k * 6, none⟩ = some (.string p) ∧ wz.cell? ⟨g1, o1 + k * 6 + 1, none⟩ = some (.int .i64 t) ∧ wz.cell? ⟨g1, o1 + k * 6 + 2, none⟩ = some (.int .i64 m9) ∧ wz.cell? ⟨g1, o1 + k * 6 + 3, none⟩ = some (.int .u64 s) ∧ wz.cell? ⟨g1, o1 + k * 6 + 4, none⟩ = some (.slice a n c) ∧ wz.cell? ⟨g1, o1 + k * 6 + 5, none⟩ = some (.string tg) ∧ wz.cell? ⟨g2, o2 + k * 6, none⟩ = some (.string p) ∧ wz.cell? ⟨g2, o2 + k * 6 + 1, none⟩ = some (.int .i64 t) ∧ wz.cell? ⟨g2, o2 + k * 6 + 2, none⟩ = some (.int .i64 m9) ∧ wz.cell? ⟨g2, o2 + k * 6 + 3, none⟩ = some (.int .u64 s) ∧ wz.cell? ⟨g2, o2 + k * 6 + 4, none⟩ = some (.slice a' n c') ∧ wz.cell? ⟨g2, o2 + k * 6 + 5, none⟩ = some (.string tg) := ⟨by rw [bz.cell (show g1 < _ from hgr1)]; exact hHeld.1, by rw [bz.cell (show g1 < _ from hgr1)]; exact hHeld.2.1, by rw [bz.cell (show g1 < _ from hgr1)]; exact hHeld.2.2.1, by rw [bz.cell (show g1 < _ from hgr1)]; exact hHeld.2.2.2.1, by rw [bz.cell (show g1 < _ from hgr1)]; exact hHeld.2.2.2.2.1, by rw [bz.cell (show g1 < _ from hgr1)]; exact hHeld.2.2.2.2.2.1, by rw [bz.cell (show g2 < _ from hgr2)]; exact hHeld.2.2.2.2.2.2.1, by rw [bz.cell (show g2 < _ from hgr2)]; exact hHeld.2.2.2.2.2.2.2.1, by rw [bz.cell (show g2 < _ from hgr2)]; exact hHeld.2.2.2.2.2.2.2.2.1, by rw [bz.cell (show g2 < _ from hgr2)]; exact hHeld.2.2.2.2.2.2.2.2.2.1, by rw [bz.cell (show g2 < _ from hgr2)]; exact hHeld.2.2.2.2.2.2.2.2.2.2.1, by rw [bz.cell (show g2 < _ from hgr2)]; exact hHeld.2.2.2.2.2.2.2.2.2.2.2⟩
      have HBZ := hide (bel_join HBR.out.drew bz)
      clear bz
      go_wp2_with fail
      refine hK.out _ _ hSnew (fun hHeld8 => ?_)
      clear hK K hSnew
      clear hHeld
      have hHeld := hHeld8
      clear hHeld8
      try simp only [Act.put, List.setIfInBounds_toArray, List.set_cons_zero, List.set_cons_succ]
      refine wpAnyH_take (i := 9) (oi := { dst := some 26, op := Op.unOp UnOp.not 4 (Operand.tmp 25), type := 4, pos := "law.go:27", after := #[{ on := 8, ground := Ground.data }], guard := none }) (v := ?v9z) rfl (by kernel_rfl) (by kernel_rfl) (by kernel_rfl) (fun _ _ _ h => h) (Or.inl ⟨by rfl, ?y9z⟩) (by assumption) ?r9z
      case y9z => (intro x hx; (try dsimp only at hx); go_simp; try with_reducible rfl)
      try simp only [Act.put, List.setIfInBounds_toArray, List.set_cons_zero, List.set_cons_succ]
      refine wpAnyH_done (by kernel_rfl) ?_ _
      go_wp2_with fail
      go_roundw
      case rel => exact ⟨k + 1, by omega, by go_num, HBZ⟩
      case measure => simp [intOf]; omega
    · obtain rfl : k = m := by omega
      have i1 : ¬ (k : Int) < (k : Int) := by omega
      go_wp2
      go_ret
      exact ⟨rfl, HBR.out⟩
def le4 (n : Nat) : List Int := [((n % 256 : Nat) : Int), ((n / 256 % 256 : Nat) : Int), ((n / 65536 % 256 : Nat) : Int), ((n / 16777216 % 256 : Nat) : Int)]
def sealL (bs : List Int) : List Int := bs ++ le4 (sumL (nats bs))
theorem le4_num (n : Nat) : numL 4 (n : Int) = le4 n := by
  show (((([0, 0, 0, 0] : List Int).set (0 + 0) ((n : Int) / 256 ^ 0 % 256)).set (0 + 1) ((n : Int) / 256 ^ 1 % 256)).set (0 + 2) ((n : Int) / 256 ^ 2 % 256)).set (0 + 3) ((n : Int) / 256 ^ 3 % 256) = _
  have e0 : (256 : Int) ^ 0 = 1 := by decide
  have e1 : (256 : Int) ^ 1 = 256 := by decide
  have e2 : (256 : Int) ^ 2 = 65536 := by decide
  have e3 : (256 : Int) ^ 3 = 16777216 := by decide
  rw [e0, e1, e2, e3]
  unfold le4
  simp only [List.set_cons_zero, List.set_cons_succ, Nat.zero_add, Int.ediv_one]
  simp only [Int.natCast_emod, Int.natCast_ediv]
  rfl
theorem reads_alloc (u : World) (zs : List Int) (hb : Byt zs) : Reads (u.alloc (.cells (zs.map (Value.int .u8)).toArray 5)) (some ⟨u.heap.size, 0, none⟩) zs.length zs := by
  refine ⟨rfl, hb, by simp, fun x hx i hi => ?_⟩
  cases hx
  rw [Pt.add_zero, Nat.zero_add]
  have h9 := heap_alloc_new u (.cells (zs.map (Value.int .u8)).toArray 5)
  simp only [World.cell?, h9]
  simp [List.getD, List.getElem?_eq_getElem hi]
theorem le4_cells (u : World) (s : Nat) : Reads (u.alloc (.cells #[.int .u8 ((s % 256 : Nat) : Int), .int .u8 ((s / 256 % 256 : Nat) : Int), .int .u8 ((s / 65536 % 256 : Nat) : Int), .int .u8 ((s / 16777216 % 256 : Nat) : Int)] 5)) (some ⟨u.heap.size, 0, none⟩) 4 (le4 s) := by
  exact reads_alloc u (le4 s) (by intro x hx; simp [le4] at hx; omega)
theorem own_nought (u : World) (N : Nat) (h : u.heap.size = N) : (u.alloc (.cells #[] 5)).ownsRow N 5 1 (.slice (some ⟨N, 0, none⟩) 0 0) 0 (([] : List Int).map (Value.int .u8)) := by
  subst h
  exact World.ownsRow_made u #[] 0 (Nat.le_refl _) (Nat.zero_le _) rfl

set_option maxHeartbeats 2000000 in
set_option maxRecDepth 100000 in
theorem sealed_any (a : Option Addr) (n c : Nat) (bs : List Int) (w : World) (hr : Reads w a n bs) (hn : n ≤ 100000000000000) (ht : Tab w) :
    Calls Tryz.prog 14 #[.slice a n c] w fun e w' => ∃ g cc, e = .returned (.slice (some ⟨g, 0, none⟩) (n + 4) cc) ∧ Own w' w.heap.size g (n + 4) cc (sealL bs) ∧ Below w.heap.size w w' := by
  obtain ⟨s, hs⟩ : ∃ s, sumL (nats bs) = s := ⟨_, rfl⟩
  have HS : Hid (sumL (nats bs) = s) := hs
  have hs4 : s < 4294967296 := by rw [← hs]; exact sumL_lt hr.2.1
  have w0 : IntKind.u8.wrap (s : Int) = ((s % 256 : Nat) : Int) := by rw [IntKind.wrap_u8]; omega
  have w1 : IntKind.u8.wrap ((s : Int) / 256) = ((s / 256 % 256 : Nat) : Int) := by rw [IntKind.wrap_u8]; omega
  have w2 : IntKind.u8.wrap ((s : Int) / 65536) = ((s / 65536 % 256 : Nat) : Int) := by rw [IntKind.wrap_u8]; omega
  have w3 : IntKind.u8.wrap ((s : Int) / 16777216) = ((s / 16777216 % 256 : Nat) : Int) := by rw [IntKind.wrap_u8]; omega
  have HR : Hid (Reads w a n bs) := hr
  have HT : Hid (Tab w) := ht
  have TA : Hid True := trivial
  clear hs hr ht
  go_enter Tryz.func14, Tryz.ntmps14
  go_wp2_with (first
    | (go_at_call 27; refine (sum_any _ _ _ bs _ (by omega) HR.out HT.out).mono ?_; rintro e t1 ⟨rfl, ht1⟩; rw [← ht1, HS.out]; clear ht1)
    | (at_builtin; have zz := TA; clear TA zz; refine wpList_append_reads rfl (.tmp 6) (.tmp 7) rfl w.heap.size (.slice (some ⟨w.heap.size, 0, none⟩) 0 0) 0 [] rfl (own_nought w w.heap.size rfl) a n c bs rfl (HR.out.below (below_alloc _ _)) (by omega) (by simp) ?_; intro v1 w1 own1 grow1; simp only [Nat.zero_add, List.nil_append] at own1
       have HB6 : Hid (Below w.heap.size w w1) := (below_alloc w _).grown grow1 (by simp) (fun q hq => ((own_nought w w.heap.size rfl).lt q hq).1)
       have HO6 : Hid (w1.ownsRow w.heap.size 5 1 v1 n (bs.map (Value.int .u8))) := own1
       have TB : Hid True := trivial
       clear own1 grow1)
    | (at_builtin; have zz := TB; clear TB zz; refine wpList_append_reads rfl (.tmp 8) (.tmp 20) rfl w.heap.size v1 n bs rfl (HO6.out.alloc _) _ 4 4 (le4 s) rfl (le4_cells w1 s) (by omega) (by have := HB6.out.size; simp; omega) ?_; intro v2 w2 own2 grow2; obtain ⟨g2, c2, rfl, hc21, hc22, hg21, hg22⟩ := own_shape own2 (by omega)
       have HB7 : Hid (Below w.heap.size w w2) := (HB6.out.alloc HB6.out.size _).grown grow2 (by have := HB6.out.size; simp; omega) (fun q hq => (HO6.out.lt q hq).1)
       have HO7 : Hid (Own w2 w.heap.size g2 (n + 4) c2 (bs ++ le4 s)) := own2
       clear own2 grow2 hc21 hc22 hg21 hg22))
  go_ret
  exact ⟨g2, c2, rfl, by unfold sealL; rw [HS.out]; exact HO7.out, HB7.out⟩
def h0 : Lf := ⟨⟨#[47]⟩, 2, 493, 0, [], ⟨#[]⟩⟩
def h1 : Lf := ⟨⟨#[47, 97]⟩, 1, 420, 5, [104, 105], ⟨#[]⟩⟩
def h2 : Lf := ⟨⟨#[47, 100]⟩, 2, 493, 0, [], ⟨#[]⟩⟩
def h3 : Lf := ⟨⟨#[47, 100, 47, 108]⟩, 3, 0, 0, [], ⟨#[46, 46, 47, 97]⟩⟩
def hdT : List Lf := [h0, h1, h2, h3]
def hdE (B : Nat) : List Le := [⟨h0, .slice none 0 0⟩, ⟨h1, .slice (some ⟨B, 0, none⟩) 2 2⟩, ⟨h2, .slice none 0 0⟩, ⟨h3, .slice none 0 0⟩]
def hdW : List Int := [80, 82, 67, 76, 1, 237, 1, 0, 0, 0, 0, 0, 0, 0, 0, 0, 1, 164, 1, 5, 0, 0, 0, 0, 0, 0, 0, 1, 97, 2, 0, 0, 0, 1, 2, 0, 0, 0, 104, 105, 0, 2, 237, 1, 0, 0, 0, 0, 0, 0, 0, 0, 1, 100, 1, 3, 0, 0, 0, 0, 0, 0, 0, 0, 0, 0, 1, 108, 4, 46, 46, 47, 97, 255]
theorem hdE_l (B : Nat) : (hdE B).map Le.l = hdT := rfl
theorem ok1 : okL [] true h1 = true := by
  unfold okL nmsB folB aheadB
  simp only [Pt.toList_data]
  decide +kernel
theorem ok2 : okL (Pt.spN h1.path) (h1.ty == 2) h2 = true := by
  unfold okL nmsB folB aheadB
  simp only [Pt.toList_data]
  decide +kernel
theorem ok3 : okL (Pt.spN h2.path) (h2.ty == 2) h3 = true := by
  unfold okL nmsB folB aheadB
  simp only [Pt.toList_data]
  decide +kernel
theorem hd_root : rootB h0 = true := by
  unfold rootB
  simp only [Pt.toList_data]
  decide +kernel
theorem hd_laid : headW h0 ++ encL h1 ++ encL h2 ++ encL h3 ++ numL 1 255 = hdW := by decide +kernel
theorem sealW_L (x : List Int) : sealW x = sealL (x ++ numL 1 255) := by unfold sealW sealL; rw [le4_num]
theorem hd_pack : packM hdT = .ok (sealL hdW) := by
  unfold hdT
  rw [packM, if_pos hd_root, if_pos (by decide +kernel), goL, if_pos ok1, goL, if_pos ok2, goL, if_pos ok3, goL]
  simp only
  rw [sealW_L, hd_laid]
theorem hdW_len : hdW.length = 74 := by decide +kernel
theorem hdW_byt : Byt hdW := by unfold Byt; decide +kernel
theorem sealL_len (x : List Int) : (sealL x).length = x.length + 4 := by unfold sealL; rw [List.length_append]; rfl
theorem hd_seal : (sealL hdW).length = 78 := by rw [sealL_len, hdW_len]
theorem hd_ok : ∀ l ∈ hdT, Lok l := by
  intro l hl
  simp only [hdT, List.mem_cons, List.not_mem_nil, or_false] at hl
  rcases hl with rfl | rfl | rfl | rfl
  · exact ⟨by decide, by decide, fun x hx => absurd hx List.not_mem_nil⟩
  · exact ⟨by decide, by decide, by unfold Byt; decide⟩
  · exact ⟨by decide, by decide, fun x hx => absurd hx List.not_mem_nil⟩
  · exact ⟨by decide, by decide, fun x hx => absurd hx List.not_mem_nil⟩
theorem hd_open : Byt (sealL hdW) ∧ ∃ ps, openR (sealL hdW) = .ok ps ∧ ps.map leafOf = hdT := pack_open hdT _ hd_pack hd_ok

def hd2 (w : World) : World := (w.alloc (.cells #[.int .u8 104, .int .u8 105] 5 (2, 3))).alloc (.cells #[.string ⟨#[47]⟩, .int .i64 2, .int .i64 493, .int .u64 0, .slice none 0 0, .string ⟨#[]⟩, .string ⟨#[47, 97]⟩, .int .i64 1, .int .i64 420, .int .u64 5, .slice (some ⟨w.heap.size, 0, none⟩) 2 2, .string ⟨#[]⟩, .string ⟨#[47, 100]⟩, .int .i64 2, .int .i64 493, .int .u64 0, .slice none 0 0, .string ⟨#[]⟩, .string ⟨#[47, 100, 47, 108]⟩, .int .i64 3, .int .i64 0, .int .u64 0, .slice none 0 0, .string ⟨#[46, 46, 47, 97]⟩] 38)
theorem hd2_size (w : World) : (hd2 w).heap.size = w.heap.size + 2 := by simp [hd2]
theorem hd2_below (w : World) : Below w.heap.size w (hd2 w) := bel_join (below_alloc _ _) (below_alloc _ _)
theorem hd2_data (w : World) : Reads (hd2 w) (some ⟨w.heap.size, 0, none⟩) 2 [104, 105] := by
  have h : Reads (w.alloc (.cells #[.int .u8 104, .int .u8 105] 5 (2, 3))) (some ⟨w.heap.size, 0, none⟩) 2 [104, 105] := by
    refine ⟨rfl, by decide, by simp, fun x hx i hi => ?_⟩
    cases hx
    rw [Pt.add_zero, Nat.zero_add]
    have h9 := heap_alloc_new w (.cells #[.int .u8 104, .int .u8 105] 5 (2, 3))
    simp only [World.cell?, h9]
    match i, hi with
    | 0, _ => rfl
    | 1, _ => rfl
  exact h.below (below_alloc _ _)
theorem hd2_cell (w : World) (k j : Nat) (hk : k < 4) (hj : j < 6) : (hd2 w).cell? ⟨w.heap.size + 1, 0 + k * 6 + j, none⟩ = (hdE w.heap.size)[k]?.bind (fun x => x.cells[j]?) := by
  have h9 := heap_alloc_new (w.alloc (.cells #[.int .u8 104, .int .u8 105] 5 (2, 3))) (.cells #[.string ⟨#[47]⟩, .int .i64 2, .int .i64 493, .int .u64 0, .slice none 0 0, .string ⟨#[]⟩, .string ⟨#[47, 97]⟩, .int .i64 1, .int .i64 420, .int .u64 5, .slice (some ⟨w.heap.size, 0, none⟩) 2 2, .string ⟨#[]⟩, .string ⟨#[47, 100]⟩, .int .i64 2, .int .i64 493, .int .u64 0, .slice none 0 0, .string ⟨#[]⟩, .string ⟨#[47, 100, 47, 108]⟩, .int .i64 3, .int .i64 0, .int .u64 0, .slice none 0 0, .string ⟨#[46, 46, 47, 97]⟩] 38)
  have hs : (w.alloc (.cells #[.int .u8 104, .int .u8 105] 5 (2, 3))).heap.size = w.heap.size + 1 := by simp
  rw [hs] at h9
  unfold hd2
  simp only [World.cell?, h9]
  match k, hk with
  | 0, _ => match j, hj with
    | 0, _ => rfl
    | 1, _ => rfl
    | 2, _ => rfl
    | 3, _ => rfl
    | 4, _ => rfl
    | 5, _ => rfl
  | 1, _ => match j, hj with
    | 0, _ => rfl
    | 1, _ => rfl
    | 2, _ => rfl
    | 3, _ => rfl
    | 4, _ => rfl
    | 5, _ => rfl
  | 2, _ => match j, hj with
    | 0, _ => rfl
    | 1, _ => rfl
    | 2, _ => rfl
    | 3, _ => rfl
    | 4, _ => rfl
    | 5, _ => rfl
  | 3, _ => match j, hj with
    | 0, _ => rfl
    | 1, _ => rfl
    | 2, _ => rfl
    | 3, _ => rfl
    | 4, _ => rfl
    | 5, _ => rfl
theorem reads_none (w : World) : Reads w none 0 [] := ⟨rfl, by simp, fun _ => rfl, fun x hx => by cases hx⟩
theorem hd_facts (l : Lf) (h : l ∈ hdT) : (0 ≤ l.stamp ∧ l.stamp < 18446744073709551616) ∧ l.path.size ≤ 9223372036854775807 ∧ l.target.size ≤ 200000000000000 ∧ l.data.length ≤ 16777216 := by
  simp only [hdT, List.mem_cons, List.not_mem_nil, or_false] at h
  rcases h with rfl | rfl | rfl | rfl <;> exact ⟨⟨by decide, by decide⟩, by decide, by decide, by decide⟩
theorem hd2_rd (w : World) : RdL (hd2 w) (w.heap.size + 2) (.slice (some ⟨w.heap.size + 1, 0, none⟩) 4 4) (hdE w.heap.size) := by
  refine ⟨⟨_, 4, rfl, Nat.le_refl _, by omega, fun _ => ⟨w.heap.size + 1, 0, rfl, by omega, fun k hk j hj => hd2_cell w k j hk hj⟩⟩, ?_, ?_, ?_⟩
  · intro x hx
    simp only [hdE, List.mem_cons, List.not_mem_nil, or_false] at hx
    rcases hx with rfl | rfl | rfl | rfl
    · exact ⟨none, 0, 0, rfl, reads_none _, Nat.le_refl _, Nat.zero_le _, fun y hy _ => by cases hy⟩
    · exact ⟨_, 2, 2, rfl, hd2_data w, Nat.le_refl _, by omega, fun y hy _ => by cases hy; show w.heap.size < _; omega⟩
    · exact ⟨none, 0, 0, rfl, reads_none _, Nat.le_refl _, Nat.zero_le _, fun y hy _ => by cases hy⟩
    · exact ⟨none, 0, 0, rfl, reads_none _, Nat.le_refl _, Nat.zero_le _, fun y hy _ => by cases hy⟩
  · exact fun x hx => (hd_facts x.l (by rw [← hdE_l w.heap.size]; exact List.mem_map_of_mem hx)).1
  · exact fun x hx => (hd_facts x.l (by rw [← hdE_l w.heap.size]; exact List.mem_map_of_mem hx)).2

def hd3 (w : World) : World := (hd2 w).alloc (.cells (hdW.map (Value.int .u8)).toArray 5)
/-- What stands once the tree is packed. -/
structure HdS (w u : World) (g cap : Nat) : Prop where
  below : Below w.heap.size w u
  row : Reads u (some ⟨g, 0, none⟩) 78 (sealL hdW)
  lt : g < u.heap.size
  c1 : 78 ≤ cap
  c2 : cap ≤ 9223372036854775807
  want : Reads u (some ⟨w.heap.size + 1 + 1, 0, none⟩) 74 hdW
  tree : VwL u (.slice (some ⟨w.heap.size + 1, 0, none⟩) 4 4) (hdE w.heap.size)
  tab : Tab u
theorem HdS.up {w u u2 : World} {g cap : Nat} (h : HdS w u g cap) (hb : Below u.heap.size u u2) : HdS w u2 g cap :=
  ⟨⟨hb.os.trans h.below.os, hb.tape.trans h.below.tape, hb.output.trans h.below.output, Nat.le_trans h.below.size hb.size, fun k hk => (hb.block k (Nat.lt_of_lt_of_le hk h.below.size)).trans (h.below.block k hk)⟩, h.row.below hb, Nat.lt_of_lt_of_le h.lt hb.size, h.c1, h.c2, h.want.below hb, h.tree.below hb, h.tab.below hb⟩
theorem hd_packed (w : World) (ht : Tab w) : Calls Tryz.prog 7 #[.slice (some ⟨w.heap.size + 1, 0, none⟩) 4 4] (hd3 w) fun e u => ∃ g cap, e = .returned (.tuple #[.slice (some ⟨g, 0, none⟩) 78 cap, .int .i64 0]) ∧ HdS w u g cap := by
  have b3 : Below (hd2 w).heap.size (hd2 w) (hd3 w) := below_alloc _ _
  have bw : Below w.heap.size w (hd3 w) := bel_join (hd2_below w) b3
  have s3 : (hd3 w).heap.size = w.heap.size + 2 + 1 := by unfold hd3; rw [← hd2_size w]; simp
  have rd := (hd2_rd w)
  rw [← hd2_size w] at rd
  have rd3 := rd.low b3
  have rd4 : RdL (hd3 w) (hd3 w).heap.size (.slice (some ⟨w.heap.size + 1, 0, none⟩) 4 4) (hdE w.heap.size) := by
    refine ⟨?_, ?_, rd3.stamp, rd3.text⟩
    · obtain ⟨a, c, e1, e2, e3, e4⟩ := rd3.shape
      refine ⟨a, c, e1, e2, e3, fun h0 => ?_⟩
      obtain ⟨b, off, g1, g2, g3⟩ := e4 h0
      exact ⟨b, off, g1, Nat.lt_of_lt_of_le g2 b3.size, g3⟩
    · intro x hx
      obtain ⟨da, dn, dc, g1, g2, g3, g4, g5⟩ := rd3.data x hx
      exact ⟨da, dn, dc, g1, g2, g3, g4, fun y hy h9 => Nat.lt_of_lt_of_le (g5 y hy h9) b3.size⟩
  refine (pack_any _ (hdE w.heap.size) (hd3 w) rd4 (by rw [hdE_l]; decide) (ht.below bw)).mono ?_
  rintro e u ⟨hp, hb⟩
  rw [hdE_l, hd_pack] at hp
  obtain ⟨g, cap, he, ho⟩ := hp
  rw [hd_seal] at he ho
  refine ⟨g, cap, he, ?_⟩
  have hr := ho.reads hd_open.1 78 (Nat.le_refl _)
  rw [List.take_of_length_le (by rw [hd_seal]; exact Nat.le_refl _)] at hr
  have hsh := own_shape ho (by decide)
  obtain ⟨g', cap', he', q1, q2, q3, q4⟩ := hsh
  cases he'
  have hw : Reads (hd3 w) (some ⟨w.heap.size + 1 + 1, 0, none⟩) 74 hdW := by
    have := reads_alloc (hd2 w) hdW hdW_byt
    rw [hd2_size, hdW_len] at this
    exact this
  exact ⟨bel_join bw hb, hr, q4, q1, q2, hw.below hb, (rd4.vw (Nat.le_refl _)).below hb, (ht.below bw).below hb⟩

theorem hd_reads {u : World} {B g c : Nat} (h : Own u B g (74 + 4) c (sealL hdW)) : Reads u (some ⟨g, 0, none⟩) 78 (sealL hdW) := by
  have hr := Own.reads h hd_open.1 78 (Nat.le_refl _)
  rw [List.take_of_length_le (by rw [hd_seal]; exact Nat.le_refl _)] at hr
  exact hr
theorem hd_read (w u : World) (g cap : Nat) (h : HdS w u g cap) : Calls Tryz.prog 10 #[.slice (some ⟨g, 0, none⟩) 78 cap] u fun e u' => ∃ v es, e = .returned (.tuple #[v, .int .i64 0]) ∧ VwL u' v es ∧ es.map Le.l = (hdE w.heap.size).map Le.l ∧ HdS w u' g cap := by
  refine (read_any g 0 78 cap (sealL hdW) u h.row h.lt (by decide) h.c1 h.c2 h.tab).mono ?_
  rintro e u' ⟨hv, hb⟩
  obtain ⟨hby, ps, ho, hm⟩ := hd_open
  rw [ho] at hv
  obtain ⟨v, es, he, hes, hls⟩ := hv
  refine ⟨v, es, he, hls.vw ?_, by rw [hes, hm, hdE_l], h.up hb⟩
  intro x hx
  exact (hd_ok x.l (by rw [← hm, ← hes]; exact List.mem_map_of_mem hx)).byt

set_option maxHeartbeats 2000000 in
set_option maxRecDepth 100000 in
theorem heads_any (w : World) (ht : Tab w) :
    Calls Tryz.prog 5 #[] w fun e w' => e = .returned (.bool true) ∧ Below w.heap.size w w' := by
  have kc := fun (w : World) (C : Array Value) (n c : Nat) => Lib.run_convert_bytes_const (P := Tryz.prog) w 25 5 C n c Tryz.underlying25 Tryz.underlying5
  have HP := hide (hd_packed w ht)
  clear ht
  go_enter Tryz.func5, Tryz.ntmps5
  go_wp2_with (first
    | (go_at_call 7; refine Calls.mono HP.out ?_; rintro e u ⟨g, cap, rfl, hs⟩; have HS := hide hs; clear hs HP kc)
    | (go_at_call 8; refine (lno_any _ _).mono ?_; rintro e u9 ⟨rfl, rfl⟩)
    | (go_at_call 14; refine (sealed_any _ 74 74 hdW _ HS.out.want (by decide) HS.out.tab).mono ?_; rintro e u2 ⟨g2, cc2, rfl, ho2, hb2⟩
       have HS2 := hide (HS.out.up hb2)
       have HR2 := hide (hd_reads ho2)
       clear ho2 hb2 HS)
    | (go_at_call 9; refine (same_eq _ _ 78 _ _ (sealL hdW) _ HS2.out.row HR2.out).mono ?_; rintro e u9 ⟨rfl, rfl⟩; clear HR2)
    | (go_at_call 10; refine (hd_read _ _ _ _ HS2.out).mono ?_; rintro e u3 ⟨v, es, rfl, hv, he, hs⟩
       have HV := hide hv
       have HE := hide he
       have HS3 := hide hs
       clear hv he hs HS2)
    | (go_at_call 11; refine (alike_vw _ _ es (hdE w.heap.size) _ HV.out HS3.out.tree HE.out).mono ?_; rintro e u4 ⟨rfl, hb4⟩
       have HS4 := hide (HS3.out.up hb4)
       clear hb4 HS3))
  go_ret
  exact ⟨rfl, HS4.out.below⟩
/-- How many letters stand behind the last slash. -/
def tlF (n : Nat) (l : List UInt8) : Nat := l.foldl (fun n b => if b = 47 then 0 else n + 1) n
theorem tlF_free (l : List UInt8) (h : (47 : UInt8) ∉ l) : ∀ n, tlF n l = n + l.length := by
  induction l with
  | nil => intro n; rfl
  | cons x r ih =>
    intro n
    have hx : ¬ x = 47 := fun e => h (by rw [e]; exact List.mem_cons_self)
    show tlF (if x = 47 then 0 else n + 1) r = _
    rw [if_neg hx, ih (fun hm => h (List.mem_cons_of_mem _ hm)), List.length_cons]
    omega
theorem tlF_app (n : Nat) (a b : List UInt8) : tlF n (a ++ b) = tlF (tlF n a) b := by unfold tlF; rw [List.foldl_append]
theorem tlF_last (n : Nat) (a b : List UInt8) (h : (47 : UInt8) ∉ b) : tlF n (a ++ 47 :: b) = b.length := by
  rw [tlF_app]
  show tlF 0 b = _
  rw [tlF_free b h, Nat.zero_add]
theorem tlF_snoc (n : Nat) (a : List UInt8) (x : UInt8) : tlF n (a ++ [x]) = if x = 47 then 0 else tlF n a + 1 := by rw [tlF_app]; rfl
theorem tlF_le (l : List UInt8) : ∀ n, tlF n l ≤ n + l.length := by
  induction l with
  | nil => intro n; exact Nat.le_refl _
  | cons x r ih =>
    intro n
    show tlF (if x = 47 then 0 else n + 1) r ≤ _
    rw [List.length_cons]
    by_cases hx : x = 47
    · rw [if_pos hx]; have := ih 0; omega
    · rw [if_neg hx]; have := ih (n + 1); omega
/-- What the law lets a leaf take. -/
def mostF (l : Lf) : Nat := 22 + tlF 0 l.path.data.toList + l.target.size + l.data.length
def mostS : List Lf → Nat
  | [] => 0
  | l :: r => mostF l + mostS r

theorem cutF_most (zs : List Int) : ∀ (f k : Nat), k ≤ zs.length → ((cutF zs f k).flatMap (encR zs)).length ≤ 5 + (zs.length - k)
  | 0, k, _ => by simp [cutF]
  | f + 1, k, hk => by
    rw [cutF]
    split
    · rename_i hlt
      have h1 := fhAt_ge hk
      have h2 := enAt_gt hlt
      have h3 := enAt_le zs k
      have h4 := cutF_most zs f (enAt zs k) h3
      have h5 := fhAt_le zs k
      have h6 : fhAt zs k ≤ enAt zs k := by unfold enAt; omega
      rw [List.flatMap_append, List.flatMap_append, List.length_append, List.length_append]
      have a1 : ((if k < fhAt zs k then [(⟨k, fhAt zs k - k, false⟩ : Sr)] else []).flatMap (encR zs)).length ≤ 5 + (fhAt zs k - k) := by
        split
        · rw [List.flatMap_cons, List.flatMap_nil, List.append_nil]
          unfold encR
          simp only [List.length_append, numL_length, Bool.false_eq_true, if_false, List.length_take, List.length_drop]
          omega
        · simp
      by_cases hB : fhAt zs k < zs.length
      · have hol := at_hole hk hB
        have hol2 : fhAt zs k + 16 ≤ enAt zs k := by unfold enAt; omega
        have a2 : ((if fhAt zs k < enAt zs k then [(⟨fhAt zs k, enAt zs k - fhAt zs k, true⟩ : Sr)] else []).flatMap (encR zs)).length ≤ 5 := by
          split
          · rw [List.flatMap_cons, List.flatMap_nil, List.append_nil]
            unfold encR
            simp only [List.length_append, numL_length, if_true, List.length_nil]
            omega
          · simp
        omega
      · have he : fhAt zs k = zs.length := by omega
        have he2 : enAt zs k = zs.length := by omega
        have a2 : ((if fhAt zs k < enAt zs k then [(⟨fhAt zs k, enAt zs k - fhAt zs k, true⟩ : Sr)] else []).flatMap (encR zs)).length = 0 := by
          rw [if_neg (by omega)]; rfl
        have a3 : ((cutF zs f (enAt zs k)).flatMap (encR zs)).length = 0 := by
          rw [he2]
          cases f with
          | zero => rfl
          | succ f => rw [cutF, if_neg (by omega)]; rfl
        omega
    · simp
theorem encD_most (zs : List Int) : (encD zs).length ≤ 9 + zs.length := by
  unfold encD
  rw [List.length_append, numL_length]
  have := cutF_most zs (zs.length - 0) 0 (Nat.zero_le _)
  have h2 : (cuts zs).flatMap (encR zs) = (cutF zs (zs.length - 0) 0).flatMap (encR zs) := rfl
  rw [h2]
  omega
theorem tg_last {ns : List ByteArray} (h : 1 ≤ ns.length) (hn : ∀ x ∈ ns, (47 : UInt8) ∉ x.data.toList) : tlF 0 (Pt.tg ns).data.toList = (ns.getD (ns.length - 1) ByteArray.empty).size := by
  have hne : ns ≠ [] := fun e => by rw [e] at h; exact absurd h (by decide)
  rw [Pt.tg_cons hne, Pt.data_byteOf]
  have hs := last_split ns h
  have hm := hn _ (getD_mem ns h)
  conv => lhs; rw [← hs]
  rw [Pt.tgA_append]
  have : Pt.tgA [ns.getD (ns.length - 1) ByteArray.empty] = 47 :: (ns.getD (ns.length - 1) ByteArray.empty).data.toList := by simp [Pt.tgA, Pt.tgL]
  rw [this, tlF_last _ _ _ hm]
  rfl
theorem encL_most {ns0 : List ByteArray} {d0 : Bool} {l : Lf} (h : okL ns0 d0 l = true) : (encL l).length ≤ mostF l := by
  unfold okL at h
  rw [Bool.and_eq_true, Bool.and_eq_true] at h
  obtain ⟨⟨h1, h2⟩, h3⟩ := h
  have hm := nms_more h1
  have hf := nms_facts h1
  have hl := fol_len h3
  have ht := tg_last hl (fun x hx => (Pt.sp_mem hf.1 hx).2.2.1)
  rw [hm.1] at ht
  unfold mostF encL encP
  rw [ht]
  simp only [List.length_append, numL_length, numsS_len]
  unfold encB
  split
  · have := encD_most l.data
    omega
  · split
    · simp only [List.length_append, numL_length, numsS_len]; omega
    · simp; omega
theorem goL_most : ∀ (es : List Lf) (ns0 : List ByteArray) (d0 : Bool) (laid x : List Int), goL ns0 d0 laid es = .ok x → x.length ≤ laid.length + mostS es
  | [], ns0, d0, laid, x, h => by
    rw [goL] at h
    injection h with h
    rw [← h]; exact Nat.le_add_right _ _
  | l :: es, ns0, d0, laid, x, h => by
    rw [goL] at h
    split at h
    · rename_i ho
      have h1 := goL_most es _ _ _ x h
      have h2 := encL_most ho
      rw [List.length_append] at h1
      rw [mostS]
      omega
    · cases h
/-- A row is not too long. -/
theorem pack_most (es : List Lf) (row : List Int) (h : packM es = .ok row) : row.length ≤ 20 + mostS es.tail := by
  cases es with
  | nil => cases h
  | cons l r =>
    rw [packM] at h
    split at h
    · split at h
      · split at h
        · cases h
        · rename_i x hx
          injection h with h
          have h1 := goL_most r _ _ _ x hx
          rw [← h]
          unfold sealW
          simp only [List.length_append, numL_length]
          have h2 : (headW l).length = 15 := by unfold headW; simp only [List.length_append, numL_length]; rfl
          rw [h2] at h1
          show _ ≤ 20 + mostS r
          omega
      · cases h
    · cases h

theorem goL_err : ∀ (es : List Lf) (ns0 : List ByteArray) (d0 : Bool) (laid : List Int) (x : Int), goL ns0 d0 laid es = .error x → x = 191
  | [], ns0, d0, laid, x, h => by rw [goL] at h; cases h
  | l :: es, ns0, d0, laid, x, h => by
    rw [goL] at h
    split at h
    · exact goL_err es _ _ _ x h
    · injection h with h; exact h.symm
theorem packM_err (es : List Lf) (x : Int) (h : packM es = .error x) : ¬ x = 0 := by
  cases es with
  | nil => rw [packM] at h; injection h with h; omega
  | cons l r =>
    rw [packM] at h
    split at h
    · split at h
      · split at h
        · rename_i e he
          have := goL_err r _ _ _ e he
          injection h with h
          omega
        · cases h
      · injection h with h; omega
    · injection h with h; omega
theorem mostS_take (l : List Lf) (j : Nat) (h : j < l.length) : mostS (l.take (j + 1)) = mostS (l.take j) + mostF l[j] := by
  induction l generalizing j with
  | nil => simp at h
  | cons x r ih =>
    cases j with
    | zero => simp [mostS]
    | succ j =>
      rw [List.take_succ_cons, List.take_succ_cons, mostS, mostS, ih j (by simpa using h), List.getElem_cons_succ]
      omega
theorem mostS_le (l : List Lf) (j : Nat) : mostS (l.take j) ≤ mostS l := by
  induction l generalizing j with
  | nil => simp
  | cons x r ih =>
    cases j with
    | zero => simp [mostS]
    | succ j => rw [List.take_succ_cons, mostS, mostS]; have := ih j; omega

/-- What stands once the tree is packed. -/
structure BkS (w u : World) (v : Value) (es : List Le) (row : List Int) (g m cap : Nat) : Prop where
  below : Below w.heap.size w u
  row : Reads u (some ⟨g, 0, none⟩) m row
  lt : g < u.heap.size
  c1 : m ≤ cap
  c2 : cap ≤ 9223372036854775807
  tree : VwL u v es
  tab : Tab u
theorem bel_up {w u u2 : World} {B : Nat} (h : Below B w u) (hb : Below u.heap.size u u2) (hB : B ≤ u.heap.size) : Below B w u2 :=
  ⟨hb.os.trans h.os, hb.tape.trans h.tape, hb.output.trans h.output, Nat.le_trans h.size hb.size, fun k hk => (hb.block k (Nat.lt_of_lt_of_le hk hB)).trans (h.block k hk)⟩
theorem BkS.up {w u u2 : World} {v : Value} {es : List Le} {row : List Int} {g m cap : Nat} (h : BkS w u v es row g m cap) (hb : Below u.heap.size u u2) : BkS w u2 v es row g m cap :=
  ⟨bel_up h.below hb h.below.size, h.row.below hb, Nat.lt_of_lt_of_le h.lt hb.size, h.c1, h.c2, h.tree.below hb, h.tab.below hb⟩
theorem RdL.up {w u : World} {v : Value} {es : List Le} (h : RdL w w.heap.size v es) (hb : Below w.heap.size w u) : RdL u u.heap.size v es := by
  have h1 := h.low hb
  refine ⟨?_, ?_, h1.stamp, h1.text⟩
  · obtain ⟨a, c, e1, e2, e3, e4⟩ := h1.shape
    refine ⟨a, c, e1, e2, e3, fun h0 => ?_⟩
    obtain ⟨b, off, g1, g2, g3⟩ := e4 h0
    exact ⟨b, off, g1, Nat.lt_of_lt_of_le g2 hb.size, g3⟩
  · intro x hx
    obtain ⟨da, dn, dc, g1, g2, g3, g4, g5⟩ := h1.data x hx
    exact ⟨da, dn, dc, g1, g2, g3, g4, fun y hy h9 => Nat.lt_of_lt_of_le (g5 y hy h9) hb.size⟩
theorem RdL.lok {w : World} {B : Nat} {v : Value} {es : List Le} (h : RdL w B v es) : ∀ l ∈ es.map Le.l, Lok l := by
  intro l hl
  obtain ⟨x, hx, rfl⟩ := List.mem_map.1 hl
  obtain ⟨da, dn, dc, g1, g2, _⟩ := h.data x hx
  exact ⟨(h.stamp x hx).1, (h.stamp x hx).2, g2.2.1⟩
theorem bk_packed (w u : World) (v : Value) (es : List Le) (row : List Int) (h : RdL w w.heap.size v es) (ht : Tab w) (hb : Below w.heap.size w u) (hp : packM (es.map Le.l) = .ok row) (hsz : szL (es.map Le.l) ≤ 38000000000000) :
    Calls Tryz.prog 7 #[v] u fun e u' => ∃ g cap, e = .returned (.tuple #[.slice (some ⟨g, 0, none⟩) row.length cap, .int .i64 0]) ∧ BkS w u' v es row g row.length cap := by
  have hu := h.up hb
  refine (pack_any v es u hu hsz (ht.below hb)).mono ?_
  rintro e u' ⟨hv, hb2⟩
  rw [hp] at hv
  obtain ⟨g, cap, he, ho⟩ := hv
  refine ⟨g, cap, he, ?_⟩
  have hby := (pack_open _ _ hp h.lok).1
  have hr := ho.reads hby row.length (Nat.le_refl _)
  rw [List.take_length] at hr
  have hpos : 0 < row.length := by
    obtain ⟨_, ps, h1, _⟩ := pack_open _ _ hp h.lok
    cases row with
    | nil => cases h1
    | cons x r => simp
  obtain ⟨g', cap', he', q1, q2, q3, q4⟩ := own_shape ho hpos
  cases he'
  exact ⟨bel_up hb hb2 hb.size, hr, q4, q1, q2, (hu.vw (Nat.le_refl _)).below hb2, (ht.below hb).below hb2⟩
theorem bk_read (w u : World) (v : Value) (es : List Le) (row : List Int) (g m cap : Nat) (h : BkS w u v es row g m cap) (hm : m ≤ 4194304) (hl : ∀ l ∈ es.map Le.l, Lok l) (hp : packM (es.map Le.l) = .ok row) :
    Calls Tryz.prog 10 #[.slice (some ⟨g, 0, none⟩) m cap] u fun e u' => ∃ v2 fs, e = .returned (.tuple #[v2, .int .i64 0]) ∧ VwL u' v2 fs ∧ fs.map Le.l = es.map Le.l ∧ BkS w u' v es row g m cap := by
  refine (read_any g 0 m cap row u h.row h.lt (by omega) h.c1 h.c2 h.tab).mono ?_
  rintro e u' ⟨hv, hb⟩
  obtain ⟨hby, ps, ho, hpm⟩ := pack_open _ _ hp hl
  rw [ho] at hv
  obtain ⟨v2, fs, he, hes, hls⟩ := hv
  refine ⟨v2, fs, he, hls.vw ?_, by rw [hes, hpm], h.up hb⟩
  intro x hx
  exact (hl x.l (by rw [← hpm, ← hes]; exact List.mem_map_of_mem hx)).byt
open Go.ChangeShapes Go.WideShapes Go.ChangeAt Go.RowKit Go.Joins

theorem cells38 : Tryz.prog.cellsOf 38 = 6 := by kernel_rfl
theorem cells9 : Tryz.prog.cellsOf 9 = 1 := by kernel_rfl
theorem cells3 : Tryz.prog.cellsOf 3 = 1 := by kernel_rfl
theorem cells36 : Tryz.prog.cellsOf 36 = 1 := by kernel_rfl
theorem cells25 : Tryz.prog.cellsOf 25 = 1 := by kernel_rfl
theorem some_bulk {H : Type} (d : DataW H) : 0 < Rows.uptoBulk d := by
  rcases d with l | _ | _ | _ | _ | _ | _ | _
  · cases l <;> simp [Rows.uptoBulk]
  all_goals simp [Rows.uptoBulk]
theorem many_bulk {H : Type} : ∀ l : List (DataW H), l.length ≤ Rows.uptoBulkAll l
  | [] => Nat.zero_le _
  | d :: r => by
    have h1 := many_bulk r
    have h2 := some_bulk d
    simp only [Rows.uptoBulkAll, List.length_cons]
    omega
theorem bulk_mem {H : Type} : ∀ (l : List (DataW H)) (d : DataW H), d ∈ l → Rows.uptoBulk d ≤ Rows.uptoBulkAll l
  | [], _, h => by cases h
  | x :: r, d, h => by
    simp only [Rows.uptoBulkAll]
    rcases List.mem_cons.1 h with rfl | h
    · omega
    · have := bulk_mem r d h
      omega
theorem cell_lt {W : World} {b o : Nat} {v : Value} (h : W.cell? ⟨b, o, none⟩ = some v) : b < W.heap.size := by
  cases hh : W.heap[b]? with
  | none => simp [World.cell?, hh] at h
  | some z => exact (Array.getElem?_eq_some_iff.1 hh).1
theorem cell_none {W : World} {x : Addr} {v : Value} (h : W.cell? (x.add 0) = some v) : x = ⟨x.block, x.off, none⟩ := by
  obtain ⟨b, o, e⟩ := x
  cases e with
  | none => rfl
  | some e =>
    exfalso
    simp [World.cell?, Addr.add] at h
    split at h <;> simp at h

section
variable {H : Type} {enc : TypeId × Value → H} {W : World}
theorem open_data {fuel : Nat} {v : Value} {y : DataW H × List MemPlace} (h : DataW.trod enc Tryz.prog W 0 (fun _ => true) true fuel 25 [v] = some y) :
    ∃ a n c zs, v = .slice a n c ∧ Reads W a n zs ∧ n ≤ c ∧ c ≤ 9223372036854775807 ∧ (∀ x, a = some x → 0 < n → x.block < W.heap.size) ∧ zs.length + 1 ≤ Rows.uptoBulk y.1 := by
  rcases open_ints Tryz.underlying25 Tryz.underlying5 (by kernel_rfl) h with ⟨hcs, hy⟩ | ⟨x, l, c, zs, hcs, _, hl, hm, hz, hx, hcell, hwz⟩
  · injection hcs with hcs
    subst hcs
    exact ⟨none, 0, 0, [], rfl, ⟨rfl, by simp, fun _ => rfl, fun _ h => by cases h⟩, by omega, by omega, (fun _ h => by cases h), some_bulk _⟩
  · injection hcs with hcs
    subst hcs
    have hz' : zs.length = c := by simpa using hz
    refine ⟨some x, l, c, zs.take l, rfl, ⟨by simp; omega, fun n hn => bounds_u8 (hwz n (List.mem_of_mem_take hn)), (fun h => by cases h), fun y hy i hi => ?_⟩, hl, by unfold maxLen at hm; omega, ?_, ?_⟩
    · cases hy
      rw [hcell i (by omega)]
      simp [List.getD, hi]
    · intro y hy hn
      cases hy
      have h9 := hcell 0 (by omega)
      have hxn := cell_none h9
      rw [hxn] at h9
      rw [Pt.add_zero] at h9
      exact cell_lt h9
    · have hd := congrArg Prod.fst hx
      rw [hd]
      simp only [Rows.uptoBulk]
      have := many_bulk (H := H) (lits .u8 (zs.take l))
      simp [lits] at this ⊢
      omega

/-- A leaf opened. -/
structure LfOk (W : World) (q : Le) (b : Nat) : Prop where
  data : ∃ da dn dc, q.d = .slice da dn dc ∧ Reads W da dn q.l.data ∧ dn ≤ dc ∧ dc ≤ 9223372036854775807 ∧ ∀ y, da = some y → 0 < dn → y.block < W.heap.size
  stamp : 0 ≤ q.l.stamp ∧ q.l.stamp < 18446744073709551616
  bulk : 7 + q.l.path.size + q.l.target.size + q.l.data.length ≤ b
set_option maxRecDepth 100000 in
theorem open_leaf {fuel : Nat} {cs : List Value} {y : DataW H × List MemPlace} (hl : cs.length = 6) (h : DataW.trod enc Tryz.prog W 0 (fun _ => true) true fuel 38 cs = some y) :
    ∃ q : Le, cs = q.cells ∧ LfOk W q (Rows.uptoBulk y.1) := by
  obtain ⟨xs, k, _, hx, _, hxl, hg⟩ := DataW.trod_struct Tryz.underlying38 h
  match cs, hl with
  | [v0, v1, v2, v3, v4, v5], _ =>
    match xs, hxl with
    | [y0, y1, y2, y3, y4, y5], _ =>
      have g0 : DataW.trod enc Tryz.prog W 0 (fun _ => true) true k 9 [v0] = some y0 := by simpa [cells9] using hg 0 _ rfl
      have g1 : DataW.trod enc Tryz.prog W 0 (fun _ => true) true k 3 [v1] = some y1 := by simpa [cells3] using hg 1 _ rfl
      have g2 : DataW.trod enc Tryz.prog W 0 (fun _ => true) true k 3 [v2] = some y2 := by simpa [cells3] using hg 2 _ rfl
      have g3 : DataW.trod enc Tryz.prog W 0 (fun _ => true) true k 36 [v3] = some y3 := by simpa [cells36] using hg 3 _ rfl
      have g4 : DataW.trod enc Tryz.prog W 0 (fun _ => true) true k 25 [v4] = some y4 := by simpa [cells25] using hg 4 _ rfl
      have g5 : DataW.trod enc Tryz.prog W 0 (fun _ => true) true k 9 [v5] = some y5 := by simpa [cells9] using hg 5 _ rfl
      obtain ⟨z0, e0, d0, _⟩ := DataW.trod_string Tryz.underlying9 g0
      obtain ⟨z1, e1, d1, w1⟩ := DataW.trod_int Tryz.underlying3 g1
      obtain ⟨z2, e2, d2, w2⟩ := DataW.trod_int Tryz.underlying3 g2
      obtain ⟨z3, e3, d3, w3⟩ := DataW.trod_int Tryz.underlying36 g3
      obtain ⟨a, n, c, zs, e4, hr, hnc, hc, hlow, hb4⟩ := open_data g4
      obtain ⟨z5, e5, d5, _⟩ := DataW.trod_string Tryz.underlying9 g5
      injection e0 with e0
      injection e1 with e1
      injection e2 with e2
      injection e3 with e3
      injection e5 with e5
      subst e0 e1 e2 e3 e4 e5
      have b3 := bounds_u64 w3
      refine ⟨⟨⟨z0, z1, z2, z3, zs, z5⟩, .slice a n c⟩, rfl, ⟨a, n, c, rfl, hr, hnc, hc, hlow⟩, ⟨b3.1, by have := b3.2; simp only; omega⟩, ?_⟩
      have hd : y.1 = .agg [y0.1, y1.1, y2.1, y3.1, y4.1, y5.1] := by
        have := congrArg Prod.fst hx
        simpa using this
      rw [hd]
      simp only [Rows.uptoBulk, Rows.uptoBulkAll]
      have q1 := some_bulk y1.1
      have q2 := some_bulk y2.1
      have q3 := some_bulk y3.1
      have q0 : Rows.uptoBulk y0.1 = z0.size + 1 := by rw [d0]; simp [Rows.uptoBulk]
      have q5 : Rows.uptoBulk y5.1 = z5.size + 1 := by rw [d5]; simp [Rows.uptoBulk]
      rw [q0, q5]
      omega
/-- Sums over all leaves. -/
theorem range_bulk (D : Nat → DataW H) (f : Nat → Nat) : ∀ l, (∀ i, i < l → f i ≤ Rows.uptoBulk (D i)) → ((List.range l).map f).sum ≤ Rows.uptoBulkAll ((List.range l).map D) := by
  have key : ∀ L : List Nat, (∀ i ∈ L, f i ≤ Rows.uptoBulk (D i)) → (L.map f).sum ≤ Rows.uptoBulkAll (L.map D) := by
    intro L
    induction L with
    | nil => intro _; exact Nat.le_refl _
    | cons i r ih =>
      intro h
      have h1 := h i List.mem_cons_self
      have h2 := ih (fun j hj => h j (List.mem_cons_of_mem _ hj))
      simp only [List.map_cons, List.sum_cons, Rows.uptoBulkAll]
      omega
  intro l h
  exact key _ (fun i hi => h i (List.mem_range.1 hi))
def wt (l : Lf) : Nat := 7 + l.path.size + l.target.size + l.data.length
theorem most_wt : ∀ es : List Lf, 7 * mostS es ≤ 22 * (es.map wt).sum
  | [] => Nat.le_refl _
  | l :: r => by
    have h1 := most_wt r
    have h2 := tlF_le l.path.data.toList 0
    have h3 : l.path.data.toList.length = l.path.size := rfl
    have h4 : wt l = 7 + l.path.size + l.target.size + l.data.length := rfl
    rw [mostS, List.map_cons, List.sum_cons, h4]
    unfold mostF
    omega
theorem sz_wt : ∀ es : List Lf, szL es ≤ 300 * (es.map wt).sum
  | [] => Nat.le_refl _
  | l :: r => by
    have h1 := sz_wt r
    have h4 : wt l = 7 + l.path.size + l.target.size + l.data.length := rfl
    rw [szL, List.map_cons, List.sum_cons, h4]
    omega
theorem wt_mem : ∀ (es : List Lf) (l : Lf), l ∈ es → wt l ≤ (es.map wt).sum
  | x :: r, l, h => by
    rw [List.map_cons, List.sum_cons]
    rcases List.mem_cons.1 h with rfl | h
    · omega
    · have := wt_mem r l h; omega
set_option maxRecDepth 100000 in
theorem open_leavesB {fuel : Nat} {v : Value} {y : DataW H × List MemPlace} (h : DataW.trod enc Tryz.prog W 0 (fun _ => true) true fuel 22 [v] = some y) (hb : Rows.uptoBulk y.1 ≤ 1048576) :
    ∃ es : List Le, RdL W W.heap.size v es ∧ ((es.map Le.l).map wt).sum ≤ Rows.uptoBulk y.1 := by
  rcases Deep.open_slice Tryz.underlying22 h with ⟨hcs, _⟩ | ⟨x, l, c, m, n, D, Pl, hcs, _, hl, hm, hmm, hx, hcell⟩
  · injection hcs with hcs
    subst hcs
    exact ⟨[], ⟨⟨none, 0, rfl, Nat.le_refl _, Nat.zero_le _, (fun h => absurd h (by decide))⟩, (fun _ h => by cases h), (fun _ h => by cases h), (fun _ h => by cases h)⟩, by simp⟩
  · injection hcs with hcs
    subst hcs
    have each : ∀ i, i < l → ∃ q : Le, LfOk W q (Rows.uptoBulk (D i)) ∧ ∀ j, j < 6 → W.cell? (x.add (i * 6 + j)) = q.cells[j]? := by
      intro i hi
      obtain ⟨cs', h1, h2⟩ := hcell i (by rw [hmm]; simp; omega)
      rw [cells38] at h1
      obtain ⟨_, hlen, hc⟩ := World.cells?_some h1
      obtain ⟨q, hq, hok⟩ := open_leaf hlen h2
      refine ⟨q, hok, fun j hj => ?_⟩
      have h9 := hc j hj
      rw [Deep.add_add] at h9
      rw [← hq, h9]
    have : Inhabited Le := ⟨⟨⟨⟨#[]⟩, 0, 0, 0, [], ⟨#[]⟩⟩, .slice none 0 0⟩⟩
    obtain ⟨q, hq⟩ := Deep.choose_lt each
    have hd := (Prod.mk.inj hx).1
    have hsum : (((List.range l).map q).map (fun e => wt e.l)).sum ≤ Rows.uptoBulk y.1 := by
      have h1 := range_bulk D (fun i => wt (q i).l) l (fun i hi => by have := (hq i hi).1.bulk; unfold wt; omega)
      rw [List.map_map]
      rw [hd]
      simp only [Rows.uptoBulk]
      have h2 : ((fun e : Le => wt e.l) ∘ q) = fun i => wt (q i).l := rfl
      rw [h2]
      omega
    have hmem : ∀ e ∈ (List.range l).map q, ∃ b, LfOk W e b := by
      intro e he
      obtain ⟨i, hi, rfl⟩ := List.mem_map.1 he
      exact ⟨_, (hq i (List.mem_range.1 hi)).1⟩
    have hwt : (((List.range l).map q).map Le.l).map wt = ((List.range l).map q).map (fun e => wt e.l) := by rw [List.map_map]; rfl
    refine ⟨(List.range l).map q, ⟨?_, ?_, ?_, ?_⟩, by rw [hwt]; exact hsum⟩
    · refine ⟨some x, c, by simp, by simpa using hl, by unfold maxLen at hm; omega, fun h0 => ?_⟩
      have hl0 : 0 < l := by simpa using h0
      have h00 := (hq 0 hl0).2 0 (by omega)
      have hxn : x = ⟨x.block, x.off, none⟩ := cell_none (v := .string (q 0).l.path) h00
      refine ⟨x.block, x.off, congrArg some hxn, ?_, fun k hk j hj => ?_⟩
      · rw [hxn, Pt.add_zero] at h00
        exact cell_lt (v := .string (q 0).l.path) h00
      · have hk' : k < l := by simpa using hk
        have h9 := (hq k hk').2 j hj
        rw [hxn, Pt.add_zero] at h9
        rw [Nat.add_assoc, h9]
        simp [hk']
    · intro e he
      obtain ⟨b, h9⟩ := hmem e he
      exact h9.data
    · intro e he
      obtain ⟨b, h9⟩ := hmem e he
      exact h9.stamp
    · intro e he
      have h9 := wt_mem (((List.range l).map q).map Le.l) e.l (List.mem_map_of_mem he)
      have h4 : wt e.l = 7 + e.l.path.size + e.l.target.size + e.l.data.length := rfl
      rw [hwt, h4] at h9
      omega
theorem open_leaves {fuel : Nat} {v : Value} {y : DataW H × List MemPlace} (h : DataW.trod enc Tryz.prog W 0 (fun _ => true) true fuel 22 [v] = some y) (hb : Rows.uptoBulk y.1 ≤ 1048576) :
    ∃ es : List Le, RdL W W.heap.size v es ∧ ((es.map Le.l).map wt).sum ≤ 1048576 := by
  obtain ⟨es, h1, h2⟩ := open_leavesB h hb
  exact ⟨es, h1, by omega⟩
end
theorem mostS_tail (l : List Lf) : mostS l.tail ≤ mostS l := by
  cases l with
  | nil => exact Nat.le_refl _
  | cons x r => rw [List.tail_cons, mostS]; omega
end Go.Proofs.YtdiifegljonojaaGreatDoor
