/-
  SEAT Ytadlkikjfonkgaa: Sm, Ck, Ca.
-/
import Derived.Test.YtadlkikjfonkgaaQb
import Derived.Lib.SmallJoins
import Derived.Test.YtadlkikjfonkgaaQa
import Derived.Deep.RegionHeld3
namespace Go.Proofs.Ytadlkikjfonkgaa
open Go.RowKit Go.Conc
set_option linter.unusedVariables false
set_option maxRecDepth 100000
set_option maxHeartbeats 4000000
variable {w w' : World} {u l B e size n : Nat} {x x' : Bx} {a : Option Addr} {zs : List Int} {xs : List Value} {o : Obj} {F G T : Nat → Prop}
def Fits (b p s : Int) : Bool := decide (8 ≤ b ∧ b ≤ 4096 ∧ 4 ≤ p ∧ p ≤ 256 ∧ 1 ≤ s ∧ s ≤ 8 ∧ b * p ≤ 65536)
theorem ways (b p s : Int) : b < 8 ∨ (8 ≤ b ∧ 4096 < b) ∨ (8 ≤ b ∧ b ≤ 4096 ∧ p < 4) ∨ (8 ≤ b ∧ b ≤ 4096 ∧ 4 ≤ p ∧ 256 < p) ∨ (8 ≤ b ∧ b ≤ 4096 ∧ 4 ≤ p ∧ p ≤ 256 ∧ s < 1) ∨ (8 ≤ b ∧ b ≤ 4096 ∧ 4 ≤ p ∧ p ≤ 256 ∧ 1 ≤ s ∧ 8 < s) ∨
  (8 ≤ b ∧ b ≤ 4096 ∧ 4 ≤ p ∧ p ≤ 256 ∧ 1 ≤ s ∧ s ≤ 8 ∧ 0 ≤ b * p ∧ b * p ≤ 1048576) := by
 by_cases h : 8 ≤ b ∧ b ≤ 4096 ∧ 4 ≤ p ∧ p ≤ 256
 ·have h1 : 0 ≤ b * p := Int.mul_nonneg (by omega) (by omega)
  have h2 : b * p ≤ 4096 * 256 := Int.mul_le_mul (by omega) (by omega) (by omega) (by omega)
  omega
 ·omega
theorem mayBe_any (b p s : Int) (w : World) : Calls Try.prog 45 #[.agg #[.int .i64 b, .int .i64 p, .int .i64 s]] w fun e w' => e = .returned (.bool (Fits b p s)) ∧ Below w.heap.size w w' := by
 rcases ways b p s with h | ⟨h1, h⟩ | ⟨h1, h2, h⟩ | ⟨h1, h2, h3, h⟩ | ⟨h1, h2, h3, h4, h⟩ | ⟨h1, h2, h3, h4, h5, h⟩ | ⟨h1, h2, h3, h4, h5, h6, h7, h8⟩
 all_goals
  go_enter Try.func45, Try.ntmps45
  go_wp2
  go_ret
  exact ⟨ret_bool (by first | exact (decide_eq_true (by omega)).symm | exact (decide_eq_false (by omega)).symm | (unfold Fits; rw [decide_eq_decide]; omega)), (Below.refl _ _).alloc (Nat.le_refl _) _⟩
theorem shape_any (b p s : Int) (w : World) : Calls Try.prog 31 #[.agg #[.int .i64 b, .int .i64 p, .int .i64 s]] w fun e w' => e = .returned (.bool (Fits b p s)) ∧ Below w.heap.size w w' := by
 rcases ways b p s with h | ⟨h1, h⟩ | ⟨h1, h2, h⟩ | ⟨h1, h2, h3, h⟩ | ⟨h1, h2, h3, h4, h⟩ | ⟨h1, h2, h3, h4, h5, h⟩ | ⟨h1, h2, h3, h4, h5, h6, h7, h8⟩
 all_goals
  go_enter Try.func31, Try.ntmps31
  go_wp2
  go_ret
  exact ⟨ret_bool (by first | exact (decide_eq_true (by omega)).symm | exact (decide_eq_false (by omega)).symm | (unfold Fits; rw [decide_eq_decide]; omega)), (Below.refl _ _).alloc (Nat.le_refl _) _⟩
theorem data_any (b p s : Int) (w : World) (h0 : 1 ≤ s) (h1 : s ≤ 8) : Calls Try.prog 82 #[.agg #[.int .i64 b, .int .i64 p, .int .i64 s]] w fun e w' => e = .returned (.int .i64 (256 * s)) ∧ Below w.heap.size w w' := by
 go_enter Try.func82, Try.ntmps82
 go_wp2
 go_ret
 exact ⟨rfl, (Below.refl _ _).alloc (Nat.le_refl _) _⟩
theorem rdata_any (b p s : Int) (w : World) (h0 : 1 ≤ s) (h1 : s ≤ 8) : Calls Try.prog 44 #[.agg #[.int .i64 b, .int .i64 p, .int .i64 s]] w fun e w' => e = .returned (.int .i64 (256 * s)) ∧ Below w.heap.size w w' := by
 go_enter Try.func44, Try.ntmps44
 go_wp2
 go_ret
 exact ⟨rfl, (Below.refl _ _).alloc (Nat.le_refl _) _⟩
theorem spareB_any (b p s : Int) (w : World) (h0 : 1 ≤ s) (h1 : s ≤ 8) : Calls Try.prog 83 #[.agg #[.int .i64 b, .int .i64 p, .int .i64 s]] w fun e w' => e = .returned (.int .i64 (54 + 3 * s)) ∧ Below w.heap.size w w' := by
 go_enter Try.func83, Try.ntmps83
 go_wp2
 go_ret
 exact ⟨rfl, (Below.refl _ _).alloc (Nat.le_refl _) _⟩
theorem rspareB_any (b p s : Int) (w : World) (h0 : 1 ≤ s) (h1 : s ≤ 8) : Calls Try.prog 81 #[.agg #[.int .i64 b, .int .i64 p, .int .i64 s]] w fun e w' => e = .returned (.int .i64 (54 + 3 * s)) ∧ Below w.heap.size w w' := by
 go_enter Try.func81, Try.ntmps81
 go_wp2
 go_ret
 exact ⟨rfl, (Below.refl _ _).alloc (Nat.le_refl _) _⟩
theorem box3 {u : World} {b p s : Int} (h : Below (w.alloc (.cells #[.int .i64 b, .int .i64 p, .int .i64 s] 23)).heap.size (w.alloc (.cells #[.int .i64 b, .int .i64 p, .int .i64 s] 23)) u) :
  u.cell? ⟨w.heap.size, 0, none⟩ = some (.int .i64 b) ∧ u.cell? ⟨w.heap.size, 1, none⟩ = some (.int .i64 p) ∧ u.cell? ⟨w.heap.size, 2, none⟩ = some (.int .i64 s) := by
 refine ⟨?_, ?_, ?_⟩ <;> (rw [h.cell (by simp)]; simp)
theorem grown_of (h : Below w.heap.size w w') (row : Option Nat) : w.grownBy w' row := ⟨h.os, h.tape, h.output, h.size, fun k hk _ => h.block k hk⟩
theorem below_of (h : w.grownBy w' none) : Below w.heap.size w w' := ⟨h.os, h.tape, h.output, h.size, fun k hk => h.block k hk (by simp)⟩
theorem drew_grown (w : World) (r : Option Nat) : w.grownBy w.drew r := ⟨rfl, rfl, rfl, Nat.le_refl _, fun _ _ _ => rfl⟩
theorem below_alloc (w : World) (b) : Below w.heap.size w (w.alloc b) := (Below.refl _ _).alloc (Nat.le_refl _) _
theorem held3 {x : World} {b p s : Int} (q : (w.alloc (.cells #[.int .i64 b, .int .i64 p, .int .i64 s] 23)).grownBy x none) :
  (fun x : World => (w.alloc (.cells #[.int .i64 b, .int .i64 p, .int .i64 s] 23)).grownBy x none ∧ x.cell? ⟨w.heap.size, 0, none⟩ = some (.int .i64 b) ∧ x.cell? ⟨w.heap.size, 1, none⟩ = some (.int .i64 p) ∧ x.cell? ⟨w.heap.size, 2, none⟩ = some (.int .i64 s)) x := ⟨q, box3 (below_of q)⟩
def pgB (s : Nat) : Nat := 256 * s + (54 + 3 * s)
theorem pgB_le {s : Nat} (h : s ≤ 8) : pgB s ≤ 2126 := by unfold pgB; omega
theorem pageB_any (b p : Int) (s : Nat) (w : World) (h0 : 1 ≤ s) (h1 : s ≤ 8) : Calls Try.prog 46 #[.agg #[.int .i64 b, .int .i64 p, .int .i64 s]] w fun e w' => e = .returned (.int .i64 (pgB s : Nat)) ∧ Below w.heap.size w w' := by
 have g0 : (1 : Int) ≤ s := by omega
 have g1 : (s : Int) ≤ 8 := by omega
 have he : ((pgB s : Nat) : Int) = 256 * (s : Int) + (54 + 3 * (s : Int)) := by unfold pgB; omega
 rw [he]
 clear he h0 h1
 go_enter Try.func46, Try.ntmps46
 go_wp2
 go_region_held3 (fun x => (w.alloc (.cells #[.int .i64 b, .int .i64 p, .int .i64 s] 23)).grownBy x none ∧ x.cell? ⟨w.heap.size, 0, none⟩ = some (.int .i64 b) ∧ x.cell? ⟨w.heap.size, 1, none⟩ = some (.int .i64 p) ∧ x.cell? ⟨w.heap.size, 2, none⟩ = some (.int .i64 s))
  ((first | exact held3 (grownBy_trans (grownBy_trans (drew_grown _ none) (grown_of b1 none)) (grown_of b2 none)) | exact held3 (grownBy_trans (grownBy_trans (drew_grown _ none) (grown_of b2 none)) (grown_of b1 none)) | exact held3 (grownBy_trans (drew_grown _ none) (grown_of b1 none)) | exact held3 (grownBy_trans (drew_grown _ none) (grown_of b2 none)) | exact held3 (drew_grown _ _)))
  ((first | (go_at_call 82; refine (data_any _ _ _ _ g0 g1).mono ?_; rintro e u1 ⟨rfl, b1⟩) | (go_at_call 83; refine (spareB_any _ _ _ _ g0 g1).mono ?_; rintro e u2 ⟨rfl, b2⟩)))
 all_goals go_wp2
 all_goals go_ret
 all_goals exact ⟨ret_int (by simp only [IntKind.wrap_i64]; omega), below_trans (below_alloc w _) (below_of (by first | exact grownBy_trans (grownBy_trans (drew_grown _ none) (grown_of b1 none)) (grown_of b2 none) | exact grownBy_trans (grownBy_trans (drew_grown _ none) (grown_of b2 none)) (grown_of b1 none)))⟩
section
variable {x : Bx} {w : World} {p : Nat}
theorem dark_any (h : x.at w p) : Calls Try.prog 17 #[.pointer (some ⟨p, 0, none⟩)] w fun e w' => e = .returned (.bool x.dark) ∧ w' = w := by
 have c := h.c11
 clear h
 go_enter Try.func17, Try.ntmps17
 go_wp2
 go_ret
 exact ⟨rfl, rfl⟩
theorem count_any (h : x.at w p) : Calls Try.prog 18 #[.pointer (some ⟨p, 0, none⟩)] w fun e w' => e = .returned (.int .i64 x.cnt) ∧ w' = w := by
 have c := h.c12
 clear h
 go_enter Try.func18, Try.ntmps18
 go_wp2
 go_ret
 exact ⟨rfl, rfl⟩
theorem on_any (h : x.at w p) : Calls Try.prog 25 #[.pointer (some ⟨p, 0, none⟩)] w fun e w' => e = .returned (.tuple #[]) ∧ w' = w.setCell ⟨p, 11, none⟩ (.bool false) := by
 have c := h.c11
 have f := h.fz 11
 clear h
 go_enter Try.func25, Try.ntmps25
 go_wp2
 go_end0
 exact ⟨rfl, rfl⟩
def hasB (n : Nat) (i : Int) : Bool := decide (0 ≤ i ∧ i < n)
theorem hasBlock_any (h : x.at w p) (i : Int) (B : Nat) (hB : x.B = B) : Calls Try.prog 85 #[.pointer (some ⟨p, 0, none⟩), .int .i64 i] w fun e w' => e = .returned (.bool (hasB B i)) ∧ w' = w := by
 have c := h.c0
 rw [hB] at c
 clear h hB
 by_cases h0 : 0 ≤ i
 ·by_cases h1 : i < (B : Int)
  ·rw [show hasB B i = true from decide_eq_true ⟨h0, h1⟩]
   go_enter Try.func85, Try.ntmps85
   go_wp2
   go_ret
   exact ⟨rfl, rfl⟩
  ·rw [show hasB B i = false from decide_eq_false (by omega)]
   go_enter Try.func85, Try.ntmps85
   go_wp2
   go_ret
   exact ⟨rfl, rfl⟩
 ·rw [show hasB B i = false from decide_eq_false (by omega)]
  go_enter Try.func85, Try.ntmps85
  go_wp2
  go_ret
  exact ⟨rfl, rfl⟩
theorem end_zero (h : x.at w p) (a k : Int) (m : Option Addr) (l n : Nat) (f : Int) (h1 : k ≠ 1) (h2 : k ≠ 2) : Calls Try.prog 105 #[.pointer (some ⟨p, 0, none⟩), .agg #[.int .i64 a, .int .i64 k, .slice m l n, .int .u8 f]] w fun e w' => e = .returned (.int .i64 0) ∧ Below w.heap.size w w' := by
 have b1 : (k == 1) = false := by simpa using h1
 have b2 : (k == 2) = false := by simpa using h2
 clear h h1 h2
 go_enter Try.func105, Try.ntmps105
 go_wp2
 go_ret
 exact ⟨rfl, ba (Below.refl _ _)⟩
theorem end_one (h : x.at w p) (a : Int) (m : Option Addr) (l n : Nat) (f : Int) : Calls Try.prog 105 #[.pointer (some ⟨p, 0, none⟩), .agg #[.int .i64 a, .int .i64 1, .slice m l n, .int .u8 f]] w fun e w' => e = .returned (.int .i64 44) ∧ Below w.heap.size w w' := by
 clear h
 go_enter Try.func105, Try.ntmps105
 go_wp2
 go_ret
 exact ⟨rfl, ba (Below.refl _ _)⟩
theorem end_two (h : x.at w p) (a : Int) (m : Option Addr) (l n : Nat) (f : Int) : Calls Try.prog 105 #[.pointer (some ⟨p, 0, none⟩), .agg #[.int .i64 a, .int .i64 2, .slice m l n, .int .u8 f]] w fun e w' => e = .returned (.int .i64 45) ∧ ({ x with dark := true } : Bx).at w' p ∧ Only (· = p) w w' := by
 have hp := h.lt
 have hne : p ≠ w.heap.size := by omega
 have HX := J h
 have c := h.c11
 have fz := h.fz 11
 clear h
 go_enter Try.func105, Try.ntmps105
 go_wp2
 go_ret
 exact ⟨rfl, (HX.out.setDark true).keep (alloc_old _ _ (HX.out.setDark true).lt), (Only.setCell (· = p) _ p 11 _ rfl).trans (Only.ofB (below_alloc _ _)) (fun _ _ h => h)⟩
end
def unitN (s : Nat) (bit : Nat) : Nat := if bit / 8 < 256 * s then bit / 8 / 256 else if bit / 8 < 256 * s + 54 then s else (bit / 8 - (256 * s + 54)) / 3
theorem unitOf_any (b p : Int) (s bit : Nat) (w : World) (h0 : 1 ≤ s) (h1 : s ≤ 8) (hb : bit < 8 * pgB s) : Calls Try.prog 90 #[.agg #[.int .i64 b, .int .i64 p, .int .i64 s], .int .i64 bit] w fun e w' => e = .returned (.int .i64 (unitN s bit : Nat)) ∧ Below w.heap.size w w' := by
 have g0 : (1 : Int) ≤ s := by omega
 have g1 : (s : Int) ≤ 8 := by omega
 have hb0 := below_alloc w (.cells #[.int .i64 b, .int .i64 p, .int .i64 s] 23)
 have HB0 := J hb0
 have hbb : (bit : Int) ≤ 20000 := by unfold pgB at hb; omega
 clear hb0 h0 h1
 have hq : (bit : Int).tdiv 8 = ((bit / 8 : Nat) : Int) := rfl
 obtain ⟨t, ht⟩ : ∃ t, bit / 8 = t := ⟨_, rfl⟩
 have htb : t ≤ 2500 := by omega
 have HT := J ht
 rw [ht] at hq
 by_cases c1 : t < 256 * s
 ·have d1 : decide ((t : Int) < 256 * (s : Int)) = true := decide_eq_true (by omega)
  have hu : ((unitN s bit : Nat) : Int) = (t : Int).tdiv 256 := by unfold unitN; rw [HT.out, if_pos c1]; rfl
  rw [hu]
  clear hu ht
  go_enter Try.func90, Try.ntmps90
  go_wp2_with (first | (go_at_call 82; refine (data_any _ _ _ _ g0 g1).mono ?_; rintro e u1 ⟨rfl, b1⟩; have B1 := J b1; clear b1))
  go_ret
  exact ⟨rfl, below_trans HB0.out B1.out⟩
 ·have d1 : decide ((t : Int) < 256 * (s : Int)) = false := decide_eq_false (by omega)
  by_cases c2 : t < 256 * s + 54
  ·have d2 : decide ((t : Int) < 256 * (s : Int) + 54) = true := decide_eq_true (by omega)
   have hu : unitN s bit = s := by unfold unitN; rw [HT.out, if_neg c1, if_pos c2]
   rw [hu]
   clear hu ht
   go_enter Try.func90, Try.ntmps90
   go_wp2_with (first | (go_at_call 82; refine (data_any _ _ _ _ g0 g1).mono ?_; rintro e u1 ⟨rfl, b1⟩; obtain ⟨x0, x1, x2⟩ := box3 b1; have B1 := J b1; clear b1))
   go_ret
   exact ⟨rfl, below_trans HB0.out B1.out⟩
  ·have d2 : decide ((t : Int) < 256 * (s : Int) + 54) = false := decide_eq_false (by omega)
   have hu : ((unitN s bit : Nat) : Int) = ((t : Int) - (256 * (s : Int) + 54)) / 3 := by unfold unitN; rw [HT.out, if_neg c1, if_neg c2]; omega
   rw [hu]
   clear hu ht
   go_enter Try.func90, Try.ntmps90
   go_wp2_with (first | (go_at_call 82; refine (data_any _ _ _ _ g0 g1).mono ?_; rintro e u1 ⟨rfl, b1⟩; obtain ⟨x0, x1, x2⟩ := box3 b1; have B1 := J b1; clear b1))
   go_ret
   exact ⟨ret_int (by first | rfl | omega), below_trans HB0.out B1.out⟩
theorem no_any' (n : Int) (w : World) : Calls Try.prog 11 #[.int .i64 n] w fun e w' => e = .returned (.int .i64 n) ∧ w' = w := (no_any n w).mono fun e w' h => ⟨h.1, h.2.symm⟩
/-! ### Rows of structs -/
theorem flat_get {α : Type} (f : α → List Value) (n : Nat) (hf : ∀ x, (f x).length = n) (j : Nat) (hj : j < n) : ∀ (xs : List α) (i : Nat) (x : α), xs[i]? = some x → (xs.flatMap f)[i * n + j]? = (f x)[j]?
 | [], i, x, h => by simp at h
 | y :: r, 0, x, h => by
  simp at h
  subst h
  rw [List.flatMap_cons, Nat.zero_mul, Nat.zero_add, List.getElem?_append_left (by rw [hf]; exact hj)]
 | y :: r, i + 1, x, h => by
  rw [List.flatMap_cons, List.getElem?_append_right (by rw [hf, Nat.succ_mul]; omega), hf]
  have e : (i + 1) * n + j - n = i * n + j := by rw [Nat.succ_mul]; omega
  rw [e]
  exact flat_get f n hf j hj r i x (by simpa using h)
theorem flat_set {α : Type} (f : α → List Value) (n : Nat) (hf : ∀ x, (f x).length = n) (j : Nat) (hj : j < n) (v : Value) (y : α) : ∀ (xs : List α) (i : Nat) (x : α), xs[i]? = some x → (f x).set j v = f y → (xs.flatMap f).set (i * n + j) v = (xs.set i y).flatMap f
 | [], i, x, h, _ => by simp at h
 | z :: r, 0, x, h, e => by
  simp at h
  subst h
  rw [List.flatMap_cons, Nat.zero_mul, Nat.zero_add, List.set_append_left _ _ (by rw [hf]; exact hj), e, List.set_cons_zero, List.flatMap_cons]
 | z :: r, i + 1, x, h, e => by
  rw [List.flatMap_cons, List.set_append_right _ _ (by rw [hf, Nat.succ_mul]; omega), hf]
  have e1 : (i + 1) * n + j - n = i * n + j := by rw [Nat.succ_mul]; omega
  rw [e1, flat_set f n hf j hj v y r i x (by simpa using h) e, List.set_cons_succ, List.flatMap_cons]
theorem flat_len {α : Type} (f : α → List Value) (n : Nat) (hf : ∀ x, (f x).length = n) : ∀ xs : List α, (xs.flatMap f).length = xs.length * n
 | [] => by simp
 | x :: r => by rw [List.flatMap_cons, List.length_append, hf, flat_len f n hf r, List.length_cons, Nat.succ_mul]; omega
theorem reads_keep (h : Reads w a l zs) (hk : ∀ x, a = some x → 0 < l → w'.heap[x.block]? = w.heap[x.block]?) : Reads w' a l zs := by
 rcases Nat.eq_zero_or_pos l with h0 | h0
 ·subst h0
  exact ⟨h.1, h.2.1, fun _ => rfl, fun _ _ i hi => absurd hi (Nat.not_lt_zero _)⟩
 ·obtain ⟨b, off, rfl, hb, hc⟩ := h.pos h0
  have e := hk _ rfl h0
  refine ⟨h.1, h.2.1, by simp, fun x hx i hi => ?_⟩
  cases hx
  rw [plain_add]
  have h1 := hc i hi
  simp only [World.cell?] at h1 ⊢
  simp only at e
  rw [e]
  exact h1
theorem owns_keep {v : Value} (h : w.ownsRow B e size v n xs) (hk : ∀ g, v.ownBlock = some g → w'.heap[g]? = w.heap[g]?) : w'.ownsRow B e size v n xs := by
 obtain ⟨h1, h2⟩ := h
 refine ⟨h1, ?_⟩
 rcases h2 with h2 | ⟨g, cap, cur, hv, hg, hh, r⟩
 ·exact Or.inl h2
 ·exact Or.inr ⟨g, cap, cur, hv, hg, (hk g (by rw [hv]; rfl)).trans hh, r⟩
/-! ### Kinds of blocks -/
def TagIs (t : Nat) : Obj → Prop
 | .cells _ e _ => e = t
 | .map _ _ => t = 1001
 | .chan _ _ _ _ _ _ => t = 1002
 | _ => False
theorem TagIs.uniq {t : Nat} (h : TagIs t o) (k : TagIs u o) : t = u := by
 cases o <;> simp_all [TagIs]
def KeepT (F : Nat → Prop) (T : Nat → Prop) (w w' : World) : Prop := ∀ k o t, F k → w.heap[k]? = some o → TagIs t o → ¬ T t → w'.heap[k]? = some o
theorem KeepT.of (h : ∀ k, F k → w'.heap[k]? = w.heap[k]?) (T : Nat → Prop) : KeepT F T w w' := fun k o t hf ho _ _ => (h k hf).trans ho
theorem Only.keepT (h : Only G w w') (hT : ∀ k o t, G k → w.heap[k]? = some o → TagIs t o → T t) : KeepT F T w w' :=
 fun k o t _ ho ht hn => (h.block k (lt_of_block ho) (fun hg => hn (hT k o t hg ho ht))).trans ho
theorem tag_ne {a b t : Nat} {q : Obj} (ha : w.heap[a]? = some o) (hb : w.heap[b]? = some q) (ht : TagIs t o) (hu : TagIs u q) (hne : t ≠ u) : a ≠ b := by
 rintro rfl
 rw [ha] at hb
 cases hb
 exact hne (ht.uniq hu)
def Is5 (w : World) (k : Nat) : Prop := ∃ cs fr, w.heap[k]? = some (.cells cs 5 fr)
theorem Is5.keep {k : Nat} (h : Is5 w k) (hf : F k) (hk : KeepT F T w w') (h5 : ¬ T 5) : Is5 w' k ∧ w'.heap[k]? = w.heap[k]? := by
 obtain ⟨cs, fr, h1⟩ := h
 have := hk k _ 5 hf h1 rfl h5
 exact ⟨⟨cs, fr, this⟩, this.trans h1.symm⟩
/-! ### Pages and blocks -/
structure Pc where
 a : Option Addr
 n : Nat
 c : Nat
 bits : List Int
 h : Bool
structure Bc where
 m : Bool
 r : Bool
 nx : Int
 g : Nat
 ps : List Pc
def Pc.cells (p : Pc) : List Value := [.slice p.a p.n p.c, .bool p.h]
def Bc.cells (b : Bc) : List Value := [.bool b.m, .bool b.r, .int .i64 b.nx, .slice (some ⟨b.g, 0, none⟩) b.ps.length b.ps.length]
theorem Pc.cells_len (p : Pc) : p.cells.length = 2 := rfl
theorem Bc.cells_len (b : Bc) : b.cells.length = 4 := rfl
structure Pg where
 bits : List Int
 h : Bool
structure Bl where
 m : Bool
 r : Bool
 nx : Int
 ps : List Pg
def Pc.v (p : Pc) : Pg := ⟨p.bits, p.h⟩
def Bc.v (b : Bc) : Bl := ⟨b.m, b.r, b.nx, b.ps.map Pc.v⟩
structure PcOk (w : World) (F : Nat → Prop) (L : Nat) (p : Pc) : Prop where
 len : p.bits.length = L
 byt : ∀ x ∈ p.bits, 0 ≤ x ∧ x ≤ 255
 sl : (p.a = none ∧ p.n = 0 ∧ p.c = 0 ∧ p.bits = List.replicate L 255) ∨ (∃ g, p.a = some ⟨g, 0, none⟩ ∧ F g ∧ p.n = L ∧ L ≤ p.c ∧ Reads w p.a L p.bits ∧ Is5 w g)
structure BcOk (w : World) (F : Nat → Prop) (L P : Nat) (b : Bc) : Prop where
 row : w.heap[b.g]? = some (.cells (b.ps.flatMap Pc.cells).toArray 108 (0, 0))
 fg : F b.g
 np : b.ps.length = P
 pg : ∀ p ∈ b.ps, PcOk w F L p
section
variable {w w' : World} {F G : Nat → Prop} {L P : Nat} {p : Pc} {b : Bc}
theorem PcOk.keep (h : PcOk w F L p) (hk : KeepT F T w w') (h5 : ¬ T 5) (hF : ∀ k, F k → G k) : PcOk w' G L p := by
 refine ⟨h.len, h.byt, ?_⟩
 rcases h.sl with h1 | ⟨g, h1, h2, h3, h4, h5', h6⟩
 ·exact Or.inl h1
 ·obtain ⟨k1, k2⟩ := h6.keep h2 hk h5
  refine Or.inr ⟨g, h1, hF g h2, h3, h4, reads_keep h5' (fun x hx _ => ?_), k1⟩
  rw [h1] at hx
  cases hx
  exact k2
theorem BcOk.keep (h : BcOk w F L P b) (hk : KeepT F T w w') (h5 : ¬ T 5) (hF : ∀ k, F k → G k) (hr : w'.heap[b.g]? = w.heap[b.g]?) : BcOk w' G L P b :=
 ⟨hr.trans h.row, hF _ h.fg, h.np, fun p hp => (h.pg p hp).keep hk h5 hF⟩
end
/-! ### Faults -/
structure Ft where
 a : Int
 k : Int
 m : List Int
 f : Int
def Ft.no : Ft := ⟨0, 0, [], 255⟩
structure MaskOk (w : World) (F : Nat → Prop) (a : Option Addr) (l : Nat) (zs : List Int) : Prop where
 rd : Reads w a l zs
 le : l ≤ 140737488351232
 blk : ∀ x, a = some x → 0 < l → F x.block ∧ Is5 w x.block
structure FtOk (w : World) (F : Nat → Prop) (v : Value) (f : Ft) : Prop where
 ex : ∃ a l c, v = .agg #[.int .i64 f.a, .int .i64 f.k, .slice a l c, .int .u8 f.f] ∧ MaskOk w F a l f.m ∧ l ≤ c
 fill : 0 ≤ f.f ∧ f.f ≤ 255
theorem MaskOk.keep (h : MaskOk w F a l zs) (hk : KeepT F T w w') (h5 : ¬ T 5) (hF : ∀ k, F k → G k) : MaskOk w' G a l zs :=
 ⟨reads_keep h.rd (fun x hx h0 => ((h.blk x hx h0).2.keep (h.blk x hx h0).1 hk h5).2), h.le, fun x hx h0 => ⟨hF _ (h.blk x hx h0).1, ((h.blk x hx h0).2.keep (h.blk x hx h0).1 hk h5).1⟩⟩
theorem MaskOk.nil (w : World) (F : Nat → Prop) : MaskOk w F none 0 [] := ⟨⟨rfl, by simp, fun _ => rfl, fun _ h => by cases h⟩, by omega, fun _ h => by cases h⟩
theorem FtOk.keep {v : Value} {f : Ft} (h : FtOk w F v f) (hk : KeepT F T w w') (h5 : ¬ T 5) (hF : ∀ k, F k → G k) : FtOk w' G v f := by
 obtain ⟨a, l, c, h1, h2, h3⟩ := h.ex
 exact ⟨⟨a, l, c, h1, h2.keep hk h5 hF, h3⟩, h.fill⟩
def QNext (w : World) (F : Nat → Prop) (x : Bx) (vs : List Value) : List Ft → Prop
 | [] => x.hn = false ∧ vs = []
 | f :: r => x.hn = true ∧ x.fa = f.a ∧ x.fk = f.k ∧ x.ff = f.f ∧ (0 ≤ f.f ∧ f.f ≤ 255) ∧ MaskOk w F x.ma x.ml f.m ∧ x.ml ≤ x.mc ∧ vs.length = r.length ∧ ∀ (i : Nat) (v : Value) (g : Ft), vs[i]? = some v → r[i]? = some g → FtOk w F v g
structure QAt (w : World) (F : Nat → Prop) (x : Bx) (q : List Ft) : Prop where
 ex : ∃ cap s r vs, w.heap[x.c]? = some (.chan cap vs.toArray true s r false) ∧ QNext w F x vs q
 fc : F x.c
theorem QNext.keep {vs : List Value} {q : List Ft} (h : QNext w F x vs q) (hk : KeepT F T w w') (h5 : ¬ T 5) (hF : ∀ k, F k → G k)
  (e : x'.hn = x.hn ∧ x'.fa = x.fa ∧ x'.fk = x.fk ∧ x'.ff = x.ff ∧ x'.ma = x.ma ∧ x'.ml = x.ml ∧ x'.mc = x.mc) : QNext w' G x' vs q := by
 obtain ⟨e1, e2, e3, e4, e5, e6, e7⟩ := e
 cases q with
 | nil => exact ⟨e1.trans h.1, h.2⟩
 | cons f r =>
  obtain ⟨h1, h2, h3, h4, h5', h6, h7, h8, h9⟩ := h
  unfold QNext
  rw [e1, e2, e3, e4, e5, e6, e7]
  exact ⟨h1, h2, h3, h4, h5', h6.keep hk h5 hF, h7, h8, fun i v g hv hg => (h9 i v g hv hg).keep hk h5 hF⟩
/-! ### The trace -/
structure Cmd where
 k : Int
 b : Int
 p : Int
 s : Int
def Cmd.cells (c : Cmd) : List Value := [.int .i64 c.k, .int .i64 c.b, .int .i64 c.p, .int .i64 c.s]
theorem Cmd.cells_len (c : Cmd) : c.cells.length = 4 := rfl
structure TrAt (w : World) (F : Nat → Prop) (x : Bx) (tr : List Cmd) : Prop where
 row : w.ownsRow 0 120 4 (.slice x.ta x.tl x.tc) x.tl (tr.flatMap Cmd.cells)
 len : x.tl = tr.length
 fg : ∀ g, (Value.slice x.ta x.tl x.tc).ownBlock = some g → F g
/-! ### The flips -/
structure Fe where
 b : Int
 p : Int
 a : Option Addr
 n : Nat
 c : Nat
 xs : List Nat
def plV (b p : Int) : Value := .agg #[.int .i64 b, .int .i64 p]
def Fe.sl (f : Fe) : Value := .slice f.a f.n f.c
structure FeOk (w : World) (F : Nat → Prop) (f : Fe) : Prop where
 row : w.ownsRow 0 3 1 f.sl f.n (f.xs.map fun (i : Nat) => Value.int .i64 (i : Int))
 fg : ∀ g, f.sl.ownBlock = some g → F g
def Stamps (es : List MapEntry) (clock : Nat) : Prop := (∀ e ∈ es, e.born < clock) ∧ es.Pairwise (fun a b => a.born ≠ b.born)
structure FlAt (w : World) (F : Nat → Prop) (gm : Nat) (fe : List Fe) : Prop where
 map : ∃ es clock, w.heap[gm]? = some (.map es clock) ∧ es.toList.map (fun e => (e.key, e.val)) = fe.map (fun f => (plV f.b f.p, f.sl)) ∧ Stamps es.toList clock
 fg : F gm
 keys : fe.Pairwise (fun f g => ¬ (f.b = g.b ∧ f.p = g.p))
 far : fe.Pairwise (fun f g => ∀ k, f.sl.ownBlock = some k → g.sl.ownBlock ≠ some k)
 ok : ∀ f ∈ fe, FeOk w F f
def look (fe : List Fe) (b p : Int) : List Nat := match fe.find? (fun f => f.b == b && f.p == p) with
 | some f => f.xs
 | none => []
/-! ### The chip -/
structure Ch where
 B : Nat
 P : Nat
 S : Nat
 bl : List Bl
 fl : Int → Int → List Nat
 q : List Ft
 dark : Bool
 cnt : Nat
 tr : List Cmd
structure CAt (w : World) (p : Nat) (F : Nat → Prop) (C : Ch) (x : Bx) (bs : List Bc) (fe : List Fe) : Prop where
 box : x.at w p
 fp : F p
 B : x.B = C.B
 P : x.P = C.P
 S : x.S = C.S
 nb : x.nb = bs.length
 dark : x.dark = C.dark
 cnt : x.cnt = C.cnt
 row : w.heap[x.gb]? = some (.cells (bs.flatMap Bc.cells).toArray 106 (0, 0))
 fb : F x.gb
 bl : bs.map Bc.v = C.bl
 bok : ∀ b ∈ bs, BcOk w F (pgB C.S) C.P b
 gs : bs.Pairwise (fun b c => b.g ≠ c.g)
 fl : FlAt w F x.gm fe
 fs : ∀ b p, look fe b p = C.fl b p
 q : QAt w F x C.q
 tr : TrAt w F x C.tr
 fin : ∀ k, F k → k < w.heap.size
def ChipAt (w : World) (p : Nat) (F : Nat → Prop) (C : Ch) : Prop := ∃ x bs fe, CAt w p F C x bs fe
theorem own_tag {g : Nat} {v : Value} (h : w.ownsRow B e size v n xs) (hg : v.ownBlock = some g) : ∃ cs, w.heap[g]? = some (.cells cs e (0, 0)) := by
 rcases h.2 with ⟨hv, _⟩ | ⟨g', cap, cur, hv, _, hh, _⟩
 ·rw [hv] at hg; cases hg
 ·rw [hv] at hg
  cases hg
  exact ⟨cur, hh⟩
theorem FeOk.keep {f : Fe} (h : FeOk w F f) (hk : KeepT F T w w') (h3 : ¬ T 3) (hF : ∀ k, F k → G k) : FeOk w' G f :=
 ⟨owns_keep h.row (fun g hg => by obtain ⟨cs, hc⟩ := own_tag h.row hg; exact (hk g _ 3 (h.fg g hg) hc rfl h3).trans hc.symm), fun g hg => hF g (h.fg g hg)⟩
theorem FlAt.keep {gm : Nat} {fe : List Fe} (h : FlAt w F gm fe) (hk : KeepT F T w w') (hm : ¬ T 1001) (h3 : ¬ T 3) (hF : ∀ k, F k → G k) : FlAt w' G gm fe := by
 obtain ⟨es, clock, h1, h2⟩ := h.map
 exact ⟨⟨es, clock, hk gm _ 1001 h.fg h1 rfl hm, h2⟩, hF _ h.fg, h.keys, h.far, fun f hf => (h.ok f hf).keep hk h3 hF⟩
theorem TrAt.keep {tr : List Cmd} (h : TrAt w F x tr) (hk : KeepT F T w w') (ht : ¬ T 120) (hF : ∀ k, F k → G k) (e : x'.ta = x.ta ∧ x'.tl = x.tl ∧ x'.tc = x.tc) : TrAt w' G x' tr := by
 obtain ⟨e1, e2, e3⟩ := e
 have hs : (Value.slice x'.ta x'.tl x'.tc) = .slice x.ta x.tl x.tc := by rw [e1, e2, e3]
 refine ⟨?_, e2.trans h.len, ?_⟩
 ·rw [hs, e2]
  refine owns_keep h.row (fun g hg => ?_)
  obtain ⟨cs, hc⟩ := own_tag h.row hg
  exact (hk g _ 120 (h.fg g hg) hc rfl ht).trans hc.symm
 ·rw [hs]; exact fun g hg => hF g (h.fg g hg)
theorem QAt.keep {q : List Ft} (h : QAt w F x q) (hk : KeepT F T w w') (h5 : ¬ T 5) (hc : ¬ T 1002) (hF : ∀ k, F k → G k)
  (e : x'.hn = x.hn ∧ x'.fa = x.fa ∧ x'.fk = x.fk ∧ x'.ff = x.ff ∧ x'.ma = x.ma ∧ x'.ml = x.ml ∧ x'.mc = x.mc) (ec : x'.c = x.c) : QAt w' G x' q := by
 obtain ⟨cap, s, r, vs, h1, h2⟩ := h.ex
 refine ⟨⟨cap, s, r, vs, ?_, h2.keep hk h5 hF e⟩, ?_⟩
 ·rw [ec]; exact hk _ _ 1002 h.fc h1 rfl hc
 ·rw [ec]; exact hF _ h.fc
section
variable {w w' : World} {p : Nat} {F G : Nat → Prop} {C : Ch} {x : Bx} {bs : List Bc} {fe : List Fe}
theorem CAt.keep (h : CAt w p F C x bs fe) (hk : ∀ k, F k → w'.heap[k]? = w.heap[k]?) (hF : ∀ k, F k → G k) (hG : ∀ k, G k → k < w'.heap.size) : CAt w' p G C x bs fe :=
 have hT := KeepT.of hk (fun _ => False)
 ⟨h.box.keep (hk _ h.fp), hF _ h.fp, h.B, h.P, h.S, h.nb, h.dark, h.cnt, (hk _ h.fb).trans h.row, hF _ h.fb, h.bl, fun b hb => (h.bok b hb).keep hT (fun h => h) hF (hk _ (h.bok b hb).fg), h.gs, h.fl.keep hT (fun h => h) (fun h => h) hF, h.fs,
  h.q.keep hT (fun h => h) (fun h => h) hF ⟨rfl, rfl, rfl, rfl, rfl, rfl, rfl⟩ rfl, h.tr.keep hT (fun h => h) hF ⟨rfl, rfl, rfl⟩, hG⟩
theorem CAt.below (h : CAt w p F C x bs fe) (hb : Below w.heap.size w w') : CAt w' p F C x bs fe :=
 h.keep (fun k hk => hb.block k (h.fin k hk)) (fun _ h => h) (fun k hk => Nat.lt_of_lt_of_le (h.fin k hk) hb.size)
theorem ChipAt.below (h : ChipAt w p F C) (hb : Below w.heap.size w w') : ChipAt w' p F C := by
 obtain ⟨x, bs, fe, h1⟩ := h
 exact ⟨x, bs, fe, h1.below hb⟩
theorem ChipAt.only (h : ChipAt w p F C) (hb : Only G w w') (hd : ∀ k, F k → ¬ G k) : ChipAt w' p F C := by
 obtain ⟨x, bs, fe, h1⟩ := h
 exact ⟨x, bs, fe, h1.keep (fun k hk => hb.block k (h1.fin k hk) (hd k hk)) (fun _ h => h) (fun k hk => Nat.lt_of_lt_of_le (h1.fin k hk) hb.size)⟩
theorem ChipAt.fin (h : ChipAt w p F C) : ∀ k, F k → k < w.heap.size := by
 obtain ⟨x, bs, fe, h1⟩ := h
 exact h1.fin
def Fx (F : Nat → Prop) (w w' : World) : Nat → Prop := fun k => F k ∨ (w.heap.size ≤ k ∧ k < w'.heap.size)
theorem CAt.onlyBox (h : CAt w p F C x bs fe) (ho : Only G w w') (hG : ∀ k, G k → k = p) : KeepT F (· = 102) w w' :=
 ho.keepT (fun k o t hg hk ht => by
  rw [hG k hg, show w.heap[p]? = _ from h.box] at hk
  cases hk
  exact ht.symm)
theorem CAt.box2 (h : CAt w p F C x bs fe) {C' : Ch} {x' : Bx} (hT : KeepT F (· = 102) w w') (hsz : w.heap.size ≤ w'.heap.size) (hx : x'.at w' p)
  (e1 : x'.B = x.B ∧ x'.P = x.P ∧ x'.S = x.S ∧ x'.gb = x.gb ∧ x'.nb = x.nb ∧ x'.gm = x.gm ∧ x'.c = x.c)
  (e2 : x'.hn = x.hn ∧ x'.fa = x.fa ∧ x'.fk = x.fk ∧ x'.ff = x.ff ∧ x'.ma = x.ma ∧ x'.ml = x.ml ∧ x'.mc = x.mc) (e3 : x'.ta = x.ta ∧ x'.tl = x.tl ∧ x'.tc = x.tc)
  (hd : x'.dark = C'.dark) (hc : x'.cnt = C'.cnt) (e4 : C'.B = C.B ∧ C'.P = C.P ∧ C'.S = C.S ∧ C'.bl = C.bl ∧ C'.fl = C.fl ∧ C'.q = C.q ∧ C'.tr = C.tr) : CAt w' p F C' x' bs fe := by
 obtain ⟨a1, a2, a3, a4, a5, a6, a7⟩ := e1
 obtain ⟨d1, d2, d3, d4, d5, d6, d7⟩ := e4
 refine ⟨hx, h.fp, ?_, ?_, ?_, a5.trans h.nb, hd, hc, ?_, ?_, ?_, ?_, h.gs, ?_, ?_, ?_, ?_, fun k hk => Nat.lt_of_lt_of_le (h.fin k hk) hsz⟩
 ·rw [a1, d1]; exact h.B
 ·rw [a2, d2]; exact h.P
 ·rw [a3, d3]; exact h.S
 ·rw [a4]; exact hT _ _ 106 h.fb h.row rfl (by decide)
 ·rw [a4]; exact h.fb
 ·rw [d4]; exact h.bl
 ·rw [d2, d3]; exact fun b hb => (h.bok b hb).keep hT (by decide) (fun _ h => h) ((hT _ _ 108 (h.bok b hb).fg (h.bok b hb).row rfl (by decide)).trans (h.bok b hb).row.symm)
 ·rw [a6]; exact h.fl.keep hT (by decide) (by decide) (fun _ h => h)
 ·rw [d5]; exact h.fs
 ·rw [d6]; exact h.q.keep hT (by decide) (by decide) (fun _ h => h) e2 a7
 ·rw [d7]; exact h.tr.keep hT (by decide) (fun _ h => h) e3
end
section
variable {w : World} {p : Nat} {F : Nat → Prop} {C : Ch} {x : Bx} {bs : List Bc} {fe : List Fe}
theorem CAt.blk (h : CAt w p F C x bs fe) {i : Nat} {b : Bc} (hi : bs[i]? = some b) : w.cell? ⟨x.gb, i * 4, none⟩ = some (.bool b.m) ∧ w.cell? ⟨x.gb, i * 4 + 1, none⟩ = some (.bool b.r) ∧ w.cell? ⟨x.gb, i * 4 + 2, none⟩ = some (.int .i64 b.nx) ∧ w.cell? ⟨x.gb, i * 4 + 3, none⟩ = some (.slice (some ⟨b.g, 0, none⟩) b.ps.length b.ps.length) := by
 have h0 := flat_get Bc.cells 4 Bc.cells_len 0 (by omega) bs i b hi
 have h1 := flat_get Bc.cells 4 Bc.cells_len 1 (by omega) bs i b hi
 have h2 := flat_get Bc.cells 4 Bc.cells_len 2 (by omega) bs i b hi
 have h3 := flat_get Bc.cells 4 Bc.cells_len 3 (by omega) bs i b hi
 simp only [World.cell?, h.row, List.getElem?_toArray]
 exact ⟨h0, h1, h2, h3⟩
theorem BcOk.page {L P : Nat} {b : Bc} (h : BcOk w F L P b) {k : Nat} {q : Pc} (hk : b.ps[k]? = some q) : w.cell? ⟨b.g, k * 2, none⟩ = some (.slice q.a q.n q.c) ∧ w.cell? ⟨b.g, k * 2 + 1, none⟩ = some (.bool q.h) := by
 have h0 := flat_get Pc.cells 2 Pc.cells_len 0 (by omega) b.ps k q hk
 have h1 := flat_get Pc.cells 2 Pc.cells_len 1 (by omega) b.ps k q hk
 simp only [World.cell?, h.row, List.getElem?_toArray]
 exact ⟨h0, h1⟩
theorem CAt.len (h : CAt w p F C x bs fe) : bs.length = C.bl.length := by rw [← h.bl]; simp
def hasP (B P : Nat) (b q : Int) : Bool := hasB B b && hasB P q
end
theorem hasPage_a (x : Bx) (p B P : Nat) (pb pp : Int) (w : World) (h : x.at w p) (hB : x.B = B) (hP : x.P = P) (hv : hasB B pb = false) :
  Calls Try.prog 57 #[.pointer (some ⟨p, 0, none⟩), .agg #[.int .i64 pb, .int .i64 pp]] w fun e w' => e = .returned (.bool false) ∧ Below w.heap.size w w' := by
 have hp := h.lt
 have HX : Hid (x.at (w.alloc (.cells #[.int .i64 pb, .int .i64 pp] 41)).drew p) := h.keep (alloc_old _ _ hp)
 have c1 := HX.out.c1
 rw [hP] at c1
 clear h hP
 go_enter Try.func57, Try.ntmps57
 go_wp2
 refine wp_region_held_drew (S := (fun u => u.cell? ⟨w.heap.size, 0, none⟩ = some (.int .i64 pb) ∧ u.cell? ⟨w.heap.size, 1, none⟩ = some (.int .i64 pp) ∧ u.cell? ⟨p, 1, none⟩ = some (.int .i64 (P : Int)))) (by kernel_rfl) (⟨by simp, by simp, c1⟩) fun O => ?_
 refine tk 0 ?_
 refine tk 1 ?_
 refine tk 2 ?_
 refine rd 3 fun K N => ?_
 go_simp
 go_at_call 85
 refine (hasBlock_any (HX.out) pb B hB).mono ?_
 rintro e u1 ⟨rfl, h1⟩
 rw [h1, hv]
 clear h1
 have hZ := O
 go_wp2_with fail
 clear O
 refine N.out _ _ hZ fun O => ?_
 clear N K hZ
 try simp only [zz]
 refine tk 4 ?_
 refine tu 5 ?_
 refine tu 6 ?_
 refine tu 7 ?_
 refine tk 8 ?_
 refine tk 9 ?_
 refine tu 10 ?_
 refine tu 11 ?_
 refine tu 12 ?_
 refine tu 13 ?_
 refine tu 14 ?_
 refine tu 15 ?_
 refine tu 16 ?_
 refine tu 17 ?_
 refine tk 18 ?_
 refine tk 19 ?_
 refine td ?_
 go_wp2
 go_ret
 exact ⟨rfl, below_trans (below_alloc w _) ⟨rfl, rfl, rfl, Nat.le_refl _, fun _ _ => rfl⟩⟩
theorem hasPage_b (x : Bx) (p B P : Nat) (pb pp : Int) (w : World) (h : x.at w p) (hB : x.B = B) (hP : x.P = P) (hv : hasB B pb = true) (h0 : decide (pp ≥ 0) = false) :
  Calls Try.prog 57 #[.pointer (some ⟨p, 0, none⟩), .agg #[.int .i64 pb, .int .i64 pp]] w fun e w' => e = .returned (.bool false) ∧ Below w.heap.size w w' := by
 have hp := h.lt
 have HX : Hid (x.at (w.alloc (.cells #[.int .i64 pb, .int .i64 pp] 41)).drew p) := h.keep (alloc_old _ _ hp)
 have c1 := HX.out.c1
 rw [hP] at c1
 clear h hP
 go_enter Try.func57, Try.ntmps57
 go_wp2
 refine wp_region_held_drew (S := (fun u => u.cell? ⟨w.heap.size, 0, none⟩ = some (.int .i64 pb) ∧ u.cell? ⟨w.heap.size, 1, none⟩ = some (.int .i64 pp) ∧ u.cell? ⟨p, 1, none⟩ = some (.int .i64 (P : Int)))) (by kernel_rfl) (⟨by simp, by simp, c1⟩) fun O => ?_
 refine tk 0 ?_
 refine tk 1 ?_
 refine tk 2 ?_
 refine rd 3 fun K N => ?_
 go_simp
 go_at_call 85
 refine (hasBlock_any (HX.out) pb B hB).mono ?_
 rintro e u1 ⟨rfl, h1⟩
 rw [h1, hv]
 clear h1
 have hZ := O
 go_wp2_with fail
 clear O
 refine N.out _ _ hZ fun O => ?_
 clear N K hZ
 try simp only [zz]
 refine tk 4 ?_
 refine tk 5 ?_
 refine tk 6 ?_
 refine tk 7 ?_
 refine tk 8 ?_
 refine tk 9 ?_
 refine tu 10 ?_
 refine tu 11 ?_
 refine tu 12 ?_
 refine tu 13 ?_
 refine tu 14 ?_
 refine tu 15 ?_
 refine tu 16 ?_
 refine tu 17 ?_
 refine tk 18 ?_
 refine tk 19 ?_
 refine td ?_
 go_wp2
 go_ret
 exact ⟨rfl, below_trans (below_alloc w _) ⟨rfl, rfl, rfl, Nat.le_refl _, fun _ _ => rfl⟩⟩
theorem hasPage_c (x : Bx) (p B P : Nat) (pb pp : Int) (w : World) (h : x.at w p) (hB : x.B = B) (hP : x.P = P) (hv : hasB B pb = true) (h0 : decide (pp ≥ 0) = true) (h1 : decide (pp < (P : Int)) = false) :
  Calls Try.prog 57 #[.pointer (some ⟨p, 0, none⟩), .agg #[.int .i64 pb, .int .i64 pp]] w fun e w' => e = .returned (.bool false) ∧ Below w.heap.size w w' := by
 have hp := h.lt
 have HX : Hid (x.at (w.alloc (.cells #[.int .i64 pb, .int .i64 pp] 41)).drew p) := h.keep (alloc_old _ _ hp)
 have c1 := HX.out.c1
 rw [hP] at c1
 clear h hP
 go_enter Try.func57, Try.ntmps57
 go_wp2
 refine wp_region_held_drew (S := (fun u => u.cell? ⟨w.heap.size, 0, none⟩ = some (.int .i64 pb) ∧ u.cell? ⟨w.heap.size, 1, none⟩ = some (.int .i64 pp) ∧ u.cell? ⟨p, 1, none⟩ = some (.int .i64 (P : Int)))) (by kernel_rfl) (⟨by simp, by simp, c1⟩) fun O => ?_
 refine tk 0 ?_
 refine tk 1 ?_
 refine tk 2 ?_
 refine rd 3 fun K N => ?_
 go_simp
 go_at_call 85
 refine (hasBlock_any (HX.out) pb B hB).mono ?_
 rintro e u1 ⟨rfl, h1⟩
 rw [h1, hv]
 clear h1
 have hZ := O
 go_wp2_with fail
 clear O
 refine N.out _ _ hZ fun O => ?_
 clear N K hZ
 try simp only [zz]
 refine tk 4 ?_
 refine tk 5 ?_
 refine tk 6 ?_
 refine tk 7 ?_
 refine tk 8 ?_
 refine tk 9 ?_
 refine tk 10 ?_
 refine tk 11 ?_
 refine tk 12 ?_
 refine tk 13 ?_
 refine tk 14 ?_
 refine tk 15 ?_
 refine tk 16 ?_
 refine tk 17 ?_
 refine tk 18 ?_
 refine tk 19 ?_
 refine td ?_
 go_wp2
 go_ret
 exact ⟨rfl, below_trans (below_alloc w _) ⟨rfl, rfl, rfl, Nat.le_refl _, fun _ _ => rfl⟩⟩
theorem hasPage_d (x : Bx) (p B P : Nat) (pb pp : Int) (w : World) (h : x.at w p) (hB : x.B = B) (hP : x.P = P) (hv : hasB B pb = true) (h0 : decide (pp ≥ 0) = true) (h1 : decide (pp < (P : Int)) = true) :
  Calls Try.prog 57 #[.pointer (some ⟨p, 0, none⟩), .agg #[.int .i64 pb, .int .i64 pp]] w fun e w' => e = .returned (.bool true) ∧ Below w.heap.size w w' := by
 have hp := h.lt
 have HX : Hid (x.at (w.alloc (.cells #[.int .i64 pb, .int .i64 pp] 41)).drew p) := h.keep (alloc_old _ _ hp)
 have c1 := HX.out.c1
 rw [hP] at c1
 clear h hP
 go_enter Try.func57, Try.ntmps57
 go_wp2
 refine wp_region_held_drew (S := (fun u => u.cell? ⟨w.heap.size, 0, none⟩ = some (.int .i64 pb) ∧ u.cell? ⟨w.heap.size, 1, none⟩ = some (.int .i64 pp) ∧ u.cell? ⟨p, 1, none⟩ = some (.int .i64 (P : Int)))) (by kernel_rfl) (⟨by simp, by simp, c1⟩) fun O => ?_
 refine tk 0 ?_
 refine tk 1 ?_
 refine tk 2 ?_
 refine rd 3 fun K N => ?_
 go_simp
 go_at_call 85
 refine (hasBlock_any (HX.out) pb B hB).mono ?_
 rintro e u1 ⟨rfl, h1⟩
 rw [h1, hv]
 clear h1
 have hZ := O
 go_wp2_with fail
 clear O
 refine N.out _ _ hZ fun O => ?_
 clear N K hZ
 try simp only [zz]
 refine tk 4 ?_
 refine tk 5 ?_
 refine tk 6 ?_
 refine tk 7 ?_
 refine tk 8 ?_
 refine tk 9 ?_
 refine tk 10 ?_
 refine tk 11 ?_
 refine tk 12 ?_
 refine tk 13 ?_
 refine tk 14 ?_
 refine tk 15 ?_
 refine tk 16 ?_
 refine tk 17 ?_
 refine tk 18 ?_
 refine tk 19 ?_
 refine td ?_
 go_wp2
 go_ret
 exact ⟨rfl, below_trans (below_alloc w _) ⟨rfl, rfl, rfl, Nat.le_refl _, fun _ _ => rfl⟩⟩
theorem hasPage_any (x : Bx) (p B P : Nat) (pb pp : Int) (w : World) (h : x.at w p) (hB : x.B = B) (hP : x.P = P) :
  Calls Try.prog 57 #[.pointer (some ⟨p, 0, none⟩), .agg #[.int .i64 pb, .int .i64 pp]] w fun e w' => e = .returned (.bool (hasP B P pb pp)) ∧ Below w.heap.size w w' := by
 unfold hasP
 cases hv : hasB B pb with
 | false => rw [Bool.false_and]; exact hasPage_a x p B P pb pp w h hB hP hv
 | true =>
  rw [Bool.true_and]
  by_cases h0 : 0 ≤ pp
  ·by_cases h1 : pp < (P : Int)
   ·rw [show hasB P pp = true from decide_eq_true ⟨h0, h1⟩]
    exact hasPage_d x p B P pb pp w h hB hP hv (decide_eq_true h0) (decide_eq_true h1)
   ·rw [show hasB P pp = false from decide_eq_false (by omega)]
    exact hasPage_c x p B P pb pp w h hB hP hv (decide_eq_true h0) (decide_eq_false h1)
  ·rw [show hasB P pp = false from decide_eq_false (by omega)]
   exact hasPage_b x p B P pb pp w h hB hP hv (decide_eq_false h0)
end Go.Proofs.Ytadlkikjfonkgaa
