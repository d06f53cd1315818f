/-
  SEAT Ytjginocbbnmgaaa: without, pure.
-/
import Derived.Test.YtjginocbbnmgaaaTnL
namespace Go.Proofs.Ytjginocbbnmgaaa
open Go.RowKit
set_option linter.unusedVariables false

/-- What is left when all goes from one number up to another. -/
def cutM (M : Mp) (f t : Int) : Mp := fun k => if f ≤ (k : Int) ∧ (k : Int) < t then none else M k
/-- Goes what lies at a number? -/
def hit (M : Mp) (f t : Int) (k : Nat) : Bool := decide (f ≤ (k : Int) ∧ (k : Int) < t) && (M k).isSome
/-- How many of the first numbers. -/
def cnt (p : Nat → Bool) : Nat → Nat
  | 0 => 0
  | n + 1 => cnt p n + if p n then 1 else 0
theorem cnt_add (p : Nat → Bool) (a : Nat) : ∀ b, cnt p (a + b) = cnt p a + cnt (fun j => p (a + j)) b
  | 0 => rfl
  | b + 1 => by
    rw [← Nat.add_assoc]
    simp only [cnt]
    rw [cnt_add p a b]
    omega
theorem cnt_congr {p q : Nat → Bool} : ∀ {n : Nat}, (∀ k, k < n → p k = q k) → cnt p n = cnt q n
  | 0, _ => rfl
  | n + 1, h => by
    simp only [cnt]
    rw [cnt_congr (fun k hk => h k (by omega)), h n (by omega)]
theorem cnt_none {p : Nat → Bool} : ∀ {n : Nat}, (∀ k, k < n → p k = false) → cnt p n = 0
  | 0, _ => rfl
  | n + 1, h => by
    simp only [cnt]
    rw [cnt_none (fun k hk => h k (by omega)), h n (by omega)]
    rfl
theorem cnt_le (p : Nat → Bool) : ∀ n, cnt p n ≤ n
  | 0 => Nat.le_refl _
  | n + 1 => by
    have := cnt_le p n
    simp only [cnt]
    split <;> omega
theorem sub_cutM (M : Mp) (f t : Int) (s i : Nat) : sub (cutM M f t) s i = cutM (sub M s i) (f - ((i * s : Nat) : Int)) (t - ((i * s : Nat) : Int)) := by
  funext k
  unfold sub cutM
  have e : (f ≤ ((i * s + k : Nat) : Int) ∧ ((i * s + k : Nat) : Int) < t) ↔ (f - ((i * s : Nat) : Int) ≤ (k : Int) ∧ (k : Int) < t - ((i * s : Nat) : Int)) := by
    constructor <;> rintro ⟨h1, h2⟩ <;> constructor <;> omega
  simp only [e]
theorem hit_sub (M : Mp) (f t : Int) (s i : Nat) : (fun j => hit M f t (i * s + j)) = hit (sub M s i) (f - ((i * s : Nat) : Int)) (t - ((i * s : Nat) : Int)) := by
  funext k
  unfold hit sub
  have e : (f ≤ ((i * s + k : Nat) : Int) ∧ ((i * s + k : Nat) : Int) < t) ↔ (f - ((i * s : Nat) : Int) ≤ (k : Int) ∧ (k : Int) < t - ((i * s : Nat) : Int)) := by
    constructor <;> rintro ⟨h1, h2⟩ <;> constructor <;> omega
  simp only [e]
/-- What one pointer's keys come to. -/
theorem cnt_round (M : Mp) (f t : Int) (s a : Nat) : cnt (hit M f t) ((a + 1) * s) = cnt (hit M f t) (a * s) + cnt (hit (sub M s a) (f - ((a * s : Nat) : Int)) (t - ((a * s : Nat) : Int))) s := by
  rw [Nat.succ_mul, cnt_add, hit_sub]
theorem cutM_idle {M : Mp} {f t : Int} {s : Nat} (h : t ≤ 0 ∨ (s : Int) ≤ f) : ∀ k, k < s → cutM M f t k = M k := fun k hk => by
  unfold cutM
  rw [if_neg]
  rintro ⟨h1, h2⟩
  omega
theorem hit_idle {M : Mp} {f t : Int} {s : Nat} (h : t ≤ 0 ∨ (s : Int) ≤ f) : ∀ k, k < s → hit M f t k = false := fun k hk => by
  unfold hit
  rw [decide_eq_false, Bool.false_and]
  rintro ⟨h1, h2⟩
  omega
theorem void_cutM {M : Mp} {s : Nat} (f t : Int) (h : Void M s) : Void (cutM M f t) s := fun k hk => by
  unfold cutM
  split
  · rfl
  · exact h k hk
theorem cnt_void {M : Mp} {s : Nat} (f t : Int) (h : Void M s) : cnt (hit M f t) s = 0 := cnt_none fun k hk => by
  unfold hit
  rw [h k hk]
  simp
/-- The pointers of a node: the one sort, then the other. -/
def rowOf (l : Nat) (xs : List (Option Nat)) : List (Option Nat) := if l = 0 then List.replicate 16 none ++ xs else xs ++ List.replicate 16 none
theorem rowOf_len (l : Nat) {xs : List (Option Nat)} (h : xs.length = 16) : (rowOf l xs).length = 32 := by
  unfold rowOf
  split <;> simp [h]
theorem row0 (ts : List (Option Nat)) : (List.replicate 16 (Value.pointer none) ++ ts.map ptr).toArray = U96 (rowOf 0 ts) := by
  unfold rowOf U96
  rw [if_pos rfl, List.map_append]
  rfl
theorem row1 (l : Nat) (bs : List (Option Nat)) : (bs.map ptr ++ List.replicate 16 (Value.pointer none)).toArray = U96 (rowOf (l + 1) bs) := by
  unfold rowOf U96
  rw [if_neg (by omega), List.map_append]
  rfl
theorem row_zero (l : Nat) (xs : List (Option Nat)) (h : xs.length = 16) : rowOf l xs = List.replicate 32 none ↔ ∀ i, i < 16 → xs.getD i none = none := by
  have key : ∀ ys : List (Option Nat), ys.length = 16 → (ys = List.replicate 16 none ↔ ∀ i, i < 16 → ys.getD i none = none) := fun ys hy => by
    constructor
    · rintro rfl i hi
      exact repD i
    · intro q
      refine List.ext_getElem (by simp [hy]) (fun i h1 h2 => ?_)
      have := q i (by omega)
      rw [List.getD_eq_getElem?_getD, List.getElem?_eq_getElem h1] at this
      rw [List.getElem_replicate]
      simpa using this
  rw [← key xs h]
  have e32 : (List.replicate 32 (none : Option Nat)) = List.replicate 16 none ++ List.replicate 16 none := by simp
  unfold rowOf
  rw [e32]
  split
  · exact List.append_right_inj _
  · exact List.append_left_inj _
theorem z96_u : (Z96 : Array Value) = U96 (List.replicate 32 none) := rfl
theorem tell_zero (ps : List (Option Nat)) (j : Nat) : Tell (ps.getD j none) ((List.replicate 32 (none : Option Nat)).getD j none) := Or.inr (by
  rw [List.getD_eq_getElem?_getD, List.getElem?_replicate]
  split <;> rfl)
theorem eqGuard96 (w : World) (x y : Operand) (xs ys : Array Value) : (eqGuard .eql 96 x y (.agg xs) (.agg ys)).run Try.prog w = .ok () w := run_eqGuard_agg w .eql 96 x y xs ys (by kernel_rfl)
theorem wpList_eql96 {w : World} {ops : Array Oper} {rest : List Oper} {o : Oper} {a : Act} {Q : Exit → Act → World → Prop} (hgd : o.guard = none) (x y : Operand) (r : TypeId) (ho : o.op = .binOp .eql 96 x y r) (ps qs : List (Option Nat))
    (hx : a.eval x = .agg (U96 ps)) (hy : a.eval y = .agg (U96 qs)) (ha : ps.length = 32) (hb : qs.length = 32) (ht : ∀ j, j < 32 → Tell (ps.getD j none) (qs.getD j none))
    (h : wpList Try.prog ops Q rest (a.put o.dst (.bool (decide (ps = qs)))) w) : wpList Try.prog ops Q (o :: rest) a w := by
  have hrun := eql96 w ps qs ha hb ht
  have hg := eqGuard96 w x y (U96 ps) (U96 qs)
  refine wpList_plain hgd fun K hK => ?_
  unfold Oper.wp
  simp [execOp, ho, hx, hy, hg, hrun, Result.andThen]
  exact hK _ _ h
end Go.Proofs.Ytjginocbbnmgaaa
