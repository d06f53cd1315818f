/-
  SEAT Ytjhphkfpcpfdnaa: rows of blocks and of pages, as made.
-/
import Derived.Test.YtjhphkfpcpfdnaaWb
namespace Go.Proofs.Ytjhphkfpcpfdnaa
open Go.RowKit Go.Conc
set_option linter.unusedVariables false

theorem info74 : (Try.prog.info? 74).map (fun i => (i.zero, i.size, i.bytes)) = some (some (.agg #[.bool false, .bool false, .int .i64 0, .slice none 0 0]), 4, 40) := by kernel_rfl
theorem info117 : (Try.prog.info? 117).map (fun i => (i.zero, i.size, i.bytes)) = some (some (.agg #[.slice none 0 0, .bool false]), 2, 32) := by kernel_rfl
def z4 : List Value := [.bool false, .bool false, .int .i64 0, .slice none 0 0]
def z2 : List Value := [.slice none 0 0, .bool false]
theorem rep_get (l : List Value) (k : Nat) (hl : l.length = k) (hk : 0 < k) : ∀ (n i : Nat), i < n * k → ((List.replicate n l).flatMap id)[i]? = l[i % k]?
  | 0, i, h => by simp at h
  | n + 1, i, h => by
    rw [List.replicate_succ, List.flatMap_cons]
    by_cases hi : i < k
    · rw [List.getElem?_append_left (by show i < l.length; omega), Nat.mod_eq_of_lt hi]; rfl
    · rw [List.getElem?_append_right (by show l.length ≤ i; omega)]
      show ((List.replicate n l).flatMap id)[i - l.length]? = _
      rw [hl, rep_get l k hl hk n (i - k) (by rw [Nat.add_mul] at h; omega)]
      congr 1
      rw [← Nat.mod_eq_sub_mod (by omega)]
theorem rep_len (l : List Value) (k : Nat) (hl : l.length = k) (n : Nat) : ((List.replicate n l).flatMap id).length = n * k := by
  induction n with
  | zero => simp
  | succ n ih => rw [List.replicate_succ, List.flatMap_cons, List.length_append, ih]; show l.length + _ = _; rw [hl, Nat.add_mul]; omega
theorem made_eq (l : List Value) (k : Nat) (hl : l.length = k) (hk : 0 < k) (n : Nat) : madeCells l.toArray (n * k) = ((List.replicate n l).flatMap id).toArray := by
  apply Array.ext'
  refine List.ext_getElem? (fun i => ?_)
  by_cases hi : i < n * k
  · rw [List.toList_toArray, rep_get l k hl hk n i hi]
    have hm : i % k < l.length := by rw [hl]; exact Nat.mod_lt _ hk
    simp [madeCells, List.getElem?_range hi, hl]
    rw [List.getElem?_eq_getElem hm]
    rfl
  · rw [List.getElem?_eq_none (by simp [size_madeCells]; omega), List.getElem?_eq_none (by rw [List.toList_toArray, rep_len l k hl]; omega)]
/-- A row of blocks, of pages, as made. -/
def rowB (n : Nat) : Array Value := ((List.replicate n z4).flatMap id).toArray
def rowP (n : Nat) : Array Value := ((List.replicate n z2).flatMap id).toArray
theorem mk96 (w : World) (n : Nat) (hn : n ≤ 4096) : (Instr.makeSlice 63 (.int .i64 (n : Int)) (.int .i64 (n : Int))).run Try.prog w = .ok (.slice (some ⟨w.heap.size, 0, none⟩) n n) (w.alloc (.cells (rowB n) 74)) := by
  obtain ⟨i, hi, hz0, hz1, hb⟩ := info_parts info74
  have h := run_makeSlice (P := Try.prog) w 63 74 i _ Try.underlying63 hi hz0 .i64 .i64 (n : Int) (n : Int) (by omega) (by omega) (by rw [hz1]; simp; omega) (by rw [hb]; omega) (by omega)
  rw [hz1] at h
  simp only [Int.toNat_natCast] at h
  rw [h, rowB, ← made_eq z4 4 rfl (by omega) n]
  rfl
theorem mk104 (w : World) (n : Nat) (hn : n ≤ 4096) : (Instr.makeSlice 72 (.int .i64 (n : Int)) (.int .i64 (n : Int))).run Try.prog w = .ok (.slice (some ⟨w.heap.size, 0, none⟩) n n) (w.alloc (.cells (rowP n) 117)) := by
  obtain ⟨i, hi, hz0, hz1, hb⟩ := info_parts info117
  have h := run_makeSlice (P := Try.prog) w 72 117 i _ Try.underlying72 hi hz0 .i64 .i64 (n : Int) (n : Int) (by omega) (by omega) (by rw [hz1]; simp; omega) (by rw [hb]; omega) (by omega)
  rw [hz1] at h
  simp only [Int.toNat_natCast] at h
  rw [h, rowP, ← made_eq z2 2 rfl (by omega) n]
  rfl
/-- A fresh page, a row of them. -/
def pc0 (L : Nat) : Pc := ⟨none, 0, 0, List.replicate L 255, false⟩
theorem pages0 (L n : Nat) : (List.replicate n z2).flatMap id = (List.replicate n (pc0 L)).flatMap Pc.cells := by
  induction n with
  | zero => rfl
  | succ n ih => rw [List.replicate_succ, List.replicate_succ, List.flatMap_cons, List.flatMap_cons, ih]; rfl
end Go.Proofs.Ytjhphkfpcpfdnaa
