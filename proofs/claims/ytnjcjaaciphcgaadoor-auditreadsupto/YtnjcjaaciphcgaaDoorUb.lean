/-
  SEAT YtnjcjaaciphcgaaDoor: rows of findings.
-/
import Derived.Test.YtnjcjaaciphcgaaDoorUa
namespace Go.Proofs.YtnjcjaaciphcgaaDoor
open Go.RowKit Go.Sort Go.Lib
set_option linter.unusedVariables false

structure Fd where
  k : Int
  b : Int
  p : Int
  o : Int
def Fd.zero : Fd := ⟨0, 0, 0, 0⟩
def Fd.cells (f : Fd) : List Value := [.int .i64 f.k, .int .i64 f.b, .int .i64 f.p, .int .i64 f.o]
def Fd.cell (f : Fd) : Nat → Value
  | 0 => .int .i64 f.k
  | 1 => .int .i64 f.b
  | 2 => .int .i64 f.p
  | _ => .int .i64 f.o
def Fd.Ok (f : Fd) : Prop := (-9223372036854775808 ≤ f.k ∧ f.k ≤ 9223372036854775807) ∧ (-9223372036854775808 ≤ f.b ∧ f.b ≤ 9223372036854775807) ∧ (-9223372036854775808 ≤ f.p ∧ f.p ≤ 9223372036854775807) ∧ (-9223372036854775808 ≤ f.o ∧ f.o ≤ 9223372036854775807)

def flatF (fs : List Fd) : List Value := fs.flatMap Fd.cells
theorem flatF_append (xs ys : List Fd) : flatF (xs ++ ys) = flatF xs ++ flatF ys := by simp [flatF]
theorem flatF_length (bs : List Fd) : (flatF bs).length = bs.length * 4 := by
  induction bs with
  | nil => rfl
  | cons b r ih => rw [show b :: r = [b] ++ r from rfl, flatF_append, List.length_append, ih]; simp [flatF, Fd.cells]; omega
theorem flatF_cell (bs : List Fd) (i j : Nat) (hi : i < bs.length) (hj : j < 4) : (flatF bs)[i * 4 + j]? = some ((bs.getD i Fd.zero).cell j) := by
  induction bs generalizing i with
  | nil => exact absurd hi (Nat.not_lt_zero _)
  | cons b r ih =>
    rw [show b :: r = [b] ++ r from rfl, flatF_append]
    have hl : (flatF [b]).length = 4 := by simp [flatF, Fd.cells]
    match i with
    | 0 =>
      rw [List.getElem?_append_left (by omega)]
      match j, hj with
      | 0, _ => rfl
      | 1, _ => rfl
      | 2, _ => rfl
      | 3, _ => rfl
    | i + 1 =>
      rw [List.getElem?_append_right (by omega), hl, show (i + 1) * 4 + j - 4 = i * 4 + j by omega, ih i (by simpa using hi)]
      simp
theorem flatF_one (bs : List Fd) : ∀ u ∈ flatF bs, u.oneCell' = true := by
  intro u hu
  obtain ⟨b, _, hb⟩ := List.mem_flatMap.1 hu
  simp [Fd.cells] at hb
  rcases hb with rfl | rfl | rfl | rfl <;> rfl
theorem info29 : (Tryd.prog.info? 29).map (fun i => (i.zero, i.size, i.bytes)) = some (some (.agg #[.int .i64 0, .int .i64 0, .int .i64 0, .int .i64 0]), 4, 32) := by kernel_rfl
theorem plain_add (b off j : Nat) : (⟨b, off, none⟩ : Addr).add j = ⟨b, off + j, none⟩ := Lib.add_plain b off j

def ReadsF (w : World) (a : Option Addr) (len : Nat) (bs : List Fd) : Prop :=
  bs.length = len ∧ (a = none → len = 0) ∧ ∀ x, a = some x → ∀ i, i < len → ∀ j, j < 4 → w.cell? (x.add (i * 4 + j)) = some ((bs.getD i Fd.zero).cell j)

theorem ReadsF.pos {w : World} {a : Option Addr} {len : Nat} {bs : List Fd} (h : ReadsF w a len bs) (hp : 0 < len) :
    ∃ b off, a = some ⟨b, off, none⟩ ∧ b < w.heap.size ∧ ∀ i, i < len → w.cell? ⟨b, off + i * 4, none⟩ = some (.int .i64 (bs.getD i Fd.zero).k) ∧ w.cell? ⟨b, off + i * 4 + 1, none⟩ = some (.int .i64 (bs.getD i Fd.zero).b) ∧ w.cell? ⟨b, off + i * 4 + 2, none⟩ = some (.int .i64 (bs.getD i Fd.zero).p) ∧ w.cell? ⟨b, off + i * 4 + 3, none⟩ = some (.int .i64 (bs.getD i Fd.zero).o) := by
  obtain ⟨hl, hn, hc⟩ := h
  cases a with
  | none => have := hn rfl; omega
  | some x =>
    obtain ⟨b, off, spot⟩ := x
    have h0 := hc _ rfl 0 hp 0 (by omega)
    have hspot : spot = none := by simpa [Addr.add] using World.cell?_spot h0
    subst hspot
    refine ⟨b, off, rfl, by simpa [Addr.add] using block_lt_of_cell h0, fun i hi => ?_⟩
    have k0 := hc _ rfl i hi 0 (by omega)
    have k1 := hc _ rfl i hi 1 (by omega)
    have k2 := hc _ rfl i hi 2 (by omega)
    have k3 := hc _ rfl i hi 3 (by omega)
    rw [plain_add] at k0 k1 k2 k3
    exact ⟨k0, k1, k2, k3⟩

theorem ReadsF.below {w w' : World} {a : Option Addr} {len : Nat} {bs : List Fd} (h : ReadsF w a len bs) (hb : Below w.heap.size w w') : ReadsF w' a len bs := by
  obtain ⟨hl, hn, hc⟩ := h
  refine ⟨hl, hn, fun x hx i hi j hj => ?_⟩
  have h1 := hc x hx i hi j hj
  rw [hb.cell (block_lt_of_cell h1)]
  exact h1

/-- What lies below a block stays. -/
theorem ReadsF.low {w w' : World} {B bk off : Nat} {len : Nat} {bs : List Fd} (h : ReadsF w (some ⟨bk, off, none⟩) len bs) (hb : Below B w w') (hB : bk < B) : ReadsF w' (some ⟨bk, off, none⟩) len bs := by
  obtain ⟨hl, hn, hc⟩ := h
  refine ⟨hl, hn, fun x hx i hi j hj => ?_⟩
  have h1 := hc x hx i hi j hj
  cases hx
  rw [plain_add] at h1 ⊢
  rw [World.cell?_of_block (hb.block bk hB)]
  exact h1

theorem ownF_reads {w : World} {B n : Nat} {v : Value} {ps : List Fd} (h : w.ownsRow B 29 4 v n (flatF ps)) : ∃ a c, v = .slice a n c ∧ ReadsF w a n ps := by
  have hl : ps.length = n := by have := h.1; rw [flatF_length] at this; omega
  have h' := h
  rcases h.2 with ⟨hv, h0⟩ | ⟨g, cap, cur, hv, _⟩
  · subst h0
    exact ⟨none, 0, hv, hl, fun _ => rfl, fun _ h => by cases h⟩
  · subst hv
    refine ⟨_, _, rfl, hl, (fun h => by cases h), fun x hx i hi j hj => ?_⟩
    cases hx
    exact h'.cells (g := g) rfl _ _ (flatF_cell ps i j (by omega) hj)

/-- A report. -/
structure Rp where
  fl : Nat
  c : Int
  l : Int
  u : Int
  b : Int
  s : Bool
  fs : List Fd

def In (n : Int) : Prop := -9223372036854775808 ≤ n ∧ n ≤ 9223372036854775807
structure Rp.Ok (r : Rp) : Prop where
  fl : r.fl < 18446744073709551616
  c : In r.c
  l : In r.l
  u : In r.u
  b : In r.b
  fs : ∀ f ∈ r.fs, f.Ok
  few : r.fs.length ≤ 1048576

def kw : Nat → List UInt8
  | 1 => [98, 114, 111, 107, 101, 110]
  | 2 => [102, 105, 120, 101, 100]
  | 3 => [115, 116, 97, 108, 101]
  | 4 => [114, 101, 102, 117, 115, 101, 100]
  | 5 => [112, 104, 97, 110, 116, 111, 109]
  | 6 => [108, 111, 115, 116]
  | 7 => [116, 119, 105, 99, 101]
  | 8 => [117, 110, 108, 105, 110, 107, 101, 100]
  | 9 => [98, 97, 100]
  | _ => []
/-- How a kind is shown. -/
def kindB (k : Int) : List UInt8 := if 1 ≤ k ∧ k < 10 then kw k.toNat else Lib.itoa k
def savedB (s : Bool) : List UInt8 := if s then [121, 101, 115] else [110, 111]
def rowB (f : Fd) : List UInt8 := lineB [kindB f.k, Lib.itoa f.b, Lib.itoa f.p, Lib.itoa f.o]
def headB (r : Rp) : List UInt8 :=
  lineB [[102, 108, 111, 111, 114], Lib.decDigits r.fl] ++ lineB [[99, 111, 117, 110, 116, 101, 100], Lib.itoa r.c] ++ lineB [[108, 105, 118, 101], Lib.itoa r.l] ++ lineB [[117, 115, 101, 100], Lib.itoa r.u] ++ lineB [[98, 97, 100], Lib.itoa r.b] ++ lineB [[115, 97, 118, 101, 100], savedB r.s]
def rowsB (fs : List Fd) : List UInt8 := fs.flatMap rowB
def showB (r : Rp) : List UInt8 := headB r ++ rowsB r.fs

theorem rowsB_snoc (fs : List Fd) (f : Fd) : rowsB (fs ++ [f]) = rowsB fs ++ rowB f := by simp [rowsB]
theorem line2 (a b : List UInt8) : lineB [a, b] = a ++ [32] ++ b ++ [10] := by simp [lineB, Lib.join]
theorem line4 (a b c d : List UInt8) : lineB [a, b, c, d] = a ++ [32] ++ b ++ [32] ++ c ++ [32] ++ d ++ [10] := by simp [lineB, Lib.join]

theorem dec_len (u : Nat) (h : u < 18446744073709551616) : (Lib.decDigits u).length ≤ 20 := by
  rw [Lib.decDigits_length]
  by_cases h1 : 1 ≤ u
  · have := Lib.numDigits_eq u h1 h
    split at this <;> omega
  · obtain rfl : u = 0 := by omega
    unfold Lib.nDigits
    simp
theorem itoa_len (n : Int) (h : In n) : (Lib.itoa n).length ≤ 21 := by
  rcases Int.le_total 0 n with h1 | h1
  · obtain ⟨u, rfl⟩ := Int.eq_ofNat_of_zero_le h1
    rw [Lib.itoa_nonneg]
    have := dec_len u (by have := h.2; omega)
    omega
  · obtain ⟨u, rfl⟩ : ∃ u : Nat, n = -(u : Int) := ⟨n.natAbs, by omega⟩
    by_cases h2 : 1 ≤ u
    · rw [Lib.itoa_neg u h2]
      have := dec_len u (by have := h.1; omega)
      simp
      omega
    · obtain rfl : u = 0 := by omega
      rw [show (-((0 : Nat) : Int)) = ((0 : Nat) : Int) from rfl, Lib.itoa_nonneg]
      have := dec_len 0 (by omega)
      omega
theorem kw_len (u : Nat) : (kw u).length ≤ 8 := by
  unfold kw
  split <;> simp
theorem kind_len (k : Int) (h : In k) : (kindB k).length ≤ 21 := by
  unfold kindB
  split
  · next h1 =>
    have := kw_len k.toNat
    omega
  · exact itoa_len k h
theorem row_len (f : Fd) (h : f.Ok) : (rowB f).length ≤ 100 := by
  unfold rowB
  rw [line4]
  have := kind_len f.k h.1
  have := itoa_len f.b h.2.1
  have := itoa_len f.p h.2.2.1
  have := itoa_len f.o h.2.2.2
  simp
  omega
theorem rows_len (fs : List Fd) (h : ∀ f ∈ fs, f.Ok) : (rowsB fs).length ≤ 100 * fs.length := by
  induction fs with
  | nil => simp [rowsB]
  | cons f r ih =>
    rw [show rowsB (f :: r) = rowB f ++ rowsB r from rfl, List.length_append, List.length_cons]
    have := ih (fun x hx => h x (List.mem_cons_of_mem _ hx))
    have := row_len f (h f (by simp))
    omega

end Go.Proofs.YtnjcjaaciphcgaaDoor
