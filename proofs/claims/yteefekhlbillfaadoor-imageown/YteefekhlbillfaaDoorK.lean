/-
  SEAT YteefekhlbillfaaDoor: rows of places.
-/
import Derived.Test.YteefekhlbillfaaDoorE
namespace Go.Proofs.YteefekhlbillfaaDoor
open Go.RowKit
set_option linter.unusedVariables false

structure Pl where
  x : Int
  y : Int
def Pl.zero : Pl := ⟨0, 0⟩
def Pl.cells (p : Pl) : List Value := [.int .i64 p.x, .int .i64 p.y]
def Pl.cell (p : Pl) : Nat → Value
  | 0 => .int .i64 p.x
  | _ => .int .i64 p.y

def flatP (ps : List Pl) : List Value := ps.flatMap Pl.cells
theorem flatP_append (xs ys : List Pl) : flatP (xs ++ ys) = flatP xs ++ flatP ys := by simp [flatP]
theorem flatP_length (bs : List Pl) : (flatP bs).length = bs.length * 2 := by
  induction bs with
  | nil => rfl
  | cons b r ih => rw [show b :: r = [b] ++ r from rfl, flatP_append, List.length_append, ih]; simp [flatP, Pl.cells]; omega
theorem flatP_cell (bs : List Pl) (i j : Nat) (hi : i < bs.length) (hj : j < 2) : (flatP bs)[i * 2 + j]? = some ((bs.getD i Pl.zero).cell j) := by
  induction bs generalizing i with
  | nil => exact absurd hi (Nat.not_lt_zero _)
  | cons b r ih =>
    rw [show b :: r = [b] ++ r from rfl, flatP_append]
    have hl : (flatP [b]).length = 2 := by simp [flatP, Pl.cells]
    match i with
    | 0 =>
      rw [List.getElem?_append_left (by omega)]
      match j, hj with
      | 0, _ => rfl
      | 1, _ => rfl
    | i + 1 =>
      rw [List.getElem?_append_right (by omega), hl, show (i + 1) * 2 + j - 2 = i * 2 + j by omega, ih i (by simpa using hi)]
      simp
theorem flatP_one (bs : List Pl) : ∀ u ∈ flatP bs, u.oneCell' = true := by
  intro u hu
  obtain ⟨b, _, hb⟩ := List.mem_flatMap.1 hu
  simp [Pl.cells] at hb
  rcases hb with rfl | rfl <;> rfl
theorem info40 : (Tryd.prog.info? 40).map (fun i => (i.zero, i.size, i.bytes)) = some (some (.agg #[.int .i64 0, .int .i64 0]), 2, 16) := by kernel_rfl

def ReadsP (w : World) (a : Option Addr) (len : Nat) (bs : List Pl) : Prop :=
  bs.length = len ∧ (a = none → len = 0) ∧ ∀ x, a = some x → ∀ i, i < len → ∀ j, j < 2 → w.cell? (x.add (i * 2 + j)) = some ((bs.getD i Pl.zero).cell j)

theorem ReadsP.pos {w : World} {a : Option Addr} {len : Nat} {bs : List Pl} (h : ReadsP w a len bs) (hp : 0 < len) :
    ∃ b off, a = some ⟨b, off, none⟩ ∧ b < w.heap.size ∧ ∀ i, i < len → w.cell? ⟨b, off + i * 2, none⟩ = some (.int .i64 (bs.getD i Pl.zero).x) ∧ w.cell? ⟨b, off + i * 2 + 1, none⟩ = some (.int .i64 (bs.getD i Pl.zero).y) := by
  obtain ⟨hl, hn, hc⟩ := h
  cases a with
  | none => have := hn rfl; omega
  | some x =>
    obtain ⟨b, off, spot⟩ := x
    have h0 := hc _ rfl 0 hp 0 (by omega)
    have hspot : spot = none := by simpa [Addr.add] using World.cell?_spot h0
    subst hspot
    refine ⟨b, off, rfl, by simpa [Addr.add] using block_lt_of_cell h0, fun i hi => ?_⟩
    have k0 := hc _ rfl i hi 0 (by omega)
    have k1 := hc _ rfl i hi 1 (by omega)
    rw [plain_add] at k0 k1
    exact ⟨k0, k1⟩

theorem ReadsP.below {w w' : World} {a : Option Addr} {len : Nat} {bs : List Pl} (h : ReadsP w a len bs) (hb : Below w.heap.size w w') : ReadsP w' a len bs := by
  obtain ⟨hl, hn, hc⟩ := h
  refine ⟨hl, hn, fun x hx i hi j hj => ?_⟩
  have h1 := hc x hx i hi j hj
  rw [hb.cell (block_lt_of_cell h1)]
  exact h1

/-- A row of places of the call's own. -/
theorem ownP_reads {w : World} {B n : Nat} {v : Value} {ps : List Pl} (h : w.ownsRow B 40 2 v n (flatP ps)) : ∃ a c, v = .slice a n c ∧ ReadsP w a n ps := by
  have hl : ps.length = n := by have := h.1; rw [flatP_length] at this; omega
  have h' := h
  rcases h.2 with ⟨hv, h0⟩ | ⟨g, cap, cur, hv, _⟩
  · subst h0
    exact ⟨none, 0, hv, hl, fun _ => rfl, fun _ h => by cases h⟩
  · subst hv
    refine ⟨_, _, rfl, hl, (fun h => by cases h), fun x hx i hi j hj => ?_⟩
    cases hx
    exact World.ownsRow.cells h' (g := g) rfl (i * 2 + j) _ (flatP_cell ps i j (by omega) hj)

set_option maxHeartbeats 1000000 in
set_option maxRecDepth 100000 in
theorem samePl_eq (a a' : Option Addr) (len cap cap' : Nat) (bs : List Pl) (w : World) (hr : ReadsP w a len bs) (hr' : ReadsP w a' len bs) (hl : len ≤ 140737488355000) :
    Calls Tryd.prog 20 #[.slice a len cap, .slice a' len cap'] w fun e w' => e = .returned (.bool true) ∧ ∃ q, w' = w.drewN q := by
  have HR : Hid (ReadsP w a len bs) := hr
  have HR' : Hid (ReadsP w a' len bs) := hr'
  have d0 : ((len : Int) != len) = false := by simp
  clear hr hr'
  go_enter Tryd.func20, Tryd.ntmps20
  go_wp2
  go_loopw [5] (fun s5 wr => ∃ k : Nat, k ≤ len ∧ s5 = .int .i64 k ∧ ∃ q, wr = w.drewN q)
    (fun i _ => len - (intOf i).toNat)
  case atStart => exact ⟨0, Nat.zero_le _, rfl, 0, rfl⟩
  case round =>
    obtain ⟨k, hk, rfl, q, rfl⟩ := hrel
    by_cases hlt : k < len
    · obtain ⟨g, off, rfl, hg, hcell⟩ := HR.out.pos (by omega)
      obtain ⟨g', off', rfl, hg', hcell'⟩ := HR'.out.pos (by omega)
      obtain ⟨B, hB⟩ : ∃ B, bs.getD k Pl.zero = B := ⟨_, rfl⟩
      have hc := hcell k hlt
      have hc' := hcell' k hlt
      rw [hB] at hc hc'
      obtain ⟨px, py⟩ := B
      obtain ⟨c0, c1⟩ := hc
      obtain ⟨e0, e1⟩ := hc'
      simp only at c0 c1 e0 e1
      have d1 : (k : Int) < len := by omega
      clear hcell hcell' hB
      go_wp2
      go_quiet (fail)
      go_wp2
      go_roundw
      case rel => exact ⟨k + 1, by omega, by go_num, _, rfl⟩
      case measure => simp [intOf]; omega
    · have hkn : k = len := by omega
      subst hkn
      go_wp2
      go_ret
      exact ⟨rfl, _, rfl⟩

theorem news_oneP (w : World) (x y : Int) : ∀ j u, (flatP [⟨x, y⟩])[j]? = some u → (w.alloc (.cells #[.int .i64 x, .int .i64 y] 40)).cell? ((⟨w.heap.size, 0, none⟩ : Addr).add j) = some u := by
  intro j u hj
  match j, hj with
  | 0, hj => simp [flatP, Pl.cells] at hj; subst hj; simp [Addr.add]
  | 1, hj => simp [flatP, Pl.cells] at hj; subst hj; simp [Addr.add]
  | j + 2, hj => simp [flatP, Pl.cells] at hj

end Go.Proofs.YteefekhlbillfaaDoor
