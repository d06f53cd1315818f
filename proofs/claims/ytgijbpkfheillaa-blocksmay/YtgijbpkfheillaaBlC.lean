/-
  SEAT Ytgijbpkfheillaa: rows of blocks; what a list may be.
-/
import Derived.Test.YtgijbpkfheillaaBase
namespace Go.Proofs.Ytgijbpkfheillaa
open Go.RowKit
set_option linter.unusedVariables false

theorem plain_add (b off j : Nat) : (⟨b, off, none⟩ : Addr).add j = ⟨b, off + j, none⟩ := by unfold Addr.add; split <;> simp_all

/-- A block as it is told. -/
structure Bk where
  s : Int
  h : Int
  r : Bool
  l : Int
def Bk.zero : Bk := ⟨0, 0, false, 0⟩
def Bk.cell (b : Bk) : Nat → Value
  | 0 => .int .i64 b.s
  | 1 => .int .u64 b.h
  | 2 => .bool b.r
  | _ => .int .i64 b.l
def Wf (n : Int) : Prop := -9223372036854775808 ≤ n ∧ n ≤ 9223372036854775807
structure Bk.Ok (b : Bk) : Prop where
  s : Wf b.s
  h : 0 ≤ b.h ∧ b.h ≤ 18446744073709551615
  l : Wf b.l
def Bk.cells (b : Bk) : List Value := [.int .i64 b.s, .int .u64 b.h, .bool b.r, .int .i64 b.l]

def ReadsK (w : World) (a : Option Addr) (len : Nat) (bs : List Bk) : Prop :=
  bs.length = len ∧ (∀ c ∈ bs, c.Ok) ∧ (a = none → len = 0) ∧ ∀ x, a = some x → ∀ i, i < len → ∀ j, j < 4 → w.cell? (x.add (i * 4 + j)) = some ((bs.getD i Bk.zero).cell j)

theorem ReadsK.pos {w : World} {a : Option Addr} {len : Nat} {bs : List Bk} (h : ReadsK w a len bs) (hp : 0 < len) :
    ∃ b off, a = some ⟨b, off, none⟩ ∧ b < w.heap.size ∧ ∀ i, i < len → w.cell? ⟨b, off + i * 4, none⟩ = some (.int .i64 (bs.getD i Bk.zero).s) ∧ w.cell? ⟨b, off + i * 4 + 1, none⟩ = some (.int .u64 (bs.getD i Bk.zero).h) ∧ w.cell? ⟨b, off + i * 4 + 2, none⟩ = some (.bool (bs.getD i Bk.zero).r) ∧ w.cell? ⟨b, off + i * 4 + 3, none⟩ = some (.int .i64 (bs.getD i Bk.zero).l) := by
  obtain ⟨hl, _, hn, hc⟩ := h
  cases a with
  | none => have := hn rfl; omega
  | some x =>
    obtain ⟨b, off, spot⟩ := x
    have h0 := hc _ rfl 0 hp 0 (by omega)
    have hspot : spot = none := by simpa [Addr.add] using World.cell?_spot h0
    subst hspot
    refine ⟨b, off, rfl, by simpa [Addr.add] using block_lt_of_cell h0, fun i hi => ?_⟩
    have k0 := hc _ rfl i hi 0 (by omega)
    have k1 := hc _ rfl i hi 1 (by omega)
    have k2 := hc _ rfl i hi 2 (by omega)
    have k3 := hc _ rfl i hi 3 (by omega)
    rw [plain_add] at k0 k1 k2 k3
    exact ⟨k0, k1, k2, k3⟩

theorem ReadsK.below {w w' : World} {a : Option Addr} {len : Nat} {bs : List Bk} (h : ReadsK w a len bs) (hb : Below w.heap.size w w') : ReadsK w' a len bs := by
  obtain ⟨hl, ho, hn, hc⟩ := h
  refine ⟨hl, ho, hn, fun x hx i hi j hj => ?_⟩
  have h1 := hc x hx i hi j hj
  rw [hb.cell (block_lt_of_cell h1)]
  exact h1

theorem okAt {bs : List Bk} (h : ∀ c ∈ bs, c.Ok) (i : Nat) (hi : i < bs.length) : (bs.getD i Bk.zero).Ok := by
  rw [List.getD_eq_getElem?_getD, List.getElem?_eq_getElem hi]
  exact h _ (List.getElem_mem hi)

/-- No block ahead has the same Head above 0. -/
def headsOk (bs : List Bk) (i : Nat) : Bool := ((bs.getD i Bk.zero).h == 0) || (List.range i).all fun j => (bs.getD j Bk.zero).h != (bs.getD i Bk.zero).h
/-- The first k blocks are as they may be. -/
def preOk (P last : Int) (bs : List Bk) : Nat → Bool
  | 0 => true
  | k + 1 => preOk P last bs k && (rowOk P (bs.getD k Bk.zero).s (bs.getD k Bk.zero).h (bs.getD k Bk.zero).r (bs.getD k Bk.zero).l && lastOk (bs.getD k Bk.zero).s ((k : Int) == last) && headsOk bs k)
/-- How many of the first k are open. -/
def opens (bs : List Bk) : Nat → Nat
  | 0 => 0
  | k + 1 => opens bs k + (if (bs.getD k Bk.zero).s = 2 then 1 else 0)
def mayOk (P last : Int) (bs : List Bk) : Bool := preOk P last bs bs.length && decide (opens bs bs.length ≤ 1)
theorem preOk_false {P last : Int} {bs : List Bk} {k : Nat} (h : preOk P last bs k = false) : ∀ n, k ≤ n → preOk P last bs n = false := by
  intro n hn
  induction n with
  | zero => obtain rfl : k = 0 := by omega
            exact h
  | succ n ih =>
    by_cases e : k = n + 1
    · subst e; exact h
    · rw [preOk, ih (by omega)]; rfl
theorem opens_le (bs : List Bk) : ∀ k, opens bs k ≤ k
  | 0 => Nat.le_refl _
  | k + 1 => by
    have := opens_le bs k
    rw [opens]
    split <;> omega
end Go.Proofs.Ytgijbpkfheillaa
