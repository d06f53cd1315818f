/-
  SEAT Ytoaahellfflooaa.
-/
import Derived.WalkLawsBesides
import Derived.Laws.EntriesVeiled
import Derived.Test.YtoaahellfflooaaVKE
import Derived.Laws.OwnMore
namespace Go.Proofs.Ytoaahellfflooaa
open Go.RowKit
set_option linter.unusedVariables false

theorem hide {p : Prop} (h : p) : Hid p := h
theorem lt_of_block {w : World} {g : Nat} {o : Obj} (h : w.heap[g]? = some o) : g < w.heap.size := (Array.getElem?_eq_some_iff.1 h).1
theorem below_alloc (w : World) (b) : Below w.heap.size w (w.alloc b) := (Below.refl _ _).alloc (Nat.le_refl _) _
theorem set_grown (w : World) (g j : Nat) (v : Value) : w.grownBy (w.setCell ⟨g, j, none⟩ v) (some g) := ⟨rfl, rfl, rfl, by simp, fun k hk hne => heap_setCell_other w ⟨g, j, none⟩ k v (fun e => hne (congrArg some e))⟩
def Byt (bs : List Int) : Prop := ∀ x ∈ bs, 0 ≤ x ∧ x ≤ 255

end Go.Proofs.Ytoaahellfflooaa
namespace Go.Proofs.Ytoaahellfflooaa
open Go.RowKit
set_option linter.unusedVariables false

section
variable {w u u' : World} {B q : Nat} {ty : TypeId} {z c : Array Value} {A : Nat} {rest r2 : List Int}
theorem blk_cell {u : World} {A : Nat} {c : Array Value} {ty : TypeId} (h : u.heap[A]? = some (.cells c ty (0, 0))) (j : Nat) {v : Value} (hj : c[j]? = some v) : u.cell? ⟨A, j, none⟩ = some v := by simp [World.cell?, h, hj]
theorem blk_free {u : World} {A : Nat} {c : Array Value} {ty : TypeId} (h : u.heap[A]? = some (.cells c ty (0, 0))) (j : Nat) : u.frozen? ⟨A, j, none⟩ = false := by simp [World.frozen?, h]
end

structure Blk where
  st : Int
  hd : Int
  re : Bool
  lv : Int
def Blk.cells (x : Blk) : List Value := [.int .i64 x.st, .int .u64 x.hd, .bool x.re, .int .i64 x.lv]
section
variable {w u u' : World} {B q : Nat} {ty : TypeId} {z : Array Value} {rest r2 : List Int}
end

structure Chk where
  no : Int
  at_ : Int × Int
  n : Int
def Chk.cells (x : Chk) : List Value := [.int .i64 x.no, .int .i64 x.at_.1, .int .i64 x.at_.2, .int .i64 x.n]
end Go.Proofs.Ytoaahellfflooaa
namespace Go.Proofs.Ytoaahellfflooaa
open Go.RowKit
set_option linter.unusedVariables false

section
variable {α : Type} {rd : List Int → Option (α × List Int)} {k : Nat} {acc : List α} {bs r : List Int} {x : α} {n : Int}
end
section
variable {w u u' : World} {B q : Nat} {e : TypeId} {size : Nat} {v v' : Value} {n m : Nat} {cs ds : List Value} {rest r2 : List Int}
end
def flatChk (l : List Chk) : List Value := l.flatMap Chk.cells
theorem info71 : (Try.prog.info? 71).map (fun i => (i.zero, i.size, i.bytes)) = some (some (.agg #[.int .i64 0, .int .i64 0, .int .i64 0, .int .i64 0]), 4, 32) := by kernel_rfl
def flatBlk (l : List Blk) : List Value := l.flatMap Blk.cells
theorem info48 : (Try.prog.info? 48).map (fun i => (i.zero, i.size, i.bytes)) = some (some (.agg #[.int .i64 0, .int .u64 0, .bool false, .int .i64 0]), 4, 32) := by kernel_rfl
end Go.Proofs.Ytoaahellfflooaa
namespace Go.Proofs.Ytoaahellfflooaa
open Go.RowKit
set_option linter.unusedVariables false

/-- A header. -/
structure Nd where
  k : Int
  p : Int
  N : ByteArray
  z : Int
  m : Int
  st : Int
  h : Int
  T : ByteArray
def Nd.err (x : Nd) : Int := nodeE x.k x.p x.N x.z x.m x.st x.h x.T
/-- An object; its chunks lie elsewhere. -/
structure Ob where
  id : Int
  hd : Bool
  nd : Nd
  pl : Int × Int
  ch : List Chk
def Ob.cells (x : Ob) (v : Value) : List Value := [.int .i64 x.id, .bool x.hd, .int .i64 x.nd.k, .int .i64 x.nd.p, .string x.nd.N, .int .i64 x.nd.z, .int .i64 x.nd.m, .int .u64 x.nd.st, .int .i64 x.nd.h, .string x.nd.T, .int .i64 x.pl.1, .int .i64 x.pl.2, v]
theorem own_slice {w : World} {B e size n : Nat} {v : Value} {xs : List Value} (h : w.ownsRow B e size v n xs) : ∃ a c, v = .slice a n c := by
  rcases h.2 with ⟨h3, h4⟩ | ⟨g, cap, cur, hv, _⟩
  · subst h4; exact ⟨none, 0, h3⟩
  · exact ⟨_, _, hv⟩
section
variable {w u u' : World} {B q : Nat} {ty : TypeId} {z c : Array Value} {A : Nat} {rest r2 : List Int}
end
section
variable {w u u' : World} {B q : Nat} {z c : Array Value} {A : Nat} {rest r2 : List Int} {C : Nat} {v : Value} {n : Nat} {cs : List Value}
end
end Go.Proofs.Ytoaahellfflooaa
namespace Go.Proofs.Ytoaahellfflooaa
open Go.RowKit
set_option linter.unusedVariables false

/-- Objects in memory: each with its row of chunks. -/
def flatO (l : List (Ob × Value)) : List Value := l.flatMap fun x => x.1.cells x.2
/-- A block of another kind. -/
def Oth (u : World) (r : Option Nat) (B : Nat) (e : TypeId) : Prop := ∀ k, r = some k → k < B ∨ ∃ cs t, u.heap[k]? = some (.cells cs t (0, 0)) ∧ t ≠ e
theorem own_tag {u : World} {B e size n : Nat} {v : Value} {xs : List Value} (h : u.ownsRow B e size v n xs) : ∀ k, v.ownBlock = some k → ∃ cs, u.heap[k]? = some (.cells cs e (0, 0)) := by
  intro k hk
  rcases h.2 with ⟨h3, _⟩ | ⟨g, cap, cur, hv, _, hg, _⟩
  · subst h3; cases hk
  · subst hv; cases hk; exact ⟨_, hg⟩
theorem own_oth {u u' : World} {B C e size n : Nat} {v : Value} {xs : List Value} {r : Option Nat} (h : u.ownsRow B e size v n xs) (g : u.grownBy u' r) (ho : Oth u r C e) (hC : C ≤ B) : u'.ownsRow B e size v n xs := by
  refine h.kept g ?_
  cases hv : v.ownBlock with
  | none => exact Or.inl rfl
  | some k =>
    refine Or.inr (fun e2 => ?_)
    rcases ho k e2.symm with h1 | ⟨cs, t, h1, h2⟩
    · have := (h.lt k hv).1; omega
    · obtain ⟨cs2, h3⟩ := own_tag h k hv
      rw [h1] at h3; injection h3 with h3; injection h3 with _ h3; exact h2 h3
theorem oth_none (u : World) (B : Nat) (e : TypeId) : Oth u none B e := fun k h => by cases h
section
variable {w u u' : World} {B q : Nat} {v v' : Value} {n m : Nat} {l : List (Ob × Value)} {rest r2 : List Int}
end
theorem info55 : (Try.prog.info? 55).map (fun i => (i.zero, i.size, i.bytes)) = some (some (.agg #[.int .i64 0, .bool false, .int .i64 0, .int .i64 0, .string ⟨#[]⟩, .int .i64 0, .int .i64 0, .int .u64 0, .int .i64 0, .string ⟨#[]⟩, .int .i64 0, .int .i64 0, .slice none 0 0]), 13, 136) := by kernel_rfl
end Go.Proofs.Ytoaahellfflooaa
