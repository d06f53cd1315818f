/-
  SEAT Ytjhphkfpcpfdnaa: Read, Marked.
-/
import Derived.Test.YtjhphkfpcpfdnaaRe
namespace Go.Proofs.Ytjhphkfpcpfdnaa
open Go.RowKit Go.Conc
set_option linter.unusedVariables false

/-- What a page reads as. -/
def readL (C : Ch) (i k : Nat) : List Int := match C.bl[i]? with
  | none => []
  | some b => match b.ps[k]? with
    | none => []
    | some q => flipsL q.bits (C.fl i k)
def ReadE (C : Ch) (pb pp : Int) : Int := if C.dark then 45 else if hasP C.B C.P pb pp then 0 else 41
/-- What Read answers: two rows of its own, or none. -/
structure RdV (w w' : World) (C : Ch) (pb pp : Int) (e : Ending) : Prop where
  ex : ∃ a1 m1 c1 a2 m2 c2 D Z, e = .returned (.tuple #[.agg #[.slice a1 m1 c1, .slice a2 m2 c2], .int .i64 (ReadE C pb pp)]) ∧ w'.ownsRow w.heap.size 5 1 (.slice a1 m1 c1) m1 (D.map (Value.int .u8)) ∧ w'.ownsRow w.heap.size 5 1 (.slice a2 m2 c2) m2 (Z.map (Value.int .u8)) ∧ (∀ g, (Value.slice a1 m1 c1).ownBlock = some g → (Value.slice a2 m2 c2).ownBlock ≠ some g) ∧
    (if ReadE C pb pp = 0 then m1 = 256 * C.S ∧ m2 = 54 + 3 * C.S ∧ D ++ Z = readL C pb.toNat pp.toNat else m1 = 0 ∧ m2 = 0 ∧ D = [] ∧ Z = [])
  bel : Below w.heap.size w w'

theorem rdv_none {w w' : World} {C : Ch} {pb pp : Int} {z : Int} (hz : ReadE C pb pp = z) (h0 : z ≠ 0) (hb : Below w.heap.size w w') : RdV w w' C pb pp (.returned (.tuple #[.agg #[.slice none 0 0, .slice none 0 0], .int .i64 z])) :=
  ⟨⟨none, 0, 0, none, 0, 0, [], [], by rw [hz], World.ownsRow_nil _ _ _ _, World.ownsRow_nil _ _ _ _, (fun g hg => by cases hg), by rw [hz, if_neg h0]; exact ⟨rfl, rfl, rfl, rfl⟩⟩, hb⟩

def MarkedE (C : Ch) (pb : Int) : Int := if C.dark then 45 else if hasB C.B pb then 0 else 41
def MarkedB (C : Ch) (pb : Int) : Bool := if MarkedE C pb = 0 then (match C.bl[pb.toNat]? with | some b => b.m | none => false) else false
end Go.Proofs.Ytjhphkfpcpfdnaa
