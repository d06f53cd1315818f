/-
  SEAT Ytejonebnmeinhab: JudgeLess, its walk, all ways.
-/
import Derived.Test.YtejonebnmeinhabLessM
import Derived.Test.YtejonebnmeinhabLessN
import Derived.Test.YtejonebnmeinhabLessZ
import Derived.Test.YtejonebnmeinhabLessX
import Derived.Test.YtejonebnmeinhabOpen
namespace Go.Proofs.Ytejonebnmeinhab
open Go.RowKit
set_option linter.unusedVariables false

/-- A slice's room; the nil slice has none. -/
def Room (a : Option Addr) (len cap : Nat) : Prop := len ≤ cap ∧ (a = none → cap = 0)

theorem open_room {H : Type} {enc : TypeId × Value → H} {W : World} {a : Option Addr} {len cap : Nat} {d : DataW H} {p : List MemPlace} (h : DataW.Trod enc Try.prog W 0 (fun _ => true) true 62 (.slice a len cap) d p) : Room a len cap := by
  obtain ⟨fuel, hf⟩ := h
  rcases Deep.open_slice Try.underlying62 hf with ⟨hcs, _⟩ | ⟨x, l, c, m, n, D, Pl, hcs, _, hl, hm, hmm, hx, hcell⟩
  · simp [Value.cells] at hcs
    obtain ⟨rfl, rfl, rfl⟩ := hcs
    exact ⟨Nat.le_refl _, fun _ => rfl⟩
  · simp [Value.cells] at hcs
    obtain ⟨rfl, rfl, rfl⟩ := hcs
    exact ⟨hl, fun h => by cases h⟩

theorem less_walk (b p s : Int) (a1 : Option Addr) (len cap : Nat) (bs : List Bool) (clean : Bool) (a3 : Option Addr) (n cap3 : Nat) (cs : List Cmd) (a4 : Option Addr) (l4 cap4 : Nat) (outs : List Bool) (blk at0 : Int) (w : World) (wb : Wf b) (wp : Wf p) (ws : Wf s)
    (hb : ReadsB w a1 len bs) (hl : len ≤ 140737488351232) (hc : ReadsC w a3 n cs) (hn : n * 32 ≤ 140737488351232) (ho : ReadsB w a4 l4 outs) (hlo : l4 ≤ 140737488351232) (wk : Wf blk) (wa : Wf at0) (hr : Room a3 n cap3) :
    Calls Try.prog 6 #[.agg #[.int .i64 b, .int .i64 p, .int .i64 s], .slice a1 len cap, .bool clean, .slice a3 n cap3, .slice a4 l4 cap4, .int .i64 blk, .int .i64 at0] w fun e w' => e = .returned (.bool true) ∧ Below w.heap.size w w' := by
  by_cases hE : newE b p s len = 0
  · cases a3 with
    | none =>
      obtain rfl := hc.2.2.1 rfl
      obtain rfl : cs = [] := List.eq_nil_of_length_eq_zero hc.1
      obtain rfl := hr.2 rfl
      exact less_Z b p s a1 a4 len cap l4 cap4 bs clean blk at0 w hb hl wk wa hE (fun a a' cap cap' w h hc => rcheck_ok b p s a a' len cap 0 cap' bs [] clean w hE h hc (by decide))
    | some ax =>
      cases hk : chk p (start clean p bs) cs with
      | none =>
        exact less_N b p s a1 a4 ax n len cap n cap3 l4 cap4 bs outs cs clean blk at0 w hb hl hc hn hr.1 ho hlo wk wa hE (Nat.le_refl _) (by rw [List.take_of_length_le (by rw [hc.1]; exact Nat.le_refl _)]; exact chk_runs.1 hk) (by rw [hk]; rfl) rfl
          (fun a a' cap cap' w h hc => rcheck_ok b p s a a' len cap n cap' bs cs clean w hE h hc hn)
      | some m =>
        exact less_M b p s a1 a4 ax m len cap n cap3 l4 cap4 bs outs cs clean blk at0 w hb hl hc hn hr.1 ho hlo wk wa hE (by have := chk_lt hk; have := hc.1; omega) (chk_split hk) (by rw [hk]; rfl)
          (fun a a' cap cap' w h hc => rcheck_ok b p s a a' len cap n cap' bs cs clean w hE h hc hn)
  · exact less_bad b p s a1 a3 a4 len cap n cap3 l4 cap4 bs cs clean blk at0 w hb hl hc hn hE
end Go.Proofs.Ytejonebnmeinhab
