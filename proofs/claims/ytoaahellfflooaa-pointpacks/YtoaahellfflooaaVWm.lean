/-
  SEAT Ytoaahellfflooaa.
-/
import Derived.Test.YtoaahellfflooaaVWl
namespace Go.Proofs.Ytoaahellfflooaa
open Go.RowKit
set_option linter.unusedVariables false

/-- While a state is copied: the boxes at A, A + 1, A + 2; k objects are laid. -/
structure CpI (w0 w : World) (s : St) (vb0 vo0 vb vo : Value) (n k : Nat) (ms : List (Ob × Value)) : Prop where
  bel : Below w0.heap.size w0 w
  b1 : w.heap[w0.heap.size]? = some (.cells #[.int .u64 s.fl, .int .u64 s.nx, .int .i64 s.cu, .int .i64 s.la, vb0, vo0] 27 (0, 0))
  b2 : w.heap[w0.heap.size + 1]? = some (.cells #[.int .u64 0, .int .u64 0, .int .i64 0, .int .i64 0, .slice none 0 0, .slice none 0 0] 27 (0, 0))
  b3 : w.heap[w0.heap.size + 2]? = some (.cells #[.int .u64 s.fl, .int .u64 s.nx, .int .i64 s.cu, .int .i64 s.la, vb, vo] 27 (0, 0))
  mb : Mrk w w0.heap.size 48 4 vb n (flatBlk s.bs) K77
  ow : w.ownsRow w0.heap.size 55 13 vo k (flatO ms)
  mc : ∀ x ∈ ms, Mrk w w0.heap.size 71 4 x.2 x.1.ch.length (flatChk x.1.ch) C79
  os : ms.map Prod.fst = s.os.take k
section
variable {w0 w w' : World} {s : St} {vb0 vo0 vb vo : Value} {n k : Nat} {ms : List (Ob × Value)}
theorem CpI.size (h : CpI w0 w s vb0 vo0 vb vo n k ms) : w0.heap.size + 3 ≤ w.heap.size := by have := lt_of_block h.b3; omega
theorem CpI.below (h : CpI w0 w s vb0 vo0 vb vo n k ms) (hb : Below w.heap.size w w') : CpI w0 w' s vb0 vo0 vb vo n k ms := by
  have hs := h.size
  exact ⟨h.bel.trans (hb.mono (by omega)), (hb.block _ (by omega)).trans h.b1, (hb.block _ (by omega)).trans h.b2, (hb.block _ (by omega)).trans h.b3, h.mb.below hb, (Only.ofB (F := fun _ => False) hb).own h.ow (fun _ _ h => h), fun x hx => (h.mc x hx).below hb, h.os⟩
theorem own_le {w : World} {B B' e st n : Nat} {v : Value} {cs : List Value} (h : w.ownsRow B e st v n cs) (hb : B' ≤ B) : w.ownsRow B' e st v n cs :=
  ⟨h.1, h.2.imp id (fun ⟨g, cap, cur, hv, hbg, r⟩ => ⟨g, cap, cur, hv, Nat.le_trans hb hbg, r⟩)⟩
theorem Mrk.base {w : World} {B B' e st n : Nat} {v : Value} {cs ms : List Value} (h : Mrk w B e st v n cs ms) (hb : B' ≤ B) : Mrk w B' e st v n cs ms := by
  obtain ⟨g, c, rfl, h1, h2, h3⟩ := h
  exact ⟨g, c, rfl, h1, h2, own_le h3 hb⟩
/-- An object is laid. -/
theorem CpI.push (h : CpI w0 w s vb0 vo0 vb vo n k ms) {o : Ob} {v v3 : Value} {w5 : World} {blk : Obj} (hk : s.os[k]? = some o) (hm : Mrk w w0.heap.size 71 4 v o.ch.length (flatChk o.ch) C79) (ho : w5.ownsRow w0.heap.size 55 13 v3 (k + 1) (flatO ms ++ o.cells v)) (hg : (w.alloc blk).grownBy w5 vo.ownBlock) :
    CpI w0 (w5.setCell ⟨w0.heap.size + 2, 5, none⟩ v3) s vb0 vo0 vb v3 n (k + 1) (ms ++ [(o, v)]) := by
  have hs := h.size
  have h1 := h.below (below_alloc w blk)
  have hO : Only (fun j => j = w0.heap.size + 2 ∨ some j = vo.ownBlock) (w.alloc blk) (w5.setCell ⟨w0.heap.size + 2, 5, none⟩ v3) :=
    (Only.ofG hg (fun j _ e => Or.inr e.symm)).trans' (Only.setCell _ w5 _ 5 v3 (Or.inl rfl))
  have hne : ∀ {i : Nat} {c : Array Value} {t : TypeId}, (w.alloc blk).heap[i]? = some (.cells c t (0, 0)) → t ≠ 55 → (t = 27 → i ≠ w0.heap.size + 2) → ¬ (i = w0.heap.size + 2 ∨ some i = vo.ownBlock) := by
    intro i c t hi ht h27 e
    rcases e with e | e
    · by_cases h9 : t = 27
      · exact h27 h9 e
      · exact tag_ne hi h1.b3 h9 e
    · exact own_ne h1.ow hi ht e.symm
  have hmk : ∀ {e st n : Nat} {v : Value} {cs ms : List Value}, Mrk (w.alloc blk) w0.heap.size e st v n cs ms → e ≠ 55 → e ≠ 27 → Mrk (w5.setCell ⟨w0.heap.size + 2, 5, none⟩ v3) w0.heap.size e st v n cs ms := by
    intro e st n v cs ms hm h55 h27
    refine hm.only hO (fun i hi => ?_)
    obtain ⟨c9, h9⟩ := hm.tag i hi
    exact hne h9 h55 (fun e9 => absurd e9 h27)
  have hb5 : w5.heap[w0.heap.size + 2]? = some (.cells #[.int .u64 s.fl, .int .u64 s.nx, .int .i64 s.cu, .int .i64 s.la, vb, vo] 27 (0, 0)) := (Only.ofG (F := fun j => some j = vo.ownBlock) hg (fun j _ e => e.symm)).blk h1.b3 (fun e => own_ne h1.ow h1.b3 (by decide) e.symm)
  refine ⟨?_, hO.blk h1.b1 (hne h1.b1 (by decide) (fun _ => by omega)), hO.blk h1.b2 (hne h1.b2 (by decide) (fun _ => by omega)), heap_setCell_same w5 _ 5 _ _ v3 hb5, hmk h1.mb (by decide) (by decide), ?_, fun x hx => ?_, ?_⟩
  · refine h1.bel.trans (hO.below (fun j hj => ?_) (by simp; omega))
    rcases hj with rfl | hj
    · omega
    · exact (h1.ow.lt j hj.symm).1
  · have e : flatO (ms ++ [(o, v)]) = flatO ms ++ o.cells v := by simp [flatO]
    rw [e]
    refine (Only.setCell (· = w0.heap.size + 2) w5 (w0.heap.size + 2) 5 v3 rfl).own ho (fun j hj e9 => ?_)
    subst e9
    exact own_ne ho hb5 (by decide) hj
  · rcases List.mem_append.1 hx with hx | hx
    · exact hmk (h1.mc x hx) (by decide) (by decide)
    · obtain rfl := List.mem_singleton.1 hx
      exact hmk (hm.below (below_alloc w blk)) (by decide) (by decide)
  · rw [List.map_append, h.os, List.take_add_one, hk]
    rfl
end

/-- A copied state: its rows have marks behind them. -/
structure CopS (w : World) (B : Nat) (s : St) (vb vo : Value) (n m : Nat) (ms : List (Ob × Value)) : Prop where
  mb : Mrk w B 48 4 vb n (flatBlk s.bs) K77
  mo : Mrk w B 55 13 vo m (flatO ms) O81
  mc : ∀ x ∈ ms, Mrk w B 71 4 x.2 x.1.ch.length (flatChk x.1.ch) C79
  os : ms.map Prod.fst = s.os
theorem CopS.below {w w' : World} {B : Nat} {s : St} {vb vo : Value} {n m : Nat} {ms : List (Ob × Value)} (h : CopS w B s vb vo n m ms) (hb : Below w.heap.size w w') : CopS w' B s vb vo n m ms :=
  ⟨h.mb.below hb, h.mo.below hb, fun x hx => (h.mc x hx).below hb, h.os⟩
end Go.Proofs.Ytoaahellfflooaa
