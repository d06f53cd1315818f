/-
  SEAT YtgdmagmbkmgdfabDoor: the table, as the row lays it.
-/
import Derived.Test.YtgdmagmbkmgdfabDoorCa
import Derived.ProofKit
import Derived.OpenShut
import Derived.ChangeSame
import Derived.Lib.LaidTab
namespace Go.Proofs.YtgdmagmbkmgdfabDoor
open Go.ChangeShapes Go.WideShapes Go.ChangeAt Go.RowKit
set_option linter.unusedVariables false

theorem gTab : Tryd.prog.globalNamed "shale/tags.stretches" = some 0 := by kernel_rfl
theorem gTabType : (Tryd.prog.globals[0]?).map (·.type) = some 62 := by kernel_rfl
theorem cells67 : Tryd.prog.cellsOf 61 = 2 := by kernel_rfl
theorem cells68 : Tryd.prog.cellsOf 62 = 16 := by kernel_rfl
theorem cells3 : Tryd.prog.cellsOf 3 = 1 := by kernel_rfl
theorem fields67 : (Tryd.prog.underlying 61).bind (fun d => match d with | .struct fs => some (fs.toList.map fun f => (f.type, f.offset)) | _ => none) = some [(3, 0), (3, 1)] := by kernel_rfl

theorem two67 : ∃ f0 f1 : Field, Tryd.prog.underlying 61 = some (.struct #[f0, f1]) ∧ f0.type = 3 ∧ f0.offset = 0 ∧ f1.type = 3 ∧ f1.offset = 1 := by
  have h := fields67
  cases hu : Tryd.prog.underlying 61 with
  | none => rw [hu] at h; cases h
  | some d =>
    rw [hu] at h
    cases d <;> simp at h
    rename_i fs
    obtain ⟨l⟩ := fs
    match l, h with
    | [f0, f1], h =>
      simp at h
      exact ⟨f0, f1, rfl, h.1.1, h.1.2, h.2.1, h.2.2⟩

theorem cells_of_stretches {H : Type} {enc : TypeId × Value → H} {w : World} {base : Nat} {sp : Nat → Bool} {held : Bool} {fuel : Nat} {cs : List Value} {p : List MemPlace}
    (h : DataW.trod enc Tryd.prog w base sp held fuel 62 cs = some (Rows.laid_shale_tags_stretches, p)) : cs = tabL.map (Value.int .i64) := by
  obtain ⟨f0, f1, hs, t0, o0, t1, o1⟩ := two67
  cases fuel with
  | zero => simp [DataW.trod] at h
  | succ fuel =>
    simp only [DataW.trod, und68, cells67, cells68] at h
    split at h
    · rename_i hl
      obtain ⟨xs, hm, hx⟩ := Option.map_eq_some_iff.1 h
      have hxs : xs.map (·.1) = [.agg [.lit (.int .i64 0), .lit (.int .i64 1)], .agg [.lit (.int .i64 1), .lit (.int .i64 1)], .agg [.lit (.int .i64 2), .lit (.int .i64 6)], .agg [.lit (.int .i64 8), .lit (.int .i64 6)], .agg [.lit (.int .i64 14), .lit (.int .i64 4)], .agg [.lit (.int .i64 18), .lit (.int .i64 4)], .agg [.lit (.int .i64 22), .lit (.int .i64 2)], .agg [.lit (.int .i64 24), .lit (.int .i64 2)]] := by
        have := congrArg Prod.fst hx
        simpa [Rows.laid_shale_tags_stretches] using this
      have key : ∀ i, i < 8 → ∃ t n : Int, cs[2 * i]? = some (.int .i64 t) ∧ cs[2 * i + 1]? = some (.int .i64 n) ∧ (xs.map (·.1))[i]? = some (.agg [.lit (.int .i64 t), .lit (.int .i64 n)]) := by
        intro i hi
        obtain ⟨b, hb, hf⟩ := Lib.mapM_at hm i i (by simp [hi])
        obtain ⟨y0, y1, n, hy, hlen, g0, g1⟩ := trod_struct2 hs hf
        rw [t0] at g0
        rw [t1] at g1
        obtain ⟨z0, hc0, rfl, _⟩ := DataW.trod_int Tryd.underlying3 g0
        obtain ⟨z1, hc1, rfl, _⟩ := DataW.trod_int Tryd.underlying3 g1
        refine ⟨z0, z1, ?_, ?_, ?_⟩
        · have := congrArg (·[0]?) hc0
          simpa [o0, cells3, List.getElem?_take, List.getElem?_drop, Nat.mul_comm] using this
        · have := congrArg (·[0]?) hc1
          simpa [o1, cells3, List.getElem?_take, List.getElem?_drop, Nat.mul_comm] using this
        · rw [List.getElem?_map, hb, hy]
          rfl
      have kk : ∀ i, i < 8 → cs[2 * i]? = some (.int .i64 (tabL.getD (2 * i) 0)) ∧ cs[2 * i + 1]? = some (.int .i64 (tabL.getD (2 * i + 1) 0)) := by
        intro i hi
        obtain ⟨t, n, k1, k2, k3⟩ := key i hi
        rw [hxs] at k3
        rcases (show i = 0 ∨ i = 1 ∨ i = 2 ∨ i = 3 ∨ i = 4 ∨ i = 5 ∨ i = 6 ∨ i = 7 by omega) with rfl | rfl | rfl | rfl | rfl | rfl | rfl | rfl <;>
        · simp at k3
          obtain ⟨rfl, rfl⟩ := k3
          exact ⟨k1, k2⟩
      have hcl : cs.length = 16 := by simpa using hl
      apply List.ext_getElem?
      intro j
      by_cases hj : j < 16
      · have ht : (tabL.map (Value.int .i64))[j]? = some (.int .i64 (tabL.getD j 0)) := by
          rw [List.getElem?_map, List.getElem?_eq_getElem (show j < tabL.length from hj), List.getD_eq_getElem?_getD, List.getElem?_eq_getElem (show j < tabL.length from hj)]
          rfl
        rw [ht]
        rcases (show j = 2 * (j / 2) ∨ j = 2 * (j / 2) + 1 by omega) with e | e
        · have := (kk (j / 2) (by omega)).1
          rwa [← e] at this
        · have := (kk (j / 2) (by omega)).2
          rwa [← e] at this
      · rw [List.getElem?_eq_none (by omega), List.getElem?_eq_none (by rw [List.length_map]; exact Nat.le_of_not_lt hj)]
    · cases h

/-- The row's own condition tells the table. -/
theorem tab_of_laid {W : World} (h : laidMetH Tryd.prog [("shale/tags.stretches", Rows.laid_shale_tags_stretches)] W) : Tab W := by
  obtain ⟨ps, ⟨g', t', cs, fuel, p, q, hg', ht', hvar, hd, _, _⟩, _⟩ := h
  obtain rfl := Option.some.inj (gTab.symm.trans hg')
  obtain rfl := Option.some.inj (gTabType.symm.trans ht')
  have e := cells_of_stretches hd
  intro i hi
  rw [World.var?_cell gTab hvar i]
  have hi' : i < tabL.length := hi
  rw [← Array.getElem?_toList, e, List.getElem?_map, List.getElem?_eq_getElem hi', List.getD_eq_getElem?_getD, List.getElem?_eq_getElem hi']
  rfl
end Go.Proofs.YtgdmagmbkmgdfabDoor
