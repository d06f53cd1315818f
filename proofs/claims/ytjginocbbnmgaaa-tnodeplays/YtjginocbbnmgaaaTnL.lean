/-
  SEAT Ytjginocbbnmgaaa: nodes that are alike.
-/
import Derived.Test.YtjginocbbnmgaaaTnK
import Derived.ChangeKeysEq
import Derived.LaidEqlPtr
namespace Go.Proofs.Ytjginocbbnmgaaa
open Go.RowKit
set_option linter.unusedVariables false

/-- Two pointers that are alike, or of which the second one is nil. -/
def Tell (a b : Option Nat) : Prop := a = b ∨ b = none
theorem eq_ptr (w : World) (d : Nat) {t te : TypeId} {i : TypeInfo} (hu : Try.prog.underlying t = some (.pointer te)) (hi : Try.prog.info? te = some i) {a b : Option Nat} (h : Tell a b) : (Op.equalIn (d + 1) t (ptr a) (ptr b)).run Try.prog w = .ok (a == b) w := by
  rcases h with rfl | rfl
  · cases a with
    | none => simp [ptr, Op.equalIn, run_underlying hu]
    | some g => simp [ptr, Op.equalIn, run_underlying hu, sizeOf, typeInfo, hi, run_sameAddr_same]
  · cases a with
    | none => simp [ptr, Op.equalIn, run_underlying hu]
    | some g => simp [ptr, Op.equalIn, run_underlying hu]
theorem eq_items (w : World) (d : Nat) {t te : TypeId} {i : TypeInfo} (hu : Try.prog.underlying t = some (.pointer te)) (hi : Try.prog.info? te = some i) (xs ys : Array Value) (ps qs : List (Option Nat)) : ∀ is : List Nat,
    (∀ j ∈ is, xs[j]? = some (ptr (ps.getD j none)) ∧ ys[j]? = some (ptr (qs.getD j none)) ∧ Tell (ps.getD j none) (qs.getD j none)) → (Op.eqItems (d + 1) t 1 xs ys is).run Try.prog w = .ok (is.all fun j => ps.getD j none == qs.getD j none) w
  | [], h => by simp [Op.eqItems]
  | j :: is, h => by
    obtain ⟨h1, h2, h3⟩ := h j List.mem_cons_self
    have ih := eq_items w d hu hi xs ys ps qs is (fun k hk => h k (List.mem_cons_of_mem _ hk))
    have p1 : (part t xs (j * 1)).run Try.prog w = .ok (ptr (ps.getD j none)) w := by simp [part, isAgg, run_underlying hu, h1]
    have p2 : (part t ys (j * 1)).run Try.prog w = .ok (ptr (qs.getD j none)) w := by simp [part, isAgg, run_underlying hu, h2]
    simp only [Op.eqItems, Sem.run_bind, p1, p2, Result.andThen_ok, eq_ptr w d hu hi h3]
    cases hq : (ps.getD j none == qs.getD j none)
    · simp only [Bool.not_false, if_true, List.all_cons, hq, Bool.false_and, Sem.run_pure]
    · simp only [Bool.not_true, Bool.false_eq_true, if_false, ih, List.all_cons, hq, Bool.true_and]
theorem all_eq (ps qs : List (Option Nat)) (n : Nat) (ha : ps.length = n) (hb : qs.length = n) : ((List.range n).all fun j => ps.getD j none == qs.getD j none) = decide (ps = qs) := by
  rw [Bool.eq_iff_iff, List.all_eq_true, decide_eq_true_eq]
  constructor
  · intro h
    refine List.ext_getElem (by omega) (fun i h1 h2 => ?_)
    have := h i (by simp; omega)
    simpa [List.getD_eq_getElem?_getD, List.getElem?_eq_getElem h1, List.getElem?_eq_getElem h2] using this
  · rintro rfl j _
    simp
abbrev U96 : List (Option Nat) → Array Value := fun ps => (ps.map ptr).toArray
theorem u96_get (ps : List (Option Nat)) (j : Nat) (h : j < ps.length) : (U96 ps)[j]? = some (ptr (ps.getD j none)) := by
  rw [List.getElem?_toArray, List.getElem?_map, List.getD_eq_getElem?_getD, List.getElem?_eq_getElem h]
  rfl
theorem eq_row (w : World) (d : Nat) {T t te : TypeId} {i i' : TypeInfo} (hT : Try.prog.underlying T = some (.array 16 t)) (hi' : Try.prog.info? t = some i') (hc : Try.prog.cellsOf t = 1) (hu : Try.prog.underlying t = some (.pointer te)) (hi : Try.prog.info? te = some i) (ps qs : List (Option Nat)) (ha : ps.length = 16) (hb : qs.length = 16) (h : ∀ j, j < 16 → Tell (ps.getD j none) (qs.getD j none)) :
    (Op.equalIn (d + 2) T (.agg (U96 ps)) (.agg (U96 qs))).run Try.prog w = .ok (decide (ps = qs)) w := by
  rw [run_equalIn_array w (d + 1) _ _ hT hi', hc, eq_items w d hu hi _ _ ps qs (List.range 16) (fun j hj => by
    have hj' : j < 16 := List.mem_range.1 hj
    exact ⟨u96_get ps j (by omega), u96_get qs j (by omega), h j hj'⟩), all_eq ps qs 16 ha hb]
theorem fields96 : (Try.prog.fieldsOf 96).toList.map (fun f => (f.name, f.type, f.offset)) = [("below", 93, 0), ("things", 94, 16)] := by kernel_rfl
theorem two_of {fs : List Field} {a a' : String} {b b' : TypeId} {c c' : Nat} (h : fs.map (fun f => (f.name, f.type, f.offset)) = [(a, b, c), (a', b', c')]) : ∃ f g, fs = [f, g] ∧ f.name = a ∧ f.type = b ∧ f.offset = c ∧ g.name = a' ∧ g.type = b' ∧ g.offset = c' := by
  match fs, h with
  | [f, g], h =>
    simp only [List.map_cons, List.map_nil, List.cons.injEq, Prod.mk.injEq, and_true] at h
    exact ⟨f, g, rfl, h.1.1, h.1.2.1, h.1.2.2, h.2.1, h.2.2.1, h.2.2.2⟩
theorem und96 : Try.prog.underlying 96 = some (.struct (Try.prog.fieldsOf 96)) := by kernel_rfl
theorem und93 : Try.prog.underlying 93 = some (.array 16 70) := by kernel_rfl
theorem und94 : Try.prog.underlying 94 = some (.array 16 73) := by kernel_rfl
theorem und70 : Try.prog.underlying 70 = some (.pointer 96) := by kernel_rfl
theorem und73 : Try.prog.underlying 73 = some (.pointer 3) := by kernel_rfl
theorem held96 : Try.prog.stoodInHeld 96 = false := by kernel_rfl
theorem cells70 : Try.prog.cellsOf 70 = 1 := by kernel_rfl
theorem cells73 : Try.prog.cellsOf 73 = 1 := by kernel_rfl
theorem info_some (t : TypeId) (h : (Try.prog.info? t).isSome = true) : ∃ i, Try.prog.info? t = some i := Option.isSome_iff_exists.1 h
theorem part93 (w : World) {ps : List (Option Nat)} (t : TypeId) (off : Nat) (hu : ∃ e, Try.prog.underlying t = some (.array 16 e)) (hs : Try.prog.cellsOf t = 16) (hi : (Try.prog.info? t).isSome = true) : (part t (U96 ps) off).run Try.prog w = .ok (.agg (U96 ((ps.drop off).take 16))) w := by
  obtain ⟨e, hu⟩ := hu
  obtain ⟨i, hi⟩ := info_some t hi
  simp [part, isAgg, run_underlying hu, run_sizeOf w hi, hs, List.extract_toArray, List.map_take, List.map_drop]
theorem eql96 (w : World) (ps qs : List (Option Nat)) (ha : ps.length = 32) (hb : qs.length = 32) (h : ∀ j, j < 32 → Tell (ps.getD j none) (qs.getD j none)) : (binOp .eql 96 (.agg (U96 ps)) (.agg (U96 qs))).run Try.prog w = .ok (.bool (decide (ps = qs))) w := by
  obtain ⟨i96, hi96⟩ := info_some 96 (by kernel_rfl)
  obtain ⟨i3, hi3⟩ := info_some 3 (by kernel_rfl)
  obtain ⟨i70, hi70⟩ := info_some 70 (by kernel_rfl)
  obtain ⟨i73, hi73⟩ := info_some 73 (by kernel_rfl)
  have dg : ∀ (ps : List (Option Nat)) (off j : Nat), j < 16 → ((ps.drop off).take 16).getD j none = ps.getD (off + j) none := fun ps off j hj => by
    simp [List.getD_eq_getElem?_getD, hj, List.getElem?_drop]
  have e1 : (Op.equalIn 9999 93 (.agg (U96 ((ps.drop 0).take 16))) (.agg (U96 ((qs.drop 0).take 16)))).run Try.prog w = .ok (decide ((ps.drop 0).take 16 = (qs.drop 0).take 16)) w :=
    eq_row w 9997 und93 hi70 cells70 und70 hi96 _ _ (by simp; omega) (by simp; omega) (fun j hj => by rw [dg _ _ _ hj, dg _ _ _ hj]; exact h _ (by omega))
  have e2 : (Op.equalIn 9999 94 (.agg (U96 ((ps.drop 16).take 16))) (.agg (U96 ((qs.drop 16).take 16)))).run Try.prog w = .ok (decide ((ps.drop 16).take 16 = (qs.drop 16).take 16)) w :=
    eq_row w 9997 und94 hi73 cells73 und73 hi3 _ _ (by simp; omega) (by simp; omega) (fun j hj => by rw [dg _ _ _ hj, dg _ _ _ hj]; exact h _ (by omega))
  obtain ⟨f, g, hfs, n1, t1, o1, n2, t2, o2⟩ := two_of fields96
  have hspl : (ps = qs) ↔ ((ps.drop 0).take 16 = (qs.drop 0).take 16 ∧ (ps.drop 16).take 16 = (qs.drop 16).take 16) := by
    constructor
    · rintro rfl; exact ⟨rfl, rfl⟩
    · rintro ⟨h1, h2⟩
      rw [List.take_of_length_le (by simp; omega), List.take_of_length_le (by simp; omega)] at h2
      rw [← List.take_append_drop 16 ps, ← List.take_append_drop 16 qs, h2]
      simp only [List.drop_zero] at h1
      rw [h1]
  rw [run_eql_struct, run_equalIn_struct w 9999 96 _ _ und96 held96, hfs]
  have pa : ∀ x : List (Option Nat), (part f.type (U96 x) f.offset).run Try.prog w = .ok (.agg (U96 ((x.drop 0).take 16))) w := fun x => by rw [t1, o1]; exact part93 w 93 0 ⟨_, und93⟩ (by kernel_rfl) (by kernel_rfl)
  have pb : ∀ x : List (Option Nat), (part g.type (U96 x) g.offset).run Try.prog w = .ok (.agg (U96 ((x.drop 16).take 16))) w := fun x => by rw [t2, o2]; exact part93 w 94 16 ⟨_, und94⟩ (by kernel_rfl) (by kernel_rfl)
  rw [← t1] at e1
  rw [← t2] at e2
  have m1 : f.name ≠ "_" := by rw [n1]; decide
  have m2 : g.name ≠ "_" := by rw [n2]; decide
  simp only [Op.eqFields, if_pos m1, if_pos m2, Sem.run_bind, pa, Result.andThen_ok, e1]
  by_cases q1 : (ps.drop 0).take 16 = (qs.drop 0).take 16
  · by_cases q2 : (ps.drop 16).take 16 = (qs.drop 16).take 16
    · have : ps = qs := hspl.2 ⟨q1, q2⟩
      rw [decide_eq_true q1, decide_eq_true this]
      rw [decide_eq_true q2] at e2
      simp only [Bool.not_true, Bool.false_eq_true, if_false, pb, Result.andThen_ok, e2, Sem.run_pure, Sem.run_bind]
    · have : ¬ ps = qs := fun e => q2 (hspl.1 e).2
      rw [decide_eq_true q1, decide_eq_false this]
      rw [decide_eq_false q2] at e2
      simp only [Bool.not_true, Bool.not_false, Bool.false_eq_true, if_false, if_true, pb, Result.andThen_ok, e2, Sem.run_pure, Sem.run_bind]
  · have : ¬ ps = qs := fun e => q1 (hspl.1 e).1
    rw [decide_eq_false q1, decide_eq_false this]
    simp only [Bool.not_false, if_true, Result.andThen_ok, Sem.run_pure]
end Go.Proofs.Ytjginocbbnmgaaa
