/-
  SEAT Ytjhphkfpcpfdnaa: JudgeChip: faults, rows of zeros.
-/
import Derived.Test.YtjhphkfpcpfdnaaPc
namespace Go.Proofs.Ytjhphkfpcpfdnaa
open Go.RowKit Go.Conc
set_option linter.unusedVariables false

theorem fmb_cons {l : Int} {c : Fc} {r : List Fc} (h : fmb l (c :: r) = true) : (decide (c.a ≤ l) || (c.k != 1 && c.k != 2)) = false ∧ fmb c.a r = true := by
  unfold fmb at h
  split at h
  · cases h
  · rename_i h1
    exact ⟨by simpa using h1, h⟩
theorem fmb_k : ∀ (fs : List Fc) (l : Int), fmb l fs = true → ∀ f ∈ fs, f.k = 1 ∨ f.k = 2
  | [], _, _, f, hf => by cases hf
  | c :: r, l, h, f, hf => by
    obtain ⟨h1, h2⟩ := fmb_cons h
    rcases List.mem_cons.1 hf with rfl | hf
    · simp at h1
      rcases Classical.em (f.k = 1) with h9 | h9
      · exact Or.inl h9
      · exact Or.inr (h1.2 h9)
    · exact fmb_k r c.a h2 f hf
theorem fmb_kinds {fs : List Fc} (h : faultsB fs = true) : ∀ f ∈ fs.map Fc.t, f.k = 1 ∨ f.k = 2 := by
  unfold faultsB at h
  rw [Bool.and_eq_true] at h
  intro f hf
  obtain ⟨c, hc, rfl⟩ := List.mem_map.1 hf
  exact fmb_k fs (-1) h.2 c hc
theorem newE_zero {B P S : Int} {bad : List Int} {fs : List Fc} (h : NewE B P S bad fs = 0) : Fits B P S = true ∧ faultsB fs = true := by
  unfold NewE at h
  split at h
  · cases h
  rename_i h1
  split at h
  · cases h
  split at h
  · cases h
  · rename_i h2 h3
    exact ⟨by simpa using h1, by simpa using h3⟩
theorem field35 (a b c d e : Value) (u : World) : (Instr.field 35 (.agg #[a, b, c, d, e]) 2).run Try.prog u = .ok e u := by kernel_rfl
theorem JS.three {w u : World} {p gj bm : Nat} {F : Nat → Prop} {K : List (Nat × Obj)} {C : Ch} {st : List J.Blk} {b q s : Int} (h : JS w u p gj bm K F C b q s st) (c1 c2 c3 : Array Value) (t1 t2 t3 : TypeId) : JS w (((u.alloc (.cells c1 t1)).alloc (.cells c2 t2)).alloc (.cells c3 t3)).drew p gj bm ((u.heap.size + 1 + 1, .cells c3 t3 (0, 0)) :: (u.heap.size + 1, .cells c2 t2 (0, 0)) :: (u.heap.size, .cells c1 t1 (0, 0)) :: K) F C b q s st := by
  have h1 := ((h.box c1 t1).box c2 t2).box c3 t3
  simp only [alloc_size] at h1
  exact h1.below (drew_below _)
theorem trace_shape {u : World} {B : Nat} {v : Value} {tr : List Cmd} (h : u.ownsRow B 54 4 v tr.length (tr.flatMap Cmd.cells)) : ∃ a c, v = .slice a tr.length c := by
  rcases h.2 with ⟨hv, h0⟩ | ⟨g', cap, cur, hv, _⟩
  · exact ⟨none, 0, by rw [hv, h0]⟩
  · exact ⟨_, _, hv⟩
theorem trace_last {u : World} {B : Nat} {v : Value} {tr : List Cmd} {y : Cmd} {m : Nat} (h : u.ownsRow B 54 4 v (tr ++ [y]).length ((tr ++ [y]).flatMap Cmd.cells)) (hm : tr.length = m) : ∃ g c, v = .slice (some ⟨g, 0, none⟩) (m + 1) c ∧ m + 1 ≤ c ∧ B ≤ g ∧ g < u.heap.size ∧ u.cell? ⟨g, m * 4, none⟩ = some (.int .i64 y.k) ∧ u.cell? ⟨g, m * 4 + 1, none⟩ = some (.int .i64 y.b) ∧ u.cell? ⟨g, m * 4 + 2, none⟩ = some (.int .i64 y.p) ∧ u.cell? ⟨g, m * 4 + 3, none⟩ = some (.int .i64 y.s) ∧ ∃ cs, u.heap[g]? = some (.cells cs 54 (0, 0)) := by
  have hl : (tr ++ [y]).length = m + 1 := by simp [hm]
  rcases h.2 with ⟨_, h0⟩ | ⟨g, cap, cur, hv, hb, hh, hc, _⟩
  · omega
  · have h9 := h
    rw [hv] at h9
    have hlen : (tr.flatMap Cmd.cells).length = m * 4 := by
      have e : ∀ l : List Cmd, (l.flatMap Cmd.cells).length = l.length * 4 := by
        intro l
        induction l with
        | nil => rfl
        | cons c r ih => rw [List.flatMap_cons, List.length_append, ih]; simp only [Cmd.cells, List.length_cons, List.length_nil]; omega
      rw [e, hm]
    have key : ∀ j, j < 4 → u.cell? ⟨g, m * 4 + j, none⟩ = y.cells[j]? := by
      intro j hj
      rw [World.ownsRow.cellAt h9 (m * 4 + j) (by rw [hl]; omega), List.flatMap_append, List.getElem?_append_right (by omega), hlen]
      rw [show m * 4 + j - m * 4 = j by omega]
      simp
    refine ⟨g, cap, by rw [hv, hl], by omega, hb, lt_of_block hh, (key 0 (by omega)).trans rfl, (key 1 (by omega)).trans rfl, (key 2 (by omega)).trans rfl, (key 3 (by omega)).trans rfl, cur, hh⟩
theorem trace_all {u : World} {B c : Nat} {a : Option Addr} {tr : List Cmd} (h : u.ownsRow B 54 4 (.slice a tr.length c) tr.length (tr.flatMap Cmd.cells)) (hok : ∀ x ∈ tr, x.j.Ok) : J.ReadsC u a tr.length (tr.map Cmd.j) := by
  rcases h.2 with ⟨hv, h0⟩ | ⟨g', cap, cur, hv, _⟩
  · injection hv with hv1
    subst hv1
    have e : tr = [] := List.eq_nil_of_length_eq_zero h0
    subst e
    exact ⟨rfl, (fun _ h => by cases h), fun _ => rfl, fun _ h => by cases h⟩
  · injection hv with hv1
    subst hv1
    have h9 := trace_reads (m := tr.length) h hok (Nat.le_refl _)
    rw [List.take_of_length_le (by simp)] at h9
    exact h9
theorem JStep.fold {C C' : Ch} {P : Int} {st : List J.Blk} {y : Cmd} (h : C'.tr = C.tr ++ [y]) : J.jfold P st (C'.tr.map Cmd.j) = (J.see P (J.jfold P st (C.tr.map Cmd.j)) y.j).getD (J.jfold P st (C.tr.map Cmd.j)) := by
  rw [h, List.map_append, List.map_cons, List.map_nil, J.jfold_snoc]
theorem cells2x {w : World} {g : Nat} {c0 c1 c2 : Value} {T : TypeId} (h : w.heap[g]? = some (.cells #[c0, c1, c2] T (0, 0))) : w.cell? ⟨g, 0, none⟩ = some c0 ∧ w.cell? ⟨g, 1, none⟩ = some c1 := ⟨(cells3 h).1, (cells3 h).2.1⟩
theorem owns_bel {u v' : World} {B e size n : Nat} {v : Value} {xs : List Value} (h : u.ownsRow B e size v n xs) (hb : Below u.heap.size u v') : v'.ownsRow B e size v n xs := owns_keep h (fun g hg => by obtain ⟨cs, hcs⟩ := own_tag h hg; exact hb.block g (lt_of_block hcs))
theorem s32_of {w u : World} {p gj bm q22 q18 : Nat} {k b pp e pg : Int} {tb : Nat × Obj} {K : List (Nat × Obj)} {F : Nat → Prop} {C : Ch} {bb qq ss : Int} {st : List J.Blk} (h : JS w u p gj bm ((q22, .cells #[.int .i64 k, .int .i64 b, .int .i64 pp, .int .i64 e] 54 (0, 0)) :: tb :: (q18, .cells #[.int .i64 k, .int .i64 b, .int .i64 pg] 45 (0, 0)) :: K) F C bb qq ss st) : u.cell? ⟨q22, 0, none⟩ = some (.int .i64 k) ∧ u.cell? ⟨q22, 1, none⟩ = some (.int .i64 b) ∧ u.cell? ⟨q22, 2, none⟩ = some (.int .i64 pp) ∧ u.cell? ⟨q22, 3, none⟩ = some (.int .i64 e) ∧ u.cell? ⟨q18, 0, none⟩ = some (.int .i64 k) ∧ u.cell? ⟨q18, 1, none⟩ = some (.int .i64 b) := by
  obtain ⟨h0, h1, h2, h3⟩ := cells4 (h.hd.blk (g := q22) (o := .cells #[.int .i64 k, .int .i64 b, .int .i64 pp, .int .i64 e] 54 (0, 0)) (by simp))
  obtain ⟨g0, g1⟩ := cells2x (h.hd.blk (g := q18) (o := .cells #[.int .i64 k, .int .i64 b, .int .i64 pg] 45 (0, 0)) (by simp))
  exact ⟨h0, h1, h2, h3, g0, g1⟩
theorem trace_front {u v : World} {B g c m : Nat} {o : Obj} {tr : List Cmd} {y : Cmd} (h : u.ownsRow B 54 4 (.slice (some ⟨g, 0, none⟩) (m + 1) c) (tr ++ [y]).length ((tr ++ [y]).flatMap Cmd.cells)) (hm : tr.length = m) (hu : u.heap[g]? = some o) (hv : v.heap[g]? = some o) (hok : ∀ x ∈ tr ++ [y], x.j.Ok) : J.ReadsC v (some ⟨g, 0, none⟩) m (tr.map Cmd.j) := by
  have hl : (tr ++ [y]).length = m + 1 := by simp [hm]
  have h1 := owns_keep (w' := v) h (fun k hk => by cases hk; rw [hv, hu])
  rw [← hl] at h1
  have h2 := trace_reads (m := m) h1 hok (by omega)
  rw [List.map_append, List.take_append_of_le_length (by simp [hm]), List.take_of_length_le (by simp [hm])] at h2
  exact h2
/-- Rows of zeros. -/
def zrow8 (n : Nat) : Array Value := (List.replicate n (.int .u8 0)).toArray
theorem mk32z (w : World) (n : Nat) (hn : n ≤ 10000) : (Instr.makeSlice 32 (.int .i64 (n : Int)) (.int .i64 (n : Int))).run Try.prog w = .ok (.slice (some ⟨w.heap.size, 0, none⟩) n n) (w.alloc (.cells (zrow8 n) 5)) := by
  obtain ⟨i, hi, hz0, hz1, hb⟩ := info_parts info5
  have h := run_makeSlice (P := Try.prog) w 32 5 i _ Try.underlying32 hi hz0 .i64 .i64 (n : Int) (n : Int) (by omega) (by omega) (by rw [hz1]; simp; omega) (by rw [hb]; omega) (by omega)
  rw [hz1] at h
  rw [h]
  have e9 : madeCells #[Value.int .u8 0] (n * 1) = zrow8 n := (made_eq [.int .u8 0] 1 rfl (by omega) n).trans (by simp [zrow8])
  simp only [Int.toNat_natCast]
  first | rw [← e9] | (simp only [Nat.mul_one] at e9; rw [← e9])
  rfl
theorem zrow_reads {w : World} {g n : Nat} {f : Nat × Nat} (h : w.heap[g]? = some (.cells (zrow8 n) 5 f)) : Reads w (some ⟨g, 0, none⟩) n (List.replicate n 0) := by
  refine ⟨by simp, fun z hz => by rw [(List.mem_replicate.1 hz).2]; omega, (fun h => by cases h), fun x hx i hi => ?_⟩
  cases hx
  rw [J.plain_add, Nat.zero_add]
  simp only [World.cell?, h, zrow8, List.getElem?_toArray, List.getElem?_replicate, if_pos hi, List.getD_eq_getElem?_getD]
  rfl
end Go.Proofs.Ytjhphkfpcpfdnaa
