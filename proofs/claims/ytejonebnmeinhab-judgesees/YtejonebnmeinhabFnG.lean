/-
  SEAT Ytejonebnmeinhab: marks, trace.
-/
import Derived.Test.YtejonebnmeinhabFnF
namespace Go.Proofs.Ytejonebnmeinhab
open Go.RowKit
set_option linter.unusedVariables false

/-- What a slice of elements of some cells reads as, cell by cell; it may be nil. -/
def RV (w : World) (a : Option Addr) (len size : Nat) (xs : List Value) : Prop :=
  xs.length = len * size ∧ (a = none → len = 0) ∧ ∀ x, a = some x → ∀ j u, xs[j]? = some u → w.cell? (x.add j) = some u

theorem wpList_append_src {w : World} {ops : Array Oper} {rest : List Oper} {o : Oper} {a : Act} {Q : Exit → Act → World → Prop} (hgd : o.guard = none) (s x : Operand) (T : TypeId)
    (ho : o.op = .call { callee := .builtin .append, args := #[s, x], argTypes := #[T, T] })
    (base : Nat) (E : TypeId) (i : TypeInfo) (z : Value) (size bytes : Nat) (ht : Try.prog.underlying T = some (.slice E)) (hi : Try.prog.info? E = some i) (hz : i.zero = some z)
    (hsize : i.size = size) (hby : i.bytes = bytes) (hzs : z.cells.size = size) (hsz : 0 < size)
    (v : Value) (n : Nat) (xs : List Value) (hs : a.eval s = v) (hown : w.ownsRow base E size v n xs)
    (ad : Option Addr) (m c : Nat) (news : List Value) (hx : a.eval x = .slice ad m c) (hrd : RV w ad m size news) (h1 : ∀ u ∈ news, u.oneCell' = true)
    (h63 : n + m ≤ maxLen) (hbytes : (n + m) * bytes ≤ 140737488355328) (hbase : base ≤ w.heap.size)
    (h : ∀ v' w', w'.ownsRow base E size v' (n + m) (xs ++ news) → w.grownBy w' v.ownBlock → wpList Try.prog ops Q rest (a.put o.dst v') w') : wpList Try.prog ops Q (o :: rest) a w := by
  cases ad with
  | some ad =>
    refine wpList_append_own w hgd s x T ho base E i z size bytes ht hi hz hsize hby hzs hsz v n _ hs hown ad m c news hx hrd.1 (hrd.2.2 ad rfl) h1 h63 hbytes hbase ?_
    intro v' w' h1 h2 _
    exact h v' w' h1 h2
  | none =>
    have h0 := hrd.2.1 rfl
    subst h0
    have hz0 : news = [] := List.eq_nil_of_length_eq_zero (by have := hrd.1; omega)
    subst hz0
    have hrun : (Builtin.append_ #[T, T] o.type #[v, .slice none 0 c]).run Try.prog w = .ok v w := by
      rcases hown.2 with ⟨rfl, rfl⟩ | ⟨g, cap, cur, rfl, _, _, hnc, _⟩
      · simp [Builtin.append_, run_underlying ht, sizeOf, typeInfo, hi, Builtin.lenOf, Builtin.firstCells]
      · simp [Builtin.append_, run_underlying ht, sizeOf, typeInfo, hi, Builtin.lenOf, Builtin.firstCells, hnc, storeCells]
    refine wpList_plain hgd fun K hK => ?_
    unfold Oper.wp
    simp [execOp, ho, resolve, invoke, builtin, hs, hx, hrun, Result.andThen]
    exact hK _ _ (h v w (by simpa using hown) (World.grownBy.refl _ _))

theorem ReadsB.rv {w : World} {a : Option Addr} {len : Nat} {bs : List Bool} (h : ReadsB w a len bs) : RV w a len 1 (bs.map Value.bool) := by
  obtain ⟨hl, hn, hc⟩ := h
  refine ⟨by simp [hl], hn, fun x hx j u hj => ?_⟩
  rw [List.getElem?_map] at hj
  cases hb : bs[j]? with
  | none => rw [hb] at hj; simp at hj
  | some q =>
    rw [hb] at hj
    simp at hj
    obtain ⟨hlt, _⟩ := List.getElem?_eq_some_iff.1 hb
    rw [hc x hx j (by omega), ← hj]
    simp [List.getD_eq_getElem?_getD, hb]

/-- The cells of commands. -/
def Cmd.cells (c : Cmd) : List Value := [.int .i64 c.k, .int .i64 c.b, .int .i64 c.p, .int .i64 c.s]
def flat (cs : List Cmd) : List Value := cs.flatMap Cmd.cells
theorem flat_append (xs ys : List Cmd) : flat (xs ++ ys) = flat xs ++ flat ys := by simp [flat]
theorem flat_length (cs : List Cmd) : (flat cs).length = cs.length * 4 := by
  induction cs with
  | nil => rfl
  | cons c r ih => simp only [flat, List.flatMap_cons, List.length_append, Cmd.cells, List.length_cons, List.length_nil] at *; omega
theorem flat_cell (cs : List Cmd) (i j : Nat) (hi : i < cs.length) (hj : j < 4) : (flat cs)[i * 4 + j]? = some ((cs.getD i Cmd.none).cell j) := by
  induction cs generalizing i with
  | nil => simp at hi
  | cons c r ih =>
    have e : flat (c :: r) = c.cells ++ flat r := rfl
    rw [e]
    cases i with
    | zero =>
      rw [List.getElem?_append_left (by simp [Cmd.cells]; omega)]
      match j, hj with
      | 0, _ => rfl
      | 1, _ => rfl
      | 2, _ => rfl
      | 3, _ => rfl
    | succ i =>
      rw [List.getElem?_append_right (by simp [Cmd.cells]; omega)]
      have := ih i (by simpa using hi)
      rw [show (i + 1) * 4 + j - c.cells.length = i * 4 + j by simp [Cmd.cells]; omega, this]
      rfl
theorem flat_one (cs : List Cmd) : ∀ u ∈ flat cs, u.oneCell' = true := by
  intro u hu
  simp only [flat, List.mem_flatMap, Cmd.cells] at hu
  obtain ⟨c, _, hc⟩ := hu
  simp at hc
  rcases hc with rfl | rfl | rfl | rfl <;> rfl

theorem ReadsC.rv {w : World} {a : Option Addr} {len : Nat} {cs : List Cmd} (h : ReadsC w a len cs) : RV w a len 4 (flat cs) := by
  obtain ⟨hl, ho, hn, hc⟩ := h
  refine ⟨by rw [flat_length, hl], hn, fun x hx j u hj => ?_⟩
  have hlt : j < cs.length * 4 := by rw [← flat_length]; exact (List.getElem?_eq_some_iff.1 hj).1
  have h1 := hc x hx (j / 4) (by omega) (j % 4) (by omega)
  have h2 := flat_cell cs (j / 4) (j % 4) (by omega) (by omega)
  rw [show j / 4 * 4 + j % 4 = j by omega] at h1 h2
  rw [h1, ← h2, hj]

theorem bools_one (bs : List Bool) : ∀ u ∈ bs.map Value.bool, u.oneCell' = true := by
  intro u hu
  obtain ⟨b, _, rfl⟩ := List.mem_map.1 hu
  rfl

theorem info4 : (Try.prog.info? 4).map (fun i => (i.zero, i.size, i.bytes)) = some (some (.bool false), 1, 1) := by kernel_rfl
theorem info73 : (Try.prog.info? 73).map (fun i => (i.zero, i.size, i.bytes)) = some (some (.agg #[.int .i64 0, .int .i64 0, .int .i64 0, .int .i64 0]), 4, 32) := by kernel_rfl

theorem own_shape {w : World} {B n E S : Nat} {v : Value} {xs : List Value} (h : w.ownsRow B E S v n xs) (hn : 0 < n) : ∃ g cap, v = .slice (some ⟨g, 0, none⟩) n cap ∧ n ≤ cap ∧ cap ≤ maxLen ∧ B ≤ g ∧ g < w.heap.size := by
  rcases h.2 with ⟨_, h0⟩ | ⟨g, cap, cur, hv, hb, hg, hnc, hcm, _⟩
  · omega
  · refine ⟨g, cap, hv, hnc, hcm, hb, ?_⟩
    rcases Nat.lt_or_ge g w.heap.size with h | h
    · exact h
    · simp [Array.getElem?_eq_none h] at hg

theorem rv_block {w : World} {cs : Array Value} {t : TypeId} {m size : Nat} (hl : cs.size = m * size) : RV (w.alloc (.cells cs t)) (some ⟨w.heap.size, 0, none⟩) m size cs.toList := by
  refine ⟨by simpa using hl, (fun h => by cases h), fun x hx j u hj => ?_⟩
  cases hx
  exact World.news_of_block (heap_alloc_new w _) j u hj

theorem RV.grown {w w' : World} {a : Option Addr} {len size : Nat} {xs : List Value} {row : Option Nat} (h : RV w a len size xs) (hg : w.grownBy w' row) (hr : ∀ x, a = some x → some x.block ≠ row) : RV w' a len size xs := by
  obtain ⟨h1, h2, h3⟩ := h
  exact ⟨h1, h2, fun x hx j u hj => hg.cell (h3 x hx j u hj) (by have := hr x hx; unfold Addr.add; split <;> simpa using this)⟩

set_option maxHeartbeats 1000000 in
theorem marks_any (a : Option Addr) (len cap : Nat) (bs : List Bool) (w : World) (hl : len ≤ 140737488351232) (h : ReadsB w a len bs) :
    Calls Try.prog 23 #[.slice a len cap] w fun e w' => ∃ g c, e = .returned (.slice (some ⟨g, 0, none⟩) len c) ∧ len + 3 ≤ c ∧ w'.ownsRow w.heap.size 4 1 (.slice (some ⟨g, 0, none⟩) (len + 3) c) (len + 3) ((bs ++ [true, false, true]).map Value.bool) ∧ Below w.heap.size w w' := by
  obtain ⟨i0, hi, hz0, hz1, hz2⟩ := info_parts info4
  have hb0 : Below w.heap.size w (w.alloc (.cells #[] 4)) := (Below.refl _ _).alloc (Nat.le_refl _) _
  have own0 : (w.alloc (.cells #[] 4)).ownsRow w.heap.size 4 1 (.slice (some ⟨w.heap.size, 0, none⟩) 0 0) 0 [] := World.ownsRow_made w #[] 0 (Nat.le_refl _) (by simp [maxLen]) rfl
  have rv0 := (h.below hb0).rv
  go_enter Try.func23, Try.ntmps23
  go_wp2_with (first
    | (at_builtin; refine wpList_append_src rfl (.tmp 4) (.tmp 5) 25 rfl w.heap.size 4 i0 (.bool false) 1 1 Try.underlying25 hi hz0 hz1 hz2 rfl (by decide) _ 0 [] rfl own0 _ _ _ _ rfl rv0 (bools_one _) (by simp [maxLen]; omega) (by omega) (by simp) ?_; intro v1 w1 own1 grow1)
    | (at_builtin; refine wpList_append_src rfl (.tmp 6) (.tmp 7) 25 rfl w.heap.size 4 i0 (.bool false) 1 1 Try.underlying25 hi hz0 hz1 hz2 rfl (by decide) _ _ _ rfl (own1.alloc _) _ 3 _ _ rfl (rv_block (cs := #[.bool true, .bool false, .bool true]) rfl) (bools_one [true, false, true]) (by simp [maxLen]; omega) (by omega) (by have := grow1.size; simp at this; simp; omega) ?_; intro v2 w2 own2 grow2; obtain ⟨g2, c2, rfl, hc2, hm2, hbg, hgl⟩ := own_shape own2 (by omega); have hc3 : ((len : Int) ≤ (c2 : Int)) := (by omega)))
  go_ret
  refine ⟨g2, c2, rfl, by omega, ?_, ?_⟩
  · simpa [Nat.zero_add, List.map_append] using own2
  · have b1 : Below w.heap.size w w1 := hb0.grown grow1 (by simp) (fun k hk => (own0.lt k hk).1)
    exact (b1.alloc b1.size _).grown grow2 (by have := b1.size; simp; omega) (fun k hk => (own1.lt k hk).1)

def tail2 : List Cmd := [⟨71, 0, 0, 0⟩, ⟨72, 0, 0, 0⟩]

set_option maxHeartbeats 1000000 in
theorem trace_any (a : Option Addr) (len cap : Nat) (cs : List Cmd) (w : World) (hl : len * 32 ≤ 140737488355264) (h : ReadsC w a len cs) :
    Calls Try.prog 24 #[.slice a len cap] w fun e w' => ∃ g c, e = .returned (.slice (some ⟨g, 0, none⟩) len c) ∧ len + 2 ≤ c ∧ w'.ownsRow w.heap.size 73 4 (.slice (some ⟨g, 0, none⟩) (len + 2) c) (len + 2) (flat (cs ++ tail2)) ∧ Below w.heap.size w w' := by
  obtain ⟨i0, hi, hz0, hz1, hz2⟩ := info_parts info73
  have hb0 : Below w.heap.size w (w.alloc (.cells #[] 73)) := (Below.refl _ _).alloc (Nat.le_refl _) _
  have own0 : (w.alloc (.cells #[] 73)).ownsRow w.heap.size 73 4 (.slice (some ⟨w.heap.size, 0, none⟩) 0 0) 0 [] := World.ownsRow_made w #[] 0 (Nat.le_refl _) (by simp [maxLen]) rfl
  have rv0 := (h.below hb0).rv
  go_enter Try.func24, Try.ntmps24
  go_wp2_with (first
    | (at_builtin; refine wpList_append_src rfl (.tmp 4) (.tmp 5) 62 rfl w.heap.size 73 i0 _ 4 32 Try.underlying62 hi hz0 hz1 hz2 rfl (by decide) _ 0 [] rfl own0 _ _ _ _ rfl rv0 (flat_one _) (by simp [maxLen]; omega) (by omega) (by simp) ?_; intro v1 w1 own1 grow1)
    | (at_builtin; refine wpList_append_src rfl (.tmp 6) (.tmp 9) 62 rfl w.heap.size 73 i0 _ 4 32 Try.underlying62 hi hz0 hz1 hz2 rfl (by decide) _ _ _ rfl (own1.alloc _) _ 2 _ _ rfl (rv_block (cs := #[.int .i64 71, .int .i64 0, .int .i64 0, .int .i64 0, .int .i64 72, .int .i64 0, .int .i64 0, .int .i64 0]) rfl) (flat_one tail2) (by simp [maxLen]; omega) (by omega) (by have := grow1.size; simp at this; simp; omega) ?_; intro v2 w2 own2 grow2; obtain ⟨g2, c2, rfl, hc2, hm2, hbg, hgl⟩ := own_shape own2 (by omega); have hc3 : ((len : Int) ≤ (c2 : Int)) := (by omega)))
  go_ret
  refine ⟨g2, c2, rfl, by omega, ?_, ?_⟩
  · rw [flat_append]
    have e : flat tail2 = [.int .i64 71, .int .i64 0, .int .i64 0, .int .i64 0, .int .i64 72, .int .i64 0, .int .i64 0, .int .i64 0] := rfl
    rw [e]
    simpa [Nat.zero_add] using own2
  · have b1 : Below w.heap.size w w1 := hb0.grown grow1 (by simp) (fun k hk => (own0.lt k hk).1)
    exact (b1.alloc b1.size _).grown grow2 (by have := b1.size; simp; omega) (fun k hk => (own1.lt k hk).1)

/-- What is owned can be read, its front too. -/
theorem own_readsB {w : World} {B g n c m : Nat} {bs : List Bool} (h : w.ownsRow B 4 1 (.slice (some ⟨g, 0, none⟩) n c) n (bs.map Value.bool)) (hm : m ≤ n) : ReadsB w (some ⟨g, 0, none⟩) m (bs.take m) := by
  have hl : bs.length = n := by have := h.1; simpa using this
  refine ⟨by simp; omega, (fun h => by cases h), fun x hx i hi => ?_⟩
  cases hx
  rw [plain_add, Nat.zero_add, World.ownsRow.cellAt h i (by omega), List.getElem?_map, List.getElem?_eq_getElem (by omega)]
  simp [List.getD_eq_getElem?_getD, hi, List.getElem?_eq_getElem (show i < bs.length by omega)]

theorem own_readsC {w : World} {B g n c m : Nat} {cs : List Cmd} (h : w.ownsRow B 73 4 (.slice (some ⟨g, 0, none⟩) n c) n (flat cs)) (hok : ∀ x ∈ cs, x.Ok) (hm : m ≤ n) : ReadsC w (some ⟨g, 0, none⟩) m (cs.take m) := by
  have hl : cs.length = n := by have := h.1; rw [flat_length] at this; omega
  refine ⟨by simp; omega, fun x hx => hok x (List.mem_of_mem_take hx), (fun h => by cases h), fun x hx i hi j hj => ?_⟩
  cases hx
  rw [plain_add, Nat.zero_add, World.ownsRow.cellAt h (i * 4 + j) (by omega), flat_cell cs i j (by omega) hj]
  simp [List.getD_eq_getElem?_getD, hi]
end Go.Proofs.Ytejonebnmeinhab
