/-
  SEAT Ytgijbpkfheillaa: copied.
-/
import Derived.Test.YtgijbpkfheillaaBlE
import Derived.Test.YtgijbpkfheillaaBlN
namespace Go.Proofs.Ytgijbpkfheillaa
open Go.RowKit
set_option linter.unusedVariables false

/-- What a slice of elements of some cells reads as, cell by cell; it may be nil. -/
def RV (w : World) (a : Option Addr) (len size : Nat) (xs : List Value) : Prop :=
  xs.length = len * size ∧ (a = none → len = 0) ∧ ∀ x, a = some x → ∀ j u, xs[j]? = some u → w.cell? (x.add j) = some u

theorem wpList_append_src {w : World} {ops : Array Oper} {rest : List Oper} {o : Oper} {a : Act} {Q : Exit → Act → World → Prop} (hgd : o.guard = none) (s x : Operand) (T : TypeId)
    (ho : o.op = .call { callee := .builtin .append, args := #[s, x], argTypes := #[T, T] })
    (base : Nat) (E : TypeId) (i : TypeInfo) (z : Value) (size bytes : Nat) (ht : Try.prog.underlying T = some (.slice E)) (hi : Try.prog.info? E = some i) (hz : i.zero = some z)
    (hsize : i.size = size) (hby : i.bytes = bytes) (hzs : z.cells.size = size) (hsz : 0 < size)
    (v : Value) (n : Nat) (xs : List Value) (hs : a.eval s = v) (hown : w.ownsRow base E size v n xs)
    (ad : Option Addr) (m c : Nat) (news : List Value) (hx : a.eval x = .slice ad m c) (hrd : RV w ad m size news) (h1 : ∀ u ∈ news, u.oneCell' = true)
    (h63 : n + m ≤ maxLen) (hbytes : (n + m) * bytes ≤ 140737488355328) (hbase : base ≤ w.heap.size)
    (h : ∀ v' w', w'.ownsRow base E size v' (n + m) (xs ++ news) → w.grownBy w' v.ownBlock → wpList Try.prog ops Q rest (a.put o.dst v') w') : wpList Try.prog ops Q (o :: rest) a w := by
  cases ad with
  | some ad =>
    refine wpList_append_own w hgd s x T ho base E i z size bytes ht hi hz hsize hby hzs hsz v n _ hs hown ad m c news hx hrd.1 (hrd.2.2 ad rfl) h1 h63 hbytes hbase ?_
    intro v' w' h1 h2 _
    exact h v' w' h1 h2
  | none =>
    have h0 := hrd.2.1 rfl
    subst h0
    have hz0 : news = [] := List.eq_nil_of_length_eq_zero (by have := hrd.1; omega)
    subst hz0
    have hrun : (Builtin.append_ #[T, T] o.type #[v, .slice none 0 c]).run Try.prog w = .ok v w := by
      rcases hown.2 with ⟨rfl, rfl⟩ | ⟨g, cap, cur, rfl, _, _, hnc, _⟩
      · simp [Builtin.append_, run_underlying ht, sizeOf, typeInfo, hi, Builtin.lenOf, Builtin.firstCells]
      · simp [Builtin.append_, run_underlying ht, sizeOf, typeInfo, hi, Builtin.lenOf, Builtin.firstCells, hnc, storeCells]
    refine wpList_plain hgd fun K hK => ?_
    unfold Oper.wp
    simp [execOp, ho, resolve, invoke, builtin, hs, hx, hrun, Result.andThen]
    exact hK _ _ (h v w (by simpa using hown) (World.grownBy.refl _ _))

theorem own_shape {w : World} {B n E S : Nat} {v : Value} {xs : List Value} (h : w.ownsRow B E S v n xs) (hn : 0 < n) : ∃ g cap, v = .slice (some ⟨g, 0, none⟩) n cap ∧ n ≤ cap ∧ cap ≤ maxLen ∧ B ≤ g ∧ g < w.heap.size := by
  rcases h.2 with ⟨_, h0⟩ | ⟨g, cap, cur, hv, hb, hg, hnc, hcm, _⟩
  · omega
  · refine ⟨g, cap, hv, hnc, hcm, hb, ?_⟩
    rcases Nat.lt_or_ge g w.heap.size with h | h
    · exact h
    · simp [Array.getElem?_eq_none h] at hg

theorem rv_block {w : World} {cs : Array Value} {t : TypeId} {m size : Nat} (hl : cs.size = m * size) : RV (w.alloc (.cells cs t)) (some ⟨w.heap.size, 0, none⟩) m size cs.toList := by
  refine ⟨by simpa using hl, (fun h => by cases h), fun x hx j u hj => ?_⟩
  cases hx
  exact World.news_of_block (heap_alloc_new w _) j u hj

theorem RV.grown {w w' : World} {a : Option Addr} {len size : Nat} {xs : List Value} {row : Option Nat} (h : RV w a len size xs) (hg : w.grownBy w' row) (hr : ∀ x, a = some x → some x.block ≠ row) : RV w' a len size xs := by
  obtain ⟨h1, h2, h3⟩ := h
  exact ⟨h1, h2, fun x hx j u hj => hg.cell (h3 x hx j u hj) (by have := hr x hx; unfold Addr.add; split <;> simpa using this)⟩


def flatK (bs : List Bk) : List Value := bs.flatMap Bk.cells
theorem flatK_append (xs ys : List Bk) : flatK (xs ++ ys) = flatK xs ++ flatK ys := by simp [flatK]
theorem flatK_length (bs : List Bk) : (flatK bs).length = bs.length * 4 := by
  induction bs with
  | nil => rfl
  | cons b r ih => rw [show b :: r = [b] ++ r from rfl, flatK_append, List.length_append, ih]; simp [flatK, Bk.cells]; omega
theorem flatK_cell (bs : List Bk) (i j : Nat) (hi : i < bs.length) (hj : j < 4) : (flatK bs)[i * 4 + j]? = some ((bs.getD i Bk.zero).cell j) := by
  induction bs generalizing i with
  | nil => exact absurd hi (Nat.not_lt_zero _)
  | cons b r ih =>
    rw [show b :: r = [b] ++ r from rfl, flatK_append]
    have hl : (flatK [b]).length = 4 := by simp [flatK, Bk.cells]
    match i with
    | 0 =>
      rw [List.getElem?_append_left (by omega)]
      match j, hj with
      | 0, _ => rfl
      | 1, _ => rfl
      | 2, _ => rfl
      | 3, _ => rfl
    | i + 1 =>
      rw [List.getElem?_append_right (by omega), hl, show (i + 1) * 4 + j - 4 = i * 4 + j by omega, ih i (by simpa using hi)]
      simp
theorem flatK_one (bs : List Bk) : ∀ u ∈ flatK bs, u.oneCell' = true := by
  intro u hu
  obtain ⟨b, _, hb⟩ := List.mem_flatMap.1 hu
  simp [Bk.cells] at hb
  rcases hb with rfl | rfl | rfl | rfl <;> rfl
theorem ReadsK.rv {w : World} {a : Option Addr} {len : Nat} {bs : List Bk} (h : ReadsK w a len bs) : RV w a len 4 (flatK bs) := by
  obtain ⟨h1, h2, h3, h4⟩ := h
  refine ⟨by rw [flatK_length, h1], h3, fun x hx j u hj => ?_⟩
  have hlt : j < bs.length * 4 := by
    have := (List.getElem?_eq_some_iff.1 hj).1
    rwa [flatK_length] at this
  have e : j = j / 4 * 4 + j % 4 := by omega
  have h5 := h4 x hx (j / 4) (by omega) (j % 4) (by omega)
  rw [← e] at h5
  have h6 := flatK_cell bs (j / 4) (j % 4) (by omega) (by omega)
  rw [← e, hj] at h6
  rw [h5, h6]
theorem info34 : (Try.prog.info? 34).map (fun i => (i.zero, i.size, i.bytes)) = some (some (.agg #[.int .i64 0, .int .u64 0, .bool false, .int .i64 0]), 4, 32) := by kernel_rfl
def tailK : List Bk := [⟨71, 0, false, 0⟩, ⟨72, 0, false, 0⟩]

set_option maxHeartbeats 1000000 in
theorem copied_any (a : Option Addr) (len cap : Nat) (bs : List Bk) (w : World) (hl : len * 32 ≤ 140737488355264) (h : ReadsK w a len bs) :
    Calls Try.prog 27 #[.slice a len cap] w fun e w' => ∃ g c, e = .returned (.slice (some ⟨g, 0, none⟩) len c) ∧ len + 2 ≤ c ∧ w'.ownsRow w.heap.size 34 4 (.slice (some ⟨g, 0, none⟩) (len + 2) c) (len + 2) (flatK (bs ++ tailK)) ∧ Below w.heap.size w w' := by
  obtain ⟨i0, hi, hz0, hz1, hz2⟩ := info_parts info34
  have hb0 : Below w.heap.size w (w.alloc (.cells #[] 34)) := (Below.refl _ _).alloc (Nat.le_refl _) _
  have own0 : (w.alloc (.cells #[] 34)).ownsRow w.heap.size 34 4 (.slice (some ⟨w.heap.size, 0, none⟩) 0 0) 0 [] := World.ownsRow_made w #[] 0 (Nat.le_refl _) (by simp [maxLen]) rfl
  have rv0 := (h.below hb0).rv
  go_enter Try.func27, Try.ntmps27
  go_wp2_with (first
    | (at_builtin; refine wpList_append_src rfl (.tmp 4) (.tmp 5) 24 rfl w.heap.size 34 i0 _ 4 32 Try.underlying24 hi hz0 hz1 hz2 rfl (by decide) _ 0 [] rfl own0 _ _ _ _ rfl rv0 (flatK_one _) (by simp [maxLen]; omega) (by omega) (by simp) ?_; intro v1 w1 own1 grow1)
    | (at_builtin; refine wpList_append_src rfl (.tmp 6) (.tmp 9) 24 rfl w.heap.size 34 i0 _ 4 32 Try.underlying24 hi hz0 hz1 hz2 rfl (by decide) _ _ _ rfl (own1.alloc _) _ 2 _ _ rfl (rv_block (cs := #[.int .i64 71, .int .u64 0, .bool false, .int .i64 0, .int .i64 72, .int .u64 0, .bool false, .int .i64 0]) rfl) (flatK_one tailK) (by simp [maxLen]; omega) (by omega) (by have := grow1.size; simp at this; simp; omega) ?_; intro v2 w2 own2 grow2; obtain ⟨g2, c2, rfl, hc2, hm2, hbg, hgl⟩ := own_shape own2 (by omega); have hc3 : ((len : Int) ≤ (c2 : Int)) := (by omega)))
  go_ret
  refine ⟨g2, c2, rfl, by omega, ?_, ?_⟩
  · rw [flatK_append]
    have e : flatK tailK = [.int .i64 71, .int .u64 0, .bool false, .int .i64 0, .int .i64 72, .int .u64 0, .bool false, .int .i64 0] := rfl
    rw [e]
    simpa [Nat.zero_add] using own2
  · have b1 : Below w.heap.size w w1 := hb0.grown grow1 (by simp) (fun k hk => (own0.lt k hk).1)
    exact (b1.alloc b1.size _).grown grow2 (by have := b1.size; simp; omega) (fun k hk => (own1.lt k hk).1)

end Go.Proofs.Ytgijbpkfheillaa
