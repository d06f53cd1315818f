/-
  SEAT Ytgdmagmbkmgdfad: marked, kept.
-/
import Derived.Test.YtgdmagmbkmgdfadRE
namespace Go.Proofs.Ytgdmagmbkmgdfad
open Go.RowKit
set_option linter.unusedVariables false

theorem marks_news (w : World) : ∀ j u, [Value.int .u8 161, Value.int .u8 178, Value.int .u8 195][j]? = some u →
    (w.alloc (.cells #[.int .u8 161, .int .u8 178, .int .u8 195] 5)).cell? ((⟨w.heap.size, 0, none⟩ : Addr).add j) = some u := by
  intro j u hj
  match j, hj with
  | 0, hj => simp at hj; subst hj; simp [Addr.add]
  | 1, hj => simp at hj; subst hj; simp [Addr.add]
  | 2, hj => simp at hj; subst hj; simp [Addr.add]
theorem marks_one : ∀ u ∈ [Value.int .u8 161, Value.int .u8 178, Value.int .u8 195], u.oneCell' = true := by
  intro u hu
  simp at hu
  rcases hu with rfl | rfl | rfl <;> rfl

set_option maxHeartbeats 400000 in
theorem marked_any (a : Option Addr) (len cap : Nat) (zs : List Int) (w : World) (h : Reads w a len zs) (hr : len ≤ 140737488355000) :
    Calls Try.prog 5 #[.slice a len cap] w fun e w' => ∃ g cap', e = .returned (.slice (some ⟨g, 0, none⟩) len cap') ∧ Own w' w.heap.size g (len + 3) cap' (zs ++ [161, 178, 195]) ∧ Below w.heap.size w w' := by
  obtain ⟨i0, hi, hz0, hz1, hz2⟩ := info_parts info5
  have hlen := h.1
  cases a with
  | none =>
    have hl0 : len = 0 := h.2.2.1 rfl
    subst hl0
    have hz : zs = [] := List.eq_nil_of_length_eq_zero hlen
    subst hz
    have hmade : (w.alloc (.cells #[] 5)).ownsRow w.heap.size 5 1 (.slice (some ⟨w.heap.size, 0, none⟩) 0 0) 0 [] := World.ownsRow_made w #[] 0 (Nat.le_refl _) (by simp [maxLen]) rfl
    go_enter Try.func5, Try.ntmps5
    go_wp2_with (
      (at_builtin; refine wpList_append_own _ rfl (.tmp 6) (.tmp 7) 22 rfl w.heap.size 5 i0 (.int .u8 0) 1 1 Try.underlying22 hi hz0 hz1 hz2 rfl (by decide) _ _ _ rfl (hmade.alloc _) ⟨w.heap.size + 1, 0, none⟩ 3 3 [.int .u8 161, .int .u8 178, .int .u8 195] rfl rfl (by simpa using marks_news (w.alloc (.cells #[] 5))) marks_one (by simp [maxLen]) (by omega) (by simp; omega) ?_; intro v2 w2 hown2 hgrow2 _; obtain ⟨g, c2, rfl, hc2, hm2, hbg, hgl⟩ := own_shape hown2 (by omega)))
    go_ret
    refine ⟨g, c2, rfl, by simpa [Own] using hown2, ?_⟩
    exact (((Below.refl w.heap.size w).alloc (Nat.le_refl _) _).alloc (by simp) _).grown hgrow2 (by simp; omega) (fun k hk => (hmade.lt k hk).1)
  | some x =>
    have hnews : ∀ j u, (zs.map (Value.int .u8))[j]? = some u → (w.alloc (.cells #[] 5)).cell? (x.add j) = some u := fun j u hj => by
      have h1 := h.news j u hj
      rw [((Below.refl w.heap.size w).alloc (Nat.le_refl _) _).cell (block_lt_of_cell h1)]
      exact h1
    have hmade : (w.alloc (.cells #[] 5)).ownsRow w.heap.size 5 1 (.slice (some ⟨w.heap.size, 0, none⟩) 0 0) 0 [] := World.ownsRow_made w #[] 0 (Nat.le_refl _) (by simp [maxLen]) rfl
    go_enter Try.func5, Try.ntmps5
    go_wp2_with (first
      | (at_builtin; refine wpList_append_own _ rfl (.tmp 4) (.tmp 5) 22 rfl w.heap.size 5 i0 (.int .u8 0) 1 1 Try.underlying22 hi hz0 hz1 hz2 rfl (by decide) _ _ _ rfl hmade x len cap (zs.map (Value.int .u8)) rfl (by simp [hlen]) hnews (ints_oneCell _ _) (by simp [maxLen]; omega) (by omega) (by simp) ?_; intro v1 w1 hown1 hgrow1 _)
      | (at_builtin; refine wpList_append_own _ rfl (.tmp 6) (.tmp 7) 22 rfl w.heap.size 5 i0 (.int .u8 0) 1 1 Try.underlying22 hi hz0 hz1 hz2 rfl (by decide) _ _ _ rfl (hown1.alloc _) ⟨w1.heap.size, 0, none⟩ 3 3 [.int .u8 161, .int .u8 178, .int .u8 195] rfl rfl (marks_news w1) marks_one (by simp [maxLen]; omega) (by omega) (by have := hgrow1.size; simp at this ⊢; omega) ?_; intro v2 w2 hown2 hgrow2 _; obtain ⟨g, c2, rfl, hc2, hm2, hbg, hgl⟩ := own_shape hown2 (by omega)))
    go_ret
    refine ⟨g, c2, rfl, by simpa [Own] using hown2, ?_⟩
    have b1 : Below w.heap.size w w1 := ((Below.refl w.heap.size w).alloc (Nat.le_refl _) _).grown hgrow1 (by simp) (fun k hk => (hmade.lt k hk).1)
    exact (b1.alloc b1.size _).grown hgrow2 (by have := b1.size; simp; omega) (fun k hk => (hown1.lt k hk).1)

end Go.Proofs.Ytgdmagmbkmgdfad
