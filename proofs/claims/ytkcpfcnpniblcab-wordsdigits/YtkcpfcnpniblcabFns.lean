/-
  SEAT Ytkcpfcnpniblcab: contracts of the statements' own helpers.
-/
import Derived.Test.YtkcpfcnpniblcabBase
namespace Go.Proofs.Ytkcpfcnpniblcab
open Go.RowKit
set_option linter.unusedVariables false

theorem no_any (n : Int) (w : World) : Calls Try.prog 9 #[.int .i64 n] w fun e w' => e = .returned (.int .i64 n) ∧ w = w' := by
  go_enter Try.func9, Try.ntmps9
  go_wp2
  go_ret
  exact ⟨rfl, rfl⟩

theorem no_quiet (n : Int) (w : World) : Calls Try.prog 9 #[.int .i64 n] w fun e w' => e = .returned (.int .i64 n) ∧ w' = w :=
  (no_any n w).mono fun _ _ ⟨h1, h2⟩ => ⟨h1, h2.symm⟩

theorem marks_news (w : World) : ∀ j u, [Value.int .u8 161, Value.int .u8 178, Value.int .u8 195][j]? = some u →
    (w.alloc (.cells #[.int .u8 161, .int .u8 178, .int .u8 195] 5)).cell? ((⟨w.heap.size, 0, none⟩ : Addr).add j) = some u := by
  intro j u hj
  match j, hj with
  | 0, hj => simp at hj; subst hj; simp [Addr.add]
  | 1, hj => simp at hj; subst hj; simp [Addr.add]
  | 2, hj => simp at hj; subst hj; simp [Addr.add]

theorem marks_one : ∀ u ∈ [Value.int .u8 161, Value.int .u8 178, Value.int .u8 195], u.oneCell' = true := by
  intro u hu
  simp at hu
  rcases hu with rfl | rfl | rfl <;> rfl

theorem marked_any (a : Option Addr) (len cap : Nat) (zs : List Int) (w : World) (h : Reads w a len zs) (hr : len ≤ 140737488355000) :
    Calls Try.prog 12 #[.slice a len cap] w fun e w' => ∃ g cap', e = .returned (.slice (some ⟨g, 0, none⟩) len cap') ∧ Own w' w.heap.size g (len + 3) cap' (zs ++ [161, 178, 195]) ∧ Below w.heap.size w w' := by
  obtain ⟨i0, hi, hz0, hz1, hz2⟩ := info_parts info5
  have hlen := h.1
  cases a with
  | none =>
    have hl0 : len = 0 := h.2.2.1 rfl
    subst hl0
    have hz : zs = [] := List.eq_nil_of_length_eq_zero hlen
    subst hz
    have hmade : (w.alloc (.cells #[] 5)).ownsRow w.heap.size 5 1 (.slice (some ⟨w.heap.size, 0, none⟩) 0 0) 0 [] := World.ownsRow_made w #[] 0 (Nat.le_refl _) (by simp [maxLen]) rfl
    go_enter Try.func12, Try.ntmps12
    go_wp2_with (
      (at_builtin; refine wpList_append_own _ rfl (.tmp 6) (.tmp 7) 22 rfl w.heap.size 5 i0 (.int .u8 0) 1 1 Try.underlying22 hi hz0 hz1 hz2 rfl (by decide) _ _ _ rfl (hmade.alloc _) ⟨w.heap.size + 1, 0, none⟩ 3 3 [.int .u8 161, .int .u8 178, .int .u8 195] rfl rfl (by simpa using marks_news (w.alloc (.cells #[] 5))) marks_one (by simp [maxLen]) (by omega) (by simp; omega) ?_; intro v2 w2 hown2 hgrow2 _; obtain ⟨g, c2, rfl, hc2, hm2, hbg, hgl⟩ := own_shape hown2 (by omega)))
    go_ret
    refine ⟨g, c2, rfl, by simpa [Own] using hown2, ?_⟩
    exact (((Below.refl w.heap.size w).alloc (Nat.le_refl _) _).alloc (by simp) _).grown hgrow2 (by simp; omega) (fun k hk => (hmade.lt k hk).1)
  | some x =>
    have hnews : ∀ j u, (zs.map (Value.int .u8))[j]? = some u → (w.alloc (.cells #[] 5)).cell? (x.add j) = some u := fun j u hj => by
      have h1 := h.news j u hj
      rw [((Below.refl w.heap.size w).alloc (Nat.le_refl _) _).cell (block_lt_of_cell h1)]
      exact h1
    have hmade : (w.alloc (.cells #[] 5)).ownsRow w.heap.size 5 1 (.slice (some ⟨w.heap.size, 0, none⟩) 0 0) 0 [] := World.ownsRow_made w #[] 0 (Nat.le_refl _) (by simp [maxLen]) rfl
    go_enter Try.func12, Try.ntmps12
    go_wp2_with (first
      | (at_builtin; refine wpList_append_own _ rfl (.tmp 4) (.tmp 5) 22 rfl w.heap.size 5 i0 (.int .u8 0) 1 1 Try.underlying22 hi hz0 hz1 hz2 rfl (by decide) _ _ _ rfl hmade x len cap (zs.map (Value.int .u8)) rfl (by simp [hlen]) hnews (ints_oneCell _ _) (by simp [maxLen]; omega) (by omega) (by simp) ?_; intro v1 w1 hown1 hgrow1 _)
      | (at_builtin; refine wpList_append_own _ rfl (.tmp 6) (.tmp 7) 22 rfl w.heap.size 5 i0 (.int .u8 0) 1 1 Try.underlying22 hi hz0 hz1 hz2 rfl (by decide) _ _ _ rfl (hown1.alloc _) ⟨w1.heap.size, 0, none⟩ 3 3 [.int .u8 161, .int .u8 178, .int .u8 195] rfl rfl (marks_news w1) marks_one (by simp [maxLen]; omega) (by omega) (by have := hgrow1.size; simp at this ⊢; omega) ?_; intro v2 w2 hown2 hgrow2 _; obtain ⟨g, c2, rfl, hc2, hm2, hbg, hgl⟩ := own_shape hown2 (by omega)))
    go_ret
    refine ⟨g, c2, rfl, by simpa [Own] using hown2, ?_⟩
    have b1 : Below w.heap.size w w1 := ((Below.refl w.heap.size w).alloc (Nat.le_refl _) _).grown hgrow1 (by simp) (fun k hk => (hmade.lt k hk).1)
    exact (b1.alloc b1.size _).grown hgrow2 (by have := b1.size; simp; omega) (fun k hk => (hown1.lt k hk).1)

theorem join_any (a : Option Addr) (len cap : Nat) (zs : List Int) (w : World) (h : Reads w a len zs) (hr : len ≤ 140737488355000) :
    Calls Try.prog 28 #[.slice a len cap] w fun e w' => ∃ g cap', e = .returned (.slice (some ⟨g, 0, none⟩) len cap') ∧ Own w' w.heap.size g len cap' zs ∧ Below w.heap.size w w' := by
  obtain ⟨i0, hi, hz0, hz1, hz2⟩ := info_parts info5
  have hlen := h.1
  go_enter Try.func28, Try.ntmps28
  go_wp2
  go_loopw [3, 4] (fun v i wr => ∃ k g c : Nat, k ≤ len ∧ i = .int .i64 k ∧ v = .slice (some ⟨g, 0, none⟩) k c ∧ Own wr w.heap.size g k c (zs.take k) ∧ Below w.heap.size w wr)
    (fun _ i _ => len - (intOf i).toNat)
  case atStart => exact ⟨0, w.heap.size, 0, Nat.zero_le _, rfl, rfl, by simpa [Own] using World.ownsRow_made w #[] 0 (Nat.le_refl _) (by simp [maxLen]) rfl, (Below.refl w.heap.size w).alloc (Nat.le_refl _) _⟩
  case round =>
    obtain ⟨k, g, c, hk, rfl, rfl, hown, hbel⟩ := hrel
    by_cases hlt : k < len
    · obtain ⟨b, off, rfl, hb, hcell⟩ := h.pos (by omega)
      obtain ⟨z, hz⟩ : ∃ z, z = zs.getD k 0 := ⟨_, rfl⟩
      have hcx : wr.cell? ⟨b, off + k, none⟩ = some (.int .u8 z) := by rw [hz]; exact (hbel.cell (by exact hb)).trans (hcell k hlt)
      have HZ : Hid (z = zs.getD k 0) := hz
      clear hz
      unfold Own at hown
      go_wp2_with (
        (at_builtin; refine wpList_append_own _ rfl _ _ 22 rfl w.heap.size 5 i0 (.int .u8 0) 1 1 Try.underlying22 hi hz0 hz1 hz2 rfl (by decide) _ _ _ rfl (hown.alloc _) ⟨wr.heap.size, 0, none⟩ 1 1 [.int .u8 z] rfl rfl (news_one _ _) (by simp [Value.oneCell']) (by simp [maxLen]; omega) (by omega) (by have := hbel.size; simp; omega) ?_; intro v1 w1 hown1 hgrow1 _; obtain ⟨g2, c2, rfl, hc2, hm2, hbg, hgl⟩ := own_shape hown1 (by omega)))
      have hz := HZ.out
      have hown2 : Own w1 w.heap.size g2 (k + 1) c2 (zs.take (k + 1)) := by
        unfold Own
        rw [← take_map_snoc zs k (by omega), ← hz]
        exact hown1
      have hbel2 : Below w.heap.size w w1 := (hbel.alloc hbel.size _).grown hgrow1 (by have := hbel.size; simp; omega) (fun k hk => (hown.lt k hk).1)
      clear hown1 hgrow1 hown hcx
      go_wp2
      go_roundw
      case rel => exact ⟨k + 1, g2, c2, by omega, by go_num, rfl, hown2, hbel2⟩
      case measure => simp [intOf]; omega
    · have hkl : k = len := by omega
      subst hkl
      go_wp2
      go_ret
      exact ⟨g, c, rfl, by simpa [List.take_of_length_le (Nat.le_of_eq hlen)] using hown, hbel⟩

theorem kept_any (B g l c n cap : Nat) (a : Option Addr) (zs : List Int) (w : World) (hr : n ≤ 140737488355000) (h : Reads w a n zs) (hown : Own w B g (n + 3) c (zs ++ [161, 178, 195])) :
    Calls Try.prog 14 #[.slice (some ⟨g, 0, none⟩) l c, .slice a n cap] w fun e w' => e = .returned (.bool true) ∧ ∃ k, w' = w.drewN k := by
  have hlen := h.1
  have c1 : ∀ k, (convert 22 9 (.slice a n cap)).run Try.prog (w.drewN k) = .ok (.string (strOfNums zs)) (w.drewN k) := fun k => conv a n cap zs _ (h.drewN k)
  have c2 : ∀ k, (convert 22 9 (.slice (some ⟨g, 0, none⟩) n c)).run Try.prog (w.drewN k) = .ok (.string (strOfNums zs)) (w.drewN k) := by
    intro k
    refine conv _ n c zs _ (Reads.drewN ?_ k)
    have := hown.reads (fun x hx => by rcases List.mem_append.1 hx with h1 | h1; exact h.2.1 x h1; simp at h1; rcases h1 with rfl | rfl | rfl <;> decide) n (by omega)
    rwa [List.take_left' hlen] at this
  have hc : n + 3 ≤ c := by obtain ⟨_, _, e, h3, _⟩ := own_shape hown (by omega); simp at e; omega
  have hcm : c ≤ 9223372036854775807 := by obtain ⟨_, _, e, _, h3, _⟩ := own_shape hown (by omega); simp [maxLen] at e h3; omega
  have m0 : w.cell? ⟨g, n, none⟩ = some (.int .u8 161) := by rw [hown.cell n (by omega)]; simp [List.getD, hlen]
  have m1 : w.cell? ⟨g, n + 1, none⟩ = some (.int .u8 178) := by rw [hown.cell (n + 1) (by omega)]; simp [List.getD, hlen]
  have m2 : w.cell? ⟨g, n + 2, none⟩ = some (.int .u8 195) := by rw [hown.cell (n + 2) (by omega)]; simp [List.getD, hlen]
  clear hown h
  have i1 : (n : Int) ≤ (c : Int) := by omega
  have i2 : (n : Int) < (n : Int) + 3 := by omega
  have i3 : (n : Int) + 1 < (n : Int) + 3 := by omega
  have i4 : (n : Int) + 2 < (n : Int) + 3 := by omega
  have i5 : n ≤ c := by omega
  go_enter Try.func14, Try.ntmps14
  go_wp2
  go_quiet (fail)
  go_wp2
  go_ret
  exact ⟨rfl, nq, rfl⟩

theorem changed_any (B g l m cap : Nat) (zs ys : List Int) (w : World) (hl : l ≤ 140737488355000) (hz : zs.length = l) (hr : ∀ x ∈ zs, 0 ≤ x ∧ x ≤ 255) (hown : Own w B g m cap (zs ++ ys)) :
    Calls Try.prog 21 #[.slice (some ⟨g, 0, none⟩) l cap] w fun e w' => e = .returned (.tuple #[]) ∧ Own w' B g m cap (zs.map (fun z => bits .xor .u8 z 90) ++ ys) ∧ w.grownBy w' (some g) := by
  have hm : l + ys.length = m := by have := hown.len; simp at this; omega
  go_enter Try.func21, Try.ntmps21
  go_wp2
  go_loopw [2] (fun i wr => ∃ (k : Nat) (xs : List Int), k ≤ l ∧ i = .int .i64 k ∧ Own wr B g m cap xs ∧ w.grownBy wr (some g) ∧ Hid (xs = (zs.take k).map (fun z => bits .xor .u8 z 90) ++ zs.drop k ++ ys))
    (fun i _ => l - (intOf i).toNat)
  case atStart => exact ⟨0, _, Nat.zero_le _, rfl, hown, World.grownBy.refl _ _, by simp [Hid]⟩
  case round =>
    obtain ⟨k, xs, hk, rfl, hownr, hg, HX⟩ := hrel
    by_cases hlt : k < l
    · obtain ⟨z, hz'⟩ : ∃ z, z = xs.getD k 0 := ⟨_, rfl⟩
      have hcx : wr.cell? ⟨g, k, none⟩ = some (.int .u8 z) := by rw [hz']; exact hownr.cell k (by omega)
      have hfz : wr.frozen? ⟨g, k, none⟩ = false := World.ownsRow.frozenAt hownr k
      obtain ⟨hs1, hs2⟩ := hownr.set k (bits .xor .u8 z 90)
      have HS : Hid (Own (wr.setCell ⟨g, k, none⟩ (.int .u8 (bits .xor .u8 z 90))) B g m cap (xs.set k (bits .xor .u8 z 90))) := hs1
      have HG : Hid (w.grownBy (wr.setCell ⟨g, k, none⟩ (.int .u8 (bits .xor .u8 z 90))) (some g)) := grownBy_trans hg hs2
      have HY : Hid (xs.set k (bits .xor .u8 z 90) = (zs.take (k + 1)).map (fun z => bits .xor .u8 z 90) ++ zs.drop (k + 1) ++ ys) := by
        rw [hz']
        exact map_step (fun z => bits .xor .u8 z 90) zs ys k (by omega) xs HX.out
      clear hs1 hs2 hz'
      go_wp2
      go_roundw
      case rel => exact ⟨k + 1, _, by omega, by go_num, HS.out, HG.out, HY⟩
      case measure => simp [intOf]; omega
    · have hkn : k = l := by omega
      subst hkn
      have hx := HX.out
      rw [List.take_of_length_le (by omega), List.drop_of_length_le (by omega), List.append_nil] at hx
      subst hx
      go_wp2
      go_end0
      exact ⟨rfl, hownr, hg⟩
end Go.Proofs.Ytkcpfcnpniblcab
