/-
  SEAT Ytjginocbbnmgaaa: heads.
-/
import Derived.Test.YtjginocbbnmgaaaTnZ
namespace Go.Proofs.Ytjginocbbnmgaaa
open Go.RowKit Go.Shelf
set_option linter.unusedVariables false
variable {bx : Nat}

theorem TreeX.below {A B : World} {gt h : Nat} {M : Mp} (hT : TreeX bx A gt h M) (hb : Below A.heap.size A B) : TreeX bx B gt h M := by
  obtain ⟨top, h1, h2, h3⟩ := hT.on.blk
  have hlt := lt_of_block h1
  exact ⟨⟨⟨top, (hb.block gt hlt).trans h1, h2, fun l hl => (h3 l hl).mono (shows_below (E := Eg gt bx) (E' := Eg gt bx) hb (fun _ _ q => q))⟩, hT.on.out, hT.on.h5, Nat.lt_of_lt_of_le hT.on.low hb.size⟩, hT.fit⟩
def M0 : Mp := fun _ => none
theorem num_M0 : num M0 = 0 := cnt_none (fun _ _ => rfl)
theorem new_t (w : World) : Calls Try.prog 15 #[] w fun e w' => e = .returned (.pointer (some ⟨w.heap.size, 0, none⟩)) ∧ Tree w' w.heap.size 0 M0 ∧ Below w.heap.size w w' := by
  refine (newt_any w).mono ?_
  rintro e w' ⟨rfl, h1, h2⟩
  exact ⟨rfl, ⟨by rw [num_M0]; exact h1, ⟨fun _ _ => rfl, fun q => by omega⟩⟩, h2⟩
theorem get_t (gt h : Nat) (k : Int) (M : Mp) (w : World) (hT : Tree w gt h M) : Calls Try.prog 19 #[.pointer (some ⟨gt, 0, none⟩), .int .i64 k] w fun e w' => e = .returned (got (at1 M k)) ∧ Tree w' gt h M ∧ Below w.heap.size w w' := by
  refine (get_any gt h k _ M w hT.on).mono ?_
  rintro e w' ⟨rfl, q, rfl⟩
  have hb : Below w.heap.size w (w.drewN q) := below_drewN (Below.refl _ _) q
  exact ⟨rfl, hT.below hb, hb⟩
theorem len_t (gt h : Nat) (M : Mp) (w : World) (hT : Tree w gt h M) : Calls Try.prog 14 #[.pointer (some ⟨gt, 0, none⟩)] w fun e w' => e = .returned (.int .i64 ((num M : Nat) : Int)) ∧ w = w' := by
  refine (len_any gt h _ M w hT.on).mono ?_
  rintro e w' ⟨rfl, rfl⟩
  exact ⟨rfl, rfl⟩
theorem height_t (gt h : Nat) (M : Mp) (w : World) (hT : Tree w gt h M) : Calls Try.prog 13 #[.pointer (some ⟨gt, 0, none⟩)] w fun e w' => e = .returned (.int .i64 (h : Int)) ∧ w = w' := by
  refine (height_any gt h _ M w hT.on).mono ?_
  rintro e w' ⟨rfl, rfl⟩
  exact ⟨rfl, rfl⟩
theorem pairs_t (gt h : Nat) (M : Mp) (w : World) (hT : Tree w gt h M) : Calls Try.prog 12 #[.pointer (some ⟨gt, 0, none⟩), .int .i64 (-1)] w fun e w' => ∃ v, e = .returned v ∧ Rd w' v (allOf M) ∧ Tree w' gt h M ∧ Below w.heap.size w w' := by
  refine (pairs_all gt h M w hT).mono ?_
  rintro e w' ⟨v, rfl, h1, h2⟩
  exact ⟨v, rfl, Rd.of h1, hT.below h2, h2⟩
theorem same_t (W : World) (a b : Value) (xs : List (Int × Int)) (ha : Rd W a xs) (hb : Rd W b xs) : Calls Try.prog 18 #[a, b] W fun e w' => e = .returned (.bool true) ∧ Below W.heap.size W w' := by
  refine (same_any W a b xs ha hb).mono ?_
  rintro e w' ⟨rfl, q, rfl⟩
  exact ⟨rfl, below_drewN (Below.refl _ _) q⟩
set_option maxRecDepth 100000 in
theorem no_any (x : Int) (w : World) : Calls Try.prog 20 #[.int .i64 x] w fun e w' => e = .returned (.int .i64 x) ∧ w = w' := by
  go_enter Try.func20, Try.ntmps20
  go_wp2
  go_ret
  exact ⟨rfl, rfl⟩
/-- The height of a tree, of its greatest key. -/
theorem TreeX.high {w : World} {gt h : Nat} {M : Mp} (hT : Tree w gt h M) {K : Nat} (h1 : (M K).isSome = true) (h2 : ∀ k, K < k → M k = none) : 0 < h ∧ K < spn h ∧ (h = 1 ∨ spn (h - 1) ≤ K) := by
  have hp : 0 < h := by
    rcases Nat.eq_zero_or_pos h with q | q
    · rw [hT.fit.zero q K] at h1; cases h1
    · exact q
  refine ⟨hp, Nat.lt_of_not_le fun q => ?_, ?_⟩
  · rw [hT.on.out K q] at h1; cases h1
  · obtain ⟨k, k1, k2⟩ := hT.fit.more hp
    refine k2.imp id (fun q => ?_)
    rcases Nat.lt_or_ge K k with c | c
    · rw [h2 k c] at k1; cases k1
    · omega
theorem TreeX.low0 {w : World} {gt h : Nat} {M : Mp} (hT : Tree w gt h M) (h2 : ∀ k, M k = none) : h = 0 := by
  rcases Nat.eq_zero_or_pos h with q | q
  · exact q
  · obtain ⟨k, k1, _⟩ := hT.fit.more q
    rw [h2 k] at k1; cases k1
abbrev H1 : Mp := upd M0 5 50
abbrev H2 : Mp := upd H1 16 160
theorem H2_get (k : Nat) : H2 k = if k = 16 then some 160 else if k = 5 then some 50 else none := rfl
theorem num_new (M : Mp) (k : Nat) (v : Int) (hk : k < 1048576) (h : M k = none) : num (upd M k v) = num M + 1 := by
  rw [num_upd M k v hk, h]
  exact if_neg (by decide)
theorem num_H1 : num H1 = 1 := (num_new M0 5 50 (by omega) rfl).trans (congrArg (· + 1) num_M0)
theorem num_H2 : num H2 = 2 := (num_new H1 16 160 (by omega) rfl).trans (congrArg (· + 1) num_H1)
theorem all_H2 : allOf H2 = [(5, 50), (16, 160)] := by
  have key : ∀ b, 17 + b = 1048576 → allOf H2 = [(5, 50), (16, 160)] := fun b hb => by
    have hv : Void (fun j => H2 (17 + j)) b := fun k _ => by
      show H2 (17 + k) = none
      rw [H2_get, if_neg (by omega), if_neg (by omega)]
    unfold allOf
    rw [← hb, items_add, items_void _ hv, List.append_nil]
    rfl
  exact key 1048559 (by omega)
theorem cut_H2 : cutFrom H2 6 = H1 := by
  funext k
  unfold cutFrom cutM
  rw [H2_get]
  show _ = if k = 5 then some 50 else none
  have e : max (6 : Int) 0 = 6 := by omega
  rw [e]
  by_cases h5 : k = 5
  · subst h5; rfl
  · simp only [if_neg h5]
    by_cases h16 : k = 16
    · subst h16; rfl
    · rw [if_neg h16]
      split <;> rfl
theorem cnt_H2 : cnt (hit H2 6 1048576) 1048576 = 1 := by
  have key : ∀ b N, 17 + b = N → cnt (hit H2 6 1048576) N = 1 := fun b N hb => by
    have hv : ∀ k, k < b → hit H2 6 1048576 (17 + k) = false := fun k _ => by
      unfold hit
      rw [H2_get, if_neg (by omega), if_neg (by omega)]
      simp
    rw [← hb, cnt_add, cnt_none hv]
    rfl
  exact key 1048559 _ (by omega)
theorem del_H1 : del H1 5 = M0 := by
  funext k
  unfold del
  show _ = none
  by_cases h : k = 5
  · subst h; rfl
  · rw [if_neg (by omega)]
    show (if k = 5 then some 50 else none) = none
    rw [if_neg h]
theorem del_M0 (k : Int) : del M0 k = M0 := by
  funext j
  unfold del
  show _ = none
  split <;> rfl
end Go.Proofs.Ytjginocbbnmgaaa
