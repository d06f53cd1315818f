/-
  SEAT Ytgijbpkfheillaa: kept.
-/
import Derived.Test.YtgijbpkfheillaaBlO
namespace Go.Proofs.Ytgijbpkfheillaa
open Go.RowKit
set_option linter.unusedVariables false

theorem own_cellK {w : World} {B g n c : Nat} {bs : List Bk} (h : w.ownsRow B 34 4 (.slice (some ⟨g, 0, none⟩) n c) n (flatK bs)) (i j : Nat) (hi : i < n) (hj : j < 4) : w.cell? ⟨g, i * 4 + j, none⟩ = some ((bs.getD i Bk.zero).cell j) := by
  have hl : bs.length = n := by have := h.1; rw [flatK_length] at this; omega
  rw [World.ownsRow.cellAt h (i * 4 + j) (by omega), flatK_cell bs i j (by omega) hj]
theorem own_readsK {w : World} {B g n c m : Nat} {bs : List Bk} (h : w.ownsRow B 34 4 (.slice (some ⟨g, 0, none⟩) n c) n (flatK bs)) (hok : ∀ x ∈ bs, x.Ok) (hm : m ≤ n) : ReadsK w (some ⟨g, 0, none⟩) m (bs.take m) := by
  have hl : bs.length = n := by have := h.1; rw [flatK_length] at this; omega
  refine ⟨by simp; omega, fun x hx => hok x (List.mem_of_mem_take hx), (fun h => by cases h), fun x hx i hi j hj => ?_⟩
  cases hx
  rw [plain_add, Nat.zero_add, own_cellK h i j (by omega) hj]
  simp [List.getD_eq_getElem?_getD, hi]
theorem tailK_ok {bs : List Bk} (h : ∀ c ∈ bs, c.Ok) : ∀ c ∈ bs ++ tailK, c.Ok := by
  intro c hc
  rcases List.mem_append.1 hc with h1 | h1
  · exact h c h1
  · simp [tailK] at h1
    rcases h1 with rfl | rfl <;> exact ⟨by unfold Wf; simp, by simp, by unfold Wf; simp⟩
theorem copyR {w : World} {B g n c : Nat} {bs : List Bk} (hl : bs.length = n) (hok : ∀ x ∈ bs, x.Ok) (h : w.ownsRow B 34 4 (.slice (some ⟨g, 0, none⟩) (n + 2) c) (n + 2) (flatK (bs ++ tailK))) : ReadsK w (some ⟨g, 0, none⟩) n bs := by
  have h9 := own_readsK h (tailK_ok hok) (show n ≤ n + 2 by omega)
  rw [List.take_left' hl] at h9
  exact h9

set_option maxHeartbeats 1000000 in
theorem kept_any (B g c len cap : Nat) (a : Option Addr) (bs : List Bk) (w : World) (h : ReadsK w a len bs) (hl : len ≤ 140737488355000) (hc : len + 2 ≤ c) (hcm : c ≤ 9223372036854775807) (ho : w.ownsRow B 34 4 (.slice (some ⟨g, 0, none⟩) (len + 2) c) (len + 2) (flatK (bs ++ tailK))) :
    Calls Try.prog 34 #[.slice (some ⟨g, 0, none⟩) len c, .slice a len cap] w fun e w' => e = .returned (.bool true) ∧ ∃ q, w' = w.drewN q := by
  have hbl := h.1
  have m0 := own_cellK ho len 0 (by omega) (by omega)
  have m1 := own_cellK ho (len + 1) 0 (by omega) (by omega)
  have t0 : (bs ++ tailK).getD len Bk.zero = ⟨71, 0, false, 0⟩ := by
    rw [List.getD_eq_getElem?_getD, List.getElem?_append_right (by omega), hbl, Nat.sub_self]; rfl
  have t1 : (bs ++ tailK).getD (len + 1) Bk.zero = ⟨72, 0, false, 0⟩ := by
    rw [List.getD_eq_getElem?_getD, List.getElem?_append_right (by omega), hbl, show len + 1 - len = 1 by omega]; rfl
  rw [t0, Nat.add_zero] at m0
  rw [t1, Nat.add_zero] at m1
  have hrc := copyR hbl h.2.1 ho
  have HS : Hid (∀ u, (∃ q, u = w.drewN q) → Calls Try.prog 23 #[.slice (some ⟨g, 0, none⟩) len c, .slice a len cap] u fun e w' => e = .returned (.bool true) ∧ ∃ q, w' = u.drewN q) := by
    rintro u ⟨q, rfl⟩
    exact same_eq _ _ len c cap bs _ (hrc.drewN q) (h.drewN q) hl
  simp only [Bk.cell] at m0 m1
  have d0 : ((len : Int) != len) = false := by simp
  have d1 : (len : Int) + 2 ≤ c := by omega
  have d2 : (len : Int) ≤ c := by omega
  have d3 : (len : Int) ≤ (len : Int) + 2 := by omega
  have d4 : (len : Int) < (len : Int) + 2 := by omega
  have d5 : (len : Int) + 1 < (len : Int) + 2 := by omega
  have d6 : ((len : Int) + 1).toNat = len + 1 := by omega
  have d7 : ((len : Int) + 2).toNat = len + 2 := by omega
  clear ho hrc h t0 t1
  go_enter Try.func34, Try.ntmps34
  go_wp2_with (first | (go_at_call 23; refine (HS.out _ ⟨0, rfl⟩).mono ?_; rintro e u1 ⟨rfl, q1, rfl⟩))
  go_ret
  exact ⟨rfl, _, rfl⟩
end Go.Proofs.Ytgijbpkfheillaa
