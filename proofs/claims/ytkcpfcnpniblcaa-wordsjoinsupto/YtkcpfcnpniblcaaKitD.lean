/-
  SEAT Ytkcpfcnpniblcaa: kept.
-/
import Derived.Test.YtkcpfcnpniblcaaKitC
import Derived.Laws.BytesArg
import Derived.WalkSmall
namespace Go.Proofs.Ytkcpfcnpniblcaa
open Go.RowKit

theorem conv (a : Option Addr) (n cap : Nat) (zs : List Int) (w : World) (h : Reads w a n zs) : (convert 22 9 (.slice a n cap)).run Try.prog w = .ok (.string (strOfNums zs)) w := by
  cases a with
  | none =>
    have h0 := h.2.2.1 rfl
    have hz : zs = [] := List.eq_nil_of_length_eq_zero (by have := h.1; omega)
    subst hz
    exact run_convert_bytes_nil w 22 5 Try.underlying22 Try.underlying5 n cap 9 Try.underlying9
  | some x =>
    have hl : (loadCells x n).run Try.prog w = .ok (zs.map (Value.int .u8)).toArray w := by
      have := run_loadCells_list (P := Try.prog) w x (zs.map (Value.int .u8)) h.news
      simpa [h.1] using this
    rw [run_convert_bytes_string w 22 9 5 _ n cap Try.underlying22 Try.underlying5 Try.underlying9, run_bytesToString w _ n cap zs hl, foldl_push_bytes]
    simp [strOfNums, ByteArray.empty, ByteArray.emptyWithCapacity]
    rfl

theorem Own.reads {w : World} {B g n cap : Nat} {xs : List Int} (h : Own w B g n cap xs) (hr : ∀ x ∈ xs, 0 ≤ x ∧ x ≤ 255) (m : Nat) (hm : m ≤ n) : Reads w (some ⟨g, 0, none⟩) m (xs.take m) := by
  have hl := h.len
  refine ⟨by simp; omega, fun x hx => hr x (List.mem_of_mem_take hx), (fun h => by cases h), fun x hx i hi => ?_⟩
  cases hx
  rw [plain_add, Nat.zero_add, h.cell i (by omega)]
  simp [List.getD, hi]

theorem Reads.drewN {w : World} {a : Option Addr} {len : Nat} {zs : List Int} (h : Reads w a len zs) (k : Nat) : Reads (w.drewN k) a len zs := by
  obtain ⟨h1, h2, h3, h4⟩ := h
  exact ⟨h1, h2, h3, fun x hx i hi => by simpa using h4 x hx i hi⟩

set_option maxHeartbeats 400000 in
theorem kept_any (B g l c n cap : Nat) (a : Option Addr) (zs : List Int) (w : World) (hr : n ≤ 140737488355000) (h : Reads w a n zs) (hown : Own w B g (n + 3) c (zs ++ [161, 178, 195])) :
    Calls Try.prog 9 #[.slice (some ⟨g, 0, none⟩) l c, .slice a n cap] w fun e w' => e = .returned (.bool true) ∧ ∃ k, w' = w.drewN k := by
  have hlen := h.1
  have c1 : ∀ k, (convert 22 9 (.slice a n cap)).run Try.prog (w.drewN k) = .ok (.string (strOfNums zs)) (w.drewN k) := fun k => conv a n cap zs _ (h.drewN k)
  have c2 : ∀ k, (convert 22 9 (.slice (some ⟨g, 0, none⟩) n c)).run Try.prog (w.drewN k) = .ok (.string (strOfNums zs)) (w.drewN k) := by
    intro k
    refine conv _ n c zs _ (Reads.drewN ?_ k)
    have := hown.reads (fun x hx => by rcases List.mem_append.1 hx with h1 | h1; exact h.2.1 x h1; simp at h1; rcases h1 with rfl | rfl | rfl <;> decide) n (by omega)
    rwa [List.take_left' hlen] at this
  have hc : n + 3 ≤ c := by obtain ⟨_, _, e, h3, _⟩ := own_shape hown (by omega); simp at e; omega
  have hcm : c ≤ 9223372036854775807 := by obtain ⟨_, _, e, _, h3, _⟩ := own_shape hown (by omega); simp [maxLen] at e h3; omega
  have m0 : w.cell? ⟨g, n, none⟩ = some (.int .u8 161) := by rw [hown.cell n (by omega)]; simp [List.getD, hlen]
  have m1 : w.cell? ⟨g, n + 1, none⟩ = some (.int .u8 178) := by rw [hown.cell (n + 1) (by omega)]; simp [List.getD, hlen]
  have m2 : w.cell? ⟨g, n + 2, none⟩ = some (.int .u8 195) := by rw [hown.cell (n + 2) (by omega)]; simp [List.getD, hlen]
  clear hown h
  have i1 : (n : Int) ≤ (c : Int) := by omega
  have i2 : (n : Int) < (n : Int) + 3 := by omega
  have i3 : (n : Int) + 1 < (n : Int) + 3 := by omega
  have i4 : (n : Int) + 2 < (n : Int) + 3 := by omega
  have i5 : n ≤ c := by omega
  go_enter Try.func9, Try.ntmps9
  go_wp2
  go_quiet (fail)
  go_wp2
  go_ret
  exact ⟨rfl, nq, rfl⟩

theorem Own.below {w w' : World} {B g n cap : Nat} {xs : List Int} (h : Own w B g n cap xs) (hb : Below w.heap.size w w') : Own w' B g n cap xs := by
  obtain ⟨h1, h2⟩ := h
  refine ⟨h1, ?_⟩
  rcases h2 with h2 | ⟨g', cap', cur, hv, hg, hh, r⟩
  · exact Or.inl h2
  · refine Or.inr ⟨g', cap', cur, hv, hg, ?_, r⟩
    rw [hb.block g' ?_]
    · exact hh
    · rcases Nat.lt_or_ge g' w.heap.size with h | h
      · exact h
      · simp [Array.getElem?_eq_none h] at hh

theorem Own.drewN {w : World} {B g n cap : Nat} {xs : List Int} (h : Own w B g n cap xs) (k : Nat) : Own (w.drewN k) B g n cap xs := by
  obtain ⟨h1, h2⟩ := h
  exact ⟨h1, by simpa using h2⟩

theorem Own.lt {w : World} {B g n cap : Nat} {xs : List Int} (h : Own w B g n cap xs) : B ≤ g ∧ g < w.heap.size :=
  World.ownsRow.lt h g rfl

theorem putL_append (xs ys : List Int) (t n : Nat) (v : Int) (k : Nat) (hk : k ≤ n) (h : t + n ≤ xs.length) : putL (xs ++ ys) t v k = putL xs t v k ++ ys := by
  induction k with
  | zero => rfl
  | succ k ih =>
    rw [putL, putL, ih (by omega), List.set_append_left]
    rw [putL_length]
    omega

theorem putL_range (xs : List Int) (t : Nat) (v : Int) (k : Nat) (h : ∀ x ∈ xs, 0 ≤ x ∧ x ≤ 255) : ∀ x ∈ putL xs t v k, 0 ≤ x ∧ x ≤ 255 := by
  induction k with
  | zero => exact h
  | succ k ih =>
    intro x hx
    rw [putL] at hx
    rcases List.mem_or_eq_of_mem_set hx with h1 | h1
    · exact ih x h1
    · rw [h1]; omega

theorem marks_range (zs : List Int) (h : ∀ x ∈ zs, 0 ≤ x ∧ x ≤ 255) : ∀ x ∈ zs ++ [161, 178, 195], 0 ≤ x ∧ x ≤ 255 := by
  intro x hx
  rcases List.mem_append.1 hx with h1 | h1
  · exact h x h1
  · simp at h1
    rcases h1 with rfl | rfl | rfl <;> decide

theorem made0 (w : World) : (w.alloc (.cells #[] 5)).ownsRow w.heap.size 5 1 (.slice (some ⟨w.heap.size, 0, none⟩) 0 0) 0 [] := World.ownsRow_made w #[] 0 (Nat.le_refl _) (by simp [maxLen]) rfl

theorem news_in {w : World} {x : Addr} {len : Nat} {zs : List Int} (h : Reads w (some x) len zs) : ∀ j u, (zs.map (Value.int .u8))[j]? = some u → (w.alloc (.cells #[] 5)).cell? (x.add j) = some u := fun j u hj => by
  have h1 := h.news j u hj
  rw [((Below.refl w.heap.size w).alloc (Nat.le_refl _) _).cell (block_lt_of_cell h1)]
  exact h1

end Go.Proofs.Ytkcpfcnpniblcaa
