/-
  SEAT YtdiifegljonojaaDoor: Pack.
-/
import Derived.Test.YtdiifegljonojaaDoorWl
namespace Go.Proofs.YtdiifegljonojaaDoor
open Go.RowKit
set_option linter.unusedVariables false

theorem pack_nil (a : Option Addr) (c : Nat) (w : World) : Calls Tryd.prog 16 #[.slice a 0 c] w fun e w' => e = .returned (.tuple #[.slice none 0 0, .int .i64 190]) ∧ w' = w := by
  go_enter Tryd.func16, Tryd.ntmps16
  go_wp2
  go_ret2
  exact ⟨rfl, rfl⟩
section
variable (b off n c : Nat) (x : Lf) (da : Option Addr) (dn dc : Nat) (w : World)
/-- The first leaf of a tree in memory. -/
def First : Prop := w.cell? ⟨b, off, none⟩ = some (.string x.path) ∧ w.cell? ⟨b, off + 1, none⟩ = some (.int .i64 x.ty) ∧ w.cell? ⟨b, off + 2, none⟩ = some (.int .i64 x.mode) ∧ w.cell? ⟨b, off + 3, none⟩ = some (.int .u64 x.stamp) ∧ w.cell? ⟨b, off + 4, none⟩ = some (.slice da dn dc) ∧ w.cell? ⟨b, off + 5, none⟩ = some (.string x.target)
end
set_option maxRecDepth 100000 in
theorem pack_root (b off n c : Nat) (x : Lf) (da : Option Addr) (dn dc : Nat) (w : World) (hn : 0 < n) (hn2 : n ≤ 9223372036854775807) (hf : First b off x da dn dc w) (hr : rootB x = false) :
    Calls Tryd.prog 16 #[.slice (some ⟨b, off, none⟩) n c] w fun e w' => e = .returned (.tuple #[.slice none 0 0, .int .i64 190]) ∧ w' = w := by
  obtain ⟨f0, f1, f2, f3, f4, f5⟩ := hf
  have i0 : (0 : Int) < (n : Int) := by omega
  have e0 : ((n : Int) == 0) = false := by rw [beq_eq_false_iff_ne]; omega
  have h47 : (⟨#[47]⟩ : ByteArray).toList = [47] := by rw [Pt.toList_data]
  by_cases h1 : x.path.toList = [47]
  · have h2 : ¬ x.ty = 2 := by
      intro h2
      unfold rootB at hr
      rw [decide_eq_true h1, decide_eq_true h2] at hr
      cases hr
    have e1 : (x.path.toList == [47]) = true := by rw [h1]; rfl
    have e2 : (x.ty != 2) = true := by simp [h2]
    clear h1 h2 hr
    go_enter Tryd.func16, Tryd.ntmps16
    go_wp2
    go_ret2
    exact ⟨rfl, rfl⟩
  · have e1 : (x.path.toList == [47]) = false := by rw [beq_eq_false_iff_ne]; exact h1
    clear h1 hr
    go_enter Tryd.func16, Tryd.ntmps16
    go_wp2
    go_ret2
    exact ⟨rfl, rfl⟩
set_option maxRecDepth 100000 in
theorem pack_body (b off n c : Nat) (x : Lf) (da : Option Addr) (dn dc : Nat) (w : World) (hn : 0 < n) (hn2 : n ≤ 9223372036854775807) (hf : First b off x da dn dc w) (hr : rootB x = true) (hb : bodB x.ty x.mode dn x.target = false) (ht : x.target.size ≤ 200000000000000) :
    Calls Tryd.prog 16 #[.slice (some ⟨b, off, none⟩) n c] w fun e w' => e = .returned (.tuple #[.slice none 0 0, .int .i64 191]) ∧ Below w.heap.size w w' := by
  obtain ⟨f0, f1, f2, f3, f4, f5⟩ := hf
  have i0 : (0 : Int) < (n : Int) := by omega
  have e0 : ((n : Int) == 0) = false := by rw [beq_eq_false_iff_ne]; omega
  have h47 : (⟨#[47]⟩ : ByteArray).toList = [47] := by rw [Pt.toList_data]
  unfold rootB at hr
  simp only [Bool.and_eq_true, decide_eq_true_eq] at hr
  obtain ⟨h1, h2⟩ := hr
  have e1 : (x.path.toList == [47]) = true := by rw [h1]; rfl
  have HB := hide (body_may x.path x.ty x.mode x.stamp da dn dc x.target w ht)
  rw [hb] at HB
  rw [h2] at HB f1
  clear h1 h2 hb
  go_enter Tryd.func16, Tryd.ntmps16
  go_wp2_with (first | (go_at_call 27; refine HB.out.mono ?_; rintro e w1 ⟨rfl, b1⟩; have HB1 := hide b1; clear b1))
  go_ret2
  exact ⟨rfl, HB1.out⟩
end Go.Proofs.YtdiifegljonojaaDoor
