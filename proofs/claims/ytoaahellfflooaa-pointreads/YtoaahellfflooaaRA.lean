/-
  SEAT Ytoaahellfflooaa: giver, and what it hands back.
-/
import Derived.Test.YtoaahellfflooaaKE
namespace Go.Proofs.Ytoaahellfflooaa
open Go.RowKit
set_option linter.unusedVariables false

/-- What giver's closure has captured: the row, and how much of it is left. -/
structure Giv (w : World) (P Q : Nat) (a : Option Addr) (len cap : Nat) (left : Int) : Prop where
  row : w.heap[P]? = some (.cells #[.slice a len cap] 22 (0, 0))
  rest : w.heap[Q]? = some (.cells #[.int .i64 left] 3 (0, 0))

theorem Giv.ne {w : World} {P Q : Nat} {a : Option Addr} {len cap : Nat} {left : Int} (h : Giv w P Q a len cap left) : P ≠ Q := by
  rintro rfl
  have h1 := h.row
  rw [h.rest] at h1
  simp at h1
theorem Giv.lt {w : World} {P Q : Nat} {a : Option Addr} {len cap : Nat} {left : Int} (h : Giv w P Q a len cap left) : P < w.heap.size ∧ Q < w.heap.size := ⟨lt_of_block h.row, lt_of_block h.rest⟩
theorem Giv.drewN {w : World} {P Q : Nat} {a : Option Addr} {len cap : Nat} {left : Int} (h : Giv w P Q a len cap left) (k : Nat) : Giv (w.drewN k) P Q a len cap left := ⟨by simpa using h.row, by simpa using h.rest⟩
theorem grown_set (w : World) (Q : Nat) (v : Value) : w.grownBy (w.setCell ⟨Q, 0, none⟩ v) (some Q) := ⟨rfl, rfl, rfl, by simp, fun k hk hne => heap_setCell_other w ⟨Q, 0, none⟩ k v (fun e => hne (congrArg some e))⟩
theorem Giv.set {w : World} {P Q : Nat} {a : Option Addr} {len cap : Nat} {left : Int} (h : Giv w P Q a len cap left) (l : Int) : Giv (w.setCell ⟨Q, 0, none⟩ (.int .i64 l)) P Q a len cap l :=
  ⟨((grown_set w Q (.int .i64 l)).block P h.lt.1 (fun e => h.ne (Option.some.inj e))).trans h.row, one_setCell h.rest⟩

theorem grown_drewN {w u : World} {r : Option Nat} (h : w.grownBy u r) (k : Nat) : w.grownBy (u.drewN k) r := grownBy_trans h ⟨rfl, rfl, rfl, Nat.le_refl _, fun _ _ _ => rfl⟩
theorem Reads.piece {w w' : World} {b off len : Nat} {zs : List Int} (h : Reads w (some ⟨b, off, none⟩) len zs) (p size : Nat) (hp : p + size ≤ len) (hb : ∀ i, i < len → w'.cell? ⟨b, off + i, none⟩ = w.cell? ⟨b, off + i, none⟩) : Reads w' (some ⟨b, off + p, none⟩) size ((zs.drop p).take size) := by
  obtain ⟨h1, h2, _, h4⟩ := h
  refine ⟨by simp; omega, fun x hx => h2 x (List.mem_of_mem_drop (List.mem_of_mem_take hx)), (fun h => by cases h), fun x hx i hi => ?_⟩
  cases hx
  have h5 := h4 _ rfl (p + i) (by omega)
  rw [plain_add] at h5
  rw [plain_add, Nat.add_assoc, hb (p + i) (by omega), h5, List.getD_eq_getElem?_getD, List.getD_eq_getElem?_getD, List.getElem?_take_of_lt hi, List.getElem?_drop]

set_option maxHeartbeats 1000000 in
theorem give_short (P Q : Nat) (a : Option Addr) (len cap : Nat) (left : Int) (size : Int) (w : World) (h : Giv w P Q a len cap left) (h0 : 0 ≤ size) (h1 : size ≤ 1000) (h2 : -1000000 ≤ left) (h3 : left < size) (h4 : len ≤ 140737488351300) :
    Calls Try.prog 81 #[.int .i64 size, .pointer (some ⟨P, 0, none⟩), .pointer (some ⟨Q, 0, none⟩)] w fun e w' => e = .returned (.tuple #[.slice none 0 0, .int .i64 (left - size)]) ∧ Giv w' P Q a len cap (left - size) ∧ w.grownBy w' (some Q) := by
  have c1 := cell_of_one h.row
  have c2 := cell_of_one h.rest
  have f2 := free_of_one h.rest
  have hne := h.ne
  have hne2 : ¬ P = Q := hne
  have hl : left - size < 0 := by omega
  have HS : Hid (Giv (w.setCell ⟨Q, 0, none⟩ (.int .i64 (left - size))) P Q a len cap (left - size)) := h.set _
  have c3 := cell_of_one HS.out.rest
  have c4 := cell_of_one HS.out.row
  clear h
  go_enter Try.func81, Try.ntmps81
  go_wp2
  go_quiet (fail)
  go_wp2
  go_ret2
  exact ⟨rfl, HS.out.drewN _, grown_drewN (grown_set w Q _) _⟩

set_option maxHeartbeats 1000000 in
theorem give_ok (P Q b off len cap p size : Nat) (zs : List Int) (w : World) (h : Giv w P Q (some ⟨b, off, none⟩) len cap ((len : Int) - p)) (h1 : size ≤ 1000) (h2 : p + size ≤ len) (h3 : len ≤ cap) (h4 : len ≤ 140737488351300) (hcm : cap ≤ 9223372036854775807) (hr : Reads w (some ⟨b, off, none⟩) len zs) (hbQ : b ≠ Q) :
    Calls Try.prog 81 #[.int .i64 (size : Int), .pointer (some ⟨P, 0, none⟩), .pointer (some ⟨Q, 0, none⟩)] w fun e w' => (∃ x c, e = .returned (.tuple #[.slice x size c, .int .i64 ((len : Int) - p - size)]) ∧ Reads w' x size ((zs.drop p).take size)) ∧ Giv w' P Q (some ⟨b, off, none⟩) len cap ((len : Int) - p - size) ∧ w.grownBy w' (some Q) := by
  have c1 := cell_of_one h.row
  have c2 := cell_of_one h.rest
  have f2 := free_of_one h.rest
  have hne2 : ¬ P = Q := h.ne
  have e1 : (len : Int) - ((len : Int) - p) = (p : Int) := by omega
  have HS : Hid (Giv (w.setCell ⟨Q, 0, none⟩ (.int .i64 ((len : Int) - p - size))) P Q (some ⟨b, off, none⟩) len cap ((len : Int) - p - size)) := h.set _
  have c3 := cell_of_one HS.out.rest
  have c4 := cell_of_one HS.out.row
  have HR : Hid (Reads w (some ⟨b, off, none⟩) len zs) := hr
  have hl : ¬ ((len : Int) - p - size < 0) := by omega
  have m1 : (p : Int) + size ≤ cap := by omega
  have HP : Hid (∀ k, Reads ((w.setCell ⟨Q, 0, none⟩ (.int .i64 ((len : Int) - p - size))).drewN k) (some ⟨b, off + p, none⟩) size ((zs.drop p).take size)) := fun k => hr.piece p size h2 (fun i hi => by
    have e : ∀ u : World, (u.drewN k).cell? ⟨b, off + i, none⟩ = u.cell? ⟨b, off + i, none⟩ := fun u => by simp
    rw [e]
    exact World.cell?_setCell_other _ _ _ _ (by intro q; injection q with q1; exact hbQ q1.symm))
  clear h hr
  by_cases hcp : cap = p
  · have HZ : Hid (size = 0) := by unfold Hid; omega
    subst hcp
    go_enter Try.func81, Try.ntmps81
    go_wp2
    go_quiet (fail)
    go_wp2
    go_ret2
    have hz : size = 0 := HZ.out
    subst hz
    exact ⟨⟨some ⟨b, off, none⟩, 0, rfl, ⟨by simp, by simp, (fun h => by cases h), fun _ _ i hi => by omega⟩⟩, HS.out.drewN _, grown_drewN (grown_set w Q _) _⟩
  · have hps : p + size - p = size := by omega
    go_enter Try.func81, Try.ntmps81
    go_wp2
    go_quiet (fail)
    go_wp2
    go_ret2
    exact ⟨⟨some ⟨b, off + p, none⟩, cap - p, (by first | rfl | exact congrArg (fun q => Ending.returned (.tuple #[.slice (some ⟨b, off + p, none⟩) q (cap - p), .int .i64 ((len : Int) - p - size)])) hps), HP.out _⟩, HS.out.drewN _, grown_drewN (grown_set w Q _) _⟩
end Go.Proofs.Ytoaahellfflooaa
