/-
  SEAT Ytoaahellfflooaa: number.
-/
import Derived.Test.YtoaahellfflooaaRA
namespace Go.Proofs.Ytoaahellfflooaa
open Go.RowKit
set_option linter.unusedVariables false

theorem getL_piece (zs : List Int) (p n : Nat) : ∀ k, k ≤ n → getL ((zs.drop p).take n) 0 k = getL zs p k
  | 0, _ => rfl
  | k + 1, h => by
    have e : ((zs.drop p).take n).getD (0 + k) 0 = zs.getD (p + k) 0 := by
      rw [Nat.zero_add, List.getD_eq_getElem?_getD, List.getD_eq_getElem?_getD, List.getElem?_take_of_lt (by omega), List.getElem?_drop]
    rw [getL, getL, getL_piece zs p n k (by omega), e]

set_option maxHeartbeats 1000000 in
theorem number_ok (F P Q b off len cap p size : Nat) (zs : List Int) (w : World) (hF : w.heap[F]? = some (.cells #[.func (.func 81) #[] #[.pointer (some ⟨P, 0, none⟩), .pointer (some ⟨Q, 0, none⟩)]] 124 (0, 0))) (h : Giv w P Q (some ⟨b, off, none⟩) len cap ((len : Int) - p)) (h0 : 1 ≤ size) (h1 : size ≤ 8) (h2 : p + size ≤ len) (h3 : len ≤ cap) (h4 : len ≤ 140737488351300) (hcm : cap ≤ 9223372036854775807) (hr : Reads w (some ⟨b, off, none⟩) len zs) (hbQ : b ≠ Q) :
    Calls Try.prog 78 #[.int .i64 (size : Int), .pointer (some ⟨F, 0, none⟩)] w fun e w' => e = .returned (.int .u64 (getL zs p size)) ∧ Giv w' P Q (some ⟨b, off, none⟩) len cap ((len : Int) - p - size) ∧ w.grownBy w' (some Q) := by
  have c1 := cell_of_one hF
  have HC : Hid _ := fun (_ : Unit) => give_ok P Q b off len cap p size zs w h (by omega) h2 h3 h4 hcm hr hbQ
  have HL : Hid (getL ((zs.drop p).take size) 0 size = getL zs p size) := getL_piece zs p size size (Nat.le_refl _)
  clear h hr
  go_enter Try.func78, Try.ntmps78
  go_wp2_with (first
    | (go_at_call 81; refine Calls.mono (HC.out ()) ?_; rintro e w1 ⟨⟨x, c, rfl, r1⟩, g1, gr1⟩)
    | (go_at_call 51; refine (get_ok x size c 0 size ((zs.drop p).take size) _ ?_ ?_ ?_ ?_ r1).mono ?_; omega; omega; omega; omega; rintro e w2 ⟨rfl, rfl⟩; rw [HL.out]))
  go_ret
  exact ⟨rfl, g1, gr1⟩

set_option maxHeartbeats 1000000 in
theorem number_short (F P Q : Nat) (a : Option Addr) (len cap size : Nat) (left : Int) (w : World) (hF : w.heap[F]? = some (.cells #[.func (.func 81) #[] #[.pointer (some ⟨P, 0, none⟩), .pointer (some ⟨Q, 0, none⟩)]] 124 (0, 0))) (h : Giv w P Q a len cap left) (h0 : 1 ≤ size) (h1 : size ≤ 8) (h2 : -1000000 ≤ left) (h3 : left < size) (h4 : len ≤ 140737488351300) :
    Calls Try.prog 78 #[.int .i64 (size : Int), .pointer (some ⟨F, 0, none⟩)] w fun e w' => e = .returned (.int .u64 0) ∧ Giv w' P Q a len cap (left - size) ∧ w.grownBy w' (some Q) := by
  have c1 := cell_of_one hF
  have HC : Hid _ := fun (_ : Unit) => give_short P Q a len cap left (size : Int) w h (by omega) (by omega) h2 h3 h4
  clear h
  go_enter Try.func78, Try.ntmps78
  go_wp2_with (first
    | (go_at_call 81; refine Calls.mono (HC.out ()) ?_; rintro e w1 ⟨rfl, g1, gr1⟩)
    | (go_at_call 51; refine (get_short none 0 0 0 (size : Int) _ ?_ ?_ ?_ ?_).mono ?_; omega; omega; omega; omega; rintro e w2 ⟨rfl, rfl⟩))
  go_ret
  exact ⟨rfl, g1, gr1⟩
end Go.Proofs.Ytoaahellfflooaa
