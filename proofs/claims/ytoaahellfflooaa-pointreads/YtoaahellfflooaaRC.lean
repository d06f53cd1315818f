/-
  SEAT Ytoaahellfflooaa: number, give, text, whatever is left.
-/
import Derived.Test.YtoaahellfflooaaRB
namespace Go.Proofs.Ytoaahellfflooaa
open Go.RowKit
set_option linter.unusedVariables false

/-- Where the next piece begins. -/
def atN (len : Nat) (left : Int) : Nat := ((len : Int) - left).toNat
/-- The next number of so many bytes; 0 where the row runs short. -/
def numV (zs : List Int) (len : Nat) (left : Int) (size : Nat) : Int := if (size : Int) ≤ left then getL zs (atN len left) size else 0
/-- The next piece. -/
def pieceV (zs : List Int) (len : Nat) (left : Int) (size : Nat) : List Int := if (size : Int) ≤ left then (zs.drop (atN len left)).take size else []

theorem number_any (F P Q : Nat) (a : Option Addr) (len cap size : Nat) (left : Int) (zs : List Int) (w : World) (hF : w.heap[F]? = some (.cells #[.func (.func 81) #[] #[.pointer (some ⟨P, 0, none⟩), .pointer (some ⟨Q, 0, none⟩)]] 124 (0, 0))) (h : Giv w P Q a len cap left) (h0 : 1 ≤ size) (h1 : size ≤ 8) (hl1 : -100000 ≤ left) (hl2 : left ≤ len) (hlc : len ≤ cap) (h4 : len ≤ 140737488351300) (hcm : cap ≤ 9223372036854775807) (hr : Reads w a len zs) (hQ : 0 < len → ∀ x, a = some x → x.block ≠ Q) :
    Calls Try.prog 78 #[.int .i64 (size : Int), .pointer (some ⟨F, 0, none⟩)] w fun e w' => e = .returned (.int .u64 (numV zs len left size)) ∧ Giv w' P Q a len cap (left - size) ∧ w.grownBy w' (some Q) := by
  unfold numV
  by_cases hs : (size : Int) ≤ left
  · rw [if_pos hs]
    obtain ⟨b, off, rfl, _, _⟩ := hr.pos (by omega)
    have e : left = (len : Int) - (atN len left : Nat) := by unfold atN; omega
    have hb : b ≠ Q := hQ (by omega) _ rfl
    have h' : Giv w P Q (some ⟨b, off, none⟩) len cap ((len : Int) - (atN len left : Nat)) := by rw [← e]; exact h
    refine (number_ok F P Q b off len cap (atN len left) size zs w hF h' h0 h1 (by omega) hlc h4 hcm hr hb).mono fun x w' ⟨q1, q2, q3⟩ => ⟨q1, ?_, q3⟩
    rw [← e] at q2
    exact q2
  · rw [if_neg hs]
    exact number_short F P Q a len cap size left w hF h h0 h1 (by omega) (by omega) h4

theorem give_any (P Q : Nat) (a : Option Addr) (len cap size : Nat) (left : Int) (zs : List Int) (w : World) (h : Giv w P Q a len cap left) (h1 : size ≤ 1000) (hpos : 0 < len ∨ left < size) (hl1 : -100000 ≤ left) (hl2 : left ≤ len) (hlc : len ≤ cap) (h4 : len ≤ 140737488351300) (hcm : cap ≤ 9223372036854775807) (hr : Reads w a len zs) (hQ : 0 < len → ∀ x, a = some x → x.block ≠ Q) :
    Calls Try.prog 81 #[.int .i64 (size : Int), .pointer (some ⟨P, 0, none⟩), .pointer (some ⟨Q, 0, none⟩)] w fun e w' => (∃ x n c, e = .returned (.tuple #[.slice x n c, .int .i64 (left - size)]) ∧ Reads w' x n (pieceV zs len left size)) ∧ Giv w' P Q a len cap (left - size) ∧ w.grownBy w' (some Q) := by
  unfold pieceV
  by_cases hs : (size : Int) ≤ left
  · rw [if_pos hs]
    obtain ⟨b, off, rfl, _, _⟩ := hr.pos (by omega)
    have e : left = (len : Int) - (atN len left : Nat) := by unfold atN; omega
    have hb : b ≠ Q := hQ (by omega) _ rfl
    have h' : Giv w P Q (some ⟨b, off, none⟩) len cap ((len : Int) - (atN len left : Nat)) := by rw [← e]; exact h
    refine (give_ok P Q b off len cap (atN len left) size zs w h' h1 (by omega) hlc h4 hcm hr hb).mono fun y w' ⟨⟨x, c, q1, q2⟩, q3, q4⟩ => ⟨⟨x, size, c, ?_, q2⟩, ?_, q4⟩
    · rw [← e] at q1
      exact q1
    · rw [← e] at q3
      exact q3
  · rw [if_neg hs]
    exact (give_short P Q a len cap left (size : Int) w h (by omega) (by omega) (by omega) (by omega) h4).mono fun y w' ⟨q1, q2, q3⟩ => ⟨⟨none, 0, 0, q1, ⟨rfl, by simp, fun _ => rfl, fun _ h => by cases h⟩⟩, q2, q3⟩
end Go.Proofs.Ytoaahellfflooaa
