/-
  SEAT YtnopljjngbgpdabDoor: ImagePacks, walked whatever the image is.
-/
import Derived.Test.YtnopljjngbgpdabDoorPv
namespace Go.Proofs.YtnopljjngbgpdabDoor
open Go.RowKit
set_option linter.unusedVariables false

theorem chk_nat2 {b p s : Int} {n m : Nat} (hE : chkE b p s n m = 0) : ∃ b' p' s' : Nat, b = (b' : Int) ∧ p = (p' : Int) ∧ s = (s' : Int) ∧ Fits (b' : Int) (p' : Int) (s' : Int) = true ∧ n = b' * p' * (256 * s' + (54 + 3 * s')) ∧ m = b' := by
  unfold chkE at hE
  split at hE
  · rename_i hf
    split at hE
    · rename_i h2
      have h0 := of_decide_eq_true hf
      obtain ⟨b', rfl⟩ := Int.eq_ofNat_of_zero_le (show 0 ≤ b by omega)
      obtain ⟨p', rfl⟩ := Int.eq_ofNat_of_zero_le (show 0 ≤ p by omega)
      obtain ⟨s', rfl⟩ := Int.eq_ofNat_of_zero_le (show 0 ≤ s by omega)
      refine ⟨b', p', s', rfl, rfl, rfl, hf, ?_, by omega⟩
      have h3 := h2.1
      unfold pgL at h3
      have e : (b' : Int) * (p' : Int) * (256 * (s' : Int) + (54 + 3 * (s' : Int))) = ((b' * p' * (256 * s' + (54 + 3 * s')) : Nat) : Int) := by
        have e2 : (256 * (s' : Int) + (54 + 3 * (s' : Int))) = ((256 * s' + (54 + 3 * s') : Nat) : Int) := by omega
        rw [e2, ← Int.natCast_mul, ← Int.natCast_mul]
      rw [e] at h3
      exact Int.ofNat.inj h3
    · cases hE
  · cases hE

theorem packsWalk (b q s : Int) (a a' : Option Addr) (n c m c' : Nat) (zs : List Int) (bs : List Bool) (w : World) (h1 : n ≤ 140737488351232) (h2 : m ≤ 140737488351232) (r1 : Reads w a n zs) (r2 : ReadsB w a' m bs) (k1 : n ≤ c) (k2 : c ≤ 9223372036854775807) (ht : Tab w) :
    Calls Tryd.prog 8 #[.agg #[.int .i64 b, .int .i64 q, .int .i64 s, .slice a n c, .slice a' m c']] w fun e w' => e = .returned (.bool true) ∧ Below w.heap.size w w' := by
  by_cases hE : chkE b q s n m = 0
  · obtain ⟨b, q, s, rfl, rfl, rfl, hf, hn, hm⟩ := chk_nat2 hE
    obtain ⟨q1, q2, q3, q4, q5, q6, q7⟩ := fits_nat hf
    have hok : Img.Ok ⟨b, q, s, zs, bs⟩ := ⟨hf, by show zs.length = b * q * (256 * s + (54 + 3 * s)); rw [r1.1, hn], by show bs.length = b; rw [r2.1, hm], r1.2.1⟩
    have hpos : 0 < n := by rw [hn]; exact Nat.mul_pos (Nat.mul_pos (by omega) (by omega)) (by omega)
    refine packs_okW ⟨b, q, s, zs, bs⟩ b q s a a' n c m c' zs bs w h1 h2 r1 r2 k1 k2 ht hok ?_ ?_
    · exact rpack_ok b q s a a' n c m c' zs bs _ (256 * s + (54 + 3 * s)) (b * q) hf hE (r1.below (below_alloc w _)) (r2.below (below_alloc w _)) rfl rfl hn hm
    · intro a a' c c' w hr hrb hnc hc ht
      obtain ⟨bk, off, rfl, hbk, _⟩ := hr.pos hpos
      exact pack_ok ⟨b, q, s, zs, bs⟩ bk off n c a' m c' w hok hr hrb hbk hnc hc ht
  · exact packs_badW b q s a a' n c m c' zs bs w h1 h2 r1 r2 k1 k2 ht hE

end Go.Proofs.YtnopljjngbgpdabDoor
