/-
  SEAT Ytjginocbbnmgaaa: filled, may.
-/
import Derived.Test.YtjginocbbnmgaaaToC
namespace Go.Proofs.Ytjginocbbnmgaaa
open Go.RowKit
set_option linter.unusedVariables false

/-- May it be a key? -/
def mayB (k : Int) : Bool := decide (0 ≤ k ∧ k ≤ 1048575)
set_option maxRecDepth 100000 in
theorem may_any (k : Int) (w : World) : Calls Try.prog 27 #[.int .i64 k] w fun e w' => e = .returned (.bool (mayB k)) ∧ w = w' := by
  unfold mayB
  by_cases h1 : 0 ≤ k
  · by_cases h2 : k ≤ 1048575
    · rw [decide_eq_true ⟨h1, h2⟩]
      go_enter Try.func27, Try.ntmps27
      go_wp2
      go_ret
      exact ⟨rfl, rfl⟩
    · rw [decide_eq_false (fun q => h2 q.2)]
      go_enter Try.func27, Try.ntmps27
      go_wp2
      go_ret
      exact ⟨rfl, rfl⟩
  · rw [decide_eq_false (fun q => h1 q.1)]
    go_enter Try.func27, Try.ntmps27
    go_wp2
    go_ret
    exact ⟨rfl, rfl⟩
/-- What lies in a tree into which the first keys were put. -/
def fillM (ks : List Int) : Nat → Mp
  | 0 => M0
  | n + 1 => if mayB (ks.getD n 0) = true then upd (fillM ks n) (ks.getD n 0).toNat (n : Int) else fillM ks n
/-- How many of them may be. -/
def good (ks : List Int) : Nat → Nat
  | 0 => 0
  | n + 1 => good ks n + if mayB (ks.getD n 0) = true then 1 else 0
theorem good_le (ks : List Int) : ∀ n, good ks n ≤ n
  | 0 => Nat.le_refl _
  | n + 1 => by
    have := good_le ks n
    simp only [good]
    split <;> omega
set_option maxHeartbeats 4000000 in
set_option maxRecDepth 100000 in
theorem filled_any (a : Option Addr) (len cap : Nat) (ks : List Int) (w : World) (hr : ReadsI w a len ks) (hs : len * 8 ≤ 140737488351232) :
    Calls Try.prog 10 #[.slice a len cap] w fun e w' => ∃ h, e = .returned (.tuple #[.pointer (some ⟨w.heap.size, 0, none⟩), .int .i64 ((good ks len : Nat) : Int)]) ∧ Tree w' w.heap.size h (fillM ks len) ∧ Below w.heap.size w w' := by
  obtain ⟨gt, hgt⟩ : ∃ gt, w.heap.size = gt := ⟨_, rfl⟩
  have HR : Hid _ := hr
  have HGT : Hid _ := hgt
  rw [hgt]
  have hl2 : len ≤ 17592186043904 := by omega
  clear hr hgt hs
  go_enter Try.func10, Try.ntmps10
  go_wp2_with (first | (go_at_call 15; refine (new_t _).mono ?_; rintro e u1 ⟨rfl, t1, b1⟩; rw [HGT.out] at t1 ⊢; have T1 : Hid _ := t1; have B1 : Hid _ := b1; clear t1 b1))
  go_loopw [5, 6] (fun s5 s6 wr => ∃ i h, i ≤ len ∧ s6 = .int .i64 ((i : Nat) : Int) ∧ s5 = .int .i64 ((good ks i : Nat) : Int) ∧ Hid (Tree wr gt h (fillM ks i)) ∧ Hid (Below gt w wr)) (fun _ i _ => len - (intOf i).toNat)
  case atStart => exact ⟨0, 0, by omega, rfl, rfl, T1, by unfold Hid; have q := B1.out; rw [HGT.out] at q; exact q⟩
  case round =>
    obtain ⟨i, h, hi, rfl, rfl, HT, HB⟩ := hrel
    have hgl := good_le ks i
    obtain ⟨G, hG⟩ : ∃ G, good ks i = G := ⟨_, rfl⟩
    rw [hG] at hgl ⊢
    have HG : Hid _ := hG
    clear hG
    by_cases hc : i < len
    · have dc : (i : Int) < (len : Int) := by omega
      have wi : IntKind.i64.wrap ((i : Int) + 1) = (i : Int) + 1 := by rw [IntKind.wrap_i64]; omega
      have wG : IntKind.i64.wrap ((G : Int) + 1) = (G : Int) + 1 := by rw [IntKind.wrap_i64]; omega
      obtain ⟨b, off, rfl, hbl, hcell⟩ := ReadsI.pos HR.out (by omega)
      have x0 : wr.cell? ⟨b, off + i, none⟩ = some (.int .i64 (ks.getD i 0)) := (HB.out.cell (p := ⟨b, off + i, none⟩) (show b < gt by have := HGT.out; omega)).trans (hcell i hc)
      clear hcell
      cases hm : mayB (ks.getD i 0) with
      | true =>
        obtain ⟨hk0, hk1⟩ := of_decide_eq_true hm
        obtain ⟨k, hk⟩ := Int.eq_ofNat_of_zero_le hk0
        have hfm : fillM ks (i + 1) = upd (fillM ks i) k (i : Int) := by
          simp only [fillM]
          rw [hm, if_pos rfl, hk]
          rfl
        have hgd : good ks (i + 1) = G + 1 := by
          simp only [good]
          rw [hm, if_pos rfl, HG.out]
        have HFM : Hid _ := And.intro hfm hgd
        rw [hk] at x0 hk1
        have hk5 : k < 1048576 := by omega
        have HPU : Hid _ := put_any gt h k (i : Int) (fillM ks i) wr HT.out hk5
        clear hfm hgd hm hk0 hk hk1
        go_wp2_with (first
          | (go_at_call 16; refine Calls.mono HPU.out ?_; rintro e u ⟨h', rfl, t2, g2⟩; rw [← HFM.out.1] at t2; have T2 : Hid _ := t2; have B2 : Hid (Below gt w u) := (by unfold Hid; have q := HB.out; rw [← HGT.out] at q ⊢; exact keep_new q (Nat.le_of_eq HGT.out) g2); clear t2 g2)
          | (go_at_call 20; refine (no_any _ _).mono ?_; rintro e u9 ⟨rfl, rfl⟩))
        go_roundw
        case rel => exact ⟨i + 1, h', by omega, by first | rfl | simp, by rw [HFM.out.2]; first | rfl | simp, T2, B2⟩
        case measure => (simp [intOf]; omega)
      | false =>
        have hbad : ks.getD i 0 < 0 ∨ 1048575 < ks.getD i 0 := by
          have := of_decide_eq_false hm
          omega
        have hfm : fillM ks (i + 1) = fillM ks i := by
          simp only [fillM]
          rw [hm, if_neg (by decide)]
        have hgd : good ks (i + 1) = G := by
          simp only [good]
          rw [hm, if_neg (by decide), HG.out]
          rfl
        have HFM : Hid _ := And.intro hfm hgd
        obtain ⟨K, hK⟩ : ∃ K, ks.getD i 0 = K := ⟨_, rfl⟩
        rw [hK] at x0 hbad
        have HBAD : Hid _ := hbad
        clear hfm hgd hm hK hbad
        go_wp2_with (first
          | (go_at_call 16; refine (put_bad gt h K (i : Int) 0 _ HBAD.out).mono ?_; rintro e u ⟨rfl, rfl⟩)
          | (go_at_call 20; refine (no_any _ _).mono ?_; rintro e u9 ⟨rfl, rfl⟩))
        go_roundw
        case rel => exact ⟨i + 1, h, by omega, by first | rfl | simp, by rw [HFM.out.2], by rw [HFM.out.1]; exact HT, HB⟩
        case measure => (simp [intOf]; omega)
    · have dc : ¬ ((i : Int) < (len : Int)) := by omega
      obtain rfl : i = len := by omega
      go_wp2_with fail
      go_ret2
      exact ⟨by rw [HG.out]; rfl, ⟨h, HT.out⟩, HB.out⟩
end Go.Proofs.Ytjginocbbnmgaaa
