/-
  SEAT Ytadlkikjfonkgaa: Xm, Xn.
-/
import Derived.Deep.DeepMust
import Derived.Test.YtadlkikjfonkgaaPa
import Derived.Test.YtadlkikjfonkgaaPba
import Derived.Test.YtadlkikjfonkgaaPx
import Derived.Test.YtadlkikjfonkgaaPv
namespace Go.Proofs.Ytadlkikjfonkgaa
open Go.RowKit Go.Conc
set_option linter.unusedVariables false
theorem fmb_ok : ∀ (fs : List Fc) (l : Int), (∀ c, fs[0]? = some c → l < c.a) → (∀ c ∈ fs, c.k = 1 ∨ c.k = 2) → (∀ i c d, fs[i]? = some c → fs[i + 1]? = some d → c.a < d.a) → fmb l fs = true
 | [], _, _, _, _ => rfl
 | c :: r, l, h0, hk, hi => by
  unfold fmb
  have h1 := h0 c rfl
  have h2 := hk c (List.mem_cons_self)
  have e : (decide (c.a ≤ l) || (c.k != 1 && c.k != 2)) = false := by
   rw [decide_eq_false (by omega)]
   rcases h2 with h2 | h2 <;> rw [h2] <;> rfl
  rw [e]
  simp only [Bool.false_eq_true, if_false]
  exact fmb_ok r c.a (fun d hd => hi 0 c d rfl (by simpa using hd)) (fun d hd => hk d (List.mem_cons_of_mem _ hd)) (fun i x y hx hy => hi (i + 1) x y (by simpa using hx) (by simpa using hy))
theorem faults_bad {fs : List Fc} {i : Nat} {c : Fc} (hi : fs[i]? = some c) (h : c.a < 0 ∨ c.k < 1 ∨ 2 < c.k ∨ (∃ j d, i = j + 1 ∧ fs[j]? = some d ∧ c.a ≤ d.a)) : faultsB fs = false := by
 cases hb : faultsB fs with
 | false => rfl
 | true =>
  unfold faultsB at hb
  rw [Bool.and_eq_true] at hb
  have h1 := fmb_low fs (-1) hb.2 c (List.mem_of_getElem? hi)
  rcases h with h | h | h | ⟨j, d, rfl, hj, h⟩
  ·omega
  ·omega
  ·omega
  ·have h2 := (fmb_rises fs (-1) hb.2).2.1
   have h3 := List.pairwise_iff_getElem.1 h2 j (j + 1) (List.getElem?_eq_some_iff.1 hj).1 (List.getElem?_eq_some_iff.1 hi).1 (by omega)
   rw [(List.getElem?_eq_some_iff.1 hj).2, (List.getElem?_eq_some_iff.1 hi).2] at h3
   omega
set_option maxHeartbeats 4000000 in
set_option maxRecDepth 100000 in
theorem faulty_any (w : World) (a : Option Addr) (n cp : Nat) (fs : List Fc) (hF : ReadsF w a n fs) (hn : n ≤ 9223372036854775807) :
  Calls Try.prog 79 #[.slice a n cp] w fun e w' => e = .returned (.bool (faultsB fs)) ∧ Below w.heap.size w w' := by
 have hl : fs.length = n := hF.1
 by_cases h4 : n ≤ 4096
 ·have d4 : decide ((n : Int) > 4096) = false := decide_eq_false (by omega)
  have HF := hide hF
  have HL := hide hl
  clear hF hl
  go_enter Try.func79, Try.ntmps79
  go_wp2
  go_loopw [3] (fun s3 wr => ∃ i : Nat, i ≤ n ∧ s3 = .int .i64 i ∧ Hid (Below w.heap.size w wr) ∧ Hid (∀ j c, j < i → fs[j]? = some c → 0 ≤ c.a ∧ (c.k = 1 ∨ c.k = 2) ∧ ∀ j' d, j = j' + 1 → fs[j']? = some d → d.a < c.a)) (fun s3 _ => n - (intOf s3).toNat)
  case atStart => exact ⟨0, Nat.zero_le _, rfl, hide (Below.refl _ _), hide (fun j c hj => absurd hj (Nat.not_lt_zero _))⟩
  case round =>
   obtain ⟨i, hi, rfl, HBr, HO⟩ := hrel
   by_cases hlt : i < n
   ·have d0 : decide ((i : Int) < (n : Int)) = true := decide_eq_true (by omega)
    have d1 : (i : Int) < (n : Int) := by omega
    obtain ⟨g, o, c, rfl, hci, _, k0, k1, _, _⟩ := HF.out.at hlt
    have k0 := (HBr.out.cell (block_lt_of_cell k0)).trans k0
    have k1 := (HBr.out.cell (block_lt_of_cell k1)).trans k1
    have HCI := hide hci
    clear hci
    go_upto_region 6 with fail
    have HBE := hide (below_trans HBr.out (drew_below wr))
    by_cases ha : c.a < 0
    ·have da : decide (c.a < 0) = true := decide_eq_true ha
     have HB : Hid (faultsB fs = false) := faults_bad HCI.out (Or.inl ha)
     clear ha
     refine wp_region_held_drew (S := (fun u => u.cell? ⟨g, o + i * 4, none⟩ = some (.int .i64 c.a) ∧ u.cell? ⟨g, o + i * 4 + 1, none⟩ = some (.int .i64 c.k))) (by kernel_rfl) (⟨k0, k1⟩) (fun hHeld => ?_)
     refine tk 0 ?_
     refine tk 1 ?_
     refine tk 2 ?_
     refine tk 3 ?_
     refine tk 4 ?_
     refine tk 5 ?_
     refine tk 6 ?_
     refine tu 7 ?_
     refine tu 8 ?_
     refine tu 9 ?_
     refine tu 10 ?_
     refine tu 11 ?_
     refine tu 12 ?_
     refine tk 13 ?_
     refine tk 14 ?_
     refine tu 15 ?_
     refine tu 16 ?_
     refine tu 17 ?_
     refine tu 18 ?_
     refine tu 19 ?_
     refine tu 20 ?_
     refine tk 21 ?_
     refine tk 22 ?_
     refine tu 23 ?_
     refine tu 24 ?_
     refine tu 25 ?_
     refine tu 26 ?_
     refine tu 27 ?_
     refine tu 28 ?_
     refine tu 29 ?_
     refine tu 30 ?_
     refine tu 31 ?_
     refine tu 32 ?_
     refine tu 33 ?_
     refine tu 34 ?_
     refine tu 35 ?_
     refine tu 36 ?_
     refine tu 37 ?_
     refine tu 38 ?_
     refine tk 39 ?_
     refine wpAnyH_done (by kernel_rfl) ?_ _
     clear hHeld
     go_wp2
     go_ret
     exact ⟨ret_bool HB.out.symm, HBE.out⟩
    ·have da : decide (c.a < 0) = false := decide_eq_false ha
     by_cases hk1 : c.k < 1
     ·have dk : decide (c.k < 1) = true := decide_eq_true hk1
      have HB : Hid (faultsB fs = false) := faults_bad HCI.out (Or.inr (Or.inl hk1))
      clear ha hk1
      refine wp_region_held_drew (S := (fun u => u.cell? ⟨g, o + i * 4, none⟩ = some (.int .i64 c.a) ∧ u.cell? ⟨g, o + i * 4 + 1, none⟩ = some (.int .i64 c.k))) (by kernel_rfl) (⟨k0, k1⟩) (fun hHeld => ?_)
      refine tk 0 ?_
      refine tk 1 ?_
      refine tk 2 ?_
      refine tk 3 ?_
      refine tk 4 ?_
      refine tk 5 ?_
      refine tk 6 ?_
      refine tk 7 ?_
      refine tk 8 ?_
      refine tk 9 ?_
      refine tk 10 ?_
      refine tk 11 ?_
      refine tk 12 ?_
      refine tk 13 ?_
      refine tk 14 ?_
      refine tu 15 ?_
      refine tu 16 ?_
      refine tu 17 ?_
      refine tu 18 ?_
      refine tu 19 ?_
      refine tu 20 ?_
      refine tk 21 ?_
      refine tk 22 ?_
      refine tu 23 ?_
      refine tu 24 ?_
      refine tu 25 ?_
      refine tu 26 ?_
      refine tu 27 ?_
      refine tu 28 ?_
      refine tu 29 ?_
      refine tu 30 ?_
      refine tu 31 ?_
      refine tu 32 ?_
      refine tu 33 ?_
      refine tu 34 ?_
      refine tu 35 ?_
      refine tu 36 ?_
      refine tu 37 ?_
      refine tu 38 ?_
      refine tk 39 ?_
      refine wpAnyH_done (by kernel_rfl) ?_ _
      clear hHeld
      go_wp2
      go_ret
      exact ⟨ret_bool HB.out.symm, HBE.out⟩
     ·have dk : decide (c.k < 1) = false := decide_eq_false hk1
      by_cases hk2 : 2 < c.k
      ·have dk2 : decide (c.k > 2) = true := decide_eq_true hk2
       have HB : Hid (faultsB fs = false) := faults_bad HCI.out (Or.inr (Or.inr (Or.inl hk2)))
       clear ha hk1 hk2
       refine wp_region_held_drew (S := (fun u => u.cell? ⟨g, o + i * 4, none⟩ = some (.int .i64 c.a) ∧ u.cell? ⟨g, o + i * 4 + 1, none⟩ = some (.int .i64 c.k))) (by kernel_rfl) (⟨k0, k1⟩) (fun hHeld => ?_)
       refine tk 0 ?_
       refine tk 1 ?_
       refine tk 2 ?_
       refine tk 3 ?_
       refine tk 4 ?_
       refine tk 5 ?_
       refine tk 6 ?_
       refine tk 7 ?_
       refine tk 8 ?_
       refine tk 9 ?_
       refine tk 10 ?_
       refine tk 11 ?_
       refine tk 12 ?_
       refine tk 13 ?_
       refine tk 14 ?_
       refine tk 15 ?_
       refine tk 16 ?_
       refine tk 17 ?_
       refine tk 18 ?_
       refine tk 19 ?_
       refine tk 20 ?_
       refine tk 21 ?_
       refine tk 22 ?_
       refine tu 23 ?_
       refine tu 24 ?_
       refine tu 25 ?_
       refine tu 26 ?_
       refine tu 27 ?_
       refine tu 28 ?_
       refine tu 29 ?_
       refine tu 30 ?_
       refine tu 31 ?_
       refine tu 32 ?_
       refine tu 33 ?_
       refine tu 34 ?_
       refine tu 35 ?_
       refine tu 36 ?_
       refine tu 37 ?_
       refine tu 38 ?_
       refine tk 39 ?_
       refine wpAnyH_done (by kernel_rfl) ?_ _
       clear hHeld
       go_wp2
       go_ret
       exact ⟨ret_bool HB.out.symm, HBE.out⟩
      ·have dk2 : decide (c.k > 2) = false := decide_eq_false hk2
       have HKA := hide (show 0 ≤ c.a ∧ (c.k = 1 ∨ c.k = 2) from ⟨by omega, by omega⟩)
       by_cases hi0 : i = 0
       ·have di : decide ((i : Int) > 0) = false := decide_eq_false (by omega)
        have di2 : decide (0 < i) = false := decide_eq_false (by omega)
        have HO9 : Hid (∀ j c, j < i + 1 → fs[j]? = some c → 0 ≤ c.a ∧ (c.k = 1 ∨ c.k = 2) ∧ ∀ j' d, j = j' + 1 → fs[j']? = some d → d.a < c.a) := fun j x hj hx => by
         have e : j = i := by omega
         subst e
         rw [HCI.out] at hx
         cases hx
         exact ⟨HKA.out.1, HKA.out.2, fun j' d e => by omega⟩
        clear ha hk1 hk2 hi0
        refine wp_region_held_drew (S := (fun u => u.cell? ⟨g, o + i * 4, none⟩ = some (.int .i64 c.a) ∧ u.cell? ⟨g, o + i * 4 + 1, none⟩ = some (.int .i64 c.k))) (by kernel_rfl) (⟨k0, k1⟩) (fun hHeld => ?_)
        refine tk 0 ?_
        refine tk 1 ?_
        refine tk 2 ?_
        refine tk 3 ?_
        refine tk 4 ?_
        refine tk 5 ?_
        refine tk 6 ?_
        refine tk 7 ?_
        refine tk 8 ?_
        refine tk 9 ?_
        refine tk 10 ?_
        refine tk 11 ?_
        refine tk 12 ?_
        refine tk 13 ?_
        refine tk 14 ?_
        refine tk 15 ?_
        refine tk 16 ?_
        refine tk 17 ?_
        refine tk 18 ?_
        refine tk 19 ?_
        refine tk 20 ?_
        refine tk 21 ?_
        refine tk 22 ?_
        refine tk 23 ?_
        refine tk 24 ?_
        refine tk 25 ?_
        refine tu 26 ?_
        refine tu 27 ?_
        refine tu 28 ?_
        refine tu 29 ?_
        refine tu 30 ?_
        refine tu 31 ?_
        refine tu 32 ?_
        refine tu 33 ?_
        refine tu 34 ?_
        refine tu 35 ?_
        refine tu 36 ?_
        refine tu 37 ?_
        refine tk 38 ?_
        refine tk 39 ?_
        refine wpAnyH_done (by kernel_rfl) ?_ _
        clear hHeld
        go_wp2
        go_roundw
        case rel => exact ⟨i + 1, by omega, by go_num, HBE, HO9⟩
        case measure => simp [intOf]; omega
       ·have di : decide ((i : Int) > 0) = true := decide_eq_true (by omega)
        have di2 : decide (0 < i) = true := decide_eq_true (by omega)
        obtain ⟨j, hj⟩ : ∃ j, i = j + 1 := ⟨i - 1, by omega⟩
        have hij : (i : Int) - 1 = (j : Int) := by omega
        have dj : (j : Int) < (n : Int) := by omega
        have hwj : IntKind.i64.wrap (j : Int) = (j : Int) := by simp only [IntKind.wrap_i64]; omega
        obtain ⟨g', o', d, he, hdj, _, j0, _⟩ := HF.out.at (show j < n by omega)
        injection he with he
        injection he with he1 he2
        subst he1
        subst he2
        have j0 := (HBr.out.cell (block_lt_of_cell j0)).trans j0
        have HDJ := hide hdj
        have HJ := hide hj
        clear hdj hj
        by_cases hle : c.a ≤ d.a
        ·have dl : decide (c.a ≤ d.a) = true := decide_eq_true hle
         have HB : Hid (faultsB fs = false) := faults_bad HCI.out (Or.inr (Or.inr (Or.inr ⟨j, d, HJ.out, HDJ.out, hle⟩)))
         clear ha hk1 hk2 hi0 hle
         refine wp_region_held_drew (S := (fun u => (u.cell? ⟨g, o + i * 4, none⟩ = some (.int .i64 c.a) ∧ u.cell? ⟨g, o + i * 4 + 1, none⟩ = some (.int .i64 c.k)) ∧ u.cell? ⟨g, o + j * 4, none⟩ = some (.int .i64 d.a))) (by kernel_rfl) (⟨⟨k0, k1⟩, j0⟩) (fun hHeld => ?_)
         refine tk 0 ?_
         refine tk 1 ?_
         refine tk 2 ?_
         refine tk 3 ?_
         refine tk 4 ?_
         refine tk 5 ?_
         refine tk 6 ?_
         refine tk 7 ?_
         refine tk 8 ?_
         refine tk 9 ?_
         refine tk 10 ?_
         refine tk 11 ?_
         refine tk 12 ?_
         refine tk 13 ?_
         refine tk 14 ?_
         refine tk 15 ?_
         refine tk 16 ?_
         refine tk 17 ?_
         refine tk 18 ?_
         refine tk 19 ?_
         refine tk 20 ?_
         refine tk 21 ?_
         refine tk 22 ?_
         refine tk 23 ?_
         refine tk 24 ?_
         refine tk 25 ?_
         refine tk 26 ?_
         refine tk 27 ?_
         refine tk 28 ?_
         refine tk 29 ?_
         refine tk 30 ?_
         refine tk 31 ?_
         refine tk 32 ?_
         refine tk 33 ?_
         refine tk 34 ?_
         refine tk 35 ?_
         refine tk 36 ?_
         refine tk 37 ?_
         refine tk 38 ?_
         refine tk 39 ?_
         refine wpAnyH_done (by kernel_rfl) ?_ _
         clear hHeld
         go_wp2
         go_ret
         exact ⟨ret_bool HB.out.symm, HBE.out⟩
        ·have dl : decide (c.a ≤ d.a) = false := decide_eq_false hle
         have HO9 : Hid (∀ j c, j < i + 1 → fs[j]? = some c → 0 ≤ c.a ∧ (c.k = 1 ∨ c.k = 2) ∧ ∀ j' d, j = j' + 1 → fs[j']? = some d → d.a < c.a) := fun q x hq hx => by
          by_cases e : q = i
          ·subst e
           rw [HCI.out] at hx
           cases hx
           refine ⟨HKA.out.1, HKA.out.2, fun j' d' e hd => ?_⟩
           have e2 : j' = j := by have := HJ.out; omega
           subst e2
           rw [HDJ.out] at hd
           cases hd
           omega
          ·exact HO.out q x (by omega) hx
         clear ha hk1 hk2 hi0 hle
         refine wp_region_held_drew (S := (fun u => (u.cell? ⟨g, o + i * 4, none⟩ = some (.int .i64 c.a) ∧ u.cell? ⟨g, o + i * 4 + 1, none⟩ = some (.int .i64 c.k)) ∧ u.cell? ⟨g, o + j * 4, none⟩ = some (.int .i64 d.a))) (by kernel_rfl) (⟨⟨k0, k1⟩, j0⟩) (fun hHeld => ?_)
         refine tk 0 ?_
         refine tk 1 ?_
         refine tk 2 ?_
         refine tk 3 ?_
         refine tk 4 ?_
         refine tk 5 ?_
         refine tk 6 ?_
         refine tk 7 ?_
         refine tk 8 ?_
         refine tk 9 ?_
         refine tk 10 ?_
         refine tk 11 ?_
         refine tk 12 ?_
         refine tk 13 ?_
         refine tk 14 ?_
         refine tk 15 ?_
         refine tk 16 ?_
         refine tk 17 ?_
         refine tk 18 ?_
         refine tk 19 ?_
         refine tk 20 ?_
         refine tk 21 ?_
         refine tk 22 ?_
         refine tk 23 ?_
         refine tk 24 ?_
         refine tk 25 ?_
         refine tk 26 ?_
         refine tk 27 ?_
         refine tk 28 ?_
         refine tk 29 ?_
         refine tk 30 ?_
         refine tk 31 ?_
         refine tk 32 ?_
         refine tk 33 ?_
         refine tk 34 ?_
         refine tk 35 ?_
         refine tk 36 ?_
         refine tk 37 ?_
         refine tk 38 ?_
         refine tk 39 ?_
         refine wpAnyH_done (by kernel_rfl) ?_ _
         clear hHeld
         go_wp2
         go_roundw
         case rel => exact ⟨i + 1, by omega, by go_num, HBE, HO9⟩
         case measure => simp [intOf]; omega
   ·have d0 : decide ((i : Int) < (n : Int)) = false := decide_eq_false (by omega)
    obtain rfl : i = n := by omega
    have HB : Hid (faultsB fs = true) := by
     unfold Hid faultsB
     rw [decide_eq_true (by rw [HL.out]; exact h4), Bool.true_and]
     have hlt9 : ∀ {q x}, fs[q]? = some x → q < i := fun hx => by have := (List.getElem?_eq_some_iff.1 hx).1; rw [HL.out] at this; exact this
     refine fmb_ok fs (-1) (fun c hc => ?_) (fun c hc => ?_) (fun q x y hx hy => ?_)
     ·have := (HO.out 0 c (hlt9 hc) hc).1
      omega
     ·obtain ⟨q, hq⟩ := List.mem_iff_getElem?.1 hc
      exact (HO.out q c (hlt9 hq) hq).2.1
     ·exact (HO.out (q + 1) y (hlt9 hy) hy).2.2 q x rfl hx
    go_wp2
    go_ret
    exact ⟨ret_bool HB.out.symm, HBr.out⟩
 ·have d4 : decide ((n : Int) > 4096) = true := decide_eq_true (by omega)
  have HB : Hid (faultsB fs = false) := by unfold Hid faultsB; rw [decide_eq_false (by omega)]; rfl
  go_enter Try.func79, Try.ntmps79
  go_wp2
  go_ret
  exact ⟨ret_bool HB.out.symm, Below.refl _ _⟩
theorem ones_any (n : Nat) (w : World) (hn : n ≤ 1000000) :
  Calls Try.prog 95 #[.int .i64 (n : Int)] w fun e w' => ∃ g c, e = .returned (.slice (some ⟨g, 0, none⟩) n c) ∧ Own w' w.heap.size g n c (List.replicate n 255) ∧ Below w.heap.size w w' := by
 obtain ⟨i0, hi, hz0, hz1, hz2⟩ := info_parts info5
 go_enter Try.func95, Try.ntmps95
 go_wp2
 go_loopw [3, 4] (fun v i wr => ∃ k g c : Nat, k ≤ n ∧ i = .int .i64 k ∧ v = .slice (some ⟨g, 0, none⟩) k c ∧ Hid (Own wr w.heap.size g k c (List.replicate k 255)) ∧ Hid (Below w.heap.size w wr))
  (fun _ i _ => n - (intOf i).toNat)
 case atStart => exact ⟨0, w.heap.size, 0, Nat.zero_le _, rfl, rfl, by simpa [Hid, Own] using World.ownsRow_made w #[] 0 (Nat.le_refl _) (by simp [maxLen]) rfl, (Below.refl w.heap.size w).alloc (Nat.le_refl _) _⟩
 case round =>
  obtain ⟨k, g, c, hk, rfl, rfl, HOW, HBW⟩ := hrel
  by_cases hlt : k < n
  ·have d0 : decide ((k : Int) < (n : Int)) = true := decide_eq_true (by omega)
   have HOA : Hid (Own (wr.alloc (.cells #[.int .u8 255] 5)) w.heap.size g k c (List.replicate k 255)) := owns_bel HOW.out (below_alloc _ _)
   have HBA := hide (below_trans HBW.out (below_alloc wr (.cells #[.int .u8 255] 5)))
   have HNW := hide (alloc_new wr (.cells #[.int .u8 255] 5))
   go_wp2_with (first | (at_builtin; go_must (refine wpList_append_lies _ rfl (.tmp 11) (.tmp 12) 24 rfl w.heap.size 5 i0 (.int .u8 0) 1 1 Try.underlying24 hi hz0 hz1 hz2 rfl (by decide) (.slice (some ⟨g, 0, none⟩) k c) k ((List.replicate k 255).map (Value.int .u8)) rfl HOA.out ⟨wr.heap.size, 0, none⟩ 1 1 [.int .u8 255] rfl rfl (news1 HNW.out) (by intro u hu; simp at hu; rw [hu]; rfl) (by decide) (by simp [maxLen]; omega) (by omega) HBA.out.size _ rfl ?_); go_must (intro g1 c1 w1 own grow _ _; have HO1 : Hid (Own w1 w.heap.size g1 (k + 1) c1 (List.replicate (k + 1) 255)) := (by unfold Hid Own; rw [List.replicate_succ', List.map_append]; exact own); have HB1 := hide (HBA.out.grown grow HBA.out.size (fun q hq => by have e : g = q := Option.some.inj hq; rw [← e]; exact HOA.out.lt.1)); clear own grow)))
   go_roundw
   case rel => exact ⟨k + 1, g1, c1, by omega, by go_num, rfl, HO1, HB1⟩
   case measure => simp [intOf]; omega
  ·have d0 : decide ((k : Int) < (n : Int)) = false := decide_eq_false (by omega)
   obtain rfl : k = n := by omega
   go_wp2
   go_ret
   exact ⟨g, c, rfl, HOW.out, HBW.out⟩
end Go.Proofs.Ytadlkikjfonkgaa
namespace Go.Proofs.Ytadlkikjfonkgaa
open Go.RowKit Go.Conc
set_option linter.unusedVariables false
theorem owns_low {w : World} {B e size n : Nat} {v : Value} {xs : List Value} (h : w.ownsRow B e size v n xs) : w.ownsRow 0 e size v n xs := ⟨h.1, h.2.imp id fun ⟨g, cap, cur, h1, h2, rest⟩ => ⟨g, cap, cur, h1, Nat.zero_le _, rest⟩⟩
def Nws (w u : World) : Nat → Prop := fun k => w.heap.size ≤ k ∧ k < u.heap.size
structure RowsS (w u : World) (L P : Nat) (rv : Value) (rs : List Rc) : Prop where
 bel : Below w.heap.size w u
 row : u.ownsRow w.heap.size 142 4 rv rs.length (rs.flatMap Rc.cells)
 rok : ∀ r ∈ rs, RcOk u (Nws w u) L P r
 gs : rs.Pairwise (fun b c => b.g ≠ c.g)
 nf : ∀ r ∈ rs, ∀ l ∈ r.ls, l.fs = .slice none 0 0 ∧ l.xs = []
structure LeavesS (w u : World) (L : Nat) (rs : List Rc) (lv : Value) (ls : List Lc) : Prop where
 row : u.ownsRow w.heap.size 144 3 lv ls.length (ls.flatMap Lc.cells)
 lok : ∀ l ∈ ls, LcOk u (Nws w u) L l
 nf : ∀ l ∈ ls, l.fs = .slice none 0 0 ∧ l.xs = []
 far : ∀ r ∈ rs, lv.ownBlock ≠ some r.g
section
variable {w u v : World} {L P : Nat} {rv lv : Value} {rs : List Rc} {ls : List Lc}
theorem LcOk.nws {l : Lc} (h : LcOk u (Nws w u) L l) (hn : l.fs = .slice none 0 0) (hs : u.heap.size ≤ v.heap.size) (hk : ∀ g, Is5 u g → v.heap[g]? = u.heap[g]?) : LcOk v (Nws w v) L l := by
 obtain ⟨g, h1, h2, h3', h4, h5', cs, fr, h6⟩ := h.sl
 have hg : v.heap[g]? = u.heap[g]? := hk g ⟨cs, fr, h6⟩
 refine ⟨h.len, h.byt, ⟨g, h1, ⟨h2.1, Nat.lt_of_lt_of_le h2.2 hs⟩, h3', h4, reads_keep h5' (fun y hy _ => by rw [h1] at hy; cases hy; exact hg), ⟨cs, fr, hg.trans h6⟩⟩, ?_, fun g hg => by rw [hn] at hg; cases hg⟩
 refine owns_keep h.row (fun g hg => by rw [hn] at hg; cases hg)
theorem RowsS.keep (h : RowsS w u L P rv rs) (hb : Below w.heap.size w v) (hs : u.heap.size ≤ v.heap.size) (h1 : ∀ g, rv.ownBlock = some g → v.heap[g]? = u.heap[g]?) (h2 : ∀ r ∈ rs, v.heap[r.g]? = u.heap[r.g]?) (h5 : ∀ g, Is5 u g → v.heap[g]? = u.heap[g]?) : RowsS w v L P rv rs :=
 ⟨hb, owns_keep h.row h1, fun r hr => ⟨owns_keep (h.rok r hr).row (fun g hg => by cases hg; exact h2 r hr), ⟨(h.rok r hr).fg.1, Nat.lt_of_lt_of_le (h.rok r hr).fg.2 hs⟩, (h.rok r hr).np, fun l hl => ((h.rok r hr).lf l hl).nws (h.nf r hr l hl).1 hs h5⟩, h.gs, h.nf⟩
theorem RowsS.below (h : RowsS w u L P rv rs) (hb : Below u.heap.size u v) : RowsS w v L P rv rs :=
 h.keep (below_trans h.bel hb) hb.size (fun g hg => hb.block _ (h.row.lt g hg).2) (fun r hr => hb.block _ (h.rok r hr).fg.2) (fun g ⟨_, _, hc⟩ => hb.block _ (lt_of_block hc))
theorem LeavesS.keep (h : LeavesS w u L rs lv ls) (hs : u.heap.size ≤ v.heap.size) (h1 : ∀ g, lv.ownBlock = some g → v.heap[g]? = u.heap[g]?) (h5 : ∀ g, Is5 u g → v.heap[g]? = u.heap[g]?) : LeavesS w v L rs lv ls :=
 ⟨owns_keep h.row h1, fun l hl => (h.lok l hl).nws (h.nf l hl).1 hs h5, h.nf, h.far⟩
theorem LeavesS.below (h : LeavesS w u L rs lv ls) (hb : Below u.heap.size u v) : LeavesS w v L rs lv ls :=
 h.keep hb.size (fun g hg => hb.block _ (h.row.lt g hg).2) (fun g ⟨_, _, hc⟩ => hb.block _ (lt_of_block hc))
end
structure Nw0 (w u : World) (B P S L c : Nat) (go : Array Value) (gt : Nat) (fv rv : Value) (rs : List Rc) : Prop where
 rows : RowsS w u L P rv rs
 gb : u.heap[w.heap.size]? = some (.cells go gt (0, 0))
 gk : gt ≠ 5 ∧ gt ≠ 142 ∧ gt ≠ 144 ∧ gt ≠ 135
 box : u.heap[c]? = some (.cells #[.int .i64 (B : Int), .int .i64 (P : Int), .int .i64 (S : Int), rv, fv, .bool false, .int .i64 0, .slice none 0 0] 135 (0, 0))
 cge : w.heap.size ≤ c
structure Nw1 (w u : World) (B P S L c : Nat) (go : Array Value) (gt : Nat) (fv rv : Value) (rs : List Rc) (q : Nat) (mm rr : Bool) (lv : Value) (ls : List Lc) : Prop where
 n0 : Nw0 w u B P S L c go gt fv rv rs
 lvs : LeavesS w u L rs lv ls
 qb : u.heap[q]? = some (.cells #[lv, .bool mm, .bool rr, .int .i64 0] 142 (0, 0))
 qne : rv.ownBlock ≠ some q
 qge : w.heap.size ≤ q
section
variable {w u v Y : World} {B P S L c gt q : Nat} {go : Array Value} {fv rv lv : Value} {rs : List Rc} {ls : List Lc} {mm rr : Bool}
theorem Nw0.below (h : Nw0 w u B P S L c go gt fv rv rs) (hb : Below u.heap.size u v) : Nw0 w v B P S L c go gt fv rv rs :=
 ⟨h.rows.below hb, (hb.block _ (lt_of_block h.gb)).trans h.gb, h.gk, (hb.block _ (lt_of_block h.box)).trans h.box, h.cge⟩
theorem Nw1.below (h : Nw1 w u B P S L c go gt fv rv rs q mm rr lv ls) (hb : Below u.heap.size u v) : Nw1 w v B P S L c go gt fv rv rs q mm rr lv ls :=
 ⟨h.n0.below hb, h.lvs.below hb, (hb.block _ (lt_of_block h.qb)).trans h.qb, h.qne, h.qge⟩
theorem Nw0.begin (h : Nw0 w u B P S L c go gt fv rv rs) (mm rr : Bool) : Nw1 w (u.alloc (.cells #[.slice none 0 0, .bool mm, .bool rr, .int .i64 0] 142)) B P S L c go gt fv rv rs u.heap.size mm rr (.slice none 0 0) [] :=
 ⟨h.below (below_alloc _ _), ⟨World.ownsRow_nil _ _ _ _, (fun l hl => by cases hl), (fun l hl => by cases hl), (fun r hr e => by cases e)⟩, alloc_new _ _, fun e => by have := (h.rows.row.lt _ e).2; omega, h.rows.bel.size⟩
theorem Nw1.push (h : Nw1 w u B P S L c go gt fv rv rs q mm rr lv ls) {g gn nc cg : Nat} {bits : List Int} (hbit : Own u w.heap.size g L cg bits) (hr : ∀ z ∈ bits, (0 : Int) ≤ z ∧ z ≤ 255)
  (own : Y.ownsRow w.heap.size 144 3 (.slice (some ⟨gn, 0, none⟩) (ls.length + 1) nc) (ls.length + 1) (ls.flatMap Lc.cells ++ [.slice (some ⟨g, 0, none⟩) L cg, .slice none 0 0, .bool false])) (grow : u.grownBy Y lv.ownBlock) (lies : lv.ownBlock = some gn ∨ gn = u.heap.size) :
  Nw1 w (Y.setCell ⟨q, 0, none⟩ (.slice (some ⟨gn, 0, none⟩) (ls.length + 1) nc)) B P S L c go gt fv rv rs q mm rr (.slice (some ⟨gn, 0, none⟩) (ls.length + 1) nc) (ls ++ [⟨some ⟨g, 0, none⟩, L, cg, none, 0, 0, bits, [], false⟩]) ∧ Y.cell? ⟨q, 0, none⟩ = some lv ∧ Y.frozen? ⟨q, 0, none⟩ = false ∧ Below w.heap.size w Y ∧ Y.heap[w.heap.size]? = some (.cells go gt (0, 0)) ∧ Y.heap[q]? = some (.cells #[lv, .bool mm, .bool rr, .int .i64 0] 142 (0, 0)) := by
 have lvt : ∀ a, lv.ownBlock = some a → ∃ cs : Array Value, u.heap[a]? = some (Obj.cells cs 144 (0, 0)) := fun a ha => own_tag h.lvs.row ha
 have kY : ∀ {a : Nat} {cs : Array Value} {t : TypeId} {fr : Nat × Nat}, u.heap[a]? = some (Obj.cells cs t fr) → t ≠ 144 → Y.heap[a]? = u.heap[a]? := fun {a cs t fr} ha ht => grow.block a (lt_of_block ha) (fun e => by
  obtain ⟨c2, h2⟩ := lvt a e.symm
  rw [ha] at h2
  cases h2
  exact ht rfl)
 have hbY : Below w.heap.size w Y := h.n0.rows.bel.grown grow h.n0.rows.bel.size (fun a ha => (h.lvs.row.lt a ha).1)
 have hq := (kY h.qb (by decide)).trans h.qb
 have o2 := Only.setCell (· = q) Y q 0 (.slice (some ⟨gn, 0, none⟩) (ls.length + 1) nc) rfl
 have hqs : Below w.heap.size w (Y.setCell ⟨q, 0, none⟩ (.slice (some ⟨gn, 0, none⟩) (ls.length + 1) nc)) := hbY.setCell (p := ⟨q, 0, none⟩) h.qge _
 have kk : ∀ {a : Nat}, a ≠ q → a < u.heap.size → Y.heap[a]? = u.heap[a]? → (Y.setCell ⟨q, 0, none⟩ (.slice (some ⟨gn, 0, none⟩) (ls.length + 1) nc)).heap[a]? = u.heap[a]? := fun hne hlt hY => (o2.block _ (Nat.lt_of_lt_of_le hlt grow.size) hne).trans hY
 have nq : ∀ {a : Nat} {cs : Array Value} {t : TypeId} {fr : Nat × Nat}, u.heap[a]? = some (Obj.cells cs t fr) → t ≠ 142 → a ≠ q := fun {a cs t fr} ha ht e => by
  rw [e, h.qb] at ha
  cases ha
  exact ht rfl
 have k5 : ∀ g, Is5 u g → (Y.setCell ⟨q, 0, none⟩ (.slice (some ⟨gn, 0, none⟩) (ls.length + 1) nc)).heap[g]? = u.heap[g]? := fun g ⟨cs, fr, hc⟩ => kk (nq hc (by decide)) (lt_of_block hc) (kY hc (by decide))
 have hsz : u.heap.size ≤ (Y.setCell ⟨q, 0, none⟩ (.slice (some ⟨gn, 0, none⟩) (ls.length + 1) nc)).heap.size := Nat.le_trans grow.size o2.size
 have hrow : ∀ r ∈ rs, (Y.setCell ⟨q, 0, none⟩ (.slice (some ⟨gn, 0, none⟩) (ls.length + 1) nc)).heap[r.g]? = u.heap[r.g]? := fun r hr9 => by
  obtain ⟨cs, hc⟩ := own_tag (h.n0.rows.rok r hr9).row rfl
  exact kk (nq hc (by decide)) (lt_of_block hc) (grow.block _ (lt_of_block hc) (fun e => h.lvs.far r hr9 e.symm))
 have hrv : ∀ a, rv.ownBlock = some a → (Y.setCell ⟨q, 0, none⟩ (.slice (some ⟨gn, 0, none⟩) (ls.length + 1) nc)).heap[a]? = u.heap[a]? := fun a ha => by
  obtain ⟨cs, hc⟩ := own_tag h.n0.rows.row ha
  exact kk (fun e => h.qne (e ▸ ha)) (lt_of_block hc) (kY hc (by decide))
 obtain ⟨cb, hcb⟩ := own_tag hbit rfl
 obtain ⟨cn, hcn⟩ := own_tag own rfl
 have hgq : gn ≠ q := fun e => by rw [e, hq] at hcn; cases hcn
 refine ⟨⟨⟨h.n0.rows.keep hqs hsz hrv hrow k5, ?_, h.n0.gk, ?_, h.n0.cge⟩, ⟨?_, ?_, ?_, ?_⟩, heap_setCell_same Y q 0 _ 142 _ hq, h.qne, h.qge⟩, by simp [World.cell?, hq], frozen_of_row _ q 0 _ 142 hq, hbY, (kY h.n0.gb h.n0.gk.2.2.1).trans h.n0.gb, hq⟩
 ·exact (kk (nq h.n0.gb h.n0.gk.2.1) (lt_of_block h.n0.gb) (kY h.n0.gb h.n0.gk.2.2.1)).trans h.n0.gb
 ·exact (kk (nq h.n0.box (by decide)) (lt_of_block h.n0.box) (kY h.n0.box (by decide))).trans h.n0.box
 ·rw [List.flatMap_append, List.length_append]
  exact owns_keep own (fun a ha => by cases ha; exact o2.block _ (lt_of_block hcn) hgq)
 ·intro l hl
  rcases List.mem_append.1 hl with h1 | h1
  ·exact (h.lvs.lok l h1).nws (h.lvs.nf l h1).1 hsz k5
  ·have e : l = ⟨some ⟨g, 0, none⟩, L, cg, none, 0, 0, bits, [], false⟩ := by simpa using h1
   subst e
   have hg5 := k5 g ⟨cb, (0, 0), hcb⟩
   exact ⟨hbit.len, hr, ⟨g, rfl, ⟨hbit.lt.1, Nat.lt_of_lt_of_le hbit.lt.2 hsz⟩, rfl, own_cap hbit, reads_keep (own_reads'' hbit hr) (fun y hy _ => by cases hy; exact hg5), ⟨cb, (0, 0), hg5.trans hcb⟩⟩, World.ownsRow_nil _ _ _ _, fun a ha => by cases ha⟩
 ·intro l hl
  rcases List.mem_append.1 hl with h1 | h1
  ·exact h.lvs.nf l h1
  ·have e : l = ⟨some ⟨g, 0, none⟩, L, cg, none, 0, 0, bits, [], false⟩ := by simpa using h1
   subst e
   exact ⟨rfl, rfl⟩
 ·intro r hr9 e
  have e2 : gn = r.g := Option.some.inj e
  rcases lies with h1 | h1
  ·exact h.lvs.far r hr9 (e2 ▸ h1)
  ·have := (h.n0.rows.rok r hr9).fg.2
   omega
theorem Nw1.done (h : Nw1 w u B P S L c go gt fv rv rs q mm rr lv ls) (hp : ls.length = P) {lg cap : Nat} (hlv : lv = .slice (some ⟨lg, 0, none⟩) ls.length cap) {gn nc : Nat}
  (own : Y.ownsRow w.heap.size 142 4 (.slice (some ⟨gn, 0, none⟩) (rs.length + 1) nc) (rs.length + 1) (rs.flatMap Rc.cells ++ [lv, .bool mm, .bool rr, .int .i64 0])) (grow : u.grownBy Y rv.ownBlock) :
  Nw0 w (Y.setCell ⟨c, 3, none⟩ (.slice (some ⟨gn, 0, none⟩) (rs.length + 1) nc)) B P S L c go gt fv (.slice (some ⟨gn, 0, none⟩) (rs.length + 1) nc) (rs ++ [⟨lg, cap, mm, rr, 0, ls⟩]) ∧ Y.cell? ⟨c, 3, none⟩ = some rv ∧ Y.frozen? ⟨c, 3, none⟩ = false ∧ Y.heap[q]? = some (.cells #[lv, .bool mm, .bool rr, .int .i64 0] 142 (0, 0)) := by
 have rvt : ∀ a, rv.ownBlock = some a → ∃ cs : Array Value, u.heap[a]? = some (Obj.cells cs 142 (0, 0)) := fun a ha => own_tag h.n0.rows.row ha
 have kY : ∀ {a : Nat} {cs : Array Value} {t : TypeId} {fr : Nat × Nat}, u.heap[a]? = some (Obj.cells cs t fr) → t ≠ 142 → Y.heap[a]? = u.heap[a]? := fun {a cs t fr} ha ht => grow.block a (lt_of_block ha) (fun e => by
  obtain ⟨c2, h2⟩ := rvt a e.symm
  rw [ha] at h2
  cases h2
  exact ht rfl)
 have hbY : Below w.heap.size w Y := h.n0.rows.bel.grown grow h.n0.rows.bel.size (fun a ha => (h.n0.rows.row.lt a ha).1)
 have hc3 := (kY h.n0.box (by decide)).trans h.n0.box
 have o2 := Only.setCell (· = c) Y c 3 (.slice (some ⟨gn, 0, none⟩) (rs.length + 1) nc) rfl
 have nc' : ∀ {a : Nat} {cs : Array Value} {t : TypeId} {fr : Nat × Nat}, u.heap[a]? = some (Obj.cells cs t fr) → t ≠ 135 → a ≠ c := fun {a cs t fr} ha ht e => by
  rw [e, h.n0.box] at ha
  cases ha
  exact ht rfl
 have kk : ∀ {a : Nat}, a ≠ c → a < u.heap.size → Y.heap[a]? = u.heap[a]? → (Y.setCell ⟨c, 3, none⟩ (.slice (some ⟨gn, 0, none⟩) (rs.length + 1) nc)).heap[a]? = u.heap[a]? := fun hne hlt hY => (o2.block _ (Nat.lt_of_lt_of_le hlt grow.size) hne).trans hY
 have k5 : ∀ g, Is5 u g → (Y.setCell ⟨c, 3, none⟩ (.slice (some ⟨gn, 0, none⟩) (rs.length + 1) nc)).heap[g]? = u.heap[g]? := fun g ⟨cs, fr, hc⟩ => kk (nc' hc (by decide)) (lt_of_block hc) (kY hc (by decide))
 have hsz : u.heap.size ≤ (Y.setCell ⟨c, 3, none⟩ (.slice (some ⟨gn, 0, none⟩) (rs.length + 1) nc)).heap.size := Nat.le_trans grow.size o2.size
 have k144 : ∀ {a : Nat} {cs : Array Value}, u.heap[a]? = some (Obj.cells cs 144 (0, 0)) → (Y.setCell ⟨c, 3, none⟩ (.slice (some ⟨gn, 0, none⟩) (rs.length + 1) nc)).heap[a]? = u.heap[a]? := fun hc => kk (nc' hc (by decide)) (lt_of_block hc) (kY hc (by decide))
 obtain ⟨cn, hcn⟩ := own_tag own rfl
 have hgc : gn ≠ c := fun e => by rw [e, hc3] at hcn; cases hcn
 have hqY : Y.heap[q]? = u.heap[q]? := grow.block q (lt_of_block h.qb) (fun e => h.qne e.symm)
 refine ⟨⟨⟨hbY.setCell (p := ⟨c, 3, none⟩) h.n0.cge _, ?_, ?_, ?_, ?_⟩, ?_, h.n0.gk, heap_setCell_same Y c 3 _ 135 _ hc3, h.n0.cge⟩, by simp [World.cell?, hc3], frozen_of_row _ c 3 _ 135 hc3, hqY.trans h.qb⟩
 ·rw [List.flatMap_append, List.length_append]
  have e : [(⟨lg, cap, mm, rr, 0, ls⟩ : Rc)].flatMap Rc.cells = [lv, .bool mm, .bool rr, .int .i64 0] := by rw [hlv]; rfl
  rw [e]
  exact owns_keep own (fun a ha => by cases ha; exact o2.block _ (lt_of_block hcn) hgc)
 ·intro r hr
  rcases List.mem_append.1 hr with h1 | h1
  ·have h9 := h.n0.rows.rok r h1
   obtain ⟨cs, hcs⟩ := own_tag h9.row rfl
   exact ⟨owns_keep h9.row (fun g hg => by cases hg; exact k144 hcs), ⟨h9.fg.1, Nat.lt_of_lt_of_le h9.fg.2 hsz⟩, h9.np, fun l hl => (h9.lf l hl).nws (h.n0.rows.nf r h1 l hl).1 hsz k5⟩
  ·have e : r = ⟨lg, cap, mm, rr, 0, ls⟩ := by simpa using h1
   subst e
   have hrow := h.lvs.row
   rw [hlv] at hrow
   obtain ⟨cs, hcs⟩ := own_tag hrow rfl
   have hge := (hrow.lt lg rfl)
   exact ⟨owns_keep (owns_low hrow) (fun g hg => by cases hg; exact k144 hcs), ⟨hge.1, Nat.lt_of_lt_of_le hge.2 hsz⟩, hp, fun l hl => (h.lvs.lok l hl).nws (h.lvs.nf l hl).1 hsz k5⟩
 ·rw [List.pairwise_append]
  refine ⟨h.n0.rows.gs, List.pairwise_singleton _ _, fun r hr s hs => ?_⟩
  have e : s = ⟨lg, cap, mm, rr, 0, ls⟩ := by simpa using hs
  subst e
  intro e9
  exact h.lvs.far r hr (by rw [hlv]; show some lg = some r.g; rw [e9])
 ·intro r hr l hl
  rcases List.mem_append.1 hr with h1 | h1
  ·exact h.n0.rows.nf r h1 l hl
  ·have e : r = ⟨lg, cap, mm, rr, 0, ls⟩ := by simpa using h1
   subst e
   exact h.lvs.nf l hl
 ·exact (kk (nc' h.n0.gb h.n0.gk.2.2.2) (lt_of_block h.n0.gb) (kY h.n0.gb h.n0.gk.2.1)).trans h.n0.gb
theorem Nw0.ref {fs : List Fc} {fa : Option Addr} {fn fc gr cr : Nat} (h : Nw0 w u B P S L c go gt (.slice fa fn fc) rv rs) (hL : L = pgB S) (hn : rs.length = B) (hrv : rv = .slice (some ⟨gr, 0, none⟩) rs.length cr) (hF : ReadsF w fa fn fs) (hfb : faultsB fs = true) :
  RAt w u c (Nws w u) ⟨B, P, S, rs.map Rc.v, fun _ _ => [], fs.map Fc.t, false, 0, []⟩ fs ⟨B, P, S, gr, rs.length, cr, fa, fn, fc, false, 0, none, 0, 0⟩ rs := by
 subst hL
 have hrow := h.rows.row
 have hbox := h.box
 rw [hrv] at hrow hbox
 refine ⟨h.rows.bel, fun k hk => hk.1, hF, hbox, ⟨h.cge, lt_of_block h.box⟩, rfl, rfl, rfl, rfl, rfl, rfl, owns_low hrow, ⟨(hrow.lt gr rfl).1, (hrow.lt gr rfl).2⟩, rfl, h.rows.rok, h.rows.gs, ?_, ?_, ?_, World.ownsRow_nil _ _ _ _, rfl, fun g hg => (by cases hg), fun k hk => hk.2⟩
 ·refine List.pairwise_of_forall_mem_list (fun l hl m hm k hk => ?_)
  obtain ⟨r, hr, hlr⟩ := List.mem_flatMap.1 hl
  rw [(h.rows.nf r hr l hlr).1] at hk
  cases hk
 ·intro i k r l h1 h2
  exact (h.rows.nf r (List.mem_of_getElem? h1) l (List.mem_of_getElem? h2)).2
 ·unfold faultsB at hfb
  rw [Bool.and_eq_true] at hfb
  show fs.map Fc.t = _
  symm
  refine List.filter_eq_self.2 (fun f hf => ?_)
  obtain ⟨d, hd, rfl⟩ := List.mem_map.1 hf
  have := (fmb_low fs (-1) hfb.2 d hd).1
  exact decide_eq_true (show ((0 : Nat) : Int) ≤ d.a by omega)
end
end Go.Proofs.Ytadlkikjfonkgaa
