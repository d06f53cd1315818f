/-
  SEAT Ytadlkikjfonkgaa: Xm, Vj.
-/
import Derived.Deep.DeepMust
import Derived.Test.YtadlkikjfonkgaaQa
import Derived.Test.YtadlkikjfonkgaaQba
import Derived.Test.YtadlkikjfonkgaaQx
import Derived.Test.YtadlkikjfonkgaaQr
import Derived.Test.YtadlkikjfonkgaaQy
namespace Go.Proofs.Ytadlkikjfonkgaa
open Go.RowKit Go.Conc
set_option linter.unusedVariables false
set_option maxRecDepth 100000
set_option maxHeartbeats 4000000
theorem fmb_ok : ∀ (fs : List Fc) (l : Int), (∀ c, fs[0]? = some c → l < c.a) → (∀ c ∈ fs, c.k = 1 ∨ c.k = 2) → (∀ i c d, fs[i]? = some c → fs[i + 1]? = some d → c.a < d.a) → fmb l fs = true
 | [], _, _, _, _ => rfl
 | c :: r, l, h0, hk, hi => by
  unfold fmb
  have h1 := h0 c rfl
  have h2 := hk c (List.mem_cons_self)
  have e : (decide (c.a ≤ l) || (c.k != 1 && c.k != 2)) = false := by
   rw [decide_eq_false (by omega)]
   rcases h2 with h2 | h2 <;> rw [h2] <;> rfl
  rw [e]
  simp only [Bool.false_eq_true, if_false]
  exact fmb_ok r c.a (fun d hd => hi 0 c d rfl (by simpa using hd)) (fun d hd => hk d (List.mem_cons_of_mem _ hd)) (fun i x y hx hy => hi (i + 1) x y (by simpa using hx) (by simpa using hy))
theorem faults_bad {fs : List Fc} {i : Nat} {c : Fc} (hi : fs[i]? = some c) (h : c.a < 0 ∨ c.k < 1 ∨ 2 < c.k ∨ (∃ j d, i = j + 1 ∧ fs[j]? = some d ∧ c.a ≤ d.a)) : faultsB fs = false := by
 cases hb : faultsB fs with
 | false => rfl
 | true =>
  unfold faultsB at hb
  rw [Bool.and_eq_true] at hb
  have h1 := fmb_low fs (-1) hb.2 c (List.mem_of_getElem? hi)
  rcases h with h | h | h | ⟨j, d, rfl, hj, h⟩
  ·omega
  ·omega
  ·omega
  ·have h2 := (fmb_rises fs (-1) hb.2).2.1
   have h3 := List.pairwise_iff_getElem.1 h2 j (j + 1) (List.getElem?_eq_some_iff.1 hj).1 (List.getElem?_eq_some_iff.1 hi).1 (by omega)
   rw [(List.getElem?_eq_some_iff.1 hj).2, (List.getElem?_eq_some_iff.1 hi).2] at h3
   omega
theorem faulty_any (w : World) (a : Option Addr) (n cp : Nat) (fs : List Fc) (hF : ReadsF w a n fs) (hn : n ≤ 9223372036854775807) :
  Calls Try.prog 79 #[.slice a n cp] w fun e w' => e = .returned (.bool (faultsB fs)) ∧ Below w.heap.size w w' := by
 have hl : fs.length = n := hF.1
 by_cases h4 : n ≤ 4096
 ·have d4 : decide ((n : Int) > 4096) = false := decide_eq_false (by omega)
  have HF := J hF
  have HL := J hl
  clear hF hl
  go_enter Try.func79, Try.ntmps79
  go_wp2
  go_loopw [3] (fun s3 wr => ∃ i : Nat, i ≤ n ∧ s3 = .int .i64 i ∧ Hid (Below w.heap.size w wr) ∧ Hid (∀ j c, j < i → fs[j]? = some c → 0 ≤ c.a ∧ (c.k = 1 ∨ c.k = 2) ∧ ∀ j' d, j = j' + 1 → fs[j']? = some d → d.a < c.a)) (fun s3 _ => n - (intOf s3).toNat)
  case atStart => exact ⟨0, Nat.zero_le _, rfl, J (Below.refl _ _), J (fun j c hj => absurd hj (Nat.not_lt_zero _))⟩
  case round =>
   obtain ⟨i, hi, rfl, HBr, HO⟩ := hrel
   by_cases hlt : i < n
   ·have d0 : decide ((i : Int) < (n : Int)) = true := decide_eq_true (by omega)
    have d1 : (i : Int) < (n : Int) := by omega
    obtain ⟨g, o, c, rfl, hci, _, k0, k1, _, _⟩ := HF.out.at hlt
    have k0 := (HBr.out.cell (block_lt_of_cell k0)).trans k0
    have k1 := (HBr.out.cell (block_lt_of_cell k1)).trans k1
    have HCI := J hci
    clear hci
    go_upto_region 6 with fail
    have HBE := J (below_trans HBr.out (drew_below wr))
    by_cases ha : c.a < 0
    ·have da : decide (c.a < 0) = true := decide_eq_true ha
     have HB : Hid (faultsB fs = false) := faults_bad HCI.out (Or.inl ha)
     clear ha
     refine wp_region_held_drew (S := (fun u => u.cell? ⟨g, o + i * 4, none⟩ = some (.int .i64 c.a) ∧ u.cell? ⟨g, o + i * 4 + 1, none⟩ = some (.int .i64 c.k))) (by kernel_rfl) (⟨k0, k1⟩) fun O => ?_
     refine tk 0 ?_
     refine tk 1 ?_
     refine tk 2 ?_
     refine tk 3 ?_
     refine tk 4 ?_
     refine tk 5 ?_
     refine tk 6 ?_
     refine tu 7 ?_
     refine tu 8 ?_
     refine tu 9 ?_
     refine tu 10 ?_
     refine tu 11 ?_
     refine tu 12 ?_
     refine tk 13 ?_
     refine tk 14 ?_
     refine tu 15 ?_
     refine tu 16 ?_
     refine tu 17 ?_
     refine tu 18 ?_
     refine tu 19 ?_
     refine tu 20 ?_
     refine tk 21 ?_
     refine tk 22 ?_
     refine tu 23 ?_
     refine tu 24 ?_
     refine tu 25 ?_
     refine tu 26 ?_
     refine tu 27 ?_
     refine tu 28 ?_
     refine tu 29 ?_
     refine tu 30 ?_
     refine tu 31 ?_
     refine tu 32 ?_
     refine tu 33 ?_
     refine tu 34 ?_
     refine tu 35 ?_
     refine tu 36 ?_
     refine tu 37 ?_
     refine tu 38 ?_
     refine tk 39 ?_
     refine td ?_
     clear O
     go_wp2
     go_ret
     exact ⟨ret_bool HB.out.symm, HBE.out⟩
    ·have da : decide (c.a < 0) = false := decide_eq_false ha
     by_cases hk1 : c.k < 1
     ·have dk : decide (c.k < 1) = true := decide_eq_true hk1
      have HB : Hid (faultsB fs = false) := faults_bad HCI.out (Or.inr (Or.inl hk1))
      clear ha hk1
      refine wp_region_held_drew (S := (fun u => u.cell? ⟨g, o + i * 4, none⟩ = some (.int .i64 c.a) ∧ u.cell? ⟨g, o + i * 4 + 1, none⟩ = some (.int .i64 c.k))) (by kernel_rfl) (⟨k0, k1⟩) fun O => ?_
      refine tk 0 ?_
      refine tk 1 ?_
      refine tk 2 ?_
      refine tk 3 ?_
      refine tk 4 ?_
      refine tk 5 ?_
      refine tk 6 ?_
      refine tk 7 ?_
      refine tk 8 ?_
      refine tk 9 ?_
      refine tk 10 ?_
      refine tk 11 ?_
      refine tk 12 ?_
      refine tk 13 ?_
      refine tk 14 ?_
      refine tu 15 ?_
      refine tu 16 ?_
      refine tu 17 ?_
      refine tu 18 ?_
      refine tu 19 ?_
      refine tu 20 ?_
      refine tk 21 ?_
      refine tk 22 ?_
      refine tu 23 ?_
      refine tu 24 ?_
      refine tu 25 ?_
      refine tu 26 ?_
      refine tu 27 ?_
      refine tu 28 ?_
      refine tu 29 ?_
      refine tu 30 ?_
      refine tu 31 ?_
      refine tu 32 ?_
      refine tu 33 ?_
      refine tu 34 ?_
      refine tu 35 ?_
      refine tu 36 ?_
      refine tu 37 ?_
      refine tu 38 ?_
      refine tk 39 ?_
      refine td ?_
      clear O
      go_wp2
      go_ret
      exact ⟨ret_bool HB.out.symm, HBE.out⟩
     ·have dk : decide (c.k < 1) = false := decide_eq_false hk1
      by_cases hk2 : 2 < c.k
      ·have dk2 : decide (c.k > 2) = true := decide_eq_true hk2
       have HB : Hid (faultsB fs = false) := faults_bad HCI.out (Or.inr (Or.inr (Or.inl hk2)))
       clear ha hk1 hk2
       refine wp_region_held_drew (S := (fun u => u.cell? ⟨g, o + i * 4, none⟩ = some (.int .i64 c.a) ∧ u.cell? ⟨g, o + i * 4 + 1, none⟩ = some (.int .i64 c.k))) (by kernel_rfl) (⟨k0, k1⟩) fun O => ?_
       refine tk 0 ?_
       refine tk 1 ?_
       refine tk 2 ?_
       refine tk 3 ?_
       refine tk 4 ?_
       refine tk 5 ?_
       refine tk 6 ?_
       refine tk 7 ?_
       refine tk 8 ?_
       refine tk 9 ?_
       refine tk 10 ?_
       refine tk 11 ?_
       refine tk 12 ?_
       refine tk 13 ?_
       refine tk 14 ?_
       refine tk 15 ?_
       refine tk 16 ?_
       refine tk 17 ?_
       refine tk 18 ?_
       refine tk 19 ?_
       refine tk 20 ?_
       refine tk 21 ?_
       refine tk 22 ?_
       refine tu 23 ?_
       refine tu 24 ?_
       refine tu 25 ?_
       refine tu 26 ?_
       refine tu 27 ?_
       refine tu 28 ?_
       refine tu 29 ?_
       refine tu 30 ?_
       refine tu 31 ?_
       refine tu 32 ?_
       refine tu 33 ?_
       refine tu 34 ?_
       refine tu 35 ?_
       refine tu 36 ?_
       refine tu 37 ?_
       refine tu 38 ?_
       refine tk 39 ?_
       refine td ?_
       clear O
       go_wp2
       go_ret
       exact ⟨ret_bool HB.out.symm, HBE.out⟩
      ·have dk2 : decide (c.k > 2) = false := decide_eq_false hk2
       have HKA := J (show 0 ≤ c.a ∧ (c.k = 1 ∨ c.k = 2) from ⟨by omega, by omega⟩)
       by_cases hi0 : i = 0
       ·have di : decide ((i : Int) > 0) = false := decide_eq_false (by omega)
        have di2 : decide (0 < i) = false := decide_eq_false (by omega)
        have HO9 : Hid (∀ j c, j < i + 1 → fs[j]? = some c → 0 ≤ c.a ∧ (c.k = 1 ∨ c.k = 2) ∧ ∀ j' d, j = j' + 1 → fs[j']? = some d → d.a < c.a) := fun j x hj hx => by
         have e : j = i := by omega
         subst e
         rw [HCI.out] at hx
         cases hx
         exact ⟨HKA.out.1, HKA.out.2, fun j' d e => by omega⟩
        clear ha hk1 hk2 hi0
        refine wp_region_held_drew (S := (fun u => u.cell? ⟨g, o + i * 4, none⟩ = some (.int .i64 c.a) ∧ u.cell? ⟨g, o + i * 4 + 1, none⟩ = some (.int .i64 c.k))) (by kernel_rfl) (⟨k0, k1⟩) fun O => ?_
        refine tk 0 ?_
        refine tk 1 ?_
        refine tk 2 ?_
        refine tk 3 ?_
        refine tk 4 ?_
        refine tk 5 ?_
        refine tk 6 ?_
        refine tk 7 ?_
        refine tk 8 ?_
        refine tk 9 ?_
        refine tk 10 ?_
        refine tk 11 ?_
        refine tk 12 ?_
        refine tk 13 ?_
        refine tk 14 ?_
        refine tk 15 ?_
        refine tk 16 ?_
        refine tk 17 ?_
        refine tk 18 ?_
        refine tk 19 ?_
        refine tk 20 ?_
        refine tk 21 ?_
        refine tk 22 ?_
        refine tk 23 ?_
        refine tk 24 ?_
        refine tk 25 ?_
        refine tu 26 ?_
        refine tu 27 ?_
        refine tu 28 ?_
        refine tu 29 ?_
        refine tu 30 ?_
        refine tu 31 ?_
        refine tu 32 ?_
        refine tu 33 ?_
        refine tu 34 ?_
        refine tu 35 ?_
        refine tu 36 ?_
        refine tu 37 ?_
        refine tk 38 ?_
        refine tk 39 ?_
        refine td ?_
        clear O
        go_wp2
        go_roundw
        case rel => exact ⟨i + 1, by omega, by go_num, HBE, HO9⟩
        case measure => simp [intOf]; omega
       ·have di : decide ((i : Int) > 0) = true := decide_eq_true (by omega)
        have di2 : decide (0 < i) = true := decide_eq_true (by omega)
        obtain ⟨j, hj⟩ : ∃ j, i = j + 1 := ⟨i - 1, by omega⟩
        have hij : (i : Int) - 1 = (j : Int) := by omega
        have dj : (j : Int) < (n : Int) := by omega
        have hwj : IntKind.i64.wrap (j : Int) = (j : Int) := by simp only [IntKind.wrap_i64]; omega
        obtain ⟨g', o', d, he, hdj, _, j0, _⟩ := HF.out.at (show j < n by omega)
        injection he with he
        injection he with he1 he2
        subst he1
        subst he2
        have j0 := (HBr.out.cell (block_lt_of_cell j0)).trans j0
        have HDJ := J hdj
        have HJ := J hj
        clear hdj hj
        by_cases hle : c.a ≤ d.a
        ·have dl : decide (c.a ≤ d.a) = true := decide_eq_true hle
         have HB : Hid (faultsB fs = false) := faults_bad HCI.out (Or.inr (Or.inr (Or.inr ⟨j, d, HJ.out, HDJ.out, hle⟩)))
         clear ha hk1 hk2 hi0 hle
         refine wp_region_held_drew (S := (fun u => (u.cell? ⟨g, o + i * 4, none⟩ = some (.int .i64 c.a) ∧ u.cell? ⟨g, o + i * 4 + 1, none⟩ = some (.int .i64 c.k)) ∧ u.cell? ⟨g, o + j * 4, none⟩ = some (.int .i64 d.a))) (by kernel_rfl) (⟨⟨k0, k1⟩, j0⟩) fun O => ?_
         refine tk 0 ?_
         refine tk 1 ?_
         refine tk 2 ?_
         refine tk 3 ?_
         refine tk 4 ?_
         refine tk 5 ?_
         refine tk 6 ?_
         refine tk 7 ?_
         refine tk 8 ?_
         refine tk 9 ?_
         refine tk 10 ?_
         refine tk 11 ?_
         refine tk 12 ?_
         refine tk 13 ?_
         refine tk 14 ?_
         refine tk 15 ?_
         refine tk 16 ?_
         refine tk 17 ?_
         refine tk 18 ?_
         refine tk 19 ?_
         refine tk 20 ?_
         refine tk 21 ?_
         refine tk 22 ?_
         refine tk 23 ?_
         refine tk 24 ?_
         refine tk 25 ?_
         refine tk 26 ?_
         refine tk 27 ?_
         refine tk 28 ?_
         refine tk 29 ?_
         refine tk 30 ?_
         refine tk 31 ?_
         refine tk 32 ?_
         refine tk 33 ?_
         refine tk 34 ?_
         refine tk 35 ?_
         refine tk 36 ?_
         refine tk 37 ?_
         refine tk 38 ?_
         refine tk 39 ?_
         refine td ?_
         clear O
         go_wp2
         go_ret
         exact ⟨ret_bool HB.out.symm, HBE.out⟩
        ·have dl : decide (c.a ≤ d.a) = false := decide_eq_false hle
         have HO9 : Hid (∀ j c, j < i + 1 → fs[j]? = some c → 0 ≤ c.a ∧ (c.k = 1 ∨ c.k = 2) ∧ ∀ j' d, j = j' + 1 → fs[j']? = some d → d.a < c.a) := fun q x hq hx => by
          by_cases e : q = i
          ·subst e
           rw [HCI.out] at hx
           cases hx
           refine ⟨HKA.out.1, HKA.out.2, fun j' d' e hd => ?_⟩
           have e2 : j' = j := by have := HJ.out; omega
           subst e2
           rw [HDJ.out] at hd
           cases hd
           omega
          ·exact HO.out q x (by omega) hx
         clear ha hk1 hk2 hi0 hle
         refine wp_region_held_drew (S := (fun u => (u.cell? ⟨g, o + i * 4, none⟩ = some (.int .i64 c.a) ∧ u.cell? ⟨g, o + i * 4 + 1, none⟩ = some (.int .i64 c.k)) ∧ u.cell? ⟨g, o + j * 4, none⟩ = some (.int .i64 d.a))) (by kernel_rfl) (⟨⟨k0, k1⟩, j0⟩) fun O => ?_
         refine tk 0 ?_
         refine tk 1 ?_
         refine tk 2 ?_
         refine tk 3 ?_
         refine tk 4 ?_
         refine tk 5 ?_
         refine tk 6 ?_
         refine tk 7 ?_
         refine tk 8 ?_
         refine tk 9 ?_
         refine tk 10 ?_
         refine tk 11 ?_
         refine tk 12 ?_
         refine tk 13 ?_
         refine tk 14 ?_
         refine tk 15 ?_
         refine tk 16 ?_
         refine tk 17 ?_
         refine tk 18 ?_
         refine tk 19 ?_
         refine tk 20 ?_
         refine tk 21 ?_
         refine tk 22 ?_
         refine tk 23 ?_
         refine tk 24 ?_
         refine tk 25 ?_
         refine tk 26 ?_
         refine tk 27 ?_
         refine tk 28 ?_
         refine tk 29 ?_
         refine tk 30 ?_
         refine tk 31 ?_
         refine tk 32 ?_
         refine tk 33 ?_
         refine tk 34 ?_
         refine tk 35 ?_
         refine tk 36 ?_
         refine tk 37 ?_
         refine tk 38 ?_
         refine tk 39 ?_
         refine td ?_
         clear O
         go_wp2
         go_roundw
         case rel => exact ⟨i + 1, by omega, by go_num, HBE, HO9⟩
         case measure => simp [intOf]; omega
   ·have d0 : decide ((i : Int) < (n : Int)) = false := decide_eq_false (by omega)
    obtain rfl : i = n := by omega
    have HB : Hid (faultsB fs = true) := by
     unfold Hid faultsB
     rw [decide_eq_true (by rw [HL.out]; exact h4), Bool.true_and]
     have hlt9 : ∀ {q x}, fs[q]? = some x → q < i := fun hx => by have := (List.getElem?_eq_some_iff.1 hx).1; rw [HL.out] at this; exact this
     refine fmb_ok fs (-1) (fun c hc => ?_) (fun c hc => ?_) (fun q x y hx hy => ?_)
     ·have := (HO.out 0 c (hlt9 hc) hc).1
      omega
     ·obtain ⟨q, hq⟩ := List.mem_iff_getElem?.1 hc
      exact (HO.out q c (hlt9 hq) hq).2.1
     ·exact (HO.out (q + 1) y (hlt9 hy) hy).2.2 q x rfl hx
    go_wp2
    go_ret
    exact ⟨ret_bool HB.out.symm, HBr.out⟩
 ·have d4 : decide ((n : Int) > 4096) = true := decide_eq_true (by omega)
  have HB : Hid (faultsB fs = false) := by unfold Hid faultsB; rw [decide_eq_false (by omega)]; rfl
  go_enter Try.func79, Try.ntmps79
  go_wp2
  go_ret
  exact ⟨ret_bool HB.out.symm, Below.refl _ _⟩
theorem ones_any (n : Nat) (w : World) (hn : n ≤ 1000000) :
  Calls Try.prog 95 #[.int .i64 (n : Int)] w fun e w' => ∃ g c, e = .returned (.slice (some ⟨g, 0, none⟩) n c) ∧ Own w' w.heap.size g n c (List.replicate n 255) ∧ Below w.heap.size w w' := by
 obtain ⟨i0, hi, hz0, hz1, hz2⟩ := info_parts info5
 go_enter Try.func95, Try.ntmps95
 go_wp2
 go_loopw [3, 4] (fun v i wr => ∃ k g c : Nat, k ≤ n ∧ i = .int .i64 k ∧ v = .slice (some ⟨g, 0, none⟩) k c ∧ Hid (Own wr w.heap.size g k c (List.replicate k 255)) ∧ Hid (Below w.heap.size w wr))
  (fun _ i _ => n - (intOf i).toNat)
 case atStart => exact ⟨0, w.heap.size, 0, Nat.zero_le _, rfl, rfl, by simpa [Hid, Own] using World.ownsRow_made w #[] 0 (Nat.le_refl _) (by simp [maxLen]) rfl, (Below.refl w.heap.size w).alloc (Nat.le_refl _) _⟩
 case round =>
  obtain ⟨k, g, c, hk, rfl, rfl, HOW, HBW⟩ := hrel
  by_cases hlt : k < n
  ·have d0 : decide ((k : Int) < (n : Int)) = true := decide_eq_true (by omega)
   have HOA : Hid (Own (wr.alloc (.cells #[.int .u8 255] 5)) w.heap.size g k c (List.replicate k 255)) := owns_bel HOW.out (below_alloc _ _)
   have HBA := J (below_trans HBW.out (below_alloc wr (.cells #[.int .u8 255] 5)))
   have HNW := J (alloc_new wr (.cells #[.int .u8 255] 5))
   go_wp2_with (first | (at_builtin; go_must (refine wpList_append_lies _ rfl (.tmp 11) (.tmp 12) 24 rfl w.heap.size 5 i0 (.int .u8 0) 1 1 Try.underlying24 hi hz0 hz1 hz2 rfl (by decide) (.slice (some ⟨g, 0, none⟩) k c) k ((List.replicate k 255).map (Value.int .u8)) rfl HOA.out ⟨wr.heap.size, 0, none⟩ 1 1 [.int .u8 255] rfl rfl (news1 HNW.out) (by intro u hu; simp at hu; rw [hu]; rfl) (by decide) (by simp [maxLen]; omega) (by omega) HBA.out.size _ rfl ?_); go_must (intro g1 c1 w1 own grow _ _; have HO1 : Hid (Own w1 w.heap.size g1 (k + 1) c1 (List.replicate (k + 1) 255)) := (by unfold Hid Own; rw [List.replicate_succ', List.map_append]; exact own); have HB1 := J (HBA.out.grown grow HBA.out.size (fun q hq => by have e : g = q := Option.some.inj hq; rw [← e]; exact HOA.out.lt.1)); clear own grow)))
   go_roundw
   case rel => exact ⟨k + 1, g1, c1, by omega, by go_num, rfl, HO1, HB1⟩
   case measure => simp [intOf]; omega
  ·have d0 : decide ((k : Int) < (n : Int)) = false := decide_eq_false (by omega)
   obtain rfl : k = n := by omega
   go_wp2
   go_ret
   exact ⟨g, c, rfl, HOW.out, HBW.out⟩
theorem rload_fit (w : World) (B P S : Int) (hf : Fits B P S = false) (ca : Option Addr) (cn cc : Nat) (ma : Option Addr) (mn mc : Nat) (sa : Option Addr) (n c : Nat) :
  Calls Try.prog 39 #[.agg #[.int .i64 B, .int .i64 P, .int .i64 S, .slice ca cn cc, .slice ma mn mc], .slice sa n c] w fun e w' => e = .returned (.tuple #[.pointer none, .int .i64 47]) ∧ Below w.heap.size w w' := by
 have H0 : Hid (LB w (w.alloc (.cells #[.int .i64 B, .int .i64 P, .int .i64 S, .slice ca cn cc, .slice ma mn mc] 27)).drew B P S ca cn cc ma mn mc) := LB.start w _ _ _ _ _ _ _ _ _
 have HBd : Hid (Below w.heap.size w (w.alloc (.cells #[.int .i64 B, .int .i64 P, .int .i64 S, .slice ca cn cc, .slice ma mn mc] 27)).drew) := below_trans (below_alloc _ _) (drew_below _)
 go_enter Try.func39, Try.ntmps39
 go_wp2
 refine wp_region_held_drew (S := (fun u => u.cell? ⟨w.heap.size, 0, none⟩ = some (.int .i64 B) ∧ u.cell? ⟨w.heap.size, 1, none⟩ = some (.int .i64 P) ∧ u.cell? ⟨w.heap.size, 2, none⟩ = some (.int .i64 S) ∧ u.cell? ⟨w.heap.size, 3, none⟩ = some (.slice ca cn cc) ∧ u.cell? ⟨w.heap.size, 4, none⟩ = some (.slice ma mn mc))) (by kernel_rfl) (H0.out.s) fun O => ?_
 refine tk 0 ?_
 refine tk 1 ?_
 refine rd 2 fun K N => ?_
 go_simp
 go_at_call 31
 refine (shape_any B P S _).mono ?_
 rintro e u1 ⟨rfl, b1⟩
 rw [hf]
 have HB1 := J (below_trans HBd.out b1)
 have H1 := J (H0.out.keep b1)
 have hZ := H1.out.s
 clear b1
 go_wp2_with fail
 clear O
 refine N.out _ _ hZ fun O => ?_
 clear N K hZ
 try simp only [zz]
 refine tk 3 ?_
 refine tk 4 ?_
 refine tu 5 ?_
 refine tu 6 ?_
 refine tu 7 ?_
 refine tu 8 ?_
 refine tu 9 ?_
 refine tu 10 ?_
 refine tu 11 ?_
 refine tu 12 ?_
 refine tu 13 ?_
 refine tu 14 ?_
 refine tu 15 ?_
 refine tu 16 ?_
 refine tu 17 ?_
 refine tu 18 ?_
 refine tu 19 ?_
 refine tk 20 ?_
 refine tk 21 ?_
 refine tu 22 ?_
 refine tu 23 ?_
 refine tu 24 ?_
 refine tu 25 ?_
 refine tu 26 ?_
 refine tu 27 ?_
 refine tu 28 ?_
 refine tk 29 ?_
 refine td ?_
 clear O
 go_wp2
 refine bodyPost_ret (v := .tuple #[.pointer none, .int .i64 47]) (by simp [results, Try.results39, go_sem]) rfl ?_
 exact ⟨rfl, HB1.out⟩
theorem rload_cells (w : World) (B P S : Nat) (hf : Fits B P S = true) (ca : Option Addr) (cn cc : Nat) (ma : Option Addr) (mn mc : Nat) (sa : Option Addr) (n c : Nat) (hcn : cn ≠ B * P * pgB S) :
  Calls Try.prog 39 #[.agg #[.int .i64 (B : Int), .int .i64 (P : Int), .int .i64 (S : Int), .slice ca cn cc, .slice ma mn mc], .slice sa n c] w fun e w' => e = .returned (.tuple #[.pointer none, .int .i64 47]) ∧ Below w.heap.size w w' := by
 have hFB := of_decide_eq_true hf
 have hS : 1 ≤ S ∧ S ≤ 8 := by omega
 have hB4 : B ≤ 4096 := by omega
 have hP4 : P ≤ 4096 := by omega
 have hP2 : P ≤ 256 := by omega
 obtain ⟨n0, hn0e⟩ : ∃ n, n = B * P * pgB S := ⟨_, rfl⟩
 obtain ⟨m0, hm0e⟩ : ∃ m, m = B * P := ⟨_, rfl⟩
 obtain ⟨l0, hl0e⟩ : ∃ m, m = pgB S := ⟨_, rfl⟩
 have hm0 : m0 ≤ 65536 := by rw [hm0e]; omega
 have hl0 : l0 ≤ 2126 := by rw [hl0e]; exact pgB_le hS.2
 have hn0 : n0 ≤ 139329536 := by rw [hn0e, ← hm0e, ← hl0e]; exact Nat.le_trans (Nat.mul_le_mul hm0 hl0) (by decide)
 have HM0 : Hid (IntKind.i64.wrap ((B : Int) * (P : Int)) = (m0 : Int)) := by unfold Hid; rw [hm0e] at *; rw [← Int.natCast_mul]; simp only [IntKind.wrap_i64]; omega
 have HN0 : Hid (IntKind.i64.wrap ((m0 : Int) * (l0 : Int)) = (n0 : Int)) := by unfold Hid; rw [← Int.natCast_mul, hn0e, ← hm0e, ← hl0e]; rw [← hm0e, ← hl0e] at hn0e; simp only [IntKind.wrap_i64]; omega
 have HL0 := J hl0e
 have HNE := J hn0e
 have dcn : ((cn : Int) != (n0 : Int)) = true := by simp; omega
 clear hcn
 have H0 : Hid (LB w (w.alloc (.cells #[.int .i64 (B : Int), .int .i64 (P : Int), .int .i64 (S : Int), .slice ca cn cc, .slice ma mn mc] 27)).drew B P S ca cn cc ma mn mc) := LB.start w _ _ _ _ _ _ _ _ _
 have HBd : Hid (Below w.heap.size w (w.alloc (.cells #[.int .i64 (B : Int), .int .i64 (P : Int), .int .i64 (S : Int), .slice ca cn cc, .slice ma mn mc] 27)).drew) := below_trans (below_alloc _ _) (drew_below _)
 clear hFB hn0e hm0e hl0e
 go_enter Try.func39, Try.ntmps39
 go_wp2
 refine wp_region_held_drew (S := (fun u => u.cell? ⟨w.heap.size, 0, none⟩ = some (.int .i64 (B : Int)) ∧ u.cell? ⟨w.heap.size, 1, none⟩ = some (.int .i64 (P : Int)) ∧ u.cell? ⟨w.heap.size, 2, none⟩ = some (.int .i64 (S : Int)) ∧ u.cell? ⟨w.heap.size, 3, none⟩ = some (.slice ca cn cc) ∧ u.cell? ⟨w.heap.size, 4, none⟩ = some (.slice ma mn mc))) (by kernel_rfl) (H0.out.s) fun O => ?_
 refine tk 0 ?_
 refine tk 1 ?_
 refine rd 2 fun K N => ?_
 go_simp
 go_at_call 31
 refine (shape_any B P S _).mono ?_
 rintro e u1 ⟨rfl, b1⟩
 rw [hf]
 have HB1 := J (below_trans HBd.out b1)
 have H1 := J (H0.out.keep b1)
 have hZ := H1.out.s
 clear b1
 go_wp2_with fail
 clear O
 refine N.out _ _ hZ fun O => ?_
 clear N K hZ
 try simp only [zz]
 refine tk 3 ?_
 refine tk 4 ?_
 refine tk 5 ?_
 refine tk 6 ?_
 refine tk 7 ?_
 refine tk 8 ?_
 refine tk 9 ?_
 refine tk 10 ?_
 refine tk 11 ?_
 refine tk 12 ?_
 refine tk 13 ?_
 refine tk 14 ?_
 rw [HM0.out]
 refine tk 15 ?_
 refine tk 16 ?_
 refine rd 17 fun K N => ?_
 go_simp
 go_at_call 78
 refine (rlong_any _ _ S _ hS.1 hS.2).mono ?_
 rintro e u2 ⟨rfl, b2⟩
 rw [← HL0.out]
 have HB2 := J (below_trans HB1.out b2)
 have H2 := J (H1.out.keep b2)
 have hZ := H2.out.s
 clear b2
 go_wp2_with fail
 clear O
 refine N.out _ _ hZ fun O => ?_
 clear N K hZ
 try simp only [zz]
 refine tk 18 ?_
 rw [HN0.out]
 refine tk 19 ?_
 refine tk 20 ?_
 refine tk 21 ?_
 refine tu 22 ?_
 refine tu 23 ?_
 refine tu 24 ?_
 refine tu 25 ?_
 refine tu 26 ?_
 refine tu 27 ?_
 refine tu 28 ?_
 refine tk 29 ?_
 refine td ?_
 clear O
 go_wp2
 refine bodyPost_ret (v := .tuple #[.pointer none, .int .i64 47]) (by simp [results, Try.results39, go_sem]) rfl ?_
 exact ⟨rfl, HB2.out⟩
theorem rload_marks (w : World) (B P S : Nat) (hf : Fits B P S = true) (ca : Option Addr) (cn cc : Nat) (ma : Option Addr) (mn mc : Nat) (sa : Option Addr) (n c : Nat) (hcn : cn = B * P * pgB S) (hmn : mn ≠ B) :
  Calls Try.prog 39 #[.agg #[.int .i64 (B : Int), .int .i64 (P : Int), .int .i64 (S : Int), .slice ca cn cc, .slice ma mn mc], .slice sa n c] w fun e w' => e = .returned (.tuple #[.pointer none, .int .i64 47]) ∧ Below w.heap.size w w' := by
 have hFB := of_decide_eq_true hf
 have hS : 1 ≤ S ∧ S ≤ 8 := by omega
 have hB4 : B ≤ 4096 := by omega
 have hP4 : P ≤ 4096 := by omega
 have hP2 : P ≤ 256 := by omega
 obtain ⟨n0, hn0e⟩ : ∃ n, n = B * P * pgB S := ⟨_, rfl⟩
 obtain ⟨m0, hm0e⟩ : ∃ m, m = B * P := ⟨_, rfl⟩
 obtain ⟨l0, hl0e⟩ : ∃ m, m = pgB S := ⟨_, rfl⟩
 have hm0 : m0 ≤ 65536 := by rw [hm0e]; omega
 have hl0 : l0 ≤ 2126 := by rw [hl0e]; exact pgB_le hS.2
 have hn0 : n0 ≤ 139329536 := by rw [hn0e, ← hm0e, ← hl0e]; exact Nat.le_trans (Nat.mul_le_mul hm0 hl0) (by decide)
 have HM0 : Hid (IntKind.i64.wrap ((B : Int) * (P : Int)) = (m0 : Int)) := by unfold Hid; rw [hm0e] at *; rw [← Int.natCast_mul]; simp only [IntKind.wrap_i64]; omega
 have HN0 : Hid (IntKind.i64.wrap ((m0 : Int) * (l0 : Int)) = (n0 : Int)) := by unfold Hid; rw [← Int.natCast_mul, hn0e, ← hm0e, ← hl0e]; rw [← hm0e, ← hl0e] at hn0e; simp only [IntKind.wrap_i64]; omega
 have HL0 := J hl0e
 have HNE := J hn0e
 have dcn : ((cn : Int) != (n0 : Int)) = false := by simp; omega
 have dmn : ((mn : Int) != (B : Int)) = true := by simp; omega
 clear hcn hmn
 have H0 : Hid (LB w (w.alloc (.cells #[.int .i64 (B : Int), .int .i64 (P : Int), .int .i64 (S : Int), .slice ca cn cc, .slice ma mn mc] 27)).drew B P S ca cn cc ma mn mc) := LB.start w _ _ _ _ _ _ _ _ _
 have HBd : Hid (Below w.heap.size w (w.alloc (.cells #[.int .i64 (B : Int), .int .i64 (P : Int), .int .i64 (S : Int), .slice ca cn cc, .slice ma mn mc] 27)).drew) := below_trans (below_alloc _ _) (drew_below _)
 clear hFB hn0e hm0e hl0e
 go_enter Try.func39, Try.ntmps39
 go_wp2
 refine wp_region_held_drew (S := (fun u => u.cell? ⟨w.heap.size, 0, none⟩ = some (.int .i64 (B : Int)) ∧ u.cell? ⟨w.heap.size, 1, none⟩ = some (.int .i64 (P : Int)) ∧ u.cell? ⟨w.heap.size, 2, none⟩ = some (.int .i64 (S : Int)) ∧ u.cell? ⟨w.heap.size, 3, none⟩ = some (.slice ca cn cc) ∧ u.cell? ⟨w.heap.size, 4, none⟩ = some (.slice ma mn mc))) (by kernel_rfl) (H0.out.s) fun O => ?_
 refine tk 0 ?_
 refine tk 1 ?_
 refine rd 2 fun K N => ?_
 go_simp
 go_at_call 31
 refine (shape_any B P S _).mono ?_
 rintro e u1 ⟨rfl, b1⟩
 rw [hf]
 have HB1 := J (below_trans HBd.out b1)
 have H1 := J (H0.out.keep b1)
 have hZ := H1.out.s
 clear b1
 go_wp2_with fail
 clear O
 refine N.out _ _ hZ fun O => ?_
 clear N K hZ
 try simp only [zz]
 refine tk 3 ?_
 refine tk 4 ?_
 refine tk 5 ?_
 refine tk 6 ?_
 refine tk 7 ?_
 refine tk 8 ?_
 refine tk 9 ?_
 refine tk 10 ?_
 refine tk 11 ?_
 refine tk 12 ?_
 refine tk 13 ?_
 refine tk 14 ?_
 rw [HM0.out]
 refine tk 15 ?_
 refine tk 16 ?_
 refine rd 17 fun K N => ?_
 go_simp
 go_at_call 78
 refine (rlong_any _ _ S _ hS.1 hS.2).mono ?_
 rintro e u2 ⟨rfl, b2⟩
 rw [← HL0.out]
 have HB2 := J (below_trans HB1.out b2)
 have H2 := J (H1.out.keep b2)
 have hZ := H2.out.s
 clear b2
 go_wp2_with fail
 clear O
 refine N.out _ _ hZ fun O => ?_
 clear N K hZ
 try simp only [zz]
 refine tk 18 ?_
 rw [HN0.out]
 refine tk 19 ?_
 refine tk 20 ?_
 refine tk 21 ?_
 refine tk 22 ?_
 refine tk 23 ?_
 refine tk 24 ?_
 refine tk 25 ?_
 refine tk 26 ?_
 refine tk 27 ?_
 refine tk 28 ?_
 refine tk 29 ?_
 refine td ?_
 clear O
 go_wp2
 refine bodyPost_ret (v := .tuple #[.pointer none, .int .i64 47]) (by simp [results, Try.results39, go_sem]) rfl ?_
 exact ⟨rfl, HB2.out⟩
theorem rload_flt (w : World) (B P S : Nat) (hf : Fits B P S = true) (ca : Option Addr) (cn cc : Nat) (ma : Option Addr) (mn mc : Nat) (sa : Option Addr) (n c : Nat) (hcn : cn = B * P * pgB S) (hmn : mn = B) (fs : List Fc) (hF : ReadsF w sa n fs) (hn : n ≤ 9223372036854775807) (hs : faultsB fs = false) :
  Calls Try.prog 39 #[.agg #[.int .i64 (B : Int), .int .i64 (P : Int), .int .i64 (S : Int), .slice ca cn cc, .slice ma mn mc], .slice sa n c] w fun e w' => e = .returned (.tuple #[.pointer none, .int .i64 48]) ∧ Below w.heap.size w w' := by
 have hFB := of_decide_eq_true hf
 have hS : 1 ≤ S ∧ S ≤ 8 := by omega
 have hB4 : B ≤ 4096 := by omega
 have hP4 : P ≤ 4096 := by omega
 have hP2 : P ≤ 256 := by omega
 obtain ⟨n0, hn0e⟩ : ∃ n, n = B * P * pgB S := ⟨_, rfl⟩
 obtain ⟨m0, hm0e⟩ : ∃ m, m = B * P := ⟨_, rfl⟩
 obtain ⟨l0, hl0e⟩ : ∃ m, m = pgB S := ⟨_, rfl⟩
 have hm0 : m0 ≤ 65536 := by rw [hm0e]; omega
 have hl0 : l0 ≤ 2126 := by rw [hl0e]; exact pgB_le hS.2
 have hn0 : n0 ≤ 139329536 := by rw [hn0e, ← hm0e, ← hl0e]; exact Nat.le_trans (Nat.mul_le_mul hm0 hl0) (by decide)
 have HM0 : Hid (IntKind.i64.wrap ((B : Int) * (P : Int)) = (m0 : Int)) := by unfold Hid; rw [hm0e] at *; rw [← Int.natCast_mul]; simp only [IntKind.wrap_i64]; omega
 have HN0 : Hid (IntKind.i64.wrap ((m0 : Int) * (l0 : Int)) = (n0 : Int)) := by unfold Hid; rw [← Int.natCast_mul, hn0e, ← hm0e, ← hl0e]; rw [← hm0e, ← hl0e] at hn0e; simp only [IntKind.wrap_i64]; omega
 have HL0 := J hl0e
 have HNE := J hn0e
 have dcn : ((cn : Int) != (n0 : Int)) = false := by simp; omega
 have dmn : ((mn : Int) != (B : Int)) = false := by simp; omega
 clear hcn hmn
 have HRF := J hF
 clear hF
 have H0 : Hid (LB w (w.alloc (.cells #[.int .i64 (B : Int), .int .i64 (P : Int), .int .i64 (S : Int), .slice ca cn cc, .slice ma mn mc] 27)).drew B P S ca cn cc ma mn mc) := LB.start w _ _ _ _ _ _ _ _ _
 have HBd : Hid (Below w.heap.size w (w.alloc (.cells #[.int .i64 (B : Int), .int .i64 (P : Int), .int .i64 (S : Int), .slice ca cn cc, .slice ma mn mc] 27)).drew) := below_trans (below_alloc _ _) (drew_below _)
 clear hFB hn0e hm0e hl0e
 go_enter Try.func39, Try.ntmps39
 go_wp2
 refine wp_region_held_drew (S := (fun u => u.cell? ⟨w.heap.size, 0, none⟩ = some (.int .i64 (B : Int)) ∧ u.cell? ⟨w.heap.size, 1, none⟩ = some (.int .i64 (P : Int)) ∧ u.cell? ⟨w.heap.size, 2, none⟩ = some (.int .i64 (S : Int)) ∧ u.cell? ⟨w.heap.size, 3, none⟩ = some (.slice ca cn cc) ∧ u.cell? ⟨w.heap.size, 4, none⟩ = some (.slice ma mn mc))) (by kernel_rfl) (H0.out.s) fun O => ?_
 refine tk 0 ?_
 refine tk 1 ?_
 refine rd 2 fun K N => ?_
 go_simp
 go_at_call 31
 refine (shape_any B P S _).mono ?_
 rintro e u1 ⟨rfl, b1⟩
 rw [hf]
 have HB1 := J (below_trans HBd.out b1)
 have H1 := J (H0.out.keep b1)
 have hZ := H1.out.s
 clear b1
 go_wp2_with fail
 clear O
 refine N.out _ _ hZ fun O => ?_
 clear N K hZ
 try simp only [zz]
 refine tk 3 ?_
 refine tk 4 ?_
 refine tk 5 ?_
 refine tk 6 ?_
 refine tk 7 ?_
 refine tk 8 ?_
 refine tk 9 ?_
 refine tk 10 ?_
 refine tk 11 ?_
 refine tk 12 ?_
 refine tk 13 ?_
 refine tk 14 ?_
 rw [HM0.out]
 refine tk 15 ?_
 refine tk 16 ?_
 refine rd 17 fun K N => ?_
 go_simp
 go_at_call 78
 refine (rlong_any _ _ S _ hS.1 hS.2).mono ?_
 rintro e u2 ⟨rfl, b2⟩
 rw [← HL0.out]
 have HB2 := J (below_trans HB1.out b2)
 have H2 := J (H1.out.keep b2)
 have hZ := H2.out.s
 clear b2
 go_wp2_with fail
 clear O
 refine N.out _ _ hZ fun O => ?_
 clear N K hZ
 try simp only [zz]
 refine tk 18 ?_
 rw [HN0.out]
 refine tk 19 ?_
 refine tk 20 ?_
 refine tk 21 ?_
 refine tk 22 ?_
 refine tk 23 ?_
 refine tk 24 ?_
 refine tk 25 ?_
 refine tk 26 ?_
 refine tk 27 ?_
 refine tk 28 ?_
 refine tk 29 ?_
 refine td ?_
 clear O
 go_wp2_with (first | (go_at_call 79; refine (faulty_any _ sa n c fs (HRF.out.below HB2.out) hn).mono ?_; rintro e u3 ⟨rfl, b3⟩; rw [hs]; have HB3 := J (below_trans HB2.out b3); clear b3))
 refine bodyPost_ret (v := .tuple #[.pointer none, .int .i64 48]) (by simp [results, Try.results39, go_sem]) rfl ?_
 exact ⟨rfl, HB3.out⟩
end Go.Proofs.Ytadlkikjfonkgaa
