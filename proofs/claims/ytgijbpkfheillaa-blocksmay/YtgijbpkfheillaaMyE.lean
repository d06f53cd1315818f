/-
  SEAT Ytgijbpkfheillaa: BlocksMay: hollow.
-/
import Derived.Test.YtgijbpkfheillaaMyB
namespace Go.Proofs.Ytgijbpkfheillaa
open Go.RowKit
set_option linter.unusedVariables false

theorem own_below {w w' : World} {B E S : Nat} {v : Value} {n : Nat} {xs : List Value} (h : w.ownsRow B E S v n xs) (hb : Below w.heap.size w w') : w'.ownsRow B E S v n xs := by
  refine ⟨h.1, ?_⟩
  rcases h.2 with hn | ⟨gg, cap, cu, hv, hb2, hh, rest⟩
  · exact Or.inl hn
  · exact Or.inr ⟨gg, cap, cu, hv, hb2, (hb.block gg (lt_of_block hh)).trans hh, rest⟩
theorem rv_block1 {w : World} {o : Obj} {cs : Array Value} {t : TypeId} {m size : Nat} (hl : cs.size = m * size) : RV ((w.alloc o).alloc (.cells cs t)) (some ⟨w.heap.size + 1, 0, none⟩) m size cs.toList := by
  have h := rv_block (w := w.alloc o) (t := t) hl
  simpa using h
theorem ba' {a w : World} {B : Nat} {o : Obj} (h : Below B a w) (hB : B ≤ w.heap.size) : Below B a (w.alloc o) := h.alloc hB _
theorem holL_one (last : Int) {bs : List Bk} {k : Nat} {b : Bk} (hb : holBk last k (bs.getD k Bk.zero) = b) : flatK (holL last bs (k + 1)) = flatK (holL last bs k) ++ flatK [b] := by
  rw [holL, flatK_append, hb]

set_option maxHeartbeats 2000000 in
set_option maxRecDepth 100000 in
theorem hollowl_any (a : Option Addr) (len cap : Nat) (bs : List Bk) (last : Int) (w : World) (hr : ReadsK w a len bs) (hl : len ≤ 5000) :
    Calls Try.prog 24 #[.slice a len cap, .int .i64 last] w fun e w' => ∃ v, e = .returned (.tuple #[v, .int .i64 (holN bs len : Nat)]) ∧ w'.ownsRow w.heap.size 34 4 v len (flatK (holL last bs len)) ∧ Below w.heap.size w w' := by
  obtain ⟨i0, hi, hz0, hz1, hz2⟩ := info_parts info34
  have HR : Hid (ReadsK w a len bs) := hr
  clear hr
  go_enter Try.func24, Try.ntmps24
  go_wp2
  go_loopw [6, 7, 8, 9] (fun s6 s7 s8 s9 wr => ∃ k : Nat, k ≤ len ∧ s8 = .int .i64 k ∧ s7 = .int .i64 (holN bs k : Nat) ∧ Hid (wr.ownsRow w.heap.size 34 4 s6 k (flatK (holL last bs k))) ∧ Below w.heap.size w wr)
    (fun _ _ i _ _ => len - (intOf i).toNat)
  case atStart => exact ⟨0, Nat.zero_le _, rfl, rfl, ⟨rfl, Or.inl ⟨rfl, rfl⟩⟩, Below.refl _ _⟩
  case round =>
    obtain ⟨k, hk, rfl, rfl, HO, hb⟩ := hrel
    by_cases hlt : k < len
    · obtain ⟨go, off, rfl, hg, hcell⟩ := HR.out.pos (by omega)
      have hc := hcell k hlt
      obtain ⟨X, hX⟩ : ∃ X, bs.getD k Bk.zero = X := ⟨_, rfl⟩
      rw [hX] at hc
      obtain ⟨s, hd, r, l⟩ := X
      obtain ⟨c0, c1, c2, c3⟩ := hc
      rw [← hb.cell hg] at c0 c1 c2 c3
      simp only at c0 c1 c2 c3
      have HX : Hid _ := hX
      have HN : Hid _ := holN_le bs k
      obtain ⟨N, hN⟩ : ∃ N, holN bs k = N := ⟨_, rfl⟩
      rw [hN] at HN
      rw [hN]
      have HNN : Hid _ := hN
      have dk : (k : Int) < len := by omega
      clear hcell hX hN
      by_cases hs : s = 1
      · subst hs
        cases r with
        | true =>
          have hn9 : N ≤ k := HN.out
          have HBK : Hid (holBk last k (bs.getD k Bk.zero) = ⟨1, hd, true, l⟩) := by unfold Hid; rw [HX.out]; simp [holBk, holP, hollowB, *]
          have HP : Hid (holP (bs.getD k Bk.zero) = false) := by unfold Hid; rw [HX.out]; simp [holP, hollowB, *]
          have HW : Hid (Below wr.heap.size wr (wr.alloc (.cells #[.int .i64 1, .int .u64 hd, .bool true, .int .i64 l] 34))) := ba (Below.refl _ _)
          go_wp2_with (at_builtin; refine wpList_append_src rfl (.tmp 40) (.tmp 42) 24 rfl w.heap.size 34 i0 _ 4 32 Try.underlying24 hi hz0 hz1 hz2 rfl (by decide) _ k _ rfl ((own_below HO.out HW.out).alloc _) _ 1 _ _ rfl (rv_block1 (w := wr) (cs := #[.int .i64 1, .int .u64 hd, .bool true, .int .i64 l]) rfl) (flatK_one [⟨1, hd, true, l⟩]) (by simp [maxLen]; omega) (by omega) (by have := hb.size; simp; omega) ?_; intro v1 w1 own1 grow1; have HO1 : Hid (w1.ownsRow w.heap.size 34 4 v1 (k + 1) (flatK (holL last bs (k + 1)))) := (by unfold Hid; rw [holL_one last HBK.out]; exact own1); have HB1 : Hid (Below w.heap.size w w1) := Below.grown (ba' (ba' hb hb.size) (by have := hb.size; simp; omega)) grow1 (by have := hb.size; simp; omega) (fun q hq => ((own_below HO.out HW.out).lt q hq).1); clear own1 grow1)
          go_roundw
          case rel => exact ⟨k + 1, by omega, by go_num, by rw [holN, HP.out, HNN.out]; simp, HO1, HB1.out⟩
          case measure => simp [intOf]; omega
        | false =>
          by_cases hl0 : l = 0
          · subst hl0
            by_cases hkl : (k : Int) = last
            · subst hkl
              have d5 : ((k : Int) == (k : Int)) = true := by simp
              have hn9 : N ≤ k := HN.out
              have HBK : Hid (holBk (k : Int) k (bs.getD k Bk.zero) = ⟨5, 0, false, 0⟩) := by unfold Hid; rw [HX.out]; simp [holBk, holP, hollowB, *]
              have HP : Hid (holP (bs.getD k Bk.zero) = true) := by unfold Hid; rw [HX.out]; simp [holP, hollowB, *]
              have HW : Hid (Below wr.heap.size wr (wr.alloc (.cells #[.int .i64 5, .int .u64 0, .bool false, .int .i64 0] 34))) := ba (Below.refl _ _)
              go_wp2_with (at_builtin; refine wpList_append_src rfl (.tmp 40) (.tmp 42) 24 rfl w.heap.size 34 i0 _ 4 32 Try.underlying24 hi hz0 hz1 hz2 rfl (by decide) _ k _ rfl ((own_below HO.out HW.out).alloc _) _ 1 _ _ rfl (rv_block1 (w := wr) (cs := #[.int .i64 5, .int .u64 0, .bool false, .int .i64 0]) rfl) (flatK_one [⟨5, 0, false, 0⟩]) (by simp [maxLen]; omega) (by omega) (by have := hb.size; simp; omega) ?_; intro v1 w1 own1 grow1; have HO1 : Hid (w1.ownsRow w.heap.size 34 4 v1 (k + 1) (flatK (holL (k : Int) bs (k + 1)))) := (by unfold Hid; rw [holL_one (k : Int) HBK.out]; exact own1); have HB1 : Hid (Below w.heap.size w w1) := Below.grown (ba' (ba' hb hb.size) (by have := hb.size; simp; omega)) grow1 (by have := hb.size; simp; omega) (fun q hq => ((own_below HO.out HW.out).lt q hq).1); clear own1 grow1)
              go_roundw
              case rel => exact ⟨k + 1, by omega, by go_num, by rw [holN, HP.out, HNN.out]; rw [if_pos rfl]; go_num, HO1, HB1.out⟩
              case measure => simp [intOf]; omega
            · have d5 : ((k : Int) == last) = false := by simpa using hkl
              have hn9 : N ≤ k := HN.out
              have HBK : Hid (holBk last k (bs.getD k Bk.zero) = ⟨0, 0, false, 0⟩) := by unfold Hid; rw [HX.out]; simp [holBk, holP, hollowB, *]
              have HP : Hid (holP (bs.getD k Bk.zero) = true) := by unfold Hid; rw [HX.out]; simp [holP, hollowB, *]
              have HW : Hid (Below wr.heap.size wr (wr.alloc (.cells #[.int .i64 0, .int .u64 0, .bool false, .int .i64 0] 34))) := ba (Below.refl _ _)
              go_wp2_with (at_builtin; refine wpList_append_src rfl (.tmp 40) (.tmp 42) 24 rfl w.heap.size 34 i0 _ 4 32 Try.underlying24 hi hz0 hz1 hz2 rfl (by decide) _ k _ rfl ((own_below HO.out HW.out).alloc _) _ 1 _ _ rfl (rv_block1 (w := wr) (cs := #[.int .i64 0, .int .u64 0, .bool false, .int .i64 0]) rfl) (flatK_one [⟨0, 0, false, 0⟩]) (by simp [maxLen]; omega) (by omega) (by have := hb.size; simp; omega) ?_; intro v1 w1 own1 grow1; have HO1 : Hid (w1.ownsRow w.heap.size 34 4 v1 (k + 1) (flatK (holL last bs (k + 1)))) := (by unfold Hid; rw [holL_one last HBK.out]; exact own1); have HB1 : Hid (Below w.heap.size w w1) := Below.grown (ba' (ba' hb hb.size) (by have := hb.size; simp; omega)) grow1 (by have := hb.size; simp; omega) (fun q hq => ((own_below HO.out HW.out).lt q hq).1); clear own1 grow1)
              go_roundw
              case rel => exact ⟨k + 1, by omega, by go_num, by rw [holN, HP.out, HNN.out]; rw [if_pos rfl]; go_num, HO1, HB1.out⟩
              case measure => simp [intOf]; omega
          · have d3 : (l == 0) = false := by simpa using hl0
            have hn9 : N ≤ k := HN.out
            have HBK : Hid (holBk last k (bs.getD k Bk.zero) = ⟨1, hd, false, l⟩) := by unfold Hid; rw [HX.out]; simp [holBk, holP, hollowB, *]
            have HP : Hid (holP (bs.getD k Bk.zero) = false) := by unfold Hid; rw [HX.out]; simp [holP, hollowB, *]
            have HW : Hid (Below wr.heap.size wr (wr.alloc (.cells #[.int .i64 1, .int .u64 hd, .bool false, .int .i64 l] 34))) := ba (Below.refl _ _)
            go_wp2_with (at_builtin; refine wpList_append_src rfl (.tmp 40) (.tmp 42) 24 rfl w.heap.size 34 i0 _ 4 32 Try.underlying24 hi hz0 hz1 hz2 rfl (by decide) _ k _ rfl ((own_below HO.out HW.out).alloc _) _ 1 _ _ rfl (rv_block1 (w := wr) (cs := #[.int .i64 1, .int .u64 hd, .bool false, .int .i64 l]) rfl) (flatK_one [⟨1, hd, false, l⟩]) (by simp [maxLen]; omega) (by omega) (by have := hb.size; simp; omega) ?_; intro v1 w1 own1 grow1; have HO1 : Hid (w1.ownsRow w.heap.size 34 4 v1 (k + 1) (flatK (holL last bs (k + 1)))) := (by unfold Hid; rw [holL_one last HBK.out]; exact own1); have HB1 : Hid (Below w.heap.size w w1) := Below.grown (ba' (ba' hb hb.size) (by have := hb.size; simp; omega)) grow1 (by have := hb.size; simp; omega) (fun q hq => ((own_below HO.out HW.out).lt q hq).1); clear own1 grow1)
            go_roundw
            case rel => exact ⟨k + 1, by omega, by go_num, by rw [holN, HP.out, HNN.out]; simp, HO1, HB1.out⟩
            case measure => simp [intOf]; omega
      · have d1 : (s == 1) = false := by simpa using hs
        have hn9 : N ≤ k := HN.out
        have HBK : Hid (holBk last k (bs.getD k Bk.zero) = ⟨s, hd, r, l⟩) := by unfold Hid; rw [HX.out]; simp [holBk, holP, hollowB, *]
        have HP : Hid (holP (bs.getD k Bk.zero) = false) := by unfold Hid; rw [HX.out]; simp [holP, hollowB, *]
        have HW : Hid (Below wr.heap.size wr (wr.alloc (.cells #[.int .i64 s, .int .u64 hd, .bool r, .int .i64 l] 34))) := ba (Below.refl _ _)
        go_wp2_with (at_builtin; refine wpList_append_src rfl (.tmp 40) (.tmp 42) 24 rfl w.heap.size 34 i0 _ 4 32 Try.underlying24 hi hz0 hz1 hz2 rfl (by decide) _ k _ rfl ((own_below HO.out HW.out).alloc _) _ 1 _ _ rfl (rv_block1 (w := wr) (cs := #[.int .i64 s, .int .u64 hd, .bool r, .int .i64 l]) rfl) (flatK_one [⟨s, hd, r, l⟩]) (by simp [maxLen]; omega) (by omega) (by have := hb.size; simp; omega) ?_; intro v1 w1 own1 grow1; have HO1 : Hid (w1.ownsRow w.heap.size 34 4 v1 (k + 1) (flatK (holL last bs (k + 1)))) := (by unfold Hid; rw [holL_one last HBK.out]; exact own1); have HB1 : Hid (Below w.heap.size w w1) := Below.grown (ba' (ba' hb hb.size) (by have := hb.size; simp; omega)) grow1 (by have := hb.size; simp; omega) (fun q hq => ((own_below HO.out HW.out).lt q hq).1); clear own1 grow1)
        go_roundw
        case rel => exact ⟨k + 1, by omega, by go_num, by rw [holN, HP.out, HNN.out]; simp, HO1, HB1.out⟩
        case measure => simp [intOf]; omega
    · obtain rfl : k = len := by omega
      go_wp2
      go_ret2
      exact ⟨_, rfl, HO.out, hb⟩
end Go.Proofs.Ytgijbpkfheillaa
