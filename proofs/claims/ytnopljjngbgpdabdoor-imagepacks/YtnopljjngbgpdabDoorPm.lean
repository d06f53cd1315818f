/-
  SEAT YtnopljjngbgpdabDoor: the reference's Pack: is a page blank, a number of two bytes, a page's kind.
-/
import Derived.Test.YtnopljjngbgpdabDoorPk
import Derived.Test.YtnopljjngbgpdabDoorNj
import Derived.Laws.OwnMore
import Derived.Test.YtnopljjngbgpdabDoorGa
namespace Go.Proofs.YtnopljjngbgpdabDoor
open Go.RowKit
set_option linter.unusedVariables false

theorem lt_of_bk {w : World} {i : Nat} {o : Obj} (h : w.heap[i]? = some o) : i < w.heap.size := (Array.getElem?_eq_some_iff.1 h).1
theorem blank_take_succ {zs : List Int} {k : Nat} (h : k < zs.length) : blankB (zs.take (k + 1)) = (blankB (zs.take k) && (zs.getD k 0 == 255)) := by
  unfold blankB
  rw [List.take_succ_eq_append_getElem h, List.all_append, List.getD_eq_getElem?_getD, List.getElem?_eq_getElem h]
  simp
theorem blank_not {zs : List Int} {k : Nat} (h : k < zs.length) (hne : zs.getD k 0 ≠ 255) : blankB zs = false := by
  unfold blankB
  rw [List.all_eq_false]
  refine ⟨zs[k], List.getElem_mem h, ?_⟩
  rw [List.getD_eq_getElem?_getD, List.getElem?_eq_getElem h] at hne
  simpa using hne
set_option maxHeartbeats 400000 in
set_option maxRecDepth 100000 in
theorem rblank_any (a : Option Addr) (n c : Nat) (xs : List Int) (w : World) (hn : n ≤ 140737488355000) (h : Reads w a n xs) :
    Calls Tryd.prog 80 #[.slice a n c] w fun e w' => e = .returned (.bool (blankB xs)) ∧ w' = w := by
  have hlx := h.1
  go_enter Tryd.func80, Tryd.ntmps80
  go_wp2
  go_loopw [3] (fun i wr => ∃ k : Nat, k ≤ n ∧ i = .int .i64 k ∧ Hid (blankB (xs.take k) = true) ∧ wr = w)
    (fun i _ => n - (intOf i).toNat)
  case atStart => exact ⟨0, Nat.zero_le _, rfl, by simp [Hid, blankB], rfl⟩
  case round =>
    obtain ⟨k, hk, rfl, HT, rfl⟩ := hrel
    by_cases hlt : k < n
    · obtain ⟨b, off, rfl, hb, hcell⟩ := h.pos (by omega)
      obtain ⟨z, hz⟩ : ∃ z, z = xs.getD k 0 := ⟨_, rfl⟩
      have hcx : wr.cell? ⟨b, off + k, none⟩ = some (.int .u8 z) := by rw [hz]; exact hcell k hlt
      have i1 : (k : Int) < (n : Int) := by omega
      have wk : IntKind.i64.wrap ((k : Int) + 1) = (k : Int) + 1 := by rw [IntKind.wrap_i64]; omega
      by_cases he : z = 255
      · have HT2 : Hid (blankB (xs.take (k + 1)) = true) := by
          unfold Hid
          rw [blank_take_succ (by omega), HT.out, ← hz, he]
          rfl
        subst he
        clear hcell hz h hlx HT
        go_wp2_with fail
        go_roundw
        case rel => exact ⟨k + 1, by omega, by go_num, HT2, by trivial⟩
        case measure => simp [intOf]; omega
      · have h1 : (z == 255) = false := by simpa using he
        have HB : Hid (blankB xs = false) := blank_not (k := k) (by omega) (by rw [← hz]; exact he)
        clear hcell hz h hlx HT he
        go_wp2_with fail
        go_ret
        exact ⟨by rw [HB.out]; rfl, rfl⟩
    · have hkl : k = n := by omega
      have ht := HT.out
      rw [List.take_of_length_le (by omega)] at ht
      have HB : Hid (blankB xs = true) := ht
      have i1 : ¬ (k : Int) < (n : Int) := by omega
      clear ht hkl
      go_wp2_with fail
      go_ret
      exact ⟨by rw [HB.out]; rfl, rfl⟩

set_option maxHeartbeats 400000 in
set_option maxRecDepth 100000 in
theorem two_any (n : Nat) (w : World) (hn : n < 65536) :
    Calls Tryd.prog 66 #[.int .i64 (n : Int)] w fun e w' => ∃ v, e = .returned v ∧ w'.ownsRow w.heap.size 5 1 v 2 ((le2 n).map (Value.int .u8)) ∧ Below w.heap.size w w' := by
  obtain ⟨x, hx⟩ : ∃ x, n % 256 = x := ⟨_, rfl⟩
  obtain ⟨y, hy⟩ : ∃ y, n / 256 = y := ⟨_, rfl⟩
  have t1 : Int.tmod (n : Int) 256 = (x : Int) := by rw [Int.tmod_eq_emod_of_nonneg (by omega)]; omega
  have t2 : Int.tdiv (n : Int) 256 = (y : Int) := by rw [Int.tdiv_eq_ediv_of_nonneg (by omega)]; omega
  have u1 : IntKind.u8.wrap (x : Int) = (x : Int) := by rw [IntKind.wrap_u8]; omega
  have u2 : IntKind.u8.wrap (y : Int) = (y : Int) := by rw [IntKind.wrap_u8]; omega
  have v1 : IntKind.i64.wrap (x : Int) = (x : Int) := by rw [IntKind.wrap_i64]; omega
  have v2 : IntKind.i64.wrap (y : Int) = (y : Int) := by rw [IntKind.wrap_i64]; omega
  have HXY : Hid (n % 256 = x ∧ n / 256 = y) := ⟨hx, hy⟩
  clear hx hy
  go_enter Tryd.func66, Tryd.ntmps66
  go_wp2_with fail
  go_ret
  refine ⟨_, rfl, ?_, below_alloc _ _⟩
  have h9 := World.ownsRow_lit (e := 5) (size := 1) w #[.int .u8 (x : Int), .int .u8 (y : Int)] 2 (Nat.le_refl _) (by simp [maxLen]) rfl
  rw [le2, HXY.out.1, HXY.out.2]
  exact h9

/-- What a page is told by: 0 as blank, 1 whole, 2 as the one ahead of it. -/
def kindL (xs : List Int) (L k : Nat) : Nat := if blankB (pgK xs L k) = true then 0 else if 0 < k ∧ pgK xs L k = pgK xs L (k - 1) then 2 else 1
theorem pg_byt {xs : List Int} {L k : Nat} (h : ∀ x ∈ xs, 0 ≤ x ∧ x ≤ 255) : ∀ x ∈ pgK xs L k, 0 ≤ x ∧ x ≤ 255 := fun x hx => h x (List.mem_of_mem_drop (List.mem_of_mem_take hx))

set_option maxHeartbeats 1000000 in
set_option maxRecDepth 100000 in
theorem kind_any (b p s : Int) (a a' : Option Addr) (n c m c' : Nat) (xs : List Int) (w : World) (k L : Nat) (hn : n ≤ 140737488355000) (h0 : 1 ≤ s) (h1 : s ≤ 8) (hr : Reads w a n xs)
    (hLn : (L : Int) = 256 * s + (54 + 3 * s)) (hK1 : (k + 1) * L ≤ n) (hk : k < 65536) :
    Calls Tryd.prog 67 #[.agg #[.int .i64 b, .int .i64 p, .int .i64 s, .slice a n c, .slice a' m c'], .int .i64 (k : Int)] w fun e w' => e = .returned (.int .i64 ((kindL xs L k : Nat) : Int)) ∧ Below w.heap.size w w' := by
  have hL1 : L ≤ 2200 := by omega
  have HR : Hid (Reads w a n xs) := hr
  have HLn : Hid ((L : Int) = 256 * s + (54 + 3 * s)) := hLn
  have HK1 : Hid ((k + 1) * L ≤ n) := hK1
  have HB0 : Hid (Below w.heap.size w (w.alloc (.cells #[.int .i64 b, .int .i64 p, .int .i64 s, .slice a n c, .slice a' m c'] 27))) := below_alloc w _
  have HM0 : Hid ((w.alloc (.cells #[.int .i64 b, .int .i64 p, .int .i64 s, .slice a n c, .slice a' m c'] 27)).heap[w.heap.size]? = some (.cells #[.int .i64 b, .int .i64 p, .int .i64 s, .slice a n c, .slice a' m c'] 27 (0, 0))) := heap_alloc_new w _
  obtain ⟨x0, x1, x2, x3, x4⟩ := cells5 HM0.out
  have T1 : Hid True := trivial
  clear hr hLn hK1
  by_cases hb : blankB (pgK xs L k) = true
  · have HKD : Hid (kindL xs L k = 0) := by unfold Hid kindL; rw [if_pos hb]
    have HBL : Hid (blankB (pgK xs L k) = true) := hb
    clear hb
    go_enter Tryd.func67, Tryd.ntmps67
    go_wp2_with (first
      | (go_at_call 68; have zz := T1; clear T1 zz
         refine (rpage_any b p s a a' n c m c' xs _ k L (k * L) ((k + 1) * L) (by omega) (by omega) (by omega) (HR.out.below HB0.out) HLn.out rfl rfl HK1.out (by omega)).mono ?_; rintro e u1 ⟨vv, rfl, oo, bl⟩
         obtain ⟨ap, cp, rfl, rp⟩ := own_any oo (pg_byt (L := L) (k := k) HR.out.2.1)
         have HP : Hid (Reads u1 ap L (pgK xs L k)) := rp
         have HB1 : Hid (Below w.heap.size w u1) := below_trans HB0.out bl
         have HM1 : Hid (u1.heap[w.heap.size]? = some (.cells #[.int .i64 b, .int .i64 p, .int .i64 s, .slice a n c, .slice a' m c'] 27 (0, 0))) := (bl.block _ (lt_of_bk HM0.out)).trans HM0.out
         clear oo rp bl x0 x1 x2 x3 x4
         obtain ⟨x0, x1, x2, x3, x4⟩ := cells5 HM1.out)
      | (go_at_call 80; refine (rblank_any ap L cp (pgK xs L k) _ (by omega) HP.out).mono ?_; rintro e u9 ⟨rfl, h9⟩; rw [h9, HBL.out]; clear h9))

    go_ret
    exact ⟨by rw [HKD.out]; rfl, HB1.out⟩
  · have HBL : Hid (blankB (pgK xs L k) = false) := (Bool.not_eq_true _).mp hb
    rcases Nat.eq_zero_or_pos k with hk0 | hk0
    · subst hk0
      have HKD : Hid (kindL xs L 0 = 1) := by unfold Hid kindL; rw [if_neg hb, if_neg (fun h => absurd h.1 (by omega))]
      clear hb
      go_enter Tryd.func67, Tryd.ntmps67
      go_wp2_with (first
        | (go_at_call 68; have zz := T1; clear T1 zz
           refine (rpage_any b p s a a' n c m c' xs _ 0 L (0 * L) ((0 + 1) * L) (by omega) (by omega) (by omega) (HR.out.below HB0.out) HLn.out rfl rfl HK1.out (by omega)).mono ?_; rintro e u1 ⟨vv, rfl, oo, bl⟩
           obtain ⟨ap, cp, rfl, rp⟩ := own_any oo (pg_byt (L := L) (k := 0) HR.out.2.1)
           have HP : Hid (Reads u1 ap L (pgK xs L 0)) := rp
           have HB1 : Hid (Below w.heap.size w u1) := below_trans HB0.out bl
           have HM1 : Hid (u1.heap[w.heap.size]? = some (.cells #[.int .i64 b, .int .i64 p, .int .i64 s, .slice a n c, .slice a' m c'] 27 (0, 0))) := (bl.block _ (lt_of_bk HM0.out)).trans HM0.out
           clear oo rp bl x0 x1 x2 x3 x4
           obtain ⟨x0, x1, x2, x3, x4⟩ := cells5 HM1.out)
        | (go_at_call 80; refine (rblank_any ap L cp (pgK xs L 0) _ (by omega) HP.out).mono ?_; rintro e u9 ⟨rfl, h9⟩; rw [h9, HBL.out]; clear h9))
      go_ret
      exact ⟨by rw [HKD.out]; rfl, HB1.out⟩
    · obtain ⟨j, rfl⟩ : ∃ j, k = j + 1 := ⟨k - 1, by omega⟩
      have HK2 : Hid ((j + 1) * L ≤ n) := Nat.le_trans (Nat.mul_le_mul_right L (by omega)) HK1.out
      have w1 : IntKind.i64.wrap (((j + 1 : Nat) : Int) - 1) = (j : Int) := by rw [IntKind.wrap_i64]; omega
      have w2 : IntKind.i64.wrap (j : Int) = (j : Int) := by rw [IntKind.wrap_i64]; omega
      have p1 : (0 : Int) < ((j + 1 : Nat) : Int) := by omega
      have T2 : Hid True := trivial
      by_cases hs : pgK xs L (j + 1) = pgK xs L j
      · have HKD : Hid (kindL xs L (j + 1) = 2) := by unfold Hid kindL; rw [if_neg hb, if_pos ⟨hk0, hs⟩]
        have HSM : Hid (decide (pgK xs L (j + 1) = pgK xs L j) = true) := decide_eq_true hs
        clear hb hs
        go_enter Tryd.func67, Tryd.ntmps67
        go_wp2_with (first
          | (go_at_call 68; have zz := T1; clear T1 zz
             refine (rpage_any b p s a a' n c m c' xs _ (j + 1) L ((j + 1) * L) ((j + 1 + 1) * L) (by omega) (by omega) (by omega) (HR.out.below HB0.out) HLn.out rfl rfl HK1.out (by omega)).mono ?_; rintro e u1 ⟨vv, rfl, oo, bl⟩
             obtain ⟨ap, cp, rfl, rp⟩ := own_any oo (pg_byt (L := L) (k := j + 1) HR.out.2.1)
             have HP : Hid (Reads u1 ap L (pgK xs L (j + 1))) := rp
             have HB1 : Hid (Below w.heap.size w u1) := below_trans HB0.out bl
             have HM1 : Hid (u1.heap[w.heap.size]? = some (.cells #[.int .i64 b, .int .i64 p, .int .i64 s, .slice a n c, .slice a' m c'] 27 (0, 0))) := (bl.block _ (lt_of_bk HM0.out)).trans HM0.out
             clear oo rp bl x0 x1 x2 x3 x4
             obtain ⟨x0, x1, x2, x3, x4⟩ := cells5 HM1.out)
          | (go_at_call 80; refine (rblank_any ap L cp (pgK xs L (j + 1)) _ (by omega) HP.out).mono ?_; rintro e u9 ⟨rfl, h9⟩; rw [h9, HBL.out]; clear h9)
          | (go_at_call 68; skip
             refine (rpage_any b p s a a' n c m c' xs _ j L (j * L) ((j + 1) * L) (by omega) (by omega) (by omega) (HR.out.below HB1.out) HLn.out rfl rfl HK2.out (by omega)).mono ?_; rintro e u2 ⟨vv, rfl, oo, bl⟩
             obtain ⟨aq, cq, rfl, rp⟩ := own_any oo (pg_byt (L := L) (k := j) HR.out.2.1)
             have HQ : Hid (Reads u2 aq L (pgK xs L j)) := rp
             have HP2 : Hid (Reads u2 ap L (pgK xs L (j + 1))) := HP.out.below bl
             have HB2 : Hid (Below w.heap.size w u2) := below_trans HB1.out bl
             clear oo rp bl x0 x1 x2 x3 x4)
          | (go_at_call 81; refine (rsame_any ap aq L cp cq (pgK xs L (j + 1)) (pgK xs L j) _ (by omega) HP2.out HQ.out).mono ?_; rintro e u3 ⟨rfl, q3, h3⟩; rw [HSM.out]
             have HB3 : Hid (Below w.heap.size w u3) := below_trans HB2.out (by rw [h3]; exact ⟨rfl, rfl, rfl, Nat.le_refl _, fun _ _ => rfl⟩)
             clear h3))
        go_ret
        exact ⟨by rw [HKD.out]; rfl, HB3.out⟩
      · have HKD : Hid (kindL xs L (j + 1) = 1) := by unfold Hid kindL; rw [if_neg hb, if_neg (fun h => hs h.2)]
        have HSM : Hid (decide (pgK xs L (j + 1) = pgK xs L j) = false) := decide_eq_false hs
        clear hb hs
        go_enter Tryd.func67, Tryd.ntmps67
        go_wp2_with (first
          | (go_at_call 68; have zz := T1; clear T1 zz
             refine (rpage_any b p s a a' n c m c' xs _ (j + 1) L ((j + 1) * L) ((j + 1 + 1) * L) (by omega) (by omega) (by omega) (HR.out.below HB0.out) HLn.out rfl rfl HK1.out (by omega)).mono ?_; rintro e u1 ⟨vv, rfl, oo, bl⟩
             obtain ⟨ap, cp, rfl, rp⟩ := own_any oo (pg_byt (L := L) (k := j + 1) HR.out.2.1)
             have HP : Hid (Reads u1 ap L (pgK xs L (j + 1))) := rp
             have HB1 : Hid (Below w.heap.size w u1) := below_trans HB0.out bl
             have HM1 : Hid (u1.heap[w.heap.size]? = some (.cells #[.int .i64 b, .int .i64 p, .int .i64 s, .slice a n c, .slice a' m c'] 27 (0, 0))) := (bl.block _ (lt_of_bk HM0.out)).trans HM0.out
             clear oo rp bl x0 x1 x2 x3 x4
             obtain ⟨x0, x1, x2, x3, x4⟩ := cells5 HM1.out)
          | (go_at_call 80; refine (rblank_any ap L cp (pgK xs L (j + 1)) _ (by omega) HP.out).mono ?_; rintro e u9 ⟨rfl, h9⟩; rw [h9, HBL.out]; clear h9)
          | (go_at_call 68; skip
             refine (rpage_any b p s a a' n c m c' xs _ j L (j * L) ((j + 1) * L) (by omega) (by omega) (by omega) (HR.out.below HB1.out) HLn.out rfl rfl HK2.out (by omega)).mono ?_; rintro e u2 ⟨vv, rfl, oo, bl⟩
             obtain ⟨aq, cq, rfl, rp⟩ := own_any oo (pg_byt (L := L) (k := j) HR.out.2.1)
             have HQ : Hid (Reads u2 aq L (pgK xs L j)) := rp
             have HP2 : Hid (Reads u2 ap L (pgK xs L (j + 1))) := HP.out.below bl
             have HB2 : Hid (Below w.heap.size w u2) := below_trans HB1.out bl
             clear oo rp bl x0 x1 x2 x3 x4)
          | (go_at_call 81; refine (rsame_any ap aq L cp cq (pgK xs L (j + 1)) (pgK xs L j) _ (by omega) HP2.out HQ.out).mono ?_; rintro e u3 ⟨rfl, q3, h3⟩; rw [HSM.out]
             have HB3 : Hid (Below w.heap.size w u3) := below_trans HB2.out (by rw [h3]; exact ⟨rfl, rfl, rfl, Nat.le_refl _, fun _ _ => rfl⟩)
             clear h3))
        go_ret
        exact ⟨by rw [HKD.out]; rfl, HB3.out⟩

end Go.Proofs.YtnopljjngbgpdabDoor
