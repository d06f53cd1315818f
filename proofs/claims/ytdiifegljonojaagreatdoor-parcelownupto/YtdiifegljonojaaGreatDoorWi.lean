/-
  SEAT YtdiifegljonojaaGreatDoor: a piece is laid.
-/
import Derived.Test.YtdiifegljonojaaGreatDoorWh
namespace Go.Proofs.YtdiifegljonojaaGreatDoor
open Go.RowKit
set_option linter.unusedVariables false

/-- What stands behind the head of a piece. -/
def encB (t : Int) (zs : List Int) (tg : ByteArray) : List Int := if t = 1 then encD zs else if t = 3 then numL 1 tg.size ++ numsS tg else []
/-- A piece: of so many names ahead of the last one. -/
def encP (d : Nat) (t m s : Int) (nm : ByteArray) (zs : List Int) (tg : ByteArray) : List Int :=
  numL 1 (d : Int) ++ numL 1 t ++ (numL 2 m ++ numL 8 s) ++ (numL 1 nm.size ++ numsS nm) ++ encB t zs tg

theorem fb6 {w : World} {q : Nat} {a0 a1 a2 a3 a4 a5 : Value} (h : w.heap[q]? = some (.cells #[a0, a1, a2, a3, a4, a5] 38 (0, 0))) : w.cell? ⟨q, 0, none⟩ = some a0 ∧ w.cell? ⟨q, 1, none⟩ = some a1 ∧ w.cell? ⟨q, 2, none⟩ = some a2 ∧ w.cell? ⟨q, 3, none⟩ = some a3 ∧ w.cell? ⟨q, 4, none⟩ = some a4 ∧ w.cell? ⟨q, 5, none⟩ = some a5 := by
  refine ⟨?_, ?_, ?_, ?_, ?_, ?_⟩ <;> simp [World.cell?, h]

set_option maxHeartbeats 4000000 in
set_option maxRecDepth 100000 in
theorem piece_w (B q d : Nat) (laid : List Int) (p : ByteArray) (t m s : Int) (a : Option Addr) (n c : Nat) (zs : List Int) (tg nm : ByteArray) (gn on cn : Nat) (cs : Array Value) (fz : Nat × Nat) (w : World)
    (hW : WrA w B q laid) (hl : laid.length ≤ 39000000000000) (hd : d ≤ 255) (ht0 : 0 ≤ t) (ht : t ≤ 255) (hm0 : 0 ≤ m) (hm : m ≤ 4095) (hs0 : 0 ≤ s) (hs : s < 18446744073709551616)
    (hr : Reads w a n zs) (hn : n ≤ 16777216) (hnc : n ≤ c) (hc : c ≤ 9223372036854775807) (hlow : ∀ x, a = some x → 0 < n → x.block < B) (hnm : nm.size ≤ 255) (htg : tg.size ≤ 255)
    (hbx : w.heap[gn]? = some (.cells cs 9 fz)) (hcs : cs[on + d]? = some (.string nm)) :
    Calls Tryz.prog 21 #[.pointer (some ⟨q, 0, none⟩), .agg #[.string p, .int .i64 t, .int .i64 m, .int .u64 s, .slice a n c, .string tg], .slice (some ⟨gn, on, none⟩) (d + 1) cn] w fun e w' => e = .returned (.tuple #[]) ∧ WrA w' B q (laid ++ encP d t m s nm zs tg) ∧ Kw B w w' := by
  have hBw := hW.size
  have b1 := below_alloc w (.cells #[.string p, .int .i64 t, .int .i64 m, .int .u64 s, .slice a n c, .string tg] 38)
  have hfb : (w.alloc (.cells #[.string p, .int .i64 t, .int .i64 m, .int .u64 s, .slice a n c, .string tg] 38)).heap[w.heap.size]? = some (.cells #[.string p, .int .i64 t, .int .i64 m, .int .u64 s, .slice a n c, .string tg] 38 (0, 0)) := heap_alloc_new w _
  have HF0 := hide hfb
  have HW0 := hide (hW.below b1)
  have HK0 := hide (Kw.of_below hBw b1)
  have HB0 := hide ((b1.block _ (Array.getElem?_eq_some_iff.1 hbx).1).trans hbx)
  have HR := hide hr
  have HLOW := hide hlow
  have hcell : ∀ X : World, X.heap[gn]? = some (.cells cs 9 fz) → X.cell? ⟨gn, on + d, none⟩ = some (.string nm) := fun X h => by simp [World.cell?, h, hcs]
  have HCE := hide hcell
  have hdd : IntKind.i64.wrap (((d + 1 : Nat) : Int) - 1) = (d : Int) := by rw [IntKind.wrap_i64]; omega
  have hdi : (d : Int) < ((d + 1 : Nat) : Int) := by omega
  obtain ⟨d1, hd1⟩ : ∃ d1, d + 1 = d1 := ⟨_, rfl⟩
  rw [hd1] at hdd hdi ⊢
  obtain ⟨_, q1, _, _, q4, q5⟩ := fb6 hfb
  have T1 : Hid True := trivial
  obtain ⟨X1, hX1⟩ : ∃ X1, laid ++ numL 1 (d : Int) = X1 := ⟨_, rfl⟩
  obtain ⟨X2, hX2⟩ : ∃ X2, X1 ++ numL 1 t = X2 := ⟨_, rfl⟩
  obtain ⟨X3, hX3⟩ : ∃ X3, X2 ++ numL 2 m ++ numL 8 s = X3 := ⟨_, rfl⟩
  obtain ⟨X4, hX4⟩ : ∃ X4, X3 ++ numL 1 nm.size ++ numsS nm = X4 := ⟨_, rfl⟩
  have l1 : X1.length = laid.length + 1 := by rw [← hX1, List.length_append, numL_length]
  have l2 : X2.length = laid.length + 2 := by rw [← hX2, List.length_append, numL_length, l1]
  have l3 : X3.length = laid.length + 12 := by rw [← hX3, List.length_append, List.length_append, numL_length, numL_length, l2]
  have l4 : X4.length = laid.length + 13 + nm.size := by rw [← hX4, List.length_append, List.length_append, numL_length, numsS_len, l3]
  have hxe : laid ++ encP d t m s nm zs tg = X4 ++ encB t zs tg := by rw [← hX4, ← hX3, ← hX2, ← hX1]; unfold encP; simp only [List.append_assoc]
  rw [hxe]
  have HX1 := hide hX1
  have HX2 := hide hX2
  have HX3 := hide hX3
  have HX4 := hide hX4
  have HL1 : Hid (X1.length ≤ 39900000000000) := by unfold Hid; omega
  have HL2 : Hid (X2.length ≤ 39900000000000) := by unfold Hid; omega
  have HL3 : Hid (X3.length ≤ 39900000000000) := by unfold Hid; omega
  have HL4 : Hid (X4.length ≤ 39900000000000) := by unfold Hid; omega
  clear hW b1 hfb hbx hr hlow hcell hd1 hX1 hX2 hX3 hX4 l1 l2 l3 l4 hxe hcs
  go_enter Tryz.func21, Tryz.ntmps21
  go_upto_region 6 with (first
    | (go_at_call 33; have zz := T1; clear T1 zz; refine (whole_w B q laid 1 (d : Int) _ HW0.out (by omega) (by omega) (by omega) (by omega) (by show (d : Int) < 256; omega)).mono ?_; rintro e w1 ⟨rfl, a1, k1⟩
       rw [HX1.out] at a1
       have HF1 := hide (k1.blk HF0.out (by decide) (by decide))
       have HB1 := hide (k1.blk HB0.out (by decide) (by decide))
       have HW1 := hide a1
       have HK1 := hide (HK0.out.trans k1)
       clear q1 q4 q5
       obtain ⟨_, q1, _, _, q4, q5⟩ := fb6 HF1.out
       clear a1 k1; have T2 : Hid True := trivial)
    | (go_at_call 33; have zz := T2; clear T2 zz; refine (whole_w B q X1 1 t _ HW1.out (by have := HL1.out; omega) (by omega) (by omega) (by omega) (by show t < 256; omega)).mono ?_; rintro e w2 ⟨rfl, a1, k1⟩
       rw [HX2.out] at a1
       have HF2 := hide (k1.blk HF1.out (by decide) (by decide))
       have HB2 := hide (k1.blk HB1.out (by decide) (by decide))
       have HW2 := hide a1
       have HK2 := hide (HK1.out.trans k1)
       clear a1 k1 q1 q4 q5
       obtain ⟨r0, q1, r2, r3, q4, q5⟩ := fb6 HF2.out
       have T3 : Hid True := trivial)
    | (go_at_call 18; refine (mode_w B q X2 p t m s _ tg a n c rfl _ HW2.out (by have := HL2.out; omega) hm0 hm hs0 hs).mono ?_; rintro e w3 ⟨rfl, a1, k1⟩
       rw [HX3.out] at a1
       have HF3 := hide (k1.blk HF2.out (by decide) (by decide))
       have HB3 := hide (k1.blk HB2.out (by decide) (by decide))
       have HW3 := hide a1
       have HK3 := hide (HK2.out.trans k1)
       have hce := HCE.out _ HB3.out
       clear a1 k1 q1 q4 q5 r0 r2 r3
       obtain ⟨_, q1, _, _, q4, q5⟩ := fb6 HF3.out)
    | (go_at_call 40; refine (text_w B q X3 nm _ HW3.out (by have := HL3.out; omega) hnm).mono ?_; rintro e w4 ⟨rfl, a1, k1⟩
       rw [HX4.out] at a1
       have HF4 := hide (k1.blk HF3.out (by decide) (by decide))
       have HW4 := hide a1
       have HK4 := hide (HK3.out.trans k1)
       clear a1 k1 q1 q4 q5 hce
       obtain ⟨_, q1, _, _, q4, q5⟩ := fb6 HF4.out))
  by_cases h1 : t = 1
  · have HBE : Hid (encB t zs tg = encD zs) := by unfold Hid encB; rw [if_pos h1]
    subst h1
    go_wp2_with (first
      | (go_at_call 41; refine (data_w B q n c a X4 zs _ HW4.out (by have := HL4.out; omega) (HR.out.lowP HLOW.out HK4.out.bel) hn hnc hc HLOW.out).mono ?_; rintro e w5 ⟨rfl, a1, k1⟩
         have HW5 := hide a1
         have HK5 := hide (HK4.out.trans k1)
         clear a1 k1))
    go_end0
    refine ⟨rfl, ?_, HK5.out⟩
    rw [HBE.out]; exact HW5.out
  · by_cases h3 : t = 3
    · have HBE : Hid (encB t zs tg = numL 1 tg.size ++ numsS tg) := by unfold Hid encB; rw [if_neg h1, if_pos h3]
      subst h3
      go_wp2_with (first
        | (go_at_call 40; refine (text_w B q X4 tg _ HW4.out (by have := HL4.out; omega) htg).mono ?_; rintro e w5 ⟨rfl, a1, k1⟩
           have HW5 := hide a1
           have HK5 := hide (HK4.out.trans k1)
           clear a1 k1))
      go_end0
      refine ⟨rfl, ?_, HK5.out⟩
      rw [HBE.out, ← List.append_assoc]; exact HW5.out
    · have HBE : Hid (encB t zs tg = []) := by unfold Hid encB; rw [if_neg h1, if_neg h3]
      have e1 : (t == 1) = false := by simp [h1]
      have e3 : (t == 3) = false := by simp [h3]
      go_wp2_with fail
      go_end0
      refine ⟨rfl, ?_, HK4.out⟩
      rw [HBE.out, List.append_nil]; exact HW4.out
end Go.Proofs.YtdiifegljonojaaGreatDoor
