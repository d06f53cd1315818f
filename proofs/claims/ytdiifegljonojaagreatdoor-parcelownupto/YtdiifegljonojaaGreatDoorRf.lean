/-
  SEAT YtdiifegljonojaaGreatDoor: mode and stamp; a piece's box.
-/
import Derived.Test.YtdiifegljonojaaGreatDoorRe
namespace Go.Proofs.YtdiifegljonojaaGreatDoor
open Go.RowKit
set_option linter.unusedVariables false

/-- Only two blocks have changed. -/
structure Two (w w' : World) (q p : Nat) : Prop where
  os : w'.os = w.os
  tape : w'.tape = w.tape
  output : w'.output = w.output
  size : w.heap.size ≤ w'.heap.size
  block : ∀ i, i < w.heap.size → i ≠ q → i ≠ p → w'.heap[i]? = w.heap[i]?
theorem Two.of {w w' : World} {q : Nat} (p : Nat) (h : w.grownBy w' (some q)) : Two w w' q p := ⟨h.os, h.tape, h.output, h.size, fun i hi h1 _ => h.block i hi (fun e => h1 (Option.some.inj e))⟩
theorem Two.of' {w w' : World} {p : Nat} (q : Nat) (h : w.grownBy w' (some p)) : Two w w' q p := ⟨h.os, h.tape, h.output, h.size, fun i hi _ h1 => h.block i hi (fun e => h1 (Option.some.inj e))⟩
theorem Two.trans {a b c : World} {q p : Nat} (h : Two a b q p) (k : Two b c q p) : Two a c q p := ⟨k.os.trans h.os, k.tape.trans h.tape, k.output.trans h.output, Nat.le_trans h.size k.size, fun i hi h1 h2 => (k.block i (Nat.lt_of_lt_of_le hi h.size) h1 h2).trans (h.block i hi h1 h2)⟩
/-- A box that was made since plays no part. -/
theorem Two.past {w u u' : World} {q p : Nat} (h : w.grownBy u (some q)) (k : Two u u' q p) (hp : w.heap.size ≤ p) : w.grownBy u' (some q) :=
  ⟨k.os.trans h.os, k.tape.trans h.tape, k.output.trans h.output, Nat.le_trans h.size k.size, fun i hi hne => (k.block i (Nat.lt_of_lt_of_le hi h.size) (fun e => hne (by rw [e])) (by omega)).trans (h.block i hi hne)⟩

/-- A piece's box. -/
abbrev PB (w : World) (p : Nat) (v0 v1 v2 v3 v4 v5 v6 v7 v8 v9 : Value) : Prop := w.heap[p]? = some (.cells #[v0, v1, v2, v3, v4, v5, v6, v7, v8, v9] 63 (0, 0))

section
variable {w : World} {p : Nat} {v0 v1 v2 v3 v4 v5 v6 v7 v8 v9 : Value}
theorem pb_cell0 (h : PB w p v0 v1 v2 v3 v4 v5 v6 v7 v8 v9) : w.cell? ⟨p, 0, none⟩ = some v0 := by simp [World.cell?, h]
theorem pb_frozen0 (h : PB w p v0 v1 v2 v3 v4 v5 v6 v7 v8 v9) : w.frozen? ⟨p, 0, none⟩ = false := by simp [World.frozen?, h]
theorem pb_cell1 (h : PB w p v0 v1 v2 v3 v4 v5 v6 v7 v8 v9) : w.cell? ⟨p, 1, none⟩ = some v1 := by simp [World.cell?, h]
theorem pb_frozen1 (h : PB w p v0 v1 v2 v3 v4 v5 v6 v7 v8 v9) : w.frozen? ⟨p, 1, none⟩ = false := by simp [World.frozen?, h]
theorem pb_cell2 (h : PB w p v0 v1 v2 v3 v4 v5 v6 v7 v8 v9) : w.cell? ⟨p, 2, none⟩ = some v2 := by simp [World.cell?, h]
theorem pb_frozen2 (h : PB w p v0 v1 v2 v3 v4 v5 v6 v7 v8 v9) : w.frozen? ⟨p, 2, none⟩ = false := by simp [World.frozen?, h]
theorem pb_cell3 (h : PB w p v0 v1 v2 v3 v4 v5 v6 v7 v8 v9) : w.cell? ⟨p, 3, none⟩ = some v3 := by simp [World.cell?, h]
theorem pb_frozen3 (h : PB w p v0 v1 v2 v3 v4 v5 v6 v7 v8 v9) : w.frozen? ⟨p, 3, none⟩ = false := by simp [World.frozen?, h]
theorem pb_cell4 (h : PB w p v0 v1 v2 v3 v4 v5 v6 v7 v8 v9) : w.cell? ⟨p, 4, none⟩ = some v4 := by simp [World.cell?, h]
theorem pb_frozen4 (h : PB w p v0 v1 v2 v3 v4 v5 v6 v7 v8 v9) : w.frozen? ⟨p, 4, none⟩ = false := by simp [World.frozen?, h]
theorem pb_cell5 (h : PB w p v0 v1 v2 v3 v4 v5 v6 v7 v8 v9) : w.cell? ⟨p, 5, none⟩ = some v5 := by simp [World.cell?, h]
theorem pb_frozen5 (h : PB w p v0 v1 v2 v3 v4 v5 v6 v7 v8 v9) : w.frozen? ⟨p, 5, none⟩ = false := by simp [World.frozen?, h]
theorem pb_cell6 (h : PB w p v0 v1 v2 v3 v4 v5 v6 v7 v8 v9) : w.cell? ⟨p, 6, none⟩ = some v6 := by simp [World.cell?, h]
theorem pb_frozen6 (h : PB w p v0 v1 v2 v3 v4 v5 v6 v7 v8 v9) : w.frozen? ⟨p, 6, none⟩ = false := by simp [World.frozen?, h]
theorem pb_cell7 (h : PB w p v0 v1 v2 v3 v4 v5 v6 v7 v8 v9) : w.cell? ⟨p, 7, none⟩ = some v7 := by simp [World.cell?, h]
theorem pb_frozen7 (h : PB w p v0 v1 v2 v3 v4 v5 v6 v7 v8 v9) : w.frozen? ⟨p, 7, none⟩ = false := by simp [World.frozen?, h]
theorem pb_cell8 (h : PB w p v0 v1 v2 v3 v4 v5 v6 v7 v8 v9) : w.cell? ⟨p, 8, none⟩ = some v8 := by simp [World.cell?, h]
theorem pb_frozen8 (h : PB w p v0 v1 v2 v3 v4 v5 v6 v7 v8 v9) : w.frozen? ⟨p, 8, none⟩ = false := by simp [World.frozen?, h]
theorem pb_cell9 (h : PB w p v0 v1 v2 v3 v4 v5 v6 v7 v8 v9) : w.cell? ⟨p, 9, none⟩ = some v9 := by simp [World.cell?, h]
theorem pb_frozen9 (h : PB w p v0 v1 v2 v3 v4 v5 v6 v7 v8 v9) : w.frozen? ⟨p, 9, none⟩ = false := by simp [World.frozen?, h]
theorem pb_set0 (h : PB w p v0 v1 v2 v3 v4 v5 v6 v7 v8 v9) (x : Value) : PB (w.setCell ⟨p, 0, none⟩ x) p x v1 v2 v3 v4 v5 v6 v7 v8 v9 := blk_set h x
theorem pb_set1 (h : PB w p v0 v1 v2 v3 v4 v5 v6 v7 v8 v9) (x : Value) : PB (w.setCell ⟨p, 1, none⟩ x) p v0 x v2 v3 v4 v5 v6 v7 v8 v9 := blk_set h x
theorem pb_set2 (h : PB w p v0 v1 v2 v3 v4 v5 v6 v7 v8 v9) (x : Value) : PB (w.setCell ⟨p, 2, none⟩ x) p v0 v1 x v3 v4 v5 v6 v7 v8 v9 := blk_set h x
theorem pb_set3 (h : PB w p v0 v1 v2 v3 v4 v5 v6 v7 v8 v9) (x : Value) : PB (w.setCell ⟨p, 3, none⟩ x) p v0 v1 v2 x v4 v5 v6 v7 v8 v9 := blk_set h x
theorem pb_set4 (h : PB w p v0 v1 v2 v3 v4 v5 v6 v7 v8 v9) (x : Value) : PB (w.setCell ⟨p, 4, none⟩ x) p v0 v1 v2 v3 x v5 v6 v7 v8 v9 := blk_set h x
theorem pb_set5 (h : PB w p v0 v1 v2 v3 v4 v5 v6 v7 v8 v9) (x : Value) : PB (w.setCell ⟨p, 5, none⟩ x) p v0 v1 v2 v3 v4 x v6 v7 v8 v9 := blk_set h x
theorem pb_set6 (h : PB w p v0 v1 v2 v3 v4 v5 v6 v7 v8 v9) (x : Value) : PB (w.setCell ⟨p, 6, none⟩ x) p v0 v1 v2 v3 v4 v5 x v7 v8 v9 := blk_set h x
theorem pb_set7 (h : PB w p v0 v1 v2 v3 v4 v5 v6 v7 v8 v9) (x : Value) : PB (w.setCell ⟨p, 7, none⟩ x) p v0 v1 v2 v3 v4 v5 v6 x v8 v9 := blk_set h x
theorem pb_set8 (h : PB w p v0 v1 v2 v3 v4 v5 v6 v7 v8 v9) (x : Value) : PB (w.setCell ⟨p, 8, none⟩ x) p v0 v1 v2 v3 v4 v5 v6 v7 x v9 := blk_set h x
theorem pb_set9 (h : PB w p v0 v1 v2 v3 v4 v5 v6 v7 v8 v9) (x : Value) : PB (w.setCell ⟨p, 9, none⟩ x) p v0 v1 v2 v3 v4 v5 v6 v7 v8 x := blk_set h x
end

theorem PB.other {w w' : World} {p : Nat} {v0 v1 v2 v3 v4 v5 v6 v7 v8 v9 : Value} {r : Option Nat} (h : PB w p v0 v1 v2 v3 v4 v5 v6 v7 v8 v9) (hg : w.grownBy w' r) (hr : r ≠ some p) : PB w' p v0 v1 v2 v3 v4 v5 v6 v7 v8 v9 := (hg.block p (Array.getElem?_eq_some_iff.1 h).1 (fun e => hr e.symm)).trans h

theorem numR_ok {n : Nat} {v : Int} {bs r : List Int} (h : numR n bs = .ok (v, r)) : n ≤ bs.length ∧ v = getL bs 0 n ∧ r = bs.drop n := by
  unfold numR at h
  split at h
  · rename_i h1; cases h; exact ⟨h1, rfl, rfl⟩
  · cases h

set_option maxHeartbeats 1000000 in
set_option maxRecDepth 100000 in
theorem mode_any (B q p : Nat) (v0 v1 v2 v3 v4 v5 v6 v7 v8 v9 : Value) (rest : List Int) (w : World) (hR : RdAt w B q rest) (hl : rest.length ≤ 200000000000000) (hb : PB w p v0 v1 v2 v3 v4 v5 v6 v7 v8 v9) (hpq : p ≠ q) (hBp : B ≤ p) :
    Calls Tryz.prog 71 #[.pointer (some ⟨q, 0, none⟩), .pointer (some ⟨p, 2, none⟩)] w fun e w' => match modeR rest with
      | .error x => e = Pnc x ∧ Two w w' q p
      | .ok (ms, r) => e = .returned (.tuple #[]) ∧ RdAt w' B q r ∧ PB w' p v0 v1 v2 v3 (.int .i64 ms.1) (.int .u64 ms.2) v6 v7 v8 v9 ∧ Two w w' q p := by
  have HR := hide hR
  have HB := hide hb
  clear hR hb
  cases hw : wholeR 2 0 4095 rest with
  | error x =>
    have HW := hide hw
    have HP : Hid (modeR rest = .error x) := by unfold Hid modeR; rw [hw]
    rw [HP.out]
    clear hw
    go_enter Tryz.func71, Tryz.ntmps71
    go_wp2_with (first
      | (go_at_call 88; refine (whole_any B q 2 0 4095 rest _ HR.out hl (by omega) (by omega)).mono ?_; intro e u1 lf; rw [HW.out] at lf; obtain ⟨rfl, g1⟩ := lf; have HG1 := hide g1; clear g1))
    exact ⟨rfl, rfl, Two.of p HG1.out⟩
  | ok pr =>
    obtain ⟨m, r1⟩ := pr
    have HW := hide hw
    have hr1 := wholeR_len hw hl
    clear hw
    by_cases hn : 8 ≤ r1.length
    · have HP : Hid (modeR rest = .ok ((m, getL r1 0 8), r1.drop 8)) := by unfold Hid modeR; rw [HW.out]; simp only [numR, if_pos hn]
      rw [HP.out]
      clear HP
      obtain ⟨V, hV⟩ : ∃ V, getL r1 0 8 = V := ⟨_, rfl⟩
      have HV := hide hV
      rw [hV]
      clear hV
      go_enter Tryz.func71, Tryz.ntmps71
      go_wp2_with (first
        | (go_at_call 88; refine (whole_any B q 2 0 4095 rest _ HR.out hl (by omega) (by omega)).mono ?_; intro e u1 lf; rw [HW.out] at lf; obtain ⟨val, rfl, rfl, rd1, g1⟩ := lf
           have hb1 := HB.out.other g1 (fun e => hpq (Option.some.inj e).symm)
           have c4 := pb_cell4 hb1
           have f4 := pb_frozen4 hb1
           have HB1 := hide (pb_set4 hb1 (.int .i64 m))
           have HR1 := hide (rd1.set (i := p) (j := 4) hpq hBp (.int .i64 m))
           have HT1 := hide ((Two.of p g1).trans (Two.of' q (set_grown u1 p 4 (.int .i64 m))))
           clear hb1 g1 rd1)
        | (go_at_call 72; refine (num_ok B q 8 r1 _ HR1.out hr1 hn (by omega) (by omega)).mono ?_; rintro e u2 ⟨rfl, rd2, g2⟩; rw [HV.out]
           have hb2 := HB1.out.other g2 (fun e => hpq (Option.some.inj e).symm)
           have c5 := pb_cell5 hb2
           have f5 := pb_frozen5 hb2
           have HB2 := hide (pb_set5 hb2 (.int .u64 V))
           have HR2 := hide (rd2.set (i := p) (j := 5) hpq hBp (.int .u64 V))
           have HT2 := hide ((HT1.out.trans (Two.of p g2)).trans (Two.of' q (set_grown u2 p 5 (.int .u64 V))))
           clear hb2 g2 rd2 c4 f4))
      go_end0
      exact ⟨rfl, HR2.out, HB2.out, HT2.out⟩
    · have HP : Hid (modeR rest = .error 190) := by unfold Hid modeR; rw [HW.out]; simp only [numR, if_neg hn]
      rw [HP.out]
      go_enter Tryz.func71, Tryz.ntmps71
      go_wp2_with (first
        | (go_at_call 88; refine (whole_any B q 2 0 4095 rest _ HR.out hl (by omega) (by omega)).mono ?_; intro e u1 lf; rw [HW.out] at lf; obtain ⟨val, rfl, rfl, rd1, g1⟩ := lf
           have hb1 := HB.out.other g1 (fun e => hpq (Option.some.inj e).symm)
           have c4 := pb_cell4 hb1
           have f4 := pb_frozen4 hb1
           have HR1 := hide (rd1.set (i := p) (j := 4) hpq hBp (.int .i64 m))
           have HT1 := hide ((Two.of p g1).trans (Two.of' q (set_grown u1 p 4 (.int .i64 m))))
           clear hb1 g1 rd1)
        | (go_at_call 72; refine (num_short B q 8 r1 _ HR1.out hr1 (by omega) (by omega)).mono ?_; rintro e u2 ⟨rfl, hu2⟩; rw [hu2]))
      exact ⟨rfl, rfl, HT1.out⟩
end Go.Proofs.YtdiifegljonojaaGreatDoor
