/-
  SEAT YtdiifegljonojaaGreatDoor: the writer: a whole number, a text, mode and stamp.
-/
import Derived.Test.YtdiifegljonojaaGreatDoorWa
import Derived.Test.YtdiifegljonojaaGreatDoorRo
namespace Go.Proofs.YtdiifegljonojaaGreatDoor
open Go.RowKit
set_option linter.unusedVariables false

/-- A text's bytes. -/
def numsS (s : ByteArray) : List Int := s.data.toList.map (fun b => (b.toNat : Int))
theorem numsS_len (s : ByteArray) : (numsS s).length = s.size := by rw [numsS, List.length_map]; rfl
theorem numsS_byt (s : ByteArray) : Byt (numsS s) := by
  intro x hx
  obtain ⟨b, _, rfl⟩ := List.mem_map.1 hx
  have := b.toNat_lt
  omega
theorem numsS_cells (s : ByteArray) : (numsS s).map (Value.int .u8) = Lib.strCells s := by
  rw [numsS, Lib.strCells, List.map_map]; rfl
theorem strOf_nums (s : ByteArray) : strOfNums (numsS s) = s := by
  apply ByteArray.ext
  apply Array.ext'
  rw [strOfNums_data, numsS, List.map_map]
  conv => rhs; rw [← List.map_id s.data.toList]
  apply List.map_congr_left
  intro b _
  simp
theorem numL_byt' (n : Nat) (v : Int) : Byt (numL n v) := numL_byt n v

set_option maxHeartbeats 1000000 in
theorem whole_w (B q : Nat) (laid : List Int) (size : Nat) (v : Int) (w : World) (hW : WrA w B q laid) (hl : laid.length ≤ 100000000000000) (h1 : 1 ≤ size) (h2 : size ≤ 7) (hv0 : 0 ≤ v) (hv : v < 256 ^ size) :
    Calls Tryz.prog 33 #[.pointer (some ⟨q, 0, none⟩), .int .i64 (size : Int), .int .i64 v] w fun e w' => e = .returned (.tuple #[]) ∧ WrA w' B q (laid ++ numL size v) ∧ Kw B w w' := by
  have hp : (256 : Int) ^ size ≤ 256 ^ 7 := pow256_le h2
  have h7 : (256 : Int) ^ 7 = 72057594037927936 := by decide
  have hcv : IntKind.u64.wrap v = v := by rw [IntKind.wrap_u64]; omega
  have HN := hide (number_any B q laid size v w hW hl h1 (by omega) hv0 hv)
  clear hW hp h7
  go_enter Tryz.func33, Tryz.ntmps33
  go_wp2_with (first | (go_at_call 17; refine HN.out.mono ?_; rintro e w1 ⟨rfl, a1, k1⟩; have H1 := hide a1; have H2 := hide k1; clear a1 k1))
  go_end0
  exact ⟨rfl, H1.out, H2.out⟩

set_option maxHeartbeats 2000000 in
set_option maxRecDepth 100000 in
theorem text_w (B q : Nat) (laid : List Int) (s : ByteArray) (w : World) (hW : WrA w B q laid) (hl : laid.length ≤ 100000000000000) (hs : s.size ≤ 255) :
    Calls Tryz.prog 40 #[.pointer (some ⟨q, 0, none⟩), .int .i64 1, .string s] w fun e w' => e = .returned (.tuple #[]) ∧ WrA w' B q (laid ++ numL 1 s.size ++ numsS s) ∧ Kw B w w' := by
  obtain ⟨i0, hi, hz0, hz1, hz2⟩ := info_parts info5
  have HI : Hid (Tryz.prog.info? 5 = some i0 ∧ i0.zero = some (.int .u8 0) ∧ i0.size = 1 ∧ i0.bytes = 1) := ⟨hi, hz0, hz1, hz2⟩
  have HN := hide (whole_w B q laid 1 (s.size : Int) w hW hl (by omega) (by omega) (by omega) (by show (s.size : Int) < 256; omega))
  have hll : (laid ++ numL 1 (s.size : Int)).length = laid.length + 1 := by rw [List.length_append, numL_length]
  obtain ⟨L1, hL1⟩ : ∃ L1, laid ++ numL 1 (s.size : Int) = L1 := ⟨_, rfl⟩
  rw [hL1] at HN hll ⊢
  obtain ⟨m1, hm1⟩ : ∃ m1, L1.length = m1 := ⟨_, rfl⟩
  have hmb : m1 ≤ 100000000000001 := by omega
  have hmp : 1 ≤ m1 := by omega
  have HM1 := hide hm1
  clear hW hi hz0 hz1 hz2 hL1 hll hm1
  go_enter Tryz.func40, Tryz.ntmps40
  go_wp2_with (first
    | (go_at_call 33; refine HN.out.mono ?_; rintro e w1 ⟨rfl, a1, k1⟩
       have hBw := a1.size
       obtain ⟨g, cap, hq, hown, hBq, hby⟩ := a1
       rw [HM1.out] at hq hown
       obtain ⟨c0, f0⟩ := blk1_cells hq
       have HQ := hide hq
       have HO := hide hown
       have HK := hide k1
       have HBY := hide hby
       clear hq hown k1 hby)
    | (at_builtin; go_loud (refine Lib.wpList_append_own_string w1 rfl (.tmp 15) (.tmp 16) 25 9 rfl B 5 i0 Tryz.underlying25 Tryz.underlying9 HI.out.1 HI.out.2.1 HI.out.2.2.1 HI.out.2.2.2 (.slice (some ⟨g, 0, none⟩) m1 cap) m1 (L1.map (Value.int .u8)) rfl HO.out s rfl (by simp only [maxLen]; omega) (by omega) hBw ?_); intro v2 w2 own2 grow2 _
       have grow2 : w1.grownBy w2 (some g) := grow2
       have hqg := Own.ne HO.out HQ.out (by decide)
       have hq2 : w2.heap[q]? = some (.cells #[.slice (some ⟨g, 0, none⟩) m1 cap] 47 (0, 0)) := (grow2.block q (Array.getElem?_eq_some_iff.1 HQ.out).1 (fun e => hqg (by cases e; rfl))).trans HQ.out
       rw [← numsS_cells, ← List.map_append] at own2
       obtain ⟨g2, cap2, rfl, _⟩ := own_shape own2 (by omega)
       have HG := hide grow2
       have HQ2 := hide hq2
       have HO2 : Hid (Own w2 B g2 (m1 + s.size) cap2 (L1 ++ numsS s)) := own2
       have HQ3 := hide (blk1_0 hq2 (.slice (some ⟨g2, 0, none⟩) (m1 + s.size) cap2))
       have HO3 := hide (Own.apart HO2.out (grownBy_setCell' w2 q (.slice (some ⟨g2, 0, none⟩) (m1 + s.size) cap2)) (Own.ne HO2.out hq2 (by decide)).symm)
       clear c0 f0
       obtain ⟨c0, f0⟩ := blk1_cells hq2
       clear grow2 hq2 own2 hqg))
  go_end0
  have hlen : (L1 ++ numsS s).length = m1 + s.size := by rw [List.length_append, numsS_len, HM1.out]
  refine ⟨rfl, ⟨g2, cap2, ?_, ?_, hBq, ?_⟩, ?_⟩
  · rw [hlen]; exact HQ3.out
  · rw [hlen]; exact HO3.out
  · intro x hx
    rcases List.mem_append.1 hx with h | h
    · exact HBY.out x h
    · exact numsS_byt s x h
  · exact (HK.out.trans (Kw.of_own HO.out hBw HG.out)).trans (Kw.of_box HQ2.out hBq (Nat.le_trans hBw HG.out.size) (grownBy_setCell' w2 q _))

set_option maxHeartbeats 2000000 in
set_option maxRecDepth 100000 in
theorem mode_w (B q : Nat) (laid : List Int) (p : ByteArray) (t m s : Int) (d : Value) (tg : ByteArray) (a : Option Addr) (n c : Nat) (hd : d = .slice a n c) (w : World) (hW : WrA w B q laid) (hl : laid.length ≤ 90000000000000) (hm0 : 0 ≤ m) (hm : m ≤ 4095) (hs0 : 0 ≤ s) (hs : s < 18446744073709551616) :
    Calls Tryz.prog 18 #[.pointer (some ⟨q, 0, none⟩), .agg #[.string p, .int .i64 t, .int .i64 m, .int .u64 s, d, .string tg]] w fun e w' => e = .returned (.tuple #[]) ∧ WrA w' B q (laid ++ numL 2 m ++ numL 8 s) ∧ Kw B w w' := by
  subst hd
  have b1 := below_alloc w (.cells #[.string p, .int .i64 t, .int .i64 m, .int .u64 s, .slice a n c, .string tg] 38)
  have hbx : (w.alloc (.cells #[.string p, .int .i64 t, .int .i64 m, .int .u64 s, .slice a n c, .string tg] 38)).heap[w.heap.size]? = some (.cells #[.string p, .int .i64 t, .int .i64 m, .int .u64 s, .slice a n c, .string tg] 38 (0, 0)) := heap_alloc_new w _
  have HK0 := hide (Kw.of_below hW.size b1)
  have HW0 := hide (hW.below b1)
  have HBX := hide hbx
  have hll : (laid ++ numL 2 m).length = laid.length + 2 := by rw [List.length_append, numL_length]
  have h8 : (256 : Int) ^ 8 = 18446744073709551616 := by decide
  have HLL : Hid ((laid ++ numL 2 m).length ≤ 100000000000000) := by unfold Hid; omega
  have HS8 : Hid (s < 256 ^ 8) := by unfold Hid; omega
  clear hW b1 hbx hll h8
  go_enter Tryz.func18, Tryz.ntmps18
  go_wp2_with (first
    | (go_at_call 33; refine (whole_w B q laid 2 m _ HW0.out (by omega) (by omega) (by omega) hm0 (by show m < 65536; omega)).mono ?_; rintro e w1 ⟨rfl, a1, k1⟩
       have hb1 := k1.oth _ _ HBX.out (fun cs f e => by cases e) (fun cs f e => by cases e)
       have c3 : w1.cell? ⟨w.heap.size, 3, none⟩ = some (.int .u64 s) := (by simp [World.cell?, hb1])
       have H1 := hide a1
       have HK1 := hide k1
       clear a1 k1 hb1)
    | (go_at_call 17; refine (number_any B q (laid ++ numL 2 m) 8 s _ H1.out HLL.out (by omega) (by omega) hs0 HS8.out).mono ?_; rintro e w2 ⟨rfl, a2, k2⟩
       have H2 := hide a2
       have HK2 := hide k2
       clear a2 k2))
  go_end0
  exact ⟨rfl, H2.out, (HK0.out.trans HK1.out).trans HK2.out⟩

set_option maxRecDepth 100000 in
theorem kind_hole (x y : Int) (w : World) : Calls Tryz.prog 68 #[.agg #[.int .i64 x, .int .i64 y, .slice none 0 0]] w fun e w' => e = .returned (.int .i64 0) ∧ Below w.heap.size w w' := by
  have HB := hide (below_alloc w (.cells #[.int .i64 x, .int .i64 y, .slice none 0 0] 94))
  have hnl := fun u : World => _root_.Go.run_eql_slice_nil (P := Tryz.prog) u 25 5 none 0 0 Tryz.underlying25
  go_enter Tryz.func68, Tryz.ntmps68
  go_wp2
  go_ret
  exact ⟨rfl, HB.out⟩
set_option maxRecDepth 100000 in
theorem kind_fill (x y : Int) (ad : Addr) (n c : Nat) (w : World) : Calls Tryz.prog 68 #[.agg #[.int .i64 x, .int .i64 y, .slice (some ad) n c]] w fun e w' => e = .returned (.int .i64 1) ∧ Below w.heap.size w w' := by
  have HB := hide (below_alloc w (.cells #[.int .i64 x, .int .i64 y, .slice (some ad) n c] 94))
  have hnl := fun u : World => _root_.Go.run_eql_slice_nil (P := Tryz.prog) u 25 5 (some ad) n c Tryz.underlying25
  go_enter Tryz.func68, Tryz.ntmps68
  go_wp2
  go_ret
  exact ⟨rfl, HB.out⟩
end Go.Proofs.YtdiifegljonojaaGreatDoor
