/-
  SEAT YtnmnhgagnfodhaaDoor: Nb, Nc.
-/
import Derived.Test.YtnmnhgagnfodhaaDoorMz
import Derived.Test.YtnmnhgagnfodhaaDoorMa
import Derived.Deep.RegionHeld3
namespace Go.Proofs.YtnmnhgagnfodhaaDoor
open Go.RowKit
set_option linter.unusedVariables false
theorem fits_pow (v : Int) (size : Nat) (h0 : 0 ≤ v) (h : v < 256 ^ size) : (v / 2 ^ (8 * (size : Int)).toNat == 0) = true := by
 have e : (8 * (size : Int)).toNat = 8 * size := by omega
 rw [e, ← p256]
 simp only [beq_iff_eq]
 exact Int.ediv_eq_zero_of_lt h0 h
set_option maxHeartbeats 1000000 in
set_option maxRecDepth 100000 in
theorem number_any (B q : Nat) (st : St) (size : Nat) (v : Int) (w : World) (hW : WrAt w B q st) (hl : st.laid.length ≤ 1000000000) (h1 : 1 ≤ size) (h2 : size ≤ 4) (hv0 : 0 ≤ v) (hv : v < 256 ^ size) :
  Calls Tryd.prog 32 #[.pointer (some ⟨q, 0, none⟩), .int .i64 (size : Int), .int .i64 v] w fun e w' => e = .returned (.tuple #[]) ∧ WrAt w' B q ⟨st.laid ++ leN size v, st.kind, st.count⟩ ∧ Kw B w w' := by
 have hBw := hW.size
 obtain ⟨g, cap, hq, hown, hBq, hby⟩ := hW
 obtain ⟨laid, kind, count⟩ := st
 simp only at *
 obtain ⟨n, hn⟩ : ∃ n, laid.length = n := ⟨_, rfl⟩
 have hp4 : (256 : Int) ^ size ≤ 256 ^ 4 := pow256_le h2
 have hv4 : v < 4294967296 := by have : (256 : Int) ^ 4 = 4294967296 := by decide
                                 omega
 have hfit := fits_pow v size hv0 hv
 have hcv : IntKind.u64.wrap v = v := by rw [IntKind.wrap_u64]; omega
 rw [hn] at hq hown hl
 obtain ⟨c0, c1, c2, f0, f1, f2⟩ := blk3_cells hq
 have HQ : Hid _ := hq
 have HO : Hid (Own w B g n cap laid) := hown
 have HF : Hid ((v / 2 ^ (8 * (size : Int)).toNat == 0) = true) := hfit
 have HN : Hid (laid.length = n) := hn
 have HV : Hid (v < 256 ^ size) := hv
 clear hq hown hfit hn hv hp4
 go_enter Tryd.func32, Tryd.ntmps32
 go_wp2_with (first
  | (at_builtin; refine wpList_append_zeros rfl (.tmp 16) (.tmp 17) rfl B g n cap laid rfl HO.out size rfl h1 (by omega) hBw ?_; intro g' cap' w1 own1 grow1
     have hqg := Own.ne HO.out HQ.out (by decide)
     have hq1 : w1.heap[q]? = some (.cells #[.slice (some ⟨g, 0, none⟩) n cap, .int .i64 (kind : Int), .int .i64 (count : Int)] 89 (0, 0)) := (grow1.block q (Array.getElem?_eq_some_iff.1 HQ.out).1 (fun e => hqg (by cases e; rfl))).trans HQ.out
     have HG : Hid _ := grow1
     have HQ1 : Hid _ := hq1
     have HO1 : Hid (Own w1 B g' (n + size) cap' (laid ++ List.replicate size 0)) := own1
     have HQ2 : Hid _ := blk3_0 hq1 (.slice (some ⟨g', 0, none⟩) (n + size) cap')
     have HO2 : Hid (Own (w1.setCell ⟨q, 0, none⟩ (.slice (some ⟨g', 0, none⟩) (n + size) cap')) B g' (n + size) cap' (laid ++ List.replicate size 0)) := Own.apart own1 (grownBy_setCell' w1 q (.slice (some ⟨g', 0, none⟩) (n + size) cap')) (Own.ne own1 hq1 (by decide)).symm
     obtain ⟨d0, d1, d2, e0, e1, e2⟩ := blk3_cells hq1
     clear grow1 hq1 own1 hqg c0 c1 c2 f0 f1 f2)
  | (go_at_call 60; refine (put_ok B g' (n + size) cap' (n + size) n size v (laid ++ List.replicate size 0) _ (by omega) h1 (by omega) HF.out (Nat.le_refl _) (Nat.le_refl _) hv0 HO2.out).mono ?_; rintro e w2 ⟨rfl, own3, grow3⟩; have HO3 : Hid (Own w2 B g' (n + size) cap' (putL (laid ++ List.replicate size 0) n v size)) := own3; have HG3 : Hid _ := grow3; clear own3 grow3))
 go_end0
 have e1 : putL (laid ++ List.replicate size 0) n v size = laid ++ leN size v := by rw [← HN.out]; exact putL_tail _ _ _ _
 have o3 := HO3.out
 rw [e1] at o3
 have hlen : (laid ++ leN size v).length = n + size := by rw [List.length_append, leN_length, HN.out]
 refine ⟨rfl, ⟨g', cap', ?_, ?_, hBq, ?_⟩, ?_⟩
 ·simp only [hlen]
  exact (HG3.out.block q (by have := (Array.getElem?_eq_some_iff.1 HQ2.out).1; exact this) (fun e => (Own.ne HO2.out HQ2.out (by decide)) (by cases e; rfl))).trans HQ2.out
 ·simp only [hlen]; exact o3
 ·intro x hx
  rcases List.mem_append.1 hx with h | h
  ·exact hby x h
  ·exact leN_byt _ _ x h
 ·have k1 : Kw B w w1 := Kw.of_own HO.out hBw HG.out
  have k2 : Kw B w1 (w1.setCell ⟨q, 0, none⟩ (.slice (some ⟨g', 0, none⟩) (n + size) cap')) := Kw.of_box HQ1.out hBq (Nat.le_trans hBw HG.out.size) (grownBy_setCell' w1 q _)
  have k3 : Kw B (w1.setCell ⟨q, 0, none⟩ (.slice (some ⟨g', 0, none⟩) (n + size) cap')) w2 := Kw.of_own HO2.out (Nat.le_trans (Nat.le_trans hBw HG.out.size) (grownBy_setCell' w1 q _).size) HG3.out
  exact (k1.trans k2).trans k3
set_option maxHeartbeats 1000000 in
set_option maxRecDepth 100000 in
theorem written_any (a : Option Addr) (n cap : Nat) (zs : List Int) (w : World) (hl : n ≤ 200000000000000) (h : Reads w a n zs) :
  Calls Tryd.prog 83 #[.slice a n cap] w fun e w' => e = .returned (.int .i64 (wrN zs : Int)) ∧ w' = w := by
 have hlen := h.1
 go_enter Tryd.func83, Tryd.ntmps83
 go_wp2
 go_loop [3] (fun x => ∃ k : Nat, k ≤ n ∧ x = .int .i64 k ∧ Hid (∀ i, k ≤ i → i < zs.length → zs.getD i 0 = 255))
  (fun x => (intOf x).toNat)
 case atStart => exact ⟨n, Nat.le_refl _, rfl, fun i h1 h2 => by omega⟩
 case round =>
  obtain ⟨k, hk, rfl, HA⟩ := hrel
  cases k with
  | zero =>
   have HE : Hid (wrN zs = 0) := wrN_char zs 0 (by omega) HA.out (Or.inl rfl)
   go_wp2
   go_ret
   rw [HE.out]
   exact ⟨rfl, rfl⟩
  | succ k =>
   obtain ⟨b, off, rfl, hb, hcell⟩ := h.pos (by omega)
   obtain ⟨z, hz⟩ : ∃ z, z = zs.getD k 0 := ⟨_, rfl⟩
   have hcx : w.cell? ⟨b, off + k, none⟩ = some (.int .u8 z) := by rw [hz]; exact hcell k (by omega)
   have i1 : (k : Int) < (n : Int) := by omega
   by_cases he : z = 255
   ·subst he
    have HB : Hid (∀ i, k ≤ i → i < zs.length → zs.getD i 0 = 255) := fun i h1 h2 => by
     rcases Nat.eq_or_lt_of_le h1 with h3 | h3
     ·rw [← h3]; exact hz.symm
     ·exact HA.out i h3 h2
    clear hz hcell h hlen HA
    go_wp2
    go_round
    case rel => exact ⟨k, by omega, by go_num, HB⟩
    case measure => simp [intOf]
   ·have HE : Hid (wrN zs = k + 1) := wrN_char zs (k + 1) (by omega) HA.out (Or.inr (by rw [Nat.add_sub_cancel, ← hz]; exact he))
    have he2 : (z == 255) = false := by simpa using he
    clear hz hcell h hlen HA he
    go_wp2
    go_ret
    rw [HE.out]
    exact ⟨by simp, rfl⟩
theorem isBlank_any (a : Option Addr) (n cap : Nat) (zs : List Int) (w : World) (hl : n ≤ 200000000000000) (h : Reads w a n zs) :
  Calls Tryd.prog 62 #[.slice a n cap] w fun e w' => e = .returned (.bool (blankB zs)) ∧ w' = w := by
 cases hb : blankB zs with
 | true =>
  have h0 := (wrN_zero zs).2 hb
  go_enter Tryd.func62, Tryd.ntmps62
  go_wp2_with (go_at_call 83; refine (written_any _ _ _ zs _ hl h).mono ?_; rintro e u1 ⟨rfl, hu⟩; rw [hu, h0])
  go_ret
  exact ⟨rfl, rfl⟩
 | false =>
  have h0 : ((wrN zs : Int) == 0) = false := by
   have : wrN zs ≠ 0 := fun e => by rw [(wrN_zero zs).1 e] at hb; cases hb
   simp; omega
  go_enter Tryd.func62, Tryd.ntmps62
  go_wp2_with (go_at_call 83; refine (written_any _ _ _ zs _ hl h).mono ?_; rintro e u1 ⟨rfl, hu⟩; rw [hu])
  go_ret
  exact ⟨rfl, rfl⟩
end Go.Proofs.YtnmnhgagnfodhaaDoor
namespace Go.Proofs.YtnmnhgagnfodhaaDoor
open Go.RowKit
set_option linter.unusedVariables false
theorem put2 (xs : List Int) (v : Nat) (hv : v ≤ 65535) (hl : 2 ≤ xs.length) : putL xs (xs.length - 2) (v : Int) 2 = xs.take (xs.length - 2) ++ le2 v := by
 have h := putL_tail (xs.take (xs.length - 2)) (xs.drop (xs.length - 2)) (v : Int) 2
 rw [List.take_append_drop, List.length_take, Nat.min_eq_left (by omega)] at h
 rw [h]
 congr 1
 have hd : (xs.drop (xs.length - 2)).length = 2 := by simp; omega
 match xs.drop (xs.length - 2), hd with
 | [a, b], _ =>
  simp [putL, le2]
  omega
theorem Kw.drewl (B : Nat) (w : World) : Kw B w w.drew := ⟨(Below.refl _ _).drew, fun _ _ h _ _ => h⟩
theorem Own.drew1 {w : World} {B g n cap : Nat} {xs : List Int} (h : Own w B g n cap xs) : Own w.drew B g n cap xs := h
theorem leN1 (v : Nat) (h : v < 256) : leN 1 (v : Int) = [(v : Int)] := by
 simp [leN, putL]
 omega
theorem leN2 (v : Nat) (h : v < 65536) : leN 2 (v : Int) = le2 v := by
 simp [leN, putL, le2, List.replicate]
 omega
theorem leN4 (v : Nat) : leN 4 (v : Int) = le4 v := by
 simp [leN, putL, le4, List.replicate]
set_option maxHeartbeats 2000000 in
set_option maxRecDepth 100000 in
theorem run_new1 (B q k : Nat) (laid : List Int) (kind count : Nat) (w : World) (hW : WrAt w B q ⟨laid, kind, count⟩) (hl : laid.length ≤ 900000000) (hk : k ≤ 2) (k1 : ((kind : Int) != (k : Int)) = true) :
  Calls Tryd.prog 63 #[.pointer (some ⟨q, 0, none⟩), .int .i64 (k : Int)] w fun e w' => e = .returned (.tuple #[]) ∧ WrAt w' B q ⟨laid ++ ([(k : Int)] ++ le2 1), k, 1⟩ ∧ Kw B w w' := by
  have hBw := hW.size
  have HW : Hid (WrAt w B q ⟨laid, kind, count⟩) := hW
  obtain ⟨g, cap, hq, hown, hBq, hby⟩ := hW
  obtain ⟨n, hn⟩ : ∃ n, laid.length = n := ⟨_, rfl⟩
  simp only at hq hown hby
  obtain ⟨c0, c1, c2, f0, f1, f2⟩ := blk3_cells hq
  have HN : Hid (laid.length = n) := hn
  rw [hn] at hl c0
  clear hq hown hn
  go_enter Tryd.func63, Tryd.ntmps63
  go_upto_region 5 with (first
   | (go_at_call 32; have zz := M1; refine (number_any B q ⟨laid ++ leN 1 (k : Int), kind, count⟩ 2 0 _ wr1 (by simp only [List.length_append, leN_length, HN.out]; omega) (by omega) (by omega) (by omega) (by decide)).mono ?_; rintro e w2 ⟨rfl, wr2, kw2⟩; clear M1 zz
      obtain ⟨g1, cc, hq2, own2, _, by2⟩ := wr2
      simp only [List.length_append, leN_length, HN.out] at hq2 own2
      clear d0 d1 d2 e0 e1 e2
      obtain ⟨d0, d1, d2, e0, e1, e2⟩ := blk3_cells hq2
      have HQ2 : Hid _ := hq2
      have HO2 : Hid (Own w2 B g1 (n + 1 + 2) cc (laid ++ leN 1 (k : Int) ++ leN 2 0)) := own2
      have HY2 : Hid _ := by2
      have HK2 : Hid _ := kw2
      clear hq2 own2 by2 kw2)
   | (go_at_call 32; refine (number_any B q ⟨laid, kind, count⟩ 1 (k : Int) _ HW.out (by simp only [HN.out]; omega) (by omega) (by omega) (by omega) (by omega)).mono ?_; rintro e w1 ⟨rfl, wr1, kw1⟩; have M1 : Hid True := trivial; have HK1 : Hid _ := kw1; clear kw1 c0 c1 c2 f0 f1 f2
      obtain ⟨g0, cc0, hq1, _, _, _⟩ := id wr1
      obtain ⟨d0, d1, d2, e0, e1, e2⟩ := blk3_cells hq1
      clear hq1))
  have HQ5 : Hid ((((w2.setCell ⟨q, 1, none⟩ (.int .i64 (k : Int))).setCell ⟨q, 2, none⟩ (.int .i64 0)).setCell ⟨q, 2, none⟩ (.int .i64 1)).heap[q]? = some (.cells #[.slice (some ⟨g1, 0, none⟩) (n + 1 + 2) cc, .int .i64 (k : Int), .int .i64 1] 89 (0, 0))) := blk3_2 (blk3_2 (blk3_1 HQ2.out _) _) _
  have hg5 : w2.grownBy (((w2.setCell ⟨q, 1, none⟩ (.int .i64 (k : Int))).setCell ⟨q, 2, none⟩ (.int .i64 0)).setCell ⟨q, 2, none⟩ (.int .i64 1)) (some q) := grownBy_trans (grownBy_trans (set_grown w2 q 1 _) (set_grown _ q 2 _)) (set_grown _ q 2 _)
  have HO5 : Hid (Own (((w2.setCell ⟨q, 1, none⟩ (.int .i64 (k : Int))).setCell ⟨q, 2, none⟩ (.int .i64 0)).setCell ⟨q, 2, none⟩ (.int .i64 1)).drew B g1 (n + 1 + 2) cc (laid ++ leN 1 (k : Int) ++ leN 2 0)) := Own.drew1 (Own.apart HO2.out hg5 (Own.ne HO2.out HQ2.out (by decide)).symm)
  have HG5 : Hid _ := hg5
  have HF : Hid (((1 : Int) / 2 ^ (8 * ((2 : Nat) : Int)).toNat == 0) = true) := fits_pow 1 2 (by omega) (by omega)
  clear hg5 d0 d1 d2 e0 e1 e2
  obtain ⟨m, hm⟩ : ∃ m, n + 1 = m := ⟨_, rfl⟩
  have wr5 : IntKind.i64.wrap ((n : Int) + 1) = (m : Int) := by rw [IntKind.wrap_i64]; omega
  have wr7 : IntKind.u64.wrap 1 = 1 := by decide
  have HM : Hid (n + 1 = m) := hm
  have hm2 : m + 2 ≤ n + 1 + 2 := by omega
  clear hm
  refine wp_region_held_drew (S := (fun x : World => x.cell? ⟨q, 0, none⟩ = some (.slice (some ⟨g1, 0, none⟩) (n + 1 + 2) cc) ∧ x.cell? ⟨q, 2, none⟩ = some (.int .i64 1))) (by kernel_rfl) (⟨(blk3_cells HQ5.out).1, (blk3_cells HQ5.out).2.2.1⟩) (fun hHeld => ?_)
  refine tk 0 ?_
  refine tk 1 ?_
  refine tk 2 ?_
  refine tk 3 ?_
  refine tk 4 ?_
  refine tk 5 ?_
  refine tk 6 ?_
  refine tk 7 ?_
  refine tk 8 ?_
  refine tk 9 ?_
  refine tk 10 ?_
  refine tk 11 ?_
  refine tk 12 ?_
  refine tk 13 ?_
  refine tk 14 ?_
  refine rd 15 (fun K hK => ?_)
  go_simp
  go_at_call 60
  refine (put_ok B g1 (n + 1 + 2) cc (n + 1 + 2) m 2 1 (laid ++ leN 1 (k : Int) ++ leN 2 0) _ (by omega) (by omega) (by omega) HF.out hm2 (Nat.le_refl _) (by omega) HO5.out).mono ?_
  rintro e w6 ⟨rfl, own6, grow6⟩
  have HO6 : Hid (Own w6 B g1 (n + 1 + 2) cc (putL (laid ++ leN 1 (k : Int) ++ leN 2 0) m 1 2)) := own6
  have HQ6 : Hid _ := (grow6.block q (Array.getElem?_eq_some_iff.1 HQ5.out).1 (fun e => (Own.ne HO5.out HQ5.out (by decide)) (by cases e; rfl))).trans HQ5.out
  have HG6 : Hid _ := grow6
  have hSnew := And.intro (blk3_cells HQ6.out).1 (blk3_cells HQ6.out).2.2.1
  clear own6 grow6
  go_wp2_with fail
  clear hHeld
  refine hK.out _ _ hSnew (fun hHeld => ?_)
  clear hK K hSnew
  try simp only [Act.put, zSt, zS0, zS1]
  refine wpAnyH_done (by kernel_rfl) ?_ _
  go_wp2
  go_end0
  have e9 : putL (laid ++ leN 1 (k : Int) ++ leN 2 0) m 1 2 = laid ++ ((k : Int) :: le2 1) := by
   have h2 : (laid ++ leN 1 (k : Int)).length = n + 1 := by rw [List.length_append, leN_length, HN.out]
   have h3 := putL_tail (laid ++ leN 1 (k : Int)) (leN 2 0) 1 2
   rw [h2] at h3
   rw [← HM.out, h3, leN1 k (by omega), List.append_assoc]
   rfl
  have o6 := HO6.out
  rw [e9] at o6
  have hlen : (laid ++ ((k : Int) :: le2 1)).length = n + 1 + 2 := by simp [HN.out, le2]
  refine ⟨rfl, ⟨g1, cc, ?_, ?_, hBq, ?_⟩, ?_⟩
  ·simp only [hlen]; exact HQ6.out
  ·simp only [hlen]; exact o6
  ·intro x hx
   simp only [le2, List.mem_append, List.mem_cons, List.not_mem_nil, or_false] at hx
   rcases hx with hx | rfl | rfl | rfl
   ·exact hby x hx
   all_goals omega
  ·have s2 := Nat.le_trans hBw (HK1.out.trans HK2.out).bel.size
   exact ((HK1.out.trans HK2.out).trans (Kw.of_box HQ2.out hBq s2 HG5.out)).trans ((Kw.drewl _ _).trans (Kw.of_own HO5.out (Nat.le_trans s2 HG5.out.size) HG6.out))
set_option maxHeartbeats 2000000 in
set_option maxRecDepth 100000 in
theorem run_new2 (B q k : Nat) (laid : List Int) (kind count : Nat) (w : World) (hW : WrAt w B q ⟨laid, kind, count⟩) (hl : laid.length ≤ 900000000) (hk : k ≤ 2) (k1 : ((kind : Int) != (k : Int)) = false) (k2 : ((count : Int) == 0) = true) :
  Calls Tryd.prog 63 #[.pointer (some ⟨q, 0, none⟩), .int .i64 (k : Int)] w fun e w' => e = .returned (.tuple #[]) ∧ WrAt w' B q ⟨laid ++ ([(k : Int)] ++ le2 1), k, 1⟩ ∧ Kw B w w' := by
  have hBw := hW.size
  have HW : Hid (WrAt w B q ⟨laid, kind, count⟩) := hW
  obtain ⟨g, cap, hq, hown, hBq, hby⟩ := hW
  obtain ⟨n, hn⟩ : ∃ n, laid.length = n := ⟨_, rfl⟩
  simp only at hq hown hby
  obtain ⟨c0, c1, c2, f0, f1, f2⟩ := blk3_cells hq
  have HN : Hid (laid.length = n) := hn
  rw [hn] at hl c0
  clear hq hown hn
  go_enter Tryd.func63, Tryd.ntmps63
  go_upto_region 5 with (first
   | (go_at_call 32; have zz := M1; refine (number_any B q ⟨laid ++ leN 1 (k : Int), kind, count⟩ 2 0 _ wr1 (by simp only [List.length_append, leN_length, HN.out]; omega) (by omega) (by omega) (by omega) (by decide)).mono ?_; rintro e w2 ⟨rfl, wr2, kw2⟩; clear M1 zz
      obtain ⟨g1, cc, hq2, own2, _, by2⟩ := wr2
      simp only [List.length_append, leN_length, HN.out] at hq2 own2
      clear d0 d1 d2 e0 e1 e2
      obtain ⟨d0, d1, d2, e0, e1, e2⟩ := blk3_cells hq2
      have HQ2 : Hid _ := hq2
      have HO2 : Hid (Own w2 B g1 (n + 1 + 2) cc (laid ++ leN 1 (k : Int) ++ leN 2 0)) := own2
      have HY2 : Hid _ := by2
      have HK2 : Hid _ := kw2
      clear hq2 own2 by2 kw2)
   | (go_at_call 32; refine (number_any B q ⟨laid, kind, count⟩ 1 (k : Int) _ HW.out (by simp only [HN.out]; omega) (by omega) (by omega) (by omega) (by omega)).mono ?_; rintro e w1 ⟨rfl, wr1, kw1⟩; have M1 : Hid True := trivial; have HK1 : Hid _ := kw1; clear kw1 c0 c1 c2 f0 f1 f2
      obtain ⟨g0, cc0, hq1, _, _, _⟩ := id wr1
      obtain ⟨d0, d1, d2, e0, e1, e2⟩ := blk3_cells hq1
      clear hq1))
  have HQ5 : Hid ((((w2.setCell ⟨q, 1, none⟩ (.int .i64 (k : Int))).setCell ⟨q, 2, none⟩ (.int .i64 0)).setCell ⟨q, 2, none⟩ (.int .i64 1)).heap[q]? = some (.cells #[.slice (some ⟨g1, 0, none⟩) (n + 1 + 2) cc, .int .i64 (k : Int), .int .i64 1] 89 (0, 0))) := blk3_2 (blk3_2 (blk3_1 HQ2.out _) _) _
  have hg5 : w2.grownBy (((w2.setCell ⟨q, 1, none⟩ (.int .i64 (k : Int))).setCell ⟨q, 2, none⟩ (.int .i64 0)).setCell ⟨q, 2, none⟩ (.int .i64 1)) (some q) := grownBy_trans (grownBy_trans (set_grown w2 q 1 _) (set_grown _ q 2 _)) (set_grown _ q 2 _)
  have HO5 : Hid (Own (((w2.setCell ⟨q, 1, none⟩ (.int .i64 (k : Int))).setCell ⟨q, 2, none⟩ (.int .i64 0)).setCell ⟨q, 2, none⟩ (.int .i64 1)).drew B g1 (n + 1 + 2) cc (laid ++ leN 1 (k : Int) ++ leN 2 0)) := Own.drew1 (Own.apart HO2.out hg5 (Own.ne HO2.out HQ2.out (by decide)).symm)
  have HG5 : Hid _ := hg5
  have HF : Hid (((1 : Int) / 2 ^ (8 * ((2 : Nat) : Int)).toNat == 0) = true) := fits_pow 1 2 (by omega) (by omega)
  clear hg5 d0 d1 d2 e0 e1 e2
  obtain ⟨m, hm⟩ : ∃ m, n + 1 = m := ⟨_, rfl⟩
  have wr5 : IntKind.i64.wrap ((n : Int) + 1) = (m : Int) := by rw [IntKind.wrap_i64]; omega
  have wr7 : IntKind.u64.wrap 1 = 1 := by decide
  have HM : Hid (n + 1 = m) := hm
  have hm2 : m + 2 ≤ n + 1 + 2 := by omega
  clear hm
  refine wp_region_held_drew (S := (fun x : World => x.cell? ⟨q, 0, none⟩ = some (.slice (some ⟨g1, 0, none⟩) (n + 1 + 2) cc) ∧ x.cell? ⟨q, 2, none⟩ = some (.int .i64 1))) (by kernel_rfl) (⟨(blk3_cells HQ5.out).1, (blk3_cells HQ5.out).2.2.1⟩) (fun hHeld => ?_)
  refine tk 0 ?_
  refine tk 1 ?_
  refine tk 2 ?_
  refine tk 3 ?_
  refine tk 4 ?_
  refine tk 5 ?_
  refine tk 6 ?_
  refine tk 7 ?_
  refine tk 8 ?_
  refine tk 9 ?_
  refine tk 10 ?_
  refine tk 11 ?_
  refine tk 12 ?_
  refine tk 13 ?_
  refine tk 14 ?_
  refine rd 15 (fun K hK => ?_)
  go_simp
  go_at_call 60
  refine (put_ok B g1 (n + 1 + 2) cc (n + 1 + 2) m 2 1 (laid ++ leN 1 (k : Int) ++ leN 2 0) _ (by omega) (by omega) (by omega) HF.out hm2 (Nat.le_refl _) (by omega) HO5.out).mono ?_
  rintro e w6 ⟨rfl, own6, grow6⟩
  have HO6 : Hid (Own w6 B g1 (n + 1 + 2) cc (putL (laid ++ leN 1 (k : Int) ++ leN 2 0) m 1 2)) := own6
  have HQ6 : Hid _ := (grow6.block q (Array.getElem?_eq_some_iff.1 HQ5.out).1 (fun e => (Own.ne HO5.out HQ5.out (by decide)) (by cases e; rfl))).trans HQ5.out
  have HG6 : Hid _ := grow6
  have hSnew := And.intro (blk3_cells HQ6.out).1 (blk3_cells HQ6.out).2.2.1
  clear own6 grow6
  go_wp2_with fail
  clear hHeld
  refine hK.out _ _ hSnew (fun hHeld => ?_)
  clear hK K hSnew
  try simp only [Act.put, zSt, zS0, zS1]
  refine wpAnyH_done (by kernel_rfl) ?_ _
  go_wp2
  go_end0
  have e9 : putL (laid ++ leN 1 (k : Int) ++ leN 2 0) m 1 2 = laid ++ ((k : Int) :: le2 1) := by
   have h2 : (laid ++ leN 1 (k : Int)).length = n + 1 := by rw [List.length_append, leN_length, HN.out]
   have h3 := putL_tail (laid ++ leN 1 (k : Int)) (leN 2 0) 1 2
   rw [h2] at h3
   rw [← HM.out, h3, leN1 k (by omega), List.append_assoc]
   rfl
  have o6 := HO6.out
  rw [e9] at o6
  have hlen : (laid ++ ((k : Int) :: le2 1)).length = n + 1 + 2 := by simp [HN.out, le2]
  refine ⟨rfl, ⟨g1, cc, ?_, ?_, hBq, ?_⟩, ?_⟩
  ·simp only [hlen]; exact HQ6.out
  ·simp only [hlen]; exact o6
  ·intro x hx
   simp only [le2, List.mem_append, List.mem_cons, List.not_mem_nil, or_false] at hx
   rcases hx with hx | rfl | rfl | rfl
   ·exact hby x hx
   all_goals omega
  ·have s2 := Nat.le_trans hBw (HK1.out.trans HK2.out).bel.size
   exact ((HK1.out.trans HK2.out).trans (Kw.of_box HQ2.out hBq s2 HG5.out)).trans ((Kw.drewl _ _).trans (Kw.of_own HO5.out (Nat.le_trans s2 HG5.out.size) HG6.out))
set_option maxHeartbeats 2000000 in
set_option maxRecDepth 100000 in
theorem run_new3 (B q k : Nat) (laid : List Int) (kind count : Nat) (w : World) (hW : WrAt w B q ⟨laid, kind, count⟩) (hl : laid.length ≤ 900000000) (hk : k ≤ 2) (k1 : ((kind : Int) != (k : Int)) = false) (k2 : ((count : Int) == 0) = false) (k3 : ((count : Int) == 65535) = true) :
  Calls Tryd.prog 63 #[.pointer (some ⟨q, 0, none⟩), .int .i64 (k : Int)] w fun e w' => e = .returned (.tuple #[]) ∧ WrAt w' B q ⟨laid ++ ([(k : Int)] ++ le2 1), k, 1⟩ ∧ Kw B w w' := by
  have hBw := hW.size
  have HW : Hid (WrAt w B q ⟨laid, kind, count⟩) := hW
  obtain ⟨g, cap, hq, hown, hBq, hby⟩ := hW
  obtain ⟨n, hn⟩ : ∃ n, laid.length = n := ⟨_, rfl⟩
  simp only at hq hown hby
  obtain ⟨c0, c1, c2, f0, f1, f2⟩ := blk3_cells hq
  have HN : Hid (laid.length = n) := hn
  rw [hn] at hl c0
  clear hq hown hn
  go_enter Tryd.func63, Tryd.ntmps63
  go_upto_region 5 with (first
   | (go_at_call 32; have zz := M1; refine (number_any B q ⟨laid ++ leN 1 (k : Int), kind, count⟩ 2 0 _ wr1 (by simp only [List.length_append, leN_length, HN.out]; omega) (by omega) (by omega) (by omega) (by decide)).mono ?_; rintro e w2 ⟨rfl, wr2, kw2⟩; clear M1 zz
      obtain ⟨g1, cc, hq2, own2, _, by2⟩ := wr2
      simp only [List.length_append, leN_length, HN.out] at hq2 own2
      clear d0 d1 d2 e0 e1 e2
      obtain ⟨d0, d1, d2, e0, e1, e2⟩ := blk3_cells hq2
      have HQ2 : Hid _ := hq2
      have HO2 : Hid (Own w2 B g1 (n + 1 + 2) cc (laid ++ leN 1 (k : Int) ++ leN 2 0)) := own2
      have HY2 : Hid _ := by2
      have HK2 : Hid _ := kw2
      clear hq2 own2 by2 kw2)
   | (go_at_call 32; refine (number_any B q ⟨laid, kind, count⟩ 1 (k : Int) _ HW.out (by simp only [HN.out]; omega) (by omega) (by omega) (by omega) (by omega)).mono ?_; rintro e w1 ⟨rfl, wr1, kw1⟩; have M1 : Hid True := trivial; have HK1 : Hid _ := kw1; clear kw1 c0 c1 c2 f0 f1 f2
      obtain ⟨g0, cc0, hq1, _, _, _⟩ := id wr1
      obtain ⟨d0, d1, d2, e0, e1, e2⟩ := blk3_cells hq1
      clear hq1))
  have HQ5 : Hid ((((w2.setCell ⟨q, 1, none⟩ (.int .i64 (k : Int))).setCell ⟨q, 2, none⟩ (.int .i64 0)).setCell ⟨q, 2, none⟩ (.int .i64 1)).heap[q]? = some (.cells #[.slice (some ⟨g1, 0, none⟩) (n + 1 + 2) cc, .int .i64 (k : Int), .int .i64 1] 89 (0, 0))) := blk3_2 (blk3_2 (blk3_1 HQ2.out _) _) _
  have hg5 : w2.grownBy (((w2.setCell ⟨q, 1, none⟩ (.int .i64 (k : Int))).setCell ⟨q, 2, none⟩ (.int .i64 0)).setCell ⟨q, 2, none⟩ (.int .i64 1)) (some q) := grownBy_trans (grownBy_trans (set_grown w2 q 1 _) (set_grown _ q 2 _)) (set_grown _ q 2 _)
  have HO5 : Hid (Own (((w2.setCell ⟨q, 1, none⟩ (.int .i64 (k : Int))).setCell ⟨q, 2, none⟩ (.int .i64 0)).setCell ⟨q, 2, none⟩ (.int .i64 1)).drew B g1 (n + 1 + 2) cc (laid ++ leN 1 (k : Int) ++ leN 2 0)) := Own.drew1 (Own.apart HO2.out hg5 (Own.ne HO2.out HQ2.out (by decide)).symm)
  have HG5 : Hid _ := hg5
  have HF : Hid (((1 : Int) / 2 ^ (8 * ((2 : Nat) : Int)).toNat == 0) = true) := fits_pow 1 2 (by omega) (by omega)
  clear hg5 d0 d1 d2 e0 e1 e2
  obtain ⟨m, hm⟩ : ∃ m, n + 1 = m := ⟨_, rfl⟩
  have wr5 : IntKind.i64.wrap ((n : Int) + 1) = (m : Int) := by rw [IntKind.wrap_i64]; omega
  have wr7 : IntKind.u64.wrap 1 = 1 := by decide
  have HM : Hid (n + 1 = m) := hm
  have hm2 : m + 2 ≤ n + 1 + 2 := by omega
  clear hm
  refine wp_region_held_drew (S := (fun x : World => x.cell? ⟨q, 0, none⟩ = some (.slice (some ⟨g1, 0, none⟩) (n + 1 + 2) cc) ∧ x.cell? ⟨q, 2, none⟩ = some (.int .i64 1))) (by kernel_rfl) (⟨(blk3_cells HQ5.out).1, (blk3_cells HQ5.out).2.2.1⟩) (fun hHeld => ?_)
  refine tk 0 ?_
  refine tk 1 ?_
  refine tk 2 ?_
  refine tk 3 ?_
  refine tk 4 ?_
  refine tk 5 ?_
  refine tk 6 ?_
  refine tk 7 ?_
  refine tk 8 ?_
  refine tk 9 ?_
  refine tk 10 ?_
  refine tk 11 ?_
  refine tk 12 ?_
  refine tk 13 ?_
  refine tk 14 ?_
  refine rd 15 (fun K hK => ?_)
  go_simp
  go_at_call 60
  refine (put_ok B g1 (n + 1 + 2) cc (n + 1 + 2) m 2 1 (laid ++ leN 1 (k : Int) ++ leN 2 0) _ (by omega) (by omega) (by omega) HF.out hm2 (Nat.le_refl _) (by omega) HO5.out).mono ?_
  rintro e w6 ⟨rfl, own6, grow6⟩
  have HO6 : Hid (Own w6 B g1 (n + 1 + 2) cc (putL (laid ++ leN 1 (k : Int) ++ leN 2 0) m 1 2)) := own6
  have HQ6 : Hid _ := (grow6.block q (Array.getElem?_eq_some_iff.1 HQ5.out).1 (fun e => (Own.ne HO5.out HQ5.out (by decide)) (by cases e; rfl))).trans HQ5.out
  have HG6 : Hid _ := grow6
  have hSnew := And.intro (blk3_cells HQ6.out).1 (blk3_cells HQ6.out).2.2.1
  clear own6 grow6
  go_wp2_with fail
  clear hHeld
  refine hK.out _ _ hSnew (fun hHeld => ?_)
  clear hK K hSnew
  try simp only [Act.put, zSt, zS0, zS1]
  refine wpAnyH_done (by kernel_rfl) ?_ _
  go_wp2
  go_end0
  have e9 : putL (laid ++ leN 1 (k : Int) ++ leN 2 0) m 1 2 = laid ++ ((k : Int) :: le2 1) := by
   have h2 : (laid ++ leN 1 (k : Int)).length = n + 1 := by rw [List.length_append, leN_length, HN.out]
   have h3 := putL_tail (laid ++ leN 1 (k : Int)) (leN 2 0) 1 2
   rw [h2] at h3
   rw [← HM.out, h3, leN1 k (by omega), List.append_assoc]
   rfl
  have o6 := HO6.out
  rw [e9] at o6
  have hlen : (laid ++ ((k : Int) :: le2 1)).length = n + 1 + 2 := by simp [HN.out, le2]
  refine ⟨rfl, ⟨g1, cc, ?_, ?_, hBq, ?_⟩, ?_⟩
  ·simp only [hlen]; exact HQ6.out
  ·simp only [hlen]; exact o6
  ·intro x hx
   simp only [le2, List.mem_append, List.mem_cons, List.not_mem_nil, or_false] at hx
   rcases hx with hx | rfl | rfl | rfl
   ·exact hby x hx
   all_goals omega
  ·have s2 := Nat.le_trans hBw (HK1.out.trans HK2.out).bel.size
   exact ((HK1.out.trans HK2.out).trans (Kw.of_box HQ2.out hBq s2 HG5.out)).trans ((Kw.drewl _ _).trans (Kw.of_own HO5.out (Nat.le_trans s2 HG5.out.size) HG6.out))
set_option maxHeartbeats 2000000 in
set_option maxRecDepth 100000 in
theorem run_moreN (B q k : Nat) (st : St) (w : World) (hW : WrAt w B q st) (hl : st.laid.length ≤ 900000000) (hl2 : 2 ≤ st.laid.length) (hk : k ≤ 2) (hct : st.count ≤ 65535) (hnew : ¬ (st.kind ≠ k ∨ st.count = 0 ∨ st.count = 65535)) :
  Calls Tryd.prog 63 #[.pointer (some ⟨q, 0, none⟩), .int .i64 (k : Int)] w fun e w' => e = .returned (.tuple #[]) ∧ WrAt w' B q (runS st k) ∧ Kw B w w' := by
  have hpost : runS st k = ⟨st.laid.take (st.laid.length - 2) ++ le2 (st.count + 1), k, st.count + 1⟩ := by unfold runS; rw [if_neg hnew]
  rw [hpost]
  have hBw := hW.size
  obtain ⟨g1, cc, hq, hown, hBq, hby⟩ := hW
  obtain ⟨laid, kind, count⟩ := st
  simp only at *
  obtain ⟨n, hn⟩ : ∃ n, laid.length = n := ⟨_, rfl⟩
  obtain ⟨k1, k2, k3⟩ : kind = k ∧ count ≠ 0 ∧ count ≠ 65535 := by omega
  subst k1
  have k2' : ((count : Int) == 0) = false := by simp; omega
  have k3' : ((count : Int) == 65535) = false := by simp; omega
  have hc1 : count + 1 ≤ 65535 := by omega
  have HN : Hid (laid.length = n) := hn
  rw [hn] at hl hl2 hown hq
  obtain ⟨c0, c1, c2, f0, f1, f2⟩ := blk3_cells hq
  have HQ2 : Hid _ := hq
  have HO2 : Hid (Own w B g1 n cc laid) := hown
  clear hq hown hnew hn hpost k2 k3
  go_enter Tryd.func63, Tryd.ntmps63
  go_upto_region 5 with fail
  have HQ5 : Hid ((w.setCell ⟨q, 2, none⟩ (.int .i64 ((count : Int) + 1))).heap[q]? = some (.cells #[.slice (some ⟨g1, 0, none⟩) n cc, .int .i64 (kind : Int), .int .i64 ((count : Int) + 1)] 89 (0, 0))) := blk3_2 HQ2.out _
  have hg5 : w.grownBy (w.setCell ⟨q, 2, none⟩ (.int .i64 ((count : Int) + 1))) (some q) := set_grown w q 2 _
  have HO5 : Hid (Own (w.setCell ⟨q, 2, none⟩ (.int .i64 ((count : Int) + 1))).drew B g1 n cc laid) := Own.drew1 (Own.apart HO2.out hg5 (Own.ne HO2.out HQ2.out (by decide)).symm)
  have HG5 : Hid _ := hg5
  have HF : Hid ((((count : Int) + 1) / 2 ^ (8 * ((2 : Nat) : Int)).toNat == 0) = true) := fits_pow ((count : Int) + 1) 2 (by omega) (by omega)
  clear hg5 c0 c1 c2 f0 f1 f2
  obtain ⟨m, hm⟩ : ∃ m, n - 2 = m := ⟨_, rfl⟩
  have wr5 : IntKind.i64.wrap ((n : Int) - 2) = (m : Int) := by rw [IntKind.wrap_i64]; omega
  have HM : Hid (n - 2 = m) := hm
  have hm2 : m + 2 ≤ n := by omega
  clear hm
  have wr6 : IntKind.u64.wrap ((count : Int) + 1) = (count : Int) + 1 := by rw [IntKind.wrap_u64]; omega
  refine wp_region_held_drew (S := (fun x : World => x.cell? ⟨q, 0, none⟩ = some (.slice (some ⟨g1, 0, none⟩) n cc) ∧ x.cell? ⟨q, 2, none⟩ = some (.int .i64 ((count : Int) + 1)))) (by kernel_rfl) (⟨(blk3_cells HQ5.out).1, (blk3_cells HQ5.out).2.2.1⟩) (fun hHeld => ?_)
  refine tk 0 ?_
  refine tk 1 ?_
  refine tk 2 ?_
  refine tk 3 ?_
  refine tk 4 ?_
  refine tk 5 ?_
  refine tk 6 ?_
  refine tk 7 ?_
  refine tk 8 ?_
  refine tk 9 ?_
  refine tk 10 ?_
  refine tk 11 ?_
  refine tk 12 ?_
  refine tk 13 ?_
  refine tk 14 ?_
  refine rd 15 (fun K hK => ?_)
  go_simp
  go_at_call 60
  refine (put_ok B g1 n cc n m 2 ((count : Int) + 1) laid _ (by omega) (by omega) (by omega) HF.out hm2 (Nat.le_refl _) (by omega) HO5.out).mono ?_
  rintro e w6 ⟨rfl, own6, grow6⟩
  have HO6 : Hid (Own w6 B g1 n cc (putL laid m ((count : Int) + 1) 2)) := own6
  have HQ6 : Hid _ := (grow6.block q (Array.getElem?_eq_some_iff.1 HQ5.out).1 (fun e => (Own.ne HO5.out HQ5.out (by decide)) (by cases e; rfl))).trans HQ5.out
  have HG6 : Hid _ := grow6
  have hSnew := And.intro (blk3_cells HQ6.out).1 (blk3_cells HQ6.out).2.2.1
  clear own6 grow6
  go_wp2_with fail
  clear hHeld
  refine hK.out _ _ hSnew (fun hHeld => ?_)
  clear hK K hSnew
  try simp only [Act.put, zSt, zS0, zS1]
  refine wpAnyH_done (by kernel_rfl) ?_ _
  go_wp2
  go_end0
  have e9 : putL laid m ((count : Int) + 1) 2 = laid.take (n - 2) ++ le2 (count + 1) := by
   rw [← HM.out]
   have := put2 laid (count + 1) (by omega) (by rw [HN.out]; omega)
   rw [HN.out] at this
   simpa using this
  have o6 := HO6.out
  rw [e9] at o6
  have hlen : (laid.take (n - 2) ++ le2 (count + 1)).length = n := by simp [HN.out, le2]; omega
  rw [HN.out]
  refine ⟨rfl, ⟨g1, cc, ?_, ?_, hBq, ?_⟩, ?_⟩
  ·simp only [hlen]; exact HQ6.out
  ·simp only [hlen]; exact o6
  ·intro x hx
   simp only [le2, List.mem_append, List.mem_cons, List.not_mem_nil, or_false] at hx
   rcases hx with hx | rfl | rfl
   ·exact hby x (List.mem_of_mem_take hx)
   all_goals omega
  ·exact (Kw.of_box HQ2.out hBq hBw HG5.out).trans ((Kw.drewl _ _).trans (Kw.of_own HO5.out (Nat.le_trans hBw HG5.out.size) HG6.out))
theorem run_any (B q k : Nat) (st : St) (w : World) (hW : WrAt w B q st) (hl : st.laid.length ≤ 900000000) (hl2 : 2 ≤ st.laid.length) (hk : k ≤ 2) (hct : st.count ≤ 65535) :
  Calls Tryd.prog 63 #[.pointer (some ⟨q, 0, none⟩), .int .i64 (k : Int)] w fun e w' => e = .returned (.tuple #[]) ∧ WrAt w' B q (runS st k) ∧ Kw B w w' := by
 by_cases hnew : st.kind ≠ k ∨ st.count = 0 ∨ st.count = 65535
 ·have hpost : runS st k = ⟨st.laid ++ ([(k : Int)] ++ le2 1), k, 1⟩ := by unfold runS; rw [if_pos hnew]
  rw [hpost]
  obtain ⟨laid, kind, count⟩ := st
  simp only at *
  by_cases h1 : kind = k
  ·by_cases h2 : count = 0
   ·exact run_new2 B q k laid kind count w hW hl hk (by simp [h1]) (by simp [h2])
   ·exact run_new3 B q k laid kind count w hW hl hk (by simp [h1]) (by simp; omega) (by simp; omega)
  ·exact run_new1 B q k laid kind count w hW hl hk (by simp; omega)
 ·exact run_moreN B q k st w hW hl hl2 hk hct hnew
end Go.Proofs.YtnmnhgagnfodhaaDoor
