/-
  SEAT YtdiifegljonojaaDoor: ParcelReads: the walk.
-/
import Derived.Test.YtdiifegljonojaaDoorSp
import Derived.Test.YtdiifegljonojaaDoorSr
namespace Go.Proofs.YtdiifegljonojaaDoor
open Go.RowKit
set_option linter.unusedVariables false

set_option maxHeartbeats 2000000 in
set_option maxRecDepth 100000 in
theorem rlarge_row (a : Option Addr) (n c : Nat) (bs : List Int) (w : World) (hr : Reads w a n bs) (hn : n ≤ 1048640) (hnc : n ≤ c) (hc : c ≤ 9223372036854775807) :
    Calls Tryd.prog 8 #[.slice a n c] w fun e w' => (∃ z, e = .returned (.int .i64 z)) ∧ Below w.heap.size w w' := by
  by_cases h15 : n < 15
  · have i15 : (n : Int) < 15 := by omega
    clear hr
    go_enter Tryd.func8, Tryd.ntmps8
    go_wp2
    go_ret
    exact ⟨⟨0, rfl⟩, Below.refl _ _⟩
  · obtain ⟨b, off, rfl, hb, _⟩ := hr.pos (by omega)
    exact rlarge_any b off n c bs w hr hb hn hnc hc
set_option maxHeartbeats 2000000 in
set_option maxRecDepth 100000 in
theorem rread_row (a : Option Addr) (n c : Nat) (bs : List Int) (w : World) (hr : Reads w a n bs) (hn : n ≤ 1048640) (hnc : n ≤ c) (hc : c ≤ 9223372036854775807) :
    Calls Tryd.prog 9 #[.slice a n c] w fun e w' => RdV w (openR bs) e w' ∧ Below w.heap.size w w' := by
  have herr : ¬ bs.take 5 = [80, 82, 67, 76, 1] → openR bs = .error 190 := fun h => by unfold openR piecesR; rw [if_neg h]
  by_cases h5 : n < 5
  · have hne : ¬ bs.take 5 = [80, 82, 67, 76, 1] := by
      intro h9
      have h8 := congrArg List.length h9
      rw [List.length_take, hr.1] at h8
      simp at h8
      omega
    rw [herr hne]
    have i5 : (n : Int) < 5 := by omega
    clear hr herr hne
    go_enter Tryd.func9, Tryd.ntmps9
    go_wp2
    go_ret2
    exact ⟨rfl, Below.refl _ _⟩
  · obtain ⟨b, off, rfl, hb, _⟩ := hr.pos (by omega)
    by_cases hm : bs.take 5 = [80, 82, 67, 76, 1]
    · exact rread_main b off n c bs w hr hb hn hnc hc hm
    · rw [herr hm]
      refine (rread_bad b off n c bs w hr hn hm).mono ?_
      rintro e u ⟨rfl, rfl⟩
      exact ⟨rfl, Below.refl _ _⟩
theorem ls_nil (w : World) (B : Nat) : LsOn w B (.slice none 0 0) [] := ⟨World.ownsRow_nil _ _ _ _, fun x hx => by cases hx⟩
theorem seal_len (zs : List Int) : (sealL zs).length = zs.length + 4 := by unfold sealL; rw [List.length_append, leN_len]
theorem seal_byt {zs : List Int} (h : Byt zs) : Byt (sealL zs) := by
  intro x hx
  unfold sealL at hx
  rcases List.mem_append.1 hx with h9 | h9
  · exact h x h9
  · exact leN_byt 4 _ x h9

theorem room_front {zs : List Int} {n : Nat} (h : zs.length = n) : (room zs 70).take n = zs := by
  unfold room
  rw [← h, List.take_left']
  rfl
theorem own_lt {w : World} {B g n cap : Nat} {xs : List Int} (h : Own w B g n cap xs) (hn : 0 < n) : g < w.heap.size := by
  rcases h.2 with ⟨hv, h0⟩ | ⟨g', cap', cur, hv, _, hg, _⟩
  · cases hv
  · have h9 : g = g' := by injection hv with h1; injection h1 with h2; injection h2
    rw [h9]
    exact (Array.getElem?_eq_some_iff.1 hg).1

set_option maxHeartbeats 8000000 in
set_option maxRecDepth 100000 in
theorem readsWalk (a : Option Addr) (n c : Nat) (zs : List Int) (w : World) (hr : Reads w a n zs) (hn : n ≤ 1048576) (hnc : n ≤ c ∧ c ≤ 9223372036854775807) (ht : Tab w) :
    Calls Tryd.prog 3 #[.slice a n c] w fun e w' => e = .returned (.bool true) ∧ Below w.heap.size w w' := by
  obtain ⟨hnc, hc⟩ := hnc
  have HR := hide hr
  have HT := hide ht
  clear hr ht
  go_enter Tryd.func3, Tryd.ntmps3
  go_wp2_with (first
    | (go_at_call 7; refine (rsealed_any a n c zs _ HR.out (by omega)).mono ?_; rintro e t1 ⟨g, cc, rfl, own, b1⟩
       have HO1 := hide own
       have HB1 := hide b1
       clear own b1))
  have b2 := below_alloc t1 (.cells #[.slice a n c, .slice (some ⟨g, 0, none⟩) (n + 4) cc] 22)
  have hrow := heap_alloc_new t1 (.cells #[.slice a n c, .slice (some ⟨g, 0, none⟩) (n + 4) cc] 22)
  have HBU := hide (below_join HB1.out b2)
  have HOU := hide (HO1.out.below b2)
  have HRU := hide ((HR.out.below HB1.out).below b2)
  have HTU := hide ((HT.out.below HB1.out).below b2)
  have HRW0 := hide hrow
  clear b2 hrow HO1 HB1 HR HT
  obtain ⟨U, hU⟩ : ∃ U, t1.alloc (.cells #[.slice a n c, .slice (some ⟨g, 0, none⟩) (n + 4) cc] 22) = U := ⟨_, rfl⟩
  rw [hU] at HBU HOU HRU HTU HRW0 ⊢
  obtain ⟨R, hRe⟩ : ∃ R, t1.heap.size = R := ⟨_, rfl⟩
  rw [hRe] at HRW0 ⊢
  have hRU : R < U.heap.size := (Array.getElem?_eq_some_iff.1 HRW0.out).1
  clear hU hRe
  go_loopw [4] (fun i wr => ∃ k : Nat, k ≤ 2 ∧ i = .int .i64 (k : Int) ∧ Hid (Below U.heap.size U wr)) (fun i _ => 2 - (intOf i).toNat)
  case atStart => exact ⟨0, by omega, rfl, Below.refl _ _⟩
  case round =>
    obtain ⟨k, hk, rfl, HBR⟩ := hrel
    have hR : R < wr.heap.size := Nat.lt_of_lt_of_le hRU HBR.out.size
    by_cases hlt : k < 2
    · have i1 : (k : Int) < 2 := by omega
      have wk : IntKind.i64.wrap ((k : Int) + 1) = (k : Int) + 1 := by rw [IntKind.wrap_i64]; omega
      obtain ⟨ak, nk, ck, bk, hcell, hrd, hk1, hk2, hk3⟩ : ∃ ak nk ck bk, wr.cell? ⟨R, k, none⟩ = some (.slice ak nk ck) ∧ Reads wr ak nk bk ∧ nk ≤ 1048640 ∧ nk ≤ ck ∧ ck ≤ 9223372036854775807 := by
        have hcU : ∀ j, U.cell? ⟨R, j, none⟩ = (#[.slice a n c, .slice (some ⟨g, 0, none⟩) (n + 4) cc] : Array Value)[j]? := fun j => by simp [World.cell?, HRW0.out]
        rcases (show k = 0 ∨ k = 1 by omega) with rfl | rfl
        · exact ⟨a, n, c, zs, by rw [HBR.out.cell hRU, hcU]; rfl, HRU.out.below HBR.out, by omega, hnc, hc⟩
        · have hrm := HOU.out.room_le (by omega)
          have h9 := hrm.2
          unfold maxLen at h9
          exact ⟨some ⟨g, 0, none⟩, n + 4, cc, sealL zs, by rw [HBR.out.cell hRU, hcU]; rfl, (HOU.out.all (seal_byt HRU.out.2.1)).below HBR.out, by omega, hrm.1, by omega⟩
      have HRD := hide hrd
      clear hrd
      go_upto_if 25 with (first
        | (go_at_call 8; refine (rlarge_row ak nk ck bk _ HRD.out hk1 hk2 hk3).mono ?_; rintro e u1 ⟨⟨z, rfl⟩, b1⟩
           have hc1 : u1.cell? ⟨R, k, none⟩ = some (.slice ak nk ck) := (by rw [b1.cell hR]; exact hcell)
           have HRD1 := hide (HRD.out.below b1)
           have hR1 : R < u1.heap.size := Nat.lt_of_lt_of_le hR b1.size
           have HB1 := hide (below_join HBR.out b1)
           clear b1 hcell))
      by_cases hz : 4194304 < z
      ·
        go_wp2_with fail
        go_roundw
        case rel => exact ⟨k + 1, by omega, by go_num, HB1⟩
        case measure => simp [intOf]; omega
      · have HTB := HTU
        cases hop : openR bk with
        | error x =>
          have HOP := hide hop
          clear hop
          go_wp2_with (first
            | (go_at_call 9; refine (rread_row ak nk ck bk _ HRD1.out hk1 hk2 hk3).mono ?_; rintro e u2 ⟨rv, b2⟩; rw [HOP.out] at rv
               obtain rfl : e = .returned (.tuple #[.slice none 0 0, .int .i64 x]) := rv
               have hc2 : u2.cell? ⟨R, k, none⟩ = some (.slice ak nk ck) := (by rw [b2.cell hR1]; exact hc1)
               have HRD2 := hide (HRD1.out.below b2)
               have hR2 : R < u2.heap.size := Nat.lt_of_lt_of_le hR1 b2.size
               have HB2 := hide (below_join HB1.out b2)
               have HLW := hide (ls_nil u2 0)
               clear b2 hc1)
            | (go_at_call 10; refine (roomy_any ak nk ck bk _ (by omega) HRD2.out).mono ?_; rintro e u3 ⟨g3, c3, rfl, own3, b3⟩
               have hc3 : u3.cell? ⟨R, k, none⟩ = some (.slice ak nk ck) := (by rw [b3.cell hR2]; exact hc2)
               have HRD3 := hide (HRD2.out.below b3)
               have hR3 : R < u3.heap.size := Nat.lt_of_lt_of_le hR2 b3.size
               have HB3 := hide (below_join HB2.out b3)
               have HLW3 := hide (HLW.out.below b3)
               have hrm := own3.room_le (by omega)
               have hcc3 : c3 ≤ 9223372036854775807 := (by have h9 := hrm.2; unfold maxLen at h9; omega)
               have j3 : (nk : Int) ≤ (c3 : Int) := (by have := hrm.1; omega)
               have hfr : Reads u3 (some ⟨g3, 0, none⟩) nk bk := (by
                 have h9 := (own3.all (room_range bk 70 HRD3.out.2.1)).front nk (by omega)
                 rw [room_front HRD3.out.1] at h9
                 exact h9)
               have hg3 : g3 < u3.heap.size := (own_lt own3 (by omega))
               have HFR := hide hfr
               have HO3 := hide own3
               clear own3 b3 hc2 hrm hfr)
            | (go_at_call 11; refine (read_any g3 0 nk c3 bk _ HFR.out hg3 hk1 (by omega) hcc3 (HTB.out.below HB3.out)).mono ?_; rintro e u4 ⟨rv, b4⟩; rw [HOP.out] at rv
               obtain rfl : e = .returned (.tuple #[.slice none 0 0, .int .i64 x]) := rv
               have hc4 : u4.cell? ⟨R, k, none⟩ = some (.slice ak nk ck) := (by rw [b4.cell hR3]; exact hc3)
               have HRD4 := hide (HRD3.out.below b4)
               have hR4 : R < u4.heap.size := Nat.lt_of_lt_of_le hR3 b4.size
               have HB4 := hide (below_join HB3.out b4)
               have HLW4 := hide (HLW3.out.below b4)
               have HLP := hide (ls_nil u4 0)
               have HO4 := hide (HO3.out.below b4)
               clear b4 hc3)
            | (go_at_call 12; refine (no_any x _).mono ?_; rintro e u9 ⟨rfl, rfl⟩)
            | (go_at_call 13; refine (alike_eq _ _ _ _ [] []  _ HLP.out HLW4.out rfl (fun x hx => by cases hx)).mono ?_; rintro e u5 ⟨rfl, b5⟩
               have hc5 : u5.cell? ⟨R, k, none⟩ = some (.slice ak nk ck) := (by rw [b5.cell hR4]; exact hc4)
               have HRD5 := hide (HRD4.out.below b5)
               have HB5 := hide (below_join HB4.out b5)
               have HO5 := hide (HO4.out.below b5)
               clear b5 hc4)
            | (go_at_call 14; refine (kept_any _ g3 c3 nk ck ak bk _ (by omega) HRD5.out HO5.out).mono ?_; rintro e u9 ⟨rfl, rfl⟩))
          go_roundw
          case rel => exact ⟨k + 1, by omega, by go_num, HB5⟩
          case measure => simp [intOf]; omega
        | ok l =>
          have HOP := hide hop
          have HBL := hide (openR_byt HRD1.out.2.1 hop)
          clear hop
          go_wp2_with (first
            | (go_at_call 9; refine (rread_row ak nk ck bk _ HRD1.out hk1 hk2 hk3).mono ?_; rintro e u2 ⟨rv, b2⟩; rw [HOP.out] at rv
               obtain ⟨v2, es, rfl, hes, les⟩ := rv
               have hc2 : u2.cell? ⟨R, k, none⟩ = some (.slice ak nk ck) := (by rw [b2.cell hR1]; exact hc1)
               have HRD2 := hide (HRD1.out.below b2)
               have hR2 : R < u2.heap.size := Nat.lt_of_lt_of_le hR1 b2.size
               have HB2 := hide (below_join HB1.out b2)
               have HLW := hide les
               clear b2 hc1 les)
            | (go_at_call 10; refine (roomy_any ak nk ck bk _ (by omega) HRD2.out).mono ?_; rintro e u3 ⟨g3, c3, rfl, own3, b3⟩
               have hc3 : u3.cell? ⟨R, k, none⟩ = some (.slice ak nk ck) := (by rw [b3.cell hR2]; exact hc2)
               have HRD3 := hide (HRD2.out.below b3)
               have hR3 : R < u3.heap.size := Nat.lt_of_lt_of_le hR2 b3.size
               have HB3 := hide (below_join HB2.out b3)
               have HLW3 := hide (HLW.out.below b3)
               have hrm := own3.room_le (by omega)
               have hcc3 : c3 ≤ 9223372036854775807 := (by have h9 := hrm.2; unfold maxLen at h9; omega)
               have j3 : (nk : Int) ≤ (c3 : Int) := (by have := hrm.1; omega)
               have hfr : Reads u3 (some ⟨g3, 0, none⟩) nk bk := (by
                 have h9 := (own3.all (room_range bk 70 HRD3.out.2.1)).front nk (by omega)
                 rw [room_front HRD3.out.1] at h9
                 exact h9)
               have hg3 : g3 < u3.heap.size := (own_lt own3 (by omega))
               have HFR := hide hfr
               have HO3 := hide own3
               clear own3 b3 hc2 hrm hfr)
            | (go_at_call 11; refine (read_any g3 0 nk c3 bk _ HFR.out hg3 hk1 (by omega) hcc3 (HTB.out.below HB3.out)).mono ?_; rintro e u4 ⟨rv, b4⟩; rw [HOP.out] at rv
               obtain ⟨v4, fs, rfl, hfs, lfs⟩ := rv
               have hc4 : u4.cell? ⟨R, k, none⟩ = some (.slice ak nk ck) := (by rw [b4.cell hR3]; exact hc3)
               have HRD4 := hide (HRD3.out.below b4)
               have hR4 : R < u4.heap.size := Nat.lt_of_lt_of_le hR3 b4.size
               have HB4 := hide (below_join HB3.out b4)
               have HLW4 := hide (HLW3.out.below b4)
               have HLP := hide lfs
               have HO4 := hide (HO3.out.below b4)
               clear b4 hc3 lfs)
            | (go_at_call 12; refine (no_any 0 _).mono ?_; rintro e u9 ⟨rfl, rfl⟩)
            | (go_at_call 13; refine (alike_eq _ _ v4 v2 fs es  _ HLP.out HLW4.out (hfs.trans hes.symm) (fun x hx => HBL.out x.l (by rw [← hfs]; exact List.mem_map_of_mem hx))).mono ?_; rintro e u5 ⟨rfl, b5⟩
               have hc5 : u5.cell? ⟨R, k, none⟩ = some (.slice ak nk ck) := (by rw [b5.cell hR4]; exact hc4)
               have HRD5 := hide (HRD4.out.below b5)
               have HB5 := hide (below_join HB4.out b5)
               have HO5 := hide (HO4.out.below b5)
               clear b5 hc4)
            | (go_at_call 14; refine (kept_any _ g3 c3 nk ck ak bk _ (by omega) HRD5.out HO5.out).mono ?_; rintro e u9 ⟨rfl, rfl⟩))
          go_roundw
          case rel => exact ⟨k + 1, by omega, by go_num, HB5⟩
          case measure => simp [intOf]; omega
    · obtain rfl : k = 2 := by omega
      have i1 : ¬ ((2 : Nat) : Int) < 2 := by omega
      go_wp2
      go_ret
      exact ⟨rfl, below_join HBU.out HBR.out⟩
end Go.Proofs.YtdiifegljonojaaDoor
