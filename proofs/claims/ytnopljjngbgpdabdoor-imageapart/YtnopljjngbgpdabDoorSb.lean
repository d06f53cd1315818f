/-
  SEAT YtnopljjngbgpdabDoor: the laws' own image.
-/
import Derived.Test.YtnopljjngbgpdabDoorSa
namespace Go.Proofs.YtnopljjngbgpdabDoor
open Go.RowKit
set_option linter.unusedVariables false

def hdM : List Bool := [false, false, false, true, false, false, false, false]
def hdI : Img := ⟨8, 4, 1, List.replicate 10016 255, hdM⟩
def hdP : List Int := [83, 72, 65, 76, 1, 8, 0, 4, 0, 1, 8, 0, 32, 0]

theorem chunks_rep (L n : Nat) : chunks L n (List.replicate (n * L) (255 : Int)) = List.replicate n (List.replicate L 255) := by
  have h := chunks_of L (List.replicate n (List.replicate L (255 : Int))) (fun g hg => by rw [List.eq_of_mem_replicate hg, List.length_replicate])
  rw [List.length_replicate, List.flatten_replicate_replicate] at h
  exact h

theorem pgs_one (p : Pc) : pgs [p] = List.replicate p.n p.g := by simp [pgs]

theorem hd_ok : hdI.Ok := by
  refine ⟨by decide, ?_, rfl, ?_⟩
  · show (List.replicate 10016 (255 : Int)).length = 8 * 4 * (256 * 1 + (54 + 3 * 1))
    rw [List.length_replicate]
  · intro x hx
    rw [List.eq_of_mem_replicate (show x ∈ List.replicate 10016 (255 : Int) from hx)]
    omega

theorem hd_body : bodyL hdI = hdP := by
  have h1 : chain (hdI.C + hdI.S) Pc.z [⟨0, 32, List.replicate 313 255⟩] := by
    refine ⟨⟨rfl, Or.inl ⟨rfl, by decide, by decide, rfl⟩⟩, trivial⟩
  have h2 : pgs [⟨0, 32, List.replicate 313 255⟩] = chunks (hdI.C + hdI.S) (hdI.b * hdI.p) hdI.cs := by
    show _ = chunks 313 32 (List.replicate (32 * 313) (255 : Int))
    rw [chunks_rep, pgs_one]
  rw [body_chain hdI _ h1 h2]
  rfl

theorem hd_len : (packL hdI).length = 18 := by
  rw [packL, sealL, hd_body, List.length_append]
  rfl

theorem hd_take : (packL hdI).take 14 = hdP := by
  rw [packL, sealL, hd_body]
  exact List.take_left' rfl

theorem reads_alloc (u : World) (zs : List Int) (hb : Byt zs) : Reads (u.alloc (.cells (zs.map (Value.int .u8)).toArray 5)) (some ⟨u.heap.size, 0, none⟩) zs.length zs := by
  refine ⟨rfl, hb, by simp, fun x hx i hi => ?_⟩
  cases hx
  rw [plain_add, Nat.zero_add]
  have h9 := heap_alloc_new u (.cells (zs.map (Value.int .u8)).toArray 5)
  simp only [World.cell?, h9]
  simp [List.getD, List.getElem?_eq_getElem hi]

theorem hd_reads (u : World) : Reads (u.alloc (.cells #[.int .u8 83, .int .u8 72, .int .u8 65, .int .u8 76, .int .u8 1, .int .u8 8, .int .u8 0, .int .u8 4, .int .u8 0, .int .u8 1, .int .u8 8, .int .u8 0, .int .u8 32, .int .u8 0] 5)) (some ⟨u.heap.size, 0, none⟩) 14 hdP := reads_alloc u hdP (by unfold Byt; decide)

theorem hd_marks (u : World) : ReadsB (u.alloc (.cells #[.bool false, .bool false, .bool false, .bool true, .bool false, .bool false, .bool false, .bool false] 4)) (some ⟨u.heap.size, 0, none⟩) 8 hdM := by
  refine ⟨rfl, by simp, fun x hx i hi => ?_⟩
  cases hx
  rw [plain_add, Nat.zero_add]
  match i, hi with
  | 0, _ => simp [hdM]
  | 1, _ => simp [hdM]
  | 2, _ => simp [hdM]
  | 3, _ => simp [hdM]
  | 4, _ => simp [hdM]
  | 5, _ => simp [hdM]
  | 6, _ => simp [hdM]
  | 7, _ => simp [hdM]

theorem read_n (bk off n c : Nat) (bs : List Int) (w : World) (hn : bs.length = n) (hr : Reads w (some ⟨bk, off, none⟩) n bs) (hl : n ≤ 200000000000000) (hnc : n ≤ c) (hc : c ≤ 9223372036854775807) (hbk : bk < w.heap.size) (ht : Tab w) :
    Calls Tryd.prog 13 #[.slice (some ⟨bk, off, none⟩) n c] w fun e w' => RdRes w w' e (readR bs) ∧ Below w.heap.size w w' := by
  subst hn
  exact read_any bk off c bs w hr hl hnc hc hbk ht

set_option maxRecDepth 100000 in
theorem hd_res {w w' : World} {e : Ending} (h : RdRes w w' e (readR (packL hdI))) : ∃ g3 c3 gm, e = .returned (.tuple #[.agg #[.int .i64 8, .int .i64 4, .int .i64 1, .slice (some ⟨g3, 0, none⟩) 10016 c3, .slice (some ⟨gm, 0, none⟩) 8 8], .int .i64 0]) ∧ Own w' w.heap.size g3 10016 c3 (List.replicate 10016 255) ∧ OwnB w' w.heap.size gm 8 8 hdM := by
  rw [back hdI hd_ok] at h
  obtain ⟨g3, c3, gm, he, ho, hm⟩ := h
  have e1 : hdI.cs.length = 10016 := List.length_replicate
  rw [e1] at he ho
  exact ⟨g3, c3, gm, he, ho, hm⟩

set_option maxRecDepth 100000 in
theorem hd_pack (g cp : Nat) (a : Option Addr) (w : World) (hr : Reads w (some ⟨g, 0, none⟩) 10016 (List.replicate 10016 255)) (hm : ReadsB w a 8 hdM) (hg : g < w.heap.size) (h1 : 10016 ≤ cp) (h2 : cp ≤ 9223372036854775807) (ht : Tab w) :
    Calls Tryd.prog 11 #[.agg #[.int .i64 8, .int .i64 4, .int .i64 1, .slice (some ⟨g, 0, none⟩) 10016 cp, .slice a 8 8]] w fun e w' => ∃ g1 p1, e = .returned (.tuple #[.slice (some ⟨g1, 0, none⟩) 18 p1, .int .i64 0]) ∧ Own w' w.heap.size g1 18 p1 (packL hdI) ∧ Below w.heap.size w w' := by
  refine (pack_ok hdI g 0 10016 cp a 8 8 w hd_ok hr hm hg h1 h2 ht).mono ?_
  rintro e w' ⟨g1, p1, he, ho, hb⟩
  rw [hd_len] at he ho
  exact ⟨g1, p1, he, ho, hb⟩

theorem hd_chk : chkE 8 4 1 10016 8 = 0 := by decide

set_option maxHeartbeats 4000000 in
set_option maxRecDepth 100000 in
theorem heads_any (w : World) (ht : Tab w) : Calls Tryd.prog 9 #[] w fun e w' => e = .returned (.bool true) ∧ Below w.heap.size w w' := by
  have HTB : Hid (Tab w) := ht
  clear ht
  go_enter Tryd.func9, Tryd.ntmps9
  go_wp2
  go_loopg [2] 10016 (fun gh s2 wr => ∃ (i : Nat) (v : Value), i ≤ 10016 ∧ 10016 - i ≤ gh ∧ s2 = .int .i64 (i : Int) ∧ Hid (wr.heap[w.heap.size]? = some (.cells #[.int .i64 8, .int .i64 4, .int .i64 1, v, .slice none 0 0] 27 (0, 0))) ∧ Hid (wr.ownsRow (w.heap.size + 1) 5 1 v i ((List.replicate i (255 : Int)).map (Value.int .u8))) ∧ Hid (Below w.heap.size w wr))
  case atStart => exact ⟨0, _, Nat.zero_le _, by omega, rfl, heap_alloc_new _ _, World.ownsRow_nil _ _ _ _, below_alloc _ _⟩
  case round =>
    obtain ⟨i, v, hi, hig, rfl, HX, HO, HB⟩ := hrel
    by_cases hlt : i < 10016
    · have d1 : (i : Int) < 10016 := by omega
      obtain ⟨c0, c1, c2, c3, c4⟩ := cells5 HX.out
      have HR : Hid (Reads (wr.alloc (.cells #[.int .u8 255] 5)) (some ⟨wr.heap.size, 0, none⟩) 1 [255]) := by
        refine ⟨rfl, by simp, by simp, fun x hx j hj => ?_⟩
        cases hx
        obtain rfl : j = 0 := by omega
        simp [Addr.add]
      have hbw := HB.out.size
      have HW : Hid (w.heap.size + 1 ≤ wr.heap.size) := (Array.getElem?_eq_some_iff.1 HX.out).1
      go_wp2_with (first
        | (at_builtin; refine wpList_append_reads rfl (.tmp 14) (.tmp 15) rfl (w.heap.size + 1) v i (List.replicate i 255) rfl (HO.out.alloc _) _ 1 1 [255] rfl HR.out (by omega) (by have := HW.out; simp; omega) ?_; intro v2 w2 own2 grow2; obtain ⟨g2, cp2, rfl, _⟩ := own_shape own2 (by omega)
           have HO2 : Hid (w2.ownsRow (w.heap.size + 1) 5 1 (.slice (some ⟨g2, 0, none⟩) (i + 1) cp2) (i + 1) ((List.replicate (i + 1) (255 : Int)).map (Value.int .u8))) := by unfold Hid; rw [List.replicate_succ']; exact own2
           have HX2 : Hid (w2.heap[w.heap.size]? = some (.cells #[.int .i64 8, .int .i64 4, .int .i64 1, v, .slice none 0 0] 27 (0, 0))) := (grow2.block _ (by have := HW.out; simp; omega) (fun e => by have := (HO.out.lt _ e.symm).1; omega)).trans ((Below.heap_alloc _ _ _ (by have := HW.out; omega)).trans HX.out)
           have HB2 : Hid (Below w.heap.size w w2) := (HB.out.alloc HB.out.size _).grown grow2 (by simp; omega) (fun q hq => by have := (HO.out.lt _ hq).1; omega)
           clear own2 grow2 c0 c1 c2 c3 c4
           obtain ⟨c0, c1, c2, c3, c4⟩ := cells5 HX2.out
           have f3 := frozen5 HX2.out 3))
      go_roundg (10016 - (i + 1))
      case measure => omega
      case rel =>
        have gS := set_grown w2 w.heap.size 3 (.slice (some ⟨g2, 0, none⟩) (i + 1) cp2)
        refine ⟨i + 1, .slice (some ⟨g2, 0, none⟩) (i + 1) cp2, by omega, Nat.le_refl _, by go_num, ?_, ?_, ?_⟩
        · exact Joins.block_setCell HX2.out _
        · exact HO2.out.kept gS (Or.inr fun e => by have := (HO2.out.lt _ e).1; omega)
        · exact below_grown HB2.out gS (Nat.le_refl _)
    · obtain rfl : i = 10016 := by omega
      obtain ⟨g, cp, rfl, hcp1, hcp2, hgb, hgl⟩ := own_shape HO.out (by omega)
      obtain ⟨c0, c1, c2, c3, c4⟩ := cells5 HX.out
      have hW : w.heap.size < wr.heap.size := (Array.getElem?_eq_some_iff.1 HX.out).1
      have HW : Hid (w.heap.size < wr.heap.size) := hW
      have HHC : Hid (10016 ≤ cp ∧ cp ≤ maxLen ∧ w.heap.size + 1 ≤ g ∧ g < wr.heap.size) := ⟨hcp1, hcp2, hgb, hgl⟩
      have HRC : Hid (Reads wr (some ⟨g, 0, none⟩) 10016 (List.replicate 10016 255)) := Own.all HO.out (fun x hx => by rw [List.eq_of_mem_replicate hx]; omega)
      have HF : Hid (wr.frozen? ⟨w.heap.size, 4, none⟩ = false) := frozen5 HX.out 4
      clear hW hcp1 hcp2 hgb hgl HO
      have b7 : Below w.heap.size w (wr.alloc (.cells #[.bool false, .bool false, .bool false, .bool true, .bool false, .bool false, .bool false, .bool false] 4)) := HB.out.alloc HB.out.size _
      have gS := set_grown (wr.alloc (.cells #[.bool false, .bool false, .bool false, .bool true, .bool false, .bool false, .bool false, .bool false] 4)) w.heap.size 4 (.slice (some ⟨wr.heap.size, 0, none⟩) 8 8)
      have hx7 : (wr.alloc (.cells #[.bool false, .bool false, .bool false, .bool true, .bool false, .bool false, .bool false, .bool false] 4)).heap[w.heap.size]? = some (.cells #[.int .i64 8, .int .i64 4, .int .i64 1, .slice (some ⟨g, 0, none⟩) 10016 cp, .slice none 0 0] 27 (0, 0)) := (Below.heap_alloc _ _ _ HW.out).trans HX.out
      have f4 := frozen5 hx7 4
      have k4 := (cells5 hx7).2.2.2.2
      have HX7 : Hid (((wr.alloc (.cells #[.bool false, .bool false, .bool false, .bool true, .bool false, .bool false, .bool false, .bool false] 4)).setCell ⟨w.heap.size, 4, none⟩ (.slice (some ⟨wr.heap.size, 0, none⟩) 8 8)).heap[w.heap.size]? = some (.cells #[.int .i64 8, .int .i64 4, .int .i64 1, .slice (some ⟨g, 0, none⟩) 10016 cp, .slice (some ⟨wr.heap.size, 0, none⟩) 8 8] 27 (0, 0))) := Joins.block_setCell hx7 _
      have HB7 : Hid (Below w.heap.size w ((wr.alloc (.cells #[.bool false, .bool false, .bool false, .bool true, .bool false, .bool false, .bool false, .bool false] 4)).setCell ⟨w.heap.size, 4, none⟩ (.slice (some ⟨wr.heap.size, 0, none⟩) 8 8))) := below_grown b7 gS (Nat.le_refl _)
      have HRC7 : Hid (Reads ((wr.alloc (.cells #[.bool false, .bool false, .bool false, .bool true, .bool false, .bool false, .bool false, .bool false] 4)).setCell ⟨w.heap.size, 4, none⟩ (.slice (some ⟨wr.heap.size, 0, none⟩) 8 8)) (some ⟨g, 0, none⟩) 10016 (List.replicate 10016 255)) := by
        have h9 := HHC.out
        have h8 := HRC.out.below (below_alloc wr (.cells #[.bool false, .bool false, .bool false, .bool true, .bool false, .bool false, .bool false, .bool false] 4))
        refine ⟨h8.1, h8.2.1, h8.2.2.1, fun x hx j hj => ?_⟩
        have h7 := h8.2.2.2 x hx j hj
        cases hx
        rw [plain_add] at h7 ⊢
        rw [← h7]
        simp only [World.cell?]
        rw [gS.block g (by simp; omega) (fun e => by have e' := Option.some.inj e; omega)]
      have HRM7 : Hid (ReadsB ((wr.alloc (.cells #[.bool false, .bool false, .bool false, .bool true, .bool false, .bool false, .bool false, .bool false] 4)).setCell ⟨w.heap.size, 4, none⟩ (.slice (some ⟨wr.heap.size, 0, none⟩) 8 8)) (some ⟨wr.heap.size, 0, none⟩) 8 hdM) := by
        have h8 := hd_marks wr
        have h9 := HW.out
        refine ⟨h8.1, h8.2.1, fun x hx j hj => ?_⟩
        have h7 := h8.2.2 x hx j hj
        cases hx
        rw [plain_add] at h7 ⊢
        rw [← h7]
        simp only [World.cell?]
        rw [gS.block wr.heap.size (by simp) (fun e => by have e' := Option.some.inj e; omega)]
      have HT7 : Hid (Tab ((wr.alloc (.cells #[.bool false, .bool false, .bool false, .bool true, .bool false, .bool false, .bool false, .bool false] 4)).setCell ⟨w.heap.size, 4, none⟩ (.slice (some ⟨wr.heap.size, 0, none⟩) 8 8))) := HTB.out.below HB7.out
      have HG7 : Hid (g < ((wr.alloc (.cells #[.bool false, .bool false, .bool false, .bool true, .bool false, .bool false, .bool false, .bool false] 4)).setCell ⟨w.heap.size, 4, none⟩ (.slice (some ⟨wr.heap.size, 0, none⟩) 8 8)).heap.size) := by have h9 := HHC.out; unfold Hid; simp; omega
      obtain ⟨n0, n1, n2, n3, n4⟩ := cells5 HX7.out
      have hcp : 10016 ≤ cp ∧ cp ≤ 9223372036854775807 := by have h9 := HHC.out; simp only [maxLen] at h9; omega
      clear b7 gS hx7 c0 c1 c2 c3 c4
      go_wp2_with (first
        | (go_at_call 11; refine (hd_pack g cp _ _ HRC7.out HRM7.out HG7.out hcp.1 hcp.2 HT7.out).mono ?_; rintro e t1 ⟨g1, p1, rfl, o1, b1⟩
           have HX8 : Hid (t1.heap[w.heap.size]? = some (.cells #[.int .i64 8, .int .i64 4, .int .i64 1, .slice (some ⟨g, 0, none⟩) 10016 cp, .slice (some ⟨wr.heap.size, 0, none⟩) 8 8] 27 (0, 0))) := (b1.block _ (Array.getElem?_eq_some_iff.1 HX7.out).1).trans HX7.out
           have HB8 : Hid (Below w.heap.size w t1) := below_trans HB7.out b1
           have HRC8 : Hid (Reads t1 (some ⟨g, 0, none⟩) 10016 (List.replicate 10016 255)) := HRC7.out.below b1
           have HRM8 : Hid (ReadsB t1 (some ⟨wr.heap.size, 0, none⟩) 8 hdM) := HRM7.out.below b1
           have HO8 : Hid (Reads t1 (some ⟨g1, 0, none⟩) 18 (packL hdI)) := o1.all (pack_byt hdI hd_ok)
           have hp1 := o1.room_le (by omega)
           have hp2 : 18 ≤ p1 ∧ p1 ≤ 9223372036854775807 := by simp only [maxLen] at hp1; omega
           have hp3 : (14 : Int) ≤ (p1 : Int) := by omega
           have hp4 : 14 ≤ p1 := by omega
           have HG8 : Hid (g1 < t1.heap.size) := o1.lt.2
           have HRL : Hid (Reads (t1.alloc (.cells #[.int .u8 83, .int .u8 72, .int .u8 65, .int .u8 76, .int .u8 1, .int .u8 8, .int .u8 0, .int .u8 4, .int .u8 0, .int .u8 1, .int .u8 8, .int .u8 0, .int .u8 32, .int .u8 0] 5)) (some ⟨g1, 0, none⟩) 14 hdP) := by have h9 := (HO8.out.front 14 (by omega)).below (below_alloc t1 (.cells #[.int .u8 83, .int .u8 72, .int .u8 65, .int .u8 76, .int .u8 1, .int .u8 8, .int .u8 0, .int .u8 4, .int .u8 0, .int .u8 1, .int .u8 8, .int .u8 0, .int .u8 32, .int .u8 0] 5)); rw [hd_take] at h9; exact h9
           clear b1 o1 hp1 n0 n1 n2 n3 n4)
        | (go_at_call 12; refine (no_any _ _).mono ?_; rintro e t9 ⟨rfl, ht9⟩; rw [ht9]; clear ht9)
        | (go_at_call 16; refine (same_eq _ _ _ _ _ hdP _ HRL.out (hd_reads t1)).mono ?_; rintro e t9 ⟨rfl, ht9⟩; rw [ht9]; clear ht9)
        | (go_at_call 13; refine (read_n g1 0 18 p1 (packL hdI) _ hd_len (HO8.out.below (below_alloc t1 (.cells #[.int .u8 83, .int .u8 72, .int .u8 65, .int .u8 76, .int .u8 1, .int .u8 8, .int .u8 0, .int .u8 4, .int .u8 0, .int .u8 1, .int .u8 8, .int .u8 0, .int .u8 32, .int .u8 0] 5))) (by omega) hp2.1 hp2.2 (by have := HG8.out; simp; omega) ((HTB.out.below HB8.out).below (below_alloc t1 (.cells #[.int .u8 83, .int .u8 72, .int .u8 65, .int .u8 76, .int .u8 1, .int .u8 8, .int .u8 0, .int .u8 4, .int .u8 0, .int .u8 1, .int .u8 8, .int .u8 0, .int .u8 32, .int .u8 0] 5)))).mono ?_; rintro e t2 ⟨res, b2⟩
           obtain ⟨g3, c3, gm, rfl, o3, m3⟩ := hd_res res
           have b3 : Below t1.heap.size t1 (t2.alloc (.cells #[.int .i64 8, .int .i64 4, .int .i64 1, .slice (some ⟨g3, 0, none⟩) 10016 c3, .slice (some ⟨gm, 0, none⟩) 8 8] 27)) := below_trans (below_trans (below_alloc t1 (.cells #[.int .u8 83, .int .u8 72, .int .u8 65, .int .u8 76, .int .u8 1, .int .u8 8, .int .u8 0, .int .u8 4, .int .u8 0, .int .u8 1, .int .u8 8, .int .u8 0, .int .u8 32, .int .u8 0] 5)) b2) (below_alloc _ _)
           have HX9 : Hid ((t2.alloc (.cells #[.int .i64 8, .int .i64 4, .int .i64 1, .slice (some ⟨g3, 0, none⟩) 10016 c3, .slice (some ⟨gm, 0, none⟩) 8 8] 27)).heap[w.heap.size]? = some (.cells #[.int .i64 8, .int .i64 4, .int .i64 1, .slice (some ⟨g, 0, none⟩) 10016 cp, .slice (some ⟨wr.heap.size, 0, none⟩) 8 8] 27 (0, 0))) := (b3.block _ (Array.getElem?_eq_some_iff.1 HX8.out).1).trans HX8.out
           have HB9 : Hid (Below w.heap.size w (t2.alloc (.cells #[.int .i64 8, .int .i64 4, .int .i64 1, .slice (some ⟨g3, 0, none⟩) 10016 c3, .slice (some ⟨gm, 0, none⟩) 8 8] 27))) := below_trans HB8.out b3
           have HRC9 : Hid (Reads (t2.alloc (.cells #[.int .i64 8, .int .i64 4, .int .i64 1, .slice (some ⟨g3, 0, none⟩) 10016 c3, .slice (some ⟨gm, 0, none⟩) 8 8] 27)) (some ⟨g, 0, none⟩) 10016 (List.replicate 10016 255)) := HRC8.out.below b3
           have HRM9 : Hid (ReadsB (t2.alloc (.cells #[.int .i64 8, .int .i64 4, .int .i64 1, .slice (some ⟨g3, 0, none⟩) 10016 c3, .slice (some ⟨gm, 0, none⟩) 8 8] 27)) (some ⟨wr.heap.size, 0, none⟩) 8 hdM) := HRM8.out.below b3
           have HQ9 : Hid (Reads (t2.alloc (.cells #[.int .i64 8, .int .i64 4, .int .i64 1, .slice (some ⟨g3, 0, none⟩) 10016 c3, .slice (some ⟨gm, 0, none⟩) 8 8] 27)) (some ⟨g3, 0, none⟩) 10016 (List.replicate 10016 255)) := (o3.all (fun x hx => by rw [List.eq_of_mem_replicate hx]; omega)).below (below_alloc _ _)
           have HM9 : Hid (ReadsB (t2.alloc (.cells #[.int .i64 8, .int .i64 4, .int .i64 1, .slice (some ⟨g3, 0, none⟩) 10016 c3, .slice (some ⟨gm, 0, none⟩) 8 8] 27)) (some ⟨gm, 0, none⟩) 8 hdM) := by have h9 := (m3.reads 8 (Nat.le_refl _)).below (below_alloc t2 (.cells #[.int .i64 8, .int .i64 4, .int .i64 1, .slice (some ⟨g3, 0, none⟩) 10016 c3, .slice (some ⟨gm, 0, none⟩) 8 8] 27)); exact h9
           have HN9 : Hid ((t2.alloc (.cells #[.int .i64 8, .int .i64 4, .int .i64 1, .slice (some ⟨g3, 0, none⟩) 10016 c3, .slice (some ⟨gm, 0, none⟩) 8 8] 27)).heap[t2.heap.size]? = some (.cells #[.int .i64 8, .int .i64 4, .int .i64 1, .slice (some ⟨g3, 0, none⟩) 10016 c3, .slice (some ⟨gm, 0, none⟩) 8 8] 27 (0, 0))) := heap_alloc_new _ _
           clear res b2 o3 m3 b3
           obtain ⟨n0, n1, n2, n3, n4⟩ := cells5 HX9.out
           obtain ⟨y0, y1, y2, y3, y4⟩ := cells5 HN9.out)
        | (go_at_call 14; refine (alike_eq 8 4 1 _ _ 10016 _ _ (List.replicate 10016 255) _ _ 8 _ _ hdM _ HQ9.out HRC9.out HM9.out HRM9.out (by omega)).mono ?_; rintro e t3 ⟨rfl, b4⟩
           have HXA : Hid (t3.heap[w.heap.size]? = some (.cells #[.int .i64 8, .int .i64 4, .int .i64 1, .slice (some ⟨g, 0, none⟩) 10016 cp, .slice (some ⟨wr.heap.size, 0, none⟩) 8 8] 27 (0, 0))) := (b4.block _ (Array.getElem?_eq_some_iff.1 HX9.out).1).trans HX9.out
           have HBA : Hid (Below w.heap.size w t3) := below_trans HB9.out b4
           clear b4 n0 n1 n2 n3 n4 y0 y1 y2 y3 y4
           obtain ⟨n0, n1, n2, n3, n4⟩ := cells5 HXA.out)
        | (go_at_call 10; refine (check_any 8 4 1 _ _ 10016 _ 8 _ _ (by omega) (by omega)).mono ?_; rintro e t4 ⟨rfl, b5⟩; rw [hd_chk]
           have HBB : Hid (Below w.heap.size w t4) := below_trans HBA.out b5
           clear b5 n0 n1 n2 n3 n4))
      go_ret
      exact ⟨rfl, HBB.out⟩

end Go.Proofs.YtnopljjngbgpdabDoor
