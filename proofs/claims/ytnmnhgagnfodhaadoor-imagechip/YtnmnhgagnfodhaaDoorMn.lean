/-
  SEAT YtnmnhgagnfodhaaDoor: KRd, KTr, KFl, KFm.
-/
import Derived.Test.YtnmnhgagnfodhaaDoorMm
import Derived.Test.YtnmnhgagnfodhaaDoorMa
namespace Go.Proofs.YtnmnhgagnfodhaaDoor.Cp
open Go.RowKit Go.Conc
set_option linter.unusedVariables false
def readL (C : Ch) (i k : Nat) : List Int := match C.bl[i]? with
 | none => []
 | some b => match b.ps[k]? with
  | none => []
  | some q => flipsL q.bits (C.fl i k)
def ReadE (C : Ch) (pb pp : Int) : Int := if C.dark then 45 else if hasP C.B C.P pb pp then 0 else 41
structure RdV (w w' : World) (C : Ch) (pb pp : Int) (e : Ending) : Prop where
 ex : ∃ a1 m1 c1 a2 m2 c2 D Z, e = .returned (.tuple #[.agg #[.slice a1 m1 c1, .slice a2 m2 c2], .int .i64 (ReadE C pb pp)]) ∧ w'.ownsRow w.heap.size 5 1 (.slice a1 m1 c1) m1 (D.map (Value.int .u8)) ∧ w'.ownsRow w.heap.size 5 1 (.slice a2 m2 c2) m2 (Z.map (Value.int .u8)) ∧ (∀ g, (Value.slice a1 m1 c1).ownBlock = some g → (Value.slice a2 m2 c2).ownBlock ≠ some g) ∧
  (if ReadE C pb pp = 0 then m1 = 256 * C.S ∧ m2 = 54 + 3 * C.S ∧ D ++ Z = readL C pb.toNat pp.toNat else m1 = 0 ∧ m2 = 0 ∧ D = [] ∧ Z = [])
 bel : Below w.heap.size w w'
theorem rdv_none {w w' : World} {C : Ch} {pb pp : Int} {z : Int} (hz : ReadE C pb pp = z) (h0 : z ≠ 0) (hb : Below w.heap.size w w') : RdV w w' C pb pp (.returned (.tuple #[.agg #[.slice none 0 0, .slice none 0 0], .int .i64 z])) :=
 ⟨⟨none, 0, 0, none, 0, 0, [], [], by rw [hz], World.ownsRow_nil _ _ _ _, World.ownsRow_nil _ _ _ _, (fun g hg => by cases hg), by rw [hz, if_neg h0]; exact ⟨rfl, rfl, rfl, rfl⟩⟩, hb⟩
set_option maxRecDepth 100000 in
theorem Read_any (w : World) (p : Nat) (F : Nat → Prop) (C : Ch) (h : ChipAt w p F C) (hok : C.Ok) (pb pp : Int) :
  Calls Tryd.prog 16 #[.pointer (some ⟨p, 0, none⟩), .agg #[.int .i64 pb, .int .i64 pp]] w fun e w' => RdV w w' C pb pp e := by
 obtain ⟨x, bs, fe, hc⟩ := h
 have hK := (hc.below (below_alloc _ (.cells #[.int .i64 pb, .int .i64 pp] 45))).below (below_alloc _ (.cells #[.slice none 0 0, .slice none 0 0] 53))
 have c11 := hK.box.c11
 rw [hK.dark] at c11
 have HBB := hide (below_trans (below_alloc w (.cells #[.int .i64 pb, .int .i64 pp] 45)) (below_alloc _ (.cells #[.slice none 0 0, .slice none 0 0] 53)))
 have HK := hide hK
 have HPL0 : Hid (((w.alloc (.cells #[.int .i64 pb, .int .i64 pp] 45)).alloc (.cells #[.slice none 0 0, .slice none 0 0] 53)).heap[w.heap.size]? = some (.cells #[.int .i64 pb, .int .i64 pp] 45 (0, 0))) := (alloc_old _ _ (by simp)).trans (alloc_new w (.cells #[.int .i64 pb, .int .i64 pp] 45))
 have HZ0 : Hid (((w.alloc (.cells #[.int .i64 pb, .int .i64 pp] 45)).alloc (.cells #[.slice none 0 0, .slice none 0 0] 53)).heap[w.heap.size + 1]? = some (.cells #[.slice none 0 0, .slice none 0 0] 53 (0, 0))) := by have h2 := alloc_new (w.alloc (.cells #[.int .i64 pb, .int .i64 pp] 45)) (.cells #[.slice none 0 0, .slice none 0 0] 53); rw [alloc_size] at h2; exact h2
 have HH := hide hc
 clear hc hK
 cases hd : C.dark with
 | true =>
  rw [hd] at c11
  go_enter Tryd.func16, Tryd.ntmps16
  go_wp2
  have e1 : ReadE C pb pp = 45 := by unfold ReadE; rw [hd]; rfl
  exact bodyPost_ret (v := .tuple #[.agg #[.slice none 0 0, .slice none 0 0], .int .i64 45]) (by simp [results, Tryd.results16, go_sem]) rfl (rdv_none e1 (by decide) HBB.out)
 | false =>
  rw [hd] at c11
  cases hp : hasP C.B C.P pb pp with
  | false =>
   go_enter Tryd.func16, Tryd.ntmps16
   go_wp2_with (first | (go_at_call 43; refine (hasPage_any x p C.B C.P pb pp _ HK.out.box HK.out.B HK.out.P).mono ?_; rintro e u1 ⟨rfl, b1⟩; rw [hp]; have HB1 := hide b1; have hz := (b1.block _ (lt_of_block HZ0.out)).trans HZ0.out; obtain ⟨z0, z1⟩ := cells2 hz; have fz := (fun j => frozen_of_row u1 (w.heap.size + 1) j _ 53 hz); have HZ := hide hz; clear b1 hz c11))
   have e1 : ReadE C pb pp = 41 := by unfold ReadE; rw [hd, hp]; rfl
   have hs2 := heap_setCell_same _ (w.heap.size + 1) 1 #[.slice none 0 0, .slice none 0 0] 53 (.slice none 0 0) (heap_setCell_same u1 (w.heap.size + 1) 0 _ 53 (.slice none 0 0) HZ.out)
   have hbl : Below w.heap.size w ((u1.setCell ⟨w.heap.size + 1, 0, none⟩ (.slice none 0 0)).setCell ⟨w.heap.size + 1, 1, none⟩ (.slice none 0 0)) := ((below_trans HBB.out HB1.out).setCell (p := ⟨w.heap.size + 1, 0, none⟩) (by show w.heap.size ≤ w.heap.size + 1; omega) _).setCell (p := ⟨w.heap.size + 1, 1, none⟩) (by show w.heap.size ≤ w.heap.size + 1; omega) _
   generalize hv9 : World.setCell _ ⟨w.heap.size + 1, 1, none⟩ _ = v9 at hs2 hbl ⊢
   obtain ⟨y0, y1⟩ := cells2 hs2
   exact bodyPost_ret (v := .tuple #[.agg #[.slice none 0 0, .slice none 0 0], .int .i64 41]) (by simp [results, Tryd.results16, go_sem, y0, y1]) rfl (rdv_none e1 (by decide) hbl)
  | true =>
   obtain ⟨i, k, rfl, rfl, hi, hk⟩ := hasP_nat hp
   have hbl : i < bs.length := by rw [HH.out.len, hok.bl]; exact hi
   have hib : bs[i]? = some bs[i] := List.getElem?_eq_getElem hbl
   obtain ⟨b, hb⟩ : ∃ b, bs[i] = b := ⟨_, rfl⟩
   rw [hb] at hib
   have hkl : k < b.ps.length := by rw [(HH.out.bok b (List.mem_of_getElem? hib)).np]; exact hk
   have hkq : b.ps[k]? = some b.ps[k] := List.getElem?_eq_getElem hkl
   obtain ⟨q, hq⟩ : ∃ q, b.ps[k] = q := ⟨_, rfl⟩
   rw [hq] at hkq
   have e1 : C.bl[i]? = some b.v := by rw [← HH.out.bl, List.getElem?_map, hib]; rfl
   have e2 : b.v.ps[k]? = some q.v := by show (b.ps.map Pc.v)[k]? = _; rw [List.getElem?_map, hkq]; rfl
   have HRL : Hid (readL C (i : Int).toNat (k : Int).toNat = flipsL q.bits (C.fl i k)) := by
    unfold Hid readL
    simp only [Int.toNat_natCast, e1, e2]
    rfl
   have HRE : Hid (ReadE C (i : Int) (k : Int) = 0) := by unfold Hid ReadE; rw [hd, hp]; rfl
   obtain ⟨n1, hn1⟩ : ∃ n, n = 256 * C.S := ⟨_, rfl⟩
   obtain ⟨n2, hn2⟩ : ∃ n, n = 54 + 3 * C.S := ⟨_, rfl⟩
   have HN := hide (And.intro hn1 hn2)
   clear e1 e2 hb hq hkl hbl hn1 hn2
   go_enter Tryd.func16, Tryd.ntmps16
   go_wp2_with (first
    | (go_at_call 43; refine (hasPage_any x p C.B C.P (i : Int) (k : Int) _ HK.out.box HK.out.B HK.out.P).mono ?_; rintro e u1 ⟨rfl, b1⟩; rw [hp]; have HB1 := hide b1; have HK1 := hide (HK.out.below b1); obtain ⟨q0, q1⟩ := cells2 ((b1.block _ (lt_of_block HPL0.out)).trans HPL0.out); have hz := (b1.block _ (lt_of_block HZ0.out)).trans HZ0.out; have HZ := hide hz; clear b1 hz c11)
    | (go_at_call 23; refine (reads_any _ p F C x bs fe HK1.out hok i k b q hib hkq).mono ?_; rintro e u2 ⟨d1, f1, d2, f2, D, Z, rfl, o1, o2, hne, hdz, b2⟩; rw [← HN.out.1, ← HN.out.2]; rw [← HN.out.1] at o1; rw [← HN.out.2] at o2; have HO1 := hide o1; have HO2 := hide o2; have HNE := hide hne; have HDZ := hide hdz; have HB2 := hide b2; have hz := (b2.block _ (lt_of_block HZ.out)).trans HZ.out; obtain ⟨z0, z1⟩ := cells2 hz; have fz := (fun j => frozen_of_row u2 (w.heap.size + 1) j _ 53 hz); have HZ2 := hide hz; clear o1 o2 hne hdz b2 hz))
   have hs2 := heap_setCell_same _ (w.heap.size + 1) 1 #[.slice (some ⟨d1, 0, none⟩) n1 f1, .slice none 0 0] 53 (.slice (some ⟨d2, 0, none⟩) n2 f2) (heap_setCell_same u2 (w.heap.size + 1) 0 _ 53 (.slice (some ⟨d1, 0, none⟩) n1 f1) HZ2.out)
   have hO : Only (· = w.heap.size + 1) u2 _ := (Only.setCell (· = w.heap.size + 1) u2 (w.heap.size + 1) 0 (.slice (some ⟨d1, 0, none⟩) n1 f1) rfl).trans' (Only.setCell _ _ (w.heap.size + 1) 1 (.slice (some ⟨d2, 0, none⟩) n2 f2) rfl)
   have hbu : Below w.heap.size w u2 := below_trans (below_trans HBB.out HB1.out) HB2.out
   have hbl : Below w.heap.size w ((u2.setCell ⟨w.heap.size + 1, 0, none⟩ (.slice (some ⟨d1, 0, none⟩) n1 f1)).setCell ⟨w.heap.size + 1, 1, none⟩ (.slice (some ⟨d2, 0, none⟩) n2 f2)) := (hbu.setCell (p := ⟨w.heap.size + 1, 0, none⟩) (by show w.heap.size ≤ w.heap.size + 1; omega) _).setCell (p := ⟨w.heap.size + 1, 1, none⟩) (by show w.heap.size ≤ w.heap.size + 1; omega) _
   generalize hv9 : World.setCell _ ⟨w.heap.size + 1, 1, none⟩ _ = v9 at hs2 hO hbl ⊢
   obtain ⟨y0, y1⟩ := cells2 hs2
   have hbase : w.heap.size ≤ u1.heap.size := (below_trans HBB.out HB1.out).size
   have hk5 : ∀ {d e n : Nat} {Y : List Int}, Own u2 u1.heap.size d n e Y → Own v9 w.heap.size d n e Y := fun hd9 => by
    have h9 := owns_keep (w' := v9) hd9 (fun g hg => by
     obtain ⟨cs, hcs⟩ := own_tag hd9 hg
     exact hO.block g (lt_of_block hcs) (tag_ne hcs HZ2.out (t := 5) (u := 53) rfl rfl (by decide)))
    exact own_base h9 hbase
   refine bodyPost_ret (v := .tuple #[.agg #[.slice (some ⟨d1, 0, none⟩) n1 f1, .slice (some ⟨d2, 0, none⟩) n2 f2], .int .i64 0]) (by simp [results, Tryd.results16, go_sem, y0, y1]) rfl ?_
   refine ⟨⟨_, _, _, _, _, _, D, Z, by rw [HRE.out], hk5 HO1.out, hk5 HO2.out, (fun g hg hg' => HNE.out (by cases hg; cases hg'; rfl)), ?_⟩, hbl⟩
   rw [HRE.out, if_pos rfl, HRL.out]
   exact ⟨HN.out.1, HN.out.2, HDZ.out⟩
end Go.Proofs.YtnmnhgagnfodhaaDoor.Cp
namespace Go.Proofs.YtnmnhgagnfodhaaDoor.Cp
open Go.RowKit Go.Conc
set_option linter.unusedVariables false
end Go.Proofs.YtnmnhgagnfodhaaDoor.Cp
namespace Go.Proofs.YtnmnhgagnfodhaaDoor.Cp
open Go.RowKit Go.Conc
set_option linter.unusedVariables false
def UB (p cb ub un : Nat) (C : Ch) (u : World) : Prop := u.cell? ⟨cb, 0, none⟩ = some (.pointer (some ⟨p, 0, none⟩)) ∧ u.cell? ⟨ub, 0, none⟩ = some (.int .i64 (un : Int)) ∧ u.cell? ⟨p, 0, none⟩ = some (.int .i64 (C.B : Int)) ∧ u.cell? ⟨p, 1, none⟩ = some (.int .i64 (C.P : Int)) ∧ u.cell? ⟨p, 2, none⟩ = some (.int .i64 (C.S : Int))
theorem ub_keep {p cb ub un : Nat} {C : Ch} {u u' : World} (h : UB p cb ub un C u) (hb : Below u.heap.size u u') : UB p cb ub un C u' := by
 obtain ⟨h0, h1, h2, h3, h4⟩ := h
 exact ⟨(hb.cell (block_lt_of_cell h0)).trans h0, (hb.cell (block_lt_of_cell h1)).trans h1, (hb.cell (block_lt_of_cell h2)).trans h2, (hb.cell (block_lt_of_cell h3)).trans h3, (hb.cell (block_lt_of_cell h4)).trans h4⟩
theorem ub_drew {p cb ub un : Nat} {C : Ch} {u : World} (h : UB p cb ub un C u) : UB p cb ub un C u.drew := h
set_option maxRecDepth 100000 in
theorem unit_any (p cb ub un z : Nat) (C : Ch) (w : World) (hu : UB p cb ub un C w) (hS : 1 ≤ C.S ∧ C.S ≤ 8) (hz : z < 8 * pgB C.S) :
  Calls Tryd.prog 58 #[.int .i64 (z : Int), .pointer (some ⟨cb, 0, none⟩), .pointer (some ⟨ub, 0, none⟩)] w fun e w' => e = .returned (.bool (((unitN C.S z : Nat) : Int) == (un : Int))) ∧ Below w.heap.size w w' := by
 have HU := hide hu
 clear hu
 go_enter Tryd.func58, Tryd.ntmps58
 go_wp2
 refine wp_region_held_drew (S := (fun u => u.cell? ⟨cb, 0, none⟩ = some (.pointer (some ⟨p, 0, none⟩)) ∧ u.cell? ⟨ub, 0, none⟩ = some (.int .i64 (un : Int)) ∧ u.cell? ⟨p, 0, none⟩ = some (.int .i64 (C.B : Int)) ∧ u.cell? ⟨p, 1, none⟩ = some (.int .i64 (C.P : Int)) ∧ u.cell? ⟨p, 2, none⟩ = some (.int .i64 (C.S : Int)))) (by kernel_rfl) (ub_drew HU.out) (fun hHeld => ?_)
 refine tk 0 ?_
 refine tk 1 ?_
 refine tk 2 ?_
 refine tk 3 ?_
 refine tk 4 ?_
 refine tk 6 ?_
 refine rd 5 (fun K hK => ?_)
 go_simp
 go_at_call 56
 refine (unitOf_any _ _ C.S z _ hS.1 hS.2 hz).mono ?_
 rintro e u1 ⟨rfl, b1⟩
 have HB1 := hide (below_trans (drew_below _) b1)
 have hSnew := ub_keep HU.out HB1.out
 clear b1
 go_wp2_with fail
 clear hHeld
 refine hK.out _ _ hSnew (fun hHeld => ?_)
 clear hK K hSnew
 try simp only [Act.put, zSt, zS0, zS1]
 refine tk 7 ?_
 refine tk 8 ?_
 refine wpAnyH_done (by kernel_rfl) ?_ _
 clear hHeld
 go_wp2
 go_ret
 exact ⟨rfl, HB1.out⟩
set_option maxRecDepth 100000 in
set_option maxHeartbeats 1000000 in
theorem indexF_any (p cb ub un : Nat) (C : Ch) (w : World) (hu : UB p cb ub un C w) (hS : 1 ≤ C.S ∧ C.S ≤ 8) (la : Option Addr) (ln lc B : Nat) (fl : List Nat) (ho : w.ownsRow B 3 1 (.slice la ln lc) ln (fl.map fun (i : Nat) => Value.int .i64 (i : Int))) (hb : ∀ z ∈ fl, z < 8 * pgB C.S) (hlb : ln ≤ 9223372036854775807) :
  Calls Tryd.prog 79 #[.slice la ln lc, .func (.func 58) #[] #[.pointer (some ⟨cb, 0, none⟩), .pointer (some ⟨ub, 0, none⟩)]] w fun e w' => (∃ r : Int, e = .returned (.int .i64 r) ∧ decide (r ≥ 0) = fl.any (fun z => ((unitN C.S z : Nat) : Int) == (un : Int))) ∧ Below w.heap.size w w' := by
 have hln : fl.length = ln := by have h9 := ho.1; simpa using h9
 have HO := hide ho
 have HU := hide hu
 have HF := hide hb
 have HLN := hide hln
 clear ho hu hb hln
 go_enter Tryd.func79, Tryd.ntmps79
 go_wp2
 go_loopw [8] (fun s8 wr => ∃ m : Nat, m ≤ ln ∧ s8 = .int .i64 m ∧ Hid (Below w.heap.size w wr) ∧ Hid (∀ z ∈ fl.take m, (((unitN C.S z : Nat) : Int) == (un : Int)) = false))
  (fun s8 _ => ln - (intOf s8).toNat)
 case atStart => exact ⟨0, Nat.zero_le _, rfl, Below.refl _ _, by intro z hz; simp at hz⟩
 case round =>
  obtain ⟨m, hm, rfl, HB, HN⟩ := hrel
  by_cases hlt : m < ln
  ·obtain ⟨gl, cl, hle, _, hgl⟩ := HO.out.form (by omega)
   cases hle
   have hflm : m < fl.length := by have := HLN.out; omega
   obtain ⟨z, hz⟩ : ∃ z, fl[m] = z := ⟨_, rfl⟩
   have hzb : z < 8 * pgB C.S := HF.out z (by rw [← hz]; exact List.getElem_mem hflm)
   have hcz : wr.cell? ⟨gl, m, none⟩ = some (.int .i64 (z : Int)) := by
    have h1 := World.ownsRow.cellAt HO.out m (by have := HLN.out; simp; omega)
    rw [List.getElem?_map, List.getElem?_eq_getElem hflm, hz] at h1
    rw [HB.out.cell hgl]
    exact h1
   have m1 : (m : Int) < (ln : Int) := by omega
   have dm : decide ((m : Int) < (ln : Int)) = true := decide_eq_true m1
   have HUr := hide (ub_keep HU.out HB.out)
   have HTK : Hid (fl.take (m + 1) = fl.take m ++ [z]) := by unfold Hid; rw [List.take_succ_eq_append_getElem hflm, hz]
   have HZM : Hid (z ∈ fl) := by unfold Hid; rw [← hz]; exact List.getElem_mem hflm
   clear hz
   cases hq : (((unitN C.S z : Nat) : Int) == (un : Int)) with
   | true =>
    go_wp2_with (first | (go_at_call 58; refine (unit_any p cb ub un z C _ HUr.out hS hzb).mono ?_; rintro e u1 ⟨rfl, b1⟩; rw [hq]; have HB1 := hide b1; clear b1))
    go_ret
    refine ⟨⟨_, rfl, ?_⟩, below_trans HB.out HB1.out⟩
    have e1 : fl.any (fun z => ((unitN C.S z : Nat) : Int) == (un : Int)) = true := List.any_eq_true.2 ⟨z, HZM.out, hq⟩
    rw [e1]
    exact decide_eq_true (by omega)
   | false =>
    have HNX : Hid (∀ y ∈ fl.take (m + 1), (((unitN C.S y : Nat) : Int) == (un : Int)) = false) := by
     intro y hy
     rw [HTK.out] at hy
     rcases List.mem_append.1 hy with h1 | h1
     ·exact HN.out y h1
     ·simp at h1; rw [h1]; exact hq
    go_wp2_with (first | (go_at_call 58; refine (unit_any p cb ub un z C _ HUr.out hS hzb).mono ?_; rintro e u1 ⟨rfl, b1⟩; rw [hq]; have HB1 := hide (below_trans HB.out b1); clear b1))
    go_roundw
    case rel => exact ⟨m + 1, by omega, by go_num, HB1, HNX⟩
    case measure => simp [intOf]; omega
  ·have hml : m = ln := by omega
   subst hml
   go_wp2
   go_ret
   refine ⟨⟨-1, rfl, ?_⟩, HB.out⟩
   have e1 : fl.any (fun z => ((unitN C.S z : Nat) : Int) == (un : Int)) = false := by
    rw [List.any_eq_false]
    intro y hy
    have h9 := HN.out y (by rw [List.take_of_length_le (by have := HLN.out; omega)]; exact hy)
    rw [h9]
    decide
   rw [e1]
   rfl
theorem containsF_any (p cb ub un : Nat) (C : Ch) (w : World) (hu : UB p cb ub un C w) (hS : 1 ≤ C.S ∧ C.S ≤ 8) (la : Option Addr) (ln lc B : Nat) (fl : List Nat) (ho : w.ownsRow B 3 1 (.slice la ln lc) ln (fl.map fun (i : Nat) => Value.int .i64 (i : Int))) (hb : ∀ z ∈ fl, z < 8 * pgB C.S) (hlb : ln ≤ 9223372036854775807) :
  Calls Tryd.prog 57 #[.slice la ln lc, .func (.func 58) #[] #[.pointer (some ⟨cb, 0, none⟩), .pointer (some ⟨ub, 0, none⟩)]] w fun e w' => e = .returned (.bool (fl.any (fun z => ((unitN C.S z : Nat) : Int) == (un : Int)))) ∧ Below w.heap.size w w' := by
 have HH := hide (indexF_any p cb ub un C w hu hS la ln lc B fl ho hb hlb)
 clear hu ho hb
 go_enter Tryd.func57, Tryd.ntmps57
 go_wp2_with (first | (go_at_call 79; refine HH.out.mono ?_; rintro e u1 ⟨⟨r, rfl, hr⟩, b1⟩; have HB1 := hide b1; have HR := hide hr; clear b1 hr))
 go_ret
 exact ⟨ret_bool HR.out, HB1.out⟩
end Go.Proofs.YtnmnhgagnfodhaaDoor.Cp
namespace Go.Proofs.YtnmnhgagnfodhaaDoor.Cp
open Go.RowKit Go.Conc
set_option linter.unusedVariables false
theorem flip_a (w : World) (p : Nat) (F : Nat → Prop) (C : Ch) (x : Bx) (bs : List Bc) (fe : List Fe) (h : CAt w p F C x bs fe) (pb pp bit : Int) (hn : hasP C.B C.P pb pp = false) :
  Calls Tryd.prog 28 #[.pointer (some ⟨p, 0, none⟩), .agg #[.int .i64 pb, .int .i64 pp], .int .i64 bit] w fun e w' => e = .returned (.int .i64 41) ∧ Below w.heap.size w w' := by
 have HC := hide ((h.below (below_alloc _ (.cells #[.pointer (some ⟨p, 0, none⟩)] 25))).below (below_alloc _ (.cells #[.int .i64 pb, .int .i64 pp] 45)))
 clear h
 go_enter Tryd.func28, Tryd.ntmps28
 go_wp2_with (first | (go_at_call 43; refine (hasPage_any x p C.B C.P pb pp _ HC.out.box HC.out.B HC.out.P).mono ?_; rintro e u1 ⟨rfl, b1⟩; rw [hn]; have B1 := hide b1; clear b1))
 go_ret
 exact ⟨rfl, below_trans (below_trans (below_alloc _ _) (below_alloc _ _)) B1.out⟩
def F3 (cb p gb nb i k bg n : Nat) (qh : Bool) (C : Ch) (u : World) : Prop := u.cell? ⟨cb, 0, none⟩ = some (.pointer (some ⟨p, 0, none⟩)) ∧ u.cell? ⟨p, 0, none⟩ = some (.int .i64 (C.B : Int)) ∧ u.cell? ⟨p, 1, none⟩ = some (.int .i64 (C.P : Int)) ∧ u.cell? ⟨p, 2, none⟩ = some (.int .i64 (C.S : Int)) ∧ u.cell? ⟨p, 3, none⟩ = some (.slice (some ⟨gb, 0, none⟩) nb nb) ∧ u.cell? ⟨cb + 1, 0, none⟩ = some (.int .i64 (i : Int)) ∧ u.cell? ⟨cb + 1, 1, none⟩ = some (.int .i64 (k : Int)) ∧ u.cell? ⟨gb, i * 4 + 3, none⟩ = some (.slice (some ⟨bg, 0, none⟩) n n) ∧ u.cell? ⟨bg, k * 2 + 1, none⟩ = some (.bool qh)
theorem f3_keep {cb p gb nb i k bg n : Nat} {qh : Bool} {C : Ch} {u u' : World} (h : F3 cb p gb nb i k bg n qh C u) (hb : Below u.heap.size u u') : F3 cb p gb nb i k bg n qh C u' := by
 obtain ⟨h0, h1, h2, h3, h4, h5, h6, h7, h8⟩ := h
 exact ⟨(hb.cell (block_lt_of_cell h0)).trans h0, (hb.cell (block_lt_of_cell h1)).trans h1, (hb.cell (block_lt_of_cell h2)).trans h2, (hb.cell (block_lt_of_cell h3)).trans h3, (hb.cell (block_lt_of_cell h4)).trans h4, (hb.cell (block_lt_of_cell h5)).trans h5, (hb.cell (block_lt_of_cell h6)).trans h6, (hb.cell (block_lt_of_cell h7)).trans h7, (hb.cell (block_lt_of_cell h8)).trans h8⟩
theorem f3_drew {cb p gb nb i k bg n : Nat} {qh : Bool} {C : Ch} {u : World} (h : F3 cb p gb nb i k bg n qh C u) : F3 cb p gb nb i k bg n qh C u.drew := h
theorem cells1 {w : World} {g : Nat} {c0 : Value} {T : TypeId} {fr : Nat × Nat} (h : w.heap[g]? = some (.cells #[c0] T fr)) : w.cell? ⟨g, 0, none⟩ = some c0 := by simp [World.cell?, h]
theorem f3_mk {u : World} {p : Nat} {F : Nat → Prop} {C : Ch} {x : Bx} {bs : List Bc} {fe : List Fe} {i k cb : Nat} {b : Bc} {q : Pc} (h : CAt u p F C x bs fe) (hi : bs[i]? = some b) (hk : b.ps[k]? = some q) (h0 : u.heap[cb]? = some (.cells #[.pointer (some ⟨p, 0, none⟩)] 25 (0, 0))) (h1 : u.heap[cb + 1]? = some (.cells #[.int .i64 (i : Int), .int .i64 (k : Int)] 45 (0, 0))) : F3 cb p x.gb x.nb i k b.g b.ps.length q.h C u := by
 have b0 := h.box.c0
 have b1 := h.box.c1
 have b2 := h.box.c2
 rw [h.B] at b0
 rw [h.P] at b1
 rw [h.S] at b2
 obtain ⟨p0, p1⟩ := cells2 h1
 exact ⟨cells1 h0, b0, b1, b2, h.box.c3, p0, p1, (h.blk hi).2.2.2, ((h.bok b (List.mem_of_getElem? hi)).page hk).2⟩
set_option maxRecDepth 100000 in
theorem flip_n (w : World) (p : Nat) (F : Nat → Prop) (C : Ch) (x : Bx) (bs : List Bc) (fe : List Fe) (h : CAt w p F C x bs fe) (hok : C.Ok) (i k : Nat) (b : Bc) (q : Pc) (hi : bs[i]? = some b) (hk : b.ps[k]? = some q) (bit : Int) (hb0 : decide (bit < 0) = true) :
  Calls Tryd.prog 28 #[.pointer (some ⟨p, 0, none⟩), .agg #[.int .i64 (i : Int), .int .i64 (k : Int)], .int .i64 bit] w fun e w' => e = .returned (.int .i64 46) ∧ Below w.heap.size w w' := by
 have hBl := hok.bl
 have hS := hok.s
 have hil : i < bs.length := (List.getElem?_eq_some_iff.1 hi).1
 have hkl : k < b.ps.length := (List.getElem?_eq_some_iff.1 hk).1
 have hP : hasP C.B C.P (i : Int) (k : Int) = true := by
  have e1 : bs.length = C.B := by have h1 := h.len; rw [hBl] at h1; exact h1
  have e2 : b.ps.length = C.P := (h.bok b (List.mem_of_getElem? hi)).np
  unfold hasP hasB
  rw [decide_eq_true (show (0 : Int) ≤ i ∧ (i : Int) < C.B by omega), decide_eq_true (show (0 : Int) ≤ k ∧ (k : Int) < C.P by omega)]
  rfl
 have i1 : (i : Int) < (x.nb : Int) := by rw [h.nb]; omega
 have k1 : (k : Int) < (b.ps.length : Int) := by omega
 have HC0 := hide ((h.below (below_alloc _ (.cells #[.pointer (some ⟨p, 0, none⟩)] 25))).below (below_alloc _ (.cells #[.int .i64 (i : Int), .int .i64 (k : Int)] 45)))
 have HCB : Hid (((w.alloc (.cells #[.pointer (some ⟨p, 0, none⟩)] 25)).alloc (.cells #[.int .i64 (i : Int), .int .i64 (k : Int)] 45)).heap[w.heap.size]? = some (.cells #[.pointer (some ⟨p, 0, none⟩)] 25 (0, 0))) := (alloc_old _ _ (by simp)).trans (alloc_new w (.cells #[.pointer (some ⟨p, 0, none⟩)] 25))
 have HPL : Hid (((w.alloc (.cells #[.pointer (some ⟨p, 0, none⟩)] 25)).alloc (.cells #[.int .i64 (i : Int), .int .i64 (k : Int)] 45)).heap[w.heap.size + 1]? = some (.cells #[.int .i64 (i : Int), .int .i64 (k : Int)] 45 (0, 0))) := by have h2 := alloc_new (w.alloc (.cells #[.pointer (some ⟨p, 0, none⟩)] 25)) (.cells #[.int .i64 (i : Int), .int .i64 (k : Int)] 45); rw [alloc_size] at h2; exact h2
 obtain ⟨L, hLe⟩ : ∃ L, pgB C.S = L := ⟨_, rfl⟩
 have hLb : L ≤ 2126 := by rw [← hLe]; exact pgB_le hS.2
 have HL := hide hLe
 clear hLe
 clear h
 go_enter Tryd.func28, Tryd.ntmps28
 go_wp2_with (first | (go_at_call 43; refine (hasPage_any x p C.B C.P (i : Int) (k : Int) _ HC0.out.box HC0.out.B HC0.out.P).mono ?_; rintro e u1 ⟨rfl, b1⟩; rw [hP]; have HC1 := hide (HC0.out.below b1); have HCB1 := hide ((b1.block _ (lt_of_block HCB.out)).trans HCB.out); have HPL1 := hide ((b1.block _ (lt_of_block HPL.out)).trans HPL.out); have B1 := hide (below_trans (below_trans (below_alloc w (.cells #[.pointer (some ⟨p, 0, none⟩)] 25)) (below_alloc _ (.cells #[.int .i64 (i : Int), .int .i64 (k : Int)] 45))) b1); have HS3 := hide (f3_mk HC1.out hi hk HCB1.out HPL1.out); clear b1))
 refine wp_region_held_drew (S := (fun u => u.cell? ⟨w.heap.size, 0, none⟩ = some (.pointer (some ⟨p, 0, none⟩)) ∧ u.cell? ⟨p, 0, none⟩ = some (.int .i64 (C.B : Int)) ∧ u.cell? ⟨p, 1, none⟩ = some (.int .i64 (C.P : Int)) ∧ u.cell? ⟨p, 2, none⟩ = some (.int .i64 (C.S : Int)) ∧ u.cell? ⟨p, 3, none⟩ = some (.slice (some ⟨x.gb, 0, none⟩) x.nb x.nb) ∧ u.cell? ⟨w.heap.size + 1, 0, none⟩ = some (.int .i64 (i : Int)) ∧ u.cell? ⟨w.heap.size + 1, 1, none⟩ = some (.int .i64 (k : Int)) ∧ u.cell? ⟨x.gb, i * 4 + 3, none⟩ = some (.slice (some ⟨b.g, 0, none⟩) b.ps.length b.ps.length) ∧ u.cell? ⟨b.g, k * 2 + 1, none⟩ = some (.bool q.h))) (by kernel_rfl) (f3_drew HS3.out) (fun hHeld => ?_)
 refine tk 0 ?_
 refine tk 1 ?_
 refine tk 2 ?_
 refine tu 3 ?_
 refine tu 4 ?_
 refine tu 5 ?_
 refine tu 6 ?_
 refine tu 7 ?_
 refine tu 8 ?_
 refine tu 9 ?_
 refine tu 10 ?_
 refine tk 11 ?_
 refine tk 12 ?_
 refine tu 13 ?_
 refine tu 14 ?_
 refine tu 15 ?_
 refine tu 16 ?_
 refine tu 17 ?_
 refine tu 18 ?_
 refine tu 19 ?_
 refine tu 20 ?_
 refine tu 21 ?_
 refine tu 22 ?_
 refine tu 23 ?_
 refine tu 24 ?_
 refine tu 25 ?_
 refine tu 26 ?_
 refine tu 27 ?_
 refine tk 28 ?_
 refine wpAnyH_done (by kernel_rfl) ?_ _
 clear hHeld
 go_wp2
 go_ret
 exact ⟨rfl, below_trans (below_trans B1.out (drew_below _)) (Below.refl _ _)⟩
set_option maxRecDepth 100000 in
theorem flip_g (w : World) (p : Nat) (F : Nat → Prop) (C : Ch) (x : Bx) (bs : List Bc) (fe : List Fe) (h : CAt w p F C x bs fe) (hok : C.Ok) (i k : Nat) (b : Bc) (q : Pc) (hi : bs[i]? = some b) (hk : b.ps[k]? = some q) (bit : Nat) (hbb : 8 * pgB C.S ≤ bit) (hbl : (bit : Int) ≤ 9223372036854775807) :
  Calls Tryd.prog 28 #[.pointer (some ⟨p, 0, none⟩), .agg #[.int .i64 (i : Int), .int .i64 (k : Int)], .int .i64 (bit : Int)] w fun e w' => e = .returned (.int .i64 46) ∧ Below w.heap.size w w' := by
 have hBl := hok.bl
 have hS := hok.s
 have hil : i < bs.length := (List.getElem?_eq_some_iff.1 hi).1
 have hkl : k < b.ps.length := (List.getElem?_eq_some_iff.1 hk).1
 have hP : hasP C.B C.P (i : Int) (k : Int) = true := by
  have e1 : bs.length = C.B := by have h1 := h.len; rw [hBl] at h1; exact h1
  have e2 : b.ps.length = C.P := (h.bok b (List.mem_of_getElem? hi)).np
  unfold hasP hasB
  rw [decide_eq_true (show (0 : Int) ≤ i ∧ (i : Int) < C.B by omega), decide_eq_true (show (0 : Int) ≤ k ∧ (k : Int) < C.P by omega)]
  rfl
 have i1 : (i : Int) < (x.nb : Int) := by rw [h.nb]; omega
 have k1 : (k : Int) < (b.ps.length : Int) := by omega
 have HC0 := hide ((h.below (below_alloc _ (.cells #[.pointer (some ⟨p, 0, none⟩)] 25))).below (below_alloc _ (.cells #[.int .i64 (i : Int), .int .i64 (k : Int)] 45)))
 have HCB : Hid (((w.alloc (.cells #[.pointer (some ⟨p, 0, none⟩)] 25)).alloc (.cells #[.int .i64 (i : Int), .int .i64 (k : Int)] 45)).heap[w.heap.size]? = some (.cells #[.pointer (some ⟨p, 0, none⟩)] 25 (0, 0))) := (alloc_old _ _ (by simp)).trans (alloc_new w (.cells #[.pointer (some ⟨p, 0, none⟩)] 25))
 have HPL : Hid (((w.alloc (.cells #[.pointer (some ⟨p, 0, none⟩)] 25)).alloc (.cells #[.int .i64 (i : Int), .int .i64 (k : Int)] 45)).heap[w.heap.size + 1]? = some (.cells #[.int .i64 (i : Int), .int .i64 (k : Int)] 45 (0, 0))) := by have h2 := alloc_new (w.alloc (.cells #[.pointer (some ⟨p, 0, none⟩)] 25)) (.cells #[.int .i64 (i : Int), .int .i64 (k : Int)] 45); rw [alloc_size] at h2; exact h2
 obtain ⟨L, hLe⟩ : ∃ L, pgB C.S = L := ⟨_, rfl⟩
 have hLb : L ≤ 2126 := by rw [← hLe]; exact pgB_le hS.2
 have HL := hide hLe
 clear hLe
 have hb0 : decide ((bit : Int) < 0) = false := decide_eq_false (by omega)
 rw [HL.out] at hbb
 have hw : IntKind.i64.wrap (8 * (L : Int)) = 8 * (L : Int) := by simp only [IntKind.wrap_i64]; omega
 have hb1 : decide (8 * (L : Int) ≤ (bit : Int)) = true := decide_eq_true (by omega)
 clear hbb
 clear h
 go_enter Tryd.func28, Tryd.ntmps28
 go_wp2_with (first | (go_at_call 43; refine (hasPage_any x p C.B C.P (i : Int) (k : Int) _ HC0.out.box HC0.out.B HC0.out.P).mono ?_; rintro e u1 ⟨rfl, b1⟩; rw [hP]; have HC1 := hide (HC0.out.below b1); have HCB1 := hide ((b1.block _ (lt_of_block HCB.out)).trans HCB.out); have HPL1 := hide ((b1.block _ (lt_of_block HPL.out)).trans HPL.out); have B1 := hide (below_trans (below_trans (below_alloc w (.cells #[.pointer (some ⟨p, 0, none⟩)] 25)) (below_alloc _ (.cells #[.int .i64 (i : Int), .int .i64 (k : Int)] 45))) b1); have HS3 := hide (f3_mk HC1.out hi hk HCB1.out HPL1.out); clear b1))
 refine wp_region_held_drew (S := (fun u => u.cell? ⟨w.heap.size, 0, none⟩ = some (.pointer (some ⟨p, 0, none⟩)) ∧ u.cell? ⟨p, 0, none⟩ = some (.int .i64 (C.B : Int)) ∧ u.cell? ⟨p, 1, none⟩ = some (.int .i64 (C.P : Int)) ∧ u.cell? ⟨p, 2, none⟩ = some (.int .i64 (C.S : Int)) ∧ u.cell? ⟨p, 3, none⟩ = some (.slice (some ⟨x.gb, 0, none⟩) x.nb x.nb) ∧ u.cell? ⟨w.heap.size + 1, 0, none⟩ = some (.int .i64 (i : Int)) ∧ u.cell? ⟨w.heap.size + 1, 1, none⟩ = some (.int .i64 (k : Int)) ∧ u.cell? ⟨x.gb, i * 4 + 3, none⟩ = some (.slice (some ⟨b.g, 0, none⟩) b.ps.length b.ps.length) ∧ u.cell? ⟨b.g, k * 2 + 1, none⟩ = some (.bool q.h))) (by kernel_rfl) (f3_drew HS3.out) (fun hHeld => ?_)
 refine tk 0 ?_
 refine tk 1 ?_
 refine tk 2 ?_
 refine tk 3 ?_
 refine tk 4 ?_
 refine tk 5 ?_
 refine tk 6 ?_
 refine tk 7 ?_
 refine rd 8 (fun K hK => ?_)
 go_simp
 go_at_call 22
 refine (pageB_any _ _ C.S _ hS.1 hS.2).mono ?_
 rintro e u2 ⟨rfl, b2⟩
 rw [HL.out]
 have HB2 := hide (below_trans (drew_below _) b2)
 have hSnew := f3_keep HS3.out HB2.out
 clear b2
 go_wp2_with fail
 clear hHeld
 refine hK.out _ _ hSnew (fun hHeld => ?_)
 clear hK K hSnew
 try simp only [Act.put, zSt, zS0, zS1]
 refine tk 9 ?_
 refine tk 10 ?_
 refine tk 11 ?_
 refine tk 12 ?_
 refine tu 13 ?_
 refine tu 14 ?_
 refine tu 15 ?_
 refine tu 16 ?_
 refine tu 17 ?_
 refine tu 18 ?_
 refine tu 19 ?_
 refine tu 20 ?_
 refine tu 21 ?_
 refine tu 22 ?_
 refine tu 23 ?_
 refine tu 24 ?_
 refine tu 25 ?_
 refine tu 26 ?_
 refine tu 27 ?_
 refine tk 28 ?_
 refine wpAnyH_done (by kernel_rfl) ?_ _
 clear hHeld
 go_wp2
 go_ret
 exact ⟨rfl, below_trans B1.out HB2.out⟩
set_option maxRecDepth 100000 in
theorem flip_h (w : World) (p : Nat) (F : Nat → Prop) (C : Ch) (x : Bx) (bs : List Bc) (fe : List Fe) (h : CAt w p F C x bs fe) (hok : C.Ok) (i k : Nat) (b : Bc) (q : Pc) (hi : bs[i]? = some b) (hk : b.ps[k]? = some q) (bit : Nat) (hbb : bit < 8 * pgB C.S) (hqh : q.h = false) :
  Calls Tryd.prog 28 #[.pointer (some ⟨p, 0, none⟩), .agg #[.int .i64 (i : Int), .int .i64 (k : Int)], .int .i64 (bit : Int)] w fun e w' => e = .returned (.int .i64 46) ∧ Below w.heap.size w w' := by
 have hBl := hok.bl
 have hS := hok.s
 have hil : i < bs.length := (List.getElem?_eq_some_iff.1 hi).1
 have hkl : k < b.ps.length := (List.getElem?_eq_some_iff.1 hk).1
 have hP : hasP C.B C.P (i : Int) (k : Int) = true := by
  have e1 : bs.length = C.B := by have h1 := h.len; rw [hBl] at h1; exact h1
  have e2 : b.ps.length = C.P := (h.bok b (List.mem_of_getElem? hi)).np
  unfold hasP hasB
  rw [decide_eq_true (show (0 : Int) ≤ i ∧ (i : Int) < C.B by omega), decide_eq_true (show (0 : Int) ≤ k ∧ (k : Int) < C.P by omega)]
  rfl
 have i1 : (i : Int) < (x.nb : Int) := by rw [h.nb]; omega
 have k1 : (k : Int) < (b.ps.length : Int) := by omega
 have HC0 := hide ((h.below (below_alloc _ (.cells #[.pointer (some ⟨p, 0, none⟩)] 25))).below (below_alloc _ (.cells #[.int .i64 (i : Int), .int .i64 (k : Int)] 45)))
 have HCB : Hid (((w.alloc (.cells #[.pointer (some ⟨p, 0, none⟩)] 25)).alloc (.cells #[.int .i64 (i : Int), .int .i64 (k : Int)] 45)).heap[w.heap.size]? = some (.cells #[.pointer (some ⟨p, 0, none⟩)] 25 (0, 0))) := (alloc_old _ _ (by simp)).trans (alloc_new w (.cells #[.pointer (some ⟨p, 0, none⟩)] 25))
 have HPL : Hid (((w.alloc (.cells #[.pointer (some ⟨p, 0, none⟩)] 25)).alloc (.cells #[.int .i64 (i : Int), .int .i64 (k : Int)] 45)).heap[w.heap.size + 1]? = some (.cells #[.int .i64 (i : Int), .int .i64 (k : Int)] 45 (0, 0))) := by have h2 := alloc_new (w.alloc (.cells #[.pointer (some ⟨p, 0, none⟩)] 25)) (.cells #[.int .i64 (i : Int), .int .i64 (k : Int)] 45); rw [alloc_size] at h2; exact h2
 obtain ⟨L, hLe⟩ : ∃ L, pgB C.S = L := ⟨_, rfl⟩
 have hLb : L ≤ 2126 := by rw [← hLe]; exact pgB_le hS.2
 have HL := hide hLe
 clear hLe
 have hb0 : decide ((bit : Int) < 0) = false := decide_eq_false (by omega)
 rw [HL.out] at hbb
 have hw : IntKind.i64.wrap (8 * (L : Int)) = 8 * (L : Int) := by simp only [IntKind.wrap_i64]; omega
 have hb1 : decide (8 * (L : Int) ≤ (bit : Int)) = false := decide_eq_false (by omega)
 clear h
 go_enter Tryd.func28, Tryd.ntmps28
 go_wp2_with (first | (go_at_call 43; refine (hasPage_any x p C.B C.P (i : Int) (k : Int) _ HC0.out.box HC0.out.B HC0.out.P).mono ?_; rintro e u1 ⟨rfl, b1⟩; rw [hP]; have HC1 := hide (HC0.out.below b1); have HCB1 := hide ((b1.block _ (lt_of_block HCB.out)).trans HCB.out); have HPL1 := hide ((b1.block _ (lt_of_block HPL.out)).trans HPL.out); have B1 := hide (below_trans (below_trans (below_alloc w (.cells #[.pointer (some ⟨p, 0, none⟩)] 25)) (below_alloc _ (.cells #[.int .i64 (i : Int), .int .i64 (k : Int)] 45))) b1); have HS3 := hide (f3_mk HC1.out hi hk HCB1.out HPL1.out); clear b1))
 rw [hqh] at HS3
 refine wp_region_held_drew (S := (fun u => u.cell? ⟨w.heap.size, 0, none⟩ = some (.pointer (some ⟨p, 0, none⟩)) ∧ u.cell? ⟨p, 0, none⟩ = some (.int .i64 (C.B : Int)) ∧ u.cell? ⟨p, 1, none⟩ = some (.int .i64 (C.P : Int)) ∧ u.cell? ⟨p, 2, none⟩ = some (.int .i64 (C.S : Int)) ∧ u.cell? ⟨p, 3, none⟩ = some (.slice (some ⟨x.gb, 0, none⟩) x.nb x.nb) ∧ u.cell? ⟨w.heap.size + 1, 0, none⟩ = some (.int .i64 (i : Int)) ∧ u.cell? ⟨w.heap.size + 1, 1, none⟩ = some (.int .i64 (k : Int)) ∧ u.cell? ⟨x.gb, i * 4 + 3, none⟩ = some (.slice (some ⟨b.g, 0, none⟩) b.ps.length b.ps.length) ∧ u.cell? ⟨b.g, k * 2 + 1, none⟩ = some (.bool false))) (by kernel_rfl) (f3_drew HS3.out) (fun hHeld => ?_)
 refine tk 0 ?_
 refine tk 1 ?_
 refine tk 2 ?_
 refine tk 3 ?_
 refine tk 4 ?_
 refine tk 5 ?_
 refine tk 6 ?_
 refine tk 7 ?_
 refine rd 8 (fun K hK => ?_)
 go_simp
 go_at_call 22
 refine (pageB_any _ _ C.S _ hS.1 hS.2).mono ?_
 rintro e u2 ⟨rfl, b2⟩
 rw [HL.out]
 have HB2 := hide (below_trans (drew_below _) b2)
 have hSnew := f3_keep HS3.out HB2.out
 clear b2
 go_wp2_with fail
 clear hHeld
 refine hK.out _ _ hSnew (fun hHeld => ?_)
 clear hK K hSnew
 try simp only [Act.put, zSt, zS0, zS1]
 refine tk 9 ?_
 refine tk 10 ?_
 refine tk 11 ?_
 refine tk 12 ?_
 refine tk 13 ?_
 refine tk 14 ?_
 refine tk 15 ?_
 refine tk 16 ?_
 refine tk 17 ?_
 refine tk 18 ?_
 refine tk 19 ?_
 refine tk 20 ?_
 refine tk 21 ?_
 refine tk 22 ?_
 refine tk 23 ?_
 refine tk 24 ?_
 refine tk 25 ?_
 refine tk 26 ?_
 refine tk 27 ?_
 refine tk 28 ?_
 refine wpAnyH_done (by kernel_rfl) ?_ _
 clear hHeld
 go_wp2
 go_ret
 exact ⟨rfl, below_trans B1.out HB2.out⟩
end Go.Proofs.YtnmnhgagnfodhaaDoor.Cp
