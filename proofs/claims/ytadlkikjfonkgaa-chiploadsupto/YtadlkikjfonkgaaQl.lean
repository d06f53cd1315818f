/-
  SEAT Ytadlkikjfonkgaa: Rd, Tr, Fl.
-/
import Derived.Test.YtadlkikjfonkgaaQk
import Derived.Test.YtadlkikjfonkgaaQa
namespace Go.Proofs.Ytadlkikjfonkgaa
open Go.RowKit Go.Conc
set_option linter.unusedVariables false
set_option maxRecDepth 100000
set_option maxHeartbeats 4000000
variable {C : Ch} {cb ub : Nat} {u : World}
def readL (C : Ch) (i k : Nat) : List Int := match C.bl[i]? with
 | none => []
 | some b => match b.ps[k]? with
  | none => []
  | some q => flipsL q.bits (C.fl i k)
def ReadE (C : Ch) (pb pp : Int) : Int := if C.dark then 45 else if hasP C.B C.P pb pp then 0 else 41
structure RdV (w w' : World) (C : Ch) (pb pp : Int) (e : Ending) : Prop where
 ex : ∃ a1 m1 c1 a2 m2 c2 D Z, e = .returned (.tuple #[.agg #[.slice a1 m1 c1, .slice a2 m2 c2], .int .i64 (ReadE C pb pp)]) ∧ w'.ownsRow w.heap.size 5 1 (.slice a1 m1 c1) m1 (D.map (Value.int .u8)) ∧ w'.ownsRow w.heap.size 5 1 (.slice a2 m2 c2) m2 (Z.map (Value.int .u8)) ∧ (∀ g, (Value.slice a1 m1 c1).ownBlock = some g → (Value.slice a2 m2 c2).ownBlock ≠ some g) ∧
  (if ReadE C pb pp = 0 then m1 = 256 * C.S ∧ m2 = 54 + 3 * C.S ∧ D ++ Z = readL C pb.toNat pp.toNat else m1 = 0 ∧ m2 = 0 ∧ D = [] ∧ Z = [])
 bel : Below w.heap.size w w'
theorem rdv_none {w w' : World} {pb pp : Int} {z : Int} (hz : ReadE C pb pp = z) (h0 : z ≠ 0) (hb : Below w.heap.size w w') : RdV w w' C pb pp (.returned (.tuple #[.agg #[.slice none 0 0, .slice none 0 0], .int .i64 z])) :=
 ⟨⟨none, 0, 0, none, 0, 0, [], [], by rw [hz], World.ownsRow_nil _ _ _ _, World.ownsRow_nil _ _ _ _, (fun g hg => by cases hg), by rw [hz, if_neg h0]; exact ⟨rfl, rfl, rfl, rfl⟩⟩, hb⟩
theorem Read_any (w : World) (p : Nat) (F : Nat → Prop) (C : Ch) (h : ChipAt w p F C) (hok : C.Ok) (pb pp : Int) :
  Calls Try.prog 13 #[.pointer (some ⟨p, 0, none⟩), .agg #[.int .i64 pb, .int .i64 pp]] w fun e w' => RdV w w' C pb pp e := by
 obtain ⟨x, bs, fe, hc⟩ := h
 have N := (hc.below (below_alloc _ (.cells #[.int .i64 pb, .int .i64 pp] 41))).below (below_alloc _ (.cells #[.slice none 0 0, .slice none 0 0] 36))
 have c11 := N.box.c11
 rw [N.dark] at c11
 have HBB := J (below_trans (below_alloc w (.cells #[.int .i64 pb, .int .i64 pp] 41)) (below_alloc _ (.cells #[.slice none 0 0, .slice none 0 0] 36)))
 have HK := J N
 have HPL0 : Hid (((w.alloc (.cells #[.int .i64 pb, .int .i64 pp] 41)).alloc (.cells #[.slice none 0 0, .slice none 0 0] 36)).heap[w.heap.size]? = some (.cells #[.int .i64 pb, .int .i64 pp] 41 (0, 0))) := (alloc_old _ _ (by simp)).trans (alloc_new w (.cells #[.int .i64 pb, .int .i64 pp] 41))
 have HZ0 : Hid (((w.alloc (.cells #[.int .i64 pb, .int .i64 pp] 41)).alloc (.cells #[.slice none 0 0, .slice none 0 0] 36)).heap[w.heap.size + 1]? = some (.cells #[.slice none 0 0, .slice none 0 0] 36 (0, 0))) := by have h2 := alloc_new (w.alloc (.cells #[.int .i64 pb, .int .i64 pp] 41)) (.cells #[.slice none 0 0, .slice none 0 0] 36); rw [alloc_size] at h2; exact h2
 have HH := J hc
 clear hc N
 cases hd : C.dark with
 | true =>
  rw [hd] at c11
  go_enter Try.func13, Try.ntmps13
  go_wp2
  have e1 : ReadE C pb pp = 45 := by unfold ReadE; rw [hd]; rfl
  exact bodyPost_ret (v := .tuple #[.agg #[.slice none 0 0, .slice none 0 0], .int .i64 45]) (by simp [results, Try.results13, go_sem]) rfl (rdv_none e1 (by decide) HBB.out)
 | false =>
  rw [hd] at c11
  cases hp : hasP C.B C.P pb pp with
  | false =>
   go_enter Try.func13, Try.ntmps13
   go_wp2_with (first | (go_at_call 57; refine (hasPage_any x p C.B C.P pb pp _ HK.out.box HK.out.B HK.out.P).mono ?_; rintro e u1 ⟨rfl, b1⟩; rw [hp]; have HB1 := J b1; have hz := (b1.block _ (lt_of_block HZ0.out)).trans HZ0.out; obtain ⟨z0, z1⟩ := cells2 hz; have fz := (fun j => frozen_of_row u1 (w.heap.size + 1) j _ 36 hz); have HZ := J hz; clear b1 hz c11))
   have e1 : ReadE C pb pp = 41 := by unfold ReadE; rw [hd, hp]; rfl
   have hs2 := heap_setCell_same _ (w.heap.size + 1) 1 #[.slice none 0 0, .slice none 0 0] 36 (.slice none 0 0) (heap_setCell_same u1 (w.heap.size + 1) 0 _ 36 (.slice none 0 0) HZ.out)
   have hbl : Below w.heap.size w ((u1.setCell ⟨w.heap.size + 1, 0, none⟩ (.slice none 0 0)).setCell ⟨w.heap.size + 1, 1, none⟩ (.slice none 0 0)) := ((below_trans HBB.out HB1.out).setCell (p := ⟨w.heap.size + 1, 0, none⟩) (by show w.heap.size ≤ w.heap.size + 1; omega) _).setCell (p := ⟨w.heap.size + 1, 1, none⟩) (by show w.heap.size ≤ w.heap.size + 1; omega) _
   generalize hv9 : World.setCell _ ⟨w.heap.size + 1, 1, none⟩ _ = v9 at hs2 hbl ⊢
   obtain ⟨y0, y1⟩ := cells2 hs2
   exact bodyPost_ret (v := .tuple #[.agg #[.slice none 0 0, .slice none 0 0], .int .i64 41]) (by simp [results, Try.results13, go_sem, y0, y1]) rfl (rdv_none e1 (by decide) hbl)
  | true =>
   obtain ⟨i, k, rfl, rfl, hi, hk⟩ := hasP_nat hp
   have hbl : i < bs.length := by rw [HH.out.len, hok.bl]; exact hi
   have hib : bs[i]? = some bs[i] := List.getElem?_eq_getElem hbl
   obtain ⟨b, hb⟩ : ∃ b, bs[i] = b := ⟨_, rfl⟩
   rw [hb] at hib
   have hkl : k < b.ps.length := by rw [(HH.out.bok b (List.mem_of_getElem? hib)).np]; exact hk
   have hkq : b.ps[k]? = some b.ps[k] := List.getElem?_eq_getElem hkl
   obtain ⟨q, hq⟩ : ∃ q, b.ps[k] = q := ⟨_, rfl⟩
   rw [hq] at hkq
   have e1 : C.bl[i]? = some b.v := by rw [← HH.out.bl, List.getElem?_map, hib]; rfl
   have e2 : b.v.ps[k]? = some q.v := by show (b.ps.map Pc.v)[k]? = _; rw [List.getElem?_map, hkq]; rfl
   have HRL : Hid (readL C (i : Int).toNat (k : Int).toNat = flipsL q.bits (C.fl i k)) := by
    unfold Hid readL
    simp only [Int.toNat_natCast, e1, e2]
    rfl
   have HRE : Hid (ReadE C (i : Int) (k : Int) = 0) := by unfold Hid ReadE; rw [hd, hp]; rfl
   obtain ⟨n1, hn1⟩ : ∃ n, n = 256 * C.S := ⟨_, rfl⟩
   obtain ⟨n2, hn2⟩ : ∃ n, n = 54 + 3 * C.S := ⟨_, rfl⟩
   have HN := J (And.intro hn1 hn2)
   clear e1 e2 hb hq hkl hbl hn1 hn2
   go_enter Try.func13, Try.ntmps13
   go_wp2_with (first
    | (go_at_call 57; refine (hasPage_any x p C.B C.P (i : Int) (k : Int) _ HK.out.box HK.out.B HK.out.P).mono ?_; rintro e u1 ⟨rfl, b1⟩; rw [hp]; have HB1 := J b1; have HK1 := J (HK.out.below b1); obtain ⟨q0, q1⟩ := cells2 ((b1.block _ (lt_of_block HPL0.out)).trans HPL0.out); have hz := (b1.block _ (lt_of_block HZ0.out)).trans HZ0.out; have HZ := J hz; clear b1 hz c11)
    | (go_at_call 58; refine (reads_any _ p F C x bs fe HK1.out hok i k b q hib hkq).mono ?_; rintro e u2 ⟨d1, f1, d2, f2, D, Z, rfl, o1, o2, hne, hdz, b2⟩; rw [← HN.out.1, ← HN.out.2]; rw [← HN.out.1] at o1; rw [← HN.out.2] at o2; have HO1 := J o1; have HO2 := J o2; have HNE := J hne; have HDZ := J hdz; have HB2 := J b2; have hz := (b2.block _ (lt_of_block HZ.out)).trans HZ.out; obtain ⟨z0, z1⟩ := cells2 hz; have fz := (fun j => frozen_of_row u2 (w.heap.size + 1) j _ 36 hz); have HZ2 := J hz; clear o1 o2 hne hdz b2 hz))
   have hs2 := heap_setCell_same _ (w.heap.size + 1) 1 #[.slice (some ⟨d1, 0, none⟩) n1 f1, .slice none 0 0] 36 (.slice (some ⟨d2, 0, none⟩) n2 f2) (heap_setCell_same u2 (w.heap.size + 1) 0 _ 36 (.slice (some ⟨d1, 0, none⟩) n1 f1) HZ2.out)
   have hO : Only (· = w.heap.size + 1) u2 _ := (Only.setCell (· = w.heap.size + 1) u2 (w.heap.size + 1) 0 (.slice (some ⟨d1, 0, none⟩) n1 f1) rfl).trans' (Only.setCell _ _ (w.heap.size + 1) 1 (.slice (some ⟨d2, 0, none⟩) n2 f2) rfl)
   have hbu : Below w.heap.size w u2 := below_trans (below_trans HBB.out HB1.out) HB2.out
   have hbl : Below w.heap.size w ((u2.setCell ⟨w.heap.size + 1, 0, none⟩ (.slice (some ⟨d1, 0, none⟩) n1 f1)).setCell ⟨w.heap.size + 1, 1, none⟩ (.slice (some ⟨d2, 0, none⟩) n2 f2)) := (hbu.setCell (p := ⟨w.heap.size + 1, 0, none⟩) (by show w.heap.size ≤ w.heap.size + 1; omega) _).setCell (p := ⟨w.heap.size + 1, 1, none⟩) (by show w.heap.size ≤ w.heap.size + 1; omega) _
   generalize hv9 : World.setCell _ ⟨w.heap.size + 1, 1, none⟩ _ = v9 at hs2 hO hbl ⊢
   obtain ⟨y0, y1⟩ := cells2 hs2
   have hbase : w.heap.size ≤ u1.heap.size := (below_trans HBB.out HB1.out).size
   have hk5 : ∀ {d e n : Nat} {Y : List Int}, Own u2 u1.heap.size d n e Y → Own v9 w.heap.size d n e Y := fun hd9 => by
    have h9 := owns_keep (w' := v9) hd9 (fun g hg => by
     obtain ⟨cs, hcs⟩ := own_tag hd9 hg
     exact hO.block g (lt_of_block hcs) (tag_ne hcs HZ2.out (t := 5) (u := 36) rfl rfl (by decide)))
    exact own_base h9 hbase
   refine bodyPost_ret (v := .tuple #[.agg #[.slice (some ⟨d1, 0, none⟩) n1 f1, .slice (some ⟨d2, 0, none⟩) n2 f2], .int .i64 0]) (by simp [results, Try.results13, go_sem, y0, y1]) rfl ?_
   refine ⟨⟨_, _, _, _, _, _, D, Z, by rw [HRE.out], hk5 HO1.out, hk5 HO2.out, (fun g hg hg' => HNE.out (by cases hg; cases hg'; rfl)), ?_⟩, hbl⟩
   rw [HRE.out, if_pos rfl, HRL.out]
   exact ⟨HN.out.1, HN.out.2, HDZ.out⟩
def MarkedE (C : Ch) (pb : Int) : Int := if C.dark then 45 else if hasB C.B pb then 0 else 41
def MarkedB (C : Ch) (pb : Int) : Bool := if MarkedE C pb = 0 then (match C.bl[pb.toNat]? with | some b => b.m | none => false) else false
theorem Marked_any (w : World) (p : Nat) (F : Nat → Prop) (C : Ch) (h : ChipAt w p F C) (hok : C.Ok) (pb : Int) :
  Calls Try.prog 50 #[.pointer (some ⟨p, 0, none⟩), .int .i64 pb] w fun e w' => e = .returned (.tuple #[.bool (MarkedB C pb), .int .i64 (MarkedE C pb)]) ∧ w' = w := by
 obtain ⟨x, bs, fe, hc⟩ := h
 have c11 := hc.box.c11
 rw [hc.dark] at c11
 have HH := J hc
 clear hc
 cases hd : C.dark with
 | true =>
  have e1 : MarkedE C pb = 45 := by unfold MarkedE; rw [hd]; rfl
  have e2 : MarkedB C pb = false := by unfold MarkedB; rw [e1]; rfl
  rw [hd] at c11
  rw [e1, e2]
  go_enter Try.func50, Try.ntmps50
  go_wp2
  go_ret2
  exact ⟨rfl, rfl⟩
 | false =>
  rw [hd] at c11
  cases hp : hasB C.B pb with
  | false =>
   have e1 : MarkedE C pb = 41 := by unfold MarkedE; rw [hd, hp]; rfl
   have e2 : MarkedB C pb = false := by unfold MarkedB; rw [e1]; rfl
   rw [e1, e2]
   go_enter Try.func50, Try.ntmps50
   go_wp2_with (first | (go_at_call 85; refine (hasBlock_any HH.out.box pb C.B HH.out.B).mono ?_; rintro e u1 ⟨rfl, h1⟩; rw [h1, hp]; clear h1))
   go_ret2
   exact ⟨rfl, rfl⟩
  | true =>
   obtain ⟨i, rfl, hi⟩ : ∃ i : Nat, pb = i ∧ i < C.B := ⟨pb.toNat, by have := of_decide_eq_true hp; omega, by have := of_decide_eq_true hp; omega⟩
   have hbl : i < bs.length := by rw [HH.out.len, hok.bl]; exact hi
   have hib : bs[i]? = some bs[i] := List.getElem?_eq_getElem hbl
   obtain ⟨b, hb⟩ : ∃ b, bs[i] = b := ⟨_, rfl⟩
   rw [hb] at hib
   have e3 : C.bl[i]? = some b.v := by rw [← HH.out.bl, List.getElem?_map, hib]; rfl
   have e1 : MarkedE C (i : Int) = 0 := by unfold MarkedE; rw [hd, hp]; rfl
   have e2 : MarkedB C (i : Int) = b.m := by unfold MarkedB; rw [e1, if_pos rfl, Int.toNat_natCast, e3]; rfl
   rw [e1, e2]
   have c3 := HH.out.box.c3
   obtain ⟨m0, _, _, _⟩ := HH.out.blk hib
   have i1 : (i : Int) < (x.nb : Int) := by rw [HH.out.nb]; omega
   clear e1 e2 e3 hb hib
   go_enter Try.func50, Try.ntmps50
   go_wp2_with (first | (go_at_call 85; refine (hasBlock_any HH.out.box (i : Int) C.B HH.out.B).mono ?_; rintro e u1 ⟨rfl, h1⟩; rw [h1, hp]; clear h1))
   go_ret2
   exact ⟨rfl, rfl⟩
theorem made120 (w : World) : (w.alloc (.cells #[] 120)).ownsRow w.heap.size 120 4 (.slice (some ⟨w.heap.size, 0, none⟩) 0 0) 0 [] := World.ownsRow_made w #[] 0 (Nat.le_refl _) (by simp [maxLen]) rfl
theorem cmd_one {tr : List Cmd} : ∀ u ∈ tr.flatMap Cmd.cells, u.oneCell' = true := by
 intro u hu
 obtain ⟨c, _, hc⟩ := List.mem_flatMap.1 hu
 simp [Cmd.cells] at hc
 rcases hc with rfl | rfl | rfl | rfl <;> rfl
theorem cloneC_any (a : Option Addr) (n c : Nat) (tr : List Cmd) (w : World) (B : Nat) (ho : w.ownsRow B 120 4 (.slice a n c) n (tr.flatMap Cmd.cells)) (hl : n ≤ 4000000000000) :
  Calls Try.prog 59 #[.slice a n c] w fun e w' => ∃ v, e = .returned v ∧ w'.ownsRow w.heap.size 120 4 v n (tr.flatMap Cmd.cells) ∧ Below w.heap.size w w' := by
 obtain ⟨i0, hi, hz0, hz1, hz2⟩ := info_parts info120
 rcases ho.2 with ⟨hv, h0⟩ | ⟨g, cap, cur, hv, hB, hg, hnc, hcm, hcs, htk⟩
 ·cases hv
  have hnil := fun w : World => _root_.Go.run_eql_slice_nil (P := Try.prog) w 45 120 none 0 0 Try.underlying45
  have hx : tr.flatMap Cmd.cells = [] := List.eq_nil_of_length_eq_zero (by have := ho.1; simpa using this)
  rw [hx]
  clear ho hx
  go_enter Try.func59, Try.ntmps59
  go_wp2
  go_ret
  exact ⟨_, rfl, World.ownsRow_nil _ _ _ _, Below.refl _ _⟩
 ·cases hv
  have hnil := fun w : World => _root_.Go.run_eql_slice_nil (P := Try.prog) w 45 120 (some ⟨g, 0, none⟩) n c Try.underlying45
  have HM := J (made120 w)
  have hlen : (tr.flatMap Cmd.cells).length = n * 4 := ho.1
  have HN : Hid (∀ j u, (tr.flatMap Cmd.cells)[j]? = some u → (w.alloc (.cells #[] 120)).cell? ((⟨g, 0, none⟩ : Addr).add j) = some u) := by
   intro j u hj
   rw [plain_add, Nat.zero_add, (below_alloc w (.cells #[] 120)).cell (p := ⟨g, j, none⟩) (lt_of_block hg)]
   simp only [World.cell?, hg]
   rw [← htk, List.getElem?_take] at hj
   split at hj
   ·simpa using hj
   ·cases hj
  have HLN := J hlen
  clear ho hg hB hnc hcm hcs htk hlen
  go_enter Try.func59, Try.ntmps59
  go_wp2_with (at_builtin; refine wpList_append_own _ rfl (.tmp 5) (.tmp 6) 45 rfl w.heap.size 120 i0 (.agg #[.int .i64 0, .int .i64 0, .int .i64 0, .int .i64 0]) 4 32 Try.underlying45 hi hz0 hz1 hz2 rfl (by decide) _ 0 [] rfl HM.out ⟨g, 0, none⟩ n c (tr.flatMap Cmd.cells) rfl HLN.out HN.out cmd_one (by simp [maxLen]; omega) (by omega) (by simp) ?_; intro v2 w2 own2 grow2 _; have HO := J own2; have HG := J grow2; clear own2 grow2)
  go_ret
  refine ⟨_, rfl, by simpa using HO.out, ?_⟩
  exact (below_alloc w _).grown HG.out (by simp) (fun k hk => (World.ownsRow.lt HM.out k hk).1)
theorem Trace_any (w : World) (p : Nat) (F : Nat → Prop) (C : Ch) (h : ChipAt w p F C) (htr : C.tr.length ≤ 4000000000000) :
  Calls Try.prog 19 #[.pointer (some ⟨p, 0, none⟩)] w fun e w' => ∃ v, e = .returned v ∧ w'.ownsRow w.heap.size 120 4 v C.tr.length (C.tr.flatMap Cmd.cells) ∧ Below w.heap.size w w' := by
 obtain ⟨x, bs, fe, hc⟩ := h
 have c13 := hc.box.c13
 have HT := J hc.tr
 have hl := hc.tr.len
 have HTL := J hl
 rw [hl] at c13
 clear hc hl
 go_enter Try.func19, Try.ntmps19
 go_wp2_with (first | (go_at_call 59; refine (cloneC_any x.ta C.tr.length x.tc C.tr _ 0 (by have h9 := HT.out.row; rw [HTL.out] at h9; exact h9) htr).mono ?_; rintro e u1 ⟨v, rfl, o1, b1⟩; have HO := J o1; have HB := J b1; clear o1 b1))
 go_ret
 exact ⟨_, rfl, HO.out, HB.out⟩
theorem Dark_any (w : World) (p : Nat) (F : Nat → Prop) (C : Ch) (h : ChipAt w p F C) : Calls Try.prog 17 #[.pointer (some ⟨p, 0, none⟩)] w fun e w' => e = .returned (.bool C.dark) ∧ w' = w := by
 obtain ⟨x, bs, fe, hc⟩ := h
 rw [← hc.dark]
 exact dark_any hc.box
theorem Count_any (w : World) (p : Nat) (F : Nat → Prop) (C : Ch) (h : ChipAt w p F C) : Calls Try.prog 18 #[.pointer (some ⟨p, 0, none⟩)] w fun e w' => e = .returned (.int .i64 (C.cnt : Int)) ∧ w' = w := by
 obtain ⟨x, bs, fe, hc⟩ := h
 rw [← hc.cnt]
 exact count_any hc.box
theorem On_any (w : World) (p : Nat) (F : Nat → Prop) (C : Ch) (h : ChipAt w p F C) : Calls Try.prog 25 #[.pointer (some ⟨p, 0, none⟩)] w fun e w' => e = .returned (.tuple #[]) ∧ ChipAt w' p F { C with dark := false } ∧ Only F w w' := by
 obtain ⟨x, bs, fe, hc⟩ := h
 refine (on_any hc.box).mono ?_
 rintro e w' ⟨rfl, rfl⟩
 have ho := Only.setCell (· = p) w p 11 (.bool false) rfl
 exact ⟨rfl, ⟨_, bs, fe, hc.box2 (hc.onlyBox ho (fun k hk => hk)) ho.size (hc.box.setDark false) ⟨rfl, rfl, rfl, rfl, rfl, rfl, rfl⟩ ⟨rfl, rfl, rfl, rfl, rfl, rfl, rfl⟩ ⟨rfl, rfl, rfl⟩ rfl hc.cnt ⟨rfl, rfl, rfl, rfl, rfl, rfl, rfl⟩⟩, ho.mono (fun j _ e => by rw [e]; exact hc.fp)⟩
def UB (p cb ub un : Nat) (C : Ch) (u : World) : Prop := u.cell? ⟨cb, 0, none⟩ = some (.pointer (some ⟨p, 0, none⟩)) ∧ u.cell? ⟨ub, 0, none⟩ = some (.int .i64 (un : Int)) ∧ u.cell? ⟨p, 0, none⟩ = some (.int .i64 (C.B : Int)) ∧ u.cell? ⟨p, 1, none⟩ = some (.int .i64 (C.P : Int)) ∧ u.cell? ⟨p, 2, none⟩ = some (.int .i64 (C.S : Int))
theorem ub_keep {p un : Nat} {u' : World} (h : UB p cb ub un C u) (hb : Below u.heap.size u u') : UB p cb ub un C u' := by
 obtain ⟨h0, h1, h2, h3, h4⟩ := h
 exact ⟨(hb.cell (block_lt_of_cell h0)).trans h0, (hb.cell (block_lt_of_cell h1)).trans h1, (hb.cell (block_lt_of_cell h2)).trans h2, (hb.cell (block_lt_of_cell h3)).trans h3, (hb.cell (block_lt_of_cell h4)).trans h4⟩
theorem ub_drew {p un : Nat} (h : UB p cb ub un C u) : UB p cb ub un C u.drew := h
theorem unit_any (p cb ub un z : Nat) (C : Ch) (w : World) (hu : UB p cb ub un C w) (hS : 1 ≤ C.S ∧ C.S ≤ 8) (hz : z < 8 * pgB C.S) :
  Calls Try.prog 92 #[.int .i64 (z : Int), .pointer (some ⟨cb, 0, none⟩), .pointer (some ⟨ub, 0, none⟩)] w fun e w' => e = .returned (.bool (((unitN C.S z : Nat) : Int) == (un : Int))) ∧ Below w.heap.size w w' := by
 have HU := J hu
 clear hu
 go_enter Try.func92, Try.ntmps92
 go_wp2
 refine wp_region_held_drew (S := (fun u => u.cell? ⟨cb, 0, none⟩ = some (.pointer (some ⟨p, 0, none⟩)) ∧ u.cell? ⟨ub, 0, none⟩ = some (.int .i64 (un : Int)) ∧ u.cell? ⟨p, 0, none⟩ = some (.int .i64 (C.B : Int)) ∧ u.cell? ⟨p, 1, none⟩ = some (.int .i64 (C.P : Int)) ∧ u.cell? ⟨p, 2, none⟩ = some (.int .i64 (C.S : Int)))) (by kernel_rfl) (ub_drew HU.out) fun O => ?_
 refine tk 0 ?_
 refine tk 1 ?_
 refine tk 2 ?_
 refine tk 3 ?_
 refine tk 4 ?_
 refine tk 6 ?_
 refine rd 5 fun K N => ?_
 go_simp
 go_at_call 90
 refine (unitOf_any _ _ C.S z _ hS.1 hS.2 hz).mono ?_
 rintro e u1 ⟨rfl, b1⟩
 have HB1 := J (below_trans (drew_below _) b1)
 have hZ := ub_keep HU.out HB1.out
 clear b1
 go_wp2_with fail
 clear O
 refine N.out _ _ hZ fun O => ?_
 clear N K hZ
 try simp only [zz]
 refine tk 7 ?_
 refine tk 8 ?_
 refine td ?_
 clear O
 go_wp2
 go_ret
 exact ⟨rfl, HB1.out⟩
theorem indexF_any (p cb ub un : Nat) (C : Ch) (w : World) (hu : UB p cb ub un C w) (hS : 1 ≤ C.S ∧ C.S ≤ 8) (la : Option Addr) (ln lc B : Nat) (fl : List Nat) (ho : w.ownsRow B 3 1 (.slice la ln lc) ln (fl.map fun (i : Nat) => Value.int .i64 (i : Int))) (hb : ∀ z ∈ fl, z < 8 * pgB C.S) (hlb : ln ≤ 9223372036854775807) :
  Calls Try.prog 109 #[.slice la ln lc, .func (.func 92) #[] #[.pointer (some ⟨cb, 0, none⟩), .pointer (some ⟨ub, 0, none⟩)]] w fun e w' => (∃ r : Int, e = .returned (.int .i64 r) ∧ decide (r ≥ 0) = fl.any (fun z => ((unitN C.S z : Nat) : Int) == (un : Int))) ∧ Below w.heap.size w w' := by
 have hln : fl.length = ln := by have h9 := ho.1; simpa using h9
 have HO := J ho
 have HU := J hu
 have HF := J hb
 have HLN := J hln
 clear ho hu hb hln
 go_enter Try.func109, Try.ntmps109
 go_wp2
 go_loopw [8] (fun s8 wr => ∃ m : Nat, m ≤ ln ∧ s8 = .int .i64 m ∧ Hid (Below w.heap.size w wr) ∧ Hid (∀ z ∈ fl.take m, (((unitN C.S z : Nat) : Int) == (un : Int)) = false))
  (fun s8 _ => ln - (intOf s8).toNat)
 case atStart => exact ⟨0, Nat.zero_le _, rfl, Below.refl _ _, by intro z hz; simp at hz⟩
 case round =>
  obtain ⟨m, hm, rfl, HB, HN⟩ := hrel
  by_cases hlt : m < ln
  ·obtain ⟨gl, cl, hle, _, hgl⟩ := HO.out.form (by omega)
   cases hle
   have hflm : m < fl.length := by have := HLN.out; omega
   obtain ⟨z, hz⟩ : ∃ z, fl[m] = z := ⟨_, rfl⟩
   have hzb : z < 8 * pgB C.S := HF.out z (by rw [← hz]; exact List.getElem_mem hflm)
   have hcz : wr.cell? ⟨gl, m, none⟩ = some (.int .i64 (z : Int)) := by
    have h1 := World.ownsRow.cellAt HO.out m (by have := HLN.out; simp; omega)
    rw [List.getElem?_map, List.getElem?_eq_getElem hflm, hz] at h1
    rw [HB.out.cell hgl]
    exact h1
   have m1 : (m : Int) < (ln : Int) := by omega
   have dm : decide ((m : Int) < (ln : Int)) = true := decide_eq_true m1
   have HUr := J (ub_keep HU.out HB.out)
   have HTK : Hid (fl.take (m + 1) = fl.take m ++ [z]) := by unfold Hid; rw [List.take_succ_eq_append_getElem hflm, hz]
   have HZM : Hid (z ∈ fl) := by unfold Hid; rw [← hz]; exact List.getElem_mem hflm
   clear hz
   cases hq : (((unitN C.S z : Nat) : Int) == (un : Int)) with
   | true =>
    go_wp2_with (first | (go_at_call 92; refine (unit_any p cb ub un z C _ HUr.out hS hzb).mono ?_; rintro e u1 ⟨rfl, b1⟩; rw [hq]; have HB1 := J b1; clear b1))
    go_ret
    refine ⟨⟨_, rfl, ?_⟩, below_trans HB.out HB1.out⟩
    have e1 : fl.any (fun z => ((unitN C.S z : Nat) : Int) == (un : Int)) = true := List.any_eq_true.2 ⟨z, HZM.out, hq⟩
    rw [e1]
    exact decide_eq_true (by omega)
   | false =>
    have HNX : Hid (∀ y ∈ fl.take (m + 1), (((unitN C.S y : Nat) : Int) == (un : Int)) = false) := by
     intro y hy
     rw [HTK.out] at hy
     rcases List.mem_append.1 hy with h1 | h1
     ·exact HN.out y h1
     ·simp at h1; rw [h1]; exact hq
    go_wp2_with (first | (go_at_call 92; refine (unit_any p cb ub un z C _ HUr.out hS hzb).mono ?_; rintro e u1 ⟨rfl, b1⟩; rw [hq]; have HB1 := J (below_trans HB.out b1); clear b1))
    go_roundw
    case rel => exact ⟨m + 1, by omega, by go_num, HB1, HNX⟩
    case measure => simp [intOf]; omega
  ·have hml : m = ln := by omega
   subst hml
   go_wp2
   go_ret
   refine ⟨⟨-1, rfl, ?_⟩, HB.out⟩
   have e1 : fl.any (fun z => ((unitN C.S z : Nat) : Int) == (un : Int)) = false := by
    rw [List.any_eq_false]
    intro y hy
    have h9 := HN.out y (by rw [List.take_of_length_le (by have := HLN.out; omega)]; exact hy)
    rw [h9]
    decide
   rw [e1]
   rfl
theorem containsF_any (p cb ub un : Nat) (C : Ch) (w : World) (hu : UB p cb ub un C w) (hS : 1 ≤ C.S ∧ C.S ≤ 8) (la : Option Addr) (ln lc B : Nat) (fl : List Nat) (ho : w.ownsRow B 3 1 (.slice la ln lc) ln (fl.map fun (i : Nat) => Value.int .i64 (i : Int))) (hb : ∀ z ∈ fl, z < 8 * pgB C.S) (hlb : ln ≤ 9223372036854775807) :
  Calls Try.prog 91 #[.slice la ln lc, .func (.func 92) #[] #[.pointer (some ⟨cb, 0, none⟩), .pointer (some ⟨ub, 0, none⟩)]] w fun e w' => e = .returned (.bool (fl.any (fun z => ((unitN C.S z : Nat) : Int) == (un : Int)))) ∧ Below w.heap.size w w' := by
 have HH := J (indexF_any p cb ub un C w hu hS la ln lc B fl ho hb hlb)
 clear hu ho hb
 go_enter Try.func91, Try.ntmps91
 go_wp2_with (first | (go_at_call 109; refine HH.out.mono ?_; rintro e u1 ⟨⟨r, rfl, hr⟩, b1⟩; have HB1 := J b1; have HR := J hr; clear b1 hr))
 go_ret
 exact ⟨ret_bool HR.out, HB1.out⟩
end Go.Proofs.Ytadlkikjfonkgaa
