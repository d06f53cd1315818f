/-
  SEAT Ytadlkikjfonkgaa: Read, Marked.
-/
import Derived.Test.YtadlkikjfonkgaaRe
namespace Go.Proofs.Ytadlkikjfonkgaa
open Go.RowKit Go.Conc
set_option linter.unusedVariables false

/-- What a page reads as. -/
def readL (C : Ch) (i k : Nat) : List Int := match C.bl[i]? with
  | none => []
  | some b => match b.ps[k]? with
    | none => []
    | some q => flipsL q.bits (C.fl i k)
def ReadE (C : Ch) (pb pp : Int) : Int := if C.dark then 45 else if hasP C.B C.P pb pp then 0 else 41
/-- What Read answers: two rows of its own, or none. -/
structure RdV (w w' : World) (C : Ch) (pb pp : Int) (e : Ending) : Prop where
  ex : ∃ a1 m1 c1 a2 m2 c2 D Z, e = .returned (.tuple #[.agg #[.slice a1 m1 c1, .slice a2 m2 c2], .int .i64 (ReadE C pb pp)]) ∧ w'.ownsRow w.heap.size 5 1 (.slice a1 m1 c1) m1 (D.map (Value.int .u8)) ∧ w'.ownsRow w.heap.size 5 1 (.slice a2 m2 c2) m2 (Z.map (Value.int .u8)) ∧ (∀ g, (Value.slice a1 m1 c1).ownBlock = some g → (Value.slice a2 m2 c2).ownBlock ≠ some g) ∧
    (if ReadE C pb pp = 0 then m1 = 256 * C.S ∧ m2 = 54 + 3 * C.S ∧ D ++ Z = readL C pb.toNat pp.toNat else m1 = 0 ∧ m2 = 0 ∧ D = [] ∧ Z = [])
  bel : Below w.heap.size w w'

theorem rdv_none {w w' : World} {C : Ch} {pb pp : Int} {z : Int} (hz : ReadE C pb pp = z) (h0 : z ≠ 0) (hb : Below w.heap.size w w') : RdV w w' C pb pp (.returned (.tuple #[.agg #[.slice none 0 0, .slice none 0 0], .int .i64 z])) :=
  ⟨⟨none, 0, 0, none, 0, 0, [], [], by rw [hz], World.ownsRow_nil _ _ _ _, World.ownsRow_nil _ _ _ _, (fun g hg => by cases hg), by rw [hz, if_neg h0]; exact ⟨rfl, rfl, rfl, rfl⟩⟩, hb⟩

set_option maxRecDepth 100000 in
theorem Read_any (w : World) (p : Nat) (F : Nat → Prop) (C : Ch) (h : ChipAt w p F C) (hok : C.Ok) (pb pp : Int) :
    Calls Try.prog 13 #[.pointer (some ⟨p, 0, none⟩), .agg #[.int .i64 pb, .int .i64 pp]] w fun e w' => RdV w w' C pb pp e := by
  obtain ⟨x, bs, fe, hc⟩ := h
  have hK := (hc.below (below_alloc _ (.cells #[.int .i64 pb, .int .i64 pp] 41))).below (below_alloc _ (.cells #[.slice none 0 0, .slice none 0 0] 36))
  have c11 := hK.box.c11
  rw [hK.dark] at c11
  have HBB := hide (below_trans (below_alloc w (.cells #[.int .i64 pb, .int .i64 pp] 41)) (below_alloc _ (.cells #[.slice none 0 0, .slice none 0 0] 36)))
  have HK := hide hK
  have HPL0 : Hid (((w.alloc (.cells #[.int .i64 pb, .int .i64 pp] 41)).alloc (.cells #[.slice none 0 0, .slice none 0 0] 36)).heap[w.heap.size]? = some (.cells #[.int .i64 pb, .int .i64 pp] 41 (0, 0))) := (alloc_old _ _ (by simp)).trans (alloc_new w (.cells #[.int .i64 pb, .int .i64 pp] 41))
  have HZ0 : Hid (((w.alloc (.cells #[.int .i64 pb, .int .i64 pp] 41)).alloc (.cells #[.slice none 0 0, .slice none 0 0] 36)).heap[w.heap.size + 1]? = some (.cells #[.slice none 0 0, .slice none 0 0] 36 (0, 0))) := by have h2 := alloc_new (w.alloc (.cells #[.int .i64 pb, .int .i64 pp] 41)) (.cells #[.slice none 0 0, .slice none 0 0] 36); rw [alloc_size] at h2; exact h2
  have HH := hide hc
  clear hc hK
  cases hd : C.dark with
  | true =>
    rw [hd] at c11
    go_enter Try.func13, Try.ntmps13
    go_wp2
    have e1 : ReadE C pb pp = 45 := by unfold ReadE; rw [hd]; rfl
    exact bodyPost_ret (v := .tuple #[.agg #[.slice none 0 0, .slice none 0 0], .int .i64 45]) (by simp [results, Try.results13, go_sem]) rfl (rdv_none e1 (by decide) HBB.out)
  | false =>
    rw [hd] at c11
    cases hp : hasP C.B C.P pb pp with
    | false =>
      go_enter Try.func13, Try.ntmps13
      go_wp2_with (first | (go_at_call 57; refine (hasPage_any x p C.B C.P pb pp _ HK.out.box HK.out.B HK.out.P).mono ?_; rintro e u1 ⟨rfl, b1⟩; rw [hp]; have HB1 := hide b1; have hz := (b1.block _ (lt_of_block HZ0.out)).trans HZ0.out; obtain ⟨z0, z1⟩ := cells2 hz; have fz := (fun j => frozen_of_row u1 (w.heap.size + 1) j _ 36 hz); have HZ := hide hz; clear b1 hz c11))
      have e1 : ReadE C pb pp = 41 := by unfold ReadE; rw [hd, hp]; rfl
      have hs2 := heap_setCell_same _ (w.heap.size + 1) 1 #[.slice none 0 0, .slice none 0 0] 36 (.slice none 0 0) (heap_setCell_same u1 (w.heap.size + 1) 0 _ 36 (.slice none 0 0) HZ.out)
      have hbl : Below w.heap.size w ((u1.setCell ⟨w.heap.size + 1, 0, none⟩ (.slice none 0 0)).setCell ⟨w.heap.size + 1, 1, none⟩ (.slice none 0 0)) := ((below_trans HBB.out HB1.out).setCell (p := ⟨w.heap.size + 1, 0, none⟩) (by show w.heap.size ≤ w.heap.size + 1; omega) _).setCell (p := ⟨w.heap.size + 1, 1, none⟩) (by show w.heap.size ≤ w.heap.size + 1; omega) _
      generalize hv9 : World.setCell _ ⟨w.heap.size + 1, 1, none⟩ _ = v9 at hs2 hbl ⊢
      obtain ⟨y0, y1⟩ := cells2 hs2
      exact bodyPost_ret (v := .tuple #[.agg #[.slice none 0 0, .slice none 0 0], .int .i64 41]) (by simp [results, Try.results13, go_sem, y0, y1]) rfl (rdv_none e1 (by decide) hbl)
    | true =>
      obtain ⟨i, k, rfl, rfl, hi, hk⟩ := hasP_nat hp
      have hbl : i < bs.length := by rw [HH.out.len, hok.bl]; exact hi
      have hib : bs[i]? = some bs[i] := List.getElem?_eq_getElem hbl
      obtain ⟨b, hb⟩ : ∃ b, bs[i] = b := ⟨_, rfl⟩
      rw [hb] at hib
      have hkl : k < b.ps.length := by rw [(HH.out.bok b (List.mem_of_getElem? hib)).np]; exact hk
      have hkq : b.ps[k]? = some b.ps[k] := List.getElem?_eq_getElem hkl
      obtain ⟨q, hq⟩ : ∃ q, b.ps[k] = q := ⟨_, rfl⟩
      rw [hq] at hkq
      have e1 : C.bl[i]? = some b.v := by rw [← HH.out.bl, List.getElem?_map, hib]; rfl
      have e2 : b.v.ps[k]? = some q.v := by show (b.ps.map Pc.v)[k]? = _; rw [List.getElem?_map, hkq]; rfl
      have HRL : Hid (readL C (i : Int).toNat (k : Int).toNat = flipsL q.bits (C.fl i k)) := by
        unfold Hid readL
        simp only [Int.toNat_natCast, e1, e2]
        rfl
      have HRE : Hid (ReadE C (i : Int) (k : Int) = 0) := by unfold Hid ReadE; rw [hd, hp]; rfl
      obtain ⟨n1, hn1⟩ : ∃ n, n = 256 * C.S := ⟨_, rfl⟩
      obtain ⟨n2, hn2⟩ : ∃ n, n = 54 + 3 * C.S := ⟨_, rfl⟩
      have HN := hide (And.intro hn1 hn2)
      clear e1 e2 hb hq hkl hbl hn1 hn2
      go_enter Try.func13, Try.ntmps13
      go_wp2_with (first
        | (go_at_call 57; refine (hasPage_any x p C.B C.P (i : Int) (k : Int) _ HK.out.box HK.out.B HK.out.P).mono ?_; rintro e u1 ⟨rfl, b1⟩; rw [hp]; have HB1 := hide b1; have HK1 := hide (HK.out.below b1); obtain ⟨q0, q1⟩ := cells2 ((b1.block _ (lt_of_block HPL0.out)).trans HPL0.out); have hz := (b1.block _ (lt_of_block HZ0.out)).trans HZ0.out; have HZ := hide hz; clear b1 hz c11)
        | (go_at_call 58; refine (reads_any _ p F C x bs fe HK1.out hok i k b q hib hkq).mono ?_; rintro e u2 ⟨d1, f1, d2, f2, D, Z, rfl, o1, o2, hne, hdz, b2⟩; rw [← HN.out.1, ← HN.out.2]; rw [← HN.out.1] at o1; rw [← HN.out.2] at o2; have HO1 := hide o1; have HO2 := hide o2; have HNE := hide hne; have HDZ := hide hdz; have HB2 := hide b2; have hz := (b2.block _ (lt_of_block HZ.out)).trans HZ.out; obtain ⟨z0, z1⟩ := cells2 hz; have fz := (fun j => frozen_of_row u2 (w.heap.size + 1) j _ 36 hz); have HZ2 := hide hz; clear o1 o2 hne hdz b2 hz))
      have hs2 := heap_setCell_same _ (w.heap.size + 1) 1 #[.slice (some ⟨d1, 0, none⟩) n1 f1, .slice none 0 0] 36 (.slice (some ⟨d2, 0, none⟩) n2 f2) (heap_setCell_same u2 (w.heap.size + 1) 0 _ 36 (.slice (some ⟨d1, 0, none⟩) n1 f1) HZ2.out)
      have hO : Only (· = w.heap.size + 1) u2 _ := (Only.setCell (· = w.heap.size + 1) u2 (w.heap.size + 1) 0 (.slice (some ⟨d1, 0, none⟩) n1 f1) rfl).trans' (Only.setCell _ _ (w.heap.size + 1) 1 (.slice (some ⟨d2, 0, none⟩) n2 f2) rfl)
      have hbu : Below w.heap.size w u2 := below_trans (below_trans HBB.out HB1.out) HB2.out
      have hbl : Below w.heap.size w ((u2.setCell ⟨w.heap.size + 1, 0, none⟩ (.slice (some ⟨d1, 0, none⟩) n1 f1)).setCell ⟨w.heap.size + 1, 1, none⟩ (.slice (some ⟨d2, 0, none⟩) n2 f2)) := (hbu.setCell (p := ⟨w.heap.size + 1, 0, none⟩) (by show w.heap.size ≤ w.heap.size + 1; omega) _).setCell (p := ⟨w.heap.size + 1, 1, none⟩) (by show w.heap.size ≤ w.heap.size + 1; omega) _
      generalize hv9 : World.setCell _ ⟨w.heap.size + 1, 1, none⟩ _ = v9 at hs2 hO hbl ⊢
      obtain ⟨y0, y1⟩ := cells2 hs2
      have hbase : w.heap.size ≤ u1.heap.size := (below_trans HBB.out HB1.out).size
      have hk5 : ∀ {d e n : Nat} {Y : List Int}, Own u2 u1.heap.size d n e Y → Own v9 w.heap.size d n e Y := fun hd9 => by
        have h9 := owns_keep (w' := v9) hd9 (fun g hg => by
          obtain ⟨cs, hcs⟩ := own_tag hd9 hg
          exact hO.block g (lt_of_block hcs) (tag_ne hcs HZ2.out (t := 5) (u := 36) rfl rfl (by decide)))
        exact own_base h9 hbase
      refine bodyPost_ret (v := .tuple #[.agg #[.slice (some ⟨d1, 0, none⟩) n1 f1, .slice (some ⟨d2, 0, none⟩) n2 f2], .int .i64 0]) (by simp [results, Try.results13, go_sem, y0, y1]) rfl ?_
      refine ⟨⟨_, _, _, _, _, _, D, Z, by rw [HRE.out], hk5 HO1.out, hk5 HO2.out, (fun g hg hg' => HNE.out (by cases hg; cases hg'; rfl)), ?_⟩, hbl⟩
      rw [HRE.out, if_pos rfl, HRL.out]
      exact ⟨HN.out.1, HN.out.2, HDZ.out⟩

def MarkedE (C : Ch) (pb : Int) : Int := if C.dark then 45 else if hasB C.B pb then 0 else 41
def MarkedB (C : Ch) (pb : Int) : Bool := if MarkedE C pb = 0 then (match C.bl[pb.toNat]? with | some b => b.m | none => false) else false
theorem Marked_any (w : World) (p : Nat) (F : Nat → Prop) (C : Ch) (h : ChipAt w p F C) (hok : C.Ok) (pb : Int) :
    Calls Try.prog 50 #[.pointer (some ⟨p, 0, none⟩), .int .i64 pb] w fun e w' => e = .returned (.tuple #[.bool (MarkedB C pb), .int .i64 (MarkedE C pb)]) ∧ w' = w := by
  obtain ⟨x, bs, fe, hc⟩ := h
  have c11 := hc.box.c11
  rw [hc.dark] at c11
  have HH := hide hc
  clear hc
  cases hd : C.dark with
  | true =>
    have e1 : MarkedE C pb = 45 := by unfold MarkedE; rw [hd]; rfl
    have e2 : MarkedB C pb = false := by unfold MarkedB; rw [e1]; rfl
    rw [hd] at c11
    rw [e1, e2]
    go_enter Try.func50, Try.ntmps50
    go_wp2
    go_ret2
    exact ⟨rfl, rfl⟩
  | false =>
    rw [hd] at c11
    cases hp : hasB C.B pb with
    | false =>
      have e1 : MarkedE C pb = 41 := by unfold MarkedE; rw [hd, hp]; rfl
      have e2 : MarkedB C pb = false := by unfold MarkedB; rw [e1]; rfl
      rw [e1, e2]
      go_enter Try.func50, Try.ntmps50
      go_wp2_with (first | (go_at_call 85; refine (hasBlock_any HH.out.box pb C.B HH.out.B).mono ?_; rintro e u1 ⟨rfl, h1⟩; rw [h1, hp]; clear h1))
      go_ret2
      exact ⟨rfl, rfl⟩
    | true =>
      obtain ⟨i, rfl, hi⟩ : ∃ i : Nat, pb = i ∧ i < C.B := ⟨pb.toNat, by have := of_decide_eq_true hp; omega, by have := of_decide_eq_true hp; omega⟩
      have hbl : i < bs.length := by rw [HH.out.len, hok.bl]; exact hi
      have hib : bs[i]? = some bs[i] := List.getElem?_eq_getElem hbl
      obtain ⟨b, hb⟩ : ∃ b, bs[i] = b := ⟨_, rfl⟩
      rw [hb] at hib
      have e3 : C.bl[i]? = some b.v := by rw [← HH.out.bl, List.getElem?_map, hib]; rfl
      have e1 : MarkedE C (i : Int) = 0 := by unfold MarkedE; rw [hd, hp]; rfl
      have e2 : MarkedB C (i : Int) = b.m := by unfold MarkedB; rw [e1, if_pos rfl, Int.toNat_natCast, e3]; rfl
      rw [e1, e2]
      have c3 := HH.out.box.c3
      obtain ⟨m0, _, _, _⟩ := HH.out.blk hib
      have i1 : (i : Int) < (x.nb : Int) := by rw [HH.out.nb]; omega
      clear e1 e2 e3 hb hib
      go_enter Try.func50, Try.ntmps50
      go_wp2_with (first | (go_at_call 85; refine (hasBlock_any HH.out.box (i : Int) C.B HH.out.B).mono ?_; rintro e u1 ⟨rfl, h1⟩; rw [h1, hp]; clear h1))
      go_ret2
      exact ⟨rfl, rfl⟩
end Go.Proofs.Ytadlkikjfonkgaa
