/-
  SEAT Ytgijbpkfheillaa: the reference's Commit.
-/
import Derived.Test.YtgijbpkfheillaaPlI
namespace Go.Proofs.Ytgijbpkfheillaa
open Go.RowKit
set_option linter.unusedVariables false

theorem RefB.grown {w w' : World} {gr gl g c : Nat} {P : Int} {es : List Ent} {cur last vic : Int} {row : Option Nat} (h : RefB w gr gl g c P es cur last vic) (hg : w.grownBy w' row) (h1 : row ≠ some gr) (h2 : row ≠ some gl) (h3 : row ≠ some g) : RefB w' gr gl g c P es cur last vic := by
  obtain ⟨tl, h9⟩ := h.row
  exact ⟨(hg.block gr h.lt.1 (fun e => h1 e.symm)).trans h.box, (hg.block gl h.lt.2.1 (fun e => h2 e.symm)).trans h.left, ⟨tl, (hg.block g h.lt.2.2 (fun e => h3 e.symm)).trans h9⟩, h.cl⟩
theorem RGrew.own {w u u' : World} {gr gl g B n E S : Nat} {v : Value} {xs : List Value} (h : RGrew w u gr gl g) (ho : u.ownsRow B E S v n xs) (hB : w.heap.size ≤ B) (hg : u.grownBy u' v.ownBlock) : RGrew w u' gr gl g :=
  ⟨hg.os.trans h.os, hg.tape.trans h.tape, hg.output.trans h.output, Nat.le_trans h.size hg.size, fun k hk h1 h2 h3 => (hg.block k (by have := h.size; omega) (fun e => by have := own_block ho e.symm; omega)).trans (h.block k hk h1 h2 h3)⟩
set_option maxHeartbeats 4000000 in
theorem rcommit_ok (gr gl g c : Nat) (P : Int) (es : List Ent) (cur last vic : Int) (i : Nat) (w : World) (h : RefB w gr gl g c P es cur last vic) (hn : es.length ≤ 5000) (hi : i < es.length) (hs : (es.getD i Ent.zero).s = 2) (hlf : ∀ i, i < es.length → (es.getD i Ent.zero).left = true → (es.getD i Ent.zero).s = 4) :
    Calls Try.prog 31 #[.pointer (some ⟨gr, 0, none⟩), .int .i64 i] w fun e w' => ∃ v, e = .returned (.tuple #[v, .int .i64 0]) ∧ w'.ownsRow w.heap.size 3 1 v (dooms es es.length).length (intsN (dooms es es.length)) ∧ RefB w' gr gl g c P (es.map comE) cur i vic ∧ RGrew w w' gr gl g := by
  obtain ⟨c0, c1, c2, c3, c4, c5⟩ := h.cells
  obtain ⟨e0, _, _, _⟩ := h.entry i hi
  rw [hs] at e0
  have HB : Hid (RefB w gr gl g c P es cur last vic) := h
  have d1 : (i : Int) < es.length := by omega
  have hh0 := has_in hi
  obtain ⟨f4, _, _⟩ := h.free 4
  have hsl := h.setLast (i : Int)
  have HL : Hid (RefB (w.setCell ⟨gr, 4, none⟩ (.int .i64 i)) gr gl g c P (comK es 0) cur i vic) := by
    have e9 : comK es 0 = es := by simp [comK]
    unfold Hid
    rw [e9]
    exact hsl
  have HGr : Hid (RGrew w (w.setCell ⟨gr, 4, none⟩ (.int .i64 i)) gr gl g) := RGrew.of (grown_set _ gr _ _) (by simp)
  obtain ⟨hgr, hgl, hgg⟩ := h.lt
  obtain ⟨n1, n2, n3⟩ := h.ne
  obtain ⟨i0, hi3, hz0, hz1, hz2⟩ := info_parts info3
  have HLF : Hid (∀ i, i < es.length → (es.getD i Ent.zero).left = true → (es.getD i Ent.zero).s = 4) := hlf
  have HSO : Hid ((es.getD i Ent.zero).s = 2) := hs
  clear h hsl hs hlf
  go_enter Try.func31, Try.ntmps31
  go_wp2_with (first | (go_at_call 64; refine (rin_any gr gl g c P es cur last vic _ _ HB.out hn).mono ?_; rintro e u1 ⟨rfl, rfl⟩; rw [hh0]))
  go_loopw [6, 7] (fun s6 s7 wr => ∃ (k : Nat) (v : Value), k ≤ es.length ∧ s7 = .int .i64 k ∧ s6 = v ∧ Hid (RefB wr gr gl g c P (comK es k) cur i vic) ∧ Hid (wr.ownsRow w.heap.size 3 1 v (dooms es k).length (intsN (dooms es k))) ∧ Hid (RGrew w wr gr gl g))
    (fun _ i _ => es.length - (intOf i).toNat)
  case atStart => exact ⟨0, _, Nat.zero_le _, rfl, rfl, HL, ⟨rfl, Or.inl ⟨rfl, rfl⟩⟩, HGr⟩
  case round =>
    obtain ⟨k, v, hk, rfl, rfl, HK, HO, HG⟩ := hrel
    have hkl := comK_length es k hk
    have hws := HG.out.size
    obtain ⟨k0, k1, k2, k3, k4, k5⟩ := HK.out.cells
    rw [hkl] at k1 k2
    by_cases hlt : k < es.length
    · obtain ⟨e0, e1, e2, e3⟩ := HK.out.entry k (by omega)
      rw [comK_get es k hlt] at e0 e1 e2 e3
      obtain ⟨X, hX⟩ : ∃ X, es.getD k Ent.zero = X := ⟨_, rfl⟩
      have HX : Hid _ := hX
      have hlfk := HLF.out k hlt
      rw [hX] at e0 e1 e2 e3 hlfk
      obtain ⟨s, h, r, l, lf⟩ := X
      simp only at e0 e1 e2 e3 hlfk
      have d2 : (k : Int) < es.length := by omega
      have hdl := dooms_le es k
      obtain ⟨_, _, f0⟩ := HK.out.free (k * 4)
      obtain ⟨_, _, f1⟩ := HK.out.free (k * 4 + 1)
      obtain ⟨_, _, f2⟩ := HK.out.free (k * 4 + 2)
      obtain ⟨_, _, f3⟩ := HK.out.free (k * 4 + 3)
      clear hX
      by_cases s35 : s = 3 ∨ s = 5
      · have HD : Hid (dooms es (k + 1) = dooms es k) := by
          unfold Hid
          have hz : doneB s r l lf = false := by
            unfold doneB
            rcases s35 with rfl | rfl <;> rfl
          have hz2 : doneE ⟨s, h, r, l, lf⟩ = false := hz
          rw [dooms, HX.out, hz2]
          simp
        have hlf0 : lf = false := by cases lf with | false => rfl | true => have := hlfk rfl; omega
        subst hlf0
        have hp := HK.out.put4 k (by omega) 0 0 false 0
        rw [comK_get es k hlt, HX.out] at hp
        have hst : (comK es k).set k ⟨0, 0, false, 0, false⟩ = comK es (k + 1) := by
          rw [← comK_step es k hlt, HX.out]
          simp only [comE]
          rw [if_pos s35]
        simp only at hp
        rw [hst] at hp
        have HP : Hid _ := hp
        have HDN : Hid ((doneE ((comK es (k + 1)).getD k Ent.zero) && decide ((k : Int) ≠ (i : Int))) = false) := by
          unfold Hid
          rw [← hst, getD_set_same _ _ _ (by omega)]
          rfl
        have hkl1 := comK_length es (k + 1) (by omega)
        have HGR : Hid (RGrew wr ((((wr.setCell ⟨g, k * 4, none⟩ (.int .i64 0)).setCell ⟨g, k * 4 + 1, none⟩ (.int .u64 0)).setCell ⟨g, k * 4 + 2, none⟩ (.bool false)).setCell ⟨g, k * 4 + 3, none⟩ (.int .i64 0)) gr gl g) := RGrew.of (over_grown _ g _ _ _ _ _ _ _ _) (by simp)
        have HOW : Hid (((((wr.setCell ⟨g, k * 4, none⟩ (.int .i64 0)).setCell ⟨g, k * 4 + 1, none⟩ (.int .u64 0)).setCell ⟨g, k * 4 + 2, none⟩ (.bool false)).setCell ⟨g, k * 4 + 3, none⟩ (.int .i64 0)).ownsRow w.heap.size 3 1 u6 (dooms es k).length (intsN (dooms es k))) := own_far HO.out (over_grown _ g _ _ _ _ _ _ _ _) (fun x hx => by cases hx; exact hgg)
        clear hp hst
        rcases s35 with rfl | rfl
        · go_wp2_with (first | (go_at_call 65; refine (rdone_any gr gl g c P (comK es (k + 1)) cur i vic k _ HP.out (by omega) (by omega)).mono ?_; rintro e u2 ⟨rfl, q2⟩; rw [HDN.out]; have Q2 : Hid _ := q2; clear q2))
          go_roundw
          case rel => exact ⟨k + 1, _, by omega, by go_num, rfl, HP.out.below Q2.out, by unfold Hid; rw [HD.out]; exact own_grown HOW.out (grown_of Q2.out none), (HG.out.trans HGR.out).trans (RGrew.ofB Q2.out)⟩
          case measure => simp [intOf]; omega
        · go_wp2_with (first | (go_at_call 65; refine (rdone_any gr gl g c P (comK es (k + 1)) cur i vic k _ HP.out (by omega) (by omega)).mono ?_; rintro e u2 ⟨rfl, q2⟩; rw [HDN.out]; have Q2 : Hid _ := q2; clear q2))
          go_roundw
          case rel => exact ⟨k + 1, _, by omega, by go_num, rfl, HP.out.below Q2.out, by unfold Hid; rw [HD.out]; exact own_grown HOW.out (grown_of Q2.out none), (HG.out.trans HGR.out).trans (RGrew.ofB Q2.out)⟩
          case measure => simp [intOf]; omega
      · have s3 : (s == 3) = false := by simp; omega
        have s5 : (s == 5) = false := by simp; omega
        have HST : Hid (comK es (k + 1) = comK es k) := by
          refine comK_same es k hlt ?_
          rw [HX.out]
          simp only [comE]
          rw [if_neg s35]
        cases hd : doneB s r l lf with
        | false =>
          have HD : Hid (dooms es (k + 1) = dooms es k) := by
            unfold Hid
            have hz2 : doneE ⟨s, h, r, l, lf⟩ = false := hd
            rw [dooms, HX.out, hz2]
            simp
          have HDN : Hid ((doneE ((comK es k).getD k Ent.zero) && decide ((k : Int) ≠ (i : Int))) = false) := by
            unfold Hid
            have hz2 : doneE ⟨s, h, r, l, lf⟩ = false := hd
            rw [comK_get es k hlt, HX.out, hz2]
            rfl
          go_wp2_with (first | (go_at_call 65; refine (rdone_any gr gl g c P (comK es k) cur i vic k _ HK.out (by omega) (by omega)).mono ?_; rintro e u2 ⟨rfl, q2⟩; rw [HDN.out]; have Q2 : Hid _ := q2; clear q2))
          go_roundw
          case rel => exact ⟨k + 1, _, by omega, by go_num, rfl, by unfold Hid; rw [HST.out]; exact HK.out.below Q2.out, by unfold Hid; rw [HD.out]; exact own_grown HO.out (grown_of Q2.out none), HG.out.trans (RGrew.ofB Q2.out)⟩
          case measure => simp [intOf]; omega
        | true =>
          have HD : Hid (dooms es (k + 1) = dooms es k ++ [k]) := by
            unfold Hid
            have hz2 : doneE ⟨s, h, r, l, lf⟩ = true := hd
            rw [dooms, HX.out, hz2]
            simp
          have HDN : Hid ((doneE ((comK es k).getD k Ent.zero) && decide ((k : Int) ≠ (i : Int))) = true) := by
            unfold Hid
            have hz2 : doneE ⟨s, h, r, l, lf⟩ = true := hd
            have hki : (k : Int) ≠ (i : Int) := fun e => by
              have e2 : k = i := by omega
              have h4 := done_state hz2
              have h2 := HSO.out
              rw [← e2, HX.out] at h2
              simp only at h2 h4
              omega
            rw [comK_get es k hlt, HX.out, hz2, decide_eq_true hki]
            rfl
          go_wp2_with (first
            | (go_at_call 65; refine (rdone_any gr gl g c P (comK es k) cur i vic k _ HK.out (by omega) (by omega)).mono ?_; rintro e u2 ⟨rfl, q2⟩; rw [HDN.out]; have Q2 : Hid (Below wr.heap.size wr u2) := q2; have own2 := own_grown HO.out (grown_of Q2.out none); have hs2 := Q2.out.size; clear q2)
            | (at_builtin; refine wpList_append_src rfl (.tmp 64) (.tmp 66) 45 rfl w.heap.size 3 i0 _ 1 8 Try.underlying45 hi3 hz0 hz1 hz2 rfl (by decide) _ _ _ rfl (own2.alloc _) _ 1 _ _ rfl (rv_block (cs := #[.int .i64 (k : Int)]) rfl) (intsN_one [k]) (by simp [maxLen]; omega) (by omega) (by simp; omega) ?_; intro v3 w3 own3 grow3))
          go_roundw
          case rel =>
            have a1 : Below wr.heap.size wr (u2.alloc (.cells #[.int .i64 (k : Int)] 3)) := ba Q2.out
            refine ⟨k + 1, _, by omega, by go_num, rfl, ?_, ?_, ?_⟩
            · unfold Hid
              rw [HST.out]
              exact (HK.out.below a1).grown grow3 (fun e => by have := own_block own2 e; omega) (fun e => by have := own_block own2 e; omega) (fun e => by have := own_block own2 e; omega)
            · unfold Hid
              rw [HD.out, List.length_append]
              have e9 : intsN (dooms es k ++ [k]) = intsN (dooms es k) ++ [.int .i64 (k : Int)] := by simp [intsN]
              rw [e9]
              exact own3
            · exact RGrew.own (HG.out.trans (RGrew.ofB a1)) (own2.alloc _) (Nat.le_refl _) grow3
          case measure => simp [intOf]; omega
    · have hkn : k = es.length := by omega
      have hK := HK.out
      rw [hkn, comK_all es] at hK
      have HKK : Hid _ := hK
      clear hK
      subst hkn
      go_wp2
      go_ret2
      exact ⟨_, rfl, HO.out, HKK.out, HG.out⟩
end Go.Proofs.Ytgijbpkfheillaa
