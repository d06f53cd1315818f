/-
  SEAT YtnjcjaaciphcgaaDoor: the reference's Read.
-/
import Derived.Test.YtnjcjaaciphcgaaDoorWg
import Derived.Test.YtnjcjaaciphcgaaDoorVj
import Derived.Test.YtnjcjaaciphcgaaDoorXa
namespace Go.Proofs.YtnjcjaaciphcgaaDoor
open Go.RowKit Go.Sort
set_option linter.unusedVariables false

theorem blk_up {a b : World} {q : Nat} {o : Obj} (h : a.heap[q]? = some o) (hb : Below a.heap.size a b) : b.heap[q]? = some o := (hb.block q (Array.getElem?_eq_some_iff.1 h).1).trans h
theorem lt_of_blk {a : World} {q : Nat} {o : Obj} (h : a.heap[q]? = some o) : q < a.heap.size := (Array.getElem?_eq_some_iff.1 h).1
theorem ownF_below {w w' : World} {B n : Nat} {v : Value} {xs : List Value} (h : w.ownsRow B 29 4 v n xs) (hb : Below w.heap.size w w') : w'.ownsRow B 29 4 v n xs := by
  refine ⟨h.1, ?_⟩
  rcases h.2 with h2 | ⟨g, cap, cur, hv, hB, hg, hr⟩
  · exact Or.inl h2
  · exact Or.inr ⟨g, cap, cur, hv, hB, blk_up hg hb, hr⟩
def slen : Value → Nat
  | .string s => s.size
  | _ => 0
theorem cells4x {w : World} {q : Nat} {x0 x1 x2 x3 : Value} {t : TypeId} (h : w.heap[q]? = some (.cells #[x0, x1, x2, x3] t (0, 0))) :
    w.cell? ⟨q, 0, none⟩ = some x0 ∧ w.cell? ⟨q, 1, none⟩ = some x1 ∧ w.cell? ⟨q, 2, none⟩ = some x2 ∧ w.cell? ⟨q, 3, none⟩ = some x3 := by
  simp [World.cell?, h]
theorem blk4_set {u : World} {i : Nat} {a0 a1 a2 a3 : Value} {t : TypeId} (h : u.heap[i]? = some (.cells #[a0, a1, a2, a3] t (0, 0))) (v0 v1 v2 v3 : Value) :
    ((((u.setCell ⟨i, 0, none⟩ v0).setCell ⟨i, 1, none⟩ v1).setCell ⟨i, 2, none⟩ v2).setCell ⟨i, 3, none⟩ v3).heap[i]? = some (.cells #[v0, v1, v2, v3] t (0, 0)) := by
  have one : ∀ {u : World} {cs : Array Value} (j : Nat) (v : Value), u.heap[i]? = some (.cells cs t (0, 0)) → (u.setCell ⟨i, j, none⟩ v).heap[i]? = some (.cells (cs.setIfInBounds j v) t (0, 0)) := fun j v h => Joins.block_setCell h v
  have h1 : (u.setCell ⟨i, 0, none⟩ v0).heap[i]? = some (.cells #[v0, a1, a2, a3] t (0, 0)) := one 0 v0 h
  generalize u.setCell ⟨i, 0, none⟩ v0 = u1 at h1 ⊢
  have h2 : (u1.setCell ⟨i, 1, none⟩ v1).heap[i]? = some (.cells #[v0, v1, a2, a3] t (0, 0)) := one 1 v1 h1
  generalize u1.setCell ⟨i, 1, none⟩ v1 = u2 at h2 ⊢
  have h3 : (u2.setCell ⟨i, 2, none⟩ v2).heap[i]? = some (.cells #[v0, v1, v2, a3] t (0, 0)) := one 2 v2 h2
  generalize u2.setCell ⟨i, 2, none⟩ v2 = u3 at h3 ⊢
  exact one 3 v3 h3
theorem grown4 (u : World) (i : Nat) (v0 v1 v2 v3 : Value) : u.grownBy ((((u.setCell ⟨i, 0, none⟩ v0).setCell ⟨i, 1, none⟩ v1).setCell ⟨i, 2, none⟩ v2).setCell ⟨i, 3, none⟩ v3) (some i) :=
  grown_tr (grown_tr (grown_tr (set_grown u i 0 v0) (set_grown _ i 1 v1)) (set_grown _ i 2 v2)) (set_grown _ i 3 v3)
theorem held_grown {tn ts : World} {p gw : Nat} {a b c d : Value} (hg : tn.grownBy ts (some p)) (hne : gw ≠ p) (h : tn.cell? ⟨gw, 0, none⟩ = some a ∧ tn.cell? ⟨gw, 1, none⟩ = some b ∧ tn.cell? ⟨gw, 2, none⟩ = some c ∧ tn.cell? ⟨gw, 3, none⟩ = some d) : ts.cell? ⟨gw, 0, none⟩ = some a ∧ ts.cell? ⟨gw, 1, none⟩ = some b ∧ ts.cell? ⟨gw, 2, none⟩ = some c ∧ ts.cell? ⟨gw, 3, none⟩ = some d := by
  have e := hg.block gw (block_lt_of_cell h.1) (fun e9 => hne (Option.some.inj e9))
  obtain ⟨h0, h1, h2, h3⟩ := h
  exact ⟨(World.cell?_of_block e).trans h0, (World.cell?_of_block e).trans h1, (World.cell?_of_block e).trans h2, (World.cell?_of_block e).trans h3⟩
theorem rok0 : Rp.Ok ⟨0, 0, 0, 0, 0, false, []⟩ := ⟨by decide, ⟨by decide, by decide⟩, ⟨by decide, by decide⟩, ⟨by decide, by decide⟩, ⟨by decide, by decide⟩, fun f hf => absurd hf List.not_mem_nil, by decide⟩

set_option maxHeartbeats 8000000 in
set_option maxRecDepth 100000 in
theorem rread_any (l0 : List UInt8) (w : World) (hl : l0.length < 4294967281) (ht : P10 w) :
    Calls Tryd.prog 9 #[.string ⟨l0.toArray⟩] w fun e w' => ReadR w w' e (rp l0) ∧ Below w.heap.size w w' := by
  have HT : Hid (P10 w) := ht
  clear ht
  go_enter Tryd.func9, Tryd.ntmps9
  go_wp2_with fail
  go_loopw [0, 6] (fun s0 s6 wr => ∃ (n : Nat) (r : Rp) (L : List UInt8), s6 = .int .i64 (n : Int) ∧ s0 = .string ⟨L.toArray⟩ ∧ n ≤ 6 ∧ L.length ≤ l0.length ∧ Hid (rp l0 = cont n r L) ∧ Hid (r.Ok ∧ r.fs = []) ∧ Hid (wr.heap[w.heap.size + 1]? = some (.cells #[.int .u64 (r.fl : Int), .int .i64 r.c, .int .i64 r.l, .int .i64 r.u, .int .i64 r.b, .bool r.s, .slice none 0 0] 25 (0, 0))) ∧ Hid (wr.heap[w.heap.size]? = some (.cells #[.int .u64 0, .int .i64 0, .int .i64 0, .int .i64 0, .int .i64 0, .bool false, .slice none 0 0] 25 (0, 0))) ∧ Hid (Below w.heap.size w wr)) (fun _ s6 _ => 6 - (RowKit.intOf s6).toNat)
  case atStart =>
    refine ⟨0, ⟨0, 0, 0, 0, 0, false, []⟩, l0, rfl, rfl, by omega, Nat.le_refl _, rp_cont l0, ⟨rok0, rfl⟩, ?_, ?_, below_trans (below_alloc' w _) (below_alloc' _ _)⟩
    · have h9 := heap_alloc_new (w.alloc (.cells #[.int .u64 0, .int .i64 0, .int .i64 0, .int .i64 0, .int .i64 0, .bool false, .slice none 0 0] 25)) (.cells #[.int .u64 0, .int .i64 0, .int .i64 0, .int .i64 0, .int .i64 0, .bool false, .slice none 0 0] 25)
      rw [World.size_alloc] at h9
      exact h9
    · exact (Below.heap_alloc _ _ _ (by simp)).trans (heap_alloc_new w _)
  case round =>
    obtain ⟨n, ⟨f0, f1, f2, f3, f4, f5, fs⟩, L, rfl, rfl, hn6, hLl, HC0, HOK0, HQ, HR, HB⟩ := hrel
    obtain ⟨hok, hfs⟩ := HOK0.out
    simp only at hfs
    subst hfs
    have HOK : Hid (Rp.Ok ⟨f0, f1, f2, f3, f4, f5, []⟩) := hok
    clear hok HOK0
    have hn : n = 0 ∨ n = 1 ∨ n = 2 ∨ n = 3 ∨ n = 4 ∨ n = 5 ∨ n = 6 := by omega
    clear hn6
    rcases hn with rfl | rfl | rfl | rfl | rfl | rfl | rfl
    · have HC : Hid (rp l0 = cont0 ⟨f0, f1, f2, f3, f4, f5, []⟩ L) := HC0.out
      clear HC0
      obtain ⟨S, hS⟩ : ∃ S, (ln L).1 = S := ⟨_, rfl⟩
      obtain ⟨Rs, hRs⟩ : ∃ Rs, (ln L).2 = Rs := ⟨_, rfl⟩
      have HLN := rline_any L wr (by omega)
      rw [hS, hRs] at HLN
      have hSl : S.length < 4294967281 := by rw [← hS]; have := (ln_len L).1; omega
      have hRl : Rs.length ≤ l0.length := by rw [← hRs]; have := (ln_len L).2; omega
      have HSE : Hid ((ln L).1 = S) := hS
      have HRE : Hid ((ln L).2 = Rs) := hRs
      have HTS : Hid (thL S = thL L) := by unfold Hid; rw [← hS]; exact ln_th L
      clear hS hRs
      by_cases h2 : (thL L).length = 2
      · obtain ⟨x0, x1, hT⟩ : ∃ x0 x1, thL L = [x0, x1] := ⟨_, _, list2 h2⟩
        have hx1 : x1.length < 4294967281 := by have := word_len (L := L) (x := x1) (by rw [hT]; simp); omega
        have HW : Hid (∀ y, Calls Tryd.prog 25 #[.string ⟨S.toArray⟩] y fun e w' => ∃ g c, e = .returned (.slice (some ⟨g, 0, none⟩) 2 c) ∧ w'.cell? ⟨g, 0, none⟩ = some (.string ⟨x0.toArray⟩) ∧ w'.cell? ⟨g, 1, none⟩ = some (.string ⟨x1.toArray⟩) ∧ Below y.heap.size y w') := fun y => words_two S x0 x1 (HTS.out.trans hT) y hSl
        have HTT : Hid (thL L = [x0, x1]) := hT
        clear hT h2 HTS
        cases hu : un x1 with
        | none =>
          have HU : Hid (∀ y, Calls Tryd.prog 26 #[.string ⟨x1.toArray⟩] y fun e w' => e = .returned (.tuple #[.int .u64 0, .bool false]) ∧ w' = y) := fun y => (runs_any x1 y hx1).mono (by rintro e w' ⟨rfl, h⟩; rw [hu]; exact ⟨rfl, h⟩)
          have HX : Hid (rp l0 = (none, 1)) := by unfold Hid; rw [HC.out]; unfold cont0; rw [flr_none HTT.out hu]
          clear HC HTT HRE HSE HOK hu
          go_wp2_with (first
            | (go_at_call 24; refine HLN.mono ?_; rintro e t1 ⟨rfl, bl1⟩
               have HB1 : Hid (Below w.heap.size w t1) := below_trans HB.out bl1
               have HQ1 : Hid (t1.heap[w.heap.size + 1]? = some (.cells #[.int .u64 (f0 : Int), .int .i64 f1, .int .i64 f2, .int .i64 f3, .int .i64 f4, .bool f5, .slice none 0 0] 25 (0, 0))) := blk_up HQ.out bl1
               have HR1 : Hid (t1.heap[w.heap.size]? = some (.cells #[.int .u64 0, .int .i64 0, .int .i64 0, .int .i64 0, .int .i64 0, .bool false, .slice none 0 0] 25 (0, 0))) := blk_up HR.out bl1
               clear bl1)
            | (go_at_call 25; refine (HW.out _).mono ?_; rintro e t2 ⟨gw, cw, rfl, _, c1, bl2⟩
               have HBx : Hid (Below w.heap.size w t2) := below_trans HB1.out bl2
               have HRx : Hid (t2.heap[w.heap.size]? = some (.cells #[.int .u64 0, .int .i64 0, .int .i64 0, .int .i64 0, .int .i64 0, .bool false, .slice none 0 0] 25 (0, 0))) := blk_up HR1.out bl2
               obtain ⟨z0, z1, z2, z3, z4, z5, z6⟩ := cells7 HRx.out
               have rf0 := frozen7 HRx.out 0
               have rf1 := frozen7 HRx.out 1
               have rf2 := frozen7 HRx.out 2
               have rf3 := frozen7 HRx.out 3
               have rf4 := frozen7 HRx.out 4
               have rf5 := frozen7 HRx.out 5
               have rf6 := frozen7 HRx.out 6
               clear bl2)
            | (go_at_call 26; refine (HU.out _).mono ?_; rintro e t3 ⟨rfl, h3⟩; rw [h3]; clear h3))
          refine bodyPost_ret (v := .tuple #[.agg #[.int .u64 0, .int .i64 0, .int .i64 0, .int .i64 0, .int .i64 0, .bool false, .slice none 0 0], .int .i64 200, .int .i64 1]) (by obtain ⟨z0, z1, z2, z3, z4, z5, z6⟩ := cells7 (blk7_set HRx.out (.int .u64 0) (.int .i64 0) (.int .i64 0) (.int .i64 0) (.int .i64 0) (.bool false) (.slice none 0 0)); simp [results, Tryd.results9, go_sem, z0, z1, z2, z3, z4, z5, z6]) rfl ⟨?_, ?_⟩
          · rw [HX.out]; rfl
          · exact HBx.out.grown (grown7 _ _ _ _ _ _ _ _ _) HBx.out.size (fun i hi => by cases hi; exact Nat.le_refl _)

        | some V =>
          have hv := un_lt hu
          have HU : Hid (∀ y, Calls Tryd.prog 26 #[.string ⟨x1.toArray⟩] y fun e w' => e = .returned (.tuple #[.int .u64 (V : Int), .bool true]) ∧ w' = y) := fun y => (runs_any x1 y hx1).mono (by rintro e w' ⟨rfl, h⟩; rw [hu]; exact ⟨rfl, h⟩)
          obtain ⟨Hk, hHk⟩ : ∃ Hk, (headsL ⟨V, f1, f2, f3, f4, f5, []⟩).getD 0 [] = Hk := ⟨_, rfl⟩
          have HOK2 : Hid (Rp.Ok ⟨V, f1, f2, f3, f4, f5, []⟩) := ⟨hv, HOK.out.c, HOK.out.l, HOK.out.u, HOK.out.b, HOK.out.fs, HOK.out.few⟩
          have HHK : Hid ((headsL ⟨V, f1, f2, f3, f4, f5, []⟩).getD 0 [] = Hk) := hHk
          clear hHk HOK
          cases hq : (Hk == S) with
          | true =>
            have HEQ : Hid (lineB [fw, Lib.decDigits V] = (ln L).1) := by
              have h8 : Hk = S := by simpa using hq
              unfold Hid
              rw [HSE.out, ← h8, ← HHK.out]
              rfl
            have HX : Hid (rp l0 = cont1 ⟨V, f1, f2, f3, f4, f5, []⟩ Rs) := by
              have h9 : flr L = some V := flr_yes HTT.out hu HEQ.out
              unfold Hid
              rw [HC.out]
              unfold cont0
              rw [h9]
              rw [← HRE.out, rest_of HEQ.out]
            clear HEQ HC HTT
            go_wp2_with (first
              | (go_at_call 24; refine HLN.mono ?_; rintro e t1 ⟨rfl, bl1⟩
                 have HB1 : Hid (Below w.heap.size w t1) := below_trans HB.out bl1
                 have HQ1 : Hid (t1.heap[w.heap.size + 1]? = some (.cells #[.int .u64 (f0 : Int), .int .i64 f1, .int .i64 f2, .int .i64 f3, .int .i64 f4, .bool f5, .slice none 0 0] 25 (0, 0))) := blk_up HQ.out bl1
                 have HR1 : Hid (t1.heap[w.heap.size]? = some (.cells #[.int .u64 0, .int .i64 0, .int .i64 0, .int .i64 0, .int .i64 0, .bool false, .slice none 0 0] 25 (0, 0))) := blk_up HR.out bl1
                 clear bl1)
              | (go_at_call 25; refine (HW.out _).mono ?_; rintro e t2 ⟨gw, cw, rfl, _, c1, bl2⟩
                 have HBx : Hid (Below w.heap.size w t2) := below_trans HB1.out bl2
                 have HRx : Hid (t2.heap[w.heap.size]? = some (.cells #[.int .u64 0, .int .i64 0, .int .i64 0, .int .i64 0, .int .i64 0, .bool false, .slice none 0 0] 25 (0, 0))) := blk_up HR1.out bl2
                 have HQx : Hid (t2.heap[w.heap.size + 1]? = some (.cells #[.int .u64 (f0 : Int), .int .i64 f1, .int .i64 f2, .int .i64 f3, .int .i64 f4, .bool f5, .slice none 0 0] 25 (0, 0))) := blk_up HQ1.out bl2
                 have HBS : Hid (Below w.heap.size w (t2.setCell ⟨w.heap.size + 1, 0, none⟩ (.int .u64 (V : Int)))) := HBx.out.grown (set_grown _ _ _ _) HBx.out.size (fun i hi => by cases hi; omega)
                 have HQS : Hid ((t2.setCell ⟨w.heap.size + 1, 0, none⟩ (.int .u64 (V : Int))).heap[w.heap.size + 1]? = some (.cells #[.int .u64 (V : Int), .int .i64 f1, .int .i64 f2, .int .i64 f3, .int .i64 f4, .bool f5, .slice none 0 0] 25 (0, 0))) := Joins.block_setCell HQx.out _
                 have HRS : Hid ((t2.setCell ⟨w.heap.size + 1, 0, none⟩ (.int .u64 (V : Int))).heap[w.heap.size]? = some (.cells #[.int .u64 0, .int .i64 0, .int .i64 0, .int .i64 0, .int .i64 0, .bool false, .slice none 0 0] 25 (0, 0))) := ((set_grown _ _ _ _).block _ (lt_of_blk HRx.out) (fun e => by have := Option.some.inj e; omega)).trans HRx.out
                 obtain ⟨q0, q1, q2, q3, q4, q5, q6⟩ := cells7 HQx.out
                 have qf := frozen7 HQx.out 0
                 clear bl2)
              | (go_at_call 26; refine (HU.out _).mono ?_; rintro e t3 ⟨rfl, h3⟩; rw [h3]; clear h3)
              | (go_at_call 22; refine (heads_any ⟨V, f1, f2, f3, f4, f5, []⟩ none 0 0 _ HOK2.out (p10_below HT.out HBS.out)).mono ?_; rintro e t4 ⟨g4, rfl, hc4, bl4⟩
                 have ck : t4.cell? ⟨g4, 0, none⟩ = some (.string ⟨Hk.toArray⟩) := (hc4 0 (by omega)).trans (by rw [HHK.out])
                 have HB4 : Hid (Below w.heap.size w t4) := below_trans HBS.out bl4
                 have HQ4 : Hid (t4.heap[w.heap.size + 1]? = some (.cells #[.int .u64 (V : Int), .int .i64 f1, .int .i64 f2, .int .i64 f3, .int .i64 f4, .bool f5, .slice none 0 0] 25 (0, 0))) := blk_up HQS.out bl4
                 have HR4 : Hid (t4.heap[w.heap.size]? = some (.cells #[.int .u64 0, .int .i64 0, .int .i64 0, .int .i64 0, .int .i64 0, .bool false, .slice none 0 0] 25 (0, 0))) := blk_up HRS.out bl4
                 clear hc4 bl4 q0 q1 q2 q3 q4 q5 q6 qf c1
                 skip))
            go_roundw
            case rel => exact ⟨1, ⟨V, f1, f2, f3, f4, f5, []⟩, Rs, by first | rfl | go_num, rfl, by omega, hRl, HX.out, ⟨HOK2.out, rfl⟩, HQ4.out, HR4.out, HB4.out⟩
            case measure => simp [RowKit.intOf]
          | false =>
            have HNE : Hid (lineB [fw, Lib.decDigits V] ≠ (ln L).1) := by
              have h8 : Hk ≠ S := by simpa using hq
              unfold Hid
              intro h7
              apply h8
              rw [← HSE.out, ← h7, ← HHK.out]
              rfl
            have HX : Hid (rp l0 = (none, 1)) := by
              have h9 : flr L = none := flr_no HTT.out hu HNE.out
              unfold Hid
              rw [HC.out]
              unfold cont0
              rw [h9]
            clear HNE HC HTT HRE
            go_wp2_with (first
              | (go_at_call 24; refine HLN.mono ?_; rintro e t1 ⟨rfl, bl1⟩
                 have HB1 : Hid (Below w.heap.size w t1) := below_trans HB.out bl1
                 have HQ1 : Hid (t1.heap[w.heap.size + 1]? = some (.cells #[.int .u64 (f0 : Int), .int .i64 f1, .int .i64 f2, .int .i64 f3, .int .i64 f4, .bool f5, .slice none 0 0] 25 (0, 0))) := blk_up HQ.out bl1
                 have HR1 : Hid (t1.heap[w.heap.size]? = some (.cells #[.int .u64 0, .int .i64 0, .int .i64 0, .int .i64 0, .int .i64 0, .bool false, .slice none 0 0] 25 (0, 0))) := blk_up HR.out bl1
                 clear bl1)
              | (go_at_call 25; refine (HW.out _).mono ?_; rintro e t2 ⟨gw, cw, rfl, _, c1, bl2⟩
                 have HBx : Hid (Below w.heap.size w t2) := below_trans HB1.out bl2
                 have HRx : Hid (t2.heap[w.heap.size]? = some (.cells #[.int .u64 0, .int .i64 0, .int .i64 0, .int .i64 0, .int .i64 0, .bool false, .slice none 0 0] 25 (0, 0))) := blk_up HR1.out bl2
                 have HQx : Hid (t2.heap[w.heap.size + 1]? = some (.cells #[.int .u64 (f0 : Int), .int .i64 f1, .int .i64 f2, .int .i64 f3, .int .i64 f4, .bool f5, .slice none 0 0] 25 (0, 0))) := blk_up HQ1.out bl2
                 have HBS : Hid (Below w.heap.size w (t2.setCell ⟨w.heap.size + 1, 0, none⟩ (.int .u64 (V : Int)))) := HBx.out.grown (set_grown _ _ _ _) HBx.out.size (fun i hi => by cases hi; omega)
                 have HQS : Hid ((t2.setCell ⟨w.heap.size + 1, 0, none⟩ (.int .u64 (V : Int))).heap[w.heap.size + 1]? = some (.cells #[.int .u64 (V : Int), .int .i64 f1, .int .i64 f2, .int .i64 f3, .int .i64 f4, .bool f5, .slice none 0 0] 25 (0, 0))) := Joins.block_setCell HQx.out _
                 have HRS : Hid ((t2.setCell ⟨w.heap.size + 1, 0, none⟩ (.int .u64 (V : Int))).heap[w.heap.size]? = some (.cells #[.int .u64 0, .int .i64 0, .int .i64 0, .int .i64 0, .int .i64 0, .bool false, .slice none 0 0] 25 (0, 0))) := ((set_grown _ _ _ _).block _ (lt_of_blk HRx.out) (fun e => by have := Option.some.inj e; omega)).trans HRx.out
                 obtain ⟨q0, q1, q2, q3, q4, q5, q6⟩ := cells7 HQx.out
                 have qf := frozen7 HQx.out 0
                 clear bl2)
              | (go_at_call 26; refine (HU.out _).mono ?_; rintro e t3 ⟨rfl, h3⟩; rw [h3]; clear h3)
              | (go_at_call 22; refine (heads_any ⟨V, f1, f2, f3, f4, f5, []⟩ none 0 0 _ HOK2.out (p10_below HT.out HBS.out)).mono ?_; rintro e t4 ⟨g4, rfl, hc4, bl4⟩
                 have ck : t4.cell? ⟨g4, 0, none⟩ = some (.string ⟨Hk.toArray⟩) := (hc4 0 (by omega)).trans (by rw [HHK.out])
                 have HB4 : Hid (Below w.heap.size w t4) := below_trans HBS.out bl4
                 have HQ4 : Hid (t4.heap[w.heap.size + 1]? = some (.cells #[.int .u64 (V : Int), .int .i64 f1, .int .i64 f2, .int .i64 f3, .int .i64 f4, .bool f5, .slice none 0 0] 25 (0, 0))) := blk_up HQS.out bl4
                 have HR4 : Hid (t4.heap[w.heap.size]? = some (.cells #[.int .u64 0, .int .i64 0, .int .i64 0, .int .i64 0, .int .i64 0, .bool false, .slice none 0 0] 25 (0, 0))) := blk_up HRS.out bl4
                 clear hc4 bl4 q0 q1 q2 q3 q4 q5 q6 qf c1
                 obtain ⟨z0, z1, z2, z3, z4, z5, z6⟩ := cells7 HR4.out
                 have rf0 := frozen7 HR4.out 0
                 have rf1 := frozen7 HR4.out 1
                 have rf2 := frozen7 HR4.out 2
                 have rf3 := frozen7 HR4.out 3
                 have rf4 := frozen7 HR4.out 4
                 have rf5 := frozen7 HR4.out 5
                 have rf6 := frozen7 HR4.out 6
              ))
            refine bodyPost_ret (v := .tuple #[.agg #[.int .u64 0, .int .i64 0, .int .i64 0, .int .i64 0, .int .i64 0, .bool false, .slice none 0 0], .int .i64 200, .int .i64 1]) (by obtain ⟨z0, z1, z2, z3, z4, z5, z6⟩ := cells7 (blk7_set HR4.out (.int .u64 0) (.int .i64 0) (.int .i64 0) (.int .i64 0) (.int .i64 0) (.bool false) (.slice none 0 0)); simp [results, Tryd.results9, go_sem, z0, z1, z2, z3, z4, z5, z6]) rfl ⟨?_, ?_⟩
            · rw [HX.out]; rfl
            · exact HB4.out.grown (grown7 _ _ _ _ _ _ _ _ _) HB4.out.size (fun i hi => by cases hi; exact Nat.le_refl _)

      · have HX : Hid (rp l0 = (none, 1)) := by unfold Hid; rw [HC.out]; unfold cont0; rw [flr_short h2]
        obtain ⟨m, hm⟩ : ∃ m, (thL L).length = m := ⟨_, rfl⟩
        have hm2 : ((m : Int) == 2) = false := by rw [beq_eq_false_iff_ne]; omega
        have HW : Hid (∀ y, Calls Tryd.prog 25 #[.string ⟨S.toArray⟩] y fun e w' => ∃ a c, e = .returned (.slice a m c) ∧ Below y.heap.size y w') := fun y => words_len S m (by rw [HTS.out]; exact hm) y hSl
        clear h2 hm HTS HSE HRE HC HOK
        go_wp2_with (first
          | (go_at_call 24; refine HLN.mono ?_; rintro e t1 ⟨rfl, bl1⟩
             have HB1 : Hid (Below w.heap.size w t1) := below_trans HB.out bl1
             have HQ1 : Hid (t1.heap[w.heap.size + 1]? = some (.cells #[.int .u64 (f0 : Int), .int .i64 f1, .int .i64 f2, .int .i64 f3, .int .i64 f4, .bool f5, .slice none 0 0] 25 (0, 0))) := blk_up HQ.out bl1
             have HR1 : Hid (t1.heap[w.heap.size]? = some (.cells #[.int .u64 0, .int .i64 0, .int .i64 0, .int .i64 0, .int .i64 0, .bool false, .slice none 0 0] 25 (0, 0))) := blk_up HR.out bl1
             clear bl1)
          | (go_at_call 25; refine (HW.out _).mono ?_; rintro e t2 ⟨aw, cw, rfl, bl2⟩
             have HBx : Hid (Below w.heap.size w t2) := below_trans HB1.out bl2
             have HRx : Hid (t2.heap[w.heap.size]? = some (.cells #[.int .u64 0, .int .i64 0, .int .i64 0, .int .i64 0, .int .i64 0, .bool false, .slice none 0 0] 25 (0, 0))) := blk_up HR1.out bl2
             obtain ⟨z0, z1, z2, z3, z4, z5, z6⟩ := cells7 HRx.out
             have rf0 := frozen7 HRx.out 0
             have rf1 := frozen7 HRx.out 1
             have rf2 := frozen7 HRx.out 2
             have rf3 := frozen7 HRx.out 3
             have rf4 := frozen7 HRx.out 4
             have rf5 := frozen7 HRx.out 5
             have rf6 := frozen7 HRx.out 6
             clear bl2))
        refine bodyPost_ret (v := .tuple #[.agg #[.int .u64 0, .int .i64 0, .int .i64 0, .int .i64 0, .int .i64 0, .bool false, .slice none 0 0], .int .i64 200, .int .i64 1]) (by obtain ⟨z0, z1, z2, z3, z4, z5, z6⟩ := cells7 (blk7_set HRx.out (.int .u64 0) (.int .i64 0) (.int .i64 0) (.int .i64 0) (.int .i64 0) (.bool false) (.slice none 0 0)); simp [results, Tryd.results9, go_sem, z0, z1, z2, z3, z4, z5, z6]) rfl ⟨?_, ?_⟩
        · rw [HX.out]; rfl
        · exact HBx.out.grown (grown7 _ _ _ _ _ _ _ _ _) HBx.out.size (fun i hi => by cases hi; exact Nat.le_refl _)

    · have HC : Hid (rp l0 = cont1 ⟨f0, f1, f2, f3, f4, f5, []⟩ L) := HC0.out
      clear HC0
      obtain ⟨S, hS⟩ : ∃ S, (ln L).1 = S := ⟨_, rfl⟩
      obtain ⟨Rs, hRs⟩ : ∃ Rs, (ln L).2 = Rs := ⟨_, rfl⟩
      have HLN := rline_any L wr (by omega)
      rw [hS, hRs] at HLN
      have hSl : S.length < 4294967281 := by rw [← hS]; have := (ln_len L).1; omega
      have hRl : Rs.length ≤ l0.length := by rw [← hRs]; have := (ln_len L).2; omega
      have HSE : Hid ((ln L).1 = S) := hS
      have HRE : Hid ((ln L).2 = Rs) := hRs
      have HTS : Hid (thL S = thL L) := by unfold Hid; rw [← hS]; exact ln_th L
      clear hS hRs
      by_cases h2 : (thL L).length = 2
      · obtain ⟨x0, x1, hT⟩ : ∃ x0 x1, thL L = [x0, x1] := ⟨_, _, list2 h2⟩
        have hx1 : x1.length < 4294967281 := by have := word_len (L := L) (x := x1) (by rw [hT]; simp); omega
        have HW : Hid (∀ y, Calls Tryd.prog 25 #[.string ⟨S.toArray⟩] y fun e w' => ∃ g c, e = .returned (.slice (some ⟨g, 0, none⟩) 2 c) ∧ w'.cell? ⟨g, 0, none⟩ = some (.string ⟨x0.toArray⟩) ∧ w'.cell? ⟨g, 1, none⟩ = some (.string ⟨x1.toArray⟩) ∧ Below y.heap.size y w') := fun y => words_two S x0 x1 (HTS.out.trans hT) y hSl
        have HTT : Hid (thL L = [x0, x1]) := hT
        clear hT h2 HTS
        obtain ⟨V, hV⟩ : ∃ V, rn x1 = V := ⟨_, rfl⟩
        have HV : Hid (rn x1 = V) := hV
        have hv : In V := by rw [← hV]; exact rn_in _
        have HU : Hid (∀ y, Calls Tryd.prog 27 #[.string ⟨x1.toArray⟩] y fun e w' => e = .returned (.int .i64 V) ∧ w' = y) := fun y => (rnum_any x1 y hx1).mono (by rintro e w' ⟨rfl, h⟩; rw [hV]; exact ⟨rfl, h⟩)
        clear hV
        obtain ⟨Hk, hHk⟩ : ∃ Hk, (headsL ⟨f0, V, f2, f3, f4, f5, []⟩).getD 1 [] = Hk := ⟨_, rfl⟩
        have HOK2 : Hid (Rp.Ok ⟨f0, V, f2, f3, f4, f5, []⟩) := ⟨HOK.out.fl, hv, HOK.out.l, HOK.out.u, HOK.out.b, HOK.out.fs, HOK.out.few⟩
        have HHK : Hid ((headsL ⟨f0, V, f2, f3, f4, f5, []⟩).getD 1 [] = Hk) := hHk
        clear hHk HOK
        cases hq : (Hk == S) with
        | true =>
          have HEQ : Hid (lineB [wC, Lib.itoa V] = (ln L).1) := by
            have h8 : Hk = S := by simpa using hq
            unfold Hid
            rw [HSE.out, ← h8, ← HHK.out]
            rfl
          have HX : Hid (rp l0 = cont2 ⟨f0, V, f2, f3, f4, f5, []⟩ Rs) := by
            have h9 : nb L wC = some (rn x1) := nb_yes wFr.1 HTT.out (by rw [HV.out]; exact HEQ.out)
            unfold Hid
            rw [HC.out]
            unfold cont1
            rw [h9, HV.out]
            rw [← HRE.out, rest_of HEQ.out]
          clear HEQ HC HTT
          go_wp2_with (first
            | (go_at_call 24; refine HLN.mono ?_; rintro e t1 ⟨rfl, bl1⟩
               have HB1 : Hid (Below w.heap.size w t1) := below_trans HB.out bl1
               have HQ1 : Hid (t1.heap[w.heap.size + 1]? = some (.cells #[.int .u64 (f0 : Int), .int .i64 f1, .int .i64 f2, .int .i64 f3, .int .i64 f4, .bool f5, .slice none 0 0] 25 (0, 0))) := blk_up HQ.out bl1
               have HR1 : Hid (t1.heap[w.heap.size]? = some (.cells #[.int .u64 0, .int .i64 0, .int .i64 0, .int .i64 0, .int .i64 0, .bool false, .slice none 0 0] 25 (0, 0))) := blk_up HR.out bl1
               clear bl1)
            | (go_at_call 25; refine (HW.out _).mono ?_; rintro e t2 ⟨gw, cw, rfl, _, c1, bl2⟩
               have HBx : Hid (Below w.heap.size w t2) := below_trans HB1.out bl2
               have HRx : Hid (t2.heap[w.heap.size]? = some (.cells #[.int .u64 0, .int .i64 0, .int .i64 0, .int .i64 0, .int .i64 0, .bool false, .slice none 0 0] 25 (0, 0))) := blk_up HR1.out bl2
               have HQx : Hid (t2.heap[w.heap.size + 1]? = some (.cells #[.int .u64 (f0 : Int), .int .i64 f1, .int .i64 f2, .int .i64 f3, .int .i64 f4, .bool f5, .slice none 0 0] 25 (0, 0))) := blk_up HQ1.out bl2
               have HBS : Hid (Below w.heap.size w (t2.setCell ⟨w.heap.size + 1, 1, none⟩ (.int .i64 V))) := HBx.out.grown (set_grown _ _ _ _) HBx.out.size (fun i hi => by cases hi; omega)
               have HQS : Hid ((t2.setCell ⟨w.heap.size + 1, 1, none⟩ (.int .i64 V)).heap[w.heap.size + 1]? = some (.cells #[.int .u64 (f0 : Int), .int .i64 V, .int .i64 f2, .int .i64 f3, .int .i64 f4, .bool f5, .slice none 0 0] 25 (0, 0))) := Joins.block_setCell HQx.out _
               have HRS : Hid ((t2.setCell ⟨w.heap.size + 1, 1, none⟩ (.int .i64 V)).heap[w.heap.size]? = some (.cells #[.int .u64 0, .int .i64 0, .int .i64 0, .int .i64 0, .int .i64 0, .bool false, .slice none 0 0] 25 (0, 0))) := ((set_grown _ _ _ _).block _ (lt_of_blk HRx.out) (fun e => by have := Option.some.inj e; omega)).trans HRx.out
               obtain ⟨q0, q1, q2, q3, q4, q5, q6⟩ := cells7 HQx.out
               have qf := frozen7 HQx.out 1
               clear bl2)
            | (go_at_call 27; refine (HU.out _).mono ?_; rintro e t3 ⟨rfl, h3⟩; rw [h3]; clear h3)
            | (go_at_call 22; refine (heads_any ⟨f0, V, f2, f3, f4, f5, []⟩ none 0 0 _ HOK2.out (p10_below HT.out HBS.out)).mono ?_; rintro e t4 ⟨g4, rfl, hc4, bl4⟩
               have ck : t4.cell? ⟨g4, 1, none⟩ = some (.string ⟨Hk.toArray⟩) := (hc4 1 (by omega)).trans (by rw [HHK.out])
               have HB4 : Hid (Below w.heap.size w t4) := below_trans HBS.out bl4
               have HQ4 : Hid (t4.heap[w.heap.size + 1]? = some (.cells #[.int .u64 (f0 : Int), .int .i64 V, .int .i64 f2, .int .i64 f3, .int .i64 f4, .bool f5, .slice none 0 0] 25 (0, 0))) := blk_up HQS.out bl4
               have HR4 : Hid (t4.heap[w.heap.size]? = some (.cells #[.int .u64 0, .int .i64 0, .int .i64 0, .int .i64 0, .int .i64 0, .bool false, .slice none 0 0] 25 (0, 0))) := blk_up HRS.out bl4
               clear hc4 bl4 q0 q1 q2 q3 q4 q5 q6 qf c1
               skip))
          go_roundw
          case rel => exact ⟨2, ⟨f0, V, f2, f3, f4, f5, []⟩, Rs, by first | rfl | go_num, rfl, by omega, hRl, HX.out, ⟨HOK2.out, rfl⟩, HQ4.out, HR4.out, HB4.out⟩
          case measure => simp [RowKit.intOf]
        | false =>
          have HNE : Hid (lineB [wC, Lib.itoa V] ≠ (ln L).1) := by
            have h8 : Hk ≠ S := by simpa using hq
            unfold Hid
            intro h7
            apply h8
            rw [← HSE.out, ← h7, ← HHK.out]
            rfl
          have HX : Hid (rp l0 = (none, 2)) := by
            have h9 : nb L wC = none := nb_no wFr.1 HTT.out (by rw [HV.out]; exact HNE.out)
            unfold Hid
            rw [HC.out]
            unfold cont1
            rw [h9]
          clear HNE HC HTT HRE
          go_wp2_with (first
            | (go_at_call 24; refine HLN.mono ?_; rintro e t1 ⟨rfl, bl1⟩
               have HB1 : Hid (Below w.heap.size w t1) := below_trans HB.out bl1
               have HQ1 : Hid (t1.heap[w.heap.size + 1]? = some (.cells #[.int .u64 (f0 : Int), .int .i64 f1, .int .i64 f2, .int .i64 f3, .int .i64 f4, .bool f5, .slice none 0 0] 25 (0, 0))) := blk_up HQ.out bl1
               have HR1 : Hid (t1.heap[w.heap.size]? = some (.cells #[.int .u64 0, .int .i64 0, .int .i64 0, .int .i64 0, .int .i64 0, .bool false, .slice none 0 0] 25 (0, 0))) := blk_up HR.out bl1
               clear bl1)
            | (go_at_call 25; refine (HW.out _).mono ?_; rintro e t2 ⟨gw, cw, rfl, _, c1, bl2⟩
               have HBx : Hid (Below w.heap.size w t2) := below_trans HB1.out bl2
               have HRx : Hid (t2.heap[w.heap.size]? = some (.cells #[.int .u64 0, .int .i64 0, .int .i64 0, .int .i64 0, .int .i64 0, .bool false, .slice none 0 0] 25 (0, 0))) := blk_up HR1.out bl2
               have HQx : Hid (t2.heap[w.heap.size + 1]? = some (.cells #[.int .u64 (f0 : Int), .int .i64 f1, .int .i64 f2, .int .i64 f3, .int .i64 f4, .bool f5, .slice none 0 0] 25 (0, 0))) := blk_up HQ1.out bl2
               have HBS : Hid (Below w.heap.size w (t2.setCell ⟨w.heap.size + 1, 1, none⟩ (.int .i64 V))) := HBx.out.grown (set_grown _ _ _ _) HBx.out.size (fun i hi => by cases hi; omega)
               have HQS : Hid ((t2.setCell ⟨w.heap.size + 1, 1, none⟩ (.int .i64 V)).heap[w.heap.size + 1]? = some (.cells #[.int .u64 (f0 : Int), .int .i64 V, .int .i64 f2, .int .i64 f3, .int .i64 f4, .bool f5, .slice none 0 0] 25 (0, 0))) := Joins.block_setCell HQx.out _
               have HRS : Hid ((t2.setCell ⟨w.heap.size + 1, 1, none⟩ (.int .i64 V)).heap[w.heap.size]? = some (.cells #[.int .u64 0, .int .i64 0, .int .i64 0, .int .i64 0, .int .i64 0, .bool false, .slice none 0 0] 25 (0, 0))) := ((set_grown _ _ _ _).block _ (lt_of_blk HRx.out) (fun e => by have := Option.some.inj e; omega)).trans HRx.out
               obtain ⟨q0, q1, q2, q3, q4, q5, q6⟩ := cells7 HQx.out
               have qf := frozen7 HQx.out 1
               clear bl2)
            | (go_at_call 27; refine (HU.out _).mono ?_; rintro e t3 ⟨rfl, h3⟩; rw [h3]; clear h3)
            | (go_at_call 22; refine (heads_any ⟨f0, V, f2, f3, f4, f5, []⟩ none 0 0 _ HOK2.out (p10_below HT.out HBS.out)).mono ?_; rintro e t4 ⟨g4, rfl, hc4, bl4⟩
               have ck : t4.cell? ⟨g4, 1, none⟩ = some (.string ⟨Hk.toArray⟩) := (hc4 1 (by omega)).trans (by rw [HHK.out])
               have HB4 : Hid (Below w.heap.size w t4) := below_trans HBS.out bl4
               have HQ4 : Hid (t4.heap[w.heap.size + 1]? = some (.cells #[.int .u64 (f0 : Int), .int .i64 V, .int .i64 f2, .int .i64 f3, .int .i64 f4, .bool f5, .slice none 0 0] 25 (0, 0))) := blk_up HQS.out bl4
               have HR4 : Hid (t4.heap[w.heap.size]? = some (.cells #[.int .u64 0, .int .i64 0, .int .i64 0, .int .i64 0, .int .i64 0, .bool false, .slice none 0 0] 25 (0, 0))) := blk_up HRS.out bl4
               clear hc4 bl4 q0 q1 q2 q3 q4 q5 q6 qf c1
               obtain ⟨z0, z1, z2, z3, z4, z5, z6⟩ := cells7 HR4.out
               have rf0 := frozen7 HR4.out 0
               have rf1 := frozen7 HR4.out 1
               have rf2 := frozen7 HR4.out 2
               have rf3 := frozen7 HR4.out 3
               have rf4 := frozen7 HR4.out 4
               have rf5 := frozen7 HR4.out 5
               have rf6 := frozen7 HR4.out 6
            ))
          refine bodyPost_ret (v := .tuple #[.agg #[.int .u64 0, .int .i64 0, .int .i64 0, .int .i64 0, .int .i64 0, .bool false, .slice none 0 0], .int .i64 200, .int .i64 2]) (by obtain ⟨z0, z1, z2, z3, z4, z5, z6⟩ := cells7 (blk7_set HR4.out (.int .u64 0) (.int .i64 0) (.int .i64 0) (.int .i64 0) (.int .i64 0) (.bool false) (.slice none 0 0)); simp [results, Tryd.results9, go_sem, z0, z1, z2, z3, z4, z5, z6]) rfl ⟨?_, ?_⟩
          · rw [HX.out]; rfl
          · exact HB4.out.grown (grown7 _ _ _ _ _ _ _ _ _) HB4.out.size (fun i hi => by cases hi; exact Nat.le_refl _)

      · have HX : Hid (rp l0 = (none, 2)) := by unfold Hid; rw [HC.out]; unfold cont1; rw [nb_short h2]
        obtain ⟨m, hm⟩ : ∃ m, (thL L).length = m := ⟨_, rfl⟩
        have hm2 : ((m : Int) == 2) = false := by rw [beq_eq_false_iff_ne]; omega
        have HW : Hid (∀ y, Calls Tryd.prog 25 #[.string ⟨S.toArray⟩] y fun e w' => ∃ a c, e = .returned (.slice a m c) ∧ Below y.heap.size y w') := fun y => words_len S m (by rw [HTS.out]; exact hm) y hSl
        clear h2 hm HTS HSE HRE HC HOK
        go_wp2_with (first
          | (go_at_call 24; refine HLN.mono ?_; rintro e t1 ⟨rfl, bl1⟩
             have HB1 : Hid (Below w.heap.size w t1) := below_trans HB.out bl1
             have HQ1 : Hid (t1.heap[w.heap.size + 1]? = some (.cells #[.int .u64 (f0 : Int), .int .i64 f1, .int .i64 f2, .int .i64 f3, .int .i64 f4, .bool f5, .slice none 0 0] 25 (0, 0))) := blk_up HQ.out bl1
             have HR1 : Hid (t1.heap[w.heap.size]? = some (.cells #[.int .u64 0, .int .i64 0, .int .i64 0, .int .i64 0, .int .i64 0, .bool false, .slice none 0 0] 25 (0, 0))) := blk_up HR.out bl1
             clear bl1)
          | (go_at_call 25; refine (HW.out _).mono ?_; rintro e t2 ⟨aw, cw, rfl, bl2⟩
             have HBx : Hid (Below w.heap.size w t2) := below_trans HB1.out bl2
             have HRx : Hid (t2.heap[w.heap.size]? = some (.cells #[.int .u64 0, .int .i64 0, .int .i64 0, .int .i64 0, .int .i64 0, .bool false, .slice none 0 0] 25 (0, 0))) := blk_up HR1.out bl2
             obtain ⟨z0, z1, z2, z3, z4, z5, z6⟩ := cells7 HRx.out
             have rf0 := frozen7 HRx.out 0
             have rf1 := frozen7 HRx.out 1
             have rf2 := frozen7 HRx.out 2
             have rf3 := frozen7 HRx.out 3
             have rf4 := frozen7 HRx.out 4
             have rf5 := frozen7 HRx.out 5
             have rf6 := frozen7 HRx.out 6
             clear bl2))
        refine bodyPost_ret (v := .tuple #[.agg #[.int .u64 0, .int .i64 0, .int .i64 0, .int .i64 0, .int .i64 0, .bool false, .slice none 0 0], .int .i64 200, .int .i64 2]) (by obtain ⟨z0, z1, z2, z3, z4, z5, z6⟩ := cells7 (blk7_set HRx.out (.int .u64 0) (.int .i64 0) (.int .i64 0) (.int .i64 0) (.int .i64 0) (.bool false) (.slice none 0 0)); simp [results, Tryd.results9, go_sem, z0, z1, z2, z3, z4, z5, z6]) rfl ⟨?_, ?_⟩
        · rw [HX.out]; rfl
        · exact HBx.out.grown (grown7 _ _ _ _ _ _ _ _ _) HBx.out.size (fun i hi => by cases hi; exact Nat.le_refl _)

    · have HC : Hid (rp l0 = cont2 ⟨f0, f1, f2, f3, f4, f5, []⟩ L) := HC0.out
      clear HC0
      obtain ⟨S, hS⟩ : ∃ S, (ln L).1 = S := ⟨_, rfl⟩
      obtain ⟨Rs, hRs⟩ : ∃ Rs, (ln L).2 = Rs := ⟨_, rfl⟩
      have HLN := rline_any L wr (by omega)
      rw [hS, hRs] at HLN
      have hSl : S.length < 4294967281 := by rw [← hS]; have := (ln_len L).1; omega
      have hRl : Rs.length ≤ l0.length := by rw [← hRs]; have := (ln_len L).2; omega
      have HSE : Hid ((ln L).1 = S) := hS
      have HRE : Hid ((ln L).2 = Rs) := hRs
      have HTS : Hid (thL S = thL L) := by unfold Hid; rw [← hS]; exact ln_th L
      clear hS hRs
      by_cases h2 : (thL L).length = 2
      · obtain ⟨x0, x1, hT⟩ : ∃ x0 x1, thL L = [x0, x1] := ⟨_, _, list2 h2⟩
        have hx1 : x1.length < 4294967281 := by have := word_len (L := L) (x := x1) (by rw [hT]; simp); omega
        have HW : Hid (∀ y, Calls Tryd.prog 25 #[.string ⟨S.toArray⟩] y fun e w' => ∃ g c, e = .returned (.slice (some ⟨g, 0, none⟩) 2 c) ∧ w'.cell? ⟨g, 0, none⟩ = some (.string ⟨x0.toArray⟩) ∧ w'.cell? ⟨g, 1, none⟩ = some (.string ⟨x1.toArray⟩) ∧ Below y.heap.size y w') := fun y => words_two S x0 x1 (HTS.out.trans hT) y hSl
        have HTT : Hid (thL L = [x0, x1]) := hT
        clear hT h2 HTS
        obtain ⟨V, hV⟩ : ∃ V, rn x1 = V := ⟨_, rfl⟩
        have HV : Hid (rn x1 = V) := hV
        have hv : In V := by rw [← hV]; exact rn_in _
        have HU : Hid (∀ y, Calls Tryd.prog 27 #[.string ⟨x1.toArray⟩] y fun e w' => e = .returned (.int .i64 V) ∧ w' = y) := fun y => (rnum_any x1 y hx1).mono (by rintro e w' ⟨rfl, h⟩; rw [hV]; exact ⟨rfl, h⟩)
        clear hV
        obtain ⟨Hk, hHk⟩ : ∃ Hk, (headsL ⟨f0, f1, V, f3, f4, f5, []⟩).getD 2 [] = Hk := ⟨_, rfl⟩
        have HOK2 : Hid (Rp.Ok ⟨f0, f1, V, f3, f4, f5, []⟩) := ⟨HOK.out.fl, HOK.out.c, hv, HOK.out.u, HOK.out.b, HOK.out.fs, HOK.out.few⟩
        have HHK : Hid ((headsL ⟨f0, f1, V, f3, f4, f5, []⟩).getD 2 [] = Hk) := hHk
        clear hHk HOK
        cases hq : (Hk == S) with
        | true =>
          have HEQ : Hid (lineB [wL, Lib.itoa V] = (ln L).1) := by
            have h8 : Hk = S := by simpa using hq
            unfold Hid
            rw [HSE.out, ← h8, ← HHK.out]
            rfl
          have HX : Hid (rp l0 = cont3 ⟨f0, f1, V, f3, f4, f5, []⟩ Rs) := by
            have h9 : nb L wL = some (rn x1) := nb_yes wFr.2.1 HTT.out (by rw [HV.out]; exact HEQ.out)
            unfold Hid
            rw [HC.out]
            unfold cont2
            rw [h9, HV.out]
            rw [← HRE.out, rest_of HEQ.out]
          clear HEQ HC HTT
          go_wp2_with (first
            | (go_at_call 24; refine HLN.mono ?_; rintro e t1 ⟨rfl, bl1⟩
               have HB1 : Hid (Below w.heap.size w t1) := below_trans HB.out bl1
               have HQ1 : Hid (t1.heap[w.heap.size + 1]? = some (.cells #[.int .u64 (f0 : Int), .int .i64 f1, .int .i64 f2, .int .i64 f3, .int .i64 f4, .bool f5, .slice none 0 0] 25 (0, 0))) := blk_up HQ.out bl1
               have HR1 : Hid (t1.heap[w.heap.size]? = some (.cells #[.int .u64 0, .int .i64 0, .int .i64 0, .int .i64 0, .int .i64 0, .bool false, .slice none 0 0] 25 (0, 0))) := blk_up HR.out bl1
               clear bl1)
            | (go_at_call 25; refine (HW.out _).mono ?_; rintro e t2 ⟨gw, cw, rfl, _, c1, bl2⟩
               have HBx : Hid (Below w.heap.size w t2) := below_trans HB1.out bl2
               have HRx : Hid (t2.heap[w.heap.size]? = some (.cells #[.int .u64 0, .int .i64 0, .int .i64 0, .int .i64 0, .int .i64 0, .bool false, .slice none 0 0] 25 (0, 0))) := blk_up HR1.out bl2
               have HQx : Hid (t2.heap[w.heap.size + 1]? = some (.cells #[.int .u64 (f0 : Int), .int .i64 f1, .int .i64 f2, .int .i64 f3, .int .i64 f4, .bool f5, .slice none 0 0] 25 (0, 0))) := blk_up HQ1.out bl2
               have HBS : Hid (Below w.heap.size w (t2.setCell ⟨w.heap.size + 1, 2, none⟩ (.int .i64 V))) := HBx.out.grown (set_grown _ _ _ _) HBx.out.size (fun i hi => by cases hi; omega)
               have HQS : Hid ((t2.setCell ⟨w.heap.size + 1, 2, none⟩ (.int .i64 V)).heap[w.heap.size + 1]? = some (.cells #[.int .u64 (f0 : Int), .int .i64 f1, .int .i64 V, .int .i64 f3, .int .i64 f4, .bool f5, .slice none 0 0] 25 (0, 0))) := Joins.block_setCell HQx.out _
               have HRS : Hid ((t2.setCell ⟨w.heap.size + 1, 2, none⟩ (.int .i64 V)).heap[w.heap.size]? = some (.cells #[.int .u64 0, .int .i64 0, .int .i64 0, .int .i64 0, .int .i64 0, .bool false, .slice none 0 0] 25 (0, 0))) := ((set_grown _ _ _ _).block _ (lt_of_blk HRx.out) (fun e => by have := Option.some.inj e; omega)).trans HRx.out
               obtain ⟨q0, q1, q2, q3, q4, q5, q6⟩ := cells7 HQx.out
               have qf := frozen7 HQx.out 2
               clear bl2)
            | (go_at_call 27; refine (HU.out _).mono ?_; rintro e t3 ⟨rfl, h3⟩; rw [h3]; clear h3)
            | (go_at_call 22; refine (heads_any ⟨f0, f1, V, f3, f4, f5, []⟩ none 0 0 _ HOK2.out (p10_below HT.out HBS.out)).mono ?_; rintro e t4 ⟨g4, rfl, hc4, bl4⟩
               have ck : t4.cell? ⟨g4, 2, none⟩ = some (.string ⟨Hk.toArray⟩) := (hc4 2 (by omega)).trans (by rw [HHK.out])
               have HB4 : Hid (Below w.heap.size w t4) := below_trans HBS.out bl4
               have HQ4 : Hid (t4.heap[w.heap.size + 1]? = some (.cells #[.int .u64 (f0 : Int), .int .i64 f1, .int .i64 V, .int .i64 f3, .int .i64 f4, .bool f5, .slice none 0 0] 25 (0, 0))) := blk_up HQS.out bl4
               have HR4 : Hid (t4.heap[w.heap.size]? = some (.cells #[.int .u64 0, .int .i64 0, .int .i64 0, .int .i64 0, .int .i64 0, .bool false, .slice none 0 0] 25 (0, 0))) := blk_up HRS.out bl4
               clear hc4 bl4 q0 q1 q2 q3 q4 q5 q6 qf c1
               skip))
          go_roundw
          case rel => exact ⟨3, ⟨f0, f1, V, f3, f4, f5, []⟩, Rs, by first | rfl | go_num, rfl, by omega, hRl, HX.out, ⟨HOK2.out, rfl⟩, HQ4.out, HR4.out, HB4.out⟩
          case measure => simp [RowKit.intOf]
        | false =>
          have HNE : Hid (lineB [wL, Lib.itoa V] ≠ (ln L).1) := by
            have h8 : Hk ≠ S := by simpa using hq
            unfold Hid
            intro h7
            apply h8
            rw [← HSE.out, ← h7, ← HHK.out]
            rfl
          have HX : Hid (rp l0 = (none, 3)) := by
            have h9 : nb L wL = none := nb_no wFr.2.1 HTT.out (by rw [HV.out]; exact HNE.out)
            unfold Hid
            rw [HC.out]
            unfold cont2
            rw [h9]
          clear HNE HC HTT HRE
          go_wp2_with (first
            | (go_at_call 24; refine HLN.mono ?_; rintro e t1 ⟨rfl, bl1⟩
               have HB1 : Hid (Below w.heap.size w t1) := below_trans HB.out bl1
               have HQ1 : Hid (t1.heap[w.heap.size + 1]? = some (.cells #[.int .u64 (f0 : Int), .int .i64 f1, .int .i64 f2, .int .i64 f3, .int .i64 f4, .bool f5, .slice none 0 0] 25 (0, 0))) := blk_up HQ.out bl1
               have HR1 : Hid (t1.heap[w.heap.size]? = some (.cells #[.int .u64 0, .int .i64 0, .int .i64 0, .int .i64 0, .int .i64 0, .bool false, .slice none 0 0] 25 (0, 0))) := blk_up HR.out bl1
               clear bl1)
            | (go_at_call 25; refine (HW.out _).mono ?_; rintro e t2 ⟨gw, cw, rfl, _, c1, bl2⟩
               have HBx : Hid (Below w.heap.size w t2) := below_trans HB1.out bl2
               have HRx : Hid (t2.heap[w.heap.size]? = some (.cells #[.int .u64 0, .int .i64 0, .int .i64 0, .int .i64 0, .int .i64 0, .bool false, .slice none 0 0] 25 (0, 0))) := blk_up HR1.out bl2
               have HQx : Hid (t2.heap[w.heap.size + 1]? = some (.cells #[.int .u64 (f0 : Int), .int .i64 f1, .int .i64 f2, .int .i64 f3, .int .i64 f4, .bool f5, .slice none 0 0] 25 (0, 0))) := blk_up HQ1.out bl2
               have HBS : Hid (Below w.heap.size w (t2.setCell ⟨w.heap.size + 1, 2, none⟩ (.int .i64 V))) := HBx.out.grown (set_grown _ _ _ _) HBx.out.size (fun i hi => by cases hi; omega)
               have HQS : Hid ((t2.setCell ⟨w.heap.size + 1, 2, none⟩ (.int .i64 V)).heap[w.heap.size + 1]? = some (.cells #[.int .u64 (f0 : Int), .int .i64 f1, .int .i64 V, .int .i64 f3, .int .i64 f4, .bool f5, .slice none 0 0] 25 (0, 0))) := Joins.block_setCell HQx.out _
               have HRS : Hid ((t2.setCell ⟨w.heap.size + 1, 2, none⟩ (.int .i64 V)).heap[w.heap.size]? = some (.cells #[.int .u64 0, .int .i64 0, .int .i64 0, .int .i64 0, .int .i64 0, .bool false, .slice none 0 0] 25 (0, 0))) := ((set_grown _ _ _ _).block _ (lt_of_blk HRx.out) (fun e => by have := Option.some.inj e; omega)).trans HRx.out
               obtain ⟨q0, q1, q2, q3, q4, q5, q6⟩ := cells7 HQx.out
               have qf := frozen7 HQx.out 2
               clear bl2)
            | (go_at_call 27; refine (HU.out _).mono ?_; rintro e t3 ⟨rfl, h3⟩; rw [h3]; clear h3)
            | (go_at_call 22; refine (heads_any ⟨f0, f1, V, f3, f4, f5, []⟩ none 0 0 _ HOK2.out (p10_below HT.out HBS.out)).mono ?_; rintro e t4 ⟨g4, rfl, hc4, bl4⟩
               have ck : t4.cell? ⟨g4, 2, none⟩ = some (.string ⟨Hk.toArray⟩) := (hc4 2 (by omega)).trans (by rw [HHK.out])
               have HB4 : Hid (Below w.heap.size w t4) := below_trans HBS.out bl4
               have HQ4 : Hid (t4.heap[w.heap.size + 1]? = some (.cells #[.int .u64 (f0 : Int), .int .i64 f1, .int .i64 V, .int .i64 f3, .int .i64 f4, .bool f5, .slice none 0 0] 25 (0, 0))) := blk_up HQS.out bl4
               have HR4 : Hid (t4.heap[w.heap.size]? = some (.cells #[.int .u64 0, .int .i64 0, .int .i64 0, .int .i64 0, .int .i64 0, .bool false, .slice none 0 0] 25 (0, 0))) := blk_up HRS.out bl4
               clear hc4 bl4 q0 q1 q2 q3 q4 q5 q6 qf c1
               obtain ⟨z0, z1, z2, z3, z4, z5, z6⟩ := cells7 HR4.out
               have rf0 := frozen7 HR4.out 0
               have rf1 := frozen7 HR4.out 1
               have rf2 := frozen7 HR4.out 2
               have rf3 := frozen7 HR4.out 3
               have rf4 := frozen7 HR4.out 4
               have rf5 := frozen7 HR4.out 5
               have rf6 := frozen7 HR4.out 6
            ))
          refine bodyPost_ret (v := .tuple #[.agg #[.int .u64 0, .int .i64 0, .int .i64 0, .int .i64 0, .int .i64 0, .bool false, .slice none 0 0], .int .i64 200, .int .i64 3]) (by obtain ⟨z0, z1, z2, z3, z4, z5, z6⟩ := cells7 (blk7_set HR4.out (.int .u64 0) (.int .i64 0) (.int .i64 0) (.int .i64 0) (.int .i64 0) (.bool false) (.slice none 0 0)); simp [results, Tryd.results9, go_sem, z0, z1, z2, z3, z4, z5, z6]) rfl ⟨?_, ?_⟩
          · rw [HX.out]; rfl
          · exact HB4.out.grown (grown7 _ _ _ _ _ _ _ _ _) HB4.out.size (fun i hi => by cases hi; exact Nat.le_refl _)

      · have HX : Hid (rp l0 = (none, 3)) := by unfold Hid; rw [HC.out]; unfold cont2; rw [nb_short h2]
        obtain ⟨m, hm⟩ : ∃ m, (thL L).length = m := ⟨_, rfl⟩
        have hm2 : ((m : Int) == 2) = false := by rw [beq_eq_false_iff_ne]; omega
        have HW : Hid (∀ y, Calls Tryd.prog 25 #[.string ⟨S.toArray⟩] y fun e w' => ∃ a c, e = .returned (.slice a m c) ∧ Below y.heap.size y w') := fun y => words_len S m (by rw [HTS.out]; exact hm) y hSl
        clear h2 hm HTS HSE HRE HC HOK
        go_wp2_with (first
          | (go_at_call 24; refine HLN.mono ?_; rintro e t1 ⟨rfl, bl1⟩
             have HB1 : Hid (Below w.heap.size w t1) := below_trans HB.out bl1
             have HQ1 : Hid (t1.heap[w.heap.size + 1]? = some (.cells #[.int .u64 (f0 : Int), .int .i64 f1, .int .i64 f2, .int .i64 f3, .int .i64 f4, .bool f5, .slice none 0 0] 25 (0, 0))) := blk_up HQ.out bl1
             have HR1 : Hid (t1.heap[w.heap.size]? = some (.cells #[.int .u64 0, .int .i64 0, .int .i64 0, .int .i64 0, .int .i64 0, .bool false, .slice none 0 0] 25 (0, 0))) := blk_up HR.out bl1
             clear bl1)
          | (go_at_call 25; refine (HW.out _).mono ?_; rintro e t2 ⟨aw, cw, rfl, bl2⟩
             have HBx : Hid (Below w.heap.size w t2) := below_trans HB1.out bl2
             have HRx : Hid (t2.heap[w.heap.size]? = some (.cells #[.int .u64 0, .int .i64 0, .int .i64 0, .int .i64 0, .int .i64 0, .bool false, .slice none 0 0] 25 (0, 0))) := blk_up HR1.out bl2
             obtain ⟨z0, z1, z2, z3, z4, z5, z6⟩ := cells7 HRx.out
             have rf0 := frozen7 HRx.out 0
             have rf1 := frozen7 HRx.out 1
             have rf2 := frozen7 HRx.out 2
             have rf3 := frozen7 HRx.out 3
             have rf4 := frozen7 HRx.out 4
             have rf5 := frozen7 HRx.out 5
             have rf6 := frozen7 HRx.out 6
             clear bl2))
        refine bodyPost_ret (v := .tuple #[.agg #[.int .u64 0, .int .i64 0, .int .i64 0, .int .i64 0, .int .i64 0, .bool false, .slice none 0 0], .int .i64 200, .int .i64 3]) (by obtain ⟨z0, z1, z2, z3, z4, z5, z6⟩ := cells7 (blk7_set HRx.out (.int .u64 0) (.int .i64 0) (.int .i64 0) (.int .i64 0) (.int .i64 0) (.bool false) (.slice none 0 0)); simp [results, Tryd.results9, go_sem, z0, z1, z2, z3, z4, z5, z6]) rfl ⟨?_, ?_⟩
        · rw [HX.out]; rfl
        · exact HBx.out.grown (grown7 _ _ _ _ _ _ _ _ _) HBx.out.size (fun i hi => by cases hi; exact Nat.le_refl _)

    · have HC : Hid (rp l0 = cont3 ⟨f0, f1, f2, f3, f4, f5, []⟩ L) := HC0.out
      clear HC0
      obtain ⟨S, hS⟩ : ∃ S, (ln L).1 = S := ⟨_, rfl⟩
      obtain ⟨Rs, hRs⟩ : ∃ Rs, (ln L).2 = Rs := ⟨_, rfl⟩
      have HLN := rline_any L wr (by omega)
      rw [hS, hRs] at HLN
      have hSl : S.length < 4294967281 := by rw [← hS]; have := (ln_len L).1; omega
      have hRl : Rs.length ≤ l0.length := by rw [← hRs]; have := (ln_len L).2; omega
      have HSE : Hid ((ln L).1 = S) := hS
      have HRE : Hid ((ln L).2 = Rs) := hRs
      have HTS : Hid (thL S = thL L) := by unfold Hid; rw [← hS]; exact ln_th L
      clear hS hRs
      by_cases h2 : (thL L).length = 2
      · obtain ⟨x0, x1, hT⟩ : ∃ x0 x1, thL L = [x0, x1] := ⟨_, _, list2 h2⟩
        have hx1 : x1.length < 4294967281 := by have := word_len (L := L) (x := x1) (by rw [hT]; simp); omega
        have HW : Hid (∀ y, Calls Tryd.prog 25 #[.string ⟨S.toArray⟩] y fun e w' => ∃ g c, e = .returned (.slice (some ⟨g, 0, none⟩) 2 c) ∧ w'.cell? ⟨g, 0, none⟩ = some (.string ⟨x0.toArray⟩) ∧ w'.cell? ⟨g, 1, none⟩ = some (.string ⟨x1.toArray⟩) ∧ Below y.heap.size y w') := fun y => words_two S x0 x1 (HTS.out.trans hT) y hSl
        have HTT : Hid (thL L = [x0, x1]) := hT
        clear hT h2 HTS
        obtain ⟨V, hV⟩ : ∃ V, rn x1 = V := ⟨_, rfl⟩
        have HV : Hid (rn x1 = V) := hV
        have hv : In V := by rw [← hV]; exact rn_in _
        have HU : Hid (∀ y, Calls Tryd.prog 27 #[.string ⟨x1.toArray⟩] y fun e w' => e = .returned (.int .i64 V) ∧ w' = y) := fun y => (rnum_any x1 y hx1).mono (by rintro e w' ⟨rfl, h⟩; rw [hV]; exact ⟨rfl, h⟩)
        clear hV
        obtain ⟨Hk, hHk⟩ : ∃ Hk, (headsL ⟨f0, f1, f2, V, f4, f5, []⟩).getD 3 [] = Hk := ⟨_, rfl⟩
        have HOK2 : Hid (Rp.Ok ⟨f0, f1, f2, V, f4, f5, []⟩) := ⟨HOK.out.fl, HOK.out.c, HOK.out.l, hv, HOK.out.b, HOK.out.fs, HOK.out.few⟩
        have HHK : Hid ((headsL ⟨f0, f1, f2, V, f4, f5, []⟩).getD 3 [] = Hk) := hHk
        clear hHk HOK
        cases hq : (Hk == S) with
        | true =>
          have HEQ : Hid (lineB [wU, Lib.itoa V] = (ln L).1) := by
            have h8 : Hk = S := by simpa using hq
            unfold Hid
            rw [HSE.out, ← h8, ← HHK.out]
            rfl
          have HX : Hid (rp l0 = cont4 ⟨f0, f1, f2, V, f4, f5, []⟩ Rs) := by
            have h9 : nb L wU = some (rn x1) := nb_yes wFr.2.2.1 HTT.out (by rw [HV.out]; exact HEQ.out)
            unfold Hid
            rw [HC.out]
            unfold cont3
            rw [h9, HV.out]
            rw [← HRE.out, rest_of HEQ.out]
          clear HEQ HC HTT
          go_wp2_with (first
            | (go_at_call 24; refine HLN.mono ?_; rintro e t1 ⟨rfl, bl1⟩
               have HB1 : Hid (Below w.heap.size w t1) := below_trans HB.out bl1
               have HQ1 : Hid (t1.heap[w.heap.size + 1]? = some (.cells #[.int .u64 (f0 : Int), .int .i64 f1, .int .i64 f2, .int .i64 f3, .int .i64 f4, .bool f5, .slice none 0 0] 25 (0, 0))) := blk_up HQ.out bl1
               have HR1 : Hid (t1.heap[w.heap.size]? = some (.cells #[.int .u64 0, .int .i64 0, .int .i64 0, .int .i64 0, .int .i64 0, .bool false, .slice none 0 0] 25 (0, 0))) := blk_up HR.out bl1
               clear bl1)
            | (go_at_call 25; refine (HW.out _).mono ?_; rintro e t2 ⟨gw, cw, rfl, _, c1, bl2⟩
               have HBx : Hid (Below w.heap.size w t2) := below_trans HB1.out bl2
               have HRx : Hid (t2.heap[w.heap.size]? = some (.cells #[.int .u64 0, .int .i64 0, .int .i64 0, .int .i64 0, .int .i64 0, .bool false, .slice none 0 0] 25 (0, 0))) := blk_up HR1.out bl2
               have HQx : Hid (t2.heap[w.heap.size + 1]? = some (.cells #[.int .u64 (f0 : Int), .int .i64 f1, .int .i64 f2, .int .i64 f3, .int .i64 f4, .bool f5, .slice none 0 0] 25 (0, 0))) := blk_up HQ1.out bl2
               have HBS : Hid (Below w.heap.size w (t2.setCell ⟨w.heap.size + 1, 3, none⟩ (.int .i64 V))) := HBx.out.grown (set_grown _ _ _ _) HBx.out.size (fun i hi => by cases hi; omega)
               have HQS : Hid ((t2.setCell ⟨w.heap.size + 1, 3, none⟩ (.int .i64 V)).heap[w.heap.size + 1]? = some (.cells #[.int .u64 (f0 : Int), .int .i64 f1, .int .i64 f2, .int .i64 V, .int .i64 f4, .bool f5, .slice none 0 0] 25 (0, 0))) := Joins.block_setCell HQx.out _
               have HRS : Hid ((t2.setCell ⟨w.heap.size + 1, 3, none⟩ (.int .i64 V)).heap[w.heap.size]? = some (.cells #[.int .u64 0, .int .i64 0, .int .i64 0, .int .i64 0, .int .i64 0, .bool false, .slice none 0 0] 25 (0, 0))) := ((set_grown _ _ _ _).block _ (lt_of_blk HRx.out) (fun e => by have := Option.some.inj e; omega)).trans HRx.out
               obtain ⟨q0, q1, q2, q3, q4, q5, q6⟩ := cells7 HQx.out
               have qf := frozen7 HQx.out 3
               clear bl2)
            | (go_at_call 27; refine (HU.out _).mono ?_; rintro e t3 ⟨rfl, h3⟩; rw [h3]; clear h3)
            | (go_at_call 22; refine (heads_any ⟨f0, f1, f2, V, f4, f5, []⟩ none 0 0 _ HOK2.out (p10_below HT.out HBS.out)).mono ?_; rintro e t4 ⟨g4, rfl, hc4, bl4⟩
               have ck : t4.cell? ⟨g4, 3, none⟩ = some (.string ⟨Hk.toArray⟩) := (hc4 3 (by omega)).trans (by rw [HHK.out])
               have HB4 : Hid (Below w.heap.size w t4) := below_trans HBS.out bl4
               have HQ4 : Hid (t4.heap[w.heap.size + 1]? = some (.cells #[.int .u64 (f0 : Int), .int .i64 f1, .int .i64 f2, .int .i64 V, .int .i64 f4, .bool f5, .slice none 0 0] 25 (0, 0))) := blk_up HQS.out bl4
               have HR4 : Hid (t4.heap[w.heap.size]? = some (.cells #[.int .u64 0, .int .i64 0, .int .i64 0, .int .i64 0, .int .i64 0, .bool false, .slice none 0 0] 25 (0, 0))) := blk_up HRS.out bl4
               clear hc4 bl4 q0 q1 q2 q3 q4 q5 q6 qf c1
               skip))
          go_roundw
          case rel => exact ⟨4, ⟨f0, f1, f2, V, f4, f5, []⟩, Rs, by first | rfl | go_num, rfl, by omega, hRl, HX.out, ⟨HOK2.out, rfl⟩, HQ4.out, HR4.out, HB4.out⟩
          case measure => simp [RowKit.intOf]
        | false =>
          have HNE : Hid (lineB [wU, Lib.itoa V] ≠ (ln L).1) := by
            have h8 : Hk ≠ S := by simpa using hq
            unfold Hid
            intro h7
            apply h8
            rw [← HSE.out, ← h7, ← HHK.out]
            rfl
          have HX : Hid (rp l0 = (none, 4)) := by
            have h9 : nb L wU = none := nb_no wFr.2.2.1 HTT.out (by rw [HV.out]; exact HNE.out)
            unfold Hid
            rw [HC.out]
            unfold cont3
            rw [h9]
          clear HNE HC HTT HRE
          go_wp2_with (first
            | (go_at_call 24; refine HLN.mono ?_; rintro e t1 ⟨rfl, bl1⟩
               have HB1 : Hid (Below w.heap.size w t1) := below_trans HB.out bl1
               have HQ1 : Hid (t1.heap[w.heap.size + 1]? = some (.cells #[.int .u64 (f0 : Int), .int .i64 f1, .int .i64 f2, .int .i64 f3, .int .i64 f4, .bool f5, .slice none 0 0] 25 (0, 0))) := blk_up HQ.out bl1
               have HR1 : Hid (t1.heap[w.heap.size]? = some (.cells #[.int .u64 0, .int .i64 0, .int .i64 0, .int .i64 0, .int .i64 0, .bool false, .slice none 0 0] 25 (0, 0))) := blk_up HR.out bl1
               clear bl1)
            | (go_at_call 25; refine (HW.out _).mono ?_; rintro e t2 ⟨gw, cw, rfl, _, c1, bl2⟩
               have HBx : Hid (Below w.heap.size w t2) := below_trans HB1.out bl2
               have HRx : Hid (t2.heap[w.heap.size]? = some (.cells #[.int .u64 0, .int .i64 0, .int .i64 0, .int .i64 0, .int .i64 0, .bool false, .slice none 0 0] 25 (0, 0))) := blk_up HR1.out bl2
               have HQx : Hid (t2.heap[w.heap.size + 1]? = some (.cells #[.int .u64 (f0 : Int), .int .i64 f1, .int .i64 f2, .int .i64 f3, .int .i64 f4, .bool f5, .slice none 0 0] 25 (0, 0))) := blk_up HQ1.out bl2
               have HBS : Hid (Below w.heap.size w (t2.setCell ⟨w.heap.size + 1, 3, none⟩ (.int .i64 V))) := HBx.out.grown (set_grown _ _ _ _) HBx.out.size (fun i hi => by cases hi; omega)
               have HQS : Hid ((t2.setCell ⟨w.heap.size + 1, 3, none⟩ (.int .i64 V)).heap[w.heap.size + 1]? = some (.cells #[.int .u64 (f0 : Int), .int .i64 f1, .int .i64 f2, .int .i64 V, .int .i64 f4, .bool f5, .slice none 0 0] 25 (0, 0))) := Joins.block_setCell HQx.out _
               have HRS : Hid ((t2.setCell ⟨w.heap.size + 1, 3, none⟩ (.int .i64 V)).heap[w.heap.size]? = some (.cells #[.int .u64 0, .int .i64 0, .int .i64 0, .int .i64 0, .int .i64 0, .bool false, .slice none 0 0] 25 (0, 0))) := ((set_grown _ _ _ _).block _ (lt_of_blk HRx.out) (fun e => by have := Option.some.inj e; omega)).trans HRx.out
               obtain ⟨q0, q1, q2, q3, q4, q5, q6⟩ := cells7 HQx.out
               have qf := frozen7 HQx.out 3
               clear bl2)
            | (go_at_call 27; refine (HU.out _).mono ?_; rintro e t3 ⟨rfl, h3⟩; rw [h3]; clear h3)
            | (go_at_call 22; refine (heads_any ⟨f0, f1, f2, V, f4, f5, []⟩ none 0 0 _ HOK2.out (p10_below HT.out HBS.out)).mono ?_; rintro e t4 ⟨g4, rfl, hc4, bl4⟩
               have ck : t4.cell? ⟨g4, 3, none⟩ = some (.string ⟨Hk.toArray⟩) := (hc4 3 (by omega)).trans (by rw [HHK.out])
               have HB4 : Hid (Below w.heap.size w t4) := below_trans HBS.out bl4
               have HQ4 : Hid (t4.heap[w.heap.size + 1]? = some (.cells #[.int .u64 (f0 : Int), .int .i64 f1, .int .i64 f2, .int .i64 V, .int .i64 f4, .bool f5, .slice none 0 0] 25 (0, 0))) := blk_up HQS.out bl4
               have HR4 : Hid (t4.heap[w.heap.size]? = some (.cells #[.int .u64 0, .int .i64 0, .int .i64 0, .int .i64 0, .int .i64 0, .bool false, .slice none 0 0] 25 (0, 0))) := blk_up HRS.out bl4
               clear hc4 bl4 q0 q1 q2 q3 q4 q5 q6 qf c1
               obtain ⟨z0, z1, z2, z3, z4, z5, z6⟩ := cells7 HR4.out
               have rf0 := frozen7 HR4.out 0
               have rf1 := frozen7 HR4.out 1
               have rf2 := frozen7 HR4.out 2
               have rf3 := frozen7 HR4.out 3
               have rf4 := frozen7 HR4.out 4
               have rf5 := frozen7 HR4.out 5
               have rf6 := frozen7 HR4.out 6
            ))
          refine bodyPost_ret (v := .tuple #[.agg #[.int .u64 0, .int .i64 0, .int .i64 0, .int .i64 0, .int .i64 0, .bool false, .slice none 0 0], .int .i64 200, .int .i64 4]) (by obtain ⟨z0, z1, z2, z3, z4, z5, z6⟩ := cells7 (blk7_set HR4.out (.int .u64 0) (.int .i64 0) (.int .i64 0) (.int .i64 0) (.int .i64 0) (.bool false) (.slice none 0 0)); simp [results, Tryd.results9, go_sem, z0, z1, z2, z3, z4, z5, z6]) rfl ⟨?_, ?_⟩
          · rw [HX.out]; rfl
          · exact HB4.out.grown (grown7 _ _ _ _ _ _ _ _ _) HB4.out.size (fun i hi => by cases hi; exact Nat.le_refl _)

      · have HX : Hid (rp l0 = (none, 4)) := by unfold Hid; rw [HC.out]; unfold cont3; rw [nb_short h2]
        obtain ⟨m, hm⟩ : ∃ m, (thL L).length = m := ⟨_, rfl⟩
        have hm2 : ((m : Int) == 2) = false := by rw [beq_eq_false_iff_ne]; omega
        have HW : Hid (∀ y, Calls Tryd.prog 25 #[.string ⟨S.toArray⟩] y fun e w' => ∃ a c, e = .returned (.slice a m c) ∧ Below y.heap.size y w') := fun y => words_len S m (by rw [HTS.out]; exact hm) y hSl
        clear h2 hm HTS HSE HRE HC HOK
        go_wp2_with (first
          | (go_at_call 24; refine HLN.mono ?_; rintro e t1 ⟨rfl, bl1⟩
             have HB1 : Hid (Below w.heap.size w t1) := below_trans HB.out bl1
             have HQ1 : Hid (t1.heap[w.heap.size + 1]? = some (.cells #[.int .u64 (f0 : Int), .int .i64 f1, .int .i64 f2, .int .i64 f3, .int .i64 f4, .bool f5, .slice none 0 0] 25 (0, 0))) := blk_up HQ.out bl1
             have HR1 : Hid (t1.heap[w.heap.size]? = some (.cells #[.int .u64 0, .int .i64 0, .int .i64 0, .int .i64 0, .int .i64 0, .bool false, .slice none 0 0] 25 (0, 0))) := blk_up HR.out bl1
             clear bl1)
          | (go_at_call 25; refine (HW.out _).mono ?_; rintro e t2 ⟨aw, cw, rfl, bl2⟩
             have HBx : Hid (Below w.heap.size w t2) := below_trans HB1.out bl2
             have HRx : Hid (t2.heap[w.heap.size]? = some (.cells #[.int .u64 0, .int .i64 0, .int .i64 0, .int .i64 0, .int .i64 0, .bool false, .slice none 0 0] 25 (0, 0))) := blk_up HR1.out bl2
             obtain ⟨z0, z1, z2, z3, z4, z5, z6⟩ := cells7 HRx.out
             have rf0 := frozen7 HRx.out 0
             have rf1 := frozen7 HRx.out 1
             have rf2 := frozen7 HRx.out 2
             have rf3 := frozen7 HRx.out 3
             have rf4 := frozen7 HRx.out 4
             have rf5 := frozen7 HRx.out 5
             have rf6 := frozen7 HRx.out 6
             clear bl2))
        refine bodyPost_ret (v := .tuple #[.agg #[.int .u64 0, .int .i64 0, .int .i64 0, .int .i64 0, .int .i64 0, .bool false, .slice none 0 0], .int .i64 200, .int .i64 4]) (by obtain ⟨z0, z1, z2, z3, z4, z5, z6⟩ := cells7 (blk7_set HRx.out (.int .u64 0) (.int .i64 0) (.int .i64 0) (.int .i64 0) (.int .i64 0) (.bool false) (.slice none 0 0)); simp [results, Tryd.results9, go_sem, z0, z1, z2, z3, z4, z5, z6]) rfl ⟨?_, ?_⟩
        · rw [HX.out]; rfl
        · exact HBx.out.grown (grown7 _ _ _ _ _ _ _ _ _) HBx.out.size (fun i hi => by cases hi; exact Nat.le_refl _)

    · have HC : Hid (rp l0 = cont4 ⟨f0, f1, f2, f3, f4, f5, []⟩ L) := HC0.out
      clear HC0
      obtain ⟨S, hS⟩ : ∃ S, (ln L).1 = S := ⟨_, rfl⟩
      obtain ⟨Rs, hRs⟩ : ∃ Rs, (ln L).2 = Rs := ⟨_, rfl⟩
      have HLN := rline_any L wr (by omega)
      rw [hS, hRs] at HLN
      have hSl : S.length < 4294967281 := by rw [← hS]; have := (ln_len L).1; omega
      have hRl : Rs.length ≤ l0.length := by rw [← hRs]; have := (ln_len L).2; omega
      have HSE : Hid ((ln L).1 = S) := hS
      have HRE : Hid ((ln L).2 = Rs) := hRs
      have HTS : Hid (thL S = thL L) := by unfold Hid; rw [← hS]; exact ln_th L
      clear hS hRs
      by_cases h2 : (thL L).length = 2
      · obtain ⟨x0, x1, hT⟩ : ∃ x0 x1, thL L = [x0, x1] := ⟨_, _, list2 h2⟩
        have hx1 : x1.length < 4294967281 := by have := word_len (L := L) (x := x1) (by rw [hT]; simp); omega
        have HW : Hid (∀ y, Calls Tryd.prog 25 #[.string ⟨S.toArray⟩] y fun e w' => ∃ g c, e = .returned (.slice (some ⟨g, 0, none⟩) 2 c) ∧ w'.cell? ⟨g, 0, none⟩ = some (.string ⟨x0.toArray⟩) ∧ w'.cell? ⟨g, 1, none⟩ = some (.string ⟨x1.toArray⟩) ∧ Below y.heap.size y w') := fun y => words_two S x0 x1 (HTS.out.trans hT) y hSl
        have HTT : Hid (thL L = [x0, x1]) := hT
        clear hT h2 HTS
        obtain ⟨V, hV⟩ : ∃ V, rn x1 = V := ⟨_, rfl⟩
        have HV : Hid (rn x1 = V) := hV
        have hv : In V := by rw [← hV]; exact rn_in _
        have HU : Hid (∀ y, Calls Tryd.prog 27 #[.string ⟨x1.toArray⟩] y fun e w' => e = .returned (.int .i64 V) ∧ w' = y) := fun y => (rnum_any x1 y hx1).mono (by rintro e w' ⟨rfl, h⟩; rw [hV]; exact ⟨rfl, h⟩)
        clear hV
        obtain ⟨Hk, hHk⟩ : ∃ Hk, (headsL ⟨f0, f1, f2, f3, V, f5, []⟩).getD 4 [] = Hk := ⟨_, rfl⟩
        have HOK2 : Hid (Rp.Ok ⟨f0, f1, f2, f3, V, f5, []⟩) := ⟨HOK.out.fl, HOK.out.c, HOK.out.l, HOK.out.u, hv, HOK.out.fs, HOK.out.few⟩
        have HHK : Hid ((headsL ⟨f0, f1, f2, f3, V, f5, []⟩).getD 4 [] = Hk) := hHk
        clear hHk HOK
        cases hq : (Hk == S) with
        | true =>
          have HEQ : Hid (lineB [wB, Lib.itoa V] = (ln L).1) := by
            have h8 : Hk = S := by simpa using hq
            unfold Hid
            rw [HSE.out, ← h8, ← HHK.out]
            rfl
          have HX : Hid (rp l0 = cont5 ⟨f0, f1, f2, f3, V, f5, []⟩ Rs) := by
            have h9 : nb L wB = some (rn x1) := nb_yes wFr.2.2.2 HTT.out (by rw [HV.out]; exact HEQ.out)
            unfold Hid
            rw [HC.out]
            unfold cont4
            rw [h9, HV.out]
            rw [← HRE.out, rest_of HEQ.out]
          clear HEQ HC HTT
          go_wp2_with (first
            | (go_at_call 24; refine HLN.mono ?_; rintro e t1 ⟨rfl, bl1⟩
               have HB1 : Hid (Below w.heap.size w t1) := below_trans HB.out bl1
               have HQ1 : Hid (t1.heap[w.heap.size + 1]? = some (.cells #[.int .u64 (f0 : Int), .int .i64 f1, .int .i64 f2, .int .i64 f3, .int .i64 f4, .bool f5, .slice none 0 0] 25 (0, 0))) := blk_up HQ.out bl1
               have HR1 : Hid (t1.heap[w.heap.size]? = some (.cells #[.int .u64 0, .int .i64 0, .int .i64 0, .int .i64 0, .int .i64 0, .bool false, .slice none 0 0] 25 (0, 0))) := blk_up HR.out bl1
               clear bl1)
            | (go_at_call 25; refine (HW.out _).mono ?_; rintro e t2 ⟨gw, cw, rfl, _, c1, bl2⟩
               have HBx : Hid (Below w.heap.size w t2) := below_trans HB1.out bl2
               have HRx : Hid (t2.heap[w.heap.size]? = some (.cells #[.int .u64 0, .int .i64 0, .int .i64 0, .int .i64 0, .int .i64 0, .bool false, .slice none 0 0] 25 (0, 0))) := blk_up HR1.out bl2
               have HQx : Hid (t2.heap[w.heap.size + 1]? = some (.cells #[.int .u64 (f0 : Int), .int .i64 f1, .int .i64 f2, .int .i64 f3, .int .i64 f4, .bool f5, .slice none 0 0] 25 (0, 0))) := blk_up HQ1.out bl2
               have HBS : Hid (Below w.heap.size w (t2.setCell ⟨w.heap.size + 1, 4, none⟩ (.int .i64 V))) := HBx.out.grown (set_grown _ _ _ _) HBx.out.size (fun i hi => by cases hi; omega)
               have HQS : Hid ((t2.setCell ⟨w.heap.size + 1, 4, none⟩ (.int .i64 V)).heap[w.heap.size + 1]? = some (.cells #[.int .u64 (f0 : Int), .int .i64 f1, .int .i64 f2, .int .i64 f3, .int .i64 V, .bool f5, .slice none 0 0] 25 (0, 0))) := Joins.block_setCell HQx.out _
               have HRS : Hid ((t2.setCell ⟨w.heap.size + 1, 4, none⟩ (.int .i64 V)).heap[w.heap.size]? = some (.cells #[.int .u64 0, .int .i64 0, .int .i64 0, .int .i64 0, .int .i64 0, .bool false, .slice none 0 0] 25 (0, 0))) := ((set_grown _ _ _ _).block _ (lt_of_blk HRx.out) (fun e => by have := Option.some.inj e; omega)).trans HRx.out
               obtain ⟨q0, q1, q2, q3, q4, q5, q6⟩ := cells7 HQx.out
               have qf := frozen7 HQx.out 4
               clear bl2)
            | (go_at_call 27; refine (HU.out _).mono ?_; rintro e t3 ⟨rfl, h3⟩; rw [h3]; clear h3)
            | (go_at_call 22; refine (heads_any ⟨f0, f1, f2, f3, V, f5, []⟩ none 0 0 _ HOK2.out (p10_below HT.out HBS.out)).mono ?_; rintro e t4 ⟨g4, rfl, hc4, bl4⟩
               have ck : t4.cell? ⟨g4, 4, none⟩ = some (.string ⟨Hk.toArray⟩) := (hc4 4 (by omega)).trans (by rw [HHK.out])
               have HB4 : Hid (Below w.heap.size w t4) := below_trans HBS.out bl4
               have HQ4 : Hid (t4.heap[w.heap.size + 1]? = some (.cells #[.int .u64 (f0 : Int), .int .i64 f1, .int .i64 f2, .int .i64 f3, .int .i64 V, .bool f5, .slice none 0 0] 25 (0, 0))) := blk_up HQS.out bl4
               have HR4 : Hid (t4.heap[w.heap.size]? = some (.cells #[.int .u64 0, .int .i64 0, .int .i64 0, .int .i64 0, .int .i64 0, .bool false, .slice none 0 0] 25 (0, 0))) := blk_up HRS.out bl4
               clear hc4 bl4 q0 q1 q2 q3 q4 q5 q6 qf c1
               skip))
          go_roundw
          case rel => exact ⟨5, ⟨f0, f1, f2, f3, V, f5, []⟩, Rs, by first | rfl | go_num, rfl, by omega, hRl, HX.out, ⟨HOK2.out, rfl⟩, HQ4.out, HR4.out, HB4.out⟩
          case measure => simp [RowKit.intOf]
        | false =>
          have HNE : Hid (lineB [wB, Lib.itoa V] ≠ (ln L).1) := by
            have h8 : Hk ≠ S := by simpa using hq
            unfold Hid
            intro h7
            apply h8
            rw [← HSE.out, ← h7, ← HHK.out]
            rfl
          have HX : Hid (rp l0 = (none, 5)) := by
            have h9 : nb L wB = none := nb_no wFr.2.2.2 HTT.out (by rw [HV.out]; exact HNE.out)
            unfold Hid
            rw [HC.out]
            unfold cont4
            rw [h9]
          clear HNE HC HTT HRE
          go_wp2_with (first
            | (go_at_call 24; refine HLN.mono ?_; rintro e t1 ⟨rfl, bl1⟩
               have HB1 : Hid (Below w.heap.size w t1) := below_trans HB.out bl1
               have HQ1 : Hid (t1.heap[w.heap.size + 1]? = some (.cells #[.int .u64 (f0 : Int), .int .i64 f1, .int .i64 f2, .int .i64 f3, .int .i64 f4, .bool f5, .slice none 0 0] 25 (0, 0))) := blk_up HQ.out bl1
               have HR1 : Hid (t1.heap[w.heap.size]? = some (.cells #[.int .u64 0, .int .i64 0, .int .i64 0, .int .i64 0, .int .i64 0, .bool false, .slice none 0 0] 25 (0, 0))) := blk_up HR.out bl1
               clear bl1)
            | (go_at_call 25; refine (HW.out _).mono ?_; rintro e t2 ⟨gw, cw, rfl, _, c1, bl2⟩
               have HBx : Hid (Below w.heap.size w t2) := below_trans HB1.out bl2
               have HRx : Hid (t2.heap[w.heap.size]? = some (.cells #[.int .u64 0, .int .i64 0, .int .i64 0, .int .i64 0, .int .i64 0, .bool false, .slice none 0 0] 25 (0, 0))) := blk_up HR1.out bl2
               have HQx : Hid (t2.heap[w.heap.size + 1]? = some (.cells #[.int .u64 (f0 : Int), .int .i64 f1, .int .i64 f2, .int .i64 f3, .int .i64 f4, .bool f5, .slice none 0 0] 25 (0, 0))) := blk_up HQ1.out bl2
               have HBS : Hid (Below w.heap.size w (t2.setCell ⟨w.heap.size + 1, 4, none⟩ (.int .i64 V))) := HBx.out.grown (set_grown _ _ _ _) HBx.out.size (fun i hi => by cases hi; omega)
               have HQS : Hid ((t2.setCell ⟨w.heap.size + 1, 4, none⟩ (.int .i64 V)).heap[w.heap.size + 1]? = some (.cells #[.int .u64 (f0 : Int), .int .i64 f1, .int .i64 f2, .int .i64 f3, .int .i64 V, .bool f5, .slice none 0 0] 25 (0, 0))) := Joins.block_setCell HQx.out _
               have HRS : Hid ((t2.setCell ⟨w.heap.size + 1, 4, none⟩ (.int .i64 V)).heap[w.heap.size]? = some (.cells #[.int .u64 0, .int .i64 0, .int .i64 0, .int .i64 0, .int .i64 0, .bool false, .slice none 0 0] 25 (0, 0))) := ((set_grown _ _ _ _).block _ (lt_of_blk HRx.out) (fun e => by have := Option.some.inj e; omega)).trans HRx.out
               obtain ⟨q0, q1, q2, q3, q4, q5, q6⟩ := cells7 HQx.out
               have qf := frozen7 HQx.out 4
               clear bl2)
            | (go_at_call 27; refine (HU.out _).mono ?_; rintro e t3 ⟨rfl, h3⟩; rw [h3]; clear h3)
            | (go_at_call 22; refine (heads_any ⟨f0, f1, f2, f3, V, f5, []⟩ none 0 0 _ HOK2.out (p10_below HT.out HBS.out)).mono ?_; rintro e t4 ⟨g4, rfl, hc4, bl4⟩
               have ck : t4.cell? ⟨g4, 4, none⟩ = some (.string ⟨Hk.toArray⟩) := (hc4 4 (by omega)).trans (by rw [HHK.out])
               have HB4 : Hid (Below w.heap.size w t4) := below_trans HBS.out bl4
               have HQ4 : Hid (t4.heap[w.heap.size + 1]? = some (.cells #[.int .u64 (f0 : Int), .int .i64 f1, .int .i64 f2, .int .i64 f3, .int .i64 V, .bool f5, .slice none 0 0] 25 (0, 0))) := blk_up HQS.out bl4
               have HR4 : Hid (t4.heap[w.heap.size]? = some (.cells #[.int .u64 0, .int .i64 0, .int .i64 0, .int .i64 0, .int .i64 0, .bool false, .slice none 0 0] 25 (0, 0))) := blk_up HRS.out bl4
               clear hc4 bl4 q0 q1 q2 q3 q4 q5 q6 qf c1
               obtain ⟨z0, z1, z2, z3, z4, z5, z6⟩ := cells7 HR4.out
               have rf0 := frozen7 HR4.out 0
               have rf1 := frozen7 HR4.out 1
               have rf2 := frozen7 HR4.out 2
               have rf3 := frozen7 HR4.out 3
               have rf4 := frozen7 HR4.out 4
               have rf5 := frozen7 HR4.out 5
               have rf6 := frozen7 HR4.out 6
            ))
          refine bodyPost_ret (v := .tuple #[.agg #[.int .u64 0, .int .i64 0, .int .i64 0, .int .i64 0, .int .i64 0, .bool false, .slice none 0 0], .int .i64 200, .int .i64 5]) (by obtain ⟨z0, z1, z2, z3, z4, z5, z6⟩ := cells7 (blk7_set HR4.out (.int .u64 0) (.int .i64 0) (.int .i64 0) (.int .i64 0) (.int .i64 0) (.bool false) (.slice none 0 0)); simp [results, Tryd.results9, go_sem, z0, z1, z2, z3, z4, z5, z6]) rfl ⟨?_, ?_⟩
          · rw [HX.out]; rfl
          · exact HB4.out.grown (grown7 _ _ _ _ _ _ _ _ _) HB4.out.size (fun i hi => by cases hi; exact Nat.le_refl _)

      · have HX : Hid (rp l0 = (none, 5)) := by unfold Hid; rw [HC.out]; unfold cont4; rw [nb_short h2]
        obtain ⟨m, hm⟩ : ∃ m, (thL L).length = m := ⟨_, rfl⟩
        have hm2 : ((m : Int) == 2) = false := by rw [beq_eq_false_iff_ne]; omega
        have HW : Hid (∀ y, Calls Tryd.prog 25 #[.string ⟨S.toArray⟩] y fun e w' => ∃ a c, e = .returned (.slice a m c) ∧ Below y.heap.size y w') := fun y => words_len S m (by rw [HTS.out]; exact hm) y hSl
        clear h2 hm HTS HSE HRE HC HOK
        go_wp2_with (first
          | (go_at_call 24; refine HLN.mono ?_; rintro e t1 ⟨rfl, bl1⟩
             have HB1 : Hid (Below w.heap.size w t1) := below_trans HB.out bl1
             have HQ1 : Hid (t1.heap[w.heap.size + 1]? = some (.cells #[.int .u64 (f0 : Int), .int .i64 f1, .int .i64 f2, .int .i64 f3, .int .i64 f4, .bool f5, .slice none 0 0] 25 (0, 0))) := blk_up HQ.out bl1
             have HR1 : Hid (t1.heap[w.heap.size]? = some (.cells #[.int .u64 0, .int .i64 0, .int .i64 0, .int .i64 0, .int .i64 0, .bool false, .slice none 0 0] 25 (0, 0))) := blk_up HR.out bl1
             clear bl1)
          | (go_at_call 25; refine (HW.out _).mono ?_; rintro e t2 ⟨aw, cw, rfl, bl2⟩
             have HBx : Hid (Below w.heap.size w t2) := below_trans HB1.out bl2
             have HRx : Hid (t2.heap[w.heap.size]? = some (.cells #[.int .u64 0, .int .i64 0, .int .i64 0, .int .i64 0, .int .i64 0, .bool false, .slice none 0 0] 25 (0, 0))) := blk_up HR1.out bl2
             obtain ⟨z0, z1, z2, z3, z4, z5, z6⟩ := cells7 HRx.out
             have rf0 := frozen7 HRx.out 0
             have rf1 := frozen7 HRx.out 1
             have rf2 := frozen7 HRx.out 2
             have rf3 := frozen7 HRx.out 3
             have rf4 := frozen7 HRx.out 4
             have rf5 := frozen7 HRx.out 5
             have rf6 := frozen7 HRx.out 6
             clear bl2))
        refine bodyPost_ret (v := .tuple #[.agg #[.int .u64 0, .int .i64 0, .int .i64 0, .int .i64 0, .int .i64 0, .bool false, .slice none 0 0], .int .i64 200, .int .i64 5]) (by obtain ⟨z0, z1, z2, z3, z4, z5, z6⟩ := cells7 (blk7_set HRx.out (.int .u64 0) (.int .i64 0) (.int .i64 0) (.int .i64 0) (.int .i64 0) (.bool false) (.slice none 0 0)); simp [results, Tryd.results9, go_sem, z0, z1, z2, z3, z4, z5, z6]) rfl ⟨?_, ?_⟩
        · rw [HX.out]; rfl
        · exact HBx.out.grown (grown7 _ _ _ _ _ _ _ _ _) HBx.out.size (fun i hi => by cases hi; exact Nat.le_refl _)

    · have HC : Hid (rp l0 = cont5 ⟨f0, f1, f2, f3, f4, f5, []⟩ L) := HC0.out
      clear HC0
      obtain ⟨S, hS⟩ : ∃ S, (ln L).1 = S := ⟨_, rfl⟩
      obtain ⟨Rs, hRs⟩ : ∃ Rs, (ln L).2 = Rs := ⟨_, rfl⟩
      have HLN := rline_any L wr (by omega)
      rw [hS, hRs] at HLN
      have hSl : S.length < 4294967281 := by rw [← hS]; have := (ln_len L).1; omega
      have hRl : Rs.length ≤ l0.length := by rw [← hRs]; have := (ln_len L).2; omega
      have HSE : Hid ((ln L).1 = S) := hS
      have HRE : Hid ((ln L).2 = Rs) := hRs
      have HTS : Hid (thL S = thL L) := by unfold Hid; rw [← hS]; exact ln_th L
      clear hS hRs
      by_cases h2 : (thL L).length = 2
      · obtain ⟨x0, x1, hT⟩ : ∃ x0 x1, thL L = [x0, x1] := ⟨_, _, list2 h2⟩
        have hx1 : x1.length < 4294967281 := by have := word_len (L := L) (x := x1) (by rw [hT]; simp); omega
        have HW : Hid (∀ y, Calls Tryd.prog 25 #[.string ⟨S.toArray⟩] y fun e w' => ∃ g c, e = .returned (.slice (some ⟨g, 0, none⟩) 2 c) ∧ w'.cell? ⟨g, 0, none⟩ = some (.string ⟨x0.toArray⟩) ∧ w'.cell? ⟨g, 1, none⟩ = some (.string ⟨x1.toArray⟩) ∧ Below y.heap.size y w') := fun y => words_two S x0 x1 (HTS.out.trans hT) y hSl
        have HTT : Hid (thL L = [x0, x1]) := hT
        clear hT h2 HTS
        obtain ⟨V, hV⟩ : ∃ V, (x1 == [121, 101, 115]) = V := ⟨_, rfl⟩
        have HV : Hid ((x1 == [121, 101, 115]) = V) := hV
        obtain ⟨Hk, hHk⟩ : ∃ Hk, (headsL ⟨f0, f1, f2, f3, f4, V, []⟩).getD 5 [] = Hk := ⟨_, rfl⟩
        have HOK2 : Hid (Rp.Ok ⟨f0, f1, f2, f3, f4, V, []⟩) := ⟨HOK.out.fl, HOK.out.c, HOK.out.l, HOK.out.u, HOK.out.b, HOK.out.fs, HOK.out.few⟩
        have HHK : Hid ((headsL ⟨f0, f1, f2, f3, f4, V, []⟩).getD 5 [] = Hk) := hHk
        clear hHk HOK
        cases hq : (Hk == S) with
        | true =>
          have HEQ : Hid (lineB [[115, 97, 118, 101, 100], savedB V] = (ln L).1) := by
            have h8 : Hk = S := by simpa using hq
            unfold Hid
            rw [HSE.out, ← h8, ← HHK.out]
            rfl
          have HX : Hid (rp l0 = cont6 ⟨f0, f1, f2, f3, f4, V, []⟩ Rs) := by
            have h9 : sv L = some V := sv_yes HTT.out HV.out HEQ.out
            unfold Hid
            rw [HC.out]
            unfold cont5
            rw [h9]
            rw [← HRE.out, rest_of HEQ.out]
          clear HEQ HC HTT
          go_wp2_with (first
            | (go_at_call 24; refine HLN.mono ?_; rintro e t1 ⟨rfl, bl1⟩
               have HB1 : Hid (Below w.heap.size w t1) := below_trans HB.out bl1
               have HQ1 : Hid (t1.heap[w.heap.size + 1]? = some (.cells #[.int .u64 (f0 : Int), .int .i64 f1, .int .i64 f2, .int .i64 f3, .int .i64 f4, .bool f5, .slice none 0 0] 25 (0, 0))) := blk_up HQ.out bl1
               have HR1 : Hid (t1.heap[w.heap.size]? = some (.cells #[.int .u64 0, .int .i64 0, .int .i64 0, .int .i64 0, .int .i64 0, .bool false, .slice none 0 0] 25 (0, 0))) := blk_up HR.out bl1
               clear bl1)
            | (go_at_call 25; refine (HW.out _).mono ?_; rintro e t2 ⟨gw, cw, rfl, _, c1, bl2⟩
               have HBx : Hid (Below w.heap.size w t2) := below_trans HB1.out bl2
               have HRx : Hid (t2.heap[w.heap.size]? = some (.cells #[.int .u64 0, .int .i64 0, .int .i64 0, .int .i64 0, .int .i64 0, .bool false, .slice none 0 0] 25 (0, 0))) := blk_up HR1.out bl2
               have HQx : Hid (t2.heap[w.heap.size + 1]? = some (.cells #[.int .u64 (f0 : Int), .int .i64 f1, .int .i64 f2, .int .i64 f3, .int .i64 f4, .bool f5, .slice none 0 0] 25 (0, 0))) := blk_up HQ1.out bl2
               have HBS : Hid (Below w.heap.size w (t2.setCell ⟨w.heap.size + 1, 5, none⟩ (.bool V))) := HBx.out.grown (set_grown _ _ _ _) HBx.out.size (fun i hi => by cases hi; omega)
               have HQS : Hid ((t2.setCell ⟨w.heap.size + 1, 5, none⟩ (.bool V)).heap[w.heap.size + 1]? = some (.cells #[.int .u64 (f0 : Int), .int .i64 f1, .int .i64 f2, .int .i64 f3, .int .i64 f4, .bool V, .slice none 0 0] 25 (0, 0))) := Joins.block_setCell HQx.out _
               have HRS : Hid ((t2.setCell ⟨w.heap.size + 1, 5, none⟩ (.bool V)).heap[w.heap.size]? = some (.cells #[.int .u64 0, .int .i64 0, .int .i64 0, .int .i64 0, .int .i64 0, .bool false, .slice none 0 0] 25 (0, 0))) := ((set_grown _ _ _ _).block _ (lt_of_blk HRx.out) (fun e => by have := Option.some.inj e; omega)).trans HRx.out
               obtain ⟨q0, q1, q2, q3, q4, q5, q6⟩ := cells7 HQx.out
               have qf := frozen7 HQx.out 5
               clear bl2)

            | (go_at_call 22; refine (heads_any ⟨f0, f1, f2, f3, f4, V, []⟩ none 0 0 _ HOK2.out (p10_below HT.out HBS.out)).mono ?_; rintro e t4 ⟨g4, rfl, hc4, bl4⟩
               have ck : t4.cell? ⟨g4, 5, none⟩ = some (.string ⟨Hk.toArray⟩) := (hc4 5 (by omega)).trans (by rw [HHK.out])
               have HB4 : Hid (Below w.heap.size w t4) := below_trans HBS.out bl4
               have HQ4 : Hid (t4.heap[w.heap.size + 1]? = some (.cells #[.int .u64 (f0 : Int), .int .i64 f1, .int .i64 f2, .int .i64 f3, .int .i64 f4, .bool V, .slice none 0 0] 25 (0, 0))) := blk_up HQS.out bl4
               have HR4 : Hid (t4.heap[w.heap.size]? = some (.cells #[.int .u64 0, .int .i64 0, .int .i64 0, .int .i64 0, .int .i64 0, .bool false, .slice none 0 0] 25 (0, 0))) := blk_up HRS.out bl4
               clear hc4 bl4 q0 q1 q2 q3 q4 q5 q6 qf c1
               skip))
          go_roundw
          case rel => exact ⟨6, ⟨f0, f1, f2, f3, f4, V, []⟩, Rs, by first | rfl | go_num, rfl, by omega, hRl, HX.out, ⟨HOK2.out, rfl⟩, HQ4.out, HR4.out, HB4.out⟩
          case measure => simp [RowKit.intOf]
        | false =>
          have HNE : Hid (lineB [[115, 97, 118, 101, 100], savedB V] ≠ (ln L).1) := by
            have h8 : Hk ≠ S := by simpa using hq
            unfold Hid
            intro h7
            apply h8
            rw [← HSE.out, ← h7, ← HHK.out]
            rfl
          have HX : Hid (rp l0 = (none, 6)) := by
            have h9 : sv L = none := sv_no HTT.out HV.out HNE.out
            unfold Hid
            rw [HC.out]
            unfold cont5
            rw [h9]
          clear HNE HC HTT HRE
          go_wp2_with (first
            | (go_at_call 24; refine HLN.mono ?_; rintro e t1 ⟨rfl, bl1⟩
               have HB1 : Hid (Below w.heap.size w t1) := below_trans HB.out bl1
               have HQ1 : Hid (t1.heap[w.heap.size + 1]? = some (.cells #[.int .u64 (f0 : Int), .int .i64 f1, .int .i64 f2, .int .i64 f3, .int .i64 f4, .bool f5, .slice none 0 0] 25 (0, 0))) := blk_up HQ.out bl1
               have HR1 : Hid (t1.heap[w.heap.size]? = some (.cells #[.int .u64 0, .int .i64 0, .int .i64 0, .int .i64 0, .int .i64 0, .bool false, .slice none 0 0] 25 (0, 0))) := blk_up HR.out bl1
               clear bl1)
            | (go_at_call 25; refine (HW.out _).mono ?_; rintro e t2 ⟨gw, cw, rfl, _, c1, bl2⟩
               have HBx : Hid (Below w.heap.size w t2) := below_trans HB1.out bl2
               have HRx : Hid (t2.heap[w.heap.size]? = some (.cells #[.int .u64 0, .int .i64 0, .int .i64 0, .int .i64 0, .int .i64 0, .bool false, .slice none 0 0] 25 (0, 0))) := blk_up HR1.out bl2
               have HQx : Hid (t2.heap[w.heap.size + 1]? = some (.cells #[.int .u64 (f0 : Int), .int .i64 f1, .int .i64 f2, .int .i64 f3, .int .i64 f4, .bool f5, .slice none 0 0] 25 (0, 0))) := blk_up HQ1.out bl2
               have HBS : Hid (Below w.heap.size w (t2.setCell ⟨w.heap.size + 1, 5, none⟩ (.bool V))) := HBx.out.grown (set_grown _ _ _ _) HBx.out.size (fun i hi => by cases hi; omega)
               have HQS : Hid ((t2.setCell ⟨w.heap.size + 1, 5, none⟩ (.bool V)).heap[w.heap.size + 1]? = some (.cells #[.int .u64 (f0 : Int), .int .i64 f1, .int .i64 f2, .int .i64 f3, .int .i64 f4, .bool V, .slice none 0 0] 25 (0, 0))) := Joins.block_setCell HQx.out _
               have HRS : Hid ((t2.setCell ⟨w.heap.size + 1, 5, none⟩ (.bool V)).heap[w.heap.size]? = some (.cells #[.int .u64 0, .int .i64 0, .int .i64 0, .int .i64 0, .int .i64 0, .bool false, .slice none 0 0] 25 (0, 0))) := ((set_grown _ _ _ _).block _ (lt_of_blk HRx.out) (fun e => by have := Option.some.inj e; omega)).trans HRx.out
               obtain ⟨q0, q1, q2, q3, q4, q5, q6⟩ := cells7 HQx.out
               have qf := frozen7 HQx.out 5
               clear bl2)

            | (go_at_call 22; refine (heads_any ⟨f0, f1, f2, f3, f4, V, []⟩ none 0 0 _ HOK2.out (p10_below HT.out HBS.out)).mono ?_; rintro e t4 ⟨g4, rfl, hc4, bl4⟩
               have ck : t4.cell? ⟨g4, 5, none⟩ = some (.string ⟨Hk.toArray⟩) := (hc4 5 (by omega)).trans (by rw [HHK.out])
               have HB4 : Hid (Below w.heap.size w t4) := below_trans HBS.out bl4
               have HQ4 : Hid (t4.heap[w.heap.size + 1]? = some (.cells #[.int .u64 (f0 : Int), .int .i64 f1, .int .i64 f2, .int .i64 f3, .int .i64 f4, .bool V, .slice none 0 0] 25 (0, 0))) := blk_up HQS.out bl4
               have HR4 : Hid (t4.heap[w.heap.size]? = some (.cells #[.int .u64 0, .int .i64 0, .int .i64 0, .int .i64 0, .int .i64 0, .bool false, .slice none 0 0] 25 (0, 0))) := blk_up HRS.out bl4
               clear hc4 bl4 q0 q1 q2 q3 q4 q5 q6 qf c1
               obtain ⟨z0, z1, z2, z3, z4, z5, z6⟩ := cells7 HR4.out
               have rf0 := frozen7 HR4.out 0
               have rf1 := frozen7 HR4.out 1
               have rf2 := frozen7 HR4.out 2
               have rf3 := frozen7 HR4.out 3
               have rf4 := frozen7 HR4.out 4
               have rf5 := frozen7 HR4.out 5
               have rf6 := frozen7 HR4.out 6
            ))
          refine bodyPost_ret (v := .tuple #[.agg #[.int .u64 0, .int .i64 0, .int .i64 0, .int .i64 0, .int .i64 0, .bool false, .slice none 0 0], .int .i64 200, .int .i64 6]) (by obtain ⟨z0, z1, z2, z3, z4, z5, z6⟩ := cells7 (blk7_set HR4.out (.int .u64 0) (.int .i64 0) (.int .i64 0) (.int .i64 0) (.int .i64 0) (.bool false) (.slice none 0 0)); simp [results, Tryd.results9, go_sem, z0, z1, z2, z3, z4, z5, z6]) rfl ⟨?_, ?_⟩
          · rw [HX.out]; rfl
          · exact HB4.out.grown (grown7 _ _ _ _ _ _ _ _ _) HB4.out.size (fun i hi => by cases hi; exact Nat.le_refl _)

      · have HX : Hid (rp l0 = (none, 6)) := by unfold Hid; rw [HC.out]; unfold cont5; rw [sv_short h2]
        obtain ⟨m, hm⟩ : ∃ m, (thL L).length = m := ⟨_, rfl⟩
        have hm2 : ((m : Int) == 2) = false := by rw [beq_eq_false_iff_ne]; omega
        have HW : Hid (∀ y, Calls Tryd.prog 25 #[.string ⟨S.toArray⟩] y fun e w' => ∃ a c, e = .returned (.slice a m c) ∧ Below y.heap.size y w') := fun y => words_len S m (by rw [HTS.out]; exact hm) y hSl
        clear h2 hm HTS HSE HRE HC HOK
        go_wp2_with (first
          | (go_at_call 24; refine HLN.mono ?_; rintro e t1 ⟨rfl, bl1⟩
             have HB1 : Hid (Below w.heap.size w t1) := below_trans HB.out bl1
             have HQ1 : Hid (t1.heap[w.heap.size + 1]? = some (.cells #[.int .u64 (f0 : Int), .int .i64 f1, .int .i64 f2, .int .i64 f3, .int .i64 f4, .bool f5, .slice none 0 0] 25 (0, 0))) := blk_up HQ.out bl1
             have HR1 : Hid (t1.heap[w.heap.size]? = some (.cells #[.int .u64 0, .int .i64 0, .int .i64 0, .int .i64 0, .int .i64 0, .bool false, .slice none 0 0] 25 (0, 0))) := blk_up HR.out bl1
             clear bl1)
          | (go_at_call 25; refine (HW.out _).mono ?_; rintro e t2 ⟨aw, cw, rfl, bl2⟩
             have HBx : Hid (Below w.heap.size w t2) := below_trans HB1.out bl2
             have HRx : Hid (t2.heap[w.heap.size]? = some (.cells #[.int .u64 0, .int .i64 0, .int .i64 0, .int .i64 0, .int .i64 0, .bool false, .slice none 0 0] 25 (0, 0))) := blk_up HR1.out bl2
             obtain ⟨z0, z1, z2, z3, z4, z5, z6⟩ := cells7 HRx.out
             have rf0 := frozen7 HRx.out 0
             have rf1 := frozen7 HRx.out 1
             have rf2 := frozen7 HRx.out 2
             have rf3 := frozen7 HRx.out 3
             have rf4 := frozen7 HRx.out 4
             have rf5 := frozen7 HRx.out 5
             have rf6 := frozen7 HRx.out 6
             clear bl2))
        refine bodyPost_ret (v := .tuple #[.agg #[.int .u64 0, .int .i64 0, .int .i64 0, .int .i64 0, .int .i64 0, .bool false, .slice none 0 0], .int .i64 200, .int .i64 6]) (by obtain ⟨z0, z1, z2, z3, z4, z5, z6⟩ := cells7 (blk7_set HRx.out (.int .u64 0) (.int .i64 0) (.int .i64 0) (.int .i64 0) (.int .i64 0) (.bool false) (.slice none 0 0)); simp [results, Tryd.results9, go_sem, z0, z1, z2, z3, z4, z5, z6]) rfl ⟨?_, ?_⟩
        · rw [HX.out]; rfl
        · exact HBx.out.grown (grown7 _ _ _ _ _ _ _ _ _) HBx.out.size (fun i hi => by cases hi; exact Nat.le_refl _)

    · have HC : Hid (rp l0 = cont6 ⟨f0, f1, f2, f3, f4, f5, []⟩ L) := HC0.out
      obtain ⟨B1, hB1⟩ : ∃ B1, B1 = wr.heap.size := ⟨_, rfl⟩
      have hQB : w.heap.size + 2 ≤ B1 := by rw [hB1]; exact lt_of_blk HQ.out
      have HLS : Hid (LoopF L 0 [] L true) := loop_start L
      have HOW : Hid (wr.ownsRow B1 29 4 (.slice none 0 0) 0 (flatF [])) := World.ownsRow_nil _ _ _ _
      have hBw : B1 ≤ wr.heap.size := by omega
      clear HC0 hB1
      go_wp2_with fail
      go_loopw [0, 12] (fun s0 s12 wq => ∃ (j : Nat) (gs : List Fd) (L2 : List UInt8) (v : Value), s12 = .int .i64 (7 + (j : Int)) ∧ s0 = .string ⟨L2.toArray⟩ ∧ j + L2.length ≤ l0.length ∧ Hid (LoopF L j gs L2 true) ∧ Hid (wq.ownsRow B1 29 4 v j (flatF gs)) ∧ Hid (wq.heap[w.heap.size + 1]? = some (.cells #[.int .u64 (f0 : Int), .int .i64 f1, .int .i64 f2, .int .i64 f3, .int .i64 f4, .bool f5, v] 25 (0, 0))) ∧ Hid (wq.heap[w.heap.size]? = some (.cells #[.int .u64 0, .int .i64 0, .int .i64 0, .int .i64 0, .int .i64 0, .bool false, .slice none 0 0] 25 (0, 0))) ∧ Hid (Below w.heap.size w wq) ∧ B1 ≤ wq.heap.size) (fun s0 _ _ => slen s0)
      case atStart => exact ⟨0, [], L, _, by simp, rfl, by omega, HLS.out, HOW.out, HQ.out, HR.out, HB.out, hBw⟩
      case round =>
        clear HQ HR HB HOW HLS hBw
        obtain ⟨j, gs, L2, v, rfl, rfl, hjl, HL, HO, HQ, HR, HB, hBw⟩ := hrel
        obtain ⟨a, cv, rfl⟩ := own_formF HO.out
        by_cases hL : L2 = []
        · have HX : Hid (rp l0 = (some ⟨f0, f1, f2, f3, f4, f5, gs⟩, 6 + j)) := by
            have h9 := HL.out
            rw [hL] at h9
            have h8 : rowsE L = _ := h9
            unfold Hid
            rw [HC.out]
            unfold cont6
            rw [h8, rows_nil]
            simp
          subst hL
          clear HC HL
          obtain ⟨a9, c9, h9, hrd⟩ := ownF_reads HO.out
          have hax : ∀ x, a = some x → x.block ≠ w.heap.size := fun x hx => by
            have := (HO.out.lt x.block (by rw [hx]; rfl)).1
            omega
          cases h9
          have HRD : Hid (ReadsF wr a j gs) := hrd
          clear hrd HO
          obtain ⟨q0, q1, q2, q3, q4, q5, q6⟩ := cells7 HQ.out
          obtain ⟨z0, z1, z2, z3, z4, z5, z6⟩ := cells7 HR.out
          have rf0 := frozen7 HR.out 0
          have rf1 := frozen7 HR.out 1
          have rf2 := frozen7 HR.out 2
          have rf3 := frozen7 HR.out 3
          have rf4 := frozen7 HR.out 4
          have rf5 := frozen7 HR.out 5
          have rf6 := frozen7 HR.out 6
          go_wp2_with fail
          refine bodyPost_ret (v := .tuple #[.agg #[.int .u64 (f0 : Int), .int .i64 f1, .int .i64 f2, .int .i64 f3, .int .i64 f4, .bool f5, .slice a j cv], .int .i64 0, .int .i64 0]) (by obtain ⟨y0, y1, y2, y3, y4, y5, y6⟩ := cells7 (blk7_set HR.out (.int .u64 (f0 : Int)) (.int .i64 f1) (.int .i64 f2) (.int .i64 f3) (.int .i64 f4) (.bool f5) (.slice a j cv)); simp [results, Tryd.results9, go_sem, y0, y1, y2, y3, y4, y5, y6]) rfl ⟨?_, ?_⟩
          · rw [HX.out]
            exact ⟨a, j, cv, rfl, readsF_grown HRD.out (grown7 _ _ _ _ _ _ _ _ _) hax⟩
          · exact HB.out.grown (grown7 _ _ _ _ _ _ _ _ _) HB.out.size (fun i hi => by cases hi; exact Nat.le_refl _)

        · have hle := emp_ne hL
          obtain ⟨S, hS⟩ : ∃ S, (ln L2).1 = S := ⟨_, rfl⟩
          obtain ⟨Rs, hRs⟩ : ∃ Rs, (ln L2).2 = Rs := ⟨_, rfl⟩
          have HLN := rline_any L2 wr (by omega)
          rw [hS, hRs] at HLN
          have hSl : S.length < 4294967281 := by rw [← hS]; have := (ln_len L2).1; omega
          have HSE : Hid ((ln L2).1 = S) := hS
          have HRE : Hid ((ln L2).2 = Rs) := hRs
          have HTS : Hid (thL S = thL L2) := by unfold Hid; rw [← hS]; exact ln_th L2
          have HNL : Hid (L2 ≠ []) := hL
          clear hS hRs hL
          by_cases h4 : (thL L2).length = 4
          · obtain ⟨x0, x1, x2, x3, hT⟩ : ∃ x0 x1 x2 x3, thL L2 = [x0, x1, x2, x3] := ⟨_, _, _, _, list4 h4⟩
            have hx0 : x0.length < 4294967281 := by have := word_len (L := L2) (x := x0) (by rw [hT]; simp); omega
            have hx1 : x1.length < 4294967281 := by have := word_len (L := L2) (x := x1) (by rw [hT]; simp); omega
            have hx2 : x2.length < 4294967281 := by have := word_len (L := L2) (x := x2) (by rw [hT]; simp); omega
            have hx3 : x3.length < 4294967281 := by have := word_len (L := L2) (x := x3) (by rw [hT]; simp); omega
            have HW : Hid (∀ y, Calls Tryd.prog 25 #[.string ⟨S.toArray⟩] y fun e w' => ∃ g c, e = .returned (.slice (some ⟨g, 0, none⟩) 4 c) ∧ w'.cell? ⟨g, 0, none⟩ = some (.string ⟨x0.toArray⟩) ∧ w'.cell? ⟨g, 1, none⟩ = some (.string ⟨x1.toArray⟩) ∧ w'.cell? ⟨g, 2, none⟩ = some (.string ⟨x2.toArray⟩) ∧ w'.cell? ⟨g, 3, none⟩ = some (.string ⟨x3.toArray⟩) ∧ y.heap.size ≤ g ∧ Below y.heap.size y w') := fun y => words_four S x0 x1 x2 x3 (HTS.out.trans hT) y hSl
            obtain ⟨K0, hK0⟩ : ∃ K, rk x0 = K := ⟨_, rfl⟩
            obtain ⟨K1, hK1⟩ : ∃ K, rn x1 = K := ⟨_, rfl⟩
            obtain ⟨K2, hK2⟩ : ∃ K, rn x2 = K := ⟨_, rfl⟩
            obtain ⟨K3, hK3⟩ : ∃ K, rn x3 = K := ⟨_, rfl⟩
            have hrf : rf L2 = ⟨K0, K1, K2, K3⟩ := by unfold rf; rw [hT, ← hK0, ← hK1, ← hK2, ← hK3]; rfl
            have HFO : Hid (Fd.Ok ⟨K0, K1, K2, K3⟩) := by unfold Hid; rw [← hrf]; exact rf_ok L2
            have HU0 : Hid (∀ y, Calls Tryd.prog 28 #[.string ⟨x0.toArray⟩] y fun e w' => e = .returned (.int .i64 K0) ∧ Below y.heap.size y w') := fun y => (rkind_any x0 y hx0).mono (by rintro e w' ⟨rfl, h⟩; rw [hK0]; exact ⟨rfl, h⟩)
            have HU1 : Hid (∀ y, Calls Tryd.prog 27 #[.string ⟨x1.toArray⟩] y fun e w' => e = .returned (.int .i64 K1) ∧ w' = y) := fun y => (rnum_any x1 y hx1).mono (by rintro e w' ⟨rfl, h⟩; rw [hK1]; exact ⟨rfl, h⟩)
            have HU2 : Hid (∀ y, Calls Tryd.prog 27 #[.string ⟨x2.toArray⟩] y fun e w' => e = .returned (.int .i64 K2) ∧ w' = y) := fun y => (rnum_any x2 y hx2).mono (by rintro e w' ⟨rfl, h⟩; rw [hK2]; exact ⟨rfl, h⟩)
            have HU3 : Hid (∀ y, Calls Tryd.prog 27 #[.string ⟨x3.toArray⟩] y fun e w' => e = .returned (.int .i64 K3) ∧ w' = y) := fun y => (rnum_any x3 y hx3).mono (by rintro e w' ⟨rfl, h⟩; rw [hK3]; exact ⟨rfl, h⟩)
            obtain ⟨Hk, hHk⟩ : ∃ Hk, rowB ⟨K0, K1, K2, K3⟩ = Hk := ⟨_, rfl⟩
            have HRW : Hid (∀ y, P10 y → Calls Tryd.prog 23 #[.agg #[.int .i64 K0, .int .i64 K1, .int .i64 K2, .int .i64 K3]] y fun e w' => e = .returned (.string ⟨Hk.toArray⟩) ∧ Below y.heap.size y w') := fun y hy => (row_any ⟨K0, K1, K2, K3⟩ HFO.out y hy).mono (by rintro e w' ⟨rfl, h⟩; rw [hHk]; exact ⟨rfl, h⟩)
            have HRF : Hid (rf L2 = ⟨K0, K1, K2, K3⟩) := hrf
            have HHK : Hid (rowB ⟨K0, K1, K2, K3⟩ = Hk) := hHk
            clear hT hK0 hK1 hK2 hK3 hrf hHk h4 HTS hx0 hx1 hx2 hx3
            cases hq : (Hk == S) with
            | true =>
              have HEQ : Hid (rowB ⟨K0, K1, K2, K3⟩ = (ln L2).1) := by
                have h8 : Hk = S := by simpa using hq
                unfold Hid
                rw [HSE.out, ← h8, HHK.out]
              have HX : Hid (LoopF L (j + 1) (gs ++ [⟨K0, K1, K2, K3⟩]) Rs true) := by
                have h9 : fdOf L2 = some ⟨K0, K1, K2, K3⟩ := by rw [fd_ln, HRF.out, if_pos HEQ.out.symm]
                have h8 := loop_next HL.out HNL.out ⟨K0, K1, K2, K3⟩ (fun f hf => by rw [h9] at hf; exact Option.some.inj hf)
                rw [h9] at h8
                rw [← rest_row HEQ.out, HRE.out] at h8
                exact h8
              have hRl : j + 1 + Rs.length ≤ l0.length ∧ Rs.length < L2.length := by
                rw [← HRE.out, rest_row HEQ.out]
                have := nx_lt HNL.out
                omega
              have HRL : Hid (j + 1 + Rs.length ≤ l0.length ∧ Rs.length < L2.length) := hRl
              clear HEQ HL HSE HRE HRF HHK hRl
              go_upto_region 35 with (first
                | (go_at_call 24; refine HLN.mono ?_; rintro e t1 ⟨rfl, bl1⟩
                   have HB1 : Hid (Below w.heap.size w t1) := below_trans HB.out bl1
                   have HQ1 : Hid (t1.heap[w.heap.size + 1]? = some (.cells #[.int .u64 (f0 : Int), .int .i64 f1, .int .i64 f2, .int .i64 f3, .int .i64 f4, .bool f5, .slice a j cv] 25 (0, 0))) := blk_up HQ.out bl1
                   have HR1 : Hid (t1.heap[w.heap.size]? = some (.cells #[.int .u64 0, .int .i64 0, .int .i64 0, .int .i64 0, .int .i64 0, .bool false, .slice none 0 0] 25 (0, 0))) := blk_up HR.out bl1
                   have HO1 : Hid (t1.ownsRow B1 29 4 (.slice a j cv) j (flatF gs)) := ownF_below HO.out bl1
                   have hS1 : B1 ≤ t1.heap.size := Nat.le_trans hBw bl1.size
                   clear bl1)
                | (go_at_call 25; refine (HW.out _).mono ?_; rintro e t2 ⟨gw, cw, rfl, c0, c1, c2, c3, hgw9, bl2⟩
                   have HB2 : Hid (Below w.heap.size w t2) := below_trans HB1.out bl2
                   have HQ2 : Hid (t2.heap[w.heap.size + 1]? = some (.cells #[.int .u64 (f0 : Int), .int .i64 f1, .int .i64 f2, .int .i64 f3, .int .i64 f4, .bool f5, .slice a j cv] 25 (0, 0))) := blk_up HQ1.out bl2
                   have HR2 : Hid (t2.heap[w.heap.size]? = some (.cells #[.int .u64 0, .int .i64 0, .int .i64 0, .int .i64 0, .int .i64 0, .bool false, .slice none 0 0] 25 (0, 0))) := blk_up HR1.out bl2
                   have HO2 : Hid (t2.ownsRow B1 29 4 (.slice a j cv) j (flatF gs)) := ownF_below HO1.out bl2
                   have hS2 : B1 ≤ t2.heap.size := Nat.le_trans hS1 bl2.size
                   clear bl2))
              clear HQ1 HR1 HB1 HO1 hS1 HQ HR HB HO hBw HLN HW hSl hgw9
              refine wp_region_held_drew (S := (fun y : World => y.cell? ⟨gw, 0, none⟩ = some (.string ⟨x0.toArray⟩) ∧ y.cell? ⟨gw, 1, none⟩ = some (.string ⟨x1.toArray⟩) ∧ y.cell? ⟨gw, 2, none⟩ = some (.string ⟨x2.toArray⟩) ∧ y.cell? ⟨gw, 3, none⟩ = some (.string ⟨x3.toArray⟩))) (by kernel_rfl) (⟨c0, c1, c2, c3⟩) (fun hHeld => ?_)
              clear c0 c1 c2 c3
              have HBm : Hid (Below w.heap.size w t2.drew) := HB2.out.drew
              have HQm : Hid (t2.drew.heap[w.heap.size + 1]? = some (.cells #[.int .u64 (f0 : Int), .int .i64 f1, .int .i64 f2, .int .i64 f3, .int .i64 f4, .bool f5, .slice a j cv] 25 (0, 0))) := HQ2.out
              have HRm : Hid (t2.drew.heap[w.heap.size]? = some (.cells #[.int .u64 0, .int .i64 0, .int .i64 0, .int .i64 0, .int .i64 0, .bool false, .slice none 0 0] 25 (0, 0))) := HR2.out
              have HOm : Hid (t2.drew.ownsRow B1 29 4 (.slice a j cv) j (flatF gs)) := HO2.out.drew
              have hSm : B1 ≤ t2.drew.heap.size := hS2
              clear HB2 HQ2 HR2 HO2 hS2
              obtain ⟨tm, htm⟩ : ∃ tm, t2.drew = tm := ⟨_, rfl⟩
              rw [htm] at hHeld HBm HQm HRm HOm hSm ⊢
              clear htm t2
              refine wpAnyH_take (i := 0) (oi := { dst := some 111, op := Op.move (Operand.tmp 15), type := 46, pos := "text.go:163", after := #[], guard := none }) (v := ?v0p19) rfl (by kernel_rfl) (by kernel_rfl) (by kernel_rfl) (fun _ _ _ h => h) (Or.inl ⟨by rfl, ?y0p19⟩) (by assumption) ?r0p19
              case y0p19 => (intro x hx; (try dsimp only at hx); go_simp; try with_reducible rfl)
              try simp only [Act.put, List.setIfInBounds_toArray, List.set_cons_zero, List.set_cons_succ]
              refine wpAnyH_take (i := 1) (oi := { dst := some 112, op := Op.indexAddr 46 (Operand.tmp 111) (Operand.const (Value.int IntKind.i64 0)), type := 0, pos := "text.go:163", after := #[{ on := 0, ground := Ground.data }], guard := none }) (v := ?v1p19) rfl (by kernel_rfl) (by kernel_rfl) (by kernel_rfl) (fun _ _ _ h => h) (Or.inl ⟨by rfl, ?y1p19⟩) (by assumption) ?r1p19
              case y1p19 => (intro x hx; (try dsimp only at hx); go_simp; try with_reducible rfl)
              try simp only [Act.put, List.setIfInBounds_toArray, List.set_cons_zero, List.set_cons_succ]
              refine wpAnyH_take (i := 2) (oi := { dst := some 113, op := Op.load 9 (Operand.tmp 112), type := 9, pos := "text.go:163", after := #[{ on := 1, ground := Ground.data }], guard := none }) (v := ?v2p19) rfl (by kernel_rfl) (by kernel_rfl) (by kernel_rfl) (fun _ _ _ h => h) (Or.inl ⟨by rfl, ?y2p19⟩) (by assumption) ?r2p19
              case y2p19 => (intro x hx; (try dsimp only at hx); go_simp; try with_reducible rfl)
              try simp only [Act.put, List.setIfInBounds_toArray, List.set_cons_zero, List.set_cons_succ]
              refine wpAnyH_take (i := 4) (oi := { dst := some 115, op := Op.move (Operand.tmp 15), type := 46, pos := "text.go:163", after := #[], guard := none }) (v := ?v4p19) rfl (by kernel_rfl) (by kernel_rfl) (by kernel_rfl) (fun _ _ _ h => h) (Or.inl ⟨by rfl, ?y4p19⟩) (by assumption) ?r4p19
              case y4p19 => (intro x hx; (try dsimp only at hx); go_simp; try with_reducible rfl)
              try simp only [Act.put, List.setIfInBounds_toArray, List.set_cons_zero, List.set_cons_succ]
              refine wpAnyH_take (i := 5) (oi := { dst := some 116, op := Op.indexAddr 46 (Operand.tmp 115) (Operand.const (Value.int IntKind.i64 1)), type := 0, pos := "text.go:163", after := #[{ on := 4, ground := Ground.data }], guard := none }) (v := ?v5p19) rfl (by kernel_rfl) (by kernel_rfl) (by kernel_rfl) (fun _ _ _ h => h) (Or.inl ⟨by rfl, ?y5p19⟩) (by assumption) ?r5p19
              case y5p19 => (intro x hx; (try dsimp only at hx); go_simp; try with_reducible rfl)
              try simp only [Act.put, List.setIfInBounds_toArray, List.set_cons_zero, List.set_cons_succ]
              refine wpAnyH_take (i := 6) (oi := { dst := some 117, op := Op.load 9 (Operand.tmp 116), type := 9, pos := "text.go:163", after := #[{ on := 5, ground := Ground.data }], guard := none }) (v := ?v6p19) rfl (by kernel_rfl) (by kernel_rfl) (by kernel_rfl) (fun _ _ _ h => h) (Or.inl ⟨by rfl, ?y6p19⟩) (by assumption) ?r6p19
              case y6p19 => (intro x hx; (try dsimp only at hx); go_simp; try with_reducible rfl)
              try simp only [Act.put, List.setIfInBounds_toArray, List.set_cons_zero, List.set_cons_succ]
              refine wpAnyH_take (i := 8) (oi := { dst := some 119, op := Op.move (Operand.tmp 15), type := 46, pos := "text.go:163", after := #[], guard := none }) (v := ?v8p19) rfl (by kernel_rfl) (by kernel_rfl) (by kernel_rfl) (fun _ _ _ h => h) (Or.inl ⟨by rfl, ?y8p19⟩) (by assumption) ?r8p19
              case y8p19 => (intro x hx; (try dsimp only at hx); go_simp; try with_reducible rfl)
              try simp only [Act.put, List.setIfInBounds_toArray, List.set_cons_zero, List.set_cons_succ]
              refine wpAnyH_take (i := 9) (oi := { dst := some 120, op := Op.indexAddr 46 (Operand.tmp 119) (Operand.const (Value.int IntKind.i64 2)), type := 0, pos := "text.go:163", after := #[{ on := 8, ground := Ground.data }], guard := none }) (v := ?v9p19) rfl (by kernel_rfl) (by kernel_rfl) (by kernel_rfl) (fun _ _ _ h => h) (Or.inl ⟨by rfl, ?y9p19⟩) (by assumption) ?r9p19
              case y9p19 => (intro x hx; (try dsimp only at hx); go_simp; try with_reducible rfl)
              try simp only [Act.put, List.setIfInBounds_toArray, List.set_cons_zero, List.set_cons_succ]
              refine wpAnyH_take (i := 10) (oi := { dst := some 121, op := Op.load 9 (Operand.tmp 120), type := 9, pos := "text.go:163", after := #[{ on := 9, ground := Ground.data }], guard := none }) (v := ?v10p19) rfl (by kernel_rfl) (by kernel_rfl) (by kernel_rfl) (fun _ _ _ h => h) (Or.inl ⟨by rfl, ?y10p19⟩) (by assumption) ?r10p19
              case y10p19 => (intro x hx; (try dsimp only at hx); go_simp; try with_reducible rfl)
              try simp only [Act.put, List.setIfInBounds_toArray, List.set_cons_zero, List.set_cons_succ]
              refine wpAnyH_take (i := 13) (oi := { dst := some 124, op := Op.move (Operand.tmp 15), type := 46, pos := "text.go:163", after := #[], guard := none }) (v := ?v13p19) rfl (by kernel_rfl) (by kernel_rfl) (by kernel_rfl) (fun _ _ _ h => h) (Or.inl ⟨by rfl, ?y13p19⟩) (by assumption) ?r13p19
              case y13p19 => (intro x hx; (try dsimp only at hx); go_simp; try with_reducible rfl)
              try simp only [Act.put, List.setIfInBounds_toArray, List.set_cons_zero, List.set_cons_succ]
              refine wpAnyH_take (i := 14) (oi := { dst := some 125, op := Op.indexAddr 46 (Operand.tmp 124) (Operand.const (Value.int IntKind.i64 3)), type := 0, pos := "text.go:163", after := #[{ on := 13, ground := Ground.data }], guard := none }) (v := ?v14p19) rfl (by kernel_rfl) (by kernel_rfl) (by kernel_rfl) (fun _ _ _ h => h) (Or.inl ⟨by rfl, ?y14p19⟩) (by assumption) ?r14p19
              case y14p19 => (intro x hx; (try dsimp only at hx); go_simp; try with_reducible rfl)
              try simp only [Act.put, List.setIfInBounds_toArray, List.set_cons_zero, List.set_cons_succ]
              refine wpAnyH_take (i := 15) (oi := { dst := some 126, op := Op.load 9 (Operand.tmp 125), type := 9, pos := "text.go:163", after := #[{ on := 14, ground := Ground.data }], guard := none }) (v := ?v15p19) rfl (by kernel_rfl) (by kernel_rfl) (by kernel_rfl) (fun _ _ _ h => h) (Or.inl ⟨by rfl, ?y15p19⟩) (by assumption) ?r15p19
              case y15p19 => (intro x hx; (try dsimp only at hx); go_simp; try with_reducible rfl)
              try simp only [Act.put, List.setIfInBounds_toArray, List.set_cons_zero, List.set_cons_succ]
              refine wpAnyH_ready (rs := [3, 18]) (by kernel_rfl) (by simp) ?_
              refine AllReadyH.cons (o := { dst := some 114, op := Op.call { callee := Callee.value (Operand.func 28), args := #[Operand.tmp 113], argTypes := #[9] }, type := 3, pos := "text.go:163", after := #[{ on := 2, ground := Ground.data }], guard := none }) rfl (fun K hK => ?_) (AllReadyH.cons (o := { dst := some 16, op := Op.alloc 29, type := 0, pos := "text.go:163", after := #[], guard := none }) rfl (fun K hK => ?_) AllReadyH.nil)
              · go_simp
                go_at_call 28
                refine (HU0.out _).mono ?_
                rintro e tk ⟨rfl, blk9⟩
                have HBk : Hid (Below w.heap.size w tk) := below_trans HBm.out blk9
                have HQk : Hid (tk.heap[w.heap.size + 1]? = some (.cells #[.int .u64 (f0 : Int), .int .i64 f1, .int .i64 f2, .int .i64 f3, .int .i64 f4, .bool f5, .slice a j cv] 25 (0, 0))) := blk_up HQm.out blk9
                have HRk : Hid (tk.heap[w.heap.size]? = some (.cells #[.int .u64 0, .int .i64 0, .int .i64 0, .int .i64 0, .int .i64 0, .bool false, .slice none 0 0] 25 (0, 0))) := blk_up HRm.out blk9
                have HOk : Hid (tk.ownsRow B1 29 4 (.slice a j cv) j (flatF gs)) := ownF_below HOm.out blk9
                have hSk : B1 ≤ tk.heap.size := Nat.le_trans hSm blk9.size
                have hSnew : tk.cell? ⟨gw, 0, none⟩ = some (.string ⟨x0.toArray⟩) ∧ tk.cell? ⟨gw, 1, none⟩ = some (.string ⟨x1.toArray⟩) ∧ tk.cell? ⟨gw, 2, none⟩ = some (.string ⟨x2.toArray⟩) ∧ tk.cell? ⟨gw, 3, none⟩ = some (.string ⟨x3.toArray⟩) := ⟨(blk9.cell (block_lt_of_cell hHeld.1)).trans hHeld.1, (blk9.cell (block_lt_of_cell hHeld.2.1)).trans hHeld.2.1, (blk9.cell (block_lt_of_cell hHeld.2.2.1)).trans hHeld.2.2.1, (blk9.cell (block_lt_of_cell hHeld.2.2.2)).trans hHeld.2.2.2⟩
                go_wp2_with fail
                refine hK.out _ _ hSnew (fun hHeld3 => ?_)
                clear hK K hSnew
                clear hHeld
                have hHeld := hHeld3
                clear hHeld3
                try simp only [Act.put, List.setIfInBounds_toArray, List.set_cons_zero, List.set_cons_succ]
                clear HBm HQm HRm HOm hSm blk9
                have HBm := HBk
                have HQm := HQk
                have HRm := HRk
                have HOm := HOk
                have hSm := hSk
                clear HBk HQk HRk HOk hSk tm
                obtain ⟨tm, htm⟩ : ∃ tm, tm = tk := ⟨_, rfl⟩
                subst htm
                refine wpAnyH_ready (rs := [7, 18]) (by kernel_rfl) (by simp) ?_
                refine AllReadyH.cons (o := { dst := some 118, op := Op.call { callee := Callee.value (Operand.func 27), args := #[Operand.tmp 117], argTypes := #[9] }, type := 3, pos := "text.go:163", after := #[{ on := 6, ground := Ground.data }, { on := 3, ground := Ground.chain }], guard := none }) rfl (fun K hK => ?_) (AllReadyH.cons (o := { dst := some 16, op := Op.alloc 29, type := 0, pos := "text.go:163", after := #[], guard := none }) rfl (fun K hK => ?_) AllReadyH.nil)
                · go_simp
                  go_at_call 27
                  refine (HU1.out _).mono ?_
                  rintro e tz ⟨rfl, h9⟩
                  rw [h9]
                  clear h9
                  have hSnew := hHeld
                  go_wp2_with fail
                  refine hK.out _ _ hSnew (fun hHeld7 => ?_)
                  clear hK K hSnew
                  clear hHeld
                  have hHeld := hHeld7
                  clear hHeld7
                  try simp only [Act.put, List.setIfInBounds_toArray, List.set_cons_zero, List.set_cons_succ]
                  refine wpAnyH_ready (rs := [11, 18]) (by kernel_rfl) (by simp) ?_
                  refine AllReadyH.cons (o := { dst := some 122, op := Op.call { callee := Callee.value (Operand.func 27), args := #[Operand.tmp 121], argTypes := #[9] }, type := 3, pos := "text.go:163", after := #[{ on := 10, ground := Ground.data }, { on := 7, ground := Ground.chain }], guard := none }) rfl (fun K hK => ?_) (AllReadyH.cons (o := { dst := some 16, op := Op.alloc 29, type := 0, pos := "text.go:163", after := #[], guard := none }) rfl (fun K hK => ?_) AllReadyH.nil)
                  · go_simp
                    go_at_call 27
                    refine (HU2.out _).mono ?_
                    rintro e tz ⟨rfl, h9⟩
                    rw [h9]
                    clear h9
                    have hSnew := hHeld
                    go_wp2_with fail
                    refine hK.out _ _ hSnew (fun hHeld11 => ?_)
                    clear hK K hSnew
                    clear hHeld
                    have hHeld := hHeld11
                    clear hHeld11
                    try simp only [Act.put, List.setIfInBounds_toArray, List.set_cons_zero, List.set_cons_succ]
                    refine wpAnyH_take (i := 12) (oi := { dst := some 123, op := Op.build 27 #[(0, Operand.tmp 118), (1, Operand.tmp 122)], type := 27, pos := "text.go:163", after := #[{ on := 7, ground := Ground.data }, { on := 11, ground := Ground.data }], guard := none }) (v := ?v12q22) rfl (by kernel_rfl) (by kernel_rfl) (by kernel_rfl) (fun _ _ _ h => h) (Or.inl ⟨by rfl, ?y12q22⟩) (by assumption) ?r12q22
                    case y12q22 => (intro x hx; (try dsimp only at hx); go_simp; try with_reducible rfl)
                    try simp only [Act.put, List.setIfInBounds_toArray, List.set_cons_zero, List.set_cons_succ]
                    refine wpAnyH_ready (rs := [16, 18]) (by kernel_rfl) (by simp) ?_
                    refine AllReadyH.cons (o := { dst := some 127, op := Op.call { callee := Callee.value (Operand.func 27), args := #[Operand.tmp 126], argTypes := #[9] }, type := 3, pos := "text.go:163", after := #[{ on := 15, ground := Ground.data }, { on := 11, ground := Ground.chain }], guard := none }) rfl (fun K hK => ?_) (AllReadyH.cons (o := { dst := some 16, op := Op.alloc 29, type := 0, pos := "text.go:163", after := #[], guard := none }) rfl (fun K hK => ?_) AllReadyH.nil)
                    · go_simp
                      go_at_call 27
                      refine (HU3.out _).mono ?_
                      rintro e tz ⟨rfl, h9⟩
                      rw [h9]
                      clear h9
                      have hSnew := hHeld
                      go_wp2_with fail
                      refine hK.out _ _ hSnew (fun hHeld16 => ?_)
                      clear hK K hSnew
                      clear hHeld
                      have hHeld := hHeld16
                      clear hHeld16
                      try simp only [Act.put, List.setIfInBounds_toArray, List.set_cons_zero, List.set_cons_succ]
                      refine wpAnyH_take (i := 17) (oi := { dst := some 128, op := Op.build 29 #[(0, Operand.tmp 114), (1, Operand.tmp 123), (2, Operand.tmp 127)], type := 29, pos := "text.go:163", after := #[{ on := 3, ground := Ground.data }, { on := 12, ground := Ground.data }, { on := 16, ground := Ground.data }], guard := none }) (v := ?v17q24) rfl (by kernel_rfl) (by kernel_rfl) (by kernel_rfl) (fun _ _ _ h => h) (Or.inl ⟨by rfl, ?y17q24⟩) (by assumption) ?r17q24
                      case y17q24 => (intro x hx; (try dsimp only at hx); go_simp; try with_reducible rfl)
                      try simp only [Act.put, List.setIfInBounds_toArray, List.set_cons_zero, List.set_cons_succ]
                      refine wpAnyH_ready (rs := [18]) (by kernel_rfl) (by simp) ?_
                      refine AllReadyH.cons (o := { dst := some 16, op := Op.alloc 29, type := 0, pos := "text.go:163", after := #[], guard := none }) rfl (fun K hK => ?_) AllReadyH.nil
                      go_simp
                      go_wp2_with fail
                      have HBn : Hid (Below w.heap.size w (tm.alloc (.cells #[.int .i64 0, .int .i64 0, .int .i64 0, .int .i64 0] 29))) := below_trans HBm.out (below_alloc' _ _)
                      have HQn : Hid ((tm.alloc (.cells #[.int .i64 0, .int .i64 0, .int .i64 0, .int .i64 0] 29)).heap[w.heap.size + 1]? = some (.cells #[.int .u64 (f0 : Int), .int .i64 f1, .int .i64 f2, .int .i64 f3, .int .i64 f4, .bool f5, .slice a j cv] 25 (0, 0))) := blk_up HQm.out (below_alloc' _ _)
                      have HRn : Hid ((tm.alloc (.cells #[.int .i64 0, .int .i64 0, .int .i64 0, .int .i64 0] 29)).heap[w.heap.size]? = some (.cells #[.int .u64 0, .int .i64 0, .int .i64 0, .int .i64 0, .int .i64 0, .bool false, .slice none 0 0] 25 (0, 0))) := blk_up HRm.out (below_alloc' _ _)
                      have HOn : Hid ((tm.alloc (.cells #[.int .i64 0, .int .i64 0, .int .i64 0, .int .i64 0] 29)).ownsRow B1 29 4 (.slice a j cv) j (flatF gs)) := HOm.out.alloc _
                      have hSn : B1 ≤ (tm.alloc (.cells #[.int .i64 0, .int .i64 0, .int .i64 0, .int .i64 0] 29)).heap.size := Nat.le_trans hSm (below_alloc' _ _).size
                      have HPn : Hid ((tm.alloc (.cells #[.int .i64 0, .int .i64 0, .int .i64 0, .int .i64 0] 29)).heap[tm.heap.size]? = some (.cells #[.int .i64 0, .int .i64 0, .int .i64 0, .int .i64 0] 29 (0, 0))) := heap_alloc_new _ _
                      have hpo : ∀ g9, (Value.slice a j cv).ownBlock = some g9 → g9 < tm.heap.size := fun g9 h9 => (HOm.out.lt g9 h9).2
                      have hpB : B1 ≤ tm.heap.size := hSm
                      have hSnew : (tm.alloc (.cells #[.int .i64 0, .int .i64 0, .int .i64 0, .int .i64 0] 29)).cell? ⟨gw, 0, none⟩ = some (.string ⟨x0.toArray⟩) ∧ (tm.alloc (.cells #[.int .i64 0, .int .i64 0, .int .i64 0, .int .i64 0] 29)).cell? ⟨gw, 1, none⟩ = some (.string ⟨x1.toArray⟩) ∧ (tm.alloc (.cells #[.int .i64 0, .int .i64 0, .int .i64 0, .int .i64 0] 29)).cell? ⟨gw, 2, none⟩ = some (.string ⟨x2.toArray⟩) ∧ (tm.alloc (.cells #[.int .i64 0, .int .i64 0, .int .i64 0, .int .i64 0] 29)).cell? ⟨gw, 3, none⟩ = some (.string ⟨x3.toArray⟩) := (fun blk9 => ⟨(Below.cell blk9 (block_lt_of_cell hHeld.1)).trans hHeld.1, (Below.cell blk9 (block_lt_of_cell hHeld.2.1)).trans hHeld.2.1, (Below.cell blk9 (block_lt_of_cell hHeld.2.2.1)).trans hHeld.2.2.1, (Below.cell blk9 (block_lt_of_cell hHeld.2.2.2)).trans hHeld.2.2.2⟩) (below_alloc' tm (.cells #[.int .i64 0, .int .i64 0, .int .i64 0, .int .i64 0] 29))
                      refine hK.out _ _ hSnew (fun hHeld18 => ?_)
                      clear hK K hSnew
                      clear hHeld
                      have hHeld := hHeld18
                      clear hHeld18
                      try simp only [Act.put, List.setIfInBounds_toArray, List.set_cons_zero, List.set_cons_succ]
                      obtain ⟨pp9, hpp9⟩ : ∃ pp9, tm.heap.size = pp9 := ⟨_, rfl⟩
                      obtain ⟨tn, htn⟩ : ∃ tn, tm.alloc (.cells #[.int .i64 0, .int .i64 0, .int .i64 0, .int .i64 0] 29) = tn := ⟨_, rfl⟩
                      rw [htn] at HBn HQn HRn HOn HPn hHeld hSn ⊢
                      rw [hpp9] at HPn hpo hpB ⊢
                      clear HBm HQm HRm HOm hSm htn hpp9 tm
                      obtain ⟨p0, p1, p2, p3⟩ := cells4x HPn.out
                      have pf0 := frozen7 HPn.out 0
                      have pf1 := frozen7 HPn.out 1
                      have pf2 := frozen7 HPn.out 2
                      have pf3 := frozen7 HPn.out 3
                      have HGS : Hid (tn.grownBy ((((tn.setCell ⟨pp9, 0, none⟩ (.int .i64 K0)).setCell ⟨pp9, 1, none⟩ (.int .i64 K1)).setCell ⟨pp9, 2, none⟩ (.int .i64 K2)).setCell ⟨pp9, 3, none⟩ (.int .i64 K3)) (some pp9)) := grown4 _ _ _ _ _ _
                      have HPs : Hid (((((tn.setCell ⟨pp9, 0, none⟩ (.int .i64 K0)).setCell ⟨pp9, 1, none⟩ (.int .i64 K1)).setCell ⟨pp9, 2, none⟩ (.int .i64 K2)).setCell ⟨pp9, 3, none⟩ (.int .i64 K3)).heap[pp9]? = some (.cells #[.int .i64 K0, .int .i64 K1, .int .i64 K2, .int .i64 K3] 29 (0, 0))) := blk4_set HPn.out _ _ _ _
                      refine wpAnyH_ready (rs := [19]) (by kernel_rfl) (by simp) ?_
                      refine AllReadyH.cons (o := { dst := none, op := Op.store 29 (Operand.tmp 16) (Operand.tmp 128), type := 0, pos := "text.go:163", after := #[{ on := 18, ground := Ground.data }, { on := 17, ground := Ground.data }, { on := 16, ground := Ground.chain }, { on := 0, ground := Ground.phase }, { on := 1, ground := Ground.phase }, { on := 2, ground := Ground.phase }, { on := 3, ground := Ground.phase }, { on := 4, ground := Ground.phase }, { on := 5, ground := Ground.phase }, { on := 6, ground := Ground.phase }, { on := 7, ground := Ground.phase }, { on := 8, ground := Ground.phase }, { on := 9, ground := Ground.phase }, { on := 10, ground := Ground.phase }, { on := 11, ground := Ground.phase }, { on := 12, ground := Ground.phase }, { on := 13, ground := Ground.phase }, { on := 14, ground := Ground.phase }, { on := 15, ground := Ground.phase }, { on := 16, ground := Ground.phase }, { on := 17, ground := Ground.phase }, { on := 18, ground := Ground.phase }], guard := none }) rfl (fun K hK => ?_) AllReadyH.nil
                      go_simp
                      go_wp2_with fail
                      have hgw : gw ≠ pp9 := fun e9 => by have h8 := hHeld.1; rw [e9] at h8; simp [World.cell?, HPn.out] at h8
                      obtain ⟨ts, hts⟩ : ∃ ts, ((((tn.setCell ⟨pp9, 0, none⟩ (.int .i64 K0)).setCell ⟨pp9, 1, none⟩ (.int .i64 K1)).setCell ⟨pp9, 2, none⟩ (.int .i64 K2)).setCell ⟨pp9, 3, none⟩ (.int .i64 K3)) = ts := ⟨_, rfl⟩
                      rw [hts] at HGS HPs ⊢
                      clear hts
                      have hSnew := held_grown HGS.out hgw hHeld
                      refine hK.out _ _ hSnew (fun hHeld19 => ?_)
                      clear hK K hSnew
                      clear hHeld
                      have hHeld := hHeld19
                      clear hHeld19
                      try simp only [Act.put, List.setIfInBounds_toArray, List.set_cons_zero, List.set_cons_succ]
                      refine wpAnyH_done (by kernel_rfl) ?_ _
                      clear hHeld p0 p1 p2 p3 pf0 pf1 pf2 pf3
                      have hp2 : B1 ≤ pp9 := hpB
                      have HQs : Hid (ts.heap[w.heap.size + 1]? = some (.cells #[.int .u64 (f0 : Int), .int .i64 f1, .int .i64 f2, .int .i64 f3, .int .i64 f4, .bool f5, .slice a j cv] 25 (0, 0))) := (HGS.out.block _ (lt_of_blk HQn.out) (fun e9 => by have := Option.some.inj e9; omega)).trans HQn.out
                      have HRs : Hid (ts.heap[w.heap.size]? = some (.cells #[.int .u64 0, .int .i64 0, .int .i64 0, .int .i64 0, .int .i64 0, .bool false, .slice none 0 0] 25 (0, 0))) := (HGS.out.block _ (lt_of_blk HRn.out) (fun e9 => by have := Option.some.inj e9; omega)).trans HRn.out
                      have HBs : Hid (Below w.heap.size w ts) := HBn.out.grown HGS.out HBn.out.size (fun i9 h9 => by cases h9; omega)
                      have HOs : Hid (ts.ownsRow B1 29 4 (.slice a j cv) j (flatF gs)) := HOn.out.kept HGS.out (by cases h9 : (Value.slice a j cv).ownBlock with | none => exact Or.inl rfl | some g9 => exact Or.inr (fun e9 => by have h8 := hpo g9 h9; have := Option.some.inj e9; omega))
                      have hSs : B1 ≤ ts.heap.size := Nat.le_trans hSn HGS.out.size
                      clear HGS HQn HRn HBn HOn HPn hSn hpo hgw hpB
                      obtain ⟨p0, p1, p2, p3⟩ := cells4x HPs.out
                      go_wp2_with (first
                        | (go_at_call 23; refine (HRW.out _ (p10_below HT.out HBs.out)).mono ?_; rintro e t5 ⟨rfl, bl5⟩
                           have HB5 : Hid (Below w.heap.size w t5) := below_trans HBs.out bl5
                           have HQ5 : Hid (t5.heap[w.heap.size + 1]? = some (.cells #[.int .u64 (f0 : Int), .int .i64 f1, .int .i64 f2, .int .i64 f3, .int .i64 f4, .bool f5, .slice a j cv] 25 (0, 0))) := blk_up HQs.out bl5
                           have HR5 : Hid (t5.heap[w.heap.size]? = some (.cells #[.int .u64 0, .int .i64 0, .int .i64 0, .int .i64 0, .int .i64 0, .bool false, .slice none 0 0] 25 (0, 0))) := blk_up HRs.out bl5
                           have HO5 : Hid (t5.ownsRow B1 29 4 (.slice a j cv) j (flatF gs)) := ownF_below HOs.out bl5
                           have hS5 : B1 ≤ t5.heap.size := Nat.le_trans hSs bl5.size
                           have HP5 : Hid (t5.heap[pp9]? = some (.cells #[.int .i64 K0, .int .i64 K1, .int .i64 K2, .int .i64 K3] 29 (0, 0))) := blk_up HPs.out bl5
                           clear p0 p1 p2 p3 bl5 HBs HQs HRs HOs HPs hSs
                           obtain ⟨q0, q1, q2, q3, q4, q5, q6⟩ := cells7 HQ5.out
                           obtain ⟨s0, s1, s2, s3⟩ := cells4x HP5.out)
                        | (at_builtin; refine wpList_append_F rfl (.tmp 136) (.tmp 138) rfl B1 _ j gs rfl (HO5.out.alloc _) _ 1 1 [⟨K0, K1, K2, K3⟩] rfl (oneF t5 ⟨K0, K1, K2, K3⟩) (by omega) (by simp; omega) ?_; intro v3 t3 own3 grow3
                           have HO3 : Hid (t3.ownsRow B1 29 4 v3 (j + 1) (flatF (gs ++ [⟨K0, K1, K2, K3⟩]))) := own3
                           have hob : ∀ i, (Value.slice a j cv).ownBlock = some i → B1 ≤ i := fun i hi => (HO5.out.lt i hi).1
                           have grow4 : t5.grownBy t3 (Value.slice a j cv).ownBlock := ⟨grow3.os, grow3.tape, grow3.output, Nat.le_trans (by simp) grow3.size, fun i hi hne => (grow3.block i (by simp; omega) hne).trans (Below.heap_alloc _ _ _ hi)⟩
                           have HQ6 : Hid (t3.heap[w.heap.size + 1]? = some (.cells #[.int .u64 (f0 : Int), .int .i64 f1, .int .i64 f2, .int .i64 f3, .int .i64 f4, .bool f5, .slice a j cv] 25 (0, 0))) := (grow4.block _ (lt_of_blk HQ5.out) (fun e => by have := hob _ e.symm; omega)).trans HQ5.out
                           have HR6 : Hid (t3.heap[w.heap.size]? = some (.cells #[.int .u64 0, .int .i64 0, .int .i64 0, .int .i64 0, .int .i64 0, .bool false, .slice none 0 0] 25 (0, 0))) := (grow4.block _ (lt_of_blk HR5.out) (fun e => by have := hob _ e.symm; omega)).trans HR5.out
                           have HB6 : Hid (Below w.heap.size w t3) := HB5.out.grown grow4 HB5.out.size (fun i hi => by have := hob i hi; omega)
                           have hS6 : B1 ≤ t3.heap.size := Nat.le_trans hS5 grow4.size
                           obtain ⟨g9, cp, rfl, hcp1, hcp2, hg91, hg92⟩ := own_shapeF HO3.out (by omega)
                           obtain ⟨d0, d1, d2, d3, d4, d5, d6⟩ := cells7 HQ6.out
                           have fz := frozen7 HQ6.out 6
                           clear own3 grow3 grow4 hob q0 q1 q2 q3 q4 q5 q6 s0 s1 s2 s3 d0 d1 d2 d3 d4 d5))
                      have HB7 : Hid (Below w.heap.size w (t3.setCell ⟨w.heap.size + 1, 6, none⟩ (.slice (some ⟨g9, 0, none⟩) (j + 1) cp))) := HB6.out.grown (set_grown _ _ _ _) HB6.out.size (fun i hi => by cases hi; omega)
                      have HQ7 : Hid ((t3.setCell ⟨w.heap.size + 1, 6, none⟩ (.slice (some ⟨g9, 0, none⟩) (j + 1) cp)).heap[w.heap.size + 1]? = some (.cells #[.int .u64 (f0 : Int), .int .i64 f1, .int .i64 f2, .int .i64 f3, .int .i64 f4, .bool f5, .slice (some ⟨g9, 0, none⟩) (j + 1) cp] 25 (0, 0))) := Joins.block_setCell HQ6.out _
                      have HR7 : Hid ((t3.setCell ⟨w.heap.size + 1, 6, none⟩ (.slice (some ⟨g9, 0, none⟩) (j + 1) cp)).heap[w.heap.size]? = some (.cells #[.int .u64 0, .int .i64 0, .int .i64 0, .int .i64 0, .int .i64 0, .bool false, .slice none 0 0] 25 (0, 0))) := ((set_grown _ _ _ _).block _ (lt_of_blk HR6.out) (fun e => by have := Option.some.inj e; omega)).trans HR6.out
                      have HO7 : Hid ((t3.setCell ⟨w.heap.size + 1, 6, none⟩ (.slice (some ⟨g9, 0, none⟩) (j + 1) cp)).ownsRow B1 29 4 (.slice (some ⟨g9, 0, none⟩) (j + 1) cp) (j + 1) (flatF (gs ++ [⟨K0, K1, K2, K3⟩]))) := HO3.out.kept (set_grown _ _ _ _) (Or.inr (fun e => by have h8 : g9 = w.heap.size + 1 := Option.some.inj e; omega))
                      have hS7 : B1 ≤ (t3.setCell ⟨w.heap.size + 1, 6, none⟩ (.slice (some ⟨g9, 0, none⟩) (j + 1) cp)).heap.size := Nat.le_trans hS6 (set_grown t3 (w.heap.size + 1) 6 (.slice (some ⟨g9, 0, none⟩) (j + 1) cp)).size
                      go_roundw
                      case rel => exact ⟨j + 1, gs ++ [(⟨K0, K1, K2, K3⟩ : Fd)], Rs, _, by first | go_num | (simp; omega), rfl, HRL.out.1, HX.out, HO7.out, HQ7.out, HR7.out, HB7.out, hS7⟩
                      case measure => simp [slen, ByteArray.size]; exact HRL.out.2
                    · go_simp
                      go_wp2_with fail
                      have HBn : Hid (Below w.heap.size w (tm.alloc (.cells #[.int .i64 0, .int .i64 0, .int .i64 0, .int .i64 0] 29))) := below_trans HBm.out (below_alloc' _ _)
                      have HQn : Hid ((tm.alloc (.cells #[.int .i64 0, .int .i64 0, .int .i64 0, .int .i64 0] 29)).heap[w.heap.size + 1]? = some (.cells #[.int .u64 (f0 : Int), .int .i64 f1, .int .i64 f2, .int .i64 f3, .int .i64 f4, .bool f5, .slice a j cv] 25 (0, 0))) := blk_up HQm.out (below_alloc' _ _)
                      have HRn : Hid ((tm.alloc (.cells #[.int .i64 0, .int .i64 0, .int .i64 0, .int .i64 0] 29)).heap[w.heap.size]? = some (.cells #[.int .u64 0, .int .i64 0, .int .i64 0, .int .i64 0, .int .i64 0, .bool false, .slice none 0 0] 25 (0, 0))) := blk_up HRm.out (below_alloc' _ _)
                      have HOn : Hid ((tm.alloc (.cells #[.int .i64 0, .int .i64 0, .int .i64 0, .int .i64 0] 29)).ownsRow B1 29 4 (.slice a j cv) j (flatF gs)) := HOm.out.alloc _
                      have hSn : B1 ≤ (tm.alloc (.cells #[.int .i64 0, .int .i64 0, .int .i64 0, .int .i64 0] 29)).heap.size := Nat.le_trans hSm (below_alloc' _ _).size
                      have HPn : Hid ((tm.alloc (.cells #[.int .i64 0, .int .i64 0, .int .i64 0, .int .i64 0] 29)).heap[tm.heap.size]? = some (.cells #[.int .i64 0, .int .i64 0, .int .i64 0, .int .i64 0] 29 (0, 0))) := heap_alloc_new _ _
                      have hpo : ∀ g9, (Value.slice a j cv).ownBlock = some g9 → g9 < tm.heap.size := fun g9 h9 => (HOm.out.lt g9 h9).2
                      have hpB : B1 ≤ tm.heap.size := hSm
                      have hSnew : (tm.alloc (.cells #[.int .i64 0, .int .i64 0, .int .i64 0, .int .i64 0] 29)).cell? ⟨gw, 0, none⟩ = some (.string ⟨x0.toArray⟩) ∧ (tm.alloc (.cells #[.int .i64 0, .int .i64 0, .int .i64 0, .int .i64 0] 29)).cell? ⟨gw, 1, none⟩ = some (.string ⟨x1.toArray⟩) ∧ (tm.alloc (.cells #[.int .i64 0, .int .i64 0, .int .i64 0, .int .i64 0] 29)).cell? ⟨gw, 2, none⟩ = some (.string ⟨x2.toArray⟩) ∧ (tm.alloc (.cells #[.int .i64 0, .int .i64 0, .int .i64 0, .int .i64 0] 29)).cell? ⟨gw, 3, none⟩ = some (.string ⟨x3.toArray⟩) := (fun blk9 => ⟨(Below.cell blk9 (block_lt_of_cell hHeld.1)).trans hHeld.1, (Below.cell blk9 (block_lt_of_cell hHeld.2.1)).trans hHeld.2.1, (Below.cell blk9 (block_lt_of_cell hHeld.2.2.1)).trans hHeld.2.2.1, (Below.cell blk9 (block_lt_of_cell hHeld.2.2.2)).trans hHeld.2.2.2⟩) (below_alloc' tm (.cells #[.int .i64 0, .int .i64 0, .int .i64 0, .int .i64 0] 29))
                      refine hK.out _ _ hSnew (fun hHeld18 => ?_)
                      clear hK K hSnew
                      clear hHeld
                      have hHeld := hHeld18
                      clear hHeld18
                      try simp only [Act.put, List.setIfInBounds_toArray, List.set_cons_zero, List.set_cons_succ]
                      obtain ⟨pp9, hpp9⟩ : ∃ pp9, tm.heap.size = pp9 := ⟨_, rfl⟩
                      obtain ⟨tn, htn⟩ : ∃ tn, tm.alloc (.cells #[.int .i64 0, .int .i64 0, .int .i64 0, .int .i64 0] 29) = tn := ⟨_, rfl⟩
                      rw [htn] at HBn HQn HRn HOn HPn hHeld hSn ⊢
                      rw [hpp9] at HPn hpo hpB ⊢
                      clear HBm HQm HRm HOm hSm htn hpp9 tm
                      refine wpAnyH_ready (rs := [16]) (by kernel_rfl) (by simp) ?_
                      refine AllReadyH.cons (o := { dst := some 127, op := Op.call { callee := Callee.value (Operand.func 27), args := #[Operand.tmp 126], argTypes := #[9] }, type := 3, pos := "text.go:163", after := #[{ on := 15, ground := Ground.data }, { on := 11, ground := Ground.chain }], guard := none }) rfl (fun K hK => ?_) AllReadyH.nil
                      go_simp
                      go_at_call 27
                      refine (HU3.out _).mono ?_
                      rintro e tz ⟨rfl, h9⟩
                      rw [h9]
                      clear h9
                      have hSnew := hHeld
                      go_wp2_with fail
                      refine hK.out _ _ hSnew (fun hHeld16 => ?_)
                      clear hK K hSnew
                      clear hHeld
                      have hHeld := hHeld16
                      clear hHeld16
                      try simp only [Act.put, List.setIfInBounds_toArray, List.set_cons_zero, List.set_cons_succ]
                      refine wpAnyH_take (i := 17) (oi := { dst := some 128, op := Op.build 29 #[(0, Operand.tmp 114), (1, Operand.tmp 123), (2, Operand.tmp 127)], type := 29, pos := "text.go:163", after := #[{ on := 3, ground := Ground.data }, { on := 12, ground := Ground.data }, { on := 16, ground := Ground.data }], guard := none }) (v := ?v17q26) rfl (by kernel_rfl) (by kernel_rfl) (by kernel_rfl) (fun _ _ _ h => h) (Or.inl ⟨by rfl, ?y17q26⟩) (by assumption) ?r17q26
                      case y17q26 => (intro x hx; (try dsimp only at hx); go_simp; try with_reducible rfl)
                      try simp only [Act.put, List.setIfInBounds_toArray, List.set_cons_zero, List.set_cons_succ]
                      obtain ⟨p0, p1, p2, p3⟩ := cells4x HPn.out
                      have pf0 := frozen7 HPn.out 0
                      have pf1 := frozen7 HPn.out 1
                      have pf2 := frozen7 HPn.out 2
                      have pf3 := frozen7 HPn.out 3
                      have HGS : Hid (tn.grownBy ((((tn.setCell ⟨pp9, 0, none⟩ (.int .i64 K0)).setCell ⟨pp9, 1, none⟩ (.int .i64 K1)).setCell ⟨pp9, 2, none⟩ (.int .i64 K2)).setCell ⟨pp9, 3, none⟩ (.int .i64 K3)) (some pp9)) := grown4 _ _ _ _ _ _
                      have HPs : Hid (((((tn.setCell ⟨pp9, 0, none⟩ (.int .i64 K0)).setCell ⟨pp9, 1, none⟩ (.int .i64 K1)).setCell ⟨pp9, 2, none⟩ (.int .i64 K2)).setCell ⟨pp9, 3, none⟩ (.int .i64 K3)).heap[pp9]? = some (.cells #[.int .i64 K0, .int .i64 K1, .int .i64 K2, .int .i64 K3] 29 (0, 0))) := blk4_set HPn.out _ _ _ _
                      refine wpAnyH_ready (rs := [19]) (by kernel_rfl) (by simp) ?_
                      refine AllReadyH.cons (o := { dst := none, op := Op.store 29 (Operand.tmp 16) (Operand.tmp 128), type := 0, pos := "text.go:163", after := #[{ on := 18, ground := Ground.data }, { on := 17, ground := Ground.data }, { on := 16, ground := Ground.chain }, { on := 0, ground := Ground.phase }, { on := 1, ground := Ground.phase }, { on := 2, ground := Ground.phase }, { on := 3, ground := Ground.phase }, { on := 4, ground := Ground.phase }, { on := 5, ground := Ground.phase }, { on := 6, ground := Ground.phase }, { on := 7, ground := Ground.phase }, { on := 8, ground := Ground.phase }, { on := 9, ground := Ground.phase }, { on := 10, ground := Ground.phase }, { on := 11, ground := Ground.phase }, { on := 12, ground := Ground.phase }, { on := 13, ground := Ground.phase }, { on := 14, ground := Ground.phase }, { on := 15, ground := Ground.phase }, { on := 16, ground := Ground.phase }, { on := 17, ground := Ground.phase }, { on := 18, ground := Ground.phase }], guard := none }) rfl (fun K hK => ?_) AllReadyH.nil
                      go_simp
                      go_wp2_with fail
                      have hgw : gw ≠ pp9 := fun e9 => by have h8 := hHeld.1; rw [e9] at h8; simp [World.cell?, HPn.out] at h8
                      obtain ⟨ts, hts⟩ : ∃ ts, ((((tn.setCell ⟨pp9, 0, none⟩ (.int .i64 K0)).setCell ⟨pp9, 1, none⟩ (.int .i64 K1)).setCell ⟨pp9, 2, none⟩ (.int .i64 K2)).setCell ⟨pp9, 3, none⟩ (.int .i64 K3)) = ts := ⟨_, rfl⟩
                      rw [hts] at HGS HPs ⊢
                      clear hts
                      have hSnew := held_grown HGS.out hgw hHeld
                      refine hK.out _ _ hSnew (fun hHeld19 => ?_)
                      clear hK K hSnew
                      clear hHeld
                      have hHeld := hHeld19
                      clear hHeld19
                      try simp only [Act.put, List.setIfInBounds_toArray, List.set_cons_zero, List.set_cons_succ]
                      refine wpAnyH_done (by kernel_rfl) ?_ _
                      clear hHeld p0 p1 p2 p3 pf0 pf1 pf2 pf3
                      have hp2 : B1 ≤ pp9 := hpB
                      have HQs : Hid (ts.heap[w.heap.size + 1]? = some (.cells #[.int .u64 (f0 : Int), .int .i64 f1, .int .i64 f2, .int .i64 f3, .int .i64 f4, .bool f5, .slice a j cv] 25 (0, 0))) := (HGS.out.block _ (lt_of_blk HQn.out) (fun e9 => by have := Option.some.inj e9; omega)).trans HQn.out
                      have HRs : Hid (ts.heap[w.heap.size]? = some (.cells #[.int .u64 0, .int .i64 0, .int .i64 0, .int .i64 0, .int .i64 0, .bool false, .slice none 0 0] 25 (0, 0))) := (HGS.out.block _ (lt_of_blk HRn.out) (fun e9 => by have := Option.some.inj e9; omega)).trans HRn.out
                      have HBs : Hid (Below w.heap.size w ts) := HBn.out.grown HGS.out HBn.out.size (fun i9 h9 => by cases h9; omega)
                      have HOs : Hid (ts.ownsRow B1 29 4 (.slice a j cv) j (flatF gs)) := HOn.out.kept HGS.out (by cases h9 : (Value.slice a j cv).ownBlock with | none => exact Or.inl rfl | some g9 => exact Or.inr (fun e9 => by have h8 := hpo g9 h9; have := Option.some.inj e9; omega))
                      have hSs : B1 ≤ ts.heap.size := Nat.le_trans hSn HGS.out.size
                      clear HGS HQn HRn HBn HOn HPn hSn hpo hgw hpB
                      obtain ⟨p0, p1, p2, p3⟩ := cells4x HPs.out
                      go_wp2_with (first
                        | (go_at_call 23; refine (HRW.out _ (p10_below HT.out HBs.out)).mono ?_; rintro e t5 ⟨rfl, bl5⟩
                           have HB5 : Hid (Below w.heap.size w t5) := below_trans HBs.out bl5
                           have HQ5 : Hid (t5.heap[w.heap.size + 1]? = some (.cells #[.int .u64 (f0 : Int), .int .i64 f1, .int .i64 f2, .int .i64 f3, .int .i64 f4, .bool f5, .slice a j cv] 25 (0, 0))) := blk_up HQs.out bl5
                           have HR5 : Hid (t5.heap[w.heap.size]? = some (.cells #[.int .u64 0, .int .i64 0, .int .i64 0, .int .i64 0, .int .i64 0, .bool false, .slice none 0 0] 25 (0, 0))) := blk_up HRs.out bl5
                           have HO5 : Hid (t5.ownsRow B1 29 4 (.slice a j cv) j (flatF gs)) := ownF_below HOs.out bl5
                           have hS5 : B1 ≤ t5.heap.size := Nat.le_trans hSs bl5.size
                           have HP5 : Hid (t5.heap[pp9]? = some (.cells #[.int .i64 K0, .int .i64 K1, .int .i64 K2, .int .i64 K3] 29 (0, 0))) := blk_up HPs.out bl5
                           clear p0 p1 p2 p3 bl5 HBs HQs HRs HOs HPs hSs
                           obtain ⟨q0, q1, q2, q3, q4, q5, q6⟩ := cells7 HQ5.out
                           obtain ⟨s0, s1, s2, s3⟩ := cells4x HP5.out)
                        | (at_builtin; refine wpList_append_F rfl (.tmp 136) (.tmp 138) rfl B1 _ j gs rfl (HO5.out.alloc _) _ 1 1 [⟨K0, K1, K2, K3⟩] rfl (oneF t5 ⟨K0, K1, K2, K3⟩) (by omega) (by simp; omega) ?_; intro v3 t3 own3 grow3
                           have HO3 : Hid (t3.ownsRow B1 29 4 v3 (j + 1) (flatF (gs ++ [⟨K0, K1, K2, K3⟩]))) := own3
                           have hob : ∀ i, (Value.slice a j cv).ownBlock = some i → B1 ≤ i := fun i hi => (HO5.out.lt i hi).1
                           have grow4 : t5.grownBy t3 (Value.slice a j cv).ownBlock := ⟨grow3.os, grow3.tape, grow3.output, Nat.le_trans (by simp) grow3.size, fun i hi hne => (grow3.block i (by simp; omega) hne).trans (Below.heap_alloc _ _ _ hi)⟩
                           have HQ6 : Hid (t3.heap[w.heap.size + 1]? = some (.cells #[.int .u64 (f0 : Int), .int .i64 f1, .int .i64 f2, .int .i64 f3, .int .i64 f4, .bool f5, .slice a j cv] 25 (0, 0))) := (grow4.block _ (lt_of_blk HQ5.out) (fun e => by have := hob _ e.symm; omega)).trans HQ5.out
                           have HR6 : Hid (t3.heap[w.heap.size]? = some (.cells #[.int .u64 0, .int .i64 0, .int .i64 0, .int .i64 0, .int .i64 0, .bool false, .slice none 0 0] 25 (0, 0))) := (grow4.block _ (lt_of_blk HR5.out) (fun e => by have := hob _ e.symm; omega)).trans HR5.out
                           have HB6 : Hid (Below w.heap.size w t3) := HB5.out.grown grow4 HB5.out.size (fun i hi => by have := hob i hi; omega)
                           have hS6 : B1 ≤ t3.heap.size := Nat.le_trans hS5 grow4.size
                           obtain ⟨g9, cp, rfl, hcp1, hcp2, hg91, hg92⟩ := own_shapeF HO3.out (by omega)
                           obtain ⟨d0, d1, d2, d3, d4, d5, d6⟩ := cells7 HQ6.out
                           have fz := frozen7 HQ6.out 6
                           clear own3 grow3 grow4 hob q0 q1 q2 q3 q4 q5 q6 s0 s1 s2 s3 d0 d1 d2 d3 d4 d5))
                      have HB7 : Hid (Below w.heap.size w (t3.setCell ⟨w.heap.size + 1, 6, none⟩ (.slice (some ⟨g9, 0, none⟩) (j + 1) cp))) := HB6.out.grown (set_grown _ _ _ _) HB6.out.size (fun i hi => by cases hi; omega)
                      have HQ7 : Hid ((t3.setCell ⟨w.heap.size + 1, 6, none⟩ (.slice (some ⟨g9, 0, none⟩) (j + 1) cp)).heap[w.heap.size + 1]? = some (.cells #[.int .u64 (f0 : Int), .int .i64 f1, .int .i64 f2, .int .i64 f3, .int .i64 f4, .bool f5, .slice (some ⟨g9, 0, none⟩) (j + 1) cp] 25 (0, 0))) := Joins.block_setCell HQ6.out _
                      have HR7 : Hid ((t3.setCell ⟨w.heap.size + 1, 6, none⟩ (.slice (some ⟨g9, 0, none⟩) (j + 1) cp)).heap[w.heap.size]? = some (.cells #[.int .u64 0, .int .i64 0, .int .i64 0, .int .i64 0, .int .i64 0, .bool false, .slice none 0 0] 25 (0, 0))) := ((set_grown _ _ _ _).block _ (lt_of_blk HR6.out) (fun e => by have := Option.some.inj e; omega)).trans HR6.out
                      have HO7 : Hid ((t3.setCell ⟨w.heap.size + 1, 6, none⟩ (.slice (some ⟨g9, 0, none⟩) (j + 1) cp)).ownsRow B1 29 4 (.slice (some ⟨g9, 0, none⟩) (j + 1) cp) (j + 1) (flatF (gs ++ [⟨K0, K1, K2, K3⟩]))) := HO3.out.kept (set_grown _ _ _ _) (Or.inr (fun e => by have h8 : g9 = w.heap.size + 1 := Option.some.inj e; omega))
                      have hS7 : B1 ≤ (t3.setCell ⟨w.heap.size + 1, 6, none⟩ (.slice (some ⟨g9, 0, none⟩) (j + 1) cp)).heap.size := Nat.le_trans hS6 (set_grown t3 (w.heap.size + 1) 6 (.slice (some ⟨g9, 0, none⟩) (j + 1) cp)).size
                      go_roundw
                      case rel => exact ⟨j + 1, gs ++ [(⟨K0, K1, K2, K3⟩ : Fd)], Rs, _, by first | go_num | (simp; omega), rfl, HRL.out.1, HX.out, HO7.out, HQ7.out, HR7.out, HB7.out, hS7⟩
                      case measure => simp [slen, ByteArray.size]; exact HRL.out.2
                  · go_simp
                    go_wp2_with fail
                    have HBn : Hid (Below w.heap.size w (tm.alloc (.cells #[.int .i64 0, .int .i64 0, .int .i64 0, .int .i64 0] 29))) := below_trans HBm.out (below_alloc' _ _)
                    have HQn : Hid ((tm.alloc (.cells #[.int .i64 0, .int .i64 0, .int .i64 0, .int .i64 0] 29)).heap[w.heap.size + 1]? = some (.cells #[.int .u64 (f0 : Int), .int .i64 f1, .int .i64 f2, .int .i64 f3, .int .i64 f4, .bool f5, .slice a j cv] 25 (0, 0))) := blk_up HQm.out (below_alloc' _ _)
                    have HRn : Hid ((tm.alloc (.cells #[.int .i64 0, .int .i64 0, .int .i64 0, .int .i64 0] 29)).heap[w.heap.size]? = some (.cells #[.int .u64 0, .int .i64 0, .int .i64 0, .int .i64 0, .int .i64 0, .bool false, .slice none 0 0] 25 (0, 0))) := blk_up HRm.out (below_alloc' _ _)
                    have HOn : Hid ((tm.alloc (.cells #[.int .i64 0, .int .i64 0, .int .i64 0, .int .i64 0] 29)).ownsRow B1 29 4 (.slice a j cv) j (flatF gs)) := HOm.out.alloc _
                    have hSn : B1 ≤ (tm.alloc (.cells #[.int .i64 0, .int .i64 0, .int .i64 0, .int .i64 0] 29)).heap.size := Nat.le_trans hSm (below_alloc' _ _).size
                    have HPn : Hid ((tm.alloc (.cells #[.int .i64 0, .int .i64 0, .int .i64 0, .int .i64 0] 29)).heap[tm.heap.size]? = some (.cells #[.int .i64 0, .int .i64 0, .int .i64 0, .int .i64 0] 29 (0, 0))) := heap_alloc_new _ _
                    have hpo : ∀ g9, (Value.slice a j cv).ownBlock = some g9 → g9 < tm.heap.size := fun g9 h9 => (HOm.out.lt g9 h9).2
                    have hpB : B1 ≤ tm.heap.size := hSm
                    have hSnew : (tm.alloc (.cells #[.int .i64 0, .int .i64 0, .int .i64 0, .int .i64 0] 29)).cell? ⟨gw, 0, none⟩ = some (.string ⟨x0.toArray⟩) ∧ (tm.alloc (.cells #[.int .i64 0, .int .i64 0, .int .i64 0, .int .i64 0] 29)).cell? ⟨gw, 1, none⟩ = some (.string ⟨x1.toArray⟩) ∧ (tm.alloc (.cells #[.int .i64 0, .int .i64 0, .int .i64 0, .int .i64 0] 29)).cell? ⟨gw, 2, none⟩ = some (.string ⟨x2.toArray⟩) ∧ (tm.alloc (.cells #[.int .i64 0, .int .i64 0, .int .i64 0, .int .i64 0] 29)).cell? ⟨gw, 3, none⟩ = some (.string ⟨x3.toArray⟩) := (fun blk9 => ⟨(Below.cell blk9 (block_lt_of_cell hHeld.1)).trans hHeld.1, (Below.cell blk9 (block_lt_of_cell hHeld.2.1)).trans hHeld.2.1, (Below.cell blk9 (block_lt_of_cell hHeld.2.2.1)).trans hHeld.2.2.1, (Below.cell blk9 (block_lt_of_cell hHeld.2.2.2)).trans hHeld.2.2.2⟩) (below_alloc' tm (.cells #[.int .i64 0, .int .i64 0, .int .i64 0, .int .i64 0] 29))
                    refine hK.out _ _ hSnew (fun hHeld18 => ?_)
                    clear hK K hSnew
                    clear hHeld
                    have hHeld := hHeld18
                    clear hHeld18
                    try simp only [Act.put, List.setIfInBounds_toArray, List.set_cons_zero, List.set_cons_succ]
                    obtain ⟨pp9, hpp9⟩ : ∃ pp9, tm.heap.size = pp9 := ⟨_, rfl⟩
                    obtain ⟨tn, htn⟩ : ∃ tn, tm.alloc (.cells #[.int .i64 0, .int .i64 0, .int .i64 0, .int .i64 0] 29) = tn := ⟨_, rfl⟩
                    rw [htn] at HBn HQn HRn HOn HPn hHeld hSn ⊢
                    rw [hpp9] at HPn hpo hpB ⊢
                    clear HBm HQm HRm HOm hSm htn hpp9 tm
                    refine wpAnyH_ready (rs := [11]) (by kernel_rfl) (by simp) ?_
                    refine AllReadyH.cons (o := { dst := some 122, op := Op.call { callee := Callee.value (Operand.func 27), args := #[Operand.tmp 121], argTypes := #[9] }, type := 3, pos := "text.go:163", after := #[{ on := 10, ground := Ground.data }, { on := 7, ground := Ground.chain }], guard := none }) rfl (fun K hK => ?_) AllReadyH.nil
                    go_simp
                    go_at_call 27
                    refine (HU2.out _).mono ?_
                    rintro e tz ⟨rfl, h9⟩
                    rw [h9]
                    clear h9
                    have hSnew := hHeld
                    go_wp2_with fail
                    refine hK.out _ _ hSnew (fun hHeld11 => ?_)
                    clear hK K hSnew
                    clear hHeld
                    have hHeld := hHeld11
                    clear hHeld11
                    try simp only [Act.put, List.setIfInBounds_toArray, List.set_cons_zero, List.set_cons_succ]
                    refine wpAnyH_take (i := 12) (oi := { dst := some 123, op := Op.build 27 #[(0, Operand.tmp 118), (1, Operand.tmp 122)], type := 27, pos := "text.go:163", after := #[{ on := 7, ground := Ground.data }, { on := 11, ground := Ground.data }], guard := none }) (v := ?v12q27) rfl (by kernel_rfl) (by kernel_rfl) (by kernel_rfl) (fun _ _ _ h => h) (Or.inl ⟨by rfl, ?y12q27⟩) (by assumption) ?r12q27
                    case y12q27 => (intro x hx; (try dsimp only at hx); go_simp; try with_reducible rfl)
                    try simp only [Act.put, List.setIfInBounds_toArray, List.set_cons_zero, List.set_cons_succ]
                    refine wpAnyH_ready (rs := [16]) (by kernel_rfl) (by simp) ?_
                    refine AllReadyH.cons (o := { dst := some 127, op := Op.call { callee := Callee.value (Operand.func 27), args := #[Operand.tmp 126], argTypes := #[9] }, type := 3, pos := "text.go:163", after := #[{ on := 15, ground := Ground.data }, { on := 11, ground := Ground.chain }], guard := none }) rfl (fun K hK => ?_) AllReadyH.nil
                    go_simp
                    go_at_call 27
                    refine (HU3.out _).mono ?_
                    rintro e tz ⟨rfl, h9⟩
                    rw [h9]
                    clear h9
                    have hSnew := hHeld
                    go_wp2_with fail
                    refine hK.out _ _ hSnew (fun hHeld16 => ?_)
                    clear hK K hSnew
                    clear hHeld
                    have hHeld := hHeld16
                    clear hHeld16
                    try simp only [Act.put, List.setIfInBounds_toArray, List.set_cons_zero, List.set_cons_succ]
                    refine wpAnyH_take (i := 17) (oi := { dst := some 128, op := Op.build 29 #[(0, Operand.tmp 114), (1, Operand.tmp 123), (2, Operand.tmp 127)], type := 29, pos := "text.go:163", after := #[{ on := 3, ground := Ground.data }, { on := 12, ground := Ground.data }, { on := 16, ground := Ground.data }], guard := none }) (v := ?v17q29) rfl (by kernel_rfl) (by kernel_rfl) (by kernel_rfl) (fun _ _ _ h => h) (Or.inl ⟨by rfl, ?y17q29⟩) (by assumption) ?r17q29
                    case y17q29 => (intro x hx; (try dsimp only at hx); go_simp; try with_reducible rfl)
                    try simp only [Act.put, List.setIfInBounds_toArray, List.set_cons_zero, List.set_cons_succ]
                    obtain ⟨p0, p1, p2, p3⟩ := cells4x HPn.out
                    have pf0 := frozen7 HPn.out 0
                    have pf1 := frozen7 HPn.out 1
                    have pf2 := frozen7 HPn.out 2
                    have pf3 := frozen7 HPn.out 3
                    have HGS : Hid (tn.grownBy ((((tn.setCell ⟨pp9, 0, none⟩ (.int .i64 K0)).setCell ⟨pp9, 1, none⟩ (.int .i64 K1)).setCell ⟨pp9, 2, none⟩ (.int .i64 K2)).setCell ⟨pp9, 3, none⟩ (.int .i64 K3)) (some pp9)) := grown4 _ _ _ _ _ _
                    have HPs : Hid (((((tn.setCell ⟨pp9, 0, none⟩ (.int .i64 K0)).setCell ⟨pp9, 1, none⟩ (.int .i64 K1)).setCell ⟨pp9, 2, none⟩ (.int .i64 K2)).setCell ⟨pp9, 3, none⟩ (.int .i64 K3)).heap[pp9]? = some (.cells #[.int .i64 K0, .int .i64 K1, .int .i64 K2, .int .i64 K3] 29 (0, 0))) := blk4_set HPn.out _ _ _ _
                    refine wpAnyH_ready (rs := [19]) (by kernel_rfl) (by simp) ?_
                    refine AllReadyH.cons (o := { dst := none, op := Op.store 29 (Operand.tmp 16) (Operand.tmp 128), type := 0, pos := "text.go:163", after := #[{ on := 18, ground := Ground.data }, { on := 17, ground := Ground.data }, { on := 16, ground := Ground.chain }, { on := 0, ground := Ground.phase }, { on := 1, ground := Ground.phase }, { on := 2, ground := Ground.phase }, { on := 3, ground := Ground.phase }, { on := 4, ground := Ground.phase }, { on := 5, ground := Ground.phase }, { on := 6, ground := Ground.phase }, { on := 7, ground := Ground.phase }, { on := 8, ground := Ground.phase }, { on := 9, ground := Ground.phase }, { on := 10, ground := Ground.phase }, { on := 11, ground := Ground.phase }, { on := 12, ground := Ground.phase }, { on := 13, ground := Ground.phase }, { on := 14, ground := Ground.phase }, { on := 15, ground := Ground.phase }, { on := 16, ground := Ground.phase }, { on := 17, ground := Ground.phase }, { on := 18, ground := Ground.phase }], guard := none }) rfl (fun K hK => ?_) AllReadyH.nil
                    go_simp
                    go_wp2_with fail
                    have hgw : gw ≠ pp9 := fun e9 => by have h8 := hHeld.1; rw [e9] at h8; simp [World.cell?, HPn.out] at h8
                    obtain ⟨ts, hts⟩ : ∃ ts, ((((tn.setCell ⟨pp9, 0, none⟩ (.int .i64 K0)).setCell ⟨pp9, 1, none⟩ (.int .i64 K1)).setCell ⟨pp9, 2, none⟩ (.int .i64 K2)).setCell ⟨pp9, 3, none⟩ (.int .i64 K3)) = ts := ⟨_, rfl⟩
                    rw [hts] at HGS HPs ⊢
                    clear hts
                    have hSnew := held_grown HGS.out hgw hHeld
                    refine hK.out _ _ hSnew (fun hHeld19 => ?_)
                    clear hK K hSnew
                    clear hHeld
                    have hHeld := hHeld19
                    clear hHeld19
                    try simp only [Act.put, List.setIfInBounds_toArray, List.set_cons_zero, List.set_cons_succ]
                    refine wpAnyH_done (by kernel_rfl) ?_ _
                    clear hHeld p0 p1 p2 p3 pf0 pf1 pf2 pf3
                    have hp2 : B1 ≤ pp9 := hpB
                    have HQs : Hid (ts.heap[w.heap.size + 1]? = some (.cells #[.int .u64 (f0 : Int), .int .i64 f1, .int .i64 f2, .int .i64 f3, .int .i64 f4, .bool f5, .slice a j cv] 25 (0, 0))) := (HGS.out.block _ (lt_of_blk HQn.out) (fun e9 => by have := Option.some.inj e9; omega)).trans HQn.out
                    have HRs : Hid (ts.heap[w.heap.size]? = some (.cells #[.int .u64 0, .int .i64 0, .int .i64 0, .int .i64 0, .int .i64 0, .bool false, .slice none 0 0] 25 (0, 0))) := (HGS.out.block _ (lt_of_blk HRn.out) (fun e9 => by have := Option.some.inj e9; omega)).trans HRn.out
                    have HBs : Hid (Below w.heap.size w ts) := HBn.out.grown HGS.out HBn.out.size (fun i9 h9 => by cases h9; omega)
                    have HOs : Hid (ts.ownsRow B1 29 4 (.slice a j cv) j (flatF gs)) := HOn.out.kept HGS.out (by cases h9 : (Value.slice a j cv).ownBlock with | none => exact Or.inl rfl | some g9 => exact Or.inr (fun e9 => by have h8 := hpo g9 h9; have := Option.some.inj e9; omega))
                    have hSs : B1 ≤ ts.heap.size := Nat.le_trans hSn HGS.out.size
                    clear HGS HQn HRn HBn HOn HPn hSn hpo hgw hpB
                    obtain ⟨p0, p1, p2, p3⟩ := cells4x HPs.out
                    go_wp2_with (first
                      | (go_at_call 23; refine (HRW.out _ (p10_below HT.out HBs.out)).mono ?_; rintro e t5 ⟨rfl, bl5⟩
                         have HB5 : Hid (Below w.heap.size w t5) := below_trans HBs.out bl5
                         have HQ5 : Hid (t5.heap[w.heap.size + 1]? = some (.cells #[.int .u64 (f0 : Int), .int .i64 f1, .int .i64 f2, .int .i64 f3, .int .i64 f4, .bool f5, .slice a j cv] 25 (0, 0))) := blk_up HQs.out bl5
                         have HR5 : Hid (t5.heap[w.heap.size]? = some (.cells #[.int .u64 0, .int .i64 0, .int .i64 0, .int .i64 0, .int .i64 0, .bool false, .slice none 0 0] 25 (0, 0))) := blk_up HRs.out bl5
                         have HO5 : Hid (t5.ownsRow B1 29 4 (.slice a j cv) j (flatF gs)) := ownF_below HOs.out bl5
                         have hS5 : B1 ≤ t5.heap.size := Nat.le_trans hSs bl5.size
                         have HP5 : Hid (t5.heap[pp9]? = some (.cells #[.int .i64 K0, .int .i64 K1, .int .i64 K2, .int .i64 K3] 29 (0, 0))) := blk_up HPs.out bl5
                         clear p0 p1 p2 p3 bl5 HBs HQs HRs HOs HPs hSs
                         obtain ⟨q0, q1, q2, q3, q4, q5, q6⟩ := cells7 HQ5.out
                         obtain ⟨s0, s1, s2, s3⟩ := cells4x HP5.out)
                      | (at_builtin; refine wpList_append_F rfl (.tmp 136) (.tmp 138) rfl B1 _ j gs rfl (HO5.out.alloc _) _ 1 1 [⟨K0, K1, K2, K3⟩] rfl (oneF t5 ⟨K0, K1, K2, K3⟩) (by omega) (by simp; omega) ?_; intro v3 t3 own3 grow3
                         have HO3 : Hid (t3.ownsRow B1 29 4 v3 (j + 1) (flatF (gs ++ [⟨K0, K1, K2, K3⟩]))) := own3
                         have hob : ∀ i, (Value.slice a j cv).ownBlock = some i → B1 ≤ i := fun i hi => (HO5.out.lt i hi).1
                         have grow4 : t5.grownBy t3 (Value.slice a j cv).ownBlock := ⟨grow3.os, grow3.tape, grow3.output, Nat.le_trans (by simp) grow3.size, fun i hi hne => (grow3.block i (by simp; omega) hne).trans (Below.heap_alloc _ _ _ hi)⟩
                         have HQ6 : Hid (t3.heap[w.heap.size + 1]? = some (.cells #[.int .u64 (f0 : Int), .int .i64 f1, .int .i64 f2, .int .i64 f3, .int .i64 f4, .bool f5, .slice a j cv] 25 (0, 0))) := (grow4.block _ (lt_of_blk HQ5.out) (fun e => by have := hob _ e.symm; omega)).trans HQ5.out
                         have HR6 : Hid (t3.heap[w.heap.size]? = some (.cells #[.int .u64 0, .int .i64 0, .int .i64 0, .int .i64 0, .int .i64 0, .bool false, .slice none 0 0] 25 (0, 0))) := (grow4.block _ (lt_of_blk HR5.out) (fun e => by have := hob _ e.symm; omega)).trans HR5.out
                         have HB6 : Hid (Below w.heap.size w t3) := HB5.out.grown grow4 HB5.out.size (fun i hi => by have := hob i hi; omega)
                         have hS6 : B1 ≤ t3.heap.size := Nat.le_trans hS5 grow4.size
                         obtain ⟨g9, cp, rfl, hcp1, hcp2, hg91, hg92⟩ := own_shapeF HO3.out (by omega)
                         obtain ⟨d0, d1, d2, d3, d4, d5, d6⟩ := cells7 HQ6.out
                         have fz := frozen7 HQ6.out 6
                         clear own3 grow3 grow4 hob q0 q1 q2 q3 q4 q5 q6 s0 s1 s2 s3 d0 d1 d2 d3 d4 d5))
                    have HB7 : Hid (Below w.heap.size w (t3.setCell ⟨w.heap.size + 1, 6, none⟩ (.slice (some ⟨g9, 0, none⟩) (j + 1) cp))) := HB6.out.grown (set_grown _ _ _ _) HB6.out.size (fun i hi => by cases hi; omega)
                    have HQ7 : Hid ((t3.setCell ⟨w.heap.size + 1, 6, none⟩ (.slice (some ⟨g9, 0, none⟩) (j + 1) cp)).heap[w.heap.size + 1]? = some (.cells #[.int .u64 (f0 : Int), .int .i64 f1, .int .i64 f2, .int .i64 f3, .int .i64 f4, .bool f5, .slice (some ⟨g9, 0, none⟩) (j + 1) cp] 25 (0, 0))) := Joins.block_setCell HQ6.out _
                    have HR7 : Hid ((t3.setCell ⟨w.heap.size + 1, 6, none⟩ (.slice (some ⟨g9, 0, none⟩) (j + 1) cp)).heap[w.heap.size]? = some (.cells #[.int .u64 0, .int .i64 0, .int .i64 0, .int .i64 0, .int .i64 0, .bool false, .slice none 0 0] 25 (0, 0))) := ((set_grown _ _ _ _).block _ (lt_of_blk HR6.out) (fun e => by have := Option.some.inj e; omega)).trans HR6.out
                    have HO7 : Hid ((t3.setCell ⟨w.heap.size + 1, 6, none⟩ (.slice (some ⟨g9, 0, none⟩) (j + 1) cp)).ownsRow B1 29 4 (.slice (some ⟨g9, 0, none⟩) (j + 1) cp) (j + 1) (flatF (gs ++ [⟨K0, K1, K2, K3⟩]))) := HO3.out.kept (set_grown _ _ _ _) (Or.inr (fun e => by have h8 : g9 = w.heap.size + 1 := Option.some.inj e; omega))
                    have hS7 : B1 ≤ (t3.setCell ⟨w.heap.size + 1, 6, none⟩ (.slice (some ⟨g9, 0, none⟩) (j + 1) cp)).heap.size := Nat.le_trans hS6 (set_grown t3 (w.heap.size + 1) 6 (.slice (some ⟨g9, 0, none⟩) (j + 1) cp)).size
                    go_roundw
                    case rel => exact ⟨j + 1, gs ++ [(⟨K0, K1, K2, K3⟩ : Fd)], Rs, _, by first | go_num | (simp; omega), rfl, HRL.out.1, HX.out, HO7.out, HQ7.out, HR7.out, HB7.out, hS7⟩
                    case measure => simp [slen, ByteArray.size]; exact HRL.out.2
                · go_simp
                  go_wp2_with fail
                  have HBn : Hid (Below w.heap.size w (tm.alloc (.cells #[.int .i64 0, .int .i64 0, .int .i64 0, .int .i64 0] 29))) := below_trans HBm.out (below_alloc' _ _)
                  have HQn : Hid ((tm.alloc (.cells #[.int .i64 0, .int .i64 0, .int .i64 0, .int .i64 0] 29)).heap[w.heap.size + 1]? = some (.cells #[.int .u64 (f0 : Int), .int .i64 f1, .int .i64 f2, .int .i64 f3, .int .i64 f4, .bool f5, .slice a j cv] 25 (0, 0))) := blk_up HQm.out (below_alloc' _ _)
                  have HRn : Hid ((tm.alloc (.cells #[.int .i64 0, .int .i64 0, .int .i64 0, .int .i64 0] 29)).heap[w.heap.size]? = some (.cells #[.int .u64 0, .int .i64 0, .int .i64 0, .int .i64 0, .int .i64 0, .bool false, .slice none 0 0] 25 (0, 0))) := blk_up HRm.out (below_alloc' _ _)
                  have HOn : Hid ((tm.alloc (.cells #[.int .i64 0, .int .i64 0, .int .i64 0, .int .i64 0] 29)).ownsRow B1 29 4 (.slice a j cv) j (flatF gs)) := HOm.out.alloc _
                  have hSn : B1 ≤ (tm.alloc (.cells #[.int .i64 0, .int .i64 0, .int .i64 0, .int .i64 0] 29)).heap.size := Nat.le_trans hSm (below_alloc' _ _).size
                  have HPn : Hid ((tm.alloc (.cells #[.int .i64 0, .int .i64 0, .int .i64 0, .int .i64 0] 29)).heap[tm.heap.size]? = some (.cells #[.int .i64 0, .int .i64 0, .int .i64 0, .int .i64 0] 29 (0, 0))) := heap_alloc_new _ _
                  have hpo : ∀ g9, (Value.slice a j cv).ownBlock = some g9 → g9 < tm.heap.size := fun g9 h9 => (HOm.out.lt g9 h9).2
                  have hpB : B1 ≤ tm.heap.size := hSm
                  have hSnew : (tm.alloc (.cells #[.int .i64 0, .int .i64 0, .int .i64 0, .int .i64 0] 29)).cell? ⟨gw, 0, none⟩ = some (.string ⟨x0.toArray⟩) ∧ (tm.alloc (.cells #[.int .i64 0, .int .i64 0, .int .i64 0, .int .i64 0] 29)).cell? ⟨gw, 1, none⟩ = some (.string ⟨x1.toArray⟩) ∧ (tm.alloc (.cells #[.int .i64 0, .int .i64 0, .int .i64 0, .int .i64 0] 29)).cell? ⟨gw, 2, none⟩ = some (.string ⟨x2.toArray⟩) ∧ (tm.alloc (.cells #[.int .i64 0, .int .i64 0, .int .i64 0, .int .i64 0] 29)).cell? ⟨gw, 3, none⟩ = some (.string ⟨x3.toArray⟩) := (fun blk9 => ⟨(Below.cell blk9 (block_lt_of_cell hHeld.1)).trans hHeld.1, (Below.cell blk9 (block_lt_of_cell hHeld.2.1)).trans hHeld.2.1, (Below.cell blk9 (block_lt_of_cell hHeld.2.2.1)).trans hHeld.2.2.1, (Below.cell blk9 (block_lt_of_cell hHeld.2.2.2)).trans hHeld.2.2.2⟩) (below_alloc' tm (.cells #[.int .i64 0, .int .i64 0, .int .i64 0, .int .i64 0] 29))
                  refine hK.out _ _ hSnew (fun hHeld18 => ?_)
                  clear hK K hSnew
                  clear hHeld
                  have hHeld := hHeld18
                  clear hHeld18
                  try simp only [Act.put, List.setIfInBounds_toArray, List.set_cons_zero, List.set_cons_succ]
                  obtain ⟨pp9, hpp9⟩ : ∃ pp9, tm.heap.size = pp9 := ⟨_, rfl⟩
                  obtain ⟨tn, htn⟩ : ∃ tn, tm.alloc (.cells #[.int .i64 0, .int .i64 0, .int .i64 0, .int .i64 0] 29) = tn := ⟨_, rfl⟩
                  rw [htn] at HBn HQn HRn HOn HPn hHeld hSn ⊢
                  rw [hpp9] at HPn hpo hpB ⊢
                  clear HBm HQm HRm HOm hSm htn hpp9 tm
                  refine wpAnyH_ready (rs := [7]) (by kernel_rfl) (by simp) ?_
                  refine AllReadyH.cons (o := { dst := some 118, op := Op.call { callee := Callee.value (Operand.func 27), args := #[Operand.tmp 117], argTypes := #[9] }, type := 3, pos := "text.go:163", after := #[{ on := 6, ground := Ground.data }, { on := 3, ground := Ground.chain }], guard := none }) rfl (fun K hK => ?_) AllReadyH.nil
                  go_simp
                  go_at_call 27
                  refine (HU1.out _).mono ?_
                  rintro e tz ⟨rfl, h9⟩
                  rw [h9]
                  clear h9
                  have hSnew := hHeld
                  go_wp2_with fail
                  refine hK.out _ _ hSnew (fun hHeld7 => ?_)
                  clear hK K hSnew
                  clear hHeld
                  have hHeld := hHeld7
                  clear hHeld7
                  try simp only [Act.put, List.setIfInBounds_toArray, List.set_cons_zero, List.set_cons_succ]
                  refine wpAnyH_ready (rs := [11]) (by kernel_rfl) (by simp) ?_
                  refine AllReadyH.cons (o := { dst := some 122, op := Op.call { callee := Callee.value (Operand.func 27), args := #[Operand.tmp 121], argTypes := #[9] }, type := 3, pos := "text.go:163", after := #[{ on := 10, ground := Ground.data }, { on := 7, ground := Ground.chain }], guard := none }) rfl (fun K hK => ?_) AllReadyH.nil
                  go_simp
                  go_at_call 27
                  refine (HU2.out _).mono ?_
                  rintro e tz ⟨rfl, h9⟩
                  rw [h9]
                  clear h9
                  have hSnew := hHeld
                  go_wp2_with fail
                  refine hK.out _ _ hSnew (fun hHeld11 => ?_)
                  clear hK K hSnew
                  clear hHeld
                  have hHeld := hHeld11
                  clear hHeld11
                  try simp only [Act.put, List.setIfInBounds_toArray, List.set_cons_zero, List.set_cons_succ]
                  refine wpAnyH_take (i := 12) (oi := { dst := some 123, op := Op.build 27 #[(0, Operand.tmp 118), (1, Operand.tmp 122)], type := 27, pos := "text.go:163", after := #[{ on := 7, ground := Ground.data }, { on := 11, ground := Ground.data }], guard := none }) (v := ?v12q31) rfl (by kernel_rfl) (by kernel_rfl) (by kernel_rfl) (fun _ _ _ h => h) (Or.inl ⟨by rfl, ?y12q31⟩) (by assumption) ?r12q31
                  case y12q31 => (intro x hx; (try dsimp only at hx); go_simp; try with_reducible rfl)
                  try simp only [Act.put, List.setIfInBounds_toArray, List.set_cons_zero, List.set_cons_succ]
                  refine wpAnyH_ready (rs := [16]) (by kernel_rfl) (by simp) ?_
                  refine AllReadyH.cons (o := { dst := some 127, op := Op.call { callee := Callee.value (Operand.func 27), args := #[Operand.tmp 126], argTypes := #[9] }, type := 3, pos := "text.go:163", after := #[{ on := 15, ground := Ground.data }, { on := 11, ground := Ground.chain }], guard := none }) rfl (fun K hK => ?_) AllReadyH.nil
                  go_simp
                  go_at_call 27
                  refine (HU3.out _).mono ?_
                  rintro e tz ⟨rfl, h9⟩
                  rw [h9]
                  clear h9
                  have hSnew := hHeld
                  go_wp2_with fail
                  refine hK.out _ _ hSnew (fun hHeld16 => ?_)
                  clear hK K hSnew
                  clear hHeld
                  have hHeld := hHeld16
                  clear hHeld16
                  try simp only [Act.put, List.setIfInBounds_toArray, List.set_cons_zero, List.set_cons_succ]
                  refine wpAnyH_take (i := 17) (oi := { dst := some 128, op := Op.build 29 #[(0, Operand.tmp 114), (1, Operand.tmp 123), (2, Operand.tmp 127)], type := 29, pos := "text.go:163", after := #[{ on := 3, ground := Ground.data }, { on := 12, ground := Ground.data }, { on := 16, ground := Ground.data }], guard := none }) (v := ?v17q33) rfl (by kernel_rfl) (by kernel_rfl) (by kernel_rfl) (fun _ _ _ h => h) (Or.inl ⟨by rfl, ?y17q33⟩) (by assumption) ?r17q33
                  case y17q33 => (intro x hx; (try dsimp only at hx); go_simp; try with_reducible rfl)
                  try simp only [Act.put, List.setIfInBounds_toArray, List.set_cons_zero, List.set_cons_succ]
                  obtain ⟨p0, p1, p2, p3⟩ := cells4x HPn.out
                  have pf0 := frozen7 HPn.out 0
                  have pf1 := frozen7 HPn.out 1
                  have pf2 := frozen7 HPn.out 2
                  have pf3 := frozen7 HPn.out 3
                  have HGS : Hid (tn.grownBy ((((tn.setCell ⟨pp9, 0, none⟩ (.int .i64 K0)).setCell ⟨pp9, 1, none⟩ (.int .i64 K1)).setCell ⟨pp9, 2, none⟩ (.int .i64 K2)).setCell ⟨pp9, 3, none⟩ (.int .i64 K3)) (some pp9)) := grown4 _ _ _ _ _ _
                  have HPs : Hid (((((tn.setCell ⟨pp9, 0, none⟩ (.int .i64 K0)).setCell ⟨pp9, 1, none⟩ (.int .i64 K1)).setCell ⟨pp9, 2, none⟩ (.int .i64 K2)).setCell ⟨pp9, 3, none⟩ (.int .i64 K3)).heap[pp9]? = some (.cells #[.int .i64 K0, .int .i64 K1, .int .i64 K2, .int .i64 K3] 29 (0, 0))) := blk4_set HPn.out _ _ _ _
                  refine wpAnyH_ready (rs := [19]) (by kernel_rfl) (by simp) ?_
                  refine AllReadyH.cons (o := { dst := none, op := Op.store 29 (Operand.tmp 16) (Operand.tmp 128), type := 0, pos := "text.go:163", after := #[{ on := 18, ground := Ground.data }, { on := 17, ground := Ground.data }, { on := 16, ground := Ground.chain }, { on := 0, ground := Ground.phase }, { on := 1, ground := Ground.phase }, { on := 2, ground := Ground.phase }, { on := 3, ground := Ground.phase }, { on := 4, ground := Ground.phase }, { on := 5, ground := Ground.phase }, { on := 6, ground := Ground.phase }, { on := 7, ground := Ground.phase }, { on := 8, ground := Ground.phase }, { on := 9, ground := Ground.phase }, { on := 10, ground := Ground.phase }, { on := 11, ground := Ground.phase }, { on := 12, ground := Ground.phase }, { on := 13, ground := Ground.phase }, { on := 14, ground := Ground.phase }, { on := 15, ground := Ground.phase }, { on := 16, ground := Ground.phase }, { on := 17, ground := Ground.phase }, { on := 18, ground := Ground.phase }], guard := none }) rfl (fun K hK => ?_) AllReadyH.nil
                  go_simp
                  go_wp2_with fail
                  have hgw : gw ≠ pp9 := fun e9 => by have h8 := hHeld.1; rw [e9] at h8; simp [World.cell?, HPn.out] at h8
                  obtain ⟨ts, hts⟩ : ∃ ts, ((((tn.setCell ⟨pp9, 0, none⟩ (.int .i64 K0)).setCell ⟨pp9, 1, none⟩ (.int .i64 K1)).setCell ⟨pp9, 2, none⟩ (.int .i64 K2)).setCell ⟨pp9, 3, none⟩ (.int .i64 K3)) = ts := ⟨_, rfl⟩
                  rw [hts] at HGS HPs ⊢
                  clear hts
                  have hSnew := held_grown HGS.out hgw hHeld
                  refine hK.out _ _ hSnew (fun hHeld19 => ?_)
                  clear hK K hSnew
                  clear hHeld
                  have hHeld := hHeld19
                  clear hHeld19
                  try simp only [Act.put, List.setIfInBounds_toArray, List.set_cons_zero, List.set_cons_succ]
                  refine wpAnyH_done (by kernel_rfl) ?_ _
                  clear hHeld p0 p1 p2 p3 pf0 pf1 pf2 pf3
                  have hp2 : B1 ≤ pp9 := hpB
                  have HQs : Hid (ts.heap[w.heap.size + 1]? = some (.cells #[.int .u64 (f0 : Int), .int .i64 f1, .int .i64 f2, .int .i64 f3, .int .i64 f4, .bool f5, .slice a j cv] 25 (0, 0))) := (HGS.out.block _ (lt_of_blk HQn.out) (fun e9 => by have := Option.some.inj e9; omega)).trans HQn.out
                  have HRs : Hid (ts.heap[w.heap.size]? = some (.cells #[.int .u64 0, .int .i64 0, .int .i64 0, .int .i64 0, .int .i64 0, .bool false, .slice none 0 0] 25 (0, 0))) := (HGS.out.block _ (lt_of_blk HRn.out) (fun e9 => by have := Option.some.inj e9; omega)).trans HRn.out
                  have HBs : Hid (Below w.heap.size w ts) := HBn.out.grown HGS.out HBn.out.size (fun i9 h9 => by cases h9; omega)
                  have HOs : Hid (ts.ownsRow B1 29 4 (.slice a j cv) j (flatF gs)) := HOn.out.kept HGS.out (by cases h9 : (Value.slice a j cv).ownBlock with | none => exact Or.inl rfl | some g9 => exact Or.inr (fun e9 => by have h8 := hpo g9 h9; have := Option.some.inj e9; omega))
                  have hSs : B1 ≤ ts.heap.size := Nat.le_trans hSn HGS.out.size
                  clear HGS HQn HRn HBn HOn HPn hSn hpo hgw hpB
                  obtain ⟨p0, p1, p2, p3⟩ := cells4x HPs.out
                  go_wp2_with (first
                    | (go_at_call 23; refine (HRW.out _ (p10_below HT.out HBs.out)).mono ?_; rintro e t5 ⟨rfl, bl5⟩
                       have HB5 : Hid (Below w.heap.size w t5) := below_trans HBs.out bl5
                       have HQ5 : Hid (t5.heap[w.heap.size + 1]? = some (.cells #[.int .u64 (f0 : Int), .int .i64 f1, .int .i64 f2, .int .i64 f3, .int .i64 f4, .bool f5, .slice a j cv] 25 (0, 0))) := blk_up HQs.out bl5
                       have HR5 : Hid (t5.heap[w.heap.size]? = some (.cells #[.int .u64 0, .int .i64 0, .int .i64 0, .int .i64 0, .int .i64 0, .bool false, .slice none 0 0] 25 (0, 0))) := blk_up HRs.out bl5
                       have HO5 : Hid (t5.ownsRow B1 29 4 (.slice a j cv) j (flatF gs)) := ownF_below HOs.out bl5
                       have hS5 : B1 ≤ t5.heap.size := Nat.le_trans hSs bl5.size
                       have HP5 : Hid (t5.heap[pp9]? = some (.cells #[.int .i64 K0, .int .i64 K1, .int .i64 K2, .int .i64 K3] 29 (0, 0))) := blk_up HPs.out bl5
                       clear p0 p1 p2 p3 bl5 HBs HQs HRs HOs HPs hSs
                       obtain ⟨q0, q1, q2, q3, q4, q5, q6⟩ := cells7 HQ5.out
                       obtain ⟨s0, s1, s2, s3⟩ := cells4x HP5.out)
                    | (at_builtin; refine wpList_append_F rfl (.tmp 136) (.tmp 138) rfl B1 _ j gs rfl (HO5.out.alloc _) _ 1 1 [⟨K0, K1, K2, K3⟩] rfl (oneF t5 ⟨K0, K1, K2, K3⟩) (by omega) (by simp; omega) ?_; intro v3 t3 own3 grow3
                       have HO3 : Hid (t3.ownsRow B1 29 4 v3 (j + 1) (flatF (gs ++ [⟨K0, K1, K2, K3⟩]))) := own3
                       have hob : ∀ i, (Value.slice a j cv).ownBlock = some i → B1 ≤ i := fun i hi => (HO5.out.lt i hi).1
                       have grow4 : t5.grownBy t3 (Value.slice a j cv).ownBlock := ⟨grow3.os, grow3.tape, grow3.output, Nat.le_trans (by simp) grow3.size, fun i hi hne => (grow3.block i (by simp; omega) hne).trans (Below.heap_alloc _ _ _ hi)⟩
                       have HQ6 : Hid (t3.heap[w.heap.size + 1]? = some (.cells #[.int .u64 (f0 : Int), .int .i64 f1, .int .i64 f2, .int .i64 f3, .int .i64 f4, .bool f5, .slice a j cv] 25 (0, 0))) := (grow4.block _ (lt_of_blk HQ5.out) (fun e => by have := hob _ e.symm; omega)).trans HQ5.out
                       have HR6 : Hid (t3.heap[w.heap.size]? = some (.cells #[.int .u64 0, .int .i64 0, .int .i64 0, .int .i64 0, .int .i64 0, .bool false, .slice none 0 0] 25 (0, 0))) := (grow4.block _ (lt_of_blk HR5.out) (fun e => by have := hob _ e.symm; omega)).trans HR5.out
                       have HB6 : Hid (Below w.heap.size w t3) := HB5.out.grown grow4 HB5.out.size (fun i hi => by have := hob i hi; omega)
                       have hS6 : B1 ≤ t3.heap.size := Nat.le_trans hS5 grow4.size
                       obtain ⟨g9, cp, rfl, hcp1, hcp2, hg91, hg92⟩ := own_shapeF HO3.out (by omega)
                       obtain ⟨d0, d1, d2, d3, d4, d5, d6⟩ := cells7 HQ6.out
                       have fz := frozen7 HQ6.out 6
                       clear own3 grow3 grow4 hob q0 q1 q2 q3 q4 q5 q6 s0 s1 s2 s3 d0 d1 d2 d3 d4 d5))
                  have HB7 : Hid (Below w.heap.size w (t3.setCell ⟨w.heap.size + 1, 6, none⟩ (.slice (some ⟨g9, 0, none⟩) (j + 1) cp))) := HB6.out.grown (set_grown _ _ _ _) HB6.out.size (fun i hi => by cases hi; omega)
                  have HQ7 : Hid ((t3.setCell ⟨w.heap.size + 1, 6, none⟩ (.slice (some ⟨g9, 0, none⟩) (j + 1) cp)).heap[w.heap.size + 1]? = some (.cells #[.int .u64 (f0 : Int), .int .i64 f1, .int .i64 f2, .int .i64 f3, .int .i64 f4, .bool f5, .slice (some ⟨g9, 0, none⟩) (j + 1) cp] 25 (0, 0))) := Joins.block_setCell HQ6.out _
                  have HR7 : Hid ((t3.setCell ⟨w.heap.size + 1, 6, none⟩ (.slice (some ⟨g9, 0, none⟩) (j + 1) cp)).heap[w.heap.size]? = some (.cells #[.int .u64 0, .int .i64 0, .int .i64 0, .int .i64 0, .int .i64 0, .bool false, .slice none 0 0] 25 (0, 0))) := ((set_grown _ _ _ _).block _ (lt_of_blk HR6.out) (fun e => by have := Option.some.inj e; omega)).trans HR6.out
                  have HO7 : Hid ((t3.setCell ⟨w.heap.size + 1, 6, none⟩ (.slice (some ⟨g9, 0, none⟩) (j + 1) cp)).ownsRow B1 29 4 (.slice (some ⟨g9, 0, none⟩) (j + 1) cp) (j + 1) (flatF (gs ++ [⟨K0, K1, K2, K3⟩]))) := HO3.out.kept (set_grown _ _ _ _) (Or.inr (fun e => by have h8 : g9 = w.heap.size + 1 := Option.some.inj e; omega))
                  have hS7 : B1 ≤ (t3.setCell ⟨w.heap.size + 1, 6, none⟩ (.slice (some ⟨g9, 0, none⟩) (j + 1) cp)).heap.size := Nat.le_trans hS6 (set_grown t3 (w.heap.size + 1) 6 (.slice (some ⟨g9, 0, none⟩) (j + 1) cp)).size
                  go_roundw
                  case rel => exact ⟨j + 1, gs ++ [(⟨K0, K1, K2, K3⟩ : Fd)], Rs, _, by first | go_num | (simp; omega), rfl, HRL.out.1, HX.out, HO7.out, HQ7.out, HR7.out, HB7.out, hS7⟩
                  case measure => simp [slen, ByteArray.size]; exact HRL.out.2
              · go_simp
                go_wp2_with fail
                have HBn : Hid (Below w.heap.size w (tm.alloc (.cells #[.int .i64 0, .int .i64 0, .int .i64 0, .int .i64 0] 29))) := below_trans HBm.out (below_alloc' _ _)
                have HQn : Hid ((tm.alloc (.cells #[.int .i64 0, .int .i64 0, .int .i64 0, .int .i64 0] 29)).heap[w.heap.size + 1]? = some (.cells #[.int .u64 (f0 : Int), .int .i64 f1, .int .i64 f2, .int .i64 f3, .int .i64 f4, .bool f5, .slice a j cv] 25 (0, 0))) := blk_up HQm.out (below_alloc' _ _)
                have HRn : Hid ((tm.alloc (.cells #[.int .i64 0, .int .i64 0, .int .i64 0, .int .i64 0] 29)).heap[w.heap.size]? = some (.cells #[.int .u64 0, .int .i64 0, .int .i64 0, .int .i64 0, .int .i64 0, .bool false, .slice none 0 0] 25 (0, 0))) := blk_up HRm.out (below_alloc' _ _)
                have HOn : Hid ((tm.alloc (.cells #[.int .i64 0, .int .i64 0, .int .i64 0, .int .i64 0] 29)).ownsRow B1 29 4 (.slice a j cv) j (flatF gs)) := HOm.out.alloc _
                have hSn : B1 ≤ (tm.alloc (.cells #[.int .i64 0, .int .i64 0, .int .i64 0, .int .i64 0] 29)).heap.size := Nat.le_trans hSm (below_alloc' _ _).size
                have HPn : Hid ((tm.alloc (.cells #[.int .i64 0, .int .i64 0, .int .i64 0, .int .i64 0] 29)).heap[tm.heap.size]? = some (.cells #[.int .i64 0, .int .i64 0, .int .i64 0, .int .i64 0] 29 (0, 0))) := heap_alloc_new _ _
                have hpo : ∀ g9, (Value.slice a j cv).ownBlock = some g9 → g9 < tm.heap.size := fun g9 h9 => (HOm.out.lt g9 h9).2
                have hpB : B1 ≤ tm.heap.size := hSm
                have hSnew : (tm.alloc (.cells #[.int .i64 0, .int .i64 0, .int .i64 0, .int .i64 0] 29)).cell? ⟨gw, 0, none⟩ = some (.string ⟨x0.toArray⟩) ∧ (tm.alloc (.cells #[.int .i64 0, .int .i64 0, .int .i64 0, .int .i64 0] 29)).cell? ⟨gw, 1, none⟩ = some (.string ⟨x1.toArray⟩) ∧ (tm.alloc (.cells #[.int .i64 0, .int .i64 0, .int .i64 0, .int .i64 0] 29)).cell? ⟨gw, 2, none⟩ = some (.string ⟨x2.toArray⟩) ∧ (tm.alloc (.cells #[.int .i64 0, .int .i64 0, .int .i64 0, .int .i64 0] 29)).cell? ⟨gw, 3, none⟩ = some (.string ⟨x3.toArray⟩) := (fun blk9 => ⟨(Below.cell blk9 (block_lt_of_cell hHeld.1)).trans hHeld.1, (Below.cell blk9 (block_lt_of_cell hHeld.2.1)).trans hHeld.2.1, (Below.cell blk9 (block_lt_of_cell hHeld.2.2.1)).trans hHeld.2.2.1, (Below.cell blk9 (block_lt_of_cell hHeld.2.2.2)).trans hHeld.2.2.2⟩) (below_alloc' tm (.cells #[.int .i64 0, .int .i64 0, .int .i64 0, .int .i64 0] 29))
                refine hK.out _ _ hSnew (fun hHeld18 => ?_)
                clear hK K hSnew
                clear hHeld
                have hHeld := hHeld18
                clear hHeld18
                try simp only [Act.put, List.setIfInBounds_toArray, List.set_cons_zero, List.set_cons_succ]
                obtain ⟨pp9, hpp9⟩ : ∃ pp9, tm.heap.size = pp9 := ⟨_, rfl⟩
                obtain ⟨tn, htn⟩ : ∃ tn, tm.alloc (.cells #[.int .i64 0, .int .i64 0, .int .i64 0, .int .i64 0] 29) = tn := ⟨_, rfl⟩
                rw [htn] at HBn HQn HRn HOn HPn hHeld hSn ⊢
                rw [hpp9] at HPn hpo hpB ⊢
                clear HBm HQm HRm HOm hSm htn hpp9 tm
                refine wpAnyH_ready (rs := [3]) (by kernel_rfl) (by simp) ?_
                refine AllReadyH.cons (o := { dst := some 114, op := Op.call { callee := Callee.value (Operand.func 28), args := #[Operand.tmp 113], argTypes := #[9] }, type := 3, pos := "text.go:163", after := #[{ on := 2, ground := Ground.data }], guard := none }) rfl (fun K hK => ?_) AllReadyH.nil
                go_simp
                go_at_call 28
                refine (HU0.out _).mono ?_
                rintro e tk ⟨rfl, blk9⟩
                have HBk : Hid (Below w.heap.size w tk) := below_trans HBn.out blk9
                have HQk : Hid (tk.heap[w.heap.size + 1]? = some (.cells #[.int .u64 (f0 : Int), .int .i64 f1, .int .i64 f2, .int .i64 f3, .int .i64 f4, .bool f5, .slice a j cv] 25 (0, 0))) := blk_up HQn.out blk9
                have HRk : Hid (tk.heap[w.heap.size]? = some (.cells #[.int .u64 0, .int .i64 0, .int .i64 0, .int .i64 0, .int .i64 0, .bool false, .slice none 0 0] 25 (0, 0))) := blk_up HRn.out blk9
                have HOk : Hid (tk.ownsRow B1 29 4 (.slice a j cv) j (flatF gs)) := ownF_below HOn.out blk9
                have hSk : B1 ≤ tk.heap.size := Nat.le_trans hSn blk9.size
                have HPk : Hid (tk.heap[pp9]? = some (.cells #[.int .i64 0, .int .i64 0, .int .i64 0, .int .i64 0] 29 (0, 0))) := blk_up HPn.out blk9
                have hSnew : tk.cell? ⟨gw, 0, none⟩ = some (.string ⟨x0.toArray⟩) ∧ tk.cell? ⟨gw, 1, none⟩ = some (.string ⟨x1.toArray⟩) ∧ tk.cell? ⟨gw, 2, none⟩ = some (.string ⟨x2.toArray⟩) ∧ tk.cell? ⟨gw, 3, none⟩ = some (.string ⟨x3.toArray⟩) := ⟨(blk9.cell (block_lt_of_cell hHeld.1)).trans hHeld.1, (blk9.cell (block_lt_of_cell hHeld.2.1)).trans hHeld.2.1, (blk9.cell (block_lt_of_cell hHeld.2.2.1)).trans hHeld.2.2.1, (blk9.cell (block_lt_of_cell hHeld.2.2.2)).trans hHeld.2.2.2⟩
                go_wp2_with fail
                refine hK.out _ _ hSnew (fun hHeld3 => ?_)
                clear hK K hSnew
                clear hHeld
                have hHeld := hHeld3
                clear hHeld3
                try simp only [Act.put, List.setIfInBounds_toArray, List.set_cons_zero, List.set_cons_succ]
                clear HBn HQn HRn HOn HPn hSn blk9 tn
                obtain ⟨tn, htn⟩ : ∃ tn, tn = tk := ⟨_, rfl⟩
                subst htn
                have HBn := HBk
                have HQn := HQk
                have HRn := HRk
                have HOn := HOk
                have HPn := HPk
                have hSn := hSk
                clear HBk HQk HRk HOk HPk hSk
                refine wpAnyH_ready (rs := [7]) (by kernel_rfl) (by simp) ?_
                refine AllReadyH.cons (o := { dst := some 118, op := Op.call { callee := Callee.value (Operand.func 27), args := #[Operand.tmp 117], argTypes := #[9] }, type := 3, pos := "text.go:163", after := #[{ on := 6, ground := Ground.data }, { on := 3, ground := Ground.chain }], guard := none }) rfl (fun K hK => ?_) AllReadyH.nil
                go_simp
                go_at_call 27
                refine (HU1.out _).mono ?_
                rintro e tz ⟨rfl, h9⟩
                rw [h9]
                clear h9
                have hSnew := hHeld
                go_wp2_with fail
                refine hK.out _ _ hSnew (fun hHeld7 => ?_)
                clear hK K hSnew
                clear hHeld
                have hHeld := hHeld7
                clear hHeld7
                try simp only [Act.put, List.setIfInBounds_toArray, List.set_cons_zero, List.set_cons_succ]
                refine wpAnyH_ready (rs := [11]) (by kernel_rfl) (by simp) ?_
                refine AllReadyH.cons (o := { dst := some 122, op := Op.call { callee := Callee.value (Operand.func 27), args := #[Operand.tmp 121], argTypes := #[9] }, type := 3, pos := "text.go:163", after := #[{ on := 10, ground := Ground.data }, { on := 7, ground := Ground.chain }], guard := none }) rfl (fun K hK => ?_) AllReadyH.nil
                go_simp
                go_at_call 27
                refine (HU2.out _).mono ?_
                rintro e tz ⟨rfl, h9⟩
                rw [h9]
                clear h9
                have hSnew := hHeld
                go_wp2_with fail
                refine hK.out _ _ hSnew (fun hHeld11 => ?_)
                clear hK K hSnew
                clear hHeld
                have hHeld := hHeld11
                clear hHeld11
                try simp only [Act.put, List.setIfInBounds_toArray, List.set_cons_zero, List.set_cons_succ]
                refine wpAnyH_take (i := 12) (oi := { dst := some 123, op := Op.build 27 #[(0, Operand.tmp 118), (1, Operand.tmp 122)], type := 27, pos := "text.go:163", after := #[{ on := 7, ground := Ground.data }, { on := 11, ground := Ground.data }], guard := none }) (v := ?v12q36) rfl (by kernel_rfl) (by kernel_rfl) (by kernel_rfl) (fun _ _ _ h => h) (Or.inl ⟨by rfl, ?y12q36⟩) (by assumption) ?r12q36
                case y12q36 => (intro x hx; (try dsimp only at hx); go_simp; try with_reducible rfl)
                try simp only [Act.put, List.setIfInBounds_toArray, List.set_cons_zero, List.set_cons_succ]
                refine wpAnyH_ready (rs := [16]) (by kernel_rfl) (by simp) ?_
                refine AllReadyH.cons (o := { dst := some 127, op := Op.call { callee := Callee.value (Operand.func 27), args := #[Operand.tmp 126], argTypes := #[9] }, type := 3, pos := "text.go:163", after := #[{ on := 15, ground := Ground.data }, { on := 11, ground := Ground.chain }], guard := none }) rfl (fun K hK => ?_) AllReadyH.nil
                go_simp
                go_at_call 27
                refine (HU3.out _).mono ?_
                rintro e tz ⟨rfl, h9⟩
                rw [h9]
                clear h9
                have hSnew := hHeld
                go_wp2_with fail
                refine hK.out _ _ hSnew (fun hHeld16 => ?_)
                clear hK K hSnew
                clear hHeld
                have hHeld := hHeld16
                clear hHeld16
                try simp only [Act.put, List.setIfInBounds_toArray, List.set_cons_zero, List.set_cons_succ]
                refine wpAnyH_take (i := 17) (oi := { dst := some 128, op := Op.build 29 #[(0, Operand.tmp 114), (1, Operand.tmp 123), (2, Operand.tmp 127)], type := 29, pos := "text.go:163", after := #[{ on := 3, ground := Ground.data }, { on := 12, ground := Ground.data }, { on := 16, ground := Ground.data }], guard := none }) (v := ?v17q38) rfl (by kernel_rfl) (by kernel_rfl) (by kernel_rfl) (fun _ _ _ h => h) (Or.inl ⟨by rfl, ?y17q38⟩) (by assumption) ?r17q38
                case y17q38 => (intro x hx; (try dsimp only at hx); go_simp; try with_reducible rfl)
                try simp only [Act.put, List.setIfInBounds_toArray, List.set_cons_zero, List.set_cons_succ]
                obtain ⟨p0, p1, p2, p3⟩ := cells4x HPn.out
                have pf0 := frozen7 HPn.out 0
                have pf1 := frozen7 HPn.out 1
                have pf2 := frozen7 HPn.out 2
                have pf3 := frozen7 HPn.out 3
                have HGS : Hid (tn.grownBy ((((tn.setCell ⟨pp9, 0, none⟩ (.int .i64 K0)).setCell ⟨pp9, 1, none⟩ (.int .i64 K1)).setCell ⟨pp9, 2, none⟩ (.int .i64 K2)).setCell ⟨pp9, 3, none⟩ (.int .i64 K3)) (some pp9)) := grown4 _ _ _ _ _ _
                have HPs : Hid (((((tn.setCell ⟨pp9, 0, none⟩ (.int .i64 K0)).setCell ⟨pp9, 1, none⟩ (.int .i64 K1)).setCell ⟨pp9, 2, none⟩ (.int .i64 K2)).setCell ⟨pp9, 3, none⟩ (.int .i64 K3)).heap[pp9]? = some (.cells #[.int .i64 K0, .int .i64 K1, .int .i64 K2, .int .i64 K3] 29 (0, 0))) := blk4_set HPn.out _ _ _ _
                refine wpAnyH_ready (rs := [19]) (by kernel_rfl) (by simp) ?_
                refine AllReadyH.cons (o := { dst := none, op := Op.store 29 (Operand.tmp 16) (Operand.tmp 128), type := 0, pos := "text.go:163", after := #[{ on := 18, ground := Ground.data }, { on := 17, ground := Ground.data }, { on := 16, ground := Ground.chain }, { on := 0, ground := Ground.phase }, { on := 1, ground := Ground.phase }, { on := 2, ground := Ground.phase }, { on := 3, ground := Ground.phase }, { on := 4, ground := Ground.phase }, { on := 5, ground := Ground.phase }, { on := 6, ground := Ground.phase }, { on := 7, ground := Ground.phase }, { on := 8, ground := Ground.phase }, { on := 9, ground := Ground.phase }, { on := 10, ground := Ground.phase }, { on := 11, ground := Ground.phase }, { on := 12, ground := Ground.phase }, { on := 13, ground := Ground.phase }, { on := 14, ground := Ground.phase }, { on := 15, ground := Ground.phase }, { on := 16, ground := Ground.phase }, { on := 17, ground := Ground.phase }, { on := 18, ground := Ground.phase }], guard := none }) rfl (fun K hK => ?_) AllReadyH.nil
                go_simp
                go_wp2_with fail
                have hgw : gw ≠ pp9 := fun e9 => by have h8 := hHeld.1; rw [e9] at h8; simp [World.cell?, HPn.out] at h8
                obtain ⟨ts, hts⟩ : ∃ ts, ((((tn.setCell ⟨pp9, 0, none⟩ (.int .i64 K0)).setCell ⟨pp9, 1, none⟩ (.int .i64 K1)).setCell ⟨pp9, 2, none⟩ (.int .i64 K2)).setCell ⟨pp9, 3, none⟩ (.int .i64 K3)) = ts := ⟨_, rfl⟩
                rw [hts] at HGS HPs ⊢
                clear hts
                have hSnew := held_grown HGS.out hgw hHeld
                refine hK.out _ _ hSnew (fun hHeld19 => ?_)
                clear hK K hSnew
                clear hHeld
                have hHeld := hHeld19
                clear hHeld19
                try simp only [Act.put, List.setIfInBounds_toArray, List.set_cons_zero, List.set_cons_succ]
                refine wpAnyH_done (by kernel_rfl) ?_ _
                clear hHeld p0 p1 p2 p3 pf0 pf1 pf2 pf3
                have hp2 : B1 ≤ pp9 := hpB
                have HQs : Hid (ts.heap[w.heap.size + 1]? = some (.cells #[.int .u64 (f0 : Int), .int .i64 f1, .int .i64 f2, .int .i64 f3, .int .i64 f4, .bool f5, .slice a j cv] 25 (0, 0))) := (HGS.out.block _ (lt_of_blk HQn.out) (fun e9 => by have := Option.some.inj e9; omega)).trans HQn.out
                have HRs : Hid (ts.heap[w.heap.size]? = some (.cells #[.int .u64 0, .int .i64 0, .int .i64 0, .int .i64 0, .int .i64 0, .bool false, .slice none 0 0] 25 (0, 0))) := (HGS.out.block _ (lt_of_blk HRn.out) (fun e9 => by have := Option.some.inj e9; omega)).trans HRn.out
                have HBs : Hid (Below w.heap.size w ts) := HBn.out.grown HGS.out HBn.out.size (fun i9 h9 => by cases h9; omega)
                have HOs : Hid (ts.ownsRow B1 29 4 (.slice a j cv) j (flatF gs)) := HOn.out.kept HGS.out (by cases h9 : (Value.slice a j cv).ownBlock with | none => exact Or.inl rfl | some g9 => exact Or.inr (fun e9 => by have h8 := hpo g9 h9; have := Option.some.inj e9; omega))
                have hSs : B1 ≤ ts.heap.size := Nat.le_trans hSn HGS.out.size
                clear HGS HQn HRn HBn HOn HPn hSn hpo hgw hpB
                obtain ⟨p0, p1, p2, p3⟩ := cells4x HPs.out
                go_wp2_with (first
                  | (go_at_call 23; refine (HRW.out _ (p10_below HT.out HBs.out)).mono ?_; rintro e t5 ⟨rfl, bl5⟩
                     have HB5 : Hid (Below w.heap.size w t5) := below_trans HBs.out bl5
                     have HQ5 : Hid (t5.heap[w.heap.size + 1]? = some (.cells #[.int .u64 (f0 : Int), .int .i64 f1, .int .i64 f2, .int .i64 f3, .int .i64 f4, .bool f5, .slice a j cv] 25 (0, 0))) := blk_up HQs.out bl5
                     have HR5 : Hid (t5.heap[w.heap.size]? = some (.cells #[.int .u64 0, .int .i64 0, .int .i64 0, .int .i64 0, .int .i64 0, .bool false, .slice none 0 0] 25 (0, 0))) := blk_up HRs.out bl5
                     have HO5 : Hid (t5.ownsRow B1 29 4 (.slice a j cv) j (flatF gs)) := ownF_below HOs.out bl5
                     have hS5 : B1 ≤ t5.heap.size := Nat.le_trans hSs bl5.size
                     have HP5 : Hid (t5.heap[pp9]? = some (.cells #[.int .i64 K0, .int .i64 K1, .int .i64 K2, .int .i64 K3] 29 (0, 0))) := blk_up HPs.out bl5
                     clear p0 p1 p2 p3 bl5 HBs HQs HRs HOs HPs hSs
                     obtain ⟨q0, q1, q2, q3, q4, q5, q6⟩ := cells7 HQ5.out
                     obtain ⟨s0, s1, s2, s3⟩ := cells4x HP5.out)
                  | (at_builtin; refine wpList_append_F rfl (.tmp 136) (.tmp 138) rfl B1 _ j gs rfl (HO5.out.alloc _) _ 1 1 [⟨K0, K1, K2, K3⟩] rfl (oneF t5 ⟨K0, K1, K2, K3⟩) (by omega) (by simp; omega) ?_; intro v3 t3 own3 grow3
                     have HO3 : Hid (t3.ownsRow B1 29 4 v3 (j + 1) (flatF (gs ++ [⟨K0, K1, K2, K3⟩]))) := own3
                     have hob : ∀ i, (Value.slice a j cv).ownBlock = some i → B1 ≤ i := fun i hi => (HO5.out.lt i hi).1
                     have grow4 : t5.grownBy t3 (Value.slice a j cv).ownBlock := ⟨grow3.os, grow3.tape, grow3.output, Nat.le_trans (by simp) grow3.size, fun i hi hne => (grow3.block i (by simp; omega) hne).trans (Below.heap_alloc _ _ _ hi)⟩
                     have HQ6 : Hid (t3.heap[w.heap.size + 1]? = some (.cells #[.int .u64 (f0 : Int), .int .i64 f1, .int .i64 f2, .int .i64 f3, .int .i64 f4, .bool f5, .slice a j cv] 25 (0, 0))) := (grow4.block _ (lt_of_blk HQ5.out) (fun e => by have := hob _ e.symm; omega)).trans HQ5.out
                     have HR6 : Hid (t3.heap[w.heap.size]? = some (.cells #[.int .u64 0, .int .i64 0, .int .i64 0, .int .i64 0, .int .i64 0, .bool false, .slice none 0 0] 25 (0, 0))) := (grow4.block _ (lt_of_blk HR5.out) (fun e => by have := hob _ e.symm; omega)).trans HR5.out
                     have HB6 : Hid (Below w.heap.size w t3) := HB5.out.grown grow4 HB5.out.size (fun i hi => by have := hob i hi; omega)
                     have hS6 : B1 ≤ t3.heap.size := Nat.le_trans hS5 grow4.size
                     obtain ⟨g9, cp, rfl, hcp1, hcp2, hg91, hg92⟩ := own_shapeF HO3.out (by omega)
                     obtain ⟨d0, d1, d2, d3, d4, d5, d6⟩ := cells7 HQ6.out
                     have fz := frozen7 HQ6.out 6
                     clear own3 grow3 grow4 hob q0 q1 q2 q3 q4 q5 q6 s0 s1 s2 s3 d0 d1 d2 d3 d4 d5))
                have HB7 : Hid (Below w.heap.size w (t3.setCell ⟨w.heap.size + 1, 6, none⟩ (.slice (some ⟨g9, 0, none⟩) (j + 1) cp))) := HB6.out.grown (set_grown _ _ _ _) HB6.out.size (fun i hi => by cases hi; omega)
                have HQ7 : Hid ((t3.setCell ⟨w.heap.size + 1, 6, none⟩ (.slice (some ⟨g9, 0, none⟩) (j + 1) cp)).heap[w.heap.size + 1]? = some (.cells #[.int .u64 (f0 : Int), .int .i64 f1, .int .i64 f2, .int .i64 f3, .int .i64 f4, .bool f5, .slice (some ⟨g9, 0, none⟩) (j + 1) cp] 25 (0, 0))) := Joins.block_setCell HQ6.out _
                have HR7 : Hid ((t3.setCell ⟨w.heap.size + 1, 6, none⟩ (.slice (some ⟨g9, 0, none⟩) (j + 1) cp)).heap[w.heap.size]? = some (.cells #[.int .u64 0, .int .i64 0, .int .i64 0, .int .i64 0, .int .i64 0, .bool false, .slice none 0 0] 25 (0, 0))) := ((set_grown _ _ _ _).block _ (lt_of_blk HR6.out) (fun e => by have := Option.some.inj e; omega)).trans HR6.out
                have HO7 : Hid ((t3.setCell ⟨w.heap.size + 1, 6, none⟩ (.slice (some ⟨g9, 0, none⟩) (j + 1) cp)).ownsRow B1 29 4 (.slice (some ⟨g9, 0, none⟩) (j + 1) cp) (j + 1) (flatF (gs ++ [⟨K0, K1, K2, K3⟩]))) := HO3.out.kept (set_grown _ _ _ _) (Or.inr (fun e => by have h8 : g9 = w.heap.size + 1 := Option.some.inj e; omega))
                have hS7 : B1 ≤ (t3.setCell ⟨w.heap.size + 1, 6, none⟩ (.slice (some ⟨g9, 0, none⟩) (j + 1) cp)).heap.size := Nat.le_trans hS6 (set_grown t3 (w.heap.size + 1) 6 (.slice (some ⟨g9, 0, none⟩) (j + 1) cp)).size
                go_roundw
                case rel => exact ⟨j + 1, gs ++ [(⟨K0, K1, K2, K3⟩ : Fd)], Rs, _, by first | go_num | (simp; omega), rfl, HRL.out.1, HX.out, HO7.out, HQ7.out, HR7.out, HB7.out, hS7⟩
                case measure => simp [slen, ByteArray.size]; exact HRL.out.2

            | false =>
              have HX : Hid (rp l0 = (none, 7 + j)) := by
                have h9 : fdOf L2 = none := by
                  rw [fd_ln, HRF.out, if_neg]
                  intro h7
                  have h8 : Hk ≠ S := by simpa using hq
                  exact h8 (by rw [← HSE.out, h7, HHK.out])
                have h8 : rowsE L = _ := HL.out
                unfold Hid
                rw [HC.out]
                unfold cont6
                rw [h8, rows_bad HNL.out h9]
                show (none, 6 + (j + 1)) = _
                rw [show 6 + (j + 1) = 7 + j by omega]
              clear HC HL HSE HRE HRF HHK
              go_upto_region 35 with (first
                | (go_at_call 24; refine HLN.mono ?_; rintro e t1 ⟨rfl, bl1⟩
                   have HB1 : Hid (Below w.heap.size w t1) := below_trans HB.out bl1
                   have HQ1 : Hid (t1.heap[w.heap.size + 1]? = some (.cells #[.int .u64 (f0 : Int), .int .i64 f1, .int .i64 f2, .int .i64 f3, .int .i64 f4, .bool f5, .slice a j cv] 25 (0, 0))) := blk_up HQ.out bl1
                   have HR1 : Hid (t1.heap[w.heap.size]? = some (.cells #[.int .u64 0, .int .i64 0, .int .i64 0, .int .i64 0, .int .i64 0, .bool false, .slice none 0 0] 25 (0, 0))) := blk_up HR.out bl1
                   have HO1 : Hid (t1.ownsRow B1 29 4 (.slice a j cv) j (flatF gs)) := ownF_below HO.out bl1
                   have hS1 : B1 ≤ t1.heap.size := Nat.le_trans hBw bl1.size
                   clear bl1)
                | (go_at_call 25; refine (HW.out _).mono ?_; rintro e t2 ⟨gw, cw, rfl, c0, c1, c2, c3, hgw9, bl2⟩
                   have HB2 : Hid (Below w.heap.size w t2) := below_trans HB1.out bl2
                   have HQ2 : Hid (t2.heap[w.heap.size + 1]? = some (.cells #[.int .u64 (f0 : Int), .int .i64 f1, .int .i64 f2, .int .i64 f3, .int .i64 f4, .bool f5, .slice a j cv] 25 (0, 0))) := blk_up HQ1.out bl2
                   have HR2 : Hid (t2.heap[w.heap.size]? = some (.cells #[.int .u64 0, .int .i64 0, .int .i64 0, .int .i64 0, .int .i64 0, .bool false, .slice none 0 0] 25 (0, 0))) := blk_up HR1.out bl2
                   have HO2 : Hid (t2.ownsRow B1 29 4 (.slice a j cv) j (flatF gs)) := ownF_below HO1.out bl2
                   have hS2 : B1 ≤ t2.heap.size := Nat.le_trans hS1 bl2.size
                   clear bl2))
              clear HQ1 HR1 HB1 HO1 hS1 HQ HR HB HO hBw HLN HW hSl hgw9
              refine wp_region_held_drew (S := (fun y : World => y.cell? ⟨gw, 0, none⟩ = some (.string ⟨x0.toArray⟩) ∧ y.cell? ⟨gw, 1, none⟩ = some (.string ⟨x1.toArray⟩) ∧ y.cell? ⟨gw, 2, none⟩ = some (.string ⟨x2.toArray⟩) ∧ y.cell? ⟨gw, 3, none⟩ = some (.string ⟨x3.toArray⟩))) (by kernel_rfl) (⟨c0, c1, c2, c3⟩) (fun hHeld => ?_)
              clear c0 c1 c2 c3
              have HBm : Hid (Below w.heap.size w t2.drew) := HB2.out.drew
              have HQm : Hid (t2.drew.heap[w.heap.size + 1]? = some (.cells #[.int .u64 (f0 : Int), .int .i64 f1, .int .i64 f2, .int .i64 f3, .int .i64 f4, .bool f5, .slice a j cv] 25 (0, 0))) := HQ2.out
              have HRm : Hid (t2.drew.heap[w.heap.size]? = some (.cells #[.int .u64 0, .int .i64 0, .int .i64 0, .int .i64 0, .int .i64 0, .bool false, .slice none 0 0] 25 (0, 0))) := HR2.out
              have HOm : Hid (t2.drew.ownsRow B1 29 4 (.slice a j cv) j (flatF gs)) := HO2.out.drew
              have hSm : B1 ≤ t2.drew.heap.size := hS2
              clear HB2 HQ2 HR2 HO2 hS2
              obtain ⟨tm, htm⟩ : ∃ tm, t2.drew = tm := ⟨_, rfl⟩
              rw [htm] at hHeld HBm HQm HRm HOm hSm ⊢
              clear htm t2
              refine wpAnyH_take (i := 0) (oi := { dst := some 111, op := Op.move (Operand.tmp 15), type := 46, pos := "text.go:163", after := #[], guard := none }) (v := ?v0p0) rfl (by kernel_rfl) (by kernel_rfl) (by kernel_rfl) (fun _ _ _ h => h) (Or.inl ⟨by rfl, ?y0p0⟩) (by assumption) ?r0p0
              case y0p0 => (intro x hx; (try dsimp only at hx); go_simp; try with_reducible rfl)
              try simp only [Act.put, List.setIfInBounds_toArray, List.set_cons_zero, List.set_cons_succ]
              refine wpAnyH_take (i := 1) (oi := { dst := some 112, op := Op.indexAddr 46 (Operand.tmp 111) (Operand.const (Value.int IntKind.i64 0)), type := 0, pos := "text.go:163", after := #[{ on := 0, ground := Ground.data }], guard := none }) (v := ?v1p0) rfl (by kernel_rfl) (by kernel_rfl) (by kernel_rfl) (fun _ _ _ h => h) (Or.inl ⟨by rfl, ?y1p0⟩) (by assumption) ?r1p0
              case y1p0 => (intro x hx; (try dsimp only at hx); go_simp; try with_reducible rfl)
              try simp only [Act.put, List.setIfInBounds_toArray, List.set_cons_zero, List.set_cons_succ]
              refine wpAnyH_take (i := 2) (oi := { dst := some 113, op := Op.load 9 (Operand.tmp 112), type := 9, pos := "text.go:163", after := #[{ on := 1, ground := Ground.data }], guard := none }) (v := ?v2p0) rfl (by kernel_rfl) (by kernel_rfl) (by kernel_rfl) (fun _ _ _ h => h) (Or.inl ⟨by rfl, ?y2p0⟩) (by assumption) ?r2p0
              case y2p0 => (intro x hx; (try dsimp only at hx); go_simp; try with_reducible rfl)
              try simp only [Act.put, List.setIfInBounds_toArray, List.set_cons_zero, List.set_cons_succ]
              refine wpAnyH_take (i := 4) (oi := { dst := some 115, op := Op.move (Operand.tmp 15), type := 46, pos := "text.go:163", after := #[], guard := none }) (v := ?v4p0) rfl (by kernel_rfl) (by kernel_rfl) (by kernel_rfl) (fun _ _ _ h => h) (Or.inl ⟨by rfl, ?y4p0⟩) (by assumption) ?r4p0
              case y4p0 => (intro x hx; (try dsimp only at hx); go_simp; try with_reducible rfl)
              try simp only [Act.put, List.setIfInBounds_toArray, List.set_cons_zero, List.set_cons_succ]
              refine wpAnyH_take (i := 5) (oi := { dst := some 116, op := Op.indexAddr 46 (Operand.tmp 115) (Operand.const (Value.int IntKind.i64 1)), type := 0, pos := "text.go:163", after := #[{ on := 4, ground := Ground.data }], guard := none }) (v := ?v5p0) rfl (by kernel_rfl) (by kernel_rfl) (by kernel_rfl) (fun _ _ _ h => h) (Or.inl ⟨by rfl, ?y5p0⟩) (by assumption) ?r5p0
              case y5p0 => (intro x hx; (try dsimp only at hx); go_simp; try with_reducible rfl)
              try simp only [Act.put, List.setIfInBounds_toArray, List.set_cons_zero, List.set_cons_succ]
              refine wpAnyH_take (i := 6) (oi := { dst := some 117, op := Op.load 9 (Operand.tmp 116), type := 9, pos := "text.go:163", after := #[{ on := 5, ground := Ground.data }], guard := none }) (v := ?v6p0) rfl (by kernel_rfl) (by kernel_rfl) (by kernel_rfl) (fun _ _ _ h => h) (Or.inl ⟨by rfl, ?y6p0⟩) (by assumption) ?r6p0
              case y6p0 => (intro x hx; (try dsimp only at hx); go_simp; try with_reducible rfl)
              try simp only [Act.put, List.setIfInBounds_toArray, List.set_cons_zero, List.set_cons_succ]
              refine wpAnyH_take (i := 8) (oi := { dst := some 119, op := Op.move (Operand.tmp 15), type := 46, pos := "text.go:163", after := #[], guard := none }) (v := ?v8p0) rfl (by kernel_rfl) (by kernel_rfl) (by kernel_rfl) (fun _ _ _ h => h) (Or.inl ⟨by rfl, ?y8p0⟩) (by assumption) ?r8p0
              case y8p0 => (intro x hx; (try dsimp only at hx); go_simp; try with_reducible rfl)
              try simp only [Act.put, List.setIfInBounds_toArray, List.set_cons_zero, List.set_cons_succ]
              refine wpAnyH_take (i := 9) (oi := { dst := some 120, op := Op.indexAddr 46 (Operand.tmp 119) (Operand.const (Value.int IntKind.i64 2)), type := 0, pos := "text.go:163", after := #[{ on := 8, ground := Ground.data }], guard := none }) (v := ?v9p0) rfl (by kernel_rfl) (by kernel_rfl) (by kernel_rfl) (fun _ _ _ h => h) (Or.inl ⟨by rfl, ?y9p0⟩) (by assumption) ?r9p0
              case y9p0 => (intro x hx; (try dsimp only at hx); go_simp; try with_reducible rfl)
              try simp only [Act.put, List.setIfInBounds_toArray, List.set_cons_zero, List.set_cons_succ]
              refine wpAnyH_take (i := 10) (oi := { dst := some 121, op := Op.load 9 (Operand.tmp 120), type := 9, pos := "text.go:163", after := #[{ on := 9, ground := Ground.data }], guard := none }) (v := ?v10p0) rfl (by kernel_rfl) (by kernel_rfl) (by kernel_rfl) (fun _ _ _ h => h) (Or.inl ⟨by rfl, ?y10p0⟩) (by assumption) ?r10p0
              case y10p0 => (intro x hx; (try dsimp only at hx); go_simp; try with_reducible rfl)
              try simp only [Act.put, List.setIfInBounds_toArray, List.set_cons_zero, List.set_cons_succ]
              refine wpAnyH_take (i := 13) (oi := { dst := some 124, op := Op.move (Operand.tmp 15), type := 46, pos := "text.go:163", after := #[], guard := none }) (v := ?v13p0) rfl (by kernel_rfl) (by kernel_rfl) (by kernel_rfl) (fun _ _ _ h => h) (Or.inl ⟨by rfl, ?y13p0⟩) (by assumption) ?r13p0
              case y13p0 => (intro x hx; (try dsimp only at hx); go_simp; try with_reducible rfl)
              try simp only [Act.put, List.setIfInBounds_toArray, List.set_cons_zero, List.set_cons_succ]
              refine wpAnyH_take (i := 14) (oi := { dst := some 125, op := Op.indexAddr 46 (Operand.tmp 124) (Operand.const (Value.int IntKind.i64 3)), type := 0, pos := "text.go:163", after := #[{ on := 13, ground := Ground.data }], guard := none }) (v := ?v14p0) rfl (by kernel_rfl) (by kernel_rfl) (by kernel_rfl) (fun _ _ _ h => h) (Or.inl ⟨by rfl, ?y14p0⟩) (by assumption) ?r14p0
              case y14p0 => (intro x hx; (try dsimp only at hx); go_simp; try with_reducible rfl)
              try simp only [Act.put, List.setIfInBounds_toArray, List.set_cons_zero, List.set_cons_succ]
              refine wpAnyH_take (i := 15) (oi := { dst := some 126, op := Op.load 9 (Operand.tmp 125), type := 9, pos := "text.go:163", after := #[{ on := 14, ground := Ground.data }], guard := none }) (v := ?v15p0) rfl (by kernel_rfl) (by kernel_rfl) (by kernel_rfl) (fun _ _ _ h => h) (Or.inl ⟨by rfl, ?y15p0⟩) (by assumption) ?r15p0
              case y15p0 => (intro x hx; (try dsimp only at hx); go_simp; try with_reducible rfl)
              try simp only [Act.put, List.setIfInBounds_toArray, List.set_cons_zero, List.set_cons_succ]
              refine wpAnyH_ready (rs := [3, 18]) (by kernel_rfl) (by simp) ?_
              refine AllReadyH.cons (o := { dst := some 114, op := Op.call { callee := Callee.value (Operand.func 28), args := #[Operand.tmp 113], argTypes := #[9] }, type := 3, pos := "text.go:163", after := #[{ on := 2, ground := Ground.data }], guard := none }) rfl (fun K hK => ?_) (AllReadyH.cons (o := { dst := some 16, op := Op.alloc 29, type := 0, pos := "text.go:163", after := #[], guard := none }) rfl (fun K hK => ?_) AllReadyH.nil)
              · go_simp
                go_at_call 28
                refine (HU0.out _).mono ?_
                rintro e tk ⟨rfl, blk9⟩
                have HBk : Hid (Below w.heap.size w tk) := below_trans HBm.out blk9
                have HQk : Hid (tk.heap[w.heap.size + 1]? = some (.cells #[.int .u64 (f0 : Int), .int .i64 f1, .int .i64 f2, .int .i64 f3, .int .i64 f4, .bool f5, .slice a j cv] 25 (0, 0))) := blk_up HQm.out blk9
                have HRk : Hid (tk.heap[w.heap.size]? = some (.cells #[.int .u64 0, .int .i64 0, .int .i64 0, .int .i64 0, .int .i64 0, .bool false, .slice none 0 0] 25 (0, 0))) := blk_up HRm.out blk9
                have HOk : Hid (tk.ownsRow B1 29 4 (.slice a j cv) j (flatF gs)) := ownF_below HOm.out blk9
                have hSk : B1 ≤ tk.heap.size := Nat.le_trans hSm blk9.size
                have hSnew : tk.cell? ⟨gw, 0, none⟩ = some (.string ⟨x0.toArray⟩) ∧ tk.cell? ⟨gw, 1, none⟩ = some (.string ⟨x1.toArray⟩) ∧ tk.cell? ⟨gw, 2, none⟩ = some (.string ⟨x2.toArray⟩) ∧ tk.cell? ⟨gw, 3, none⟩ = some (.string ⟨x3.toArray⟩) := ⟨(blk9.cell (block_lt_of_cell hHeld.1)).trans hHeld.1, (blk9.cell (block_lt_of_cell hHeld.2.1)).trans hHeld.2.1, (blk9.cell (block_lt_of_cell hHeld.2.2.1)).trans hHeld.2.2.1, (blk9.cell (block_lt_of_cell hHeld.2.2.2)).trans hHeld.2.2.2⟩
                go_wp2_with fail
                refine hK.out _ _ hSnew (fun hHeld3 => ?_)
                clear hK K hSnew
                clear hHeld
                have hHeld := hHeld3
                clear hHeld3
                try simp only [Act.put, List.setIfInBounds_toArray, List.set_cons_zero, List.set_cons_succ]
                clear HBm HQm HRm HOm hSm blk9
                have HBm := HBk
                have HQm := HQk
                have HRm := HRk
                have HOm := HOk
                have hSm := hSk
                clear HBk HQk HRk HOk hSk tm
                obtain ⟨tm, htm⟩ : ∃ tm, tm = tk := ⟨_, rfl⟩
                subst htm
                refine wpAnyH_ready (rs := [7, 18]) (by kernel_rfl) (by simp) ?_
                refine AllReadyH.cons (o := { dst := some 118, op := Op.call { callee := Callee.value (Operand.func 27), args := #[Operand.tmp 117], argTypes := #[9] }, type := 3, pos := "text.go:163", after := #[{ on := 6, ground := Ground.data }, { on := 3, ground := Ground.chain }], guard := none }) rfl (fun K hK => ?_) (AllReadyH.cons (o := { dst := some 16, op := Op.alloc 29, type := 0, pos := "text.go:163", after := #[], guard := none }) rfl (fun K hK => ?_) AllReadyH.nil)
                · go_simp
                  go_at_call 27
                  refine (HU1.out _).mono ?_
                  rintro e tz ⟨rfl, h9⟩
                  rw [h9]
                  clear h9
                  have hSnew := hHeld
                  go_wp2_with fail
                  refine hK.out _ _ hSnew (fun hHeld7 => ?_)
                  clear hK K hSnew
                  clear hHeld
                  have hHeld := hHeld7
                  clear hHeld7
                  try simp only [Act.put, List.setIfInBounds_toArray, List.set_cons_zero, List.set_cons_succ]
                  refine wpAnyH_ready (rs := [11, 18]) (by kernel_rfl) (by simp) ?_
                  refine AllReadyH.cons (o := { dst := some 122, op := Op.call { callee := Callee.value (Operand.func 27), args := #[Operand.tmp 121], argTypes := #[9] }, type := 3, pos := "text.go:163", after := #[{ on := 10, ground := Ground.data }, { on := 7, ground := Ground.chain }], guard := none }) rfl (fun K hK => ?_) (AllReadyH.cons (o := { dst := some 16, op := Op.alloc 29, type := 0, pos := "text.go:163", after := #[], guard := none }) rfl (fun K hK => ?_) AllReadyH.nil)
                  · go_simp
                    go_at_call 27
                    refine (HU2.out _).mono ?_
                    rintro e tz ⟨rfl, h9⟩
                    rw [h9]
                    clear h9
                    have hSnew := hHeld
                    go_wp2_with fail
                    refine hK.out _ _ hSnew (fun hHeld11 => ?_)
                    clear hK K hSnew
                    clear hHeld
                    have hHeld := hHeld11
                    clear hHeld11
                    try simp only [Act.put, List.setIfInBounds_toArray, List.set_cons_zero, List.set_cons_succ]
                    refine wpAnyH_take (i := 12) (oi := { dst := some 123, op := Op.build 27 #[(0, Operand.tmp 118), (1, Operand.tmp 122)], type := 27, pos := "text.go:163", after := #[{ on := 7, ground := Ground.data }, { on := 11, ground := Ground.data }], guard := none }) (v := ?v12q3) rfl (by kernel_rfl) (by kernel_rfl) (by kernel_rfl) (fun _ _ _ h => h) (Or.inl ⟨by rfl, ?y12q3⟩) (by assumption) ?r12q3
                    case y12q3 => (intro x hx; (try dsimp only at hx); go_simp; try with_reducible rfl)
                    try simp only [Act.put, List.setIfInBounds_toArray, List.set_cons_zero, List.set_cons_succ]
                    refine wpAnyH_ready (rs := [16, 18]) (by kernel_rfl) (by simp) ?_
                    refine AllReadyH.cons (o := { dst := some 127, op := Op.call { callee := Callee.value (Operand.func 27), args := #[Operand.tmp 126], argTypes := #[9] }, type := 3, pos := "text.go:163", after := #[{ on := 15, ground := Ground.data }, { on := 11, ground := Ground.chain }], guard := none }) rfl (fun K hK => ?_) (AllReadyH.cons (o := { dst := some 16, op := Op.alloc 29, type := 0, pos := "text.go:163", after := #[], guard := none }) rfl (fun K hK => ?_) AllReadyH.nil)
                    · go_simp
                      go_at_call 27
                      refine (HU3.out _).mono ?_
                      rintro e tz ⟨rfl, h9⟩
                      rw [h9]
                      clear h9
                      have hSnew := hHeld
                      go_wp2_with fail
                      refine hK.out _ _ hSnew (fun hHeld16 => ?_)
                      clear hK K hSnew
                      clear hHeld
                      have hHeld := hHeld16
                      clear hHeld16
                      try simp only [Act.put, List.setIfInBounds_toArray, List.set_cons_zero, List.set_cons_succ]
                      refine wpAnyH_take (i := 17) (oi := { dst := some 128, op := Op.build 29 #[(0, Operand.tmp 114), (1, Operand.tmp 123), (2, Operand.tmp 127)], type := 29, pos := "text.go:163", after := #[{ on := 3, ground := Ground.data }, { on := 12, ground := Ground.data }, { on := 16, ground := Ground.data }], guard := none }) (v := ?v17q5) rfl (by kernel_rfl) (by kernel_rfl) (by kernel_rfl) (fun _ _ _ h => h) (Or.inl ⟨by rfl, ?y17q5⟩) (by assumption) ?r17q5
                      case y17q5 => (intro x hx; (try dsimp only at hx); go_simp; try with_reducible rfl)
                      try simp only [Act.put, List.setIfInBounds_toArray, List.set_cons_zero, List.set_cons_succ]
                      refine wpAnyH_ready (rs := [18]) (by kernel_rfl) (by simp) ?_
                      refine AllReadyH.cons (o := { dst := some 16, op := Op.alloc 29, type := 0, pos := "text.go:163", after := #[], guard := none }) rfl (fun K hK => ?_) AllReadyH.nil
                      go_simp
                      go_wp2_with fail
                      have HBn : Hid (Below w.heap.size w (tm.alloc (.cells #[.int .i64 0, .int .i64 0, .int .i64 0, .int .i64 0] 29))) := below_trans HBm.out (below_alloc' _ _)
                      have HQn : Hid ((tm.alloc (.cells #[.int .i64 0, .int .i64 0, .int .i64 0, .int .i64 0] 29)).heap[w.heap.size + 1]? = some (.cells #[.int .u64 (f0 : Int), .int .i64 f1, .int .i64 f2, .int .i64 f3, .int .i64 f4, .bool f5, .slice a j cv] 25 (0, 0))) := blk_up HQm.out (below_alloc' _ _)
                      have HRn : Hid ((tm.alloc (.cells #[.int .i64 0, .int .i64 0, .int .i64 0, .int .i64 0] 29)).heap[w.heap.size]? = some (.cells #[.int .u64 0, .int .i64 0, .int .i64 0, .int .i64 0, .int .i64 0, .bool false, .slice none 0 0] 25 (0, 0))) := blk_up HRm.out (below_alloc' _ _)
                      have HOn : Hid ((tm.alloc (.cells #[.int .i64 0, .int .i64 0, .int .i64 0, .int .i64 0] 29)).ownsRow B1 29 4 (.slice a j cv) j (flatF gs)) := HOm.out.alloc _
                      have hSn : B1 ≤ (tm.alloc (.cells #[.int .i64 0, .int .i64 0, .int .i64 0, .int .i64 0] 29)).heap.size := Nat.le_trans hSm (below_alloc' _ _).size
                      have HPn : Hid ((tm.alloc (.cells #[.int .i64 0, .int .i64 0, .int .i64 0, .int .i64 0] 29)).heap[tm.heap.size]? = some (.cells #[.int .i64 0, .int .i64 0, .int .i64 0, .int .i64 0] 29 (0, 0))) := heap_alloc_new _ _
                      have hpo : ∀ g9, (Value.slice a j cv).ownBlock = some g9 → g9 < tm.heap.size := fun g9 h9 => (HOm.out.lt g9 h9).2
                      have hpB : B1 ≤ tm.heap.size := hSm
                      have hSnew : (tm.alloc (.cells #[.int .i64 0, .int .i64 0, .int .i64 0, .int .i64 0] 29)).cell? ⟨gw, 0, none⟩ = some (.string ⟨x0.toArray⟩) ∧ (tm.alloc (.cells #[.int .i64 0, .int .i64 0, .int .i64 0, .int .i64 0] 29)).cell? ⟨gw, 1, none⟩ = some (.string ⟨x1.toArray⟩) ∧ (tm.alloc (.cells #[.int .i64 0, .int .i64 0, .int .i64 0, .int .i64 0] 29)).cell? ⟨gw, 2, none⟩ = some (.string ⟨x2.toArray⟩) ∧ (tm.alloc (.cells #[.int .i64 0, .int .i64 0, .int .i64 0, .int .i64 0] 29)).cell? ⟨gw, 3, none⟩ = some (.string ⟨x3.toArray⟩) := (fun blk9 => ⟨(Below.cell blk9 (block_lt_of_cell hHeld.1)).trans hHeld.1, (Below.cell blk9 (block_lt_of_cell hHeld.2.1)).trans hHeld.2.1, (Below.cell blk9 (block_lt_of_cell hHeld.2.2.1)).trans hHeld.2.2.1, (Below.cell blk9 (block_lt_of_cell hHeld.2.2.2)).trans hHeld.2.2.2⟩) (below_alloc' tm (.cells #[.int .i64 0, .int .i64 0, .int .i64 0, .int .i64 0] 29))
                      refine hK.out _ _ hSnew (fun hHeld18 => ?_)
                      clear hK K hSnew
                      clear hHeld
                      have hHeld := hHeld18
                      clear hHeld18
                      try simp only [Act.put, List.setIfInBounds_toArray, List.set_cons_zero, List.set_cons_succ]
                      obtain ⟨pp9, hpp9⟩ : ∃ pp9, tm.heap.size = pp9 := ⟨_, rfl⟩
                      obtain ⟨tn, htn⟩ : ∃ tn, tm.alloc (.cells #[.int .i64 0, .int .i64 0, .int .i64 0, .int .i64 0] 29) = tn := ⟨_, rfl⟩
                      rw [htn] at HBn HQn HRn HOn HPn hHeld hSn ⊢
                      rw [hpp9] at HPn hpo hpB ⊢
                      clear HBm HQm HRm HOm hSm htn hpp9 tm
                      obtain ⟨p0, p1, p2, p3⟩ := cells4x HPn.out
                      have pf0 := frozen7 HPn.out 0
                      have pf1 := frozen7 HPn.out 1
                      have pf2 := frozen7 HPn.out 2
                      have pf3 := frozen7 HPn.out 3
                      have HGS : Hid (tn.grownBy ((((tn.setCell ⟨pp9, 0, none⟩ (.int .i64 K0)).setCell ⟨pp9, 1, none⟩ (.int .i64 K1)).setCell ⟨pp9, 2, none⟩ (.int .i64 K2)).setCell ⟨pp9, 3, none⟩ (.int .i64 K3)) (some pp9)) := grown4 _ _ _ _ _ _
                      have HPs : Hid (((((tn.setCell ⟨pp9, 0, none⟩ (.int .i64 K0)).setCell ⟨pp9, 1, none⟩ (.int .i64 K1)).setCell ⟨pp9, 2, none⟩ (.int .i64 K2)).setCell ⟨pp9, 3, none⟩ (.int .i64 K3)).heap[pp9]? = some (.cells #[.int .i64 K0, .int .i64 K1, .int .i64 K2, .int .i64 K3] 29 (0, 0))) := blk4_set HPn.out _ _ _ _
                      refine wpAnyH_ready (rs := [19]) (by kernel_rfl) (by simp) ?_
                      refine AllReadyH.cons (o := { dst := none, op := Op.store 29 (Operand.tmp 16) (Operand.tmp 128), type := 0, pos := "text.go:163", after := #[{ on := 18, ground := Ground.data }, { on := 17, ground := Ground.data }, { on := 16, ground := Ground.chain }, { on := 0, ground := Ground.phase }, { on := 1, ground := Ground.phase }, { on := 2, ground := Ground.phase }, { on := 3, ground := Ground.phase }, { on := 4, ground := Ground.phase }, { on := 5, ground := Ground.phase }, { on := 6, ground := Ground.phase }, { on := 7, ground := Ground.phase }, { on := 8, ground := Ground.phase }, { on := 9, ground := Ground.phase }, { on := 10, ground := Ground.phase }, { on := 11, ground := Ground.phase }, { on := 12, ground := Ground.phase }, { on := 13, ground := Ground.phase }, { on := 14, ground := Ground.phase }, { on := 15, ground := Ground.phase }, { on := 16, ground := Ground.phase }, { on := 17, ground := Ground.phase }, { on := 18, ground := Ground.phase }], guard := none }) rfl (fun K hK => ?_) AllReadyH.nil
                      go_simp
                      go_wp2_with fail
                      have hgw : gw ≠ pp9 := fun e9 => by have h8 := hHeld.1; rw [e9] at h8; simp [World.cell?, HPn.out] at h8
                      obtain ⟨ts, hts⟩ : ∃ ts, ((((tn.setCell ⟨pp9, 0, none⟩ (.int .i64 K0)).setCell ⟨pp9, 1, none⟩ (.int .i64 K1)).setCell ⟨pp9, 2, none⟩ (.int .i64 K2)).setCell ⟨pp9, 3, none⟩ (.int .i64 K3)) = ts := ⟨_, rfl⟩
                      rw [hts] at HGS HPs ⊢
                      clear hts
                      have hSnew := held_grown HGS.out hgw hHeld
                      refine hK.out _ _ hSnew (fun hHeld19 => ?_)
                      clear hK K hSnew
                      clear hHeld
                      have hHeld := hHeld19
                      clear hHeld19
                      try simp only [Act.put, List.setIfInBounds_toArray, List.set_cons_zero, List.set_cons_succ]
                      refine wpAnyH_done (by kernel_rfl) ?_ _
                      clear hHeld p0 p1 p2 p3 pf0 pf1 pf2 pf3
                      have hp2 : B1 ≤ pp9 := hpB
                      have HQs : Hid (ts.heap[w.heap.size + 1]? = some (.cells #[.int .u64 (f0 : Int), .int .i64 f1, .int .i64 f2, .int .i64 f3, .int .i64 f4, .bool f5, .slice a j cv] 25 (0, 0))) := (HGS.out.block _ (lt_of_blk HQn.out) (fun e9 => by have := Option.some.inj e9; omega)).trans HQn.out
                      have HRs : Hid (ts.heap[w.heap.size]? = some (.cells #[.int .u64 0, .int .i64 0, .int .i64 0, .int .i64 0, .int .i64 0, .bool false, .slice none 0 0] 25 (0, 0))) := (HGS.out.block _ (lt_of_blk HRn.out) (fun e9 => by have := Option.some.inj e9; omega)).trans HRn.out
                      have HBs : Hid (Below w.heap.size w ts) := HBn.out.grown HGS.out HBn.out.size (fun i9 h9 => by cases h9; omega)
                      have HOs : Hid (ts.ownsRow B1 29 4 (.slice a j cv) j (flatF gs)) := HOn.out.kept HGS.out (by cases h9 : (Value.slice a j cv).ownBlock with | none => exact Or.inl rfl | some g9 => exact Or.inr (fun e9 => by have h8 := hpo g9 h9; have := Option.some.inj e9; omega))
                      have hSs : B1 ≤ ts.heap.size := Nat.le_trans hSn HGS.out.size
                      clear HGS HQn HRn HBn HOn HPn hSn hpo hgw hpB
                      obtain ⟨p0, p1, p2, p3⟩ := cells4x HPs.out
                      go_wp2_with (first
                        | (go_at_call 23; refine (HRW.out _ (p10_below HT.out HBs.out)).mono ?_; rintro e t5 ⟨rfl, bl5⟩
                           have HB5 : Hid (Below w.heap.size w t5) := below_trans HBs.out bl5
                           have HQ5 : Hid (t5.heap[w.heap.size + 1]? = some (.cells #[.int .u64 (f0 : Int), .int .i64 f1, .int .i64 f2, .int .i64 f3, .int .i64 f4, .bool f5, .slice a j cv] 25 (0, 0))) := blk_up HQs.out bl5
                           have HR5 : Hid (t5.heap[w.heap.size]? = some (.cells #[.int .u64 0, .int .i64 0, .int .i64 0, .int .i64 0, .int .i64 0, .bool false, .slice none 0 0] 25 (0, 0))) := blk_up HRs.out bl5
                           have HO5 : Hid (t5.ownsRow B1 29 4 (.slice a j cv) j (flatF gs)) := ownF_below HOs.out bl5
                           have hS5 : B1 ≤ t5.heap.size := Nat.le_trans hSs bl5.size
                           have HP5 : Hid (t5.heap[pp9]? = some (.cells #[.int .i64 K0, .int .i64 K1, .int .i64 K2, .int .i64 K3] 29 (0, 0))) := blk_up HPs.out bl5
                           clear p0 p1 p2 p3 bl5 HBs HQs HRs HOs HPs hSs
                           obtain ⟨z0, z1, z2, z3, z4, z5, z6⟩ := cells7 HR5.out
                           have rf0 := frozen7 HR5.out 0
                           have rf1 := frozen7 HR5.out 1
                           have rf2 := frozen7 HR5.out 2
                           have rf3 := frozen7 HR5.out 3
                           have rf4 := frozen7 HR5.out 4
                           have rf5 := frozen7 HR5.out 5
                           have rf6 := frozen7 HR5.out 6
                        ))
                      refine bodyPost_ret (v := .tuple #[.agg #[.int .u64 0, .int .i64 0, .int .i64 0, .int .i64 0, .int .i64 0, .bool false, .slice none 0 0], .int .i64 200, .int .i64 (7 + (j : Int))]) (by obtain ⟨z0, z1, z2, z3, z4, z5, z6⟩ := cells7 (blk7_set HR5.out (.int .u64 0) (.int .i64 0) (.int .i64 0) (.int .i64 0) (.int .i64 0) (.bool false) (.slice none 0 0)); simp [results, Tryd.results9, go_sem, z0, z1, z2, z3, z4, z5, z6]) rfl ⟨?_, ?_⟩
                      · rw [HX.out]; show _ = Ending.returned (.tuple #[_, _, .int .i64 ((7 + j : Nat) : Int)]); rw [show ((7 + j : Nat) : Int) = 7 + (j : Int) by omega]
                      · exact HB5.out.grown (grown7 _ _ _ _ _ _ _ _ _) HB5.out.size (fun i hi => by cases hi; exact Nat.le_refl _)
                    · go_simp
                      go_wp2_with fail
                      have HBn : Hid (Below w.heap.size w (tm.alloc (.cells #[.int .i64 0, .int .i64 0, .int .i64 0, .int .i64 0] 29))) := below_trans HBm.out (below_alloc' _ _)
                      have HQn : Hid ((tm.alloc (.cells #[.int .i64 0, .int .i64 0, .int .i64 0, .int .i64 0] 29)).heap[w.heap.size + 1]? = some (.cells #[.int .u64 (f0 : Int), .int .i64 f1, .int .i64 f2, .int .i64 f3, .int .i64 f4, .bool f5, .slice a j cv] 25 (0, 0))) := blk_up HQm.out (below_alloc' _ _)
                      have HRn : Hid ((tm.alloc (.cells #[.int .i64 0, .int .i64 0, .int .i64 0, .int .i64 0] 29)).heap[w.heap.size]? = some (.cells #[.int .u64 0, .int .i64 0, .int .i64 0, .int .i64 0, .int .i64 0, .bool false, .slice none 0 0] 25 (0, 0))) := blk_up HRm.out (below_alloc' _ _)
                      have HOn : Hid ((tm.alloc (.cells #[.int .i64 0, .int .i64 0, .int .i64 0, .int .i64 0] 29)).ownsRow B1 29 4 (.slice a j cv) j (flatF gs)) := HOm.out.alloc _
                      have hSn : B1 ≤ (tm.alloc (.cells #[.int .i64 0, .int .i64 0, .int .i64 0, .int .i64 0] 29)).heap.size := Nat.le_trans hSm (below_alloc' _ _).size
                      have HPn : Hid ((tm.alloc (.cells #[.int .i64 0, .int .i64 0, .int .i64 0, .int .i64 0] 29)).heap[tm.heap.size]? = some (.cells #[.int .i64 0, .int .i64 0, .int .i64 0, .int .i64 0] 29 (0, 0))) := heap_alloc_new _ _
                      have hpo : ∀ g9, (Value.slice a j cv).ownBlock = some g9 → g9 < tm.heap.size := fun g9 h9 => (HOm.out.lt g9 h9).2
                      have hpB : B1 ≤ tm.heap.size := hSm
                      have hSnew : (tm.alloc (.cells #[.int .i64 0, .int .i64 0, .int .i64 0, .int .i64 0] 29)).cell? ⟨gw, 0, none⟩ = some (.string ⟨x0.toArray⟩) ∧ (tm.alloc (.cells #[.int .i64 0, .int .i64 0, .int .i64 0, .int .i64 0] 29)).cell? ⟨gw, 1, none⟩ = some (.string ⟨x1.toArray⟩) ∧ (tm.alloc (.cells #[.int .i64 0, .int .i64 0, .int .i64 0, .int .i64 0] 29)).cell? ⟨gw, 2, none⟩ = some (.string ⟨x2.toArray⟩) ∧ (tm.alloc (.cells #[.int .i64 0, .int .i64 0, .int .i64 0, .int .i64 0] 29)).cell? ⟨gw, 3, none⟩ = some (.string ⟨x3.toArray⟩) := (fun blk9 => ⟨(Below.cell blk9 (block_lt_of_cell hHeld.1)).trans hHeld.1, (Below.cell blk9 (block_lt_of_cell hHeld.2.1)).trans hHeld.2.1, (Below.cell blk9 (block_lt_of_cell hHeld.2.2.1)).trans hHeld.2.2.1, (Below.cell blk9 (block_lt_of_cell hHeld.2.2.2)).trans hHeld.2.2.2⟩) (below_alloc' tm (.cells #[.int .i64 0, .int .i64 0, .int .i64 0, .int .i64 0] 29))
                      refine hK.out _ _ hSnew (fun hHeld18 => ?_)
                      clear hK K hSnew
                      clear hHeld
                      have hHeld := hHeld18
                      clear hHeld18
                      try simp only [Act.put, List.setIfInBounds_toArray, List.set_cons_zero, List.set_cons_succ]
                      obtain ⟨pp9, hpp9⟩ : ∃ pp9, tm.heap.size = pp9 := ⟨_, rfl⟩
                      obtain ⟨tn, htn⟩ : ∃ tn, tm.alloc (.cells #[.int .i64 0, .int .i64 0, .int .i64 0, .int .i64 0] 29) = tn := ⟨_, rfl⟩
                      rw [htn] at HBn HQn HRn HOn HPn hHeld hSn ⊢
                      rw [hpp9] at HPn hpo hpB ⊢
                      clear HBm HQm HRm HOm hSm htn hpp9 tm
                      refine wpAnyH_ready (rs := [16]) (by kernel_rfl) (by simp) ?_
                      refine AllReadyH.cons (o := { dst := some 127, op := Op.call { callee := Callee.value (Operand.func 27), args := #[Operand.tmp 126], argTypes := #[9] }, type := 3, pos := "text.go:163", after := #[{ on := 15, ground := Ground.data }, { on := 11, ground := Ground.chain }], guard := none }) rfl (fun K hK => ?_) AllReadyH.nil
                      go_simp
                      go_at_call 27
                      refine (HU3.out _).mono ?_
                      rintro e tz ⟨rfl, h9⟩
                      rw [h9]
                      clear h9
                      have hSnew := hHeld
                      go_wp2_with fail
                      refine hK.out _ _ hSnew (fun hHeld16 => ?_)
                      clear hK K hSnew
                      clear hHeld
                      have hHeld := hHeld16
                      clear hHeld16
                      try simp only [Act.put, List.setIfInBounds_toArray, List.set_cons_zero, List.set_cons_succ]
                      refine wpAnyH_take (i := 17) (oi := { dst := some 128, op := Op.build 29 #[(0, Operand.tmp 114), (1, Operand.tmp 123), (2, Operand.tmp 127)], type := 29, pos := "text.go:163", after := #[{ on := 3, ground := Ground.data }, { on := 12, ground := Ground.data }, { on := 16, ground := Ground.data }], guard := none }) (v := ?v17q7) rfl (by kernel_rfl) (by kernel_rfl) (by kernel_rfl) (fun _ _ _ h => h) (Or.inl ⟨by rfl, ?y17q7⟩) (by assumption) ?r17q7
                      case y17q7 => (intro x hx; (try dsimp only at hx); go_simp; try with_reducible rfl)
                      try simp only [Act.put, List.setIfInBounds_toArray, List.set_cons_zero, List.set_cons_succ]
                      obtain ⟨p0, p1, p2, p3⟩ := cells4x HPn.out
                      have pf0 := frozen7 HPn.out 0
                      have pf1 := frozen7 HPn.out 1
                      have pf2 := frozen7 HPn.out 2
                      have pf3 := frozen7 HPn.out 3
                      have HGS : Hid (tn.grownBy ((((tn.setCell ⟨pp9, 0, none⟩ (.int .i64 K0)).setCell ⟨pp9, 1, none⟩ (.int .i64 K1)).setCell ⟨pp9, 2, none⟩ (.int .i64 K2)).setCell ⟨pp9, 3, none⟩ (.int .i64 K3)) (some pp9)) := grown4 _ _ _ _ _ _
                      have HPs : Hid (((((tn.setCell ⟨pp9, 0, none⟩ (.int .i64 K0)).setCell ⟨pp9, 1, none⟩ (.int .i64 K1)).setCell ⟨pp9, 2, none⟩ (.int .i64 K2)).setCell ⟨pp9, 3, none⟩ (.int .i64 K3)).heap[pp9]? = some (.cells #[.int .i64 K0, .int .i64 K1, .int .i64 K2, .int .i64 K3] 29 (0, 0))) := blk4_set HPn.out _ _ _ _
                      refine wpAnyH_ready (rs := [19]) (by kernel_rfl) (by simp) ?_
                      refine AllReadyH.cons (o := { dst := none, op := Op.store 29 (Operand.tmp 16) (Operand.tmp 128), type := 0, pos := "text.go:163", after := #[{ on := 18, ground := Ground.data }, { on := 17, ground := Ground.data }, { on := 16, ground := Ground.chain }, { on := 0, ground := Ground.phase }, { on := 1, ground := Ground.phase }, { on := 2, ground := Ground.phase }, { on := 3, ground := Ground.phase }, { on := 4, ground := Ground.phase }, { on := 5, ground := Ground.phase }, { on := 6, ground := Ground.phase }, { on := 7, ground := Ground.phase }, { on := 8, ground := Ground.phase }, { on := 9, ground := Ground.phase }, { on := 10, ground := Ground.phase }, { on := 11, ground := Ground.phase }, { on := 12, ground := Ground.phase }, { on := 13, ground := Ground.phase }, { on := 14, ground := Ground.phase }, { on := 15, ground := Ground.phase }, { on := 16, ground := Ground.phase }, { on := 17, ground := Ground.phase }, { on := 18, ground := Ground.phase }], guard := none }) rfl (fun K hK => ?_) AllReadyH.nil
                      go_simp
                      go_wp2_with fail
                      have hgw : gw ≠ pp9 := fun e9 => by have h8 := hHeld.1; rw [e9] at h8; simp [World.cell?, HPn.out] at h8
                      obtain ⟨ts, hts⟩ : ∃ ts, ((((tn.setCell ⟨pp9, 0, none⟩ (.int .i64 K0)).setCell ⟨pp9, 1, none⟩ (.int .i64 K1)).setCell ⟨pp9, 2, none⟩ (.int .i64 K2)).setCell ⟨pp9, 3, none⟩ (.int .i64 K3)) = ts := ⟨_, rfl⟩
                      rw [hts] at HGS HPs ⊢
                      clear hts
                      have hSnew := held_grown HGS.out hgw hHeld
                      refine hK.out _ _ hSnew (fun hHeld19 => ?_)
                      clear hK K hSnew
                      clear hHeld
                      have hHeld := hHeld19
                      clear hHeld19
                      try simp only [Act.put, List.setIfInBounds_toArray, List.set_cons_zero, List.set_cons_succ]
                      refine wpAnyH_done (by kernel_rfl) ?_ _
                      clear hHeld p0 p1 p2 p3 pf0 pf1 pf2 pf3
                      have hp2 : B1 ≤ pp9 := hpB
                      have HQs : Hid (ts.heap[w.heap.size + 1]? = some (.cells #[.int .u64 (f0 : Int), .int .i64 f1, .int .i64 f2, .int .i64 f3, .int .i64 f4, .bool f5, .slice a j cv] 25 (0, 0))) := (HGS.out.block _ (lt_of_blk HQn.out) (fun e9 => by have := Option.some.inj e9; omega)).trans HQn.out
                      have HRs : Hid (ts.heap[w.heap.size]? = some (.cells #[.int .u64 0, .int .i64 0, .int .i64 0, .int .i64 0, .int .i64 0, .bool false, .slice none 0 0] 25 (0, 0))) := (HGS.out.block _ (lt_of_blk HRn.out) (fun e9 => by have := Option.some.inj e9; omega)).trans HRn.out
                      have HBs : Hid (Below w.heap.size w ts) := HBn.out.grown HGS.out HBn.out.size (fun i9 h9 => by cases h9; omega)
                      have HOs : Hid (ts.ownsRow B1 29 4 (.slice a j cv) j (flatF gs)) := HOn.out.kept HGS.out (by cases h9 : (Value.slice a j cv).ownBlock with | none => exact Or.inl rfl | some g9 => exact Or.inr (fun e9 => by have h8 := hpo g9 h9; have := Option.some.inj e9; omega))
                      have hSs : B1 ≤ ts.heap.size := Nat.le_trans hSn HGS.out.size
                      clear HGS HQn HRn HBn HOn HPn hSn hpo hgw hpB
                      obtain ⟨p0, p1, p2, p3⟩ := cells4x HPs.out
                      go_wp2_with (first
                        | (go_at_call 23; refine (HRW.out _ (p10_below HT.out HBs.out)).mono ?_; rintro e t5 ⟨rfl, bl5⟩
                           have HB5 : Hid (Below w.heap.size w t5) := below_trans HBs.out bl5
                           have HQ5 : Hid (t5.heap[w.heap.size + 1]? = some (.cells #[.int .u64 (f0 : Int), .int .i64 f1, .int .i64 f2, .int .i64 f3, .int .i64 f4, .bool f5, .slice a j cv] 25 (0, 0))) := blk_up HQs.out bl5
                           have HR5 : Hid (t5.heap[w.heap.size]? = some (.cells #[.int .u64 0, .int .i64 0, .int .i64 0, .int .i64 0, .int .i64 0, .bool false, .slice none 0 0] 25 (0, 0))) := blk_up HRs.out bl5
                           have HO5 : Hid (t5.ownsRow B1 29 4 (.slice a j cv) j (flatF gs)) := ownF_below HOs.out bl5
                           have hS5 : B1 ≤ t5.heap.size := Nat.le_trans hSs bl5.size
                           have HP5 : Hid (t5.heap[pp9]? = some (.cells #[.int .i64 K0, .int .i64 K1, .int .i64 K2, .int .i64 K3] 29 (0, 0))) := blk_up HPs.out bl5
                           clear p0 p1 p2 p3 bl5 HBs HQs HRs HOs HPs hSs
                           obtain ⟨z0, z1, z2, z3, z4, z5, z6⟩ := cells7 HR5.out
                           have rf0 := frozen7 HR5.out 0
                           have rf1 := frozen7 HR5.out 1
                           have rf2 := frozen7 HR5.out 2
                           have rf3 := frozen7 HR5.out 3
                           have rf4 := frozen7 HR5.out 4
                           have rf5 := frozen7 HR5.out 5
                           have rf6 := frozen7 HR5.out 6
                        ))
                      refine bodyPost_ret (v := .tuple #[.agg #[.int .u64 0, .int .i64 0, .int .i64 0, .int .i64 0, .int .i64 0, .bool false, .slice none 0 0], .int .i64 200, .int .i64 (7 + (j : Int))]) (by obtain ⟨z0, z1, z2, z3, z4, z5, z6⟩ := cells7 (blk7_set HR5.out (.int .u64 0) (.int .i64 0) (.int .i64 0) (.int .i64 0) (.int .i64 0) (.bool false) (.slice none 0 0)); simp [results, Tryd.results9, go_sem, z0, z1, z2, z3, z4, z5, z6]) rfl ⟨?_, ?_⟩
                      · rw [HX.out]; show _ = Ending.returned (.tuple #[_, _, .int .i64 ((7 + j : Nat) : Int)]); rw [show ((7 + j : Nat) : Int) = 7 + (j : Int) by omega]
                      · exact HB5.out.grown (grown7 _ _ _ _ _ _ _ _ _) HB5.out.size (fun i hi => by cases hi; exact Nat.le_refl _)
                  · go_simp
                    go_wp2_with fail
                    have HBn : Hid (Below w.heap.size w (tm.alloc (.cells #[.int .i64 0, .int .i64 0, .int .i64 0, .int .i64 0] 29))) := below_trans HBm.out (below_alloc' _ _)
                    have HQn : Hid ((tm.alloc (.cells #[.int .i64 0, .int .i64 0, .int .i64 0, .int .i64 0] 29)).heap[w.heap.size + 1]? = some (.cells #[.int .u64 (f0 : Int), .int .i64 f1, .int .i64 f2, .int .i64 f3, .int .i64 f4, .bool f5, .slice a j cv] 25 (0, 0))) := blk_up HQm.out (below_alloc' _ _)
                    have HRn : Hid ((tm.alloc (.cells #[.int .i64 0, .int .i64 0, .int .i64 0, .int .i64 0] 29)).heap[w.heap.size]? = some (.cells #[.int .u64 0, .int .i64 0, .int .i64 0, .int .i64 0, .int .i64 0, .bool false, .slice none 0 0] 25 (0, 0))) := blk_up HRm.out (below_alloc' _ _)
                    have HOn : Hid ((tm.alloc (.cells #[.int .i64 0, .int .i64 0, .int .i64 0, .int .i64 0] 29)).ownsRow B1 29 4 (.slice a j cv) j (flatF gs)) := HOm.out.alloc _
                    have hSn : B1 ≤ (tm.alloc (.cells #[.int .i64 0, .int .i64 0, .int .i64 0, .int .i64 0] 29)).heap.size := Nat.le_trans hSm (below_alloc' _ _).size
                    have HPn : Hid ((tm.alloc (.cells #[.int .i64 0, .int .i64 0, .int .i64 0, .int .i64 0] 29)).heap[tm.heap.size]? = some (.cells #[.int .i64 0, .int .i64 0, .int .i64 0, .int .i64 0] 29 (0, 0))) := heap_alloc_new _ _
                    have hpo : ∀ g9, (Value.slice a j cv).ownBlock = some g9 → g9 < tm.heap.size := fun g9 h9 => (HOm.out.lt g9 h9).2
                    have hpB : B1 ≤ tm.heap.size := hSm
                    have hSnew : (tm.alloc (.cells #[.int .i64 0, .int .i64 0, .int .i64 0, .int .i64 0] 29)).cell? ⟨gw, 0, none⟩ = some (.string ⟨x0.toArray⟩) ∧ (tm.alloc (.cells #[.int .i64 0, .int .i64 0, .int .i64 0, .int .i64 0] 29)).cell? ⟨gw, 1, none⟩ = some (.string ⟨x1.toArray⟩) ∧ (tm.alloc (.cells #[.int .i64 0, .int .i64 0, .int .i64 0, .int .i64 0] 29)).cell? ⟨gw, 2, none⟩ = some (.string ⟨x2.toArray⟩) ∧ (tm.alloc (.cells #[.int .i64 0, .int .i64 0, .int .i64 0, .int .i64 0] 29)).cell? ⟨gw, 3, none⟩ = some (.string ⟨x3.toArray⟩) := (fun blk9 => ⟨(Below.cell blk9 (block_lt_of_cell hHeld.1)).trans hHeld.1, (Below.cell blk9 (block_lt_of_cell hHeld.2.1)).trans hHeld.2.1, (Below.cell blk9 (block_lt_of_cell hHeld.2.2.1)).trans hHeld.2.2.1, (Below.cell blk9 (block_lt_of_cell hHeld.2.2.2)).trans hHeld.2.2.2⟩) (below_alloc' tm (.cells #[.int .i64 0, .int .i64 0, .int .i64 0, .int .i64 0] 29))
                    refine hK.out _ _ hSnew (fun hHeld18 => ?_)
                    clear hK K hSnew
                    clear hHeld
                    have hHeld := hHeld18
                    clear hHeld18
                    try simp only [Act.put, List.setIfInBounds_toArray, List.set_cons_zero, List.set_cons_succ]
                    obtain ⟨pp9, hpp9⟩ : ∃ pp9, tm.heap.size = pp9 := ⟨_, rfl⟩
                    obtain ⟨tn, htn⟩ : ∃ tn, tm.alloc (.cells #[.int .i64 0, .int .i64 0, .int .i64 0, .int .i64 0] 29) = tn := ⟨_, rfl⟩
                    rw [htn] at HBn HQn HRn HOn HPn hHeld hSn ⊢
                    rw [hpp9] at HPn hpo hpB ⊢
                    clear HBm HQm HRm HOm hSm htn hpp9 tm
                    refine wpAnyH_ready (rs := [11]) (by kernel_rfl) (by simp) ?_
                    refine AllReadyH.cons (o := { dst := some 122, op := Op.call { callee := Callee.value (Operand.func 27), args := #[Operand.tmp 121], argTypes := #[9] }, type := 3, pos := "text.go:163", after := #[{ on := 10, ground := Ground.data }, { on := 7, ground := Ground.chain }], guard := none }) rfl (fun K hK => ?_) AllReadyH.nil
                    go_simp
                    go_at_call 27
                    refine (HU2.out _).mono ?_
                    rintro e tz ⟨rfl, h9⟩
                    rw [h9]
                    clear h9
                    have hSnew := hHeld
                    go_wp2_with fail
                    refine hK.out _ _ hSnew (fun hHeld11 => ?_)
                    clear hK K hSnew
                    clear hHeld
                    have hHeld := hHeld11
                    clear hHeld11
                    try simp only [Act.put, List.setIfInBounds_toArray, List.set_cons_zero, List.set_cons_succ]
                    refine wpAnyH_take (i := 12) (oi := { dst := some 123, op := Op.build 27 #[(0, Operand.tmp 118), (1, Operand.tmp 122)], type := 27, pos := "text.go:163", after := #[{ on := 7, ground := Ground.data }, { on := 11, ground := Ground.data }], guard := none }) (v := ?v12q8) rfl (by kernel_rfl) (by kernel_rfl) (by kernel_rfl) (fun _ _ _ h => h) (Or.inl ⟨by rfl, ?y12q8⟩) (by assumption) ?r12q8
                    case y12q8 => (intro x hx; (try dsimp only at hx); go_simp; try with_reducible rfl)
                    try simp only [Act.put, List.setIfInBounds_toArray, List.set_cons_zero, List.set_cons_succ]
                    refine wpAnyH_ready (rs := [16]) (by kernel_rfl) (by simp) ?_
                    refine AllReadyH.cons (o := { dst := some 127, op := Op.call { callee := Callee.value (Operand.func 27), args := #[Operand.tmp 126], argTypes := #[9] }, type := 3, pos := "text.go:163", after := #[{ on := 15, ground := Ground.data }, { on := 11, ground := Ground.chain }], guard := none }) rfl (fun K hK => ?_) AllReadyH.nil
                    go_simp
                    go_at_call 27
                    refine (HU3.out _).mono ?_
                    rintro e tz ⟨rfl, h9⟩
                    rw [h9]
                    clear h9
                    have hSnew := hHeld
                    go_wp2_with fail
                    refine hK.out _ _ hSnew (fun hHeld16 => ?_)
                    clear hK K hSnew
                    clear hHeld
                    have hHeld := hHeld16
                    clear hHeld16
                    try simp only [Act.put, List.setIfInBounds_toArray, List.set_cons_zero, List.set_cons_succ]
                    refine wpAnyH_take (i := 17) (oi := { dst := some 128, op := Op.build 29 #[(0, Operand.tmp 114), (1, Operand.tmp 123), (2, Operand.tmp 127)], type := 29, pos := "text.go:163", after := #[{ on := 3, ground := Ground.data }, { on := 12, ground := Ground.data }, { on := 16, ground := Ground.data }], guard := none }) (v := ?v17q10) rfl (by kernel_rfl) (by kernel_rfl) (by kernel_rfl) (fun _ _ _ h => h) (Or.inl ⟨by rfl, ?y17q10⟩) (by assumption) ?r17q10
                    case y17q10 => (intro x hx; (try dsimp only at hx); go_simp; try with_reducible rfl)
                    try simp only [Act.put, List.setIfInBounds_toArray, List.set_cons_zero, List.set_cons_succ]
                    obtain ⟨p0, p1, p2, p3⟩ := cells4x HPn.out
                    have pf0 := frozen7 HPn.out 0
                    have pf1 := frozen7 HPn.out 1
                    have pf2 := frozen7 HPn.out 2
                    have pf3 := frozen7 HPn.out 3
                    have HGS : Hid (tn.grownBy ((((tn.setCell ⟨pp9, 0, none⟩ (.int .i64 K0)).setCell ⟨pp9, 1, none⟩ (.int .i64 K1)).setCell ⟨pp9, 2, none⟩ (.int .i64 K2)).setCell ⟨pp9, 3, none⟩ (.int .i64 K3)) (some pp9)) := grown4 _ _ _ _ _ _
                    have HPs : Hid (((((tn.setCell ⟨pp9, 0, none⟩ (.int .i64 K0)).setCell ⟨pp9, 1, none⟩ (.int .i64 K1)).setCell ⟨pp9, 2, none⟩ (.int .i64 K2)).setCell ⟨pp9, 3, none⟩ (.int .i64 K3)).heap[pp9]? = some (.cells #[.int .i64 K0, .int .i64 K1, .int .i64 K2, .int .i64 K3] 29 (0, 0))) := blk4_set HPn.out _ _ _ _
                    refine wpAnyH_ready (rs := [19]) (by kernel_rfl) (by simp) ?_
                    refine AllReadyH.cons (o := { dst := none, op := Op.store 29 (Operand.tmp 16) (Operand.tmp 128), type := 0, pos := "text.go:163", after := #[{ on := 18, ground := Ground.data }, { on := 17, ground := Ground.data }, { on := 16, ground := Ground.chain }, { on := 0, ground := Ground.phase }, { on := 1, ground := Ground.phase }, { on := 2, ground := Ground.phase }, { on := 3, ground := Ground.phase }, { on := 4, ground := Ground.phase }, { on := 5, ground := Ground.phase }, { on := 6, ground := Ground.phase }, { on := 7, ground := Ground.phase }, { on := 8, ground := Ground.phase }, { on := 9, ground := Ground.phase }, { on := 10, ground := Ground.phase }, { on := 11, ground := Ground.phase }, { on := 12, ground := Ground.phase }, { on := 13, ground := Ground.phase }, { on := 14, ground := Ground.phase }, { on := 15, ground := Ground.phase }, { on := 16, ground := Ground.phase }, { on := 17, ground := Ground.phase }, { on := 18, ground := Ground.phase }], guard := none }) rfl (fun K hK => ?_) AllReadyH.nil
                    go_simp
                    go_wp2_with fail
                    have hgw : gw ≠ pp9 := fun e9 => by have h8 := hHeld.1; rw [e9] at h8; simp [World.cell?, HPn.out] at h8
                    obtain ⟨ts, hts⟩ : ∃ ts, ((((tn.setCell ⟨pp9, 0, none⟩ (.int .i64 K0)).setCell ⟨pp9, 1, none⟩ (.int .i64 K1)).setCell ⟨pp9, 2, none⟩ (.int .i64 K2)).setCell ⟨pp9, 3, none⟩ (.int .i64 K3)) = ts := ⟨_, rfl⟩
                    rw [hts] at HGS HPs ⊢
                    clear hts
                    have hSnew := held_grown HGS.out hgw hHeld
                    refine hK.out _ _ hSnew (fun hHeld19 => ?_)
                    clear hK K hSnew
                    clear hHeld
                    have hHeld := hHeld19
                    clear hHeld19
                    try simp only [Act.put, List.setIfInBounds_toArray, List.set_cons_zero, List.set_cons_succ]
                    refine wpAnyH_done (by kernel_rfl) ?_ _
                    clear hHeld p0 p1 p2 p3 pf0 pf1 pf2 pf3
                    have hp2 : B1 ≤ pp9 := hpB
                    have HQs : Hid (ts.heap[w.heap.size + 1]? = some (.cells #[.int .u64 (f0 : Int), .int .i64 f1, .int .i64 f2, .int .i64 f3, .int .i64 f4, .bool f5, .slice a j cv] 25 (0, 0))) := (HGS.out.block _ (lt_of_blk HQn.out) (fun e9 => by have := Option.some.inj e9; omega)).trans HQn.out
                    have HRs : Hid (ts.heap[w.heap.size]? = some (.cells #[.int .u64 0, .int .i64 0, .int .i64 0, .int .i64 0, .int .i64 0, .bool false, .slice none 0 0] 25 (0, 0))) := (HGS.out.block _ (lt_of_blk HRn.out) (fun e9 => by have := Option.some.inj e9; omega)).trans HRn.out
                    have HBs : Hid (Below w.heap.size w ts) := HBn.out.grown HGS.out HBn.out.size (fun i9 h9 => by cases h9; omega)
                    have HOs : Hid (ts.ownsRow B1 29 4 (.slice a j cv) j (flatF gs)) := HOn.out.kept HGS.out (by cases h9 : (Value.slice a j cv).ownBlock with | none => exact Or.inl rfl | some g9 => exact Or.inr (fun e9 => by have h8 := hpo g9 h9; have := Option.some.inj e9; omega))
                    have hSs : B1 ≤ ts.heap.size := Nat.le_trans hSn HGS.out.size
                    clear HGS HQn HRn HBn HOn HPn hSn hpo hgw hpB
                    obtain ⟨p0, p1, p2, p3⟩ := cells4x HPs.out
                    go_wp2_with (first
                      | (go_at_call 23; refine (HRW.out _ (p10_below HT.out HBs.out)).mono ?_; rintro e t5 ⟨rfl, bl5⟩
                         have HB5 : Hid (Below w.heap.size w t5) := below_trans HBs.out bl5
                         have HQ5 : Hid (t5.heap[w.heap.size + 1]? = some (.cells #[.int .u64 (f0 : Int), .int .i64 f1, .int .i64 f2, .int .i64 f3, .int .i64 f4, .bool f5, .slice a j cv] 25 (0, 0))) := blk_up HQs.out bl5
                         have HR5 : Hid (t5.heap[w.heap.size]? = some (.cells #[.int .u64 0, .int .i64 0, .int .i64 0, .int .i64 0, .int .i64 0, .bool false, .slice none 0 0] 25 (0, 0))) := blk_up HRs.out bl5
                         have HO5 : Hid (t5.ownsRow B1 29 4 (.slice a j cv) j (flatF gs)) := ownF_below HOs.out bl5
                         have hS5 : B1 ≤ t5.heap.size := Nat.le_trans hSs bl5.size
                         have HP5 : Hid (t5.heap[pp9]? = some (.cells #[.int .i64 K0, .int .i64 K1, .int .i64 K2, .int .i64 K3] 29 (0, 0))) := blk_up HPs.out bl5
                         clear p0 p1 p2 p3 bl5 HBs HQs HRs HOs HPs hSs
                         obtain ⟨z0, z1, z2, z3, z4, z5, z6⟩ := cells7 HR5.out
                         have rf0 := frozen7 HR5.out 0
                         have rf1 := frozen7 HR5.out 1
                         have rf2 := frozen7 HR5.out 2
                         have rf3 := frozen7 HR5.out 3
                         have rf4 := frozen7 HR5.out 4
                         have rf5 := frozen7 HR5.out 5
                         have rf6 := frozen7 HR5.out 6
                      ))
                    refine bodyPost_ret (v := .tuple #[.agg #[.int .u64 0, .int .i64 0, .int .i64 0, .int .i64 0, .int .i64 0, .bool false, .slice none 0 0], .int .i64 200, .int .i64 (7 + (j : Int))]) (by obtain ⟨z0, z1, z2, z3, z4, z5, z6⟩ := cells7 (blk7_set HR5.out (.int .u64 0) (.int .i64 0) (.int .i64 0) (.int .i64 0) (.int .i64 0) (.bool false) (.slice none 0 0)); simp [results, Tryd.results9, go_sem, z0, z1, z2, z3, z4, z5, z6]) rfl ⟨?_, ?_⟩
                    · rw [HX.out]; show _ = Ending.returned (.tuple #[_, _, .int .i64 ((7 + j : Nat) : Int)]); rw [show ((7 + j : Nat) : Int) = 7 + (j : Int) by omega]
                    · exact HB5.out.grown (grown7 _ _ _ _ _ _ _ _ _) HB5.out.size (fun i hi => by cases hi; exact Nat.le_refl _)
                · go_simp
                  go_wp2_with fail
                  have HBn : Hid (Below w.heap.size w (tm.alloc (.cells #[.int .i64 0, .int .i64 0, .int .i64 0, .int .i64 0] 29))) := below_trans HBm.out (below_alloc' _ _)
                  have HQn : Hid ((tm.alloc (.cells #[.int .i64 0, .int .i64 0, .int .i64 0, .int .i64 0] 29)).heap[w.heap.size + 1]? = some (.cells #[.int .u64 (f0 : Int), .int .i64 f1, .int .i64 f2, .int .i64 f3, .int .i64 f4, .bool f5, .slice a j cv] 25 (0, 0))) := blk_up HQm.out (below_alloc' _ _)
                  have HRn : Hid ((tm.alloc (.cells #[.int .i64 0, .int .i64 0, .int .i64 0, .int .i64 0] 29)).heap[w.heap.size]? = some (.cells #[.int .u64 0, .int .i64 0, .int .i64 0, .int .i64 0, .int .i64 0, .bool false, .slice none 0 0] 25 (0, 0))) := blk_up HRm.out (below_alloc' _ _)
                  have HOn : Hid ((tm.alloc (.cells #[.int .i64 0, .int .i64 0, .int .i64 0, .int .i64 0] 29)).ownsRow B1 29 4 (.slice a j cv) j (flatF gs)) := HOm.out.alloc _
                  have hSn : B1 ≤ (tm.alloc (.cells #[.int .i64 0, .int .i64 0, .int .i64 0, .int .i64 0] 29)).heap.size := Nat.le_trans hSm (below_alloc' _ _).size
                  have HPn : Hid ((tm.alloc (.cells #[.int .i64 0, .int .i64 0, .int .i64 0, .int .i64 0] 29)).heap[tm.heap.size]? = some (.cells #[.int .i64 0, .int .i64 0, .int .i64 0, .int .i64 0] 29 (0, 0))) := heap_alloc_new _ _
                  have hpo : ∀ g9, (Value.slice a j cv).ownBlock = some g9 → g9 < tm.heap.size := fun g9 h9 => (HOm.out.lt g9 h9).2
                  have hpB : B1 ≤ tm.heap.size := hSm
                  have hSnew : (tm.alloc (.cells #[.int .i64 0, .int .i64 0, .int .i64 0, .int .i64 0] 29)).cell? ⟨gw, 0, none⟩ = some (.string ⟨x0.toArray⟩) ∧ (tm.alloc (.cells #[.int .i64 0, .int .i64 0, .int .i64 0, .int .i64 0] 29)).cell? ⟨gw, 1, none⟩ = some (.string ⟨x1.toArray⟩) ∧ (tm.alloc (.cells #[.int .i64 0, .int .i64 0, .int .i64 0, .int .i64 0] 29)).cell? ⟨gw, 2, none⟩ = some (.string ⟨x2.toArray⟩) ∧ (tm.alloc (.cells #[.int .i64 0, .int .i64 0, .int .i64 0, .int .i64 0] 29)).cell? ⟨gw, 3, none⟩ = some (.string ⟨x3.toArray⟩) := (fun blk9 => ⟨(Below.cell blk9 (block_lt_of_cell hHeld.1)).trans hHeld.1, (Below.cell blk9 (block_lt_of_cell hHeld.2.1)).trans hHeld.2.1, (Below.cell blk9 (block_lt_of_cell hHeld.2.2.1)).trans hHeld.2.2.1, (Below.cell blk9 (block_lt_of_cell hHeld.2.2.2)).trans hHeld.2.2.2⟩) (below_alloc' tm (.cells #[.int .i64 0, .int .i64 0, .int .i64 0, .int .i64 0] 29))
                  refine hK.out _ _ hSnew (fun hHeld18 => ?_)
                  clear hK K hSnew
                  clear hHeld
                  have hHeld := hHeld18
                  clear hHeld18
                  try simp only [Act.put, List.setIfInBounds_toArray, List.set_cons_zero, List.set_cons_succ]
                  obtain ⟨pp9, hpp9⟩ : ∃ pp9, tm.heap.size = pp9 := ⟨_, rfl⟩
                  obtain ⟨tn, htn⟩ : ∃ tn, tm.alloc (.cells #[.int .i64 0, .int .i64 0, .int .i64 0, .int .i64 0] 29) = tn := ⟨_, rfl⟩
                  rw [htn] at HBn HQn HRn HOn HPn hHeld hSn ⊢
                  rw [hpp9] at HPn hpo hpB ⊢
                  clear HBm HQm HRm HOm hSm htn hpp9 tm
                  refine wpAnyH_ready (rs := [7]) (by kernel_rfl) (by simp) ?_
                  refine AllReadyH.cons (o := { dst := some 118, op := Op.call { callee := Callee.value (Operand.func 27), args := #[Operand.tmp 117], argTypes := #[9] }, type := 3, pos := "text.go:163", after := #[{ on := 6, ground := Ground.data }, { on := 3, ground := Ground.chain }], guard := none }) rfl (fun K hK => ?_) AllReadyH.nil
                  go_simp
                  go_at_call 27
                  refine (HU1.out _).mono ?_
                  rintro e tz ⟨rfl, h9⟩
                  rw [h9]
                  clear h9
                  have hSnew := hHeld
                  go_wp2_with fail
                  refine hK.out _ _ hSnew (fun hHeld7 => ?_)
                  clear hK K hSnew
                  clear hHeld
                  have hHeld := hHeld7
                  clear hHeld7
                  try simp only [Act.put, List.setIfInBounds_toArray, List.set_cons_zero, List.set_cons_succ]
                  refine wpAnyH_ready (rs := [11]) (by kernel_rfl) (by simp) ?_
                  refine AllReadyH.cons (o := { dst := some 122, op := Op.call { callee := Callee.value (Operand.func 27), args := #[Operand.tmp 121], argTypes := #[9] }, type := 3, pos := "text.go:163", after := #[{ on := 10, ground := Ground.data }, { on := 7, ground := Ground.chain }], guard := none }) rfl (fun K hK => ?_) AllReadyH.nil
                  go_simp
                  go_at_call 27
                  refine (HU2.out _).mono ?_
                  rintro e tz ⟨rfl, h9⟩
                  rw [h9]
                  clear h9
                  have hSnew := hHeld
                  go_wp2_with fail
                  refine hK.out _ _ hSnew (fun hHeld11 => ?_)
                  clear hK K hSnew
                  clear hHeld
                  have hHeld := hHeld11
                  clear hHeld11
                  try simp only [Act.put, List.setIfInBounds_toArray, List.set_cons_zero, List.set_cons_succ]
                  refine wpAnyH_take (i := 12) (oi := { dst := some 123, op := Op.build 27 #[(0, Operand.tmp 118), (1, Operand.tmp 122)], type := 27, pos := "text.go:163", after := #[{ on := 7, ground := Ground.data }, { on := 11, ground := Ground.data }], guard := none }) (v := ?v12q12) rfl (by kernel_rfl) (by kernel_rfl) (by kernel_rfl) (fun _ _ _ h => h) (Or.inl ⟨by rfl, ?y12q12⟩) (by assumption) ?r12q12
                  case y12q12 => (intro x hx; (try dsimp only at hx); go_simp; try with_reducible rfl)
                  try simp only [Act.put, List.setIfInBounds_toArray, List.set_cons_zero, List.set_cons_succ]
                  refine wpAnyH_ready (rs := [16]) (by kernel_rfl) (by simp) ?_
                  refine AllReadyH.cons (o := { dst := some 127, op := Op.call { callee := Callee.value (Operand.func 27), args := #[Operand.tmp 126], argTypes := #[9] }, type := 3, pos := "text.go:163", after := #[{ on := 15, ground := Ground.data }, { on := 11, ground := Ground.chain }], guard := none }) rfl (fun K hK => ?_) AllReadyH.nil
                  go_simp
                  go_at_call 27
                  refine (HU3.out _).mono ?_
                  rintro e tz ⟨rfl, h9⟩
                  rw [h9]
                  clear h9
                  have hSnew := hHeld
                  go_wp2_with fail
                  refine hK.out _ _ hSnew (fun hHeld16 => ?_)
                  clear hK K hSnew
                  clear hHeld
                  have hHeld := hHeld16
                  clear hHeld16
                  try simp only [Act.put, List.setIfInBounds_toArray, List.set_cons_zero, List.set_cons_succ]
                  refine wpAnyH_take (i := 17) (oi := { dst := some 128, op := Op.build 29 #[(0, Operand.tmp 114), (1, Operand.tmp 123), (2, Operand.tmp 127)], type := 29, pos := "text.go:163", after := #[{ on := 3, ground := Ground.data }, { on := 12, ground := Ground.data }, { on := 16, ground := Ground.data }], guard := none }) (v := ?v17q14) rfl (by kernel_rfl) (by kernel_rfl) (by kernel_rfl) (fun _ _ _ h => h) (Or.inl ⟨by rfl, ?y17q14⟩) (by assumption) ?r17q14
                  case y17q14 => (intro x hx; (try dsimp only at hx); go_simp; try with_reducible rfl)
                  try simp only [Act.put, List.setIfInBounds_toArray, List.set_cons_zero, List.set_cons_succ]
                  obtain ⟨p0, p1, p2, p3⟩ := cells4x HPn.out
                  have pf0 := frozen7 HPn.out 0
                  have pf1 := frozen7 HPn.out 1
                  have pf2 := frozen7 HPn.out 2
                  have pf3 := frozen7 HPn.out 3
                  have HGS : Hid (tn.grownBy ((((tn.setCell ⟨pp9, 0, none⟩ (.int .i64 K0)).setCell ⟨pp9, 1, none⟩ (.int .i64 K1)).setCell ⟨pp9, 2, none⟩ (.int .i64 K2)).setCell ⟨pp9, 3, none⟩ (.int .i64 K3)) (some pp9)) := grown4 _ _ _ _ _ _
                  have HPs : Hid (((((tn.setCell ⟨pp9, 0, none⟩ (.int .i64 K0)).setCell ⟨pp9, 1, none⟩ (.int .i64 K1)).setCell ⟨pp9, 2, none⟩ (.int .i64 K2)).setCell ⟨pp9, 3, none⟩ (.int .i64 K3)).heap[pp9]? = some (.cells #[.int .i64 K0, .int .i64 K1, .int .i64 K2, .int .i64 K3] 29 (0, 0))) := blk4_set HPn.out _ _ _ _
                  refine wpAnyH_ready (rs := [19]) (by kernel_rfl) (by simp) ?_
                  refine AllReadyH.cons (o := { dst := none, op := Op.store 29 (Operand.tmp 16) (Operand.tmp 128), type := 0, pos := "text.go:163", after := #[{ on := 18, ground := Ground.data }, { on := 17, ground := Ground.data }, { on := 16, ground := Ground.chain }, { on := 0, ground := Ground.phase }, { on := 1, ground := Ground.phase }, { on := 2, ground := Ground.phase }, { on := 3, ground := Ground.phase }, { on := 4, ground := Ground.phase }, { on := 5, ground := Ground.phase }, { on := 6, ground := Ground.phase }, { on := 7, ground := Ground.phase }, { on := 8, ground := Ground.phase }, { on := 9, ground := Ground.phase }, { on := 10, ground := Ground.phase }, { on := 11, ground := Ground.phase }, { on := 12, ground := Ground.phase }, { on := 13, ground := Ground.phase }, { on := 14, ground := Ground.phase }, { on := 15, ground := Ground.phase }, { on := 16, ground := Ground.phase }, { on := 17, ground := Ground.phase }, { on := 18, ground := Ground.phase }], guard := none }) rfl (fun K hK => ?_) AllReadyH.nil
                  go_simp
                  go_wp2_with fail
                  have hgw : gw ≠ pp9 := fun e9 => by have h8 := hHeld.1; rw [e9] at h8; simp [World.cell?, HPn.out] at h8
                  obtain ⟨ts, hts⟩ : ∃ ts, ((((tn.setCell ⟨pp9, 0, none⟩ (.int .i64 K0)).setCell ⟨pp9, 1, none⟩ (.int .i64 K1)).setCell ⟨pp9, 2, none⟩ (.int .i64 K2)).setCell ⟨pp9, 3, none⟩ (.int .i64 K3)) = ts := ⟨_, rfl⟩
                  rw [hts] at HGS HPs ⊢
                  clear hts
                  have hSnew := held_grown HGS.out hgw hHeld
                  refine hK.out _ _ hSnew (fun hHeld19 => ?_)
                  clear hK K hSnew
                  clear hHeld
                  have hHeld := hHeld19
                  clear hHeld19
                  try simp only [Act.put, List.setIfInBounds_toArray, List.set_cons_zero, List.set_cons_succ]
                  refine wpAnyH_done (by kernel_rfl) ?_ _
                  clear hHeld p0 p1 p2 p3 pf0 pf1 pf2 pf3
                  have hp2 : B1 ≤ pp9 := hpB
                  have HQs : Hid (ts.heap[w.heap.size + 1]? = some (.cells #[.int .u64 (f0 : Int), .int .i64 f1, .int .i64 f2, .int .i64 f3, .int .i64 f4, .bool f5, .slice a j cv] 25 (0, 0))) := (HGS.out.block _ (lt_of_blk HQn.out) (fun e9 => by have := Option.some.inj e9; omega)).trans HQn.out
                  have HRs : Hid (ts.heap[w.heap.size]? = some (.cells #[.int .u64 0, .int .i64 0, .int .i64 0, .int .i64 0, .int .i64 0, .bool false, .slice none 0 0] 25 (0, 0))) := (HGS.out.block _ (lt_of_blk HRn.out) (fun e9 => by have := Option.some.inj e9; omega)).trans HRn.out
                  have HBs : Hid (Below w.heap.size w ts) := HBn.out.grown HGS.out HBn.out.size (fun i9 h9 => by cases h9; omega)
                  have HOs : Hid (ts.ownsRow B1 29 4 (.slice a j cv) j (flatF gs)) := HOn.out.kept HGS.out (by cases h9 : (Value.slice a j cv).ownBlock with | none => exact Or.inl rfl | some g9 => exact Or.inr (fun e9 => by have h8 := hpo g9 h9; have := Option.some.inj e9; omega))
                  have hSs : B1 ≤ ts.heap.size := Nat.le_trans hSn HGS.out.size
                  clear HGS HQn HRn HBn HOn HPn hSn hpo hgw hpB
                  obtain ⟨p0, p1, p2, p3⟩ := cells4x HPs.out
                  go_wp2_with (first
                    | (go_at_call 23; refine (HRW.out _ (p10_below HT.out HBs.out)).mono ?_; rintro e t5 ⟨rfl, bl5⟩
                       have HB5 : Hid (Below w.heap.size w t5) := below_trans HBs.out bl5
                       have HQ5 : Hid (t5.heap[w.heap.size + 1]? = some (.cells #[.int .u64 (f0 : Int), .int .i64 f1, .int .i64 f2, .int .i64 f3, .int .i64 f4, .bool f5, .slice a j cv] 25 (0, 0))) := blk_up HQs.out bl5
                       have HR5 : Hid (t5.heap[w.heap.size]? = some (.cells #[.int .u64 0, .int .i64 0, .int .i64 0, .int .i64 0, .int .i64 0, .bool false, .slice none 0 0] 25 (0, 0))) := blk_up HRs.out bl5
                       have HO5 : Hid (t5.ownsRow B1 29 4 (.slice a j cv) j (flatF gs)) := ownF_below HOs.out bl5
                       have hS5 : B1 ≤ t5.heap.size := Nat.le_trans hSs bl5.size
                       have HP5 : Hid (t5.heap[pp9]? = some (.cells #[.int .i64 K0, .int .i64 K1, .int .i64 K2, .int .i64 K3] 29 (0, 0))) := blk_up HPs.out bl5
                       clear p0 p1 p2 p3 bl5 HBs HQs HRs HOs HPs hSs
                       obtain ⟨z0, z1, z2, z3, z4, z5, z6⟩ := cells7 HR5.out
                       have rf0 := frozen7 HR5.out 0
                       have rf1 := frozen7 HR5.out 1
                       have rf2 := frozen7 HR5.out 2
                       have rf3 := frozen7 HR5.out 3
                       have rf4 := frozen7 HR5.out 4
                       have rf5 := frozen7 HR5.out 5
                       have rf6 := frozen7 HR5.out 6
                    ))
                  refine bodyPost_ret (v := .tuple #[.agg #[.int .u64 0, .int .i64 0, .int .i64 0, .int .i64 0, .int .i64 0, .bool false, .slice none 0 0], .int .i64 200, .int .i64 (7 + (j : Int))]) (by obtain ⟨z0, z1, z2, z3, z4, z5, z6⟩ := cells7 (blk7_set HR5.out (.int .u64 0) (.int .i64 0) (.int .i64 0) (.int .i64 0) (.int .i64 0) (.bool false) (.slice none 0 0)); simp [results, Tryd.results9, go_sem, z0, z1, z2, z3, z4, z5, z6]) rfl ⟨?_, ?_⟩
                  · rw [HX.out]; show _ = Ending.returned (.tuple #[_, _, .int .i64 ((7 + j : Nat) : Int)]); rw [show ((7 + j : Nat) : Int) = 7 + (j : Int) by omega]
                  · exact HB5.out.grown (grown7 _ _ _ _ _ _ _ _ _) HB5.out.size (fun i hi => by cases hi; exact Nat.le_refl _)
              · go_simp
                go_wp2_with fail
                have HBn : Hid (Below w.heap.size w (tm.alloc (.cells #[.int .i64 0, .int .i64 0, .int .i64 0, .int .i64 0] 29))) := below_trans HBm.out (below_alloc' _ _)
                have HQn : Hid ((tm.alloc (.cells #[.int .i64 0, .int .i64 0, .int .i64 0, .int .i64 0] 29)).heap[w.heap.size + 1]? = some (.cells #[.int .u64 (f0 : Int), .int .i64 f1, .int .i64 f2, .int .i64 f3, .int .i64 f4, .bool f5, .slice a j cv] 25 (0, 0))) := blk_up HQm.out (below_alloc' _ _)
                have HRn : Hid ((tm.alloc (.cells #[.int .i64 0, .int .i64 0, .int .i64 0, .int .i64 0] 29)).heap[w.heap.size]? = some (.cells #[.int .u64 0, .int .i64 0, .int .i64 0, .int .i64 0, .int .i64 0, .bool false, .slice none 0 0] 25 (0, 0))) := blk_up HRm.out (below_alloc' _ _)
                have HOn : Hid ((tm.alloc (.cells #[.int .i64 0, .int .i64 0, .int .i64 0, .int .i64 0] 29)).ownsRow B1 29 4 (.slice a j cv) j (flatF gs)) := HOm.out.alloc _
                have hSn : B1 ≤ (tm.alloc (.cells #[.int .i64 0, .int .i64 0, .int .i64 0, .int .i64 0] 29)).heap.size := Nat.le_trans hSm (below_alloc' _ _).size
                have HPn : Hid ((tm.alloc (.cells #[.int .i64 0, .int .i64 0, .int .i64 0, .int .i64 0] 29)).heap[tm.heap.size]? = some (.cells #[.int .i64 0, .int .i64 0, .int .i64 0, .int .i64 0] 29 (0, 0))) := heap_alloc_new _ _
                have hpo : ∀ g9, (Value.slice a j cv).ownBlock = some g9 → g9 < tm.heap.size := fun g9 h9 => (HOm.out.lt g9 h9).2
                have hpB : B1 ≤ tm.heap.size := hSm
                have hSnew : (tm.alloc (.cells #[.int .i64 0, .int .i64 0, .int .i64 0, .int .i64 0] 29)).cell? ⟨gw, 0, none⟩ = some (.string ⟨x0.toArray⟩) ∧ (tm.alloc (.cells #[.int .i64 0, .int .i64 0, .int .i64 0, .int .i64 0] 29)).cell? ⟨gw, 1, none⟩ = some (.string ⟨x1.toArray⟩) ∧ (tm.alloc (.cells #[.int .i64 0, .int .i64 0, .int .i64 0, .int .i64 0] 29)).cell? ⟨gw, 2, none⟩ = some (.string ⟨x2.toArray⟩) ∧ (tm.alloc (.cells #[.int .i64 0, .int .i64 0, .int .i64 0, .int .i64 0] 29)).cell? ⟨gw, 3, none⟩ = some (.string ⟨x3.toArray⟩) := (fun blk9 => ⟨(Below.cell blk9 (block_lt_of_cell hHeld.1)).trans hHeld.1, (Below.cell blk9 (block_lt_of_cell hHeld.2.1)).trans hHeld.2.1, (Below.cell blk9 (block_lt_of_cell hHeld.2.2.1)).trans hHeld.2.2.1, (Below.cell blk9 (block_lt_of_cell hHeld.2.2.2)).trans hHeld.2.2.2⟩) (below_alloc' tm (.cells #[.int .i64 0, .int .i64 0, .int .i64 0, .int .i64 0] 29))
                refine hK.out _ _ hSnew (fun hHeld18 => ?_)
                clear hK K hSnew
                clear hHeld
                have hHeld := hHeld18
                clear hHeld18
                try simp only [Act.put, List.setIfInBounds_toArray, List.set_cons_zero, List.set_cons_succ]
                obtain ⟨pp9, hpp9⟩ : ∃ pp9, tm.heap.size = pp9 := ⟨_, rfl⟩
                obtain ⟨tn, htn⟩ : ∃ tn, tm.alloc (.cells #[.int .i64 0, .int .i64 0, .int .i64 0, .int .i64 0] 29) = tn := ⟨_, rfl⟩
                rw [htn] at HBn HQn HRn HOn HPn hHeld hSn ⊢
                rw [hpp9] at HPn hpo hpB ⊢
                clear HBm HQm HRm HOm hSm htn hpp9 tm
                refine wpAnyH_ready (rs := [3]) (by kernel_rfl) (by simp) ?_
                refine AllReadyH.cons (o := { dst := some 114, op := Op.call { callee := Callee.value (Operand.func 28), args := #[Operand.tmp 113], argTypes := #[9] }, type := 3, pos := "text.go:163", after := #[{ on := 2, ground := Ground.data }], guard := none }) rfl (fun K hK => ?_) AllReadyH.nil
                go_simp
                go_at_call 28
                refine (HU0.out _).mono ?_
                rintro e tk ⟨rfl, blk9⟩
                have HBk : Hid (Below w.heap.size w tk) := below_trans HBn.out blk9
                have HQk : Hid (tk.heap[w.heap.size + 1]? = some (.cells #[.int .u64 (f0 : Int), .int .i64 f1, .int .i64 f2, .int .i64 f3, .int .i64 f4, .bool f5, .slice a j cv] 25 (0, 0))) := blk_up HQn.out blk9
                have HRk : Hid (tk.heap[w.heap.size]? = some (.cells #[.int .u64 0, .int .i64 0, .int .i64 0, .int .i64 0, .int .i64 0, .bool false, .slice none 0 0] 25 (0, 0))) := blk_up HRn.out blk9
                have HOk : Hid (tk.ownsRow B1 29 4 (.slice a j cv) j (flatF gs)) := ownF_below HOn.out blk9
                have hSk : B1 ≤ tk.heap.size := Nat.le_trans hSn blk9.size
                have HPk : Hid (tk.heap[pp9]? = some (.cells #[.int .i64 0, .int .i64 0, .int .i64 0, .int .i64 0] 29 (0, 0))) := blk_up HPn.out blk9
                have hSnew : tk.cell? ⟨gw, 0, none⟩ = some (.string ⟨x0.toArray⟩) ∧ tk.cell? ⟨gw, 1, none⟩ = some (.string ⟨x1.toArray⟩) ∧ tk.cell? ⟨gw, 2, none⟩ = some (.string ⟨x2.toArray⟩) ∧ tk.cell? ⟨gw, 3, none⟩ = some (.string ⟨x3.toArray⟩) := ⟨(blk9.cell (block_lt_of_cell hHeld.1)).trans hHeld.1, (blk9.cell (block_lt_of_cell hHeld.2.1)).trans hHeld.2.1, (blk9.cell (block_lt_of_cell hHeld.2.2.1)).trans hHeld.2.2.1, (blk9.cell (block_lt_of_cell hHeld.2.2.2)).trans hHeld.2.2.2⟩
                go_wp2_with fail
                refine hK.out _ _ hSnew (fun hHeld3 => ?_)
                clear hK K hSnew
                clear hHeld
                have hHeld := hHeld3
                clear hHeld3
                try simp only [Act.put, List.setIfInBounds_toArray, List.set_cons_zero, List.set_cons_succ]
                clear HBn HQn HRn HOn HPn hSn blk9 tn
                obtain ⟨tn, htn⟩ : ∃ tn, tn = tk := ⟨_, rfl⟩
                subst htn
                have HBn := HBk
                have HQn := HQk
                have HRn := HRk
                have HOn := HOk
                have HPn := HPk
                have hSn := hSk
                clear HBk HQk HRk HOk HPk hSk
                refine wpAnyH_ready (rs := [7]) (by kernel_rfl) (by simp) ?_
                refine AllReadyH.cons (o := { dst := some 118, op := Op.call { callee := Callee.value (Operand.func 27), args := #[Operand.tmp 117], argTypes := #[9] }, type := 3, pos := "text.go:163", after := #[{ on := 6, ground := Ground.data }, { on := 3, ground := Ground.chain }], guard := none }) rfl (fun K hK => ?_) AllReadyH.nil
                go_simp
                go_at_call 27
                refine (HU1.out _).mono ?_
                rintro e tz ⟨rfl, h9⟩
                rw [h9]
                clear h9
                have hSnew := hHeld
                go_wp2_with fail
                refine hK.out _ _ hSnew (fun hHeld7 => ?_)
                clear hK K hSnew
                clear hHeld
                have hHeld := hHeld7
                clear hHeld7
                try simp only [Act.put, List.setIfInBounds_toArray, List.set_cons_zero, List.set_cons_succ]
                refine wpAnyH_ready (rs := [11]) (by kernel_rfl) (by simp) ?_
                refine AllReadyH.cons (o := { dst := some 122, op := Op.call { callee := Callee.value (Operand.func 27), args := #[Operand.tmp 121], argTypes := #[9] }, type := 3, pos := "text.go:163", after := #[{ on := 10, ground := Ground.data }, { on := 7, ground := Ground.chain }], guard := none }) rfl (fun K hK => ?_) AllReadyH.nil
                go_simp
                go_at_call 27
                refine (HU2.out _).mono ?_
                rintro e tz ⟨rfl, h9⟩
                rw [h9]
                clear h9
                have hSnew := hHeld
                go_wp2_with fail
                refine hK.out _ _ hSnew (fun hHeld11 => ?_)
                clear hK K hSnew
                clear hHeld
                have hHeld := hHeld11
                clear hHeld11
                try simp only [Act.put, List.setIfInBounds_toArray, List.set_cons_zero, List.set_cons_succ]
                refine wpAnyH_take (i := 12) (oi := { dst := some 123, op := Op.build 27 #[(0, Operand.tmp 118), (1, Operand.tmp 122)], type := 27, pos := "text.go:163", after := #[{ on := 7, ground := Ground.data }, { on := 11, ground := Ground.data }], guard := none }) (v := ?v12q17) rfl (by kernel_rfl) (by kernel_rfl) (by kernel_rfl) (fun _ _ _ h => h) (Or.inl ⟨by rfl, ?y12q17⟩) (by assumption) ?r12q17
                case y12q17 => (intro x hx; (try dsimp only at hx); go_simp; try with_reducible rfl)
                try simp only [Act.put, List.setIfInBounds_toArray, List.set_cons_zero, List.set_cons_succ]
                refine wpAnyH_ready (rs := [16]) (by kernel_rfl) (by simp) ?_
                refine AllReadyH.cons (o := { dst := some 127, op := Op.call { callee := Callee.value (Operand.func 27), args := #[Operand.tmp 126], argTypes := #[9] }, type := 3, pos := "text.go:163", after := #[{ on := 15, ground := Ground.data }, { on := 11, ground := Ground.chain }], guard := none }) rfl (fun K hK => ?_) AllReadyH.nil
                go_simp
                go_at_call 27
                refine (HU3.out _).mono ?_
                rintro e tz ⟨rfl, h9⟩
                rw [h9]
                clear h9
                have hSnew := hHeld
                go_wp2_with fail
                refine hK.out _ _ hSnew (fun hHeld16 => ?_)
                clear hK K hSnew
                clear hHeld
                have hHeld := hHeld16
                clear hHeld16
                try simp only [Act.put, List.setIfInBounds_toArray, List.set_cons_zero, List.set_cons_succ]
                refine wpAnyH_take (i := 17) (oi := { dst := some 128, op := Op.build 29 #[(0, Operand.tmp 114), (1, Operand.tmp 123), (2, Operand.tmp 127)], type := 29, pos := "text.go:163", after := #[{ on := 3, ground := Ground.data }, { on := 12, ground := Ground.data }, { on := 16, ground := Ground.data }], guard := none }) (v := ?v17q19) rfl (by kernel_rfl) (by kernel_rfl) (by kernel_rfl) (fun _ _ _ h => h) (Or.inl ⟨by rfl, ?y17q19⟩) (by assumption) ?r17q19
                case y17q19 => (intro x hx; (try dsimp only at hx); go_simp; try with_reducible rfl)
                try simp only [Act.put, List.setIfInBounds_toArray, List.set_cons_zero, List.set_cons_succ]
                obtain ⟨p0, p1, p2, p3⟩ := cells4x HPn.out
                have pf0 := frozen7 HPn.out 0
                have pf1 := frozen7 HPn.out 1
                have pf2 := frozen7 HPn.out 2
                have pf3 := frozen7 HPn.out 3
                have HGS : Hid (tn.grownBy ((((tn.setCell ⟨pp9, 0, none⟩ (.int .i64 K0)).setCell ⟨pp9, 1, none⟩ (.int .i64 K1)).setCell ⟨pp9, 2, none⟩ (.int .i64 K2)).setCell ⟨pp9, 3, none⟩ (.int .i64 K3)) (some pp9)) := grown4 _ _ _ _ _ _
                have HPs : Hid (((((tn.setCell ⟨pp9, 0, none⟩ (.int .i64 K0)).setCell ⟨pp9, 1, none⟩ (.int .i64 K1)).setCell ⟨pp9, 2, none⟩ (.int .i64 K2)).setCell ⟨pp9, 3, none⟩ (.int .i64 K3)).heap[pp9]? = some (.cells #[.int .i64 K0, .int .i64 K1, .int .i64 K2, .int .i64 K3] 29 (0, 0))) := blk4_set HPn.out _ _ _ _
                refine wpAnyH_ready (rs := [19]) (by kernel_rfl) (by simp) ?_
                refine AllReadyH.cons (o := { dst := none, op := Op.store 29 (Operand.tmp 16) (Operand.tmp 128), type := 0, pos := "text.go:163", after := #[{ on := 18, ground := Ground.data }, { on := 17, ground := Ground.data }, { on := 16, ground := Ground.chain }, { on := 0, ground := Ground.phase }, { on := 1, ground := Ground.phase }, { on := 2, ground := Ground.phase }, { on := 3, ground := Ground.phase }, { on := 4, ground := Ground.phase }, { on := 5, ground := Ground.phase }, { on := 6, ground := Ground.phase }, { on := 7, ground := Ground.phase }, { on := 8, ground := Ground.phase }, { on := 9, ground := Ground.phase }, { on := 10, ground := Ground.phase }, { on := 11, ground := Ground.phase }, { on := 12, ground := Ground.phase }, { on := 13, ground := Ground.phase }, { on := 14, ground := Ground.phase }, { on := 15, ground := Ground.phase }, { on := 16, ground := Ground.phase }, { on := 17, ground := Ground.phase }, { on := 18, ground := Ground.phase }], guard := none }) rfl (fun K hK => ?_) AllReadyH.nil
                go_simp
                go_wp2_with fail
                have hgw : gw ≠ pp9 := fun e9 => by have h8 := hHeld.1; rw [e9] at h8; simp [World.cell?, HPn.out] at h8
                obtain ⟨ts, hts⟩ : ∃ ts, ((((tn.setCell ⟨pp9, 0, none⟩ (.int .i64 K0)).setCell ⟨pp9, 1, none⟩ (.int .i64 K1)).setCell ⟨pp9, 2, none⟩ (.int .i64 K2)).setCell ⟨pp9, 3, none⟩ (.int .i64 K3)) = ts := ⟨_, rfl⟩
                rw [hts] at HGS HPs ⊢
                clear hts
                have hSnew := held_grown HGS.out hgw hHeld
                refine hK.out _ _ hSnew (fun hHeld19 => ?_)
                clear hK K hSnew
                clear hHeld
                have hHeld := hHeld19
                clear hHeld19
                try simp only [Act.put, List.setIfInBounds_toArray, List.set_cons_zero, List.set_cons_succ]
                refine wpAnyH_done (by kernel_rfl) ?_ _
                clear hHeld p0 p1 p2 p3 pf0 pf1 pf2 pf3
                have hp2 : B1 ≤ pp9 := hpB
                have HQs : Hid (ts.heap[w.heap.size + 1]? = some (.cells #[.int .u64 (f0 : Int), .int .i64 f1, .int .i64 f2, .int .i64 f3, .int .i64 f4, .bool f5, .slice a j cv] 25 (0, 0))) := (HGS.out.block _ (lt_of_blk HQn.out) (fun e9 => by have := Option.some.inj e9; omega)).trans HQn.out
                have HRs : Hid (ts.heap[w.heap.size]? = some (.cells #[.int .u64 0, .int .i64 0, .int .i64 0, .int .i64 0, .int .i64 0, .bool false, .slice none 0 0] 25 (0, 0))) := (HGS.out.block _ (lt_of_blk HRn.out) (fun e9 => by have := Option.some.inj e9; omega)).trans HRn.out
                have HBs : Hid (Below w.heap.size w ts) := HBn.out.grown HGS.out HBn.out.size (fun i9 h9 => by cases h9; omega)
                have HOs : Hid (ts.ownsRow B1 29 4 (.slice a j cv) j (flatF gs)) := HOn.out.kept HGS.out (by cases h9 : (Value.slice a j cv).ownBlock with | none => exact Or.inl rfl | some g9 => exact Or.inr (fun e9 => by have h8 := hpo g9 h9; have := Option.some.inj e9; omega))
                have hSs : B1 ≤ ts.heap.size := Nat.le_trans hSn HGS.out.size
                clear HGS HQn HRn HBn HOn HPn hSn hpo hgw hpB
                obtain ⟨p0, p1, p2, p3⟩ := cells4x HPs.out
                go_wp2_with (first
                  | (go_at_call 23; refine (HRW.out _ (p10_below HT.out HBs.out)).mono ?_; rintro e t5 ⟨rfl, bl5⟩
                     have HB5 : Hid (Below w.heap.size w t5) := below_trans HBs.out bl5
                     have HQ5 : Hid (t5.heap[w.heap.size + 1]? = some (.cells #[.int .u64 (f0 : Int), .int .i64 f1, .int .i64 f2, .int .i64 f3, .int .i64 f4, .bool f5, .slice a j cv] 25 (0, 0))) := blk_up HQs.out bl5
                     have HR5 : Hid (t5.heap[w.heap.size]? = some (.cells #[.int .u64 0, .int .i64 0, .int .i64 0, .int .i64 0, .int .i64 0, .bool false, .slice none 0 0] 25 (0, 0))) := blk_up HRs.out bl5
                     have HO5 : Hid (t5.ownsRow B1 29 4 (.slice a j cv) j (flatF gs)) := ownF_below HOs.out bl5
                     have hS5 : B1 ≤ t5.heap.size := Nat.le_trans hSs bl5.size
                     have HP5 : Hid (t5.heap[pp9]? = some (.cells #[.int .i64 K0, .int .i64 K1, .int .i64 K2, .int .i64 K3] 29 (0, 0))) := blk_up HPs.out bl5
                     clear p0 p1 p2 p3 bl5 HBs HQs HRs HOs HPs hSs
                     obtain ⟨z0, z1, z2, z3, z4, z5, z6⟩ := cells7 HR5.out
                     have rf0 := frozen7 HR5.out 0
                     have rf1 := frozen7 HR5.out 1
                     have rf2 := frozen7 HR5.out 2
                     have rf3 := frozen7 HR5.out 3
                     have rf4 := frozen7 HR5.out 4
                     have rf5 := frozen7 HR5.out 5
                     have rf6 := frozen7 HR5.out 6
                  ))
                refine bodyPost_ret (v := .tuple #[.agg #[.int .u64 0, .int .i64 0, .int .i64 0, .int .i64 0, .int .i64 0, .bool false, .slice none 0 0], .int .i64 200, .int .i64 (7 + (j : Int))]) (by obtain ⟨z0, z1, z2, z3, z4, z5, z6⟩ := cells7 (blk7_set HR5.out (.int .u64 0) (.int .i64 0) (.int .i64 0) (.int .i64 0) (.int .i64 0) (.bool false) (.slice none 0 0)); simp [results, Tryd.results9, go_sem, z0, z1, z2, z3, z4, z5, z6]) rfl ⟨?_, ?_⟩
                · rw [HX.out]; show _ = Ending.returned (.tuple #[_, _, .int .i64 ((7 + j : Nat) : Int)]); rw [show ((7 + j : Nat) : Int) = 7 + (j : Int) by omega]
                · exact HB5.out.grown (grown7 _ _ _ _ _ _ _ _ _) HB5.out.size (fun i hi => by cases hi; exact Nat.le_refl _)

          · have HX : Hid (rp l0 = (none, 7 + j)) := by
              have h8 : rowsE L = _ := HL.out
              unfold Hid
              rw [HC.out]
              unfold cont6
              rw [h8, rows_bad HNL.out (fd_short h4)]
              show (none, 6 + (j + 1)) = _
              rw [show 6 + (j + 1) = 7 + j by omega]
            obtain ⟨m, hm⟩ : ∃ m, (thL L2).length = m := ⟨_, rfl⟩
            have hm2 : ((m : Int) == 4) = false := by rw [beq_eq_false_iff_ne]; omega
            have HW : Hid (∀ y, Calls Tryd.prog 25 #[.string ⟨S.toArray⟩] y fun e w' => ∃ a c, e = .returned (.slice a m c) ∧ Below y.heap.size y w') := fun y => words_len S m (by rw [HTS.out]; exact hm) y hSl
            clear h4 hm HTS HSE HRE HC HL HO
            go_wp2_with (first
              | (go_at_call 24; refine HLN.mono ?_; rintro e t1 ⟨rfl, bl1⟩
                 have HB1 : Hid (Below w.heap.size w t1) := below_trans HB.out bl1
                 have HQ1 : Hid (t1.heap[w.heap.size + 1]? = some (.cells #[.int .u64 (f0 : Int), .int .i64 f1, .int .i64 f2, .int .i64 f3, .int .i64 f4, .bool f5, .slice a j cv] 25 (0, 0))) := blk_up HQ.out bl1
                 have HR1 : Hid (t1.heap[w.heap.size]? = some (.cells #[.int .u64 0, .int .i64 0, .int .i64 0, .int .i64 0, .int .i64 0, .bool false, .slice none 0 0] 25 (0, 0))) := blk_up HR.out bl1
                 clear bl1)
              | (go_at_call 25; refine (HW.out _).mono ?_; rintro e t2 ⟨aw, cw, rfl, bl2⟩
                 have HBx : Hid (Below w.heap.size w t2) := below_trans HB1.out bl2
                 have HRx : Hid (t2.heap[w.heap.size]? = some (.cells #[.int .u64 0, .int .i64 0, .int .i64 0, .int .i64 0, .int .i64 0, .bool false, .slice none 0 0] 25 (0, 0))) := blk_up HR1.out bl2
                 obtain ⟨z0, z1, z2, z3, z4, z5, z6⟩ := cells7 HRx.out
                 have rf0 := frozen7 HRx.out 0
                 have rf1 := frozen7 HRx.out 1
                 have rf2 := frozen7 HRx.out 2
                 have rf3 := frozen7 HRx.out 3
                 have rf4 := frozen7 HRx.out 4
                 have rf5 := frozen7 HRx.out 5
                 have rf6 := frozen7 HRx.out 6
                 clear bl2))
            refine bodyPost_ret (v := .tuple #[.agg #[.int .u64 0, .int .i64 0, .int .i64 0, .int .i64 0, .int .i64 0, .bool false, .slice none 0 0], .int .i64 200, .int .i64 (7 + (j : Int))]) (by obtain ⟨z0, z1, z2, z3, z4, z5, z6⟩ := cells7 (blk7_set HRx.out (.int .u64 0) (.int .i64 0) (.int .i64 0) (.int .i64 0) (.int .i64 0) (.bool false) (.slice none 0 0)); simp [results, Tryd.results9, go_sem, z0, z1, z2, z3, z4, z5, z6]) rfl ⟨?_, ?_⟩
            · rw [HX.out]; show _ = Ending.returned (.tuple #[_, _, .int .i64 ((7 + j : Nat) : Int)]); rw [show ((7 + j : Nat) : Int) = 7 + (j : Int) by omega]
            · exact HBx.out.grown (grown7 _ _ _ _ _ _ _ _ _) HBx.out.size (fun i hi => by cases hi; exact Nat.le_refl _)



end Go.Proofs.YtnjcjaaciphcgaaDoor
