/-
  SEAT Ytoaahellfflooaa.
-/
import Derived.Test.YtoaahellfflooaaVWm
import Derived.Test.YtoaahellfflooaaVWe
namespace Go.Proofs.Ytoaahellfflooaa
open Go.RowKit
set_option linter.unusedVariables false

theorem set6 {w : World} {q : Nat} {a0 a1 a2 a3 a4 a5 : Value} {t : TypeId} (h : w.heap[q]? = some (.cells #[a0, a1, a2, a3, a4, a5] t (0, 0))) (v0 v1 v2 v3 v4 v5 : Value) :
    ((((((w.setCell ⟨q, 0, none⟩ v0).setCell ⟨q, 1, none⟩ v1).setCell ⟨q, 2, none⟩ v2).setCell ⟨q, 3, none⟩ v3).setCell ⟨q, 4, none⟩ v4).setCell ⟨q, 5, none⟩ v5).heap[q]? = some (.cells #[v0, v1, v2, v3, v4, v5] t (0, 0)) := by
  have h0 := heap_setCell_same w q 0 _ _ v0 h
  have h1 := heap_setCell_same _ q 1 _ _ v1 h0
  have h2 := heap_setCell_same _ q 2 _ _ v2 h1
  have h3 := heap_setCell_same _ q 3 _ _ v3 h2
  have h4 := heap_setCell_same _ q 4 _ _ v4 h3
  exact heap_setCell_same _ q 5 _ _ v5 h4
theorem only6 (w : World) (q : Nat) (v0 v1 v2 v3 v4 v5 : Value) : Only (· = q) w ((((((w.setCell ⟨q, 0, none⟩ v0).setCell ⟨q, 1, none⟩ v1).setCell ⟨q, 2, none⟩ v2).setCell ⟨q, 3, none⟩ v3).setCell ⟨q, 4, none⟩ v4).setCell ⟨q, 5, none⟩ v5) :=
  (((((Only.setCell (· = q) w q 0 v0 rfl).trans' (Only.setCell _ _ q 1 v1 rfl)).trans' (Only.setCell _ _ q 2 v2 rfl)).trans' (Only.setCell _ _ q 3 v3 rfl)).trans' (Only.setCell _ _ q 4 v4 rfl)).trans' (Only.setCell _ _ q 5 v5 rfl)
theorem CopS.only {F : Nat → Prop} {w w' : World} {B : Nat} {s : St} {vb vo : Value} {n m : Nat} {ms : List (Ob × Value)} (h : CopS w B s vb vo n m ms) (ho : Only F w w') (hf : ∀ j cs t, w.heap[j]? = some (.cells cs t (0, 0)) → t ≠ 27 → ¬ F j) : CopS w' B s vb vo n m ms := by
  have key : ∀ {e st n : Nat} {v : Value} {cs ms : List Value}, Mrk w B e st v n cs ms → e ≠ 27 → Mrk w' B e st v n cs ms := fun hm he => hm.only ho (fun i hi => by
    obtain ⟨c9, h9⟩ := hm.tag i hi
    exact hf i _ _ h9 he)
  exact ⟨key h.mb (by decide), key h.mo (by decide), fun x hx => key (h.mc x hx) (by decide), h.os⟩
theorem no_is (F : Nat → Prop) {i : Nat} (h : ¬ F i) : ¬ F i := h
theorem info_4 {t : TypeId} {z : Value} {n b : Nat} (h : (Try.prog.info? t).map (fun i => (i.zero, i.size, i.bytes)) = some (some z, n, b)) : ∃ i0, Hid (Try.prog.info? t = some i0 ∧ i0.zero = some z ∧ i0.size = n ∧ i0.bytes = b) := by
  obtain ⟨i0, a, b, c, d⟩ := info_parts h
  exact ⟨i0, a, b, c, d⟩
set_option maxHeartbeats 8000000 in
set_option maxRecDepth 100000 in
theorem copied11 (fl nx cu la : Int) (bs : List Blk) (os : List Ob) (ba oa : Option Addr) (n m bc oc : Nat) (ls : List (Ob × Value)) (w : World) (hs : StOn w ⟨fl, nx, cu, la, bs, os⟩ ba oa n m ls) (hn : n ≤ 4398046510976) (hm : m ≤ 1034834473170) (ho : ∀ x ∈ ls, x.1.ch.length ≤ 4398046510976) :
    Calls Try.prog 11 #[.agg #[.int .u64 fl, .int .u64 nx, .int .i64 cu, .int .i64 la, .slice ba n bc, .slice oa m oc]] w fun e w' => ∃ vb vo ms, e = .returned (.agg #[.int .u64 fl, .int .u64 nx, .int .i64 cu, .int .i64 la, vb, vo]) ∧ CopS w' w.heap.size ⟨fl, nx, cu, la, bs, os⟩ vb vo n m ms ∧ Below w.heap.size w w' := by
  obtain ⟨i48, H48⟩ := info_4 info48
  obtain ⟨i55, H55⟩ := info_4 info55
  obtain ⟨i71, H71⟩ := info_4 info71
  have HS := hide hs
  have HO := hide ho
  have HNB := hide hn
  have HMB := hide hm
  have hon : os.length = m := by have h1 := ReadsO.len hs.o; have h2 := hs.os; simp only at h2; rw [← h2, List.length_map]; exact h1
  have HON := hide hon
  have hb0 : Below w.heap.size w (((w.alloc (.cells #[.int .u64 fl, .int .u64 nx, .int .i64 cu, .int .i64 la, .slice ba n bc, .slice oa m oc] 27)).alloc (.cells #[.int .u64 0, .int .u64 0, .int .i64 0, .int .i64 0, .slice none 0 0, .slice none 0 0] 27)).alloc (.cells #[.int .u64 fl, .int .u64 nx, .int .i64 cu, .int .i64 la, .slice ba n bc, .slice oa m oc] 27)) := (below_alloc _ _).trans (((below_alloc _ _).mono (by simp)).trans ((below_alloc _ _).mono (by simp; omega)))
  have hb1 : Below (((w.alloc (.cells #[.int .u64 fl, .int .u64 nx, .int .i64 cu, .int .i64 la, .slice ba n bc, .slice oa m oc] 27)).alloc (.cells #[.int .u64 0, .int .u64 0, .int .i64 0, .int .i64 0, .slice none 0 0, .slice none 0 0] 27)).alloc (.cells #[.int .u64 fl, .int .u64 nx, .int .i64 cu, .int .i64 la, .slice ba n bc, .slice oa m oc] 27)).heap.size (((w.alloc (.cells #[.int .u64 fl, .int .u64 nx, .int .i64 cu, .int .i64 la, .slice ba n bc, .slice oa m oc] 27)).alloc (.cells #[.int .u64 0, .int .u64 0, .int .i64 0, .int .i64 0, .slice none 0 0, .slice none 0 0] 27)).alloc (.cells #[.int .u64 fl, .int .u64 nx, .int .i64 cu, .int .i64 la, .slice ba n bc, .slice oa m oc] 27)) ((((w.alloc (.cells #[.int .u64 fl, .int .u64 nx, .int .i64 cu, .int .i64 la, .slice ba n bc, .slice oa m oc] 27)).alloc (.cells #[.int .u64 0, .int .u64 0, .int .i64 0, .int .i64 0, .slice none 0 0, .slice none 0 0] 27)).alloc (.cells #[.int .u64 fl, .int .u64 nx, .int .i64 cu, .int .i64 la, .slice ba n bc, .slice oa m oc] 27)).alloc (.cells #[] 48)) := below_alloc _ _
  have hx1 : (((w.alloc (.cells #[.int .u64 fl, .int .u64 nx, .int .i64 cu, .int .i64 la, .slice ba n bc, .slice oa m oc] 27)).alloc (.cells #[.int .u64 0, .int .u64 0, .int .i64 0, .int .i64 0, .slice none 0 0, .slice none 0 0] 27)).alloc (.cells #[.int .u64 fl, .int .u64 nx, .int .i64 cu, .int .i64 la, .slice ba n bc, .slice oa m oc] 27)).heap[w.heap.size]? = some (.cells #[.int .u64 fl, .int .u64 nx, .int .i64 cu, .int .i64 la, .slice ba n bc, .slice oa m oc] 27 (0, 0)) := by
    rw [Below.heap_alloc _ _ _ (by simp; omega), Below.heap_alloc _ _ _ (by simp)]
    exact heap_alloc_new w _
  have hx2 : (((w.alloc (.cells #[.int .u64 fl, .int .u64 nx, .int .i64 cu, .int .i64 la, .slice ba n bc, .slice oa m oc] 27)).alloc (.cells #[.int .u64 0, .int .u64 0, .int .i64 0, .int .i64 0, .slice none 0 0, .slice none 0 0] 27)).alloc (.cells #[.int .u64 fl, .int .u64 nx, .int .i64 cu, .int .i64 la, .slice ba n bc, .slice oa m oc] 27)).heap[w.heap.size + 1]? = some (.cells #[.int .u64 0, .int .u64 0, .int .i64 0, .int .i64 0, .slice none 0 0, .slice none 0 0] 27 (0, 0)) := by
    rw [Below.heap_alloc _ _ _ (by simp)]
    have h9 := heap_alloc_new (w.alloc (.cells #[.int .u64 fl, .int .u64 nx, .int .i64 cu, .int .i64 la, .slice ba n bc, .slice oa m oc] 27)) (.cells #[.int .u64 0, .int .u64 0, .int .i64 0, .int .i64 0, .slice none 0 0, .slice none 0 0] 27)
    rw [World.size_alloc] at h9
    exact h9
  have hx3 : (((w.alloc (.cells #[.int .u64 fl, .int .u64 nx, .int .i64 cu, .int .i64 la, .slice ba n bc, .slice oa m oc] 27)).alloc (.cells #[.int .u64 0, .int .u64 0, .int .i64 0, .int .i64 0, .slice none 0 0, .slice none 0 0] 27)).alloc (.cells #[.int .u64 fl, .int .u64 nx, .int .i64 cu, .int .i64 la, .slice ba n bc, .slice oa m oc] 27)).heap[w.heap.size + 2]? = some (.cells #[.int .u64 fl, .int .u64 nx, .int .i64 cu, .int .i64 la, .slice ba n bc, .slice oa m oc] 27 (0, 0)) := by
    have h9 := heap_alloc_new ((w.alloc (.cells #[.int .u64 fl, .int .u64 nx, .int .i64 cu, .int .i64 la, .slice ba n bc, .slice oa m oc] 27)).alloc (.cells #[.int .u64 0, .int .u64 0, .int .i64 0, .int .i64 0, .slice none 0 0, .slice none 0 0] 27)) (.cells #[.int .u64 fl, .int .u64 nx, .int .i64 cu, .int .i64 la, .slice ba n bc, .slice oa m oc] 27)
    rw [World.size_alloc, World.size_alloc] at h9
    exact h9
  have hz0 : (((w.alloc (.cells #[.int .u64 fl, .int .u64 nx, .int .i64 cu, .int .i64 la, .slice ba n bc, .slice oa m oc] 27)).alloc (.cells #[.int .u64 0, .int .u64 0, .int .i64 0, .int .i64 0, .slice none 0 0, .slice none 0 0] 27)).alloc (.cells #[.int .u64 fl, .int .u64 nx, .int .i64 cu, .int .i64 la, .slice ba n bc, .slice oa m oc] 27)).heap.size = w.heap.size + 3 := by simp
  have HX1 := hide ((hb1.block _ (by rw [hz0]; omega)).trans hx1)
  have HX2 := hide ((hb1.block _ (by rw [hz0]; omega)).trans hx2)
  have HX3 := hide ((hb1.block _ (by rw [hz0]; omega)).trans hx3)
  have HB1 := hide (hb0.trans (hb1.mono (by rw [hz0]; omega)))
  have HRB := hide (ReadsL.below hs.b HB1.out)
  have hz1 : ((((w.alloc (.cells #[.int .u64 fl, .int .u64 nx, .int .i64 cu, .int .i64 la, .slice ba n bc, .slice oa m oc] 27)).alloc (.cells #[.int .u64 0, .int .u64 0, .int .i64 0, .int .i64 0, .slice none 0 0, .slice none 0 0] 27)).alloc (.cells #[.int .u64 fl, .int .u64 nx, .int .i64 cu, .int .i64 la, .slice ba n bc, .slice oa m oc] 27)).alloc (.cells #[] 48)).heap.size = w.heap.size + 4 := by simp
  have HOW0 : Hid (((((w.alloc (.cells #[.int .u64 fl, .int .u64 nx, .int .i64 cu, .int .i64 la, .slice ba n bc, .slice oa m oc] 27)).alloc (.cells #[.int .u64 0, .int .u64 0, .int .i64 0, .int .i64 0, .slice none 0 0, .slice none 0 0] 27)).alloc (.cells #[.int .u64 fl, .int .u64 nx, .int .i64 cu, .int .i64 la, .slice ba n bc, .slice oa m oc] 27)).alloc (.cells #[] 48)).ownsRow w.heap.size 48 4 (.slice (some ⟨w.heap.size + 3, 0, none⟩) 0 0) 0 []) := by
    have h9 := World.ownsRow_made (base := w.heap.size) (e := 48) (size := 4) (((w.alloc (.cells #[.int .u64 fl, .int .u64 nx, .int .i64 cu, .int .i64 la, .slice ba n bc, .slice oa m oc] 27)).alloc (.cells #[.int .u64 0, .int .u64 0, .int .i64 0, .int .i64 0, .slice none 0 0, .slice none 0 0] 27)).alloc (.cells #[.int .u64 fl, .int .u64 nx, .int .i64 cu, .int .i64 la, .slice ba n bc, .slice oa m oc] 27)) #[] 0 (by rw [hz0]; omega) (by simp [maxLen]) rfl
    rw [hz0] at h9
    exact h9
  have HZ1 := hide hz1
  clear hb0 hb1 hx1 hx2 hx3 hz0 hz1 hs ho hon
  simp only at HRB
  have y10 := blk_cell HX1.out 0 rfl
  have y11 := blk_cell HX1.out 1 rfl
  have y14 := blk_cell HX1.out 4 rfl
  go_enter Try.func11, Try.ntmps11
  go_upto_region 3 with (at_builtin; refine wpList_append_src rfl (.tmp 7) (.tmp 9) 24 rfl w.heap.size 48 i48 _ 4 32 Try.underlying24 H48.out.1 H48.out.2.1 H48.out.2.2.1 H48.out.2.2.2 rfl (by decide) _ 0 [] rfl HOW0.out ba n bc _ rfl HRB.out (one_blk _) (by simp only [maxLen]; omega) (by omega) (by rw [HZ1.out]; omega) ?_; intro v1 w1 own1 gr1; obtain ⟨a1, c1, rfl⟩ := own_slice own1; (try rw [Nat.zero_add] at own1 ⊢); rw [List.nil_append] at own1; have HO1 := hide own1; have HG1 : Hid (Only (fun j => j = w.heap.size + 3) ((((w.alloc (.cells #[.int .u64 fl, .int .u64 nx, .int .i64 cu, .int .i64 la, .slice ba n bc, .slice oa m oc] 27)).alloc (.cells #[.int .u64 0, .int .u64 0, .int .i64 0, .int .i64 0, .slice none 0 0, .slice none 0 0] 27)).alloc (.cells #[.int .u64 fl, .int .u64 nx, .int .i64 cu, .int .i64 la, .slice ba n bc, .slice oa m oc] 27)).alloc (.cells #[] 48)) w1) := Only.ofG gr1 (fun j _ e => (Option.some.inj e).symm); clear own1 gr1; have HY1 := hide (HG1.out.blk HX1.out (by omega)); have HY2 := hide (HG1.out.blk HX2.out (by omega)); have HY3 := hide (HG1.out.blk HX3.out (by omega)); have HB2 := hide (HB1.out.trans (HG1.out.below (B := w.heap.size) (fun j hj => by omega) (by rw [HZ1.out]; omega))); have z34 := blk_cell HY3.out 4 rfl; have zfz := blk_free HY3.out 4)
  have hO3 : Only (· = w.heap.size + 2) w1 (w1.setCell ⟨w.heap.size + 2, 4, none⟩ (.slice a1 n c1)) := Only.setCell _ w1 _ 4 _ rfl
  have HZ1' := hide (hO3.blk HY1.out (by omega))
  have HZ2' := hide (hO3.blk HY2.out (by omega))
  have HZ3' := hide (heap_setCell_same w1 (w.heap.size + 2) 4 _ 27 (.slice a1 n c1) HY3.out)
  have HZO := hide (hO3.own HO1.out (fun k hk e => own_ne HO1.out HY3.out (by decide) (by rw [hk, e])))
  have HB3 : Hid (Below w.heap.size w (w1.setCell ⟨w.heap.size + 2, 4, none⟩ (.slice a1 n c1))) := HB2.out.trans (hO3.below (fun j hj => by omega) HB2.out.size)
  have HV1 : Hid (¬ some w.heap.size = (Value.slice a1 n c1).ownBlock) := fun e => own_ne HZO.out HZ1'.out (by decide) e.symm
  have HV3 : Hid ((Value.slice a1 n c1).ownBlock ≠ some (w.heap.size + 2)) := own_ne HZO.out HZ3'.out (by decide)
  have HV2 : Hid ((Value.slice a1 n c1).ownBlock ≠ some (w.heap.size + 1)) := own_ne HZO.out HZ2'.out (by decide)
  clear hO3 HX1 HX2 HX3 HY1 HY2 HY3 HRB HOW0 HO1 HG1 HB1 HB2 y10 y11 y14 z34 zfz
  generalize w1.setCell ⟨w.heap.size + 2, 4, none⟩ (.slice a1 n c1) = w3 at HZ1' HZ2' HZ3' HZO HB3 ⊢
  have HLT1 := hide HZO.out.lt
  refine cp_r3 (B := w.heap.size) (q1 := w.heap.size) (q3 := w.heap.size + 2) (cs := flatBlk bs) w3 HZ1' rfl HV1.out (by omega) hn HZ3' rfl HZO HB3.out.size HV3.out (fun _ _ _ _ _ h => h) _ _ _ _ _ _ _ _ _ _ _ _ _ _ _ _ _ _ _ _ _ _ _ _ _ _ _ _ _ _ _ _ _ _ _ _ _ _ _ _ _ _ _ _ _ _ _ _ _ _ _ _ _ _ _ _ _ _ _ _ _ _ _ _ _ _ _ _ _ _ _ _ ?_
  intro zz12 zz13 zz14 zz15 zz16 zz17 zz18 zz19 zz20 zz21 zz22 w4 hM
  obtain ⟨v2, hmk, h3', honly⟩ := hM
  have HMK := hide hmk
  have HX3 := hide h3'
  have HB4 : Hid (Below w.heap.size w w4) := HB3.out.trans (honly.below (fun j hj => by
    rcases hj with rfl | hj
    · omega
    · exact (HLT1.out j hj.symm).1) HB3.out.size)
  have HX1 := hide (honly.blk HZ1'.out (fun e => by
    rcases e with e | e
    · omega
    · exact HV1.out e))
  have HX2 := hide (honly.blk HZ2'.out (fun e => by
    rcases e with e | e
    · omega
    · exact HV2.out e.symm))
  obtain ⟨g2, c2, hv2, _⟩ := hmk
  subst hv2
  clear h3' honly HZ1' HZ2' HZ3' HZO HB3 HV1 HV2 HV3 HLT1
  have x35 := blk_cell HX3.out 5 rfl
  have xfz := blk_free HX3.out 5
  have HST : Hid (CpI w (w4.setCell ⟨w.heap.size + 2, 5, none⟩ (.slice none 0 0)) ⟨fl, nx, cu, la, bs, os⟩ (.slice ba n bc) (.slice oa m oc) (.slice (some ⟨g2, 0, none⟩) n c2) (.slice none 0 0) n 0 []) := by
    have hO : Only (· = w.heap.size + 2) w4 (w4.setCell ⟨w.heap.size + 2, 5, none⟩ (.slice none 0 0)) := Only.setCell _ w4 _ 5 _ rfl
    exact ⟨HB4.out.trans (hO.below (fun j hj => by omega) HB4.out.size), hO.blk HX1.out (by omega), hO.blk HX2.out (by omega), heap_setCell_same w4 _ 5 _ 27 _ HX3.out, HMK.out.only hO (fun k hk e => by
      obtain ⟨c9, h9⟩ := HMK.out.tag k hk
      exact tag_ne h9 HX3.out (by decide) e), World.ownsRow_nil _ _ _ _, (fun x hx => by cases hx), by simp⟩
  go_wp2
  clear x35 xfz HMK HX1 HX2 HX3 HB4
  go_loopw [4] (fun s4 wr => ∃ (k : Nat) (vo : Value) (ms : List (Ob × Value)), k ≤ m ∧ s4 = .int .i64 k ∧ Hid (CpI w wr ⟨fl, nx, cu, la, bs, os⟩ (.slice ba n bc) (.slice oa m oc) (.slice (some ⟨g2, 0, none⟩) n c2) vo n k ms))
    (fun s4 _ => m - (intOf s4).toNat)
  case atStart => exact ⟨0, _, _, Nat.zero_le _, rfl, HST⟩
  case round =>
    clear HST
    obtain ⟨k, vo, ms, hk, rfl, HC⟩ := hrel
    obtain ⟨ao, co, rfl⟩ := own_slice HC.out.ow
    have y15 := blk_cell HC.out.b1 5 rfl
    by_cases hlt : k < m
    · have hkl : k < ls.length := by rw [HS.out.o.len]; exact hlt
      have hko : k < os.length := by rw [HON.out]; exact hlt
      have hos : os[k] = ls[k].1 := by
        have h1 := HS.out.os
        simp only at h1
        subst h1
        rw [List.getElem_map]
      obtain ⟨b, off, rfl, hbs, hc⟩ := ReadsO.cells HS.out.o (by omega)
      have hcc := hc k hkl
      obtain ⟨va, vc, hv, hcr, hcl⟩ := HS.out.c ls[k] (List.getElem_mem hkl)
      have hoz := HO.out ls[k] (List.getElem_mem hkl)
      have HKO : Hid (os[k]? = some ls[k].1) := by
        show _ = _
        rw [← hos]
        exact List.getElem?_eq_getElem hko
      obtain ⟨⟨⟨id, hd0, ⟨xk, xp, xN, xz, xm, xs, xh, xT⟩, ⟨p1, p2⟩, ch⟩, vv⟩, hX⟩ : ∃ X, ls[k] = X := ⟨_, rfl⟩
      rw [hX] at hcc hv hcr hcl hoz HKO
      simp only at hcc hv hcr hcl hoz HKO
      subst hv
      obtain ⟨vn, hvn⟩ : ∃ vn, ch.length = vn := ⟨_, rfl⟩
      rw [hvn] at hcc hcl hcr hoz
      have HVN := hide hvn
      have hbw : b < w.heap.size := hbs
      have hcc : ∀ j u, (Ob.cells ⟨id, hd0, ⟨xk, xp, xN, xz, xm, xs, xh, xT⟩, (p1, p2), ch⟩ (.slice va vn vc))[j]? = some u → wr.cell? ⟨b, off + (k * 13 + j), none⟩ = some u := fun j u hj => (HC.out.bel.cell (p := ⟨b, off + (k * 13 + j), none⟩) hbw).trans (hcc j u hj)
      have d1 : (k : Int) < m := Int.ofNat_lt.2 hlt
      have g0 : wr.cell? ⟨b, off + k * 13, none⟩ = some (.int .i64 id) := hcc 0 _ rfl
      have g1 : wr.cell? ⟨b, off + k * 13 + 1, none⟩ = some (.bool hd0) := hcc 1 _ rfl
      have g2 : wr.cell? ⟨b, off + k * 13 + 2, none⟩ = some (.int .i64 xk) := hcc 2 _ rfl
      have g3 : wr.cell? ⟨b, off + k * 13 + 3, none⟩ = some (.int .i64 xp) := hcc 3 _ rfl
      have g4 : wr.cell? ⟨b, off + k * 13 + 4, none⟩ = some (.string xN) := hcc 4 _ rfl
      have g5 : wr.cell? ⟨b, off + k * 13 + 5, none⟩ = some (.int .i64 xz) := hcc 5 _ rfl
      have g6 : wr.cell? ⟨b, off + k * 13 + 6, none⟩ = some (.int .i64 xm) := hcc 6 _ rfl
      have g7 : wr.cell? ⟨b, off + k * 13 + 7, none⟩ = some (.int .u64 xs) := hcc 7 _ rfl
      have g8 : wr.cell? ⟨b, off + k * 13 + 8, none⟩ = some (.int .i64 xh) := hcc 8 _ rfl
      have g9 : wr.cell? ⟨b, off + k * 13 + 9, none⟩ = some (.string xT) := hcc 9 _ rfl
      have g10 : wr.cell? ⟨b, off + k * 13 + 10, none⟩ = some (.int .i64 p1) := hcc 10 _ rfl
      have g11 : wr.cell? ⟨b, off + k * 13 + 11, none⟩ = some (.int .i64 p2) := hcc 11 _ rfl
      have g12 : wr.cell? ⟨b, off + k * 13 + 12, none⟩ = some (.slice va vn vc) := hcc 12 _ rfl
      have HG12 := hide g12
      have hb1 := below_alloc wr (.cells #[.int .i64 id, .bool hd0, .int .i64 xk, .int .i64 xp, .string xN, .int .i64 xz, .int .i64 xm, .int .u64 xs, .int .i64 xh, .string xT, .int .i64 p1, .int .i64 p2, .slice va vn vc] 55)
      have hb2 : Below wr.heap.size wr ((wr.alloc (.cells #[.int .i64 id, .bool hd0, .int .i64 xk, .int .i64 xp, .string xN, .int .i64 xz, .int .i64 xm, .int .u64 xs, .int .i64 xh, .string xT, .int .i64 p1, .int .i64 p2, .slice va vn vc] 55)).alloc (.cells #[] 71)) := hb1.trans ((below_alloc _ _).mono (by simp))
      have HQ5 : Hid (((wr.alloc (.cells #[.int .i64 id, .bool hd0, .int .i64 xk, .int .i64 xp, .string xN, .int .i64 xz, .int .i64 xm, .int .u64 xs, .int .i64 xh, .string xT, .int .i64 p1, .int .i64 p2, .slice va vn vc] 55)).alloc (.cells #[] 71)).heap[wr.heap.size]? = some (.cells #[.int .i64 id, .bool hd0, .int .i64 xk, .int .i64 xp, .string xN, .int .i64 xz, .int .i64 xm, .int .u64 xs, .int .i64 xh, .string xT, .int .i64 p1, .int .i64 p2, .slice va vn vc] 55 (0, 0))) := ((below_alloc (wr.alloc (.cells #[.int .i64 id, .bool hd0, .int .i64 xk, .int .i64 xp, .string xN, .int .i64 xz, .int .i64 xm, .int .u64 xs, .int .i64 xh, .string xT, .int .i64 p1, .int .i64 p2, .slice va vn vc] 55)) _).block _ (by simp)).trans (heap_alloc_new wr _)
      have hz2 : ((wr.alloc (.cells #[.int .i64 id, .bool hd0, .int .i64 xk, .int .i64 xp, .string xN, .int .i64 xz, .int .i64 xm, .int .u64 xs, .int .i64 xh, .string xT, .int .i64 p1, .int .i64 p2, .slice va vn vc] 55)).alloc (.cells #[] 71)).heap.size = wr.heap.size + 2 := by simp
      have HOW0 : Hid (((wr.alloc (.cells #[.int .i64 id, .bool hd0, .int .i64 xk, .int .i64 xp, .string xN, .int .i64 xz, .int .i64 xm, .int .u64 xs, .int .i64 xh, .string xT, .int .i64 p1, .int .i64 p2, .slice va vn vc] 55)).alloc (.cells #[] 71)).ownsRow (wr.heap.size + 1) 71 4 (.slice (some ⟨wr.heap.size + 1, 0, none⟩) 0 0) 0 []) := by
        have h9 := World.ownsRow_made (base := wr.heap.size + 1) (e := 71) (size := 4) (wr.alloc (.cells #[.int .i64 id, .bool hd0, .int .i64 xk, .int .i64 xp, .string xN, .int .i64 xz, .int .i64 xm, .int .u64 xs, .int .i64 xh, .string xT, .int .i64 p1, .int .i64 p2, .slice va vn vc] 55)) #[] 0 (by simp) (by simp [maxLen]) rfl
        rw [World.size_alloc] at h9
        exact h9
      have HRC : Hid (ReadsC ((wr.alloc (.cells #[.int .i64 id, .bool hd0, .int .i64 xk, .int .i64 xp, .string xN, .int .i64 xz, .int .i64 xm, .int .u64 xs, .int .i64 xh, .string xT, .int .i64 p1, .int .i64 p2, .slice va vn vc] 55)).alloc (.cells #[] 71)) va vn ch) := ReadsL.below hcr (HC.out.bel.trans (hb2.mono HC.out.bel.size))
      have HB2 := hide hb2
      have HZ2 := hide hz2
      have HKM := hide hlt
      have HBW := hide hbw
      have HOZ := hide hoz
      have q512 := blk_cell HQ5.out 12 rfl
      clear hb1 hb2 hz2 hcc hc hX hcr hcl hos hkl hko hbs hvn
      go_upto_region 10 with (at_builtin; refine wpList_append_src rfl (.tmp 36) (.tmp 38) 53 rfl (wr.heap.size + 1) 71 i71 _ 4 32 Try.underlying53 H71.out.1 H71.out.2.1 H71.out.2.2.1 H71.out.2.2.2 rfl (by decide) _ 0 [] rfl HOW0.out va vn vc _ rfl HRC.out (one_chk _) (by simp only [maxLen]; omega) (by omega) (by rw [HZ2.out]; omega) ?_; intro v1 w1 own1 gr1; obtain ⟨a1, c1, rfl⟩ := own_slice own1; (try rw [Nat.zero_add] at own1 ⊢); rw [List.nil_append] at own1; have HO1 := hide own1; have HG1 : Hid (Only (fun j => j = wr.heap.size + 1) ((wr.alloc (.cells #[.int .i64 id, .bool hd0, .int .i64 xk, .int .i64 xp, .string xN, .int .i64 xz, .int .i64 xm, .int .u64 xs, .int .i64 xh, .string xT, .int .i64 p1, .int .i64 p2, .slice va vn vc] 55)).alloc (.cells #[] 71)) w1) := Only.ofG gr1 (fun j _ e => (Option.some.inj e).symm); clear own1 gr1; have HQ6 := hide (HG1.out.blk HQ5.out (by omega)); have z512 := blk_cell HQ6.out 12 rfl; have zfz := blk_free HQ6.out 12)
      have hO3 : Only (· = wr.heap.size) w1 (w1.setCell ⟨wr.heap.size, 12, none⟩ (.slice a1 vn c1)) := Only.setCell _ w1 _ 12 _ rfl
      have HQ7 := hide (heap_setCell_same w1 wr.heap.size 12 _ 55 (.slice a1 vn c1) HQ6.out)
      have HO3 := hide (hO3.own HO1.out (fun k hk e => by have := (HO1.out.lt k hk).1; omega))
      have HB3 : Hid (Below wr.heap.size wr (w1.setCell ⟨wr.heap.size, 12, none⟩ (.slice a1 vn c1))) := HB2.out.trans ((HG1.out.below (B := wr.heap.size) (fun j hj => by omega) (by rw [HZ2.out]; omega)).trans (hO3.below (fun j hj => by omega) (by have := HG1.out.size; have := HZ2.out; omega)))
      clear hO3 HO1 HG1 HQ5 HQ6 HOW0 HRC HB2 HZ2 q512 z512 zfz g0 g1 g2 g3 g4 g5 g6 g7 g8 g9 g10 g11 g12
      generalize w1.setCell ⟨wr.heap.size, 12, none⟩ (.slice a1 vn c1) = w3 at HQ7 HO3 HB3 ⊢
      have HC3 := hide (HC.out.below HB3.out)
      have hsz := HC.out.size
      have hL3 := HO3.out.lt
      have HC12 : Hid (w3.cell? ⟨b, off + k * 13 + 12, none⟩ = some (.slice va vn vc)) := (HB3.out.cell (p := ⟨b, off + k * 13 + 12, none⟩) (by have := HBW.out; show b < _; omega)).trans HG12.out
      have hvv1 : ¬ some w.heap.size = (Value.slice a1 vn c1).ownBlock := fun e => by have := (hL3 _ e.symm).1; omega
      have hvb : ¬ some b = (Value.slice a1 vn c1).ownBlock := fun e => by have := (hL3 _ e.symm).1; have := HBW.out; omega
      have hv5 : (Value.slice a1 vn c1).ownBlock ≠ some wr.heap.size := fun e => by have := (hL3 _ e).1; omega
      have hqq : ¬ w.heap.size = wr.heap.size := by omega
      have hqb : ¬ b = wr.heap.size := by have := HBW.out; omega
      have hs3 : wr.heap.size + 1 ≤ w3.heap.size := lt_of_block HQ7.out
      refine cp_r10 (B := wr.heap.size + 1) (q1 := w.heap.size) (q5 := wr.heap.size) (cs := flatChk ch) w3 (hide HC3.out.b1) rfl HC12 d1 hvb hqb hvv1 hqq HOZ.out HQ7 rfl HO3 hs3 hv5 (fun _ _ _ _ _ h => h) _ _ _ _ _ _ _ _ _ _ _ _ _ _ _ _ _ _ _ _ _ _ _ _ _ _ _ _ _ _ _ _ _ _ _ _ _ _ _ _ _ _ _ _ _ _ _ _ _ _ _ _ _ _ _ _ _ _ _ _ _ _ _ _ _ _ _ _ _ _ _ ?_
      intro zz41 zz42 zz43 zz44 zz45 zz46 zz47 zz48 zz49 zz50 zz51 zz52 zz53 zz54 zz55 w4 hM
      obtain ⟨v2, hmk, h5', honly⟩ := hM
      have HMK := hide hmk
      have HQ8 := hide h5'
      have HB4 : Hid (Below wr.heap.size w3 w4) := honly.below (fun j hj => by
        rcases hj with rfl | hj
        · omega
        · have := (hL3 j hj.symm).1; omega) (by omega)
      have HC4 := hide (HC.out.below (HB3.out.trans HB4.out))
      obtain ⟨g3, c3, hv3, _⟩ := hmk
      subst hv3
      have HMK2 : Hid (Mrk w4 w.heap.size 71 4 (.slice (some ⟨g3, 0, none⟩) vn c3) vn (flatChk ch) C79) := HMK.out.base (by omega)
      have h8 := HQ8.out
      simp only [List.setIfInBounds_toArray, List.set_cons_zero, List.set_cons_succ] at h8
      have e0 := blk_cell h8 0 rfl
      have e1 := blk_cell h8 1 rfl
      have e2 := blk_cell h8 2 rfl
      have e3 := blk_cell h8 3 rfl
      have e4 := blk_cell h8 4 rfl
      have e5 := blk_cell h8 5 rfl
      have e6 := blk_cell h8 6 rfl
      have e7 := blk_cell h8 7 rfl
      have e8 := blk_cell h8 8 rfl
      have e9 := blk_cell h8 9 rfl
      have e10 := blk_cell h8 10 rfl
      have e11 := blk_cell h8 11 rfl
      have e12 := blk_cell h8 12 rfl
      have y35 := blk_cell HC4.out.b3 5 rfl
      have HOW4 := hide ((Only.ofB (F := fun _ => False) (below_alloc w4 (.cells #[.int .i64 id, .bool hd0, .int .i64 xk, .int .i64 xp, .string xN, .int .i64 xz, .int .i64 xm, .int .u64 xs, .int .i64 xh, .string xT, .int .i64 p1, .int .i64 p2, .slice (some ⟨g3, 0, none⟩) vn c3] 55))).own HC4.out.ow (fun _ _ h => h))
      have HSB : Hid (ReadsL (w4.alloc (.cells #[.int .i64 id, .bool hd0, .int .i64 xk, .int .i64 xp, .string xN, .int .i64 xz, .int .i64 xm, .int .u64 xs, .int .i64 xh, .string xT, .int .i64 p1, .int .i64 p2, .slice (some ⟨g3, 0, none⟩) vn c3] 55)) (some ⟨w4.heap.size, 0, none⟩) 1 13 [.int .i64 id, .bool hd0, .int .i64 xk, .int .i64 xp, .string xN, .int .i64 xz, .int .i64 xm, .int .u64 xs, .int .i64 xh, .string xT, .int .i64 p1, .int .i64 p2, .slice (some ⟨g3, 0, none⟩) vn c3]) := readsL_block rfl
      have HS4 : Hid (w.heap.size ≤ (w4.alloc (.cells #[.int .i64 id, .bool hd0, .int .i64 xk, .int .i64 xp, .string xN, .int .i64 xz, .int .i64 xm, .int .u64 xs, .int .i64 xh, .string xT, .int .i64 p1, .int .i64 p2, .slice (some ⟨g3, 0, none⟩) vn c3] 55)).heap.size) := by
        have := HC4.out.size
        show _ ≤ _
        simp
        omega
      have H4A := hide ((below_alloc w4 (.cells #[.int .i64 id, .bool hd0, .int .i64 xk, .int .i64 xp, .string xN, .int .i64 xz, .int .i64 xm, .int .u64 xs, .int .i64 xh, .string xT, .int .i64 p1, .int .i64 p2, .slice (some ⟨g3, 0, none⟩) vn c3] 55)).block _ (lt_of_block HC4.out.b3) |>.trans HC4.out.b3)
      have HNE : Hid ((Value.slice ao k co).ownBlock ≠ some (w.heap.size + 2)) := own_ne HC4.out.ow HC4.out.b3 (by decide)
      clear h5' honly HMK HQ7 HQ8 HO3 HB3 HB4 HC3 HC HC12 h8 hL3 hvv1 hvb hv5 hqq hqb hs3 hsz y15 HG12
      go_wp2_with (at_builtin; (refine wpList_append_src rfl (.tmp 57) (.tmp 59) 25 rfl w.heap.size 55 i55 _ 13 136 Try.underlying25 H55.out.1 H55.out.2.1 H55.out.2.2.1 H55.out.2.2.2 rfl (by decide) _ k _ rfl HOW4.out _ 1 1 _ rfl HSB.out (by simp [Value.oneCell']) (by simp only [maxLen]; omega) (by omega) HS4.out ?_; intro v5 w5 own5 gr5; obtain ⟨a5, c5, rfl⟩ := own_slice own5; have HP5 := hide (HC4.out.push HKO (by simpa only [HVN.out] using HMK2.out) own5 gr5); have HX5 : Hid (w5.heap[w.heap.size + 2]? = _) := (Only.ofG (F := fun j => some j = (Value.slice ao k co).ownBlock) gr5 (fun j _ e => e.symm)).blk H4A.out (fun e => HNE.out e.symm); have y55 := blk_cell HX5.out 5 rfl; have yfz := blk_free HX5.out 5; clear own5 gr5 HOW4 HSB H4A HNE HC4))
      have hkm := HKM.out
      go_roundw
      case rel => exact ⟨k + 1, _, _, by omega, by go_num, HP5⟩
      case measure => simp [intOf]; omega
    · have hkm : k = m := by omega
      subst hkm
      have HLT := hide HC.out.ow.lt
      have HV1 : Hid (¬ some w.heap.size = (Value.slice ao k co).ownBlock) := fun e => own_ne HC.out.ow HC.out.b1 (by decide) e.symm
      have HV3 : Hid ((Value.slice ao k co).ownBlock ≠ some (w.heap.size + 2)) := own_ne HC.out.ow HC.out.b3 (by decide)
      have HV2 : Hid ((Value.slice ao k co).ownBlock ≠ some (w.heap.size + 1)) := own_ne HC.out.ow HC.out.b2 (by decide)
      go_upto_region 12 with fail
      refine cp_r12 (B := w.heap.size) (q1 := w.heap.size) (q3 := w.heap.size + 2) (cs := flatO ms) wr (hide HC.out.b1) rfl HV1.out (by omega) hm (hide HC.out.b3) rfl (hide HC.out.ow) (by have := HC.out.size; omega) HV3.out (fun _ _ _ _ _ h => h) _ _ _ _ _ _ _ _ _ _ _ _ _ _ _ _ _ _ _ _ _ _ _ _ _ _ _ _ _ _ _ _ _ _ _ _ _ _ _ _ _ _ _ _ _ _ _ _ _ _ _ _ _ _ _ _ _ _ _ _ _ _ _ _ _ _ _ _ _ _ _ _ ?_
      intro zz62 zz63 zz64 zz65 zz66 zz67 zz68 zz69 zz70 zz71 zz72 w4 hM
      obtain ⟨v2, hmk, h3', honly⟩ := hM
      have HMK := hide hmk
      obtain ⟨g3, c3, hv3, _⟩ := hmk
      subst hv3
      have h8 := h3'
      simp only [List.setIfInBounds_toArray, List.set_cons_zero, List.set_cons_succ] at h8
      have hx2 := honly.blk HC.out.b2 (fun e => by
        rcases e with e | e
        · omega
        · exact HV2.out e.symm)
      have hmk2 : ∀ {e st n : Nat} {v : Value} {cs ms : List Value}, Mrk wr w.heap.size e st v n cs ms → e ≠ 55 → e ≠ 27 → Mrk w4 w.heap.size e st v n cs ms := by
        intro e st n v cs ms hm h55 h27
        refine hm.only honly (fun i hi e9 => ?_)
        obtain ⟨c9, h9⟩ := hm.tag i hi
        rcases e9 with e9 | e9
        · exact tag_ne h9 HC.out.b3 h27 e9
        · exact own_ne HC.out.ow h9 h55 e9.symm
      have HCS : Hid (CopS w4 w.heap.size ⟨fl, nx, cu, la, bs, os⟩ (.slice (some ⟨g2, 0, none⟩) n c2) (.slice (some ⟨g3, 0, none⟩) k c3) n k ms) :=
        ⟨hmk2 HC.out.mb (by decide) (by decide), HMK.out, fun x hx => hmk2 (HC.out.mc x hx) (by decide) (by decide), by have := HC.out.os; rw [this]; exact List.take_of_length_le (Nat.le_of_eq HON.out)⟩
      have HB4 : Hid (Below w.heap.size w w4) := HC.out.bel.trans (honly.below (fun j hj => by
        rcases hj with rfl | hj
        · omega
        · exact (HLT.out j hj.symm).1) (by have := HC.out.size; omega))
      have HX2 := hide hx2
      obtain ⟨e0, e1, e2, e3, e4, e5⟩ := bx6 h8
      obtain ⟨u0, u1, u2, u3, u4, u5⟩ := bx6 hx2
      clear h3' honly hx2 hmk2 HMK HC h8 y15 HLT HV1 HV2 HV3
      have efz : ∀ j, w4.frozen? ⟨w.heap.size + 1, j, none⟩ = false := fun j => blk_free HX2.out j
      have h6 := hide (set6 HX2.out (.int .u64 fl) (.int .u64 nx) (.int .i64 cu) (.int .i64 la) (.slice (some ⟨g2, 0, none⟩) n c2) (.slice (some ⟨g3, 0, none⟩) k c3))
      have hO6 := hide (only6 w4 (w.heap.size + 1) (.int .u64 fl) (.int .u64 nx) (.int .i64 cu) (.int .i64 la) (.slice (some ⟨g2, 0, none⟩) n c2) (.slice (some ⟨g3, 0, none⟩) k c3))
      go_wp2
      generalize ((((((w4.setCell ⟨w.heap.size + 1, 0, none⟩ (.int .u64 fl)).setCell ⟨w.heap.size + 1, 1, none⟩ (.int .u64 nx)).setCell ⟨w.heap.size + 1, 2, none⟩ (.int .i64 cu)).setCell ⟨w.heap.size + 1, 3, none⟩ (.int .i64 la)).setCell ⟨w.heap.size + 1, 4, none⟩ (.slice (some ⟨g2, 0, none⟩) n c2)).setCell ⟨w.heap.size + 1, 5, none⟩ (.slice (some ⟨g3, 0, none⟩) k c3)) = w6 at h6 hO6 ⊢
      clear e0 e1 e2 e3 e4 e5 u0 u1 u2 u3 u4 u5
      obtain ⟨e0, e1, e2, e3, e4, e5⟩ := bx6 h6.out
      refine bodyPost_ret (v := .agg #[.int .u64 fl, .int .u64 nx, .int .i64 cu, .int .i64 la, .slice (some ⟨g2, 0, none⟩) n c2, .slice (some ⟨g3, 0, none⟩) k c3]) (by simp [results, Try.results11, go_sem, e0, e1, e2, e3, e4, e5]) rfl ?_
      exact ⟨_, _, ms, rfl, HCS.out.only hO6.out (fun j cs t hj ht e => by
        subst e
        rw [HX2.out] at hj
        injection hj with hj
        injection hj with _ hj
        exact ht hj.symm), HB4.out.trans (hO6.out.below (fun j hj => by omega) HB4.out.size)⟩

end Go.Proofs.Ytoaahellfflooaa
