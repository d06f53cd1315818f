/-
  SEAT Ytejonebnmeinhab: JudgeSees: begun.
-/
import Derived.Test.YtejonebnmeinhabSeB
import Derived.Test.YtejonebnmeinhabKept
import Derived.Test.YtejonebnmeinhabLessB
import Derived.Deep.DeepCutAuto
namespace Go.Proofs.Ytejonebnmeinhab
open Go.RowKit
set_option linter.unusedVariables false

/-- The copy of the marks, while it is written over. -/
def CopyAt (w : World) (g n : Nat) : Prop := ∃ cs, w.heap[g]? = some (.cells cs 4 (0, 0)) ∧ n ≤ cs.size ∧ ∀ i, i < n → ∃ q : Bool, cs[i]? = some (.bool q)
theorem CopyAt.of {w : World} {B g n c : Nat} {bs : List Bool} (hl : bs.length = n) (h : w.ownsRow B 4 1 (.slice (some ⟨g, 0, none⟩) (n + 3) c) (n + 3) ((bs ++ [true, false, true]).map Value.bool)) : CopyAt w g n := by
  have hR := marksR hl h
  rcases h.2 with ⟨hv, _⟩ | ⟨g', cap, cur, hv, hb, hh, h1, h2, h3, h4⟩
  · cases hv
  · injection hv with hv1 hv2 hv3
    injection hv1 with hv1
    injection hv1 with hv1
    subst hv1
    refine ⟨cur, hh, by omega, fun i hi => ?_⟩
    have := hR.2.2 ⟨g, 0, none⟩ rfl i hi
    rw [plain_add, Nat.zero_add] at this
    simp only [World.cell?, hh] at this
    exact ⟨_, this⟩
theorem CopyAt.lt {w : World} {g n : Nat} (h : CopyAt w g n) : g < w.heap.size := by
  obtain ⟨cs, h1, _⟩ := h
  rcases Nat.lt_or_ge g w.heap.size with q | q
  · exact q
  · simp [Array.getElem?_eq_none q] at h1
theorem CopyAt.grown {w w' : World} {g n : Nat} {r : Option Nat} (h : CopyAt w g n) (hg : w.grownBy w' r) (hr : some g ≠ r) : CopyAt w' g n := by
  have hl := h.lt
  obtain ⟨cs, h1, h2⟩ := h
  exact ⟨cs, (hg.block g hl hr).trans h1, h2⟩
theorem CopyAt.put {w : World} {g n i : Nat} (h : CopyAt w g n) (hi : i < n) : ∃ q : Bool, w.cell? ⟨g, i, none⟩ = some (.bool q) ∧ w.frozen? ⟨g, i, none⟩ = false ∧ CopyAt (w.setCell ⟨g, i, none⟩ (.bool (!q))) g n := by
  obtain ⟨cs, h1, h2, h3⟩ := h
  obtain ⟨q, hq⟩ := h3 i hi
  refine ⟨q, by simp only [World.cell?, h1]; exact hq, by simp [World.frozen?, h1], cs.setIfInBounds i (.bool (!q)), heap_setCell_same w g i _ 4 _ h1, by simpa using h2, fun j hj => ?_⟩
  by_cases e : i = j
  · subst e
    exact ⟨!q, by simp [show i < cs.size by omega]⟩
  · obtain ⟨r, hr⟩ := h3 j hj
    exact ⟨r, by rw [Array.getElem?_setIfInBounds_ne (by omega)]; exact hr⟩
theorem grown_set1 (w : World) (g j : Nat) (v : Value) : w.grownBy (w.setCell ⟨g, j, none⟩ v) (some g) := ⟨rfl, rfl, rfl, by simp, fun k hk hne => heap_setCell_other w ⟨g, j, none⟩ k v (fun e => hne (congrArg some e))⟩
theorem below_far1 {U w w' : World} {B x : Nat} (h : Below B U w) (hB : B ≤ w.heap.size) (hg : w.grownBy w' (some x)) (hx : B ≤ x) : Below B U w' :=
  h.grown hg hB (fun k hk => by injection hk with hk; omega)

theorem below_drewNk {B : Nat} {w u : World} (h : Below B w u) (k : Nat) : Below B w (u.drewN k) := ⟨h.os, h.tape, h.output, h.size, h.block⟩
theorem own_form {w : World} {B n E S : Nat} {v : Value} {xs : List Value} (h : w.ownsRow B E S v n xs) : ∃ av cv, v = .slice av n cv := by
  rcases h.2 with ⟨hv, h0⟩ | ⟨g', cap, cur, hv, _⟩
  · exact ⟨none, 0, by rw [hv, h0]⟩
  · exact ⟨_, _, hv⟩
theorem own_lt {w : World} {B n g c E S : Nat} {m : Nat} {xs : List Value} (h : w.ownsRow B E S (.slice (some ⟨g, 0, none⟩) n c) m xs) : g < w.heap.size := by
  rcases h.2 with ⟨hv, _⟩ | ⟨g', cap, cur, hv, hb, hh, _⟩
  · cases hv
  · injection hv with hv1
    injection hv1 with hv1
    injection hv1 with hv1
    subst hv1
    exact (Array.getElem?_eq_some_iff.1 hh).1
theorem own_ge {w : World} {B n g c E S : Nat} {m : Nat} {xs : List Value} (h : w.ownsRow B E S (.slice (some ⟨g, 0, none⟩) n c) m xs) : B ≤ g := by
  rcases h.2 with ⟨hv, _⟩ | ⟨g', cap, cur, hv, hb, hh, _⟩
  · cases hv
  · injection hv with hv1
    injection hv1 with hv1
    injection hv1 with hv1
    subst hv1
    exact hb
theorem ownB {w w' : World} {B E S : Nat} {v : Value} {n : Nat} {xs : List Value} (h : w.ownsRow B E S v n xs) (hb : Below w.heap.size w w') : w'.ownsRow B E S v n xs := by
  refine ⟨h.1, ?_⟩
  rcases h.2 with hn | ⟨gg, cap, cu, hv, hb2, hh, rest⟩
  · exact Or.inl hn
  · exact Or.inr ⟨gg, cap, cu, hv, hb2, (hb.block gg (Array.getElem?_eq_some_iff.1 hh).1).trans hh, rest⟩
set_option maxHeartbeats 4000000 in
set_option maxRecDepth 100000 in
theorem begunS_bad (b p s : Int) (a : Option Addr) (len cap : Nat) (bs : List Bool) (clean : Bool) (w : World) (hr : ReadsB w a len bs) (hl : len ≤ 140737488351232) (hE : newE b p s len ≠ 0) :
    Calls Try.prog 30 #[.agg #[.int .i64 b, .int .i64 p, .int .i64 s], .slice a len cap, .bool clean] w fun e w' => ∃ gr, e = .returned (.tuple #[.pointer none, .pointer (some ⟨gr, 0, none⟩), .bool true]) ∧ Below w.heap.size w w' := by
  obtain ⟨EE, hEE⟩ : ∃ EE, newE b p s len = EE := ⟨_, rfl⟩
  have e1 : (EE == EE) = true := by simp
  have e3 : (EE != 0) = true := by rw [← hEE]; simpa using hE
  have HEE : Hid _ := hEE
  have HE : Hid (newE b p s len ≠ 0) := hE
  have HR : Hid (ReadsB w a len bs) := hr
  have hl2 : len ≤ 140737488355000 := by omega
  have hlen := hr.1
  have HA : Hid (Below w.heap.size w (w.alloc (.cells #[.int .i64 b, .int .i64 p, .int .i64 s] 23))) := (Below.refl _ _).alloc (Nat.le_refl _) _
  clear hr hE hEE
  go_enter Try.func30, Try.ntmps30
  go_wp2_with (first
    | (go_at_call 21; refine (rnew_any b p s a len cap _ hl2).mono ?_; rintro e u1 ⟨rfl, q1⟩; rw [HEE.out]; obtain ⟨x0, x1, x2⟩ := box3 q1; have B1 : Hid (Below (w.alloc (.cells #[.int .i64 b, .int .i64 p, .int .i64 s] 23)).heap.size (w.alloc (.cells #[.int .i64 b, .int .i64 p, .int .i64 s] 23)) u1) := q1; clear q1)
    | (go_at_call 23; refine (marks_any a len cap bs _ hl (ReadsB.below HR.out (below_trans HA.out B1.out))).mono ?_; rintro e u2 ⟨gm, cm, rfl, hcm, ownm, q2⟩; have OM : Hid _ := ownm; have hgm : gm < u2.heap.size := (own_lt ownm); have hgm1 : u1.heap.size ≤ gm := (own_ge ownm); have B2 : Hid (Below (w.alloc (.cells #[.int .i64 b, .int .i64 p, .int .i64 s] 23)).heap.size (w.alloc (.cells #[.int .i64 b, .int .i64 p, .int .i64 s] 23)) u2) := B1.out.trans (q2.mono B1.out.size); have S1 : Hid ((w.alloc (.cells #[.int .i64 b, .int .i64 p, .int .i64 s] 23)).heap.size ≤ u1.heap.size) := B1.out.size; obtain ⟨x0, x1, x2⟩ := box3 B2.out; clear ownm q2 B1)
    | (go_at_call 25; refine (new_bad b p s _ len cm clean _ hl2 HE.out).mono ?_; rintro e u3 ⟨rfl, q3⟩; rw [HEE.out]; have B3 : Hid (Below (w.alloc (.cells #[.int .i64 b, .int .i64 p, .int .i64 s] 23)).heap.size (w.alloc (.cells #[.int .i64 b, .int .i64 p, .int .i64 s] 23)) u3) := B2.out.trans (q3.mono B2.out.size); have Q3 : Hid _ := q3; clear q3)
    | (go_at_call 28; refine (marksKept_any _ gm cm len cap a bs _ hl (ReadsB.below HR.out (below_trans HA.out B3.out)) hcm (ownB OM.out Q3.out)).mono ?_; rintro e u4 ⟨rfl, k4, rfl⟩; have C4 : Hid (CopyAt (u3.drewN k4) gm len) := CopyAt.of hlen (ownB OM.out (below_drewNk Q3.out k4)); have B4 : Hid (Below (w.alloc (.cells #[.int .i64 b, .int .i64 p, .int .i64 s] 23)).heap.size (w.alloc (.cells #[.int .i64 b, .int .i64 p, .int .i64 s] 23)) (u3.drewN k4)) := below_drewNk B3.out k4; clear B3 Q3 B2 OM))
  go_loopw [14] (fun s14 wr => ∃ k : Nat, k ≤ len ∧ s14 = .int .i64 k ∧ Hid (CopyAt wr gm len) ∧ Hid (Below (w.alloc (.cells #[.int .i64 b, .int .i64 p, .int .i64 s] 23)).heap.size (w.alloc (.cells #[.int .i64 b, .int .i64 p, .int .i64 s] 23)) wr))
    (fun i _ => len - (intOf i).toNat)
  case atStart => exact ⟨0, Nat.zero_le _, rfl, C4, B4⟩
  case round =>
    obtain ⟨k, hk, rfl, HC, HB⟩ := hrel
    clear C4 B4
    by_cases hlt : k < len
    · obtain ⟨q, y0, f0, c5⟩ := CopyAt.put HC.out hlt
      have C5 : Hid _ := c5
      have B5 : Hid (Below (w.alloc (.cells #[.int .i64 b, .int .i64 p, .int .i64 s] 23)).heap.size (w.alloc (.cells #[.int .i64 b, .int .i64 p, .int .i64 s] 23)) (wr.setCell ⟨gm, k, none⟩ (.bool (!q)))) := below_far1 HB.out HB.out.size (grown_set1 _ _ _ _) (by have := S1.out; omega)
      have dk : (k : Int) < len := by omega
      clear c5
      go_wp2
      go_roundw
      case rel => exact ⟨k + 1, by omega, by go_num, C5, B5⟩
      case measure => simp [intOf]; omega
    · obtain rfl : k = len := by omega
      clear HC hlt
      obtain ⟨x0, x1, x2⟩ := box3 HB.out
      obtain ⟨i0, hi, hz0, hz1, hz2⟩ := info_parts info4
      have HS9 : Hid (∀ u, Below wr.heap.size wr u → u.cell? ⟨w.heap.size, 0, none⟩ = some (.int .i64 b) ∧ u.cell? ⟨w.heap.size, 1, none⟩ = some (.int .i64 p) ∧ u.cell? ⟨w.heap.size, 2, none⟩ = some (.int .i64 s)) := fun u hu => box3 (HB.out.trans (hu.mono HB.out.size))
      have A1 : Hid (Below wr.heap.size wr ((wr.alloc (.cells #[] 4)).drew)) := ((Below.refl _ _).alloc (Nat.le_refl _) _).drew
      have O1 : Hid (((wr.alloc (.cells #[] 4)).drew).ownsRow wr.heap.size 4 1 (.slice (some ⟨wr.heap.size, 0, none⟩) 0 0) 0 []) := (World.ownsRow_made wr #[] 0 (Nat.le_refl _) (by simp [maxLen]) rfl : (wr.alloc (.cells #[] 4)).ownsRow wr.heap.size 4 1 (.slice (some ⟨wr.heap.size, 0, none⟩) 0 0) 0 []).drew
      have R1 : Hid (RV ((wr.alloc (.cells #[] 4)).drew) a k 1 (bs.map Value.bool)) := (ReadsB.below (ReadsB.below HR.out (below_trans HA.out HB.out)) A1.out).rv
      have hm1 : 0 + k ≤ maxLen := by unfold maxLen; omega
      have hm2 : (0 + k) * 1 ≤ 140737488355328 := by omega
      go_upto_region 9 with fail
      go_region_held3 (fun x => x.cell? ⟨w.heap.size, 0, none⟩ = some (.int .i64 b) ∧ x.cell? ⟨w.heap.size, 1, none⟩ = some (.int .i64 p) ∧ x.cell? ⟨w.heap.size, 2, none⟩ = some (.int .i64 s))
        ((refine HS9.out _ ?_; first | exact (Below.refl _ _).drew | exact A1.out | exact bv1 | exact Below.alloc bv1 bv1.size _))
        (first
          | (refine step_append_src (by rfl) (.tmp 58) (.tmp 59) 25 (by rfl) wr.heap.size 4 i0 _ 1 1 Try.underlying25 hi hz0 hz1 hz2 rfl (by decide) (.slice (some ⟨wr.heap.size, 0, none⟩) 0 0) 0 [] ?_ ?_ a k _ (bs.map Value.bool) (by rfl) ?_ (bools_one _) hm1 hm2 ?_ ?_; exact rfl; with_reducible exact O1.out; exact R1.out; exact A1.out.size; intro v1 w1 own1 grow1; have bv1 := A1.out.grown grow1 A1.out.size (fun j hj => (O1.out.lt j hj).1); obtain ⟨av, cv, hv1⟩ := own_form own1; subst hv1; clear grow1))
      all_goals go_wp2
      all_goals go_ret3
      all_goals
        have hB9 := below_trans HA.out HB.out
        exact ⟨_, rfl, (hB9.trans (bv1.mono hB9.size)).alloc (by have := bv1.size; have := hB9.size; omega) _⟩
set_option maxHeartbeats 4000000 in
set_option maxRecDepth 100000 in
theorem begunS_ok (b p s : Int) (a : Option Addr) (len cap : Nat) (bs : List Bool) (clean : Bool) (w : World) (hr : ReadsB w a len bs) (hl : len ≤ 140737488351232) (hE : newE b p s len = 0) :
    Calls Try.prog 30 #[.agg #[.int .i64 b, .int .i64 p, .int .i64 s], .slice a len cap, .bool clean] w fun e w' => ∃ gj bm gr am km, e = .returned (.tuple #[.pointer (some ⟨gj, 0, none⟩), .pointer (some ⟨gr, 0, none⟩), .bool true]) ∧ Both w' gj bm gr gr b p s am len km bs clean [] ∧ Below w.heap.size w w' ∧ gr < w'.heap.size ∧ w.heap.size ≤ gj ∧ w.heap.size ≤ bm := by
  have hf : Fits b p s = true := by
    cases hf : Fits b p s with
    | true => rfl
    | false => simp [newE, hf] at hE
  have hbd := fits_b hf
  have hlb : (len : Int) = b := by
    by_cases hb : (len : Int) = b
    · exact hb
    · simp [newE, hf, hb] at hE
  have hll : 8 ≤ len ∧ len ≤ 4096 := by omega
  have HLB : Hid _ := hlb
  clear hlb hf hbd
  have HE : Hid (newE b p s len = 0) := hE
  have HR : Hid (ReadsB w a len bs) := hr
  have hl2 : len ≤ 140737488355000 := by omega
  have hlen := hr.1
  have HA : Hid (Below w.heap.size w (w.alloc (.cells #[.int .i64 b, .int .i64 p, .int .i64 s] 23))) := (Below.refl _ _).alloc (Nat.le_refl _) _
  clear hr hE
  go_enter Try.func30, Try.ntmps30
  go_wp2_with (first
    | (go_at_call 21; refine (rnew_any b p s a len cap _ hl2).mono ?_; rintro e u1 ⟨rfl, q1⟩; rw [HE.out]; obtain ⟨x0, x1, x2⟩ := box3 q1; have B1 : Hid (Below (w.alloc (.cells #[.int .i64 b, .int .i64 p, .int .i64 s] 23)).heap.size (w.alloc (.cells #[.int .i64 b, .int .i64 p, .int .i64 s] 23)) u1) := q1; clear q1)
    | (go_at_call 23; refine (marks_any a len cap bs _ hl (ReadsB.below HR.out (below_trans HA.out B1.out))).mono ?_; rintro e u2 ⟨gm, cm, rfl, hcm, ownm, q2⟩; have OM : Hid _ := ownm; have hgm : gm < u2.heap.size := (own_lt ownm); have hgm1 : u1.heap.size ≤ gm := (own_ge ownm); have B2 : Hid (Below (w.alloc (.cells #[.int .i64 b, .int .i64 p, .int .i64 s] 23)).heap.size (w.alloc (.cells #[.int .i64 b, .int .i64 p, .int .i64 s] 23)) u2) := B1.out.trans (q2.mono B1.out.size); have S1 : Hid ((w.alloc (.cells #[.int .i64 b, .int .i64 p, .int .i64 s] 23)).heap.size ≤ u1.heap.size) := B1.out.size; obtain ⟨x0, x1, x2⟩ := box3 B2.out; clear ownm q2 B1)
    | (go_at_call 25; refine (new_ok b p s _ len cm bs clean _ HE.out (marksR hlen OM.out)).mono ?_; rintro e u3 ⟨gj, bm, rfl, j3, q3, k1, k2⟩; have J3 : Hid (JudgeAt u3 gj b p s bm (start clean p bs)) := j3; have B3 : Hid (Below (w.alloc (.cells #[.int .i64 b, .int .i64 p, .int .i64 s] 23)).heap.size (w.alloc (.cells #[.int .i64 b, .int .i64 p, .int .i64 s] 23)) u3) := B2.out.trans (q3.mono B2.out.size); have Q3 : Hid _ := q3; clear q3 j3)
    | (go_at_call 28; refine (marksKept_any _ gm cm len cap a bs _ hl (ReadsB.below HR.out (below_trans HA.out B3.out)) hcm (ownB OM.out Q3.out)).mono ?_; rintro e u4 ⟨rfl, k4, rfl⟩; have J4 : Hid (JudgeAt (u3.drewN k4) gj b p s bm (start clean p bs)) := J3.out.grown (drewN_grown _ _ none); clear J3; have C4 : Hid (CopyAt (u3.drewN k4) gm len) := CopyAt.of hlen (ownB OM.out (below_drewNk Q3.out k4)); have B4 : Hid (Below (w.alloc (.cells #[.int .i64 b, .int .i64 p, .int .i64 s] 23)).heap.size (w.alloc (.cells #[.int .i64 b, .int .i64 p, .int .i64 s] 23)) (u3.drewN k4)) := below_drewNk B3.out k4; clear B3 Q3 B2 OM))
  go_loopw [14] (fun s14 wr => ∃ k : Nat, k ≤ len ∧ s14 = .int .i64 k ∧ Hid (CopyAt wr gm len) ∧ Hid (Below (w.alloc (.cells #[.int .i64 b, .int .i64 p, .int .i64 s] 23)).heap.size (w.alloc (.cells #[.int .i64 b, .int .i64 p, .int .i64 s] 23)) wr) ∧ Hid (JudgeAt wr gj b p s bm (start clean p bs)))
    (fun i _ => len - (intOf i).toNat)
  case atStart => exact ⟨0, Nat.zero_le _, rfl, C4, B4, J4⟩
  case round =>
    obtain ⟨k, hk, rfl, HC, HB, HJ⟩ := hrel
    clear C4 B4 J4
    by_cases hlt : k < len
    · obtain ⟨q, y0, f0, c5⟩ := CopyAt.put HC.out hlt
      have C5 : Hid _ := c5
      have B5 : Hid (Below (w.alloc (.cells #[.int .i64 b, .int .i64 p, .int .i64 s] 23)).heap.size (w.alloc (.cells #[.int .i64 b, .int .i64 p, .int .i64 s] 23)) (wr.setCell ⟨gm, k, none⟩ (.bool (!q)))) := below_far1 HB.out HB.out.size (grown_set1 _ _ _ _) (by have := S1.out; omega)
      have J5 : Hid (JudgeAt (wr.setCell ⟨gm, k, none⟩ (.bool (!q))) gj b p s bm (start clean p bs)) := HJ.out.far (grown_set1 _ _ _ _) (by omega) (by omega)
      have dk : (k : Int) < len := by omega
      clear c5
      go_wp2
      go_roundw
      case rel => exact ⟨k + 1, by omega, by go_num, C5, B5, J5⟩
      case measure => simp [intOf]; omega
    · obtain rfl : k = len := by omega
      clear HC hlt
      obtain ⟨x0, x1, x2⟩ := box3 HB.out
      obtain ⟨i0, hi, hz0, hz1, hz2⟩ := info_parts info4
      have HS9 : Hid (∀ u, Below wr.heap.size wr u → u.cell? ⟨w.heap.size, 0, none⟩ = some (.int .i64 b) ∧ u.cell? ⟨w.heap.size, 1, none⟩ = some (.int .i64 p) ∧ u.cell? ⟨w.heap.size, 2, none⟩ = some (.int .i64 s)) := fun u hu => box3 (HB.out.trans (hu.mono HB.out.size))
      have A1 : Hid (Below wr.heap.size wr ((wr.alloc (.cells #[] 4)).drew)) := ((Below.refl _ _).alloc (Nat.le_refl _) _).drew
      have O1 : Hid (((wr.alloc (.cells #[] 4)).drew).ownsRow wr.heap.size 4 1 (.slice (some ⟨wr.heap.size, 0, none⟩) 0 0) 0 []) := (World.ownsRow_made wr #[] 0 (Nat.le_refl _) (by simp [maxLen]) rfl : (wr.alloc (.cells #[] 4)).ownsRow wr.heap.size 4 1 (.slice (some ⟨wr.heap.size, 0, none⟩) 0 0) 0 []).drew
      have R1 : Hid (RV ((wr.alloc (.cells #[] 4)).drew) a k 1 (bs.map Value.bool)) := (ReadsB.below (ReadsB.below HR.out (below_trans HA.out HB.out)) A1.out).rv
      have hm1 : 0 + k ≤ maxLen := by unfold maxLen; omega
      have hm2 : (0 + k) * 1 ≤ 140737488355328 := by omega
      go_upto_region 9 with fail
      go_region_held3 (fun x => x.cell? ⟨w.heap.size, 0, none⟩ = some (.int .i64 b) ∧ x.cell? ⟨w.heap.size, 1, none⟩ = some (.int .i64 p) ∧ x.cell? ⟨w.heap.size, 2, none⟩ = some (.int .i64 s))
        ((refine HS9.out _ ?_; first | exact (Below.refl _ _).drew | exact A1.out | exact bv1 | exact Below.alloc bv1 bv1.size _))
        (first
          | (refine step_append_src (by rfl) (.tmp 58) (.tmp 59) 25 (by rfl) wr.heap.size 4 i0 _ 1 1 Try.underlying25 hi hz0 hz1 hz2 rfl (by decide) (.slice (some ⟨wr.heap.size, 0, none⟩) 0 0) 0 [] ?_ ?_ a k _ (bs.map Value.bool) (by rfl) ?_ (bools_one _) hm1 hm2 ?_ ?_; exact rfl; with_reducible exact O1.out; exact R1.out; exact A1.out.size; intro v1 w1 own1 grow1; have bv1 := A1.out.grown grow1 A1.out.size (fun j hj => (O1.out.lt j hj).1); obtain ⟨av, cv, hv1⟩ := own_form own1; subst hv1; clear grow1))
      all_goals go_wp2
      all_goals go_ret3
      all_goals
        rw [Nat.zero_add, List.nil_append] at own1
        obtain ⟨gv, cv', hv2, hcv, _, hgv, hgv2⟩ := own_shape own1 (by omega)
        injection hv2 with hv2 _ hv3
        subst hv2 hv3
        have rd1 : ReadsB w1 (some ⟨gv, 0, none⟩) k bs := by
          have h9 := own_readsB (m := k) own1 (Nat.le_refl _)
          rw [List.take_of_length_le (by omega)] at h9
          exact h9
        have hbe : Below w1.heap.size w1 (w1.alloc (.cells #[.int .i64 b, .int .i64 p, .int .i64 s, .slice (some ⟨gv, 0, none⟩) k cv, .bool clean, .slice none 0 0] 156)) := (Below.refl _ _).alloc (Nat.le_refl _) _
        have hJ1 : JudgeAt w1 gj b p s bm (start clean p bs) := HJ.out.grown (grown_of bv1 none)
        have hw1 := bv1.size
        have hjl : gj < wr.heap.size := block_lt_of_cell HJ.out.c0
        have hbl : bm < wr.heap.size := HJ.out.knows.lt
        have hB9 := below_trans HA.out HB.out
        have hsz := HA.out.size
        refine ⟨gj, bm, w1.heap.size, some ⟨gv, 0, none⟩, cv, rfl, ⟨by rw [know_nil]; exact hJ1.grown (grown_of hbe none), ⟨.slice none 0 0, by simp, by simp, by simp, by simp, by simp, by simp, by simp, rd1.below hbe, ?_, World.ownsRow_nil _ _ _ _, by simp [Value.ownBlock], (fun c hc => by cases hc), Nat.le_refl _⟩, by omega, ?_, (fun c hc => by cases hc), (fun c hc => by cases hc), hlen, by have := HLB.out; omega, by omega, by omega⟩, (hB9.trans (bv1.mono hB9.size)).trans (hbe.mono (by have := hB9.size; omega)), by simp, ?_, ?_⟩
        · intro x hx
          cases hx
          exact hgv2
        · intro x hx
          cases hx
          simp only
          omega
        · have := S1.out
          simp at this
          omega
        · have := S1.out
          simp at this
          omega
end Go.Proofs.Ytejonebnmeinhab
