/-
  SEAT YteefekhlbillfaaDoor: the reference's Read.
-/
import Derived.Test.YteefekhlbillfaaDoorQf
namespace Go.Proofs.YteefekhlbillfaaDoor
open Go.RowKit
set_option linter.unusedVariables false

def RrRes (w w' : World) (e : Ending) : Except Int Img → Prop
  | .error x => e = .returned (.tuple #[.agg #[.int .i64 0, .int .i64 0, .int .i64 0, .slice none 0 0, .slice none 0 0], .int .i64 x]) ∧ x ≠ 0
  | .ok m => ∃ ac cc am cm, e = .returned (.tuple #[.agg #[.int .i64 (m.b : Int), .int .i64 (m.p : Int), .int .i64 (m.s : Int), .slice ac m.cs.length cc, .slice am m.b cm], .int .i64 0]) ∧ Reads w' ac m.cs.length m.cs ∧ ReadsB w' am m.b m.ms

theorem head_err {bs : List Int} (h : geoE bs ≠ 0) : rdHead bs = .error (geoE bs) := by
  unfold geoE at h ⊢
  unfold rdHead
  by_cases h1 : bs.take 4 ≠ [83, 72, 65, 76]
  · rw [if_pos h1, if_pos h1]
  rw [if_neg h1] at h
  rw [if_neg h1, if_neg h1]
  by_cases h2 : bs.length < 5
  · rw [if_pos h2, if_pos h2]
  rw [if_neg h2] at h
  rw [if_neg h2, if_neg h2]
  by_cases h3 : bs.getD 4 0 ≠ 1
  · rw [if_pos h3, if_pos h3]
  rw [if_neg h3] at h
  rw [if_neg h3, if_neg h3]
  by_cases h4 : bs.length < 10
  · rw [if_pos h4, if_pos h4]
  rw [if_neg h4] at h
  rw [if_neg h4, if_neg h4]
  by_cases h5 : Fits (bs.getD 5 0 + 256 * bs.getD 6 0) (bs.getD 7 0 + 256 * bs.getD 8 0) (bs.getD 9 0) = false
  · rw [if_pos h5, if_pos h5]
  · rw [if_neg h5] at h
    exact absurd rfl h

/-- What is known of a row whose geometry is right. -/
theorem head_geo {bs : List Int} (hb : Byt bs) (h : geoE bs = 0) : ∃ b p s : Nat, bs.getD 5 0 + 256 * bs.getD 6 0 = (b : Int) ∧ bs.getD 7 0 + 256 * bs.getD 8 0 = (p : Int) ∧ bs.getD 9 0 = (s : Int) ∧ Fits (b : Int) (p : Int) (s : Int) = true ∧ 10 ≤ bs.length ∧
    rdHead bs = (if bs.length < 10 + (b + 7) / 8 then .error 10
      else if bitsOf (unbits b ((bs.drop 10).take ((b + 7) / 8))) ≠ (bs.drop 10).take ((b + 7) / 8) then .error 47
      else .ok (b, p, s, unbits b ((bs.drop 10).take ((b + 7) / 8)), bs.drop (10 + (b + 7) / 8))) := by
  have g5 := byt_getD hb 5
  have g6 := byt_getD hb 6
  have g7 := byt_getD hb 7
  have g8 := byt_getD hb 8
  have g9 := byt_getD hb 9
  obtain ⟨b, hb'⟩ := Int.eq_ofNat_of_zero_le (show 0 ≤ bs.getD 5 0 + 256 * bs.getD 6 0 by omega)
  obtain ⟨p, hp⟩ := Int.eq_ofNat_of_zero_le (show 0 ≤ bs.getD 7 0 + 256 * bs.getD 8 0 by omega)
  obtain ⟨s, hs⟩ := Int.eq_ofNat_of_zero_le g9.1
  unfold geoE at h
  split at h
  · cases h
  split at h
  · cases h
  split at h
  · cases h
  split at h
  · cases h
  split at h
  · cases h
  next h1 h2 h3 h4 h5 =>
    rw [hb', hp, hs] at h5
    refine ⟨b, p, s, hb', hp, hs, by simpa using h5, by omega, ?_⟩
    rw [rdHead, if_neg h1, if_neg h2, if_neg h3, if_neg h4, hb', hp, hs, if_neg h5]
    rfl

theorem seal_eq {bs t : List Int} {at_ : Nat} (hb : Byt bs) (hl : at_ + 4 ≤ bs.length) (ht : t = bs.drop at_) : sealL (bs.take at_) = bs.take (at_ + 4) ↔ val4 t = ((sumL (nats (bs.take at_)) : Nat) : Int) := by
  have hs4 : sumL (nats (bs.take at_)) < 4294967296 := sumL_lt (fun x hx => hb x (List.mem_of_mem_take hx))
  unfold sealL
  generalize sumL (nats (bs.take at_)) = S9 at hs4 ⊢
  subst ht
  have e1 : bs.take (at_ + 4) = bs.take at_ ++ (bs.drop at_).take 4 := by rw [← List.take_append_drop at_ (bs.take (at_ + 4)), List.take_take, List.drop_take, Nat.min_eq_left (by omega), Nat.add_sub_cancel_left]
  have hd : ∀ i, 0 ≤ (bs.drop at_).getD i 0 ∧ (bs.drop at_).getD i 0 ≤ 255 := fun i => byt_getD (fun x hx => hb x (List.mem_of_mem_drop hx)) i
  have h4 : 4 ≤ (bs.drop at_).length := by rw [List.length_drop]; omega
  have hv : val4 ((bs.drop at_).take 4) = val4 (bs.drop at_) := by
    match bs.drop at_, h4 with
    | a :: b :: c :: d :: r, _ => rfl
  rw [e1]
  constructor
  · intro h
    have h9 := List.append_cancel_left h
    rw [← hv, ← h9, ← List.append_nil (le4 S9), val4_le4 S9 hs4]
  · intro h
    rw [le4_val (t := (bs.drop at_).take 4) (fun x hx => hb x (List.mem_of_mem_drop (List.mem_of_mem_take hx))) (by rw [List.length_take]; omega) (by rw [hv]; exact h)]

theorem own_anyB {w : World} {B n : Nat} {v : Value} {xs : List Bool} (h : w.ownsRow B 4 1 v n (xs.map Value.bool)) : ∃ a c, v = .slice a n c ∧ ReadsB w a n xs := by
  have hl : xs.length = n := by have := h.1; simpa using this
  rcases h.2 with ⟨rfl, h0⟩ | ⟨g, cap, cur, rfl, hb, hg, hnc, hcm, hsz, htk⟩
  · subst h0
    exact ⟨none, 0, rfl, hl, fun _ => rfl, fun x hx => (by cases hx)⟩
  · refine ⟨some ⟨g, 0, none⟩, cap, rfl, hl, fun hx => (by cases hx), fun x hx i hi => ?_⟩
    cases hx
    have h9 := h.cells (g := g) rfl i (.bool (xs.getD i false)) (by
      rw [List.getElem?_map, List.getElem?_eq_getElem (by omega), List.getD_eq_getElem?_getD, List.getElem?_eq_getElem (by omega)]
      rfl)
    exact h9

theorem suffix_drop {bs r t E : List Int} {q : Nat} (hr : r = bs.drop q) (h : r = E ++ t) : t = bs.drop (bs.length - t.length) := by
  obtain ⟨Pre, h1⟩ : ∃ Pre, bs = Pre ++ t := ⟨bs.take q ++ E, by rw [List.append_assoc, ← h, hr, List.take_append_drop]⟩
  rw [h1, List.length_append, Nat.add_sub_cancel, List.drop_left]

theorem seal_len (x : List Int) : (sealL x).length = x.length + 4 := by simp [sealL, le4]
theorem seal_byt {x : List Int} (h : ∀ y ∈ x, 0 ≤ y ∧ y ≤ 255) : ∀ y ∈ sealL x, 0 ≤ y ∧ y ≤ 255 := by
  intro y hy
  unfold sealL at hy
  rcases List.mem_append.1 hy with h8 | h8
  · exact h y h8
  · simp [le4] at h8
    omega
theorem ReadsB.farB {W W' : World} {ad : Option Addr} {n : Nat} {zs : List Bool} {r : Option Nat} (h : ReadsB W ad n zs) (hg : W.grownBy W' r) (hf : ∀ q, ad = some q → r ≠ some q.block ∧ q.block < W.heap.size) : ReadsB W' ad n zs :=
  ⟨h.1, h.2.1, fun q hq i hi => by
    rw [hg.cell_far (q.add i) (by rw [add_block]; exact (hf q hq).2) (by rw [add_block]; exact fun e => (hf q hq).1 e.symm)]
    exact h.2.2 q hq i hi⟩
theorem far_of {W : World} {B n n' e : Nat} {ad : Option Addr} {c : Nat} {xs : List Value} {x : Nat} (h : W.ownsRow B e 1 (.slice ad n' c) n xs) (hx : x < B) : ∀ q, ad = some q → some x ≠ some q.block ∧ q.block < W.heap.size := by
  intro q hq
  subst hq
  have h8 := h.lt q.block rfl
  exact ⟨fun e => by have := Option.some.inj e; omega, h8.2⟩

set_option maxHeartbeats 4000000 in
set_option maxRecDepth 100000 in
theorem rread_geo (a : Option Addr) (n c : Nat) (bs : List Int) (w : World) (hr : Reads w a n bs) (hn : n ≤ 140737488351300) (hg : geoE bs ≠ 0) :
    Calls Tryd.prog 7 #[.slice a n c] w fun e w' => RrRes w w' e (readR bs) ∧ Below w.heap.size w w' := by
  obtain ⟨x, hx⟩ : ∃ x, geoE bs = x := ⟨_, rfl⟩
  have HG : Hid (geoE bs ≠ 0) := hg
  have HGX : Hid (geoE bs = x) := hx
  have hx0 : x ≠ 0 := by rw [← hx]; exact hg
  have hx1 : (x == 0) = false := by rw [beq_eq_false_iff_ne]; exact hx0
  have HRD : Hid (readR bs = .error x) := by
    unfold Hid readR
    rw [head_err hg, hx]
  have HR : Hid (Reads w a n bs) := hr
  have HX0 : Hid ((w.alloc (.cells #[.int .i64 0, .int .i64 0, .int .i64 0, .slice none 0 0, .slice none 0 0] 30)).heap[w.heap.size]? = some (.cells #[.int .i64 0, .int .i64 0, .int .i64 0, .slice none 0 0, .slice none 0 0] 30 (0, 0))) := heap_alloc_new w _
  have HB0 : Hid (Below w.heap.size w (w.alloc (.cells #[.int .i64 0, .int .i64 0, .int .i64 0, .slice none 0 0, .slice none 0 0] 30))) := below_alloc w _
  clear hr hg hx
  go_enter Tryd.func7, Tryd.ntmps7
  go_wp2_with (first
    | (go_at_call 27; refine (rgeo_any a n c bs _ (HR.out.below HB0.out) (by omega)).mono ?_; rintro e t1 ⟨res, bl⟩; obtain ⟨_, rfl⟩ := res.resolve_right (fun h => HG.out h.1); rw [HGX.out]
       have HX1 : Hid ((t1.alloc (.cells #[.int .i64 0, .int .i64 0, .int .i64 0] 27)).heap[w.heap.size]? = some (.cells #[.int .i64 0, .int .i64 0, .int .i64 0, .slice none 0 0, .slice none 0 0] 30 (0, 0))) := (Below.heap_alloc t1 _ _ (lt_of_bk ((bl.block _ (lt_of_bk HX0.out)).trans HX0.out))).trans ((bl.block _ (lt_of_bk HX0.out)).trans HX0.out)
       have HB1 : Hid (Below w.heap.size w (t1.alloc (.cells #[.int .i64 0, .int .i64 0, .int .i64 0] 27))) := below_trans (below_trans HB0.out bl) (below_alloc _ _)
       clear bl
       obtain ⟨r0, r1, r2, r3, r4⟩ := cells5 HX1.out
       have rf := frozen5 HX1.out
       have rf0 := rf 0
       have rf1 := rf 1
       have rf2 := rf 2
       have rf3 := rf 3
       have rf4 := rf 4
       clear rf))
  exact bodyPost_ret (v := .tuple #[.agg #[.int .i64 0, .int .i64 0, .int .i64 0, .slice none 0 0, .slice none 0 0], .int .i64 x]) (by obtain ⟨y0, y1, y2, y3, y4⟩ := cells5 (blk5_set HX1.out (.int .i64 0) (.int .i64 0) (.int .i64 0) (.slice none 0 0) (.slice none 0 0)); simp [results, Tryd.results7, go_sem, y0, y1, y2, y3, y4]) rfl ⟨by rw [HRD.out]; exact ⟨rfl, hx0⟩, below_grown HB1.out (grown5 _ _ _ _ _ _ _) (Nat.le_refl _)⟩
set_option maxHeartbeats 4000000 in
set_option maxRecDepth 100000 in
theorem rread_ms (a : Option Addr) (n c : Nat) (bs : List Int) (w : World) (hr : Reads w a n bs) (hn : n ≤ 140737488351300) (b p s N8 q0 N C S : Nat) (h5 : bs.getD 5 0 + 256 * bs.getD 6 0 = (b : Int)) (h7 : bs.getD 7 0 + 256 * bs.getD 8 0 = (p : Int)) (h9 : bs.getD 9 0 = (s : Int)) (hf : Fits (b : Int) (p : Int) (s : Int) = true) (hl : 10 ≤ n) (hg : geoE bs = 0) (hN8 : (b + 7) / 8 = N8) (hq0 : 10 + N8 = q0) (hC : 256 * s = C) (hS : 54 + 3 * s = S) (hN : b * p = N) (hs : n < q0) :
    Calls Tryd.prog 7 #[.slice a n c] w fun e w' => RrRes w w' e (readR bs) ∧ Below w.heap.size w w' := by
  obtain ⟨g1, g2, g3, g4, g5, g6, g7⟩ := fits_nat hf
  have HG : Hid (geoE bs = 0) := hg
  have H5 : Hid (bs.getD 5 0 + 256 * bs.getD 6 0 = (b : Int)) := h5
  have H7 : Hid (bs.getD 7 0 + 256 * bs.getD 8 0 = (p : Int)) := h7
  have H9 : Hid (bs.getD 9 0 = (s : Int)) := h9
  have HF : Hid (Fits (b : Int) (p : Int) (s : Int) = true) := hf
  have HN8 : Hid ((b + 7) / 8 = N8) := hN8
  have HC : Hid (256 * s = C) := hC
  have HS : Hid (54 + 3 * s = S) := hS
  have HN : Hid (b * p = N) := hN
  have HQ0 : Hid (10 + N8 = q0) := hq0
  have hb2 : 8 ≤ b ∧ b ≤ 4096 := ⟨g1, g2⟩
  have f0 : 10 + (N8 : Int) = (q0 : Int) := by omega
  have HF0 : Hid (10 + (N8 : Int) = (q0 : Int)) := f0
  clear f0
  have HRD : Hid (readR bs = .error 10) := by
    obtain ⟨b', p', s', e1, e2, e3, _, _, e6⟩ := head_geo hr.2.1 hg
    rw [h5] at e1
    have e1' : b' = b := by omega
    subst e1'
    unfold Hid readR
    rw [e6, if_pos (by have := hr.1; omega)]
  have HR : Hid (Reads w a n bs) := hr
  have HX0 : Hid ((w.alloc (.cells #[.int .i64 0, .int .i64 0, .int .i64 0, .slice none 0 0, .slice none 0 0] 30)).heap[w.heap.size]? = some (.cells #[.int .i64 0, .int .i64 0, .int .i64 0, .slice none 0 0, .slice none 0 0] 30 (0, 0))) := heap_alloc_new w _
  have HB0 : Hid (Below w.heap.size w (w.alloc (.cells #[.int .i64 0, .int .i64 0, .int .i64 0, .slice none 0 0, .slice none 0 0] 30))) := below_alloc w _
  clear hr h5 h7 h9 hf hg hN8 hC hS hN hq0 g1 g2 g3 g4 g5 g6 g7
  go_enter Tryd.func7, Tryd.ntmps7
  go_wp2_with (first
    | (go_at_call 27; refine (rgeo_any a n c bs _ (HR.out.below HB0.out) (by omega)).mono ?_; rintro e t1 ⟨res, bl⟩; obtain ⟨_, rfl⟩ := res.resolve_left (fun h => h.1 HG.out); rw [H5.out, H7.out, H9.out]
       have HX1 : Hid ((t1.alloc (.cells #[.int .i64 (b : Int), .int .i64 (p : Int), .int .i64 (s : Int)] 27)).heap[w.heap.size]? = some (.cells #[.int .i64 0, .int .i64 0, .int .i64 0, .slice none 0 0, .slice none 0 0] 30 (0, 0))) := (Below.heap_alloc t1 _ _ (lt_of_bk ((bl.block _ (lt_of_bk HX0.out)).trans HX0.out))).trans ((bl.block _ (lt_of_bk HX0.out)).trans HX0.out)
       have HG1 : Hid ((t1.alloc (.cells #[.int .i64 (b : Int), .int .i64 (p : Int), .int .i64 (s : Int)] 27)).heap[t1.heap.size]? = some (.cells #[.int .i64 (b : Int), .int .i64 (p : Int), .int .i64 (s : Int)] 27 (0, 0))) := heap_alloc_new _ _
       have HB1 : Hid (Below w.heap.size w (t1.alloc (.cells #[.int .i64 (b : Int), .int .i64 (p : Int), .int .i64 (s : Int)] 27))) := below_trans (below_trans HB0.out bl) (below_alloc _ _)
       clear bl
       obtain ⟨z0, z1, z2, z3, z4, z5⟩ := blk3_cells HG1.out
       clear z3 z4 z5)
    | (go_at_call 28; refine (rmarks_short a n c bs b p s _ (HR.out.below HB1.out) (by omega) hb2 N8 HN8.out (by have := HQ0.out; omega)).mono ?_; rintro e t2 ⟨rfl, bl⟩
       have HX2 : Hid (t2.heap[w.heap.size]? = some (.cells #[.int .i64 0, .int .i64 0, .int .i64 0, .slice none 0 0, .slice none 0 0] 30 (0, 0))) := (bl.block _ (lt_of_bk HX1.out)).trans HX1.out
       have HG2 : Hid (t2.heap[t1.heap.size]? = some (.cells #[.int .i64 (b : Int), .int .i64 (p : Int), .int .i64 (s : Int)] 27 (0, 0))) := (bl.block _ (lt_of_bk HG1.out)).trans HG1.out
       have HB2 : Hid (Below w.heap.size w t2) := below_trans HB1.out bl
       clear bl z0 z1 z2
       obtain ⟨r0, r1, r2, r3, r4⟩ := cells5 HX2.out
       have rf := frozen5 HX2.out
       have rf0 := rf 0
       have rf1 := rf 1
       have rf2 := rf 2
       have rf3 := rf 3
       have rf4 := rf 4
       clear rf))
  exact bodyPost_ret (v := .tuple #[.agg #[.int .i64 0, .int .i64 0, .int .i64 0, .slice none 0 0, .slice none 0 0], .int .i64 10]) (by obtain ⟨y0, y1, y2, y3, y4⟩ := cells5 (blk5_set HX2.out (.int .i64 0) (.int .i64 0) (.int .i64 0) (.slice none 0 0) (.slice none 0 0)); simp [results, Tryd.results7, go_sem, y0, y1, y2, y3, y4]) rfl ⟨by rw [HRD.out]; exact ⟨rfl, by decide⟩, below_grown HB2.out (grown5 _ _ _ _ _ _ _) (Nat.le_refl _)⟩
set_option maxHeartbeats 4000000 in
set_option maxRecDepth 100000 in
theorem rread_mb (a : Option Addr) (n c : Nat) (bs : List Int) (w : World) (hr : Reads w a n bs) (hn : n ≤ 140737488351300) (b p s N8 q0 N C S : Nat) (h5 : bs.getD 5 0 + 256 * bs.getD 6 0 = (b : Int)) (h7 : bs.getD 7 0 + 256 * bs.getD 8 0 = (p : Int)) (h9 : bs.getD 9 0 = (s : Int)) (hf : Fits (b : Int) (p : Int) (s : Int) = true) (hl : 10 ≤ n) (hg : geoE bs = 0) (hN8 : (b + 7) / 8 = N8) (hq0 : 10 + N8 = q0) (hC : 256 * s = C) (hS : 54 + 3 * s = S) (hN : b * p = N) (hs : q0 ≤ n) (hm : bitsOf (unbits b ((bs.drop 10).take N8)) ≠ (bs.drop 10).take N8) :
    Calls Tryd.prog 7 #[.slice a n c] w fun e w' => RrRes w w' e (readR bs) ∧ Below w.heap.size w w' := by
  obtain ⟨g1, g2, g3, g4, g5, g6, g7⟩ := fits_nat hf
  have HG : Hid (geoE bs = 0) := hg
  have H5 : Hid (bs.getD 5 0 + 256 * bs.getD 6 0 = (b : Int)) := h5
  have H7 : Hid (bs.getD 7 0 + 256 * bs.getD 8 0 = (p : Int)) := h7
  have H9 : Hid (bs.getD 9 0 = (s : Int)) := h9
  have HF : Hid (Fits (b : Int) (p : Int) (s : Int) = true) := hf
  have HN8 : Hid ((b + 7) / 8 = N8) := hN8
  have HC : Hid (256 * s = C) := hC
  have HS : Hid (54 + 3 * s = S) := hS
  have HN : Hid (b * p = N) := hN
  have HQ0 : Hid (10 + N8 = q0) := hq0
  have hb2 : 8 ≤ b ∧ b ≤ 4096 := ⟨g1, g2⟩
  have f0 : 10 + (N8 : Int) = (q0 : Int) := by omega
  have HF0 : Hid (10 + (N8 : Int) = (q0 : Int)) := f0
  clear f0
  have HRD : Hid (readR bs = .error 47) := by
    obtain ⟨b', p', s', e1, e2, e3, _, _, e6⟩ := head_geo hr.2.1 hg
    rw [h5] at e1
    have e1' : b' = b := by omega
    subst e1'
    unfold Hid readR
    rw [e6, hN8, if_neg (by have := hr.1; omega), if_pos hm]
  have HMB : Hid (bitsOf (unbits b ((bs.drop 10).take N8)) ≠ (bs.drop 10).take N8) := hm
  have HR : Hid (Reads w a n bs) := hr
  have HX0 : Hid ((w.alloc (.cells #[.int .i64 0, .int .i64 0, .int .i64 0, .slice none 0 0, .slice none 0 0] 30)).heap[w.heap.size]? = some (.cells #[.int .i64 0, .int .i64 0, .int .i64 0, .slice none 0 0, .slice none 0 0] 30 (0, 0))) := heap_alloc_new w _
  have HB0 : Hid (Below w.heap.size w (w.alloc (.cells #[.int .i64 0, .int .i64 0, .int .i64 0, .slice none 0 0, .slice none 0 0] 30))) := below_alloc w _
  clear hm
  clear hr h5 h7 h9 hf hg hN8 hC hS hN hq0 g1 g2 g3 g4 g5 g6 g7
  go_enter Tryd.func7, Tryd.ntmps7
  go_wp2_with (first
    | (go_at_call 27; refine (rgeo_any a n c bs _ (HR.out.below HB0.out) (by omega)).mono ?_; rintro e t1 ⟨res, bl⟩; obtain ⟨_, rfl⟩ := res.resolve_left (fun h => h.1 HG.out); rw [H5.out, H7.out, H9.out]
       have HX1 : Hid ((t1.alloc (.cells #[.int .i64 (b : Int), .int .i64 (p : Int), .int .i64 (s : Int)] 27)).heap[w.heap.size]? = some (.cells #[.int .i64 0, .int .i64 0, .int .i64 0, .slice none 0 0, .slice none 0 0] 30 (0, 0))) := (Below.heap_alloc t1 _ _ (lt_of_bk ((bl.block _ (lt_of_bk HX0.out)).trans HX0.out))).trans ((bl.block _ (lt_of_bk HX0.out)).trans HX0.out)
       have HG1 : Hid ((t1.alloc (.cells #[.int .i64 (b : Int), .int .i64 (p : Int), .int .i64 (s : Int)] 27)).heap[t1.heap.size]? = some (.cells #[.int .i64 (b : Int), .int .i64 (p : Int), .int .i64 (s : Int)] 27 (0, 0))) := heap_alloc_new _ _
       have HB1 : Hid (Below w.heap.size w (t1.alloc (.cells #[.int .i64 (b : Int), .int .i64 (p : Int), .int .i64 (s : Int)] 27))) := below_trans (below_trans HB0.out bl) (below_alloc _ _)
       clear bl
       obtain ⟨z0, z1, z2, z3, z4, z5⟩ := blk3_cells HG1.out
       clear z3 z4 z5)
    | (go_at_call 28; refine (rmarks_long a n c bs b p s _ (HR.out.below HB1.out) (by omega) hb2 N8 HN8.out (by have := HQ0.out; omega)).mono ?_; rintro e t2 ⟨res, bl⟩; obtain ⟨_, rfl⟩ := res.resolve_left (fun h => HMB.out h.1)
       have HX2 : Hid (t2.heap[w.heap.size]? = some (.cells #[.int .i64 0, .int .i64 0, .int .i64 0, .slice none 0 0, .slice none 0 0] 30 (0, 0))) := (bl.block _ (lt_of_bk HX1.out)).trans HX1.out
       have HG2 : Hid (t2.heap[t1.heap.size]? = some (.cells #[.int .i64 (b : Int), .int .i64 (p : Int), .int .i64 (s : Int)] 27 (0, 0))) := (bl.block _ (lt_of_bk HG1.out)).trans HG1.out
       have HB2 : Hid (Below w.heap.size w t2) := below_trans HB1.out bl
       clear bl z0 z1 z2
       obtain ⟨r0, r1, r2, r3, r4⟩ := cells5 HX2.out
       have rf := frozen5 HX2.out
       have rf0 := rf 0
       have rf1 := rf 1
       have rf2 := rf 2
       have rf3 := rf 3
       have rf4 := rf 4
       clear rf))
  exact bodyPost_ret (v := .tuple #[.agg #[.int .i64 0, .int .i64 0, .int .i64 0, .slice none 0 0, .slice none 0 0], .int .i64 47]) (by obtain ⟨y0, y1, y2, y3, y4⟩ := cells5 (blk5_set HX2.out (.int .i64 0) (.int .i64 0) (.int .i64 0) (.slice none 0 0) (.slice none 0 0)); simp [results, Tryd.results7, go_sem, y0, y1, y2, y3, y4]) rfl ⟨by rw [HRD.out]; exact ⟨rfl, by decide⟩, below_grown HB2.out (grown5 _ _ _ _ _ _ _) (Nat.le_refl _)⟩
set_option maxHeartbeats 4000000 in
set_option maxRecDepth 100000 in
theorem rread_pb (a : Option Addr) (n c : Nat) (bs : List Int) (w : World) (hr : Reads w a n bs) (hn : n ≤ 140737488351300) (b p s N8 q0 N C S : Nat) (h5 : bs.getD 5 0 + 256 * bs.getD 6 0 = (b : Int)) (h7 : bs.getD 7 0 + 256 * bs.getD 8 0 = (p : Int)) (h9 : bs.getD 9 0 = (s : Int)) (hf : Fits (b : Int) (p : Int) (s : Int) = true) (hl : 10 ≤ n) (hg : geoE bs = 0) (hN8 : (b + 7) / 8 = N8) (hq0 : 10 + N8 = q0) (hC : 256 * s = C) (hS : 54 + 3 * s = S) (hN : b * p = N) (hs : q0 ≤ n) (hm : bitsOf (unbits b ((bs.drop 10).take N8)) = (bs.drop 10).take N8) (x : Int) (hp : rdPs C S N N Pc.z (bs.drop q0) = .error x) :
    Calls Tryd.prog 7 #[.slice a n c] w fun e w' => RrRes w w' e (readR bs) ∧ Below w.heap.size w w' := by
  obtain ⟨g1, g2, g3, g4, g5, g6, g7⟩ := fits_nat hf
  have HG : Hid (geoE bs = 0) := hg
  have H5 : Hid (bs.getD 5 0 + 256 * bs.getD 6 0 = (b : Int)) := h5
  have H7 : Hid (bs.getD 7 0 + 256 * bs.getD 8 0 = (p : Int)) := h7
  have H9 : Hid (bs.getD 9 0 = (s : Int)) := h9
  have HF : Hid (Fits (b : Int) (p : Int) (s : Int) = true) := hf
  have HN8 : Hid ((b + 7) / 8 = N8) := hN8
  have HC : Hid (256 * s = C) := hC
  have HS : Hid (54 + 3 * s = S) := hS
  have HN : Hid (b * p = N) := hN
  have HQ0 : Hid (10 + N8 = q0) := hq0
  have hb2 : 8 ≤ b ∧ b ≤ 4096 := ⟨g1, g2⟩
  have f0 : 10 + (N8 : Int) = (q0 : Int) := by omega
  have HF0 : Hid (10 + (N8 : Int) = (q0 : Int)) := f0
  clear f0
  have HHD : Hid (rdHead bs = .ok (b, p, s, unbits b ((bs.drop 10).take N8), bs.drop q0)) := by
    obtain ⟨b', p', s', e1, e2, e3, _, _, e6⟩ := head_geo hr.2.1 hg
    rw [h5] at e1
    rw [h7] at e2
    rw [h9] at e3
    have e1' : b' = b := by omega
    have e2' : p' = p := by omega
    have e3' : s' = s := by omega
    subst e1' e2' e3'
    unfold Hid
    rw [e6, hN8, if_neg (by have := hr.1; omega), if_neg (fun h => h hm), hq0]
  have HMB : Hid (bitsOf (unbits b ((bs.drop 10).take N8)) = (bs.drop 10).take N8) := hm
  have HRD : Hid (readR bs = .error x) := by
    unfold Hid readR
    rw [HHD.out]
    simp only [hC, hS, hN, hp]
  have HPS : Hid (rdPs C S N N Pc.z (bs.drop q0) = .error x) := hp
  have HR : Hid (Reads w a n bs) := hr
  have HX0 : Hid ((w.alloc (.cells #[.int .i64 0, .int .i64 0, .int .i64 0, .slice none 0 0, .slice none 0 0] 30)).heap[w.heap.size]? = some (.cells #[.int .i64 0, .int .i64 0, .int .i64 0, .slice none 0 0, .slice none 0 0] 30 (0, 0))) := heap_alloc_new w _
  have HB0 : Hid (Below w.heap.size w (w.alloc (.cells #[.int .i64 0, .int .i64 0, .int .i64 0, .slice none 0 0, .slice none 0 0] 30))) := below_alloc w _
  clear hm hp HHD
  clear hr h5 h7 h9 hf hg hN8 hC hS hN hq0 g1 g2 g3 g4 g5 g6 g7
  go_enter Tryd.func7, Tryd.ntmps7
  go_wp2_with (first
    | (go_at_call 27; refine (rgeo_any a n c bs _ (HR.out.below HB0.out) (by omega)).mono ?_; rintro e t1 ⟨res, bl⟩; obtain ⟨_, rfl⟩ := res.resolve_left (fun h => h.1 HG.out); rw [H5.out, H7.out, H9.out]
       have HX1 : Hid ((t1.alloc (.cells #[.int .i64 (b : Int), .int .i64 (p : Int), .int .i64 (s : Int)] 27)).heap[w.heap.size]? = some (.cells #[.int .i64 0, .int .i64 0, .int .i64 0, .slice none 0 0, .slice none 0 0] 30 (0, 0))) := (Below.heap_alloc t1 _ _ (lt_of_bk ((bl.block _ (lt_of_bk HX0.out)).trans HX0.out))).trans ((bl.block _ (lt_of_bk HX0.out)).trans HX0.out)
       have HG1 : Hid ((t1.alloc (.cells #[.int .i64 (b : Int), .int .i64 (p : Int), .int .i64 (s : Int)] 27)).heap[t1.heap.size]? = some (.cells #[.int .i64 (b : Int), .int .i64 (p : Int), .int .i64 (s : Int)] 27 (0, 0))) := heap_alloc_new _ _
       have HB1 : Hid (Below w.heap.size w (t1.alloc (.cells #[.int .i64 (b : Int), .int .i64 (p : Int), .int .i64 (s : Int)] 27))) := below_trans (below_trans HB0.out bl) (below_alloc _ _)
       clear bl
       obtain ⟨z0, z1, z2, z3, z4, z5⟩ := blk3_cells HG1.out
       clear z3 z4 z5)
    | (go_at_call 28; refine (rmarks_long a n c bs b p s _ (HR.out.below HB1.out) (by omega) hb2 N8 HN8.out (by have := HQ0.out; omega)).mono ?_; rintro e t2 ⟨res, bl⟩; obtain ⟨_, v2, rfl, own2⟩ := res.resolve_right (fun h => h.1 HMB.out); rw [HF0.out]
       have HX2 : Hid (t2.heap[w.heap.size]? = some (.cells #[.int .i64 0, .int .i64 0, .int .i64 0, .slice none 0 0, .slice none 0 0] 30 (0, 0))) := (bl.block _ (lt_of_bk HX1.out)).trans HX1.out
       have HG2 : Hid (t2.heap[t1.heap.size]? = some (.cells #[.int .i64 (b : Int), .int .i64 (p : Int), .int .i64 (s : Int)] 27 (0, 0))) := (bl.block _ (lt_of_bk HG1.out)).trans HG1.out
       have HB2 : Hid (Below w.heap.size w t2) := below_trans HB1.out bl
       have HO2 : Hid (t2.ownsRow (w.heap.size + 1) 4 1 v2 b ((unbits b ((bs.drop 10).take N8)).map Value.bool)) := ownsRow_base own2 (lt_of_bk HX1.out)
       clear bl z0 z1 z2 own2
       obtain ⟨z0, z1, z2, z3, z4, z5⟩ := blk3_cells HG2.out
       clear z3 z4 z5)
    | (go_at_call 29; refine (rpieces_any a n c bs q0 b p s _ (HR.out.below HB2.out) (by omega) hs (by omega) HF.out C S N HC.out HS.out HN.out).mono ?_; rintro e t3 ⟨res, bl⟩; rw [HPS.out] at res; obtain ⟨hx0, rfl⟩ := res
       have HX3 : Hid (t3.heap[w.heap.size]? = some (.cells #[.int .i64 0, .int .i64 0, .int .i64 0, .slice none 0 0, .slice none 0 0] 30 (0, 0))) := (bl.block _ (lt_of_bk HX2.out)).trans HX2.out
       have HG3 : Hid (t3.heap[t1.heap.size]? = some (.cells #[.int .i64 (b : Int), .int .i64 (p : Int), .int .i64 (s : Int)] 27 (0, 0))) := (bl.block _ (lt_of_bk HG2.out)).trans HG2.out
       have HB3 : Hid (Below w.heap.size w t3) := below_trans HB2.out bl
       have hx1 : (x == 0) = false := (by rw [beq_eq_false_iff_ne]; exact hx0)
       clear bl z0 z1 z2
       obtain ⟨r0, r1, r2, r3, r4⟩ := cells5 HX3.out
       have rf := frozen5 HX3.out
       have rf0 := rf 0
       have rf1 := rf 1
       have rf2 := rf 2
       have rf3 := rf 3
       have rf4 := rf 4
       clear rf))
  exact bodyPost_ret (v := .tuple #[.agg #[.int .i64 0, .int .i64 0, .int .i64 0, .slice none 0 0, .slice none 0 0], .int .i64 x]) (by obtain ⟨y0, y1, y2, y3, y4⟩ := cells5 (blk5_set HX3.out (.int .i64 0) (.int .i64 0) (.int .i64 0) (.slice none 0 0) (.slice none 0 0)); simp [results, Tryd.results7, go_sem, y0, y1, y2, y3, y4]) rfl ⟨by rw [HRD.out]; exact ⟨rfl, hx0⟩, below_grown HB3.out (grown5 _ _ _ _ _ _ _) (Nat.le_refl _)⟩
set_option maxHeartbeats 4000000 in
set_option maxRecDepth 100000 in
theorem rread_es (a : Option Addr) (n c : Nat) (bs : List Int) (w : World) (hr : Reads w a n bs) (hn : n ≤ 140737488351300) (b p s N8 q0 N C S : Nat) (h5 : bs.getD 5 0 + 256 * bs.getD 6 0 = (b : Int)) (h7 : bs.getD 7 0 + 256 * bs.getD 8 0 = (p : Int)) (h9 : bs.getD 9 0 = (s : Int)) (hf : Fits (b : Int) (p : Int) (s : Int) = true) (hl : 10 ≤ n) (hg : geoE bs = 0) (hN8 : (b + 7) / 8 = N8) (hq0 : 10 + N8 = q0) (hC : 256 * s = C) (hS : 54 + 3 * s = S) (hN : b * p = N) (hs : q0 ≤ n) (hm : bitsOf (unbits b ((bs.drop 10).take N8)) = (bs.drop 10).take N8) (ps : List Pc) (t : List Int) (at_ : Nat) (hp : rdPs C S N N Pc.z (bs.drop q0) = .ok (ps, t)) (hat : n - t.length = at_) (he : n < at_ + 4) :
    Calls Tryd.prog 7 #[.slice a n c] w fun e w' => RrRes w w' e (readR bs) ∧ Below w.heap.size w w' := by
  obtain ⟨g1, g2, g3, g4, g5, g6, g7⟩ := fits_nat hf
  have HG : Hid (geoE bs = 0) := hg
  have H5 : Hid (bs.getD 5 0 + 256 * bs.getD 6 0 = (b : Int)) := h5
  have H7 : Hid (bs.getD 7 0 + 256 * bs.getD 8 0 = (p : Int)) := h7
  have H9 : Hid (bs.getD 9 0 = (s : Int)) := h9
  have HF : Hid (Fits (b : Int) (p : Int) (s : Int) = true) := hf
  have HN8 : Hid ((b + 7) / 8 = N8) := hN8
  have HC : Hid (256 * s = C) := hC
  have HS : Hid (54 + 3 * s = S) := hS
  have HN : Hid (b * p = N) := hN
  have HQ0 : Hid (10 + N8 = q0) := hq0
  have hb2 : 8 ≤ b ∧ b ≤ 4096 := ⟨g1, g2⟩
  have f0 : 10 + (N8 : Int) = (q0 : Int) := by omega
  have HF0 : Hid (10 + (N8 : Int) = (q0 : Int)) := f0
  clear f0
  have HHD : Hid (rdHead bs = .ok (b, p, s, unbits b ((bs.drop 10).take N8), bs.drop q0)) := by
    obtain ⟨b', p', s', e1, e2, e3, _, _, e6⟩ := head_geo hr.2.1 hg
    rw [h5] at e1
    rw [h7] at e2
    rw [h9] at e3
    have e1' : b' = b := by omega
    have e2' : p' = p := by omega
    have e3' : s' = s := by omega
    subst e1' e2' e3'
    unfold Hid
    rw [e6, hN8, if_neg (by have := hr.1; omega), if_neg (fun h => h hm), hq0]
  have HMB : Hid (bitsOf (unbits b ((bs.drop 10).take N8)) = (bs.drop 10).take N8) := hm
  have HPS : Hid (rdPs C S N N Pc.z (bs.drop q0) = .ok (ps, t)) := hp
  have hlen := hr.1
  have HTD : Hid (t = bs.drop at_) := by
    have h8 := suffix_drop (bs := bs) (q := q0) rfl (rdPs_sound (fun x hx => hr.2.1 x (List.mem_of_mem_drop hx)) hp).1
    rw [hlen, hat] at h8
    exact h8
  have hta : at_ + t.length = n := by
    have h8 := HTD.out
    have h7 := congrArg List.length h8
    rw [List.length_drop, hlen] at h7
    omega
  have HTA : Hid (n - t.length = at_) := hat
  have HRE : Hid (readR bs = if rdEnd bs t ≠ 0 then .error (rdEnd bs t) else .ok ⟨b, p, s, (pgs ps).flatten, unbits b ((bs.drop 10).take N8)⟩) := by
    unfold Hid readR
    rw [HHD.out]
    simp only [hC, hS, hN, hp]
  have HRD : Hid (readR bs = .error 10) := by
    have h8 : rdEnd bs t = 10 := by unfold rdEnd; rw [if_pos (by omega)]
    unfold Hid
    rw [HRE.out, h8, if_pos (by decide)]
  have HR : Hid (Reads w a n bs) := hr
  have HX0 : Hid ((w.alloc (.cells #[.int .i64 0, .int .i64 0, .int .i64 0, .slice none 0 0, .slice none 0 0] 30)).heap[w.heap.size]? = some (.cells #[.int .i64 0, .int .i64 0, .int .i64 0, .slice none 0 0, .slice none 0 0] 30 (0, 0))) := heap_alloc_new w _
  have HB0 : Hid (Below w.heap.size w (w.alloc (.cells #[.int .i64 0, .int .i64 0, .int .i64 0, .slice none 0 0, .slice none 0 0] 30))) := below_alloc w _
  have d9 : (n : Int) < (at_ : Int) + 4 := by omega
  have ha9 : at_ ≤ n := by omega
  clear hm hp HHD HRE hat hta HTD
  clear hr h5 h7 h9 hf hg hN8 hC hS hN hq0 g1 g2 g3 g4 g5 g6 g7
  go_enter Tryd.func7, Tryd.ntmps7
  go_wp2_with (first
    | (go_at_call 27; refine (rgeo_any a n c bs _ (HR.out.below HB0.out) (by omega)).mono ?_; rintro e t1 ⟨res, bl⟩; obtain ⟨_, rfl⟩ := res.resolve_left (fun h => h.1 HG.out); rw [H5.out, H7.out, H9.out]
       have HX1 : Hid ((t1.alloc (.cells #[.int .i64 (b : Int), .int .i64 (p : Int), .int .i64 (s : Int)] 27)).heap[w.heap.size]? = some (.cells #[.int .i64 0, .int .i64 0, .int .i64 0, .slice none 0 0, .slice none 0 0] 30 (0, 0))) := (Below.heap_alloc t1 _ _ (lt_of_bk ((bl.block _ (lt_of_bk HX0.out)).trans HX0.out))).trans ((bl.block _ (lt_of_bk HX0.out)).trans HX0.out)
       have HG1 : Hid ((t1.alloc (.cells #[.int .i64 (b : Int), .int .i64 (p : Int), .int .i64 (s : Int)] 27)).heap[t1.heap.size]? = some (.cells #[.int .i64 (b : Int), .int .i64 (p : Int), .int .i64 (s : Int)] 27 (0, 0))) := heap_alloc_new _ _
       have HB1 : Hid (Below w.heap.size w (t1.alloc (.cells #[.int .i64 (b : Int), .int .i64 (p : Int), .int .i64 (s : Int)] 27))) := below_trans (below_trans HB0.out bl) (below_alloc _ _)
       clear bl
       obtain ⟨z0, z1, z2, z3, z4, z5⟩ := blk3_cells HG1.out
       clear z3 z4 z5)
    | (go_at_call 28; refine (rmarks_long a n c bs b p s _ (HR.out.below HB1.out) (by omega) hb2 N8 HN8.out (by have := HQ0.out; omega)).mono ?_; rintro e t2 ⟨res, bl⟩; obtain ⟨_, v2, rfl, own2⟩ := res.resolve_right (fun h => h.1 HMB.out); rw [HF0.out]
       have HX2 : Hid (t2.heap[w.heap.size]? = some (.cells #[.int .i64 0, .int .i64 0, .int .i64 0, .slice none 0 0, .slice none 0 0] 30 (0, 0))) := (bl.block _ (lt_of_bk HX1.out)).trans HX1.out
       have HG2 : Hid (t2.heap[t1.heap.size]? = some (.cells #[.int .i64 (b : Int), .int .i64 (p : Int), .int .i64 (s : Int)] 27 (0, 0))) := (bl.block _ (lt_of_bk HG1.out)).trans HG1.out
       have HB2 : Hid (Below w.heap.size w t2) := below_trans HB1.out bl
       have HO2 : Hid (t2.ownsRow (w.heap.size + 1) 4 1 v2 b ((unbits b ((bs.drop 10).take N8)).map Value.bool)) := ownsRow_base own2 (lt_of_bk HX1.out)
       clear bl z0 z1 z2 own2
       obtain ⟨z0, z1, z2, z3, z4, z5⟩ := blk3_cells HG2.out
       clear z3 z4 z5)
    | (go_at_call 29; refine (rpieces_any a n c bs q0 b p s _ (HR.out.below HB2.out) (by omega) hs (by omega) HF.out C S N HC.out HS.out HN.out).mono ?_; rintro e t3 ⟨res, bl⟩; rw [HPS.out] at res; obtain ⟨v3, rfl, htl3, own3⟩ := res; rw [HTA.out]
       have HX3 : Hid (t3.heap[w.heap.size]? = some (.cells #[.int .i64 0, .int .i64 0, .int .i64 0, .slice none 0 0, .slice none 0 0] 30 (0, 0))) := (bl.block _ (lt_of_bk HX2.out)).trans HX2.out
       have HG3 : Hid (t3.heap[t1.heap.size]? = some (.cells #[.int .i64 (b : Int), .int .i64 (p : Int), .int .i64 (s : Int)] 27 (0, 0))) := (bl.block _ (lt_of_bk HG2.out)).trans HG2.out
       have HB3 : Hid (Below w.heap.size w t3) := below_trans HB2.out bl
       have HO3 : Hid (t3.ownsRow (w.heap.size + 1) 5 1 v3 ((pgs ps).flatten).length (((pgs ps).flatten).map (Value.int .u8))) := ownsRow_base own3 (lt_of_bk HX2.out)
       have HM3 : Hid (t3.ownsRow (w.heap.size + 1) 4 1 v2 b ((unbits b ((bs.drop 10).take N8)).map Value.bool)) := row_below HO2.out bl
       clear bl z0 z1 z2 own3 htl3
       obtain ⟨r0, r1, r2, r3, r4⟩ := cells5 HX3.out
       have rf := frozen5 HX3.out
       have rf0 := rf 0
       have rf1 := rf 1
       have rf2 := rf 2
       have rf3 := rf 3
       have rf4 := rf 4
       clear rf))
  exact bodyPost_ret (v := .tuple #[.agg #[.int .i64 0, .int .i64 0, .int .i64 0, .slice none 0 0, .slice none 0 0], .int .i64 10]) (by obtain ⟨y0, y1, y2, y3, y4⟩ := cells5 (blk5_set HX3.out (.int .i64 0) (.int .i64 0) (.int .i64 0) (.slice none 0 0) (.slice none 0 0)); simp [results, Tryd.results7, go_sem, y0, y1, y2, y3, y4]) rfl ⟨by rw [HRD.out]; exact ⟨rfl, by decide⟩, below_grown HB3.out (grown5 _ _ _ _ _ _ _) (Nat.le_refl _)⟩
set_option maxHeartbeats 4000000 in
set_option maxRecDepth 100000 in
theorem rread_sum (a : Option Addr) (n c : Nat) (bs : List Int) (w : World) (hr : Reads w a n bs) (hn : n ≤ 140737488351300) (b p s N8 q0 N C S : Nat) (h5 : bs.getD 5 0 + 256 * bs.getD 6 0 = (b : Int)) (h7 : bs.getD 7 0 + 256 * bs.getD 8 0 = (p : Int)) (h9 : bs.getD 9 0 = (s : Int)) (hf : Fits (b : Int) (p : Int) (s : Int) = true) (hl : 10 ≤ n) (hg : geoE bs = 0) (hN8 : (b + 7) / 8 = N8) (hq0 : 10 + N8 = q0) (hC : 256 * s = C) (hS : 54 + 3 * s = S) (hN : b * p = N) (hs : q0 ≤ n) (hm : bitsOf (unbits b ((bs.drop 10).take N8)) = (bs.drop 10).take N8) (ps : List Pc) (t : List Int) (at_ : Nat) (hp : rdPs C S N N Pc.z (bs.drop q0) = .ok (ps, t)) (hat : n - t.length = at_) (he : at_ + 4 ≤ n) (hv : val4 t ≠ ((sumL (nats (bs.take at_)) : Nat) : Int)) :
    Calls Tryd.prog 7 #[.slice a n c] w fun e w' => RrRes w w' e (readR bs) ∧ Below w.heap.size w w' := by
  obtain ⟨g1, g2, g3, g4, g5, g6, g7⟩ := fits_nat hf
  have HG : Hid (geoE bs = 0) := hg
  have H5 : Hid (bs.getD 5 0 + 256 * bs.getD 6 0 = (b : Int)) := h5
  have H7 : Hid (bs.getD 7 0 + 256 * bs.getD 8 0 = (p : Int)) := h7
  have H9 : Hid (bs.getD 9 0 = (s : Int)) := h9
  have HF : Hid (Fits (b : Int) (p : Int) (s : Int) = true) := hf
  have HN8 : Hid ((b + 7) / 8 = N8) := hN8
  have HC : Hid (256 * s = C) := hC
  have HS : Hid (54 + 3 * s = S) := hS
  have HN : Hid (b * p = N) := hN
  have HQ0 : Hid (10 + N8 = q0) := hq0
  have hb2 : 8 ≤ b ∧ b ≤ 4096 := ⟨g1, g2⟩
  have f0 : 10 + (N8 : Int) = (q0 : Int) := by omega
  have HF0 : Hid (10 + (N8 : Int) = (q0 : Int)) := f0
  clear f0
  have HHD : Hid (rdHead bs = .ok (b, p, s, unbits b ((bs.drop 10).take N8), bs.drop q0)) := by
    obtain ⟨b', p', s', e1, e2, e3, _, _, e6⟩ := head_geo hr.2.1 hg
    rw [h5] at e1
    rw [h7] at e2
    rw [h9] at e3
    have e1' : b' = b := by omega
    have e2' : p' = p := by omega
    have e3' : s' = s := by omega
    subst e1' e2' e3'
    unfold Hid
    rw [e6, hN8, if_neg (by have := hr.1; omega), if_neg (fun h => h hm), hq0]
  have HMB : Hid (bitsOf (unbits b ((bs.drop 10).take N8)) = (bs.drop 10).take N8) := hm
  have HPS : Hid (rdPs C S N N Pc.z (bs.drop q0) = .ok (ps, t)) := hp
  have hlen := hr.1
  have HTD : Hid (t = bs.drop at_) := by
    have h8 := suffix_drop (bs := bs) (q := q0) rfl (rdPs_sound (fun x hx => hr.2.1 x (List.mem_of_mem_drop hx)) hp).1
    rw [hlen, hat] at h8
    exact h8
  have hta : at_ + t.length = n := by
    have h8 := HTD.out
    have h7 := congrArg List.length h8
    rw [List.length_drop, hlen] at h7
    omega
  have HTA : Hid (n - t.length = at_) := hat
  have HRE : Hid (readR bs = if rdEnd bs t ≠ 0 then .error (rdEnd bs t) else .ok ⟨b, p, s, (pgs ps).flatten, unbits b ((bs.drop 10).take N8)⟩) := by
    unfold Hid readR
    rw [HHD.out]
    simp only [hC, hS, hN, hp]
  have d9 : ¬ (n : Int) < (at_ : Int) + 4 := by omega
  obtain ⟨a4, ha4⟩ : ∃ a4, at_ + 4 = a4 := ⟨_, rfl⟩
  have f4 : (at_ : Int) + 4 = (a4 : Int) := by omega
  have HA4 : Hid (at_ + 4 = a4) := ha4
  have ha9 : at_ ≤ n := by omega
  have ha5 : a4 ≤ n := by omega
  have d9 : ¬ (n : Int) < (a4 : Int) := by omega
  have HLA : Hid ((bs.take at_).length = at_) := by unfold Hid; rw [List.length_take, hlen]; omega
  have HLB : Hid ((bs.take a4).length = a4) := by unfold Hid; rw [List.length_take, hlen]; omega
  have HYA : Hid (∀ x ∈ bs.take at_, 0 ≤ x ∧ x ≤ 255) := fun x hx => hr.2.1 x (List.mem_of_mem_take hx)
  have HYB : Hid (∀ x ∈ bs.take a4, 0 ≤ x ∧ x ≤ 255) := fun x hx => hr.2.1 x (List.mem_of_mem_take hx)
  have HSE := seal_eq (bs := bs) (t := t) (at_ := at_) hr.2.1 (by omega) HTD.out
  rw [ha4] at HSE
  have HSE : Hid _ := HSE
  have HED : Hid (rdEnd bs t = if val4 t ≠ ((sumL (nats (bs.take at_)) : Nat) : Int) then 192 else if a4 < n then 212 else 0) := by
    unfold Hid rdEnd
    rw [if_neg (by omega), hlen, hat]
    by_cases h8 : val4 t ≠ ((sumL (nats (bs.take at_)) : Nat) : Int)
    · rw [if_pos h8, if_pos h8]
    · rw [if_neg h8, if_neg h8]
      by_cases h7 : a4 < n
      · rw [if_pos (show 4 < t.length by omega), if_pos h7]
      · rw [if_neg (show ¬ 4 < t.length by omega), if_neg h7]
  have HRD : Hid (readR bs = .error 192) := by
    have h8 : rdEnd bs t = 192 := by rw [HED.out, if_pos hv]
    unfold Hid
    rw [HRE.out, h8, if_pos (by decide)]
  have HR : Hid (Reads w a n bs) := hr
  have HX0 : Hid ((w.alloc (.cells #[.int .i64 0, .int .i64 0, .int .i64 0, .slice none 0 0, .slice none 0 0] 30)).heap[w.heap.size]? = some (.cells #[.int .i64 0, .int .i64 0, .int .i64 0, .slice none 0 0, .slice none 0 0] 30 (0, 0))) := heap_alloc_new w _
  have HB0 : Hid (Below w.heap.size w (w.alloc (.cells #[.int .i64 0, .int .i64 0, .int .i64 0, .slice none 0 0, .slice none 0 0] 30))) := below_alloc w _
  have HSM : Hid (decide (sealL (bs.take at_) = bs.take a4) = false) := decide_eq_false (fun h => hv (HSE.out.1 h))
  clear hm hp HHD HRE hat hta HTD HSE HED hlen ha4 hv
  clear hr h5 h7 h9 hf hg hN8 hC hS hN hq0 g1 g2 g3 g4 g5 g6 g7
  go_enter Tryd.func7, Tryd.ntmps7
  go_wp2_with (first
    | (go_at_call 27; refine (rgeo_any a n c bs _ (HR.out.below HB0.out) (by omega)).mono ?_; rintro e t1 ⟨res, bl⟩; obtain ⟨_, rfl⟩ := res.resolve_left (fun h => h.1 HG.out); rw [H5.out, H7.out, H9.out]
       have HX1 : Hid ((t1.alloc (.cells #[.int .i64 (b : Int), .int .i64 (p : Int), .int .i64 (s : Int)] 27)).heap[w.heap.size]? = some (.cells #[.int .i64 0, .int .i64 0, .int .i64 0, .slice none 0 0, .slice none 0 0] 30 (0, 0))) := (Below.heap_alloc t1 _ _ (lt_of_bk ((bl.block _ (lt_of_bk HX0.out)).trans HX0.out))).trans ((bl.block _ (lt_of_bk HX0.out)).trans HX0.out)
       have HG1 : Hid ((t1.alloc (.cells #[.int .i64 (b : Int), .int .i64 (p : Int), .int .i64 (s : Int)] 27)).heap[t1.heap.size]? = some (.cells #[.int .i64 (b : Int), .int .i64 (p : Int), .int .i64 (s : Int)] 27 (0, 0))) := heap_alloc_new _ _
       have HB1 : Hid (Below w.heap.size w (t1.alloc (.cells #[.int .i64 (b : Int), .int .i64 (p : Int), .int .i64 (s : Int)] 27))) := below_trans (below_trans HB0.out bl) (below_alloc _ _)
       clear bl
       obtain ⟨z0, z1, z2, z3, z4, z5⟩ := blk3_cells HG1.out
       clear z3 z4 z5)
    | (go_at_call 28; refine (rmarks_long a n c bs b p s _ (HR.out.below HB1.out) (by omega) hb2 N8 HN8.out (by have := HQ0.out; omega)).mono ?_; rintro e t2 ⟨res, bl⟩; obtain ⟨_, v2, rfl, own2⟩ := res.resolve_right (fun h => h.1 HMB.out); rw [HF0.out]
       have HX2 : Hid (t2.heap[w.heap.size]? = some (.cells #[.int .i64 0, .int .i64 0, .int .i64 0, .slice none 0 0, .slice none 0 0] 30 (0, 0))) := (bl.block _ (lt_of_bk HX1.out)).trans HX1.out
       have HG2 : Hid (t2.heap[t1.heap.size]? = some (.cells #[.int .i64 (b : Int), .int .i64 (p : Int), .int .i64 (s : Int)] 27 (0, 0))) := (bl.block _ (lt_of_bk HG1.out)).trans HG1.out
       have HB2 : Hid (Below w.heap.size w t2) := below_trans HB1.out bl
       have HO2 : Hid (t2.ownsRow (w.heap.size + 1) 4 1 v2 b ((unbits b ((bs.drop 10).take N8)).map Value.bool)) := ownsRow_base own2 (lt_of_bk HX1.out)
       clear bl z0 z1 z2 own2
       obtain ⟨z0, z1, z2, z3, z4, z5⟩ := blk3_cells HG2.out
       clear z3 z4 z5)
    | (go_at_call 29; refine (rpieces_any a n c bs q0 b p s _ (HR.out.below HB2.out) (by omega) hs (by omega) HF.out C S N HC.out HS.out HN.out).mono ?_; rintro e t3 ⟨res, bl⟩; rw [HPS.out] at res; obtain ⟨v3, rfl, htl3, own3⟩ := res; rw [HTA.out]
       have HX3 : Hid (t3.heap[w.heap.size]? = some (.cells #[.int .i64 0, .int .i64 0, .int .i64 0, .slice none 0 0, .slice none 0 0] 30 (0, 0))) := (bl.block _ (lt_of_bk HX2.out)).trans HX2.out
       have HG3 : Hid (t3.heap[t1.heap.size]? = some (.cells #[.int .i64 (b : Int), .int .i64 (p : Int), .int .i64 (s : Int)] 27 (0, 0))) := (bl.block _ (lt_of_bk HG2.out)).trans HG2.out
       have HB3 : Hid (Below w.heap.size w t3) := below_trans HB2.out bl
       have HO3 : Hid (t3.ownsRow (w.heap.size + 1) 5 1 v3 ((pgs ps).flatten).length (((pgs ps).flatten).map (Value.int .u8))) := ownsRow_base own3 (lt_of_bk HX2.out)
       have HM3 : Hid (t3.ownsRow (w.heap.size + 1) 4 1 v2 b ((unbits b ((bs.drop 10).take N8)).map Value.bool)) := row_below HO2.out bl
       clear bl z0 z1 z2 own3 htl3)
    | (go_at_call 26; have zz := T2; clear T2 zz T1; refine (part_any a n c 0 a4 bs _ (by omega) (by omega) (by omega) (HR.out.below HB5.out)).mono ?_; rintro e t6 ⟨v6, rfl, own6, bl⟩; rw [Nat.sub_zero, List.drop_zero] at own6; obtain ⟨a6x, c6x, rfl, rd6⟩ := own_any own6 HYB.out
       have HX6 : Hid (t6.heap[w.heap.size]? = some (.cells #[.int .i64 0, .int .i64 0, .int .i64 0, .slice none 0 0, .slice none 0 0] 30 (0, 0))) := (bl.block _ (lt_of_bk HX5.out)).trans HX5.out
       have HG6 : Hid (t6.heap[t1.heap.size]? = some (.cells #[.int .i64 (b : Int), .int .i64 (p : Int), .int .i64 (s : Int)] 27 (0, 0))) := (bl.block _ (lt_of_bk HG5.out)).trans HG5.out
       have HB6 : Hid (Below w.heap.size w t6) := below_trans HB5.out bl
       have HO6 : Hid (t6.ownsRow (w.heap.size + 1) 5 1 v3 ((pgs ps).flatten).length (((pgs ps).flatten).map (Value.int .u8))) := row_below HO5.out bl
       have HM6 : Hid (t6.ownsRow (w.heap.size + 1) 4 1 v2 b ((unbits b ((bs.drop 10).take N8)).map Value.bool)) := row_below HM5.out bl
       have HR6 : Hid (Reads t6 a6x a4 (bs.take a4)) := rd6
       have HR7 : Hid (Reads t6 (some ⟨g5, 0, none⟩) a4 (sealL (bs.take at_))) := HR5.out.below bl
       clear bl own6 rd6)
    | (go_at_call 26; refine (part_any a n c 0 at_ bs _ (by omega) (by omega) (by omega) (HR.out.below HB3.out)).mono ?_; rintro e t4 ⟨v4, rfl, own4, bl⟩; rw [Nat.sub_zero, List.drop_zero] at own4; obtain ⟨a4x, c4x, rfl, rd4⟩ := own_any own4 HYA.out
       have HX4 : Hid (t4.heap[w.heap.size]? = some (.cells #[.int .i64 0, .int .i64 0, .int .i64 0, .slice none 0 0, .slice none 0 0] 30 (0, 0))) := (bl.block _ (lt_of_bk HX3.out)).trans HX3.out
       have HG4 : Hid (t4.heap[t1.heap.size]? = some (.cells #[.int .i64 (b : Int), .int .i64 (p : Int), .int .i64 (s : Int)] 27 (0, 0))) := (bl.block _ (lt_of_bk HG3.out)).trans HG3.out
       have HB4 : Hid (Below w.heap.size w t4) := below_trans HB3.out bl
       have HO4 : Hid (t4.ownsRow (w.heap.size + 1) 5 1 v3 ((pgs ps).flatten).length (((pgs ps).flatten).map (Value.int .u8))) := row_below HO3.out bl
       have HM4 : Hid (t4.ownsRow (w.heap.size + 1) 4 1 v2 b ((unbits b ((bs.drop 10).take N8)).map Value.bool)) := row_below HM3.out bl
       have HR4 : Hid (Reads t4 a4x at_ (bs.take at_)) := rd4
       clear bl own4 rd4
       have T1 : Hid True := trivial)
    | (go_at_call 6; refine (rsealed_any a4x at_ c4x (bs.take at_) _ HR4.out (by omega)).mono ?_; rintro e t5 ⟨g5, c5, rfl, own5, bl⟩
       have HX5 : Hid (t5.heap[w.heap.size]? = some (.cells #[.int .i64 0, .int .i64 0, .int .i64 0, .slice none 0 0, .slice none 0 0] 30 (0, 0))) := (bl.block _ (lt_of_bk HX4.out)).trans HX4.out
       have HG5 : Hid (t5.heap[t1.heap.size]? = some (.cells #[.int .i64 (b : Int), .int .i64 (p : Int), .int .i64 (s : Int)] 27 (0, 0))) := (bl.block _ (lt_of_bk HG4.out)).trans HG4.out
       have HB5 : Hid (Below w.heap.size w t5) := below_trans HB4.out bl
       have HO5 : Hid (t5.ownsRow (w.heap.size + 1) 5 1 v3 ((pgs ps).flatten).length (((pgs ps).flatten).map (Value.int .u8))) := row_below HO4.out bl
       have HM5 : Hid (t5.ownsRow (w.heap.size + 1) 4 1 v2 b ((unbits b ((bs.drop 10).take N8)).map Value.bool)) := row_below HM4.out bl
       have HR5 : Hid (Reads t5 (some ⟨g5, 0, none⟩) a4 (sealL (bs.take at_))) := by
         have h8 := own5.reads (seal_byt HYA.out) (at_ + 4) (Nat.le_refl _)
         rw [List.take_of_length_le (by rw [seal_len, HLA.out]; omega), HA4.out] at h8
         exact h8
       rw [HA4.out]
       clear bl own5
       have T2 : Hid True := trivial)
    | (go_at_call 30; refine (rsame_any (some ⟨g5, 0, none⟩) a6x a4 _ c6x (sealL (bs.take at_)) (bs.take a4) _ (by omega) HR7.out HR6.out).mono ?_; rintro e t7 ⟨rfl, qq, ht7⟩; rw [HSM.out]
       have bl : Below t6.heap.size t6 t7 := by rw [ht7]; exact drewN_below _ _
       clear ht7
       have HX7 : Hid (t7.heap[w.heap.size]? = some (.cells #[.int .i64 0, .int .i64 0, .int .i64 0, .slice none 0 0, .slice none 0 0] 30 (0, 0))) := (bl.block _ (lt_of_bk HX6.out)).trans HX6.out
       have HG7 : Hid (t7.heap[t1.heap.size]? = some (.cells #[.int .i64 (b : Int), .int .i64 (p : Int), .int .i64 (s : Int)] 27 (0, 0))) := (bl.block _ (lt_of_bk HG6.out)).trans HG6.out
       have HB7 : Hid (Below w.heap.size w t7) := below_trans HB6.out bl
       have HO7 : Hid (t7.ownsRow (w.heap.size + 1) 5 1 v3 ((pgs ps).flatten).length (((pgs ps).flatten).map (Value.int .u8))) := row_below HO6.out bl
       have HM7 : Hid (t7.ownsRow (w.heap.size + 1) 4 1 v2 b ((unbits b ((bs.drop 10).take N8)).map Value.bool)) := row_below HM6.out bl
       clear bl
       obtain ⟨r0, r1, r2, r3, r4⟩ := cells5 HX7.out
       have rf := frozen5 HX7.out
       have rf0 := rf 0
       have rf1 := rf 1
       have rf2 := rf 2
       have rf3 := rf 3
       have rf4 := rf 4
       clear rf))
  exact bodyPost_ret (v := .tuple #[.agg #[.int .i64 0, .int .i64 0, .int .i64 0, .slice none 0 0, .slice none 0 0], .int .i64 192]) (by obtain ⟨y0, y1, y2, y3, y4⟩ := cells5 (blk5_set HX7.out (.int .i64 0) (.int .i64 0) (.int .i64 0) (.slice none 0 0) (.slice none 0 0)); simp [results, Tryd.results7, go_sem, y0, y1, y2, y3, y4]) rfl ⟨by rw [HRD.out]; exact ⟨rfl, by decide⟩, below_grown HB7.out (grown5 _ _ _ _ _ _ _) (Nat.le_refl _)⟩
set_option maxHeartbeats 4000000 in
set_option maxRecDepth 100000 in
theorem rread_tail (a : Option Addr) (n c : Nat) (bs : List Int) (w : World) (hr : Reads w a n bs) (hn : n ≤ 140737488351300) (b p s N8 q0 N C S : Nat) (h5 : bs.getD 5 0 + 256 * bs.getD 6 0 = (b : Int)) (h7 : bs.getD 7 0 + 256 * bs.getD 8 0 = (p : Int)) (h9 : bs.getD 9 0 = (s : Int)) (hf : Fits (b : Int) (p : Int) (s : Int) = true) (hl : 10 ≤ n) (hg : geoE bs = 0) (hN8 : (b + 7) / 8 = N8) (hq0 : 10 + N8 = q0) (hC : 256 * s = C) (hS : 54 + 3 * s = S) (hN : b * p = N) (hs : q0 ≤ n) (hm : bitsOf (unbits b ((bs.drop 10).take N8)) = (bs.drop 10).take N8) (ps : List Pc) (t : List Int) (at_ : Nat) (hp : rdPs C S N N Pc.z (bs.drop q0) = .ok (ps, t)) (hat : n - t.length = at_) (he : at_ + 4 ≤ n) (hv : val4 t = ((sumL (nats (bs.take at_)) : Nat) : Int)) (hv2 : at_ + 4 < n) :
    Calls Tryd.prog 7 #[.slice a n c] w fun e w' => RrRes w w' e (readR bs) ∧ Below w.heap.size w w' := by
  obtain ⟨g1, g2, g3, g4, g5, g6, g7⟩ := fits_nat hf
  have HG : Hid (geoE bs = 0) := hg
  have H5 : Hid (bs.getD 5 0 + 256 * bs.getD 6 0 = (b : Int)) := h5
  have H7 : Hid (bs.getD 7 0 + 256 * bs.getD 8 0 = (p : Int)) := h7
  have H9 : Hid (bs.getD 9 0 = (s : Int)) := h9
  have HF : Hid (Fits (b : Int) (p : Int) (s : Int) = true) := hf
  have HN8 : Hid ((b + 7) / 8 = N8) := hN8
  have HC : Hid (256 * s = C) := hC
  have HS : Hid (54 + 3 * s = S) := hS
  have HN : Hid (b * p = N) := hN
  have HQ0 : Hid (10 + N8 = q0) := hq0
  have hb2 : 8 ≤ b ∧ b ≤ 4096 := ⟨g1, g2⟩
  have f0 : 10 + (N8 : Int) = (q0 : Int) := by omega
  have HF0 : Hid (10 + (N8 : Int) = (q0 : Int)) := f0
  clear f0
  have HHD : Hid (rdHead bs = .ok (b, p, s, unbits b ((bs.drop 10).take N8), bs.drop q0)) := by
    obtain ⟨b', p', s', e1, e2, e3, _, _, e6⟩ := head_geo hr.2.1 hg
    rw [h5] at e1
    rw [h7] at e2
    rw [h9] at e3
    have e1' : b' = b := by omega
    have e2' : p' = p := by omega
    have e3' : s' = s := by omega
    subst e1' e2' e3'
    unfold Hid
    rw [e6, hN8, if_neg (by have := hr.1; omega), if_neg (fun h => h hm), hq0]
  have HMB : Hid (bitsOf (unbits b ((bs.drop 10).take N8)) = (bs.drop 10).take N8) := hm
  have HPS : Hid (rdPs C S N N Pc.z (bs.drop q0) = .ok (ps, t)) := hp
  have hlen := hr.1
  have HTD : Hid (t = bs.drop at_) := by
    have h8 := suffix_drop (bs := bs) (q := q0) rfl (rdPs_sound (fun x hx => hr.2.1 x (List.mem_of_mem_drop hx)) hp).1
    rw [hlen, hat] at h8
    exact h8
  have hta : at_ + t.length = n := by
    have h8 := HTD.out
    have h7 := congrArg List.length h8
    rw [List.length_drop, hlen] at h7
    omega
  have HTA : Hid (n - t.length = at_) := hat
  have HRE : Hid (readR bs = if rdEnd bs t ≠ 0 then .error (rdEnd bs t) else .ok ⟨b, p, s, (pgs ps).flatten, unbits b ((bs.drop 10).take N8)⟩) := by
    unfold Hid readR
    rw [HHD.out]
    simp only [hC, hS, hN, hp]
  have d9 : ¬ (n : Int) < (at_ : Int) + 4 := by omega
  obtain ⟨a4, ha4⟩ : ∃ a4, at_ + 4 = a4 := ⟨_, rfl⟩
  have f4 : (at_ : Int) + 4 = (a4 : Int) := by omega
  have HA4 : Hid (at_ + 4 = a4) := ha4
  have ha9 : at_ ≤ n := by omega
  have ha5 : a4 ≤ n := by omega
  have d9 : ¬ (n : Int) < (a4 : Int) := by omega
  have HLA : Hid ((bs.take at_).length = at_) := by unfold Hid; rw [List.length_take, hlen]; omega
  have HLB : Hid ((bs.take a4).length = a4) := by unfold Hid; rw [List.length_take, hlen]; omega
  have HYA : Hid (∀ x ∈ bs.take at_, 0 ≤ x ∧ x ≤ 255) := fun x hx => hr.2.1 x (List.mem_of_mem_take hx)
  have HYB : Hid (∀ x ∈ bs.take a4, 0 ≤ x ∧ x ≤ 255) := fun x hx => hr.2.1 x (List.mem_of_mem_take hx)
  have HSE := seal_eq (bs := bs) (t := t) (at_ := at_) hr.2.1 (by omega) HTD.out
  rw [ha4] at HSE
  have HSE : Hid _ := HSE
  have HED : Hid (rdEnd bs t = if val4 t ≠ ((sumL (nats (bs.take at_)) : Nat) : Int) then 192 else if a4 < n then 212 else 0) := by
    unfold Hid rdEnd
    rw [if_neg (by omega), hlen, hat]
    by_cases h8 : val4 t ≠ ((sumL (nats (bs.take at_)) : Nat) : Int)
    · rw [if_pos h8, if_pos h8]
    · rw [if_neg h8, if_neg h8]
      by_cases h7 : a4 < n
      · rw [if_pos (show 4 < t.length by omega), if_pos h7]
      · rw [if_neg (show ¬ 4 < t.length by omega), if_neg h7]
  have HRD : Hid (readR bs = .error 212) := by
    have h8 : rdEnd bs t = 212 := by rw [HED.out, if_neg (fun h => h hv), if_pos (by omega)]
    unfold Hid
    rw [HRE.out, h8, if_pos (by decide)]
  have d8 : (a4 : Int) < (n : Int) := by omega
  have HR : Hid (Reads w a n bs) := hr
  have HX0 : Hid ((w.alloc (.cells #[.int .i64 0, .int .i64 0, .int .i64 0, .slice none 0 0, .slice none 0 0] 30)).heap[w.heap.size]? = some (.cells #[.int .i64 0, .int .i64 0, .int .i64 0, .slice none 0 0, .slice none 0 0] 30 (0, 0))) := heap_alloc_new w _
  have HB0 : Hid (Below w.heap.size w (w.alloc (.cells #[.int .i64 0, .int .i64 0, .int .i64 0, .slice none 0 0, .slice none 0 0] 30))) := below_alloc w _
  have HSM : Hid (decide (sealL (bs.take at_) = bs.take a4) = true) := decide_eq_true (HSE.out.2 hv)
  clear hm hp HHD HRE hat hta HTD HSE HED hlen ha4 hv
  clear hr h5 h7 h9 hf hg hN8 hC hS hN hq0 g1 g2 g3 g4 g5 g6 g7
  go_enter Tryd.func7, Tryd.ntmps7
  go_wp2_with (first
    | (go_at_call 27; refine (rgeo_any a n c bs _ (HR.out.below HB0.out) (by omega)).mono ?_; rintro e t1 ⟨res, bl⟩; obtain ⟨_, rfl⟩ := res.resolve_left (fun h => h.1 HG.out); rw [H5.out, H7.out, H9.out]
       have HX1 : Hid ((t1.alloc (.cells #[.int .i64 (b : Int), .int .i64 (p : Int), .int .i64 (s : Int)] 27)).heap[w.heap.size]? = some (.cells #[.int .i64 0, .int .i64 0, .int .i64 0, .slice none 0 0, .slice none 0 0] 30 (0, 0))) := (Below.heap_alloc t1 _ _ (lt_of_bk ((bl.block _ (lt_of_bk HX0.out)).trans HX0.out))).trans ((bl.block _ (lt_of_bk HX0.out)).trans HX0.out)
       have HG1 : Hid ((t1.alloc (.cells #[.int .i64 (b : Int), .int .i64 (p : Int), .int .i64 (s : Int)] 27)).heap[t1.heap.size]? = some (.cells #[.int .i64 (b : Int), .int .i64 (p : Int), .int .i64 (s : Int)] 27 (0, 0))) := heap_alloc_new _ _
       have HB1 : Hid (Below w.heap.size w (t1.alloc (.cells #[.int .i64 (b : Int), .int .i64 (p : Int), .int .i64 (s : Int)] 27))) := below_trans (below_trans HB0.out bl) (below_alloc _ _)
       clear bl
       obtain ⟨z0, z1, z2, z3, z4, z5⟩ := blk3_cells HG1.out
       clear z3 z4 z5)
    | (go_at_call 28; refine (rmarks_long a n c bs b p s _ (HR.out.below HB1.out) (by omega) hb2 N8 HN8.out (by have := HQ0.out; omega)).mono ?_; rintro e t2 ⟨res, bl⟩; obtain ⟨_, v2, rfl, own2⟩ := res.resolve_right (fun h => h.1 HMB.out); rw [HF0.out]
       have HX2 : Hid (t2.heap[w.heap.size]? = some (.cells #[.int .i64 0, .int .i64 0, .int .i64 0, .slice none 0 0, .slice none 0 0] 30 (0, 0))) := (bl.block _ (lt_of_bk HX1.out)).trans HX1.out
       have HG2 : Hid (t2.heap[t1.heap.size]? = some (.cells #[.int .i64 (b : Int), .int .i64 (p : Int), .int .i64 (s : Int)] 27 (0, 0))) := (bl.block _ (lt_of_bk HG1.out)).trans HG1.out
       have HB2 : Hid (Below w.heap.size w t2) := below_trans HB1.out bl
       have HO2 : Hid (t2.ownsRow (w.heap.size + 1) 4 1 v2 b ((unbits b ((bs.drop 10).take N8)).map Value.bool)) := ownsRow_base own2 (lt_of_bk HX1.out)
       clear bl z0 z1 z2 own2
       obtain ⟨z0, z1, z2, z3, z4, z5⟩ := blk3_cells HG2.out
       clear z3 z4 z5)
    | (go_at_call 29; refine (rpieces_any a n c bs q0 b p s _ (HR.out.below HB2.out) (by omega) hs (by omega) HF.out C S N HC.out HS.out HN.out).mono ?_; rintro e t3 ⟨res, bl⟩; rw [HPS.out] at res; obtain ⟨v3, rfl, htl3, own3⟩ := res; rw [HTA.out]
       have HX3 : Hid (t3.heap[w.heap.size]? = some (.cells #[.int .i64 0, .int .i64 0, .int .i64 0, .slice none 0 0, .slice none 0 0] 30 (0, 0))) := (bl.block _ (lt_of_bk HX2.out)).trans HX2.out
       have HG3 : Hid (t3.heap[t1.heap.size]? = some (.cells #[.int .i64 (b : Int), .int .i64 (p : Int), .int .i64 (s : Int)] 27 (0, 0))) := (bl.block _ (lt_of_bk HG2.out)).trans HG2.out
       have HB3 : Hid (Below w.heap.size w t3) := below_trans HB2.out bl
       have HO3 : Hid (t3.ownsRow (w.heap.size + 1) 5 1 v3 ((pgs ps).flatten).length (((pgs ps).flatten).map (Value.int .u8))) := ownsRow_base own3 (lt_of_bk HX2.out)
       have HM3 : Hid (t3.ownsRow (w.heap.size + 1) 4 1 v2 b ((unbits b ((bs.drop 10).take N8)).map Value.bool)) := row_below HO2.out bl
       clear bl z0 z1 z2 own3 htl3)
    | (go_at_call 26; have zz := T2; clear T2 zz T1; refine (part_any a n c 0 a4 bs _ (by omega) (by omega) (by omega) (HR.out.below HB5.out)).mono ?_; rintro e t6 ⟨v6, rfl, own6, bl⟩; rw [Nat.sub_zero, List.drop_zero] at own6; obtain ⟨a6x, c6x, rfl, rd6⟩ := own_any own6 HYB.out
       have HX6 : Hid (t6.heap[w.heap.size]? = some (.cells #[.int .i64 0, .int .i64 0, .int .i64 0, .slice none 0 0, .slice none 0 0] 30 (0, 0))) := (bl.block _ (lt_of_bk HX5.out)).trans HX5.out
       have HG6 : Hid (t6.heap[t1.heap.size]? = some (.cells #[.int .i64 (b : Int), .int .i64 (p : Int), .int .i64 (s : Int)] 27 (0, 0))) := (bl.block _ (lt_of_bk HG5.out)).trans HG5.out
       have HB6 : Hid (Below w.heap.size w t6) := below_trans HB5.out bl
       have HO6 : Hid (t6.ownsRow (w.heap.size + 1) 5 1 v3 ((pgs ps).flatten).length (((pgs ps).flatten).map (Value.int .u8))) := row_below HO5.out bl
       have HM6 : Hid (t6.ownsRow (w.heap.size + 1) 4 1 v2 b ((unbits b ((bs.drop 10).take N8)).map Value.bool)) := row_below HM5.out bl
       have HR6 : Hid (Reads t6 a6x a4 (bs.take a4)) := rd6
       have HR7 : Hid (Reads t6 (some ⟨g5, 0, none⟩) a4 (sealL (bs.take at_))) := HR5.out.below bl
       clear bl own6 rd6)
    | (go_at_call 26; refine (part_any a n c 0 at_ bs _ (by omega) (by omega) (by omega) (HR.out.below HB3.out)).mono ?_; rintro e t4 ⟨v4, rfl, own4, bl⟩; rw [Nat.sub_zero, List.drop_zero] at own4; obtain ⟨a4x, c4x, rfl, rd4⟩ := own_any own4 HYA.out
       have HX4 : Hid (t4.heap[w.heap.size]? = some (.cells #[.int .i64 0, .int .i64 0, .int .i64 0, .slice none 0 0, .slice none 0 0] 30 (0, 0))) := (bl.block _ (lt_of_bk HX3.out)).trans HX3.out
       have HG4 : Hid (t4.heap[t1.heap.size]? = some (.cells #[.int .i64 (b : Int), .int .i64 (p : Int), .int .i64 (s : Int)] 27 (0, 0))) := (bl.block _ (lt_of_bk HG3.out)).trans HG3.out
       have HB4 : Hid (Below w.heap.size w t4) := below_trans HB3.out bl
       have HO4 : Hid (t4.ownsRow (w.heap.size + 1) 5 1 v3 ((pgs ps).flatten).length (((pgs ps).flatten).map (Value.int .u8))) := row_below HO3.out bl
       have HM4 : Hid (t4.ownsRow (w.heap.size + 1) 4 1 v2 b ((unbits b ((bs.drop 10).take N8)).map Value.bool)) := row_below HM3.out bl
       have HR4 : Hid (Reads t4 a4x at_ (bs.take at_)) := rd4
       clear bl own4 rd4
       have T1 : Hid True := trivial)
    | (go_at_call 6; refine (rsealed_any a4x at_ c4x (bs.take at_) _ HR4.out (by omega)).mono ?_; rintro e t5 ⟨g5, c5, rfl, own5, bl⟩
       have HX5 : Hid (t5.heap[w.heap.size]? = some (.cells #[.int .i64 0, .int .i64 0, .int .i64 0, .slice none 0 0, .slice none 0 0] 30 (0, 0))) := (bl.block _ (lt_of_bk HX4.out)).trans HX4.out
       have HG5 : Hid (t5.heap[t1.heap.size]? = some (.cells #[.int .i64 (b : Int), .int .i64 (p : Int), .int .i64 (s : Int)] 27 (0, 0))) := (bl.block _ (lt_of_bk HG4.out)).trans HG4.out
       have HB5 : Hid (Below w.heap.size w t5) := below_trans HB4.out bl
       have HO5 : Hid (t5.ownsRow (w.heap.size + 1) 5 1 v3 ((pgs ps).flatten).length (((pgs ps).flatten).map (Value.int .u8))) := row_below HO4.out bl
       have HM5 : Hid (t5.ownsRow (w.heap.size + 1) 4 1 v2 b ((unbits b ((bs.drop 10).take N8)).map Value.bool)) := row_below HM4.out bl
       have HR5 : Hid (Reads t5 (some ⟨g5, 0, none⟩) a4 (sealL (bs.take at_))) := by
         have h8 := own5.reads (seal_byt HYA.out) (at_ + 4) (Nat.le_refl _)
         rw [List.take_of_length_le (by rw [seal_len, HLA.out]; omega), HA4.out] at h8
         exact h8
       rw [HA4.out]
       clear bl own5
       have T2 : Hid True := trivial)
    | (go_at_call 30; refine (rsame_any (some ⟨g5, 0, none⟩) a6x a4 _ c6x (sealL (bs.take at_)) (bs.take a4) _ (by omega) HR7.out HR6.out).mono ?_; rintro e t7 ⟨rfl, qq, ht7⟩; rw [HSM.out]
       have bl : Below t6.heap.size t6 t7 := by rw [ht7]; exact drewN_below _ _
       clear ht7
       have HX7 : Hid (t7.heap[w.heap.size]? = some (.cells #[.int .i64 0, .int .i64 0, .int .i64 0, .slice none 0 0, .slice none 0 0] 30 (0, 0))) := (bl.block _ (lt_of_bk HX6.out)).trans HX6.out
       have HG7 : Hid (t7.heap[t1.heap.size]? = some (.cells #[.int .i64 (b : Int), .int .i64 (p : Int), .int .i64 (s : Int)] 27 (0, 0))) := (bl.block _ (lt_of_bk HG6.out)).trans HG6.out
       have HB7 : Hid (Below w.heap.size w t7) := below_trans HB6.out bl
       have HO7 : Hid (t7.ownsRow (w.heap.size + 1) 5 1 v3 ((pgs ps).flatten).length (((pgs ps).flatten).map (Value.int .u8))) := row_below HO6.out bl
       have HM7 : Hid (t7.ownsRow (w.heap.size + 1) 4 1 v2 b ((unbits b ((bs.drop 10).take N8)).map Value.bool)) := row_below HM6.out bl
       clear bl
       obtain ⟨r0, r1, r2, r3, r4⟩ := cells5 HX7.out
       have rf := frozen5 HX7.out
       have rf0 := rf 0
       have rf1 := rf 1
       have rf2 := rf 2
       have rf3 := rf 3
       have rf4 := rf 4
       clear rf))
  exact bodyPost_ret (v := .tuple #[.agg #[.int .i64 0, .int .i64 0, .int .i64 0, .slice none 0 0, .slice none 0 0], .int .i64 212]) (by obtain ⟨y0, y1, y2, y3, y4⟩ := cells5 (blk5_set HX7.out (.int .i64 0) (.int .i64 0) (.int .i64 0) (.slice none 0 0) (.slice none 0 0)); simp [results, Tryd.results7, go_sem, y0, y1, y2, y3, y4]) rfl ⟨by rw [HRD.out]; exact ⟨rfl, by decide⟩, below_grown HB7.out (grown5 _ _ _ _ _ _ _) (Nat.le_refl _)⟩
set_option maxHeartbeats 4000000 in
set_option maxRecDepth 100000 in
theorem rread_ok (a : Option Addr) (n c : Nat) (bs : List Int) (w : World) (hr : Reads w a n bs) (hn : n ≤ 140737488351300) (b p s N8 q0 N C S : Nat) (h5 : bs.getD 5 0 + 256 * bs.getD 6 0 = (b : Int)) (h7 : bs.getD 7 0 + 256 * bs.getD 8 0 = (p : Int)) (h9 : bs.getD 9 0 = (s : Int)) (hf : Fits (b : Int) (p : Int) (s : Int) = true) (hl : 10 ≤ n) (hg : geoE bs = 0) (hN8 : (b + 7) / 8 = N8) (hq0 : 10 + N8 = q0) (hC : 256 * s = C) (hS : 54 + 3 * s = S) (hN : b * p = N) (hs : q0 ≤ n) (hm : bitsOf (unbits b ((bs.drop 10).take N8)) = (bs.drop 10).take N8) (ps : List Pc) (t : List Int) (at_ : Nat) (hp : rdPs C S N N Pc.z (bs.drop q0) = .ok (ps, t)) (hat : n - t.length = at_) (he : at_ + 4 ≤ n) (hv : val4 t = ((sumL (nats (bs.take at_)) : Nat) : Int)) (hv2 : at_ + 4 = n) :
    Calls Tryd.prog 7 #[.slice a n c] w fun e w' => RrRes w w' e (readR bs) ∧ Below w.heap.size w w' := by
  obtain ⟨g1, g2, g3, g4, g5, g6, g7⟩ := fits_nat hf
  have HG : Hid (geoE bs = 0) := hg
  have H5 : Hid (bs.getD 5 0 + 256 * bs.getD 6 0 = (b : Int)) := h5
  have H7 : Hid (bs.getD 7 0 + 256 * bs.getD 8 0 = (p : Int)) := h7
  have H9 : Hid (bs.getD 9 0 = (s : Int)) := h9
  have HF : Hid (Fits (b : Int) (p : Int) (s : Int) = true) := hf
  have HN8 : Hid ((b + 7) / 8 = N8) := hN8
  have HC : Hid (256 * s = C) := hC
  have HS : Hid (54 + 3 * s = S) := hS
  have HN : Hid (b * p = N) := hN
  have HQ0 : Hid (10 + N8 = q0) := hq0
  have hb2 : 8 ≤ b ∧ b ≤ 4096 := ⟨g1, g2⟩
  have f0 : 10 + (N8 : Int) = (q0 : Int) := by omega
  have HF0 : Hid (10 + (N8 : Int) = (q0 : Int)) := f0
  clear f0
  have HHD : Hid (rdHead bs = .ok (b, p, s, unbits b ((bs.drop 10).take N8), bs.drop q0)) := by
    obtain ⟨b', p', s', e1, e2, e3, _, _, e6⟩ := head_geo hr.2.1 hg
    rw [h5] at e1
    rw [h7] at e2
    rw [h9] at e3
    have e1' : b' = b := by omega
    have e2' : p' = p := by omega
    have e3' : s' = s := by omega
    subst e1' e2' e3'
    unfold Hid
    rw [e6, hN8, if_neg (by have := hr.1; omega), if_neg (fun h => h hm), hq0]
  have HMB : Hid (bitsOf (unbits b ((bs.drop 10).take N8)) = (bs.drop 10).take N8) := hm
  have HPS : Hid (rdPs C S N N Pc.z (bs.drop q0) = .ok (ps, t)) := hp
  have hlen := hr.1
  have HTD : Hid (t = bs.drop at_) := by
    have h8 := suffix_drop (bs := bs) (q := q0) rfl (rdPs_sound (fun x hx => hr.2.1 x (List.mem_of_mem_drop hx)) hp).1
    rw [hlen, hat] at h8
    exact h8
  have hta : at_ + t.length = n := by
    have h8 := HTD.out
    have h7 := congrArg List.length h8
    rw [List.length_drop, hlen] at h7
    omega
  have HTA : Hid (n - t.length = at_) := hat
  have HRE : Hid (readR bs = if rdEnd bs t ≠ 0 then .error (rdEnd bs t) else .ok ⟨b, p, s, (pgs ps).flatten, unbits b ((bs.drop 10).take N8)⟩) := by
    unfold Hid readR
    rw [HHD.out]
    simp only [hC, hS, hN, hp]
  have d9 : ¬ (n : Int) < (at_ : Int) + 4 := by omega
  obtain ⟨a4, ha4⟩ : ∃ a4, at_ + 4 = a4 := ⟨_, rfl⟩
  have f4 : (at_ : Int) + 4 = (a4 : Int) := by omega
  have HA4 : Hid (at_ + 4 = a4) := ha4
  have ha9 : at_ ≤ n := by omega
  have ha5 : a4 ≤ n := by omega
  have d9 : ¬ (n : Int) < (a4 : Int) := by omega
  have HLA : Hid ((bs.take at_).length = at_) := by unfold Hid; rw [List.length_take, hlen]; omega
  have HLB : Hid ((bs.take a4).length = a4) := by unfold Hid; rw [List.length_take, hlen]; omega
  have HYA : Hid (∀ x ∈ bs.take at_, 0 ≤ x ∧ x ≤ 255) := fun x hx => hr.2.1 x (List.mem_of_mem_take hx)
  have HYB : Hid (∀ x ∈ bs.take a4, 0 ≤ x ∧ x ≤ 255) := fun x hx => hr.2.1 x (List.mem_of_mem_take hx)
  have HSE := seal_eq (bs := bs) (t := t) (at_ := at_) hr.2.1 (by omega) HTD.out
  rw [ha4] at HSE
  have HSE : Hid _ := HSE
  have HED : Hid (rdEnd bs t = if val4 t ≠ ((sumL (nats (bs.take at_)) : Nat) : Int) then 192 else if a4 < n then 212 else 0) := by
    unfold Hid rdEnd
    rw [if_neg (by omega), hlen, hat]
    by_cases h8 : val4 t ≠ ((sumL (nats (bs.take at_)) : Nat) : Int)
    · rw [if_pos h8, if_pos h8]
    · rw [if_neg h8, if_neg h8]
      by_cases h7 : a4 < n
      · rw [if_pos (show 4 < t.length by omega), if_pos h7]
      · rw [if_neg (show ¬ 4 < t.length by omega), if_neg h7]
  have HRD : Hid (readR bs = .ok ⟨b, p, s, (pgs ps).flatten, unbits b ((bs.drop 10).take N8)⟩) := by
    have h8 : rdEnd bs t = 0 := by rw [HED.out, if_neg (fun h => h hv), if_neg (by omega)]
    unfold Hid
    rw [HRE.out, h8, if_neg (by decide)]
  have d8 : ¬ (a4 : Int) < (n : Int) := by omega
  have HPB : Hid (∀ x ∈ (pgs ps).flatten, 0 ≤ x ∧ x ≤ 255) := (canon hr.2.1 HRD.out).1.2.2.2
  have HR : Hid (Reads w a n bs) := hr
  have HX0 : Hid ((w.alloc (.cells #[.int .i64 0, .int .i64 0, .int .i64 0, .slice none 0 0, .slice none 0 0] 30)).heap[w.heap.size]? = some (.cells #[.int .i64 0, .int .i64 0, .int .i64 0, .slice none 0 0, .slice none 0 0] 30 (0, 0))) := heap_alloc_new w _
  have HB0 : Hid (Below w.heap.size w (w.alloc (.cells #[.int .i64 0, .int .i64 0, .int .i64 0, .slice none 0 0, .slice none 0 0] 30))) := below_alloc w _
  have HSM : Hid (decide (sealL (bs.take at_) = bs.take a4) = true) := decide_eq_true (HSE.out.2 hv)
  clear hm hp HHD HRE hat hta HTD HSE HED hlen ha4 hv
  clear hr h5 h7 h9 hf hg hN8 hC hS hN hq0 g1 g2 g3 g4 g5 g6 g7
  go_enter Tryd.func7, Tryd.ntmps7
  go_wp2_with (first
    | (go_at_call 27; refine (rgeo_any a n c bs _ (HR.out.below HB0.out) (by omega)).mono ?_; rintro e t1 ⟨res, bl⟩; obtain ⟨_, rfl⟩ := res.resolve_left (fun h => h.1 HG.out); rw [H5.out, H7.out, H9.out]
       have HX1 : Hid ((t1.alloc (.cells #[.int .i64 (b : Int), .int .i64 (p : Int), .int .i64 (s : Int)] 27)).heap[w.heap.size]? = some (.cells #[.int .i64 0, .int .i64 0, .int .i64 0, .slice none 0 0, .slice none 0 0] 30 (0, 0))) := (Below.heap_alloc t1 _ _ (lt_of_bk ((bl.block _ (lt_of_bk HX0.out)).trans HX0.out))).trans ((bl.block _ (lt_of_bk HX0.out)).trans HX0.out)
       have HG1 : Hid ((t1.alloc (.cells #[.int .i64 (b : Int), .int .i64 (p : Int), .int .i64 (s : Int)] 27)).heap[t1.heap.size]? = some (.cells #[.int .i64 (b : Int), .int .i64 (p : Int), .int .i64 (s : Int)] 27 (0, 0))) := heap_alloc_new _ _
       have HB1 : Hid (Below w.heap.size w (t1.alloc (.cells #[.int .i64 (b : Int), .int .i64 (p : Int), .int .i64 (s : Int)] 27))) := below_trans (below_trans HB0.out bl) (below_alloc _ _)
       clear bl
       obtain ⟨z0, z1, z2, z3, z4, z5⟩ := blk3_cells HG1.out
       clear z3 z4 z5)
    | (go_at_call 28; refine (rmarks_long a n c bs b p s _ (HR.out.below HB1.out) (by omega) hb2 N8 HN8.out (by have := HQ0.out; omega)).mono ?_; rintro e t2 ⟨res, bl⟩; obtain ⟨_, v2, rfl, own2⟩ := res.resolve_right (fun h => h.1 HMB.out); rw [HF0.out]
       have HX2 : Hid (t2.heap[w.heap.size]? = some (.cells #[.int .i64 0, .int .i64 0, .int .i64 0, .slice none 0 0, .slice none 0 0] 30 (0, 0))) := (bl.block _ (lt_of_bk HX1.out)).trans HX1.out
       have HG2 : Hid (t2.heap[t1.heap.size]? = some (.cells #[.int .i64 (b : Int), .int .i64 (p : Int), .int .i64 (s : Int)] 27 (0, 0))) := (bl.block _ (lt_of_bk HG1.out)).trans HG1.out
       have HB2 : Hid (Below w.heap.size w t2) := below_trans HB1.out bl
       have HO2 : Hid (t2.ownsRow (w.heap.size + 1) 4 1 v2 b ((unbits b ((bs.drop 10).take N8)).map Value.bool)) := ownsRow_base own2 (lt_of_bk HX1.out)
       clear bl z0 z1 z2 own2
       obtain ⟨z0, z1, z2, z3, z4, z5⟩ := blk3_cells HG2.out
       clear z3 z4 z5)
    | (go_at_call 29; refine (rpieces_any a n c bs q0 b p s _ (HR.out.below HB2.out) (by omega) hs (by omega) HF.out C S N HC.out HS.out HN.out).mono ?_; rintro e t3 ⟨res, bl⟩; rw [HPS.out] at res; obtain ⟨v3, rfl, htl3, own3⟩ := res; rw [HTA.out]
       have HX3 : Hid (t3.heap[w.heap.size]? = some (.cells #[.int .i64 0, .int .i64 0, .int .i64 0, .slice none 0 0, .slice none 0 0] 30 (0, 0))) := (bl.block _ (lt_of_bk HX2.out)).trans HX2.out
       have HG3 : Hid (t3.heap[t1.heap.size]? = some (.cells #[.int .i64 (b : Int), .int .i64 (p : Int), .int .i64 (s : Int)] 27 (0, 0))) := (bl.block _ (lt_of_bk HG2.out)).trans HG2.out
       have HB3 : Hid (Below w.heap.size w t3) := below_trans HB2.out bl
       have HO3 : Hid (t3.ownsRow (w.heap.size + 1) 5 1 v3 ((pgs ps).flatten).length (((pgs ps).flatten).map (Value.int .u8))) := ownsRow_base own3 (lt_of_bk HX2.out)
       have HM3 : Hid (t3.ownsRow (w.heap.size + 1) 4 1 v2 b ((unbits b ((bs.drop 10).take N8)).map Value.bool)) := row_below HO2.out bl
       clear bl z0 z1 z2 own3 htl3)
    | (go_at_call 26; have zz := T2; clear T2 zz T1; refine (part_any a n c 0 a4 bs _ (by omega) (by omega) (by omega) (HR.out.below HB5.out)).mono ?_; rintro e t6 ⟨v6, rfl, own6, bl⟩; rw [Nat.sub_zero, List.drop_zero] at own6; obtain ⟨a6x, c6x, rfl, rd6⟩ := own_any own6 HYB.out
       have HX6 : Hid (t6.heap[w.heap.size]? = some (.cells #[.int .i64 0, .int .i64 0, .int .i64 0, .slice none 0 0, .slice none 0 0] 30 (0, 0))) := (bl.block _ (lt_of_bk HX5.out)).trans HX5.out
       have HG6 : Hid (t6.heap[t1.heap.size]? = some (.cells #[.int .i64 (b : Int), .int .i64 (p : Int), .int .i64 (s : Int)] 27 (0, 0))) := (bl.block _ (lt_of_bk HG5.out)).trans HG5.out
       have HB6 : Hid (Below w.heap.size w t6) := below_trans HB5.out bl
       have HO6 : Hid (t6.ownsRow (w.heap.size + 1) 5 1 v3 ((pgs ps).flatten).length (((pgs ps).flatten).map (Value.int .u8))) := row_below HO5.out bl
       have HM6 : Hid (t6.ownsRow (w.heap.size + 1) 4 1 v2 b ((unbits b ((bs.drop 10).take N8)).map Value.bool)) := row_below HM5.out bl
       have HR6 : Hid (Reads t6 a6x a4 (bs.take a4)) := rd6
       have HR7 : Hid (Reads t6 (some ⟨g5, 0, none⟩) a4 (sealL (bs.take at_))) := HR5.out.below bl
       clear bl own6 rd6)
    | (go_at_call 26; refine (part_any a n c 0 at_ bs _ (by omega) (by omega) (by omega) (HR.out.below HB3.out)).mono ?_; rintro e t4 ⟨v4, rfl, own4, bl⟩; rw [Nat.sub_zero, List.drop_zero] at own4; obtain ⟨a4x, c4x, rfl, rd4⟩ := own_any own4 HYA.out
       have HX4 : Hid (t4.heap[w.heap.size]? = some (.cells #[.int .i64 0, .int .i64 0, .int .i64 0, .slice none 0 0, .slice none 0 0] 30 (0, 0))) := (bl.block _ (lt_of_bk HX3.out)).trans HX3.out
       have HG4 : Hid (t4.heap[t1.heap.size]? = some (.cells #[.int .i64 (b : Int), .int .i64 (p : Int), .int .i64 (s : Int)] 27 (0, 0))) := (bl.block _ (lt_of_bk HG3.out)).trans HG3.out
       have HB4 : Hid (Below w.heap.size w t4) := below_trans HB3.out bl
       have HO4 : Hid (t4.ownsRow (w.heap.size + 1) 5 1 v3 ((pgs ps).flatten).length (((pgs ps).flatten).map (Value.int .u8))) := row_below HO3.out bl
       have HM4 : Hid (t4.ownsRow (w.heap.size + 1) 4 1 v2 b ((unbits b ((bs.drop 10).take N8)).map Value.bool)) := row_below HM3.out bl
       have HR4 : Hid (Reads t4 a4x at_ (bs.take at_)) := rd4
       clear bl own4 rd4
       have T1 : Hid True := trivial)
    | (go_at_call 6; refine (rsealed_any a4x at_ c4x (bs.take at_) _ HR4.out (by omega)).mono ?_; rintro e t5 ⟨g5, c5, rfl, own5, bl⟩
       have HX5 : Hid (t5.heap[w.heap.size]? = some (.cells #[.int .i64 0, .int .i64 0, .int .i64 0, .slice none 0 0, .slice none 0 0] 30 (0, 0))) := (bl.block _ (lt_of_bk HX4.out)).trans HX4.out
       have HG5 : Hid (t5.heap[t1.heap.size]? = some (.cells #[.int .i64 (b : Int), .int .i64 (p : Int), .int .i64 (s : Int)] 27 (0, 0))) := (bl.block _ (lt_of_bk HG4.out)).trans HG4.out
       have HB5 : Hid (Below w.heap.size w t5) := below_trans HB4.out bl
       have HO5 : Hid (t5.ownsRow (w.heap.size + 1) 5 1 v3 ((pgs ps).flatten).length (((pgs ps).flatten).map (Value.int .u8))) := row_below HO4.out bl
       have HM5 : Hid (t5.ownsRow (w.heap.size + 1) 4 1 v2 b ((unbits b ((bs.drop 10).take N8)).map Value.bool)) := row_below HM4.out bl
       have HR5 : Hid (Reads t5 (some ⟨g5, 0, none⟩) a4 (sealL (bs.take at_))) := by
         have h8 := own5.reads (seal_byt HYA.out) (at_ + 4) (Nat.le_refl _)
         rw [List.take_of_length_le (by rw [seal_len, HLA.out]; omega), HA4.out] at h8
         exact h8
       rw [HA4.out]
       clear bl own5
       have T2 : Hid True := trivial)
    | (go_at_call 30; refine (rsame_any (some ⟨g5, 0, none⟩) a6x a4 _ c6x (sealL (bs.take at_)) (bs.take a4) _ (by omega) HR7.out HR6.out).mono ?_; rintro e t7 ⟨rfl, qq, ht7⟩; rw [HSM.out]
       have bl : Below t6.heap.size t6 t7 := by rw [ht7]; exact drewN_below _ _
       clear ht7
       have HX7 : Hid (t7.heap[w.heap.size]? = some (.cells #[.int .i64 0, .int .i64 0, .int .i64 0, .slice none 0 0, .slice none 0 0] 30 (0, 0))) := (bl.block _ (lt_of_bk HX6.out)).trans HX6.out
       have HG7 : Hid (t7.heap[t1.heap.size]? = some (.cells #[.int .i64 (b : Int), .int .i64 (p : Int), .int .i64 (s : Int)] 27 (0, 0))) := (bl.block _ (lt_of_bk HG6.out)).trans HG6.out
       have HB7 : Hid (Below w.heap.size w t7) := below_trans HB6.out bl
       have HO7 : Hid (t7.ownsRow (w.heap.size + 1) 5 1 v3 ((pgs ps).flatten).length (((pgs ps).flatten).map (Value.int .u8))) := row_below HO6.out bl
       have HM7 : Hid (t7.ownsRow (w.heap.size + 1) 4 1 v2 b ((unbits b ((bs.drop 10).take N8)).map Value.bool)) := row_below HM6.out bl
       clear bl
       obtain ⟨ax, cx, hv3, rdx⟩ := own_any HO7.out HPB.out
       obtain ⟨XL, hXL⟩ : ∃ XL, ((pgs ps).flatten).length = XL := ⟨_, rfl⟩
       have HXL : Hid (((pgs ps).flatten).length = XL) := hXL
       rw [hXL] at hv3
       subst hv3
       clear hXL
       obtain ⟨am, cm, rfl, rdm⟩ := own_anyB HM7.out
       have HRX : Hid (Reads t7 ax ((pgs ps).flatten).length ((pgs ps).flatten)) := rdx
       have HRM : Hid (ReadsB t7 am b (unbits b ((bs.drop 10).take N8))) := rdm
       clear rdx rdm
       obtain ⟨z0, z1, z2, z3, z4, z5⟩ := blk3_cells HG7.out
       clear z3 z4 z5
       obtain ⟨r0, r1, r2, r3, r4⟩ := cells5 HX7.out
       have rf := frozen5 HX7.out
       have rf0 := rf 0
       have rf1 := rf 1
       have rf2 := rf 2
       have rf3 := rf 3
       have rf4 := rf 4
       clear rf))
  exact bodyPost_ret (v := .tuple #[.agg #[.int .i64 (b : Int), .int .i64 (p : Int), .int .i64 (s : Int), .slice ax XL cx, .slice am b cm], .int .i64 0]) (by obtain ⟨y0, y1, y2, y3, y4⟩ := cells5 (blk5_set HX7.out (.int .i64 (b : Int)) (.int .i64 (p : Int)) (.int .i64 (s : Int)) (.slice ax XL cx) (.slice am b cm)); simp [results, Tryd.results7, go_sem, y0, y1, y2, y3, y4]) rfl ⟨by rw [HRD.out]; exact ⟨ax, cx, am, cm, by rw [← HXL.out], HRX.out.far (grown5 _ _ _ _ _ _ _) (far_of HO7.out (Nat.lt_succ_self _)), HRM.out.farB (grown5 _ _ _ _ _ _ _) (far_of HM7.out (Nat.lt_succ_self _))⟩, below_grown HB7.out (grown5 _ _ _ _ _ _ _) (Nat.le_refl _)⟩
theorem rread_any (a : Option Addr) (n c : Nat) (bs : List Int) (w : World) (hr : Reads w a n bs) (hn : n ≤ 140737488351300) :
    Calls Tryd.prog 7 #[.slice a n c] w fun e w' => RrRes w w' e (readR bs) ∧ Below w.heap.size w w' := by
  by_cases hg : geoE bs = 0
  · obtain ⟨b, p, s, h5, h7, h9, hf, hl, _⟩ := head_geo hr.2.1 hg
    rw [hr.1] at hl
    by_cases hs : n < 10 + (b + 7) / 8
    · exact rread_ms a n c bs w hr hn b p s _ _ _ _ _ h5 h7 h9 hf hl hg rfl rfl rfl rfl rfl hs
    · by_cases hm : bitsOf (unbits b ((bs.drop 10).take ((b + 7) / 8))) = (bs.drop 10).take ((b + 7) / 8)
      · cases hp : rdPs (256 * s) (54 + 3 * s) (b * p) (b * p) Pc.z (bs.drop (10 + (b + 7) / 8)) with
        | error x => exact rread_pb a n c bs w hr hn b p s _ _ _ _ _ h5 h7 h9 hf hl hg rfl rfl rfl rfl rfl (by omega) hm x hp
        | ok y =>
          obtain ⟨ps, t⟩ := y
          by_cases he : n < n - t.length + 4
          · exact rread_es a n c bs w hr hn b p s _ _ _ _ _ h5 h7 h9 hf hl hg rfl rfl rfl rfl rfl (by omega) hm ps t _ hp rfl he
          · by_cases hv : val4 t = ((sumL (nats (bs.take (n - t.length))) : Nat) : Int)
            · by_cases hv2 : n - t.length + 4 < n
              · exact rread_tail a n c bs w hr hn b p s _ _ _ _ _ h5 h7 h9 hf hl hg rfl rfl rfl rfl rfl (by omega) hm ps t _ hp rfl (by omega) hv hv2
              · exact rread_ok a n c bs w hr hn b p s _ _ _ _ _ h5 h7 h9 hf hl hg rfl rfl rfl rfl rfl (by omega) hm ps t _ hp rfl (by omega) hv (by omega)
            · exact rread_sum a n c bs w hr hn b p s _ _ _ _ _ h5 h7 h9 hf hl hg rfl rfl rfl rfl rfl (by omega) hm ps t _ hp rfl (by omega) hv
      · exact rread_mb a n c bs w hr hn b p s _ _ _ _ _ h5 h7 h9 hf hl hg rfl rfl rfl rfl rfl (by omega) hm
  · exact rread_geo a n c bs w hr hn hg

end Go.Proofs.YteefekhlbillfaaDoor
