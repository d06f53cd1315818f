/-
  SEAT YteefekhlbillfaaDoor: Zg, of several texts.
-/
import Derived.Test.YteefekhlbillfaaDoorZf
import Derived.Test.YteefekhlbillfaaDoorUm
namespace Go.Proofs.YteefekhlbillfaaDoor
open Go.RowKit
set_option linter.unusedVariables false

set_option maxHeartbeats 4000000 in
set_option maxRecDepth 100000 in
theorem own_bad1 (b p s : Int) (a a' : Option Addr) (n c m c' : Nat) (zs : List Int) (bs : List Bool) (d q r : Int) (f f' : Option Addr) (k l o l' : Nat) (ys : List Int) (us : List Bool) (x y : Int) (w : World) (hn : n ≤ 140737488351232) (hm : m ≤ 140737488351232) (hr : Reads w a n zs) (hrb : ReadsB w a' m bs) (hnc : n ≤ c) (hc : c ≤ 9223372036854775807) (hk : k ≤ 140737488351232) (ho : o ≤ 140737488351232) (hf : Reads w f k ys) (hfb : ReadsB w f' o us) (hkl : k ≤ l) (hl : l ≤ 9223372036854775807) (ht : Tab w) (hE : chkE b p s n m ≠ 0) :
    Calls Tryd.prog 4 #[.agg #[.int .i64 b, .int .i64 p, .int .i64 s, .slice a n c, .slice a' m c'], .agg #[.int .i64 d, .int .i64 q, .int .i64 r, .slice f k l, .slice f' o l'], .agg #[.int .i64 x, .int .i64 y]] w fun e w' => e = .returned (.bool true) ∧ Below w.heap.size w w' := by
  have hn2 : n ≤ 140737488355000 := by omega
  have hm2 : m ≤ 140737488355000 := by omega
  have hk2 : k ≤ 140737488355000 := by omega
  have ho2 : o ≤ 140737488355000 := by omega
  have HTB : Hid (Tab w) := ht
  obtain ⟨z, hz⟩ : ∃ z, chkE b p s n m = z := ⟨_, rfl⟩
  have HE : Hid (chkE b p s n m = z) := hz
  rw [hz] at hE
  have hx1 : (z == 0) = false := by rw [beq_eq_false_iff_ne]; exact hE
  clear hz hr hrb hf hfb ht
  have HQ : Hid (Q0 w (((w.alloc (.cells #[.int .i64 b, .int .i64 p, .int .i64 s, .slice a n c, .slice a' m c'] 30)).alloc (.cells #[.int .i64 d, .int .i64 q, .int .i64 r, .slice f k l, .slice f' o l'] 30)).alloc (.cells #[.int .i64 x, .int .i64 y] 40)) [((w.heap.size + 2), #[.int .i64 x, .int .i64 y], 40), ((w.heap.size + 1), #[.int .i64 d, .int .i64 q, .int .i64 r, .slice f k l, .slice f' o l'], 30), (w.heap.size, #[.int .i64 b, .int .i64 p, .int .i64 s, .slice a n c, .slice a' m c'], 30)] [] []) := by
    have h9 : Q0 w w [] [] [] := ⟨Below.refl _ _, fun e he => (by cases he), List.Pairwise.nil, LiveG.nil _ _, LiveG.nil _ _⟩
    have h8 := ((h9.box #[.int .i64 b, .int .i64 p, .int .i64 s, .slice a n c, .slice a' m c'] 30).box #[.int .i64 d, .int .i64 q, .int .i64 r, .slice f k l, .slice f' o l'] 30).box #[.int .i64 x, .int .i64 y] 40
    rw [World.size_alloc, World.size_alloc] at h8
    exact h8
  obtain ⟨m0, m1, m2, m3, m4⟩ := cells5 (HQ.out.bx _ (List.mem_cons_of_mem _ (List.mem_cons_of_mem _ List.mem_cons_self)))
  have T1 : Hid True := trivial
  go_enter Tryd.func4, Tryd.ntmps4
  go_wp2_with (first
    | (go_at_call 13; refine (heads_any _ (HTB.out.below HQ.out.bel)).mono ?_; rintro e t0 ⟨rfl, bl⟩
       have HQ0 : Hid (Q0 w t0 [((w.heap.size + 2), #[.int .i64 x, .int .i64 y], 40), ((w.heap.size + 1), #[.int .i64 d, .int .i64 q, .int .i64 r, .slice f k l, .slice f' o l'], 30), (w.heap.size, #[.int .i64 b, .int .i64 p, .int .i64 s, .slice a n c, .slice a' m c'], 30)] [] []) := HQ.out.up bl
       clear bl HQ m0 m1 m2 m3 m4
       obtain ⟨m0, m1, m2, m3, m4⟩ := cells5 (HQ0.out.bx _ (List.mem_cons_of_mem _ (List.mem_cons_of_mem _ List.mem_cons_self))))
    | (go_at_call 14; have zz := T1; clear T1 zz; refine (check_any b p s _ _ n _ m _ _ hn2 hm2).mono ?_; rintro e t1 ⟨rfl, bl⟩; rw [HE.out]
       have HQ1 : Hid (Q0 w t1 [((w.heap.size + 2), #[.int .i64 x, .int .i64 y], 40), ((w.heap.size + 1), #[.int .i64 d, .int .i64 q, .int .i64 r, .slice f k l, .slice f' o l'], 30), (w.heap.size, #[.int .i64 b, .int .i64 p, .int .i64 s, .slice a n c, .slice a' m c'], 30)] [] []) := HQ0.out.up bl
       clear bl HQ0 m0 m1 m2 m3 m4
       obtain ⟨m0, m1, m2, m3, m4⟩ := cells5 (HQ1.out.bx _ (List.mem_cons_of_mem _ List.mem_cons_self)))
    | (go_at_call 10; refine (no_any _ _).mono ?_; rintro e u9 ⟨rfl, h9⟩; rw [h9]; clear h9))
  go_ret
  exact ⟨rfl, HQ1.out.bel⟩
set_option maxHeartbeats 4000000 in
set_option maxRecDepth 100000 in
theorem own_bad2 (b p s : Int) (a a' : Option Addr) (n c m c' : Nat) (zs : List Int) (bs : List Bool) (d q r : Int) (f f' : Option Addr) (k l o l' : Nat) (ys : List Int) (us : List Bool) (x y : Int) (w : World) (hn : n ≤ 140737488351232) (hm : m ≤ 140737488351232) (hr : Reads w a n zs) (hrb : ReadsB w a' m bs) (hnc : n ≤ c) (hc : c ≤ 9223372036854775807) (hk : k ≤ 140737488351232) (ho : o ≤ 140737488351232) (hf : Reads w f k ys) (hfb : ReadsB w f' o us) (hkl : k ≤ l) (hl : l ≤ 9223372036854775807) (ht : Tab w) (hE0 : chkE b p s n m = 0) (hE : chkE d q r k o ≠ 0) :
    Calls Tryd.prog 4 #[.agg #[.int .i64 b, .int .i64 p, .int .i64 s, .slice a n c, .slice a' m c'], .agg #[.int .i64 d, .int .i64 q, .int .i64 r, .slice f k l, .slice f' o l'], .agg #[.int .i64 x, .int .i64 y]] w fun e w' => e = .returned (.bool true) ∧ Below w.heap.size w w' := by
  have hn2 : n ≤ 140737488355000 := by omega
  have hm2 : m ≤ 140737488355000 := by omega
  have hk2 : k ≤ 140737488355000 := by omega
  have ho2 : o ≤ 140737488355000 := by omega
  have HTB : Hid (Tab w) := ht
  obtain ⟨z, hz⟩ : ∃ z, chkE d q r k o = z := ⟨_, rfl⟩
  have HE : Hid (chkE d q r k o = z) := hz
  have HE0 : Hid (chkE b p s n m = 0) := hE0
  clear hE0
  rw [hz] at hE
  have hx1 : (z == 0) = false := by rw [beq_eq_false_iff_ne]; exact hE
  clear hz hr hrb hf hfb ht
  have HQ : Hid (Q0 w (((w.alloc (.cells #[.int .i64 b, .int .i64 p, .int .i64 s, .slice a n c, .slice a' m c'] 30)).alloc (.cells #[.int .i64 d, .int .i64 q, .int .i64 r, .slice f k l, .slice f' o l'] 30)).alloc (.cells #[.int .i64 x, .int .i64 y] 40)) [((w.heap.size + 2), #[.int .i64 x, .int .i64 y], 40), ((w.heap.size + 1), #[.int .i64 d, .int .i64 q, .int .i64 r, .slice f k l, .slice f' o l'], 30), (w.heap.size, #[.int .i64 b, .int .i64 p, .int .i64 s, .slice a n c, .slice a' m c'], 30)] [] []) := by
    have h9 : Q0 w w [] [] [] := ⟨Below.refl _ _, fun e he => (by cases he), List.Pairwise.nil, LiveG.nil _ _, LiveG.nil _ _⟩
    have h8 := ((h9.box #[.int .i64 b, .int .i64 p, .int .i64 s, .slice a n c, .slice a' m c'] 30).box #[.int .i64 d, .int .i64 q, .int .i64 r, .slice f k l, .slice f' o l'] 30).box #[.int .i64 x, .int .i64 y] 40
    rw [World.size_alloc, World.size_alloc] at h8
    exact h8
  obtain ⟨m0, m1, m2, m3, m4⟩ := cells5 (HQ.out.bx _ (List.mem_cons_of_mem _ (List.mem_cons_of_mem _ List.mem_cons_self)))
  have T1 : Hid True := trivial
  go_enter Tryd.func4, Tryd.ntmps4
  go_wp2_with (first
    | (go_at_call 13; refine (heads_any _ (HTB.out.below HQ.out.bel)).mono ?_; rintro e t0 ⟨rfl, bl⟩
       have HQ0 : Hid (Q0 w t0 [((w.heap.size + 2), #[.int .i64 x, .int .i64 y], 40), ((w.heap.size + 1), #[.int .i64 d, .int .i64 q, .int .i64 r, .slice f k l, .slice f' o l'], 30), (w.heap.size, #[.int .i64 b, .int .i64 p, .int .i64 s, .slice a n c, .slice a' m c'], 30)] [] []) := HQ.out.up bl
       clear bl HQ m0 m1 m2 m3 m4
       obtain ⟨m0, m1, m2, m3, m4⟩ := cells5 (HQ0.out.bx _ (List.mem_cons_of_mem _ (List.mem_cons_of_mem _ List.mem_cons_self))))
    | (go_at_call 14; have zz := T1; clear T1 zz; refine (check_any b p s _ _ n _ m _ _ hn2 hm2).mono ?_; rintro e t1 ⟨rfl, bl⟩; rw [HE0.out]
       have HQ1 : Hid (Q0 w t1 [((w.heap.size + 2), #[.int .i64 x, .int .i64 y], 40), ((w.heap.size + 1), #[.int .i64 d, .int .i64 q, .int .i64 r, .slice f k l, .slice f' o l'], 30), (w.heap.size, #[.int .i64 b, .int .i64 p, .int .i64 s, .slice a n c, .slice a' m c'], 30)] [] []) := HQ0.out.up bl
       clear bl HQ0 m0 m1 m2 m3 m4
       obtain ⟨m0, m1, m2, m3, m4⟩ := cells5 (HQ1.out.bx _ (List.mem_cons_of_mem _ List.mem_cons_self)))
    | (go_at_call 14; refine (check_any d q r _ _ k _ o _ _ hk2 ho2).mono ?_; rintro e t2 ⟨rfl, bl⟩; rw [HE.out]
       have HQ2 : Hid (Q0 w t2 [((w.heap.size + 2), #[.int .i64 x, .int .i64 y], 40), ((w.heap.size + 1), #[.int .i64 d, .int .i64 q, .int .i64 r, .slice f k l, .slice f' o l'], 30), (w.heap.size, #[.int .i64 b, .int .i64 p, .int .i64 s, .slice a n c, .slice a' m c'], 30)] [] []) := HQ1.out.up bl
       clear bl HQ1 m0 m1 m2 m3 m4)
    | (go_at_call 10; refine (no_any _ _).mono ?_; rintro e u9 ⟨rfl, h9⟩; rw [h9]; clear h9))
  go_ret
  exact ⟨rfl, HQ2.out.bel⟩
theorem some_of {w : World} {a : Option Addr} {n : Nat} {zs : List Int} (h : Reads w a n zs) (h0 : 0 < n) : ∃ bk off, a = some ⟨bk, off, none⟩ := by
  obtain ⟨b1, o1, e, _⟩ := h.pos h0
  exact ⟨b1, o1, e⟩
theorem some_ofB {w : World} {a : Option Addr} {n : Nat} {zs : List Bool} (h : ReadsB w a n zs) (h0 : 0 < n) : ∃ bk off, a = some ⟨bk, off, none⟩ := by
  obtain ⟨b1, o1, e, _⟩ := h.pos h0
  exact ⟨b1, o1, e⟩
theorem own_all (b p s : Int) (a a' : Option Addr) (n c m c' : Nat) (zs : List Int) (bs : List Bool) (d q r : Int) (f f' : Option Addr) (k l o l' : Nat) (ys : List Int) (us : List Bool) (x y : Int) (w : World) (hn : n ≤ 140737488351232) (hm : m ≤ 140737488351232) (hr : Reads w a n zs) (hrb : ReadsB w a' m bs) (hnc : n ≤ c) (hc : c ≤ 9223372036854775807) (hk : k ≤ 140737488351232) (ho : o ≤ 140737488351232) (hf : Reads w f k ys) (hfb : ReadsB w f' o us) (hkl : k ≤ l) (hl : l ≤ 9223372036854775807) (ht : Tab w) :
    Calls Tryd.prog 4 #[.agg #[.int .i64 b, .int .i64 p, .int .i64 s, .slice a n c, .slice a' m c'], .agg #[.int .i64 d, .int .i64 q, .int .i64 r, .slice f k l, .slice f' o l'], .agg #[.int .i64 x, .int .i64 y]] w fun e w' => e = .returned (.bool true) ∧ Below w.heap.size w w' := by
  by_cases hE : chkE b p s n m = 0
  · by_cases hE2 : chkE d q r k o = 0
    · obtain ⟨M, hok, hMb, hMp, hMs, hMc, hMm, hMn⟩ := img_of hE hr.1 hrb.1 hr.2.1
      obtain ⟨N, hok2, hNb, hNp, hNs, hNc, hNm, hNn⟩ := img_of hE2 hf.1 hfb.1 hf.2.1
      obtain ⟨b', p', s', zs', bs'⟩ := M
      obtain ⟨d', q', r', ys', us'⟩ := N
      simp only at hMb hMp hMs hMc hMm hMn hNb hNp hNs hNc hNm hNn
      subst hMb hMp hMs hMc hMm hMn hNb hNp hNs hNc hNm hNn
      obtain ⟨h1, _, h2, _⟩ := nums hok hr.1
      obtain ⟨h3, _, h4, _⟩ := nums hok2 hf.1
      obtain ⟨_, _, rfl⟩ := some_of hr h1
      obtain ⟨_, _, rfl⟩ := some_ofB hrb h2
      obtain ⟨_, _, rfl⟩ := some_of hf h3
      obtain ⟨_, _, rfl⟩ := some_ofB hfb h4
      exact ownGood b' p' s' _ _ n c _ _ c' zs' bs' d' q' r' _ _ k l _ _ l' ys' us' x y w hok hok2 hr.1 hf.1 hr hrb hf hfb ⟨hnc, hc⟩ ⟨hkl, hl⟩ ht
    · exact own_bad2 b p s a a' n c m c' zs bs d q r f f' k l o l' ys us x y w hn hm hr hrb hnc hc hk ho hf hfb hkl hl ht hE hE2
  · exact own_bad1 b p s a a' n c m c' zs bs d q r f f' k l o l' ys us x y w hn hm hr hrb hnc hc hk ho hf hfb hkl hl ht hE
end Go.Proofs.YteefekhlbillfaaDoor
