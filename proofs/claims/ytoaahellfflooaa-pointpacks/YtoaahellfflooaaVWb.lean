/-
  SEAT Ytoaahellfflooaa.
-/
import Derived.Test.YtoaahellfflooaaVWa
namespace Go.Proofs.Ytoaahellfflooaa
open Go.RowKit
set_option linter.unusedVariables false

set_option maxHeartbeats 1000000 in
set_option maxRecDepth 100000 in
theorem wrow_any (B q : Nat) (laid : List Int) (X : List Nat) (ad : Option Addr) (m c : Nat) (zs : List Int) (w : World) (hW : WrA w B q laid X) (hl : laid.length ≤ 100000000000000) (hm : m ≤ 100000) (hrd : Reads w ad m zs) (hz : Byt zs) :
    Calls Try.prog 47 #[.pointer (some ⟨q, 0, none⟩), .slice ad m c] w (WV w B q (laid ++ zs) []) := by
  have hBw := hW.size
  obtain ⟨v0, hq, hown, hBq, hby, hX⟩ := hW
  obtain ⟨n, hn⟩ : ∃ n, laid.length = n := ⟨_, rfl⟩
  have hzm : zs.length = m := hrd.1
  rw [hn] at hown hl
  obtain ⟨va, vc, rfl⟩ := own_slice hown
  have c0 := blk_cell hq 0 rfl
  have f0 := blk_free hq 0
  have HQ := hide hq
  have HO := hide hown
  have HN := hide hn
  have HR := hide hrd
  have HZM := hide hzm
  clear hq hown hn hX hrd hzm
  go_enter Try.func47, Try.ntmps47
  go_wp2_with (at_builtin; refine wpList_append_reads rfl (.tmp 9) (.tmp 10) rfl B _ n laid rfl HO.out ad m c zs rfl HR.out (by omega) hBw ?_; intro v' w1 own1 grow1
               obtain ⟨a1, c1, rfl⟩ := own_slice own1
               have hq1 : w1.heap[q]? = some (.cells #[.slice va n vc] 74 (0, 0)) := (grow1.block q (lt_of_block HQ.out) (own_box HO.out HQ.out (by decide))).trans HQ.out
               have HG := hide grow1
               have HQ1 := hide hq1
               have d0 := blk_cell hq1 0 rfl
               have e0 := blk_free hq1 0
               have HQ2 := hide (blk3_set (j := 0) hq1 (.slice a1 (n + m) c1))
               have HO2 : Hid ((w1.setCell ⟨q, 0, none⟩ (.slice a1 (n + m) c1)).ownsRow B 5 1 (.slice a1 (n + m) c1) (n + m) ((laid ++ zs).map (Value.int .u8))) := World.ownsRow.kept own1 (set_grown w1 q 0 _) (Or.inr (fun e => own_box own1 hq1 (by decide) e.symm))
               clear grow1 hq1 own1 c0 f0)
  go_ret
  have hlen : (laid ++ zs).length = n + m := by rw [List.length_append, HN.out, HZM.out]
  refine ⟨rfl, ⟨_, HQ2.out, by rw [hlen]; exact HO2.out, hBq, ?_, fun k hk => by cases hk⟩, ?_⟩
  · intro x hx
    rcases List.mem_append.1 hx with h | h
    · exact hby x h
    · exact hz x h
  · have k1 : Kw B [] w w1 := Kw.of_row HO.out rfl (fun k hk => by cases hk) hBw HG.out
    have k2 : Kw B [] w1 (w1.setCell ⟨q, 0, none⟩ (.slice a1 (n + m) c1)) := Kw.of_box HQ1.out hBq (fun k hk => by cases hk) (Nat.le_trans hBw HG.out.size) (set_grown w1 q 0 _)
    exact k1.trans k2

theorem own_at {w w' : World} {B e st n : Nat} {v : Value} {cs : List Value} (h : w.ownsRow B e st v n cs) (hk : ∀ k, v.ownBlock = some k → w'.heap[k]? = w.heap[k]?) : w'.ownsRow B e st v n cs := by
  obtain ⟨h1, h2⟩ := h
  refine ⟨h1, ?_⟩
  rcases h2 with h2 | ⟨g, cap, cur, hv, hg, hh, r⟩
  · exact Or.inl h2
  · refine Or.inr ⟨g, cap, cur, hv, hg, ?_, r⟩
    rw [hk g (by rw [hv]; rfl)]
    exact hh
theorem own_bytes {w : World} {B n c : Nat} {a : Option Addr} {xs : List Int} (h : w.ownsRow B 5 1 (.slice a n c) n (xs.map (Value.int .u8))) (hl : xs.length = n) (hb : Byt xs) : Reads w a n xs := by
  subst hl
  exact Live.reads (B := B) (R := [(.slice a xs.length c, xs)]) ⟨fun p hp => by rw [List.mem_singleton] at hp; subst hp; exact h, List.pairwise_singleton _ _⟩ (List.mem_singleton.2 rfl) rfl hb
def nodW (x : Nd) : List Int := nodeL x.k x.p x.N x.z x.m x.st x.h x.T
theorem nodW_len (x : Nd) : (nodW x).length = 1 + 4 + 4 + 2 + 8 + 4 + (1 + x.N.size) + (1 + x.T.size) := by
  simp only [nodW, nodeL, List.length_append, dg_length, strL_length]
theorem nodW_byt (x : Nd) : Byt (nodW x) := by
  intro y hy
  simp only [nodW, nodeL, List.mem_append] at hy
  rcases hy with ((((((h | h) | h) | h) | h) | h) | h) | h
  · exact dg_range _ _ y h
  · exact dg_range _ _ y h
  · exact dg_range _ _ y h
  · exact dg_range _ _ y h
  · exact dg_range _ _ y h
  · exact dg_range _ _ y h
  · rcases h with h | h
    · exact dg_range _ _ y h
    · exact strL_range _ y h
  · rcases h with h | h
    · exact dg_range _ _ y h
    · exact strL_range _ y h
def hdW (o : Ob) : List Int := if o.hd then dg 1 1 ++ (dg (nodW o.nd).length 1 ++ (nodW o.nd ++ plW o.pl)) else dg 0 1
theorem hdW_len (o : Ob) (h : hdOk o = true) : (hdW o).length ≤ 300 := by
  unfold hdW
  cases hh : o.hd with
  | false => simp [dg_length]
  | true =>
    rw [hdOk, hh] at h
    simp only [if_true, Bool.and_eq_true, beq_iff_eq] at h
    have h2 := node_zero _ _ _ _ _ _ _ _ h.1
    simp only [if_true, List.length_append, dg_length, nodW_len, plW_len]
    omega

set_option maxHeartbeats 2000000 in
set_option maxRecDepth 100000 in
theorem wheader_any (B q : Nat) (laid : List Int) (o : Ob) (va : Option Addr) (n vc : Nat) (w : World) (hW : WrA w B q laid []) (hl : laid.length ≤ 80000000000000) (ho : hdOk o = true) (hs0 : 0 ≤ o.nd.st) (hs1 : o.nd.st < 18446744073709551616) :
    Calls Try.prog 28 #[.pointer (some ⟨q, 0, none⟩), .agg #[.int .i64 o.id, .bool o.hd, .int .i64 o.nd.k, .int .i64 o.nd.p, .string o.nd.N, .int .i64 o.nd.z, .int .i64 o.nd.m, .int .u64 o.nd.st, .int .i64 o.nd.h, .string o.nd.T, .int .i64 o.pl.1, .int .i64 o.pl.2, .slice va n vc]] w (WV w B q (laid ++ hdW o) []) := by
  obtain ⟨id, hd, ⟨k, p, N, z, m, st, sh, T⟩, ⟨p1, p2⟩, ch⟩ := o
  simp only at hs0 hs1 ⊢
  have hBw := hW.size
  cases hd with
  | false =>
    have hb := below_alloc w (.cells #[.int .i64 id, .bool false, .int .i64 k, .int .i64 p, .string N, .int .i64 z, .int .i64 m, .int .u64 st, .int .i64 sh, .string T, .int .i64 p1, .int .i64 p2, .slice va n vc] 55)
    have HK0 := hide (Kw.of_below (X := []) hBw hb)
    have HN := hide (wflag_any B q laid [] false _ (hW.below hb) (by omega))
    clear hW hl ho hb
    go_enter Try.func28, Try.ntmps28
    go_wp2_with (go_at_call 27; refine HN.out.mono ?_; rintro e u1 ⟨rfl, h1, h2⟩; have HW := hide h1; have HK := hide h2; clear h1 h2)
    go_ret
    exact ⟨rfl, HW.out, HK0.out.trans HK.out⟩
  | true =>
    simp only [hdOk, if_true, Bool.and_eq_true, beq_iff_eq] at ho
    obtain ⟨he, -, hp⟩ := ho
    have hE : nodeE k p N z m st sh T = 0 := he
    have h2 := node_zero _ _ _ _ _ _ _ _ hE
    have hNs := h2.2.2.1
    have hTs := h2.2.2.2.2.2.2
    obtain ⟨L, hL⟩ : ∃ L, nodW ⟨k, p, N, z, m, st, sh, T⟩ = L := ⟨_, rfl⟩
    have hLl := nodW_len ⟨k, p, N, z, m, st, sh, T⟩
    have hLb := nodW_byt ⟨k, p, N, z, m, st, sh, T⟩
    obtain ⟨ln, hln⟩ : ∃ ln, 1 + 4 + 4 + 2 + 8 + 4 + (1 + N.size) + (1 + T.size) = ln := ⟨_, rfl⟩
    have hll : ln ≤ 215 := by omega
    have hlg : 25 ≤ ln := by omega
    have hR : hdW ⟨id, true, ⟨k, p, N, z, m, st, sh, T⟩, (p1, p2), ch⟩ = dg 1 1 ++ (dg (ln : Int) 1 ++ (L ++ plW (p1, p2))) := by
      simp only [hdW, if_true]
      rw [hL] at hLl ⊢
      simp only at hLl
      rw [hLl, hln]
    rw [hR]
    have hLm : L.length = ln := by rw [← hL, hLl]; exact hln
    rw [hL] at hLb
    have hPK := fun u => pack_ok k p N z m st sh T u hE hs0 hs1
    rw [hln] at hPK
    rw [show nodeL k p N z m st sh T = L from hL] at hPK
    have HPK := hide hPK
    have hb := below_alloc w (.cells #[.int .i64 id, .bool true, .int .i64 k, .int .i64 p, .string N, .int .i64 z, .int .i64 m, .int .u64 st, .int .i64 sh, .string T, .int .i64 p1, .int .i64 p2, .slice va n vc] 55)
    have HB := hide hb
    have HX : Hid ((w.alloc (.cells #[.int .i64 id, .bool true, .int .i64 k, .int .i64 p, .string N, .int .i64 z, .int .i64 m, .int .u64 st, .int .i64 sh, .string T, .int .i64 p1, .int .i64 p2, .slice va n vc] 55)).heap[w.heap.size]? = some (.cells #[.int .i64 id, .bool true, .int .i64 k, .int .i64 p, .string N, .int .i64 z, .int .i64 m, .int .u64 st, .int .i64 sh, .string T, .int .i64 p1, .int .i64 p2, .slice va n vc] 55 (0, 0))) := heap_alloc_new w _
    have HL := hide (show laid.length ≤ 100000000000000 by omega)
    have hc4 : ∀ u g, WrA u B q (laid ++ dg 1 1) [g] → Calls Try.prog 26 #[.pointer (some ⟨q, 0, none⟩), .int .i64 1, .int .i64 (ln : Int)] u (WV u B q (laid ++ dg 1 1 ++ dg (ln : Int) 1) [g]) := fun u g h => wwhole_any B q _ [g] 1 ln u h (by rw [List.length_append, dg_length]; omega) (by omega) (by omega) (by omega) (by omega)
    have hc6 : ∀ u g a c, WrA u B q (laid ++ dg 1 1 ++ dg (ln : Int) 1) [g] → Reads u a ln L → Calls Try.prog 47 #[.pointer (some ⟨q, 0, none⟩), .slice a ln c] u (WV u B q (laid ++ dg 1 1 ++ dg (ln : Int) 1 ++ L) []) := fun u g a c h h2 => wrow_any B q _ [g] a ln c L u h (by simp only [List.length_append, dg_length]; omega) (by omega) h2 hLb
    have hc9 : ∀ u, WrA u B q (laid ++ dg 1 1 ++ dg (ln : Int) 1 ++ L) [] → Calls Try.prog 48 #[.pointer (some ⟨q, 0, none⟩), .agg #[.int .i64 p1, .int .i64 p2]] u (WV u B q (laid ++ dg 1 1 ++ dg (ln : Int) 1 ++ L ++ plW (p1, p2)) []) := fun u h => wplace_any B q _ [] (p1, p2) u h (by simp only [List.length_append, dg_length]; omega) hp
    have HC4a := hide hc4
    have HC6a := hide hc6
    have HC9 := hide hc9
    have HWW := hide hW
    clear hW hl he hE h2 hNs hTs hL hLl hln hR hPK hb hc4 hc6 hc9 hp hs0 hs1
    go_enter Try.func28, Try.ntmps28
    go_upto_region 4 with (go_at_call 46; refine (HPK.out _).mono ?_; rintro e u0 ⟨⟨v, rfl, own0⟩, b0⟩; have HO0 := hide own0; have HB0 := hide b0; clear own0 b0)
    obtain ⟨ra, rc, rfl⟩ := own_slice HO0.out
    obtain ⟨gk, hgk⟩ : ∃ gk, ra = some ⟨gk, 0, none⟩ := by
      rcases HO0.out.2 with ⟨hv, h0⟩ | ⟨g, cap, cur, hv, _⟩
      · omega
      · injection hv with hv
        exact ⟨g, hv⟩
    subst hgk
    have hx0 := (HB0.out.block w.heap.size (by simp)).trans HX.out
    have HX0 := hide hx0
    have hs00 : (fun u => u.cell? ⟨w.heap.size, 10, none⟩ = some (.int .i64 p1) ∧ u.cell? ⟨w.heap.size, 11, none⟩ = some (.int .i64 p2)) u0 := ⟨blk_cell hx0 10 rfl, blk_cell hx0 11 rfl⟩
    have hlt := HO0.out.lt gk rfl
    have HW0 := hide (((HWW.out.below HB.out).fresh (HB0.out) hlt.1 hlt.2).below ((drewB u0).mono (Nat.le_refl _)))
    have HKS := hide (Kw.of_below (X := []) hBw (HB.out.trans ((HB0.out.mono (by simp)).trans ((drewB u0).mono (by have := HB0.out.size; simp at this; omega)))))
    have HK0 := hide (Kw.refl B [gk] u0.drew)
    have HRK : Hid (∀ u, Kw B [gk] u0.drew u → Reads u (some ⟨gk, 0, none⟩) ln L) := fun u h => own_bytes (own_at HO0.out (fun k hk => by
      have e : gk = k := by simpa [Value.ownBlock] using hk
      subst e
      exact h.kp _ (List.mem_singleton.2 rfl) hlt.2)) hLm hLb
    have HC4 := hide (fun u h => HC4a.out u gk h)
    have HC6 := hide (fun u h h2 => HC6a.out u gk (some ⟨gk, 0, none⟩) rc h h2)
    clear HC4a HC6a hx0 hlt HO0 HB0 HPK HX HWW HB hLm hLb hll hlg hBw
    refine wp_region_held_drew (S := (fun u => u.cell? ⟨w.heap.size, 10, none⟩ = some (.int .i64 p1) ∧ u.cell? ⟨w.heap.size, 11, none⟩ = some (.int .i64 p2))) (by kernel_rfl) (hs00) (fun hHeld => ?_)
    refine tk 0 ?_
    refine tk 2 ?_
    refine tk 3 ?_
    refine tk 5 ?_
    refine tk 7 ?_
    refine tk 8 ?_
    refine rd 1 (fun K hK => ?_)
    go_simp
    go_at_call 27
    refine (wflag_any B q laid [gk] true _ HW0.out HL.out).mono ?_
    rintro e u1 ⟨rfl, hw1, hk1⟩
    have hx := hk1.oth w.heap.size _ 55 HX0.out (by decide) (by decide)
    have HX1 := hide hx
    have HW1 := hide hw1
    have HK1 := hide (HK0.out.trans hk1)
    have hSnew : (fun u => u.cell? ⟨w.heap.size, 10, none⟩ = some (.int .i64 p1) ∧ u.cell? ⟨w.heap.size, 11, none⟩ = some (.int .i64 p2)) u1 := ⟨blk_cell hx 10 rfl, blk_cell hx 11 rfl⟩
    clear hx hw1 hk1
    go_wp2_with fail
    refine hK.out _ _ hSnew (fun hHeldN => ?_)
    clear hK K hSnew
    clear hHeld
    have hHeld := hHeldN
    clear hHeldN
    try simp only [Act.put, List.setIfInBounds_toArray, List.set_cons_zero, List.set_cons_succ]
    refine rd 4 (fun K hK => ?_)
    go_simp
    go_at_call 26
    refine (HC4.out _ HW1.out).mono ?_
    rintro e u2 ⟨rfl, hw1, hk1⟩
    have hx := hk1.oth w.heap.size _ 55 HX1.out (by decide) (by decide)
    have HX2 := hide hx
    have HW2 := hide hw1
    have HK2 := hide (HK1.out.trans hk1)
    have hSnew : (fun u => u.cell? ⟨w.heap.size, 10, none⟩ = some (.int .i64 p1) ∧ u.cell? ⟨w.heap.size, 11, none⟩ = some (.int .i64 p2)) u2 := ⟨blk_cell hx 10 rfl, blk_cell hx 11 rfl⟩
    clear hx hw1 hk1
    go_wp2_with fail
    refine hK.out _ _ hSnew (fun hHeldN => ?_)
    clear hK K hSnew
    clear hHeld
    have hHeld := hHeldN
    clear hHeldN
    try simp only [Act.put, List.setIfInBounds_toArray, List.set_cons_zero, List.set_cons_succ]
    refine rd 6 (fun K hK => ?_)
    go_simp
    go_at_call 47
    refine (HC6.out _ HW2.out (HRK.out _ HK2.out)).mono ?_
    rintro e u3 ⟨rfl, hw1, hk1⟩
    have hx := hk1.oth w.heap.size _ 55 HX2.out (by decide) (by decide)
    have HX3 := hide hx
    have HW3 := hide hw1
    have HK3 := hide (HK2.out.nil.trans hk1)
    have hSnew : (fun u => u.cell? ⟨w.heap.size, 10, none⟩ = some (.int .i64 p1) ∧ u.cell? ⟨w.heap.size, 11, none⟩ = some (.int .i64 p2)) u3 := ⟨blk_cell hx 10 rfl, blk_cell hx 11 rfl⟩
    clear hx hw1 hk1
    go_wp2_with fail
    refine hK.out _ _ hSnew (fun hHeldN => ?_)
    clear hK K hSnew
    clear hHeld
    have hHeld := hHeldN
    clear hHeldN
    try simp only [Act.put, List.setIfInBounds_toArray, List.set_cons_zero, List.set_cons_succ]
    refine rd 9 (fun K hK => ?_)
    go_simp
    go_at_call 48
    refine (HC9.out _ HW3.out).mono ?_
    rintro e u4 ⟨rfl, hw1, hk1⟩
    have hx := hk1.oth w.heap.size _ 55 HX3.out (by decide) (by decide)
    have HX4 := hide hx
    have HW4 := hide hw1
    have HK4 := hide (HK3.out.trans hk1)
    have hSnew : (fun u => u.cell? ⟨w.heap.size, 10, none⟩ = some (.int .i64 p1) ∧ u.cell? ⟨w.heap.size, 11, none⟩ = some (.int .i64 p2)) u4 := ⟨blk_cell hx 10 rfl, blk_cell hx 11 rfl⟩
    clear hx hw1 hk1
    go_wp2_with fail
    refine hK.out _ _ hSnew (fun hHeldN => ?_)
    clear hK K hSnew
    clear hHeld
    have hHeld := hHeldN
    clear hHeldN
    try simp only [Act.put, List.setIfInBounds_toArray, List.set_cons_zero, List.set_cons_succ]
    refine tk 10 ?_
    refine wpAnyH_done (by kernel_rfl) ?_ _
    clear hHeld
    go_wp2
    go_ret
    refine ⟨rfl, ?_, HKS.out.trans HK4.out⟩
    have hz := HW4.out
    simp only [List.append_assoc] at hz
    exact hz
end Go.Proofs.Ytoaahellfflooaa
