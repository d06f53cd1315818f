/-
  SEAT YteefekhlbillfaaDoor: ImageOwn.
-/
import Derived.Test.YteefekhlbillfaaDoorZf
namespace Go.Proofs.YteefekhlbillfaaDoor
open Go.RowKit
set_option linter.unusedVariables false

abbrev imb (b p s bk off n c mb mo k c' : Nat) : Array Value := #[.int .i64 (b : Int), .int .i64 (p : Int), .int .i64 (s : Int), .slice (some ⟨bk, off, none⟩) n c, .slice (some ⟨mb, mo, none⟩) k c']
theorem Q0.perm {w W : World} {BX BX' : List (Nat × Array Value × TypeId)} {RA : List (Value × List Int)} {RAM : List (Value × List Bool)} (h : Q0 w W BX RA RAM) (hp : BX.Perm BX') : Q0 w W BX' RA RAM :=
  ⟨h.bel, fun e he => h.bx e (hp.symm.subset he), (hp.pairwise_iff (fun h9 e => h9 e.symm)).1 h.bd, h.la, h.lam⟩
theorem frz5 {w : World} {q : Nat} {cs : Array Value} {t : TypeId} (h : w.heap[q]? = some (.cells cs t (0, 0))) : w.frozen? ⟨q, 0, none⟩ = false ∧ w.frozen? ⟨q, 1, none⟩ = false ∧ w.frozen? ⟨q, 2, none⟩ = false ∧ w.frozen? ⟨q, 3, none⟩ = false ∧ w.frozen? ⟨q, 4, none⟩ = false := by
  refine ⟨?_, ?_, ?_, ?_, ?_⟩ <;> simp [World.frozen?, h]
theorem set5 {w : World} {q : Nat} {x0 x1 x2 x3 x4 : Value} {t : TypeId} (h : w.heap[q]? = some (.cells #[x0, x1, x2, x3, x4] t (0, 0))) (y0 y1 y2 y3 y4 : Value) : ∃ Y, Hid ((((((w.setCell ⟨q, 0, none⟩ y0).setCell ⟨q, 1, none⟩ y1).setCell ⟨q, 2, none⟩ y2).setCell ⟨q, 3, none⟩ y3).setCell ⟨q, 4, none⟩ y4) = Y) ∧ Hid (w.grownBy Y (some q)) ∧ Hid (Y.heap[q]? = some (.cells #[y0, y1, y2, y3, y4] t (0, 0))) :=
  ⟨_, rfl, grownBy_trans (grownBy_trans (grownBy_trans (grownBy_trans (set_grown w _ 0 _) (set_grown _ _ 1 _)) (set_grown _ _ 2 _)) (set_grown _ _ 3 _)) (set_grown _ _ 4 _), blk5_set h _ _ _ _ _⟩
theorem Q0.himg {w W W' : World} {BX : List (Nat × Array Value × TypeId)} {RA : List (Value × List Int)} {RAM : List (Value × List Bool)} {g n cc gm m cm : Nat} {zs : List Int} {bs : List Bool} (h : Hid (Q0 w W BX RA RAM)) (hb : Below W.heap.size W W') (h1 : Own W' W.heap.size g n cc zs) (h2 : OwnB W' W.heap.size gm m cm bs) : Hid (Q0 w W' BX ((.slice (some ⟨g, 0, none⟩) n cc, zs) :: RA) ((.slice (some ⟨gm, 0, none⟩) m cm, bs) :: RAM)) := h.out.img hb h1 h2
theorem Q0.hset0 {w W W' : World} {q : Nat} {cs cs' : Array Value} {t : TypeId} {RA : List (Value × List Int)} {RAM : List (Value × List Bool)} {L2 : List (Nat × Array Value × TypeId)} (h : Hid (Q0 w W ((q, cs, t) :: L2) RA RAM)) (hg : Hid (W.grownBy W' (some q))) (hq : Hid (W'.heap[q]? = some (.cells cs' t (0, 0)))) (h5 : t ≠ 5) (h4 : t ≠ 4) (hw : w.heap.size ≤ q) : Hid (Q0 w W' ((q, cs', t) :: L2) RA RAM) := Q0.setbox [] L2 h.out hg.out hq.out h5 h4 hw
theorem Q0.hset1 {w W W' : World} {q : Nat} {cs cs' : Array Value} {t : TypeId} {RA : List (Value × List Int)} {RAM : List (Value × List Bool)} {L2 : List (Nat × Array Value × TypeId)} {x : Nat × Array Value × TypeId} (h : Hid (Q0 w W (x :: (q, cs, t) :: L2) RA RAM)) (hg : Hid (W.grownBy W' (some q))) (hq : Hid (W'.heap[q]? = some (.cells cs' t (0, 0)))) (h5 : t ≠ 5) (h4 : t ≠ 4) (hw : w.heap.size ≤ q) : Hid (Q0 w W' (x :: (q, cs', t) :: L2) RA RAM) := Q0.setbox [x] L2 h.out hg.out hq.out h5 h4 hw
theorem Q0.hup {w W W' : World} {BX : List (Nat × Array Value × TypeId)} {RA : List (Value × List Int)} {RAM : List (Value × List Bool)} (h : Hid (Q0 w W BX RA RAM)) (hb : Below W.heap.size W W') : Hid (Q0 w W' BX RA RAM) := h.out.up hb
theorem Q2.hup {w W W' : World} {B1 : Nat} {BX : List (Nat × Array Value × TypeId)} {RA : List (Value × List Int)} {RAM : List (Value × List Bool)} {RB : List (Value × List Int)} {RM : List (Value × List Bool)} {RP : List (Value × List Pl)} (h : Hid (Q2 w W B1 BX RA RAM RB RM RP)) (hb : Below W.heap.size W W') : Hid (Q2 w W' B1 BX RA RAM RB RM RP) := h.out.up hb
theorem nums {b p s : Nat} {zs : List Int} {ms : List Bool} {n : Nat} (hM : Img.Ok ⟨b, p, s, zs, ms⟩) (hn : zs.length = n) : 0 < n ∧ n ≤ 144179200 ∧ 0 < b ∧ b ≤ 4096 ∧ chkE (b : Int) (p : Int) (s : Int) n b = 0 := by
  have hf : Fits (b : Int) (p : Int) (s : Int) = true := hM.1
  obtain ⟨q1, q2, q3, q4, q5, q6, q7⟩ := fits_nat hf
  have hL : zs.length = b * p * (256 * s + (54 + 3 * s)) := hM.2.1
  have hN : b * p * (256 * s + (54 + 3 * s)) ≤ 65536 * 2200 := Nat.mul_le_mul (by omega) (by omega)
  have hP : 0 < b * p * (256 * s + (54 + 3 * s)) := Nat.mul_pos (Nat.mul_pos (by omega) (by omega)) (by omega)
  refine ⟨by omega, by omega, by omega, by omega, chk_ok hM hn.symm hM.2.2.1.symm⟩

theorem LiveG.rev {α : Type} {enc : List α → List Value} {e : TypeId} {sz : Nat} {w : World} {B : Nat} {R P : List (Value × List α)} (h : LiveG enc e sz w B R) (hp : R.reverse = P) : LiveG enc e sz w B P := hp ▸ h.perm (List.reverse_perm R).symm
theorem own_k {W : World} {B q K c m : Nat} {xs : List Int} (h : W.ownsRow B 5 1 (.slice (some ⟨q, 0, none⟩) K c) m (encY xs)) : Own W B q K c xs := by
  have h2 := h.2
  rcases h2 with ⟨h0, _⟩ | ⟨g', cap', cur, hv, _⟩
  · cases h0
  · cases hv
    exact h
theorem far21 {v1 v2 : Value} {d : List Pl} (h : List.Pairwise FarG [(v2, d), (v1, d)]) : ∀ g, v1.ownBlock = some g → v2.ownBlock ≠ some g := fun g h1 h2 => by
  have h3 := (List.pairwise_cons.1 h).1 (v1, d) List.mem_cons_self
  exact h3 g h2 h1
theorem rd_lt {w : World} {bk off n : Nat} {zs : List Int} (h : Reads w (some ⟨bk, off, none⟩) n zs) (h0 : 0 < n) : bk < w.heap.size := by
  obtain ⟨b1, o1, e, h1, _⟩ := h.pos h0
  cases e
  exact h1
theorem rdB_lt {w : World} {bk off n : Nat} {zs : List Bool} (h : ReadsB w (some ⟨bk, off, none⟩) n zs) (h0 : 0 < n) : bk < w.heap.size := by
  obtain ⟨b1, o1, e, h1, _⟩ := h.pos h0
  cases e
  exact h1
theorem lo_of {w u : World} {bk mb g n cc gm b cm : Nat} {zs : List Int} {ms : List Bool} (hk : bk < w.heap.size ∧ mb < w.heap.size) (hb : Below w.heap.size w u) (h1 : Own u w.heap.size g n cc zs) (h2 : OwnB u w.heap.size gm b cm ms) : g < u.heap.size ∧ gm < u.heap.size ∧ bk < u.heap.size ∧ mb < u.heap.size ∧ bk ≠ g ∧ bk ≠ gm ∧ mb ≠ g ∧ mb ≠ gm ∧ g ≠ gm ∧ w.heap.size ≤ u.heap.size := by
  have a1 := World.ownsRow.lt h1 g rfl
  have a2 := World.ownsRow.lt h2 gm rfl
  have a3 := hb.size
  obtain ⟨_, c1, k1⟩ := row_blk h1 g rfl
  obtain ⟨_, c2, k2⟩ := row_blk h2 gm rfl
  refine ⟨by omega, by omega, by omega, by omega, by omega, by omega, by omega, by omega, fun e => ?_, by omega⟩
  rw [e, k2] at k1
  injection k1 with k1
  injection k1 with _ h8 _
  cases h8

theorem pack_q {b p s g n cc gm cm : Nat} {zs : List Int} {ms : List Bool} {W : World} {B : Nat} (hM : Img.Ok ⟨b, p, s, zs, ms⟩) (h1 : Own W B g n cc zs) (h2 : OwnB W B gm b cm ms) (ht : Tab W) (P : List Int) (hP : packL ⟨b, p, s, zs, ms⟩ = P) (K : Nat) (hK : P.length = K) :
    Calls Tryd.prog 16 #[.agg #[.int .i64 (b : Int), .int .i64 (p : Int), .int .i64 (s : Int), .slice (some ⟨g, 0, none⟩) n cc, .slice (some ⟨gm, 0, none⟩) b cm]] W fun e w' => ∃ g1 c1, e = .returned (.tuple #[.slice (some ⟨g1, 0, none⟩) K c1, .int .i64 0]) ∧ Own w' W.heap.size g1 K c1 P ∧ Below W.heap.size W w' := by
  subst hP
  subst hK
  exact pack_ok ⟨b, p, s, zs, ms⟩ g 0 n cc (some ⟨gm, 0, none⟩) b cm W hM (h1.all hM.2.2.2) (ownB_all h2) h1.lt.2 (own_le h1).1 (own_le h1).2 ht
theorem cells2 {w : World} {q : Nat} {x0 x1 : Value} {t : TypeId} (h : w.heap[q]? = some (.cells #[x0, x1] t (0, 0))) : w.cell? ⟨q, 0, none⟩ = some x0 ∧ w.cell? ⟨q, 1, none⟩ = some x1 := by
  simp [World.cell?, h]
theorem pg_len (b p s : Nat) (zs : List Int) (x y : Int) : (pgA b p s zs x y).length ≤ zs.length ∧ (pgB b p s zs x y).length ≤ zs.length := by
  unfold pgA pgB
  split
  · simp
    omega
  · simp
theorem pg_byt (b p s : Nat) {zs : List Int} (x y : Int) (h : Byt zs) : Byt (pgA b p s zs x y) ∧ Byt (pgB b p s zs x y) := by
  unfold pgA pgB
  split
  · exact ⟨fun z hz => h z (List.mem_of_mem_drop (List.mem_of_mem_take (List.mem_of_mem_take hz))), fun z hz => h z (List.mem_of_mem_drop (List.mem_of_mem_take (List.mem_of_mem_drop hz)))⟩
  · exact ⟨fun z hz => (by cases hz), fun z hz => (by cases hz)⟩
theorem difD_le {b p s : Nat} {E : Int} {zs zs2 : List Int} {ms ms2 ms9 : List Bool} {zs9 : List Int} (hM : Img.Ok ⟨b, p, s, zs9, ms9⟩) : (difD (b : Int) (p : Int) (s : Int) E zs zs2 ms ms2).length ≤ 1000000 := by
  have hf : Fits (b : Int) (p : Int) (s : Int) = true := hM.1
  obtain ⟨q1, q2, q3, q4, q5, q6, q7⟩ := fits_nat hf
  unfold difD
  split
  · have h1 := dfL_len zs zs2 ms ms2 (256 * (s : Int).toNat + (54 + 3 * (s : Int).toNat)) (p : Int).toNat ((b : Int).toNat * (p : Int).toNat)
    have e1 : (b : Int).toNat = b := Int.toNat_natCast b
    have e2 : (p : Int).toNat = p := Int.toNat_natCast p
    have h2 : (b : Int).toNat * (p : Int).toNat = b * p := by rw [e1, e2]
    omega
  · simp
theorem plRd {W : World} {B n c : Nat} {a : Option Addr} {ps : List Pl} (h : W.ownsRow B 40 2 (.slice a n c) n (flatP ps)) : ReadsP W a n ps := by
  obtain ⟨a9, c9, h9, h8⟩ := ownP_reads h
  cases h9
  exact h8
theorem rowRd {W : World} {B n c : Nat} {a : Option Addr} {xs : List Int} (h : W.ownsRow B 5 1 (.slice a n c) n (xs.map (Value.int .u8))) (hb : Byt xs) : Reads W a n xs := by
  obtain ⟨a9, c9, h9, h8⟩ := own_any h hb
  cases h9
  exact h8

set_option maxHeartbeats 16000000 in
set_option maxRecDepth 100000 in
theorem ownGood (b p s bk off n c mb mo c' : Nat) (zs : List Int) (ms : List Bool) (b2 p2 s2 bk2 off2 n2 c2 mb2 mo2 c2' : Nat) (zs2 : List Int) (ms2 : List Bool) (x y : Int) (w : World) (hM1 : Img.Ok ⟨b, p, s, zs, ms⟩) (hM2 : Img.Ok ⟨b2, p2, s2, zs2, ms2⟩) (hz1 : zs.length = n) (hz2 : zs2.length = n2) (hr1 : Reads w (some ⟨bk, off, none⟩) n zs) (hrm1 : ReadsB w (some ⟨mb, mo, none⟩) b ms) (hr2 : Reads w (some ⟨bk2, off2, none⟩) n2 zs2) (hrm2 : ReadsB w (some ⟨mb2, mo2, none⟩) b2 ms2) (hcc : n ≤ c ∧ c ≤ 9223372036854775807) (hcc2 : n2 ≤ c2 ∧ c2 ≤ 9223372036854775807) (ht : Tab w) :
    Calls Tryd.prog 4 #[.agg #[.int .i64 (b : Int), .int .i64 (p : Int), .int .i64 (s : Int), .slice (some ⟨bk, off, none⟩) n c, .slice (some ⟨mb, mo, none⟩) b c'], .agg #[.int .i64 (b2 : Int), .int .i64 (p2 : Int), .int .i64 (s2 : Int), .slice (some ⟨bk2, off2, none⟩) n2 c2, .slice (some ⟨mb2, mo2, none⟩) b2 c2'], .agg #[.int .i64 x, .int .i64 y]] w fun e w' => e = .returned (.bool true) ∧ Below w.heap.size w w' := by
  obtain ⟨hn0, hnb, hb0, hbb, hE1⟩ := nums hM1 hz1
  obtain ⟨hn20, hnb2, hb20, hbb2, hE2⟩ := nums hM2 hz2
  have HE1 : Hid (chkE (b : Int) (p : Int) (s : Int) n b = 0) := hE1
  have HE2 : Hid (chkE (b2 : Int) (p2 : Int) (s2 : Int) n2 b2 = 0) := hE2
  have HR1 : Hid (Reads w (some ⟨bk, off, none⟩) n zs) := hr1
  have HRM1 : Hid (ReadsB w (some ⟨mb, mo, none⟩) b ms) := hrm1
  have HR2 : Hid (Reads w (some ⟨bk2, off2, none⟩) n2 zs2) := hr2
  have HRM2 : Hid (ReadsB w (some ⟨mb2, mo2, none⟩) b2 ms2) := hrm2
  have HTB : Hid (Tab w) := ht
  have HM1 : Hid (Img.Ok ⟨b, p, s, zs, ms⟩) := hM1
  have HM2 : Hid (Img.Ok ⟨b2, p2, s2, zs2, ms2⟩) := hM2
  have HZ1 : Hid (zs.length = n) := hz1
  have HZ2 : Hid (zs2.length = n2) := hz2
  clear hE1 hE2 hr1 hrm1 hr2 hrm2 ht hM1 hM2 hz1 hz2
  have HQ : Hid (Q0 w (((w.alloc (.cells #[.int .i64 (b : Int), .int .i64 (p : Int), .int .i64 (s : Int), .slice (some ⟨bk, off, none⟩) n c, .slice (some ⟨mb, mo, none⟩) b c'] 30)).alloc (.cells #[.int .i64 (b2 : Int), .int .i64 (p2 : Int), .int .i64 (s2 : Int), .slice (some ⟨bk2, off2, none⟩) n2 c2, .slice (some ⟨mb2, mo2, none⟩) b2 c2'] 30)).alloc (.cells #[.int .i64 x, .int .i64 y] 40)) [((w.heap.size + 2), #[.int .i64 x, .int .i64 y], 40), ((w.heap.size + 1), (imb b2 p2 s2 bk2 off2 n2 c2 mb2 mo2 b2 c2'), 30), (w.heap.size, (imb b p s bk off n c mb mo b c'), 30)] [] []) := by
    have h9 : Q0 w w [] [] [] := ⟨Below.refl _ _, fun e he => (by cases he), List.Pairwise.nil, LiveG.nil _ _, LiveG.nil _ _⟩
    have h8 := ((h9.box #[.int .i64 (b : Int), .int .i64 (p : Int), .int .i64 (s : Int), .slice (some ⟨bk, off, none⟩) n c, .slice (some ⟨mb, mo, none⟩) b c'] 30).box #[.int .i64 (b2 : Int), .int .i64 (p2 : Int), .int .i64 (s2 : Int), .slice (some ⟨bk2, off2, none⟩) n2 c2, .slice (some ⟨mb2, mo2, none⟩) b2 c2'] 30).box #[.int .i64 x, .int .i64 y] 40
    rw [World.size_alloc, World.size_alloc] at h8
    exact h8
  obtain ⟨m0, m1, m2, m3, m4⟩ := cells5 (HQ.out.bx _ (List.mem_cons_of_mem _ (List.mem_cons_of_mem _ List.mem_cons_self)))
  have T1 : Hid True := trivial
  go_enter Tryd.func4, Tryd.ntmps4
  go_upto_region 5 with (first
    | (go_at_call 13; refine (heads_any _ (HTB.out.below HQ.out.bel)).mono ?_; rintro e t0 ⟨rfl, bl⟩
       have HQ0 : Hid (Q0 w t0 [((w.heap.size + 2), #[.int .i64 x, .int .i64 y], 40), ((w.heap.size + 1), (imb b2 p2 s2 bk2 off2 n2 c2 mb2 mo2 b2 c2'), 30), (w.heap.size, (imb b p s bk off n c mb mo b c'), 30)] [] []) := HQ.out.up bl
       clear bl HQ m0 m1 m2 m3 m4
       obtain ⟨m0, m1, m2, m3, m4⟩ := cells5 (HQ0.out.bx _ (List.mem_cons_of_mem _ (List.mem_cons_of_mem _ List.mem_cons_self))))
    | (go_at_call 14; have zz := T1; clear T1 zz; refine (check_any (b : Int) (p : Int) (s : Int) _ _ n _ b _ _ (by omega) (by omega)).mono ?_; rintro e t1 ⟨rfl, bl⟩; rw [HE1.out]
       have HQ1 : Hid (Q0 w t1 [((w.heap.size + 2), #[.int .i64 x, .int .i64 y], 40), ((w.heap.size + 1), (imb b2 p2 s2 bk2 off2 n2 c2 mb2 mo2 b2 c2'), 30), (w.heap.size, (imb b p s bk off n c mb mo b c'), 30)] [] []) := HQ0.out.up bl
       clear bl HQ0 m0 m1 m2 m3 m4
       obtain ⟨m0, m1, m2, m3, m4⟩ := cells5 (HQ1.out.bx _ (List.mem_cons_of_mem _ List.mem_cons_self)))
    | (go_at_call 14; refine (check_any (b2 : Int) (p2 : Int) (s2 : Int) _ _ n2 _ b2 _ _ (by omega) (by omega)).mono ?_; rintro e t2 ⟨rfl, bl⟩; rw [HE2.out]
       have HQ2 : Hid (Q0 w t2 [((w.heap.size + 2), #[.int .i64 x, .int .i64 y], 40), ((w.heap.size + 1), (imb b2 p2 s2 bk2 off2 n2 c2 mb2 mo2 b2 c2'), 30), (w.heap.size, (imb b p s bk off n c mb mo b c'), 30)] [] []) := HQ1.out.up bl
       clear bl HQ1 m0 m1 m2 m3 m4)
    | (go_at_call 10; refine (no_any _ _).mono ?_; rintro e u9 ⟨rfl, h9⟩; rw [h9]; clear h9))
  apply cut_way (F := (fun W pa pb g cc gm cm h dc hm dm => Q0 w W [(pb, (imb b2 p2 s2 h 0 n2 dc hm 0 b2 dm), 30), (pa, (imb b p s g 0 n cc gm 0 b cm), 30), ((w.heap.size + 2), #[.int .i64 x, .int .i64 y], 40), ((w.heap.size + 1), (imb b2 p2 s2 bk2 off2 n2 c2 mb2 mo2 b2 c2'), 30), (w.heap.size, (imb b p s bk off n c mb mo b c'), 30)] [((.slice (some ⟨h, 0, none⟩) n2 dc), zs2), ((.slice (some ⟨g, 0, none⟩) n cc), zs)] [((.slice (some ⟨hm, 0, none⟩) b2 dm), ms2), ((.slice (some ⟨gm, 0, none⟩) b cm), ms)]))
  case h1 =>
    intro HC
    refine wp_region_held_drew (S := (fun yy : World => (yy.cell? ⟨w.heap.size, 0, none⟩ = some (.int .i64 (b : Int)) ∧ yy.cell? ⟨w.heap.size, 1, none⟩ = some (.int .i64 (p : Int)) ∧ yy.cell? ⟨w.heap.size, 2, none⟩ = some (.int .i64 (s : Int)) ∧ yy.cell? ⟨w.heap.size, 3, none⟩ = some (.slice (some ⟨bk, off, none⟩) n c) ∧ yy.cell? ⟨w.heap.size, 4, none⟩ = some (.slice (some ⟨mb, mo, none⟩) b c')) ∧ (yy.cell? ⟨w.heap.size + 1, 0, none⟩ = some (.int .i64 (b2 : Int)) ∧ yy.cell? ⟨w.heap.size + 1, 1, none⟩ = some (.int .i64 (p2 : Int)) ∧ yy.cell? ⟨w.heap.size + 1, 2, none⟩ = some (.int .i64 (s2 : Int)) ∧ yy.cell? ⟨w.heap.size + 1, 3, none⟩ = some (.slice (some ⟨bk2, off2, none⟩) n2 c2) ∧ yy.cell? ⟨w.heap.size + 1, 4, none⟩ = some (.slice (some ⟨mb2, mo2, none⟩) b2 c2')))) (by kernel_rfl) (And.intro (cells5 (HQ2.out.bx _ (List.mem_cons_of_mem _ (List.mem_cons_of_mem _ List.mem_cons_self)))) (cells5 (HQ2.out.bx _ (List.mem_cons_of_mem _ List.mem_cons_self)))) (fun hHeld => ?_)
    have HX : Hid (Q0 w t2.drew [((w.heap.size + 2), #[.int .i64 x, .int .i64 y], 40), ((w.heap.size + 1), (imb b2 p2 s2 bk2 off2 n2 c2 mb2 mo2 b2 c2'), 30), (w.heap.size, (imb b p s bk off n c mb mo b c'), 30)] [] []) := HQ2.out.up (Below.refl _ _).drew
    obtain ⟨X, hX⟩ : ∃ X, t2.drew = X := ⟨_, rfl⟩
    rw [hX] at HX hHeld ⊢
    clear hX
    refine wpAnyH_take (i := 0) (oi := { dst := some 43, op := Op.load 30 (Operand.tmp 3), type := 30, pos := "own.go:108", after := #[], guard := none }) (v := ?v0p) rfl (by kernel_rfl) (by kernel_rfl) (by kernel_rfl) (fun _ _ _ h => h) (Or.inl ⟨by rfl, ?y0p⟩) (by assumption) ?r0p
    case y0p => (intro xx hxx; (try dsimp only at hxx); go_simp; try with_reducible rfl)
    try simp only [Act.put, List.setIfInBounds_toArray, List.set_cons_zero, List.set_cons_succ]
    refine wpAnyH_take (i := 2) (oi := { dst := some 45, op := Op.load 30 (Operand.tmp 4), type := 30, pos := "own.go:108", after := #[], guard := none }) (v := ?v2p) rfl (by kernel_rfl) (by kernel_rfl) (by kernel_rfl) (fun _ _ _ h => h) (Or.inl ⟨by rfl, ?y2p⟩) (by assumption) ?r2p
    case y2p => (intro xx hxx; (try dsimp only at hxx); go_simp; try with_reducible rfl)
    try simp only [Act.put, List.setIfInBounds_toArray, List.set_cons_zero, List.set_cons_succ]
    refine wpAnyH_ready (rs := [1, 4, 5]) (by kernel_rfl) (by simp) ?_
    refine (AllReadyH.cons (o := { dst := some 44, op := Op.call { callee := Callee.value (Operand.func 15), args := #[Operand.tmp 43], argTypes := #[30] }, type := 30, pos := "own.go:108", after := #[{ on := 0, ground := Ground.data }], guard := none }) rfl (fun K hK => ?_) (AllReadyH.cons (o := { dst := some 7, op := Op.alloc 30, type := 0, pos := "own.go:108", after := #[], guard := none }) rfl (fun K hK => ?_) (AllReadyH.cons (o := { dst := some 8, op := Op.alloc 30, type := 0, pos := "own.go:108", after := #[], guard := none }) rfl (fun K hK => ?_) AllReadyH.nil)))
    · go_simp
      go_at_call 15
      refine (copied_any (b : Int) (p : Int) (s : Int) bk off n c mb mo b c' zs ms _ (by omega) (by omega) (HR1.out.below HX.out.bel) (HRM1.out.below HX.out.bel) hn0 hb0).mono ?_
      rintro e Y ⟨g, cc, gm, cm, rfl, h1, h2, bl⟩
      have HY := Q0.himg HX bl h1 h2
      clear h1 h2 bl
      have hSnew := And.intro (cells5 (HY.out.bx _ (List.mem_cons_of_mem _ (List.mem_cons_of_mem _ List.mem_cons_self)))) (cells5 (HY.out.bx _ (List.mem_cons_of_mem _ List.mem_cons_self)))
      go_wp2_with fail
      refine hK.out _ _ hSnew (fun hHeld1 => ?_)
      clear hK K hSnew
      clear hHeld
      have hHeld := hHeld1
      clear hHeld1
      try simp only [Act.put, List.setIfInBounds_toArray, List.set_cons_zero, List.set_cons_succ]
      clear HX X
      obtain ⟨X, hX⟩ : ∃ X, X = Y := ⟨_, rfl⟩
      subst hX
      have HX := HY
      clear HY
      refine wpAnyH_ready (rs := [3, 4, 5]) (by kernel_rfl) (by simp) ?_
      refine (AllReadyH.cons (o := { dst := some 46, op := Op.call { callee := Callee.value (Operand.func 15), args := #[Operand.tmp 45], argTypes := #[30] }, type := 30, pos := "own.go:108", after := #[{ on := 2, ground := Ground.data }, { on := 1, ground := Ground.chain }], guard := none }) rfl (fun K hK => ?_) (AllReadyH.cons (o := { dst := some 7, op := Op.alloc 30, type := 0, pos := "own.go:108", after := #[], guard := none }) rfl (fun K hK => ?_) (AllReadyH.cons (o := { dst := some 8, op := Op.alloc 30, type := 0, pos := "own.go:108", after := #[], guard := none }) rfl (fun K hK => ?_) AllReadyH.nil)))
      · go_simp
        go_at_call 15
        refine (copied_any (b2 : Int) (p2 : Int) (s2 : Int) bk2 off2 n2 c2 mb2 mo2 b2 c2' zs2 ms2 _ (by omega) (by omega) (HR2.out.below HX.out.bel) (HRM2.out.below HX.out.bel) hn20 hb20).mono ?_
        rintro e Y ⟨h, dc, hm, dm, rfl, h1, h2, bl⟩
        have HY := Q0.himg HX bl h1 h2
        clear h1 h2 bl
        have hSnew := And.intro (cells5 (HY.out.bx _ (List.mem_cons_of_mem _ (List.mem_cons_of_mem _ List.mem_cons_self)))) (cells5 (HY.out.bx _ (List.mem_cons_of_mem _ List.mem_cons_self)))
        go_wp2_with fail
        refine hK.out _ _ hSnew (fun hHeld3 => ?_)
        clear hK K hSnew
        clear hHeld
        have hHeld := hHeld3
        clear hHeld3
        try simp only [Act.put, List.setIfInBounds_toArray, List.set_cons_zero, List.set_cons_succ]
        clear HX X
        obtain ⟨X, hX⟩ : ∃ X, X = Y := ⟨_, rfl⟩
        subst hX
        have HX := HY
        clear HY
        refine wpAnyH_ready (rs := [4, 5]) (by kernel_rfl) (by simp) ?_
        refine (AllReadyH.cons (o := { dst := some 7, op := Op.alloc 30, type := 0, pos := "own.go:108", after := #[], guard := none }) rfl (fun K hK => ?_) (AllReadyH.cons (o := { dst := some 8, op := Op.alloc 30, type := 0, pos := "own.go:108", after := #[], guard := none }) rfl (fun K hK => ?_) AllReadyH.nil))
        · go_simp
          go_wp2_with fail
          obtain ⟨Y, hY⟩ : ∃ Y, X.alloc (.cells #[.int .i64 0, .int .i64 0, .int .i64 0, .slice none 0 0, .slice none 0 0] 30) = Y := ⟨_, rfl⟩
          obtain ⟨pa, hpa⟩ : ∃ q, X.heap.size = q := ⟨_, rfl⟩
          have HY : Hid (Q0 w Y [(pa, #[.int .i64 0, .int .i64 0, .int .i64 0, .slice none 0 0, .slice none 0 0], 30), ((w.heap.size + 2), #[.int .i64 x, .int .i64 y], 40), ((w.heap.size + 1), (imb b2 p2 s2 bk2 off2 n2 c2 mb2 mo2 b2 c2'), 30), (w.heap.size, (imb b p s bk off n c mb mo b c'), 30)] [((.slice (some ⟨h, 0, none⟩) n2 dc), zs2), ((.slice (some ⟨g, 0, none⟩) n cc), zs)] [((.slice (some ⟨hm, 0, none⟩) b2 dm), ms2), ((.slice (some ⟨gm, 0, none⟩) b cm), ms)]) := by unfold Hid; rw [← hpa, ← hY]; exact HX.out.box _ _
          have Gpa : Hid (w.heap.size ≤ pa) := by unfold Hid; rw [← hpa]; exact HX.out.bel.size
          rw [hY]
          (try rw [hpa])
          clear hY
          have hSnew := And.intro (cells5 (HY.out.bx _ (List.mem_cons_of_mem _ (List.mem_cons_of_mem _ (List.mem_cons_of_mem _ List.mem_cons_self))))) (cells5 (HY.out.bx _ (List.mem_cons_of_mem _ (List.mem_cons_of_mem _ List.mem_cons_self))))
          refine hK.out _ _ hSnew (fun hHeld4 => ?_)
          clear hK K hSnew
          clear hHeld
          have hHeld := hHeld4
          clear hHeld4
          try simp only [Act.put, List.setIfInBounds_toArray, List.set_cons_zero, List.set_cons_succ]
          (try rw [hpa])
          clear hpa
          clear HX X
          obtain ⟨X, hX⟩ : ∃ X, X = Y := ⟨_, rfl⟩
          subst hX
          have HX := HY
          clear HY
          refine wpAnyH_ready (rs := [5]) (by kernel_rfl) (by simp) ?_
          refine (AllReadyH.cons (o := { dst := some 8, op := Op.alloc 30, type := 0, pos := "own.go:108", after := #[], guard := none }) rfl (fun K hK => ?_) AllReadyH.nil)
          go_simp
          go_wp2_with fail
          obtain ⟨Y, hY⟩ : ∃ Y, X.alloc (.cells #[.int .i64 0, .int .i64 0, .int .i64 0, .slice none 0 0, .slice none 0 0] 30) = Y := ⟨_, rfl⟩
          obtain ⟨pb, hpb⟩ : ∃ q, X.heap.size = q := ⟨_, rfl⟩
          have HY : Hid (Q0 w Y [(pb, #[.int .i64 0, .int .i64 0, .int .i64 0, .slice none 0 0, .slice none 0 0], 30), (pa, #[.int .i64 0, .int .i64 0, .int .i64 0, .slice none 0 0, .slice none 0 0], 30), ((w.heap.size + 2), #[.int .i64 x, .int .i64 y], 40), ((w.heap.size + 1), (imb b2 p2 s2 bk2 off2 n2 c2 mb2 mo2 b2 c2'), 30), (w.heap.size, (imb b p s bk off n c mb mo b c'), 30)] [((.slice (some ⟨h, 0, none⟩) n2 dc), zs2), ((.slice (some ⟨g, 0, none⟩) n cc), zs)] [((.slice (some ⟨hm, 0, none⟩) b2 dm), ms2), ((.slice (some ⟨gm, 0, none⟩) b cm), ms)]) := by unfold Hid; rw [← hpb, ← hY]; exact HX.out.box _ _
          have Gpb : Hid (w.heap.size ≤ pb) := by unfold Hid; rw [← hpb]; exact HX.out.bel.size
          rw [hY]
          (try rw [hpb])
          clear hY
          have hSnew := And.intro (cells5 (HY.out.bx _ (List.mem_cons_of_mem _ (List.mem_cons_of_mem _ (List.mem_cons_of_mem _ (List.mem_cons_of_mem _ List.mem_cons_self)))))) (cells5 (HY.out.bx _ (List.mem_cons_of_mem _ (List.mem_cons_of_mem _ (List.mem_cons_of_mem _ List.mem_cons_self)))))
          refine hK.out _ _ hSnew (fun hHeld5 => ?_)
          clear hK K hSnew
          clear hHeld
          have hHeld := hHeld5
          clear hHeld5
          try simp only [Act.put, List.setIfInBounds_toArray, List.set_cons_zero, List.set_cons_succ]
          (try rw [hpb])
          clear hpb
          clear HX X
          obtain ⟨X, hX⟩ : ∃ X, X = Y := ⟨_, rfl⟩
          subst hX
          have HX := HY
          clear HY
          obtain ⟨e0, e1, e2, e3, e4⟩ := cells5 (HX.out.bx _ (List.mem_cons_of_mem _ List.mem_cons_self))
          obtain ⟨ef0, ef1, ef2, ef3, ef4⟩ := frz5 (HX.out.bx _ (List.mem_cons_of_mem _ List.mem_cons_self))
          obtain ⟨Y, hY, HG, HN⟩ := set5 (HX.out.bx (pa, #[.int .i64 0, .int .i64 0, .int .i64 0, .slice none 0 0, .slice none 0 0], 30) (List.mem_cons_of_mem _ List.mem_cons_self)) (.int .i64 (b : Int)) (.int .i64 (p : Int)) (.int .i64 (s : Int)) (.slice (some ⟨g, 0, none⟩) n cc) (.slice (some ⟨gm, 0, none⟩) b cm)
          refine wpAnyH_ready (rs := [6]) (by kernel_rfl) (by simp) ?_
          refine AllReadyH.cons (o := { dst := none, op := Op.store 30 (Operand.tmp 7) (Operand.tmp 44), type := 0, pos := "own.go:108", after := #[{ on := 4, ground := Ground.data }, { on := 1, ground := Ground.data }, { on := 3, ground := Ground.chain }, { on := 0, ground := Ground.phase }, { on := 1, ground := Ground.phase }, { on := 2, ground := Ground.textOnly Departure.lateStores }, { on := 3, ground := Ground.textOnly Departure.lateStoresUnsure }, { on := 4, ground := Ground.phase }, { on := 5, ground := Ground.phase }], guard := none }) rfl (fun K hK => ?_) AllReadyH.nil
          go_simp
          go_wp2_with fail
          rw [hY.out]
          clear hY
          have HY := Q0.hset1 (cs' := (imb b p s g 0 n cc gm 0 b cm)) HX HG HN (by decide) (by decide) Gpa.out
          clear HG HN e0 e1 e2 e3 e4 ef0 ef1 ef2 ef3 ef4
          have hSnew := And.intro (cells5 (HY.out.bx _ (List.mem_cons_of_mem _ (List.mem_cons_of_mem _ (List.mem_cons_of_mem _ (List.mem_cons_of_mem _ List.mem_cons_self)))))) (cells5 (HY.out.bx _ (List.mem_cons_of_mem _ (List.mem_cons_of_mem _ (List.mem_cons_of_mem _ List.mem_cons_self)))))
          refine hK.out _ _ hSnew (fun hHeld6 => ?_)
          clear hK K hSnew
          clear hHeld
          have hHeld := hHeld6
          clear hHeld6
          try simp only [Act.put, List.setIfInBounds_toArray, List.set_cons_zero, List.set_cons_succ]
          clear HX X
          obtain ⟨X, hX⟩ : ∃ X, X = Y := ⟨_, rfl⟩
          subst hX
          have HX := HY
          clear HY
          obtain ⟨e0, e1, e2, e3, e4⟩ := cells5 (HX.out.bx _ List.mem_cons_self)
          obtain ⟨ef0, ef1, ef2, ef3, ef4⟩ := frz5 (HX.out.bx _ List.mem_cons_self)
          obtain ⟨Y, hY, HG, HN⟩ := set5 (HX.out.bx (pb, #[.int .i64 0, .int .i64 0, .int .i64 0, .slice none 0 0, .slice none 0 0], 30) List.mem_cons_self) (.int .i64 (b2 : Int)) (.int .i64 (p2 : Int)) (.int .i64 (s2 : Int)) (.slice (some ⟨h, 0, none⟩) n2 dc) (.slice (some ⟨hm, 0, none⟩) b2 dm)
          refine wpAnyH_ready (rs := [7]) (by kernel_rfl) (by simp) ?_
          refine AllReadyH.cons (o := { dst := none, op := Op.store 30 (Operand.tmp 8) (Operand.tmp 46), type := 0, pos := "own.go:108", after := #[{ on := 5, ground := Ground.data }, { on := 3, ground := Ground.data }, { on := 6, ground := Ground.chain }, { on := 0, ground := Ground.phase }, { on := 1, ground := Ground.phase }, { on := 2, ground := Ground.phase }, { on := 3, ground := Ground.phase }, { on := 4, ground := Ground.phase }, { on := 5, ground := Ground.phase }, { on := 6, ground := Ground.phase }], guard := none }) rfl (fun K hK => ?_) AllReadyH.nil
          go_simp
          go_wp2_with fail
          rw [hY.out]
          clear hY
          have HY := Q0.hset0 (cs' := (imb b2 p2 s2 h 0 n2 dc hm 0 b2 dm)) HX HG HN (by decide) (by decide) Gpb.out
          clear HG HN e0 e1 e2 e3 e4 ef0 ef1 ef2 ef3 ef4
          have hSnew := And.intro (cells5 (HY.out.bx _ (List.mem_cons_of_mem _ (List.mem_cons_of_mem _ (List.mem_cons_of_mem _ (List.mem_cons_of_mem _ List.mem_cons_self)))))) (cells5 (HY.out.bx _ (List.mem_cons_of_mem _ (List.mem_cons_of_mem _ (List.mem_cons_of_mem _ List.mem_cons_self)))))
          refine hK.out _ _ hSnew (fun hHeld7 => ?_)
          clear hK K hSnew
          clear hHeld
          have hHeld := hHeld7
          clear hHeld7
          try simp only [Act.put, List.setIfInBounds_toArray, List.set_cons_zero, List.set_cons_succ]
          clear HX X
          obtain ⟨X, hX⟩ : ∃ X, X = Y := ⟨_, rfl⟩
          subst hX
          have HX := HY
          clear HY
          refine wpAnyH_done (by kernel_rfl) ?_ _
          clear hHeld
          exact HC X pa pb g cc gm cm h dc hm dm HX.out
        · go_simp
          go_wp2_with fail
          obtain ⟨Y, hY⟩ : ∃ Y, X.alloc (.cells #[.int .i64 0, .int .i64 0, .int .i64 0, .slice none 0 0, .slice none 0 0] 30) = Y := ⟨_, rfl⟩
          obtain ⟨pb, hpb⟩ : ∃ q, X.heap.size = q := ⟨_, rfl⟩
          have HY : Hid (Q0 w Y [(pb, #[.int .i64 0, .int .i64 0, .int .i64 0, .slice none 0 0, .slice none 0 0], 30), ((w.heap.size + 2), #[.int .i64 x, .int .i64 y], 40), ((w.heap.size + 1), (imb b2 p2 s2 bk2 off2 n2 c2 mb2 mo2 b2 c2'), 30), (w.heap.size, (imb b p s bk off n c mb mo b c'), 30)] [((.slice (some ⟨h, 0, none⟩) n2 dc), zs2), ((.slice (some ⟨g, 0, none⟩) n cc), zs)] [((.slice (some ⟨hm, 0, none⟩) b2 dm), ms2), ((.slice (some ⟨gm, 0, none⟩) b cm), ms)]) := by unfold Hid; rw [← hpb, ← hY]; exact HX.out.box _ _
          have Gpb : Hid (w.heap.size ≤ pb) := by unfold Hid; rw [← hpb]; exact HX.out.bel.size
          rw [hY]
          (try rw [hpb])
          clear hY
          have hSnew := And.intro (cells5 (HY.out.bx _ (List.mem_cons_of_mem _ (List.mem_cons_of_mem _ (List.mem_cons_of_mem _ List.mem_cons_self))))) (cells5 (HY.out.bx _ (List.mem_cons_of_mem _ (List.mem_cons_of_mem _ List.mem_cons_self))))
          refine hK.out _ _ hSnew (fun hHeld5 => ?_)
          clear hK K hSnew
          clear hHeld
          have hHeld := hHeld5
          clear hHeld5
          try simp only [Act.put, List.setIfInBounds_toArray, List.set_cons_zero, List.set_cons_succ]
          (try rw [hpb])
          clear hpb
          clear HX X
          obtain ⟨X, hX⟩ : ∃ X, X = Y := ⟨_, rfl⟩
          subst hX
          have HX := HY
          clear HY
          refine wpAnyH_ready (rs := [4]) (by kernel_rfl) (by simp) ?_
          refine (AllReadyH.cons (o := { dst := some 7, op := Op.alloc 30, type := 0, pos := "own.go:108", after := #[], guard := none }) rfl (fun K hK => ?_) AllReadyH.nil)
          go_simp
          go_wp2_with fail
          obtain ⟨Y, hY⟩ : ∃ Y, X.alloc (.cells #[.int .i64 0, .int .i64 0, .int .i64 0, .slice none 0 0, .slice none 0 0] 30) = Y := ⟨_, rfl⟩
          obtain ⟨pa, hpa⟩ : ∃ q, X.heap.size = q := ⟨_, rfl⟩
          have HY : Hid (Q0 w Y [(pa, #[.int .i64 0, .int .i64 0, .int .i64 0, .slice none 0 0, .slice none 0 0], 30), (pb, #[.int .i64 0, .int .i64 0, .int .i64 0, .slice none 0 0, .slice none 0 0], 30), ((w.heap.size + 2), #[.int .i64 x, .int .i64 y], 40), ((w.heap.size + 1), (imb b2 p2 s2 bk2 off2 n2 c2 mb2 mo2 b2 c2'), 30), (w.heap.size, (imb b p s bk off n c mb mo b c'), 30)] [((.slice (some ⟨h, 0, none⟩) n2 dc), zs2), ((.slice (some ⟨g, 0, none⟩) n cc), zs)] [((.slice (some ⟨hm, 0, none⟩) b2 dm), ms2), ((.slice (some ⟨gm, 0, none⟩) b cm), ms)]) := by unfold Hid; rw [← hpa, ← hY]; exact HX.out.box _ _
          have Gpa : Hid (w.heap.size ≤ pa) := by unfold Hid; rw [← hpa]; exact HX.out.bel.size
          rw [hY]
          (try rw [hpa])
          clear hY
          have hSnew := And.intro (cells5 (HY.out.bx _ (List.mem_cons_of_mem _ (List.mem_cons_of_mem _ (List.mem_cons_of_mem _ (List.mem_cons_of_mem _ List.mem_cons_self)))))) (cells5 (HY.out.bx _ (List.mem_cons_of_mem _ (List.mem_cons_of_mem _ (List.mem_cons_of_mem _ List.mem_cons_self)))))
          refine hK.out _ _ hSnew (fun hHeld4 => ?_)
          clear hK K hSnew
          clear hHeld
          have hHeld := hHeld4
          clear hHeld4
          try simp only [Act.put, List.setIfInBounds_toArray, List.set_cons_zero, List.set_cons_succ]
          (try rw [hpa])
          clear hpa
          clear HX X
          obtain ⟨X, hX⟩ : ∃ X, X = Y := ⟨_, rfl⟩
          subst hX
          have HX := HY
          clear HY
          obtain ⟨e0, e1, e2, e3, e4⟩ := cells5 (HX.out.bx _ List.mem_cons_self)
          obtain ⟨ef0, ef1, ef2, ef3, ef4⟩ := frz5 (HX.out.bx _ List.mem_cons_self)
          obtain ⟨Y, hY, HG, HN⟩ := set5 (HX.out.bx (pa, #[.int .i64 0, .int .i64 0, .int .i64 0, .slice none 0 0, .slice none 0 0], 30) List.mem_cons_self) (.int .i64 (b : Int)) (.int .i64 (p : Int)) (.int .i64 (s : Int)) (.slice (some ⟨g, 0, none⟩) n cc) (.slice (some ⟨gm, 0, none⟩) b cm)
          refine wpAnyH_ready (rs := [6]) (by kernel_rfl) (by simp) ?_
          refine AllReadyH.cons (o := { dst := none, op := Op.store 30 (Operand.tmp 7) (Operand.tmp 44), type := 0, pos := "own.go:108", after := #[{ on := 4, ground := Ground.data }, { on := 1, ground := Ground.data }, { on := 3, ground := Ground.chain }, { on := 0, ground := Ground.phase }, { on := 1, ground := Ground.phase }, { on := 2, ground := Ground.textOnly Departure.lateStores }, { on := 3, ground := Ground.textOnly Departure.lateStoresUnsure }, { on := 4, ground := Ground.phase }, { on := 5, ground := Ground.phase }], guard := none }) rfl (fun K hK => ?_) AllReadyH.nil
          go_simp
          go_wp2_with fail
          rw [hY.out]
          clear hY
          have HY := Q0.hset0 (cs' := (imb b p s g 0 n cc gm 0 b cm)) HX HG HN (by decide) (by decide) Gpa.out
          clear HG HN e0 e1 e2 e3 e4 ef0 ef1 ef2 ef3 ef4
          have hSnew := And.intro (cells5 (HY.out.bx _ (List.mem_cons_of_mem _ (List.mem_cons_of_mem _ (List.mem_cons_of_mem _ (List.mem_cons_of_mem _ List.mem_cons_self)))))) (cells5 (HY.out.bx _ (List.mem_cons_of_mem _ (List.mem_cons_of_mem _ (List.mem_cons_of_mem _ List.mem_cons_self)))))
          refine hK.out _ _ hSnew (fun hHeld6 => ?_)
          clear hK K hSnew
          clear hHeld
          have hHeld := hHeld6
          clear hHeld6
          try simp only [Act.put, List.setIfInBounds_toArray, List.set_cons_zero, List.set_cons_succ]
          clear HX X
          obtain ⟨X, hX⟩ : ∃ X, X = Y := ⟨_, rfl⟩
          subst hX
          have HX := HY
          clear HY
          obtain ⟨e0, e1, e2, e3, e4⟩ := cells5 (HX.out.bx _ (List.mem_cons_of_mem _ List.mem_cons_self))
          obtain ⟨ef0, ef1, ef2, ef3, ef4⟩ := frz5 (HX.out.bx _ (List.mem_cons_of_mem _ List.mem_cons_self))
          obtain ⟨Y, hY, HG, HN⟩ := set5 (HX.out.bx (pb, #[.int .i64 0, .int .i64 0, .int .i64 0, .slice none 0 0, .slice none 0 0], 30) (List.mem_cons_of_mem _ List.mem_cons_self)) (.int .i64 (b2 : Int)) (.int .i64 (p2 : Int)) (.int .i64 (s2 : Int)) (.slice (some ⟨h, 0, none⟩) n2 dc) (.slice (some ⟨hm, 0, none⟩) b2 dm)
          refine wpAnyH_ready (rs := [7]) (by kernel_rfl) (by simp) ?_
          refine AllReadyH.cons (o := { dst := none, op := Op.store 30 (Operand.tmp 8) (Operand.tmp 46), type := 0, pos := "own.go:108", after := #[{ on := 5, ground := Ground.data }, { on := 3, ground := Ground.data }, { on := 6, ground := Ground.chain }, { on := 0, ground := Ground.phase }, { on := 1, ground := Ground.phase }, { on := 2, ground := Ground.phase }, { on := 3, ground := Ground.phase }, { on := 4, ground := Ground.phase }, { on := 5, ground := Ground.phase }, { on := 6, ground := Ground.phase }], guard := none }) rfl (fun K hK => ?_) AllReadyH.nil
          go_simp
          go_wp2_with fail
          rw [hY.out]
          clear hY
          have HY := Q0.hset1 (cs' := (imb b2 p2 s2 h 0 n2 dc hm 0 b2 dm)) HX HG HN (by decide) (by decide) Gpb.out
          clear HG HN e0 e1 e2 e3 e4 ef0 ef1 ef2 ef3 ef4
          have hSnew := And.intro (cells5 (HY.out.bx _ (List.mem_cons_of_mem _ (List.mem_cons_of_mem _ (List.mem_cons_of_mem _ (List.mem_cons_of_mem _ List.mem_cons_self)))))) (cells5 (HY.out.bx _ (List.mem_cons_of_mem _ (List.mem_cons_of_mem _ (List.mem_cons_of_mem _ List.mem_cons_self)))))
          refine hK.out _ _ hSnew (fun hHeld7 => ?_)
          clear hK K hSnew
          clear hHeld
          have hHeld := hHeld7
          clear hHeld7
          try simp only [Act.put, List.setIfInBounds_toArray, List.set_cons_zero, List.set_cons_succ]
          clear HX X
          obtain ⟨X, hX⟩ : ∃ X, X = Y := ⟨_, rfl⟩
          subst hX
          have HX := HY
          clear HY
          refine wpAnyH_done (by kernel_rfl) ?_ _
          clear hHeld
          exact HC X pa pb g cc gm cm h dc hm dm (HX.out.perm (List.Perm.swap _ _ _))
      · go_simp
        go_wp2_with fail
        obtain ⟨Y, hY⟩ : ∃ Y, X.alloc (.cells #[.int .i64 0, .int .i64 0, .int .i64 0, .slice none 0 0, .slice none 0 0] 30) = Y := ⟨_, rfl⟩
        obtain ⟨pa, hpa⟩ : ∃ q, X.heap.size = q := ⟨_, rfl⟩
        have HY : Hid (Q0 w Y [(pa, #[.int .i64 0, .int .i64 0, .int .i64 0, .slice none 0 0, .slice none 0 0], 30), ((w.heap.size + 2), #[.int .i64 x, .int .i64 y], 40), ((w.heap.size + 1), (imb b2 p2 s2 bk2 off2 n2 c2 mb2 mo2 b2 c2'), 30), (w.heap.size, (imb b p s bk off n c mb mo b c'), 30)] [((.slice (some ⟨g, 0, none⟩) n cc), zs)] [((.slice (some ⟨gm, 0, none⟩) b cm), ms)]) := by unfold Hid; rw [← hpa, ← hY]; exact HX.out.box _ _
        have Gpa : Hid (w.heap.size ≤ pa) := by unfold Hid; rw [← hpa]; exact HX.out.bel.size
        rw [hY]
        (try rw [hpa])
        clear hY
        have hSnew := And.intro (cells5 (HY.out.bx _ (List.mem_cons_of_mem _ (List.mem_cons_of_mem _ (List.mem_cons_of_mem _ List.mem_cons_self))))) (cells5 (HY.out.bx _ (List.mem_cons_of_mem _ (List.mem_cons_of_mem _ List.mem_cons_self))))
        refine hK.out _ _ hSnew (fun hHeld4 => ?_)
        clear hK K hSnew
        clear hHeld
        have hHeld := hHeld4
        clear hHeld4
        try simp only [Act.put, List.setIfInBounds_toArray, List.set_cons_zero, List.set_cons_succ]
        (try rw [hpa])
        clear hpa
        clear HX X
        obtain ⟨X, hX⟩ : ∃ X, X = Y := ⟨_, rfl⟩
        subst hX
        have HX := HY
        clear HY
        refine wpAnyH_ready (rs := [3, 5]) (by kernel_rfl) (by simp) ?_
        refine (AllReadyH.cons (o := { dst := some 46, op := Op.call { callee := Callee.value (Operand.func 15), args := #[Operand.tmp 45], argTypes := #[30] }, type := 30, pos := "own.go:108", after := #[{ on := 2, ground := Ground.data }, { on := 1, ground := Ground.chain }], guard := none }) rfl (fun K hK => ?_) (AllReadyH.cons (o := { dst := some 8, op := Op.alloc 30, type := 0, pos := "own.go:108", after := #[], guard := none }) rfl (fun K hK => ?_) AllReadyH.nil))
        · go_simp
          go_at_call 15
          refine (copied_any (b2 : Int) (p2 : Int) (s2 : Int) bk2 off2 n2 c2 mb2 mo2 b2 c2' zs2 ms2 _ (by omega) (by omega) (HR2.out.below HX.out.bel) (HRM2.out.below HX.out.bel) hn20 hb20).mono ?_
          rintro e Y ⟨h, dc, hm, dm, rfl, h1, h2, bl⟩
          have HY := Q0.himg HX bl h1 h2
          clear h1 h2 bl
          have hSnew := And.intro (cells5 (HY.out.bx _ (List.mem_cons_of_mem _ (List.mem_cons_of_mem _ (List.mem_cons_of_mem _ List.mem_cons_self))))) (cells5 (HY.out.bx _ (List.mem_cons_of_mem _ (List.mem_cons_of_mem _ List.mem_cons_self))))
          go_wp2_with fail
          refine hK.out _ _ hSnew (fun hHeld3 => ?_)
          clear hK K hSnew
          clear hHeld
          have hHeld := hHeld3
          clear hHeld3
          try simp only [Act.put, List.setIfInBounds_toArray, List.set_cons_zero, List.set_cons_succ]
          clear HX X
          obtain ⟨X, hX⟩ : ∃ X, X = Y := ⟨_, rfl⟩
          subst hX
          have HX := HY
          clear HY
          refine wpAnyH_ready (rs := [5]) (by kernel_rfl) (by simp) ?_
          refine (AllReadyH.cons (o := { dst := some 8, op := Op.alloc 30, type := 0, pos := "own.go:108", after := #[], guard := none }) rfl (fun K hK => ?_) AllReadyH.nil)
          go_simp
          go_wp2_with fail
          obtain ⟨Y, hY⟩ : ∃ Y, X.alloc (.cells #[.int .i64 0, .int .i64 0, .int .i64 0, .slice none 0 0, .slice none 0 0] 30) = Y := ⟨_, rfl⟩
          obtain ⟨pb, hpb⟩ : ∃ q, X.heap.size = q := ⟨_, rfl⟩
          have HY : Hid (Q0 w Y [(pb, #[.int .i64 0, .int .i64 0, .int .i64 0, .slice none 0 0, .slice none 0 0], 30), (pa, #[.int .i64 0, .int .i64 0, .int .i64 0, .slice none 0 0, .slice none 0 0], 30), ((w.heap.size + 2), #[.int .i64 x, .int .i64 y], 40), ((w.heap.size + 1), (imb b2 p2 s2 bk2 off2 n2 c2 mb2 mo2 b2 c2'), 30), (w.heap.size, (imb b p s bk off n c mb mo b c'), 30)] [((.slice (some ⟨h, 0, none⟩) n2 dc), zs2), ((.slice (some ⟨g, 0, none⟩) n cc), zs)] [((.slice (some ⟨hm, 0, none⟩) b2 dm), ms2), ((.slice (some ⟨gm, 0, none⟩) b cm), ms)]) := by unfold Hid; rw [← hpb, ← hY]; exact HX.out.box _ _
          have Gpb : Hid (w.heap.size ≤ pb) := by unfold Hid; rw [← hpb]; exact HX.out.bel.size
          rw [hY]
          (try rw [hpb])
          clear hY
          have hSnew := And.intro (cells5 (HY.out.bx _ (List.mem_cons_of_mem _ (List.mem_cons_of_mem _ (List.mem_cons_of_mem _ (List.mem_cons_of_mem _ List.mem_cons_self)))))) (cells5 (HY.out.bx _ (List.mem_cons_of_mem _ (List.mem_cons_of_mem _ (List.mem_cons_of_mem _ List.mem_cons_self)))))
          refine hK.out _ _ hSnew (fun hHeld5 => ?_)
          clear hK K hSnew
          clear hHeld
          have hHeld := hHeld5
          clear hHeld5
          try simp only [Act.put, List.setIfInBounds_toArray, List.set_cons_zero, List.set_cons_succ]
          (try rw [hpb])
          clear hpb
          clear HX X
          obtain ⟨X, hX⟩ : ∃ X, X = Y := ⟨_, rfl⟩
          subst hX
          have HX := HY
          clear HY
          obtain ⟨e0, e1, e2, e3, e4⟩ := cells5 (HX.out.bx _ (List.mem_cons_of_mem _ List.mem_cons_self))
          obtain ⟨ef0, ef1, ef2, ef3, ef4⟩ := frz5 (HX.out.bx _ (List.mem_cons_of_mem _ List.mem_cons_self))
          obtain ⟨Y, hY, HG, HN⟩ := set5 (HX.out.bx (pa, #[.int .i64 0, .int .i64 0, .int .i64 0, .slice none 0 0, .slice none 0 0], 30) (List.mem_cons_of_mem _ List.mem_cons_self)) (.int .i64 (b : Int)) (.int .i64 (p : Int)) (.int .i64 (s : Int)) (.slice (some ⟨g, 0, none⟩) n cc) (.slice (some ⟨gm, 0, none⟩) b cm)
          refine wpAnyH_ready (rs := [6]) (by kernel_rfl) (by simp) ?_
          refine AllReadyH.cons (o := { dst := none, op := Op.store 30 (Operand.tmp 7) (Operand.tmp 44), type := 0, pos := "own.go:108", after := #[{ on := 4, ground := Ground.data }, { on := 1, ground := Ground.data }, { on := 3, ground := Ground.chain }, { on := 0, ground := Ground.phase }, { on := 1, ground := Ground.phase }, { on := 2, ground := Ground.textOnly Departure.lateStores }, { on := 3, ground := Ground.textOnly Departure.lateStoresUnsure }, { on := 4, ground := Ground.phase }, { on := 5, ground := Ground.phase }], guard := none }) rfl (fun K hK => ?_) AllReadyH.nil
          go_simp
          go_wp2_with fail
          rw [hY.out]
          clear hY
          have HY := Q0.hset1 (cs' := (imb b p s g 0 n cc gm 0 b cm)) HX HG HN (by decide) (by decide) Gpa.out
          clear HG HN e0 e1 e2 e3 e4 ef0 ef1 ef2 ef3 ef4
          have hSnew := And.intro (cells5 (HY.out.bx _ (List.mem_cons_of_mem _ (List.mem_cons_of_mem _ (List.mem_cons_of_mem _ (List.mem_cons_of_mem _ List.mem_cons_self)))))) (cells5 (HY.out.bx _ (List.mem_cons_of_mem _ (List.mem_cons_of_mem _ (List.mem_cons_of_mem _ List.mem_cons_self)))))
          refine hK.out _ _ hSnew (fun hHeld6 => ?_)
          clear hK K hSnew
          clear hHeld
          have hHeld := hHeld6
          clear hHeld6
          try simp only [Act.put, List.setIfInBounds_toArray, List.set_cons_zero, List.set_cons_succ]
          clear HX X
          obtain ⟨X, hX⟩ : ∃ X, X = Y := ⟨_, rfl⟩
          subst hX
          have HX := HY
          clear HY
          obtain ⟨e0, e1, e2, e3, e4⟩ := cells5 (HX.out.bx _ List.mem_cons_self)
          obtain ⟨ef0, ef1, ef2, ef3, ef4⟩ := frz5 (HX.out.bx _ List.mem_cons_self)
          obtain ⟨Y, hY, HG, HN⟩ := set5 (HX.out.bx (pb, #[.int .i64 0, .int .i64 0, .int .i64 0, .slice none 0 0, .slice none 0 0], 30) List.mem_cons_self) (.int .i64 (b2 : Int)) (.int .i64 (p2 : Int)) (.int .i64 (s2 : Int)) (.slice (some ⟨h, 0, none⟩) n2 dc) (.slice (some ⟨hm, 0, none⟩) b2 dm)
          refine wpAnyH_ready (rs := [7]) (by kernel_rfl) (by simp) ?_
          refine AllReadyH.cons (o := { dst := none, op := Op.store 30 (Operand.tmp 8) (Operand.tmp 46), type := 0, pos := "own.go:108", after := #[{ on := 5, ground := Ground.data }, { on := 3, ground := Ground.data }, { on := 6, ground := Ground.chain }, { on := 0, ground := Ground.phase }, { on := 1, ground := Ground.phase }, { on := 2, ground := Ground.phase }, { on := 3, ground := Ground.phase }, { on := 4, ground := Ground.phase }, { on := 5, ground := Ground.phase }, { on := 6, ground := Ground.phase }], guard := none }) rfl (fun K hK => ?_) AllReadyH.nil
          go_simp
          go_wp2_with fail
          rw [hY.out]
          clear hY
          have HY := Q0.hset0 (cs' := (imb b2 p2 s2 h 0 n2 dc hm 0 b2 dm)) HX HG HN (by decide) (by decide) Gpb.out
          clear HG HN e0 e1 e2 e3 e4 ef0 ef1 ef2 ef3 ef4
          have hSnew := And.intro (cells5 (HY.out.bx _ (List.mem_cons_of_mem _ (List.mem_cons_of_mem _ (List.mem_cons_of_mem _ (List.mem_cons_of_mem _ List.mem_cons_self)))))) (cells5 (HY.out.bx _ (List.mem_cons_of_mem _ (List.mem_cons_of_mem _ (List.mem_cons_of_mem _ List.mem_cons_self)))))
          refine hK.out _ _ hSnew (fun hHeld7 => ?_)
          clear hK K hSnew
          clear hHeld
          have hHeld := hHeld7
          clear hHeld7
          try simp only [Act.put, List.setIfInBounds_toArray, List.set_cons_zero, List.set_cons_succ]
          clear HX X
          obtain ⟨X, hX⟩ : ∃ X, X = Y := ⟨_, rfl⟩
          subst hX
          have HX := HY
          clear HY
          refine wpAnyH_done (by kernel_rfl) ?_ _
          clear hHeld
          exact HC X pa pb g cc gm cm h dc hm dm HX.out
        · go_simp
          go_wp2_with fail
          obtain ⟨Y, hY⟩ : ∃ Y, X.alloc (.cells #[.int .i64 0, .int .i64 0, .int .i64 0, .slice none 0 0, .slice none 0 0] 30) = Y := ⟨_, rfl⟩
          obtain ⟨pb, hpb⟩ : ∃ q, X.heap.size = q := ⟨_, rfl⟩
          have HY : Hid (Q0 w Y [(pb, #[.int .i64 0, .int .i64 0, .int .i64 0, .slice none 0 0, .slice none 0 0], 30), (pa, #[.int .i64 0, .int .i64 0, .int .i64 0, .slice none 0 0, .slice none 0 0], 30), ((w.heap.size + 2), #[.int .i64 x, .int .i64 y], 40), ((w.heap.size + 1), (imb b2 p2 s2 bk2 off2 n2 c2 mb2 mo2 b2 c2'), 30), (w.heap.size, (imb b p s bk off n c mb mo b c'), 30)] [((.slice (some ⟨g, 0, none⟩) n cc), zs)] [((.slice (some ⟨gm, 0, none⟩) b cm), ms)]) := by unfold Hid; rw [← hpb, ← hY]; exact HX.out.box _ _
          have Gpb : Hid (w.heap.size ≤ pb) := by unfold Hid; rw [← hpb]; exact HX.out.bel.size
          rw [hY]
          (try rw [hpb])
          clear hY
          have hSnew := And.intro (cells5 (HY.out.bx _ (List.mem_cons_of_mem _ (List.mem_cons_of_mem _ (List.mem_cons_of_mem _ (List.mem_cons_of_mem _ List.mem_cons_self)))))) (cells5 (HY.out.bx _ (List.mem_cons_of_mem _ (List.mem_cons_of_mem _ (List.mem_cons_of_mem _ List.mem_cons_self)))))
          refine hK.out _ _ hSnew (fun hHeld5 => ?_)
          clear hK K hSnew
          clear hHeld
          have hHeld := hHeld5
          clear hHeld5
          try simp only [Act.put, List.setIfInBounds_toArray, List.set_cons_zero, List.set_cons_succ]
          (try rw [hpb])
          clear hpb
          clear HX X
          obtain ⟨X, hX⟩ : ∃ X, X = Y := ⟨_, rfl⟩
          subst hX
          have HX := HY
          clear HY
          refine wpAnyH_ready (rs := [3]) (by kernel_rfl) (by simp) ?_
          refine (AllReadyH.cons (o := { dst := some 46, op := Op.call { callee := Callee.value (Operand.func 15), args := #[Operand.tmp 45], argTypes := #[30] }, type := 30, pos := "own.go:108", after := #[{ on := 2, ground := Ground.data }, { on := 1, ground := Ground.chain }], guard := none }) rfl (fun K hK => ?_) AllReadyH.nil)
          go_simp
          go_at_call 15
          refine (copied_any (b2 : Int) (p2 : Int) (s2 : Int) bk2 off2 n2 c2 mb2 mo2 b2 c2' zs2 ms2 _ (by omega) (by omega) (HR2.out.below HX.out.bel) (HRM2.out.below HX.out.bel) hn20 hb20).mono ?_
          rintro e Y ⟨h, dc, hm, dm, rfl, h1, h2, bl⟩
          have HY := Q0.himg HX bl h1 h2
          clear h1 h2 bl
          have hSnew := And.intro (cells5 (HY.out.bx _ (List.mem_cons_of_mem _ (List.mem_cons_of_mem _ (List.mem_cons_of_mem _ (List.mem_cons_of_mem _ List.mem_cons_self)))))) (cells5 (HY.out.bx _ (List.mem_cons_of_mem _ (List.mem_cons_of_mem _ (List.mem_cons_of_mem _ List.mem_cons_self)))))
          go_wp2_with fail
          refine hK.out _ _ hSnew (fun hHeld3 => ?_)
          clear hK K hSnew
          clear hHeld
          have hHeld := hHeld3
          clear hHeld3
          try simp only [Act.put, List.setIfInBounds_toArray, List.set_cons_zero, List.set_cons_succ]
          clear HX X
          obtain ⟨X, hX⟩ : ∃ X, X = Y := ⟨_, rfl⟩
          subst hX
          have HX := HY
          clear HY
          obtain ⟨e0, e1, e2, e3, e4⟩ := cells5 (HX.out.bx _ (List.mem_cons_of_mem _ List.mem_cons_self))
          obtain ⟨ef0, ef1, ef2, ef3, ef4⟩ := frz5 (HX.out.bx _ (List.mem_cons_of_mem _ List.mem_cons_self))
          obtain ⟨Y, hY, HG, HN⟩ := set5 (HX.out.bx (pa, #[.int .i64 0, .int .i64 0, .int .i64 0, .slice none 0 0, .slice none 0 0], 30) (List.mem_cons_of_mem _ List.mem_cons_self)) (.int .i64 (b : Int)) (.int .i64 (p : Int)) (.int .i64 (s : Int)) (.slice (some ⟨g, 0, none⟩) n cc) (.slice (some ⟨gm, 0, none⟩) b cm)
          refine wpAnyH_ready (rs := [6]) (by kernel_rfl) (by simp) ?_
          refine AllReadyH.cons (o := { dst := none, op := Op.store 30 (Operand.tmp 7) (Operand.tmp 44), type := 0, pos := "own.go:108", after := #[{ on := 4, ground := Ground.data }, { on := 1, ground := Ground.data }, { on := 3, ground := Ground.chain }, { on := 0, ground := Ground.phase }, { on := 1, ground := Ground.phase }, { on := 2, ground := Ground.textOnly Departure.lateStores }, { on := 3, ground := Ground.textOnly Departure.lateStoresUnsure }, { on := 4, ground := Ground.phase }, { on := 5, ground := Ground.phase }], guard := none }) rfl (fun K hK => ?_) AllReadyH.nil
          go_simp
          go_wp2_with fail
          rw [hY.out]
          clear hY
          have HY := Q0.hset1 (cs' := (imb b p s g 0 n cc gm 0 b cm)) HX HG HN (by decide) (by decide) Gpa.out
          clear HG HN e0 e1 e2 e3 e4 ef0 ef1 ef2 ef3 ef4
          have hSnew := And.intro (cells5 (HY.out.bx _ (List.mem_cons_of_mem _ (List.mem_cons_of_mem _ (List.mem_cons_of_mem _ (List.mem_cons_of_mem _ List.mem_cons_self)))))) (cells5 (HY.out.bx _ (List.mem_cons_of_mem _ (List.mem_cons_of_mem _ (List.mem_cons_of_mem _ List.mem_cons_self)))))
          refine hK.out _ _ hSnew (fun hHeld6 => ?_)
          clear hK K hSnew
          clear hHeld
          have hHeld := hHeld6
          clear hHeld6
          try simp only [Act.put, List.setIfInBounds_toArray, List.set_cons_zero, List.set_cons_succ]
          clear HX X
          obtain ⟨X, hX⟩ : ∃ X, X = Y := ⟨_, rfl⟩
          subst hX
          have HX := HY
          clear HY
          obtain ⟨e0, e1, e2, e3, e4⟩ := cells5 (HX.out.bx _ List.mem_cons_self)
          obtain ⟨ef0, ef1, ef2, ef3, ef4⟩ := frz5 (HX.out.bx _ List.mem_cons_self)
          obtain ⟨Y, hY, HG, HN⟩ := set5 (HX.out.bx (pb, #[.int .i64 0, .int .i64 0, .int .i64 0, .slice none 0 0, .slice none 0 0], 30) List.mem_cons_self) (.int .i64 (b2 : Int)) (.int .i64 (p2 : Int)) (.int .i64 (s2 : Int)) (.slice (some ⟨h, 0, none⟩) n2 dc) (.slice (some ⟨hm, 0, none⟩) b2 dm)
          refine wpAnyH_ready (rs := [7]) (by kernel_rfl) (by simp) ?_
          refine AllReadyH.cons (o := { dst := none, op := Op.store 30 (Operand.tmp 8) (Operand.tmp 46), type := 0, pos := "own.go:108", after := #[{ on := 5, ground := Ground.data }, { on := 3, ground := Ground.data }, { on := 6, ground := Ground.chain }, { on := 0, ground := Ground.phase }, { on := 1, ground := Ground.phase }, { on := 2, ground := Ground.phase }, { on := 3, ground := Ground.phase }, { on := 4, ground := Ground.phase }, { on := 5, ground := Ground.phase }, { on := 6, ground := Ground.phase }], guard := none }) rfl (fun K hK => ?_) AllReadyH.nil
          go_simp
          go_wp2_with fail
          rw [hY.out]
          clear hY
          have HY := Q0.hset0 (cs' := (imb b2 p2 s2 h 0 n2 dc hm 0 b2 dm)) HX HG HN (by decide) (by decide) Gpb.out
          clear HG HN e0 e1 e2 e3 e4 ef0 ef1 ef2 ef3 ef4
          have hSnew := And.intro (cells5 (HY.out.bx _ (List.mem_cons_of_mem _ (List.mem_cons_of_mem _ (List.mem_cons_of_mem _ (List.mem_cons_of_mem _ List.mem_cons_self)))))) (cells5 (HY.out.bx _ (List.mem_cons_of_mem _ (List.mem_cons_of_mem _ (List.mem_cons_of_mem _ List.mem_cons_self)))))
          refine hK.out _ _ hSnew (fun hHeld7 => ?_)
          clear hK K hSnew
          clear hHeld
          have hHeld := hHeld7
          clear hHeld7
          try simp only [Act.put, List.setIfInBounds_toArray, List.set_cons_zero, List.set_cons_succ]
          clear HX X
          obtain ⟨X, hX⟩ : ∃ X, X = Y := ⟨_, rfl⟩
          subst hX
          have HX := HY
          clear HY
          refine wpAnyH_done (by kernel_rfl) ?_ _
          clear hHeld
          exact HC X pa pb g cc gm cm h dc hm dm HX.out
      · go_simp
        go_wp2_with fail
        obtain ⟨Y, hY⟩ : ∃ Y, X.alloc (.cells #[.int .i64 0, .int .i64 0, .int .i64 0, .slice none 0 0, .slice none 0 0] 30) = Y := ⟨_, rfl⟩
        obtain ⟨pb, hpb⟩ : ∃ q, X.heap.size = q := ⟨_, rfl⟩
        have HY : Hid (Q0 w Y [(pb, #[.int .i64 0, .int .i64 0, .int .i64 0, .slice none 0 0, .slice none 0 0], 30), ((w.heap.size + 2), #[.int .i64 x, .int .i64 y], 40), ((w.heap.size + 1), (imb b2 p2 s2 bk2 off2 n2 c2 mb2 mo2 b2 c2'), 30), (w.heap.size, (imb b p s bk off n c mb mo b c'), 30)] [((.slice (some ⟨g, 0, none⟩) n cc), zs)] [((.slice (some ⟨gm, 0, none⟩) b cm), ms)]) := by unfold Hid; rw [← hpb, ← hY]; exact HX.out.box _ _
        have Gpb : Hid (w.heap.size ≤ pb) := by unfold Hid; rw [← hpb]; exact HX.out.bel.size
        rw [hY]
        (try rw [hpb])
        clear hY
        have hSnew := And.intro (cells5 (HY.out.bx _ (List.mem_cons_of_mem _ (List.mem_cons_of_mem _ (List.mem_cons_of_mem _ List.mem_cons_self))))) (cells5 (HY.out.bx _ (List.mem_cons_of_mem _ (List.mem_cons_of_mem _ List.mem_cons_self))))
        refine hK.out _ _ hSnew (fun hHeld5 => ?_)
        clear hK K hSnew
        clear hHeld
        have hHeld := hHeld5
        clear hHeld5
        try simp only [Act.put, List.setIfInBounds_toArray, List.set_cons_zero, List.set_cons_succ]
        (try rw [hpb])
        clear hpb
        clear HX X
        obtain ⟨X, hX⟩ : ∃ X, X = Y := ⟨_, rfl⟩
        subst hX
        have HX := HY
        clear HY
        refine wpAnyH_ready (rs := [3, 4]) (by kernel_rfl) (by simp) ?_
        refine (AllReadyH.cons (o := { dst := some 46, op := Op.call { callee := Callee.value (Operand.func 15), args := #[Operand.tmp 45], argTypes := #[30] }, type := 30, pos := "own.go:108", after := #[{ on := 2, ground := Ground.data }, { on := 1, ground := Ground.chain }], guard := none }) rfl (fun K hK => ?_) (AllReadyH.cons (o := { dst := some 7, op := Op.alloc 30, type := 0, pos := "own.go:108", after := #[], guard := none }) rfl (fun K hK => ?_) AllReadyH.nil))
        · go_simp
          go_at_call 15
          refine (copied_any (b2 : Int) (p2 : Int) (s2 : Int) bk2 off2 n2 c2 mb2 mo2 b2 c2' zs2 ms2 _ (by omega) (by omega) (HR2.out.below HX.out.bel) (HRM2.out.below HX.out.bel) hn20 hb20).mono ?_
          rintro e Y ⟨h, dc, hm, dm, rfl, h1, h2, bl⟩
          have HY := Q0.himg HX bl h1 h2
          clear h1 h2 bl
          have hSnew := And.intro (cells5 (HY.out.bx _ (List.mem_cons_of_mem _ (List.mem_cons_of_mem _ (List.mem_cons_of_mem _ List.mem_cons_self))))) (cells5 (HY.out.bx _ (List.mem_cons_of_mem _ (List.mem_cons_of_mem _ List.mem_cons_self))))
          go_wp2_with fail
          refine hK.out _ _ hSnew (fun hHeld3 => ?_)
          clear hK K hSnew
          clear hHeld
          have hHeld := hHeld3
          clear hHeld3
          try simp only [Act.put, List.setIfInBounds_toArray, List.set_cons_zero, List.set_cons_succ]
          clear HX X
          obtain ⟨X, hX⟩ : ∃ X, X = Y := ⟨_, rfl⟩
          subst hX
          have HX := HY
          clear HY
          refine wpAnyH_ready (rs := [4]) (by kernel_rfl) (by simp) ?_
          refine (AllReadyH.cons (o := { dst := some 7, op := Op.alloc 30, type := 0, pos := "own.go:108", after := #[], guard := none }) rfl (fun K hK => ?_) AllReadyH.nil)
          go_simp
          go_wp2_with fail
          obtain ⟨Y, hY⟩ : ∃ Y, X.alloc (.cells #[.int .i64 0, .int .i64 0, .int .i64 0, .slice none 0 0, .slice none 0 0] 30) = Y := ⟨_, rfl⟩
          obtain ⟨pa, hpa⟩ : ∃ q, X.heap.size = q := ⟨_, rfl⟩
          have HY : Hid (Q0 w Y [(pa, #[.int .i64 0, .int .i64 0, .int .i64 0, .slice none 0 0, .slice none 0 0], 30), (pb, #[.int .i64 0, .int .i64 0, .int .i64 0, .slice none 0 0, .slice none 0 0], 30), ((w.heap.size + 2), #[.int .i64 x, .int .i64 y], 40), ((w.heap.size + 1), (imb b2 p2 s2 bk2 off2 n2 c2 mb2 mo2 b2 c2'), 30), (w.heap.size, (imb b p s bk off n c mb mo b c'), 30)] [((.slice (some ⟨h, 0, none⟩) n2 dc), zs2), ((.slice (some ⟨g, 0, none⟩) n cc), zs)] [((.slice (some ⟨hm, 0, none⟩) b2 dm), ms2), ((.slice (some ⟨gm, 0, none⟩) b cm), ms)]) := by unfold Hid; rw [← hpa, ← hY]; exact HX.out.box _ _
          have Gpa : Hid (w.heap.size ≤ pa) := by unfold Hid; rw [← hpa]; exact HX.out.bel.size
          rw [hY]
          (try rw [hpa])
          clear hY
          have hSnew := And.intro (cells5 (HY.out.bx _ (List.mem_cons_of_mem _ (List.mem_cons_of_mem _ (List.mem_cons_of_mem _ (List.mem_cons_of_mem _ List.mem_cons_self)))))) (cells5 (HY.out.bx _ (List.mem_cons_of_mem _ (List.mem_cons_of_mem _ (List.mem_cons_of_mem _ List.mem_cons_self)))))
          refine hK.out _ _ hSnew (fun hHeld4 => ?_)
          clear hK K hSnew
          clear hHeld
          have hHeld := hHeld4
          clear hHeld4
          try simp only [Act.put, List.setIfInBounds_toArray, List.set_cons_zero, List.set_cons_succ]
          (try rw [hpa])
          clear hpa
          clear HX X
          obtain ⟨X, hX⟩ : ∃ X, X = Y := ⟨_, rfl⟩
          subst hX
          have HX := HY
          clear HY
          obtain ⟨e0, e1, e2, e3, e4⟩ := cells5 (HX.out.bx _ List.mem_cons_self)
          obtain ⟨ef0, ef1, ef2, ef3, ef4⟩ := frz5 (HX.out.bx _ List.mem_cons_self)
          obtain ⟨Y, hY, HG, HN⟩ := set5 (HX.out.bx (pa, #[.int .i64 0, .int .i64 0, .int .i64 0, .slice none 0 0, .slice none 0 0], 30) List.mem_cons_self) (.int .i64 (b : Int)) (.int .i64 (p : Int)) (.int .i64 (s : Int)) (.slice (some ⟨g, 0, none⟩) n cc) (.slice (some ⟨gm, 0, none⟩) b cm)
          refine wpAnyH_ready (rs := [6]) (by kernel_rfl) (by simp) ?_
          refine AllReadyH.cons (o := { dst := none, op := Op.store 30 (Operand.tmp 7) (Operand.tmp 44), type := 0, pos := "own.go:108", after := #[{ on := 4, ground := Ground.data }, { on := 1, ground := Ground.data }, { on := 3, ground := Ground.chain }, { on := 0, ground := Ground.phase }, { on := 1, ground := Ground.phase }, { on := 2, ground := Ground.textOnly Departure.lateStores }, { on := 3, ground := Ground.textOnly Departure.lateStoresUnsure }, { on := 4, ground := Ground.phase }, { on := 5, ground := Ground.phase }], guard := none }) rfl (fun K hK => ?_) AllReadyH.nil
          go_simp
          go_wp2_with fail
          rw [hY.out]
          clear hY
          have HY := Q0.hset0 (cs' := (imb b p s g 0 n cc gm 0 b cm)) HX HG HN (by decide) (by decide) Gpa.out
          clear HG HN e0 e1 e2 e3 e4 ef0 ef1 ef2 ef3 ef4
          have hSnew := And.intro (cells5 (HY.out.bx _ (List.mem_cons_of_mem _ (List.mem_cons_of_mem _ (List.mem_cons_of_mem _ (List.mem_cons_of_mem _ List.mem_cons_self)))))) (cells5 (HY.out.bx _ (List.mem_cons_of_mem _ (List.mem_cons_of_mem _ (List.mem_cons_of_mem _ List.mem_cons_self)))))
          refine hK.out _ _ hSnew (fun hHeld6 => ?_)
          clear hK K hSnew
          clear hHeld
          have hHeld := hHeld6
          clear hHeld6
          try simp only [Act.put, List.setIfInBounds_toArray, List.set_cons_zero, List.set_cons_succ]
          clear HX X
          obtain ⟨X, hX⟩ : ∃ X, X = Y := ⟨_, rfl⟩
          subst hX
          have HX := HY
          clear HY
          obtain ⟨e0, e1, e2, e3, e4⟩ := cells5 (HX.out.bx _ (List.mem_cons_of_mem _ List.mem_cons_self))
          obtain ⟨ef0, ef1, ef2, ef3, ef4⟩ := frz5 (HX.out.bx _ (List.mem_cons_of_mem _ List.mem_cons_self))
          obtain ⟨Y, hY, HG, HN⟩ := set5 (HX.out.bx (pb, #[.int .i64 0, .int .i64 0, .int .i64 0, .slice none 0 0, .slice none 0 0], 30) (List.mem_cons_of_mem _ List.mem_cons_self)) (.int .i64 (b2 : Int)) (.int .i64 (p2 : Int)) (.int .i64 (s2 : Int)) (.slice (some ⟨h, 0, none⟩) n2 dc) (.slice (some ⟨hm, 0, none⟩) b2 dm)
          refine wpAnyH_ready (rs := [7]) (by kernel_rfl) (by simp) ?_
          refine AllReadyH.cons (o := { dst := none, op := Op.store 30 (Operand.tmp 8) (Operand.tmp 46), type := 0, pos := "own.go:108", after := #[{ on := 5, ground := Ground.data }, { on := 3, ground := Ground.data }, { on := 6, ground := Ground.chain }, { on := 0, ground := Ground.phase }, { on := 1, ground := Ground.phase }, { on := 2, ground := Ground.phase }, { on := 3, ground := Ground.phase }, { on := 4, ground := Ground.phase }, { on := 5, ground := Ground.phase }, { on := 6, ground := Ground.phase }], guard := none }) rfl (fun K hK => ?_) AllReadyH.nil
          go_simp
          go_wp2_with fail
          rw [hY.out]
          clear hY
          have HY := Q0.hset1 (cs' := (imb b2 p2 s2 h 0 n2 dc hm 0 b2 dm)) HX HG HN (by decide) (by decide) Gpb.out
          clear HG HN e0 e1 e2 e3 e4 ef0 ef1 ef2 ef3 ef4
          have hSnew := And.intro (cells5 (HY.out.bx _ (List.mem_cons_of_mem _ (List.mem_cons_of_mem _ (List.mem_cons_of_mem _ (List.mem_cons_of_mem _ List.mem_cons_self)))))) (cells5 (HY.out.bx _ (List.mem_cons_of_mem _ (List.mem_cons_of_mem _ (List.mem_cons_of_mem _ List.mem_cons_self)))))
          refine hK.out _ _ hSnew (fun hHeld7 => ?_)
          clear hK K hSnew
          clear hHeld
          have hHeld := hHeld7
          clear hHeld7
          try simp only [Act.put, List.setIfInBounds_toArray, List.set_cons_zero, List.set_cons_succ]
          clear HX X
          obtain ⟨X, hX⟩ : ∃ X, X = Y := ⟨_, rfl⟩
          subst hX
          have HX := HY
          clear HY
          refine wpAnyH_done (by kernel_rfl) ?_ _
          clear hHeld
          exact HC X pa pb g cc gm cm h dc hm dm (HX.out.perm (List.Perm.swap _ _ _))
        · go_simp
          go_wp2_with fail
          obtain ⟨Y, hY⟩ : ∃ Y, X.alloc (.cells #[.int .i64 0, .int .i64 0, .int .i64 0, .slice none 0 0, .slice none 0 0] 30) = Y := ⟨_, rfl⟩
          obtain ⟨pa, hpa⟩ : ∃ q, X.heap.size = q := ⟨_, rfl⟩
          have HY : Hid (Q0 w Y [(pa, #[.int .i64 0, .int .i64 0, .int .i64 0, .slice none 0 0, .slice none 0 0], 30), (pb, #[.int .i64 0, .int .i64 0, .int .i64 0, .slice none 0 0, .slice none 0 0], 30), ((w.heap.size + 2), #[.int .i64 x, .int .i64 y], 40), ((w.heap.size + 1), (imb b2 p2 s2 bk2 off2 n2 c2 mb2 mo2 b2 c2'), 30), (w.heap.size, (imb b p s bk off n c mb mo b c'), 30)] [((.slice (some ⟨g, 0, none⟩) n cc), zs)] [((.slice (some ⟨gm, 0, none⟩) b cm), ms)]) := by unfold Hid; rw [← hpa, ← hY]; exact HX.out.box _ _
          have Gpa : Hid (w.heap.size ≤ pa) := by unfold Hid; rw [← hpa]; exact HX.out.bel.size
          rw [hY]
          (try rw [hpa])
          clear hY
          have hSnew := And.intro (cells5 (HY.out.bx _ (List.mem_cons_of_mem _ (List.mem_cons_of_mem _ (List.mem_cons_of_mem _ (List.mem_cons_of_mem _ List.mem_cons_self)))))) (cells5 (HY.out.bx _ (List.mem_cons_of_mem _ (List.mem_cons_of_mem _ (List.mem_cons_of_mem _ List.mem_cons_self)))))
          refine hK.out _ _ hSnew (fun hHeld4 => ?_)
          clear hK K hSnew
          clear hHeld
          have hHeld := hHeld4
          clear hHeld4
          try simp only [Act.put, List.setIfInBounds_toArray, List.set_cons_zero, List.set_cons_succ]
          (try rw [hpa])
          clear hpa
          clear HX X
          obtain ⟨X, hX⟩ : ∃ X, X = Y := ⟨_, rfl⟩
          subst hX
          have HX := HY
          clear HY
          refine wpAnyH_ready (rs := [3]) (by kernel_rfl) (by simp) ?_
          refine (AllReadyH.cons (o := { dst := some 46, op := Op.call { callee := Callee.value (Operand.func 15), args := #[Operand.tmp 45], argTypes := #[30] }, type := 30, pos := "own.go:108", after := #[{ on := 2, ground := Ground.data }, { on := 1, ground := Ground.chain }], guard := none }) rfl (fun K hK => ?_) AllReadyH.nil)
          go_simp
          go_at_call 15
          refine (copied_any (b2 : Int) (p2 : Int) (s2 : Int) bk2 off2 n2 c2 mb2 mo2 b2 c2' zs2 ms2 _ (by omega) (by omega) (HR2.out.below HX.out.bel) (HRM2.out.below HX.out.bel) hn20 hb20).mono ?_
          rintro e Y ⟨h, dc, hm, dm, rfl, h1, h2, bl⟩
          have HY := Q0.himg HX bl h1 h2
          clear h1 h2 bl
          have hSnew := And.intro (cells5 (HY.out.bx _ (List.mem_cons_of_mem _ (List.mem_cons_of_mem _ (List.mem_cons_of_mem _ (List.mem_cons_of_mem _ List.mem_cons_self)))))) (cells5 (HY.out.bx _ (List.mem_cons_of_mem _ (List.mem_cons_of_mem _ (List.mem_cons_of_mem _ List.mem_cons_self)))))
          go_wp2_with fail
          refine hK.out _ _ hSnew (fun hHeld3 => ?_)
          clear hK K hSnew
          clear hHeld
          have hHeld := hHeld3
          clear hHeld3
          try simp only [Act.put, List.setIfInBounds_toArray, List.set_cons_zero, List.set_cons_succ]
          clear HX X
          obtain ⟨X, hX⟩ : ∃ X, X = Y := ⟨_, rfl⟩
          subst hX
          have HX := HY
          clear HY
          obtain ⟨e0, e1, e2, e3, e4⟩ := cells5 (HX.out.bx _ List.mem_cons_self)
          obtain ⟨ef0, ef1, ef2, ef3, ef4⟩ := frz5 (HX.out.bx _ List.mem_cons_self)
          obtain ⟨Y, hY, HG, HN⟩ := set5 (HX.out.bx (pa, #[.int .i64 0, .int .i64 0, .int .i64 0, .slice none 0 0, .slice none 0 0], 30) List.mem_cons_self) (.int .i64 (b : Int)) (.int .i64 (p : Int)) (.int .i64 (s : Int)) (.slice (some ⟨g, 0, none⟩) n cc) (.slice (some ⟨gm, 0, none⟩) b cm)
          refine wpAnyH_ready (rs := [6]) (by kernel_rfl) (by simp) ?_
          refine AllReadyH.cons (o := { dst := none, op := Op.store 30 (Operand.tmp 7) (Operand.tmp 44), type := 0, pos := "own.go:108", after := #[{ on := 4, ground := Ground.data }, { on := 1, ground := Ground.data }, { on := 3, ground := Ground.chain }, { on := 0, ground := Ground.phase }, { on := 1, ground := Ground.phase }, { on := 2, ground := Ground.textOnly Departure.lateStores }, { on := 3, ground := Ground.textOnly Departure.lateStoresUnsure }, { on := 4, ground := Ground.phase }, { on := 5, ground := Ground.phase }], guard := none }) rfl (fun K hK => ?_) AllReadyH.nil
          go_simp
          go_wp2_with fail
          rw [hY.out]
          clear hY
          have HY := Q0.hset0 (cs' := (imb b p s g 0 n cc gm 0 b cm)) HX HG HN (by decide) (by decide) Gpa.out
          clear HG HN e0 e1 e2 e3 e4 ef0 ef1 ef2 ef3 ef4
          have hSnew := And.intro (cells5 (HY.out.bx _ (List.mem_cons_of_mem _ (List.mem_cons_of_mem _ (List.mem_cons_of_mem _ (List.mem_cons_of_mem _ List.mem_cons_self)))))) (cells5 (HY.out.bx _ (List.mem_cons_of_mem _ (List.mem_cons_of_mem _ (List.mem_cons_of_mem _ List.mem_cons_self)))))
          refine hK.out _ _ hSnew (fun hHeld6 => ?_)
          clear hK K hSnew
          clear hHeld
          have hHeld := hHeld6
          clear hHeld6
          try simp only [Act.put, List.setIfInBounds_toArray, List.set_cons_zero, List.set_cons_succ]
          clear HX X
          obtain ⟨X, hX⟩ : ∃ X, X = Y := ⟨_, rfl⟩
          subst hX
          have HX := HY
          clear HY
          obtain ⟨e0, e1, e2, e3, e4⟩ := cells5 (HX.out.bx _ (List.mem_cons_of_mem _ List.mem_cons_self))
          obtain ⟨ef0, ef1, ef2, ef3, ef4⟩ := frz5 (HX.out.bx _ (List.mem_cons_of_mem _ List.mem_cons_self))
          obtain ⟨Y, hY, HG, HN⟩ := set5 (HX.out.bx (pb, #[.int .i64 0, .int .i64 0, .int .i64 0, .slice none 0 0, .slice none 0 0], 30) (List.mem_cons_of_mem _ List.mem_cons_self)) (.int .i64 (b2 : Int)) (.int .i64 (p2 : Int)) (.int .i64 (s2 : Int)) (.slice (some ⟨h, 0, none⟩) n2 dc) (.slice (some ⟨hm, 0, none⟩) b2 dm)
          refine wpAnyH_ready (rs := [7]) (by kernel_rfl) (by simp) ?_
          refine AllReadyH.cons (o := { dst := none, op := Op.store 30 (Operand.tmp 8) (Operand.tmp 46), type := 0, pos := "own.go:108", after := #[{ on := 5, ground := Ground.data }, { on := 3, ground := Ground.data }, { on := 6, ground := Ground.chain }, { on := 0, ground := Ground.phase }, { on := 1, ground := Ground.phase }, { on := 2, ground := Ground.phase }, { on := 3, ground := Ground.phase }, { on := 4, ground := Ground.phase }, { on := 5, ground := Ground.phase }, { on := 6, ground := Ground.phase }], guard := none }) rfl (fun K hK => ?_) AllReadyH.nil
          go_simp
          go_wp2_with fail
          rw [hY.out]
          clear hY
          have HY := Q0.hset1 (cs' := (imb b2 p2 s2 h 0 n2 dc hm 0 b2 dm)) HX HG HN (by decide) (by decide) Gpb.out
          clear HG HN e0 e1 e2 e3 e4 ef0 ef1 ef2 ef3 ef4
          have hSnew := And.intro (cells5 (HY.out.bx _ (List.mem_cons_of_mem _ (List.mem_cons_of_mem _ (List.mem_cons_of_mem _ (List.mem_cons_of_mem _ List.mem_cons_self)))))) (cells5 (HY.out.bx _ (List.mem_cons_of_mem _ (List.mem_cons_of_mem _ (List.mem_cons_of_mem _ List.mem_cons_self)))))
          refine hK.out _ _ hSnew (fun hHeld7 => ?_)
          clear hK K hSnew
          clear hHeld
          have hHeld := hHeld7
          clear hHeld7
          try simp only [Act.put, List.setIfInBounds_toArray, List.set_cons_zero, List.set_cons_succ]
          clear HX X
          obtain ⟨X, hX⟩ : ∃ X, X = Y := ⟨_, rfl⟩
          subst hX
          have HX := HY
          clear HY
          refine wpAnyH_done (by kernel_rfl) ?_ _
          clear hHeld
          exact HC X pa pb g cc gm cm h dc hm dm (HX.out.perm (List.Perm.swap _ _ _))
    · go_simp
      go_wp2_with fail
      obtain ⟨Y, hY⟩ : ∃ Y, X.alloc (.cells #[.int .i64 0, .int .i64 0, .int .i64 0, .slice none 0 0, .slice none 0 0] 30) = Y := ⟨_, rfl⟩
      obtain ⟨pa, hpa⟩ : ∃ q, X.heap.size = q := ⟨_, rfl⟩
      have HY : Hid (Q0 w Y [(pa, #[.int .i64 0, .int .i64 0, .int .i64 0, .slice none 0 0, .slice none 0 0], 30), ((w.heap.size + 2), #[.int .i64 x, .int .i64 y], 40), ((w.heap.size + 1), (imb b2 p2 s2 bk2 off2 n2 c2 mb2 mo2 b2 c2'), 30), (w.heap.size, (imb b p s bk off n c mb mo b c'), 30)] [] []) := by unfold Hid; rw [← hpa, ← hY]; exact HX.out.box _ _
      have Gpa : Hid (w.heap.size ≤ pa) := by unfold Hid; rw [← hpa]; exact HX.out.bel.size
      rw [hY]
      (try rw [hpa])
      clear hY
      have hSnew := And.intro (cells5 (HY.out.bx _ (List.mem_cons_of_mem _ (List.mem_cons_of_mem _ (List.mem_cons_of_mem _ List.mem_cons_self))))) (cells5 (HY.out.bx _ (List.mem_cons_of_mem _ (List.mem_cons_of_mem _ List.mem_cons_self))))
      refine hK.out _ _ hSnew (fun hHeld4 => ?_)
      clear hK K hSnew
      clear hHeld
      have hHeld := hHeld4
      clear hHeld4
      try simp only [Act.put, List.setIfInBounds_toArray, List.set_cons_zero, List.set_cons_succ]
      (try rw [hpa])
      clear hpa
      clear HX X
      obtain ⟨X, hX⟩ : ∃ X, X = Y := ⟨_, rfl⟩
      subst hX
      have HX := HY
      clear HY
      refine wpAnyH_ready (rs := [1, 5]) (by kernel_rfl) (by simp) ?_
      refine (AllReadyH.cons (o := { dst := some 44, op := Op.call { callee := Callee.value (Operand.func 15), args := #[Operand.tmp 43], argTypes := #[30] }, type := 30, pos := "own.go:108", after := #[{ on := 0, ground := Ground.data }], guard := none }) rfl (fun K hK => ?_) (AllReadyH.cons (o := { dst := some 8, op := Op.alloc 30, type := 0, pos := "own.go:108", after := #[], guard := none }) rfl (fun K hK => ?_) AllReadyH.nil))
      · go_simp
        go_at_call 15
        refine (copied_any (b : Int) (p : Int) (s : Int) bk off n c mb mo b c' zs ms _ (by omega) (by omega) (HR1.out.below HX.out.bel) (HRM1.out.below HX.out.bel) hn0 hb0).mono ?_
        rintro e Y ⟨g, cc, gm, cm, rfl, h1, h2, bl⟩
        have HY := Q0.himg HX bl h1 h2
        clear h1 h2 bl
        have hSnew := And.intro (cells5 (HY.out.bx _ (List.mem_cons_of_mem _ (List.mem_cons_of_mem _ (List.mem_cons_of_mem _ List.mem_cons_self))))) (cells5 (HY.out.bx _ (List.mem_cons_of_mem _ (List.mem_cons_of_mem _ List.mem_cons_self))))
        go_wp2_with fail
        refine hK.out _ _ hSnew (fun hHeld1 => ?_)
        clear hK K hSnew
        clear hHeld
        have hHeld := hHeld1
        clear hHeld1
        try simp only [Act.put, List.setIfInBounds_toArray, List.set_cons_zero, List.set_cons_succ]
        clear HX X
        obtain ⟨X, hX⟩ : ∃ X, X = Y := ⟨_, rfl⟩
        subst hX
        have HX := HY
        clear HY
        refine wpAnyH_ready (rs := [3, 5]) (by kernel_rfl) (by simp) ?_
        refine (AllReadyH.cons (o := { dst := some 46, op := Op.call { callee := Callee.value (Operand.func 15), args := #[Operand.tmp 45], argTypes := #[30] }, type := 30, pos := "own.go:108", after := #[{ on := 2, ground := Ground.data }, { on := 1, ground := Ground.chain }], guard := none }) rfl (fun K hK => ?_) (AllReadyH.cons (o := { dst := some 8, op := Op.alloc 30, type := 0, pos := "own.go:108", after := #[], guard := none }) rfl (fun K hK => ?_) AllReadyH.nil))
        · go_simp
          go_at_call 15
          refine (copied_any (b2 : Int) (p2 : Int) (s2 : Int) bk2 off2 n2 c2 mb2 mo2 b2 c2' zs2 ms2 _ (by omega) (by omega) (HR2.out.below HX.out.bel) (HRM2.out.below HX.out.bel) hn20 hb20).mono ?_
          rintro e Y ⟨h, dc, hm, dm, rfl, h1, h2, bl⟩
          have HY := Q0.himg HX bl h1 h2
          clear h1 h2 bl
          have hSnew := And.intro (cells5 (HY.out.bx _ (List.mem_cons_of_mem _ (List.mem_cons_of_mem _ (List.mem_cons_of_mem _ List.mem_cons_self))))) (cells5 (HY.out.bx _ (List.mem_cons_of_mem _ (List.mem_cons_of_mem _ List.mem_cons_self))))
          go_wp2_with fail
          refine hK.out _ _ hSnew (fun hHeld3 => ?_)
          clear hK K hSnew
          clear hHeld
          have hHeld := hHeld3
          clear hHeld3
          try simp only [Act.put, List.setIfInBounds_toArray, List.set_cons_zero, List.set_cons_succ]
          clear HX X
          obtain ⟨X, hX⟩ : ∃ X, X = Y := ⟨_, rfl⟩
          subst hX
          have HX := HY
          clear HY
          refine wpAnyH_ready (rs := [5]) (by kernel_rfl) (by simp) ?_
          refine (AllReadyH.cons (o := { dst := some 8, op := Op.alloc 30, type := 0, pos := "own.go:108", after := #[], guard := none }) rfl (fun K hK => ?_) AllReadyH.nil)
          go_simp
          go_wp2_with fail
          obtain ⟨Y, hY⟩ : ∃ Y, X.alloc (.cells #[.int .i64 0, .int .i64 0, .int .i64 0, .slice none 0 0, .slice none 0 0] 30) = Y := ⟨_, rfl⟩
          obtain ⟨pb, hpb⟩ : ∃ q, X.heap.size = q := ⟨_, rfl⟩
          have HY : Hid (Q0 w Y [(pb, #[.int .i64 0, .int .i64 0, .int .i64 0, .slice none 0 0, .slice none 0 0], 30), (pa, #[.int .i64 0, .int .i64 0, .int .i64 0, .slice none 0 0, .slice none 0 0], 30), ((w.heap.size + 2), #[.int .i64 x, .int .i64 y], 40), ((w.heap.size + 1), (imb b2 p2 s2 bk2 off2 n2 c2 mb2 mo2 b2 c2'), 30), (w.heap.size, (imb b p s bk off n c mb mo b c'), 30)] [((.slice (some ⟨h, 0, none⟩) n2 dc), zs2), ((.slice (some ⟨g, 0, none⟩) n cc), zs)] [((.slice (some ⟨hm, 0, none⟩) b2 dm), ms2), ((.slice (some ⟨gm, 0, none⟩) b cm), ms)]) := by unfold Hid; rw [← hpb, ← hY]; exact HX.out.box _ _
          have Gpb : Hid (w.heap.size ≤ pb) := by unfold Hid; rw [← hpb]; exact HX.out.bel.size
          rw [hY]
          (try rw [hpb])
          clear hY
          have hSnew := And.intro (cells5 (HY.out.bx _ (List.mem_cons_of_mem _ (List.mem_cons_of_mem _ (List.mem_cons_of_mem _ (List.mem_cons_of_mem _ List.mem_cons_self)))))) (cells5 (HY.out.bx _ (List.mem_cons_of_mem _ (List.mem_cons_of_mem _ (List.mem_cons_of_mem _ List.mem_cons_self)))))
          refine hK.out _ _ hSnew (fun hHeld5 => ?_)
          clear hK K hSnew
          clear hHeld
          have hHeld := hHeld5
          clear hHeld5
          try simp only [Act.put, List.setIfInBounds_toArray, List.set_cons_zero, List.set_cons_succ]
          (try rw [hpb])
          clear hpb
          clear HX X
          obtain ⟨X, hX⟩ : ∃ X, X = Y := ⟨_, rfl⟩
          subst hX
          have HX := HY
          clear HY
          obtain ⟨e0, e1, e2, e3, e4⟩ := cells5 (HX.out.bx _ (List.mem_cons_of_mem _ List.mem_cons_self))
          obtain ⟨ef0, ef1, ef2, ef3, ef4⟩ := frz5 (HX.out.bx _ (List.mem_cons_of_mem _ List.mem_cons_self))
          obtain ⟨Y, hY, HG, HN⟩ := set5 (HX.out.bx (pa, #[.int .i64 0, .int .i64 0, .int .i64 0, .slice none 0 0, .slice none 0 0], 30) (List.mem_cons_of_mem _ List.mem_cons_self)) (.int .i64 (b : Int)) (.int .i64 (p : Int)) (.int .i64 (s : Int)) (.slice (some ⟨g, 0, none⟩) n cc) (.slice (some ⟨gm, 0, none⟩) b cm)
          refine wpAnyH_ready (rs := [6]) (by kernel_rfl) (by simp) ?_
          refine AllReadyH.cons (o := { dst := none, op := Op.store 30 (Operand.tmp 7) (Operand.tmp 44), type := 0, pos := "own.go:108", after := #[{ on := 4, ground := Ground.data }, { on := 1, ground := Ground.data }, { on := 3, ground := Ground.chain }, { on := 0, ground := Ground.phase }, { on := 1, ground := Ground.phase }, { on := 2, ground := Ground.textOnly Departure.lateStores }, { on := 3, ground := Ground.textOnly Departure.lateStoresUnsure }, { on := 4, ground := Ground.phase }, { on := 5, ground := Ground.phase }], guard := none }) rfl (fun K hK => ?_) AllReadyH.nil
          go_simp
          go_wp2_with fail
          rw [hY.out]
          clear hY
          have HY := Q0.hset1 (cs' := (imb b p s g 0 n cc gm 0 b cm)) HX HG HN (by decide) (by decide) Gpa.out
          clear HG HN e0 e1 e2 e3 e4 ef0 ef1 ef2 ef3 ef4
          have hSnew := And.intro (cells5 (HY.out.bx _ (List.mem_cons_of_mem _ (List.mem_cons_of_mem _ (List.mem_cons_of_mem _ (List.mem_cons_of_mem _ List.mem_cons_self)))))) (cells5 (HY.out.bx _ (List.mem_cons_of_mem _ (List.mem_cons_of_mem _ (List.mem_cons_of_mem _ List.mem_cons_self)))))
          refine hK.out _ _ hSnew (fun hHeld6 => ?_)
          clear hK K hSnew
          clear hHeld
          have hHeld := hHeld6
          clear hHeld6
          try simp only [Act.put, List.setIfInBounds_toArray, List.set_cons_zero, List.set_cons_succ]
          clear HX X
          obtain ⟨X, hX⟩ : ∃ X, X = Y := ⟨_, rfl⟩
          subst hX
          have HX := HY
          clear HY
          obtain ⟨e0, e1, e2, e3, e4⟩ := cells5 (HX.out.bx _ List.mem_cons_self)
          obtain ⟨ef0, ef1, ef2, ef3, ef4⟩ := frz5 (HX.out.bx _ List.mem_cons_self)
          obtain ⟨Y, hY, HG, HN⟩ := set5 (HX.out.bx (pb, #[.int .i64 0, .int .i64 0, .int .i64 0, .slice none 0 0, .slice none 0 0], 30) List.mem_cons_self) (.int .i64 (b2 : Int)) (.int .i64 (p2 : Int)) (.int .i64 (s2 : Int)) (.slice (some ⟨h, 0, none⟩) n2 dc) (.slice (some ⟨hm, 0, none⟩) b2 dm)
          refine wpAnyH_ready (rs := [7]) (by kernel_rfl) (by simp) ?_
          refine AllReadyH.cons (o := { dst := none, op := Op.store 30 (Operand.tmp 8) (Operand.tmp 46), type := 0, pos := "own.go:108", after := #[{ on := 5, ground := Ground.data }, { on := 3, ground := Ground.data }, { on := 6, ground := Ground.chain }, { on := 0, ground := Ground.phase }, { on := 1, ground := Ground.phase }, { on := 2, ground := Ground.phase }, { on := 3, ground := Ground.phase }, { on := 4, ground := Ground.phase }, { on := 5, ground := Ground.phase }, { on := 6, ground := Ground.phase }], guard := none }) rfl (fun K hK => ?_) AllReadyH.nil
          go_simp
          go_wp2_with fail
          rw [hY.out]
          clear hY
          have HY := Q0.hset0 (cs' := (imb b2 p2 s2 h 0 n2 dc hm 0 b2 dm)) HX HG HN (by decide) (by decide) Gpb.out
          clear HG HN e0 e1 e2 e3 e4 ef0 ef1 ef2 ef3 ef4
          have hSnew := And.intro (cells5 (HY.out.bx _ (List.mem_cons_of_mem _ (List.mem_cons_of_mem _ (List.mem_cons_of_mem _ (List.mem_cons_of_mem _ List.mem_cons_self)))))) (cells5 (HY.out.bx _ (List.mem_cons_of_mem _ (List.mem_cons_of_mem _ (List.mem_cons_of_mem _ List.mem_cons_self)))))
          refine hK.out _ _ hSnew (fun hHeld7 => ?_)
          clear hK K hSnew
          clear hHeld
          have hHeld := hHeld7
          clear hHeld7
          try simp only [Act.put, List.setIfInBounds_toArray, List.set_cons_zero, List.set_cons_succ]
          clear HX X
          obtain ⟨X, hX⟩ : ∃ X, X = Y := ⟨_, rfl⟩
          subst hX
          have HX := HY
          clear HY
          refine wpAnyH_done (by kernel_rfl) ?_ _
          clear hHeld
          exact HC X pa pb g cc gm cm h dc hm dm HX.out
        · go_simp
          go_wp2_with fail
          obtain ⟨Y, hY⟩ : ∃ Y, X.alloc (.cells #[.int .i64 0, .int .i64 0, .int .i64 0, .slice none 0 0, .slice none 0 0] 30) = Y := ⟨_, rfl⟩
          obtain ⟨pb, hpb⟩ : ∃ q, X.heap.size = q := ⟨_, rfl⟩
          have HY : Hid (Q0 w Y [(pb, #[.int .i64 0, .int .i64 0, .int .i64 0, .slice none 0 0, .slice none 0 0], 30), (pa, #[.int .i64 0, .int .i64 0, .int .i64 0, .slice none 0 0, .slice none 0 0], 30), ((w.heap.size + 2), #[.int .i64 x, .int .i64 y], 40), ((w.heap.size + 1), (imb b2 p2 s2 bk2 off2 n2 c2 mb2 mo2 b2 c2'), 30), (w.heap.size, (imb b p s bk off n c mb mo b c'), 30)] [((.slice (some ⟨g, 0, none⟩) n cc), zs)] [((.slice (some ⟨gm, 0, none⟩) b cm), ms)]) := by unfold Hid; rw [← hpb, ← hY]; exact HX.out.box _ _
          have Gpb : Hid (w.heap.size ≤ pb) := by unfold Hid; rw [← hpb]; exact HX.out.bel.size
          rw [hY]
          (try rw [hpb])
          clear hY
          have hSnew := And.intro (cells5 (HY.out.bx _ (List.mem_cons_of_mem _ (List.mem_cons_of_mem _ (List.mem_cons_of_mem _ (List.mem_cons_of_mem _ List.mem_cons_self)))))) (cells5 (HY.out.bx _ (List.mem_cons_of_mem _ (List.mem_cons_of_mem _ (List.mem_cons_of_mem _ List.mem_cons_self)))))
          refine hK.out _ _ hSnew (fun hHeld5 => ?_)
          clear hK K hSnew
          clear hHeld
          have hHeld := hHeld5
          clear hHeld5
          try simp only [Act.put, List.setIfInBounds_toArray, List.set_cons_zero, List.set_cons_succ]
          (try rw [hpb])
          clear hpb
          clear HX X
          obtain ⟨X, hX⟩ : ∃ X, X = Y := ⟨_, rfl⟩
          subst hX
          have HX := HY
          clear HY
          refine wpAnyH_ready (rs := [3]) (by kernel_rfl) (by simp) ?_
          refine (AllReadyH.cons (o := { dst := some 46, op := Op.call { callee := Callee.value (Operand.func 15), args := #[Operand.tmp 45], argTypes := #[30] }, type := 30, pos := "own.go:108", after := #[{ on := 2, ground := Ground.data }, { on := 1, ground := Ground.chain }], guard := none }) rfl (fun K hK => ?_) AllReadyH.nil)
          go_simp
          go_at_call 15
          refine (copied_any (b2 : Int) (p2 : Int) (s2 : Int) bk2 off2 n2 c2 mb2 mo2 b2 c2' zs2 ms2 _ (by omega) (by omega) (HR2.out.below HX.out.bel) (HRM2.out.below HX.out.bel) hn20 hb20).mono ?_
          rintro e Y ⟨h, dc, hm, dm, rfl, h1, h2, bl⟩
          have HY := Q0.himg HX bl h1 h2
          clear h1 h2 bl
          have hSnew := And.intro (cells5 (HY.out.bx _ (List.mem_cons_of_mem _ (List.mem_cons_of_mem _ (List.mem_cons_of_mem _ (List.mem_cons_of_mem _ List.mem_cons_self)))))) (cells5 (HY.out.bx _ (List.mem_cons_of_mem _ (List.mem_cons_of_mem _ (List.mem_cons_of_mem _ List.mem_cons_self)))))
          go_wp2_with fail
          refine hK.out _ _ hSnew (fun hHeld3 => ?_)
          clear hK K hSnew
          clear hHeld
          have hHeld := hHeld3
          clear hHeld3
          try simp only [Act.put, List.setIfInBounds_toArray, List.set_cons_zero, List.set_cons_succ]
          clear HX X
          obtain ⟨X, hX⟩ : ∃ X, X = Y := ⟨_, rfl⟩
          subst hX
          have HX := HY
          clear HY
          obtain ⟨e0, e1, e2, e3, e4⟩ := cells5 (HX.out.bx _ (List.mem_cons_of_mem _ List.mem_cons_self))
          obtain ⟨ef0, ef1, ef2, ef3, ef4⟩ := frz5 (HX.out.bx _ (List.mem_cons_of_mem _ List.mem_cons_self))
          obtain ⟨Y, hY, HG, HN⟩ := set5 (HX.out.bx (pa, #[.int .i64 0, .int .i64 0, .int .i64 0, .slice none 0 0, .slice none 0 0], 30) (List.mem_cons_of_mem _ List.mem_cons_self)) (.int .i64 (b : Int)) (.int .i64 (p : Int)) (.int .i64 (s : Int)) (.slice (some ⟨g, 0, none⟩) n cc) (.slice (some ⟨gm, 0, none⟩) b cm)
          refine wpAnyH_ready (rs := [6]) (by kernel_rfl) (by simp) ?_
          refine AllReadyH.cons (o := { dst := none, op := Op.store 30 (Operand.tmp 7) (Operand.tmp 44), type := 0, pos := "own.go:108", after := #[{ on := 4, ground := Ground.data }, { on := 1, ground := Ground.data }, { on := 3, ground := Ground.chain }, { on := 0, ground := Ground.phase }, { on := 1, ground := Ground.phase }, { on := 2, ground := Ground.textOnly Departure.lateStores }, { on := 3, ground := Ground.textOnly Departure.lateStoresUnsure }, { on := 4, ground := Ground.phase }, { on := 5, ground := Ground.phase }], guard := none }) rfl (fun K hK => ?_) AllReadyH.nil
          go_simp
          go_wp2_with fail
          rw [hY.out]
          clear hY
          have HY := Q0.hset1 (cs' := (imb b p s g 0 n cc gm 0 b cm)) HX HG HN (by decide) (by decide) Gpa.out
          clear HG HN e0 e1 e2 e3 e4 ef0 ef1 ef2 ef3 ef4
          have hSnew := And.intro (cells5 (HY.out.bx _ (List.mem_cons_of_mem _ (List.mem_cons_of_mem _ (List.mem_cons_of_mem _ (List.mem_cons_of_mem _ List.mem_cons_self)))))) (cells5 (HY.out.bx _ (List.mem_cons_of_mem _ (List.mem_cons_of_mem _ (List.mem_cons_of_mem _ List.mem_cons_self)))))
          refine hK.out _ _ hSnew (fun hHeld6 => ?_)
          clear hK K hSnew
          clear hHeld
          have hHeld := hHeld6
          clear hHeld6
          try simp only [Act.put, List.setIfInBounds_toArray, List.set_cons_zero, List.set_cons_succ]
          clear HX X
          obtain ⟨X, hX⟩ : ∃ X, X = Y := ⟨_, rfl⟩
          subst hX
          have HX := HY
          clear HY
          obtain ⟨e0, e1, e2, e3, e4⟩ := cells5 (HX.out.bx _ List.mem_cons_self)
          obtain ⟨ef0, ef1, ef2, ef3, ef4⟩ := frz5 (HX.out.bx _ List.mem_cons_self)
          obtain ⟨Y, hY, HG, HN⟩ := set5 (HX.out.bx (pb, #[.int .i64 0, .int .i64 0, .int .i64 0, .slice none 0 0, .slice none 0 0], 30) List.mem_cons_self) (.int .i64 (b2 : Int)) (.int .i64 (p2 : Int)) (.int .i64 (s2 : Int)) (.slice (some ⟨h, 0, none⟩) n2 dc) (.slice (some ⟨hm, 0, none⟩) b2 dm)
          refine wpAnyH_ready (rs := [7]) (by kernel_rfl) (by simp) ?_
          refine AllReadyH.cons (o := { dst := none, op := Op.store 30 (Operand.tmp 8) (Operand.tmp 46), type := 0, pos := "own.go:108", after := #[{ on := 5, ground := Ground.data }, { on := 3, ground := Ground.data }, { on := 6, ground := Ground.chain }, { on := 0, ground := Ground.phase }, { on := 1, ground := Ground.phase }, { on := 2, ground := Ground.phase }, { on := 3, ground := Ground.phase }, { on := 4, ground := Ground.phase }, { on := 5, ground := Ground.phase }, { on := 6, ground := Ground.phase }], guard := none }) rfl (fun K hK => ?_) AllReadyH.nil
          go_simp
          go_wp2_with fail
          rw [hY.out]
          clear hY
          have HY := Q0.hset0 (cs' := (imb b2 p2 s2 h 0 n2 dc hm 0 b2 dm)) HX HG HN (by decide) (by decide) Gpb.out
          clear HG HN e0 e1 e2 e3 e4 ef0 ef1 ef2 ef3 ef4
          have hSnew := And.intro (cells5 (HY.out.bx _ (List.mem_cons_of_mem _ (List.mem_cons_of_mem _ (List.mem_cons_of_mem _ (List.mem_cons_of_mem _ List.mem_cons_self)))))) (cells5 (HY.out.bx _ (List.mem_cons_of_mem _ (List.mem_cons_of_mem _ (List.mem_cons_of_mem _ List.mem_cons_self)))))
          refine hK.out _ _ hSnew (fun hHeld7 => ?_)
          clear hK K hSnew
          clear hHeld
          have hHeld := hHeld7
          clear hHeld7
          try simp only [Act.put, List.setIfInBounds_toArray, List.set_cons_zero, List.set_cons_succ]
          clear HX X
          obtain ⟨X, hX⟩ : ∃ X, X = Y := ⟨_, rfl⟩
          subst hX
          have HX := HY
          clear HY
          refine wpAnyH_done (by kernel_rfl) ?_ _
          clear hHeld
          exact HC X pa pb g cc gm cm h dc hm dm HX.out
      · go_simp
        go_wp2_with fail
        obtain ⟨Y, hY⟩ : ∃ Y, X.alloc (.cells #[.int .i64 0, .int .i64 0, .int .i64 0, .slice none 0 0, .slice none 0 0] 30) = Y := ⟨_, rfl⟩
        obtain ⟨pb, hpb⟩ : ∃ q, X.heap.size = q := ⟨_, rfl⟩
        have HY : Hid (Q0 w Y [(pb, #[.int .i64 0, .int .i64 0, .int .i64 0, .slice none 0 0, .slice none 0 0], 30), (pa, #[.int .i64 0, .int .i64 0, .int .i64 0, .slice none 0 0, .slice none 0 0], 30), ((w.heap.size + 2), #[.int .i64 x, .int .i64 y], 40), ((w.heap.size + 1), (imb b2 p2 s2 bk2 off2 n2 c2 mb2 mo2 b2 c2'), 30), (w.heap.size, (imb b p s bk off n c mb mo b c'), 30)] [] []) := by unfold Hid; rw [← hpb, ← hY]; exact HX.out.box _ _
        have Gpb : Hid (w.heap.size ≤ pb) := by unfold Hid; rw [← hpb]; exact HX.out.bel.size
        rw [hY]
        (try rw [hpb])
        clear hY
        have hSnew := And.intro (cells5 (HY.out.bx _ (List.mem_cons_of_mem _ (List.mem_cons_of_mem _ (List.mem_cons_of_mem _ (List.mem_cons_of_mem _ List.mem_cons_self)))))) (cells5 (HY.out.bx _ (List.mem_cons_of_mem _ (List.mem_cons_of_mem _ (List.mem_cons_of_mem _ List.mem_cons_self)))))
        refine hK.out _ _ hSnew (fun hHeld5 => ?_)
        clear hK K hSnew
        clear hHeld
        have hHeld := hHeld5
        clear hHeld5
        try simp only [Act.put, List.setIfInBounds_toArray, List.set_cons_zero, List.set_cons_succ]
        (try rw [hpb])
        clear hpb
        clear HX X
        obtain ⟨X, hX⟩ : ∃ X, X = Y := ⟨_, rfl⟩
        subst hX
        have HX := HY
        clear HY
        refine wpAnyH_ready (rs := [1]) (by kernel_rfl) (by simp) ?_
        refine (AllReadyH.cons (o := { dst := some 44, op := Op.call { callee := Callee.value (Operand.func 15), args := #[Operand.tmp 43], argTypes := #[30] }, type := 30, pos := "own.go:108", after := #[{ on := 0, ground := Ground.data }], guard := none }) rfl (fun K hK => ?_) AllReadyH.nil)
        go_simp
        go_at_call 15
        refine (copied_any (b : Int) (p : Int) (s : Int) bk off n c mb mo b c' zs ms _ (by omega) (by omega) (HR1.out.below HX.out.bel) (HRM1.out.below HX.out.bel) hn0 hb0).mono ?_
        rintro e Y ⟨g, cc, gm, cm, rfl, h1, h2, bl⟩
        have HY := Q0.himg HX bl h1 h2
        clear h1 h2 bl
        have hSnew := And.intro (cells5 (HY.out.bx _ (List.mem_cons_of_mem _ (List.mem_cons_of_mem _ (List.mem_cons_of_mem _ (List.mem_cons_of_mem _ List.mem_cons_self)))))) (cells5 (HY.out.bx _ (List.mem_cons_of_mem _ (List.mem_cons_of_mem _ (List.mem_cons_of_mem _ List.mem_cons_self)))))
        go_wp2_with fail
        refine hK.out _ _ hSnew (fun hHeld1 => ?_)
        clear hK K hSnew
        clear hHeld
        have hHeld := hHeld1
        clear hHeld1
        try simp only [Act.put, List.setIfInBounds_toArray, List.set_cons_zero, List.set_cons_succ]
        clear HX X
        obtain ⟨X, hX⟩ : ∃ X, X = Y := ⟨_, rfl⟩
        subst hX
        have HX := HY
        clear HY
        refine wpAnyH_ready (rs := [3]) (by kernel_rfl) (by simp) ?_
        refine (AllReadyH.cons (o := { dst := some 46, op := Op.call { callee := Callee.value (Operand.func 15), args := #[Operand.tmp 45], argTypes := #[30] }, type := 30, pos := "own.go:108", after := #[{ on := 2, ground := Ground.data }, { on := 1, ground := Ground.chain }], guard := none }) rfl (fun K hK => ?_) AllReadyH.nil)
        go_simp
        go_at_call 15
        refine (copied_any (b2 : Int) (p2 : Int) (s2 : Int) bk2 off2 n2 c2 mb2 mo2 b2 c2' zs2 ms2 _ (by omega) (by omega) (HR2.out.below HX.out.bel) (HRM2.out.below HX.out.bel) hn20 hb20).mono ?_
        rintro e Y ⟨h, dc, hm, dm, rfl, h1, h2, bl⟩
        have HY := Q0.himg HX bl h1 h2
        clear h1 h2 bl
        have hSnew := And.intro (cells5 (HY.out.bx _ (List.mem_cons_of_mem _ (List.mem_cons_of_mem _ (List.mem_cons_of_mem _ (List.mem_cons_of_mem _ List.mem_cons_self)))))) (cells5 (HY.out.bx _ (List.mem_cons_of_mem _ (List.mem_cons_of_mem _ (List.mem_cons_of_mem _ List.mem_cons_self)))))
        go_wp2_with fail
        refine hK.out _ _ hSnew (fun hHeld3 => ?_)
        clear hK K hSnew
        clear hHeld
        have hHeld := hHeld3
        clear hHeld3
        try simp only [Act.put, List.setIfInBounds_toArray, List.set_cons_zero, List.set_cons_succ]
        clear HX X
        obtain ⟨X, hX⟩ : ∃ X, X = Y := ⟨_, rfl⟩
        subst hX
        have HX := HY
        clear HY
        obtain ⟨e0, e1, e2, e3, e4⟩ := cells5 (HX.out.bx _ (List.mem_cons_of_mem _ List.mem_cons_self))
        obtain ⟨ef0, ef1, ef2, ef3, ef4⟩ := frz5 (HX.out.bx _ (List.mem_cons_of_mem _ List.mem_cons_self))
        obtain ⟨Y, hY, HG, HN⟩ := set5 (HX.out.bx (pa, #[.int .i64 0, .int .i64 0, .int .i64 0, .slice none 0 0, .slice none 0 0], 30) (List.mem_cons_of_mem _ List.mem_cons_self)) (.int .i64 (b : Int)) (.int .i64 (p : Int)) (.int .i64 (s : Int)) (.slice (some ⟨g, 0, none⟩) n cc) (.slice (some ⟨gm, 0, none⟩) b cm)
        refine wpAnyH_ready (rs := [6]) (by kernel_rfl) (by simp) ?_
        refine AllReadyH.cons (o := { dst := none, op := Op.store 30 (Operand.tmp 7) (Operand.tmp 44), type := 0, pos := "own.go:108", after := #[{ on := 4, ground := Ground.data }, { on := 1, ground := Ground.data }, { on := 3, ground := Ground.chain }, { on := 0, ground := Ground.phase }, { on := 1, ground := Ground.phase }, { on := 2, ground := Ground.textOnly Departure.lateStores }, { on := 3, ground := Ground.textOnly Departure.lateStoresUnsure }, { on := 4, ground := Ground.phase }, { on := 5, ground := Ground.phase }], guard := none }) rfl (fun K hK => ?_) AllReadyH.nil
        go_simp
        go_wp2_with fail
        rw [hY.out]
        clear hY
        have HY := Q0.hset1 (cs' := (imb b p s g 0 n cc gm 0 b cm)) HX HG HN (by decide) (by decide) Gpa.out
        clear HG HN e0 e1 e2 e3 e4 ef0 ef1 ef2 ef3 ef4
        have hSnew := And.intro (cells5 (HY.out.bx _ (List.mem_cons_of_mem _ (List.mem_cons_of_mem _ (List.mem_cons_of_mem _ (List.mem_cons_of_mem _ List.mem_cons_self)))))) (cells5 (HY.out.bx _ (List.mem_cons_of_mem _ (List.mem_cons_of_mem _ (List.mem_cons_of_mem _ List.mem_cons_self)))))
        refine hK.out _ _ hSnew (fun hHeld6 => ?_)
        clear hK K hSnew
        clear hHeld
        have hHeld := hHeld6
        clear hHeld6
        try simp only [Act.put, List.setIfInBounds_toArray, List.set_cons_zero, List.set_cons_succ]
        clear HX X
        obtain ⟨X, hX⟩ : ∃ X, X = Y := ⟨_, rfl⟩
        subst hX
        have HX := HY
        clear HY
        obtain ⟨e0, e1, e2, e3, e4⟩ := cells5 (HX.out.bx _ List.mem_cons_self)
        obtain ⟨ef0, ef1, ef2, ef3, ef4⟩ := frz5 (HX.out.bx _ List.mem_cons_self)
        obtain ⟨Y, hY, HG, HN⟩ := set5 (HX.out.bx (pb, #[.int .i64 0, .int .i64 0, .int .i64 0, .slice none 0 0, .slice none 0 0], 30) List.mem_cons_self) (.int .i64 (b2 : Int)) (.int .i64 (p2 : Int)) (.int .i64 (s2 : Int)) (.slice (some ⟨h, 0, none⟩) n2 dc) (.slice (some ⟨hm, 0, none⟩) b2 dm)
        refine wpAnyH_ready (rs := [7]) (by kernel_rfl) (by simp) ?_
        refine AllReadyH.cons (o := { dst := none, op := Op.store 30 (Operand.tmp 8) (Operand.tmp 46), type := 0, pos := "own.go:108", after := #[{ on := 5, ground := Ground.data }, { on := 3, ground := Ground.data }, { on := 6, ground := Ground.chain }, { on := 0, ground := Ground.phase }, { on := 1, ground := Ground.phase }, { on := 2, ground := Ground.phase }, { on := 3, ground := Ground.phase }, { on := 4, ground := Ground.phase }, { on := 5, ground := Ground.phase }, { on := 6, ground := Ground.phase }], guard := none }) rfl (fun K hK => ?_) AllReadyH.nil
        go_simp
        go_wp2_with fail
        rw [hY.out]
        clear hY
        have HY := Q0.hset0 (cs' := (imb b2 p2 s2 h 0 n2 dc hm 0 b2 dm)) HX HG HN (by decide) (by decide) Gpb.out
        clear HG HN e0 e1 e2 e3 e4 ef0 ef1 ef2 ef3 ef4
        have hSnew := And.intro (cells5 (HY.out.bx _ (List.mem_cons_of_mem _ (List.mem_cons_of_mem _ (List.mem_cons_of_mem _ (List.mem_cons_of_mem _ List.mem_cons_self)))))) (cells5 (HY.out.bx _ (List.mem_cons_of_mem _ (List.mem_cons_of_mem _ (List.mem_cons_of_mem _ List.mem_cons_self)))))
        refine hK.out _ _ hSnew (fun hHeld7 => ?_)
        clear hK K hSnew
        clear hHeld
        have hHeld := hHeld7
        clear hHeld7
        try simp only [Act.put, List.setIfInBounds_toArray, List.set_cons_zero, List.set_cons_succ]
        clear HX X
        obtain ⟨X, hX⟩ : ∃ X, X = Y := ⟨_, rfl⟩
        subst hX
        have HX := HY
        clear HY
        refine wpAnyH_done (by kernel_rfl) ?_ _
        clear hHeld
        exact HC X pa pb g cc gm cm h dc hm dm HX.out
    · go_simp
      go_wp2_with fail
      obtain ⟨Y, hY⟩ : ∃ Y, X.alloc (.cells #[.int .i64 0, .int .i64 0, .int .i64 0, .slice none 0 0, .slice none 0 0] 30) = Y := ⟨_, rfl⟩
      obtain ⟨pb, hpb⟩ : ∃ q, X.heap.size = q := ⟨_, rfl⟩
      have HY : Hid (Q0 w Y [(pb, #[.int .i64 0, .int .i64 0, .int .i64 0, .slice none 0 0, .slice none 0 0], 30), ((w.heap.size + 2), #[.int .i64 x, .int .i64 y], 40), ((w.heap.size + 1), (imb b2 p2 s2 bk2 off2 n2 c2 mb2 mo2 b2 c2'), 30), (w.heap.size, (imb b p s bk off n c mb mo b c'), 30)] [] []) := by unfold Hid; rw [← hpb, ← hY]; exact HX.out.box _ _
      have Gpb : Hid (w.heap.size ≤ pb) := by unfold Hid; rw [← hpb]; exact HX.out.bel.size
      rw [hY]
      (try rw [hpb])
      clear hY
      have hSnew := And.intro (cells5 (HY.out.bx _ (List.mem_cons_of_mem _ (List.mem_cons_of_mem _ (List.mem_cons_of_mem _ List.mem_cons_self))))) (cells5 (HY.out.bx _ (List.mem_cons_of_mem _ (List.mem_cons_of_mem _ List.mem_cons_self))))
      refine hK.out _ _ hSnew (fun hHeld5 => ?_)
      clear hK K hSnew
      clear hHeld
      have hHeld := hHeld5
      clear hHeld5
      try simp only [Act.put, List.setIfInBounds_toArray, List.set_cons_zero, List.set_cons_succ]
      (try rw [hpb])
      clear hpb
      clear HX X
      obtain ⟨X, hX⟩ : ∃ X, X = Y := ⟨_, rfl⟩
      subst hX
      have HX := HY
      clear HY
      refine wpAnyH_ready (rs := [1, 4]) (by kernel_rfl) (by simp) ?_
      refine (AllReadyH.cons (o := { dst := some 44, op := Op.call { callee := Callee.value (Operand.func 15), args := #[Operand.tmp 43], argTypes := #[30] }, type := 30, pos := "own.go:108", after := #[{ on := 0, ground := Ground.data }], guard := none }) rfl (fun K hK => ?_) (AllReadyH.cons (o := { dst := some 7, op := Op.alloc 30, type := 0, pos := "own.go:108", after := #[], guard := none }) rfl (fun K hK => ?_) AllReadyH.nil))
      · go_simp
        go_at_call 15
        refine (copied_any (b : Int) (p : Int) (s : Int) bk off n c mb mo b c' zs ms _ (by omega) (by omega) (HR1.out.below HX.out.bel) (HRM1.out.below HX.out.bel) hn0 hb0).mono ?_
        rintro e Y ⟨g, cc, gm, cm, rfl, h1, h2, bl⟩
        have HY := Q0.himg HX bl h1 h2
        clear h1 h2 bl
        have hSnew := And.intro (cells5 (HY.out.bx _ (List.mem_cons_of_mem _ (List.mem_cons_of_mem _ (List.mem_cons_of_mem _ List.mem_cons_self))))) (cells5 (HY.out.bx _ (List.mem_cons_of_mem _ (List.mem_cons_of_mem _ List.mem_cons_self))))
        go_wp2_with fail
        refine hK.out _ _ hSnew (fun hHeld1 => ?_)
        clear hK K hSnew
        clear hHeld
        have hHeld := hHeld1
        clear hHeld1
        try simp only [Act.put, List.setIfInBounds_toArray, List.set_cons_zero, List.set_cons_succ]
        clear HX X
        obtain ⟨X, hX⟩ : ∃ X, X = Y := ⟨_, rfl⟩
        subst hX
        have HX := HY
        clear HY
        refine wpAnyH_ready (rs := [3, 4]) (by kernel_rfl) (by simp) ?_
        refine (AllReadyH.cons (o := { dst := some 46, op := Op.call { callee := Callee.value (Operand.func 15), args := #[Operand.tmp 45], argTypes := #[30] }, type := 30, pos := "own.go:108", after := #[{ on := 2, ground := Ground.data }, { on := 1, ground := Ground.chain }], guard := none }) rfl (fun K hK => ?_) (AllReadyH.cons (o := { dst := some 7, op := Op.alloc 30, type := 0, pos := "own.go:108", after := #[], guard := none }) rfl (fun K hK => ?_) AllReadyH.nil))
        · go_simp
          go_at_call 15
          refine (copied_any (b2 : Int) (p2 : Int) (s2 : Int) bk2 off2 n2 c2 mb2 mo2 b2 c2' zs2 ms2 _ (by omega) (by omega) (HR2.out.below HX.out.bel) (HRM2.out.below HX.out.bel) hn20 hb20).mono ?_
          rintro e Y ⟨h, dc, hm, dm, rfl, h1, h2, bl⟩
          have HY := Q0.himg HX bl h1 h2
          clear h1 h2 bl
          have hSnew := And.intro (cells5 (HY.out.bx _ (List.mem_cons_of_mem _ (List.mem_cons_of_mem _ (List.mem_cons_of_mem _ List.mem_cons_self))))) (cells5 (HY.out.bx _ (List.mem_cons_of_mem _ (List.mem_cons_of_mem _ List.mem_cons_self))))
          go_wp2_with fail
          refine hK.out _ _ hSnew (fun hHeld3 => ?_)
          clear hK K hSnew
          clear hHeld
          have hHeld := hHeld3
          clear hHeld3
          try simp only [Act.put, List.setIfInBounds_toArray, List.set_cons_zero, List.set_cons_succ]
          clear HX X
          obtain ⟨X, hX⟩ : ∃ X, X = Y := ⟨_, rfl⟩
          subst hX
          have HX := HY
          clear HY
          refine wpAnyH_ready (rs := [4]) (by kernel_rfl) (by simp) ?_
          refine (AllReadyH.cons (o := { dst := some 7, op := Op.alloc 30, type := 0, pos := "own.go:108", after := #[], guard := none }) rfl (fun K hK => ?_) AllReadyH.nil)
          go_simp
          go_wp2_with fail
          obtain ⟨Y, hY⟩ : ∃ Y, X.alloc (.cells #[.int .i64 0, .int .i64 0, .int .i64 0, .slice none 0 0, .slice none 0 0] 30) = Y := ⟨_, rfl⟩
          obtain ⟨pa, hpa⟩ : ∃ q, X.heap.size = q := ⟨_, rfl⟩
          have HY : Hid (Q0 w Y [(pa, #[.int .i64 0, .int .i64 0, .int .i64 0, .slice none 0 0, .slice none 0 0], 30), (pb, #[.int .i64 0, .int .i64 0, .int .i64 0, .slice none 0 0, .slice none 0 0], 30), ((w.heap.size + 2), #[.int .i64 x, .int .i64 y], 40), ((w.heap.size + 1), (imb b2 p2 s2 bk2 off2 n2 c2 mb2 mo2 b2 c2'), 30), (w.heap.size, (imb b p s bk off n c mb mo b c'), 30)] [((.slice (some ⟨h, 0, none⟩) n2 dc), zs2), ((.slice (some ⟨g, 0, none⟩) n cc), zs)] [((.slice (some ⟨hm, 0, none⟩) b2 dm), ms2), ((.slice (some ⟨gm, 0, none⟩) b cm), ms)]) := by unfold Hid; rw [← hpa, ← hY]; exact HX.out.box _ _
          have Gpa : Hid (w.heap.size ≤ pa) := by unfold Hid; rw [← hpa]; exact HX.out.bel.size
          rw [hY]
          (try rw [hpa])
          clear hY
          have hSnew := And.intro (cells5 (HY.out.bx _ (List.mem_cons_of_mem _ (List.mem_cons_of_mem _ (List.mem_cons_of_mem _ (List.mem_cons_of_mem _ List.mem_cons_self)))))) (cells5 (HY.out.bx _ (List.mem_cons_of_mem _ (List.mem_cons_of_mem _ (List.mem_cons_of_mem _ List.mem_cons_self)))))
          refine hK.out _ _ hSnew (fun hHeld4 => ?_)
          clear hK K hSnew
          clear hHeld
          have hHeld := hHeld4
          clear hHeld4
          try simp only [Act.put, List.setIfInBounds_toArray, List.set_cons_zero, List.set_cons_succ]
          (try rw [hpa])
          clear hpa
          clear HX X
          obtain ⟨X, hX⟩ : ∃ X, X = Y := ⟨_, rfl⟩
          subst hX
          have HX := HY
          clear HY
          obtain ⟨e0, e1, e2, e3, e4⟩ := cells5 (HX.out.bx _ List.mem_cons_self)
          obtain ⟨ef0, ef1, ef2, ef3, ef4⟩ := frz5 (HX.out.bx _ List.mem_cons_self)
          obtain ⟨Y, hY, HG, HN⟩ := set5 (HX.out.bx (pa, #[.int .i64 0, .int .i64 0, .int .i64 0, .slice none 0 0, .slice none 0 0], 30) List.mem_cons_self) (.int .i64 (b : Int)) (.int .i64 (p : Int)) (.int .i64 (s : Int)) (.slice (some ⟨g, 0, none⟩) n cc) (.slice (some ⟨gm, 0, none⟩) b cm)
          refine wpAnyH_ready (rs := [6]) (by kernel_rfl) (by simp) ?_
          refine AllReadyH.cons (o := { dst := none, op := Op.store 30 (Operand.tmp 7) (Operand.tmp 44), type := 0, pos := "own.go:108", after := #[{ on := 4, ground := Ground.data }, { on := 1, ground := Ground.data }, { on := 3, ground := Ground.chain }, { on := 0, ground := Ground.phase }, { on := 1, ground := Ground.phase }, { on := 2, ground := Ground.textOnly Departure.lateStores }, { on := 3, ground := Ground.textOnly Departure.lateStoresUnsure }, { on := 4, ground := Ground.phase }, { on := 5, ground := Ground.phase }], guard := none }) rfl (fun K hK => ?_) AllReadyH.nil
          go_simp
          go_wp2_with fail
          rw [hY.out]
          clear hY
          have HY := Q0.hset0 (cs' := (imb b p s g 0 n cc gm 0 b cm)) HX HG HN (by decide) (by decide) Gpa.out
          clear HG HN e0 e1 e2 e3 e4 ef0 ef1 ef2 ef3 ef4
          have hSnew := And.intro (cells5 (HY.out.bx _ (List.mem_cons_of_mem _ (List.mem_cons_of_mem _ (List.mem_cons_of_mem _ (List.mem_cons_of_mem _ List.mem_cons_self)))))) (cells5 (HY.out.bx _ (List.mem_cons_of_mem _ (List.mem_cons_of_mem _ (List.mem_cons_of_mem _ List.mem_cons_self)))))
          refine hK.out _ _ hSnew (fun hHeld6 => ?_)
          clear hK K hSnew
          clear hHeld
          have hHeld := hHeld6
          clear hHeld6
          try simp only [Act.put, List.setIfInBounds_toArray, List.set_cons_zero, List.set_cons_succ]
          clear HX X
          obtain ⟨X, hX⟩ : ∃ X, X = Y := ⟨_, rfl⟩
          subst hX
          have HX := HY
          clear HY
          obtain ⟨e0, e1, e2, e3, e4⟩ := cells5 (HX.out.bx _ (List.mem_cons_of_mem _ List.mem_cons_self))
          obtain ⟨ef0, ef1, ef2, ef3, ef4⟩ := frz5 (HX.out.bx _ (List.mem_cons_of_mem _ List.mem_cons_self))
          obtain ⟨Y, hY, HG, HN⟩ := set5 (HX.out.bx (pb, #[.int .i64 0, .int .i64 0, .int .i64 0, .slice none 0 0, .slice none 0 0], 30) (List.mem_cons_of_mem _ List.mem_cons_self)) (.int .i64 (b2 : Int)) (.int .i64 (p2 : Int)) (.int .i64 (s2 : Int)) (.slice (some ⟨h, 0, none⟩) n2 dc) (.slice (some ⟨hm, 0, none⟩) b2 dm)
          refine wpAnyH_ready (rs := [7]) (by kernel_rfl) (by simp) ?_
          refine AllReadyH.cons (o := { dst := none, op := Op.store 30 (Operand.tmp 8) (Operand.tmp 46), type := 0, pos := "own.go:108", after := #[{ on := 5, ground := Ground.data }, { on := 3, ground := Ground.data }, { on := 6, ground := Ground.chain }, { on := 0, ground := Ground.phase }, { on := 1, ground := Ground.phase }, { on := 2, ground := Ground.phase }, { on := 3, ground := Ground.phase }, { on := 4, ground := Ground.phase }, { on := 5, ground := Ground.phase }, { on := 6, ground := Ground.phase }], guard := none }) rfl (fun K hK => ?_) AllReadyH.nil
          go_simp
          go_wp2_with fail
          rw [hY.out]
          clear hY
          have HY := Q0.hset1 (cs' := (imb b2 p2 s2 h 0 n2 dc hm 0 b2 dm)) HX HG HN (by decide) (by decide) Gpb.out
          clear HG HN e0 e1 e2 e3 e4 ef0 ef1 ef2 ef3 ef4
          have hSnew := And.intro (cells5 (HY.out.bx _ (List.mem_cons_of_mem _ (List.mem_cons_of_mem _ (List.mem_cons_of_mem _ (List.mem_cons_of_mem _ List.mem_cons_self)))))) (cells5 (HY.out.bx _ (List.mem_cons_of_mem _ (List.mem_cons_of_mem _ (List.mem_cons_of_mem _ List.mem_cons_self)))))
          refine hK.out _ _ hSnew (fun hHeld7 => ?_)
          clear hK K hSnew
          clear hHeld
          have hHeld := hHeld7
          clear hHeld7
          try simp only [Act.put, List.setIfInBounds_toArray, List.set_cons_zero, List.set_cons_succ]
          clear HX X
          obtain ⟨X, hX⟩ : ∃ X, X = Y := ⟨_, rfl⟩
          subst hX
          have HX := HY
          clear HY
          refine wpAnyH_done (by kernel_rfl) ?_ _
          clear hHeld
          exact HC X pa pb g cc gm cm h dc hm dm (HX.out.perm (List.Perm.swap _ _ _))
        · go_simp
          go_wp2_with fail
          obtain ⟨Y, hY⟩ : ∃ Y, X.alloc (.cells #[.int .i64 0, .int .i64 0, .int .i64 0, .slice none 0 0, .slice none 0 0] 30) = Y := ⟨_, rfl⟩
          obtain ⟨pa, hpa⟩ : ∃ q, X.heap.size = q := ⟨_, rfl⟩
          have HY : Hid (Q0 w Y [(pa, #[.int .i64 0, .int .i64 0, .int .i64 0, .slice none 0 0, .slice none 0 0], 30), (pb, #[.int .i64 0, .int .i64 0, .int .i64 0, .slice none 0 0, .slice none 0 0], 30), ((w.heap.size + 2), #[.int .i64 x, .int .i64 y], 40), ((w.heap.size + 1), (imb b2 p2 s2 bk2 off2 n2 c2 mb2 mo2 b2 c2'), 30), (w.heap.size, (imb b p s bk off n c mb mo b c'), 30)] [((.slice (some ⟨g, 0, none⟩) n cc), zs)] [((.slice (some ⟨gm, 0, none⟩) b cm), ms)]) := by unfold Hid; rw [← hpa, ← hY]; exact HX.out.box _ _
          have Gpa : Hid (w.heap.size ≤ pa) := by unfold Hid; rw [← hpa]; exact HX.out.bel.size
          rw [hY]
          (try rw [hpa])
          clear hY
          have hSnew := And.intro (cells5 (HY.out.bx _ (List.mem_cons_of_mem _ (List.mem_cons_of_mem _ (List.mem_cons_of_mem _ (List.mem_cons_of_mem _ List.mem_cons_self)))))) (cells5 (HY.out.bx _ (List.mem_cons_of_mem _ (List.mem_cons_of_mem _ (List.mem_cons_of_mem _ List.mem_cons_self)))))
          refine hK.out _ _ hSnew (fun hHeld4 => ?_)
          clear hK K hSnew
          clear hHeld
          have hHeld := hHeld4
          clear hHeld4
          try simp only [Act.put, List.setIfInBounds_toArray, List.set_cons_zero, List.set_cons_succ]
          (try rw [hpa])
          clear hpa
          clear HX X
          obtain ⟨X, hX⟩ : ∃ X, X = Y := ⟨_, rfl⟩
          subst hX
          have HX := HY
          clear HY
          refine wpAnyH_ready (rs := [3]) (by kernel_rfl) (by simp) ?_
          refine (AllReadyH.cons (o := { dst := some 46, op := Op.call { callee := Callee.value (Operand.func 15), args := #[Operand.tmp 45], argTypes := #[30] }, type := 30, pos := "own.go:108", after := #[{ on := 2, ground := Ground.data }, { on := 1, ground := Ground.chain }], guard := none }) rfl (fun K hK => ?_) AllReadyH.nil)
          go_simp
          go_at_call 15
          refine (copied_any (b2 : Int) (p2 : Int) (s2 : Int) bk2 off2 n2 c2 mb2 mo2 b2 c2' zs2 ms2 _ (by omega) (by omega) (HR2.out.below HX.out.bel) (HRM2.out.below HX.out.bel) hn20 hb20).mono ?_
          rintro e Y ⟨h, dc, hm, dm, rfl, h1, h2, bl⟩
          have HY := Q0.himg HX bl h1 h2
          clear h1 h2 bl
          have hSnew := And.intro (cells5 (HY.out.bx _ (List.mem_cons_of_mem _ (List.mem_cons_of_mem _ (List.mem_cons_of_mem _ (List.mem_cons_of_mem _ List.mem_cons_self)))))) (cells5 (HY.out.bx _ (List.mem_cons_of_mem _ (List.mem_cons_of_mem _ (List.mem_cons_of_mem _ List.mem_cons_self)))))
          go_wp2_with fail
          refine hK.out _ _ hSnew (fun hHeld3 => ?_)
          clear hK K hSnew
          clear hHeld
          have hHeld := hHeld3
          clear hHeld3
          try simp only [Act.put, List.setIfInBounds_toArray, List.set_cons_zero, List.set_cons_succ]
          clear HX X
          obtain ⟨X, hX⟩ : ∃ X, X = Y := ⟨_, rfl⟩
          subst hX
          have HX := HY
          clear HY
          obtain ⟨e0, e1, e2, e3, e4⟩ := cells5 (HX.out.bx _ List.mem_cons_self)
          obtain ⟨ef0, ef1, ef2, ef3, ef4⟩ := frz5 (HX.out.bx _ List.mem_cons_self)
          obtain ⟨Y, hY, HG, HN⟩ := set5 (HX.out.bx (pa, #[.int .i64 0, .int .i64 0, .int .i64 0, .slice none 0 0, .slice none 0 0], 30) List.mem_cons_self) (.int .i64 (b : Int)) (.int .i64 (p : Int)) (.int .i64 (s : Int)) (.slice (some ⟨g, 0, none⟩) n cc) (.slice (some ⟨gm, 0, none⟩) b cm)
          refine wpAnyH_ready (rs := [6]) (by kernel_rfl) (by simp) ?_
          refine AllReadyH.cons (o := { dst := none, op := Op.store 30 (Operand.tmp 7) (Operand.tmp 44), type := 0, pos := "own.go:108", after := #[{ on := 4, ground := Ground.data }, { on := 1, ground := Ground.data }, { on := 3, ground := Ground.chain }, { on := 0, ground := Ground.phase }, { on := 1, ground := Ground.phase }, { on := 2, ground := Ground.textOnly Departure.lateStores }, { on := 3, ground := Ground.textOnly Departure.lateStoresUnsure }, { on := 4, ground := Ground.phase }, { on := 5, ground := Ground.phase }], guard := none }) rfl (fun K hK => ?_) AllReadyH.nil
          go_simp
          go_wp2_with fail
          rw [hY.out]
          clear hY
          have HY := Q0.hset0 (cs' := (imb b p s g 0 n cc gm 0 b cm)) HX HG HN (by decide) (by decide) Gpa.out
          clear HG HN e0 e1 e2 e3 e4 ef0 ef1 ef2 ef3 ef4
          have hSnew := And.intro (cells5 (HY.out.bx _ (List.mem_cons_of_mem _ (List.mem_cons_of_mem _ (List.mem_cons_of_mem _ (List.mem_cons_of_mem _ List.mem_cons_self)))))) (cells5 (HY.out.bx _ (List.mem_cons_of_mem _ (List.mem_cons_of_mem _ (List.mem_cons_of_mem _ List.mem_cons_self)))))
          refine hK.out _ _ hSnew (fun hHeld6 => ?_)
          clear hK K hSnew
          clear hHeld
          have hHeld := hHeld6
          clear hHeld6
          try simp only [Act.put, List.setIfInBounds_toArray, List.set_cons_zero, List.set_cons_succ]
          clear HX X
          obtain ⟨X, hX⟩ : ∃ X, X = Y := ⟨_, rfl⟩
          subst hX
          have HX := HY
          clear HY
          obtain ⟨e0, e1, e2, e3, e4⟩ := cells5 (HX.out.bx _ (List.mem_cons_of_mem _ List.mem_cons_self))
          obtain ⟨ef0, ef1, ef2, ef3, ef4⟩ := frz5 (HX.out.bx _ (List.mem_cons_of_mem _ List.mem_cons_self))
          obtain ⟨Y, hY, HG, HN⟩ := set5 (HX.out.bx (pb, #[.int .i64 0, .int .i64 0, .int .i64 0, .slice none 0 0, .slice none 0 0], 30) (List.mem_cons_of_mem _ List.mem_cons_self)) (.int .i64 (b2 : Int)) (.int .i64 (p2 : Int)) (.int .i64 (s2 : Int)) (.slice (some ⟨h, 0, none⟩) n2 dc) (.slice (some ⟨hm, 0, none⟩) b2 dm)
          refine wpAnyH_ready (rs := [7]) (by kernel_rfl) (by simp) ?_
          refine AllReadyH.cons (o := { dst := none, op := Op.store 30 (Operand.tmp 8) (Operand.tmp 46), type := 0, pos := "own.go:108", after := #[{ on := 5, ground := Ground.data }, { on := 3, ground := Ground.data }, { on := 6, ground := Ground.chain }, { on := 0, ground := Ground.phase }, { on := 1, ground := Ground.phase }, { on := 2, ground := Ground.phase }, { on := 3, ground := Ground.phase }, { on := 4, ground := Ground.phase }, { on := 5, ground := Ground.phase }, { on := 6, ground := Ground.phase }], guard := none }) rfl (fun K hK => ?_) AllReadyH.nil
          go_simp
          go_wp2_with fail
          rw [hY.out]
          clear hY
          have HY := Q0.hset1 (cs' := (imb b2 p2 s2 h 0 n2 dc hm 0 b2 dm)) HX HG HN (by decide) (by decide) Gpb.out
          clear HG HN e0 e1 e2 e3 e4 ef0 ef1 ef2 ef3 ef4
          have hSnew := And.intro (cells5 (HY.out.bx _ (List.mem_cons_of_mem _ (List.mem_cons_of_mem _ (List.mem_cons_of_mem _ (List.mem_cons_of_mem _ List.mem_cons_self)))))) (cells5 (HY.out.bx _ (List.mem_cons_of_mem _ (List.mem_cons_of_mem _ (List.mem_cons_of_mem _ List.mem_cons_self)))))
          refine hK.out _ _ hSnew (fun hHeld7 => ?_)
          clear hK K hSnew
          clear hHeld
          have hHeld := hHeld7
          clear hHeld7
          try simp only [Act.put, List.setIfInBounds_toArray, List.set_cons_zero, List.set_cons_succ]
          clear HX X
          obtain ⟨X, hX⟩ : ∃ X, X = Y := ⟨_, rfl⟩
          subst hX
          have HX := HY
          clear HY
          refine wpAnyH_done (by kernel_rfl) ?_ _
          clear hHeld
          exact HC X pa pb g cc gm cm h dc hm dm (HX.out.perm (List.Perm.swap _ _ _))
      · go_simp
        go_wp2_with fail
        obtain ⟨Y, hY⟩ : ∃ Y, X.alloc (.cells #[.int .i64 0, .int .i64 0, .int .i64 0, .slice none 0 0, .slice none 0 0] 30) = Y := ⟨_, rfl⟩
        obtain ⟨pa, hpa⟩ : ∃ q, X.heap.size = q := ⟨_, rfl⟩
        have HY : Hid (Q0 w Y [(pa, #[.int .i64 0, .int .i64 0, .int .i64 0, .slice none 0 0, .slice none 0 0], 30), (pb, #[.int .i64 0, .int .i64 0, .int .i64 0, .slice none 0 0, .slice none 0 0], 30), ((w.heap.size + 2), #[.int .i64 x, .int .i64 y], 40), ((w.heap.size + 1), (imb b2 p2 s2 bk2 off2 n2 c2 mb2 mo2 b2 c2'), 30), (w.heap.size, (imb b p s bk off n c mb mo b c'), 30)] [] []) := by unfold Hid; rw [← hpa, ← hY]; exact HX.out.box _ _
        have Gpa : Hid (w.heap.size ≤ pa) := by unfold Hid; rw [← hpa]; exact HX.out.bel.size
        rw [hY]
        (try rw [hpa])
        clear hY
        have hSnew := And.intro (cells5 (HY.out.bx _ (List.mem_cons_of_mem _ (List.mem_cons_of_mem _ (List.mem_cons_of_mem _ (List.mem_cons_of_mem _ List.mem_cons_self)))))) (cells5 (HY.out.bx _ (List.mem_cons_of_mem _ (List.mem_cons_of_mem _ (List.mem_cons_of_mem _ List.mem_cons_self)))))
        refine hK.out _ _ hSnew (fun hHeld4 => ?_)
        clear hK K hSnew
        clear hHeld
        have hHeld := hHeld4
        clear hHeld4
        try simp only [Act.put, List.setIfInBounds_toArray, List.set_cons_zero, List.set_cons_succ]
        (try rw [hpa])
        clear hpa
        clear HX X
        obtain ⟨X, hX⟩ : ∃ X, X = Y := ⟨_, rfl⟩
        subst hX
        have HX := HY
        clear HY
        refine wpAnyH_ready (rs := [1]) (by kernel_rfl) (by simp) ?_
        refine (AllReadyH.cons (o := { dst := some 44, op := Op.call { callee := Callee.value (Operand.func 15), args := #[Operand.tmp 43], argTypes := #[30] }, type := 30, pos := "own.go:108", after := #[{ on := 0, ground := Ground.data }], guard := none }) rfl (fun K hK => ?_) AllReadyH.nil)
        go_simp
        go_at_call 15
        refine (copied_any (b : Int) (p : Int) (s : Int) bk off n c mb mo b c' zs ms _ (by omega) (by omega) (HR1.out.below HX.out.bel) (HRM1.out.below HX.out.bel) hn0 hb0).mono ?_
        rintro e Y ⟨g, cc, gm, cm, rfl, h1, h2, bl⟩
        have HY := Q0.himg HX bl h1 h2
        clear h1 h2 bl
        have hSnew := And.intro (cells5 (HY.out.bx _ (List.mem_cons_of_mem _ (List.mem_cons_of_mem _ (List.mem_cons_of_mem _ (List.mem_cons_of_mem _ List.mem_cons_self)))))) (cells5 (HY.out.bx _ (List.mem_cons_of_mem _ (List.mem_cons_of_mem _ (List.mem_cons_of_mem _ List.mem_cons_self)))))
        go_wp2_with fail
        refine hK.out _ _ hSnew (fun hHeld1 => ?_)
        clear hK K hSnew
        clear hHeld
        have hHeld := hHeld1
        clear hHeld1
        try simp only [Act.put, List.setIfInBounds_toArray, List.set_cons_zero, List.set_cons_succ]
        clear HX X
        obtain ⟨X, hX⟩ : ∃ X, X = Y := ⟨_, rfl⟩
        subst hX
        have HX := HY
        clear HY
        refine wpAnyH_ready (rs := [3]) (by kernel_rfl) (by simp) ?_
        refine (AllReadyH.cons (o := { dst := some 46, op := Op.call { callee := Callee.value (Operand.func 15), args := #[Operand.tmp 45], argTypes := #[30] }, type := 30, pos := "own.go:108", after := #[{ on := 2, ground := Ground.data }, { on := 1, ground := Ground.chain }], guard := none }) rfl (fun K hK => ?_) AllReadyH.nil)
        go_simp
        go_at_call 15
        refine (copied_any (b2 : Int) (p2 : Int) (s2 : Int) bk2 off2 n2 c2 mb2 mo2 b2 c2' zs2 ms2 _ (by omega) (by omega) (HR2.out.below HX.out.bel) (HRM2.out.below HX.out.bel) hn20 hb20).mono ?_
        rintro e Y ⟨h, dc, hm, dm, rfl, h1, h2, bl⟩
        have HY := Q0.himg HX bl h1 h2
        clear h1 h2 bl
        have hSnew := And.intro (cells5 (HY.out.bx _ (List.mem_cons_of_mem _ (List.mem_cons_of_mem _ (List.mem_cons_of_mem _ (List.mem_cons_of_mem _ List.mem_cons_self)))))) (cells5 (HY.out.bx _ (List.mem_cons_of_mem _ (List.mem_cons_of_mem _ (List.mem_cons_of_mem _ List.mem_cons_self)))))
        go_wp2_with fail
        refine hK.out _ _ hSnew (fun hHeld3 => ?_)
        clear hK K hSnew
        clear hHeld
        have hHeld := hHeld3
        clear hHeld3
        try simp only [Act.put, List.setIfInBounds_toArray, List.set_cons_zero, List.set_cons_succ]
        clear HX X
        obtain ⟨X, hX⟩ : ∃ X, X = Y := ⟨_, rfl⟩
        subst hX
        have HX := HY
        clear HY
        obtain ⟨e0, e1, e2, e3, e4⟩ := cells5 (HX.out.bx _ List.mem_cons_self)
        obtain ⟨ef0, ef1, ef2, ef3, ef4⟩ := frz5 (HX.out.bx _ List.mem_cons_self)
        obtain ⟨Y, hY, HG, HN⟩ := set5 (HX.out.bx (pa, #[.int .i64 0, .int .i64 0, .int .i64 0, .slice none 0 0, .slice none 0 0], 30) List.mem_cons_self) (.int .i64 (b : Int)) (.int .i64 (p : Int)) (.int .i64 (s : Int)) (.slice (some ⟨g, 0, none⟩) n cc) (.slice (some ⟨gm, 0, none⟩) b cm)
        refine wpAnyH_ready (rs := [6]) (by kernel_rfl) (by simp) ?_
        refine AllReadyH.cons (o := { dst := none, op := Op.store 30 (Operand.tmp 7) (Operand.tmp 44), type := 0, pos := "own.go:108", after := #[{ on := 4, ground := Ground.data }, { on := 1, ground := Ground.data }, { on := 3, ground := Ground.chain }, { on := 0, ground := Ground.phase }, { on := 1, ground := Ground.phase }, { on := 2, ground := Ground.textOnly Departure.lateStores }, { on := 3, ground := Ground.textOnly Departure.lateStoresUnsure }, { on := 4, ground := Ground.phase }, { on := 5, ground := Ground.phase }], guard := none }) rfl (fun K hK => ?_) AllReadyH.nil
        go_simp
        go_wp2_with fail
        rw [hY.out]
        clear hY
        have HY := Q0.hset0 (cs' := (imb b p s g 0 n cc gm 0 b cm)) HX HG HN (by decide) (by decide) Gpa.out
        clear HG HN e0 e1 e2 e3 e4 ef0 ef1 ef2 ef3 ef4
        have hSnew := And.intro (cells5 (HY.out.bx _ (List.mem_cons_of_mem _ (List.mem_cons_of_mem _ (List.mem_cons_of_mem _ (List.mem_cons_of_mem _ List.mem_cons_self)))))) (cells5 (HY.out.bx _ (List.mem_cons_of_mem _ (List.mem_cons_of_mem _ (List.mem_cons_of_mem _ List.mem_cons_self)))))
        refine hK.out _ _ hSnew (fun hHeld6 => ?_)
        clear hK K hSnew
        clear hHeld
        have hHeld := hHeld6
        clear hHeld6
        try simp only [Act.put, List.setIfInBounds_toArray, List.set_cons_zero, List.set_cons_succ]
        clear HX X
        obtain ⟨X, hX⟩ : ∃ X, X = Y := ⟨_, rfl⟩
        subst hX
        have HX := HY
        clear HY
        obtain ⟨e0, e1, e2, e3, e4⟩ := cells5 (HX.out.bx _ (List.mem_cons_of_mem _ List.mem_cons_self))
        obtain ⟨ef0, ef1, ef2, ef3, ef4⟩ := frz5 (HX.out.bx _ (List.mem_cons_of_mem _ List.mem_cons_self))
        obtain ⟨Y, hY, HG, HN⟩ := set5 (HX.out.bx (pb, #[.int .i64 0, .int .i64 0, .int .i64 0, .slice none 0 0, .slice none 0 0], 30) (List.mem_cons_of_mem _ List.mem_cons_self)) (.int .i64 (b2 : Int)) (.int .i64 (p2 : Int)) (.int .i64 (s2 : Int)) (.slice (some ⟨h, 0, none⟩) n2 dc) (.slice (some ⟨hm, 0, none⟩) b2 dm)
        refine wpAnyH_ready (rs := [7]) (by kernel_rfl) (by simp) ?_
        refine AllReadyH.cons (o := { dst := none, op := Op.store 30 (Operand.tmp 8) (Operand.tmp 46), type := 0, pos := "own.go:108", after := #[{ on := 5, ground := Ground.data }, { on := 3, ground := Ground.data }, { on := 6, ground := Ground.chain }, { on := 0, ground := Ground.phase }, { on := 1, ground := Ground.phase }, { on := 2, ground := Ground.phase }, { on := 3, ground := Ground.phase }, { on := 4, ground := Ground.phase }, { on := 5, ground := Ground.phase }, { on := 6, ground := Ground.phase }], guard := none }) rfl (fun K hK => ?_) AllReadyH.nil
        go_simp
        go_wp2_with fail
        rw [hY.out]
        clear hY
        have HY := Q0.hset1 (cs' := (imb b2 p2 s2 h 0 n2 dc hm 0 b2 dm)) HX HG HN (by decide) (by decide) Gpb.out
        clear HG HN e0 e1 e2 e3 e4 ef0 ef1 ef2 ef3 ef4
        have hSnew := And.intro (cells5 (HY.out.bx _ (List.mem_cons_of_mem _ (List.mem_cons_of_mem _ (List.mem_cons_of_mem _ (List.mem_cons_of_mem _ List.mem_cons_self)))))) (cells5 (HY.out.bx _ (List.mem_cons_of_mem _ (List.mem_cons_of_mem _ (List.mem_cons_of_mem _ List.mem_cons_self)))))
        refine hK.out _ _ hSnew (fun hHeld7 => ?_)
        clear hK K hSnew
        clear hHeld
        have hHeld := hHeld7
        clear hHeld7
        try simp only [Act.put, List.setIfInBounds_toArray, List.set_cons_zero, List.set_cons_succ]
        clear HX X
        obtain ⟨X, hX⟩ : ∃ X, X = Y := ⟨_, rfl⟩
        subst hX
        have HX := HY
        clear HY
        refine wpAnyH_done (by kernel_rfl) ?_ _
        clear hHeld
        exact HC X pa pb g cc gm cm h dc hm dm (HX.out.perm (List.Perm.swap _ _ _))
  case h2 =>
    intro W pa pb g cc gm cm h dc hm dm HF
    (try dsimp only at HF)
    (try clear HQ2)
    obtain ⟨B1, hB1⟩ : ∃ B1, W.heap.size = B1 := ⟨_, rfl⟩
    have H0 : Hid (Q2 w W B1 [(pb, (imb b2 p2 s2 h 0 n2 dc hm 0 b2 dm), 30), (pa, (imb b p s g 0 n cc gm 0 b cm), 30), ((w.heap.size + 2), #[.int .i64 x, .int .i64 y], 40), ((w.heap.size + 1), (imb b2 p2 s2 bk2 off2 n2 c2 mb2 mo2 b2 c2'), 30), (w.heap.size, (imb b p s bk off n c mb mo b c'), 30)] [((.slice (some ⟨h, 0, none⟩) n2 dc), zs2), ((.slice (some ⟨g, 0, none⟩) n cc), zs)] [((.slice (some ⟨hm, 0, none⟩) b2 dm), ms2), ((.slice (some ⟨gm, 0, none⟩) b cm), ms)] [] [] []) := by unfold Hid; rw [← hB1]; exact Q2.start HF
    have HB5 : Hid (pa < B1 ∧ pb < B1 ∧ w.heap.size + 2 < B1) := by unfold Hid; rw [← hB1]; exact ⟨lt_of_b (HF.bx _ (List.mem_cons_of_mem _ List.mem_cons_self)), lt_of_b (HF.bx _ List.mem_cons_self), lt_of_b (HF.bx _ (List.mem_cons_of_mem _ (List.mem_cons_of_mem _ List.mem_cons_self)))⟩
    have HBK : Hid (bk < w.heap.size ∧ mb < w.heap.size) := ⟨rd_lt HR1.out hn0, rdB_lt HRM1.out hb0⟩
    clear HF hB1
    obtain ⟨i0, hi, hz0, hz1, hz2⟩ := info_parts info5
    obtain ⟨P1, hP1⟩ : ∃ P, packL ⟨b, p, s, zs, ms⟩ = P := ⟨_, rfl⟩
    obtain ⟨P2, hP2⟩ : ∃ P, packL ⟨b2, p2, s2, zs2, ms2⟩ = P := ⟨_, rfl⟩
    obtain ⟨K1, hK1⟩ : ∃ K, P1.length = K := ⟨_, rfl⟩
    obtain ⟨K2, hK2⟩ : ∃ K, P2.length = K := ⟨_, rfl⟩
    have HP : Hid (packL ⟨b, p, s, zs, ms⟩ = P1 ∧ packL ⟨b2, p2, s2, zs2, ms2⟩ = P2 ∧ P1.length = K1 ∧ P2.length = K2) := ⟨hP1, hP2, hK1, hK2⟩
    have hKb : 0 < K1 ∧ K1 ≤ 900000000 ∧ 0 < K2 ∧ K2 ≤ 900000000 := by rw [← hK1, ← hK2, ← hP1, ← hP2]; exact ⟨pack_pos _, pack_len _ HM1.out, pack_pos _, pack_len _ HM2.out⟩
    have HBY : Hid (Byt P1 ∧ Byt P2) := by unfold Hid; rw [← hP1, ← hP2]; exact ⟨pack_byt _ HM1.out, pack_byt _ HM2.out⟩
    clear hP1 hP2 hK1 hK2
    obtain ⟨DA, hDA⟩ : ∃ D, pgA b p s zs x y = D := ⟨_, rfl⟩
    obtain ⟨EA, hEA⟩ : ∃ D, pgB b p s zs x y = D := ⟨_, rfl⟩
    obtain ⟨RA, hRA⟩ : ∃ D, pgE b p x y = D := ⟨_, rfl⟩
    obtain ⟨LDA, hLDA⟩ : ∃ N, DA.length = N := ⟨_, rfl⟩
    obtain ⟨LEA, hLEA⟩ : ∃ N, EA.length = N := ⟨_, rfl⟩
    obtain ⟨DB, hDB⟩ : ∃ D, pgA b2 p2 s2 zs2 x y = D := ⟨_, rfl⟩
    obtain ⟨EB, hEB⟩ : ∃ D, pgB b2 p2 s2 zs2 x y = D := ⟨_, rfl⟩
    obtain ⟨RB, hRB⟩ : ∃ D, pgE b2 p2 x y = D := ⟨_, rfl⟩
    obtain ⟨LDB, hLDB⟩ : ∃ N, DB.length = N := ⟨_, rfl⟩
    obtain ⟨LEB, hLEB⟩ : ∃ N, EB.length = N := ⟨_, rfl⟩
    have HPA : Hid (∀ (X : World) (g9 c9 : Nat) (a9 : Option Addr) (c8 : Nat), Own X w.heap.size g9 n c9 zs → Calls Tryd.prog 18 #[.agg #[.int .i64 (b : Int), .int .i64 (p : Int), .int .i64 (s : Int), .slice (some ⟨g9, 0, none⟩) n c9, .slice a9 b c8], .agg #[.int .i64 x, .int .i64 y]] X fun e w' => ∃ a1 k1 a2 k2, e = .returned (.tuple #[.agg #[.slice a1 LDA k1, .slice a2 LEA k2], .int .i64 RA]) ∧ w'.ownsRow X.heap.size 5 1 (.slice a1 LDA k1) LDA (encY DA) ∧ w'.ownsRow X.heap.size 5 1 (.slice a2 LEA k2) LEA (encY EA) ∧ (∀ q, (Value.slice a2 LEA k2).ownBlock = some q → (Value.slice a1 LDA k1).ownBlock ≠ some q) ∧ Below X.heap.size X w') := fun X g9 c9 a9 c8 ho => by
      have h9 := page_own b p s g9 0 n c9 a9 c8 x y zs ms X HM1.out HZ1.out (ho.all HM1.out.2.2.2) (own_le ho).1 (own_le ho).2
      rw [hDA, hEA, hRA, hLDA, hLEA] at h9
      exact h9
    have HPB : Hid (∀ (X : World) (g9 c9 : Nat) (a9 : Option Addr) (c8 : Nat), Own X w.heap.size g9 n2 c9 zs2 → Calls Tryd.prog 18 #[.agg #[.int .i64 (b2 : Int), .int .i64 (p2 : Int), .int .i64 (s2 : Int), .slice (some ⟨g9, 0, none⟩) n2 c9, .slice a9 b2 c8], .agg #[.int .i64 x, .int .i64 y]] X fun e w' => ∃ a1 k1 a2 k2, e = .returned (.tuple #[.agg #[.slice a1 LDB k1, .slice a2 LEB k2], .int .i64 RB]) ∧ w'.ownsRow X.heap.size 5 1 (.slice a1 LDB k1) LDB (encY DB) ∧ w'.ownsRow X.heap.size 5 1 (.slice a2 LEB k2) LEB (encY EB) ∧ (∀ q, (Value.slice a2 LEB k2).ownBlock = some q → (Value.slice a1 LDB k1).ownBlock ≠ some q) ∧ Below X.heap.size X w') := fun X g9 c9 a9 c8 ho => by
      have h9 := page_own b2 p2 s2 g9 0 n2 c9 a9 c8 x y zs2 ms2 X HM2.out HZ2.out (ho.all HM2.out.2.2.2) (own_le ho).1 (own_le ho).2
      rw [hDB, hEB, hRB, hLDB, hLEB] at h9
      exact h9
    have HLN : Hid (DA.length = LDA ∧ EA.length = LEA ∧ DB.length = LDB ∧ EB.length = LEB ∧ LDA ≤ 2000000000 ∧ LEA ≤ 2000000000 ∧ LDB ≤ 2000000000 ∧ LEB ≤ 2000000000) := by
      refine ⟨hLDA, hLEA, hLDB, hLEB, ?_, ?_, ?_, ?_⟩
      · rw [← hLDA, ← hDA]; exact Nat.le_trans (pg_len b p s zs x y).1 (by rw [HZ1.out]; omega)
      · rw [← hLEA, ← hEA]; exact Nat.le_trans (pg_len b p s zs x y).2 (by rw [HZ1.out]; omega)
      · rw [← hLDB, ← hDB]; exact Nat.le_trans (pg_len b2 p2 s2 zs2 x y).1 (by rw [HZ2.out]; omega)
      · rw [← hLEB, ← hEB]; exact Nat.le_trans (pg_len b2 p2 s2 zs2 x y).2 (by rw [HZ2.out]; omega)
    have HBD : Hid (Byt DA ∧ Byt EA) := by unfold Hid; rw [← hDA, ← hEA]; exact pg_byt b p s x y HM1.out.2.2.2
    clear hDA hEA hRA hLDA hLEA hDB hEB hRB hLDB hLEB
    obtain ⟨ED, hED⟩ : ∃ D, difE (b : Int) (p : Int) (s : Int) (b2 : Int) (p2 : Int) (s2 : Int) 0 0 = D := ⟨_, rfl⟩
    obtain ⟨DD, hDD⟩ : ∃ D, difD (b : Int) (p : Int) (s : Int) ED zs zs2 ms ms2 = D := ⟨_, rfl⟩
    obtain ⟨ND, hND⟩ : ∃ N, DD.length = N := ⟨_, rfl⟩
    have HDF : Hid (∀ (X : World), Own X w.heap.size g n cc zs → OwnB X w.heap.size gm b cm ms → Own X w.heap.size h n2 dc zs2 → OwnB X w.heap.size hm b2 dm ms2 → Calls Tryd.prog 19 #[.agg #[.int .i64 (b : Int), .int .i64 (p : Int), .int .i64 (s : Int), .slice (some ⟨g, 0, none⟩) n cc, .slice (some ⟨gm, 0, none⟩) b cm], .agg #[.int .i64 (b2 : Int), .int .i64 (p2 : Int), .int .i64 (s2 : Int), .slice (some ⟨h, 0, none⟩) n2 dc, .slice (some ⟨hm, 0, none⟩) b2 dm]] X fun e w' => ∃ a9 c9, e = .returned (.tuple #[.slice a9 ND c9, .int .i64 ED]) ∧ w'.ownsRow X.heap.size 40 2 (.slice a9 ND c9) ND (flatP DD) ∧ Below X.heap.size X w') := fun X o1 o2 o3 o4 => by
      refine (diff_any (b : Int) (p : Int) (s : Int) (b2 : Int) (p2 : Int) (s2 : Int) _ _ _ _ n cc b cm n2 dc b2 dm zs zs2 ms ms2 X (by omega) (by omega) (by omega) (by omega) (o1.all HM1.out.2.2.2) (ownB_all o2) (o3.all HM2.out.2.2.2) (ownB_all o4) (own_le o1) (own_le o3)).mono ?_
      rintro e w' ⟨v, he, ho, hb⟩
      rw [HE1.out, HE2.out, hED] at he ho
      rw [hDD, hND] at ho
      obtain ⟨a9, c9, rfl⟩ := own_formP ho
      exact ⟨a9, c9, he, ho, hb⟩
    have HNB : Hid (DD.length = ND ∧ ND ≤ 1000000) := ⟨hND, by rw [← hND, ← hDD]; exact difD_le HM1.out⟩
    clear hED hDD hND
    obtain ⟨a0, a1, a2, a3, a4⟩ := cells5 (H0.out.q.bx _ (List.mem_cons_of_mem _ List.mem_cons_self))
    have A1 : Hid True := trivial
    go_upto_region 24 with (first
      | (go_at_call 16; have zz := A1; clear A1 zz; refine (pack_q HM1.out (H0.out.q.la.own (v := .slice (some ⟨g, 0, none⟩) n cc) (xs := zs) (List.mem_cons_of_mem _ List.mem_cons_self) HZ1.out) (H0.out.q.lam.own (v := .slice (some ⟨gm, 0, none⟩) b cm) (xs := ms) (List.mem_cons_of_mem _ List.mem_cons_self) HM1.out.2.2.1) (HTB.out.below H0.out.q.bel) P1 HP.out.1 K1 HP.out.2.2.1).mono ?_; rintro e t1 ⟨o1, oc1, rfl, h9, bl⟩
         have H1 : Hid (Q2 w t1 B1 [(pb, (imb b2 p2 s2 h 0 n2 dc hm 0 b2 dm), 30), (pa, (imb b p s g 0 n cc gm 0 b cm), 30), ((w.heap.size + 2), #[.int .i64 x, .int .i64 y], 40), ((w.heap.size + 1), (imb b2 p2 s2 bk2 off2 n2 c2 mb2 mo2 b2 c2'), 30), (w.heap.size, (imb b p s bk off n c mb mo b c'), 30)] [((.slice (some ⟨h, 0, none⟩) n2 dc), zs2), ((.slice (some ⟨g, 0, none⟩) n cc), zs)] [((.slice (some ⟨hm, 0, none⟩) b2 dm), ms2), ((.slice (some ⟨gm, 0, none⟩) b cm), ms)] [((.slice (some ⟨o1, 0, none⟩) K1 oc1), P1)] [] []) := H0.out.row bl h9
         clear H0 h9 bl a0 a1 a2 a3 a4
         obtain ⟨a0, a1, a2, a3, a4⟩ := cells5 (H1.out.q.bx _ List.mem_cons_self)
         have A2 : Hid True := trivial)
      | (go_at_call 16; have zz := A2; clear A2 zz; refine (pack_q HM2.out (H1.out.q.la.own (v := .slice (some ⟨h, 0, none⟩) n2 dc) (xs := zs2) List.mem_cons_self HZ2.out) (H1.out.q.lam.own (v := .slice (some ⟨hm, 0, none⟩) b2 dm) (xs := ms2) List.mem_cons_self HM2.out.2.2.1) (HTB.out.below H1.out.q.bel) P2 HP.out.2.1 K2 HP.out.2.2.2).mono ?_; rintro e t2 ⟨o2, oc2, rfl, h9, bl⟩
         have H2 : Hid (Q2 w t2 B1 [(pb, (imb b2 p2 s2 h 0 n2 dc hm 0 b2 dm), 30), (pa, (imb b p s g 0 n cc gm 0 b cm), 30), ((w.heap.size + 2), #[.int .i64 x, .int .i64 y], 40), ((w.heap.size + 1), (imb b2 p2 s2 bk2 off2 n2 c2 mb2 mo2 b2 c2'), 30), (w.heap.size, (imb b p s bk off n c mb mo b c'), 30)] [((.slice (some ⟨h, 0, none⟩) n2 dc), zs2), ((.slice (some ⟨g, 0, none⟩) n cc), zs)] [((.slice (some ⟨hm, 0, none⟩) b2 dm), ms2), ((.slice (some ⟨gm, 0, none⟩) b cm), ms)] [((.slice (some ⟨o2, 0, none⟩) K2 oc2), P2), ((.slice (some ⟨o1, 0, none⟩) K1 oc1), P1)] [] []) := H1.out.row bl h9
         clear H1 h9 bl a0 a1 a2 a3 a4
         obtain ⟨a0, a1, a2, a3, a4⟩ := cells5 (H2.out.q.bx _ (List.mem_cons_of_mem _ List.mem_cons_self))
         have A3 : Hid True := trivial)
      | (go_at_call 16; have zz := A3; clear A3 zz; refine (pack_q HM1.out (H2.out.q.la.own (v := .slice (some ⟨g, 0, none⟩) n cc) (xs := zs) (List.mem_cons_of_mem _ List.mem_cons_self) HZ1.out) (H2.out.q.lam.own (v := .slice (some ⟨gm, 0, none⟩) b cm) (xs := ms) (List.mem_cons_of_mem _ List.mem_cons_self) HM1.out.2.2.1) (HTB.out.below H2.out.q.bel) P1 HP.out.1 K1 HP.out.2.2.1).mono ?_; rintro e t3 ⟨o3, oc3, rfl, h9, bl⟩
         have H3 : Hid (Q2 w t3 B1 [(pb, (imb b2 p2 s2 h 0 n2 dc hm 0 b2 dm), 30), (pa, (imb b p s g 0 n cc gm 0 b cm), 30), ((w.heap.size + 2), #[.int .i64 x, .int .i64 y], 40), ((w.heap.size + 1), (imb b2 p2 s2 bk2 off2 n2 c2 mb2 mo2 b2 c2'), 30), (w.heap.size, (imb b p s bk off n c mb mo b c'), 30)] [((.slice (some ⟨h, 0, none⟩) n2 dc), zs2), ((.slice (some ⟨g, 0, none⟩) n cc), zs)] [((.slice (some ⟨hm, 0, none⟩) b2 dm), ms2), ((.slice (some ⟨gm, 0, none⟩) b cm), ms)] [((.slice (some ⟨o3, 0, none⟩) K1 oc3), P1), ((.slice (some ⟨o2, 0, none⟩) K2 oc2), P2), ((.slice (some ⟨o1, 0, none⟩) K1 oc1), P1)] [] []) := H2.out.row bl h9
         clear H2 h9 bl a0 a1 a2 a3 a4
         have S1 : Hid True := trivial
         have Y1 : Hid True := trivial)
      | (go_at_call 10; refine (no_any _ _).mono ?_; rintro e u9 ⟨rfl, h9⟩; rw [h9]; clear h9)
      | (go_at_call 17; have zz := S1; clear S1 zz; refine (same_dec _ _ K1 K1 _ _ P1 P1 _ (Own.all (w := _) (H3.out.lb.own (v := (.slice (some ⟨o1, 0, none⟩) K1 oc1)) (xs := P1) (List.mem_cons_of_mem _ (List.mem_cons_of_mem _ List.mem_cons_self)) HP.out.2.2.1) HBY.out.1) (Own.all (w := _) (H3.out.lb.own (v := (.slice (some ⟨o3, 0, none⟩) K1 oc3)) (xs := P1) List.mem_cons_self HP.out.2.2.1) HBY.out.1)).mono ?_; rintro e u9 ⟨he, h9⟩; have he2 : e = .returned (.bool true) := he.trans (by simp); subst he2; rw [h9]; clear h9 he)
      | (at_builtin; have zz := Y1; clear Y1 zz; refine wpList_append_own _ rfl (.tmp 81) (.tmp 82) 22 rfl t3.heap.size 5 i0 (.int .u8 0) 1 1 Tryd.underlying22 hi hz0 hz1 hz2 rfl (by decide) _ 0 [] rfl (made0 t3) ⟨o1, 0, none⟩ K1 oc1 (P1.map (Value.int .u8)) rfl (by rw [List.length_map, Nat.mul_one]; exact HP.out.2.2.1) (World.ownsRow.cells (World.ownsRow.alloc (H3.out.lb.own (v := (.slice (some ⟨o1, 0, none⟩) K1 oc1)) (xs := P1) (List.mem_cons_of_mem _ (List.mem_cons_of_mem _ List.mem_cons_self)) HP.out.2.2.1) _) rfl) (ints_one _) (by simp [maxLen]; omega) (by omega) (by simp) ?_; intro vr t4 own9 grow9 _
         have bl : Below t3.heap.size t3 t4 := (below_alloc t3 (.cells #[] 5)).grown grow9 (by simp) (fun i hi => by cases hi; exact Nat.le_refl _)
         have own8 : t4.ownsRow t3.heap.size 5 1 vr K1 (encY P1) := (by simpa using own9)
         obtain ⟨r0, rc0, rfl, _, _, _, _⟩ := own_shape own8 (by omega)
         have H4 : Hid (Q2 w t4 B1 [(pb, (imb b2 p2 s2 h 0 n2 dc hm 0 b2 dm), 30), (pa, (imb b p s g 0 n cc gm 0 b cm), 30), ((w.heap.size + 2), #[.int .i64 x, .int .i64 y], 40), ((w.heap.size + 1), (imb b2 p2 s2 bk2 off2 n2 c2 mb2 mo2 b2 c2'), 30), (w.heap.size, (imb b p s bk off n c mb mo b c'), 30)] [((.slice (some ⟨h, 0, none⟩) n2 dc), zs2), ((.slice (some ⟨g, 0, none⟩) n cc), zs)] [((.slice (some ⟨hm, 0, none⟩) b2 dm), ms2), ((.slice (some ⟨gm, 0, none⟩) b cm), ms)] [((.slice (some ⟨r0, 0, none⟩) K1 rc0), P1), ((.slice (some ⟨o3, 0, none⟩) K1 oc3), P1), ((.slice (some ⟨o2, 0, none⟩) K2 oc2), P2), ((.slice (some ⟨o1, 0, none⟩) K1 oc1), P1)] [] []) := H3.out.row bl own8
         clear H3 own8 own9 grow9 bl
         have Y2 : Hid True := trivial)
      | (at_builtin; have zz := Y2; clear Y2 zz; refine wpList_append_own _ rfl (.tmp 84) (.tmp 85) 22 rfl t4.heap.size 5 i0 (.int .u8 0) 1 1 Tryd.underlying22 hi hz0 hz1 hz2 rfl (by decide) _ 0 [] rfl (made0 t4) ⟨o2, 0, none⟩ K2 oc2 (P2.map (Value.int .u8)) rfl (by rw [List.length_map, Nat.mul_one]; exact HP.out.2.2.2) (World.ownsRow.cells (World.ownsRow.alloc (H4.out.lb.own (v := (.slice (some ⟨o2, 0, none⟩) K2 oc2)) (xs := P2) (List.mem_cons_of_mem _ (List.mem_cons_of_mem _ List.mem_cons_self)) HP.out.2.2.2) _) rfl) (ints_one _) (by simp [maxLen]; omega) (by omega) (by simp) ?_; intro vr t5 own9 grow9 _
         have bl : Below t4.heap.size t4 t5 := (below_alloc t4 (.cells #[] 5)).grown grow9 (by simp) (fun i hi => by cases hi; exact Nat.le_refl _)
         have own8 : t5.ownsRow t4.heap.size 5 1 vr K2 (encY P2) := (by simpa using own9)
         obtain ⟨r1, rc1, rfl, _, _, _, _⟩ := own_shape own8 (by omega)
         have H5 : Hid (Q2 w (t5.alloc (.cells #[.slice (some ⟨r0, 0, none⟩) K1 rc0, .slice (some ⟨r1, 0, none⟩) K2 rc1] 22)) B1 [(t5.heap.size, #[.slice (some ⟨r0, 0, none⟩) K1 rc0, .slice (some ⟨r1, 0, none⟩) K2 rc1], 22), (pb, (imb b2 p2 s2 h 0 n2 dc hm 0 b2 dm), 30), (pa, (imb b p s g 0 n cc gm 0 b cm), 30), ((w.heap.size + 2), #[.int .i64 x, .int .i64 y], 40), ((w.heap.size + 1), (imb b2 p2 s2 bk2 off2 n2 c2 mb2 mo2 b2 c2'), 30), (w.heap.size, (imb b p s bk off n c mb mo b c'), 30)] [((.slice (some ⟨h, 0, none⟩) n2 dc), zs2), ((.slice (some ⟨g, 0, none⟩) n cc), zs)] [((.slice (some ⟨hm, 0, none⟩) b2 dm), ms2), ((.slice (some ⟨gm, 0, none⟩) b cm), ms)] [((.slice (some ⟨r1, 0, none⟩) K2 rc1), P2), ((.slice (some ⟨r0, 0, none⟩) K1 rc0), P1), ((.slice (some ⟨o3, 0, none⟩) K1 oc3), P1), ((.slice (some ⟨o2, 0, none⟩) K2 oc2), P2), ((.slice (some ⟨o1, 0, none⟩) K1 oc1), P1)] [] []) := (H4.out.row bl own8).box _ _
         clear H4 own8 own9 grow9 bl
         obtain ⟨l0, l1⟩ := cells2 (H5.out.q.bx _ List.mem_cons_self)
         have X1 : Hid True := trivial)
      | (go_at_call 9; have zz := X1; clear X1 zz; refine (reads_row HM1.out HP.out.1 HP.out.2.2.1 HZ1.out (H5.out.lb.own (v := (.slice (some ⟨r0, 0, none⟩) K1 rc0)) (xs := P1) (List.mem_cons_of_mem _ List.mem_cons_self) HP.out.2.2.1) (HTB.out.below H5.out.q.bel)).mono ?_; rintro e t6 ⟨x1a, x1b, x1c, rfl, h8, h7, bl⟩
         have H6 : Hid (Q2 w (t6.alloc (.cells #[.int .i64 (b : Int), .int .i64 (p : Int), .int .i64 (s : Int), .slice (some ⟨x1a, 0, none⟩) n x1b, .slice (some ⟨x1c, 0, none⟩) b b] 30)) B1 [(t6.heap.size, (imb b p s x1a 0 n x1b x1c 0 b b), 30), (t5.heap.size, #[.slice (some ⟨r0, 0, none⟩) K1 rc0, .slice (some ⟨r1, 0, none⟩) K2 rc1], 22), (pb, (imb b2 p2 s2 h 0 n2 dc hm 0 b2 dm), 30), (pa, (imb b p s g 0 n cc gm 0 b cm), 30), ((w.heap.size + 2), #[.int .i64 x, .int .i64 y], 40), ((w.heap.size + 1), (imb b2 p2 s2 bk2 off2 n2 c2 mb2 mo2 b2 c2'), 30), (w.heap.size, (imb b p s bk off n c mb mo b c'), 30)] [((.slice (some ⟨h, 0, none⟩) n2 dc), zs2), ((.slice (some ⟨g, 0, none⟩) n cc), zs)] [((.slice (some ⟨hm, 0, none⟩) b2 dm), ms2), ((.slice (some ⟨gm, 0, none⟩) b cm), ms)] [((.slice (some ⟨x1a, 0, none⟩) n x1b), zs), ((.slice (some ⟨r1, 0, none⟩) K2 rc1), P2), ((.slice (some ⟨r0, 0, none⟩) K1 rc0), P1), ((.slice (some ⟨o3, 0, none⟩) K1 oc3), P1), ((.slice (some ⟨o2, 0, none⟩) K2 oc2), P2), ((.slice (some ⟨o1, 0, none⟩) K1 oc1), P1)] [((.slice (some ⟨x1c, 0, none⟩) b b), ms)] []) := (H5.out.img bl h8 h7).box _ _
         clear H5 h8 h7 bl l0 l1
         obtain ⟨l0, l1⟩ := cells2 (H6.out.q.bx _ (List.mem_cons_of_mem _ List.mem_cons_self))
         have X2 : Hid True := trivial)
      | (go_at_call 9; have zz := X2; clear X2 zz; refine (reads_row HM2.out HP.out.2.1 HP.out.2.2.2 HZ2.out (H6.out.lb.own (v := (.slice (some ⟨r1, 0, none⟩) K2 rc1)) (xs := P2) (List.mem_cons_of_mem _ List.mem_cons_self) HP.out.2.2.2) (HTB.out.below H6.out.q.bel)).mono ?_; rintro e t7 ⟨x2a, x2b, x2c, rfl, h8, h7, bl⟩
         have H7 : Hid (Q2 w (t7.alloc (.cells #[.int .i64 (b2 : Int), .int .i64 (p2 : Int), .int .i64 (s2 : Int), .slice (some ⟨x2a, 0, none⟩) n2 x2b, .slice (some ⟨x2c, 0, none⟩) b2 b2] 30)) B1 [(t7.heap.size, (imb b2 p2 s2 x2a 0 n2 x2b x2c 0 b2 b2), 30), (t6.heap.size, (imb b p s x1a 0 n x1b x1c 0 b b), 30), (t5.heap.size, #[.slice (some ⟨r0, 0, none⟩) K1 rc0, .slice (some ⟨r1, 0, none⟩) K2 rc1], 22), (pb, (imb b2 p2 s2 h 0 n2 dc hm 0 b2 dm), 30), (pa, (imb b p s g 0 n cc gm 0 b cm), 30), ((w.heap.size + 2), #[.int .i64 x, .int .i64 y], 40), ((w.heap.size + 1), (imb b2 p2 s2 bk2 off2 n2 c2 mb2 mo2 b2 c2'), 30), (w.heap.size, (imb b p s bk off n c mb mo b c'), 30)] [((.slice (some ⟨h, 0, none⟩) n2 dc), zs2), ((.slice (some ⟨g, 0, none⟩) n cc), zs)] [((.slice (some ⟨hm, 0, none⟩) b2 dm), ms2), ((.slice (some ⟨gm, 0, none⟩) b cm), ms)] [((.slice (some ⟨x2a, 0, none⟩) n2 x2b), zs2), ((.slice (some ⟨x1a, 0, none⟩) n x1b), zs), ((.slice (some ⟨r1, 0, none⟩) K2 rc1), P2), ((.slice (some ⟨r0, 0, none⟩) K1 rc0), P1), ((.slice (some ⟨o3, 0, none⟩) K1 oc3), P1), ((.slice (some ⟨o2, 0, none⟩) K2 oc2), P2), ((.slice (some ⟨o1, 0, none⟩) K1 oc1), P1)] [((.slice (some ⟨x2c, 0, none⟩) b2 b2), ms2), ((.slice (some ⟨x1c, 0, none⟩) b b), ms)] []) := (H6.out.img bl h8 h7).box _ _
         clear H6 h8 h7 bl l0 l1
         obtain ⟨l0, l1⟩ := cells2 (H7.out.q.bx _ (List.mem_cons_of_mem _ (List.mem_cons_of_mem _ List.mem_cons_self)))
         have X3 : Hid True := trivial)
      | (go_at_call 9; have zz := X3; clear X3 zz; refine (reads_row HM1.out HP.out.1 HP.out.2.2.1 HZ1.out (H7.out.lb.own (v := (.slice (some ⟨r0, 0, none⟩) K1 rc0)) (xs := P1) (List.mem_cons_of_mem _ (List.mem_cons_of_mem _ (List.mem_cons_of_mem _ List.mem_cons_self))) HP.out.2.2.1) (HTB.out.below H7.out.q.bel)).mono ?_; rintro e t8 ⟨x3a, x3b, x3c, rfl, h8, h7, bl⟩
         have H8 : Hid (Q2 w (t8.alloc (.cells #[.int .i64 (b : Int), .int .i64 (p : Int), .int .i64 (s : Int), .slice (some ⟨x3a, 0, none⟩) n x3b, .slice (some ⟨x3c, 0, none⟩) b b] 30)) B1 [(t8.heap.size, (imb b p s x3a 0 n x3b x3c 0 b b), 30), (t7.heap.size, (imb b2 p2 s2 x2a 0 n2 x2b x2c 0 b2 b2), 30), (t6.heap.size, (imb b p s x1a 0 n x1b x1c 0 b b), 30), (t5.heap.size, #[.slice (some ⟨r0, 0, none⟩) K1 rc0, .slice (some ⟨r1, 0, none⟩) K2 rc1], 22), (pb, (imb b2 p2 s2 h 0 n2 dc hm 0 b2 dm), 30), (pa, (imb b p s g 0 n cc gm 0 b cm), 30), ((w.heap.size + 2), #[.int .i64 x, .int .i64 y], 40), ((w.heap.size + 1), (imb b2 p2 s2 bk2 off2 n2 c2 mb2 mo2 b2 c2'), 30), (w.heap.size, (imb b p s bk off n c mb mo b c'), 30)] [((.slice (some ⟨h, 0, none⟩) n2 dc), zs2), ((.slice (some ⟨g, 0, none⟩) n cc), zs)] [((.slice (some ⟨hm, 0, none⟩) b2 dm), ms2), ((.slice (some ⟨gm, 0, none⟩) b cm), ms)] [((.slice (some ⟨x3a, 0, none⟩) n x3b), zs), ((.slice (some ⟨x2a, 0, none⟩) n2 x2b), zs2), ((.slice (some ⟨x1a, 0, none⟩) n x1b), zs), ((.slice (some ⟨r1, 0, none⟩) K2 rc1), P2), ((.slice (some ⟨r0, 0, none⟩) K1 rc0), P1), ((.slice (some ⟨o3, 0, none⟩) K1 oc3), P1), ((.slice (some ⟨o2, 0, none⟩) K2 oc2), P2), ((.slice (some ⟨o1, 0, none⟩) K1 oc1), P1)] [((.slice (some ⟨x3c, 0, none⟩) b b), ms), ((.slice (some ⟨x2c, 0, none⟩) b2 b2), ms2), ((.slice (some ⟨x1c, 0, none⟩) b b), ms)] []) := (H7.out.img bl h8 h7).box _ _
         clear H7 h8 h7 bl l0 l1
         obtain ⟨a0, a1, a2, a3, a4⟩ := cells5 (H8.out.q.bx _ (List.mem_cons_of_mem _ (List.mem_cons_of_mem _ (List.mem_cons_of_mem _ (List.mem_cons_of_mem _ (List.mem_cons_of_mem _ List.mem_cons_self))))))
         obtain ⟨l0, l1⟩ := cells2 (H8.out.q.bx _ (List.mem_cons_of_mem _ (List.mem_cons_of_mem _ (List.mem_cons_of_mem _ (List.mem_cons_of_mem _ (List.mem_cons_of_mem _ (List.mem_cons_of_mem _ List.mem_cons_self)))))))
         have G1 : Hid True := trivial)
      | (go_at_call 18; have zz := G1; clear G1 zz; refine (HPA.out _ _ _ _ _ (H8.out.q.la.own (v := .slice (some ⟨g, 0, none⟩) n cc) (xs := zs) (List.mem_cons_of_mem _ List.mem_cons_self) HZ1.out)).mono ?_; rintro e t9 ⟨u1a, u1b, u1c, u1d, rfl, h8, h7, hfar, bl⟩
         have H9 : Hid (Q2 w (t9.alloc (.cells #[.slice u1a LDA u1b, .slice u1c LEA u1d] 47)) B1 [(t9.heap.size, #[.slice u1a LDA u1b, .slice u1c LEA u1d], 47), (t8.heap.size, (imb b p s x3a 0 n x3b x3c 0 b b), 30), (t7.heap.size, (imb b2 p2 s2 x2a 0 n2 x2b x2c 0 b2 b2), 30), (t6.heap.size, (imb b p s x1a 0 n x1b x1c 0 b b), 30), (t5.heap.size, #[.slice (some ⟨r0, 0, none⟩) K1 rc0, .slice (some ⟨r1, 0, none⟩) K2 rc1], 22), (pb, (imb b2 p2 s2 h 0 n2 dc hm 0 b2 dm), 30), (pa, (imb b p s g 0 n cc gm 0 b cm), 30), ((w.heap.size + 2), #[.int .i64 x, .int .i64 y], 40), ((w.heap.size + 1), (imb b2 p2 s2 bk2 off2 n2 c2 mb2 mo2 b2 c2'), 30), (w.heap.size, (imb b p s bk off n c mb mo b c'), 30)] [((.slice (some ⟨h, 0, none⟩) n2 dc), zs2), ((.slice (some ⟨g, 0, none⟩) n cc), zs)] [((.slice (some ⟨hm, 0, none⟩) b2 dm), ms2), ((.slice (some ⟨gm, 0, none⟩) b cm), ms)] [((.slice u1c LEA u1d), EA), ((.slice u1a LDA u1b), DA), ((.slice (some ⟨x3a, 0, none⟩) n x3b), zs), ((.slice (some ⟨x2a, 0, none⟩) n2 x2b), zs2), ((.slice (some ⟨x1a, 0, none⟩) n x1b), zs), ((.slice (some ⟨r1, 0, none⟩) K2 rc1), P2), ((.slice (some ⟨r0, 0, none⟩) K1 rc0), P1), ((.slice (some ⟨o3, 0, none⟩) K1 oc3), P1), ((.slice (some ⟨o2, 0, none⟩) K2 oc2), P2), ((.slice (some ⟨o1, 0, none⟩) K1 oc1), P1)] [((.slice (some ⟨x3c, 0, none⟩) b b), ms), ((.slice (some ⟨x2c, 0, none⟩) b2 b2), ms2), ((.slice (some ⟨x1c, 0, none⟩) b b), ms)] []) := (H8.out.page bl h8 h7 hfar).box _ _
         clear H8 h8 h7 hfar bl a0 a1 a2 a3 a4 l0 l1
         obtain ⟨a0, a1, a2, a3, a4⟩ := cells5 (H9.out.q.bx _ (List.mem_cons_of_mem _ (List.mem_cons_of_mem _ (List.mem_cons_of_mem _ (List.mem_cons_of_mem _ (List.mem_cons_of_mem _ List.mem_cons_self))))))
         obtain ⟨l0, l1⟩ := cells2 (H9.out.q.bx _ (List.mem_cons_of_mem _ (List.mem_cons_of_mem _ (List.mem_cons_of_mem _ (List.mem_cons_of_mem _ (List.mem_cons_of_mem _ (List.mem_cons_of_mem _ (List.mem_cons_of_mem _ List.mem_cons_self))))))))
         have G2 : Hid True := trivial)
      | (go_at_call 18; have zz := G2; clear G2 zz; refine (HPB.out _ _ _ _ _ (H9.out.q.la.own (v := .slice (some ⟨h, 0, none⟩) n2 dc) (xs := zs2) List.mem_cons_self HZ2.out)).mono ?_; rintro e t10 ⟨u2a, u2b, u2c, u2d, rfl, h8, h7, hfar, bl⟩
         have H10 : Hid (Q2 w (t10.alloc (.cells #[.slice u2a LDB u2b, .slice u2c LEB u2d] 47)) B1 [(t10.heap.size, #[.slice u2a LDB u2b, .slice u2c LEB u2d], 47), (t9.heap.size, #[.slice u1a LDA u1b, .slice u1c LEA u1d], 47), (t8.heap.size, (imb b p s x3a 0 n x3b x3c 0 b b), 30), (t7.heap.size, (imb b2 p2 s2 x2a 0 n2 x2b x2c 0 b2 b2), 30), (t6.heap.size, (imb b p s x1a 0 n x1b x1c 0 b b), 30), (t5.heap.size, #[.slice (some ⟨r0, 0, none⟩) K1 rc0, .slice (some ⟨r1, 0, none⟩) K2 rc1], 22), (pb, (imb b2 p2 s2 h 0 n2 dc hm 0 b2 dm), 30), (pa, (imb b p s g 0 n cc gm 0 b cm), 30), ((w.heap.size + 2), #[.int .i64 x, .int .i64 y], 40), ((w.heap.size + 1), (imb b2 p2 s2 bk2 off2 n2 c2 mb2 mo2 b2 c2'), 30), (w.heap.size, (imb b p s bk off n c mb mo b c'), 30)] [((.slice (some ⟨h, 0, none⟩) n2 dc), zs2), ((.slice (some ⟨g, 0, none⟩) n cc), zs)] [((.slice (some ⟨hm, 0, none⟩) b2 dm), ms2), ((.slice (some ⟨gm, 0, none⟩) b cm), ms)] [((.slice u2c LEB u2d), EB), ((.slice u2a LDB u2b), DB), ((.slice u1c LEA u1d), EA), ((.slice u1a LDA u1b), DA), ((.slice (some ⟨x3a, 0, none⟩) n x3b), zs), ((.slice (some ⟨x2a, 0, none⟩) n2 x2b), zs2), ((.slice (some ⟨x1a, 0, none⟩) n x1b), zs), ((.slice (some ⟨r1, 0, none⟩) K2 rc1), P2), ((.slice (some ⟨r0, 0, none⟩) K1 rc0), P1), ((.slice (some ⟨o3, 0, none⟩) K1 oc3), P1), ((.slice (some ⟨o2, 0, none⟩) K2 oc2), P2), ((.slice (some ⟨o1, 0, none⟩) K1 oc1), P1)] [((.slice (some ⟨x3c, 0, none⟩) b b), ms), ((.slice (some ⟨x2c, 0, none⟩) b2 b2), ms2), ((.slice (some ⟨x1c, 0, none⟩) b b), ms)] []) := (H9.out.page bl h8 h7 hfar).box _ _
         clear H9 h8 h7 hfar bl a0 a1 a2 a3 a4 l0 l1
         obtain ⟨a0, a1, a2, a3, a4⟩ := cells5 (H10.out.q.bx _ (List.mem_cons_of_mem _ (List.mem_cons_of_mem _ (List.mem_cons_of_mem _ (List.mem_cons_of_mem _ (List.mem_cons_of_mem _ (List.mem_cons_of_mem _ (List.mem_cons_of_mem _ List.mem_cons_self))))))))
         obtain ⟨l0, l1⟩ := cells2 (H10.out.q.bx _ (List.mem_cons_of_mem _ (List.mem_cons_of_mem _ (List.mem_cons_of_mem _ (List.mem_cons_of_mem _ (List.mem_cons_of_mem _ (List.mem_cons_of_mem _ (List.mem_cons_of_mem _ (List.mem_cons_of_mem _ List.mem_cons_self)))))))))
         have G3 : Hid True := trivial)
      | (go_at_call 18; have zz := G3; clear G3 zz; refine (HPA.out _ _ _ _ _ (H10.out.q.la.own (v := .slice (some ⟨g, 0, none⟩) n cc) (xs := zs) (List.mem_cons_of_mem _ List.mem_cons_self) HZ1.out)).mono ?_; rintro e t11 ⟨u3a, u3b, u3c, u3d, rfl, h8, h7, hfar, bl⟩
         have H11 : Hid (Q2 w (t11.alloc (.cells #[.slice u3a LDA u3b, .slice u3c LEA u3d] 47)) B1 [(t11.heap.size, #[.slice u3a LDA u3b, .slice u3c LEA u3d], 47), (t10.heap.size, #[.slice u2a LDB u2b, .slice u2c LEB u2d], 47), (t9.heap.size, #[.slice u1a LDA u1b, .slice u1c LEA u1d], 47), (t8.heap.size, (imb b p s x3a 0 n x3b x3c 0 b b), 30), (t7.heap.size, (imb b2 p2 s2 x2a 0 n2 x2b x2c 0 b2 b2), 30), (t6.heap.size, (imb b p s x1a 0 n x1b x1c 0 b b), 30), (t5.heap.size, #[.slice (some ⟨r0, 0, none⟩) K1 rc0, .slice (some ⟨r1, 0, none⟩) K2 rc1], 22), (pb, (imb b2 p2 s2 h 0 n2 dc hm 0 b2 dm), 30), (pa, (imb b p s g 0 n cc gm 0 b cm), 30), ((w.heap.size + 2), #[.int .i64 x, .int .i64 y], 40), ((w.heap.size + 1), (imb b2 p2 s2 bk2 off2 n2 c2 mb2 mo2 b2 c2'), 30), (w.heap.size, (imb b p s bk off n c mb mo b c'), 30)] [((.slice (some ⟨h, 0, none⟩) n2 dc), zs2), ((.slice (some ⟨g, 0, none⟩) n cc), zs)] [((.slice (some ⟨hm, 0, none⟩) b2 dm), ms2), ((.slice (some ⟨gm, 0, none⟩) b cm), ms)] [((.slice u3c LEA u3d), EA), ((.slice u3a LDA u3b), DA), ((.slice u2c LEB u2d), EB), ((.slice u2a LDB u2b), DB), ((.slice u1c LEA u1d), EA), ((.slice u1a LDA u1b), DA), ((.slice (some ⟨x3a, 0, none⟩) n x3b), zs), ((.slice (some ⟨x2a, 0, none⟩) n2 x2b), zs2), ((.slice (some ⟨x1a, 0, none⟩) n x1b), zs), ((.slice (some ⟨r1, 0, none⟩) K2 rc1), P2), ((.slice (some ⟨r0, 0, none⟩) K1 rc0), P1), ((.slice (some ⟨o3, 0, none⟩) K1 oc3), P1), ((.slice (some ⟨o2, 0, none⟩) K2 oc2), P2), ((.slice (some ⟨o1, 0, none⟩) K1 oc1), P1)] [((.slice (some ⟨x3c, 0, none⟩) b b), ms), ((.slice (some ⟨x2c, 0, none⟩) b2 b2), ms2), ((.slice (some ⟨x1c, 0, none⟩) b b), ms)] []) := (H10.out.page bl h8 h7 hfar).box _ _
         clear H10 h8 h7 hfar bl a0 a1 a2 a3 a4 l0 l1
         obtain ⟨a0, a1, a2, a3, a4⟩ := cells5 (H11.out.q.bx _ (List.mem_cons_of_mem _ (List.mem_cons_of_mem _ (List.mem_cons_of_mem _ (List.mem_cons_of_mem _ (List.mem_cons_of_mem _ (List.mem_cons_of_mem _ (List.mem_cons_of_mem _ (List.mem_cons_of_mem _ List.mem_cons_self)))))))))
         obtain ⟨j0, j1, j2, j3, j4⟩ := cells5 (H11.out.q.bx _ (List.mem_cons_of_mem _ (List.mem_cons_of_mem _ (List.mem_cons_of_mem _ (List.mem_cons_of_mem _ (List.mem_cons_of_mem _ (List.mem_cons_of_mem _ (List.mem_cons_of_mem _ List.mem_cons_self))))))))
         have D1 : Hid True := trivial)
      | (go_at_call 19; have zz := D1; clear D1 zz; refine (HDF.out _ (H11.out.q.la.own (v := .slice (some ⟨g, 0, none⟩) n cc) (xs := zs) (List.mem_cons_of_mem _ List.mem_cons_self) HZ1.out) (H11.out.q.lam.own (v := .slice (some ⟨gm, 0, none⟩) b cm) (xs := ms) (List.mem_cons_of_mem _ List.mem_cons_self) HM1.out.2.2.1) (H11.out.q.la.own (v := .slice (some ⟨h, 0, none⟩) n2 dc) (xs := zs2) List.mem_cons_self HZ2.out) (H11.out.q.lam.own (v := .slice (some ⟨hm, 0, none⟩) b2 dm) (xs := ms2) List.mem_cons_self HM2.out.2.2.1)).mono ?_; rintro e t12 ⟨d1a, d1b, rfl, h9, bl⟩
         have H12 : Hid (Q2 w t12 B1 [(t11.heap.size, #[.slice u3a LDA u3b, .slice u3c LEA u3d], 47), (t10.heap.size, #[.slice u2a LDB u2b, .slice u2c LEB u2d], 47), (t9.heap.size, #[.slice u1a LDA u1b, .slice u1c LEA u1d], 47), (t8.heap.size, (imb b p s x3a 0 n x3b x3c 0 b b), 30), (t7.heap.size, (imb b2 p2 s2 x2a 0 n2 x2b x2c 0 b2 b2), 30), (t6.heap.size, (imb b p s x1a 0 n x1b x1c 0 b b), 30), (t5.heap.size, #[.slice (some ⟨r0, 0, none⟩) K1 rc0, .slice (some ⟨r1, 0, none⟩) K2 rc1], 22), (pb, (imb b2 p2 s2 h 0 n2 dc hm 0 b2 dm), 30), (pa, (imb b p s g 0 n cc gm 0 b cm), 30), ((w.heap.size + 2), #[.int .i64 x, .int .i64 y], 40), ((w.heap.size + 1), (imb b2 p2 s2 bk2 off2 n2 c2 mb2 mo2 b2 c2'), 30), (w.heap.size, (imb b p s bk off n c mb mo b c'), 30)] [((.slice (some ⟨h, 0, none⟩) n2 dc), zs2), ((.slice (some ⟨g, 0, none⟩) n cc), zs)] [((.slice (some ⟨hm, 0, none⟩) b2 dm), ms2), ((.slice (some ⟨gm, 0, none⟩) b cm), ms)] [((.slice u3c LEA u3d), EA), ((.slice u3a LDA u3b), DA), ((.slice u2c LEB u2d), EB), ((.slice u2a LDB u2b), DB), ((.slice u1c LEA u1d), EA), ((.slice u1a LDA u1b), DA), ((.slice (some ⟨x3a, 0, none⟩) n x3b), zs), ((.slice (some ⟨x2a, 0, none⟩) n2 x2b), zs2), ((.slice (some ⟨x1a, 0, none⟩) n x1b), zs), ((.slice (some ⟨r1, 0, none⟩) K2 rc1), P2), ((.slice (some ⟨r0, 0, none⟩) K1 rc0), P1), ((.slice (some ⟨o3, 0, none⟩) K1 oc3), P1), ((.slice (some ⟨o2, 0, none⟩) K2 oc2), P2), ((.slice (some ⟨o1, 0, none⟩) K1 oc1), P1)] [((.slice (some ⟨x3c, 0, none⟩) b b), ms), ((.slice (some ⟨x2c, 0, none⟩) b2 b2), ms2), ((.slice (some ⟨x1c, 0, none⟩) b b), ms)] [((.slice d1a ND d1b), DD)]) := H11.out.pls bl h9
         clear H11 h9 bl a0 a1 a2 a3 a4 j0 j1 j2 j3 j4
         obtain ⟨a0, a1, a2, a3, a4⟩ := cells5 (H12.out.q.bx _ (List.mem_cons_of_mem _ (List.mem_cons_of_mem _ (List.mem_cons_of_mem _ (List.mem_cons_of_mem _ (List.mem_cons_of_mem _ (List.mem_cons_of_mem _ (List.mem_cons_of_mem _ (List.mem_cons_of_mem _ List.mem_cons_self)))))))))
         obtain ⟨j0, j1, j2, j3, j4⟩ := cells5 (H12.out.q.bx _ (List.mem_cons_of_mem _ (List.mem_cons_of_mem _ (List.mem_cons_of_mem _ (List.mem_cons_of_mem _ (List.mem_cons_of_mem _ (List.mem_cons_of_mem _ (List.mem_cons_of_mem _ List.mem_cons_self))))))))
         have D2 : Hid True := trivial)
      | (go_at_call 19; have zz := D2; clear D2 zz; refine (HDF.out _ (H12.out.q.la.own (v := .slice (some ⟨g, 0, none⟩) n cc) (xs := zs) (List.mem_cons_of_mem _ List.mem_cons_self) HZ1.out) (H12.out.q.lam.own (v := .slice (some ⟨gm, 0, none⟩) b cm) (xs := ms) (List.mem_cons_of_mem _ List.mem_cons_self) HM1.out.2.2.1) (H12.out.q.la.own (v := .slice (some ⟨h, 0, none⟩) n2 dc) (xs := zs2) List.mem_cons_self HZ2.out) (H12.out.q.lam.own (v := .slice (some ⟨hm, 0, none⟩) b2 dm) (xs := ms2) List.mem_cons_self HM2.out.2.2.1)).mono ?_; rintro e t13 ⟨d2a, d2b, rfl, h9, bl⟩
         have H13 : Hid (Q2 w t13 B1 [(t11.heap.size, #[.slice u3a LDA u3b, .slice u3c LEA u3d], 47), (t10.heap.size, #[.slice u2a LDB u2b, .slice u2c LEB u2d], 47), (t9.heap.size, #[.slice u1a LDA u1b, .slice u1c LEA u1d], 47), (t8.heap.size, (imb b p s x3a 0 n x3b x3c 0 b b), 30), (t7.heap.size, (imb b2 p2 s2 x2a 0 n2 x2b x2c 0 b2 b2), 30), (t6.heap.size, (imb b p s x1a 0 n x1b x1c 0 b b), 30), (t5.heap.size, #[.slice (some ⟨r0, 0, none⟩) K1 rc0, .slice (some ⟨r1, 0, none⟩) K2 rc1], 22), (pb, (imb b2 p2 s2 h 0 n2 dc hm 0 b2 dm), 30), (pa, (imb b p s g 0 n cc gm 0 b cm), 30), ((w.heap.size + 2), #[.int .i64 x, .int .i64 y], 40), ((w.heap.size + 1), (imb b2 p2 s2 bk2 off2 n2 c2 mb2 mo2 b2 c2'), 30), (w.heap.size, (imb b p s bk off n c mb mo b c'), 30)] [((.slice (some ⟨h, 0, none⟩) n2 dc), zs2), ((.slice (some ⟨g, 0, none⟩) n cc), zs)] [((.slice (some ⟨hm, 0, none⟩) b2 dm), ms2), ((.slice (some ⟨gm, 0, none⟩) b cm), ms)] [((.slice u3c LEA u3d), EA), ((.slice u3a LDA u3b), DA), ((.slice u2c LEB u2d), EB), ((.slice u2a LDB u2b), DB), ((.slice u1c LEA u1d), EA), ((.slice u1a LDA u1b), DA), ((.slice (some ⟨x3a, 0, none⟩) n x3b), zs), ((.slice (some ⟨x2a, 0, none⟩) n2 x2b), zs2), ((.slice (some ⟨x1a, 0, none⟩) n x1b), zs), ((.slice (some ⟨r1, 0, none⟩) K2 rc1), P2), ((.slice (some ⟨r0, 0, none⟩) K1 rc0), P1), ((.slice (some ⟨o3, 0, none⟩) K1 oc3), P1), ((.slice (some ⟨o2, 0, none⟩) K2 oc2), P2), ((.slice (some ⟨o1, 0, none⟩) K1 oc1), P1)] [((.slice (some ⟨x3c, 0, none⟩) b b), ms), ((.slice (some ⟨x2c, 0, none⟩) b2 b2), ms2), ((.slice (some ⟨x1c, 0, none⟩) b b), ms)] [((.slice d2a ND d2b), DD), ((.slice d1a ND d1b), DD)]) := H12.out.pls bl h9
         clear H12 h9 bl a0 a1 a2 a3 a4 j0 j1 j2 j3 j4)
      | (go_at_call 20; refine (samePl_eq _ _ ND _ _ DD _ (plRd (H13.out.lp.own (v := (.slice d1a ND d1b)) (xs := DD) (List.mem_cons_of_mem _ List.mem_cons_self) HNB.out.1)) (plRd (H13.out.lp.own (v := (.slice d2a ND d2b)) (xs := DD) List.mem_cons_self HNB.out.1)) (by have := HNB.out.2; omega)).mono ?_; rintro e t14 ⟨rfl, q9, ht14⟩
         have H14 : Hid (Q2 w t14 B1 [(t11.heap.size, #[.slice u3a LDA u3b, .slice u3c LEA u3d], 47), (t10.heap.size, #[.slice u2a LDB u2b, .slice u2c LEB u2d], 47), (t9.heap.size, #[.slice u1a LDA u1b, .slice u1c LEA u1d], 47), (t8.heap.size, (imb b p s x3a 0 n x3b x3c 0 b b), 30), (t7.heap.size, (imb b2 p2 s2 x2a 0 n2 x2b x2c 0 b2 b2), 30), (t6.heap.size, (imb b p s x1a 0 n x1b x1c 0 b b), 30), (t5.heap.size, #[.slice (some ⟨r0, 0, none⟩) K1 rc0, .slice (some ⟨r1, 0, none⟩) K2 rc1], 22), (pb, (imb b2 p2 s2 h 0 n2 dc hm 0 b2 dm), 30), (pa, (imb b p s g 0 n cc gm 0 b cm), 30), ((w.heap.size + 2), #[.int .i64 x, .int .i64 y], 40), ((w.heap.size + 1), (imb b2 p2 s2 bk2 off2 n2 c2 mb2 mo2 b2 c2'), 30), (w.heap.size, (imb b p s bk off n c mb mo b c'), 30)] [((.slice (some ⟨h, 0, none⟩) n2 dc), zs2), ((.slice (some ⟨g, 0, none⟩) n cc), zs)] [((.slice (some ⟨hm, 0, none⟩) b2 dm), ms2), ((.slice (some ⟨gm, 0, none⟩) b cm), ms)] [((.slice u3c LEA u3d), EA), ((.slice u3a LDA u3b), DA), ((.slice u2c LEB u2d), EB), ((.slice u2a LDB u2b), DB), ((.slice u1c LEA u1d), EA), ((.slice u1a LDA u1b), DA), ((.slice (some ⟨x3a, 0, none⟩) n x3b), zs), ((.slice (some ⟨x2a, 0, none⟩) n2 x2b), zs2), ((.slice (some ⟨x1a, 0, none⟩) n x1b), zs), ((.slice (some ⟨r1, 0, none⟩) K2 rc1), P2), ((.slice (some ⟨r0, 0, none⟩) K1 rc0), P1), ((.slice (some ⟨o3, 0, none⟩) K1 oc3), P1), ((.slice (some ⟨o2, 0, none⟩) K2 oc2), P2), ((.slice (some ⟨o1, 0, none⟩) K1 oc1), P1)] [((.slice (some ⟨x3c, 0, none⟩) b b), ms), ((.slice (some ⟨x2c, 0, none⟩) b2 b2), ms2), ((.slice (some ⟨x1c, 0, none⟩) b b), ms)] [((.slice d2a ND d2b), DD), ((.slice d1a ND d1b), DD)]) := H13.out.up (by rw [ht14]; exact below_drewN (Below.refl _ _) _)
         clear H13 ht14
         obtain ⟨a0, a1⟩ := cells2 (H14.out.q.bx _ (List.mem_cons_of_mem _ (List.mem_cons_of_mem _ List.mem_cons_self)))
         obtain ⟨j0, j1⟩ := cells2 (H14.out.q.bx _ List.mem_cons_self)
         have S2 : Hid True := trivial)
      | (go_at_call 17; have zz := S2; clear S2 zz; refine (same_dec _ _ LDA LDA _ _ DA DA _ (rowRd (H14.out.lb.own (v := (.slice u1a LDA u1b)) (xs := DA) (List.mem_cons_of_mem _ (List.mem_cons_of_mem _ (List.mem_cons_of_mem _ (List.mem_cons_of_mem _ (List.mem_cons_of_mem _ List.mem_cons_self))))) HLN.out.1) HBD.out.1) (rowRd (H14.out.lb.own (v := (.slice u3a LDA u3b)) (xs := DA) (List.mem_cons_of_mem _ List.mem_cons_self) HLN.out.1) HBD.out.1)).mono ?_; rintro e u9 ⟨he, h9⟩; have he2 : e = .returned (.bool true) := he.trans (by simp); subst he2; rw [h9]; clear h9 he; have S3 : Hid True := trivial)
      | (go_at_call 17; have zz := S3; clear S3 zz; refine (same_dec _ _ LEA LEA _ _ EA EA _ (rowRd (H14.out.lb.own (v := (.slice u1c LEA u1d)) (xs := EA) (List.mem_cons_of_mem _ (List.mem_cons_of_mem _ (List.mem_cons_of_mem _ (List.mem_cons_of_mem _ List.mem_cons_self)))) HLN.out.2.1) HBD.out.2) (rowRd (H14.out.lb.own (v := (.slice u3c LEA u3d)) (xs := EA) List.mem_cons_self HLN.out.2.1) HBD.out.2)).mono ?_; rintro e u9 ⟨he, h9⟩; have he2 : e = .returned (.bool true) := he.trans (by simp); subst he2; rw [h9]; clear h9 he)
      )
    go_wp2_with fail
    go_loopw [29] (fun ii wq => ∃ (r : Nat) (X0 X1 : List Int), r ≤ 2 ∧ ii = .int .i64 r ∧ Hid (Q2 w wq B1 [(t11.heap.size, #[.slice u3a LDA u3b, .slice u3c LEA u3d], 47), (t10.heap.size, #[.slice u2a LDB u2b, .slice u2c LEB u2d], 47), (t9.heap.size, #[.slice u1a LDA u1b, .slice u1c LEA u1d], 47), (t8.heap.size, (imb b p s x3a 0 n x3b x3c 0 b b), 30), (t7.heap.size, (imb b2 p2 s2 x2a 0 n2 x2b x2c 0 b2 b2), 30), (t6.heap.size, (imb b p s x1a 0 n x1b x1c 0 b b), 30), (t5.heap.size, #[.slice (some ⟨r0, 0, none⟩) K1 rc0, .slice (some ⟨r1, 0, none⟩) K2 rc1], 22), (pb, (imb b2 p2 s2 h 0 n2 dc hm 0 b2 dm), 30), (pa, (imb b p s g 0 n cc gm 0 b cm), 30), ((w.heap.size + 2), #[.int .i64 x, .int .i64 y], 40), ((w.heap.size + 1), (imb b2 p2 s2 bk2 off2 n2 c2 mb2 mo2 b2 c2'), 30), (w.heap.size, (imb b p s bk off n c mb mo b c'), 30)] [((.slice (some ⟨h, 0, none⟩) n2 dc), zs2), ((.slice (some ⟨g, 0, none⟩) n cc), zs)] [((.slice (some ⟨hm, 0, none⟩) b2 dm), ms2), ((.slice (some ⟨gm, 0, none⟩) b cm), ms)] [((.slice u3c LEA u3d), EA), ((.slice u3a LDA u3b), DA), ((.slice u2c LEB u2d), EB), ((.slice u2a LDB u2b), DB), ((.slice u1c LEA u1d), EA), ((.slice u1a LDA u1b), DA), ((.slice (some ⟨x3a, 0, none⟩) n x3b), zs), ((.slice (some ⟨x2a, 0, none⟩) n2 x2b), zs2), ((.slice (some ⟨x1a, 0, none⟩) n x1b), zs), ((.slice (some ⟨r1, 0, none⟩) K2 rc1), X1), ((.slice (some ⟨r0, 0, none⟩) K1 rc0), X0), ((.slice (some ⟨o3, 0, none⟩) K1 oc3), P1), ((.slice (some ⟨o2, 0, none⟩) K2 oc2), P2), ((.slice (some ⟨o1, 0, none⟩) K1 oc1), P1)] [((.slice (some ⟨x3c, 0, none⟩) b b), ms), ((.slice (some ⟨x2c, 0, none⟩) b2 b2), ms2), ((.slice (some ⟨x1c, 0, none⟩) b b), ms)] [((.slice d2a ND d2b), DD), ((.slice d1a ND d1b), DD)])) (fun ii _ => 2 - (intOf ii).toNat)
    case atStart => exact ⟨0, P1, P2, by omega, rfl, H14⟩
    case round =>
      obtain ⟨r, X0, X1, hr2, rfl, HR⟩ := hrel
      clear H14
      have hr3 : r = 0 ∨ r = 1 ∨ r = 2 := by omega
      clear hr2
      rcases hr3 with rfl | rfl | rfl
      · rw [show ((0 : Nat) : Int) = (0 : Int) from rfl]
        go_wp2
        go_loopw [30] (fun tt wq => ∃ (t : Nat) (Z : List Int), t ≤ K1 ∧ tt = .int .i64 t ∧ Hid (Q2 w wq B1 [(t11.heap.size, #[.slice u3a LDA u3b, .slice u3c LEA u3d], 47), (t10.heap.size, #[.slice u2a LDB u2b, .slice u2c LEB u2d], 47), (t9.heap.size, #[.slice u1a LDA u1b, .slice u1c LEA u1d], 47), (t8.heap.size, (imb b p s x3a 0 n x3b x3c 0 b b), 30), (t7.heap.size, (imb b2 p2 s2 x2a 0 n2 x2b x2c 0 b2 b2), 30), (t6.heap.size, (imb b p s x1a 0 n x1b x1c 0 b b), 30), (t5.heap.size, #[.slice (some ⟨r0, 0, none⟩) K1 rc0, .slice (some ⟨r1, 0, none⟩) K2 rc1], 22), (pb, (imb b2 p2 s2 h 0 n2 dc hm 0 b2 dm), 30), (pa, (imb b p s g 0 n cc gm 0 b cm), 30), ((w.heap.size + 2), #[.int .i64 x, .int .i64 y], 40), ((w.heap.size + 1), (imb b2 p2 s2 bk2 off2 n2 c2 mb2 mo2 b2 c2'), 30), (w.heap.size, (imb b p s bk off n c mb mo b c'), 30)] [((.slice (some ⟨h, 0, none⟩) n2 dc), zs2), ((.slice (some ⟨g, 0, none⟩) n cc), zs)] [((.slice (some ⟨hm, 0, none⟩) b2 dm), ms2), ((.slice (some ⟨gm, 0, none⟩) b cm), ms)] [((.slice u3c LEA u3d), EA), ((.slice u3a LDA u3b), DA), ((.slice u2c LEB u2d), EB), ((.slice u2a LDB u2b), DB), ((.slice u1c LEA u1d), EA), ((.slice u1a LDA u1b), DA), ((.slice (some ⟨x3a, 0, none⟩) n x3b), zs), ((.slice (some ⟨x2a, 0, none⟩) n2 x2b), zs2), ((.slice (some ⟨x1a, 0, none⟩) n x1b), zs), ((.slice (some ⟨r1, 0, none⟩) K2 rc1), X1), ((.slice (some ⟨r0, 0, none⟩) K1 rc0), Z), ((.slice (some ⟨o3, 0, none⟩) K1 oc3), P1), ((.slice (some ⟨o2, 0, none⟩) K2 oc2), P2), ((.slice (some ⟨o1, 0, none⟩) K1 oc1), P1)] [((.slice (some ⟨x3c, 0, none⟩) b b), ms), ((.slice (some ⟨x2c, 0, none⟩) b2 b2), ms2), ((.slice (some ⟨x1c, 0, none⟩) b b), ms)] [((.slice d2a ND d2b), DD), ((.slice d1a ND d1b), DD)])) (fun tt _ => K1 - (intOf tt).toNat)
        case atStart => exact ⟨0, X0, Nat.zero_le _, rfl, HR⟩
        case round =>
          obtain ⟨t, Z, ht, rfl, HZ⟩ := hrel
          clear HR
          obtain ⟨l0, l1⟩ := cells2 (HZ.out.q.bx _ (List.mem_cons_of_mem _ (List.mem_cons_of_mem _ (List.mem_cons_of_mem _ (List.mem_cons_of_mem _ (List.mem_cons_of_mem _ (List.mem_cons_of_mem _ List.mem_cons_self)))))))
          by_cases hlt : t < K1
          · have hown : Own wr B1 r0 K1 rc0 Z := own_k (HZ.out.lb.rows (.slice (some ⟨r0, 0, none⟩) K1 rc0, Z) (List.mem_cons_of_mem _ (List.mem_cons_of_mem _ (List.mem_cons_of_mem _ (List.mem_cons_of_mem _ (List.mem_cons_of_mem _ (List.mem_cons_of_mem _ (List.mem_cons_of_mem _ (List.mem_cons_of_mem _ (List.mem_cons_of_mem _ (List.mem_cons_of_mem _ List.mem_cons_self)))))))))))
            obtain ⟨z, hz⟩ : ∃ z, Z.getD t 0 = z := ⟨_, rfl⟩
            have x2 : wr.cell? ⟨r0, t, none⟩ = some (.int .u8 z) := by rw [← hz]; exact hown.cell t hlt
            have x3 : wr.frozen? ⟨r0, t, none⟩ = false := World.ownsRow.frozenAt hown t
            have hset := hown.set t (bits .xor .u8 z 255)
            have HN : Hid (Q2 w (wr.setCell ⟨r0, t, none⟩ (.int .u8 (bits .xor .u8 z 255))).drew B1 [(t11.heap.size, #[.slice u3a LDA u3b, .slice u3c LEA u3d], 47), (t10.heap.size, #[.slice u2a LDB u2b, .slice u2c LEB u2d], 47), (t9.heap.size, #[.slice u1a LDA u1b, .slice u1c LEA u1d], 47), (t8.heap.size, (imb b p s x3a 0 n x3b x3c 0 b b), 30), (t7.heap.size, (imb b2 p2 s2 x2a 0 n2 x2b x2c 0 b2 b2), 30), (t6.heap.size, (imb b p s x1a 0 n x1b x1c 0 b b), 30), (t5.heap.size, #[.slice (some ⟨r0, 0, none⟩) K1 rc0, .slice (some ⟨r1, 0, none⟩) K2 rc1], 22), (pb, (imb b2 p2 s2 h 0 n2 dc hm 0 b2 dm), 30), (pa, (imb b p s g 0 n cc gm 0 b cm), 30), ((w.heap.size + 2), #[.int .i64 x, .int .i64 y], 40), ((w.heap.size + 1), (imb b2 p2 s2 bk2 off2 n2 c2 mb2 mo2 b2 c2'), 30), (w.heap.size, (imb b p s bk off n c mb mo b c'), 30)] [((.slice (some ⟨h, 0, none⟩) n2 dc), zs2), ((.slice (some ⟨g, 0, none⟩) n cc), zs)] [((.slice (some ⟨hm, 0, none⟩) b2 dm), ms2), ((.slice (some ⟨gm, 0, none⟩) b cm), ms)] [((.slice u3c LEA u3d), EA), ((.slice u3a LDA u3b), DA), ((.slice u2c LEB u2d), EB), ((.slice u2a LDB u2b), DB), ((.slice u1c LEA u1d), EA), ((.slice u1a LDA u1b), DA), ((.slice (some ⟨x3a, 0, none⟩) n x3b), zs), ((.slice (some ⟨x2a, 0, none⟩) n2 x2b), zs2), ((.slice (some ⟨x1a, 0, none⟩) n x1b), zs), ((.slice (some ⟨r1, 0, none⟩) K2 rc1), X1), ((.slice (some ⟨r0, 0, none⟩) K1 rc0), (Z.set t (bits .xor .u8 z 255))), ((.slice (some ⟨o3, 0, none⟩) K1 oc3), P1), ((.slice (some ⟨o2, 0, none⟩) K2 oc2), P2), ((.slice (some ⟨o1, 0, none⟩) K1 oc1), P1)] [((.slice (some ⟨x3c, 0, none⟩) b b), ms), ((.slice (some ⟨x2c, 0, none⟩) b2 b2), ms2), ((.slice (some ⟨x1c, 0, none⟩) b b), ms)] [((.slice d2a ND d2b), DD), ((.slice d1a ND d1b), DD)]) := (Q2.setrow [((.slice u3c LEA u3d), EA), ((.slice u3a LDA u3b), DA), ((.slice u2c LEB u2d), EB), ((.slice u2a LDB u2b), DB), ((.slice u1c LEA u1d), EA), ((.slice u1a LDA u1b), DA), ((.slice (some ⟨x3a, 0, none⟩) n x3b), zs), ((.slice (some ⟨x2a, 0, none⟩) n2 x2b), zs2), ((.slice (some ⟨x1a, 0, none⟩) n x1b), zs), ((.slice (some ⟨r1, 0, none⟩) K2 rc1), X1)] [((.slice (some ⟨o3, 0, none⟩) K1 oc3), P1), ((.slice (some ⟨o2, 0, none⟩) K2 oc2), P2), ((.slice (some ⟨o1, 0, none⟩) K1 oc1), P1)] HZ.out hset.2 hset.1 rfl).up (Below.refl _ _).drew
            have m2 : (t : Int) < (K1 : Int) := by omega
            have hd2 : decide ((t : Int) < (K1 : Int)) = true := decide_eq_true m2
            clear hset hown hz HZ
            go_wp2
            go_region
            go_wp2
            go_roundw
            case rel => exact ⟨t + 1, _, by omega, by go_num, HN⟩
            case measure => simp [intOf]; omega
          · have dlt : ¬ (t : Int) < (K1 : Int) := by omega
            go_wp2
            go_roundw
            case rel => exact ⟨1, Z, X1, by omega, by first | rfl | go_num, HZ⟩
            case measure => simp [intOf]

      · rw [show ((1 : Nat) : Int) = (1 : Int) from rfl]
        go_wp2
        go_loopw [30] (fun tt wq => ∃ (t : Nat) (Z : List Int), t ≤ K2 ∧ tt = .int .i64 t ∧ Hid (Q2 w wq B1 [(t11.heap.size, #[.slice u3a LDA u3b, .slice u3c LEA u3d], 47), (t10.heap.size, #[.slice u2a LDB u2b, .slice u2c LEB u2d], 47), (t9.heap.size, #[.slice u1a LDA u1b, .slice u1c LEA u1d], 47), (t8.heap.size, (imb b p s x3a 0 n x3b x3c 0 b b), 30), (t7.heap.size, (imb b2 p2 s2 x2a 0 n2 x2b x2c 0 b2 b2), 30), (t6.heap.size, (imb b p s x1a 0 n x1b x1c 0 b b), 30), (t5.heap.size, #[.slice (some ⟨r0, 0, none⟩) K1 rc0, .slice (some ⟨r1, 0, none⟩) K2 rc1], 22), (pb, (imb b2 p2 s2 h 0 n2 dc hm 0 b2 dm), 30), (pa, (imb b p s g 0 n cc gm 0 b cm), 30), ((w.heap.size + 2), #[.int .i64 x, .int .i64 y], 40), ((w.heap.size + 1), (imb b2 p2 s2 bk2 off2 n2 c2 mb2 mo2 b2 c2'), 30), (w.heap.size, (imb b p s bk off n c mb mo b c'), 30)] [((.slice (some ⟨h, 0, none⟩) n2 dc), zs2), ((.slice (some ⟨g, 0, none⟩) n cc), zs)] [((.slice (some ⟨hm, 0, none⟩) b2 dm), ms2), ((.slice (some ⟨gm, 0, none⟩) b cm), ms)] [((.slice u3c LEA u3d), EA), ((.slice u3a LDA u3b), DA), ((.slice u2c LEB u2d), EB), ((.slice u2a LDB u2b), DB), ((.slice u1c LEA u1d), EA), ((.slice u1a LDA u1b), DA), ((.slice (some ⟨x3a, 0, none⟩) n x3b), zs), ((.slice (some ⟨x2a, 0, none⟩) n2 x2b), zs2), ((.slice (some ⟨x1a, 0, none⟩) n x1b), zs), ((.slice (some ⟨r1, 0, none⟩) K2 rc1), Z), ((.slice (some ⟨r0, 0, none⟩) K1 rc0), X0), ((.slice (some ⟨o3, 0, none⟩) K1 oc3), P1), ((.slice (some ⟨o2, 0, none⟩) K2 oc2), P2), ((.slice (some ⟨o1, 0, none⟩) K1 oc1), P1)] [((.slice (some ⟨x3c, 0, none⟩) b b), ms), ((.slice (some ⟨x2c, 0, none⟩) b2 b2), ms2), ((.slice (some ⟨x1c, 0, none⟩) b b), ms)] [((.slice d2a ND d2b), DD), ((.slice d1a ND d1b), DD)])) (fun tt _ => K2 - (intOf tt).toNat)
        case atStart => exact ⟨0, X1, Nat.zero_le _, rfl, HR⟩
        case round =>
          obtain ⟨t, Z, ht, rfl, HZ⟩ := hrel
          clear HR
          obtain ⟨l0, l1⟩ := cells2 (HZ.out.q.bx _ (List.mem_cons_of_mem _ (List.mem_cons_of_mem _ (List.mem_cons_of_mem _ (List.mem_cons_of_mem _ (List.mem_cons_of_mem _ (List.mem_cons_of_mem _ List.mem_cons_self)))))))
          by_cases hlt : t < K2
          · have hown : Own wr B1 r1 K2 rc1 Z := own_k (HZ.out.lb.rows (.slice (some ⟨r1, 0, none⟩) K2 rc1, Z) (List.mem_cons_of_mem _ (List.mem_cons_of_mem _ (List.mem_cons_of_mem _ (List.mem_cons_of_mem _ (List.mem_cons_of_mem _ (List.mem_cons_of_mem _ (List.mem_cons_of_mem _ (List.mem_cons_of_mem _ (List.mem_cons_of_mem _ List.mem_cons_self))))))))))
            obtain ⟨z, hz⟩ : ∃ z, Z.getD t 0 = z := ⟨_, rfl⟩
            have x2 : wr.cell? ⟨r1, t, none⟩ = some (.int .u8 z) := by rw [← hz]; exact hown.cell t hlt
            have x3 : wr.frozen? ⟨r1, t, none⟩ = false := World.ownsRow.frozenAt hown t
            have hset := hown.set t (bits .xor .u8 z 255)
            have HN : Hid (Q2 w (wr.setCell ⟨r1, t, none⟩ (.int .u8 (bits .xor .u8 z 255))).drew B1 [(t11.heap.size, #[.slice u3a LDA u3b, .slice u3c LEA u3d], 47), (t10.heap.size, #[.slice u2a LDB u2b, .slice u2c LEB u2d], 47), (t9.heap.size, #[.slice u1a LDA u1b, .slice u1c LEA u1d], 47), (t8.heap.size, (imb b p s x3a 0 n x3b x3c 0 b b), 30), (t7.heap.size, (imb b2 p2 s2 x2a 0 n2 x2b x2c 0 b2 b2), 30), (t6.heap.size, (imb b p s x1a 0 n x1b x1c 0 b b), 30), (t5.heap.size, #[.slice (some ⟨r0, 0, none⟩) K1 rc0, .slice (some ⟨r1, 0, none⟩) K2 rc1], 22), (pb, (imb b2 p2 s2 h 0 n2 dc hm 0 b2 dm), 30), (pa, (imb b p s g 0 n cc gm 0 b cm), 30), ((w.heap.size + 2), #[.int .i64 x, .int .i64 y], 40), ((w.heap.size + 1), (imb b2 p2 s2 bk2 off2 n2 c2 mb2 mo2 b2 c2'), 30), (w.heap.size, (imb b p s bk off n c mb mo b c'), 30)] [((.slice (some ⟨h, 0, none⟩) n2 dc), zs2), ((.slice (some ⟨g, 0, none⟩) n cc), zs)] [((.slice (some ⟨hm, 0, none⟩) b2 dm), ms2), ((.slice (some ⟨gm, 0, none⟩) b cm), ms)] [((.slice u3c LEA u3d), EA), ((.slice u3a LDA u3b), DA), ((.slice u2c LEB u2d), EB), ((.slice u2a LDB u2b), DB), ((.slice u1c LEA u1d), EA), ((.slice u1a LDA u1b), DA), ((.slice (some ⟨x3a, 0, none⟩) n x3b), zs), ((.slice (some ⟨x2a, 0, none⟩) n2 x2b), zs2), ((.slice (some ⟨x1a, 0, none⟩) n x1b), zs), ((.slice (some ⟨r1, 0, none⟩) K2 rc1), (Z.set t (bits .xor .u8 z 255))), ((.slice (some ⟨r0, 0, none⟩) K1 rc0), X0), ((.slice (some ⟨o3, 0, none⟩) K1 oc3), P1), ((.slice (some ⟨o2, 0, none⟩) K2 oc2), P2), ((.slice (some ⟨o1, 0, none⟩) K1 oc1), P1)] [((.slice (some ⟨x3c, 0, none⟩) b b), ms), ((.slice (some ⟨x2c, 0, none⟩) b2 b2), ms2), ((.slice (some ⟨x1c, 0, none⟩) b b), ms)] [((.slice d2a ND d2b), DD), ((.slice d1a ND d1b), DD)]) := (Q2.setrow [((.slice u3c LEA u3d), EA), ((.slice u3a LDA u3b), DA), ((.slice u2c LEB u2d), EB), ((.slice u2a LDB u2b), DB), ((.slice u1c LEA u1d), EA), ((.slice u1a LDA u1b), DA), ((.slice (some ⟨x3a, 0, none⟩) n x3b), zs), ((.slice (some ⟨x2a, 0, none⟩) n2 x2b), zs2), ((.slice (some ⟨x1a, 0, none⟩) n x1b), zs)] [((.slice (some ⟨r0, 0, none⟩) K1 rc0), X0), ((.slice (some ⟨o3, 0, none⟩) K1 oc3), P1), ((.slice (some ⟨o2, 0, none⟩) K2 oc2), P2), ((.slice (some ⟨o1, 0, none⟩) K1 oc1), P1)] HZ.out hset.2 hset.1 rfl).up (Below.refl _ _).drew
            have m2 : (t : Int) < (K2 : Int) := by omega
            have hd2 : decide ((t : Int) < (K2 : Int)) = true := decide_eq_true m2
            clear hset hown hz HZ
            go_wp2
            go_region
            go_wp2
            go_roundw
            case rel => exact ⟨t + 1, _, by omega, by go_num, HN⟩
            case measure => simp [intOf]; omega
          · have dlt : ¬ (t : Int) < (K2 : Int) := by omega
            go_wp2
            go_roundw
            case rel => exact ⟨2, X0, Z, by omega, by first | rfl | go_num, HZ⟩
            case measure => simp [intOf]

      · obtain ⟨a0, a1, a2, a3, a4⟩ := cells5 (HR.out.q.bx _ (List.mem_cons_of_mem _ (List.mem_cons_of_mem _ (List.mem_cons_of_mem _ (List.mem_cons_of_mem _ (List.mem_cons_of_mem _ List.mem_cons_self))))))
        obtain ⟨w0, w1, w2, w3, w4⟩ := cells5 (HR.out.q.bx _ (List.mem_cons_of_mem _ (List.mem_cons_of_mem _ (List.mem_cons_of_mem _ (List.mem_cons_of_mem _ (List.mem_cons_of_mem _ (List.mem_cons_of_mem _ (List.mem_cons_of_mem _ (List.mem_cons_of_mem _ (List.mem_cons_of_mem _ (List.mem_cons_of_mem _ (List.mem_cons_of_mem _ List.mem_cons_self))))))))))))
        have B1t : Hid True := trivial
        have HBX : Hid (∀ e ∈ ([(t11.heap.size, #[.slice u3a LDA u3b, .slice u3c LEA u3d], 47), (t10.heap.size, #[.slice u2a LDB u2b, .slice u2c LEB u2d], 47), (t9.heap.size, #[.slice u1a LDA u1b, .slice u1c LEA u1d], 47), (t8.heap.size, (imb b p s x3a 0 n x3b x3c 0 b b), 30), (t7.heap.size, (imb b2 p2 s2 x2a 0 n2 x2b x2c 0 b2 b2), 30), (t6.heap.size, (imb b p s x1a 0 n x1b x1c 0 b b), 30), (t5.heap.size, #[.slice (some ⟨r0, 0, none⟩) K1 rc0, .slice (some ⟨r1, 0, none⟩) K2 rc1], 22), (pb, (imb b2 p2 s2 h 0 n2 dc hm 0 b2 dm), 30), (pa, (imb b p s g 0 n cc gm 0 b cm), 30), ((w.heap.size + 2), #[.int .i64 x, .int .i64 y], 40), ((w.heap.size + 1), (imb b2 p2 s2 bk2 off2 n2 c2 mb2 mo2 b2 c2'), 30), (w.heap.size, (imb b p s bk off n c mb mo b c'), 30)] : List (Nat × Array Value × TypeId)), e.2.2 ≠ 40 ∨ e.1 < B1) := fun e he => by
          rcases List.mem_cons.1 he with rfl | he
          · exact Or.inl (show (47 : TypeId) ≠ 40 from by decide)
          rcases List.mem_cons.1 he with rfl | he
          · exact Or.inl (show (47 : TypeId) ≠ 40 from by decide)
          rcases List.mem_cons.1 he with rfl | he
          · exact Or.inl (show (47 : TypeId) ≠ 40 from by decide)
          rcases List.mem_cons.1 he with rfl | he
          · exact Or.inl (show (30 : TypeId) ≠ 40 from by decide)
          rcases List.mem_cons.1 he with rfl | he
          · exact Or.inl (show (30 : TypeId) ≠ 40 from by decide)
          rcases List.mem_cons.1 he with rfl | he
          · exact Or.inl (show (30 : TypeId) ≠ 40 from by decide)
          rcases List.mem_cons.1 he with rfl | he
          · exact Or.inl (show (22 : TypeId) ≠ 40 from by decide)
          rcases List.mem_cons.1 he with rfl | he
          · exact Or.inl (show (30 : TypeId) ≠ 40 from by decide)
          rcases List.mem_cons.1 he with rfl | he
          · exact Or.inl (show (30 : TypeId) ≠ 40 from by decide)
          rcases List.mem_cons.1 he with rfl | he
          · exact Or.inr (show w.heap.size + 2 < B1 from HB5.out.2.2)
          rcases List.mem_cons.1 he with rfl | he
          · exact Or.inl (show (30 : TypeId) ≠ 40 from by decide)
          rcases List.mem_cons.1 he with rfl | he
          · exact Or.inl (show (30 : TypeId) ≠ 40 from by decide)
          cases he
        have HSM : Hid (∀ e ∈ ([((.slice (some ⟨x1c, 0, none⟩) b b), ms), ((.slice (some ⟨x2c, 0, none⟩) b2 b2), ms2), ((.slice (some ⟨x3c, 0, none⟩) b b), ms)] : List (Value × List Bool)), 0 < e.2.length ∧ e.2.length ≤ 2000000000) := fun e he => by
          rcases List.mem_cons.1 he with rfl | he
          · exact ⟨Nat.lt_of_lt_of_eq hb0 (show b = (ms).length from HM1.out.2.2.1.symm), Nat.le_trans (Nat.le_of_eq (show (ms).length = b from HM1.out.2.2.1)) (by omega)⟩
          rcases List.mem_cons.1 he with rfl | he
          · exact ⟨Nat.lt_of_lt_of_eq hb20 (show b2 = (ms2).length from HM2.out.2.2.1.symm), Nat.le_trans (Nat.le_of_eq (show (ms2).length = b2 from HM2.out.2.2.1)) (by omega)⟩
          rcases List.mem_cons.1 he with rfl | he
          · exact ⟨Nat.lt_of_lt_of_eq hb0 (show b = (ms).length from HM1.out.2.2.1.symm), Nat.le_trans (Nat.le_of_eq (show (ms).length = b from HM1.out.2.2.1)) (by omega)⟩
          cases he
        have HS12 : Hid (∀ e ∈ ([((.slice (some ⟨o1, 0, none⟩) K1 oc1), P1), ((.slice (some ⟨o2, 0, none⟩) K2 oc2), P2), ((.slice (some ⟨o3, 0, none⟩) K1 oc3), P1), ((.slice (some ⟨x1a, 0, none⟩) n x1b), zs), ((.slice (some ⟨x2a, 0, none⟩) n2 x2b), zs2), ((.slice (some ⟨x3a, 0, none⟩) n x3b), zs), ((.slice u1a LDA u1b), DA), ((.slice u1c LEA u1d), EA), ((.slice u2a LDB u2b), DB), ((.slice u2c LEB u2d), EB), ((.slice u3a LDA u3b), DA), ((.slice u3c LEA u3d), EA)] : List (Value × List Int)), e.2.length ≤ 2000000000) := fun e he => by
          rcases List.mem_cons.1 he with rfl | he
          · exact Nat.le_trans (Nat.le_of_eq (show (P1).length = _ from HP.out.2.2.1)) (by have := HLN.out; omega)
          rcases List.mem_cons.1 he with rfl | he
          · exact Nat.le_trans (Nat.le_of_eq (show (P2).length = _ from HP.out.2.2.2)) (by have := HLN.out; omega)
          rcases List.mem_cons.1 he with rfl | he
          · exact Nat.le_trans (Nat.le_of_eq (show (P1).length = _ from HP.out.2.2.1)) (by have := HLN.out; omega)
          rcases List.mem_cons.1 he with rfl | he
          · exact Nat.le_trans (Nat.le_of_eq (show (zs).length = _ from HZ1.out)) (by have := HLN.out; omega)
          rcases List.mem_cons.1 he with rfl | he
          · exact Nat.le_trans (Nat.le_of_eq (show (zs2).length = _ from HZ2.out)) (by have := HLN.out; omega)
          rcases List.mem_cons.1 he with rfl | he
          · exact Nat.le_trans (Nat.le_of_eq (show (zs).length = _ from HZ1.out)) (by have := HLN.out; omega)
          rcases List.mem_cons.1 he with rfl | he
          · exact Nat.le_trans (Nat.le_of_eq (show (DA).length = _ from HLN.out.1)) (by have := HLN.out; omega)
          rcases List.mem_cons.1 he with rfl | he
          · exact Nat.le_trans (Nat.le_of_eq (show (EA).length = _ from HLN.out.2.1)) (by have := HLN.out; omega)
          rcases List.mem_cons.1 he with rfl | he
          · exact Nat.le_trans (Nat.le_of_eq (show (DB).length = _ from HLN.out.2.2.1)) (by have := HLN.out; omega)
          rcases List.mem_cons.1 he with rfl | he
          · exact Nat.le_trans (Nat.le_of_eq (show (EB).length = _ from HLN.out.2.2.2.1)) (by have := HLN.out; omega)
          rcases List.mem_cons.1 he with rfl | he
          · exact Nat.le_trans (Nat.le_of_eq (show (DA).length = _ from HLN.out.1)) (by have := HLN.out; omega)
          rcases List.mem_cons.1 he with rfl | he
          · exact Nat.le_trans (Nat.le_of_eq (show (EA).length = _ from HLN.out.2.1)) (by have := HLN.out; omega)
          cases he
        have HLT5 : Hid (∀ e ∈ ([(pb, (imb b2 p2 s2 h 0 n2 dc hm 0 b2 dm), 30), (pa, (imb b p s g 0 n cc gm 0 b cm), 30), ((w.heap.size + 2), #[.int .i64 x, .int .i64 y], 40), ((w.heap.size + 1), (imb b2 p2 s2 bk2 off2 n2 c2 mb2 mo2 b2 c2'), 30), (w.heap.size, (imb b p s bk off n c mb mo b c'), 30)] : List (Nat × Array Value × TypeId)), e.1 < B1) := fun e he => by
          rcases List.mem_cons.1 he with rfl | he
          · exact (show pb < B1 from by have := HB5.out; omega)
          rcases List.mem_cons.1 he with rfl | he
          · exact (show pa < B1 from by have := HB5.out; omega)
          rcases List.mem_cons.1 he with rfl | he
          · exact (show (w.heap.size + 2) < B1 from by have := HB5.out; omega)
          rcases List.mem_cons.1 he with rfl | he
          · exact (show (w.heap.size + 1) < B1 from by have := HB5.out; omega)
          rcases List.mem_cons.1 he with rfl | he
          · exact (show w.heap.size < B1 from by have := HB5.out; omega)
          cases he
        go_wp2_with (first
          | (go_at_call 11; have zz9 := B1t; clear B1t zz9; refine (alike_dec _ _ _ _ _ n _ _ zs zs _ _ b _ _ ms ms _ (rowRd (HR.out.lb.own (v := (.slice (some ⟨x1a, 0, none⟩) n x1b)) (xs := zs) (List.mem_cons_of_mem _ (List.mem_cons_of_mem _ (List.mem_cons_of_mem _ (List.mem_cons_of_mem _ (List.mem_cons_of_mem _ (List.mem_cons_of_mem _ (List.mem_cons_of_mem _ (List.mem_cons_of_mem _ List.mem_cons_self)))))))) HZ1.out) HM1.out.2.2.2) (HR1.out.below HR.out.q.bel) (ownB_all (HR.out.lm.own (v := (.slice (some ⟨x1c, 0, none⟩) b b)) (xs := ms) (List.mem_cons_of_mem _ (List.mem_cons_of_mem _ List.mem_cons_self)) HM1.out.2.2.1)) (HRM1.out.below HR.out.q.bel) (by omega)).mono ?_; rintro e sw1 ⟨he, bl⟩; have he2 : e = .returned (.bool true) := he.trans (by simp); subst he2
             have J1 := Q2.hup HR bl
             clear he bl HR a0 a1 a2 a3 a4 w0 w1 w2 w3 w4
             obtain ⟨a0, a1, a2, a3, a4⟩ := cells5 (J1.out.q.bx _ (List.mem_cons_of_mem _ (List.mem_cons_of_mem _ (List.mem_cons_of_mem _ (List.mem_cons_of_mem _ List.mem_cons_self)))))
             obtain ⟨w0, w1, w2, w3, w4⟩ := cells5 (J1.out.q.bx _ (List.mem_cons_of_mem _ (List.mem_cons_of_mem _ (List.mem_cons_of_mem _ (List.mem_cons_of_mem _ (List.mem_cons_of_mem _ (List.mem_cons_of_mem _ (List.mem_cons_of_mem _ (List.mem_cons_of_mem _ (List.mem_cons_of_mem _ (List.mem_cons_of_mem _ List.mem_cons_self)))))))))))
             have B2t : Hid True := trivial)
          | (go_at_call 11; have zz9 := B2t; clear B2t zz9; refine (alike_dec _ _ _ _ _ n2 _ _ zs2 zs2 _ _ b2 _ _ ms2 ms2 _ (rowRd (J1.out.lb.own (v := (.slice (some ⟨x2a, 0, none⟩) n2 x2b)) (xs := zs2) (List.mem_cons_of_mem _ (List.mem_cons_of_mem _ (List.mem_cons_of_mem _ (List.mem_cons_of_mem _ (List.mem_cons_of_mem _ (List.mem_cons_of_mem _ (List.mem_cons_of_mem _ List.mem_cons_self))))))) HZ2.out) HM2.out.2.2.2) (HR2.out.below J1.out.q.bel) (ownB_all (J1.out.lm.own (v := (.slice (some ⟨x2c, 0, none⟩) b2 b2)) (xs := ms2) (List.mem_cons_of_mem _ List.mem_cons_self) HM2.out.2.2.1)) (HRM2.out.below J1.out.q.bel) (by omega)).mono ?_; rintro e sw2 ⟨he, bl⟩; have he2 : e = .returned (.bool true) := he.trans (by simp); subst he2
             have J2 := Q2.hup J1 bl
             clear he bl J1 a0 a1 a2 a3 a4 w0 w1 w2 w3 w4
             obtain ⟨a0, a1, a2, a3, a4⟩ := cells5 (J2.out.q.bx _ (List.mem_cons_of_mem _ (List.mem_cons_of_mem _ (List.mem_cons_of_mem _ List.mem_cons_self))))
             obtain ⟨w0, w1, w2, w3, w4⟩ := cells5 (J2.out.q.bx _ (List.mem_cons_of_mem _ (List.mem_cons_of_mem _ (List.mem_cons_of_mem _ (List.mem_cons_of_mem _ (List.mem_cons_of_mem _ (List.mem_cons_of_mem _ (List.mem_cons_of_mem _ (List.mem_cons_of_mem _ (List.mem_cons_of_mem _ (List.mem_cons_of_mem _ (List.mem_cons_of_mem _ List.mem_cons_self))))))))))))
             have B3t : Hid True := trivial)
          | (go_at_call 11; have zz9 := B3t; clear B3t zz9; refine (alike_dec _ _ _ _ _ n _ _ zs zs _ _ b _ _ ms ms _ (rowRd (J2.out.lb.own (v := (.slice (some ⟨x3a, 0, none⟩) n x3b)) (xs := zs) (List.mem_cons_of_mem _ (List.mem_cons_of_mem _ (List.mem_cons_of_mem _ (List.mem_cons_of_mem _ (List.mem_cons_of_mem _ (List.mem_cons_of_mem _ List.mem_cons_self)))))) HZ1.out) HM1.out.2.2.2) (HR1.out.below J2.out.q.bel) (ownB_all (J2.out.lm.own (v := (.slice (some ⟨x3c, 0, none⟩) b b)) (xs := ms) List.mem_cons_self HM1.out.2.2.1)) (HRM1.out.below J2.out.q.bel) (by omega)).mono ?_; rintro e sw3 ⟨he, bl⟩; have he2 : e = .returned (.bool true) := he.trans (by simp); subst he2
             have J3 := Q2.hup J2 bl
             clear he bl J2 a0 a1 a2 a3 a4 w0 w1 w2 w3 w4
             obtain ⟨a0, a1, a2, a3, a4⟩ := cells5 (J3.out.q.bx _ (List.mem_cons_of_mem _ (List.mem_cons_of_mem _ (List.mem_cons_of_mem _ (List.mem_cons_of_mem _ (List.mem_cons_of_mem _ (List.mem_cons_of_mem _ (List.mem_cons_of_mem _ (List.mem_cons_of_mem _ List.mem_cons_self)))))))))
             obtain ⟨w0, w1, w2, w3, w4⟩ := cells5 (J3.out.q.bx _ (List.mem_cons_of_mem _ (List.mem_cons_of_mem _ (List.mem_cons_of_mem _ (List.mem_cons_of_mem _ (List.mem_cons_of_mem _ (List.mem_cons_of_mem _ (List.mem_cons_of_mem _ (List.mem_cons_of_mem _ (List.mem_cons_of_mem _ (List.mem_cons_of_mem _ (List.mem_cons_of_mem _ List.mem_cons_self))))))))))))
             have B4t : Hid True := trivial)
          | (go_at_call 11; have zz9 := B4t; clear B4t zz9; refine (alike_dec _ _ _ _ _ n _ _ zs zs _ _ b _ _ ms ms _ (rowRd (J3.out.q.la.own (v := .slice (some ⟨g, 0, none⟩) n cc) (xs := zs) (List.mem_cons_of_mem _ List.mem_cons_self) HZ1.out) HM1.out.2.2.2) (HR1.out.below J3.out.q.bel) (ownB_all (J3.out.q.lam.own (v := .slice (some ⟨gm, 0, none⟩) b cm) (xs := ms) (List.mem_cons_of_mem _ List.mem_cons_self) HM1.out.2.2.1)) (HRM1.out.below J3.out.q.bel) (by omega)).mono ?_; rintro e sw4 ⟨he, bl⟩; have he2 : e = .returned (.bool true) := he.trans (by simp); subst he2
             have J4 := Q2.hup J3 bl
             clear he bl J3 a0 a1 a2 a3 a4 w0 w1 w2 w3 w4
             obtain ⟨a0, a1, a2, a3, a4⟩ := cells5 (J4.out.q.bx _ (List.mem_cons_of_mem _ (List.mem_cons_of_mem _ (List.mem_cons_of_mem _ (List.mem_cons_of_mem _ (List.mem_cons_of_mem _ (List.mem_cons_of_mem _ (List.mem_cons_of_mem _ List.mem_cons_self))))))))
             obtain ⟨w0, w1, w2, w3, w4⟩ := cells5 (J4.out.q.bx _ (List.mem_cons_of_mem _ (List.mem_cons_of_mem _ (List.mem_cons_of_mem _ (List.mem_cons_of_mem _ (List.mem_cons_of_mem _ (List.mem_cons_of_mem _ (List.mem_cons_of_mem _ (List.mem_cons_of_mem _ (List.mem_cons_of_mem _ (List.mem_cons_of_mem _ List.mem_cons_self)))))))))))
             have B5t : Hid True := trivial)
          | (go_at_call 11; have zz9 := B5t; clear B5t zz9; refine (alike_dec _ _ _ _ _ n2 _ _ zs2 zs2 _ _ b2 _ _ ms2 ms2 _ (rowRd (J4.out.q.la.own (v := .slice (some ⟨h, 0, none⟩) n2 dc) (xs := zs2) List.mem_cons_self HZ2.out) HM2.out.2.2.2) (HR2.out.below J4.out.q.bel) (ownB_all (J4.out.q.lam.own (v := .slice (some ⟨hm, 0, none⟩) b2 dm) (xs := ms2) List.mem_cons_self HM2.out.2.2.1)) (HRM2.out.below J4.out.q.bel) (by omega)).mono ?_; rintro e sw5 ⟨he, bl⟩; have he2 : e = .returned (.bool true) := he.trans (by simp); subst he2
             have J5 := Q2.hup J4 bl
             clear he bl J4 a0 a1 a2 a3 a4 w0 w1 w2 w3 w4)
          | (go_at_call 21; refine (placesApart_any _ B1 d1a ND d1b DD d2a ND d2b DD (by have := HNB.out.2; omega) (by have := HNB.out.2; omega) (J5.out.lp.own (v := (.slice d1a ND d1b)) (xs := DD) (List.mem_cons_of_mem _ List.mem_cons_self) HNB.out.1) (J5.out.lp.own (v := (.slice d2a ND d2b)) (xs := DD) List.mem_cons_self HNB.out.1) (far21 J5.out.lp.far) J5.out.hB).mono ?_; rintro e sw6 ⟨rfl, hg9⟩
             have J6 : Hid (Q2 w sw6 B1 [(t11.heap.size, #[.slice u3a LDA u3b, .slice u3c LEA u3d], 47), (t10.heap.size, #[.slice u2a LDB u2b, .slice u2c LEB u2d], 47), (t9.heap.size, #[.slice u1a LDA u1b, .slice u1c LEA u1d], 47), (t8.heap.size, (imb b p s x3a 0 n x3b x3c 0 b b), 30), (t7.heap.size, (imb b2 p2 s2 x2a 0 n2 x2b x2c 0 b2 b2), 30), (t6.heap.size, (imb b p s x1a 0 n x1b x1c 0 b b), 30), (t5.heap.size, #[.slice (some ⟨r0, 0, none⟩) K1 rc0, .slice (some ⟨r1, 0, none⟩) K2 rc1], 22), (pb, (imb b2 p2 s2 h 0 n2 dc hm 0 b2 dm), 30), (pa, (imb b p s g 0 n cc gm 0 b cm), 30), ((w.heap.size + 2), #[.int .i64 x, .int .i64 y], 40), ((w.heap.size + 1), (imb b2 p2 s2 bk2 off2 n2 c2 mb2 mo2 b2 c2'), 30), (w.heap.size, (imb b p s bk off n c mb mo b c'), 30)] [((.slice (some ⟨h, 0, none⟩) n2 dc), zs2), ((.slice (some ⟨g, 0, none⟩) n cc), zs)] [((.slice (some ⟨hm, 0, none⟩) b2 dm), ms2), ((.slice (some ⟨gm, 0, none⟩) b cm), ms)] [((.slice u3c LEA u3d), EA), ((.slice u3a LDA u3b), DA), ((.slice u2c LEB u2d), EB), ((.slice u2a LDB u2b), DB), ((.slice u1c LEA u1d), EA), ((.slice u1a LDA u1b), DA), ((.slice (some ⟨x3a, 0, none⟩) n x3b), zs), ((.slice (some ⟨x2a, 0, none⟩) n2 x2b), zs2), ((.slice (some ⟨x1a, 0, none⟩) n x1b), zs), ((.slice (some ⟨r1, 0, none⟩) K2 rc1), X1), ((.slice (some ⟨r0, 0, none⟩) K1 rc0), X0), ((.slice (some ⟨o3, 0, none⟩) K1 oc3), P1), ((.slice (some ⟨o2, 0, none⟩) K2 oc2), P2), ((.slice (some ⟨o1, 0, none⟩) K1 oc1), P1)] [((.slice (some ⟨x3c, 0, none⟩) b b), ms), ((.slice (some ⟨x2c, 0, none⟩) b2 b2), ms2), ((.slice (some ⟨x1c, 0, none⟩) b b), ms)] []) := J5.out.dropP (List.mem_cons_of_mem _ List.mem_cons_self) hg9 HBX.out
             clear J5 hg9
             obtain ⟨a0, a1, a2, a3, a4⟩ := cells5 (J6.out.q.bx _ (List.mem_cons_of_mem _ (List.mem_cons_of_mem _ (List.mem_cons_of_mem _ (List.mem_cons_of_mem _ (List.mem_cons_of_mem _ List.mem_cons_self))))))
             obtain ⟨w0, w1, w2, w3, w4⟩ := cells5 (J6.out.q.bx _ (List.mem_cons_of_mem _ (List.mem_cons_of_mem _ (List.mem_cons_of_mem _ (List.mem_cons_of_mem _ List.mem_cons_self)))))
             obtain ⟨k0, k1, k2, k3, k4⟩ := cells5 (J6.out.q.bx _ (List.mem_cons_of_mem _ (List.mem_cons_of_mem _ (List.mem_cons_of_mem _ List.mem_cons_self)))))
          | (go_at_call 22; refine (marksApart_any (sw6.alloc (.cells #[.slice (some ⟨x1c, 0, none⟩) b b, .slice (some ⟨x2c, 0, none⟩) b2 b2, .slice (some ⟨x3c, 0, none⟩) b b] 28)) B1 sw6.heap.size 3 3 _ _ _ (live_apartM (P := [((.slice (some ⟨x1c, 0, none⟩) b b), ms), ((.slice (some ⟨x2c, 0, none⟩) b2 b2), ms2), ((.slice (some ⟨x3c, 0, none⟩) b b), ms)]) (J6.out.lm.rev rfl) HSM.out 3 rfl _ rfl) (by omega) (Nat.le_trans J6.out.hB (below_alloc sw6 _).size)).mono ?_; rintro e sw7 ⟨rfl, hk9⟩
             have J7 : Hid (Q2 w sw7 B1 [(t11.heap.size, #[.slice u3a LDA u3b, .slice u3c LEA u3d], 47), (t10.heap.size, #[.slice u2a LDB u2b, .slice u2c LEB u2d], 47), (t9.heap.size, #[.slice u1a LDA u1b, .slice u1c LEA u1d], 47), (t8.heap.size, (imb b p s x3a 0 n x3b x3c 0 b b), 30), (t7.heap.size, (imb b2 p2 s2 x2a 0 n2 x2b x2c 0 b2 b2), 30), (t6.heap.size, (imb b p s x1a 0 n x1b x1c 0 b b), 30), (t5.heap.size, #[.slice (some ⟨r0, 0, none⟩) K1 rc0, .slice (some ⟨r1, 0, none⟩) K2 rc1], 22), (pb, (imb b2 p2 s2 h 0 n2 dc hm 0 b2 dm), 30), (pa, (imb b p s g 0 n cc gm 0 b cm), 30), ((w.heap.size + 2), #[.int .i64 x, .int .i64 y], 40), ((w.heap.size + 1), (imb b2 p2 s2 bk2 off2 n2 c2 mb2 mo2 b2 c2'), 30), (w.heap.size, (imb b p s bk off n c mb mo b c'), 30)] [((.slice (some ⟨h, 0, none⟩) n2 dc), zs2), ((.slice (some ⟨g, 0, none⟩) n cc), zs)] [((.slice (some ⟨hm, 0, none⟩) b2 dm), ms2), ((.slice (some ⟨gm, 0, none⟩) b cm), ms)] [((.slice u3c LEA u3d), EA), ((.slice u3a LDA u3b), DA), ((.slice u2c LEB u2d), EB), ((.slice u2a LDB u2b), DB), ((.slice u1c LEA u1d), EA), ((.slice u1a LDA u1b), DA), ((.slice (some ⟨x3a, 0, none⟩) n x3b), zs), ((.slice (some ⟨x2a, 0, none⟩) n2 x2b), zs2), ((.slice (some ⟨x1a, 0, none⟩) n x1b), zs), ((.slice (some ⟨r1, 0, none⟩) K2 rc1), X1), ((.slice (some ⟨r0, 0, none⟩) K1 rc0), X0), ((.slice (some ⟨o3, 0, none⟩) K1 oc3), P1), ((.slice (some ⟨o2, 0, none⟩) K2 oc2), P2), ((.slice (some ⟨o1, 0, none⟩) K1 oc1), P1)] [] []) := Q2.kt (J6.out.up (below_alloc sw6 (.cells #[.slice (some ⟨x1c, 0, none⟩) b b, .slice (some ⟨x2c, 0, none⟩) b2 b2, .slice (some ⟨x3c, 0, none⟩) b b] 28))) hk9 rfl
             clear J6 hk9 a0 a1 a2 a3 a4 w0 w1 w2 w3 w4 k0 k1 k2 k3 k4
             obtain ⟨a0, a1, a2, a3, a4⟩ := cells5 (J7.out.q.bx _ (List.mem_cons_of_mem _ (List.mem_cons_of_mem _ (List.mem_cons_of_mem _ (List.mem_cons_of_mem _ (List.mem_cons_of_mem _ List.mem_cons_self))))))
             obtain ⟨w0, w1, w2, w3, w4⟩ := cells5 (J7.out.q.bx _ (List.mem_cons_of_mem _ (List.mem_cons_of_mem _ (List.mem_cons_of_mem _ (List.mem_cons_of_mem _ List.mem_cons_self)))))
             obtain ⟨k0, k1, k2, k3, k4⟩ := cells5 (J7.out.q.bx _ (List.mem_cons_of_mem _ (List.mem_cons_of_mem _ (List.mem_cons_of_mem _ List.mem_cons_self))))
             obtain ⟨f0, f1⟩ := cells2 (J7.out.q.bx _ (List.mem_cons_of_mem _ (List.mem_cons_of_mem _ List.mem_cons_self)))
             obtain ⟨f2, f3⟩ := cells2 (J7.out.q.bx _ (List.mem_cons_of_mem _ List.mem_cons_self))
             obtain ⟨f4, f5⟩ := cells2 (J7.out.q.bx _ List.mem_cons_self))
          | (go_at_call 23; refine (unmet_any (sw7.alloc (.cells #[.slice (some ⟨o1, 0, none⟩) K1 oc1, .slice (some ⟨o2, 0, none⟩) K2 oc2, .slice (some ⟨o3, 0, none⟩) K1 oc3, .slice (some ⟨x1a, 0, none⟩) n x1b, .slice (some ⟨x2a, 0, none⟩) n2 x2b, .slice (some ⟨x3a, 0, none⟩) n x3b, .slice u1a LDA u1b, .slice u1c LEA u1d, .slice u2a LDB u2b, .slice u2c LEB u2d, .slice u3a LDA u3b, .slice u3c LEA u3d] 22)) B1 sw7.heap.size 12 12 _ _ _ (live_apart (P := [((.slice (some ⟨o1, 0, none⟩) K1 oc1), P1), ((.slice (some ⟨o2, 0, none⟩) K2 oc2), P2), ((.slice (some ⟨o3, 0, none⟩) K1 oc3), P1), ((.slice (some ⟨x1a, 0, none⟩) n x1b), zs), ((.slice (some ⟨x2a, 0, none⟩) n2 x2b), zs2), ((.slice (some ⟨x3a, 0, none⟩) n x3b), zs), ((.slice u1a LDA u1b), DA), ((.slice u1c LEA u1d), EA), ((.slice u2a LDB u2b), DB), ((.slice u2c LEB u2d), EB), ((.slice u3a LDA u3b), DA), ((.slice u3c LEA u3d), EA)]) (LiveG.sub (R := [((.slice (some ⟨o1, 0, none⟩) K1 oc1), P1), ((.slice (some ⟨o2, 0, none⟩) K2 oc2), P2), ((.slice (some ⟨o3, 0, none⟩) K1 oc3), P1), ((.slice (some ⟨r0, 0, none⟩) K1 rc0), X0), ((.slice (some ⟨r1, 0, none⟩) K2 rc1), X1), ((.slice (some ⟨x1a, 0, none⟩) n x1b), zs), ((.slice (some ⟨x2a, 0, none⟩) n2 x2b), zs2), ((.slice (some ⟨x3a, 0, none⟩) n x3b), zs), ((.slice u1a LDA u1b), DA), ((.slice u1c LEA u1d), EA), ((.slice u2a LDB u2b), DB), ((.slice u2c LEB u2d), EB), ((.slice u3a LDA u3b), DA), ((.slice u3c LEA u3d), EA)]) (J7.out.lb.rev rfl) (List.Sublist.cons_cons _ (List.Sublist.cons_cons _ (List.Sublist.cons_cons _ (List.Sublist.cons _ (List.Sublist.cons _ (List.Sublist.refl _))))))) HS12.out 12 rfl _ rfl) (by omega) (Nat.le_trans J7.out.hB (below_alloc sw7 _).size)).mono ?_; rintro e sw8 ⟨rfl, bl⟩
             have J8 : Hid (Q0 w sw8 [(pb, (imb b2 p2 s2 h 0 n2 dc hm 0 b2 dm), 30), (pa, (imb b p s g 0 n cc gm 0 b cm), 30), ((w.heap.size + 2), #[.int .i64 x, .int .i64 y], 40), ((w.heap.size + 1), (imb b2 p2 s2 bk2 off2 n2 c2 mb2 mo2 b2 c2'), 30), (w.heap.size, (imb b p s bk off n c mb mo b c'), 30)] [((.slice (some ⟨h, 0, none⟩) n2 dc), zs2), ((.slice (some ⟨g, 0, none⟩) n cc), zs)] [((.slice (some ⟨hm, 0, none⟩) b2 dm), ms2), ((.slice (some ⟨gm, 0, none⟩) b cm), ms)]) := Q2.last (J7.out.up (below_alloc sw7 (.cells #[.slice (some ⟨o1, 0, none⟩) K1 oc1, .slice (some ⟨o2, 0, none⟩) K2 oc2, .slice (some ⟨o3, 0, none⟩) K1 oc3, .slice (some ⟨x1a, 0, none⟩) n x1b, .slice (some ⟨x2a, 0, none⟩) n2 x2b, .slice (some ⟨x3a, 0, none⟩) n x3b, .slice u1a LDA u1b, .slice u1c LEA u1d, .slice u2a LDB u2b, .slice u2c LEB u2d, .slice u3a LDA u3b, .slice u3c LEA u3d] 22))) bl [(pb, (imb b2 p2 s2 h 0 n2 dc hm 0 b2 dm), 30), (pa, (imb b p s g 0 n cc gm 0 b cm), 30), ((w.heap.size + 2), #[.int .i64 x, .int .i64 y], 40), ((w.heap.size + 1), (imb b2 p2 s2 bk2 off2 n2 c2 mb2 mo2 b2 c2'), 30), (w.heap.size, (imb b p s bk off n c mb mo b c'), 30)] (List.Sublist.cons _ (List.Sublist.cons _ (List.Sublist.cons _ (List.Sublist.cons _ (List.Sublist.cons _ (List.Sublist.cons _ (List.Sublist.cons _ (List.Sublist.refl _)))))))) HLT5.out
             clear J7 bl a0 a1 a2 a3 a4 w0 w1 w2 w3 w4 k0 k1 k2 k3 k4 f0 f1 f2 f3 f4 f5
             obtain ⟨a0, a1, a2, a3, a4⟩ := cells5 (J8.out.bx _ (List.mem_cons_of_mem _ List.mem_cons_self))
             obtain ⟨w0, w1, w2, w3, w4⟩ := cells5 (J8.out.bx _ (List.mem_cons_of_mem _ (List.mem_cons_of_mem _ (List.mem_cons_of_mem _ (List.mem_cons_of_mem _ List.mem_cons_self)))))
             have C1t : Hid True := trivial)
          | (go_at_call 11; have zz9 := C1t; clear C1t zz9; refine (alike_dec _ _ _ _ _ n _ _ zs zs _ _ b _ _ ms ms _ (rowRd (J8.out.la.own (v := .slice (some ⟨g, 0, none⟩) n cc) (xs := zs) (List.mem_cons_of_mem _ List.mem_cons_self) HZ1.out) HM1.out.2.2.2) (HR1.out.below J8.out.bel) (ownB_all (J8.out.lam.own (v := .slice (some ⟨gm, 0, none⟩) b cm) (xs := ms) (List.mem_cons_of_mem _ List.mem_cons_self) HM1.out.2.2.1)) (HRM1.out.below J8.out.bel) (by omega)).mono ?_; rintro e sw9 ⟨he, bl⟩; have he2 : e = .returned (.bool true) := he.trans (by simp); subst he2
             have J9 := Q0.hup J8 bl
             clear he bl J8 a0 a1 a2 a3 a4 w0 w1 w2 w3 w4
             obtain ⟨a0, a1, a2, a3, a4⟩ := cells5 (J9.out.bx _ List.mem_cons_self)
             obtain ⟨w0, w1, w2, w3, w4⟩ := cells5 (J9.out.bx _ (List.mem_cons_of_mem _ (List.mem_cons_of_mem _ (List.mem_cons_of_mem _ List.mem_cons_self))))
             have C2t : Hid True := trivial)
          | (go_at_call 11; have zz9 := C2t; clear C2t zz9; refine (alike_dec _ _ _ _ _ n2 _ _ zs2 zs2 _ _ b2 _ _ ms2 ms2 _ (rowRd (J9.out.la.own (v := .slice (some ⟨h, 0, none⟩) n2 dc) (xs := zs2) List.mem_cons_self HZ2.out) HM2.out.2.2.2) (HR2.out.below J9.out.bel) (ownB_all (J9.out.lam.own (v := .slice (some ⟨hm, 0, none⟩) b2 dm) (xs := ms2) List.mem_cons_self HM2.out.2.2.1)) (HRM2.out.below J9.out.bel) (by omega)).mono ?_; rintro e sw10 ⟨he, bl⟩; have he2 : e = .returned (.bool true) := he.trans (by simp); subst he2
             have J10 := Q0.hup J9 bl
             clear he bl J9 a0 a1 a2 a3 a4 w0 w1 w2 w3 w4
             obtain ⟨a0, a1, a2, a3, a4⟩ := cells5 (J10.out.bx _ (List.mem_cons_of_mem _ List.mem_cons_self))
             obtain ⟨w0, w1, w2, w3, w4⟩ := cells5 (J10.out.bx _ (List.mem_cons_of_mem _ (List.mem_cons_of_mem _ (List.mem_cons_of_mem _ (List.mem_cons_of_mem _ List.mem_cons_self))))))
          | (go_at_call 24; refine (placed_any _ w.heap.size b p s g n cc gm cm bk off c mb mo c' zs ms HM1.out HZ1.out (J10.out.la.own (v := .slice (some ⟨g, 0, none⟩) n cc) (xs := zs) (List.mem_cons_of_mem _ List.mem_cons_self) HZ1.out) (J10.out.lam.own (v := .slice (some ⟨gm, 0, none⟩) b cm) (xs := ms) (List.mem_cons_of_mem _ List.mem_cons_self) HM1.out.2.2.1) (HR1.out.below J10.out.bel) (HRM1.out.below J10.out.bel) (lo_of HBK.out J10.out.bel (J10.out.la.own (v := .slice (some ⟨g, 0, none⟩) n cc) (xs := zs) (List.mem_cons_of_mem _ List.mem_cons_self) HZ1.out) (J10.out.lam.own (v := .slice (some ⟨gm, 0, none⟩) b cm) (xs := ms) (List.mem_cons_of_mem _ List.mem_cons_self) HM1.out.2.2.1)) hcc (fun X hX => HTB.out.below (J10.out.bel.trans hX))).mono ?_; rintro e sw11 ⟨rfl, bl⟩
             have HFIN : Hid (Below w.heap.size w sw11) := J10.out.bel.trans bl
             clear bl J10)
          )
        go_ret
        exact ⟨by first | rfl | simp, HFIN.out⟩
end Go.Proofs.YteefekhlbillfaaDoor
