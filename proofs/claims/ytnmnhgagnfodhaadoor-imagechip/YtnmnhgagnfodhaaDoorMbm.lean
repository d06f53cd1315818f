/-
  SEAT YtnmnhgagnfodhaaDoor: Za.
-/
import Derived.Test.YtnmnhgagnfodhaaDoorMbl
import Derived.Test.YtnmnhgagnfodhaaDoorMz
import Derived.Laws.OwnMore
import Derived.Maps.AppendAt
import Derived.Deep.AppendLies
import Derived.Deep.QuietTactic
namespace Go.Proofs.YtnmnhgagnfodhaaDoor
open Go.RowKit
set_option linter.unusedVariables false
theorem Tab.other {w w' : World} {q : Nat} (h : Tab w) (hg : w.grownBy w' (some q)) (hq : q ≠ 0) : Tab w' := fun i hi => by
 have h0 := h i hi
 have hlt : 0 < w.heap.size := block_lt_of_cell h0
 have hb := hg.block 0 hlt (fun e => hq (by have := Option.some.inj e; omega))
 rw [← h0]
 simp only [World.cell?, hb]
theorem val4_getL (t : List Int) : getL t 0 4 = val4 t := by
 simp [getL, val4]
 omega
set_option maxHeartbeats 2000000 in
set_option maxRecDepth 100000 in
theorem end_short (B q bk off n c : Nat) (bs t : List Int) (w : World) (hR : RdAt w B q t) (hr : Reads w (some ⟨bk, off, none⟩) n bs) (hn : n ≤ 200000000000000) (hnc : n ≤ c) (hc : c ≤ 9223372036854775807) (htn : t.length ≤ n) (h4 : t.length < 4) :
  Calls Tryd.prog 39 #[.pointer (some ⟨q, 0, none⟩), .slice (some ⟨bk, off, none⟩) n c] w fun e w' => e = .returned (.int .i64 10) ∧ w' = w := by
 obtain ⟨m, hm⟩ : ∃ m, t.length = m := ⟨_, rfl⟩
 have HR : Hid (RdAt w B q t) := hR
 obtain ⟨b0, o0, c0, h0, _⟩ := hR
 rw [hm] at h0
 have c0' : w.cell? ⟨q, 0, none⟩ = some (.slice (some ⟨b0, o0, none⟩) m c0) := by simp [World.cell?, h0]
 have HM : Hid (t.length = m) := hm
 rw [hm] at htn h4
 have e1 : (n : Int) - (m : Int) = ((n - m : Nat) : Int) := by omega
 have d1 : ((n - m : Nat) : Int) ≤ (c : Int) := by omega
 have d2 : n - m ≤ c := by omega
 clear h0 hm hr
 go_enter Tryd.func39, Tryd.ntmps39
 go_wp2_with (go_at_call 67; refine (num_short B q 4 t _ HR.out (by rw [HM.out]; omega) (by rw [HM.out]; omega) (by omega)).mono ?_; rintro e t1 ⟨rfl, hu1⟩; rw [hu1])
 go_ret
 exact ⟨rfl, rfl⟩
set_option maxHeartbeats 2000000 in
set_option maxRecDepth 100000 in
theorem end_long (B q bk off n c : Nat) (bs t : List Int) (w : World) (hR : RdAt w B q t) (hr : Reads w (some ⟨bk, off, none⟩) n bs) (hn : n ≤ 200000000000000) (hnc : n ≤ c) (hc : c ≤ 9223372036854775807) (htn : t.length ≤ n) (h4 : 4 ≤ t.length) (hbB : bk < B) (ht : Tab w) :
  Calls Tryd.prog 39 #[.pointer (some ⟨q, 0, none⟩), .slice (some ⟨bk, off, none⟩) n c] w fun e w' => e = .returned (.int .i64 (rdEnd bs t)) ∧ w.grownBy w' (some q) := by
 have hqlt := hR.lt
 have hby := hr.2.1
 have hbl := hr.1
 obtain ⟨m, hm⟩ : ∃ m, t.length = m := ⟨_, rfl⟩
 have HR : Hid (RdAt w B q t) := hR
 obtain ⟨b0, o0, c0, h0, _⟩ := hR
 rw [hm] at h0
 have c0' : w.cell? ⟨q, 0, none⟩ = some (.slice (some ⟨b0, o0, none⟩) m c0) := by simp [World.cell?, h0]
 have HM : Hid (t.length = m) := hm
 rw [hm] at htn h4
 have e1 : (n : Int) - (m : Int) = ((n - m : Nat) : Int) := by omega
 have d1 : ((n - m : Nat) : Int) ≤ (c : Int) := by omega
 have d2 : n - m ≤ c := by omega
 obtain ⟨V, hV⟩ : ∃ V, val4 t = V := ⟨_, rfl⟩
 obtain ⟨s, hs⟩ : ∃ s, sumL (nats (bs.take (n - m))) = s := ⟨_, rfl⟩
 have hs4 : s < 4294967296 := by rw [← hs]; exact sumL_lt (fun x hx => hby x (List.mem_of_mem_take hx))
 have HV : Hid (getL t 0 4 = V) := by unfold Hid; rw [val4_getL]; exact hV
 have HSU : Hid (sumL (nats (bs.take (n - m))) = s) := hs
 have HE : Hid (rdEnd bs t = if V ≠ (s : Int) then 192 else if 4 < m then 212 else 0) := by
  unfold Hid rdEnd
  rw [hm, if_neg (by omega), hV, hbl, hs]
 have HRD : Hid (Reads w (some ⟨bk, off, none⟩) n bs) := hr
 have HTB : Hid (Tab w) := ht
 clear h0 hm hr hV hs hby hbl ht
 by_cases hv : V = (s : Int)
 ·subst hv
  by_cases hm4 : 4 < m
  ·have HF : Hid (rdEnd bs t = 212) := by unfold Hid; rw [HE.out, if_neg (by simp), if_pos hm4]
   have d3 : (0 : Int) < ((m - 4 : Nat) : Int) := by omega
   clear HE
   go_enter Tryd.func39, Tryd.ntmps39
   go_wp2_with (first
    | (go_at_call 67; refine (num_ok B q 4 t _ HR.out (by rw [HM.out]; omega) (by rw [HM.out]; omega) (by omega) (by omega)).mono ?_; rintro e t1 ⟨rfl, rd1, g1⟩; rw [HV.out]
       have HG1 : Hid (w.grownBy t1 (some q)) := g1
       have HR1 : Hid (Reads t1 (some ⟨bk, off, none⟩) (n - m) (bs.take (n - m))) := (HRD.out.front (n - m) (by omega)).low (fun x hx => by cases hx; exact hbB) ((Below.refl B w).grown g1 (by omega) (fun k hk => by cases hk; exact hqlt.1))
       have HT1 : Hid (Tab t1) := HTB.out.other g1 (by omega)
       obtain ⟨b1, o1, k1, x1, _⟩ := rd1
       rw [List.length_drop, HM.out] at x1
       have x1' : t1.cell? ⟨q, 0, none⟩ = some (.slice (some ⟨b1, o1, none⟩) (m - 4) k1) := by simp [World.cell?, x1]
       clear g1 x1)
    | (go_at_call 36; refine (sum_any _ _ _ (bs.take (n - m)) _ (by omega) HR1.out HT1.out).mono ?_; rintro e t2 ⟨rfl, hu2⟩; rw [← hu2, HSU.out]; clear hu2))
   go_ret
   exact ⟨by (rw [HF.out]; first | rfl | skip), HG1.out⟩
  ·have HF : Hid (rdEnd bs t = 0) := by unfold Hid; rw [HE.out, if_neg (by simp), if_neg hm4]
   obtain rfl : m = 4 := by omega
   clear HE
   go_enter Tryd.func39, Tryd.ntmps39
   go_wp2_with (first
    | (go_at_call 67; refine (num_ok B q 4 t _ HR.out (by rw [HM.out]; omega) (by rw [HM.out]; omega) (by omega) (by omega)).mono ?_; rintro e t1 ⟨rfl, rd1, g1⟩; rw [HV.out]
       have HG1 : Hid (w.grownBy t1 (some q)) := g1
       have HR1 : Hid (Reads t1 (some ⟨bk, off, none⟩) (n - 4) (bs.take (n - 4))) := (HRD.out.front (n - 4) (by omega)).low (fun x hx => by cases hx; exact hbB) ((Below.refl B w).grown g1 (by omega) (fun k hk => by cases hk; exact hqlt.1))
       have HT1 : Hid (Tab t1) := HTB.out.other g1 (by omega)
       obtain ⟨b1, o1, k1, x1, _⟩ := rd1
       rw [List.length_drop, HM.out] at x1
       have x1' : t1.cell? ⟨q, 0, none⟩ = some (.slice (some ⟨b1, o1, none⟩) 0 k1) := by simp [World.cell?, x1]
       clear g1 x1)
    | (go_at_call 36; refine (sum_any _ _ _ (bs.take (n - 4)) _ (by omega) HR1.out HT1.out).mono ?_; rintro e t2 ⟨rfl, hu2⟩; rw [← hu2, HSU.out]; clear hu2))
   go_ret
   exact ⟨by (rw [HF.out]; first | rfl | skip), HG1.out⟩
 ·have HF : Hid (rdEnd bs t = 192) := by unfold Hid; rw [HE.out, if_pos hv]
  have d3 : (V == (s : Int)) = false := by rw [beq_eq_false_iff_ne]; exact hv
  clear HE
  go_enter Tryd.func39, Tryd.ntmps39
  go_wp2_with (first
   | (go_at_call 67; refine (num_ok B q 4 t _ HR.out (by rw [HM.out]; omega) (by rw [HM.out]; omega) (by omega) (by omega)).mono ?_; rintro e t1 ⟨rfl, rd1, g1⟩; rw [HV.out]
      have HG1 : Hid (w.grownBy t1 (some q)) := g1
      have HR1 : Hid (Reads t1 (some ⟨bk, off, none⟩) (n - m) (bs.take (n - m))) := (HRD.out.front (n - m) (by omega)).low (fun x hx => by cases hx; exact hbB) ((Below.refl B w).grown g1 (by omega) (fun k hk => by cases hk; exact hqlt.1))
      have HT1 : Hid (Tab t1) := HTB.out.other g1 (by omega)
      clear g1 rd1)
   | (go_at_call 36; refine (sum_any _ _ _ (bs.take (n - m)) _ (by omega) HR1.out HT1.out).mono ?_; rintro e t2 ⟨rfl, hu2⟩; rw [← hu2, HSU.out]; clear hu2))
  go_ret
  exact ⟨by (rw [HF.out]; first | rfl | skip), HG1.out⟩
theorem end_any (B q bk off n c : Nat) (bs t : List Int) (w : World) (hR : RdAt w B q t) (hr : Reads w (some ⟨bk, off, none⟩) n bs) (hn : n ≤ 200000000000000) (hnc : n ≤ c) (hc : c ≤ 9223372036854775807) (htn : t.length ≤ n) (hbB : bk < B) (ht : Tab w) :
  Calls Tryd.prog 39 #[.pointer (some ⟨q, 0, none⟩), .slice (some ⟨bk, off, none⟩) n c] w fun e w' => e = .returned (.int .i64 (rdEnd bs t)) ∧ w.grownBy w' (some q) := by
 by_cases h4 : t.length < 4
 ·refine (end_short B q bk off n c bs t w hR hr hn hnc hc htn h4).mono ?_
  rintro e w' ⟨rfl, rfl⟩
  exact ⟨by unfold rdEnd; rw [if_pos h4], grown_of (Below.refl _ _) _⟩
 ·exact end_long B q bk off n c bs t w hR hr hn hnc hc htn (by omega) hbB ht
def En.slc (x : En) : Value := .slice x.a x.l x.c
def fl (es : List En) : List En := es.flatMap fun x => List.replicate x.p.n x
theorem fl_snoc (es : List En) (x : En) : fl (es ++ [x]) = fl es ++ List.replicate x.p.n x := by simp [fl]
theorem fl_pages (es : List En) : (fl es).map (fun x => x.p.g) = pgs (es.map En.p) := by
 induction es with
 | nil => rfl
 | cons x r ih =>
  simp only [fl, pgs, List.flatMap_cons, List.map_append, List.map_cons, List.map_replicate] at ih ⊢
  rw [ih]
theorem fl_len (es : List En) : (fl es).length = cnt (es.map En.p) := by
 rw [← pgs_length, ← fl_pages, List.length_map]
theorem info32 : (Tryd.prog.info? 32).map (fun i => (i.zero, i.size, i.bytes)) = some (some (.slice none 0 0), 1, 24) := by kernel_rfl
theorem flatE_cell (es : List En) (i j : Nat) (hi : i < es.length) (hj : j < 3) : (flatE es)[i * 3 + j]? = es[i].cells[j]? := by
 induction es generalizing i with
 | nil => exact absurd hi (Nat.not_lt_zero _)
 | cons b r ih =>
  rw [show flatE (b :: r) = b.cells ++ flatE r from rfl]
  have hl : b.cells.length = 3 := rfl
  match i with
  | 0 =>
   rw [List.getElem?_append_left (by omega)]
   simp
  | i + 1 =>
   rw [List.getElem?_append_right (by omega), hl, show (i + 1) * 3 + j - 3 = i * 3 + j by omega, ih i (by simpa using hi)]
   simp
theorem box_kept {w w' : World} {B n pb : Nat} {v : Value} {xs : List Value} {cs : Array Value} {f : Nat × Nat} (ho : w.ownsRow B 32 1 v n xs) (hp : w.heap[pb]? = some (.cells cs 135 f)) (hg : w.grownBy w' v.ownBlock) : w'.heap[pb]? = some (.cells cs 135 f) := by
 refine (hg.block pb (Array.getElem?_eq_some_iff.1 hp).1 (fun e => ?_)).trans hp
 rcases ho.2 with ⟨hv, _⟩ | ⟨g, cap, cur, hv, _, hc, _⟩
 ·rw [hv] at e; simp [Value.ownBlock] at e
 ·rw [hv] at e
  simp [Value.ownBlock] at e
  subst e
  rw [hp] at hc
  injection hc with hc
  injection hc with _ hc
  exact absurd hc (by decide)
theorem slc_news (u : World) (x : En) : ∀ j v, [x.slc][j]? = some v → (u.alloc (.cells #[.slice x.a x.l x.c] 32)).cell? ((⟨u.heap.size, 0, none⟩ : Addr).add j) = some v := by
 intro j v h
 match j, h with
 | 0, h => simp [En.slc] at h; subst h; simp [Addr.add]
theorem ownsRow_succ' {W : World} {base : Nat} {e : TypeId} {size : Nat} {v : Value} {k : Nat} {xs : List Value} (h : W.ownsRow base e size v k xs) (hk : 0 < k) : ∃ g cap, v = .slice (some ⟨g, 0, none⟩) k cap := by
 rcases h.2 with ⟨_, h⟩ | ⟨g, cap, cur, hv, _⟩
 ·omega
 ·exact ⟨g, cap, hv⟩
def dflt : En := ⟨Pc.z, none, 0, 0⟩
theorem catF_eq (xs : List En) : catF (fun i => (xs.getD i dflt).p.g) xs.length = (xs.map fun x => x.p.g).flatten := by
 have key : ∀ k, k ≤ xs.length → catF (fun i => (xs.getD i dflt).p.g) k = ((xs.take k).map fun x => x.p.g).flatten := by
  intro k
  induction k with
  | zero => intro _; rfl
  | succ k ih =>
   intro h
   rw [catF, ih (by omega), List.take_succ_eq_append_getElem (by omega), List.map_append, List.flatten_append]
   simp only [List.map_cons, List.map_nil, List.flatten_cons, List.flatten_nil, List.append_nil]
   congr 1
   simp [List.getD, List.getElem?_eq_getElem (show k < xs.length by omega)]
 have := key xs.length (Nat.le_refl _)
 rwa [List.take_length] at this
theorem sumF_bound (ls : Nat → Nat) (m : Nat) : ∀ k, (∀ i, i < k → ls i ≤ m) → sumF ls k ≤ k * m
 | 0, _ => by simp [sumF]
 | k + 1, h => by
  have h1 := sumF_bound ls m k (fun i hi => h i (by omega))
  have h2 := h k (by omega)
  rw [sumF, Nat.succ_mul]
  omega
set_option maxHeartbeats 4000000 in
set_option maxRecDepth 100000 in
theorem laid_any (B : Nat) (v : Value) (es : List En) (w : World) (hown : w.ownsRow B 135 3 v es.length (flatE es)) (hoks : ∀ x ∈ es, x.Ok w B) (hcnt : (fl es).length ≤ 65536) (hle : es.length ≤ 65536) (hl : ∀ x ∈ es, x.l ≤ 2200) (hpos : 0 < ((pgs (es.map En.p)).flatten).length) :
  Calls Tryd.prog 40 #[v] w fun e w' => ∃ g cc, e = .returned (.slice (some ⟨g, 0, none⟩) ((pgs (es.map En.p)).flatten).length cc) ∧ Own w' w.heap.size g ((pgs (es.map En.p)).flatten).length cc ((pgs (es.map En.p)).flatten) ∧ Below w.heap.size w w' := by
 obtain ⟨i0, hi0, hz0, hz1, hz2⟩ := info_parts info32
 have HI : Hid (Tryd.prog.info? 32 = some i0 ∧ i0.zero = some (.slice none 0 0) ∧ i0.size = 1 ∧ i0.bytes = 24) := ⟨hi0, hz0, hz1, hz2⟩
 have hn0 : 0 < es.length := by
  rcases Nat.eq_zero_or_pos es.length with h | h
  ·rw [List.eq_nil_of_length_eq_zero h] at hpos; simp [pgs] at hpos
  ·exact h
 obtain ⟨n, hn⟩ : ∃ n, es.length = n := ⟨_, rfl⟩
 obtain ⟨g, cap, rfl, hgb⟩ : ∃ g cap, v = .slice (some ⟨g, 0, none⟩) n cap ∧ g < w.heap.size := by
  rcases hown.2 with ⟨_, h⟩ | ⟨g, cap, cur, hv, _, hc, _⟩
  ·omega
  ·rw [hn] at hv
   exact ⟨g, cap, hv, (Array.getElem?_eq_some_iff.1 hc).1⟩
 have HCE : Hid (∀ i (h : i < es.length), w.cell? ⟨g, i * 3, none⟩ = some (.int .i64 (es[i].p.k : Int)) ∧ w.cell? ⟨g, i * 3 + 1, none⟩ = some (.int .i64 (es[i].p.n : Int)) ∧ w.cell? ⟨g, i * 3 + 2, none⟩ = some (es[i].slc)) := fun i h => by
  have key : ∀ j, j < 3 → w.cell? ⟨g, i * 3 + j, none⟩ = es[i].cells[j]? := fun j hj => by
   rw [← flatE_cell es i j h hj]
   have h9 := hown
   rw [← hn] at h9
   exact World.ownsRow.cellAt h9 (i * 3 + j) (by omega)
  exact ⟨key 0 (by omega), key 1 (by omega), key 2 (by omega)⟩
 have HOK : Hid (∀ x ∈ es, x.Ok w B) := hoks
 have HN : Hid (es.length = n) := hn
 have HCN : Hid ((fl es).length ≤ 65536) := hcnt
 have HLL : Hid (∀ x ∈ es, x.l ≤ 2200) := hl
 have HPO : Hid (0 < ((pgs (es.map En.p)).flatten).length) := hpos
 rw [hn] at hle hn0
 clear hown hoks hn hcnt hl hi0 hz0 hz1 hz2 hpos
 go_enter Tryd.func40, Tryd.ntmps40
 go_wp2
 go_loopg [3, 8] n (fun gh s3 s8 wr => ∃ i : Nat, i ≤ n ∧ n - i ≤ gh ∧ s8 = .int .i64 (i : Int) ∧ Hid (wr.ownsRow w.heap.size 32 1 s3 (fl (es.take i)).length ((fl (es.take i)).map En.slc)) ∧ Hid (Below w.heap.size w wr))
 case atStart => exact ⟨0, Nat.zero_le _, by omega, rfl, World.ownsRow_nil _ _ _ _, Below.refl _ _⟩
 case round =>
  obtain ⟨i, hi, hig, rfl, HO, HB⟩ := hrel
  by_cases hlt : i < n
  ·have hlt' : i < es.length := by have := HN.out; omega
   obtain ⟨k0, k1, k2⟩ := HCE.out i hlt'
   obtain ⟨x, hx⟩ : ∃ x, es[i] = x := ⟨_, rfl⟩
   have hmem : x ∈ es := by rw [← hx]; exact List.getElem_mem _
   rw [hx] at k0 k1 k2
   unfold En.slc at k2
   have HT : Hid (es.take (i + 1) = es.take i ++ [x]) := by unfold Hid; rw [List.take_succ_eq_append_getElem hlt', hx]
   have HFL : Hid ((fl (es.take i)).length + x.p.n ≤ 65536) := by
    have h1 : (fl (es.take (i + 1))).length ≤ (fl es).length := by
     have h2 : fl es = fl (es.take (i + 1)) ++ fl (es.drop (i + 1)) := by
      unfold fl
      rw [← List.flatMap_append, List.take_append_drop]
     rw [h2, List.length_append]
     omega
    rw [HT.out, fl_snoc, List.length_append, List.length_replicate] at h1
    have := HCN.out
    unfold Hid
    omega
   obtain ⟨F, hF⟩ : ∃ F, fl (es.take i) = F := ⟨_, rfl⟩
   have HFE : Hid (fl (es.take (i + 1)) = F ++ List.replicate x.p.n x) := by unfold Hid; rw [HT.out, fl_snoc, hF]
   have HO1 : Hid (wr.ownsRow w.heap.size 32 1 u3 F.length (F.map En.slc)) := by have := HO.out; rw [hF] at this; exact this
   have HFB : Hid (F.length + x.p.n ≤ 65536) := by have := HFL.out; rw [hF] at this; exact this
   obtain ⟨⟨xk, xn, xg⟩, xa, xl, xc⟩ := x
   simp only at k0 k1 k2
   have hxn : xn ≤ 65536 := by have := HFB.out; simp only at this; omega
   have m0 := (HB.out.cell (p := ⟨g, i * 3, none⟩) hgb).trans k0
   have m1 := (HB.out.cell (p := ⟨g, i * 3 + 1, none⟩) hgb).trans k1
   have m2 := (HB.out.cell (p := ⟨g, i * 3 + 2, none⟩) hgb).trans k2
   have d1 : (i : Int) < (n : Int) := by omega
   obtain ⟨pb, hpb⟩ : ∃ pb, wr.heap.size = pb := ⟨_, rfl⟩
   have HBX : Hid ((wr.alloc (.cells #[.int .i64 (xk : Int), .int .i64 (xn : Int), .slice xa xl xc] 135)).heap[pb]? = some (.cells #[.int .i64 (xk : Int), .int .i64 (xn : Int), .slice xa xl xc] 135 (0, 0))) := by unfold Hid; rw [← hpb]; exact heap_alloc_new _ _
   have HO2 : Hid ((wr.alloc (.cells #[.int .i64 (xk : Int), .int .i64 (xn : Int), .slice xa xl xc] 135)).ownsRow w.heap.size 32 1 u3 F.length (F.map En.slc)) := HO1.out.alloc _
   have HB2 : Hid (Below w.heap.size w (wr.alloc (.cells #[.int .i64 (xk : Int), .int .i64 (xn : Int), .slice xa xl xc] 135))) := HB.out.alloc HB.out.size _
   clear k0 k1 k2 hx hF HO HO1 HB HFL HT HCE
   go_wp2
   go_loopg [3, 14] xn (fun gh2 s3 s14 wq => ∃ j : Nat, j ≤ xn ∧ xn - j ≤ gh2 ∧ s14 = .int .i64 (j : Int) ∧ Hid (wq.ownsRow w.heap.size 32 1 s3 (F.length + j) ((F ++ List.replicate j (⟨⟨xk, xn, xg⟩, xa, xl, xc⟩ : En)).map En.slc)) ∧ Hid (Below w.heap.size w wq) ∧ Hid (wq.heap[pb]? = some (.cells #[.int .i64 (xk : Int), .int .i64 (xn : Int), .slice xa xl xc] 135 (0, 0))))
   case atStart => exact ⟨0, Nat.zero_le _, by omega, rfl, by simpa using HO2, HB2, HBX⟩
   case round =>
    obtain ⟨j, hj, hjg, rfl, HO3, HB3, HBX3⟩ := hrel
    clear HO2 HB2 HBX
    obtain ⟨b0, b1, b2, b3, b4, b5⟩ := blk3_cells HBX3.out
    by_cases hjl : j < xn
    ·have d2 : (j : Int) < (xn : Int) := by omega
     have HFB2 : Hid (F.length + (j + 1) ≤ 65536) := by have h9 := HFB.out; unfold Hid; omega
     go_wp2_with (first
      | (at_builtin; refine wpList_append_own (wr.alloc (.cells #[.slice xa xl xc] 32)) rfl (.tmp 16) (.tmp 19) 140 rfl w.heap.size 32 i0 _ 1 24 Tryd.underlying140 HI.out.1 HI.out.2.1 HI.out.2.2.1 HI.out.2.2.2 rfl (by decide) u3 (F.length + j) _ rfl (HO3.out.alloc _) ⟨wr.heap.size, 0, none⟩ 1 1 [En.slc (⟨⟨xk, xn, xg⟩, xa, xl, xc⟩ : En)] rfl rfl (slc_news wr (⟨⟨xk, xn, xg⟩, xa, xl, xc⟩ : En)) (by intro u hu; rw [List.mem_singleton.1 hu]; rfl) (by have := HFB2.out; simp only [maxLen]; omega) (by have := HFB2.out; omega) (by have := HB3.out.size; simp; omega) ?_; intro v4 w4 own4 grow4 _h4
         have HO4 : Hid (w4.ownsRow w.heap.size 32 1 v4 (F.length + (j + 1)) ((F ++ List.replicate (j + 1) (⟨⟨xk, xn, xg⟩, xa, xl, xc⟩ : En)).map En.slc)) := by
          unfold Hid
          rw [List.replicate_succ', ← List.append_assoc, List.map_append]
          exact own4
         have HB4 : Hid (Below w.heap.size w w4) := (HB3.out.alloc HB3.out.size _).grown grow4 (by have := HB3.out.size; simp; omega) (fun q hq => (HO3.out.lt q hq).1)
         have HBX4 : Hid (w4.heap[pb]? = some (.cells #[.int .i64 (xk : Int), .int .i64 (xn : Int), .slice xa xl xc] 135 (0, 0))) := box_kept (HO3.out.alloc _) ((Below.heap_alloc _ _ _ (Array.getElem?_eq_some_iff.1 HBX3.out).1).trans HBX3.out) grow4
         clear own4 grow4 b0 b1 b2 b3 b4 b5))
     go_roundg (xn - (j + 1))
     case measure => omega
     case rel => exact ⟨j + 1, by omega, Nat.le_refl _, by go_num, HO4, HB4, HBX4⟩
    ·obtain rfl : j = xn := by omega
     go_wp2
     go_roundg (n - (i + 1))
     case measure => omega
     case rel => exact ⟨i + 1, by omega, Nat.le_refl _, by go_num, by unfold Hid; rw [HFE.out, List.length_append, List.length_replicate]; exact HO3.out, HB3⟩
  ·obtain rfl : i = n := by omega
   have hall : es.take i = es := by rw [← HN.out, List.take_length]
   have ho := HO.out
   rw [hall] at ho
   obtain ⟨xs, hxs⟩ : ∃ xs, fl es = xs := ⟨_, rfl⟩
   have hmem : ∀ x ∈ xs, x ∈ es := fun x hx => by
    rw [← hxs] at hx
    obtain ⟨y, hy, hy2⟩ := List.mem_flatMap.1 hx
    rw [List.eq_of_mem_replicate hy2]; exact hy
   have hpg : (xs.map fun x => x.p.g).flatten = (pgs (es.map En.p)).flatten := by rw [← hxs, fl_pages]
   have hcn := HCN.out
   have hpo := HPO.out
   rw [hxs] at ho hcn
   have hm0 : 0 < xs.length := by
    rcases Nat.eq_zero_or_pos xs.length with h | h
    ·rw [List.eq_nil_of_length_eq_zero h] at hpg; rw [← hpg] at hpo; simp at hpo
    ·exact h
   obtain ⟨g3, c3, rfl⟩ := ownsRow_succ' ho hm0
   have hP : Parts wr (some ⟨g3, 0, none⟩) xs.length (fun i => (xs.getD i dflt).a) (fun i => (xs.getD i dflt).l) (fun i => (xs.getD i dflt).c) (fun i => (xs.getD i dflt).p.g) := by
    refine ⟨fun i hi => ⟨g3, rfl, (ho.lt g3 rfl).2, ?_⟩, fun i hi => ?_⟩
    ·rw [World.ownsRow.cellAt ho i (by omega), List.getElem?_map, List.getElem?_eq_getElem hi]
     simp [En.slc, List.getD, List.getElem?_eq_getElem hi]
    ·have hx : xs.getD i dflt ∈ es := hmem _ (by simp [List.getD, List.getElem?_eq_getElem hi])
     exact ((HOK.out _ hx).1.reads).low (fun y hy => by
      rcases (HOK.out _ hx).1 with ⟨h1, _, _⟩ | ⟨b, h1, _, h3, _⟩
      ·rw [h1] at hy; cases hy
      ·rw [h1] at hy; cases hy
       obtain ⟨cs, f, h3⟩ := h3
       exact (Array.getElem?_eq_some_iff.1 h3).1) HB.out
   have hsum : sumF (fun i => (xs.getD i dflt).l) xs.length ≤ 200000000 := by
    have h1 := sumF_bound (fun i => (xs.getD i dflt).l) 2200 xs.length (fun i hi => HLL.out _ (hmem _ (by simp [List.getD, List.getElem?_eq_getElem hi])))
    omega
   have hlen := catF_length (fun i => (xs.getD i dflt).p.g) (fun i => (xs.getD i dflt).l) xs.length (fun i hi => (hP.reads i hi).1)
   rw [catF_eq, hpg] at hlen
   have HPP : Hid _ := hP
   have HB9 : Hid _ := HB.out
   have HLN : Hid _ := hlen
   obtain ⟨m, hm⟩ : ∃ m, xs.length = m := ⟨_, rfl⟩
   have HMM : Hid (xs.length = m) := hm
   rw [hm] at HPP hsum hcn ho
   clear hP ho hm0 hlen hpo
   go_wp2_with (go_at_call 42; refine (join_parts _ m c3 _ _ _ _ _ (by omega) hsum HPP.out).mono ?_; rintro e w5 ⟨v5, rfl, own5, b5⟩)
   go_ret
   have h8 := HLN.out
   rw [HMM.out] at h8
   have h7 := catF_eq xs
   rw [HMM.out] at h7
   rw [h7, hpg, ← h8] at own5
   obtain ⟨g5, c5, rfl, _⟩ := own_shape own5 HPO.out
   exact ⟨g5, c5, rfl, row_base own5 HB9.out.size, below_trans HB9.out b5⟩
def FrRes (w w' : World) (B q : Nat) (e : Ending) : Except Int (Nat × Nat × Nat × List Bool × List Int) → Prop
 | .error x => e = .returned (.tuple #[.agg #[.int .i64 0, .int .i64 0, .int .i64 0, .slice none 0 0, .slice none 0 0], .int .i64 x]) ∧ x ≠ 0
 | .ok (b, p, s, mk, r) => Fits (b : Int) (p : Int) (s : Int) = true ∧ ∃ g, e = .returned (.tuple #[.agg #[.int .i64 (b : Int), .int .i64 (p : Int), .int .i64 (s : Int), .slice none 0 0, .slice (some ⟨g, 0, none⟩) b b], .int .i64 0]) ∧ OwnB w' w.heap.size g b b mk ∧ RdAt w' B q r ∧ r.length ≤ 200000000000000
theorem byt_getD {bs : List Int} (h : Byt bs) (i : Nat) : 0 ≤ bs.getD i 0 ∧ bs.getD i 0 ≤ 255 := by
 rw [List.getD_eq_getElem?_getD]
 rcases Nat.lt_or_ge i bs.length with hi | hi
 ·rw [List.getElem?_eq_getElem hi]; exact h _ (List.getElem_mem hi)
 ·rw [List.getElem?_eq_none hi]; simp
theorem front_any (B q : Nat) (rest : List Int) (w : World) (hR : RdAt w B q rest) (hl : rest.length ≤ 200000000000000) :
  Calls Tryd.prog 37 #[.pointer (some ⟨q, 0, none⟩)] w fun e w' => FrRes w w' B q e (rdHead rest) ∧ w.grownBy w' (some q) := by
 have hby := hR.byt
 by_cases h1 : rest.take 4 = [83, 72, 65, 76]
 ·by_cases h2 : rest.length < 5
  ·refine (front_s5 B q rest w hR hl h1 h2).mono fun e w' h => ⟨?_, h.2⟩
   rw [rdHead, if_neg (by simp [h1]), if_pos h2]
   exact ⟨h.1, by decide⟩
  ·by_cases h3 : rest.getD 4 0 = 1
   ·by_cases h4 : rest.length < 10
    ·refine (front_s10 B q rest w hR hl h1 (by omega) h3 h4).mono fun e w' h => ⟨?_, h.2⟩
     rw [rdHead, if_neg (by simp [h1]), if_neg h2, if_neg (by simp only [ne_eq, h3]; simp), if_pos h4]
     exact ⟨h.1, by decide⟩
    ·have g5 := byt_getD hby 5
     have g6 := byt_getD hby 6
     have g7 := byt_getD hby 7
     have g8 := byt_getD hby 8
     have g9 := byt_getD hby 9
     obtain ⟨b, hb⟩ := Int.eq_ofNat_of_zero_le (show 0 ≤ rest.getD 5 0 + 256 * rest.getD 6 0 by omega)
     obtain ⟨p, hp⟩ := Int.eq_ofNat_of_zero_le (show 0 ≤ rest.getD 7 0 + 256 * rest.getD 8 0 by omega)
     obtain ⟨s, hs⟩ := Int.eq_ofNat_of_zero_le g9.1
     have e0 : rdHead rest = (if Fits (b : Int) (p : Int) (s : Int) = false then .error 40
       else if rest.length < 10 + (b + 7) / 8 then .error 10
       else if bitsOf (unbits b ((rest.drop 10).take ((b + 7) / 8))) ≠ (rest.drop 10).take ((b + 7) / 8) then .error 47
       else .ok (b, p, s, unbits b ((rest.drop 10).take ((b + 7) / 8)), rest.drop (10 + (b + 7) / 8))) := by
      rw [rdHead, if_neg (by simp [h1]), if_neg h2, if_neg (by simp only [ne_eq, h3]; simp), if_neg h4, hb, hp, hs]
      rfl
     rw [e0]
     cases hf : Fits (b : Int) (p : Int) (s : Int) with
     | false =>
      refine (front_shape B q rest w hR hl h1 (by omega) h3 b p s hb hp hs hf).mono fun e w' h => ⟨?_, h.2⟩
      rw [if_pos rfl]
      exact ⟨h.1, by decide⟩
     | true =>
      rw [if_neg (by simp)]
      by_cases h5 : rest.length < 10 + (b + 7) / 8
      ·refine (front_sm B q rest w hR hl h1 (by omega) h3 b p s hb hp hs hf h5).mono fun e w' h => ⟨?_, h.2⟩
       rw [if_pos h5]
       exact ⟨h.1, by decide⟩
      ·rw [if_neg h5]
       by_cases h6 : bitsOf (unbits b ((rest.drop 10).take ((b + 7) / 8))) = (rest.drop 10).take ((b + 7) / 8)
       ·refine (front_ok B q rest w hR hl h1 (by omega) h3 b p s hb hp hs hf (by omega) h6).mono fun e w' h => ?_
        obtain ⟨g, he, ho, hr, hg⟩ := h
        refine ⟨?_, hg⟩
        rw [if_neg (by simp [h6])]
        exact ⟨hf, g, he, ho, hr, by rw [List.length_drop]; omega⟩
       ·refine (front_mk B q rest w hR hl h1 (by omega) h3 b p s hb hp hs hf (by omega) h6).mono fun e w' h => ⟨?_, h.2⟩
        rw [if_pos h6]
        exact ⟨h.1, by decide⟩
   ·refine (front_ver B q rest w hR hl h1 (by omega) h3).mono fun e w' h => ⟨?_, h.2⟩
    rw [rdHead, if_neg (by simp [h1]), if_neg h2, if_pos h3]
    exact ⟨h.1, by decide⟩
 ·refine (front_magic B q rest w hR hl h1).mono fun e w' h => ⟨?_, h.2⟩
  rw [rdHead, if_pos h1]
  exact ⟨h.1, by decide⟩
theorem chain_n {L : Nat} : ∀ {ps : List Pc} {a : Pc}, chain L a ps → ∀ p ∈ ps, 1 ≤ p.n
 | [], _, _ => fun p hp => by cases hp
 | x :: r, a, h => fun p hp => by
  rcases List.mem_cons.1 hp with rfl | hp
  ·exact okP_n h.1
  ·exact chain_n h.2 p hp
theorem cnt_le : ∀ (ps : List Pc), (∀ p ∈ ps, 1 ≤ p.n) → ps.length ≤ cnt ps
 | [], _ => by simp [cnt]
 | x :: r, h => by
  have h1 := h x (by simp)
  have h2 := cnt_le r (fun p hp => h p (by simp [hp]))
  simp only [cnt, List.map_cons, List.sum_cons, List.length_cons] at h2 ⊢
  omega
theorem flat_len (L : Nat) : ∀ (P : List (List Int)), (∀ g ∈ P, g.length = L) → P.flatten.length = P.length * L
 | [], _ => by simp
 | g :: P, h => by
  rw [List.flatten_cons, List.length_append, flat_len L P (fun x hx => h x (by simp [hx])), h g (by simp), List.length_cons, Nat.succ_mul]
  omega
theorem ps_facts {C S N : Nat} {bs t : List Int} {ps : List Pc} (hb : Byt bs) (h : rdPs C S N N Pc.z bs = .ok (ps, t)) :
  (∀ p ∈ ps, p.g.length = C + S) ∧ ps.length ≤ N ∧ cnt ps = N ∧ (pgs ps).flatten.length = N * (C + S) ∧ t.length ≤ bs.length := by
 obtain ⟨p1, p2, p3⟩ := rdPs_sound hb h
 have hlen := chain_len p2 (Or.inl ⟨rfl, rfl⟩)
 have hn := chain_n p2
 refine ⟨fun p hp => hlen p.g ?_, by have := cnt_le ps hn; omega, p3, ?_, by rw [p1, List.length_append]; omega⟩
 ·unfold pgs
  rw [List.mem_flatMap]
  exact ⟨p, hp, by rw [List.mem_replicate]; exact ⟨by have := hn p hp; omega, rfl⟩⟩
 ·rw [flat_len _ _ hlen, pgs_length, p3]
def RdRes (w w' : World) (e : Ending) : Except Int Img → Prop
 | .error x => e = .returned (.tuple #[.agg #[.int .i64 0, .int .i64 0, .int .i64 0, .slice none 0 0, .slice none 0 0], .int .i64 x]) ∧ x ≠ 0
 | .ok m => ∃ g cc gm, e = .returned (.tuple #[.agg #[.int .i64 (m.b : Int), .int .i64 (m.p : Int), .int .i64 (m.s : Int), .slice (some ⟨g, 0, none⟩) m.cs.length cc, .slice (some ⟨gm, 0, none⟩) m.b m.b], .int .i64 0]) ∧ Own w' w.heap.size g m.cs.length cc m.cs ∧ OwnB w' w.heap.size gm m.b m.b m.ms
theorem below_grown {w u v : World} {i : Nat} (h : Below w.heap.size w u) (h' : u.grownBy v (some i)) (hi : w.heap.size ≤ i) : Below w.heap.size w v := h.grown h' h.size (fun k hk => by cases hk; exact hi)
set_option maxHeartbeats 2000000 in
set_option maxRecDepth 100000 in
theorem read_front (bk off c : Nat) (bs : List Int) (w : World) (hr : Reads w (some ⟨bk, off, none⟩) bs.length bs) (hl : bs.length ≤ 200000000000000) (hnc : bs.length ≤ c) (hc : c ≤ 9223372036854775807) (hbk : bk < w.heap.size) (ht : Tab w) (x : Int) (hx : rdHead bs = .error x) :
  Calls Tryd.prog 12 #[.slice (some ⟨bk, off, none⟩) bs.length c] w fun e w' => x ≠ 0 ∧ e = .returned (.tuple #[.agg #[.int .i64 0, .int .i64 0, .int .i64 0, .slice none 0 0, .slice none 0 0], .int .i64 x]) ∧ Below w.heap.size w w' := by
 have hby := hr.2.1
 have HRD : Hid (Reads w (some ⟨bk, off, none⟩) bs.length bs) := hr
 have hR1 : RdAt ((w.alloc (.cells #[.int .i64 0, .int .i64 0, .int .i64 0, .slice none 0 0, .slice none 0 0] 35)).alloc (.cells #[.slice (some ⟨bk, off, none⟩) bs.length c] 97)) w.heap.size (w.heap.size + 1) bs := by
  refine ⟨bk, off, c, ?_, (hr.below (below_alloc w _)).below (below_alloc _ _), hnc, hc, hbk, by omega⟩
  have h9 := heap_alloc_new (w.alloc (.cells #[.int .i64 0, .int .i64 0, .int .i64 0, .slice none 0 0, .slice none 0 0] 35)) (.cells #[.slice (some ⟨bk, off, none⟩) bs.length c] 97); rw [World.size_alloc] at h9; exact h9
 have hrb : ((w.alloc (.cells #[.int .i64 0, .int .i64 0, .int .i64 0, .slice none 0 0, .slice none 0 0] 35)).alloc (.cells #[.slice (some ⟨bk, off, none⟩) bs.length c] 97)).heap[w.heap.size]? = some (.cells #[.int .i64 0, .int .i64 0, .int .i64 0, .slice none 0 0, .slice none 0 0] 35 (0, 0)) := by
  rw [Below.heap_alloc _ _ _ (by simp)]; exact heap_alloc_new _ _
 have hb1 : Below w.heap.size w ((w.alloc (.cells #[.int .i64 0, .int .i64 0, .int .i64 0, .slice none 0 0, .slice none 0 0] 35)).alloc (.cells #[.slice (some ⟨bk, off, none⟩) bs.length c] 97)) := below_trans (below_alloc w _) (below_alloc _ _)
 have HR1 : Hid (RdAt ((w.alloc (.cells #[.int .i64 0, .int .i64 0, .int .i64 0, .slice none 0 0, .slice none 0 0] 35)).alloc (.cells #[.slice (some ⟨bk, off, none⟩) bs.length c] 97)) w.heap.size (w.heap.size + 1) bs) := hR1
 have HRB : Hid (((w.alloc (.cells #[.int .i64 0, .int .i64 0, .int .i64 0, .slice none 0 0, .slice none 0 0] 35)).alloc (.cells #[.slice (some ⟨bk, off, none⟩) bs.length c] 97)).heap[w.heap.size]? = some (.cells #[.int .i64 0, .int .i64 0, .int .i64 0, .slice none 0 0, .slice none 0 0] 35 (0, 0))) := hrb
 have HB1 : Hid (Below w.heap.size w ((w.alloc (.cells #[.int .i64 0, .int .i64 0, .int .i64 0, .slice none 0 0, .slice none 0 0] 35)).alloc (.cells #[.slice (some ⟨bk, off, none⟩) bs.length c] 97))) := hb1
 have HTB : Hid (Tab w) := ht
 have HBY : Hid (Byt bs) := hby
 clear hR1 hrb hb1 hr ht hby
 have HX : Hid (rdHead bs = .error x) := hx
 clear hx
 go_enter Tryd.func12, Tryd.ntmps12
 go_wp2_with (first
  | (go_at_call 37; refine (front_any w.heap.size (w.heap.size + 1) bs _ HR1.out hl).mono ?_; rintro e t1 ⟨res, g1⟩; rw [HX.out] at res; obtain ⟨rfl, hx0⟩ := res
     have hx1 : (x == 0) = false := (by rw [beq_eq_false_iff_ne]; exact hx0)
     have HRB1 : Hid ((t1.alloc (.cells #[.int .i64 0, .int .i64 0, .int .i64 0, .slice none 0 0, .slice none 0 0] 35)).heap[w.heap.size]? = some (.cells #[.int .i64 0, .int .i64 0, .int .i64 0, .slice none 0 0, .slice none 0 0] 35 (0, 0))) := by
      have h9 : t1.heap[w.heap.size]? = some (.cells #[.int .i64 0, .int .i64 0, .int .i64 0, .slice none 0 0, .slice none 0 0] 35 (0, 0)) := (g1.block _ (Array.getElem?_eq_some_iff.1 HRB.out).1 (fun e => by have e' := Option.some.inj e; omega)).trans HRB.out
      exact (Below.heap_alloc t1 (.cells #[.int .i64 0, .int .i64 0, .int .i64 0, .slice none 0 0, .slice none 0 0] 35) _ (Array.getElem?_eq_some_iff.1 h9).1).trans h9
     have HB2 : Hid (Below w.heap.size w (t1.alloc (.cells #[.int .i64 0, .int .i64 0, .int .i64 0, .slice none 0 0, .slice none 0 0] 35))) := (below_grown HB1.out g1 (by omega)).alloc (below_grown HB1.out g1 (by omega)).size _
     clear g1
     obtain ⟨r0, r1, r2, r3, r4⟩ := cells5 HRB1.out
     have rf := frozen5 HRB1.out
     have rf0 := rf 0
     have rf1 := rf 1
     have rf2 := rf 2
     have rf3 := rf 3
     have rf4 := rf 4
     clear rf))
 exact bodyPost_ret (v := .tuple #[.agg #[.int .i64 0, .int .i64 0, .int .i64 0, .slice none 0 0, .slice none 0 0], .int .i64 x]) (by obtain ⟨y0, y1, y2, y3, y4⟩ := cells5 (blk5_set HRB1.out (.int .i64 0) (.int .i64 0) (.int .i64 0) (.slice none 0 0) (.slice none 0 0)); simp [results, Tryd.results12, go_sem, y0, y1, y2, y3, y4]) rfl ⟨hx0, rfl, below_grown HB2.out (grown5 _ _ _ _ _ _ _) (Nat.le_refl _)⟩
set_option maxHeartbeats 2000000 in
set_option maxRecDepth 100000 in
theorem read_pieces (bk off c : Nat) (bs : List Int) (w : World) (hr : Reads w (some ⟨bk, off, none⟩) bs.length bs) (hl : bs.length ≤ 200000000000000) (hnc : bs.length ≤ c) (hc : c ≤ 9223372036854775807) (hbk : bk < w.heap.size) (ht : Tab w) (b p s : Nat) (mk : List Bool) (r : List Int) (hx : rdHead bs = .ok (b, p, s, mk, r)) (x : Int) (hp : rdPs (256 * s) (54 + 3 * s) (b * p) (b * p) Pc.z r = .error x) :
  Calls Tryd.prog 12 #[.slice (some ⟨bk, off, none⟩) bs.length c] w fun e w' => x ≠ 0 ∧ e = .returned (.tuple #[.agg #[.int .i64 0, .int .i64 0, .int .i64 0, .slice none 0 0, .slice none 0 0], .int .i64 x]) ∧ Below w.heap.size w w' := by
 have hby := hr.2.1
 have HRD : Hid (Reads w (some ⟨bk, off, none⟩) bs.length bs) := hr
 have hR1 : RdAt ((w.alloc (.cells #[.int .i64 0, .int .i64 0, .int .i64 0, .slice none 0 0, .slice none 0 0] 35)).alloc (.cells #[.slice (some ⟨bk, off, none⟩) bs.length c] 97)) w.heap.size (w.heap.size + 1) bs := by
  refine ⟨bk, off, c, ?_, (hr.below (below_alloc w _)).below (below_alloc _ _), hnc, hc, hbk, by omega⟩
  have h9 := heap_alloc_new (w.alloc (.cells #[.int .i64 0, .int .i64 0, .int .i64 0, .slice none 0 0, .slice none 0 0] 35)) (.cells #[.slice (some ⟨bk, off, none⟩) bs.length c] 97); rw [World.size_alloc] at h9; exact h9
 have hrb : ((w.alloc (.cells #[.int .i64 0, .int .i64 0, .int .i64 0, .slice none 0 0, .slice none 0 0] 35)).alloc (.cells #[.slice (some ⟨bk, off, none⟩) bs.length c] 97)).heap[w.heap.size]? = some (.cells #[.int .i64 0, .int .i64 0, .int .i64 0, .slice none 0 0, .slice none 0 0] 35 (0, 0)) := by
  rw [Below.heap_alloc _ _ _ (by simp)]; exact heap_alloc_new _ _
 have hb1 : Below w.heap.size w ((w.alloc (.cells #[.int .i64 0, .int .i64 0, .int .i64 0, .slice none 0 0, .slice none 0 0] 35)).alloc (.cells #[.slice (some ⟨bk, off, none⟩) bs.length c] 97)) := below_trans (below_alloc w _) (below_alloc _ _)
 have HR1 : Hid (RdAt ((w.alloc (.cells #[.int .i64 0, .int .i64 0, .int .i64 0, .slice none 0 0, .slice none 0 0] 35)).alloc (.cells #[.slice (some ⟨bk, off, none⟩) bs.length c] 97)) w.heap.size (w.heap.size + 1) bs) := hR1
 have HRB : Hid (((w.alloc (.cells #[.int .i64 0, .int .i64 0, .int .i64 0, .slice none 0 0, .slice none 0 0] 35)).alloc (.cells #[.slice (some ⟨bk, off, none⟩) bs.length c] 97)).heap[w.heap.size]? = some (.cells #[.int .i64 0, .int .i64 0, .int .i64 0, .slice none 0 0, .slice none 0 0] 35 (0, 0))) := hrb
 have HB1 : Hid (Below w.heap.size w ((w.alloc (.cells #[.int .i64 0, .int .i64 0, .int .i64 0, .slice none 0 0, .slice none 0 0] 35)).alloc (.cells #[.slice (some ⟨bk, off, none⟩) bs.length c] 97))) := hb1
 have HTB : Hid (Tab w) := ht
 have HBY : Hid (Byt bs) := hby
 clear hR1 hrb hb1 hr ht hby
 have HX : Hid (rdHead bs = .ok (b, p, s, mk, r)) := hx
 have HPS : Hid (rdPs (256 * s) (54 + 3 * s) (b * p) (b * p) Pc.z r = .error x) := hp
 clear hx hp
 go_enter Tryd.func12, Tryd.ntmps12
 go_wp2_with (first
  | (go_at_call 37; refine (front_any w.heap.size (w.heap.size + 1) bs _ HR1.out hl).mono ?_; rintro e t1 ⟨res, g1⟩; rw [HX.out] at res; obtain ⟨hf, gm, rfl, om, rd1, hrl⟩ := res
     have HRB1 : Hid ((t1.alloc (.cells #[.int .i64 (b : Int), .int .i64 (p : Int), .int .i64 (s : Int), .slice none 0 0, .slice (some ⟨gm, 0, none⟩) b b] 35)).heap[w.heap.size]? = some (.cells #[.int .i64 0, .int .i64 0, .int .i64 0, .slice none 0 0, .slice none 0 0] 35 (0, 0))) := by
      have h9 : t1.heap[w.heap.size]? = some (.cells #[.int .i64 0, .int .i64 0, .int .i64 0, .slice none 0 0, .slice none 0 0] 35 (0, 0)) := (g1.block _ (Array.getElem?_eq_some_iff.1 HRB.out).1 (fun e => by have e' := Option.some.inj e; omega)).trans HRB.out
      exact (Below.heap_alloc t1 (.cells #[.int .i64 (b : Int), .int .i64 (p : Int), .int .i64 (s : Int), .slice none 0 0, .slice (some ⟨gm, 0, none⟩) b b] 35) _ (Array.getElem?_eq_some_iff.1 h9).1).trans h9
     have HMB1 : Hid ((t1.alloc (.cells #[.int .i64 (b : Int), .int .i64 (p : Int), .int .i64 (s : Int), .slice none 0 0, .slice (some ⟨gm, 0, none⟩) b b] 35)).heap[t1.heap.size]? = some (.cells #[.int .i64 (b : Int), .int .i64 (p : Int), .int .i64 (s : Int), .slice none 0 0, .slice (some ⟨gm, 0, none⟩) b b] 35 (0, 0))) := heap_alloc_new _ _
     have HB2 : Hid (Below w.heap.size w (t1.alloc (.cells #[.int .i64 (b : Int), .int .i64 (p : Int), .int .i64 (s : Int), .slice none 0 0, .slice (some ⟨gm, 0, none⟩) b b] 35))) := (below_grown HB1.out g1 (by omega)).alloc (below_grown HB1.out g1 (by omega)).size _
     have HR2 : Hid (RdAt (t1.alloc (.cells #[.int .i64 (b : Int), .int .i64 (p : Int), .int .i64 (s : Int), .slice none 0 0, .slice (some ⟨gm, 0, none⟩) b b] 35)) w.heap.size (w.heap.size + 1) r) := rd1.below (below_alloc _ _)
     have HOM1 : Hid (OwnB (t1.alloc (.cells #[.int .i64 (b : Int), .int .i64 (p : Int), .int .i64 (s : Int), .slice none 0 0, .slice (some ⟨gm, 0, none⟩) b b] 35)) (w.heap.size + 2) gm b b mk) := by
      have h9 := om.below (below_alloc t1 (.cells #[.int .i64 (b : Int), .int .i64 (p : Int), .int .i64 (s : Int), .slice none 0 0, .slice (some ⟨gm, 0, none⟩) b b] 35))
      simp only [World.size_alloc] at h9
      exact h9
     have HS1 : Hid (w.heap.size + 2 ≤ t1.heap.size ∧ gm < t1.heap.size) := ⟨by have := g1.size; simp at this; omega, om.lt.2⟩
     have hf' : Fits (b : Int) (p : Int) (s : Int) = true := hf
     clear g1 rd1 om hf
     obtain ⟨m0, m1, m2, m3, m4⟩ := cells5 HMB1.out)
  | (go_at_call 38; refine (pieces_any w.heap.size (w.heap.size + 1) b p s (256 * s) (54 + 3 * s) rfl rfl r _ HR2.out hrl hf').mono ?_; rintro e t2 ⟨res, g2⟩; rw [HPS.out] at res; obtain ⟨rfl, hx0⟩ := res
     have HRB2 : Hid (t2.heap[w.heap.size]? = some (.cells #[.int .i64 0, .int .i64 0, .int .i64 0, .slice none 0 0, .slice none 0 0] 35 (0, 0))) := (g2.block _ (Array.getElem?_eq_some_iff.1 HRB1.out).1 (fun e => by have e' := Option.some.inj e; omega)).trans HRB1.out
     have HMB2 : Hid (t2.heap[t1.heap.size]? = some (.cells #[.int .i64 (b : Int), .int .i64 (p : Int), .int .i64 (s : Int), .slice none 0 0, .slice (some ⟨gm, 0, none⟩) b b] 35 (0, 0))) := (g2.block _ (Array.getElem?_eq_some_iff.1 HMB1.out).1 (fun e => by have e' := Option.some.inj e; have := HS1.out; omega)).trans HMB1.out
     have HB3 : Hid (Below w.heap.size w t2) := below_grown HB2.out g2 (by omega)
     have HOM2 : Hid (OwnB t2 (w.heap.size + 2) gm b b mk) := HOM1.out.apart g2 (by have := HOM1.out.lt; omega)
     have HS2 : Hid (t1.heap.size + 1 ≤ t2.heap.size) := by have := g2.size; unfold Hid; simp at this; omega
     have hx1 : (x == 0) = false := (by rw [beq_eq_false_iff_ne]; exact hx0)
     clear g2 m0 m1 m2 m3 m4
     obtain ⟨r0, r1, r2, r3, r4⟩ := cells5 HRB2.out
     have rf := frozen5 HRB2.out
     have rf0 := rf 0
     have rf1 := rf 1
     have rf2 := rf 2
     have rf3 := rf 3
     have rf4 := rf 4
     clear rf))
 exact bodyPost_ret (v := .tuple #[.agg #[.int .i64 0, .int .i64 0, .int .i64 0, .slice none 0 0, .slice none 0 0], .int .i64 x]) (by obtain ⟨y0, y1, y2, y3, y4⟩ := cells5 (blk5_set HRB2.out (.int .i64 0) (.int .i64 0) (.int .i64 0) (.slice none 0 0) (.slice none 0 0)); simp [results, Tryd.results12, go_sem, y0, y1, y2, y3, y4]) rfl ⟨hx0, rfl, below_grown HB3.out (grown5 _ _ _ _ _ _ _) (Nat.le_refl _)⟩
set_option maxHeartbeats 2000000 in
set_option maxRecDepth 100000 in
theorem read_end (bk off c : Nat) (bs : List Int) (w : World) (hr : Reads w (some ⟨bk, off, none⟩) bs.length bs) (hl : bs.length ≤ 200000000000000) (hnc : bs.length ≤ c) (hc : c ≤ 9223372036854775807) (hbk : bk < w.heap.size) (ht : Tab w) (b p s : Nat) (mk : List Bool) (r : List Int) (hx : rdHead bs = .ok (b, p, s, mk, r)) (ps : List Pc) (t : List Int) (hp : rdPs (256 * s) (54 + 3 * s) (b * p) (b * p) Pc.z r = .ok (ps, t)) (x : Int) (he : rdEnd bs t = x) (hx0 : x ≠ 0) :
  Calls Tryd.prog 12 #[.slice (some ⟨bk, off, none⟩) bs.length c] w fun e w' => e = .returned (.tuple #[.agg #[.int .i64 0, .int .i64 0, .int .i64 0, .slice none 0 0, .slice none 0 0], .int .i64 x]) ∧ Below w.heap.size w w' := by
 have hby := hr.2.1
 have HRD : Hid (Reads w (some ⟨bk, off, none⟩) bs.length bs) := hr
 have hR1 : RdAt ((w.alloc (.cells #[.int .i64 0, .int .i64 0, .int .i64 0, .slice none 0 0, .slice none 0 0] 35)).alloc (.cells #[.slice (some ⟨bk, off, none⟩) bs.length c] 97)) w.heap.size (w.heap.size + 1) bs := by
  refine ⟨bk, off, c, ?_, (hr.below (below_alloc w _)).below (below_alloc _ _), hnc, hc, hbk, by omega⟩
  have h9 := heap_alloc_new (w.alloc (.cells #[.int .i64 0, .int .i64 0, .int .i64 0, .slice none 0 0, .slice none 0 0] 35)) (.cells #[.slice (some ⟨bk, off, none⟩) bs.length c] 97); rw [World.size_alloc] at h9; exact h9
 have hrb : ((w.alloc (.cells #[.int .i64 0, .int .i64 0, .int .i64 0, .slice none 0 0, .slice none 0 0] 35)).alloc (.cells #[.slice (some ⟨bk, off, none⟩) bs.length c] 97)).heap[w.heap.size]? = some (.cells #[.int .i64 0, .int .i64 0, .int .i64 0, .slice none 0 0, .slice none 0 0] 35 (0, 0)) := by
  rw [Below.heap_alloc _ _ _ (by simp)]; exact heap_alloc_new _ _
 have hb1 : Below w.heap.size w ((w.alloc (.cells #[.int .i64 0, .int .i64 0, .int .i64 0, .slice none 0 0, .slice none 0 0] 35)).alloc (.cells #[.slice (some ⟨bk, off, none⟩) bs.length c] 97)) := below_trans (below_alloc w _) (below_alloc _ _)
 have HR1 : Hid (RdAt ((w.alloc (.cells #[.int .i64 0, .int .i64 0, .int .i64 0, .slice none 0 0, .slice none 0 0] 35)).alloc (.cells #[.slice (some ⟨bk, off, none⟩) bs.length c] 97)) w.heap.size (w.heap.size + 1) bs) := hR1
 have HRB : Hid (((w.alloc (.cells #[.int .i64 0, .int .i64 0, .int .i64 0, .slice none 0 0, .slice none 0 0] 35)).alloc (.cells #[.slice (some ⟨bk, off, none⟩) bs.length c] 97)).heap[w.heap.size]? = some (.cells #[.int .i64 0, .int .i64 0, .int .i64 0, .slice none 0 0, .slice none 0 0] 35 (0, 0))) := hrb
 have HB1 : Hid (Below w.heap.size w ((w.alloc (.cells #[.int .i64 0, .int .i64 0, .int .i64 0, .slice none 0 0, .slice none 0 0] 35)).alloc (.cells #[.slice (some ⟨bk, off, none⟩) bs.length c] 97))) := hb1
 have HTB : Hid (Tab w) := ht
 have HBY : Hid (Byt bs) := hby
 clear hR1 hrb hb1 hr ht hby
 have HX : Hid (rdHead bs = .ok (b, p, s, mk, r)) := hx
 have HPS : Hid (rdPs (256 * s) (54 + 3 * s) (b * p) (b * p) Pc.z r = .ok (ps, t)) := hp
 obtain ⟨s1, s2, s3⟩ := rdHead_sound HBY.out hx
 have hbr : Byt r := fun x hx => HBY.out x (by rw [s1]; exact List.mem_append_right _ hx)
 have hpf := ps_facts hbr hp
 have HPF : Hid ((∀ p ∈ ps, p.g.length = 256 * s + (54 + 3 * s)) ∧ ps.length ≤ b * p ∧ cnt ps = b * p ∧ (pgs ps).flatten.length = b * p * (256 * s + (54 + 3 * s)) ∧ t.length ≤ r.length) := hpf
 have HTL : Hid (t.length ≤ bs.length) := by
  unfold Hid
  have h9 := hpf.2.2.2.2
  rw [s1, List.length_append]
  omega
 have HFB := fits_nat s2
 have HFT : Hid (8 ≤ b ∧ b ≤ 4096 ∧ 4 ≤ p ∧ p ≤ 256 ∧ 1 ≤ s ∧ s ≤ 8 ∧ b * p ≤ 65536) := HFB
 clear hx hp s1 s2 s3 hbr hpf HFB
 have HEN : Hid (rdEnd bs t = x) := he
 have hx1 : (x == 0) = false := (by rw [beq_eq_false_iff_ne]; exact hx0)
 clear he
 go_enter Tryd.func12, Tryd.ntmps12
 go_wp2_with (first
  | (go_at_call 37; refine (front_any w.heap.size (w.heap.size + 1) bs _ HR1.out hl).mono ?_; rintro e t1 ⟨res, g1⟩; rw [HX.out] at res; obtain ⟨hf, gm, rfl, om, rd1, hrl⟩ := res
     have HRB1 : Hid ((t1.alloc (.cells #[.int .i64 (b : Int), .int .i64 (p : Int), .int .i64 (s : Int), .slice none 0 0, .slice (some ⟨gm, 0, none⟩) b b] 35)).heap[w.heap.size]? = some (.cells #[.int .i64 0, .int .i64 0, .int .i64 0, .slice none 0 0, .slice none 0 0] 35 (0, 0))) := by
      have h9 : t1.heap[w.heap.size]? = some (.cells #[.int .i64 0, .int .i64 0, .int .i64 0, .slice none 0 0, .slice none 0 0] 35 (0, 0)) := (g1.block _ (Array.getElem?_eq_some_iff.1 HRB.out).1 (fun e => by have e' := Option.some.inj e; omega)).trans HRB.out
      exact (Below.heap_alloc t1 (.cells #[.int .i64 (b : Int), .int .i64 (p : Int), .int .i64 (s : Int), .slice none 0 0, .slice (some ⟨gm, 0, none⟩) b b] 35) _ (Array.getElem?_eq_some_iff.1 h9).1).trans h9
     have HMB1 : Hid ((t1.alloc (.cells #[.int .i64 (b : Int), .int .i64 (p : Int), .int .i64 (s : Int), .slice none 0 0, .slice (some ⟨gm, 0, none⟩) b b] 35)).heap[t1.heap.size]? = some (.cells #[.int .i64 (b : Int), .int .i64 (p : Int), .int .i64 (s : Int), .slice none 0 0, .slice (some ⟨gm, 0, none⟩) b b] 35 (0, 0))) := heap_alloc_new _ _
     have HB2 : Hid (Below w.heap.size w (t1.alloc (.cells #[.int .i64 (b : Int), .int .i64 (p : Int), .int .i64 (s : Int), .slice none 0 0, .slice (some ⟨gm, 0, none⟩) b b] 35))) := (below_grown HB1.out g1 (by omega)).alloc (below_grown HB1.out g1 (by omega)).size _
     have HR2 : Hid (RdAt (t1.alloc (.cells #[.int .i64 (b : Int), .int .i64 (p : Int), .int .i64 (s : Int), .slice none 0 0, .slice (some ⟨gm, 0, none⟩) b b] 35)) w.heap.size (w.heap.size + 1) r) := rd1.below (below_alloc _ _)
     have HOM1 : Hid (OwnB (t1.alloc (.cells #[.int .i64 (b : Int), .int .i64 (p : Int), .int .i64 (s : Int), .slice none 0 0, .slice (some ⟨gm, 0, none⟩) b b] 35)) (w.heap.size + 2) gm b b mk) := by
      have h9 := om.below (below_alloc t1 (.cells #[.int .i64 (b : Int), .int .i64 (p : Int), .int .i64 (s : Int), .slice none 0 0, .slice (some ⟨gm, 0, none⟩) b b] 35))
      simp only [World.size_alloc] at h9
      exact h9
     have HS1 : Hid (w.heap.size + 2 ≤ t1.heap.size ∧ gm < t1.heap.size) := ⟨by have := g1.size; simp at this; omega, om.lt.2⟩
     have hf' : Fits (b : Int) (p : Int) (s : Int) = true := hf
     clear g1 rd1 om hf
     obtain ⟨m0, m1, m2, m3, m4⟩ := cells5 HMB1.out)
  | (go_at_call 38; refine (pieces_any w.heap.size (w.heap.size + 1) b p s (256 * s) (54 + 3 * s) rfl rfl r _ HR2.out hrl hf').mono ?_; rintro e t2 ⟨res, g2⟩; rw [HPS.out] at res; obtain ⟨v, es, rfl, hes, ov, oks, rd2, htl⟩ := res
     have HRB2 : Hid (t2.heap[w.heap.size]? = some (.cells #[.int .i64 0, .int .i64 0, .int .i64 0, .slice none 0 0, .slice none 0 0] 35 (0, 0))) := (g2.block _ (Array.getElem?_eq_some_iff.1 HRB1.out).1 (fun e => by have e' := Option.some.inj e; omega)).trans HRB1.out
     have HMB2 : Hid (t2.heap[t1.heap.size]? = some (.cells #[.int .i64 (b : Int), .int .i64 (p : Int), .int .i64 (s : Int), .slice none 0 0, .slice (some ⟨gm, 0, none⟩) b b] 35 (0, 0))) := (g2.block _ (Array.getElem?_eq_some_iff.1 HMB1.out).1 (fun e => by have e' := Option.some.inj e; have := HS1.out; omega)).trans HMB1.out
     have HB3 : Hid (Below w.heap.size w t2) := below_grown HB2.out g2 (by omega)
     have HOM2 : Hid (OwnB t2 (w.heap.size + 2) gm b b mk) := HOM1.out.apart g2 (by have := HOM1.out.lt; omega)
     have HS2 : Hid (t1.heap.size + 1 ≤ t2.heap.size) := by have := g2.size; unfold Hid; simp at this; omega
     have HOV : Hid (t2.ownsRow (t1.heap.size + 1) 135 3 v es.length (flatE es)) := by have h9 := ov; simp only [World.size_alloc] at h9; exact h9
     have HOK : Hid (∀ x ∈ es, x.Ok t2 (t1.heap.size + 1)) := by have h9 := oks; simp only [World.size_alloc] at h9; exact h9
     have HR3 : Hid (RdAt t2 w.heap.size (w.heap.size + 1) t) := rd2
     have HES : Hid (es.map En.p = ps) := hes
     clear ov oks rd2 hes
     clear g2 m0 m1 m2 m3 m4
     obtain ⟨r0, r1, r2, r3, r4⟩ := cells5 HRB2.out
     have rf := frozen5 HRB2.out
     have rf0 := rf 0
     have rf1 := rf 1
     have rf2 := rf 2
     have rf3 := rf 3
     have rf4 := rf 4
     clear rf)
  | (go_at_call 39; refine (end_any w.heap.size (w.heap.size + 1) bk off bs.length c bs t _ HR3.out (HRD.out.below HB3.out) hl hnc hc HTL.out hbk (HTB.out.below HB3.out)).mono ?_; rintro e t3 ⟨rfl, g3⟩; rw [HEN.out]
     have HRB3 : Hid (t3.heap[w.heap.size]? = some (.cells #[.int .i64 0, .int .i64 0, .int .i64 0, .slice none 0 0, .slice none 0 0] 35 (0, 0))) := (g3.block _ (Array.getElem?_eq_some_iff.1 HRB2.out).1 (fun e => by have e' := Option.some.inj e; omega)).trans HRB2.out
     have HMB3 : Hid (t3.heap[t1.heap.size]? = some (.cells #[.int .i64 (b : Int), .int .i64 (p : Int), .int .i64 (s : Int), .slice none 0 0, .slice (some ⟨gm, 0, none⟩) b b] 35 (0, 0))) := (g3.block _ (Array.getElem?_eq_some_iff.1 HMB2.out).1 (fun e => by have e' := Option.some.inj e; have := HS1.out; omega)).trans HMB2.out
     have HB4 : Hid (Below w.heap.size w t3) := below_grown HB3.out g3 (by omega)
     have HOM3 : Hid (OwnB t3 (w.heap.size + 2) gm b b mk) := HOM2.out.apart g3 (by have := HOM2.out.lt; omega)
     have HS3 : Hid (t2.heap.size ≤ t3.heap.size) := g3.size
     have HNT : Hid (¬ Ty5 t2 (w.heap.size + 1)) := by obtain ⟨b9, o9, c9, h9, _⟩ := HR3.out; exact not_ty5 h9 (by decide)
     have HOV3 : Hid (t3.ownsRow (t1.heap.size + 1) 135 3 v es.length (flatE es)) := HOV.out.kept g3 (Or.inr (fun e9 => by have := (HOV.out.lt _ e9).1; have := HS1.out; omega))
     have HOK3 : Hid (∀ x ∈ es, x.Ok t3 (t1.heap.size + 1)) := fun x hx => (HOK.out x hx).kept g3 (fun j e9 => by cases e9; exact HNT.out)
     clear g3 r0 r1 r2 r3 r4 rf0 rf1 rf2 rf3 rf4
     obtain ⟨r0, r1, r2, r3, r4⟩ := cells5 HRB3.out
     have rf := frozen5 HRB3.out
     have rf0 := rf 0
     have rf1 := rf 1
     have rf2 := rf 2
     have rf3 := rf 3
     have rf4 := rf 4
     clear rf))
 exact bodyPost_ret (v := .tuple #[.agg #[.int .i64 0, .int .i64 0, .int .i64 0, .slice none 0 0, .slice none 0 0], .int .i64 x]) (by obtain ⟨y0, y1, y2, y3, y4⟩ := cells5 (blk5_set HRB3.out (.int .i64 0) (.int .i64 0) (.int .i64 0) (.slice none 0 0) (.slice none 0 0)); simp [results, Tryd.results12, go_sem, y0, y1, y2, y3, y4]) rfl ⟨rfl, below_grown HB4.out (grown5 _ _ _ _ _ _ _) (Nat.le_refl _)⟩
set_option maxHeartbeats 4000000 in
set_option maxRecDepth 100000 in
theorem read_ok (bk off c : Nat) (bs : List Int) (w : World) (hr : Reads w (some ⟨bk, off, none⟩) bs.length bs) (hl : bs.length ≤ 200000000000000) (hnc : bs.length ≤ c) (hc : c ≤ 9223372036854775807) (hbk : bk < w.heap.size) (ht : Tab w) (b p s : Nat) (mk : List Bool) (r : List Int) (hx : rdHead bs = .ok (b, p, s, mk, r)) (ps : List Pc) (t : List Int) (hp : rdPs (256 * s) (54 + 3 * s) (b * p) (b * p) Pc.z r = .ok (ps, t)) (he : rdEnd bs t = 0) :
  Calls Tryd.prog 12 #[.slice (some ⟨bk, off, none⟩) bs.length c] w fun e w' => RdRes w w' e (.ok ⟨b, p, s, (pgs ps).flatten, mk⟩) ∧ Below w.heap.size w w' := by
 have hby := hr.2.1
 have HRD : Hid (Reads w (some ⟨bk, off, none⟩) bs.length bs) := hr
 have hR1 : RdAt ((w.alloc (.cells #[.int .i64 0, .int .i64 0, .int .i64 0, .slice none 0 0, .slice none 0 0] 35)).alloc (.cells #[.slice (some ⟨bk, off, none⟩) bs.length c] 97)) w.heap.size (w.heap.size + 1) bs := by
  refine ⟨bk, off, c, ?_, (hr.below (below_alloc w _)).below (below_alloc _ _), hnc, hc, hbk, by omega⟩
  have h9 := heap_alloc_new (w.alloc (.cells #[.int .i64 0, .int .i64 0, .int .i64 0, .slice none 0 0, .slice none 0 0] 35)) (.cells #[.slice (some ⟨bk, off, none⟩) bs.length c] 97); rw [World.size_alloc] at h9; exact h9
 have hrb : ((w.alloc (.cells #[.int .i64 0, .int .i64 0, .int .i64 0, .slice none 0 0, .slice none 0 0] 35)).alloc (.cells #[.slice (some ⟨bk, off, none⟩) bs.length c] 97)).heap[w.heap.size]? = some (.cells #[.int .i64 0, .int .i64 0, .int .i64 0, .slice none 0 0, .slice none 0 0] 35 (0, 0)) := by
  rw [Below.heap_alloc _ _ _ (by simp)]; exact heap_alloc_new _ _
 have hb1 : Below w.heap.size w ((w.alloc (.cells #[.int .i64 0, .int .i64 0, .int .i64 0, .slice none 0 0, .slice none 0 0] 35)).alloc (.cells #[.slice (some ⟨bk, off, none⟩) bs.length c] 97)) := below_trans (below_alloc w _) (below_alloc _ _)
 have HR1 : Hid (RdAt ((w.alloc (.cells #[.int .i64 0, .int .i64 0, .int .i64 0, .slice none 0 0, .slice none 0 0] 35)).alloc (.cells #[.slice (some ⟨bk, off, none⟩) bs.length c] 97)) w.heap.size (w.heap.size + 1) bs) := hR1
 have HRB : Hid (((w.alloc (.cells #[.int .i64 0, .int .i64 0, .int .i64 0, .slice none 0 0, .slice none 0 0] 35)).alloc (.cells #[.slice (some ⟨bk, off, none⟩) bs.length c] 97)).heap[w.heap.size]? = some (.cells #[.int .i64 0, .int .i64 0, .int .i64 0, .slice none 0 0, .slice none 0 0] 35 (0, 0))) := hrb
 have HB1 : Hid (Below w.heap.size w ((w.alloc (.cells #[.int .i64 0, .int .i64 0, .int .i64 0, .slice none 0 0, .slice none 0 0] 35)).alloc (.cells #[.slice (some ⟨bk, off, none⟩) bs.length c] 97))) := hb1
 have HTB : Hid (Tab w) := ht
 have HBY : Hid (Byt bs) := hby
 clear hR1 hrb hb1 hr ht hby
 have HX : Hid (rdHead bs = .ok (b, p, s, mk, r)) := hx
 have HPS : Hid (rdPs (256 * s) (54 + 3 * s) (b * p) (b * p) Pc.z r = .ok (ps, t)) := hp
 obtain ⟨s1, s2, s3⟩ := rdHead_sound HBY.out hx
 have hbr : Byt r := fun x hx => HBY.out x (by rw [s1]; exact List.mem_append_right _ hx)
 have hpf := ps_facts hbr hp
 have HPF : Hid ((∀ p ∈ ps, p.g.length = 256 * s + (54 + 3 * s)) ∧ ps.length ≤ b * p ∧ cnt ps = b * p ∧ (pgs ps).flatten.length = b * p * (256 * s + (54 + 3 * s)) ∧ t.length ≤ r.length) := hpf
 have HTL : Hid (t.length ≤ bs.length) := by
  unfold Hid
  have h9 := hpf.2.2.2.2
  rw [s1, List.length_append]
  omega
 have HFB := fits_nat s2
 have HFT : Hid (8 ≤ b ∧ b ≤ 4096 ∧ 4 ≤ p ∧ p ≤ 256 ∧ 1 ≤ s ∧ s ≤ 8 ∧ b * p ≤ 65536) := HFB
 clear hx hp s1 s2 s3 hbr hpf HFB
 have HEN : Hid (rdEnd bs t = 0) := he
 obtain ⟨K, hK⟩ : ∃ K, (pgs ps).flatten.length = K := ⟨_, rfl⟩
 have HKL : Hid ((pgs ps).flatten.length = K) := hK
 clear hK
 clear he
 go_enter Tryd.func12, Tryd.ntmps12
 go_wp2_with (first
  | (go_at_call 37; refine (front_any w.heap.size (w.heap.size + 1) bs _ HR1.out hl).mono ?_; rintro e t1 ⟨res, g1⟩; rw [HX.out] at res; obtain ⟨hf, gm, rfl, om, rd1, hrl⟩ := res
     have HRB1 : Hid ((t1.alloc (.cells #[.int .i64 (b : Int), .int .i64 (p : Int), .int .i64 (s : Int), .slice none 0 0, .slice (some ⟨gm, 0, none⟩) b b] 35)).heap[w.heap.size]? = some (.cells #[.int .i64 0, .int .i64 0, .int .i64 0, .slice none 0 0, .slice none 0 0] 35 (0, 0))) := by
      have h9 : t1.heap[w.heap.size]? = some (.cells #[.int .i64 0, .int .i64 0, .int .i64 0, .slice none 0 0, .slice none 0 0] 35 (0, 0)) := (g1.block _ (Array.getElem?_eq_some_iff.1 HRB.out).1 (fun e => by have e' := Option.some.inj e; omega)).trans HRB.out
      exact (Below.heap_alloc t1 (.cells #[.int .i64 (b : Int), .int .i64 (p : Int), .int .i64 (s : Int), .slice none 0 0, .slice (some ⟨gm, 0, none⟩) b b] 35) _ (Array.getElem?_eq_some_iff.1 h9).1).trans h9
     have HMB1 : Hid ((t1.alloc (.cells #[.int .i64 (b : Int), .int .i64 (p : Int), .int .i64 (s : Int), .slice none 0 0, .slice (some ⟨gm, 0, none⟩) b b] 35)).heap[t1.heap.size]? = some (.cells #[.int .i64 (b : Int), .int .i64 (p : Int), .int .i64 (s : Int), .slice none 0 0, .slice (some ⟨gm, 0, none⟩) b b] 35 (0, 0))) := heap_alloc_new _ _
     have HB2 : Hid (Below w.heap.size w (t1.alloc (.cells #[.int .i64 (b : Int), .int .i64 (p : Int), .int .i64 (s : Int), .slice none 0 0, .slice (some ⟨gm, 0, none⟩) b b] 35))) := (below_grown HB1.out g1 (by omega)).alloc (below_grown HB1.out g1 (by omega)).size _
     have HR2 : Hid (RdAt (t1.alloc (.cells #[.int .i64 (b : Int), .int .i64 (p : Int), .int .i64 (s : Int), .slice none 0 0, .slice (some ⟨gm, 0, none⟩) b b] 35)) w.heap.size (w.heap.size + 1) r) := rd1.below (below_alloc _ _)
     have HOM1 : Hid (OwnB (t1.alloc (.cells #[.int .i64 (b : Int), .int .i64 (p : Int), .int .i64 (s : Int), .slice none 0 0, .slice (some ⟨gm, 0, none⟩) b b] 35)) (w.heap.size + 2) gm b b mk) := by
      have h9 := om.below (below_alloc t1 (.cells #[.int .i64 (b : Int), .int .i64 (p : Int), .int .i64 (s : Int), .slice none 0 0, .slice (some ⟨gm, 0, none⟩) b b] 35))
      simp only [World.size_alloc] at h9
      exact h9
     have HS1 : Hid (w.heap.size + 2 ≤ t1.heap.size ∧ gm < t1.heap.size) := ⟨by have := g1.size; simp at this; omega, om.lt.2⟩
     have hf' : Fits (b : Int) (p : Int) (s : Int) = true := hf
     clear g1 rd1 om hf
     obtain ⟨m0, m1, m2, m3, m4⟩ := cells5 HMB1.out)
  | (go_at_call 38; refine (pieces_any w.heap.size (w.heap.size + 1) b p s (256 * s) (54 + 3 * s) rfl rfl r _ HR2.out hrl hf').mono ?_; rintro e t2 ⟨res, g2⟩; rw [HPS.out] at res; obtain ⟨v, es, rfl, hes, ov, oks, rd2, htl⟩ := res
     have HRB2 : Hid (t2.heap[w.heap.size]? = some (.cells #[.int .i64 0, .int .i64 0, .int .i64 0, .slice none 0 0, .slice none 0 0] 35 (0, 0))) := (g2.block _ (Array.getElem?_eq_some_iff.1 HRB1.out).1 (fun e => by have e' := Option.some.inj e; omega)).trans HRB1.out
     have HMB2 : Hid (t2.heap[t1.heap.size]? = some (.cells #[.int .i64 (b : Int), .int .i64 (p : Int), .int .i64 (s : Int), .slice none 0 0, .slice (some ⟨gm, 0, none⟩) b b] 35 (0, 0))) := (g2.block _ (Array.getElem?_eq_some_iff.1 HMB1.out).1 (fun e => by have e' := Option.some.inj e; have := HS1.out; omega)).trans HMB1.out
     have HB3 : Hid (Below w.heap.size w t2) := below_grown HB2.out g2 (by omega)
     have HOM2 : Hid (OwnB t2 (w.heap.size + 2) gm b b mk) := HOM1.out.apart g2 (by have := HOM1.out.lt; omega)
     have HS2 : Hid (t1.heap.size + 1 ≤ t2.heap.size) := by have := g2.size; unfold Hid; simp at this; omega
     have HOV : Hid (t2.ownsRow (t1.heap.size + 1) 135 3 v es.length (flatE es)) := by have h9 := ov; simp only [World.size_alloc] at h9; exact h9
     have HOK : Hid (∀ x ∈ es, x.Ok t2 (t1.heap.size + 1)) := by have h9 := oks; simp only [World.size_alloc] at h9; exact h9
     have HR3 : Hid (RdAt t2 w.heap.size (w.heap.size + 1) t) := rd2
     have HES : Hid (es.map En.p = ps) := hes
     clear ov oks rd2 hes
     clear g2 m0 m1 m2 m3 m4
     obtain ⟨r0, r1, r2, r3, r4⟩ := cells5 HRB2.out
     have rf := frozen5 HRB2.out
     have rf0 := rf 0
     have rf1 := rf 1
     have rf2 := rf 2
     have rf3 := rf 3
     have rf4 := rf 4
     clear rf)
  | (go_at_call 39; refine (end_any w.heap.size (w.heap.size + 1) bk off bs.length c bs t _ HR3.out (HRD.out.below HB3.out) hl hnc hc HTL.out hbk (HTB.out.below HB3.out)).mono ?_; rintro e t3 ⟨rfl, g3⟩; rw [HEN.out]
     have HRB3 : Hid (t3.heap[w.heap.size]? = some (.cells #[.int .i64 0, .int .i64 0, .int .i64 0, .slice none 0 0, .slice none 0 0] 35 (0, 0))) := (g3.block _ (Array.getElem?_eq_some_iff.1 HRB2.out).1 (fun e => by have e' := Option.some.inj e; omega)).trans HRB2.out
     have HMB3 : Hid (t3.heap[t1.heap.size]? = some (.cells #[.int .i64 (b : Int), .int .i64 (p : Int), .int .i64 (s : Int), .slice none 0 0, .slice (some ⟨gm, 0, none⟩) b b] 35 (0, 0))) := (g3.block _ (Array.getElem?_eq_some_iff.1 HMB2.out).1 (fun e => by have e' := Option.some.inj e; have := HS1.out; omega)).trans HMB2.out
     have HB4 : Hid (Below w.heap.size w t3) := below_grown HB3.out g3 (by omega)
     have HOM3 : Hid (OwnB t3 (w.heap.size + 2) gm b b mk) := HOM2.out.apart g3 (by have := HOM2.out.lt; omega)
     have HS3 : Hid (t2.heap.size ≤ t3.heap.size) := g3.size
     have HNT : Hid (¬ Ty5 t2 (w.heap.size + 1)) := by obtain ⟨b9, o9, c9, h9, _⟩ := HR3.out; exact not_ty5 h9 (by decide)
     have HOV3 : Hid (t3.ownsRow (t1.heap.size + 1) 135 3 v es.length (flatE es)) := HOV.out.kept g3 (Or.inr (fun e9 => by have := (HOV.out.lt _ e9).1; have := HS1.out; omega))
     have HOK3 : Hid (∀ x ∈ es, x.Ok t3 (t1.heap.size + 1)) := fun x hx => (HOK.out x hx).kept g3 (fun j e9 => by cases e9; exact HNT.out)
     clear g3 r0 r1 r2 r3 r4 rf0 rf1 rf2 rf3 rf4
     obtain ⟨r0, r1, r2, r3, r4⟩ := cells5 HRB3.out
     have rf := frozen5 HRB3.out
     have rf0 := rf 0
     have rf1 := rf 1
     have rf2 := rf 2
     have rf3 := rf 3
     have rf4 := rf 4
     clear rf)
  | (go_at_call 40; refine (laid_any (t1.heap.size + 1) v es _ HOV3.out HOK3.out (by rw [fl_len, HES.out, HPF.out.2.2.1]; exact HFT.out.2.2.2.2.2.2) (by have h1 := HPF.out.2.1; rw [← HES.out, List.length_map] at h1; have h2 := HFT.out.2.2.2.2.2.2; omega) (fun x hx => by have h1 := HPF.out.1 x.p (by rw [← HES.out]; exact List.mem_map_of_mem hx); have h2 := (HOK3.out x hx).1.reads.1; have h3 := HFT.out; omega) (by rw [HES.out, HPF.out.2.2.2.1]; have h3 := HFT.out; exact Nat.mul_pos (Nat.mul_pos (by omega) (by omega)) (by omega))).mono ?_; rintro e t4 ⟨g, cc, rfl, own4, b4⟩; rw [HES.out, HKL.out] at own4 ⊢
     have HRB4 : Hid (t4.heap[w.heap.size]? = some (.cells #[.int .i64 0, .int .i64 0, .int .i64 0, .slice none 0 0, .slice none 0 0] 35 (0, 0))) := (b4.block _ (Array.getElem?_eq_some_iff.1 HRB3.out).1).trans HRB3.out
     have HMB4 : Hid (t4.heap[t1.heap.size]? = some (.cells #[.int .i64 (b : Int), .int .i64 (p : Int), .int .i64 (s : Int), .slice none 0 0, .slice (some ⟨gm, 0, none⟩) b b] 35 (0, 0))) := (b4.block _ (Array.getElem?_eq_some_iff.1 HMB3.out).1).trans HMB3.out
     have HB5 : Hid (Below w.heap.size w t4) := below_trans HB4.out b4
     have HOM4 : Hid (OwnB t4 (w.heap.size + 2) gm b b mk) := HOM3.out.below b4
     have HO4 : Hid (Own t4 t3.heap.size g K cc (pgs ps).flatten) := own4
     clear own4 b4 r0 r1 r2 r3 r4 rf0 rf1 rf2 rf3 rf4
     obtain ⟨m0, m1, m2, m3, m4⟩ := cells5 HMB4.out
     have mf := frozen5 HMB4.out
     have mf3 := mf 3
     clear mf
     obtain ⟨T4, hT4⟩ : ∃ T4, t4.setCell ⟨t1.heap.size, 3, none⟩ (.slice (some ⟨g, 0, none⟩) K cc) = T4 := ⟨_, rfl⟩
     have g5 := set_grown t4 t1.heap.size 3 (.slice (some ⟨g, 0, none⟩) K cc)
     have HMB5 : Hid (T4.heap[t1.heap.size]? = some (.cells #[.int .i64 (b : Int), .int .i64 (p : Int), .int .i64 (s : Int), .slice (some ⟨g, 0, none⟩) K cc, .slice (some ⟨gm, 0, none⟩) b b] 35 (0, 0))) := by unfold Hid; rw [← hT4]; exact Joins.block_setCell HMB4.out _
     rw [hT4] at g5
     have HRB5 : Hid (T4.heap[w.heap.size]? = some (.cells #[.int .i64 0, .int .i64 0, .int .i64 0, .slice none 0 0, .slice none 0 0] 35 (0, 0))) := (g5.block _ (Array.getElem?_eq_some_iff.1 HRB4.out).1 (fun e => by have e' := Option.some.inj e; have := HS1.out; omega)).trans HRB4.out
     have HB6 : Hid (Below w.heap.size w T4) := below_grown HB5.out g5 (by have := HS1.out; omega)
     have HOM5 : Hid (OwnB T4 (w.heap.size + 2) gm b b mk) := HOM4.out.apart g5 (by have := HS1.out; omega)
     have HO5 : Hid (Own T4 t3.heap.size g K cc (pgs ps).flatten) := HO4.out.apart g5 (by have := HO4.out.lt; have := HS2.out; have := HS3.out; omega)
     clear g5
     obtain ⟨k0, k1, k2, k3, k4⟩ := cells5 HMB5.out
     obtain ⟨r0, r1, r2, r3, r4⟩ := cells5 HRB5.out
     have rf := frozen5 HRB5.out
     have rf0 := rf 0
     have rf1 := rf 1
     have rf2 := rf 2
     have rf3 := rf 3
     have rf4 := rf 4
     clear rf))
 refine bodyPost_ret (v := .tuple #[.agg #[.int .i64 (b : Int), .int .i64 (p : Int), .int .i64 (s : Int), .slice (some ⟨g, 0, none⟩) K cc, .slice (some ⟨gm, 0, none⟩) b b], .int .i64 0]) (by obtain ⟨y0, y1, y2, y3, y4⟩ := cells5 (blk5_set HRB5.out (.int .i64 (b : Int)) (.int .i64 (p : Int)) (.int .i64 (s : Int)) (.slice (some ⟨g, 0, none⟩) K cc) (.slice (some ⟨gm, 0, none⟩) b b)); simp [results, Tryd.results12, go_sem, y0, y1, y2, y3, y4]) rfl ?_
 have gF := grown5 T4 w.heap.size (.int .i64 (b : Int)) (.int .i64 (p : Int)) (.int .i64 (s : Int)) (.slice (some ⟨g, 0, none⟩) K cc) (.slice (some ⟨gm, 0, none⟩) b b)
 have h3 := HB4.out.size
 refine ⟨⟨g, cc, gm, by simp only [HKL.out], ?_, ?_⟩, below_grown HB6.out gF (Nat.le_refl _)⟩
 ·simp only [HKL.out]
  exact (HO5.out.base h3).apart gF (by have := HO5.out.lt; have := HS1.out; have := HS2.out; have := HS3.out; omega)
 ·exact (HOM5.out.base (by omega)).apart gF (by have := HOM5.out.lt; omega)
theorem read_any (bk off c : Nat) (bs : List Int) (w : World) (hr : Reads w (some ⟨bk, off, none⟩) bs.length bs) (hl : bs.length ≤ 200000000000000) (hnc : bs.length ≤ c) (hc : c ≤ 9223372036854775807) (hbk : bk < w.heap.size) (ht : Tab w) :
  Calls Tryd.prog 12 #[.slice (some ⟨bk, off, none⟩) bs.length c] w fun e w' => RdRes w w' e (readR bs) ∧ Below w.heap.size w w' := by
 unfold readR
 cases hx : rdHead bs with
 | error x =>
  refine (read_front bk off c bs w hr hl hnc hc hbk ht x hx).mono fun e w' h => ⟨⟨h.2.1, h.1⟩, h.2.2⟩
 | ok y =>
  obtain ⟨b, p, s, mk, r⟩ := y
  simp only
  cases hp : rdPs (256 * s) (54 + 3 * s) (b * p) (b * p) Pc.z r with
  | error x =>
   refine (read_pieces bk off c bs w hr hl hnc hc hbk ht b p s mk r hx x hp).mono fun e w' h => ⟨⟨h.2.1, h.1⟩, h.2.2⟩
  | ok z =>
   obtain ⟨ps, t⟩ := z
   simp only
   by_cases he : rdEnd bs t = 0
   ·rw [if_neg (by simp [he])]
    exact read_ok bk off c bs w hr hl hnc hc hbk ht b p s mk r hx ps t hp he
   ·rw [if_pos he]
    exact (read_end bk off c bs w hr hl hnc hc hbk ht b p s mk r hx ps t hp _ rfl he).mono fun e w' h => ⟨⟨h.1, he⟩, h.2⟩
end Go.Proofs.YtnmnhgagnfodhaaDoor
