/-
  SEAT Ytadlkikjfonkgaa: Xz, Va, Xq.
-/
import Derived.Test.YtadlkikjfonkgaaQbg
import Derived.Test.YtadlkikjfonkgaaQa
import Derived.Test.YtadlkikjfonkgaaQbc
import Derived.Test.YtadlkikjfonkgaaQbf
import Derived.Test.YtadlkikjfonkgaaQx
namespace Go.Proofs.Ytadlkikjfonkgaa
open Go.RowKit Go.Conc
set_option linter.unusedVariables false
set_option maxRecDepth 100000
set_option maxHeartbeats 4000000
variable {w W Y z u : World} {B k gn tc g n : Nat} {G : Nat → Prop} {P M T L : List Rw} {vp vm vt : Value} {xs : List Fc}
theorem BookAt.addM (h : BookAt w B k G P M T) (hb : Below w.heap.size w W) (h0 : w.heap[k]? = some (.cells #[vp, vm, vt] 76 (0, 0))) (own : Y.ownsRow B 25 1 (.slice (some ⟨gn, 0, none⟩) (M.length + L.length) tc) (M.length + L.length) (M.map Rw.v ++ L.map Rw.v)) (grow : W.grownBy Y vm.ownBlock) (lies : vm.ownBlock = some gn ∨ W.heap.size ≤ gn) (hz : Y.setCell ⟨k, 1, none⟩ (.slice (some ⟨gn, 0, none⟩) (M.length + L.length) tc) = z)
  (hL : ∀ r ∈ L, w.ownsRow B 4 1 r.v r.n r.xs) (hLf : L.Pairwise (fun r s => ∀ k, r.v.ownBlock = some k → s.v.ownBlock ≠ some k)) (hLn : ∀ r ∈ L, ∀ j, r.v.ownBlock = some j → ¬ G j) : BookAt z B k (Gx G L w z) P (M ++ L) T ∧ Only G w z := by
 obtain ⟨vp', vm', vt', h0', h1, h2, h3⟩ := h.ex
 rw [h0] at h0'
 cases h0'
 have oY : Only (fun j => vm.ownBlock = some j) W Y := Only.ofG grow (fun j e => e)
 have oZ : Only (· = k) Y z := by rw [← hz]; exact Only.setCell (· = k) Y k 1 _ rfl
 have hvk : ∀ j, vm.ownBlock = some j → ∃ cs, w.heap[j]? = some (.cells cs 25 (0, 0)) := fun j hj => own_tag h2.row hj
 have s0 := hb.size
 have s1 := oY.size
 have s2 := oZ.size
 have hne : ∀ (j : Nat) (cs : Array Value) (t : Nat), w.heap[j]? = some (.cells cs t (0, 0)) → t ≠ 25 → t ≠ 76 → z.heap[j]? = w.heap[j]? := fun j cs t hc n1 n2 => by
  have hj := lt_of_block hc
  refine (oZ.block j (by omega) (fun e => ?_)).trans ((oY.block j (by omega) (fun e => ?_)).trans (hb.block j hj))
  ·have e' : j = k := e
   rw [e', h0] at hc; cases hc; exact n2 rfl
  ·obtain ⟨cs', hc'⟩ := hvk j e
   rw [hc'] at hc; cases hc; exact n1 rfl
 have hzk : z.heap[k]? = some (.cells #[vp, .slice (some ⟨gn, 0, none⟩) (M.length + L.length) tc, vt] 76 (0, 0)) := by
  have hk1 : W.heap[k]? = some (.cells #[vp, vm, vt] 76 (0, 0)) := (hb.block k (lt_of_block h0)).trans h0
  have hk2 : Y.heap[k]? = some (.cells #[vp, vm, vt] 76 (0, 0)) := (oY.block k (lt_of_block hk1) (fun e => by obtain ⟨cs', hc'⟩ := hvk k e; rw [hc'] at h0; cases h0)).trans hk1
  rw [← hz]
  exact heap_setCell_same Y k 1 #[vp, vm, vt] 76 _ hk2
 have hgn : gn < z.heap.size := by
  obtain ⟨cs, hc⟩ := own_tag own rfl
  have h7 : gn < Y.heap.size := lt_of_block hc
  omega
 have hGgn : G gn ∨ w.heap.size ≤ gn := lies.elim (fun e => Or.inl (h2.gr gn e)) (fun e => Or.inr (by omega))
 have hnk : gn ≠ k := fun e => by
  rcases lies with e1 | e1
  ·obtain ⟨cs', hc'⟩ := hvk gn e1; rw [e, h0] at hc'; cases hc'
  ·have := lt_of_block h0; omega
 have hGx : ∀ j, G j → Gx G L w z j := fun j e => Or.inl e
 refine ⟨⟨⟨vp, _, vt, hzk, h1.keep (fun j cs t hg hc ht => hne j cs t hc (by omega) (by omega)) hGx, ⟨?_, fun r hr => ?_, pages_far h2.far hLf h2.gl hLn, fun j hj => ?_, fun r hr j hj => ?_⟩, h3.keep (fun j cs t hg hc ht => hne j cs t hc (by omega) (by omega)) hGx⟩, Or.inl h.gk, fun j hj => ?_⟩, ?_⟩
 ·have h9 := owns_keep (w' := z) own (fun g hg => oZ.block g (by obtain ⟨cs, hc⟩ := own_tag own hg; exact lt_of_block hc) (fun e => by have e2 : gn = g := Option.some.inj hg; exact hnk (e2.trans e)))
  rw [List.length_append, List.map_append]
  exact h9
 ·rcases List.mem_append.1 hr with h9 | h9
  ·exact owns_keep (h2.own r h9) (fun g hg => by obtain ⟨cs, hc⟩ := own_tag (h2.own r h9) hg; exact hne g cs 4 hc (by omega) (by omega))
  ·exact owns_keep (hL r h9) (fun g hg => by obtain ⟨cs, hc⟩ := own_tag (hL r h9) hg; exact hne g cs 4 hc (by omega) (by omega))
 ·have e2 : gn = j := Option.some.inj hj
  rw [← e2]
  exact hGgn.elim (fun e => Or.inl e) (fun e => Or.inr (Or.inr ⟨e, hgn⟩))
 ·rcases List.mem_append.1 hr with h9 | h9
  ·exact Or.inl (h2.gl r h9 j hj)
  ·exact Or.inr (Or.inl ⟨r, h9, hj⟩)
 ·have hBk := h.lim k h.gk
  rcases hj with e | ⟨r, hr, e⟩ | e
  ·have := h.lim j e; exact ⟨this.1, by omega⟩
  ·have h8 := (hL r hr).lt j e
   exact ⟨h8.1, by omega⟩
  ·exact ⟨by have := e.1; omega, e.2⟩
 ·have e1 : Only G w W := Only.ofB hb
  exact (e1.trans oY (fun j _ e => h2.gr j e)).trans oZ (fun j _ e => by have e' : j = k := e; rw [e']; exact h.gk)
theorem BookAt.addT (h : BookAt w B k G P M T) (hb : Below w.heap.size w W) (h0 : w.heap[k]? = some (.cells #[vp, vm, vt] 76 (0, 0))) (own : Y.ownsRow B 45 1 (.slice (some ⟨gn, 0, none⟩) (T.length + L.length) tc) (T.length + L.length) (T.map Rw.v ++ L.map Rw.v)) (grow : W.grownBy Y vt.ownBlock) (lies : vt.ownBlock = some gn ∨ W.heap.size ≤ gn) (hz : Y.setCell ⟨k, 2, none⟩ (.slice (some ⟨gn, 0, none⟩) (T.length + L.length) tc) = z)
  (hL : ∀ r ∈ L, w.ownsRow B 120 4 r.v r.n r.xs) (hLf : L.Pairwise (fun r s => ∀ k, r.v.ownBlock = some k → s.v.ownBlock ≠ some k)) (hLn : ∀ r ∈ L, ∀ j, r.v.ownBlock = some j → ¬ G j) : BookAt z B k (Gx G L w z) P M (T ++ L) ∧ Only G w z := by
 obtain ⟨vp', vm', vt', h0', h1, h2, h3⟩ := h.ex
 rw [h0] at h0'
 cases h0'
 have oY : Only (fun j => vt.ownBlock = some j) W Y := Only.ofG grow (fun j e => e)
 have oZ : Only (· = k) Y z := by rw [← hz]; exact Only.setCell (· = k) Y k 2 _ rfl
 have hvk : ∀ j, vt.ownBlock = some j → ∃ cs, w.heap[j]? = some (.cells cs 45 (0, 0)) := fun j hj => own_tag h3.row hj
 have s0 := hb.size
 have s1 := oY.size
 have s2 := oZ.size
 have hne : ∀ (j : Nat) (cs : Array Value) (t : Nat), w.heap[j]? = some (.cells cs t (0, 0)) → t ≠ 45 → t ≠ 76 → z.heap[j]? = w.heap[j]? := fun j cs t hc n1 n2 => by
  have hj := lt_of_block hc
  refine (oZ.block j (by omega) (fun e => ?_)).trans ((oY.block j (by omega) (fun e => ?_)).trans (hb.block j hj))
  ·have e' : j = k := e
   rw [e', h0] at hc; cases hc; exact n2 rfl
  ·obtain ⟨cs', hc'⟩ := hvk j e
   rw [hc'] at hc; cases hc; exact n1 rfl
 have hzk : z.heap[k]? = some (.cells #[vp, vm, .slice (some ⟨gn, 0, none⟩) (T.length + L.length) tc] 76 (0, 0)) := by
  have hk1 : W.heap[k]? = some (.cells #[vp, vm, vt] 76 (0, 0)) := (hb.block k (lt_of_block h0)).trans h0
  have hk2 : Y.heap[k]? = some (.cells #[vp, vm, vt] 76 (0, 0)) := (oY.block k (lt_of_block hk1) (fun e => by obtain ⟨cs', hc'⟩ := hvk k e; rw [hc'] at h0; cases h0)).trans hk1
  rw [← hz]
  exact heap_setCell_same Y k 2 #[vp, vm, vt] 76 _ hk2
 have hgn : gn < z.heap.size := by
  obtain ⟨cs, hc⟩ := own_tag own rfl
  have h7 : gn < Y.heap.size := lt_of_block hc
  omega
 have hGgn : G gn ∨ w.heap.size ≤ gn := lies.elim (fun e => Or.inl (h3.gr gn e)) (fun e => Or.inr (by omega))
 have hnk : gn ≠ k := fun e => by
  rcases lies with e1 | e1
  ·obtain ⟨cs', hc'⟩ := hvk gn e1; rw [e, h0] at hc'; cases hc'
  ·have := lt_of_block h0; omega
 have hGx : ∀ j, G j → Gx G L w z j := fun j e => Or.inl e
 refine ⟨⟨⟨vp, vm, _, hzk, h1.keep (fun j cs t hg hc ht => hne j cs t hc (by omega) (by omega)) hGx, h2.keep (fun j cs t hg hc ht => hne j cs t hc (by omega) (by omega)) hGx, ⟨?_, fun r hr => ?_, pages_far h3.far hLf h3.gl hLn, fun j hj => ?_, fun r hr j hj => ?_⟩⟩, Or.inl h.gk, fun j hj => ?_⟩, ?_⟩
 ·have h9 := owns_keep (w' := z) own (fun g hg => oZ.block g (by obtain ⟨cs, hc⟩ := own_tag own hg; exact lt_of_block hc) (fun e => by have e2 : gn = g := Option.some.inj hg; exact hnk (e2.trans e)))
  rw [List.length_append, List.map_append]
  exact h9
 ·rcases List.mem_append.1 hr with h9 | h9
  ·exact owns_keep (h3.own r h9) (fun g hg => by obtain ⟨cs, hc⟩ := own_tag (h3.own r h9) hg; exact hne g cs 120 hc (by omega) (by omega))
  ·exact owns_keep (hL r h9) (fun g hg => by obtain ⟨cs, hc⟩ := own_tag (hL r h9) hg; exact hne g cs 120 hc (by omega) (by omega))
 ·have e2 : gn = j := Option.some.inj hj
  rw [← e2]
  exact hGgn.elim (fun e => Or.inl e) (fun e => Or.inr (Or.inr ⟨e, hgn⟩))
 ·rcases List.mem_append.1 hr with h9 | h9
  ·exact Or.inl (h3.gl r h9 j hj)
  ·exact Or.inr (Or.inl ⟨r, h9, hj⟩)
 ·have hBk := h.lim k h.gk
  rcases hj with e | ⟨r, hr, e⟩ | e
  ·have := h.lim j e; exact ⟨this.1, by omega⟩
  ·have h8 := (hL r hr).lt j e
   exact ⟨h8.1, by omega⟩
  ·exact ⟨by have := e.1; omega, e.2⟩
 ·have e1 : Only G w W := Only.ofB hb
  exact (e1.trans oY (fun j _ e => h3.gr j e)).trans oZ (fun j _ e => by have e' : j = k := e; rw [e']; exact h.gk)
theorem info25b : (Try.prog.info? 25).map (fun i => (i.zero, i.size, i.bytes)) = some (some (.slice none 0 0), 1, 24) := by kernel_rfl
theorem image73_any (w : World) (B k : Nat) (G : Nat → Prop) (P M T : List Rw) (h : BookAt w B k G P M T) (hl : P.length ≤ 1000000000000) (hm : M.length ≤ 1000000000000) (gB gP gS : Int) (ca : Option Addr) (cn cc : Nat) (X1 : List Value) (ma : Option Addr) (mn mc : Nat) (X2 : List Value) (h1 : w.ownsRow B 5 1 (.slice ca cn cc) cn X1) (h2 : w.ownsRow B 4 1 (.slice ma mn mc) mn X2) (hg1 : ∀ j, (Value.slice ca cn cc).ownBlock = some j → ¬ G j) (hg2 : ∀ j, (Value.slice ma mn mc).ownBlock = some j → ¬ G j) :
  Calls Try.prog 73 #[.pointer (some ⟨k, 0, none⟩), .agg #[.int .i64 gB, .int .i64 gP, .int .i64 gS, .slice ca cn cc, .slice ma mn mc]] w fun e w' => e = .returned (.tuple #[]) ∧ ∃ G', BookAt w' B k G' (P ++ [⟨ca, cn, cc, X1⟩]) (M ++ [⟨ma, mn, mc, X2⟩]) T ∧ (∀ j, G' j → G j ∨ (Value.slice ca cn cc).ownBlock = some j ∨ (Value.slice ma mn mc).ownBlock = some j ∨ (w.heap.size ≤ j ∧ j < w'.heap.size)) ∧ Only (fun j => G j ∨ (Value.slice ca cn cc).ownBlock = some j) w w' := by
 obtain ⟨i1, hi1, hz01, hz11, hz21⟩ := info_parts info24b
 obtain ⟨i2, hi2, hz02, hz12, hz22⟩ := info_parts info25b
 have HBK := J h
 obtain ⟨vp, vm, vt, hk0, hrp, hrm, hrt⟩ := h.ex
 have HK0 := J hk0
 have HO12 := J (And.intro h1 h2)
 have HG12 := J (And.intro hg1 hg2)
 have HLN : Hid (∀ r ∈ ([⟨ca, cn, cc, X1⟩] : List Rw), ∀ j, r.v.ownBlock = some j → ¬ G j) := by unfold Hid; intro r hr; simp at hr; subst hr; exact hg1
 have HNE : Hid (w.heap.size ≠ k) := fun e => by have := (h.lim k h.gk).2; omega
 have HBW1 : Hid (Below w.heap.size w ((w.alloc (.cells #[.int .i64 gB, .int .i64 gP, .int .i64 gS, .slice ca cn cc, .slice ma mn mc] 27)).alloc (.cells #[.slice ca cn cc] 24)).drew) := below_trans (below_trans (below_alloc w (.cells #[.int .i64 gB, .int .i64 gP, .int .i64 gS, .slice ca cn cc, .slice ma mn mc] 27)) (below_alloc _ (.cells #[.slice ca cn cc] 24))) (drew_below _)
 have HRP1 : Hid (((w.alloc (.cells #[.int .i64 gB, .int .i64 gP, .int .i64 gS, .slice ca cn cc, .slice ma mn mc] 27)).alloc (.cells #[.slice ca cn cc] 24)).drew.ownsRow B 24 1 vp P.length (P.map Rw.v)) := owns_bel hrp.row HBW1.out
 have HNK1 : Hid (∀ j, vp.ownBlock = some j → j ≠ k) := fun j hj e => by obtain ⟨cs, hc⟩ := own_tag hrp.row hj; rw [e, hk0] at hc; cases hc
 have HNI1 : Hid (∀ j, vp.ownBlock = some j → j ≠ w.heap.size) := fun j hj e => by obtain ⟨cs, hc⟩ := own_tag hrp.row hj; have := lt_of_block hc; omega
 have HKW1 : Hid (((w.alloc (.cells #[.int .i64 gB, .int .i64 gP, .int .i64 gS, .slice ca cn cc, .slice ma mn mc] 27)).alloc (.cells #[.slice ca cn cc] 24)).drew.heap[k]? = some (.cells #[vp, vm, vt] 76 (0, 0))) := (HBW1.out.block k (lt_of_block hk0)).trans hk0
 have HI1 : Hid (((w.alloc (.cells #[.int .i64 gB, .int .i64 gP, .int .i64 gS, .slice ca cn cc, .slice ma mn mc] 27)).alloc (.cells #[.slice ca cn cc] 24)).drew.heap[w.heap.size]? = some (.cells #[.int .i64 gB, .int .i64 gP, .int .i64 gS, .slice ca cn cc, .slice ma mn mc] 27 (0, 0))) := ((below_trans (below_alloc _ (.cells #[.slice ca cn cc] 24)) (drew_below _)).block _ (lt_of_block (alloc_new w (.cells #[.int .i64 gB, .int .i64 gP, .int .i64 gS, .slice ca cn cc, .slice ma mn mc] 27)))).trans (alloc_new w (.cells #[.int .i64 gB, .int .i64 gP, .int .i64 gS, .slice ca cn cc, .slice ma mn mc] 27))
 have HS1 : Hid ((fun u => u.cell? ⟨w.heap.size, 3, none⟩ = some (.slice ca cn cc) ∧ u.cell? ⟨w.heap.size, 4, none⟩ = some (.slice ma mn mc)) ((w.alloc (.cells #[.int .i64 gB, .int .i64 gP, .int .i64 gS, .slice ca cn cc, .slice ma mn mc] 27)).alloc (.cells #[.slice ca cn cc] 24)).drew) := (cells5 HI1.out).2.2.2
 have HNW1 : Hid (∀ j u, ([.slice ca cn cc] : List Value)[j]? = some u → (((w.alloc (.cells #[.int .i64 gB, .int .i64 gP, .int .i64 gS, .slice ca cn cc, .slice ma mn mc] 27)).alloc (.cells #[.slice ca cn cc] 24)).drew).cell? ((⟨(w.heap.size + 1), 0, none⟩ : Addr).add j) = some u) := by
  intro j u hj
  rw [plain_add, Nat.zero_add]
  match j, hj with
  | 0, hj => simp at hj; subst hj; simp
 have d01 : (w.alloc (.cells #[.int .i64 gB, .int .i64 gP, .int .i64 gS, .slice ca cn cc, .slice ma mn mc] 27)).drew.cell? ⟨k, 0, none⟩ = some vp := (cells3 (((below_alloc w (.cells #[.int .i64 gB, .int .i64 gP, .int .i64 gS, .slice ca cn cc, .slice ma mn mc] 27)).block k (lt_of_block hk0)).trans hk0)).1
 have d11 : ((w.alloc (.cells #[.int .i64 gB, .int .i64 gP, .int .i64 gS, .slice ca cn cc, .slice ma mn mc] 27)).alloc (.cells #[.slice ca cn cc] 24)).drew.cell? ⟨k, 0, none⟩ = some vp := (cells3 HKW1.out).1
 clear h hk0 h1 h2 hg1 hg2 hrp hrm hrt
 go_enter Try.func73, Try.ntmps73
 go_upto_region 1 with fail
 refine wp_region_held_drew (S := (fun u => u.cell? ⟨w.heap.size, 3, none⟩ = some (.slice ca cn cc) ∧ u.cell? ⟨w.heap.size, 4, none⟩ = some (.slice ma mn mc))) (by kernel_rfl) (⟨by simp, by simp⟩) fun O => ?_
 refine tk 0 ?_
 refine tk 1 ?_
 refine tk 2 ?_
 refine tk 3 ?_
 refine tk 5 ?_
 refine tk 6 ?_
 refine rn2 4 7 (fun K N => ?_) fun K N => ?_
 go_simp
 go_wp2_with fail
 have hZ := O
 clear O
 refine N.out _ _ hZ fun O => ?_
 clear N K hZ
 try simp only [zz]
 refine rn1 7 fun K N => ?_
 go_simp
 go_wp2_with fail
 have hZ := HS1.out
 clear O
 refine N.out _ _ hZ fun O => ?_
 clear N K hZ
 try simp only [zz]
 rotate_left
 go_simp
 go_wp2_with fail
 have hZ := HS1.out
 clear O
 refine N.out _ _ hZ fun O => ?_
 clear N K hZ
 try simp only [zz]
 refine rn1 4 fun K N => ?_
 go_simp
 go_wp2_with fail
 have hZ := O
 clear O
 refine N.out _ _ hZ fun O => ?_
 clear N K hZ
 try simp only [zz]
 all_goals
  refine rd 8 fun K N => ?_
  refine wp_append_lies _ (.tmp 8) (.tmp 11) 61 rfl B 24 i1 (.slice none 0 0) 1 24 Try.underlying61 hi1 hz01 hz11 hz21 rfl (by decide) vp P.length (P.map Rw.v) rfl HRP1.out ⟨(w.heap.size + 1), 0, none⟩ 1 1 [.slice ca cn cc] rfl rfl HNW1.out (by intro u hu; simp at hu; subst hu; rfl) (by decide) (by simp [maxLen]; omega) (by omega) (Nat.le_trans (Nat.le_trans (HBK.out.lim k HBK.out.gk).1 (Nat.le_of_lt (HBK.out.lim k HBK.out.gk).2)) HBW1.out.size) ((w.heap.size + 1) + 1) (by simp) ?_
  intro gn1 tc1 Y1 own grow lies _
  have hkY : Y1.heap[k]? = some (.cells #[vp, vm, vt] 76 (0, 0)) := (grow.block k (lt_of_block HKW1.out) (fun e => HNK1.out k e.symm rfl)).trans HKW1.out
  have hIY := (grow.block w.heap.size (lt_of_block HI1.out) (fun e => HNI1.out _ e.symm rfl)).trans HI1.out
  have HIY1 := J hIY
  have hZ : (fun u => u.cell? ⟨w.heap.size, 3, none⟩ = some (.slice ca cn cc) ∧ u.cell? ⟨w.heap.size, 4, none⟩ = some (.slice ma mn mc)) Y1 := (cells5 hIY).2.2.2
  have HOW1 := J own
  have HG1 := J grow
  have HLI1 := J lies
  have fz0 := fun j => frozen_of_row Y1 k j _ 76 hkY
  obtain ⟨e0, e1, e2⟩ := cells3 hkY
  clear own grow lies hkY hIY
  clear O
  refine N.out _ _ hZ fun O => ?_
  clear N K hZ
  try simp only [zz]
  refine tk 9 ?_
  refine tk 10 ?_
  refine rd 11 fun K N => ?_
  go_simp
  go_wp2_with fail
  have hZ : (fun u => u.cell? ⟨w.heap.size, 3, none⟩ = some (.slice ca cn cc) ∧ u.cell? ⟨w.heap.size, 4, none⟩ = some (.slice ma mn mc)) (Y1.setCell ⟨k, 0, none⟩ (.slice (some ⟨gn1, 0, none⟩) (P.length + 1) tc1)) := ⟨(Only.setCell (· = k) Y1 k 0 _ rfl).cell O.1 HNE.out, (Only.setCell (· = k) Y1 k 0 _ rfl).cell O.2 HNE.out⟩
  refine N.out _ _ hZ (fun hHeld11 => ?_)
  clear N K hZ O hHeld11
  try simp only [zz]
  refine td ?_
  clear d01 d11 e0 e1 e2 fz0
  have HZB := J (HBK.out.addP (L := [⟨ca, cn, cc, X1⟩]) HBW1.out HK0.out HOW1.out HG1.out (HLI1.out.imp id (fun e => by rw [e]; simp)) rfl (by intro r hr; simp at hr; subst hr; exact HO12.out.1) (List.pairwise_singleton _ _) HLN.out)
  have HKz0 := J (heap_setCell_same Y1 k 0 #[vp, vm, vt] 76 (.slice (some ⟨gn1, 0, none⟩) (P.length + 1) tc1) ((HG1.out.block k (lt_of_block HKW1.out) (fun e => HNK1.out k e.symm rfl)).trans HKW1.out))
  have HIz0 := J (((Only.setCell (· = k) Y1 k 0 (.slice (some ⟨gn1, 0, none⟩) (P.length + 1) tc1) rfl).block w.heap.size (lt_of_block HIY1.out) HNE.out).trans HIY1.out)
  go_upto_region 2 with fail
  generalize hz1 : Y1.setCell ⟨k, 0, none⟩ (.slice (some ⟨gn1, 0, none⟩) (P.length + 1) tc1) = z1 at HZB HKz0 HIz0 ⊢
  obtain ⟨vp1, hvp1⟩ : ∃ x, x = Value.slice (some ⟨gn1, 0, none⟩) (P.length + 1) tc1 := ⟨_, rfl⟩
  have HKz : Hid (z1.heap[k]? = some (.cells #[vp1, vm, vt] 76 (0, 0))) := by rw [hvp1]; exact HKz0.out
  have HBz : Hid (BookAt z1 B k (Gx G [⟨ca, cn, cc, X1⟩] w z1) (P ++ [⟨ca, cn, cc, X1⟩]) M T ∧ Only G w z1) := HZB.out
  have HIz := HIz0
  clear HZB HKz0 HIz0 hvp1 hz1 HKW1 HOW1 HG1 HLI1 HIY1 HI1 HNK1 HNI1 HRP1 HNW1 HS1 HBW1
  have hMrow : RowsAt z1 B (Gx G [⟨ca, cn, cc, X1⟩] w z1) 25 4 1 vm M := by
   obtain ⟨xp, xm, xt, g0, g1, g2, g3⟩ := HBz.out.1.ex
   rw [HKz.out] at g0
   cases g0
   exact g2
  have HBW2 : Hid (Below z1.heap.size z1 (z1.alloc (.cells #[.slice ma mn mc] 25)).drew) := below_trans (below_alloc z1 (.cells #[.slice ma mn mc] 25)) (drew_below _)
  have HRP2 : Hid ((z1.alloc (.cells #[.slice ma mn mc] 25)).drew.ownsRow B 25 1 vm M.length (M.map Rw.v)) := owns_bel hMrow.row HBW2.out
  have HNK2 : Hid (∀ j, vm.ownBlock = some j → j ≠ k) := fun j hj e => by obtain ⟨cs, hc⟩ := own_tag hMrow.row hj; rw [e, HKz.out] at hc; cases hc
  have HNI2 : Hid (∀ j, vm.ownBlock = some j → j ≠ w.heap.size) := fun j hj e => by obtain ⟨cs, hc⟩ := own_tag hMrow.row hj; rw [e, HIz.out] at hc; cases hc
  have HKW2 : Hid ((z1.alloc (.cells #[.slice ma mn mc] 25)).drew.heap[k]? = some (.cells #[vp1, vm, vt] 76 (0, 0))) := (HBW2.out.block k (lt_of_block HKz.out)).trans HKz.out
  have HI2 : Hid ((z1.alloc (.cells #[.slice ma mn mc] 25)).drew.heap[w.heap.size]? = some (.cells #[.int .i64 gB, .int .i64 gP, .int .i64 gS, .slice ca cn cc, .slice ma mn mc] 27 (0, 0))) := (HBW2.out.block _ (lt_of_block HIz.out)).trans HIz.out
  have HS2 : Hid ((fun u => u.cell? ⟨w.heap.size, 3, none⟩ = some (.slice ca cn cc) ∧ u.cell? ⟨w.heap.size, 4, none⟩ = some (.slice ma mn mc)) (z1.alloc (.cells #[.slice ma mn mc] 25)).drew) := (cells5 HI2.out).2.2.2
  have HNW2 : Hid (∀ j u, ([.slice ma mn mc] : List Value)[j]? = some u → ((z1.alloc (.cells #[.slice ma mn mc] 25)).drew).cell? ((⟨z1.heap.size, 0, none⟩ : Addr).add j) = some u) := by
   intro j u hj
   rw [plain_add, Nat.zero_add]
   match j, hj with
   | 0, hj => simp at hj; subst hj; simp
  have HSz : Hid ((fun u => u.cell? ⟨w.heap.size, 3, none⟩ = some (.slice ca cn cc) ∧ u.cell? ⟨w.heap.size, 4, none⟩ = some (.slice ma mn mc)) z1.drew) := (cells5 HIz.out).2.2.2
  have d02 : z1.drew.cell? ⟨k, 1, none⟩ = some vm := (cells3 HKz.out).2.1
  have d12 : (z1.alloc (.cells #[.slice ma mn mc] 25)).drew.cell? ⟨k, 1, none⟩ = some vm := (cells3 HKW2.out).2.1
  have HOM : Hid (z1.ownsRow B 4 1 (.slice ma mn mc) mn X2) := owns_keep HO12.out.2 (fun g hg => by obtain ⟨cs, hc⟩ := own_tag HO12.out.2 hg; exact HBz.out.2.block g (lt_of_block hc) (HG12.out.2 g hg))
  have HLN2 : Hid (∀ r ∈ ([⟨ma, mn, mc, X2⟩] : List Rw), ∀ j, r.v.ownBlock = some j → ¬ Gx G [⟨ca, cn, cc, X1⟩] w z1 j) := by
   unfold Hid
   intro r hr j hj e
   simp at hr
   subst hr
   have hj2 : (Value.slice ma mn mc).ownBlock = some j := hj
   obtain ⟨cs, hc⟩ := own_tag HO12.out.2 hj2
   have hlt := lt_of_block hc
   rcases e with e | ⟨r, hr, e⟩ | e
   ·exact HG12.out.2 j hj2 e
   ·simp at hr
    subst hr
    have hj3 : (Value.slice ca cn cc).ownBlock = some j := e
    obtain ⟨cs3, hc3⟩ := own_tag HO12.out.1 hj3
    rw [hc] at hc3
    cases hc3
   ·have := e.1; omega
  have HGx : Hid (∀ j, j < w.heap.size → Gx G [⟨ca, cn, cc, X1⟩] w z1 j → G j ∨ (Value.slice ca cn cc).ownBlock = some j) := fun j hj e => by
   rcases e with e | ⟨r, hr, e⟩ | e
   ·exact Or.inl e
   ·simp at hr
    subst hr
    exact Or.inr e
   ·have := e.1; omega
  have HGG : Hid (∀ w' : World, z1.heap.size ≤ w'.heap.size → ∀ j, Gx (Gx G [⟨ca, cn, cc, X1⟩] w z1) [⟨ma, mn, mc, X2⟩] z1 w' j → G j ∨ (Value.slice ca cn cc).ownBlock = some j ∨ (Value.slice ma mn mc).ownBlock = some j ∨ (w.heap.size ≤ j ∧ j < w'.heap.size)) := fun w' hs j e => by
   have hz := HBz.out.2.size
   rcases e with (e | ⟨r, hr, e⟩ | e) | ⟨r, hr, e⟩ | e
   ·exact Or.inl e
   ·simp at hr
    subst hr
    exact Or.inr (Or.inl e)
   ·exact Or.inr (Or.inr (Or.inr ⟨e.1, by have := e.2; omega⟩))
   ·simp at hr
    subst hr
    exact Or.inr (Or.inr (Or.inl e))
   ·exact Or.inr (Or.inr (Or.inr ⟨by have := e.1; omega, e.2⟩))
  clear hMrow
  have HBz1 := J HBz.out.1
  refine wp_region_held_drew (S := (fun u => u.cell? ⟨w.heap.size, 3, none⟩ = some (.slice ca cn cc) ∧ u.cell? ⟨w.heap.size, 4, none⟩ = some (.slice ma mn mc))) (by kernel_rfl) (HSz.out) fun O => ?_
  refine tk 0 ?_
  refine tk 1 ?_
  refine tk 2 ?_
  refine tk 3 ?_
  refine tk 5 ?_
  refine tk 6 ?_
  refine rn2 4 7 (fun K N => ?_) fun K N => ?_
  go_simp
  go_wp2_with fail
  have hZ := O
  clear O
  refine N.out _ _ hZ fun O => ?_
  clear N K hZ
  try simp only [zz]
  refine rn1 7 fun K N => ?_
  go_simp
  go_wp2_with fail
  have hZ := HS2.out
  clear O
  refine N.out _ _ hZ fun O => ?_
  clear N K hZ
  try simp only [zz]
  rotate_left
  go_simp
  go_wp2_with fail
  have hZ := HS2.out
  clear O
  refine N.out _ _ hZ fun O => ?_
  clear N K hZ
  try simp only [zz]
  refine rn1 4 fun K N => ?_
  go_simp
  go_wp2_with fail
  have hZ := O
  clear O
  refine N.out _ _ hZ fun O => ?_
  clear N K hZ
  try simp only [zz]
  all_goals
   refine rd 8 fun K N => ?_
   refine wp_append_lies _ (.tmp 19) (.tmp 22) 73 rfl B 25 i2 (.slice none 0 0) 1 24 Try.underlying73 hi2 hz02 hz12 hz22 rfl (by decide) vm M.length (M.map Rw.v) rfl HRP2.out ⟨z1.heap.size, 0, none⟩ 1 1 [.slice ma mn mc] rfl rfl HNW2.out (by intro u hu; simp at hu; subst hu; rfl) (by decide) (by simp [maxLen]; omega) (by omega) (Nat.le_trans (Nat.le_trans (HBz1.out.lim k HBz1.out.gk).1 (Nat.le_of_lt (HBz1.out.lim k HBz1.out.gk).2)) HBW2.out.size) (z1.heap.size + 1) (by simp) ?_
   intro gn2 tc2 Y2 own grow lies _
   have hkY : Y2.heap[k]? = some (.cells #[vp1, vm, vt] 76 (0, 0)) := (grow.block k (lt_of_block HKW2.out) (fun e => HNK2.out k e.symm rfl)).trans HKW2.out
   have hIY := (grow.block w.heap.size (lt_of_block HI2.out) (fun e => HNI2.out _ e.symm rfl)).trans HI2.out
   have HIY2 := J hIY
   have hZ : (fun u => u.cell? ⟨w.heap.size, 3, none⟩ = some (.slice ca cn cc) ∧ u.cell? ⟨w.heap.size, 4, none⟩ = some (.slice ma mn mc)) Y2 := (cells5 hIY).2.2.2
   have HOW2 := J own
   have HG2 := J grow
   have HLI2 := J lies
   have fz0 := fun j => frozen_of_row Y2 k j _ 76 hkY
   obtain ⟨e0, e1, e2⟩ := cells3 hkY
   clear own grow lies hkY hIY
   clear O
   refine N.out _ _ hZ fun O => ?_
   clear N K hZ
   try simp only [zz]
   refine tk 9 ?_
   refine tk 10 ?_
   refine rd 11 fun K N => ?_
   go_simp
   go_wp2_with fail
   have hZ : (fun u => u.cell? ⟨w.heap.size, 3, none⟩ = some (.slice ca cn cc) ∧ u.cell? ⟨w.heap.size, 4, none⟩ = some (.slice ma mn mc)) (Y2.setCell ⟨k, 1, none⟩ (.slice (some ⟨gn2, 0, none⟩) (M.length + 1) tc2)) := ⟨(Only.setCell (· = k) Y2 k 1 _ rfl).cell O.1 HNE.out, (Only.setCell (· = k) Y2 k 1 _ rfl).cell O.2 HNE.out⟩
   refine N.out _ _ hZ (fun hHeld11 => ?_)
   clear N K hZ O hHeld11
   try simp only [zz]
   refine td ?_
   clear d02 d12 e0 e1 e2 fz0
   go_wp2
   go_end0
   have hB := HBz.out.1.addM (L := [⟨ma, mn, mc, X2⟩]) HBW2.out HKz.out HOW2.out HG2.out (HLI2.out.imp id (fun e => by rw [e]; simp)) rfl (by intro r hr; simp at hr; subst hr; exact HOM.out) (List.pairwise_singleton _ _) HLN2.out
   exact ⟨rfl, _, hB.1, HGG.out _ hB.2.size, (HBz.out.2.mono (fun _ _ e => Or.inl e)).trans hB.2 (fun j hj e => HGx.out j hj e)⟩
theorem own_capG {e size c : Nat} {X : List Value} (h : w.ownsRow B e size (.slice (some ⟨g, 0, none⟩) n c) n X) : n ≤ c := by
 rcases h.2 with ⟨hv, _⟩ | ⟨gg, cap, cur, hv, _, _, h1, _⟩
 ·cases hv
 ·injection hv with h3 h4 h5
  omega
structure Cpy (w u : World) (fs xs : List Fc) : Prop where
 len : xs.length = fs.length
 ok : ∀ (i : Nat) (c d : Fc), fs[i]? = some c → xs[i]? = some d → ∃ g k, d = { c with ma := some ⟨g, 0, none⟩, mc := k } ∧ Own u w.heap.size g (c.ml + 3) k (c.m ++ [161, 178, 195])
 far : xs.Pairwise (fun c d => c.ma ≠ d.ma)
theorem Cpy.keep {v : World} {fs : List Fc} (h : Cpy w u fs xs) (hk : ∀ (g : Nat) (cs : Array Value), u.heap[g]? = some (Obj.cells cs 5 (0, 0)) → v.heap[g]? = u.heap[g]?) : Cpy w v fs xs := by
 refine ⟨h.len, fun i c d h1 h2 => ?_, h.far⟩
 obtain ⟨g, k, e, ho⟩ := h.ok i c d h1 h2
 obtain ⟨cs, hcs⟩ := own_tag ho rfl
 exact ⟨g, k, e, owns_keep ho (fun a ha => by cases ha; exact hk g cs hcs)⟩
theorem Cpy.below {v : World} {fs : List Fc} (h : Cpy w u fs xs) (hb : Below u.heap.size u v) : Cpy w v fs xs := h.keep (fun g cs hc => hb.block g (lt_of_block hc))
theorem Cpy.t {fs : List Fc} (h : Cpy w u fs xs) : xs.map Fc.t = fs.map Fc.t := by
 refine List.ext_getElem? (fun i => ?_)
 rw [List.getElem?_map, List.getElem?_map]
 by_cases hi : i < fs.length
 ·obtain ⟨c, hc⟩ : ∃ c, fs[i]? = some c := ⟨_, List.getElem?_eq_getElem hi⟩
  obtain ⟨d, hd⟩ : ∃ d, xs[i]? = some d := ⟨_, List.getElem?_eq_getElem (by rw [h.len]; exact hi)⟩
  obtain ⟨g, k, e, _⟩ := h.ok i c d hc hd
  rw [hc, hd, e]
  rfl
 ·rw [List.getElem?_eq_none (by rw [h.len]; omega), List.getElem?_eq_none (by omega)]
theorem marks_front {m : List Int} (h : Own u B g (n + 3) k (m ++ [161, 178, 195])) (hl : m.length = n) (hr : ∀ z ∈ m, (0 : Int) ≤ z ∧ z ≤ 255) : Reads u (some ⟨g, 0, none⟩) n m := by
 have h9 := h.reads (marks_range m hr) n (by omega)
 rwa [← hl, List.take_left' rfl, hl] at h9
theorem Cpy.fok {fs : List Fc} (h : Cpy w u fs xs) (hf : ∀ c ∈ fs, FcOk w c) : ∀ d ∈ xs, FcOk u d := by
 intro d hd
 obtain ⟨i, hi⟩ := List.mem_iff_getElem?.1 hd
 obtain ⟨c, hc⟩ : ∃ c, fs[i]? = some c := ⟨_, List.getElem?_eq_getElem (by have := (List.getElem?_eq_some_iff.1 hi).1; rw [h.len] at this; exact this)⟩
 obtain ⟨g, k, e, ho⟩ := h.ok i c d hc hi
 have h1 := hf c (List.mem_of_getElem? hc)
 subst e
 exact ⟨marks_front ho h1.rd.1 h1.rd.2.1, h1.le, by have := own_cap ho; show c.ml ≤ k; omega, h1.fill, h1.a, h1.k⟩
theorem Cpy.snoc {v : World} {fs : List Fc} {i : Nat} {c : Fc} (h : Cpy w u (fs.take i) xs) (hc : fs[i]? = some c) (hv : ∀ (g : Nat) (cs : Array Value), u.heap[g]? = some (Obj.cells cs 5 (0, 0)) → v.heap[g]? = u.heap[g]?) (ho : Own v w.heap.size g (c.ml + 3) k (c.m ++ [161, 178, 195])) (hg : u.heap.size ≤ g) : Cpy w v (fs.take (i + 1)) (xs ++ [{ c with ma := some ⟨g, 0, none⟩, mc := k }]) := by
 have h' := h.keep hv
 have hil : i < fs.length := (List.getElem?_eq_some_iff.1 hc).1
 have hxl : xs.length = i := by rw [h.len, List.length_take]; omega
 refine ⟨by rw [List.length_append, h.len, List.length_take, List.length_take]; simp; omega, fun j a d h1 h2 => ?_, ?_⟩
 ·by_cases hj : j < i
  ·rw [List.getElem?_take_of_lt (by omega)] at h1
   rw [List.getElem?_append_left (by omega)] at h2
   exact h'.ok j a d (by rw [List.getElem?_take_of_lt hj]; exact h1) h2
  ·have hj2 : j < i + 1 := by have := (List.getElem?_eq_some_iff.1 h1).1; rw [List.length_take] at this; omega
   have e : j = i := by omega
   subst e
   rw [List.getElem?_take_of_lt (by omega), hc] at h1
   cases h1
   rw [List.getElem?_append_right (by omega), hxl, Nat.sub_self] at h2
   have e2 : d = { c with ma := some ⟨g, 0, none⟩, mc := k } := by simpa using h2.symm
   exact ⟨g, k, e2, ho⟩
 ·rw [List.pairwise_append]
  refine ⟨h.far, List.pairwise_singleton _ _, fun a ha d hd => ?_⟩
  have e2 : d = { c with ma := some ⟨g, 0, none⟩, mc := k } := by simpa using hd
  obtain ⟨j, hj⟩ := List.mem_iff_getElem?.1 ha
  have hjl := (List.getElem?_eq_some_iff.1 hj).1
  obtain ⟨b, hb⟩ : ∃ b, (fs.take i)[j]? = some b := ⟨_, List.getElem?_eq_getElem (by rw [← h.len]; exact hjl)⟩
  obtain ⟨g2, k2, e3, ho2⟩ := h.ok j b a hb hj
  rw [e2, e3]
  intro e4
  injection e4 with e4
  injection e4 with e4
  have := ho2.lt.2
  omega
structure FtsV (w w' : World) (n : Nat) (fs : List Fc) (e : Ending) : Prop where
 ex : ∃ g c xs, e = .returned (.slice (some ⟨g, 0, none⟩) n c) ∧ w'.ownsRow w.heap.size 58 4 (.slice (some ⟨g, 0, none⟩) (n + 1) c) (n + 1) (xs.flatMap Fc.row ++ [.int .i64 (-77), .int .i64 0, .slice none 0 0, .int .u8 0]) ∧ Cpy w w' fs xs
 bel : Below w.heap.size w w'
theorem front58 (u : World) (g n c : Nat) (hc : n + 1 ≤ c) : (Instr.sliceAt 49 (.slice (some ⟨g, 0, none⟩) (n + 1) c) none (some (.int .i64 (n : Int))) none).run Try.prog u = .ok (.slice (some ⟨g, 0, none⟩) n c) u := by
 have h1 : (n : Int) ≤ c := by omega
 have h3 : (0 : Int) ≤ n := by omega
 simp [go_sem]
 omega
theorem faultsL_any (w : World) (a : Option Addr) (n cp : Nat) (fs : List Fc) (hF : ReadsF w a n fs) (hn : n ≤ 2900000000000) :
  Calls Try.prog 37 #[.slice a n cp] w fun e w' => FtsV w w' n fs e := by
 obtain ⟨i0, hI, hz0, hz1, hz2⟩ := info_parts info58
 have HF := J hF
 have HL : Hid (fs.length = n) := hF.1
 clear hF
 go_enter Try.func37, Try.ntmps37
 go_wp2
 go_loopw [3, 4, 5] (fun s3 s4 s5 wr => ∃ (i : Nat) (xs : List Fc), i ≤ n ∧ s4 = .int .i64 i ∧ (∃ va vl vc, s3 = .slice va vl vc) ∧ Hid (Below w.heap.size w wr) ∧ Hid (wr.ownsRow w.heap.size 58 4 s3 i (xs.flatMap Fc.row)) ∧ Hid (Cpy w wr (fs.take i) xs)) (fun _ s4 _ _ => n - (intOf s4).toNat)
 case atStart => exact ⟨0, [], Nat.zero_le _, rfl, ⟨none, 0, 0, rfl⟩, J (Below.refl _ _), J (World.ownsRow_nil _ _ _ _), J ⟨rfl, (fun i c d h => by simp at h), List.Pairwise.nil⟩⟩
 case round =>
  obtain ⟨i, xs, hi, rfl, ⟨va, vl, vc, rfl⟩, HBr, HRr, HCr⟩ := hrel
  by_cases hlt : i < n
  ·have d0 : decide ((i : Int) < (n : Int)) = true := decide_eq_true (by omega)
   have d1 : (i : Int) < (n : Int) := by omega
   obtain ⟨g, o, c, rfl, hci, hok, k0, k1, k2, k3⟩ := HF.out.at hlt
   have k0 := (HBr.out.cell (block_lt_of_cell k0)).trans k0
   have k1 := (HBr.out.cell (block_lt_of_cell k1)).trans k1
   have k2 := (HBr.out.cell (block_lt_of_cell k2)).trans k2
   have k3 := (HBr.out.cell (block_lt_of_cell k3)).trans k3
   have HCI := J hci
   have HOK := J hok
   have hml := hok.le
   clear hci hok
   go_upto_region 6 with fail
   have HB1 := J (below_alloc wr (.cells #[.int .i64 c.a, .int .i64 c.k, .slice c.ma c.ml c.mc, .int .u8 c.f] 58))
   have HX1 := J (alloc_new wr (.cells #[.int .i64 c.a, .int .i64 c.k, .slice c.ma c.ml c.mc, .int .u8 c.f] 58))
   generalize hU1 : wr.alloc (.cells #[.int .i64 c.a, .int .i64 c.k, .slice c.ma c.ml c.mc, .int .u8 c.f] 58) = U1 at HB1 HX1 ⊢
   generalize hq : wr.heap.size = q at HX1 ⊢
   have HQ := J hq
   obtain ⟨x0, x1, x2, x3⟩ := cells4 HX1.out
   clear hU1 hq k0 k1 k2 k3
   go_upto_region 7 with (first | (go_at_call 38; refine (marked_any c.ma c.ml c.mc c.m _ (HOK.out.rd.below (below_trans HBr.out HB1.out)) (by omega)).mono ?_; rintro e u2 ⟨g2, c2, rfl, o2, b2⟩; have HO2 := J o2; have HB2 := J b2; have hx2 := (b2.block _ (lt_of_block HX1.out)).trans HX1.out; obtain ⟨y0, y1, y2, y3⟩ := cells4 hx2; have fz2 := fun j => frozen_of_row u2 q j _ 58 hx2; have HX2 := J hx2; clear o2 b2 hx2))
   clear x0 x1 x2 x3 y0 y1 y2 y3 fz2
   have HX3 := J (heap_setCell_same u2 q 2 _ 58 (.slice (some ⟨g2, 0, none⟩) c.ml c2) HX2.out)
   have HQS := J (Only.setCell (· = q) u2 q 2 (.slice (some ⟨g2, 0, none⟩) c.ml c2) rfl)
   have HB3 : Hid (Below wr.heap.size wr (u2.setCell ⟨q, 2, none⟩ (.slice (some ⟨g2, 0, none⟩) c.ml c2))) := (below_trans HB1.out HB2.out).setCell (p := ⟨q, 2, none⟩) (by show wr.heap.size ≤ q; exact Nat.le_of_eq HQ.out) _
   have HO3 : Hid (Own (u2.setCell ⟨q, 2, none⟩ (.slice (some ⟨g2, 0, none⟩) c.ml c2)) U1.heap.size g2 (c.ml + 3) c2 (c.m ++ [161, 178, 195])) := owns_keep HO2.out (fun b hb => by cases hb; obtain ⟨cs, hcs⟩ := own_tag HO2.out rfl; exact HQS.out.block _ (lt_of_block hcs) (fun e => by rw [e, HX2.out] at hcs; cases hcs))
   generalize hU3 : u2.setCell ⟨q, 2, none⟩ (.slice (some ⟨g2, 0, none⟩) c.ml c2) = U3 at HX3 HB3 HO3 HQS ⊢
   obtain ⟨z0, z1, z2, z3⟩ := cells4 HX3.out
   have HBA := J (below_alloc U3 (.cells #[.int .i64 c.a, .int .i64 c.k, .slice (some ⟨g2, 0, none⟩) c.ml c2, .int .u8 c.f] 58))
   have HXA := J (alloc_new U3 (.cells #[.int .i64 c.a, .int .i64 c.k, .slice (some ⟨g2, 0, none⟩) c.ml c2, .int .u8 c.f] 58))
   have HRA : Hid ((U3.alloc (.cells #[.int .i64 c.a, .int .i64 c.k, .slice (some ⟨g2, 0, none⟩) c.ml c2, .int .u8 c.f] 58)).ownsRow w.heap.size 58 4 (.slice va vl vc) i (xs.flatMap Fc.row)) := owns_bel HRr.out (below_trans HB3.out HBA.out)
   have HBW := J (below_trans HBr.out (below_trans HB3.out HBA.out))
   clear hU3 HX1 HX2
   go_wp2_with (first | (at_builtin; refine wpList_append_lies _ rfl (.tmp 20) (.tmp 22) 49 rfl w.heap.size 58 i0 (.agg #[.int .i64 0, .int .i64 0, .slice none 0 0, .int .u8 0]) 4 48 Try.underlying49 hI hz0 hz1 hz2 rfl (by decide) (.slice va vl vc) i (xs.flatMap Fc.row) rfl HRA.out ⟨U3.heap.size, 0, none⟩ 1 1 [.int .i64 c.a, .int .i64 c.k, .slice (some ⟨g2, 0, none⟩) c.ml c2, .int .u8 c.f] rfl rfl (news4 HXA.out) (by intro u hu; simp at hu; rcases hu with rfl | rfl | rfl | rfl <;> rfl) (by decide) (by simp [maxLen]; omega) (by omega) HBW.out.size _ rfl ?_; intro gn cn Y own grow _ _; have HOY := J own; have HGY := J grow; clear own grow))
   have kY : ∀ (b : Nat) (cs : Array Value), wr.heap[b]? = some (Obj.cells cs 5 (0, 0)) → Y.heap[b]? = wr.heap[b]? := fun b cs hb => by
    have h1 := (below_trans HB3.out HBA.out).block b (lt_of_block hb)
    refine (HGY.out.block b (Nat.lt_of_lt_of_le (lt_of_block hb) (below_trans HB3.out HBA.out).size) (fun e => ?_)).trans h1
    obtain ⟨c9, h9⟩ := own_tag HRA.out e.symm
    rw [h1, hb] at h9
    cases h9
   have HOC : Hid (Own Y w.heap.size g2 (c.ml + 3) c2 (c.m ++ [161, 178, 195])) := by
    have h9 : Own (U3.alloc (.cells #[.int .i64 c.a, .int .i64 c.k, .slice (some ⟨g2, 0, none⟩) c.ml c2, .int .u8 c.f] 58)) U1.heap.size g2 (c.ml + 3) c2 (c.m ++ [161, 178, 195]) := owns_bel HO3.out HBA.out
    have h8 : Own Y U1.heap.size g2 (c.ml + 3) c2 (c.m ++ [161, 178, 195]) := owns_keep h9 (fun b hb => by
     cases hb
     obtain ⟨cs, hcs⟩ := own_tag h9 rfl
     refine HGY.out.block _ (lt_of_block hcs) (fun e => ?_)
     obtain ⟨c9, h9⟩ := own_tag HRA.out e.symm
     rw [hcs] at h9
     cases h9)
    exact own_mono h8 (Nat.le_trans HBr.out.size HB1.out.size)
   have HCY := J (HCr.out.snoc HCI.out kY HOC.out (Nat.le_trans HB1.out.size HO3.out.lt.1))
   have HBY := J (HBW.out.grown HGY.out HBW.out.size (fun b hb => (HRA.out.lt b hb).1))
   have HRY : Hid (Y.ownsRow w.heap.size 58 4 (.slice (some ⟨gn, 0, none⟩) (i + 1) cn) (i + 1) ((xs ++ [{ c with ma := some ⟨g2, 0, none⟩, mc := c2 }]).flatMap Fc.row)) := by
    unfold Hid
    rw [List.flatMap_append]
    exact HOY.out
   clear kY z0 z1 z2 z3
   go_roundw
   case rel => exact ⟨i + 1, _, by omega, by go_num, ⟨_, _, _, rfl⟩, HBY, HRY, HCY⟩
   case measure => simp [intOf]; omega
  ·have d0 : decide ((i : Int) < (n : Int)) = false := decide_eq_false (by omega)
   obtain rfl : i = n := by omega
   have HBA := J (below_alloc wr (.cells #[.int .i64 (-77), .int .i64 0, .slice none 0 0, .int .u8 0] 58))
   have HXA := J (alloc_new wr (.cells #[.int .i64 (-77), .int .i64 0, .slice none 0 0, .int .u8 0] 58))
   have HRA : Hid ((wr.alloc (.cells #[.int .i64 (-77), .int .i64 0, .slice none 0 0, .int .u8 0] 58)).ownsRow w.heap.size 58 4 (.slice va vl vc) i (xs.flatMap Fc.row)) := owns_bel HRr.out HBA.out
   have HBW := J (below_trans HBr.out HBA.out)
   go_wp2_with (first | (at_builtin; refine wpList_append_lies _ rfl (.tmp 24) (.tmp 26) 49 rfl w.heap.size 58 i0 (.agg #[.int .i64 0, .int .i64 0, .slice none 0 0, .int .u8 0]) 4 48 Try.underlying49 hI hz0 hz1 hz2 rfl (by decide) (.slice va vl vc) i (xs.flatMap Fc.row) rfl HRA.out ⟨wr.heap.size, 0, none⟩ 1 1 [.int .i64 (-77), .int .i64 0, .slice none 0 0, .int .u8 0] rfl rfl (news4 HXA.out) (by intro u hu; simp at hu; rcases hu with rfl | rfl | rfl | rfl <;> rfl) (by decide) (by simp [maxLen]; omega) (by omega) HBW.out.size _ rfl ?_; intro gn cn Y own grow _ _; have HOY := J own; have HGY := J grow; have hcn := own_capG own; have hfr := front58 Y gn i cn hcn; clear own grow))
   go_ret
   have kY : ∀ (b : Nat) (cs : Array Value), wr.heap[b]? = some (Obj.cells cs 5 (0, 0)) → Y.heap[b]? = wr.heap[b]? := fun b cs hb => by
    have h1 := HBA.out.block b (lt_of_block hb)
    refine (HGY.out.block b (Nat.lt_of_lt_of_le (lt_of_block hb) HBA.out.size) (fun e => ?_)).trans h1
    obtain ⟨c9, h9⟩ := own_tag HRA.out e.symm
    rw [h1, hb] at h9
    cases h9
   refine ⟨⟨gn, cn, xs, rfl, HOY.out, ?_⟩, HBW.out.grown HGY.out HBW.out.size (fun b hb => (HRA.out.lt b hb).1)⟩
   have h9 := HCr.out.keep kY
   rwa [List.take_of_length_le (by rw [HL.out]; exact Nat.le_refl _)] at h9
end Go.Proofs.Ytadlkikjfonkgaa
