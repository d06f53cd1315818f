/-
  SEAT Ytadlkikjfonkgaa: Xy, Xz.
-/
import Derived.Test.YtadlkikjfonkgaaPa
import Derived.Test.YtadlkikjfonkgaaPp
import Derived.Test.YtadlkikjfonkgaaPbc
import Derived.Test.YtadlkikjfonkgaaPx
namespace Go.Proofs.Ytadlkikjfonkgaa
open Go.RowKit Go.Conc
set_option linter.unusedVariables false
theorem info24b : (Try.prog.info? 24).map (fun i => (i.zero, i.size, i.bytes)) = some (some (.slice none 0 0), 1, 24) := by kernel_rfl
structure Rw where
 a : Option Addr
 n : Nat
 c : Nat
 xs : List Value
def Rw.v (r : Rw) : Value := .slice r.a r.n r.c
structure RowsAt (w : World) (B : Nat) (G : Nat → Prop) (E e sz : Nat) (v : Value) (L : List Rw) : Prop where
 row : w.ownsRow B E 1 v L.length (L.map Rw.v)
 own : ∀ r ∈ L, w.ownsRow B e sz r.v r.n r.xs
 far : L.Pairwise (fun r s => ∀ k, r.v.ownBlock = some k → s.v.ownBlock ≠ some k)
 gr : ∀ k, v.ownBlock = some k → G k
 gl : ∀ r ∈ L, ∀ k, r.v.ownBlock = some k → G k
theorem RowsAt.keep {w w' : World} {B : Nat} {G H : Nat → Prop} {E e sz : Nat} {v : Value} {L : List Rw} (h : RowsAt w B G E e sz v L) (hk : ∀ (k : Nat) (cs : Array Value) (t : Nat), G k → w.heap[k]? = some (.cells cs t (0, 0)) → t = E ∨ t = e → w'.heap[k]? = w.heap[k]?) (hG : ∀ k, G k → H k) : RowsAt w' B H E e sz v L :=
 ⟨owns_keep h.row (fun g hg => by obtain ⟨cs, hcs⟩ := own_tag h.row hg; exact hk g cs E (h.gr g hg) hcs (Or.inl rfl)),
  fun r hr => owns_keep (h.own r hr) (fun g hg => by obtain ⟨cs, hcs⟩ := own_tag (h.own r hr) hg; exact hk g cs e (h.gl r hr g hg) hcs (Or.inr rfl)),
  h.far, fun k hk => hG k (h.gr k hk), fun r hr k hk => hG k (h.gl r hr k hk)⟩
structure BookAt (w : World) (B k : Nat) (G : Nat → Prop) (P M T : List Rw) : Prop where
 ex : ∃ vp vm vt, w.heap[k]? = some (.cells #[vp, vm, vt] 76 (0, 0)) ∧ RowsAt w B G 24 5 1 vp P ∧ RowsAt w B G 25 4 1 vm M ∧ RowsAt w B G 45 120 4 vt T
 gk : G k
 lim : ∀ j, G j → B ≤ j ∧ j < w.heap.size
theorem BookAt.only {w w' : World} {B k : Nat} {G H : Nat → Prop} {P M T : List Rw} (h : BookAt w B k G P M T) (ho : Only H w w') (hd : ∀ j, G j → ¬ H j) : BookAt w' B k G P M T := by
 obtain ⟨vp, vm, vt, h0, h1, h2, h3⟩ := h.ex
 have hk : ∀ (j : Nat) (cs : Array Value) (t : Nat), G j → w.heap[j]? = some (.cells cs t (0, 0)) → w'.heap[j]? = w.heap[j]? := fun j cs t hg hc => ho.block j (h.lim j hg).2 (hd j hg)
 exact ⟨⟨vp, vm, vt, (ho.block _ (lt_of_block h0) (hd _ h.gk)).trans h0, h1.keep (fun j cs t hg hc _ => hk j cs t hg hc) (fun _ e => e), h2.keep (fun j cs t hg hc _ => hk j cs t hg hc) (fun _ e => e), h3.keep (fun j cs t hg hc _ => hk j cs t hg hc) (fun _ e => e)⟩, h.gk, fun j hj => ⟨(h.lim j hj).1, Nat.lt_of_lt_of_le (h.lim j hj).2 ho.size⟩⟩
theorem BookAt.below {w w' : World} {B k : Nat} {G : Nat → Prop} {P M T : List Rw} (h : BookAt w B k G P M T) (hb : Below w.heap.size w w') : BookAt w' B k G P M T :=
 h.only (Only.ofB (F := fun _ => False) hb) (fun _ _ e => e)
def Gx (G : Nat → Prop) (L : List Rw) (w w' : World) : Nat → Prop := fun j => G j ∨ (∃ r ∈ L, r.v.ownBlock = some j) ∨ (w.heap.size ≤ j ∧ j < w'.heap.size)
theorem pages_far {P L : List Rw} {G : Nat → Prop} (hP : P.Pairwise (fun r s => ∀ k, r.v.ownBlock = some k → s.v.ownBlock ≠ some k)) (hL : L.Pairwise (fun r s => ∀ k, r.v.ownBlock = some k → s.v.ownBlock ≠ some k)) (hg : ∀ r ∈ P, ∀ k, r.v.ownBlock = some k → G k) (hn : ∀ r ∈ L, ∀ k, r.v.ownBlock = some k → ¬ G k) : (P ++ L).Pairwise (fun r s => ∀ k, r.v.ownBlock = some k → s.v.ownBlock ≠ some k) := by
 rw [List.pairwise_append]
 exact ⟨hP, hL, fun r hr s hs k h1 h2 => hn s hs k h2 (hg r hr k h1)⟩
theorem BookAt.addP {w W Y z : World} {B k : Nat} {G : Nat → Prop} {P M T L : List Rw} {gn tc : Nat} {vp vm vt : Value} (h : BookAt w B k G P M T) (hb : Below w.heap.size w W) (h0 : w.heap[k]? = some (.cells #[vp, vm, vt] 76 (0, 0))) (own : Y.ownsRow B 24 1 (.slice (some ⟨gn, 0, none⟩) (P.length + L.length) tc) (P.length + L.length) (P.map Rw.v ++ L.map Rw.v)) (grow : W.grownBy Y vp.ownBlock) (lies : vp.ownBlock = some gn ∨ W.heap.size ≤ gn) (hz : Y.setCell ⟨k, 0, none⟩ (.slice (some ⟨gn, 0, none⟩) (P.length + L.length) tc) = z)
  (hL : ∀ r ∈ L, w.ownsRow B 5 1 r.v r.n r.xs) (hLf : L.Pairwise (fun r s => ∀ k, r.v.ownBlock = some k → s.v.ownBlock ≠ some k)) (hLn : ∀ r ∈ L, ∀ j, r.v.ownBlock = some j → ¬ G j) : BookAt z B k (Gx G L w z) (P ++ L) M T ∧ Only G w z := by
 obtain ⟨vp', vm', vt', h0', h1, h2, h3⟩ := h.ex
 rw [h0] at h0'
 cases h0'
 have oY : Only (fun j => vp.ownBlock = some j) W Y := Only.ofG grow (fun j e => e)
 have oZ : Only (· = k) Y z := by rw [← hz]; exact Only.setCell (· = k) Y k 0 _ rfl
 have hvk : ∀ j, vp.ownBlock = some j → ∃ cs, w.heap[j]? = some (.cells cs 24 (0, 0)) := fun j hj => own_tag h1.row hj
 have s0 := hb.size
 have s1 := oY.size
 have s2 := oZ.size
 have hne : ∀ (j : Nat) (cs : Array Value) (t : Nat), w.heap[j]? = some (.cells cs t (0, 0)) → t ≠ 24 → t ≠ 76 → z.heap[j]? = w.heap[j]? := fun j cs t hc n1 n2 => by
  have hj := lt_of_block hc
  refine (oZ.block j (by omega) (fun e => ?_)).trans ((oY.block j (by omega) (fun e => ?_)).trans (hb.block j hj))
  ·have e' : j = k := e
   rw [e', h0] at hc; cases hc; exact n2 rfl
  ·obtain ⟨cs', hc'⟩ := hvk j e
   rw [hc'] at hc; cases hc; exact n1 rfl
 have hzk : z.heap[k]? = some (.cells #[.slice (some ⟨gn, 0, none⟩) (P.length + L.length) tc, vm, vt] 76 (0, 0)) := by
  have hk1 : W.heap[k]? = some (.cells #[vp, vm, vt] 76 (0, 0)) := (hb.block k (lt_of_block h0)).trans h0
  have hk2 : Y.heap[k]? = some (.cells #[vp, vm, vt] 76 (0, 0)) := (oY.block k (lt_of_block hk1) (fun e => by obtain ⟨cs', hc'⟩ := hvk k e; rw [hc'] at h0; cases h0)).trans hk1
  rw [← hz]
  exact heap_setCell_same Y k 0 #[vp, vm, vt] 76 _ hk2
 have hgn : gn < z.heap.size := by
  obtain ⟨cs, hc⟩ := own_tag own rfl
  have h7 : gn < Y.heap.size := lt_of_block hc
  omega
 have hGgn : G gn ∨ w.heap.size ≤ gn := lies.elim (fun e => Or.inl (h1.gr gn e)) (fun e => Or.inr (by omega))
 have hnk : gn ≠ k := fun e => by
  rcases lies with e1 | e1
  ·obtain ⟨cs', hc'⟩ := hvk gn e1; rw [e, h0] at hc'; cases hc'
  ·have := lt_of_block h0; omega
 have hGx : ∀ j, G j → Gx G L w z j := fun j e => Or.inl e
 refine ⟨⟨⟨_, vm, vt, hzk, ⟨?_, fun r hr => ?_, pages_far h1.far hLf h1.gl hLn, fun j hj => ?_, fun r hr j hj => ?_⟩, h2.keep (fun j cs t hg hc ht => hne j cs t hc (by omega) (by omega)) hGx, h3.keep (fun j cs t hg hc ht => hne j cs t hc (by omega) (by omega)) hGx⟩, Or.inl h.gk, fun j hj => ?_⟩, ?_⟩
 ·have h9 := owns_keep (w' := z) own (fun g hg => oZ.block g (by obtain ⟨cs, hc⟩ := own_tag own hg; exact lt_of_block hc) (fun e => by have e2 : gn = g := Option.some.inj hg; exact hnk (e2.trans e)))
  rw [List.length_append, List.map_append]
  exact h9
 ·rcases List.mem_append.1 hr with h9 | h9
  ·exact owns_keep (h1.own r h9) (fun g hg => by obtain ⟨cs, hc⟩ := own_tag (h1.own r h9) hg; exact hne g cs 5 hc (by omega) (by omega))
  ·exact owns_keep (hL r h9) (fun g hg => by obtain ⟨cs, hc⟩ := own_tag (hL r h9) hg; exact hne g cs 5 hc (by omega) (by omega))
 ·have e2 : gn = j := Option.some.inj hj
  rw [← e2]
  exact hGgn.elim (fun e => Or.inl e) (fun e => Or.inr (Or.inr ⟨e, hgn⟩))
 ·rcases List.mem_append.1 hr with h9 | h9
  ·exact Or.inl (h1.gl r h9 j hj)
  ·exact Or.inr (Or.inl ⟨r, h9, hj⟩)
 ·have hBk := h.lim k h.gk
  rcases hj with e | ⟨r, hr, e⟩ | e
  ·have := h.lim j e; exact ⟨this.1, by omega⟩
  ·have h8 := (hL r hr).lt j e
   exact ⟨h8.1, by omega⟩
  ·exact ⟨by have := e.1; omega, e.2⟩
 ·have e1 : Only G w W := Only.ofB hb
  exact (e1.trans oY (fun j _ e => h1.gr j e)).trans oZ (fun j _ e => by have e' : j = k := e; rw [e']; exact h.gk)
set_option maxRecDepth 100000 in
set_option maxHeartbeats 2000000 in
theorem page71_any (w : World) (B k : Nat) (G : Nat → Prop) (P M T : List Rw) (h : BookAt w B k G P M T) (hl : P.length ≤ 1000000000000) (a1 : Option Addr) (n1 c1 : Nat) (X1 : List Value) (a2 : Option Addr) (n2 c2 : Nat) (X2 : List Value) (h1 : w.ownsRow B 5 1 (.slice a1 n1 c1) n1 X1) (h2 : w.ownsRow B 5 1 (.slice a2 n2 c2) n2 X2) (hf : ∀ g, (Value.slice a1 n1 c1).ownBlock = some g → (Value.slice a2 n2 c2).ownBlock ≠ some g) (hg1 : ∀ j, (Value.slice a1 n1 c1).ownBlock = some j → ¬ G j) (hg2 : ∀ j, (Value.slice a2 n2 c2).ownBlock = some j → ¬ G j) :
  Calls Try.prog 71 #[.pointer (some ⟨k, 0, none⟩), .agg #[.slice a1 n1 c1, .slice a2 n2 c2]] w fun e w' => e = .returned (.tuple #[]) ∧ BookAt w' B k (Gx G [⟨a1, n1, c1, X1⟩, ⟨a2, n2, c2, X2⟩] w w') (P ++ [⟨a1, n1, c1, X1⟩, ⟨a2, n2, c2, X2⟩]) M T ∧ Only G w w' := by
 obtain ⟨i0, hi, hz0, hz1, hz2⟩ := info_parts info24b
 have HBK := hide h
 obtain ⟨vp, vm, vt, hk0, hrp, hrm, hrt⟩ := h.ex
 have HK0 := hide hk0
 have HO12 := hide (And.intro h1 h2)
 have HLF : Hid (([⟨a1, n1, c1, X1⟩, ⟨a2, n2, c2, X2⟩] : List Rw).Pairwise (fun r s => ∀ k, r.v.ownBlock = some k → s.v.ownBlock ≠ some k)) := List.Pairwise.cons (fun s hs => by simp at hs; subst hs; exact hf) (List.pairwise_singleton _ _)
 have HLN : Hid (∀ r ∈ ([⟨a1, n1, c1, X1⟩, ⟨a2, n2, c2, X2⟩] : List Rw), ∀ j, r.v.ownBlock = some j → ¬ G j) := by unfold Hid; intro r hr; simp at hr; (rcases hr with rfl | rfl) <;> first | exact hg1 | exact hg2
 have HBW : Hid (Below w.heap.size w ((w.alloc (.cells #[.slice a1 n1 c1, .slice a2 n2 c2] 36)).alloc (.cells #[.slice a1 n1 c1, .slice a2 n2 c2] 24)).drew) := below_trans (below_trans (below_alloc w (.cells #[.slice a1 n1 c1, .slice a2 n2 c2] 36)) (below_alloc _ (.cells #[.slice a1 n1 c1, .slice a2 n2 c2] 24))) (drew_below _)
 have HRP : Hid (((w.alloc (.cells #[.slice a1 n1 c1, .slice a2 n2 c2] 36)).alloc (.cells #[.slice a1 n1 c1, .slice a2 n2 c2] 24)).drew.ownsRow B 24 1 vp P.length (P.map Rw.v)) := owns_bel hrp.row HBW.out
 have HRG := hide hrp.gr
 have HNK : Hid (∀ j, vp.ownBlock = some j → j ≠ k) := fun j hj e => by obtain ⟨cs, hc⟩ := own_tag hrp.row hj; rw [e, hk0] at hc; cases hc
 have HKW : Hid (((w.alloc (.cells #[.slice a1 n1 c1, .slice a2 n2 c2] 36)).alloc (.cells #[.slice a1 n1 c1, .slice a2 n2 c2] 24)).drew.heap[k]? = some (.cells #[vp, vm, vt] 76 (0, 0))) := (HBW.out.block k (lt_of_block hk0)).trans hk0
 have HS0 : Hid ((fun u => u.cell? ⟨w.heap.size, 0, none⟩ = some (.slice a1 n1 c1) ∧ u.cell? ⟨w.heap.size, 1, none⟩ = some (.slice a2 n2 c2)) ((w.alloc (.cells #[.slice a1 n1 c1, .slice a2 n2 c2] 36)).alloc (.cells #[.slice a1 n1 c1, .slice a2 n2 c2] 24)).drew) := ⟨by simp, by simp⟩
 have HNW : Hid (∀ j u, ([.slice a1 n1 c1, .slice a2 n2 c2] : List Value)[j]? = some u → (((w.alloc (.cells #[.slice a1 n1 c1, .slice a2 n2 c2] 36)).alloc (.cells #[.slice a1 n1 c1, .slice a2 n2 c2] 24)).drew).cell? ((⟨w.heap.size + 1, 0, none⟩ : Addr).add j) = some u) := by
  intro j u hj
  rw [plain_add, Nat.zero_add]
  match j, hj with
  | 0, hj => simp at hj; subst hj; simp
  | 1, hj => simp at hj; subst hj; simp
 have c0 : (w.alloc (.cells #[.slice a1 n1 c1, .slice a2 n2 c2] 36)).drew.cell? ⟨k, 0, none⟩ = some vp := (cells3 (((below_alloc w (.cells #[.slice a1 n1 c1, .slice a2 n2 c2] 36)).block k (lt_of_block hk0)).trans hk0)).1
 have c1b : ((w.alloc (.cells #[.slice a1 n1 c1, .slice a2 n2 c2] 36)).alloc (.cells #[.slice a1 n1 c1, .slice a2 n2 c2] 24)).drew.cell? ⟨k, 0, none⟩ = some vp := (cells3 HKW.out).1
 clear h hk0 h1 h2 hf hg1 hg2 hrp hrm hrt
 go_enter Try.func71, Try.ntmps71
 go_wp2
 refine wp_region_held_drew (S := (fun u => u.cell? ⟨w.heap.size, 0, none⟩ = some (.slice a1 n1 c1) ∧ u.cell? ⟨w.heap.size, 1, none⟩ = some (.slice a2 n2 c2))) (by kernel_rfl) (⟨by simp, by simp⟩) (fun hHeld => ?_)
 refine tk 0 ?_
 refine tk 1 ?_
 refine tk 2 ?_
 refine tk 3 ?_
 refine tk 5 ?_
 refine tk 6 ?_
 refine tk 7 ?_
 refine tk 8 ?_
 refine wpAnyH_ready (rs := [4, 9]) (by kernel_rfl) (by simp) ?_
 refine AllReadyH.cons (o := { dst := some 8, op := Op.load 61 (Operand.tmp 7), type := 61, pos := "book.go:14", after := #[{ on := 3, ground := Ground.data }], guard := none }) rfl (fun K hK => ?_) (AllReadyH.cons (o := { dst := some 13, op := Op.buildSlice 61 2 #[(0, Operand.tmp 10), (1, Operand.tmp 12)], type := 61, pos := "book.go:14", after := #[{ on := 6, ground := Ground.data }, { on := 8, ground := Ground.data }], guard := none }) rfl (fun K hK => ?_) AllReadyH.nil)
 ·go_simp
  go_wp2_with fail
  have hSnew := hHeld
  refine hK.out _ _ hSnew (fun hHeld4 => ?_)
  clear hK K hSnew hHeld
  have hHeld := hHeld4
  clear hHeld4
  try simp only [Act.put, zSt, zS0, zS1]
  refine rd 9 (fun K hK => ?_)
  go_simp
  go_wp2_with fail
  have hSnew := HS0.out
  refine hK.out _ _ hSnew (fun hHeld9 => ?_)
  clear hK K hSnew hHeld
  have hHeld := hHeld9
  clear hHeld9
  try simp only [Act.put, zSt, zS0, zS1]
  refine rd 10 (fun K hK => ?_)
  refine wp_append_lies _ (.tmp 8) (.tmp 13) 61 rfl B 24 i0 (.slice none 0 0) 1 24 Try.underlying61 hi hz0 hz1 hz2 rfl (by decide) vp P.length (P.map Rw.v) rfl HRP.out ⟨w.heap.size + 1, 0, none⟩ 2 2 [.slice a1 n1 c1, .slice a2 n2 c2] rfl rfl HNW.out (by intro u hu; simp at hu; rcases hu with rfl | rfl <;> rfl) (by decide) (by simp [maxLen]; omega) (by omega) (Nat.le_trans (Nat.le_trans (HBK.out.lim k HBK.out.gk).1 (Nat.le_of_lt (HBK.out.lim k HBK.out.gk).2)) HBW.out.size) (w.heap.size + 2) (by simp) ?_
  intro gn tc Y own grow lies _
  have kb : ∀ g, vp.ownBlock = some g → g < w.heap.size := fun g hg => (HBK.out.lim g (HRG.out g hg)).2
  have hkY : Y.heap[k]? = some (.cells #[vp, vm, vt] 76 (0, 0)) := (grow.block k (lt_of_block HKW.out) (fun e => HNK.out k e.symm rfl)).trans HKW.out
  have hSnew : (fun u => u.cell? ⟨w.heap.size, 0, none⟩ = some (.slice a1 n1 c1) ∧ u.cell? ⟨w.heap.size, 1, none⟩ = some (.slice a2 n2 c2)) Y := ⟨grow.cell HS0.out.1 (fun e => Nat.lt_irrefl _ (kb _ e.symm)), grow.cell HS0.out.2 (fun e => Nat.lt_irrefl _ (kb _ e.symm))⟩
  have HOW := hide own
  have HG := hide grow
  have HLI := hide lies
  have HKY := hide hkY
  have fz0 := fun j => frozen_of_row Y k j _ 76 hkY
  obtain ⟨e0, e1, e2⟩ := cells3 hkY
  clear own grow lies kb hkY
  refine hK.out _ _ hSnew (fun hHeld10 => ?_)
  clear hK K hSnew hHeld
  have hHeld := hHeld10
  clear hHeld10
  try simp only [Act.put, zSt, zS0, zS1]
  refine tk 11 ?_
  refine tk 12 ?_
  refine rd 13 (fun K hK => ?_)
  go_simp
  go_wp2_with fail
  have hn0 : w.heap.size ≠ k := fun e => by have := (HBK.out.lim k HBK.out.gk).2; omega
  have hSnew : (fun u => u.cell? ⟨w.heap.size, 0, none⟩ = some (.slice a1 n1 c1) ∧ u.cell? ⟨w.heap.size, 1, none⟩ = some (.slice a2 n2 c2)) (Y.setCell ⟨k, 0, none⟩ (.slice (some ⟨gn, 0, none⟩) (P.length + 2) tc)) := ⟨(Only.setCell (· = k) Y k 0 _ rfl).cell hHeld.1 hn0, (Only.setCell (· = k) Y k 0 _ rfl).cell hHeld.2 hn0⟩
  refine hK.out _ _ hSnew (fun hHeld13 => ?_)
  clear hK K hSnew hHeld hHeld13
  try simp only [Act.put, zSt, zS0, zS1]
  refine wpAnyH_done (by kernel_rfl) ?_ _
  clear c0 c1b
  go_wp2
  go_end0
  exact ⟨rfl, HBK.out.addP (L := [⟨a1, n1, c1, X1⟩, ⟨a2, n2, c2, X2⟩]) HBW.out HK0.out HOW.out HG.out (HLI.out.imp id (fun e => by rw [e]; simp)) rfl (by intro r hr; simp at hr; (rcases hr with rfl | rfl) <;> first | exact HO12.out.1 | exact HO12.out.2) HLF.out HLN.out⟩
 ·go_simp
  go_wp2_with fail
  have hSnew := HS0.out
  refine hK.out _ _ hSnew (fun hHeld9 => ?_)
  clear hK K hSnew hHeld
  have hHeld := hHeld9
  clear hHeld9
  try simp only [Act.put, zSt, zS0, zS1]
  refine rd 4 (fun K hK => ?_)
  go_simp
  go_wp2_with fail
  have hSnew := hHeld
  refine hK.out _ _ hSnew (fun hHeld4 => ?_)
  clear hK K hSnew hHeld
  have hHeld := hHeld4
  clear hHeld4
  try simp only [Act.put, zSt, zS0, zS1]
  refine rd 10 (fun K hK => ?_)
  refine wp_append_lies _ (.tmp 8) (.tmp 13) 61 rfl B 24 i0 (.slice none 0 0) 1 24 Try.underlying61 hi hz0 hz1 hz2 rfl (by decide) vp P.length (P.map Rw.v) rfl HRP.out ⟨w.heap.size + 1, 0, none⟩ 2 2 [.slice a1 n1 c1, .slice a2 n2 c2] rfl rfl HNW.out (by intro u hu; simp at hu; rcases hu with rfl | rfl <;> rfl) (by decide) (by simp [maxLen]; omega) (by omega) (Nat.le_trans (Nat.le_trans (HBK.out.lim k HBK.out.gk).1 (Nat.le_of_lt (HBK.out.lim k HBK.out.gk).2)) HBW.out.size) (w.heap.size + 2) (by simp) ?_
  intro gn tc Y own grow lies _
  have kb : ∀ g, vp.ownBlock = some g → g < w.heap.size := fun g hg => (HBK.out.lim g (HRG.out g hg)).2
  have hkY : Y.heap[k]? = some (.cells #[vp, vm, vt] 76 (0, 0)) := (grow.block k (lt_of_block HKW.out) (fun e => HNK.out k e.symm rfl)).trans HKW.out
  have hSnew : (fun u => u.cell? ⟨w.heap.size, 0, none⟩ = some (.slice a1 n1 c1) ∧ u.cell? ⟨w.heap.size, 1, none⟩ = some (.slice a2 n2 c2)) Y := ⟨grow.cell HS0.out.1 (fun e => Nat.lt_irrefl _ (kb _ e.symm)), grow.cell HS0.out.2 (fun e => Nat.lt_irrefl _ (kb _ e.symm))⟩
  have HOW := hide own
  have HG := hide grow
  have HLI := hide lies
  have HKY := hide hkY
  have fz0 := fun j => frozen_of_row Y k j _ 76 hkY
  obtain ⟨e0, e1, e2⟩ := cells3 hkY
  clear own grow lies kb hkY
  refine hK.out _ _ hSnew (fun hHeld10 => ?_)
  clear hK K hSnew hHeld
  have hHeld := hHeld10
  clear hHeld10
  try simp only [Act.put, zSt, zS0, zS1]
  refine tk 11 ?_
  refine tk 12 ?_
  refine rd 13 (fun K hK => ?_)
  go_simp
  go_wp2_with fail
  have hn0 : w.heap.size ≠ k := fun e => by have := (HBK.out.lim k HBK.out.gk).2; omega
  have hSnew : (fun u => u.cell? ⟨w.heap.size, 0, none⟩ = some (.slice a1 n1 c1) ∧ u.cell? ⟨w.heap.size, 1, none⟩ = some (.slice a2 n2 c2)) (Y.setCell ⟨k, 0, none⟩ (.slice (some ⟨gn, 0, none⟩) (P.length + 2) tc)) := ⟨(Only.setCell (· = k) Y k 0 _ rfl).cell hHeld.1 hn0, (Only.setCell (· = k) Y k 0 _ rfl).cell hHeld.2 hn0⟩
  refine hK.out _ _ hSnew (fun hHeld13 => ?_)
  clear hK K hSnew hHeld hHeld13
  try simp only [Act.put, zSt, zS0, zS1]
  refine wpAnyH_done (by kernel_rfl) ?_ _
  clear c0 c1b
  go_wp2
  go_end0
  exact ⟨rfl, HBK.out.addP (L := [⟨a1, n1, c1, X1⟩, ⟨a2, n2, c2, X2⟩]) HBW.out HK0.out HOW.out HG.out (HLI.out.imp id (fun e => by rw [e]; simp)) rfl (by intro r hr; simp at hr; (rcases hr with rfl | rfl) <;> first | exact HO12.out.1 | exact HO12.out.2) HLF.out HLN.out⟩
end Go.Proofs.Ytadlkikjfonkgaa
namespace Go.Proofs.Ytadlkikjfonkgaa
open Go.RowKit Go.Conc
set_option linter.unusedVariables false
theorem BookAt.addM {w W Y z : World} {B k : Nat} {G : Nat → Prop} {P M T L : List Rw} {gn tc : Nat} {vp vm vt : Value} (h : BookAt w B k G P M T) (hb : Below w.heap.size w W) (h0 : w.heap[k]? = some (.cells #[vp, vm, vt] 76 (0, 0))) (own : Y.ownsRow B 25 1 (.slice (some ⟨gn, 0, none⟩) (M.length + L.length) tc) (M.length + L.length) (M.map Rw.v ++ L.map Rw.v)) (grow : W.grownBy Y vm.ownBlock) (lies : vm.ownBlock = some gn ∨ W.heap.size ≤ gn) (hz : Y.setCell ⟨k, 1, none⟩ (.slice (some ⟨gn, 0, none⟩) (M.length + L.length) tc) = z)
  (hL : ∀ r ∈ L, w.ownsRow B 4 1 r.v r.n r.xs) (hLf : L.Pairwise (fun r s => ∀ k, r.v.ownBlock = some k → s.v.ownBlock ≠ some k)) (hLn : ∀ r ∈ L, ∀ j, r.v.ownBlock = some j → ¬ G j) : BookAt z B k (Gx G L w z) P (M ++ L) T ∧ Only G w z := by
 obtain ⟨vp', vm', vt', h0', h1, h2, h3⟩ := h.ex
 rw [h0] at h0'
 cases h0'
 have oY : Only (fun j => vm.ownBlock = some j) W Y := Only.ofG grow (fun j e => e)
 have oZ : Only (· = k) Y z := by rw [← hz]; exact Only.setCell (· = k) Y k 1 _ rfl
 have hvk : ∀ j, vm.ownBlock = some j → ∃ cs, w.heap[j]? = some (.cells cs 25 (0, 0)) := fun j hj => own_tag h2.row hj
 have s0 := hb.size
 have s1 := oY.size
 have s2 := oZ.size
 have hne : ∀ (j : Nat) (cs : Array Value) (t : Nat), w.heap[j]? = some (.cells cs t (0, 0)) → t ≠ 25 → t ≠ 76 → z.heap[j]? = w.heap[j]? := fun j cs t hc n1 n2 => by
  have hj := lt_of_block hc
  refine (oZ.block j (by omega) (fun e => ?_)).trans ((oY.block j (by omega) (fun e => ?_)).trans (hb.block j hj))
  ·have e' : j = k := e
   rw [e', h0] at hc; cases hc; exact n2 rfl
  ·obtain ⟨cs', hc'⟩ := hvk j e
   rw [hc'] at hc; cases hc; exact n1 rfl
 have hzk : z.heap[k]? = some (.cells #[vp, .slice (some ⟨gn, 0, none⟩) (M.length + L.length) tc, vt] 76 (0, 0)) := by
  have hk1 : W.heap[k]? = some (.cells #[vp, vm, vt] 76 (0, 0)) := (hb.block k (lt_of_block h0)).trans h0
  have hk2 : Y.heap[k]? = some (.cells #[vp, vm, vt] 76 (0, 0)) := (oY.block k (lt_of_block hk1) (fun e => by obtain ⟨cs', hc'⟩ := hvk k e; rw [hc'] at h0; cases h0)).trans hk1
  rw [← hz]
  exact heap_setCell_same Y k 1 #[vp, vm, vt] 76 _ hk2
 have hgn : gn < z.heap.size := by
  obtain ⟨cs, hc⟩ := own_tag own rfl
  have h7 : gn < Y.heap.size := lt_of_block hc
  omega
 have hGgn : G gn ∨ w.heap.size ≤ gn := lies.elim (fun e => Or.inl (h2.gr gn e)) (fun e => Or.inr (by omega))
 have hnk : gn ≠ k := fun e => by
  rcases lies with e1 | e1
  ·obtain ⟨cs', hc'⟩ := hvk gn e1; rw [e, h0] at hc'; cases hc'
  ·have := lt_of_block h0; omega
 have hGx : ∀ j, G j → Gx G L w z j := fun j e => Or.inl e
 refine ⟨⟨⟨vp, _, vt, hzk, h1.keep (fun j cs t hg hc ht => hne j cs t hc (by omega) (by omega)) hGx, ⟨?_, fun r hr => ?_, pages_far h2.far hLf h2.gl hLn, fun j hj => ?_, fun r hr j hj => ?_⟩, h3.keep (fun j cs t hg hc ht => hne j cs t hc (by omega) (by omega)) hGx⟩, Or.inl h.gk, fun j hj => ?_⟩, ?_⟩
 ·have h9 := owns_keep (w' := z) own (fun g hg => oZ.block g (by obtain ⟨cs, hc⟩ := own_tag own hg; exact lt_of_block hc) (fun e => by have e2 : gn = g := Option.some.inj hg; exact hnk (e2.trans e)))
  rw [List.length_append, List.map_append]
  exact h9
 ·rcases List.mem_append.1 hr with h9 | h9
  ·exact owns_keep (h2.own r h9) (fun g hg => by obtain ⟨cs, hc⟩ := own_tag (h2.own r h9) hg; exact hne g cs 4 hc (by omega) (by omega))
  ·exact owns_keep (hL r h9) (fun g hg => by obtain ⟨cs, hc⟩ := own_tag (hL r h9) hg; exact hne g cs 4 hc (by omega) (by omega))
 ·have e2 : gn = j := Option.some.inj hj
  rw [← e2]
  exact hGgn.elim (fun e => Or.inl e) (fun e => Or.inr (Or.inr ⟨e, hgn⟩))
 ·rcases List.mem_append.1 hr with h9 | h9
  ·exact Or.inl (h2.gl r h9 j hj)
  ·exact Or.inr (Or.inl ⟨r, h9, hj⟩)
 ·have hBk := h.lim k h.gk
  rcases hj with e | ⟨r, hr, e⟩ | e
  ·have := h.lim j e; exact ⟨this.1, by omega⟩
  ·have h8 := (hL r hr).lt j e
   exact ⟨h8.1, by omega⟩
  ·exact ⟨by have := e.1; omega, e.2⟩
 ·have e1 : Only G w W := Only.ofB hb
  exact (e1.trans oY (fun j _ e => h2.gr j e)).trans oZ (fun j _ e => by have e' : j = k := e; rw [e']; exact h.gk)
theorem BookAt.addT {w W Y z : World} {B k : Nat} {G : Nat → Prop} {P M T L : List Rw} {gn tc : Nat} {vp vm vt : Value} (h : BookAt w B k G P M T) (hb : Below w.heap.size w W) (h0 : w.heap[k]? = some (.cells #[vp, vm, vt] 76 (0, 0))) (own : Y.ownsRow B 45 1 (.slice (some ⟨gn, 0, none⟩) (T.length + L.length) tc) (T.length + L.length) (T.map Rw.v ++ L.map Rw.v)) (grow : W.grownBy Y vt.ownBlock) (lies : vt.ownBlock = some gn ∨ W.heap.size ≤ gn) (hz : Y.setCell ⟨k, 2, none⟩ (.slice (some ⟨gn, 0, none⟩) (T.length + L.length) tc) = z)
  (hL : ∀ r ∈ L, w.ownsRow B 120 4 r.v r.n r.xs) (hLf : L.Pairwise (fun r s => ∀ k, r.v.ownBlock = some k → s.v.ownBlock ≠ some k)) (hLn : ∀ r ∈ L, ∀ j, r.v.ownBlock = some j → ¬ G j) : BookAt z B k (Gx G L w z) P M (T ++ L) ∧ Only G w z := by
 obtain ⟨vp', vm', vt', h0', h1, h2, h3⟩ := h.ex
 rw [h0] at h0'
 cases h0'
 have oY : Only (fun j => vt.ownBlock = some j) W Y := Only.ofG grow (fun j e => e)
 have oZ : Only (· = k) Y z := by rw [← hz]; exact Only.setCell (· = k) Y k 2 _ rfl
 have hvk : ∀ j, vt.ownBlock = some j → ∃ cs, w.heap[j]? = some (.cells cs 45 (0, 0)) := fun j hj => own_tag h3.row hj
 have s0 := hb.size
 have s1 := oY.size
 have s2 := oZ.size
 have hne : ∀ (j : Nat) (cs : Array Value) (t : Nat), w.heap[j]? = some (.cells cs t (0, 0)) → t ≠ 45 → t ≠ 76 → z.heap[j]? = w.heap[j]? := fun j cs t hc n1 n2 => by
  have hj := lt_of_block hc
  refine (oZ.block j (by omega) (fun e => ?_)).trans ((oY.block j (by omega) (fun e => ?_)).trans (hb.block j hj))
  ·have e' : j = k := e
   rw [e', h0] at hc; cases hc; exact n2 rfl
  ·obtain ⟨cs', hc'⟩ := hvk j e
   rw [hc'] at hc; cases hc; exact n1 rfl
 have hzk : z.heap[k]? = some (.cells #[vp, vm, .slice (some ⟨gn, 0, none⟩) (T.length + L.length) tc] 76 (0, 0)) := by
  have hk1 : W.heap[k]? = some (.cells #[vp, vm, vt] 76 (0, 0)) := (hb.block k (lt_of_block h0)).trans h0
  have hk2 : Y.heap[k]? = some (.cells #[vp, vm, vt] 76 (0, 0)) := (oY.block k (lt_of_block hk1) (fun e => by obtain ⟨cs', hc'⟩ := hvk k e; rw [hc'] at h0; cases h0)).trans hk1
  rw [← hz]
  exact heap_setCell_same Y k 2 #[vp, vm, vt] 76 _ hk2
 have hgn : gn < z.heap.size := by
  obtain ⟨cs, hc⟩ := own_tag own rfl
  have h7 : gn < Y.heap.size := lt_of_block hc
  omega
 have hGgn : G gn ∨ w.heap.size ≤ gn := lies.elim (fun e => Or.inl (h3.gr gn e)) (fun e => Or.inr (by omega))
 have hnk : gn ≠ k := fun e => by
  rcases lies with e1 | e1
  ·obtain ⟨cs', hc'⟩ := hvk gn e1; rw [e, h0] at hc'; cases hc'
  ·have := lt_of_block h0; omega
 have hGx : ∀ j, G j → Gx G L w z j := fun j e => Or.inl e
 refine ⟨⟨⟨vp, vm, _, hzk, h1.keep (fun j cs t hg hc ht => hne j cs t hc (by omega) (by omega)) hGx, h2.keep (fun j cs t hg hc ht => hne j cs t hc (by omega) (by omega)) hGx, ⟨?_, fun r hr => ?_, pages_far h3.far hLf h3.gl hLn, fun j hj => ?_, fun r hr j hj => ?_⟩⟩, Or.inl h.gk, fun j hj => ?_⟩, ?_⟩
 ·have h9 := owns_keep (w' := z) own (fun g hg => oZ.block g (by obtain ⟨cs, hc⟩ := own_tag own hg; exact lt_of_block hc) (fun e => by have e2 : gn = g := Option.some.inj hg; exact hnk (e2.trans e)))
  rw [List.length_append, List.map_append]
  exact h9
 ·rcases List.mem_append.1 hr with h9 | h9
  ·exact owns_keep (h3.own r h9) (fun g hg => by obtain ⟨cs, hc⟩ := own_tag (h3.own r h9) hg; exact hne g cs 120 hc (by omega) (by omega))
  ·exact owns_keep (hL r h9) (fun g hg => by obtain ⟨cs, hc⟩ := own_tag (hL r h9) hg; exact hne g cs 120 hc (by omega) (by omega))
 ·have e2 : gn = j := Option.some.inj hj
  rw [← e2]
  exact hGgn.elim (fun e => Or.inl e) (fun e => Or.inr (Or.inr ⟨e, hgn⟩))
 ·rcases List.mem_append.1 hr with h9 | h9
  ·exact Or.inl (h3.gl r h9 j hj)
  ·exact Or.inr (Or.inl ⟨r, h9, hj⟩)
 ·have hBk := h.lim k h.gk
  rcases hj with e | ⟨r, hr, e⟩ | e
  ·have := h.lim j e; exact ⟨this.1, by omega⟩
  ·have h8 := (hL r hr).lt j e
   exact ⟨h8.1, by omega⟩
  ·exact ⟨by have := e.1; omega, e.2⟩
 ·have e1 : Only G w W := Only.ofB hb
  exact (e1.trans oY (fun j _ e => h3.gr j e)).trans oZ (fun j _ e => by have e' : j = k := e; rw [e']; exact h.gk)
end Go.Proofs.Ytadlkikjfonkgaa
