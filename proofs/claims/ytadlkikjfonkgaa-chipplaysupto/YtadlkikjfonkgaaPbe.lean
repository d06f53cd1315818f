/-
  SEAT Ytadlkikjfonkgaa: Va.
-/
import Derived.Test.YtadlkikjfonkgaaPa
import Derived.Test.YtadlkikjfonkgaaPbd
namespace Go.Proofs.Ytadlkikjfonkgaa
open Go.RowKit Go.Conc
set_option linter.unusedVariables false
theorem info25b : (Try.prog.info? 25).map (fun i => (i.zero, i.size, i.bytes)) = some (some (.slice none 0 0), 1, 24) := by kernel_rfl
set_option maxRecDepth 100000 in
set_option maxHeartbeats 4000000 in
theorem image73_any (w : World) (B k : Nat) (G : Nat → Prop) (P M T : List Rw) (h : BookAt w B k G P M T) (hl : P.length ≤ 1000000000000) (hm : M.length ≤ 1000000000000) (gB gP gS : Int) (ca : Option Addr) (cn cc : Nat) (X1 : List Value) (ma : Option Addr) (mn mc : Nat) (X2 : List Value) (h1 : w.ownsRow B 5 1 (.slice ca cn cc) cn X1) (h2 : w.ownsRow B 4 1 (.slice ma mn mc) mn X2) (hg1 : ∀ j, (Value.slice ca cn cc).ownBlock = some j → ¬ G j) (hg2 : ∀ j, (Value.slice ma mn mc).ownBlock = some j → ¬ G j) :
  Calls Try.prog 73 #[.pointer (some ⟨k, 0, none⟩), .agg #[.int .i64 gB, .int .i64 gP, .int .i64 gS, .slice ca cn cc, .slice ma mn mc]] w fun e w' => e = .returned (.tuple #[]) ∧ ∃ G', BookAt w' B k G' (P ++ [⟨ca, cn, cc, X1⟩]) (M ++ [⟨ma, mn, mc, X2⟩]) T ∧ (∀ j, G' j → G j ∨ (Value.slice ca cn cc).ownBlock = some j ∨ (Value.slice ma mn mc).ownBlock = some j ∨ (w.heap.size ≤ j ∧ j < w'.heap.size)) ∧ Only (fun j => G j ∨ (Value.slice ca cn cc).ownBlock = some j) w w' := by
 obtain ⟨i1, hi1, hz01, hz11, hz21⟩ := info_parts info24b
 obtain ⟨i2, hi2, hz02, hz12, hz22⟩ := info_parts info25b
 have HBK := hide h
 obtain ⟨vp, vm, vt, hk0, hrp, hrm, hrt⟩ := h.ex
 have HK0 := hide hk0
 have HO12 := hide (And.intro h1 h2)
 have HG12 := hide (And.intro hg1 hg2)
 have HLN : Hid (∀ r ∈ ([⟨ca, cn, cc, X1⟩] : List Rw), ∀ j, r.v.ownBlock = some j → ¬ G j) := by unfold Hid; intro r hr; simp at hr; subst hr; exact hg1
 have HNE : Hid (w.heap.size ≠ k) := fun e => by have := (h.lim k h.gk).2; omega
 have HBW1 : Hid (Below w.heap.size w ((w.alloc (.cells #[.int .i64 gB, .int .i64 gP, .int .i64 gS, .slice ca cn cc, .slice ma mn mc] 27)).alloc (.cells #[.slice ca cn cc] 24)).drew) := below_trans (below_trans (below_alloc w (.cells #[.int .i64 gB, .int .i64 gP, .int .i64 gS, .slice ca cn cc, .slice ma mn mc] 27)) (below_alloc _ (.cells #[.slice ca cn cc] 24))) (drew_below _)
 have HRP1 : Hid (((w.alloc (.cells #[.int .i64 gB, .int .i64 gP, .int .i64 gS, .slice ca cn cc, .slice ma mn mc] 27)).alloc (.cells #[.slice ca cn cc] 24)).drew.ownsRow B 24 1 vp P.length (P.map Rw.v)) := owns_bel hrp.row HBW1.out
 have HNK1 : Hid (∀ j, vp.ownBlock = some j → j ≠ k) := fun j hj e => by obtain ⟨cs, hc⟩ := own_tag hrp.row hj; rw [e, hk0] at hc; cases hc
 have HNI1 : Hid (∀ j, vp.ownBlock = some j → j ≠ w.heap.size) := fun j hj e => by obtain ⟨cs, hc⟩ := own_tag hrp.row hj; have := lt_of_block hc; omega
 have HKW1 : Hid (((w.alloc (.cells #[.int .i64 gB, .int .i64 gP, .int .i64 gS, .slice ca cn cc, .slice ma mn mc] 27)).alloc (.cells #[.slice ca cn cc] 24)).drew.heap[k]? = some (.cells #[vp, vm, vt] 76 (0, 0))) := (HBW1.out.block k (lt_of_block hk0)).trans hk0
 have HI1 : Hid (((w.alloc (.cells #[.int .i64 gB, .int .i64 gP, .int .i64 gS, .slice ca cn cc, .slice ma mn mc] 27)).alloc (.cells #[.slice ca cn cc] 24)).drew.heap[w.heap.size]? = some (.cells #[.int .i64 gB, .int .i64 gP, .int .i64 gS, .slice ca cn cc, .slice ma mn mc] 27 (0, 0))) := ((below_trans (below_alloc _ (.cells #[.slice ca cn cc] 24)) (drew_below _)).block _ (lt_of_block (alloc_new w (.cells #[.int .i64 gB, .int .i64 gP, .int .i64 gS, .slice ca cn cc, .slice ma mn mc] 27)))).trans (alloc_new w (.cells #[.int .i64 gB, .int .i64 gP, .int .i64 gS, .slice ca cn cc, .slice ma mn mc] 27))
 have HS1 : Hid ((fun u => u.cell? ⟨w.heap.size, 3, none⟩ = some (.slice ca cn cc) ∧ u.cell? ⟨w.heap.size, 4, none⟩ = some (.slice ma mn mc)) ((w.alloc (.cells #[.int .i64 gB, .int .i64 gP, .int .i64 gS, .slice ca cn cc, .slice ma mn mc] 27)).alloc (.cells #[.slice ca cn cc] 24)).drew) := (cells5 HI1.out).2.2.2
 have HNW1 : Hid (∀ j u, ([.slice ca cn cc] : List Value)[j]? = some u → (((w.alloc (.cells #[.int .i64 gB, .int .i64 gP, .int .i64 gS, .slice ca cn cc, .slice ma mn mc] 27)).alloc (.cells #[.slice ca cn cc] 24)).drew).cell? ((⟨(w.heap.size + 1), 0, none⟩ : Addr).add j) = some u) := by
  intro j u hj
  rw [plain_add, Nat.zero_add]
  match j, hj with
  | 0, hj => simp at hj; subst hj; simp
 have d01 : (w.alloc (.cells #[.int .i64 gB, .int .i64 gP, .int .i64 gS, .slice ca cn cc, .slice ma mn mc] 27)).drew.cell? ⟨k, 0, none⟩ = some vp := (cells3 (((below_alloc w (.cells #[.int .i64 gB, .int .i64 gP, .int .i64 gS, .slice ca cn cc, .slice ma mn mc] 27)).block k (lt_of_block hk0)).trans hk0)).1
 have d11 : ((w.alloc (.cells #[.int .i64 gB, .int .i64 gP, .int .i64 gS, .slice ca cn cc, .slice ma mn mc] 27)).alloc (.cells #[.slice ca cn cc] 24)).drew.cell? ⟨k, 0, none⟩ = some vp := (cells3 HKW1.out).1
 clear h hk0 h1 h2 hg1 hg2 hrp hrm hrt
 go_enter Try.func73, Try.ntmps73
 go_upto_region 1 with fail
 refine wp_region_held_drew (S := (fun u => u.cell? ⟨w.heap.size, 3, none⟩ = some (.slice ca cn cc) ∧ u.cell? ⟨w.heap.size, 4, none⟩ = some (.slice ma mn mc))) (by kernel_rfl) (⟨by simp, by simp⟩) (fun hHeld => ?_)
 refine tk 0 ?_
 refine tk 1 ?_
 refine tk 2 ?_
 refine tk 3 ?_
 refine tk 5 ?_
 refine tk 6 ?_
 refine wpAnyH_ready (rs := [4, 7]) (by kernel_rfl) (by simp) ?_
 refine AllReadyH.cons (o := { dst := some 8, op := Op.load 61 (Operand.tmp 7), type := 61, pos := "book.go:17", after := #[{ on := 3, ground := Ground.data }], guard := none }) rfl (fun K hK => ?_) (AllReadyH.cons (o := { dst := some 11, op := Op.buildSlice 61 1 #[(0, Operand.tmp 10)], type := 61, pos := "book.go:17", after := #[{ on := 6, ground := Ground.data }], guard := none }) rfl (fun K hK => ?_) AllReadyH.nil)
 ·go_simp
  go_wp2_with fail
  have hSnew := hHeld
  refine hK.out _ _ hSnew (fun hHeld4 => ?_)
  clear hK K hSnew hHeld
  have hHeld := hHeld4
  clear hHeld4
  try simp only [Act.put, zSt, zS0, zS1]
  refine rd 7 (fun K hK => ?_)
  go_simp
  go_wp2_with fail
  have hSnew := HS1.out
  refine hK.out _ _ hSnew (fun hHeld7 => ?_)
  clear hK K hSnew hHeld
  have hHeld := hHeld7
  clear hHeld7
  try simp only [Act.put, zSt, zS0, zS1]
  refine rd 8 (fun K hK => ?_)
  refine wp_append_lies _ (.tmp 8) (.tmp 11) 61 rfl B 24 i1 (.slice none 0 0) 1 24 Try.underlying61 hi1 hz01 hz11 hz21 rfl (by decide) vp P.length (P.map Rw.v) rfl HRP1.out ⟨(w.heap.size + 1), 0, none⟩ 1 1 [.slice ca cn cc] rfl rfl HNW1.out (by intro u hu; simp at hu; subst hu; rfl) (by decide) (by simp [maxLen]; omega) (by omega) (Nat.le_trans (Nat.le_trans (HBK.out.lim k HBK.out.gk).1 (Nat.le_of_lt (HBK.out.lim k HBK.out.gk).2)) HBW1.out.size) ((w.heap.size + 1) + 1) (by simp) ?_
  intro gn1 tc1 Y1 own grow lies _
  have hkY : Y1.heap[k]? = some (.cells #[vp, vm, vt] 76 (0, 0)) := (grow.block k (lt_of_block HKW1.out) (fun e => HNK1.out k e.symm rfl)).trans HKW1.out
  have hIY := (grow.block w.heap.size (lt_of_block HI1.out) (fun e => HNI1.out _ e.symm rfl)).trans HI1.out
  have HIY1 := hide hIY
  have hSnew : (fun u => u.cell? ⟨w.heap.size, 3, none⟩ = some (.slice ca cn cc) ∧ u.cell? ⟨w.heap.size, 4, none⟩ = some (.slice ma mn mc)) Y1 := (cells5 hIY).2.2.2
  have HOW1 := hide own
  have HG1 := hide grow
  have HLI1 := hide lies
  have fz0 := fun j => frozen_of_row Y1 k j _ 76 hkY
  obtain ⟨e0, e1, e2⟩ := cells3 hkY
  clear own grow lies hkY hIY
  refine hK.out _ _ hSnew (fun hHeld8 => ?_)
  clear hK K hSnew hHeld
  have hHeld := hHeld8
  clear hHeld8
  try simp only [Act.put, zSt, zS0, zS1]
  refine tk 9 ?_
  refine tk 10 ?_
  refine rd 11 (fun K hK => ?_)
  go_simp
  go_wp2_with fail
  have hSnew : (fun u => u.cell? ⟨w.heap.size, 3, none⟩ = some (.slice ca cn cc) ∧ u.cell? ⟨w.heap.size, 4, none⟩ = some (.slice ma mn mc)) (Y1.setCell ⟨k, 0, none⟩ (.slice (some ⟨gn1, 0, none⟩) (P.length + 1) tc1)) := ⟨(Only.setCell (· = k) Y1 k 0 _ rfl).cell hHeld.1 HNE.out, (Only.setCell (· = k) Y1 k 0 _ rfl).cell hHeld.2 HNE.out⟩
  refine hK.out _ _ hSnew (fun hHeld11 => ?_)
  clear hK K hSnew hHeld hHeld11
  try simp only [Act.put, zSt, zS0, zS1]
  refine wpAnyH_done (by kernel_rfl) ?_ _
  clear d01 d11 e0 e1 e2 fz0
  have HZB := hide (HBK.out.addP (L := [⟨ca, cn, cc, X1⟩]) HBW1.out HK0.out HOW1.out HG1.out (HLI1.out.imp id (fun e => by rw [e]; simp)) rfl (by intro r hr; simp at hr; subst hr; exact HO12.out.1) (List.pairwise_singleton _ _) HLN.out)
  have HKz0 := hide (heap_setCell_same Y1 k 0 #[vp, vm, vt] 76 (.slice (some ⟨gn1, 0, none⟩) (P.length + 1) tc1) ((HG1.out.block k (lt_of_block HKW1.out) (fun e => HNK1.out k e.symm rfl)).trans HKW1.out))
  have HIz0 := hide (((Only.setCell (· = k) Y1 k 0 (.slice (some ⟨gn1, 0, none⟩) (P.length + 1) tc1) rfl).block w.heap.size (lt_of_block HIY1.out) HNE.out).trans HIY1.out)
  go_upto_region 2 with fail
  generalize hz1 : Y1.setCell ⟨k, 0, none⟩ (.slice (some ⟨gn1, 0, none⟩) (P.length + 1) tc1) = z1 at HZB HKz0 HIz0 ⊢
  obtain ⟨vp1, hvp1⟩ : ∃ x, x = Value.slice (some ⟨gn1, 0, none⟩) (P.length + 1) tc1 := ⟨_, rfl⟩
  have HKz : Hid (z1.heap[k]? = some (.cells #[vp1, vm, vt] 76 (0, 0))) := by rw [hvp1]; exact HKz0.out
  have HBz : Hid (BookAt z1 B k (Gx G [⟨ca, cn, cc, X1⟩] w z1) (P ++ [⟨ca, cn, cc, X1⟩]) M T ∧ Only G w z1) := HZB.out
  have HIz := HIz0
  clear HZB HKz0 HIz0 hvp1 hz1 HKW1 HOW1 HG1 HLI1 HIY1 HI1 HNK1 HNI1 HRP1 HNW1 HS1 HBW1
  have hMrow : RowsAt z1 B (Gx G [⟨ca, cn, cc, X1⟩] w z1) 25 4 1 vm M := by
   obtain ⟨xp, xm, xt, g0, g1, g2, g3⟩ := HBz.out.1.ex
   rw [HKz.out] at g0
   cases g0
   exact g2
  have HBW2 : Hid (Below z1.heap.size z1 (z1.alloc (.cells #[.slice ma mn mc] 25)).drew) := below_trans (below_alloc z1 (.cells #[.slice ma mn mc] 25)) (drew_below _)
  have HRP2 : Hid ((z1.alloc (.cells #[.slice ma mn mc] 25)).drew.ownsRow B 25 1 vm M.length (M.map Rw.v)) := owns_bel hMrow.row HBW2.out
  have HNK2 : Hid (∀ j, vm.ownBlock = some j → j ≠ k) := fun j hj e => by obtain ⟨cs, hc⟩ := own_tag hMrow.row hj; rw [e, HKz.out] at hc; cases hc
  have HNI2 : Hid (∀ j, vm.ownBlock = some j → j ≠ w.heap.size) := fun j hj e => by obtain ⟨cs, hc⟩ := own_tag hMrow.row hj; rw [e, HIz.out] at hc; cases hc
  have HKW2 : Hid ((z1.alloc (.cells #[.slice ma mn mc] 25)).drew.heap[k]? = some (.cells #[vp1, vm, vt] 76 (0, 0))) := (HBW2.out.block k (lt_of_block HKz.out)).trans HKz.out
  have HI2 : Hid ((z1.alloc (.cells #[.slice ma mn mc] 25)).drew.heap[w.heap.size]? = some (.cells #[.int .i64 gB, .int .i64 gP, .int .i64 gS, .slice ca cn cc, .slice ma mn mc] 27 (0, 0))) := (HBW2.out.block _ (lt_of_block HIz.out)).trans HIz.out
  have HS2 : Hid ((fun u => u.cell? ⟨w.heap.size, 3, none⟩ = some (.slice ca cn cc) ∧ u.cell? ⟨w.heap.size, 4, none⟩ = some (.slice ma mn mc)) (z1.alloc (.cells #[.slice ma mn mc] 25)).drew) := (cells5 HI2.out).2.2.2
  have HNW2 : Hid (∀ j u, ([.slice ma mn mc] : List Value)[j]? = some u → ((z1.alloc (.cells #[.slice ma mn mc] 25)).drew).cell? ((⟨z1.heap.size, 0, none⟩ : Addr).add j) = some u) := by
   intro j u hj
   rw [plain_add, Nat.zero_add]
   match j, hj with
   | 0, hj => simp at hj; subst hj; simp
  have HSz : Hid ((fun u => u.cell? ⟨w.heap.size, 3, none⟩ = some (.slice ca cn cc) ∧ u.cell? ⟨w.heap.size, 4, none⟩ = some (.slice ma mn mc)) z1.drew) := (cells5 HIz.out).2.2.2
  have d02 : z1.drew.cell? ⟨k, 1, none⟩ = some vm := (cells3 HKz.out).2.1
  have d12 : (z1.alloc (.cells #[.slice ma mn mc] 25)).drew.cell? ⟨k, 1, none⟩ = some vm := (cells3 HKW2.out).2.1
  have HOM : Hid (z1.ownsRow B 4 1 (.slice ma mn mc) mn X2) := owns_keep HO12.out.2 (fun g hg => by obtain ⟨cs, hc⟩ := own_tag HO12.out.2 hg; exact HBz.out.2.block g (lt_of_block hc) (HG12.out.2 g hg))
  have HLN2 : Hid (∀ r ∈ ([⟨ma, mn, mc, X2⟩] : List Rw), ∀ j, r.v.ownBlock = some j → ¬ Gx G [⟨ca, cn, cc, X1⟩] w z1 j) := by
   unfold Hid
   intro r hr j hj e
   simp at hr
   subst hr
   have hj2 : (Value.slice ma mn mc).ownBlock = some j := hj
   obtain ⟨cs, hc⟩ := own_tag HO12.out.2 hj2
   have hlt := lt_of_block hc
   rcases e with e | ⟨r, hr, e⟩ | e
   ·exact HG12.out.2 j hj2 e
   ·simp at hr
    subst hr
    have hj3 : (Value.slice ca cn cc).ownBlock = some j := e
    obtain ⟨cs3, hc3⟩ := own_tag HO12.out.1 hj3
    rw [hc] at hc3
    cases hc3
   ·have := e.1; omega
  have HGx : Hid (∀ j, j < w.heap.size → Gx G [⟨ca, cn, cc, X1⟩] w z1 j → G j ∨ (Value.slice ca cn cc).ownBlock = some j) := fun j hj e => by
   rcases e with e | ⟨r, hr, e⟩ | e
   ·exact Or.inl e
   ·simp at hr
    subst hr
    exact Or.inr e
   ·have := e.1; omega
  have HGG : Hid (∀ w' : World, z1.heap.size ≤ w'.heap.size → ∀ j, Gx (Gx G [⟨ca, cn, cc, X1⟩] w z1) [⟨ma, mn, mc, X2⟩] z1 w' j → G j ∨ (Value.slice ca cn cc).ownBlock = some j ∨ (Value.slice ma mn mc).ownBlock = some j ∨ (w.heap.size ≤ j ∧ j < w'.heap.size)) := fun w' hs j e => by
   have hz := HBz.out.2.size
   rcases e with (e | ⟨r, hr, e⟩ | e) | ⟨r, hr, e⟩ | e
   ·exact Or.inl e
   ·simp at hr
    subst hr
    exact Or.inr (Or.inl e)
   ·exact Or.inr (Or.inr (Or.inr ⟨e.1, by have := e.2; omega⟩))
   ·simp at hr
    subst hr
    exact Or.inr (Or.inr (Or.inl e))
   ·exact Or.inr (Or.inr (Or.inr ⟨by have := e.1; omega, e.2⟩))
  clear hMrow
  have HBz1 := hide HBz.out.1
  refine wp_region_held_drew (S := (fun u => u.cell? ⟨w.heap.size, 3, none⟩ = some (.slice ca cn cc) ∧ u.cell? ⟨w.heap.size, 4, none⟩ = some (.slice ma mn mc))) (by kernel_rfl) (HSz.out) (fun hHeld => ?_)
  refine tk 0 ?_
  refine tk 1 ?_
  refine tk 2 ?_
  refine tk 3 ?_
  refine tk 5 ?_
  refine tk 6 ?_
  refine wpAnyH_ready (rs := [4, 7]) (by kernel_rfl) (by simp) ?_
  refine AllReadyH.cons (o := { dst := some 19, op := Op.load 73 (Operand.tmp 18), type := 73, pos := "book.go:18", after := #[{ on := 3, ground := Ground.data }], guard := none }) rfl (fun K hK => ?_) (AllReadyH.cons (o := { dst := some 22, op := Op.buildSlice 73 1 #[(0, Operand.tmp 21)], type := 73, pos := "book.go:18", after := #[{ on := 6, ground := Ground.data }], guard := none }) rfl (fun K hK => ?_) AllReadyH.nil)
  ·go_simp
   go_wp2_with fail
   have hSnew := hHeld
   refine hK.out _ _ hSnew (fun hHeld4 => ?_)
   clear hK K hSnew hHeld
   have hHeld := hHeld4
   clear hHeld4
   try simp only [Act.put, zSt, zS0, zS1]
   refine rd 7 (fun K hK => ?_)
   go_simp
   go_wp2_with fail
   have hSnew := HS2.out
   refine hK.out _ _ hSnew (fun hHeld7 => ?_)
   clear hK K hSnew hHeld
   have hHeld := hHeld7
   clear hHeld7
   try simp only [Act.put, zSt, zS0, zS1]
   refine rd 8 (fun K hK => ?_)
   refine wp_append_lies _ (.tmp 19) (.tmp 22) 73 rfl B 25 i2 (.slice none 0 0) 1 24 Try.underlying73 hi2 hz02 hz12 hz22 rfl (by decide) vm M.length (M.map Rw.v) rfl HRP2.out ⟨z1.heap.size, 0, none⟩ 1 1 [.slice ma mn mc] rfl rfl HNW2.out (by intro u hu; simp at hu; subst hu; rfl) (by decide) (by simp [maxLen]; omega) (by omega) (Nat.le_trans (Nat.le_trans (HBz1.out.lim k HBz1.out.gk).1 (Nat.le_of_lt (HBz1.out.lim k HBz1.out.gk).2)) HBW2.out.size) (z1.heap.size + 1) (by simp) ?_
   intro gn2 tc2 Y2 own grow lies _
   have hkY : Y2.heap[k]? = some (.cells #[vp1, vm, vt] 76 (0, 0)) := (grow.block k (lt_of_block HKW2.out) (fun e => HNK2.out k e.symm rfl)).trans HKW2.out
   have hIY := (grow.block w.heap.size (lt_of_block HI2.out) (fun e => HNI2.out _ e.symm rfl)).trans HI2.out
   have HIY2 := hide hIY
   have hSnew : (fun u => u.cell? ⟨w.heap.size, 3, none⟩ = some (.slice ca cn cc) ∧ u.cell? ⟨w.heap.size, 4, none⟩ = some (.slice ma mn mc)) Y2 := (cells5 hIY).2.2.2
   have HOW2 := hide own
   have HG2 := hide grow
   have HLI2 := hide lies
   have fz0 := fun j => frozen_of_row Y2 k j _ 76 hkY
   obtain ⟨e0, e1, e2⟩ := cells3 hkY
   clear own grow lies hkY hIY
   refine hK.out _ _ hSnew (fun hHeld8 => ?_)
   clear hK K hSnew hHeld
   have hHeld := hHeld8
   clear hHeld8
   try simp only [Act.put, zSt, zS0, zS1]
   refine tk 9 ?_
   refine tk 10 ?_
   refine rd 11 (fun K hK => ?_)
   go_simp
   go_wp2_with fail
   have hSnew : (fun u => u.cell? ⟨w.heap.size, 3, none⟩ = some (.slice ca cn cc) ∧ u.cell? ⟨w.heap.size, 4, none⟩ = some (.slice ma mn mc)) (Y2.setCell ⟨k, 1, none⟩ (.slice (some ⟨gn2, 0, none⟩) (M.length + 1) tc2)) := ⟨(Only.setCell (· = k) Y2 k 1 _ rfl).cell hHeld.1 HNE.out, (Only.setCell (· = k) Y2 k 1 _ rfl).cell hHeld.2 HNE.out⟩
   refine hK.out _ _ hSnew (fun hHeld11 => ?_)
   clear hK K hSnew hHeld hHeld11
   try simp only [Act.put, zSt, zS0, zS1]
   refine wpAnyH_done (by kernel_rfl) ?_ _
   clear d02 d12 e0 e1 e2 fz0
   go_wp2
   go_end0
   have hB := HBz.out.1.addM (L := [⟨ma, mn, mc, X2⟩]) HBW2.out HKz.out HOW2.out HG2.out (HLI2.out.imp id (fun e => by rw [e]; simp)) rfl (by intro r hr; simp at hr; subst hr; exact HOM.out) (List.pairwise_singleton _ _) HLN2.out
   exact ⟨rfl, _, hB.1, HGG.out _ hB.2.size, (HBz.out.2.mono (fun _ _ e => Or.inl e)).trans hB.2 (fun j hj e => HGx.out j hj e)⟩
  ·go_simp
   go_wp2_with fail
   have hSnew := HS2.out
   refine hK.out _ _ hSnew (fun hHeld7 => ?_)
   clear hK K hSnew hHeld
   have hHeld := hHeld7
   clear hHeld7
   try simp only [Act.put, zSt, zS0, zS1]
   refine rd 4 (fun K hK => ?_)
   go_simp
   go_wp2_with fail
   have hSnew := hHeld
   refine hK.out _ _ hSnew (fun hHeld4 => ?_)
   clear hK K hSnew hHeld
   have hHeld := hHeld4
   clear hHeld4
   try simp only [Act.put, zSt, zS0, zS1]
   refine rd 8 (fun K hK => ?_)
   refine wp_append_lies _ (.tmp 19) (.tmp 22) 73 rfl B 25 i2 (.slice none 0 0) 1 24 Try.underlying73 hi2 hz02 hz12 hz22 rfl (by decide) vm M.length (M.map Rw.v) rfl HRP2.out ⟨z1.heap.size, 0, none⟩ 1 1 [.slice ma mn mc] rfl rfl HNW2.out (by intro u hu; simp at hu; subst hu; rfl) (by decide) (by simp [maxLen]; omega) (by omega) (Nat.le_trans (Nat.le_trans (HBz1.out.lim k HBz1.out.gk).1 (Nat.le_of_lt (HBz1.out.lim k HBz1.out.gk).2)) HBW2.out.size) (z1.heap.size + 1) (by simp) ?_
   intro gn2 tc2 Y2 own grow lies _
   have hkY : Y2.heap[k]? = some (.cells #[vp1, vm, vt] 76 (0, 0)) := (grow.block k (lt_of_block HKW2.out) (fun e => HNK2.out k e.symm rfl)).trans HKW2.out
   have hIY := (grow.block w.heap.size (lt_of_block HI2.out) (fun e => HNI2.out _ e.symm rfl)).trans HI2.out
   have HIY2 := hide hIY
   have hSnew : (fun u => u.cell? ⟨w.heap.size, 3, none⟩ = some (.slice ca cn cc) ∧ u.cell? ⟨w.heap.size, 4, none⟩ = some (.slice ma mn mc)) Y2 := (cells5 hIY).2.2.2
   have HOW2 := hide own
   have HG2 := hide grow
   have HLI2 := hide lies
   have fz0 := fun j => frozen_of_row Y2 k j _ 76 hkY
   obtain ⟨e0, e1, e2⟩ := cells3 hkY
   clear own grow lies hkY hIY
   refine hK.out _ _ hSnew (fun hHeld8 => ?_)
   clear hK K hSnew hHeld
   have hHeld := hHeld8
   clear hHeld8
   try simp only [Act.put, zSt, zS0, zS1]
   refine tk 9 ?_
   refine tk 10 ?_
   refine rd 11 (fun K hK => ?_)
   go_simp
   go_wp2_with fail
   have hSnew : (fun u => u.cell? ⟨w.heap.size, 3, none⟩ = some (.slice ca cn cc) ∧ u.cell? ⟨w.heap.size, 4, none⟩ = some (.slice ma mn mc)) (Y2.setCell ⟨k, 1, none⟩ (.slice (some ⟨gn2, 0, none⟩) (M.length + 1) tc2)) := ⟨(Only.setCell (· = k) Y2 k 1 _ rfl).cell hHeld.1 HNE.out, (Only.setCell (· = k) Y2 k 1 _ rfl).cell hHeld.2 HNE.out⟩
   refine hK.out _ _ hSnew (fun hHeld11 => ?_)
   clear hK K hSnew hHeld hHeld11
   try simp only [Act.put, zSt, zS0, zS1]
   refine wpAnyH_done (by kernel_rfl) ?_ _
   clear d02 d12 e0 e1 e2 fz0
   go_wp2
   go_end0
   have hB := HBz.out.1.addM (L := [⟨ma, mn, mc, X2⟩]) HBW2.out HKz.out HOW2.out HG2.out (HLI2.out.imp id (fun e => by rw [e]; simp)) rfl (by intro r hr; simp at hr; subst hr; exact HOM.out) (List.pairwise_singleton _ _) HLN2.out
   exact ⟨rfl, _, hB.1, HGG.out _ hB.2.size, (HBz.out.2.mono (fun _ _ e => Or.inl e)).trans hB.2 (fun j hj e => HGx.out j hj e)⟩
 ·go_simp
  go_wp2_with fail
  have hSnew := HS1.out
  refine hK.out _ _ hSnew (fun hHeld7 => ?_)
  clear hK K hSnew hHeld
  have hHeld := hHeld7
  clear hHeld7
  try simp only [Act.put, zSt, zS0, zS1]
  refine rd 4 (fun K hK => ?_)
  go_simp
  go_wp2_with fail
  have hSnew := hHeld
  refine hK.out _ _ hSnew (fun hHeld4 => ?_)
  clear hK K hSnew hHeld
  have hHeld := hHeld4
  clear hHeld4
  try simp only [Act.put, zSt, zS0, zS1]
  refine rd 8 (fun K hK => ?_)
  refine wp_append_lies _ (.tmp 8) (.tmp 11) 61 rfl B 24 i1 (.slice none 0 0) 1 24 Try.underlying61 hi1 hz01 hz11 hz21 rfl (by decide) vp P.length (P.map Rw.v) rfl HRP1.out ⟨(w.heap.size + 1), 0, none⟩ 1 1 [.slice ca cn cc] rfl rfl HNW1.out (by intro u hu; simp at hu; subst hu; rfl) (by decide) (by simp [maxLen]; omega) (by omega) (Nat.le_trans (Nat.le_trans (HBK.out.lim k HBK.out.gk).1 (Nat.le_of_lt (HBK.out.lim k HBK.out.gk).2)) HBW1.out.size) ((w.heap.size + 1) + 1) (by simp) ?_
  intro gn1 tc1 Y1 own grow lies _
  have hkY : Y1.heap[k]? = some (.cells #[vp, vm, vt] 76 (0, 0)) := (grow.block k (lt_of_block HKW1.out) (fun e => HNK1.out k e.symm rfl)).trans HKW1.out
  have hIY := (grow.block w.heap.size (lt_of_block HI1.out) (fun e => HNI1.out _ e.symm rfl)).trans HI1.out
  have HIY1 := hide hIY
  have hSnew : (fun u => u.cell? ⟨w.heap.size, 3, none⟩ = some (.slice ca cn cc) ∧ u.cell? ⟨w.heap.size, 4, none⟩ = some (.slice ma mn mc)) Y1 := (cells5 hIY).2.2.2
  have HOW1 := hide own
  have HG1 := hide grow
  have HLI1 := hide lies
  have fz0 := fun j => frozen_of_row Y1 k j _ 76 hkY
  obtain ⟨e0, e1, e2⟩ := cells3 hkY
  clear own grow lies hkY hIY
  refine hK.out _ _ hSnew (fun hHeld8 => ?_)
  clear hK K hSnew hHeld
  have hHeld := hHeld8
  clear hHeld8
  try simp only [Act.put, zSt, zS0, zS1]
  refine tk 9 ?_
  refine tk 10 ?_
  refine rd 11 (fun K hK => ?_)
  go_simp
  go_wp2_with fail
  have hSnew : (fun u => u.cell? ⟨w.heap.size, 3, none⟩ = some (.slice ca cn cc) ∧ u.cell? ⟨w.heap.size, 4, none⟩ = some (.slice ma mn mc)) (Y1.setCell ⟨k, 0, none⟩ (.slice (some ⟨gn1, 0, none⟩) (P.length + 1) tc1)) := ⟨(Only.setCell (· = k) Y1 k 0 _ rfl).cell hHeld.1 HNE.out, (Only.setCell (· = k) Y1 k 0 _ rfl).cell hHeld.2 HNE.out⟩
  refine hK.out _ _ hSnew (fun hHeld11 => ?_)
  clear hK K hSnew hHeld hHeld11
  try simp only [Act.put, zSt, zS0, zS1]
  refine wpAnyH_done (by kernel_rfl) ?_ _
  clear d01 d11 e0 e1 e2 fz0
  have HZB := hide (HBK.out.addP (L := [⟨ca, cn, cc, X1⟩]) HBW1.out HK0.out HOW1.out HG1.out (HLI1.out.imp id (fun e => by rw [e]; simp)) rfl (by intro r hr; simp at hr; subst hr; exact HO12.out.1) (List.pairwise_singleton _ _) HLN.out)
  have HKz0 := hide (heap_setCell_same Y1 k 0 #[vp, vm, vt] 76 (.slice (some ⟨gn1, 0, none⟩) (P.length + 1) tc1) ((HG1.out.block k (lt_of_block HKW1.out) (fun e => HNK1.out k e.symm rfl)).trans HKW1.out))
  have HIz0 := hide (((Only.setCell (· = k) Y1 k 0 (.slice (some ⟨gn1, 0, none⟩) (P.length + 1) tc1) rfl).block w.heap.size (lt_of_block HIY1.out) HNE.out).trans HIY1.out)
  go_upto_region 2 with fail
  generalize hz1 : Y1.setCell ⟨k, 0, none⟩ (.slice (some ⟨gn1, 0, none⟩) (P.length + 1) tc1) = z1 at HZB HKz0 HIz0 ⊢
  obtain ⟨vp1, hvp1⟩ : ∃ x, x = Value.slice (some ⟨gn1, 0, none⟩) (P.length + 1) tc1 := ⟨_, rfl⟩
  have HKz : Hid (z1.heap[k]? = some (.cells #[vp1, vm, vt] 76 (0, 0))) := by rw [hvp1]; exact HKz0.out
  have HBz : Hid (BookAt z1 B k (Gx G [⟨ca, cn, cc, X1⟩] w z1) (P ++ [⟨ca, cn, cc, X1⟩]) M T ∧ Only G w z1) := HZB.out
  have HIz := HIz0
  clear HZB HKz0 HIz0 hvp1 hz1 HKW1 HOW1 HG1 HLI1 HIY1 HI1 HNK1 HNI1 HRP1 HNW1 HS1 HBW1
  have hMrow : RowsAt z1 B (Gx G [⟨ca, cn, cc, X1⟩] w z1) 25 4 1 vm M := by
   obtain ⟨xp, xm, xt, g0, g1, g2, g3⟩ := HBz.out.1.ex
   rw [HKz.out] at g0
   cases g0
   exact g2
  have HBW2 : Hid (Below z1.heap.size z1 (z1.alloc (.cells #[.slice ma mn mc] 25)).drew) := below_trans (below_alloc z1 (.cells #[.slice ma mn mc] 25)) (drew_below _)
  have HRP2 : Hid ((z1.alloc (.cells #[.slice ma mn mc] 25)).drew.ownsRow B 25 1 vm M.length (M.map Rw.v)) := owns_bel hMrow.row HBW2.out
  have HNK2 : Hid (∀ j, vm.ownBlock = some j → j ≠ k) := fun j hj e => by obtain ⟨cs, hc⟩ := own_tag hMrow.row hj; rw [e, HKz.out] at hc; cases hc
  have HNI2 : Hid (∀ j, vm.ownBlock = some j → j ≠ w.heap.size) := fun j hj e => by obtain ⟨cs, hc⟩ := own_tag hMrow.row hj; rw [e, HIz.out] at hc; cases hc
  have HKW2 : Hid ((z1.alloc (.cells #[.slice ma mn mc] 25)).drew.heap[k]? = some (.cells #[vp1, vm, vt] 76 (0, 0))) := (HBW2.out.block k (lt_of_block HKz.out)).trans HKz.out
  have HI2 : Hid ((z1.alloc (.cells #[.slice ma mn mc] 25)).drew.heap[w.heap.size]? = some (.cells #[.int .i64 gB, .int .i64 gP, .int .i64 gS, .slice ca cn cc, .slice ma mn mc] 27 (0, 0))) := (HBW2.out.block _ (lt_of_block HIz.out)).trans HIz.out
  have HS2 : Hid ((fun u => u.cell? ⟨w.heap.size, 3, none⟩ = some (.slice ca cn cc) ∧ u.cell? ⟨w.heap.size, 4, none⟩ = some (.slice ma mn mc)) (z1.alloc (.cells #[.slice ma mn mc] 25)).drew) := (cells5 HI2.out).2.2.2
  have HNW2 : Hid (∀ j u, ([.slice ma mn mc] : List Value)[j]? = some u → ((z1.alloc (.cells #[.slice ma mn mc] 25)).drew).cell? ((⟨z1.heap.size, 0, none⟩ : Addr).add j) = some u) := by
   intro j u hj
   rw [plain_add, Nat.zero_add]
   match j, hj with
   | 0, hj => simp at hj; subst hj; simp
  have HSz : Hid ((fun u => u.cell? ⟨w.heap.size, 3, none⟩ = some (.slice ca cn cc) ∧ u.cell? ⟨w.heap.size, 4, none⟩ = some (.slice ma mn mc)) z1.drew) := (cells5 HIz.out).2.2.2
  have d02 : z1.drew.cell? ⟨k, 1, none⟩ = some vm := (cells3 HKz.out).2.1
  have d12 : (z1.alloc (.cells #[.slice ma mn mc] 25)).drew.cell? ⟨k, 1, none⟩ = some vm := (cells3 HKW2.out).2.1
  have HOM : Hid (z1.ownsRow B 4 1 (.slice ma mn mc) mn X2) := owns_keep HO12.out.2 (fun g hg => by obtain ⟨cs, hc⟩ := own_tag HO12.out.2 hg; exact HBz.out.2.block g (lt_of_block hc) (HG12.out.2 g hg))
  have HLN2 : Hid (∀ r ∈ ([⟨ma, mn, mc, X2⟩] : List Rw), ∀ j, r.v.ownBlock = some j → ¬ Gx G [⟨ca, cn, cc, X1⟩] w z1 j) := by
   unfold Hid
   intro r hr j hj e
   simp at hr
   subst hr
   have hj2 : (Value.slice ma mn mc).ownBlock = some j := hj
   obtain ⟨cs, hc⟩ := own_tag HO12.out.2 hj2
   have hlt := lt_of_block hc
   rcases e with e | ⟨r, hr, e⟩ | e
   ·exact HG12.out.2 j hj2 e
   ·simp at hr
    subst hr
    have hj3 : (Value.slice ca cn cc).ownBlock = some j := e
    obtain ⟨cs3, hc3⟩ := own_tag HO12.out.1 hj3
    rw [hc] at hc3
    cases hc3
   ·have := e.1; omega
  have HGx : Hid (∀ j, j < w.heap.size → Gx G [⟨ca, cn, cc, X1⟩] w z1 j → G j ∨ (Value.slice ca cn cc).ownBlock = some j) := fun j hj e => by
   rcases e with e | ⟨r, hr, e⟩ | e
   ·exact Or.inl e
   ·simp at hr
    subst hr
    exact Or.inr e
   ·have := e.1; omega
  have HGG : Hid (∀ w' : World, z1.heap.size ≤ w'.heap.size → ∀ j, Gx (Gx G [⟨ca, cn, cc, X1⟩] w z1) [⟨ma, mn, mc, X2⟩] z1 w' j → G j ∨ (Value.slice ca cn cc).ownBlock = some j ∨ (Value.slice ma mn mc).ownBlock = some j ∨ (w.heap.size ≤ j ∧ j < w'.heap.size)) := fun w' hs j e => by
   have hz := HBz.out.2.size
   rcases e with (e | ⟨r, hr, e⟩ | e) | ⟨r, hr, e⟩ | e
   ·exact Or.inl e
   ·simp at hr
    subst hr
    exact Or.inr (Or.inl e)
   ·exact Or.inr (Or.inr (Or.inr ⟨e.1, by have := e.2; omega⟩))
   ·simp at hr
    subst hr
    exact Or.inr (Or.inr (Or.inl e))
   ·exact Or.inr (Or.inr (Or.inr ⟨by have := e.1; omega, e.2⟩))
  clear hMrow
  have HBz1 := hide HBz.out.1
  refine wp_region_held_drew (S := (fun u => u.cell? ⟨w.heap.size, 3, none⟩ = some (.slice ca cn cc) ∧ u.cell? ⟨w.heap.size, 4, none⟩ = some (.slice ma mn mc))) (by kernel_rfl) (HSz.out) (fun hHeld => ?_)
  refine tk 0 ?_
  refine tk 1 ?_
  refine tk 2 ?_
  refine tk 3 ?_
  refine tk 5 ?_
  refine tk 6 ?_
  refine wpAnyH_ready (rs := [4, 7]) (by kernel_rfl) (by simp) ?_
  refine AllReadyH.cons (o := { dst := some 19, op := Op.load 73 (Operand.tmp 18), type := 73, pos := "book.go:18", after := #[{ on := 3, ground := Ground.data }], guard := none }) rfl (fun K hK => ?_) (AllReadyH.cons (o := { dst := some 22, op := Op.buildSlice 73 1 #[(0, Operand.tmp 21)], type := 73, pos := "book.go:18", after := #[{ on := 6, ground := Ground.data }], guard := none }) rfl (fun K hK => ?_) AllReadyH.nil)
  ·go_simp
   go_wp2_with fail
   have hSnew := hHeld
   refine hK.out _ _ hSnew (fun hHeld4 => ?_)
   clear hK K hSnew hHeld
   have hHeld := hHeld4
   clear hHeld4
   try simp only [Act.put, zSt, zS0, zS1]
   refine rd 7 (fun K hK => ?_)
   go_simp
   go_wp2_with fail
   have hSnew := HS2.out
   refine hK.out _ _ hSnew (fun hHeld7 => ?_)
   clear hK K hSnew hHeld
   have hHeld := hHeld7
   clear hHeld7
   try simp only [Act.put, zSt, zS0, zS1]
   refine rd 8 (fun K hK => ?_)
   refine wp_append_lies _ (.tmp 19) (.tmp 22) 73 rfl B 25 i2 (.slice none 0 0) 1 24 Try.underlying73 hi2 hz02 hz12 hz22 rfl (by decide) vm M.length (M.map Rw.v) rfl HRP2.out ⟨z1.heap.size, 0, none⟩ 1 1 [.slice ma mn mc] rfl rfl HNW2.out (by intro u hu; simp at hu; subst hu; rfl) (by decide) (by simp [maxLen]; omega) (by omega) (Nat.le_trans (Nat.le_trans (HBz1.out.lim k HBz1.out.gk).1 (Nat.le_of_lt (HBz1.out.lim k HBz1.out.gk).2)) HBW2.out.size) (z1.heap.size + 1) (by simp) ?_
   intro gn2 tc2 Y2 own grow lies _
   have hkY : Y2.heap[k]? = some (.cells #[vp1, vm, vt] 76 (0, 0)) := (grow.block k (lt_of_block HKW2.out) (fun e => HNK2.out k e.symm rfl)).trans HKW2.out
   have hIY := (grow.block w.heap.size (lt_of_block HI2.out) (fun e => HNI2.out _ e.symm rfl)).trans HI2.out
   have HIY2 := hide hIY
   have hSnew : (fun u => u.cell? ⟨w.heap.size, 3, none⟩ = some (.slice ca cn cc) ∧ u.cell? ⟨w.heap.size, 4, none⟩ = some (.slice ma mn mc)) Y2 := (cells5 hIY).2.2.2
   have HOW2 := hide own
   have HG2 := hide grow
   have HLI2 := hide lies
   have fz0 := fun j => frozen_of_row Y2 k j _ 76 hkY
   obtain ⟨e0, e1, e2⟩ := cells3 hkY
   clear own grow lies hkY hIY
   refine hK.out _ _ hSnew (fun hHeld8 => ?_)
   clear hK K hSnew hHeld
   have hHeld := hHeld8
   clear hHeld8
   try simp only [Act.put, zSt, zS0, zS1]
   refine tk 9 ?_
   refine tk 10 ?_
   refine rd 11 (fun K hK => ?_)
   go_simp
   go_wp2_with fail
   have hSnew : (fun u => u.cell? ⟨w.heap.size, 3, none⟩ = some (.slice ca cn cc) ∧ u.cell? ⟨w.heap.size, 4, none⟩ = some (.slice ma mn mc)) (Y2.setCell ⟨k, 1, none⟩ (.slice (some ⟨gn2, 0, none⟩) (M.length + 1) tc2)) := ⟨(Only.setCell (· = k) Y2 k 1 _ rfl).cell hHeld.1 HNE.out, (Only.setCell (· = k) Y2 k 1 _ rfl).cell hHeld.2 HNE.out⟩
   refine hK.out _ _ hSnew (fun hHeld11 => ?_)
   clear hK K hSnew hHeld hHeld11
   try simp only [Act.put, zSt, zS0, zS1]
   refine wpAnyH_done (by kernel_rfl) ?_ _
   clear d02 d12 e0 e1 e2 fz0
   go_wp2
   go_end0
   have hB := HBz.out.1.addM (L := [⟨ma, mn, mc, X2⟩]) HBW2.out HKz.out HOW2.out HG2.out (HLI2.out.imp id (fun e => by rw [e]; simp)) rfl (by intro r hr; simp at hr; subst hr; exact HOM.out) (List.pairwise_singleton _ _) HLN2.out
   exact ⟨rfl, _, hB.1, HGG.out _ hB.2.size, (HBz.out.2.mono (fun _ _ e => Or.inl e)).trans hB.2 (fun j hj e => HGx.out j hj e)⟩
  ·go_simp
   go_wp2_with fail
   have hSnew := HS2.out
   refine hK.out _ _ hSnew (fun hHeld7 => ?_)
   clear hK K hSnew hHeld
   have hHeld := hHeld7
   clear hHeld7
   try simp only [Act.put, zSt, zS0, zS1]
   refine rd 4 (fun K hK => ?_)
   go_simp
   go_wp2_with fail
   have hSnew := hHeld
   refine hK.out _ _ hSnew (fun hHeld4 => ?_)
   clear hK K hSnew hHeld
   have hHeld := hHeld4
   clear hHeld4
   try simp only [Act.put, zSt, zS0, zS1]
   refine rd 8 (fun K hK => ?_)
   refine wp_append_lies _ (.tmp 19) (.tmp 22) 73 rfl B 25 i2 (.slice none 0 0) 1 24 Try.underlying73 hi2 hz02 hz12 hz22 rfl (by decide) vm M.length (M.map Rw.v) rfl HRP2.out ⟨z1.heap.size, 0, none⟩ 1 1 [.slice ma mn mc] rfl rfl HNW2.out (by intro u hu; simp at hu; subst hu; rfl) (by decide) (by simp [maxLen]; omega) (by omega) (Nat.le_trans (Nat.le_trans (HBz1.out.lim k HBz1.out.gk).1 (Nat.le_of_lt (HBz1.out.lim k HBz1.out.gk).2)) HBW2.out.size) (z1.heap.size + 1) (by simp) ?_
   intro gn2 tc2 Y2 own grow lies _
   have hkY : Y2.heap[k]? = some (.cells #[vp1, vm, vt] 76 (0, 0)) := (grow.block k (lt_of_block HKW2.out) (fun e => HNK2.out k e.symm rfl)).trans HKW2.out
   have hIY := (grow.block w.heap.size (lt_of_block HI2.out) (fun e => HNI2.out _ e.symm rfl)).trans HI2.out
   have HIY2 := hide hIY
   have hSnew : (fun u => u.cell? ⟨w.heap.size, 3, none⟩ = some (.slice ca cn cc) ∧ u.cell? ⟨w.heap.size, 4, none⟩ = some (.slice ma mn mc)) Y2 := (cells5 hIY).2.2.2
   have HOW2 := hide own
   have HG2 := hide grow
   have HLI2 := hide lies
   have fz0 := fun j => frozen_of_row Y2 k j _ 76 hkY
   obtain ⟨e0, e1, e2⟩ := cells3 hkY
   clear own grow lies hkY hIY
   refine hK.out _ _ hSnew (fun hHeld8 => ?_)
   clear hK K hSnew hHeld
   have hHeld := hHeld8
   clear hHeld8
   try simp only [Act.put, zSt, zS0, zS1]
   refine tk 9 ?_
   refine tk 10 ?_
   refine rd 11 (fun K hK => ?_)
   go_simp
   go_wp2_with fail
   have hSnew : (fun u => u.cell? ⟨w.heap.size, 3, none⟩ = some (.slice ca cn cc) ∧ u.cell? ⟨w.heap.size, 4, none⟩ = some (.slice ma mn mc)) (Y2.setCell ⟨k, 1, none⟩ (.slice (some ⟨gn2, 0, none⟩) (M.length + 1) tc2)) := ⟨(Only.setCell (· = k) Y2 k 1 _ rfl).cell hHeld.1 HNE.out, (Only.setCell (· = k) Y2 k 1 _ rfl).cell hHeld.2 HNE.out⟩
   refine hK.out _ _ hSnew (fun hHeld11 => ?_)
   clear hK K hSnew hHeld hHeld11
   try simp only [Act.put, zSt, zS0, zS1]
   refine wpAnyH_done (by kernel_rfl) ?_ _
   clear d02 d12 e0 e1 e2 fz0
   go_wp2
   go_end0
   have hB := HBz.out.1.addM (L := [⟨ma, mn, mc, X2⟩]) HBW2.out HKz.out HOW2.out HG2.out (HLI2.out.imp id (fun e => by rw [e]; simp)) rfl (by intro r hr; simp at hr; subst hr; exact HOM.out) (List.pairwise_singleton _ _) HLN2.out
   exact ⟨rfl, _, hB.1, HGG.out _ hB.2.size, (HBz.out.2.mono (fun _ _ e => Or.inl e)).trans hB.2 (fun j hj e => HGx.out j hj e)⟩
end Go.Proofs.Ytadlkikjfonkgaa
