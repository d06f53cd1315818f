/-
  SEAT YtmbdacdgbmpedaaDoor: what step was asked; the closure.
-/
import Derived.Test.YtmbdacdgbmpedaaDoorSt
namespace Go.Proofs.YtmbdacdgbmpedaaDoor
open Go.RowKit
set_option linter.unusedVariables false

def flatA (qs : List (Int × ByteArray)) : List Value := qs.flatMap fun a => [.int .i64 a.1, .string a.2]
theorem flatA_append (qs bs : List (Int × ByteArray)) : flatA (qs ++ bs) = flatA qs ++ flatA bs := by simp [flatA]
theorem flatA_len (qs : List (Int × ByteArray)) : (flatA qs).length = qs.length * 2 := by
  induction qs with
  | nil => rfl
  | cons a r ih => simp only [flatA, List.flatMap_cons, List.length_append, List.length_cons, List.length_nil] at *; omega
/-- A slice of asks of the call's own. -/
def OwA (w : World) (B : Nat) (v : Value) (qs : List (Int × ByteArray)) : Prop := w.ownsRow B 42 2 v qs.length (flatA qs)
theorem owA_nil (w : World) (B : Nat) : OwA w B (.slice none 0 0) [] := ⟨rfl, Or.inl ⟨rfl, rfl⟩⟩
theorem info42 : (Tryd.prog.info? 42).map (fun i => (i.zero, i.size, i.bytes)) = some (some (.agg #[.int .i64 0, .string ByteArray.empty]), 2, 24) := by kernel_rfl
theorem OwA.at {w : World} {B : Nat} {v : Value} {qs : List (Int × ByteArray)} (h : OwA w B v qs) : ∀ k, v.ownBlock = some k → B ≤ k ∧ k < w.heap.size := by
  intro k hk
  rcases h.2 with ⟨h1, _⟩ | ⟨g, cap, cur, hv, hB, hg, _⟩
  · rw [h1] at hk; cases hk
  · rw [hv] at hk
    injection hk with hk
    change g = k at hk
    subst hk
    refine ⟨hB, ?_⟩
    rcases Nat.lt_or_ge g w.heap.size with h' | h'
    · exact h'
    · rw [Array.getElem?_eq_none h'] at hg; cases hg
theorem OwA.below {w w' : World} {B : Nat} {v : Value} {qs : List (Int × ByteArray)} (h : OwA w B v qs) (hb : Below w.heap.size w w') : OwA w' B v qs := by
  refine ⟨h.1, ?_⟩
  rcases h.2 with h1 | ⟨g, cap, cur, hv, hB, hg, hr⟩
  · exact Or.inl h1
  · refine Or.inr ⟨g, cap, cur, hv, hB, ?_, hr⟩
    have hlt : g < w.heap.size := by
      rcases Nat.lt_or_ge g w.heap.size with h' | h'
      · exact h'
      · rw [Array.getElem?_eq_none h'] at hg; cases hg
    rw [hb.block g hlt, hg]
theorem OwA.shape {w : World} {B : Nat} {v : Value} {qs : List (Int × ByteArray)} (h : OwA w B v qs) : ∃ a c, v = .slice a qs.length c ∧ qs.length ≤ c ∧ c ≤ maxLen := by
  rcases h.2 with ⟨h1, h2⟩ | ⟨g, cap, cur, hv, hb, hg, hnc, hcm, _⟩
  · exact ⟨none, 0, by rw [h1, h2], by omega, by simp [maxLen]⟩
  · exact ⟨_, _, hv, hnc, hcm⟩
theorem OwA.cells {w : World} {B : Nat} {v : Value} {qs : List (Int × ByteArray)} (h : OwA w B v qs) {k : Nat} {x : Int × ByteArray} (hk : qs[k]? = some x) : ∃ g c, v = .slice (some ⟨g, 0, none⟩) qs.length c ∧ w.cell? ⟨g, k * 2, none⟩ = some (.int .i64 x.1) ∧ w.cell? ⟨g, k * 2 + 1, none⟩ = some (.string x.2) := by
  obtain ⟨hl, he⟩ := List.getElem?_eq_some_iff.1 hk
  rcases h.2 with ⟨_, h2⟩ | ⟨g, cap, cur, hv, hb, hg, hnc, hcm, hsz, ht⟩
  · omega
  · have hf : (flatA qs)[k * 2]? = some (.int .i64 x.1) ∧ (flatA qs)[k * 2 + 1]? = some (.string x.2) := by
      have e : qs = qs.take k ++ x :: qs.drop (k + 1) := by rw [← he, ← List.drop_eq_getElem_cons hl]; exact (List.take_append_drop _ _).symm
      have hfl : (flatA (qs.take k)).length = k * 2 := by rw [flatA_len]; simp; omega
      have e2 : flatA qs = flatA (qs.take k) ++ ([.int .i64 x.1, .string x.2] ++ flatA (qs.drop (k + 1))) := by
        conv => lhs; rw [e]
        rw [flatA_append]; rfl
      rw [e2]
      constructor
      · rw [List.getElem?_append_right (by omega), hfl, Nat.sub_self]; rfl
      · rw [List.getElem?_append_right (by omega), hfl, Nat.add_sub_cancel_left]; rfl
    have key : ∀ j u, (flatA qs)[j]? = some u → w.cell? ⟨g, j, none⟩ = some u := fun j u hj => by
      rw [cell_of_row w g j cur 42 (0, 0) hg]
      have hjl := (List.getElem?_eq_some_iff.1 hj).1
      rw [flatA_len] at hjl
      rw [← ht, List.getElem?_take, if_pos (by omega), Array.getElem?_toList] at hj
      exact hj
    exact ⟨g, cap, hv, key _ _ hf.1, key _ _ hf.2⟩

/-- Nothing but two blocks is written. -/
structure Kp (w w' : World) (g : Nat) (r : Option Nat) : Prop where
  os : w'.os = w.os
  tape : w'.tape = w.tape
  output : w'.output = w.output
  size : w.heap.size ≤ w'.heap.size
  block : ∀ i, i < w.heap.size → i ≠ g → some i ≠ r → w'.heap[i]? = w.heap[i]?
theorem Kp.below {w w' : World} {g B : Nat} {r : Option Nat} (h : Kp w w' g r) (hg : B ≤ g) (hr : ∀ k, r = some k → B ≤ k) (hB : B ≤ w.heap.size) : Below B w w' :=
  ⟨h.os, h.tape, h.output, by have := h.size; omega, fun i hi => h.block i (by omega) (by omega) (fun e => by have := hr i e.symm; omega)⟩
/-- The list of what was asked, in a variable of its own. -/
structure Got (w : World) (B gg : Nat) (v : Value) (qs : List (Int × ByteArray)) : Prop where
  blk : w.heap[gg]? = some (.cells #[v] 36 (0, 0))
  row : OwA w B v qs
  ne : v.ownBlock ≠ some gg
  low : B ≤ gg
theorem Got.lt {w : World} {B gg : Nat} {v : Value} {qs : List (Int × ByteArray)} (h : Got w B gg v qs) : gg < w.heap.size := by
  rcases Nat.lt_or_ge gg w.heap.size with h' | h'
  · exact h'
  · have := h.blk; rw [Array.getElem?_eq_none h'] at this; cases this
theorem Got.below {w w' : World} {B gg : Nat} {v : Value} {qs : List (Int × ByteArray)} (h : Got w B gg v qs) (hb : Below w.heap.size w w') : Got w' B gg v qs :=
  ⟨by rw [hb.block gg h.lt]; exact h.blk, h.row.below hb, h.ne, h.low⟩

theorem set_block {w : World} {g : Nat} {v v' : Value} {t : TypeId} (h : w.heap[g]? = some (.cells #[v] t (0, 0))) : (w.setCell ⟨g, 0, none⟩ v').heap[g]? = some (.cells #[v'] t (0, 0)) := by
  simp [World.setCell, Array.getElem?_modify, h]
theorem set_grown (w : World) (g : Nat) (v : Value) : w.grownBy (w.setCell ⟨g, 0, none⟩ v) (some g) := by
  refine ⟨rfl, rfl, rfl, by simp [World.setCell], fun i hi hne => ?_⟩
  have : g ≠ i := fun e => hne (by rw [e])
  simp [World.setCell, Array.getElem?_modify, this]
theorem got_kept {w w2 : World} {B gg : Nat} {v : Value} {qs : List (Int × ByteArray)} {o : Obj} (h : Got w B gg v qs) (g2 : (w.alloc o).grownBy w2 v.ownBlock) : w2.heap[gg]? = some (.cells #[v] 36 (0, 0)) := by
  rw [g2.block gg (by have := h.lt; simp; omega) (fun e => h.ne e.symm), Below.heap_alloc _ _ _ h.lt]
  exact h.blk
theorem got_far {w : World} {B gg g2 : Nat} {v : Value} {qs : List (Int × ByteArray)} (h : Got w B gg v qs) (hw : v.ownBlock = some g2 ∨ g2 = w.heap.size + 1) : g2 ≠ gg := by
  intro e
  subst e
  rcases hw with hw | hw
  · exact h.ne hw
  · have := h.lt; omega
theorem got_kp {w w2 : World} {gg : Nat} {v : Value} {o : Obj} (g2 : (w.alloc o).grownBy w2 v.ownBlock) (x : Value) : Kp w (w2.setCell ⟨gg, 0, none⟩ x) gg v.ownBlock := by
  have hs := set_grown w2 gg x
  refine ⟨hs.os.trans g2.os, hs.tape.trans g2.tape, hs.output.trans g2.output, ?_, fun i hi h1 h2 => ?_⟩
  · have a := hs.size; have b := g2.size; simp at b; omega
  · rw [hs.block i (by have b := g2.size; simp at b; omega) (fun e => h1 (by injection e)), g2.block i (by simp; omega) h2, Below.heap_alloc _ _ _ hi]
theorem got_below {w w2 : World} {B gg : Nat} {v : Value} {qs : List (Int × ByteArray)} {o : Obj} (h : Got w B gg v qs) (hB : B ≤ w.heap.size) (g2 : (w.alloc o).grownBy w2 v.ownBlock) (x : Value) : Below B w (w2.setCell ⟨gg, 0, none⟩ x) :=
  (got_kp g2 x).below h.low (fun k hk => (h.row.at k hk).1) hB
theorem got_new {w2 : World} {B gg g2 cap : Nat} {v : Value} {qs : List (Int × ByteArray)} {at' : Int} {name : ByteArray} (hb : w2.heap[gg]? = some (.cells #[v] 36 (0, 0))) (ho : w2.ownsRow B 42 2 (.slice (some ⟨g2, 0, none⟩) (qs.length + 1) cap) (qs.length + 1) (flatA qs ++ [.int .i64 at', .string name])) (hne : g2 ≠ gg) (hl : B ≤ gg) :
    Got (w2.setCell ⟨gg, 0, none⟩ (.slice (some ⟨g2, 0, none⟩) (qs.length + 1) cap)) B gg (.slice (some ⟨g2, 0, none⟩) (qs.length + 1) cap) (qs ++ [(at', name)]) := by
  refine ⟨set_block hb, ?_, fun e => hne (by injection e), hl⟩
  have h := ho.kept (set_grown w2 gg (.slice (some ⟨g2, 0, none⟩) (qs.length + 1) cap)) (Or.inr (fun e => hne (by injection e)))
  show World.ownsRow _ _ _ _ _ _ _
  rw [flatA_append, List.length_append]
  exact h
theorem Kp.more {w w' w'' : World} {g : Nat} {r : Option Nat} (h : Kp w w' g r) (hb : Below w'.heap.size w' w'') : Kp w w'' g r :=
  ⟨hb.os.trans h.os, hb.tape.trans h.tape, hb.output.trans h.output, Nat.le_trans h.size hb.size, fun i hi h1 h2 => (hb.block i (Nat.lt_of_lt_of_le hi h.size)).trans (h.block i hi h1 h2)⟩

theorem errno_any (n : Int) (w : World) : Calls Tryd.prog 16 #[.int .i64 n] w fun e w' => e = .returned (.int .i64 n) ∧ w' = w := by
  go_enter Tryd.func16, Tryd.ntmps16
  go_wp2
  go_ret
  exact ⟨rfl, rfl⟩

set_option maxHeartbeats 4000000 in
set_option maxRecDepth 100000 in
theorem ask_any (a0 a1 a2 a3 : Option Addr) (n0 n1 n2 n3 c0 c1 c2 c3 : Nat) (T : Tr) (at' : Int) (name : ByteArray) (B gg gt : Nat) (v : Value) (qs : List (Int × ByteArray)) (w : World)
    (hT : ∀ u, Below B w u → TrOn u a0 a1 a2 a3 n0 n1 n2 n3 T) (hG : Got w B gg v qs) (hgt : ∀ u, Below B w u → u.heap[gt]? = some (.cells #[.slice a0 n0 c0, .slice a1 n1 c1, .slice a2 n2 c2, .slice a3 n3 c3] 35 (0, 0))) (hl : qs.length ≤ 1000000) (hBw : B ≤ w.heap.size) :
    Calls Tryd.prog 14 #[.int .i64 at', .string name, .pointer (some ⟨gg, 0, none⟩), .pointer (some ⟨gt, 0, none⟩)] w fun e w' => e = .returned (stepF T at' name).val ∧ ∃ v', Got w' B gg v' (qs ++ [(at', name)]) ∧ Kp w w' gg v.ownBlock ∧ (∀ k, v'.ownBlock = some k → v.ownBlock = some k ∨ w.heap.size ≤ k) := by
  obtain ⟨i0, hi, hz0, hz1, hz2⟩ := info_parts info42
  obtain ⟨a, c, hv, hc1, hc2⟩ := hG.row.shape
  have hcg : w.cell? ⟨gg, 0, none⟩ = some v := by rw [cell_of_row _ _ 0 _ 36 (0, 0) hG.blk]; rfl
  have hfg : w.frozen? ⟨gg, 0, none⟩ = false := by simp [World.frozen?, hG.blk]
  subst hv
  have OW : Hid ((w.alloc (.cells #[.int .i64 at', .string name] 42)).ownsRow B 42 2 (.slice a qs.length c) qs.length (flatA qs)) := World.ownsRow.alloc hG.row _
  have NB : Hid (∀ j u, ([.int .i64 at', .string name] : List Value)[j]? = some u → (w.alloc (.cells #[.int .i64 at', .string name] 42)).cell? ((⟨w.heap.size, 0, none⟩ : Addr).add j) = some u) := World.news_of_block (heap_alloc_new w _)
  have b1 : qs.length + 1 ≤ maxLen := by simp [maxLen]; omega
  have b2 : (qs.length + 1) * 24 ≤ 140737488355328 := by omega
  have b3 : B ≤ (w.alloc (.cells #[.int .i64 at', .string name] 42)).heap.size := by simp; omega
  have HG : Hid (Got w B gg (.slice a qs.length c) qs) := hG
  have HT : Hid (∀ u, Below B w u → TrOn u a0 a1 a2 a3 n0 n1 n2 n3 T) := hT
  have HTT : Hid (∀ u, Below B w u → u.heap[gt]? = some (.cells #[.slice a0 n0 c0, .slice a1 n1 c1, .slice a2 n2 c2, .slice a3 n3 c3] 35 (0, 0))) := hgt
  obtain ⟨o, ho⟩ : ∃ o, stepF T at' name = o := ⟨_, rfl⟩
  rw [ho]
  clear hG hT hgt
  have hggl := HG.out.lt
  have hH : (w.alloc (.cells #[.int .i64 at', .string name] 42)).heap.size = w.heap.size + 1 := by simp
  go_enter Tryd.func14, Tryd.ntmps14
  go_wp2_with (first
    | (at_builtin; refine wpList_append_lies _ rfl (.tmp 14) (.tmp 18) 36 rfl B 42 i0 _ 2 24 Tryd.underlying36 hi hz0 hz1 hz2 rfl (by decide) _ _ _ rfl OW.out ⟨w.heap.size, 0, none⟩ 1 1 [.int .i64 at', .string name] rfl rfl NB.out (by simp [Value.oneCell']) (by decide) b1 b2 b3 (w.heap.size + 1) hH ?_; intro g2 cap2 w2 own2 grow2 wh2 lt2; have bk2 : w2.heap[gg]? = some (.cells #[.slice a qs.length c] 36 (0, 0)) := got_kept HG.out grow2; have cg2 : w2.cell? ⟨gg, 0, none⟩ = some (.slice a qs.length c) := (by rw [cell_of_row _ _ 0 _ 36 (0, 0) bk2]; rfl); have fg2 : w2.frozen? ⟨gg, 0, none⟩ = false := (by simp [World.frozen?, bk2]); have ne2 : g2 ≠ gg := got_far HG.out wh2; have bel3 : Below B w (w2.setCell ⟨gg, 0, none⟩ (.slice (some ⟨g2, 0, none⟩) (qs.length + 1) cap2)) := got_below HG.out hBw grow2 _; have t3 := HTT.out _ bel3; have f0 : (w2.setCell ⟨gg, 0, none⟩ (.slice (some ⟨g2, 0, none⟩) (qs.length + 1) cap2)).cell? ⟨gt, 0, none⟩ = some (.slice a0 n0 c0) := (by rw [cell_of_row _ _ 0 _ 35 (0, 0) t3]; rfl); have f1 : (w2.setCell ⟨gg, 0, none⟩ (.slice (some ⟨g2, 0, none⟩) (qs.length + 1) cap2)).cell? ⟨gt, 1, none⟩ = some (.slice a1 n1 c1) := (by rw [cell_of_row _ _ 1 _ 35 (0, 0) t3]; rfl); have f2 : (w2.setCell ⟨gg, 0, none⟩ (.slice (some ⟨g2, 0, none⟩) (qs.length + 1) cap2)).cell? ⟨gt, 2, none⟩ = some (.slice a2 n2 c2) := (by rw [cell_of_row _ _ 2 _ 35 (0, 0) t3]; rfl); have f3 : (w2.setCell ⟨gg, 0, none⟩ (.slice (some ⟨g2, 0, none⟩) (qs.length + 1) cap2)).cell? ⟨gt, 3, none⟩ = some (.slice a3 n3 c3) := (by rw [cell_of_row _ _ 3 _ 35 (0, 0) t3]; rfl); have HTR : Hid (TrOn (w2.setCell ⟨gg, 0, none⟩ (.slice (some ⟨g2, 0, none⟩) (qs.length + 1) cap2)) a0 a1 a2 a3 n0 n1 n2 n3 T) := HT.out _ bel3; have GOT : Hid (Got (w2.setCell ⟨gg, 0, none⟩ (.slice (some ⟨g2, 0, none⟩) (qs.length + 1) cap2)) B gg (.slice (some ⟨g2, 0, none⟩) (qs.length + 1) cap2) (qs ++ [(at', name)])) := got_new bk2 own2 ne2 HG.out.low; have KP : Hid (Kp w (w2.setCell ⟨gg, 0, none⟩ (.slice (some ⟨g2, 0, none⟩) (qs.length + 1) cap2)) gg (Value.slice a qs.length c).ownBlock) := got_kp grow2 _; have WH : Hid ((Value.slice a qs.length c).ownBlock = some g2 ∨ g2 = w.heap.size + 1) := wh2; clear t3 bel3 own2 grow2 wh2)
    | (go_at_call 15; refine (step_any a0 a1 a2 a3 n0 n1 n2 n3 c0 c1 c2 c3 T at' name _ HTR.out).mono ?_; rintro e u4 ⟨rfl, bel⟩; rw [ho]; have BB : Hid (Below (w2.setCell ⟨gg, 0, none⟩ (.slice (some ⟨g2, 0, none⟩) (qs.length + 1) cap2)).heap.size (w2.setCell ⟨gg, 0, none⟩ (.slice (some ⟨g2, 0, none⟩) (qs.length + 1) cap2)) u4) := bel; clear bel; unfold Out.val)
    | (go_at_call 16; refine (errno_any _ _).mono ?_; rintro e u5 ⟨rfl, hu⟩; rw [hu]; clear hu))
  refine bodyPost_ret (results_tmp4 rfl _ _ _) rfl ?_
  refine ⟨rfl, _, GOT.out.below BB.out, KP.out.more BB.out, fun k hk => ?_⟩
  injection hk with hk
  change g2 = k at hk
  subst hk
  rcases WH.out with h | h
  · exact Or.inl h
  · exact Or.inr (by omega)
end Go.Proofs.YtmbdacdgbmpedaaDoor
