/-
  SEAT Ytejonebnmeinhab: the reference's See.
-/
import Derived.Test.YtejonebnmeinhabRefC
import Derived.Test.YtejonebnmeinhabRefD
import Derived.Test.YtejonebnmeinhabRefE
import Derived.Test.YtejonebnmeinhabRefE2
import Derived.Deep.RegionLaw
import Derived.OneCell
namespace Go.Proofs.Ytejonebnmeinhab
open Go.RowKit
set_option linter.unusedVariables false

/-- The reference's judge, its row of commands its own, all of it from block B on. -/
structure RefOwn (w : World) (B gr : Nat) (b p s : Int) (am : Option Addr) (lm km : Nat) (bs : List Bool) (clean : Bool) (v : Value) (n : Nat) (seen : List Cmd) : Prop where
  c0 : w.cell? ⟨gr, 0, none⟩ = some (.int .i64 b)
  c1 : w.cell? ⟨gr, 1, none⟩ = some (.int .i64 p)
  c2 : w.cell? ⟨gr, 2, none⟩ = some (.int .i64 s)
  c3 : w.cell? ⟨gr, 3, none⟩ = some (.slice am lm km)
  c4 : w.cell? ⟨gr, 4, none⟩ = some (.bool clean)
  c5 : w.cell? ⟨gr, 5, none⟩ = some v
  fz : w.frozen? ⟨gr, 5, none⟩ = false
  marks : ReadsB w am lm bs
  low : ∀ x, am = some x → x.block < B
  own : w.ownsRow B 73 4 v n (flat seen)
  far : v.ownBlock ≠ some gr
  ok : ∀ c ∈ seen, c.Ok
  base : B ≤ gr

theorem ReadsB.low {w w' : World} {a : Option Addr} {len B : Nat} {bs : List Bool} (h : ReadsB w a len bs) (hl : ∀ x, a = some x → x.block < B) (hb : Below B w w') : ReadsB w' a len bs := by
  obtain ⟨h1, h2, h3⟩ := h
  refine ⟨h1, h2, fun x hx i hi => ?_⟩
  rw [hb.cell (by have := hl x hx; unfold Addr.add; split <;> simpa using this)]
  exact h3 x hx i hi

theorem own_slice {w : World} {B n : Nat} {v : Value} {cs : List Cmd} (h : w.ownsRow B 73 4 v n (flat cs)) (hok : ∀ c ∈ cs, c.Ok) : ∃ a k, v = .slice a n k ∧ ReadsC w a n cs := by
  have hl : cs.length = n := by have := h.1; rw [flat_length] at this; omega
  rcases h.2 with ⟨hv, h0⟩ | ⟨g, cap, cur, hv, _⟩
  · subst h0
    exact ⟨none, 0, hv, hl, hok, fun _ => rfl, fun _ h => by cases h⟩
  · subst hv
    have := own_readsC h hok (Nat.le_refl n)
    rw [List.take_of_length_le (by omega)] at this
    exact ⟨_, _, rfl, this⟩

theorem RefOwn.at {w : World} {B gr : Nat} {b p s : Int} {am : Option Addr} {lm km : Nat} {bs : List Bool} {clean : Bool} {v : Value} {n : Nat} {seen : List Cmd} (h : RefOwn w B gr b p s am lm km bs clean v n seen) : ∃ ac kc, v = .slice ac n kc ∧ RefAt w gr b p s am lm km bs clean ac n kc seen := by
  obtain ⟨ac, kc, rfl, hr⟩ := own_slice h.own h.ok
  exact ⟨ac, kc, rfl, h.c0, h.c1, h.c2, h.c3, h.c4, h.c5, h.marks, hr⟩

theorem RefOwn.grown {w w' : World} {B gr : Nat} {b p s : Int} {am : Option Addr} {lm km : Nat} {bs : List Bool} {clean : Bool} {v : Value} {n : Nat} {seen : List Cmd} (h : RefOwn w B gr b p s am lm km bs clean v n seen) (hg : w.grownBy w' none) : RefOwn w' B gr b p s am lm km bs clean v n seen :=
  ⟨hg.cell h.c0 (by simp), hg.cell h.c1 (by simp), hg.cell h.c2 (by simp), hg.cell h.c3 (by simp), hg.cell h.c4 (by simp), hg.cell h.c5 (by simp), by rw [hg.frozen_far _ (block_lt_of_cell h.c5) (by simp)]; exact h.fz, h.marks.below (below_of hg), h.low, ⟨h.own.1, by
    rcases h.own.2 with h1 | ⟨g, cap, cur, hv, hb, hg', r⟩
    · exact Or.inl h1
    · exact Or.inr ⟨g, cap, cur, hv, hb, by rw [hg.block g (Array.getElem?_eq_some_iff.1 hg').1 (by simp)]; exact hg', r⟩⟩, h.far, h.ok, h.base⟩

theorem rkeeps_any (gr : Nat) (b p s : Int) (am : Option Addr) (lm km : Nat) (bs : List Bool) (clean : Bool) (ac : Option Addr) (n kc : Nat) (seen : List Cmd) (k cb cp cs : Int) (w : World) (h : RefAt w gr b p s am lm km bs clean ac n kc seen)
    (hb : b = lm) (hn : n ≤ 140737488355000) (hlm : lm ≤ 100000) (hpg : ∀ c ∈ seen, c.k = 1 → c.p + 1 ≤ 9223372036854775807) :
    Calls Try.prog 83 #[.pointer (some ⟨gr, 0, none⟩), .agg #[.int .i64 k, .int .i64 cb, .int .i64 cp, .int .i64 cs]] w fun e w' => e = .returned (.bool (see p (know p clean bs seen) ⟨k, cb, cp, cs⟩).isSome) ∧ Below w.heap.size w w' := by
  have hlen := h.marks.1
  have hkl := know_length p clean bs seen
  by_cases hgood : (1 ≤ k ∧ k ≤ 3) ∧ (0 ≤ cb ∧ cb < b) ∧ (cs = 0 ∨ cs = 44 ∨ cs = 45)
  · obtain ⟨hk, ⟨h0, h1⟩, ht⟩ := hgood
    obtain ⟨blk, rfl⟩ := Int.eq_ofNat_of_zero_le h0
    have hblk : blk < lm := by omega
    have hsee : (see p (know p clean bs seen) ⟨k, blk, cp, cs⟩).isSome = kpt p (knowAt p clean bs seen blk) ⟨k, blk, cp, cs⟩ := by
      rw [see_is ⟨by simp, by simp only; omega, by simpa [taken] using ht⟩]
      simp only [Int.toNat_natCast]
      rw [know_getD _ _ _ _ _ (by omega)]
    rw [hsee]
    rcases (show k = 3 ∨ k = 2 ∨ k = 1 by omega) with rfl | rfl | rfl
    · exact rkeeps_3 gr b p s am lm km bs clean ac n kc seen blk cp cs w h hblk hb ht hn hlm hpg
    · exact rkeeps_2 gr b p s am lm km bs clean ac n kc seen blk cp cs w h hblk hb ht hn hlm hpg
    · by_cases hM0 : markedR (bs.getD blk false) seen blk = false ∧ ¬ nextR p (firstN clean p) seen blk ≤ cp
      · exact rkeeps_1lt gr b p s am lm km bs clean ac n kc seen blk cp cs w h hblk hb ht hn hlm hpg hM0.1 hM0.2
      · exact rkeeps_1ge gr b p s am lm km bs clean ac n kc seen blk cp cs w h hblk hb ht hn hlm hpg hM0
  · have hsee : (see p (know p clean bs seen) ⟨k, cb, cp, cs⟩).isSome = false := by
      refine see_none fun hh => hgood ?_
      obtain ⟨q0, q1, q2, q3⟩ := hh
      have hkk := kpt_kind q3
      simp only at q0 q1 q2 hkk
      simp [taken] at q2
      exact ⟨by omega, by omega, by omega⟩
    rw [hsee]
    exact rkeeps_bad gr b p s am lm km bs clean ac n kc seen ⟨k, cb, cp, cs⟩ w h (by simp only; omega)

set_option maxHeartbeats 2000000 in
theorem rsee_false (B gr : Nat) (b p s : Int) (am : Option Addr) (lm km : Nat) (bs : List Bool) (clean : Bool) (v : Value) (n : Nat) (seen : List Cmd) (k cb cp cs : Int) (w : World) (h : RefOwn w B gr b p s am lm km bs clean v n seen) (hc : (Cmd.mk k cb cp cs).Ok)
    (hb : b = lm) (hn : (n + 1) * 32 ≤ 140737488355328) (hlm : lm ≤ 100000) (hpg : ∀ c ∈ seen, c.k = 1 → c.p + 1 ≤ 9223372036854775807) (hK : (see p (know p clean bs seen) ⟨k, cb, cp, cs⟩).isSome = false) :
    Calls Try.prog 31 #[.pointer (some ⟨gr, 0, none⟩), .agg #[.int .i64 k, .int .i64 cb, .int .i64 cp, .int .i64 cs]] w fun e w' => e = .returned (.bool false) ∧ Below B w w' ∧ RefOwn w' B gr b p s am lm km bs clean v n seen := by
  obtain ⟨i0, hi, hz0, hz1, hz2⟩ := info_parts info73
  obtain ⟨w1, hw1⟩ : ∃ w1, w1 = w.alloc (.cells #[.int .i64 k, .int .i64 cb, .int .i64 cp, .int .i64 cs] 73) := ⟨_, rfl⟩
  have g1 : w.grownBy w1 none := by rw [hw1]; exact World.grownBy_alloc _ _ _
  have hBw : B ≤ w.heap.size := by have := h.base; have := block_lt_of_cell h.c0; simp at this; omega
  have hlt : gr < w.heap.size := block_lt_of_cell h.c0
  have hS : ∀ x, w1.grownBy x none → x.cell? ⟨w.heap.size, 0, none⟩ = some (.int .i64 k) ∧ x.cell? ⟨w.heap.size, 1, none⟩ = some (.int .i64 cb) ∧ x.cell? ⟨w.heap.size, 2, none⟩ = some (.int .i64 cp) ∧ x.cell? ⟨w.heap.size, 3, none⟩ = some (.int .i64 cs) := fun x hx => by
    rw [hw1] at hx
    exact cmd_cells hx
  obtain ⟨x0, x1, x2, x3⟩ := hS w1 (World.grownBy.refl _ _)
  have HS : Hid _ := hS
  have HW : Hid (w1 = _) := hw1
  clear hS hw1
  obtain ⟨ac, kc, rfl, hA1⟩ := (h.grown g1).at
  go_enter Try.func31, Try.ntmps31
  go_wp2_with (first | (go_at_call 83; rw [← HW.out]; refine (rkeeps_any gr b p s am lm km bs clean ac n kc seen _ _ _ _ _ hA1 hb ?_ hlm hpg).mono ?_; omega; rintro e u1 ⟨rfl, bel1⟩; rw [hK]))
  go_ret
  have g2 := grownBy_trans g1 (grown_of bel1 none)
  exact ⟨rfl, (below_of g2).mono hBw, h.grown g2⟩

set_option maxHeartbeats 2000000 in
theorem rsee_true (B gr : Nat) (b p s : Int) (am : Option Addr) (lm km : Nat) (bs : List Bool) (clean : Bool) (v : Value) (n : Nat) (seen : List Cmd) (k cb cp cs : Int) (w : World) (h : RefOwn w B gr b p s am lm km bs clean v n seen) (hc : (Cmd.mk k cb cp cs).Ok)
    (hb : b = lm) (hn : (n + 1) * 32 ≤ 140737488355328) (hlm : lm ≤ 100000) (hpg : ∀ c ∈ seen, c.k = 1 → c.p + 1 ≤ 9223372036854775807) (hK : (see p (know p clean bs seen) ⟨k, cb, cp, cs⟩).isSome = true) :
    Calls Try.prog 31 #[.pointer (some ⟨gr, 0, none⟩), .agg #[.int .i64 k, .int .i64 cb, .int .i64 cp, .int .i64 cs]] w fun e w' => e = .returned (.bool true) ∧ Below B w w' ∧ ∃ v', RefOwn w' B gr b p s am lm km bs clean v' (n + 1) (seen ++ [⟨k, cb, cp, cs⟩]) := by
  obtain ⟨i0, hi, hz0, hz1, hz2⟩ := info_parts info73
  obtain ⟨w1, hw1⟩ : ∃ w1, w1 = w.alloc (.cells #[.int .i64 k, .int .i64 cb, .int .i64 cp, .int .i64 cs] 73) := ⟨_, rfl⟩
  have g1 : w.grownBy w1 none := by rw [hw1]; exact World.grownBy_alloc _ _ _
  have hBw : B ≤ w.heap.size := by have := h.base; have := block_lt_of_cell h.c0; simp at this; omega
  have hlt : gr < w.heap.size := block_lt_of_cell h.c0
  have hS : ∀ x, w1.grownBy x none → x.cell? ⟨w.heap.size, 0, none⟩ = some (.int .i64 k) ∧ x.cell? ⟨w.heap.size, 1, none⟩ = some (.int .i64 cb) ∧ x.cell? ⟨w.heap.size, 2, none⟩ = some (.int .i64 cp) ∧ x.cell? ⟨w.heap.size, 3, none⟩ = some (.int .i64 cs) := fun x hx => by
    rw [hw1] at hx
    exact cmd_cells hx
  obtain ⟨x0, x1, x2, x3⟩ := hS w1 (World.grownBy.refl _ _)
  have HS : Hid _ := hS
  have HW : Hid (w1 = _) := hw1
  clear hS hw1
  obtain ⟨ac, kc, rfl, hA1⟩ := (h.grown g1).at
  go_enter Try.func31, Try.ntmps31
  go_wp2_with (first | (go_at_call 83; rw [← HW.out]; refine (rkeeps_any gr b p s am lm km bs clean ac n kc seen _ _ _ _ _ hA1 hb ?_ hlm hpg).mono ?_; omega; rintro e u1 ⟨rfl, bel1⟩; rw [hK]))
  have gu := grown_of bel1 none
  have gwu := grownBy_trans g1 gu
  obtain ⟨y0, y1, y2, y3⟩ := HS.out u1 gu
  have hu := h.grown gwu
  have c5u := hu.c5
  have hgu : gr < u1.heap.size := block_lt_of_cell hu.c0
  have hBu : B ≤ u1.heap.size := by have := gwu.size; omega
  have ownD : ((u1.alloc (.cells #[.int .i64 k, .int .i64 cb, .int .i64 cp, .int .i64 cs] 73)).drew).ownsRow B 73 4 (.slice ac n kc) n (flat seen) := (hu.grown (gb_drew (World.grownBy_alloc _ _ none))).own
  have hnews : ∀ j x, [Value.int .i64 k, .int .i64 cb, .int .i64 cp, .int .i64 cs][j]? = some x → ((u1.alloc (.cells #[.int .i64 k, .int .i64 cb, .int .i64 cp, .int .i64 cs] 73)).drew).cell? ((⟨u1.heap.size, 0, none⟩ : Addr).add j) = some x := fun j x hj => World.news_of_block (w := u1.alloc (.cells #[.int .i64 k, .int .i64 cb, .int .i64 cp, .int .i64 cs] 73)) (heap_alloc_new u1 _) j x hj
  have hone : ∀ x ∈ [Value.int .i64 k, .int .i64 cb, .int .i64 cp, .int .i64 cs], x.oneCell' = true := flat_one [⟨k, cb, cp, cs⟩]
  have hgn : some gr ≠ (Value.slice ac n kc).ownBlock := fun e => h.far e.symm
  have HN1 : Hid _ := hnews
  have HN2 : Hid _ := hone
  have HU : Hid _ := hu
  have fzD := (hu.grown (gb_drew (World.grownBy_alloc u1 (.cells #[.int .i64 k, .int .i64 cb, .int .i64 cp, .int .i64 cs] 73) none))).fz
  have c5D := (hu.grown (gb_drew (World.grownBy_alloc u1 (.cells #[.int .i64 k, .int .i64 cb, .int .i64 cp, .int .i64 cs] 73) none))).c5
  clear hnews hone hu hA1 HS
  go_region_law ((refine step_append_lies _ (by rfl) (.tmp 13) (.tmp 15) 62 (by rfl) B 73 i0 _ 4 32 Try.underlying62 hi hz0 hz1 hz2 rfl (by decide) (.slice ac n kc) n (flat seen) (by rfl) ownD ⟨u1.heap.size, 0, none⟩ 1 1 [.int .i64 k, .int .i64 cb, .int .i64 cp, .int .i64 cs] (by rfl) rfl HN1.out HN2.out (by decide) (by simp [maxLen]; omega) (by omega) (by simp; omega) (u1.heap.size + 1) (by simp) ?_; intro g2 c2 w2 own2 grow2 hat2 hlt2; have f5 : w2.frozen? ⟨gr, 5, none⟩ = false := (by rw [grow2.frozen_far _ (by simp; omega) hgn]; exact fzD); have c5w : w2.cell? ⟨gr, 5, none⟩ = some (.slice ac n kc) := (by rw [grow2.cell_far _ (by simp; omega) hgn]; exact c5D)))
  all_goals go_wp2
  all_goals go_ret
  all_goals
    have hu := HU.out
    have hg2 : some g2 ≠ some gr := by
      rcases hat2 with h1 | h1
      · exact fun e => hgn (by rw [h1]; exact e.symm)
      · intro e; cases e; omega
    have hg2B : B ≤ g2 := by
      rcases own2.2 with ⟨h0, _⟩ | ⟨g', cap', cur, hv, hb', _⟩
      · cases h0
      · cases hv; exact hb'
    have bD : Below B w ((u1.alloc (.cells #[.int .i64 k, .int .i64 cb, .int .i64 cp, .int .i64 cs] 73)).drew) := ((((below_of gwu).mono hBw).alloc hBu _).drew)
    have bw2 : Below B w w2 := bD.grown grow2 (by simp; omega) (fun j hj => (ownD.lt j hj).1)
    have hfar : ∀ j, j ≠ 5 → ∀ x, u1.cell? ⟨gr, j, none⟩ = some x → (w2.setCell ⟨gr, 5, none⟩ (.slice (some ⟨g2, 0, none⟩) (n + 1) c2)).cell? ⟨gr, j, none⟩ = some x := fun j hj x hx => by
      rw [World.cell?_setCell_other _ _ _ _ (show (⟨gr, 5, none⟩ : Addr) ≠ ⟨gr, j, none⟩ by first | (simp; done) | (simp; omega)), grow2.cell_far _ (by simp; omega) hgn]
      exact (World.grownBy_alloc u1 _ none).cell hx (by simp)
    have bF := bw2.setCell (p := ⟨gr, 5, none⟩) h.base (.slice (some ⟨g2, 0, none⟩) (n + 1) c2)
    refine ⟨rfl, bF, .slice (some ⟨g2, 0, none⟩) (n + 1) c2, ⟨hfar 0 (by decide) _ hu.c0, hfar 1 (by decide) _ hu.c1, hfar 2 (by decide) _ hu.c2, hfar 3 (by decide) _ hu.c3, hfar 4 (by decide) _ hu.c4, World.cell?_setCell_same _ _ _ c5w, by rw [World.frozen?_setCell]; exact f5, h.marks.low h.low bF, h.low, ?_, ?_, ?_, h.base⟩⟩
    · rw [flat_append]
      exact ownsRow_setCell_other own2 (by simpa [Value.ownBlock] using hg2) _
    · simpa [Value.ownBlock] using hg2
    · intro c hcm
      rcases List.mem_append.1 hcm with h1 | h1
      · exact h.ok c h1
      · simp at h1; subst h1; exact hc
end Go.Proofs.Ytejonebnmeinhab
