/-
  SEAT Ytejonebnmeinhab: JudgeSees: sameInts, Next, the program's Wear.
-/
import Derived.Test.YtejonebnmeinhabRefP
import Derived.Test.YtejonebnmeinhabFnE
import Derived.Test.YtejonebnmeinhabRefA
import Derived.Deep.QuietTactic
namespace Go.Proofs.Ytejonebnmeinhab
open Go.RowKit
set_option linter.unusedVariables false

/-- A row of numbers in a block of its own. -/
def IntsAt (w : World) (g : Nat) (xs : List Int) : Prop := w.heap[g]? = some (.cells (xs.map (Value.int .i64)).toArray 3 (0, 0))
theorem IntsAt.lt {w : World} {g : Nat} {xs : List Int} (h : IntsAt w g xs) : g < w.heap.size := by
  rcases Nat.lt_or_ge g w.heap.size with q | q
  · exact q
  · unfold IntsAt at h
    simp [Array.getElem?_eq_none q] at h
theorem IntsAt.cell {w : World} {g : Nat} {xs : List Int} (h : IntsAt w g xs) (i : Nat) (hi : i < xs.length) : w.cell? ⟨g, i, none⟩ = some (.int .i64 (xs.getD i 0)) := by
  unfold IntsAt at h
  simp only [World.cell?, h, List.getElem?_toArray, List.getElem?_map, List.getElem?_eq_getElem hi, List.getD_eq_getElem?_getD]
  rfl
theorem IntsAt.free {w : World} {g : Nat} {xs : List Int} (h : IntsAt w g xs) (j : Nat) : w.frozen? ⟨g, j, none⟩ = false := by
  unfold IntsAt at h
  simp [World.frozen?, h]
theorem IntsAt.put {w : World} {g : Nat} {xs : List Int} (h : IntsAt w g xs) (i : Nat) (x : Int) : IntsAt (w.setCell ⟨g, i, none⟩ (.int .i64 x)) g (xs.set i x) := by
  have := heap_setCell_same w g i _ 3 (.int .i64 x) h
  unfold IntsAt
  rw [this, List.map_set]
  simp
theorem IntsAt.grown {w w' : World} {g : Nat} {xs : List Int} {r : Option Nat} (h : IntsAt w g xs) (hg : w.grownBy w' r) (hr : some g ≠ r) : IntsAt w' g xs := (hg.block g h.lt hr).trans h
theorem IntsAt.below {w w' : World} {g : Nat} {xs : List Int} {B : Nat} (h : IntsAt w g xs) (hb : Below B w w') (hg : g < B) : IntsAt w' g xs := (hb.block g hg).trans h
theorem IntsAt.drewN {w : World} {g : Nat} {xs : List Int} (h : IntsAt w g xs) (k : Nat) : IntsAt (w.drewN k) g xs := h

set_option maxHeartbeats 1000000 in
theorem sameInts_eq (g1 g2 n c1 c2 : Nat) (xs : List Int) (w : World) (h1 : IntsAt w g1 xs) (h2 : IntsAt w g2 xs) (hn : xs.length = n) (hl : n ≤ 5000) :
    Calls Try.prog 36 #[.slice (some ⟨g1, 0, none⟩) n c1, .slice (some ⟨g2, 0, none⟩) n c2] w fun e w' => e = .returned (.bool true) ∧ ∃ q, w' = w.drewN q := by
  have d0 : ((n : Int) != n) = false := by simp
  have H1 : Hid _ := h1
  have H2 : Hid _ := h2
  clear h1 h2
  go_enter Try.func36, Try.ntmps36
  go_wp2
  go_loopw [5] (fun s5 wr => ∃ k : Nat, k ≤ n ∧ s5 = .int .i64 k ∧ ∃ q, wr = w.drewN q)
    (fun i _ => n - (intOf i).toNat)
  case atStart => exact ⟨0, Nat.zero_le _, rfl, 0, rfl⟩
  case round =>
    obtain ⟨k, hk, rfl, q, rfl⟩ := hrel
    by_cases hlt : k < n
    · have y1 := IntsAt.cell H1.out k (by omega)
      have y2 := IntsAt.cell H2.out k (by omega)
      obtain ⟨d, hd⟩ : ∃ d, xs.getD k 0 = d := ⟨_, rfl⟩
      rw [hd] at y1 y2
      have dk : (k : Int) < n := by omega
      clear hd
      go_wp2
      go_quiet (fail)
      go_wp2
      go_roundw
      case rel => exact ⟨k + 1, by omega, by go_num, _, rfl⟩
      case measure => simp [intOf]; omega
    · obtain rfl : k = n := by omega
      go_wp2
      go_ret
      exact ⟨rfl, _, rfl⟩

/-- What Next tells. -/
def nextN (p : Int) (st : List Blk) (x : Int) : Int := if 0 ≤ x ∧ x < st.length then (if (st.getD x.toNat Blk.zero).m then p else (st.getD x.toNat Blk.zero).n) else 0
def nextF (st : List Blk) (x : Int) : Int := if 0 ≤ x ∧ x < st.length then 0 else 41
set_option maxHeartbeats 1000000 in
set_option maxRecDepth 100000 in
theorem jnext_any (gj bm : Nat) (b p s : Int) (st : List Blk) (x : Int) (w : World) (h : JudgeAt w gj b p s bm st) (hx : Wf x) :
    Calls Try.prog 32 #[.pointer (some ⟨gj, 0, none⟩), .int .i64 x] w fun e w' => e = .returned (.tuple #[.int .i64 (nextN p st x), .int .i64 (nextF st x)]) ∧ Below w.heap.size w w' := by
  have c1 := h.c1
  have c3 := h.c3
  have hlt : gj < w.heap.size := block_lt_of_cell h.c3
  unfold nextN nextF
  by_cases hm : 0 ≤ x ∧ x < st.length
  · have hL := h.knows.look x hx hm.1 hm.2
    rw [if_pos hm, if_pos hm]
    obtain ⟨Y, hY⟩ : ∃ Y, st.getD x.toNat Blk.zero = Y := ⟨_, rfl⟩
    rw [hY] at hL ⊢
    obtain ⟨m, n, er⟩ := Y
    simp only [Blk.val] at hL
    clear h hm hY
    cases m with
    | true =>
      go_enter Try.func32, Try.ntmps32
      go_wp2
      go_ret2
      exact ⟨rfl, (Below.refl _ _).alloc (Nat.le_refl _) _⟩
    | false =>
      go_enter Try.func32, Try.ntmps32
      go_wp2
      go_ret2
      exact ⟨rfl, (Below.refl _ _).alloc (Nat.le_refl _) _⟩
  · have hL := h.knows.miss x hx hm
    rw [if_neg hm, if_neg hm]
    simp only [Blk.val, Blk.zero] at hL
    clear h hm
    go_enter Try.func32, Try.ntmps32
    go_wp2
    go_ret2
    exact ⟨rfl, (Below.refl _ _).alloc (Nat.le_refl _) _⟩

set_option maxHeartbeats 1000000 in
theorem rnext_any (gr : Nat) (b p s : Int) (am : Option Addr) (lm km : Nat) (bs : List Bool) (clean : Bool) (ac : Option Addr) (n kc : Nat) (seen : List Cmd) (x : Int) (w : World) (h : RefAt w gr b p s am lm km bs clean ac n kc seen) (hb : b = lm) (hn : n ≤ 140737488355000) (hlm : lm ≤ 100000) (hpg : ∀ c ∈ seen, c.k = 1 → c.p + 1 ≤ 9223372036854775807) :
    Calls Try.prog 33 #[.pointer (some ⟨gr, 0, none⟩), .int .i64 x] w fun e w' => e = .returned (.tuple #[.int .i64 (nextN p (know p clean bs seen) x), .int .i64 (nextF (know p clean bs seen) x)]) ∧ Below w.heap.size w w' := by
  have c0 := h.c0
  have c1 := h.c1
  have hbl := h.marks.1
  have HB : Hid (b = lm) := hb
  have HPG : Hid _ := hpg
  have H : Hid _ := h
  unfold nextN nextF
  rw [know_length, hbl]
  by_cases hm : 0 ≤ x ∧ x < lm
  · rw [if_pos hm, if_pos hm]
    obtain ⟨j, rfl⟩ := Int.eq_ofNat_of_zero_le hm.1
    have hj : j < lm := by omega
    rw [Int.toNat_natCast, know_getD _ _ _ _ _ (by omega)]
    unfold knowAt
    simp only
    have dj : ¬ (b ≤ (j : Int)) := by omega
    have dj0 : ¬ ((j : Int) < 0) := by omega
    obtain ⟨M, hM⟩ : ∃ M, markedR (bs.getD j false) seen j = M := ⟨_, rfl⟩
    obtain ⟨N, hN⟩ : ∃ N, nextR p (firstN clean p) seen j = N := ⟨_, rfl⟩
    rw [hM, hN]
    have HM : Hid _ := hM
    have HN : Hid _ := hN
    clear h hm hM hN hb hpg hbl
    cases M with
    | true =>
      go_enter Try.func33, Try.ntmps33
      go_wp2_with (first | (go_at_call 84; refine (marked_any gr b p s am lm km bs clean ac n kc seen j _ H.out hj hn hlm).mono ?_; rintro e u ⟨rfl, rfl⟩; rw [HM.out]))
      go_ret2
      exact ⟨rfl, Below.refl _ _⟩
    | false =>
      go_enter Try.func33, Try.ntmps33
      go_wp2_with (first | (go_at_call 84; refine (marked_any gr b p s am lm km bs clean ac n kc seen j _ H.out hj hn hlm).mono ?_; rintro e u ⟨rfl, rfl⟩; rw [HM.out]) | (go_at_call 85; refine (next_any gr b p s am lm km bs clean ac n kc seen j _ H.out hn HPG.out).mono ?_; rintro e u ⟨rfl, q1⟩; rw [HN.out]; have Q1 : Hid _ := q1; clear q1))
      go_ret2
      exact ⟨rfl, Q1.out⟩
  · rw [if_neg hm, if_neg hm]
    by_cases h0 : x < 0
    · clear h hm hb hpg hbl
      go_enter Try.func33, Try.ntmps33
      go_wp2
      go_ret2
      exact ⟨rfl, Below.refl _ _⟩
    · have h1 : b ≤ x := by omega
      clear h hm hb hpg hbl
      go_enter Try.func33, Try.ntmps33
      go_wp2
      go_ret2
      exact ⟨rfl, Below.refl _ _⟩

theorem info3 : (Try.prog.info? 3).map (fun i => (i.zero, i.size, i.bytes)) = some (some (.int .i64 0), 1, 8) := by kernel_rfl
theorem ints_made (n : Nat) : madeCells #[.int .i64 0] (n * 1) = ((List.replicate n (0 : Int)).map (Value.int .i64)).toArray := by
  apply Array.ext'
  apply List.ext_getElem?
  intro j
  by_cases hj : j < n
  · have hl : (madeCells #[.int .i64 0] (n * 1)).toList[j]? = some ((#[.int .i64 0] : Array Value)[j % 1]!) := by
      simp [madeCells, hj]
    rw [hl, Nat.mod_one]
    simp [hj]
  · rw [List.getElem?_eq_none (by simp [madeCells]; omega), List.getElem?_eq_none (by simp; omega)]
theorem make_ints (n : Nat) (hn : n ≤ 5000) (u : World) : (Instr.makeSlice 87 (.int .i64 (n : Int)) (.int .i64 (n : Int))).run Try.prog u = .ok (.slice (some ⟨u.heap.size, 0, none⟩) n n) (u.alloc (.cells (Array.replicate n (.int .i64 0)) 3)) := by
  obtain ⟨i0, hi, hz0, hz1, hz2⟩ := info_parts info3
  have h := run_makeSlice u 87 3 i0 _ Try.underlying87 hi hz0 .i64 .i64 (n : Int) (n : Int) (by omega) (by omega) (by rw [hz1]; omega) (by rw [hz2]; omega) (by omega)
  have e := ints_made n
  simp only [List.map_replicate, List.toArray_replicate] at e
  rw [h, hz1, ← e]
  simp [Value.cells]

/-- How often each block was erased, of the first k. -/
def wearK (st : List Blk) (k : Nat) : List Int := (st.take k).map Blk.e ++ List.replicate (st.length - k) 0
theorem wearK_len (st : List Blk) (k : Nat) (hk : k ≤ st.length) : (wearK st k).length = st.length := by simp [wearK]; omega
theorem wearK_step (st : List Blk) (k : Nat) (hk : k < st.length) : (wearK st k).set k (st.getD k Blk.zero).e = wearK st (k + 1) := by
  have hl : ((st.take k).map Blk.e).length = k := by simp; omega
  have e1 : st.length - k = (st.length - (k + 1)) + 1 := by omega
  unfold wearK
  rw [List.set_append_right _ _ (by omega), hl, Nat.sub_self, e1, List.replicate_succ, List.set_cons_zero, List.take_succ_eq_append_getElem hk, List.map_append, List.append_assoc, List.getD_eq_getElem?_getD, List.getElem?_eq_getElem hk]
  rfl
set_option maxRecDepth 100000 in
theorem field_e (m : Bool) (n e : Int) (w : World) : (Instr.field 148 (.agg #[.bool m, .int .i64 n, .int .i64 e]) 2).run Try.prog w = .ok (.int .i64 e) w := by
  kernel_rfl
set_option maxHeartbeats 1000000 in
set_option maxRecDepth 100000 in
theorem jwear_any (gj bm : Nat) (b p s : Int) (st : List Blk) (n : Nat) (w : World) (h : JudgeAt w gj b p s bm st) (hb : b = n) (hst : st.length = n) (hn : n ≤ 5000) :
    Calls Try.prog 34 #[.pointer (some ⟨gj, 0, none⟩)] w fun e w' => e = .returned (.slice (some ⟨w.heap.size, 0, none⟩) n n) ∧ IntsAt w' w.heap.size (st.map Blk.e) ∧ Below w.heap.size w w' := by
  subst hb
  have hc0 := h.c0
  have H : Hid _ := h
  have hmk := make_ints n hn
  have HST : Hid _ := hst
  have hA : Below w.heap.size w (w.alloc (.cells (Array.replicate n (.int .i64 0)) 3)) := (Below.refl _ _).alloc (Nat.le_refl _) _
  have HI0 : Hid (IntsAt (w.alloc (.cells (Array.replicate n (.int .i64 0)) 3)) w.heap.size (wearK st 0)) := by
    have e : wearK st 0 = List.replicate n 0 := by simp [wearK, hst]
    unfold Hid
    rw [e]
    unfold IntsAt
    rw [List.map_replicate, List.toArray_replicate]
    exact heap_alloc_new w _
  have HA : Hid _ := hA
  clear h hst hA
  go_enter Try.func34, Try.ntmps34
  go_wp2
  go_loopw [4, 13] (fun s4 s13 wr => ∃ k : Nat, k ≤ n ∧ s13 = .int .i64 k ∧ Hid (IntsAt wr w.heap.size (wearK st k)) ∧ Below w.heap.size w wr)
    (fun _ i _ => n - (intOf i).toNat)
  case atStart => exact ⟨0, Nat.zero_le _, rfl, HI0, HA.out⟩
  case round =>
    obtain ⟨k, hk, rfl, HI, hbel⟩ := hrel
    by_cases hlt : k < n
    · have JA : JudgeAt wr gj (n : Int) p s bm st := H.out.grown (grown_of hbel none)
      have k3 := JA.c3
      have hL := JA.knows.look1 (k : Int) (by unfold Wf; omega) (by omega) (by have := HST.out; omega)
      rw [Int.toNat_natCast] at hL
      obtain ⟨Y, hY⟩ : ∃ Y, st.getD k Blk.zero = Y := ⟨_, rfl⟩
      rw [hY] at hL
      obtain ⟨m, nx, er⟩ := Y
      simp only [Blk.val] at hL
      have hkl : k < st.length := by have := HST.out; omega
      have y0 := IntsAt.cell HI.out k (by rw [wearK_len _ _ (by omega)]; exact hkl)
      have f0 := IntsAt.free HI.out k
      have hp := IntsAt.put HI.out k er
      have hw := wearK_step st k hkl
      rw [hY] at hw
      simp only at hw
      rw [hw] at hp
      have HP : Hid _ := hp
      have HB1 : Hid (Below w.heap.size w (wr.setCell ⟨w.heap.size, k, none⟩ (.int .i64 er))) := hbel.setCell (p := ⟨w.heap.size, k, none⟩) (Nat.le_refl _) _
      obtain ⟨old, hold⟩ : ∃ old, (wearK st k).getD k 0 = old := ⟨_, rfl⟩
      rw [hold] at y0
      have dk : (k : Int) < n := by omega
      have hF := field_e m nx er wr
      clear JA hY hp hw hold hmk
      go_wp2
      go_roundw
      case rel => exact ⟨k + 1, by omega, by go_num, HP, HB1.out⟩
      case measure => simp [intOf]; omega
    · obtain rfl : k = n := by omega
      have e : wearK st k = st.map Blk.e := by
        have := HST.out
        unfold wearK
        rw [List.take_of_length_le (by omega), show st.length - k = 0 by omega]
        simp
      have HI2 := HI.out
      rw [e] at HI2
      have HI3 : Hid _ := HI2
      clear HI2 e hmk
      go_wp2
      go_ret
      exact ⟨rfl, HI3.out, hbel⟩
end Go.Proofs.Ytejonebnmeinhab
