/-
  SEAT Ytejonebnmeinhab: JudgeSees: the reference's Wear; the two judges side by side.
-/
import Derived.Test.YtejonebnmeinhabSeA
import Derived.Test.YtejonebnmeinhabRefG
import Derived.Test.YtejonebnmeinhabTurnsW
namespace Go.Proofs.Ytejonebnmeinhab
open Go.RowKit
set_option linter.unusedVariables false

/-- How often each of the blocks was erased by these commands. -/
def wearL (cs : List Cmd) (n : Nat) : List Int := (List.range n).map (fun i : Nat => wearR cs (i : Int))
theorem wearL_len (cs : List Cmd) (n : Nat) : (wearL cs n).length = n := by simp [wearL]
theorem wearL_get (cs : List Cmd) (n i : Nat) (hi : i < n) : (wearL cs n).getD i 0 = wearR cs i := by
  simp [wearL, List.getD_eq_getElem?_getD, hi]
theorem wearR_snoc (cs : List Cmd) (c : Cmd) (blk : Int) : wearR (cs ++ [c]) blk = wearS blk (wearR cs blk) c := by
  simp [wearR, List.foldl_append]
theorem wearL_other (cs : List Cmd) (c : Cmd) (n : Nat) (h : c.k ≠ 2) : wearL (cs ++ [c]) n = wearL cs n := by
  unfold wearL
  refine List.map_congr_left (fun i _ => ?_)
  rw [wearR_snoc]
  unfold wearS
  rw [if_neg (fun q => h q.1)]
theorem wearL_erase (cs : List Cmd) (c : Cmd) (n j : Nat) (h : c.k = 2) (hb : c.b = j) (hj : j < n) : wearL (cs ++ [c]) n = (wearL cs n).set j (wrap64 (wearR cs j + 1)) := by
  refine List.ext_getElem (by simp [wearL]) (fun i h1 h2 => ?_)
  have hi : i < n := by simpa [wearL] using h1
  simp only [wearL, List.getElem_map, List.getElem_range, List.getElem_set]
  rw [wearR_snoc]
  unfold wearS
  by_cases e : j = i
  · subst e
    rw [if_pos ⟨h, hb⟩, if_pos rfl]
  · rw [if_neg (fun q => e (by have := q.2; omega)), if_neg e]
theorem know_wear (p : Int) (clean : Bool) (bs : List Bool) (seen : List Cmd) : (know p clean bs seen).map Blk.e = wearL seen bs.length := by
  unfold know wearL
  rw [List.map_map]
  rfl
theorem take_snoc {cs : List Cmd} {k : Nat} (h : k < cs.length) : cs.take (k + 1) = cs.take k ++ [cs.getD k Cmd.none] := by
  rw [List.take_succ_eq_append_getElem h, List.getD_eq_getElem?_getD, List.getElem?_eq_getElem h]
  rfl

set_option maxHeartbeats 1000000 in
set_option maxRecDepth 100000 in
theorem rwear_any (gr : Nat) (b p s : Int) (am : Option Addr) (lm km : Nat) (bs : List Bool) (clean : Bool) (ac : Option Addr) (n kc : Nat) (seen : List Cmd) (w : World) (h : RefAt w gr b p s am lm km bs clean ac n kc seen) (hb : b = lm) (hn : n ≤ 140737488355000) (hlm : lm ≤ 5000) (hsn : ∀ c ∈ seen, 0 ≤ c.b ∧ c.b < lm) :
    Calls Try.prog 35 #[.pointer (some ⟨gr, 0, none⟩)] w fun e w' => e = .returned (.slice (some ⟨w.heap.size, 0, none⟩) lm lm) ∧ IntsAt w' w.heap.size (wearL seen lm) ∧ Below w.heap.size w w' := by
  subst hb
  have hc0 := h.c0
  have H : Hid _ := h
  have HSN : Hid _ := hsn
  have hmk := make_ints lm hlm
  have hsl := h.seen.1
  have hA : Below w.heap.size w (w.alloc (.cells (Array.replicate lm (.int .i64 0)) 3)) := (Below.refl _ _).alloc (Nat.le_refl _) _
  have HI0 : Hid (IntsAt (w.alloc (.cells (Array.replicate lm (.int .i64 0)) 3)) w.heap.size (wearL (seen.take 0) lm)) := by
    have e : wearL (seen.take 0) lm = List.replicate lm 0 := by simp [wearL, wearR, List.map_const']
    unfold Hid
    rw [e]
    unfold IntsAt
    rw [List.map_replicate, List.toArray_replicate]
    exact heap_alloc_new w _
  have HA : Hid _ := hA
  clear h hA hsn
  go_enter Try.func35, Try.ntmps35
  go_wp2
  go_loopw [4] (fun s4 wr => ∃ k : Nat, k ≤ n ∧ s4 = .int .i64 k ∧ Hid (IntsAt wr w.heap.size (wearL (seen.take k) lm)) ∧ Below w.heap.size w wr)
    (fun i _ => n - (intOf i).toNat)
  case atStart => exact ⟨0, Nat.zero_le _, rfl, HI0, HA.out⟩
  case round =>
    obtain ⟨k, hk, rfl, HI, hbel⟩ := hrel
    have RA : RefAt wr gr (lm : Int) p s am lm km bs clean ac n kc seen := H.out.grown (grown_of hbel none)
    have k5 := RA.c5
    by_cases hlt : k < n
    · obtain ⟨g, off, rfl, hg, hcell⟩ := RA.seen.pos (by omega)
      obtain ⟨x0, x1, x2, x3⟩ := hcell k hlt
      have hrng := HSN.out (seen.getD k Cmd.none) (by rw [List.getD_eq_getElem?_getD, List.getElem?_eq_getElem (by omega)]; exact List.getElem_mem (by omega))
      have hts := take_snoc (cs := seen) (k := k) (by omega)
      obtain ⟨c, hc⟩ : ∃ c, seen.getD k Cmd.none = c := ⟨_, rfl⟩
      rw [hc] at x0 x1 x2 x3 hrng hts
      obtain ⟨ck, cb, cp, cq⟩ := c
      simp only at x0 x1 hrng
      have dk : (k : Int) < n := by omega
      by_cases h2 : ck = 2
      · subst h2
        obtain ⟨j, rfl⟩ := Int.eq_ofNat_of_zero_le hrng.1
        have hj : j < lm := by omega
        have dj : (j : Int) < lm := by omega
        have y0 := IntsAt.cell HI.out j (by rw [wearL_len]; exact hj)
        rw [wearL_get _ _ _ hj] at y0
        have f0 := IntsAt.free HI.out j
        have hp := IntsAt.put HI.out j (wrap64 (wearR (seen.take k) j + 1))
        rw [← wearL_erase (seen.take k) ⟨2, j, cp, cq⟩ lm j rfl rfl hj, ← hts] at hp
        obtain ⟨old, hold⟩ : ∃ old, wearR (seen.take k) j = old := ⟨_, rfl⟩
        rw [hold] at y0 hp
        have HP : Hid _ := hp
        have HB1 : Hid (Below w.heap.size w (wr.setCell ⟨w.heap.size, j, none⟩ (.int .i64 (wrap64 (old + 1))))) := hbel.setCell (p := ⟨w.heap.size, j, none⟩) (Nat.le_refl _) _
        clear RA hcell x2 x3 hrng hts hc hp hold hmk
        go_wp2
        go_roundw
        case rel => exact ⟨k + 1, by omega, by go_num, HP, HB1.out⟩
        case measure => simp [intOf]; omega
      · have d2 : (ck == 2) = false := by simpa using h2
        have HI2 : Hid (IntsAt wr w.heap.size (wearL (seen.take (k + 1)) lm)) := by
          unfold Hid
          rw [hts, wearL_other _ _ _ h2]
          exact HI.out
        clear RA hcell x2 x3 hrng hts hc hmk
        go_wp2
        go_roundw
        case rel => exact ⟨k + 1, by omega, by go_num, HI2, hbel⟩
        case measure => simp [intOf]; omega
    · obtain rfl : k = n := by omega
      have HI2 := HI.out
      rw [List.take_of_length_le (by omega)] at HI2
      have HI3 : Hid _ := HI2
      clear HI2 hmk RA
      go_wp2
      go_ret
      exact ⟨rfl, HI3.out, hbel⟩

theorem JudgeAt.low {w w' : World} {gj bm B : Nat} {b p s : Int} {st : List Blk} (h : JudgeAt w gj b p s bm st) (hb : Below B w w') (h1 : gj < B) (h2 : bm < B) : JudgeAt w' gj b p s bm st := by
  obtain ⟨c0, c1, c2, c3, ⟨D, ⟨es, clock, hm, F, hs, hD⟩, hk⟩, ne⟩ := h
  exact ⟨by rw [hb.cell h1]; exact c0, by rw [hb.cell h1]; exact c1, by rw [hb.cell h1]; exact c2, by rw [hb.cell h1]; exact c3, ⟨D, ⟨es, clock, (hb.block bm h2).trans hm, F, hs, hD⟩, hk⟩, ne⟩
theorem RefOwn.apart {w w' : World} {B gr r : Nat} {b p s : Int} {am : Option Addr} {lm km : Nat} {bs : List Bool} {clean : Bool} {v : Value} {n : Nat} {seen : List Cmd} (h : RefOwn w B gr b p s am lm km bs clean v n seen) (hg : w.grownBy w' (some r)) (hr : r < B) (hm : ∀ x, am = some x → x.block ≠ r) : RefOwn w' B gr b p s am lm km bs clean v n seen := by
  have hgr : ¬ (gr = r) := by have := h.base; omega
  refine ⟨hg.cell h.c0 (by simpa using hgr), hg.cell h.c1 (by simpa using hgr), hg.cell h.c2 (by simpa using hgr), hg.cell h.c3 (by simpa using hgr), hg.cell h.c4 (by simpa using hgr), hg.cell h.c5 (by simpa using hgr), by rw [hg.frozen_far _ (block_lt_of_cell h.c5) (by simpa using hgr)]; exact h.fz, ?_, h.low, ⟨h.own.1, ?_⟩, h.far, h.ok, h.base⟩
  · obtain ⟨m1, m2, m3⟩ := h.marks
    refine ⟨m1, m2, fun x hx i hi => hg.cell (m3 x hx i hi) ?_⟩
    have := hm x hx
    unfold Addr.add
    split <;> simpa using this
  · rcases h.own.2 with h1 | ⟨g, cap, cur, hv, hb, hg', q⟩
    · exact Or.inl h1
    · exact Or.inr ⟨g, cap, cur, hv, hb, by rw [hg.block g (Array.getElem?_eq_some_iff.1 hg').1 (by simp; omega)]; exact hg', q⟩

/-- The two judges, alike. -/
structure Both (w : World) (gj bm B gr : Nat) (b p s : Int) (am : Option Addr) (lm km : Nat) (bs : List Bool) (clean : Bool) (seen : List Cmd) : Prop where
  ja : JudgeAt w gj b p s bm (know p clean bs seen)
  ro : ∃ v, RefOwn w B gr b p s am lm km bs clean v seen.length seen
  lt : gj < B ∧ bm < B
  am : ∀ x, am = some x → x.block ≠ bm
  rg : ∀ c ∈ seen, 0 ≤ c.b ∧ c.b < lm
  pg : ∀ c ∈ seen, c.k = 1 → c.p + 1 ≤ 9223372036854775807
  bl : bs.length = lm ∧ b = lm ∧ 8 ≤ lm ∧ lm ≤ 4096
section
variable {w w' : World} {gj bm B gr : Nat} {b p s : Int} {am : Option Addr} {lm km : Nat} {bs : List Bool} {clean : Bool} {seen : List Cmd}
theorem Both.below (h : Both w gj bm B gr b p s am lm km bs clean seen) (hb : Below w.heap.size w w') : Both w' gj bm B gr b p s am lm km bs clean seen := by
  obtain ⟨v, hv⟩ := h.ro
  exact ⟨h.ja.grown (grown_of hb none), ⟨v, hv.grown (grown_of hb none)⟩, h.lt, h.am, h.rg, h.pg, h.bl⟩
theorem Both.far (h : Both w gj bm B gr b p s am lm km bs clean seen) {r : Nat} (hg : w.grownBy w' (some r)) (h1 : gj ≠ r) (h2 : bm ≠ r) (hr : r ≠ gr) (hm : ∀ x, am = some x → x.block ≠ r) (ho : ∀ v, RefOwn w B gr b p s am lm km bs clean v seen.length seen → v.ownBlock ≠ some r) : Both w' gj bm B gr b p s am lm km bs clean seen := by
  obtain ⟨v, hv⟩ := h.ro
  have hgr : ¬ (gr = r) := fun e => hr e.symm
  have hov := ho v hv
  refine ⟨h.ja.far hg h1 h2, ⟨v, hg.cell hv.c0 (by simpa using hgr), hg.cell hv.c1 (by simpa using hgr), hg.cell hv.c2 (by simpa using hgr), hg.cell hv.c3 (by simpa using hgr), hg.cell hv.c4 (by simpa using hgr), hg.cell hv.c5 (by simpa using hgr), by rw [hg.frozen_far _ (block_lt_of_cell hv.c5) (by simpa using hgr)]; exact hv.fz, ?_, hv.low, ⟨hv.own.1, ?_⟩, hv.far, hv.ok, hv.base⟩, h.lt, h.am, h.rg, h.pg, h.bl⟩
  · obtain ⟨m1, m2, m3⟩ := hv.marks
    refine ⟨m1, m2, fun x hx i hi => hg.cell (m3 x hx i hi) ?_⟩
    have := hm x hx
    unfold Addr.add
    split <;> simpa using this
  · rcases hv.own.2 with h1 | ⟨g, cap, cur, hvv, hb, hg', q⟩
    · exact Or.inl h1
    · refine Or.inr ⟨g, cap, cur, hvv, hb, ?_, q⟩
      rw [hg.block g (Array.getElem?_eq_some_iff.1 hg').1 ?_]
      · exact hg'
      · intro e
        apply hov
        rw [hvv]
        simpa [Value.ownBlock] using e
/-- One command for both. -/
theorem both_see (h : Both w gj bm B gr b p s am lm km bs clean seen) (hp : 4 ≤ p ∧ p ≤ 256) (k cb cp cs : Int) (hc : (Cmd.mk k cb cp cs).Ok) (hn : (seen.length + 1) * 32 ≤ 140737488355328) (hB : B ≤ w.heap.size) :
    ∃ o : Bool, Calls Try.prog 26 #[.pointer (some ⟨gj, 0, none⟩), .agg #[.int .i64 k, .int .i64 cb, .int .i64 cp, .int .i64 cs]] w fun e w1 => e = .returned (.bool o) ∧ w.grownBy w1 (some bm) ∧
      Calls Try.prog 31 #[.pointer (some ⟨gr, 0, none⟩), .agg #[.int .i64 k, .int .i64 cb, .int .i64 cp, .int .i64 cs]] w1 fun e w2 => e = .returned (.bool o) ∧ Below B w1 w2 ∧ ∃ seen', seen'.length ≤ seen.length + 1 ∧ Both w2 gj bm B gr b p s am lm km bs clean seen' := by
  obtain ⟨bl1, bl2, bl3, bl4⟩ := h.bl
  have hkl := know_length p clean bs seen
  obtain ⟨l1, l2⟩ := h.lt
  obtain ⟨v, hv⟩ := h.ro
  refine ⟨(see p (know p clean bs seen) ⟨k, cb, cp, cs⟩).isSome, (see_any gj bm b p s _ ⟨k, cb, cp, cs⟩ w h.ja hc hp (by omega)).mono ?_⟩
  rintro e w1 ⟨rfl, j1, g1⟩
  refine ⟨rfl, g1, ?_⟩
  have r1 := hv.apart g1 l2 h.am
  cases hs : see p (know p clean bs seen) ⟨k, cb, cp, cs⟩ with
  | none =>
    rw [hs] at j1
    refine (rsee_false B gr b p s am lm km bs clean v seen.length seen k cb cp cs w1 r1 hc bl2 hn (by omega) h.pg (by rw [hs]; rfl)).mono ?_
    rintro e w2 ⟨rfl, q2, r2⟩
    exact ⟨rfl, q2, seen, by omega, j1.low q2 l1 l2, ⟨v, r2⟩, h.lt, h.am, h.rg, h.pg, h.bl⟩
  | some st' =>
    rw [hs] at j1
    refine (rsee_true B gr b p s am lm km bs clean v seen.length seen k cb cp cs w1 r1 hc bl2 hn (by omega) h.pg (by rw [hs]; rfl)).mono ?_
    rintro e w2 ⟨rfl, q2, v2, r2⟩
    have hks := know_step hs
    have hin : 0 ≤ cb ∧ cb < (know p clean bs seen).length := by
      unfold see at hs
      split at hs
      · rename_i q; exact ⟨q.1, q.2.1⟩
      · cases hs
    refine ⟨rfl, q2, seen ++ [⟨k, cb, cp, cs⟩], by simp, ?_, ⟨v2, by simpa using r2⟩, h.lt, h.am, ?_, ?_, h.bl⟩
    · rw [← hks]
      exact j1.low q2 l1 l2
    · intro c hc'
      rcases List.mem_append.1 hc' with q | q
      · exact h.rg c q
      · rw [List.mem_singleton] at q
        subst q
        simp only
        omega
    · intro c hc' h1
      rcases List.mem_append.1 hc' with q | q
      · exact h.pg c q h1
      · rw [List.mem_singleton] at q
        subst q
        have := see_page hs h1
        simp only at this ⊢
        omega
end
end Go.Proofs.Ytejonebnmeinhab
