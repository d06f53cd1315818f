/-
  SEAT Ytgijbpkfheillaa: the reference's New, taken.
-/
import Derived.Test.YtgijbpkfheillaaBlQ
import Derived.Test.YtgijbpkfheillaaBlM
import Derived.OneCell
import Derived.Deep.RegionLaw
namespace Go.Proofs.Ytgijbpkfheillaa
open Go.RowKit
set_option linter.unusedVariables false

theorem newE_ok {b P s3 : Int} {len : Nat} {cur last : Int} {bs : List Bk} (h : newE b P s3 len cur last bs = 0) : Fits b P s3 = true ∧ (len : Int) = b ∧ numOk b cur = true ∧ numOk b last = true ∧ mayOk P last bs = true := by
  unfold newE at h
  split at h
  · rename_i f1
    split at h
    · rename_i f2
      split at h
      · rename_i f3
        exact ⟨f1, f2.1, decide_eq_true ⟨f2.2.1, f2.2.2.1⟩, decide_eq_true ⟨f2.2.2.2.1, f2.2.2.2.2⟩, f3⟩
      · simp at h
    · simp at h
  · simp at h
theorem take_snoc (bs : List Bk) (k : Nat) (hk : k < bs.length) : flatK (bs.take k) ++ (bs.getD k Bk.zero).cells = flatK (bs.take (k + 1)) := by
  rw [List.take_succ_eq_append_getElem hk, flatK_append, List.getD_eq_getElem?_getD, List.getElem?_eq_getElem hk]
  simp [flatK]

set_option maxHeartbeats 4000000 in
theorem rnew_ok (b P s3 : Int) (a : Option Addr) (len cap : Nat) (cur last : Int) (bs : List Bk) (w : World) (hr : ReadsK w a len bs) (h : newE b P s3 len cur last bs = 0) :
    Calls Try.prog 33 #[.agg #[.int .i64 b, .int .i64 P, .int .i64 s3], .slice a len cap, .int .i64 cur, .int .i64 last] w fun e w' => ∃ gr gl v, e = .returned (.tuple #[.pointer (some ⟨gr, 0, none⟩), .int .i64 0]) ∧ RefAt w' w.heap.size gr gl P v bs (List.replicate len false) cur last (-1) ∧ Below w.heap.size w w' := by
  obtain ⟨f1, f2, f3, f4, f5⟩ := newE_ok h
  subst f2
  have q3 := of_decide_eq_true f3
  have q4 := of_decide_eq_true f4
  have hp : 4 ≤ P ∧ P ≤ 256 := by have := fits_b f1; omega
  have hb9 := fits_b f1
  have hbl := hr.1
  have d1 : ((len : Int) != len) = false := by simp
  have d2 : ¬ (cur < -1) := by omega
  have d3 : ¬ ((len : Int) ≤ cur) := by omega
  have d4 : ¬ (last < -1) := by omega
  have d5 : ¬ ((len : Int) ≤ last) := by omega
  clear h
  go_enter Try.func33, Try.ntmps33
  go_wp2_with (first | (go_at_call 66; refine (rfits_any _ _ _ _).mono ?_; rintro e u1 ⟨rfl, q1⟩; rw [f1]; obtain ⟨c0, c1, c2⟩ := box3 q1; have Q1 : Hid (Below (w.alloc (.cells #[.int .i64 (len : Int), .int .i64 P, .int .i64 s3] 23)).heap.size (w.alloc (.cells #[.int .i64 (len : Int), .int .i64 P, .int .i64 s3] 23)) u1) := q1; clear q1) | (go_at_call 25; refine (rmay_any _ _ a len cap bs _ (hr.below (below1 Q1.out)) ?_ hp).mono ?_; omega; rintro e u4 ⟨rfl, q4⟩; rw [f5]; have Q4 : Hid (Below (w.alloc (.cells #[.int .i64 (len : Int), .int .i64 P, .int .i64 s3] 23)).heap.size (w.alloc (.cells #[.int .i64 (len : Int), .int .i64 P, .int .i64 s3] 23)) u4) := Q1.out.trans (q4.mono Q1.out.size); clear c0 c1 c2 Q1 q4; obtain ⟨c0, c1, c2⟩ := box3 Q4.out))
  have hmk := make_left len (by omega)
  have HC : Hid (∀ x, Below u4.heap.size u4 x → (fun x : World => x.cell? ⟨w.heap.size, 1, none⟩ = some (.int .i64 P)) x) := fun x hx => (box3 (Q4.out.trans (hx.mono Q4.out.size))).2.1
  clear d1 d2 d3 d4 d5
  go_region_held3 (fun x => x.cell? ⟨w.heap.size, 1, none⟩ = some (.int .i64 P))
    ((first | exact HC.out _ (Below.refl _ _) | exact HC.out _ (Below.refl _ _).drew | exact HC.out _ ((Below.refl _ _).drew.alloc (Nat.le_refl _) _) | exact HC.out _ ((Below.refl _ _).alloc (Nat.le_refl _) _).drew | exact HC.out _ (ba (ba (Below.refl _ _)).drew) | exact HC.out _ (ba (ba (Below.refl _ _).drew)) | exact HC.out _ (ba (ba (Below.refl _ _))) | exact HC.out _ (ba (ba (Below.refl _ _))).drew))
    (fail)
  have hbx0 : RefAt (((u4.alloc (.cells (boolsV (List.replicate len false)).toArray 4)).alloc (.cells #[.int .i64 P, .slice none 0 0, .slice (some ⟨u4.heap.size, 0, none⟩) len len, .int .i64 cur, .int .i64 last, .int .i64 (-1)] 31)).drew) w.heap.size (u4.heap.size + 1) u4.heap.size P (.slice none 0 0) (bs.take 0) (List.replicate len false) cur last (-1) := by
    have hsz := (below1 Q4.out).size
    refine ⟨?_, ?_, ?_, by omega, by omega⟩
    · have h9 := heap_alloc_new (u4.alloc (.cells (boolsV (List.replicate len false)).toArray 4)) (.cells #[.int .i64 P, .slice none 0 0, .slice (some ⟨u4.heap.size, 0, none⟩) len len, .int .i64 cur, .int .i64 last, .int .i64 (-1)] 31)
      rw [show (u4.alloc (.cells (boolsV (List.replicate len false)).toArray 4)).heap.size = u4.heap.size + 1 by simp] at h9
      rw [List.length_replicate]
      exact h9
    · have h9 := ((Below.refl (u4.heap.size + 1) (u4.alloc (.cells (boolsV (List.replicate len false)).toArray 4))).alloc (by simp) (.cells #[.int .i64 P, .slice none 0 0, .slice (some ⟨u4.heap.size, 0, none⟩) len len, .int .i64 cur, .int .i64 last, .int .i64 (-1)] 31)).block u4.heap.size (by omega)
      exact h9.trans (heap_alloc_new u4 _)
    · exact ⟨by simp [flatK], Or.inl ⟨rfl, by simp⟩⟩
  have HK0 : Hid _ := hbx0
  have HW0 : Hid (Below w.heap.size w (((u4.alloc (.cells (boolsV (List.replicate len false)).toArray 4)).alloc (.cells #[.int .i64 P, .slice none 0 0, .slice (some ⟨u4.heap.size, 0, none⟩) len len, .int .i64 cur, .int .i64 last, .int .i64 (-1)] 31)).drew)) := ((ba (ba (below1 Q4.out)))).drew
  have HR : Hid (ReadsK w a len bs) := hr
  have hsz4 := (below1 Q4.out).size
  obtain ⟨i0, hi, hz0, hz1, hz2⟩ := info_parts info34
  clear hbx0 hr hmk c0 c1 c2 HC Q4
  go_wp2
  go_loopw [12] (fun s12 wr => ∃ k : Nat, k ≤ len ∧ s12 = .int .i64 k ∧ ∃ v, Hid (RefAt wr w.heap.size (u4.heap.size + 1) u4.heap.size P v (bs.take k) (List.replicate len false) cur last (-1)) ∧ Below w.heap.size w wr)
    (fun i _ => len - (intOf i).toNat)
  case atStart => exact ⟨0, Nat.zero_le _, rfl, _, HK0.out, HW0.out⟩
  case round =>
    obtain ⟨k, hk, rfl, v, HK, hb⟩ := hrel
    have htl : (bs.take k).length = k := by simp; omega
    by_cases hlt : k < len
    · obtain ⟨g, off, rfl, hg, hcell⟩ := HR.out.pos (by omega)
      obtain ⟨X, hX⟩ : ∃ X, bs.getD k Bk.zero = X := ⟨_, rfl⟩
      have hc9 := hcell k hlt
      rw [hX] at hc9
      obtain ⟨s, h, r, l⟩ := X
      obtain ⟨c0, c1, c2, c3⟩ := hc9
      rw [← hb.cell hg] at c0 c1 c2 c3
      simp only at c0 c1 c2 c3
      have HX : Hid (bs.getD k Bk.zero = ⟨s, h, r, l⟩) := hX
      obtain ⟨ac, kc, rfl⟩ : ∃ ac kc, v = .slice ac k kc := by
        rcases HK.out.own.2 with ⟨hv, hn⟩ | ⟨g', cap', cu, hv, _⟩
        · rw [htl] at hn
          exact ⟨none, 0, by rw [hv, hn]⟩
        · rw [htl] at hv
          exact ⟨_, _, hv⟩
      have n1 := HK.out.cells.2.1
      have hlt2 := HK.out.lt
      have d1 : (k : Int) < len := by omega
      have hgn : some (u4.heap.size + 1) ≠ (Value.slice ac k kc).ownBlock := fun e => HK.out.far.1 e.symm
      have hgl : some u4.heap.size ≠ (Value.slice ac k kc).ownBlock := fun e => HK.out.far.2 e.symm
      have hD := HK.out.below (((Below.refl wr.heap.size wr).alloc (Nat.le_refl _) (.cells #[.int .i64 s, .int .u64 h, .bool r, .int .i64 l] 34)).drew)
      have ownD := hD.own
      rw [htl] at ownD
      have fzD := hD.free 1
      have c1D := hD.cells.2.1
      have HD : Hid _ := hD
      have HN1 : Hid (∀ j x, [Value.int .i64 s, .int .u64 h, .bool r, .int .i64 l][j]? = some x → ((wr.alloc (.cells #[.int .i64 s, .int .u64 h, .bool r, .int .i64 l] 34)).drew).cell? ((⟨wr.heap.size, 0, none⟩ : Addr).add j) = some x) := fun j x hj => World.news_of_block (w := wr.alloc (.cells #[.int .i64 s, .int .u64 h, .bool r, .int .i64 l] 34)) (heap_alloc_new wr _) j x hj
      have HN2 : Hid (∀ x ∈ [Value.int .i64 s, .int .u64 h, .bool r, .int .i64 l], x.oneCell' = true) := flatK_one [⟨s, h, r, l⟩]
      have HBD : Hid (Below w.heap.size w ((wr.alloc (.cells #[.int .i64 s, .int .u64 h, .bool r, .int .i64 l] 34)).drew)) := (ba hb).drew
      have hbs := hb.size
      have hlt3 := hlt2.1
      clear hcell hX hD
      go_wp2
      go_region_law ((refine step_append_lies _ (by rfl) (.tmp 63) (.tmp 68) 24 (by rfl) w.heap.size 34 i0 _ 4 32 Try.underlying24 hi hz0 hz1 hz2 rfl (by decide) (.slice ac k kc) k (flatK (bs.take k)) (by rfl) ownD ⟨wr.heap.size, 0, none⟩ 1 1 [.int .i64 s, .int .u64 h, .bool r, .int .i64 l] (by rfl) rfl HN1.out HN2.out (by decide) (by simp [maxLen]; omega) (by omega) (by simp; omega) (wr.heap.size + 1) (by simp) ?_; intro g2 c2' w2 own2 grow2 hat2 hlt2'; have f5 : w2.frozen? ⟨u4.heap.size + 1, 1, none⟩ = false := (by rw [grow2.frozen_far _ (by simp; omega) hgn]; exact fzD); have c5w : w2.cell? ⟨u4.heap.size + 1, 1, none⟩ = some (.slice ac k kc) := (by rw [grow2.cell_far _ (by simp; omega) hgn]; exact c1D)))
      all_goals go_wp2
      all_goals go_roundw
      all_goals first
        | (simp [intOf]; omega)
        | skip
      all_goals
        have hg2 : some g2 ≠ some (u4.heap.size + 1) := by
          rcases hat2 with h1 | h1
          · exact fun e => hgn (by rw [h1]; exact e.symm)
          · intro e; cases e; omega
        have bw2 : Below w.heap.size w w2 := HBD.out.grown grow2 (by simp; omega) (fun j hj => (ownD.lt j hj).1)
        have bF := bw2.setCell (p := ⟨u4.heap.size + 1, 1, none⟩) (show w.heap.size ≤ u4.heap.size + 1 by omega) (.slice (some ⟨g2, 0, none⟩) (k + 1) c2')
        refine ⟨k + 1, by omega, by go_num, .slice (some ⟨g2, 0, none⟩) (k + 1) c2', ⟨?_, ?_, ?_, HD.out.base⟩, bF⟩
        · have h9 : w2.heap[u4.heap.size + 1]? = _ := (grow2.block (u4.heap.size + 1) (by simp; omega) hgn).trans HD.out.box
          exact heap_setCell_same _ _ 1 _ _ _ h9
        · rw [heap_setCell_other _ _ _ _ (by simp)]
          exact (grow2.block u4.heap.size (by simp; omega) hgl).trans HD.out.left
        · have h8 := take_snoc bs k (by omega)
          rw [HX.out] at h8
          have htl2 : (bs.take (k + 1)).length = k + 1 := by simp; omega
          rw [← h8, htl2]
          exact ownsRow_setCell_other own2 (by simpa [Value.ownBlock] using hg2) _
    · have hkn : k = len := by omega
      subst hkn
      go_wp2
      go_ret2
      have h9 := HK.out
      rw [List.take_of_length_le (by omega)] at h9
      exact ⟨_, _, v, rfl, h9, hb⟩
end Go.Proofs.Ytgijbpkfheillaa
