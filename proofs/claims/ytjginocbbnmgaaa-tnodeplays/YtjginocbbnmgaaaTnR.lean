/-
  SEAT Ytjginocbbnmgaaa: without where nothing goes.
-/
import Derived.Test.YtjginocbbnmgaaaTnN
namespace Go.Proofs.Ytjginocbbnmgaaa
open Go.RowKit
set_option linter.unusedVariables false

/-- A node copied: the rows, and what the copy is. -/
theorem copy_any (l g0 : Nat) (M : Mp) (f t : Int) (w : World) (E : Nat → Prop) [DecidablePred E] (hE : ∀ i, E i → i < w.heap.size) (h : NodeOn (seenH w E) l (some g0) M) (hv : t ≤ 0 ∨ ((16 * spn l : Nat) : Int) ≤ f) :
    ∃ row, row.length = 32 ∧ w.heap[g0]? = some (.cells (U96 row) 96 (0, 0)) ∧ NodeOn (seenH (w.alloc (.cells (U96 row) 96)) E) l (if row = List.replicate 32 none then none else some w.heap.size) (cutM M f t) := by
  cases l with
  | zero =>
    obtain ⟨ts, h1, h2, h3, h4⟩ := h
    rw [row0] at h2
    refine ⟨rowOf 0 ts, rowOf_len 0 h1, (seen_block h2).2, ?_⟩
    rcases hv with hv | hv
    · exact (Wo0.start (a := 0) (f := f) (t := t) h1 h3 (Or.inl rfl)).done hE (Or.inr (by simpa using hv))
    · exact (Wo0.start (a := 16) (f := f) (t := t) h1 h3 (Or.inr (by simpa [spn] using hv))).done hE (Or.inl (by omega))
  | succ l =>
    obtain ⟨bs, h1, h2, h3, h4⟩ := h
    rw [row1 l] at h2
    refine ⟨rowOf (l + 1) bs, rowOf_len _ h1, (seen_block h2).2, ?_⟩
    rcases hv with hv | hv
    · exact (WoS.start (a := 0) (f := f) (t := t) h1 h3 (Or.inl rfl)).done hE (Or.inr (by simpa using hv))
    · exact (WoS.start (a := 16) (f := f) (t := t) h1 h3 (Or.inr hv)).done hE (Or.inl (by omega))
set_option maxHeartbeats 4000000 in
set_option maxRecDepth 100000 in
theorem without_idle (l g0 : Nat) (M : Mp) (f t : Int) (w : World) (E : Nat → Prop) [DecidablePred E] (hE : ∀ i, E i → i < w.heap.size) (h : NodeOn (seenH w E) l (some g0) M) (hl : l ≤ 4) (hv : (f < 0 ∧ t ≤ 0) ∨ ((16 * spn l : Nat) : Int) ≤ f) (hf63 : f < 9223372036854775808) :
    Calls Try.prog 50 #[.pointer (some ⟨g0, 0, none⟩), .int .i64 (l : Int), .int .i64 f, .int .i64 t] w fun e w' => ∃ o, e = .returned (.tuple #[ptr o, .int .i64 ((cnt (hit M f t) (spn (l + 1)) : Nat) : Int)]) ∧ NodeOn (seenH w' E) l o (cutM M f t) ∧ Below w.heap.size w w' := by
  have hv' : t ≤ 0 ∨ ((16 * spn l : Nat) : Int) ≤ f := hv.imp (fun q => q.2) id
  have hgone : cnt (hit M f t) (spn (l + 1)) = 0 := cnt_none (hit_idle (by rw [spn_succ]; exact hv'))
  obtain ⟨row, hrl, hb, hn⟩ := copy_any l g0 M f t w E hE h hv'
  have hg0 := lt_of_block hb
  obtain ⟨CS, hCS⟩ : ∃ CS, U96 row = CS := ⟨_, rfl⟩
  have hsz : CS.size = 32 := by rw [← hCS, u96_size, hrl]
  have h1 : CS.all (·.oneCell') = true := by rw [← hCS]; exact u96_one _
  rw [hCS] at hb hn
  obtain ⟨SP, hSP⟩ : ∃ SP, spn l = SP := ⟨_, rfl⟩
  have hp := spn_pos l
  rw [hSP] at hp hv
  have h4 := below_new w (.cells Z96 96)
  have HL : Hid ((w.alloc (.cells Z96 96)).heap[g0]? = some (.cells CS 96 (0, 0))) := (h4.block g0 hg0).trans hb
  have HLL : Hid ((w.alloc (.cells CS 96)).heap[w.heap.size]? = some (.cells CS 96 (0, 0))) := heap_alloc_last _ _
  have H0 : Hid _ := hb
  have H1 : Hid _ := h1
  have HS : Hid _ := hsz
  have HCS : Hid _ := hCS
  have HN : Hid _ := hn
  have HSP : Hid _ := hSP
  have HG : Hid _ := hgone
  have HRL : Hid _ := hrl
  have hq : (f < 0 ∧ t ≤ 0) ∨ (0 < f ∧ (16 : Int) ≤ f / (SP : Int)) := by
    rcases hv with hv | hv
    · exact Or.inl hv
    · refine Or.inr ⟨by omega, ?_⟩
      have h16 : (16 : Int) ≤ f / (SP : Int) := by
        rw [Int.le_ediv_iff_mul_le (by omega)]
        rw [Int.natCast_mul] at hv
        exact hv
      exact h16
  clear hb h1 hsz hCS hn hSP hgone hrl h4 h hE hv hv' hg0
  by_cases hz : row = List.replicate 32 none
  · have hdz : decide (row = List.replicate 32 none) = true := decide_eq_true hz
    have HZ : Hid _ := hz
    have HDZ : Hid _ := hdz
    clear hz hdz
    rcases hq with ⟨q1, q2⟩ | ⟨q1, q2⟩
    all_goals
      go_enter Try.func50, Try.ntmps50
      go_wp2_with (first
        | (refine wpList_load96 rfl (.tmp 18) rfl g0 CS rfl HL.out HS.out ?_)
        | (refine wpList_load96 rfl (.tmp 18) rfl g0 CS rfl H0.out HS.out ?_)
        | (refine wpList_store96 (u := w) rfl (.tmp 10) (.tmp 19) rfl w.heap.size Z96 CS rfl rfl rfl rfl HS.out H1.out ?_)
        | (go_at_call 54; refine (span_any l _ (by omega)).mono ?_; rintro e u ⟨rfl, rfl⟩; rw [HSP.out]))
      go_loopw [11, 12] (fun s11 s12 wr => s11 = .int .i64 0 ∧ wr = w.alloc (.cells CS 96) ∧ ∃ a : Int, s12 = .int .i64 a ∧ (a = 0 ∧ t ≤ 0 ∨ 16 ≤ a))
        (fun _ _ _ => 0)
      case atStart => exact ⟨rfl, rfl, _, rfl, by first | exact Or.inl ⟨by simp, q2⟩ | exact Or.inr q2⟩
      case round =>
        obtain ⟨rfl, rfl, a, rfl, ⟨rfl, q⟩ | q⟩ := hrel
        all_goals
          go_wp2_with (first
            | (go_at_call 54; refine (span_any l _ (by omega)).mono ?_; rintro e u ⟨rfl, rfl⟩; rw [HSP.out])
            | (refine wpList_load96 rfl (.tmp 10) rfl w.heap.size CS rfl HLL.out HS.out ?_)
            | (refine wpList_eql96 rfl (.tmp 81) (.tmp 82) 96 rfl row (List.replicate 32 none) (by rw [HCS.out]; rfl) rfl HRL.out (by simp) (fun j _ => tell_zero _ j) ?_; rw [HDZ.out]))
          go_ret2
          refine ⟨none, by rw [HG.out]; rfl, ?_, below_new _ _⟩
          have q := HN.out
          rw [if_pos HZ.out] at q
          exact q
  · have hdz : decide (row = List.replicate 32 none) = false := decide_eq_false hz
    have HZ : Hid _ := hz
    have HDZ : Hid _ := hdz
    clear hz hdz
    rcases hq with ⟨q1, q2⟩ | ⟨q1, q2⟩
    all_goals
      go_enter Try.func50, Try.ntmps50
      go_wp2_with (first
        | (refine wpList_load96 rfl (.tmp 18) rfl g0 CS rfl HL.out HS.out ?_)
        | (refine wpList_load96 rfl (.tmp 18) rfl g0 CS rfl H0.out HS.out ?_)
        | (refine wpList_store96 (u := w) rfl (.tmp 10) (.tmp 19) rfl w.heap.size Z96 CS rfl rfl rfl rfl HS.out H1.out ?_)
        | (go_at_call 54; refine (span_any l _ (by omega)).mono ?_; rintro e u ⟨rfl, rfl⟩; rw [HSP.out]))
      go_loopw [11, 12] (fun s11 s12 wr => s11 = .int .i64 0 ∧ wr = w.alloc (.cells CS 96) ∧ ∃ a : Int, s12 = .int .i64 a ∧ (a = 0 ∧ t ≤ 0 ∨ 16 ≤ a))
        (fun _ _ _ => 0)
      case atStart => exact ⟨rfl, rfl, _, rfl, by first | exact Or.inl ⟨by simp, q2⟩ | exact Or.inr q2⟩
      case round =>
        obtain ⟨rfl, rfl, a, rfl, ⟨rfl, q⟩ | q⟩ := hrel
        all_goals
          go_wp2_with (first
            | (go_at_call 54; refine (span_any l _ (by omega)).mono ?_; rintro e u ⟨rfl, rfl⟩; rw [HSP.out])
            | (refine wpList_load96 rfl (.tmp 10) rfl w.heap.size CS rfl HLL.out HS.out ?_)
            | (refine wpList_eql96 rfl (.tmp 81) (.tmp 82) 96 rfl row (List.replicate 32 none) (by rw [HCS.out]; rfl) rfl HRL.out (by simp) (fun j _ => tell_zero _ j) ?_; rw [HDZ.out]))
          go_ret2
          refine ⟨some w.heap.size, by rw [HG.out]; rfl, ?_, below_new _ _⟩
          have q := HN.out
          rw [if_neg HZ.out] at q
          exact q
end Go.Proofs.Ytjginocbbnmgaaa
