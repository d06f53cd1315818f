/-
  SEAT Ytgijbpkfheillaa: listMayBe.
-/
import Derived.Test.YtgijbpkfheillaaBlA
import Derived.Test.YtgijbpkfheillaaBlD
import Derived.Test.YtgijbpkfheillaaBlE
namespace Go.Proofs.Ytgijbpkfheillaa
open Go.RowKit
set_option linter.unusedVariables false

theorem grown_of {w w' : World} (h : Below w.heap.size w w') (row : Option Nat) : w.grownBy w' row := ⟨h.os, h.tape, h.output, h.size, fun k hk _ => h.block k hk⟩
theorem Heads.below {w w' : World} {bm : Nat} {hs : List Int} (h : Heads w bm hs) (hb : Below w.heap.size w w') : Heads w' bm hs := h.grown (grown_of hb none) (by simp)
/-- The heads of the first k blocks. -/
def headL (bs : List Bk) (k : Nat) : List Int := (bs.take k).map (·.h)
theorem headL_succ (bs : List Bk) (k : Nat) (hk : k < bs.length) : headL bs k ++ [(bs.getD k Bk.zero).h] = headL bs (k + 1) := by
  unfold headL
  rw [List.take_succ_eq_append_getElem hk, List.map_append, List.getD_eq_getElem?_getD, List.getElem?_eq_getElem hk]
  rfl
theorem headL_mem (bs : List Bk) (k : Nat) (x : Int) (hk : k ≤ bs.length) : x ∈ headL bs k ↔ ∃ i, i < k ∧ (bs.getD i Bk.zero).h = x := by
  unfold headL
  rw [List.mem_map]
  constructor
  · rintro ⟨b, hb, rfl⟩
    obtain ⟨i, hi, rfl⟩ := List.mem_iff_getElem.1 hb
    rw [List.length_take] at hi
    refine ⟨i, by omega, ?_⟩
    rw [List.getD_eq_getElem?_getD, List.getElem?_eq_getElem (by omega), List.getElem_take]
    rfl
  · rintro ⟨i, hi, rfl⟩
    refine ⟨bs.getD i Bk.zero, ?_, rfl⟩
    rw [List.getD_eq_getElem?_getD, List.getElem?_eq_getElem (by omega)]
    have h9 : (bs.take k)[i]'(by rw [List.length_take]; omega) = bs[i]'(by omega) := List.getElem_take
    rw [Option.getD_some, ← h9]
    exact List.getElem_mem _

set_option maxHeartbeats 4000000 in
set_option maxRecDepth 100000 in
theorem may_any (b P s3 last : Int) (a : Option Addr) (len cap : Nat) (bs : List Bk) (w : World) (hr : ReadsK w a len bs) (hl : len ≤ 5000) (hp : 4 ≤ P ∧ P ≤ 256) :
    Calls Try.prog 49 #[.agg #[.int .i64 b, .int .i64 P, .int .i64 s3], .slice a len cap, .int .i64 last] w fun e w' => e = .returned (.bool (mayOk P last bs)) ∧ Below w.heap.size w w' := by
  have hbl := hr.1
  have HR : Hid (ReadsK w a len bs) := hr
  have hmm : ∀ u : World, (Instr.makeMap 90 (some (.int .i64 (len : Int)))).run Try.prog u = .ok (.map (some u.heap.size)) (u.alloc (.map #[] 0)) := fun u => makeMap_len len u (by omega)
  have hm0 : Hid (Heads ((w.alloc (.cells #[.int .i64 b, .int .i64 P, .int .i64 s3] 23)).alloc (.map #[] 0)) (w.heap.size + 1) []) := by
    have h9 := heads_made (w.alloc (.cells #[.int .i64 b, .int .i64 P, .int .i64 s3] 23))
    rw [show (w.alloc (.cells #[.int .i64 b, .int .i64 P, .int .i64 s3] 23)).heap.size = w.heap.size + 1 by simp] at h9
    exact h9
  clear hr
  go_enter Try.func49, Try.ntmps49
  go_wp2
  go_loopw [7, 9, 10, 11, 12, 18] (fun s7 s9 s10 s11 s12 s18 wr => ∃ k : Nat, k ≤ len ∧ s18 = .int .i64 k ∧ s7 = .int .i64 (opens bs k : Nat) ∧ Hid (preOk P last bs k = true) ∧ Hid (Heads wr (w.heap.size + 1) (headL bs k)) ∧ Below (w.heap.size + 1) (w.alloc (.cells #[.int .i64 b, .int .i64 P, .int .i64 s3] 23)) wr)
    (fun _ _ _ _ _ i _ => len - (intOf i).toNat)
  case atStart => exact ⟨0, Nat.zero_le _, rfl, rfl, rfl, hm0, (Below.refl _ _).alloc (by simp) _⟩
  case round =>
    obtain ⟨k, hk, rfl, rfl, HP, HH, hb⟩ := hrel
    have hop := opens_le bs k
    have hb0 : Below w.heap.size w wr := ((Below.refl w.heap.size w).alloc (Nat.le_refl _) _).trans (hb.mono (by omega))
    by_cases hlt : k < len
    · obtain ⟨g, off, rfl, hg, hcell⟩ := HR.out.pos (by omega)
      have hok := okAt HR.out.2.1 k (by omega)
      obtain ⟨B, hB⟩ : ∃ B, bs.getD k Bk.zero = B := ⟨_, rfl⟩
      have hc9 := hcell k hlt
      rw [hB] at hc9 hok
      obtain ⟨s, h, r, l⟩ := B
      obtain ⟨c0, c1, c2, c3⟩ := hc9
      rw [← hb0.cell hg] at c0 c1 c2 c3
      have HB : Hid (bs.getD k Bk.zero = ⟨s, h, r, l⟩) := hB
      have hh0 := hok.h
      simp only at c0 c1 c2 c3 hh0
      clear hcell hB hok
      obtain ⟨rv, hrv⟩ : ∃ v, rowOk P s h r l = v := ⟨_, rfl⟩
      obtain ⟨lv, hlv⟩ : ∃ v, lastOk s ((k : Int) == last) = v := ⟨_, rfl⟩
      have hsz : w.heap.size + 1 < wr.heap.size := HH.out.lt
      have hG : ∀ u, Below wr.heap.size wr u → u.cell? ⟨w.heap.size, 0, none⟩ = some (.int .i64 b) ∧ u.cell? ⟨w.heap.size, 1, none⟩ = some (.int .i64 P) ∧ u.cell? ⟨w.heap.size, 2, none⟩ = some (.int .i64 s3) := fun u hu => by
        have h9 : Below (w.heap.size + 1) (w.alloc (.cells #[.int .i64 b, .int .i64 P, .int .i64 s3] 23)) u := hb.trans (hu.mono (by omega))
        refine ⟨?_, ?_, ?_⟩ <;> (rw [h9.cell (by simp)]; simp)
      have HG : Hid _ := hG
      obtain ⟨g0, g1, g2⟩ := hG wr (Below.refl _ _)
      clear hG
      go_upto_region 6 with fail
      go_cut [35] (fun s35 wx => s35 = .bool (!(rv && lv)) ∧ Below (wr.alloc (.cells #[.int .i64 s, .int .u64 h, .bool r, .int .i64 l] 34)).heap.size (wr.alloc (.cells #[.int .i64 s, .int .u64 h, .bool r, .int .i64 l] 34)) wx)
      case first =>
        obtain ⟨g0', g1', g2'⟩ := HG.out _ ((Below.refl wr.heap.size wr).alloc (Nat.le_refl _) (.cells #[.int .i64 s, .int .u64 h, .bool r, .int .i64 l] 34))
        cases rv with
        | false =>
          go_wp2_with (first | (go_at_call 70; refine (block_any _ _ _ _ _ _ _ _ hp hh0.1).mono ?_; rintro e u1 ⟨rfl, q1⟩; rw [hrv]; obtain ⟨x0, x1, x2, x3⟩ := box4 q1; have Q1 : Hid _ := q1; clear q1))
          go_meet
          exact ⟨rfl, Q1.out⟩
        | true =>
          go_wp2_with (first | (go_at_call 70; refine (block_any _ _ _ _ _ _ _ _ hp hh0.1).mono ?_; rintro e u1 ⟨rfl, q1⟩; rw [hrv]; obtain ⟨x0, x1, x2, x3⟩ := box4 q1; have Q1 : Hid _ := q1; clear q1) | (go_at_call 71; refine (last_any _ _ _).mono ?_; rintro e u2 ⟨rfl, rfl⟩; rw [hlv]))
          go_meet
          exact ⟨by simp, Q1.out⟩
      case rest =>
      obtain ⟨rfl, Q2⟩ := hcut
      obtain ⟨x0, x1, x2, x3⟩ := box4 Q2
      have bwr : Below wr.heap.size wr wc := below1 Q2
      have bw2 : Below (w.heap.size + 1) (w.alloc (.cells #[.int .i64 b, .int .i64 P, .int .i64 s3] 23)) wc := hb.trans (bwr.mono (by omega))
      have HB2 : Hid (Below w.heap.size w wc) := ((Below.refl w.heap.size w).alloc (Nat.le_refl _) _).trans (bw2.mono (by omega))
      have HW2 : Hid _ := bw2
      have hh2 := HH.out.below bwr
      cases hv : (rv && lv) with
      | false =>
        clear c0 c1 c2 c3 hh2
        go_wp2
        go_ret
        exact ⟨ret_bool (by rw [mayOk, hbl, preOk_false (pre_row HB.out hrv hlv hv) len (by omega)]; rfl), HB2.out⟩
      | true =>
        go_upto_if 38 with fail
        go_cut [7] (fun s7 wx => s7 = .int .i64 (opens bs (k + 1) : Nat) ∧ wc = wx)
        case first =>
          by_cases s2 : s = 2
          · subst s2
            go_wp2
            go_meet
            exact ⟨by rw [opens, HB.out]; simp, rfl⟩
          · have s2b : (s == 2) = false := by simpa using s2
            go_wp2
            go_meet
            exact ⟨by rw [opens, HB.out]; simp [s2], rfl⟩
        case rest =>
        obtain ⟨rfl, rfl⟩ := hcut
        have hlk := hh2.look h hh0
        have b93 := (Below.refl wc.heap.size wc).alloc (Nat.le_refl _) (.cells #[] 93)
        have hh3 := hh2.below b93
        obtain ⟨w4, hrun4, hh4, hg4⟩ := hh3.add (by unfold headL; rw [List.length_map, List.length_take]; omega) h hh0
        obtain ⟨z0, z1, z2, z3⟩ := box4 (Q2.alloc Q2.size (.cells #[] 93))
        have bw4 : Below (w.heap.size + 1) (w.alloc (.cells #[.int .i64 b, .int .i64 P, .int .i64 s3] 23)) w4 := (bw2.alloc (by have := bw2.size; simp at this; omega) (.cells #[] 93)).grown hg4 (by have := bw2.size; simp at this ⊢; omega) (fun j hj => by cases hj; exact Nat.le_refl _)
        have HH4 : Hid (Heads w4 (w.heap.size + 1) (headL bs (k + 1))) := by
          have h9 := headL_succ bs k (by omega)
          rw [HB.out] at h9
          unfold Hid
          rw [← h9]
          exact hh4
        have HB4 : Hid _ := bw4
        have HM : Hid (∀ x, x ∈ headL bs k ↔ ∃ i, i < k ∧ (bs.getD i Bk.zero).h = x) := fun x => headL_mem bs k x (by omega)
        have HB93 : Hid (Below w.heap.size w (wc.alloc (.cells #[] 93))) := HB2.out.alloc HB2.out.size _
        clear hh2 hh3 hh4 hg4 bw4 b93 c0 c1 c2 c3 g0 g1 g2
        by_cases hm : h ∈ headL bs k
        · have d1 : decide (h ∈ headL bs k) = true := decide_eq_true hm
          rw [d1] at hlk
          have HMM : Hid _ := hm
          clear hm d1
          by_cases hz : 0 < h
          · go_wp2
            go_ret
            exact ⟨ret_bool (by obtain ⟨i, hi, he⟩ := (HM.out h).1 HMM.out; rw [mayOk, hbl, preOk_false (pre_head HB.out (by omega) hi he) len (by omega)]; rfl), HB93.out⟩
          · have HZ : Hid (h = 0) := by unfold Hid; omega
            go_wp2
            go_roundw
            case rel => exact ⟨k + 1, by omega, by go_num, rfl, pre_next HP.out HB.out hrv hlv hv (fun i _ => Or.inl HZ.out), HH4, HB4.out⟩
            case measure => simp [intOf]; omega
        · have d1 : decide (h ∈ headL bs k) = false := decide_eq_false hm
          rw [d1] at hlk
          have HMM : Hid (¬ _) := hm
          clear hm d1
          go_wp2
          go_roundw
          case rel => exact ⟨k + 1, by omega, by go_num, rfl, pre_next HP.out HB.out hrv hlv hv (fun i hi => Or.inr (fun e => HMM.out ((HM.out h).2 ⟨i, hi, e⟩))), HH4, HB4.out⟩
          case measure => simp [intOf]; omega
    · have hkn : k = len := by omega
      subst hkn
      go_wp2
      go_ret
      exact ⟨ret_bool (by rw [mayOk, hbl, HP.out]; simp; omega), hb0⟩
end Go.Proofs.Ytgijbpkfheillaa
