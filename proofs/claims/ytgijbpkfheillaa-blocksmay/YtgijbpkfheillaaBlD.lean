/-
  SEAT Ytgijbpkfheillaa: the reference's May.
-/
import Derived.Test.YtgijbpkfheillaaBlB
import Derived.Test.YtgijbpkfheillaaBlC
import Derived.Deep.DeepCutAuto
import Derived.Deep.CutRange
namespace Go.Proofs.Ytgijbpkfheillaa
open Go.RowKit
set_option linter.unusedVariables false

theorem box4 {w u : World} {s h : Int} {r : Bool} {l : Int} (q : Below (w.alloc (.cells #[.int .i64 s, .int .u64 h, .bool r, .int .i64 l] 34)).heap.size (w.alloc (.cells #[.int .i64 s, .int .u64 h, .bool r, .int .i64 l] 34)) u) :
    u.cell? ⟨w.heap.size, 0, none⟩ = some (.int .i64 s) ∧ u.cell? ⟨w.heap.size, 1, none⟩ = some (.int .u64 h) ∧ u.cell? ⟨w.heap.size, 2, none⟩ = some (.bool r) ∧ u.cell? ⟨w.heap.size, 3, none⟩ = some (.int .i64 l) := by
  refine ⟨?_, ?_, ?_, ?_⟩ <;> (rw [q.cell (by simp)]; simp)

theorem pre_row {P last : Int} {bs : List Bk} {k : Nat} {s h : Int} {r : Bool} {l : Int} {rv lv : Bool} (hB : bs.getD k Bk.zero = ⟨s, h, r, l⟩) (hrv : rowOk P s h r l = rv) (hlv : lastOk s ((k : Int) == last) = lv) (hv : (rv && lv) = false) : preOk P last bs (k + 1) = false := by
  rw [preOk, hB]
  simp only
  rw [hrv, hlv, hv]
  simp

theorem below_drewN {B : Nat} {w u : World} (h : Below B w u) (k : Nat) : Below B w (u.drewN k) := ⟨h.os, h.tape, h.output, h.size, h.block⟩
theorem pre_head {P last : Int} {bs : List Bk} {k j : Nat} {s h : Int} {r : Bool} {l : Int} (hB : bs.getD k Bk.zero = ⟨s, h, r, l⟩) (h0 : h ≠ 0) (hj : j < k) (he : (bs.getD j Bk.zero).h = h) : preOk P last bs (k + 1) = false := by
  have e : headsOk bs k = false := by
    unfold headsOk
    rw [hB]
    simp only [Bool.or_eq_false_iff, beq_eq_false_iff_ne]
    refine ⟨h0, ?_⟩
    rw [List.all_eq_false]
    exact ⟨j, List.mem_range.2 hj, by rw [he]; simp⟩
  rw [preOk, e]
  simp
theorem pre_next {P last : Int} {bs : List Bk} {k : Nat} {s h : Int} {r : Bool} {l : Int} {rv lv : Bool} (hp : preOk P last bs k = true) (hB : bs.getD k Bk.zero = ⟨s, h, r, l⟩) (hrv : rowOk P s h r l = rv) (hlv : lastOk s ((k : Int) == last) = lv) (hv : (rv && lv) = true) (hh : ∀ i, i < k → h = 0 ∨ (bs.getD i Bk.zero).h ≠ h) : preOk P last bs (k + 1) = true := by
  have e : headsOk bs k = true := by
    unfold headsOk
    rw [hB]
    by_cases h0 : h = 0
    · subst h0; rfl
    · simp only [Bool.or_eq_true, List.all_eq_true, List.mem_range, bne_iff_ne]
      exact Or.inr fun i hi => (hh i hi).resolve_left h0
  rw [preOk, hp, e, hB]
  simp only
  rw [hrv, hlv, hv]
  rfl

set_option maxHeartbeats 4000000 in
set_option maxRecDepth 100000 in
theorem rmay_any (P last : Int) (a : Option Addr) (len cap : Nat) (bs : List Bk) (w : World) (hr : ReadsK w a len bs) (hl : len ≤ 5000) (hp : 4 ≤ P ∧ P ≤ 256) :
    Calls Try.prog 25 #[.slice a len cap, .int .i64 P, .int .i64 last] w fun e w' => e = .returned (.bool (mayOk P last bs)) ∧ Below w.heap.size w w' := by
  have hbl := hr.1
  have HR : Hid (ReadsK w a len bs) := hr
  clear hr
  go_enter Try.func25, Try.ntmps25
  go_wp2
  go_loopw [7, 8, 9, 10] (fun s7 s8 s9 s10 wr => ∃ k : Nat, k ≤ len ∧ s8 = .int .i64 k ∧ s7 = .int .i64 (opens bs k : Nat) ∧ Hid (preOk P last bs k = true) ∧ Below w.heap.size w wr)
    (fun _ i _ _ _ => len - (intOf i).toNat)
  case atStart => exact ⟨0, Nat.zero_le _, rfl, rfl, rfl, Below.refl _ _⟩
  case round =>
    obtain ⟨k, hk, rfl, rfl, HP, hb⟩ := hrel
    have hop := opens_le bs k
    by_cases hlt : k < len
    · obtain ⟨g, off, rfl, hg, hcell⟩ := HR.out.pos (by omega)
      have hok := okAt HR.out.2.1 k (by omega)
      obtain ⟨B, hB⟩ : ∃ B, bs.getD k Bk.zero = B := ⟨_, rfl⟩
      have hc9 := hcell k hlt
      rw [hB] at hc9 hok
      obtain ⟨s, h, r, l⟩ := B
      obtain ⟨c0, c1, c2, c3⟩ := hc9
      rw [← hb.cell hg] at c0 c1 c2 c3
      have HC : Hid (∀ i, i < len → w.cell? ⟨g, off + i * 4, none⟩ = some (.int .i64 (bs.getD i Bk.zero).s) ∧ w.cell? ⟨g, off + i * 4 + 1, none⟩ = some (.int .u64 (bs.getD i Bk.zero).h) ∧ w.cell? ⟨g, off + i * 4 + 2, none⟩ = some (.bool (bs.getD i Bk.zero).r) ∧ w.cell? ⟨g, off + i * 4 + 3, none⟩ = some (.int .i64 (bs.getD i Bk.zero).l)) := hcell
      have HB : Hid (bs.getD k Bk.zero = ⟨s, h, r, l⟩) := hB
      have hh0 := hok.h
      simp only at c0 c1 c2 c3 hh0
      clear hcell hB hok
      obtain ⟨rv, hrv⟩ : ∃ v, rowOk P s h r l = v := ⟨_, rfl⟩
      obtain ⟨lv, hlv⟩ : ∃ v, lastOk s ((k : Int) == last) = v := ⟨_, rfl⟩
      go_upto_region 6 with fail
      go_cut [49] (fun s49 wx => s49 = .bool (!(rv && lv)) ∧ Below (wr.alloc (.cells #[.int .i64 s, .int .u64 h, .bool r, .int .i64 l] 34)).heap.size (wr.alloc (.cells #[.int .i64 s, .int .u64 h, .bool r, .int .i64 l] 34)) wx)
      case first =>
        cases rv with
        | false =>
          go_wp2_with (first | (go_at_call 46; refine (rrow_any _ _ _ _ _ _ hp hh0.1).mono ?_; rintro e u1 ⟨rfl, q1⟩; rw [hrv]; obtain ⟨x0, x1, x2, x3⟩ := box4 q1; have Q1 : Hid _ := q1; clear q1))
          go_meet
          exact ⟨rfl, Q1.out⟩
        | true =>
          by_cases e1 : (k : Int) = last
          · have e2 : ((k : Int) == last) = true := by simpa using e1
            have e3 : ((k : Int) != last) = false := by simpa using e1
            rw [e2] at hlv
            simp only [lastOk, if_true] at hlv
            clear e1
            by_cases s5 : s = 5
            · subst s5
              obtain rfl : true = lv := hlv
              go_wp2_with (first | (go_at_call 46; refine (rrow_any _ _ _ _ _ _ hp hh0.1).mono ?_; rintro e u1 ⟨rfl, q1⟩; rw [hrv]; obtain ⟨x0, x1, x2, x3⟩ := box4 q1; have Q1 : Hid _ := q1; clear q1))
              go_meet
              exact ⟨rfl, Q1.out⟩
            · have s5b : (s == 5) = false := by simpa using s5
              by_cases s0 : s = 0
              · subst s0
                obtain rfl : false = lv := hlv
                go_wp2_with (first | (go_at_call 46; refine (rrow_any _ _ _ _ _ _ hp hh0.1).mono ?_; rintro e u1 ⟨rfl, q1⟩; rw [hrv]; obtain ⟨x0, x1, x2, x3⟩ := box4 q1; have Q1 : Hid _ := q1; clear q1))
                go_meet
                exact ⟨rfl, Q1.out⟩
              · have s0b : (s == 0) = false := by simpa using s0
                by_cases s6 : s = 6
                · subst s6
                  obtain rfl : false = lv := hlv
                  go_wp2_with (first | (go_at_call 46; refine (rrow_any _ _ _ _ _ _ hp hh0.1).mono ?_; rintro e u1 ⟨rfl, q1⟩; rw [hrv]; obtain ⟨x0, x1, x2, x3⟩ := box4 q1; have Q1 : Hid _ := q1; clear q1))
                  go_meet
                  exact ⟨rfl, Q1.out⟩
                · have s6b : (s == 6) = false := by simpa using s6
                  obtain rfl : true = lv := by rw [← hlv]; simp [s0, s6]
                  go_wp2_with (first | (go_at_call 46; refine (rrow_any _ _ _ _ _ _ hp hh0.1).mono ?_; rintro e u1 ⟨rfl, q1⟩; rw [hrv]; obtain ⟨x0, x1, x2, x3⟩ := box4 q1; have Q1 : Hid _ := q1; clear q1))
                  go_meet
                  exact ⟨rfl, Q1.out⟩
          · have e2 : ((k : Int) == last) = false := by simpa using e1
            have e3 : ((k : Int) != last) = true := by simpa using e1
            rw [e2] at hlv
            simp only [lastOk] at hlv
            by_cases s5 : s = 5
            · subst s5
              obtain rfl : false = lv := hlv
              go_wp2_with (first | (go_at_call 46; refine (rrow_any _ _ _ _ _ _ hp hh0.1).mono ?_; rintro e u1 ⟨rfl, q1⟩; rw [hrv]; obtain ⟨x0, x1, x2, x3⟩ := box4 q1; have Q1 : Hid _ := q1; clear q1))
              go_meet
              exact ⟨rfl, Q1.out⟩
            · have s5b : (s == 5) = false := by simpa using s5
              obtain rfl : true = lv := by rw [← hlv]; simp [s5]
              go_wp2_with (first | (go_at_call 46; refine (rrow_any _ _ _ _ _ _ hp hh0.1).mono ?_; rintro e u1 ⟨rfl, q1⟩; rw [hrv]; obtain ⟨x0, x1, x2, x3⟩ := box4 q1; have Q1 : Hid _ := q1; clear q1))
              go_meet
              exact ⟨rfl, Q1.out⟩
      case rest =>
      obtain ⟨rfl, Q2⟩ := hcut
      obtain ⟨x0, x1, x2, x3⟩ := box4 Q2
      have bw2 : Below w.heap.size w wc := hb.trans ((below1 Q2).mono hb.size)
      have HB2 : Hid (Below w.heap.size w wc) := bw2
      have hl9 : (k : Int) + 1 ≤ 5000 := by omega
      cases hv : (rv && lv) with
      | false =>
        clear c0 c1 c2 c3 bw2
        go_wp2
        go_ret
        exact ⟨ret_bool (by rw [mayOk, hbl, preOk_false (pre_row HB.out hrv hlv hv) len (by omega)]; rfl), HB2.out⟩
      | true =>
        go_upto_if 52 with fail
        go_cut [7] (fun s7 wx => s7 = .int .i64 (opens bs (k + 1) : Nat) ∧ wc = wx)
        case first =>
          by_cases s2 : s = 2
          · subst s2
            go_wp2
            go_meet
            exact ⟨by rw [opens, HB.out]; simp, rfl⟩
          · have s2b : (s == 2) = false := by simpa using s2
            go_wp2
            go_meet
            exact ⟨by rw [opens, HB.out]; simp [s2], rfl⟩
        case rest =>
        obtain ⟨rfl, rfl⟩ := hcut
        go_wp2
        go_loopw [10] (fun s10 wy => ∃ j : Nat, j ≤ k ∧ s10 = .int .i64 j ∧ Hid (∀ i, i < j → h = 0 ∨ (bs.getD i Bk.zero).h ≠ h) ∧ ∃ q, wy = wc.drewN q)
          (fun i _ => k - (intOf i).toNat)
        case atStart => exact ⟨0, Nat.zero_le _, rfl, fun i hi => absurd hi (Nat.not_lt_zero _), 0, rfl⟩
        case round =>
          obtain ⟨j, hj, rfl, HJ, q, rfl⟩ := hrel
          by_cases hjk : j < k
          · obtain ⟨hx, hhx⟩ : ∃ v, (bs.getD j Bk.zero).h = v := ⟨_, rfl⟩
            obtain ⟨_, y1, _, _⟩ := HC.out j (by omega)
            rw [hhx, ← bw2.cell hg] at y1
            have HX : Hid ((bs.getD j Bk.zero).h = hx) := hhx
            have d1 : (j : Int) < (k : Int) := by omega
            have d2 : (j : Int) < (len : Int) := by omega
            clear hhx
            by_cases h0 : h = 0
            · subst h0
              go_wp2
              go_quiet (fail)
              go_wp2
              go_roundw
              case rel => exact ⟨j + 1, by omega, by go_num, fun i _ => Or.inl (by first | trivial | rfl), _, rfl⟩
              case measure => simp [intOf]; omega
            · have g1 : (h != 0) = true := by simpa using h0
              by_cases e1 : hx = h
              · have e2 : (hx == h) = true := by simpa using e1
                have HE : Hid (hx = h) := e1
                clear e1
                go_wp2
                go_quiet (fail)
                go_wp2
                go_ret
                exact ⟨ret_bool (by rw [mayOk, hbl, preOk_false (pre_head HB.out h0 hjk (HX.out.trans HE.out)) len (by omega)]; rfl), below_drewN (below_drewN HB2.out _) _⟩
              · have e2 : (hx == h) = false := by simpa using e1
                go_wp2
                go_quiet (fail)
                go_wp2
                go_roundw
                case rel => exact ⟨j + 1, by omega, by go_num, fun i hi => by
                  by_cases e : i = j
                  · subst e; exact Or.inr (by rw [HX.out]; exact e1)
                  · exact HJ.out i (by omega), _, rfl⟩
                case measure => simp [intOf]; omega
          · have hje : j = k := by omega
            subst hje
            have d1 : ¬ ((j : Int) < (j : Int)) := by omega
            go_wp2
            go_roundw
            case rel => exact ⟨j + 1, by omega, by go_num, rfl, pre_next HP.out HB.out hrv hlv hv HJ.out, below_drewN HB2.out _⟩
            case measure => simp [intOf]; omega
    · have hkn : k = len := by omega
      subst hkn
      go_wp2
      go_ret
      exact ⟨ret_bool (by rw [mayOk, hbl, HP.out]; simp; omega), hb⟩
end Go.Proofs.Ytgijbpkfheillaa
