/-
  SEAT YtnjcjaaciphcgaaDoor: Sound, the program's and the reference's.
-/
import Derived.Test.YtnjcjaaciphcgaaDoorVj
import Derived.Test.YtnjcjaaciphcgaaDoorVk
namespace Go.Proofs.YtnjcjaaciphcgaaDoor
open Go.RowKit Go.Sort
set_option linter.unusedVariables false

/-- A finding that makes a report unsound. -/
def bad1 (k : Int) : Bool := k == 4 || k == 6 || k == 7

theorem sound1_any (k b p o : Int) (w : World) : Calls Tryd.prog 31 #[.agg #[.int .i64 k, .int .i64 b, .int .i64 p, .int .i64 o]] w fun e w' => e = .returned (.bool (bad1 k)) ∧ Below w.heap.size w w' := by
  have HB : Hid (Below w.heap.size w (w.alloc (.cells #[.int .i64 k, .int .i64 b, .int .i64 p, .int .i64 o] 29))) := below_alloc' w _
  by_cases h4 : k = 4
  · subst h4
    go_enter Tryd.func31, Tryd.ntmps31
    go_wp2_with fail
    go_ret
    exact ⟨rfl, HB.out⟩
  · have d4 : (k == 4) = false := by rw [beq_eq_false_iff_ne]; exact h4
    by_cases h6 : k = 6
    · subst h6
      go_enter Tryd.func31, Tryd.ntmps31
      go_wp2_with fail
      go_ret
      exact ⟨rfl, HB.out⟩
    · have d6 : (k == 6) = false := by rw [beq_eq_false_iff_ne]; exact h6
      have e9 : bad1 k = (k == 7) := by unfold bad1; rw [d4, d6]; rfl
      obtain ⟨y, hy⟩ : ∃ y, (k == 7) = y := ⟨_, rfl⟩
      rw [e9, hy]
      clear e9
      go_enter Tryd.func31, Tryd.ntmps31
      go_wp2_with fail
      go_ret
      exact ⟨rfl, HB.out⟩

theorem any_take {fs : List Fd} {i : Nat} (hi : i < fs.length) (h : (fs.take i).any (fun f => bad1 f.k) = false) : (fs.take (i + 1)).any (fun f => bad1 f.k) = bad1 (fs.getD i Fd.zero).k := by
  rw [List.take_succ_eq_append_getElem hi, List.any_append, h, List.getD_eq_getElem?_getD, List.getElem?_eq_getElem hi]
  simp
theorem any_hit {fs : List Fd} {i : Nat} (hi : i < fs.length) (h : bad1 (fs.getD i Fd.zero).k = true) : fs.any (fun f => bad1 f.k) = true := by
  rw [List.any_eq_true]
  refine ⟨fs.getD i Fd.zero, ?_, h⟩
  rw [List.getD_eq_getElem?_getD, List.getElem?_eq_getElem hi]
  exact List.getElem_mem hi

set_option maxHeartbeats 2000000 in
set_option maxRecDepth 100000 in
theorem idx_any (a : Option Addr) (n c : Nat) (fs : List Fd) (w : World) (hr : ReadsF w a n fs) (hn : n ≤ 140737488355000) :
    Calls Tryd.prog 41 #[.slice a n c, .func (.func 31) #[] #[]] w fun e w' => ∃ i : Int, e = .returned (.int .i64 i) ∧ decide (0 ≤ i) = fs.any (fun f => bad1 f.k) ∧ Below w.heap.size w w' := by
  have HR : Hid (ReadsF w a n fs) := hr
  have eg : ∀ args w, (callFunc 31 args).run Tryd.prog w = .ok (.enter 31 args) w := enters_of Tryd.func31 (by kernel_rfl) rfl
  clear hr
  go_enter Tryd.func41, Tryd.ntmps41
  go_wp2_with fail
  go_loopw [8] (fun s8 wr => ∃ i : Nat, i ≤ n ∧ s8 = .int .i64 (i : Int) ∧ Hid ((fs.take i).any (fun f => bad1 f.k) = false) ∧ Hid (Below w.heap.size w wr)) (fun i _ => n - (RowKit.intOf i).toNat)
  case atStart => exact ⟨0, Nat.zero_le _, rfl, rfl, Below.refl _ _⟩
  case round =>
    obtain ⟨i, hi, rfl, HT, HB⟩ := hrel
    by_cases hlt : i < n
    · have di : (i : Int) < (n : Int) := by omega
      obtain ⟨bk, off, rfl, hbk, hcell⟩ := (HR.out.below HB.out).pos (by omega)
      obtain ⟨e0, e1, e2, e3⟩ := hcell i hlt
      have hil : i < fs.length := by rw [HR.out.1]; exact hlt
      have HT2 : Hid ((fs.take (i + 1)).any (fun f => bad1 f.k) = bad1 (fs.getD i Fd.zero).k) := any_take hil HT.out
      have HH : Hid (bad1 (fs.getD i Fd.zero).k = true → fs.any (fun f => bad1 f.k) = true) := any_hit hil
      obtain ⟨F, hF⟩ : ∃ F, fs.getD i Fd.zero = F := ⟨_, rfl⟩
      rw [hF] at e0 e1 e2 e3 HT2 HH
      obtain ⟨k, b, p, o⟩ := F
      simp only at e0 e1 e2 e3 HT2 HH
      clear hcell hF HT hil
      have HS := sound1_any k b p o wr
      have hp : (0 : Int) ≤ (i : Int) := by omega
      cases hb : bad1 k with
      | true =>
        rw [hb] at HS HH
        have HH2 : Hid (fs.any (fun f => bad1 f.k) = true) := HH.out rfl
        clear hb HT2 HH
        go_wp2_with (first
          | (go_at_call 31; refine HS.mono ?_; rintro e t1 ⟨rfl, bl⟩
             have HB1 : Hid (Below w.heap.size w t1) := HB.out.trans (below_low bl HB.out.size)
             clear bl))
        go_ret
        exact ⟨_, rfl, by rw [HH2.out]; simp, HB1.out⟩
      | false =>
        rw [hb] at HS HT2
        clear hb HH
        go_wp2_with (first
          | (go_at_call 31; refine HS.mono ?_; rintro e t1 ⟨rfl, bl⟩
             have HB1 : Hid (Below w.heap.size w t1) := HB.out.trans (below_low bl HB.out.size)
             clear bl))
        go_roundw
        case rel => exact ⟨i + 1, by omega, by go_num, HT2.out, HB1.out⟩
        case measure => simp [RowKit.intOf]; omega
    · have di : ¬ (i : Int) < (n : Int) := by omega
      have HE : Hid (fs.any (fun f => bad1 f.k) = false) := by
        have h9 := HT.out
        rw [List.take_of_length_le (by rw [HR.out.1]; omega)] at h9
        exact h9
      clear HT
      go_wp2_with fail
      go_ret
      exact ⟨_, rfl, by rw [HE.out]; rfl, HB.out⟩
theorem cont_any (a : Option Addr) (n c : Nat) (fs : List Fd) (w : World) (hr : ReadsF w a n fs) (hn : n ≤ 140737488355000) :
    Calls Tryd.prog 30 #[.slice a n c, .func (.func 31) #[] #[]] w fun e w' => e = .returned (.bool (fs.any (fun f => bad1 f.k))) ∧ Below w.heap.size w w' := by
  have HI := idx_any a n c fs w hr hn
  clear hr
  obtain ⟨A, hA⟩ : ∃ A, fs.any (fun f => bad1 f.k) = A := ⟨_, rfl⟩
  rw [hA] at HI ⊢
  clear hA
  go_enter Tryd.func30, Tryd.ntmps30
  go_wp2_with (first
    | (go_at_call 41; refine HI.mono ?_; rintro e t1 ⟨i, rfl, hi, bl⟩
       have HI2 : Hid (decide (0 ≤ i) = A) := hi
       have HB : Hid (Below w.heap.size w t1) := bl
       clear hi bl))
  go_ret
  exact ⟨by rw [← HI2.out]; rfl, HB.out⟩
set_option maxHeartbeats 2000000 in
theorem sound_any (fl x1 x2 x3 x4 : Int) (sv : Bool) (a : Option Addr) (n c : Nat) (fs : List Fd) (w : World) (hr : ReadsF w a n fs) (hn : n ≤ 140737488355000) :
    Calls Tryd.prog 12 #[.agg #[.int .u64 fl, .int .i64 x1, .int .i64 x2, .int .i64 x3, .int .i64 x4, .bool sv, .slice a n c]] w fun e w' => e = .returned (.bool (!fs.any fun f => bad1 f.k)) ∧ Below w.heap.size w w' := by
  have HX : Hid ((w.alloc (.cells #[.int .u64 fl, .int .i64 x1, .int .i64 x2, .int .i64 x3, .int .i64 x4, .bool sv, .slice a n c] 25)).heap[w.heap.size]? = some (.cells #[.int .u64 fl, .int .i64 x1, .int .i64 x2, .int .i64 x3, .int .i64 x4, .bool sv, .slice a n c] 25 (0, 0))) := heap_alloc_new w _
  have HB0 : Hid (Below w.heap.size w (w.alloc (.cells #[.int .u64 fl, .int .i64 x1, .int .i64 x2, .int .i64 x3, .int .i64 x4, .bool sv, .slice a n c] 25))) := below_alloc' w _
  have HC := cont_any a n c fs (w.alloc (.cells #[.int .u64 fl, .int .i64 x1, .int .i64 x2, .int .i64 x3, .int .i64 x4, .bool sv, .slice a n c] 25)) (hr.below (below_alloc' w _)) hn
  obtain ⟨A, hA⟩ : ∃ A, fs.any (fun f => bad1 f.k) = A := ⟨_, rfl⟩
  rw [hA] at HC ⊢
  clear hA hr
  obtain ⟨y0, y1, y2, y3, y4, y5, y6⟩ := cells7 HX.out
  clear y0 y1 y2 y3 y4 y5
  go_enter Tryd.func12, Tryd.ntmps12
  go_wp2_with (first
    | (go_at_call 30; refine HC.mono ?_; rintro e t1 ⟨rfl, bl⟩
       have HB : Hid (Below w.heap.size w t1) := HB0.out.trans (below_low bl HB0.out.size)
       clear bl))
  go_ret
  exact ⟨rfl, HB.out⟩

set_option maxHeartbeats 4000000 in
set_option maxRecDepth 100000 in
theorem rsound_any (fl x1 x2 x3 x4 : Int) (sv : Bool) (a : Option Addr) (n c : Nat) (fs : List Fd) (w : World) (hr : ReadsF w a n fs) (hn : n ≤ 140737488355000) :
    Calls Tryd.prog 13 #[.agg #[.int .u64 fl, .int .i64 x1, .int .i64 x2, .int .i64 x3, .int .i64 x4, .bool sv, .slice a n c]] w fun e w' => e = .returned (.bool (!fs.any fun f => bad1 f.k)) ∧ Below w.heap.size w w' := by
  have HX : Hid ((w.alloc (.cells #[.int .u64 fl, .int .i64 x1, .int .i64 x2, .int .i64 x3, .int .i64 x4, .bool sv, .slice a n c] 25)).heap[w.heap.size]? = some (.cells #[.int .u64 fl, .int .i64 x1, .int .i64 x2, .int .i64 x3, .int .i64 x4, .bool sv, .slice a n c] 25 (0, 0))) := heap_alloc_new w _
  have HB0 : Hid (Below w.heap.size w (w.alloc (.cells #[.int .u64 fl, .int .i64 x1, .int .i64 x2, .int .i64 x3, .int .i64 x4, .bool sv, .slice a n c] 25))) := below_alloc' w _
  have HR : Hid (ReadsF (w.alloc (.cells #[.int .u64 fl, .int .i64 x1, .int .i64 x2, .int .i64 x3, .int .i64 x4, .bool sv, .slice a n c] 25)) a n fs) := hr.below (below_alloc' w _)
  obtain ⟨W, hW⟩ : ∃ W, (w.alloc (.cells #[.int .u64 fl, .int .i64 x1, .int .i64 x2, .int .i64 x3, .int .i64 x4, .bool sv, .slice a n c] 25)) = W := ⟨_, rfl⟩
  rw [hW] at HX HB0 HR
  obtain ⟨y0, y1, y2, y3, y4, y5, y6⟩ := cells7 HX.out
  clear y0 y1 y2 y3 y4 y5 hr
  go_enter Tryd.func13, Tryd.ntmps13
  go_wp2_with fail
  try rw [hW]
  clear hW
  go_loopw [3] (fun s3 wr => ∃ i : Nat, i ≤ n ∧ s3 = .int .i64 (i : Int) ∧ Hid ((fs.take i).any (fun f => bad1 f.k) = false) ∧ wr = W) (fun i _ => n - (RowKit.intOf i).toNat)
  case atStart => exact ⟨0, Nat.zero_le _, rfl, rfl, rfl⟩
  case round =>
    obtain ⟨i, hi, rfl, HT, rfl⟩ := hrel
    by_cases hlt : i < n
    · have di : (i : Int) < (n : Int) := by omega
      obtain ⟨bk, off, rfl, hbk, hcell⟩ := HR.out.pos (by omega)
      obtain ⟨e0, e1, e2, e3⟩ := hcell i hlt
      have hil : i < fs.length := by rw [HR.out.1]; exact hlt
      have HT2 : Hid ((fs.take (i + 1)).any (fun f => bad1 f.k) = bad1 (fs.getD i Fd.zero).k) := any_take hil HT.out
      have HH : Hid (bad1 (fs.getD i Fd.zero).k = true → fs.any (fun f => bad1 f.k) = true) := any_hit hil
      obtain ⟨F, hF⟩ : ∃ F, fs.getD i Fd.zero = F := ⟨_, rfl⟩
      rw [hF] at e0 e1 e2 e3 HT2 HH
      obtain ⟨k, b, p, o⟩ := F
      simp only at e0 e1 e2 e3 HT2 HH
      clear hcell hF HT hil e1 e2 e3
      obtain ⟨q4, h4⟩ : ∃ q, (k == 4) = q := ⟨_, rfl⟩
      obtain ⟨q6, h6⟩ : ∃ q, (k == 6) = q := ⟨_, rfl⟩
      obtain ⟨q7, h7⟩ : ∃ q, (k == 7) = q := ⟨_, rfl⟩
      have hbd : bad1 k = (q4 || q6 || q7) := by unfold bad1; rw [h4, h6, h7]
      rw [hbd] at HT2 HH
      clear hbd
      cases q4
      case true =>
        have HH2 : Hid (fs.any (fun f => bad1 f.k) = true) := HH.out rfl
        clear HH HT2
        go_wp2_with fail
        go_ret
        exact ⟨by rw [HH2.out]; rfl, HB0.out⟩
      case false =>
        cases q6
        case true =>
          have HH2 : Hid (fs.any (fun f => bad1 f.k) = true) := HH.out rfl
          clear HH HT2
          go_wp2_with fail
          go_ret
          exact ⟨by rw [HH2.out]; rfl, HB0.out⟩
        case false =>
          cases q7
          case true =>
            have HH2 : Hid (fs.any (fun f => bad1 f.k) = true) := HH.out rfl
            clear HH HT2
            go_wp2_with fail
            go_ret
            exact ⟨by rw [HH2.out]; rfl, HB0.out⟩
          case false =>
            clear HH
            go_wp2_with fail
            go_roundw
            case rel => exact ⟨i + 1, by omega, by go_num, HT2.out, by trivial⟩
            case measure => simp [RowKit.intOf]; omega
    · have di : ¬ (i : Int) < (n : Int) := by omega
      have HE : Hid (fs.any (fun f => bad1 f.k) = false) := by
        have h9 := HT.out
        rw [List.take_of_length_le (by rw [HR.out.1]; omega)] at h9
        exact h9
      clear HT
      go_wp2_with fail
      go_ret
      exact ⟨by rw [HE.out]; rfl, HB0.out⟩

end Go.Proofs.YtnjcjaaciphcgaaDoor
