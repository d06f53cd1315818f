/-
  SEAT YtnjcjaaciphcgaaDoor: the reference's Show, all of it; Same.
-/
import Derived.Test.YtnjcjaaciphcgaaDoorUd
namespace Go.Proofs.YtnjcjaaciphcgaaDoor
open Go.RowKit Go.Sort Go.Lib
set_option linter.unusedVariables false

theorem head_len (r : Rp) (ho : r.Ok) : (headB r).length ≤ 1000 := by
  unfold headB
  have := dec_len r.fl ho.fl
  have := itoa_len r.c ho.c
  have := itoa_len r.l ho.l
  have := itoa_len r.u ho.u
  have := itoa_len r.b ho.b
  have := saved_len r.s
  simp only [line2, List.length_append, List.length_cons, List.length_nil]
  omega
theorem flat_take (L : List (List UInt8)) (i : Nat) (h : i < L.length) : (L.take i).flatten ++ L.getD i [] = (L.take (i + 1)).flatten := by
  rw [List.take_succ_eq_append_getElem h, List.flatten_append, List.getD_eq_getElem?_getD, List.getElem?_eq_getElem h]
  simp
theorem flat_le (L : List (List UInt8)) (i : Nat) : ((L.take i).flatten).length ≤ L.flatten.length := by
  conv => rhs; rw [← List.take_append_drop i L, List.flatten_append, List.length_append]
  omega

set_option maxHeartbeats 4000000 in
set_option maxRecDepth 100000 in
theorem rshow_any (r : Rp) (a : Option Addr) (n c : Nat) (w : World) (hr : ReadsF w a n r.fs) (ho : r.Ok) (ht : P10 w) :
    Calls Tryd.prog 7 #[.agg #[.int .u64 (r.fl : Int), .int .i64 r.c, .int .i64 r.l, .int .i64 r.u, .int .i64 r.b, .bool r.s, .slice a n c]] w fun e w' => e = .returned (.string ⟨(showB r).toArray⟩) ∧ Below w.heap.size w w' := by
  have HR : Hid (ReadsF w a n r.fs) := hr
  have HO : Hid r.Ok := ho
  have HT : Hid (P10 w) := ht
  have hn : n ≤ 1048576 := by rw [← hr.1]; exact ho.few
  have HF0 : Hid ((w.alloc (.cells #[.int .u64 (r.fl : Int), .int .i64 r.c, .int .i64 r.l, .int .i64 r.u, .int .i64 r.b, .bool r.s, .slice a n c] 25)).heap[w.heap.size]? = some (.cells #[.int .u64 (r.fl : Int), .int .i64 r.c, .int .i64 r.l, .int .i64 r.u, .int .i64 r.b, .bool r.s, .slice a n c] 25 (0, 0))) := heap_alloc_new w _
  have HB0 : Hid (Below w.heap.size w (w.alloc (.cells #[.int .u64 (r.fl : Int), .int .i64 r.c, .int .i64 r.l, .int .i64 r.u, .int .i64 r.b, .bool r.s, .slice a n c] 25))) := below_alloc' w _
  have HHL : Hid ((headsL r).flatten.length ≤ 1000) := by unfold Hid; rw [headsL_flat]; exact head_len r ho
  obtain ⟨x0, x1, x2, x3, x4, x5, x6⟩ := cells7 HF0.out
  clear hr ho ht
  go_enter Tryd.func7, Tryd.ntmps7
  go_wp2_with (first
    | (go_at_call 22; refine (heads_any r a n c _ HO.out (p10_below HT.out HB0.out)).mono ?_; rintro e t1 ⟨g, rfl, hg, bl⟩
       have HB1 : Hid (Below w.heap.size w t1) := HB0.out.trans (below_low bl HB0.out.size)
       have HF1 : Hid (t1.heap[w.heap.size]? = some (.cells #[.int .u64 (r.fl : Int), .int .i64 r.c, .int .i64 r.l, .int .i64 r.u, .int .i64 r.b, .bool r.s, .slice a n c] 25 (0, 0))) := (bl.block _ (Array.getElem?_eq_some_iff.1 HF0.out).1).trans HF0.out
       have HG : Hid (∀ i, i < 6 → t1.cell? ⟨g, i, none⟩ = some (.string ⟨((headsL r).getD i []).toArray⟩)) := hg
       clear bl hg x0 x1 x2 x3 x4 x5 x6))
  go_loopw [3, 5] (fun s3 s5 wr => ∃ (i : Nat) (A : List UInt8), i ≤ 6 ∧ s5 = .int .i64 (i : Int) ∧ s3 = .string ⟨A.toArray⟩ ∧ Hid (((headsL r).take i).flatten = A) ∧ wr = t1) (fun _ i _ => 6 - (RowKit.intOf i).toNat)
  case atStart => exact ⟨0, [], Nat.zero_le _, rfl, rfl, rfl, rfl⟩
  case round =>
    obtain ⟨i, A, hi, rfl, rfl, HA, rfl⟩ := hrel
    by_cases hlt : i < 6
    · have di : (i : Int) < 6 := by omega
      have hc := HG.out i hlt
      have hla := flat_le (headsL r) i
      have hlb := flat_le (headsL r) (i + 1)
      have hft := flat_take (headsL r) i hlt
      obtain ⟨X, hX⟩ : ∃ X, (headsL r).getD i [] = X := ⟨_, rfl⟩
      obtain ⟨A2, hA2⟩ : ∃ A2, ((headsL r).take (i + 1)).flatten = A2 := ⟨_, rfl⟩
      rw [hX] at hc hft
      rw [HA.out] at hft hla
      rw [hA2] at hft hlb
      have HA2 : Hid (((headsL r).take (i + 1)).flatten = A2) := hA2
      have hXl : A.length + X.length ≤ 1000 := by have := HHL.out; have h9 := congrArg List.length hft; rw [List.length_append] at h9; omega
      have ea : ((⟨A.toArray⟩ : ByteArray) ++ (⟨X.toArray⟩ : ByteArray)) = ⟨A2.toArray⟩ := by rw [str_add, hft]
      have cc : ¬ 9223372036854775807 < A.length + X.length := by omega
      clear hX hA2 hft hla hlb HA
      go_wp2_with fail
      go_roundw
      case rel => exact ⟨i + 1, A2, by omega, by go_num, rfl, HA2.out, by trivial⟩
      case measure => simp [RowKit.intOf]; omega
    · have di : ¬ (i : Int) < 6 := by omega
      have HA6 : Hid (headB r = A) := by
        have h9 := HA.out
        rw [List.take_of_length_le (by simp [headsL]; omega), headsL_flat] at h9
        exact h9
      clear HA HG
      go_wp2_with fail
      go_loopw [3, 6] (fun s3 s6 wr => ∃ (j : Nat) (X : List UInt8), j ≤ n ∧ s6 = .int .i64 (j : Int) ∧ s3 = .string ⟨X.toArray⟩ ∧ Hid (headB r ++ rowsB (r.fs.take j) = X) ∧ Hid (Below w.heap.size w wr) ∧ Hid (wr.heap[w.heap.size]? = some (.cells #[.int .u64 (r.fl : Int), .int .i64 r.c, .int .i64 r.l, .int .i64 r.u, .int .i64 r.b, .bool r.s, .slice a n c] 25 (0, 0)))) (fun _ i _ => n - (RowKit.intOf i).toNat)
      case atStart => exact ⟨0, A, Nat.zero_le _, rfl, rfl, by rw [List.take_zero, show rowsB [] = [] from rfl, List.append_nil]; exact HA6.out, HB1.out, HF1.out⟩
      case round =>
        clear HB1 HF1 HA6
        obtain ⟨j, X, hj, rfl, rfl, HX, HB, HF⟩ := hrel
        by_cases hjn : j < n
        · have dj : (j : Int) < (n : Int) := by omega
          obtain ⟨bk, off, rfl, hbk, hcell⟩ := (HR.out.below HB.out).pos (by omega)
          obtain ⟨e0, e1, e2, e3⟩ := hcell j hjn
          obtain ⟨x0, x1, x2, x3, x4, x5, x6⟩ := cells7 HF.out
          clear x0 x1 x2 x3 x4 x5
          have hil : j < r.fs.length := by rw [HR.out.1]; exact hjn
          have hfm : r.fs.getD j Fd.zero ∈ r.fs := by rw [List.getD_eq_getElem?_getD, List.getElem?_eq_getElem hil]; exact List.getElem_mem hil
          have hok := HO.out.fs _ hfm
          have hXl : X.length ≤ 104858600 := by
            have h8 := rows_len (r.fs.take j) (fun f hf => HO.out.fs f (List.mem_of_mem_take hf))
            have h7 := head_len r HO.out
            rw [List.length_take] at h8
            rw [← HX.out, List.length_append]
            omega
          obtain ⟨F, hF⟩ : ∃ F, r.fs.getD j Fd.zero = F := ⟨_, rfl⟩
          rw [hF] at e0 e1 e2 e3 hok
          have hYl := row_len F hok
          obtain ⟨Y, hY⟩ : ∃ Y, rowB F = Y := ⟨_, rfl⟩
          rw [hY] at hYl
          have HY : Hid (rowB F = Y) := hY
          have HOK : Hid F.Ok := hok
          obtain ⟨X2, hX2⟩ : ∃ X2, X ++ Y = X2 := ⟨_, rfl⟩
          have HX2 : Hid (headB r ++ rowsB (r.fs.take (j + 1)) = X2) := by
            unfold Hid
            rw [List.take_succ_eq_append_getElem hil, rowsB_snoc, ← hX2, ← List.append_assoc, HX.out, ← hY, ← hF, List.getD_eq_getElem?_getD, List.getElem?_eq_getElem hil]
            rfl
          have ea : ((⟨X.toArray⟩ : ByteArray) ++ (⟨Y.toArray⟩ : ByteArray)) = ⟨X2.toArray⟩ := by rw [str_add, hX2]
          have cc : ¬ 9223372036854775807 < X.length + Y.length := by omega
          clear hfm hF hcell hY hX2 hok HX hil
          go_wp2_with (first
            | (go_at_call 23; refine (row_any F HOK.out _ (p10_below HT.out HB.out)).mono ?_; rintro e t2 ⟨rfl, bl⟩; rw [HY.out]
               have HB2 : Hid (Below w.heap.size w t2) := HB.out.trans (below_low bl HB.out.size)
               have HF2 : Hid (t2.heap[w.heap.size]? = some (.cells #[.int .u64 (r.fl : Int), .int .i64 r.c, .int .i64 r.l, .int .i64 r.u, .int .i64 r.b, .bool r.s, .slice (some ⟨bk, off, none⟩) n c] 25 (0, 0))) := (bl.block _ (Array.getElem?_eq_some_iff.1 HF.out).1).trans HF.out
               clear bl e0 e1 e2 e3 x6))
          go_roundw
          case rel => exact ⟨j + 1, X2, by omega, by go_num, rfl, HX2.out, HB2.out, HF2.out⟩
          case measure => simp [RowKit.intOf]; omega
        · have dj : ¬ (j : Int) < (n : Int) := by omega
          have HE : Hid (showB r = X) := by
            have h9 := HX.out
            rw [List.take_of_length_le (by rw [HR.out.1]; omega)] at h9
            exact h9
          obtain ⟨x0, x1, x2, x3, x4, x5, x6⟩ := cells7 HF.out
          clear x0 x1 x2 x3 x4 x5 HX
          go_wp2_with fail
          go_ret
          exact ⟨by rw [HE.out]; rfl, HB.out⟩

set_option maxHeartbeats 4000000 in
set_option maxRecDepth 100000 in
theorem same_any (fl x1 x2 x3 x4 : Int) (sv : Bool) (a a' : Option Addr) (n c c' : Nat) (fs : List Fd) (w : World) (hr : ReadsF w a n fs) (hr' : ReadsF w a' n fs) (hn : n ≤ 140737488355000) :
    Calls Tryd.prog 8 #[.agg #[.int .u64 fl, .int .i64 x1, .int .i64 x2, .int .i64 x3, .int .i64 x4, .bool sv, .slice a n c], .agg #[.int .u64 fl, .int .i64 x1, .int .i64 x2, .int .i64 x3, .int .i64 x4, .bool sv, .slice a' n c']] w fun e w' => e = .returned (.bool true) ∧ Below w.heap.size w w' := by
  have HR : Hid (ReadsF ((w.alloc (.cells #[.int .u64 fl, .int .i64 x1, .int .i64 x2, .int .i64 x3, .int .i64 x4, .bool sv, .slice a n c] 25)).alloc (.cells #[.int .u64 fl, .int .i64 x1, .int .i64 x2, .int .i64 x3, .int .i64 x4, .bool sv, .slice a' n c'] 25)) a n fs) := (hr.below (below_alloc' w _)).below (below_alloc' _ _)
  have HR' : Hid (ReadsF ((w.alloc (.cells #[.int .u64 fl, .int .i64 x1, .int .i64 x2, .int .i64 x3, .int .i64 x4, .bool sv, .slice a n c] 25)).alloc (.cells #[.int .u64 fl, .int .i64 x1, .int .i64 x2, .int .i64 x3, .int .i64 x4, .bool sv, .slice a' n c'] 25)) a' n fs) := (hr'.below (below_alloc' w _)).below (below_alloc' _ _)
  have HB : Hid (Below w.heap.size w ((w.alloc (.cells #[.int .u64 fl, .int .i64 x1, .int .i64 x2, .int .i64 x3, .int .i64 x4, .bool sv, .slice a n c] 25)).alloc (.cells #[.int .u64 fl, .int .i64 x1, .int .i64 x2, .int .i64 x3, .int .i64 x4, .bool sv, .slice a' n c'] 25))) := below_trans (below_alloc' w _) (below_alloc' _ _)
  have HX : Hid (((w.alloc (.cells #[.int .u64 fl, .int .i64 x1, .int .i64 x2, .int .i64 x3, .int .i64 x4, .bool sv, .slice a n c] 25)).alloc (.cells #[.int .u64 fl, .int .i64 x1, .int .i64 x2, .int .i64 x3, .int .i64 x4, .bool sv, .slice a' n c'] 25)).heap[w.heap.size]? = some (.cells #[.int .u64 fl, .int .i64 x1, .int .i64 x2, .int .i64 x3, .int .i64 x4, .bool sv, .slice a n c] 25 (0, 0))) := (Below.heap_alloc _ _ _ (by simp)).trans (heap_alloc_new w _)
  have HY : Hid (((w.alloc (.cells #[.int .u64 fl, .int .i64 x1, .int .i64 x2, .int .i64 x3, .int .i64 x4, .bool sv, .slice a n c] 25)).alloc (.cells #[.int .u64 fl, .int .i64 x1, .int .i64 x2, .int .i64 x3, .int .i64 x4, .bool sv, .slice a' n c'] 25)).heap[w.heap.size + 1]? = some (.cells #[.int .u64 fl, .int .i64 x1, .int .i64 x2, .int .i64 x3, .int .i64 x4, .bool sv, .slice a' n c'] 25 (0, 0))) := by
    have h9 := heap_alloc_new (w.alloc (.cells #[.int .u64 fl, .int .i64 x1, .int .i64 x2, .int .i64 x3, .int .i64 x4, .bool sv, .slice a n c] 25)) (.cells #[.int .u64 fl, .int .i64 x1, .int .i64 x2, .int .i64 x3, .int .i64 x4, .bool sv, .slice a' n c'] 25)
    rw [World.size_alloc] at h9
    exact h9
  obtain ⟨y0, y1, y2, y3, y4, y5, y6⟩ := cells7 HX.out
  obtain ⟨z0, z1, z2, z3, z4, z5, z6⟩ := cells7 HY.out
  clear hr hr'
  go_enter Tryd.func8, Tryd.ntmps8
  go_wp2_with fail
  go_loopw [5] (fun s5 wr => ∃ k q : Nat, k ≤ n ∧ s5 = .int .i64 (k : Int) ∧ wr = ((w.alloc (.cells #[.int .u64 fl, .int .i64 x1, .int .i64 x2, .int .i64 x3, .int .i64 x4, .bool sv, .slice a n c] 25)).alloc (.cells #[.int .u64 fl, .int .i64 x1, .int .i64 x2, .int .i64 x3, .int .i64 x4, .bool sv, .slice a' n c'] 25)).drewN q) (fun i _ => n - (RowKit.intOf i).toNat)
  case atStart => exact ⟨0, 0, Nat.zero_le _, rfl, rfl⟩
  case round =>
    obtain ⟨k, q, hk, rfl, rfl⟩ := hrel
    by_cases hlt : k < n
    · have dk : (k : Int) < (n : Int) := by omega
      obtain ⟨g, off, rfl, hg, hcell⟩ := HR.out.pos (by omega)
      obtain ⟨g', off', rfl, hg', hcell'⟩ := HR'.out.pos (by omega)
      obtain ⟨F, hF⟩ : ∃ F, fs.getD k Fd.zero = F := ⟨_, rfl⟩
      have hc := hcell k hlt
      have hc' := hcell' k hlt
      rw [hF] at hc hc'
      obtain ⟨f0, f1, f2, f3⟩ := F
      obtain ⟨c0, c1, c2, c3⟩ := hc
      obtain ⟨e0, e1, e2, e3⟩ := hc'
      simp only at c0 c1 c2 c3 e0 e1 e2 e3
      clear hcell hcell' hF y0 y1 y2 y3 y4 y5 z0 z1 z2 z3 z4 z5 HR HR' HB HX HY
      go_wp2
      go_quiet (fail)
      go_wp2
      go_roundw
      case rel => exact ⟨k + 1, _, by omega, by go_num, rfl⟩
      case measure => simp [RowKit.intOf]; omega
    · have dk : ¬ (k : Int) < (n : Int) := by omega
      clear y0 y1 y2 y3 y4 y5 z0 z1 z2 z3 z4 z5
      go_wp2_with fail
      go_ret
      exact ⟨rfl, below_drewN HB.out q⟩

end Go.Proofs.YtnjcjaaciphcgaaDoor
