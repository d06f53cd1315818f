/-
  SEAT YtnopljjngbgpdabDoor: the reference's Pack: a piece that is a run.
-/
import Derived.Test.YtnopljjngbgpdabDoorPo
namespace Go.Proofs.YtnopljjngbgpdabDoor
open Go.RowKit
set_option linter.unusedVariables false

/-- r pages from the page k on are of the kind wk, and no more are told with them. -/
structure RunAt (xs : List Int) (L N k wk r : Nat) : Prop where
  all : ∀ j, j < r → kindL xs L (k + j) = wk
  most : r ≤ 65535
  room : k + r ≤ N
  stop : k + r = N ∨ r = 65535 ∨ kindL xs L (k + r) ≠ wk
theorem run_succ {xs : List Int} {L k wk r : Nat} (h : ∀ j, j < r → kindL xs L (k + j) = wk) (h2 : kindL xs L (k + r) = wk) : ∀ j, j < r + 1 → kindL xs L (k + j) = wk := fun j hj => by
  rcases Nat.lt_or_ge j r with h8 | h8
  · exact h j h8
  · obtain rfl : j = r := by omega
    exact h2
theorem kind_le (xs : List Int) (L k : Nat) : kindL xs L k ≤ 2 := by
  unfold kindL
  split
  · omega
  · split <;> omega
set_option maxHeartbeats 4000000 in
set_option maxRecDepth 100000 in
theorem piece_run (b p s : Nat) (a a' : Option Addr) (n c m c' : Nat) (xs : List Int) (w : World) (k L N : Nat) (hf : Fits (b : Int) (p : Int) (s : Int) = true) (hr : Reads w a n xs) (hL : 256 * s + (54 + 3 * s) = L) (hN : b * p = N) (hn : n = N * L) (hk : k < N) (hw1 : kindL xs L k ≠ 1) :
    Calls Tryd.prog 42 #[.agg #[.int .i64 (b : Int), .int .i64 (p : Int), .int .i64 (s : Int), .slice a n c, .slice a' m c'], .int .i64 (k : Int)] w fun e w' => ∃ v r, e = .returned (.tuple #[v, .int .i64 ((r : Nat) : Int)]) ∧ w'.ownsRow w.heap.size 5 1 v 3 (([((kindL xs L k : Nat) : Int)] ++ le2 r).map (Value.int .u8)) ∧ Below w.heap.size w w' ∧ RunAt xs L N k (kindL xs L k) r := by
  obtain ⟨q1, q2, q3, q4, q5, q6, q7⟩ := fits_nat hf
  have hNb : N ≤ 65536 := by omega
  have hLb : L ≤ 2200 := by omega
  have hnb : n ≤ 144179200 := by rw [hn]; exact Nat.mul_le_mul hNb hLb
  have HLn : Hid ((L : Int) = 256 * (s : Int) + (54 + 3 * (s : Int))) := by unfold Hid; omega
  have hwk2 := kind_le xs L k
  obtain ⟨wk, hwk⟩ : ∃ wk, kindL xs L k = wk := ⟨_, rfl⟩
  have HWK : Hid (kindL xs L k = wk) := hwk
  rw [hwk] at hw1 hwk2 ⊢
  have e1 : ((wk : Int) == 1) = false := by rw [beq_eq_false_iff_ne]; omega
  have wu : IntKind.u8.wrap (wk : Int) = (wk : Int) := by rw [IntKind.wrap_u8]; omega
  have wN : IntKind.i64.wrap ((b : Int) * (p : Int)) = (N : Int) := by rw [← Int.natCast_mul, hN, IntKind.wrap_i64]; omega
  have HKN : Hid (∀ j, j < N → (j + 1) * L ≤ n) := fun j hj => by rw [hn]; exact Nat.mul_le_mul_right L hj
  have HR : Hid (Reads w a n xs) := hr
  have HM0 : Hid ((w.alloc (.cells #[.int .i64 (b : Int), .int .i64 (p : Int), .int .i64 (s : Int), .slice a n c, .slice a' m c'] 27)).heap[w.heap.size]? = some (.cells #[.int .i64 (b : Int), .int .i64 (p : Int), .int .i64 (s : Int), .slice a n c, .slice a' m c'] 27 (0, 0))) := heap_alloc_new w _
  have HB0 : Hid (Below w.heap.size w (w.alloc (.cells #[.int .i64 (b : Int), .int .i64 (p : Int), .int .i64 (s : Int), .slice a n c, .slice a' m c'] 27))) := below_alloc w _
  obtain ⟨x0, x1, x2, x3, x4⟩ := cells5 HM0.out
  clear hr hL hN hn hf q7 hwk
  go_enter Tryd.func42, Tryd.ntmps42
  go_wp2_with (first
    | (go_at_call 67; refine (kind_any b p s a a' n c m c' xs _ k L (by omega) (by omega) (by omega) (HR.out.below HB0.out) HLn.out (HKN.out k hk) (by omega)).mono ?_; rintro e u1 ⟨rfl, bl⟩; rw [HWK.out]
       have HB1 : Hid (Below w.heap.size w u1) := below_trans HB0.out bl
       have HM1 : Hid (u1.heap[w.heap.size]? = some (.cells #[.int .i64 (b : Int), .int .i64 (p : Int), .int .i64 (s : Int), .slice a n c, .slice a' m c'] 27 (0, 0))) := (bl.block _ (lt_of_bk HM0.out)).trans HM0.out
       clear bl x0 x1 x2 x3 x4
       obtain ⟨x0, x1, x2, x3, x4⟩ := cells5 HM1.out))
  clear x0 x1 x2 x3 x4
  go_loopw [11] (fun s11 wr => ∃ r : Nat, r ≤ 65535 ∧ k + r ≤ N ∧ s11 = .int .i64 (r : Int) ∧ Hid (∀ j, j < r → kindL xs L (k + j) = wk) ∧ Hid (Below w.heap.size w wr) ∧ Hid (wr.heap[w.heap.size]? = some (.cells #[.int .i64 (b : Int), .int .i64 (p : Int), .int .i64 (s : Int), .slice a n c, .slice a' m c'] 27 (0, 0)))) (fun i _ => 65535 - (intOf i).toNat)
  case atStart => exact ⟨0, by omega, by omega, rfl, fun j hj => by omega, HB1.out, HM1.out⟩
  case round =>
    obtain ⟨r, hr1, hr2, rfl, HRU, HB, HM⟩ := hrel
    obtain ⟨x0, x1, x2, x3, x4⟩ := cells5 HM.out
    obtain ⟨kr, hkr⟩ : ∃ kr, k + r = kr := ⟨_, rfl⟩
    have HKK : Hid (k + r = kr) := hkr
    have wkr : IntKind.i64.wrap ((k : Int) + (r : Int)) = (kr : Int) := by rw [IntKind.wrap_i64]; omega
    rw [hkr] at hr2
    clear hkr
    by_cases hkN : kr < N
    · have dkN : (kr : Int) < (N : Int) := by omega
      by_cases hrM : r < 65535
      · have drM : (r : Int) < 65535 := by omega
        have wr1 : IntKind.i64.wrap ((r : Int) + 1) = (r : Int) + 1 := by rw [IntKind.wrap_i64]; omega
        have HKR : Hid ((kr + 1) * L ≤ n) := HKN.out kr hkN
        by_cases hkk : kindL xs L kr = wk
        · have HKE : Hid (kindL xs L kr = wk) := hkk
          clear hkk
          go_wp2_with (first
            | (go_at_call 67; refine (kind_any b p s a a' n c m c' xs _ kr L (by omega) (by omega) (by omega) (HR.out.below HB.out) HLn.out HKR.out (by omega)).mono ?_; rintro e u4 ⟨rfl, bl⟩; rw [HKE.out]
               have HB4 : Hid (Below w.heap.size w u4) := below_trans HB.out bl
               have HM4 : Hid (u4.heap[w.heap.size]? = some (.cells #[.int .i64 (b : Int), .int .i64 (p : Int), .int .i64 (s : Int), .slice a n c, .slice a' m c'] 27 (0, 0))) := (bl.block _ (lt_of_bk HM.out)).trans HM.out
               clear bl x0 x1 x2 x3 x4
               obtain ⟨x0, x1, x2, x3, x4⟩ := cells5 HM4.out))
          go_roundw
          case rel => exact ⟨r + 1, by omega, by have := HKK.out; omega, by go_num, run_succ HRU.out (by rw [HKK.out]; exact HKE.out), HB4.out, HM4.out⟩
          case measure => simp [intOf]; omega
        · obtain ⟨K2, hK2⟩ : ∃ K2, kindL xs L kr = K2 := ⟨_, rfl⟩
          have HKE : Hid (kindL xs L kr = K2) := hK2
          have e2 : ((K2 : Int) == (wk : Int)) = false := by rw [beq_eq_false_iff_ne]; rw [hK2] at hkk; omega
          have HST : Hid (kindL xs L (k + r) ≠ wk) := by unfold Hid; rw [HKK.out]; exact hkk
          clear hkk hK2
          go_wp2_with (first
            | (go_at_call 67; refine (kind_any b p s a a' n c m c' xs _ kr L (by omega) (by omega) (by omega) (HR.out.below HB.out) HLn.out HKR.out (by omega)).mono ?_; rintro e u4 ⟨rfl, bl⟩; rw [HKE.out]
               have HB4 : Hid (Below w.heap.size w u4) := below_trans HB.out bl
               have HM4 : Hid (u4.heap[w.heap.size]? = some (.cells #[.int .i64 (b : Int), .int .i64 (p : Int), .int .i64 (s : Int), .slice a n c, .slice a' m c'] 27 (0, 0))) := (bl.block _ (lt_of_bk HM.out)).trans HM.out
               clear bl x0 x1 x2 x3 x4
               obtain ⟨x0, x1, x2, x3, x4⟩ := cells5 HM4.out)
            | (go_at_call 66; refine (two_any r _ (by omega)).mono ?_; rintro e u5 ⟨vv, rfl, own1, bl⟩
               obtain ⟨ad, cd, rfl, rd⟩ := own_any own1 (le2_byt (by omega))
               have HO5 : Hid (u5.ownsRow w.heap.size 5 1 (.slice (some ⟨u4.heap.size, 0, none⟩) 1 1) 1 ([(wk : Int)].map (Value.int .u8))) := row_below5 (World.ownsRow_lit (e := 5) (size := 1) u4 #[.int .u8 (wk : Int)] 1 HB4.out.size (by simp [maxLen]) rfl) bl
               have HD5 : Hid (Reads u5 ad 2 (le2 r)) := rd
               have HB5 : Hid (Below w.heap.size w u5) := below_trans (below_trans HB4.out (below_alloc _ _)) bl
               clear own1 bl rd x0 x1 x2 x3 x4)
            | (at_builtin; refine wpList_append_reads rfl (.tmp 81) (.tmp 83) rfl w.heap.size _ 1 [(wk : Int)] rfl HO5.out ad 2 cd (le2 r) rfl HD5.out (by omega) (by have := HB5.out.size; omega) ?_; intro v6 w6 own2 grow2
               have HB6 : Hid (Below w.heap.size w w6) := HB5.out.grown grow2 HB5.out.size (fun q hq => (HO5.out.lt q hq).1)
               have HO6 : Hid (w6.ownsRow w.heap.size 5 1 v6 3 (([(wk : Int)] ++ le2 r).map (Value.int .u8))) := own2
               clear own2 grow2))
          go_ret2
          have hkk := HKK.out
          exact ⟨v6, r, rfl, HO6.out, HB6.out, ⟨HRU.out, by omega, by omega, Or.inr (Or.inr HST.out)⟩⟩
      · have drM : ¬ (r : Int) < 65535 := by omega
        have HST : Hid (r = 65535) := by unfold Hid; omega
        go_wp2_with (first
          | (go_at_call 66; refine (two_any r _ (by omega)).mono ?_; rintro e u5 ⟨vv, rfl, own1, bl⟩
             obtain ⟨ad, cd, rfl, rd⟩ := own_any own1 (le2_byt (by omega))
             have HO5 : Hid (u5.ownsRow w.heap.size 5 1 (.slice (some ⟨wr.heap.size, 0, none⟩) 1 1) 1 ([(wk : Int)].map (Value.int .u8))) := row_below5 (World.ownsRow_lit (e := 5) (size := 1) wr #[.int .u8 (wk : Int)] 1 HB.out.size (by simp [maxLen]) rfl) bl
             have HD5 : Hid (Reads u5 ad 2 (le2 r)) := rd
             have HB5 : Hid (Below w.heap.size w u5) := below_trans (below_trans HB.out (below_alloc _ _)) bl
             clear own1 bl rd x0 x1 x2 x3 x4)
          | (at_builtin; refine wpList_append_reads rfl (.tmp 81) (.tmp 83) rfl w.heap.size _ 1 [(wk : Int)] rfl HO5.out ad 2 cd (le2 r) rfl HD5.out (by omega) (by have := HB5.out.size; omega) ?_; intro v6 w6 own2 grow2
             have HB6 : Hid (Below w.heap.size w w6) := HB5.out.grown grow2 HB5.out.size (fun q hq => (HO5.out.lt q hq).1)
             have HO6 : Hid (w6.ownsRow w.heap.size 5 1 v6 3 (([(wk : Int)] ++ le2 r).map (Value.int .u8))) := own2
             clear own2 grow2))
        go_ret2
        have hkk := HKK.out
        exact ⟨v6, r, rfl, HO6.out, HB6.out, ⟨HRU.out, by omega, by omega, Or.inr (Or.inl HST.out)⟩⟩
    · have dkN : ¬ (kr : Int) < (N : Int) := by omega
      have HST : Hid (k + r = N) := by have := HKK.out; unfold Hid; omega
      go_wp2_with (first
        | (go_at_call 66; refine (two_any r _ (by omega)).mono ?_; rintro e u5 ⟨vv, rfl, own1, bl⟩
           obtain ⟨ad, cd, rfl, rd⟩ := own_any own1 (le2_byt (by omega))
           have HO5 : Hid (u5.ownsRow w.heap.size 5 1 (.slice (some ⟨wr.heap.size, 0, none⟩) 1 1) 1 ([(wk : Int)].map (Value.int .u8))) := row_below5 (World.ownsRow_lit (e := 5) (size := 1) wr #[.int .u8 (wk : Int)] 1 HB.out.size (by simp [maxLen]) rfl) bl
           have HD5 : Hid (Reads u5 ad 2 (le2 r)) := rd
           have HB5 : Hid (Below w.heap.size w u5) := below_trans (below_trans HB.out (below_alloc _ _)) bl
           clear own1 bl rd x0 x1 x2 x3 x4)
        | (at_builtin; refine wpList_append_reads rfl (.tmp 81) (.tmp 83) rfl w.heap.size _ 1 [(wk : Int)] rfl HO5.out ad 2 cd (le2 r) rfl HD5.out (by omega) (by have := HB5.out.size; omega) ?_; intro v6 w6 own2 grow2
           have HB6 : Hid (Below w.heap.size w w6) := HB5.out.grown grow2 HB5.out.size (fun q hq => (HO5.out.lt q hq).1)
           have HO6 : Hid (w6.ownsRow w.heap.size 5 1 v6 3 (([(wk : Int)] ++ le2 r).map (Value.int .u8))) := own2
           clear own2 grow2))
      go_ret2
      have hkk := HKK.out
      exact ⟨v6, r, rfl, HO6.out, HB6.out, ⟨HRU.out, by omega, by omega, Or.inl HST.out⟩⟩

end Go.Proofs.YtnopljjngbgpdabDoor
