/-
  SEAT Ytadlkikjfonkgaa: the laws' small functions.
-/
import Derived.Test.YtadlkikjfonkgaaNf
namespace Go.Proofs.Ytadlkikjfonkgaa
open Go.RowKit Go.Conc
set_option linter.unusedVariables false

theorem lshape_any (w : World) : Calls Try.prog 20 #[] w fun e w' => e = .returned (.agg #[.int .i64 8, .int .i64 4, .int .i64 1]) ∧ Below w.heap.size w w' := by
  go_enter Try.func20, Try.ntmps20
  go_wp2
  refine bodyPost_ret (v := .agg #[.int .i64 8, .int .i64 4, .int .i64 1]) (by simp [results, Try.results20, go_sem]) rfl ⟨rfl, ?_⟩
  exact below_alloc _ _

theorem geometry_any (w : World) (p : Nat) (F : Nat → Prop) (C : Ch) (h : ChipAt w p F C) : Calls Try.prog 60 #[.pointer (some ⟨p, 0, none⟩)] w fun e w' => e = .returned (.agg #[.int .i64 (C.B : Int), .int .i64 (C.P : Int), .int .i64 (C.S : Int)]) ∧ Below w.heap.size w w' := by
  obtain ⟨x, bs, fe, hc⟩ := h
  have hp := hc.box.lt
  have c0 := hc.box.c0
  have c1 := hc.box.c1
  have c2 := hc.box.c2
  rw [hc.B] at c0
  rw [hc.P] at c1
  rw [hc.S] at c2
  clear hc
  go_enter Try.func60, Try.ntmps60
  go_wp2
  refine bodyPost_ret (v := .agg #[.int .i64 (C.B : Int), .int .i64 (C.P : Int), .int .i64 (C.S : Int)]) (by simp [results, Try.results60, go_sem]) rfl ⟨rfl, ?_⟩
  exact below_alloc _ _

theorem rSpare_any (w : World) (b p s : Int) (hf : Fits b p s = true) : Calls Try.prog 42 #[.agg #[.int .i64 b, .int .i64 p, .int .i64 s]] w fun e w' => e = .returned (.tuple #[.int .i64 (54 + 3 * s), .int .i64 0]) ∧ Below w.heap.size w w' := by
  have hs := of_decide_eq_true hf
  have s0 : 1 ≤ s := by omega
  have s1 : s ≤ 8 := by omega
  clear hs
  have HB0 := hide (below_alloc w (.cells #[.int .i64 b, .int .i64 p, .int .i64 s] 23))
  have HG0 := hide (alloc_new w (.cells #[.int .i64 b, .int .i64 p, .int .i64 s] 23))
  go_enter Try.func42, Try.ntmps42
  go_wp2_with (first | (go_at_call 31; refine (shape_any b p s _).mono ?_; rintro e u1 ⟨rfl, b1⟩; rw [hf]; have HB1 := hide (below_trans HB0.out b1); have hg1 := (b1.block _ (lt_of_block HG0.out)).trans HG0.out; obtain ⟨k0, k1, k2⟩ := cells3 hg1; clear b1 hg1) | (go_at_call 81; refine (rspareB_any b p s _ s0 s1).mono ?_; rintro e u2 ⟨rfl, b2⟩; have HB2 := hide (below_trans HB1.out b2); clear b2))
  refine bodyPost_ret (v := .tuple #[.int .i64 (54 + 3 * s), .int .i64 0]) (by simp [results, Try.results42, go_sem]) rfl ⟨rfl, ?_⟩
  exact HB2.out

/-- Bytes again and again. -/
def fitL (b : List Int) (n : Nat) : List Int := (List.range n).map (fun i => b.getD (i % b.length) 0)
theorem fitL_succ (b : List Int) (k : Nat) : fitL b (k + 1) = fitL b k ++ [b.getD (k % b.length) 0] := by
  unfold fitL
  rw [List.range_succ, List.map_append]
  rfl

set_option maxRecDepth 100000 in
theorem fit_any (a : Option Addr) (len cap : Nat) (b : List Int) (w : World) (h : Reads w a len b) (hl : len ≤ 9223372036854775807) (n : Nat) (hn : n ≤ 1000000) :
    Calls Try.prog 43 #[.slice a len cap, .int .i64 (n : Int)] w fun e w' => ∃ v, e = .returned v ∧ w'.ownsRow w.heap.size 5 1 v n ((fitL b n).map (Value.int .u8)) ∧ Below w.heap.size w w' := by
  obtain ⟨i0, hi, hz0, hz1, hz2⟩ := info_parts info5
  have hlen := h.1
  go_enter Try.func43, Try.ntmps43
  go_wp2
  go_loopw [5, 6] (fun v i wr => ∃ k : Nat, k ≤ n ∧ i = .int .i64 k ∧ wr.ownsRow w.heap.size 5 1 v k ((fitL b k).map (Value.int .u8)) ∧ Below w.heap.size w wr)
    (fun _ i _ => n - (intOf i).toNat)
  case atStart => exact ⟨0, Nat.zero_le _, rfl, World.ownsRow_nil _ _ _ _, Below.refl _ _⟩
  case round =>
    obtain ⟨k, hk, rfl, hown, hbel⟩ := hrel
    by_cases hlt : k < n
    · have dk : decide ((k : Int) < (n : Int)) = true := decide_eq_true (by omega)
      by_cases h0 : len = 0
      · subst h0
        have HZ : Hid (fitL b (k + 1) = fitL b k ++ [0]) := by
          unfold Hid
          rw [fitL_succ]
          have : b = [] := List.length_eq_zero_iff.1 (by omega)
          rw [this]
          rfl
        go_wp2_with (
          (at_builtin; refine wpList_append_own _ rfl _ _ 24 rfl w.heap.size 5 i0 (.int .u8 0) 1 1 Try.underlying24 hi hz0 hz1 hz2 rfl (by decide) _ _ _ rfl (hown.alloc _) ⟨wr.heap.size, 0, none⟩ 1 1 [.int .u8 0] rfl rfl (news_one _ _) (by simp [Value.oneCell']) (by simp [maxLen]; omega) (by omega) (by have := hbel.size; simp; omega) ?_; intro v1 w1 hown1 hgrow1 _))
        have hown2 : w1.ownsRow w.heap.size 5 1 v1 (k + 1) ((fitL b (k + 1)).map (Value.int .u8)) := by
          rw [HZ.out, List.map_append]
          exact hown1
        have hbel2 : Below w.heap.size w w1 := (hbel.alloc hbel.size _).grown hgrow1 (by have := hbel.size; simp; omega) (fun k hk => (hown.lt k hk).1)
        clear hown1 hgrow1 hown
        go_wp2
        go_roundw
        case rel => exact ⟨k + 1, by omega, by go_num, hown2, hbel2⟩
        case measure => simp [intOf]; omega
      · have d0 : ((len : Int) == 0) = false := by simp; omega
        obtain ⟨g, off, rfl, hb, hcell⟩ := h.pos (by omega)
        have hml : k % len < len := Nat.mod_lt _ (by omega)
        obtain ⟨r, hr⟩ : ∃ r, r = k % len := ⟨_, rfl⟩
        obtain ⟨z, hz⟩ : ∃ z, z = b.getD r 0 := ⟨_, rfl⟩
        have hcx : wr.cell? ⟨g, off + r, none⟩ = some (.int .u8 z) := by rw [hz]; exact (hbel.cell (by exact hb)).trans (hcell r (by omega))
        have hrm : Int.tmod (k : Int) (len : Int) = (r : Int) := by rw [hr]; exact Int.ofNat_tmod k len
        have r1 : (r : Int) < (len : Int) := by omega
        have HZ : Hid (fitL b (k + 1) = fitL b k ++ [z]) := by
          unfold Hid
          rw [fitL_succ, hz, hr, hlen]
        clear hz hr
        go_wp2_with (
          (at_builtin; refine wpList_append_own _ rfl _ _ 24 rfl w.heap.size 5 i0 (.int .u8 0) 1 1 Try.underlying24 hi hz0 hz1 hz2 rfl (by decide) _ _ _ rfl (hown.alloc _) ⟨wr.heap.size, 0, none⟩ 1 1 [.int .u8 z] rfl rfl (news_one _ _) (by simp [Value.oneCell']) (by simp [maxLen]; omega) (by omega) (by have := hbel.size; simp; omega) ?_; intro v1 w1 hown1 hgrow1 _))
        have hown2 : w1.ownsRow w.heap.size 5 1 v1 (k + 1) ((fitL b (k + 1)).map (Value.int .u8)) := by
          rw [HZ.out, List.map_append]
          exact hown1
        have hbel2 : Below w.heap.size w w1 := (hbel.alloc hbel.size _).grown hgrow1 (by have := hbel.size; simp; omega) (fun k hk => (hown.lt k hk).1)
        clear hown1 hgrow1 hown hcx
        go_wp2
        go_roundw
        case rel => exact ⟨k + 1, by omega, by go_num, hown2, hbel2⟩
        case measure => simp [intOf]; omega
    · have dk : decide ((k : Int) < (n : Int)) = false := decide_eq_false (by omega)
      have ek : k = n := by omega
      subst ek
      go_wp2
      go_ret
      exact ⟨_, rfl, hown, hbel⟩
end Go.Proofs.Ytadlkikjfonkgaa
