/-
  SEAT Ytoaahellfflooaa.
-/
import Derived.Lib.AppendStr
import Derived.Laws.BitsAllLaws
import Derived.Test.YtoaahellfflooaaVNC
namespace Go.Proofs.Ytoaahellfflooaa
open Go.RowKit
set_option linter.unusedVariables false

theorem dg_getD (v : Int) (n i : Nat) (hi : i < n) : (dg v n).getD i 0 = v / 256 ^ i % 256 := by
  have h := putL_getD (List.replicate n 0) 0 v n (by simp) i
  rw [if_pos ⟨by omega, by omega⟩, Nat.sub_zero] at h
  exact h
theorem dg_succ (v : Int) (k : Nat) : dg v (k + 1) = dg v k ++ [v / 256 ^ k % 256] := by
  have hl : (dg v k).length = k := dg_length v k
  apply List.ext_getElem (by rw [dg_length, List.length_append, dg_length]; rfl)
  intro i h1 h2
  have key : (dg v (k + 1)).getD i 0 = (dg v k ++ [v / 256 ^ k % 256]).getD i 0 := by
    have hi : i < k + 1 := by rw [dg_length] at h1; exact h1
    rw [dg_getD v (k + 1) i hi]
    by_cases e : i < k
    · rw [List.getD_eq_getElem?_getD, List.getElem?_append_left (by omega), ← List.getD_eq_getElem?_getD, dg_getD v k i e]
    · have : i = k := by omega
      subst this
      rw [List.getD_eq_getElem?_getD, List.getElem?_append_right (by omega), hl]
      simp
  rw [List.getD_eq_getElem?_getD, List.getD_eq_getElem?_getD, List.getElem?_eq_getElem h1, List.getElem?_eq_getElem h2] at key
  exact key

theorem and255 (a : Int) (h0 : 0 ≤ a) (h1 : a < 18446744073709551616) : bits .and .u64 a 255 = a % 256 := by
  rw [u64_and a 255 h0 h1 (by decide) (by decide)]
  have e : (255 : Int).toNat = 2 ^ 8 - 1 := by decide
  rw [e, Nat.and_two_pow_sub_one_eq_mod]
  omega

theorem strL_cells (s : ByteArray) : (strL s).map (Value.int .u8) = Go.Lib.strCells s := by simp [strL, Go.Lib.strCells]

set_option maxHeartbeats 1000000 in
theorem rput_ok (w0 : World) (size : Nat) (v : Int) (x : Value) (len : Nat) (xs : List Int) (w : World) (h8 : size ≤ 8) (hv : 0 ≤ v) (hv2 : v < 18446744073709551616) (hlen : len ≤ 1000) (hown : w.ownsRow w0.heap.size 5 1 x len (xs.map (Value.int .u8))) (hbel : Below w0.heap.size w0 w) :
    Calls Try.prog 44 #[x, .int .u64 v, .int .i64 size] w fun e w' => ∃ x', e = .returned x' ∧ w'.ownsRow w0.heap.size 5 1 x' (len + size) ((xs ++ dg v size).map (Value.int .u8)) ∧ Below w0.heap.size w0 w' := by
  obtain ⟨i0, hi, hz0, hz1, hz2⟩ := info_parts info5
  go_enter Try.func44, Try.ntmps44
  go_wp2
  go_loopw [0, 7] (fun b i wr => ∃ k : Nat, k ≤ size ∧ i = .int .i64 k ∧ wr.ownsRow w0.heap.size 5 1 b (len + k) ((xs ++ dg v k).map (Value.int .u8)) ∧ Below w0.heap.size w0 wr)
    (fun _ i _ => size - (intOf i).toNat)
  case atStart => exact ⟨0, Nat.zero_le _, rfl, by simpa [dg, putL] using hown, hbel⟩
  case round =>
    obtain ⟨k, hk, rfl, ho, hb⟩ := hrel
    by_cases hlt : k < size
    · obtain ⟨q, hq⟩ : ∃ q, v / 2 ^ (8 * k) = q := ⟨_, rfl⟩
      have hq0 : 0 ≤ q := by rw [← hq]; exact Int.ediv_nonneg hv (Int.le_of_lt (Int.pow_pos (by decide)))
      have hq1 : q ≤ v := by rw [← hq]; exact Int.ediv_le_self _ hv
      have hand := and255 q hq0 (by omega)
      have HY : Hid (q % 256 = v / 256 ^ k % 256) := by unfold Hid; rw [pow256, hq]
      obtain ⟨y, hy⟩ : ∃ y, q % 256 = y := ⟨_, rfl⟩
      rw [hy] at hand
      rw [hy] at HY
      have hy1 : 0 ≤ y ∧ y ≤ 255 := by omega
      have hyw : y % 256 = y := by omega
      have hyw2 : IntKind.u8.wrap y = y := by rw [IntKind.wrap_u8']; exact hyw
      have hsz := hb.size
      have m1 : (k : Int) < (size : Int) := by omega
      have hd1 : decide ((k : Int) < (size : Int)) = true := decide_eq_true m1
      clear hown hbel hy
      go_wp2_with (
        (at_builtin; refine wpList_append_own _ rfl (.tmp 13) (.tmp 21) 22 rfl w0.heap.size 5 i0 (.int .u8 0) 1 1 Try.underlying22 hi hz0 hz1 hz2 rfl (by decide) _ _ _ rfl (ho.alloc _) ⟨_, 0, none⟩ 1 1 [.int .u8 y] rfl rfl (news_one _ _) (by simp [Value.oneCell']) (by simp [maxLen]; omega) (by omega) (by simp; omega) ?_; intro v2 w2 hown2 hgrow2 _))
      have hown3 : w2.ownsRow w0.heap.size 5 1 v2 (len + (k + 1)) ((xs ++ dg v (k + 1)).map (Value.int .u8)) := by
        rw [dg_succ, ← HY.out, ← List.append_assoc, List.map_append]
        exact hown2
      have hbel3 := (hb.alloc hb.size _).grown hgrow2 (by simp; omega) (fun q hq => (ho.lt q hq).1)
      clear hown2 hgrow2 ho
      go_wp2
      go_roundw
      case rel => exact ⟨k + 1, by omega, by go_num, hown3, hbel3⟩
      case measure => simp [intOf]; omega
    · have hkn : k = size := by omega
      subst hkn
      go_wp2
      go_ret
      exact ⟨_, rfl, ho, hb⟩

set_option maxHeartbeats 2000000 in
set_option maxRecDepth 100000 in
theorem rpack_bad (k p : Int) (N : ByteArray) (z m st h : Int) (T : ByteArray) (w : World) (hN : N.size ≤ 9223372036854775807) (hT : T.size ≤ 9223372036854775807) (E : Int) (hE : nodeE k p N z m st h T = E) (h0 : E ≠ 0) :
    Calls Try.prog 23 #[.agg #[.int .i64 k, .int .i64 p, .string N, .int .i64 z, .int .i64 m, .int .u64 st, .int .i64 h, .string T]] w fun e w' => e = .returned (.tuple #[.slice none 0 0, .int .i64 E]) ∧ Below w.heap.size w w' := by
  have h1 : (E != 0) = true := by simpa using h0
  go_enter Try.func23, Try.ntmps23
  go_wp2_with (go_at_call 43; refine (rcheck_any _ _ _ _ _ _ _ _ _ hN hT).mono ?_; rintro e u1 ⟨rfl, b1⟩; rw [hE])
  go_ret2
  exact ⟨rfl, below1 b1⟩

set_option maxHeartbeats 4000000 in
set_option maxRecDepth 100000 in
theorem rpack_ok (k p : Int) (N : ByteArray) (z m st h : Int) (T : ByteArray) (w : World) (hE : nodeE k p N z m st h T = 0) (p4 : 0 ≤ st) (hst : st < 18446744073709551616) :
    Calls Try.prog 23 #[.agg #[.int .i64 k, .int .i64 p, .string N, .int .i64 z, .int .i64 m, .int .u64 st, .int .i64 h, .string T]] w fun e w' => (∃ v, e = .returned (.tuple #[v, .int .i64 0]) ∧ w'.ownsRow w.heap.size 5 1 v (1 + 4 + 4 + 2 + 8 + 4 + (1 + N.size) + (1 + T.size)) ((nodeL k p N z m st h T).map (Value.int .u8))) ∧ Below w.heap.size w w' := by
  obtain ⟨⟨p0, k3⟩, ⟨p1, u1⟩, hN, ⟨p2, u2⟩, ⟨p3, u3⟩, ⟨p5, u5⟩, hT⟩ := node_zero k p N z m st h T hE
  obtain ⟨i0, hi, hz0, hz1, hz2⟩ := info_parts info5
  have p0 : 0 ≤ k := by omega
  have e0 : IntKind.u64.wrap k = k := by rw [IntKind.wrap_u64]; omega
  have e1 : IntKind.u64.wrap p = p := by rw [IntKind.wrap_u64]; omega
  have e2 : IntKind.u64.wrap z = z := by rw [IntKind.wrap_u64]; omega
  have e3 : IntKind.u64.wrap m = m := by rw [IntKind.wrap_u64]; omega
  have e5 : IntKind.u64.wrap h = h := by rw [IntKind.wrap_u64]; omega
  go_enter Try.func23, Try.ntmps23
  go_wp2_with (first
    | (go_at_call 43; refine (rcheck_any _ _ _ _ _ _ _ _ _ (by omega) (by omega)).mono ?_; rintro e w1 ⟨rfl, b0⟩; rw [hE]; have o0 : w1.ownsRow (w.alloc (.cells #[.int .i64 k, .int .i64 p, .string N, .int .i64 z, .int .i64 m, .int .u64 st, .int .i64 h, .string T] 50)).heap.size 5 1 (.slice none 0 0) 0 (([] : List Int).map (Value.int .u8)) := World.ownsRow_nil _ _ _ _; obtain ⟨y0, y1, y2, y3, y4, y5, y6, y7⟩ := box8 b0)
    | (go_at_call 44; have h9 := o0; clear h9; refine (rput_ok (w.alloc (.cells #[.int .i64 k, .int .i64 p, .string N, .int .i64 z, .int .i64 m, .int .u64 st, .int .i64 h, .string T] 50)) 1 k _ (0) ([]) _ ?_ ?_ ?_ ?_ ?_ ?_).mono ?_; omega; omega; omega; omega; exact o0; exact b0; rintro e w2 ⟨x1, rfl, o1, b1⟩; clear y0 y1 y2 y3 y4 y5 y6 y7 o0 b0; obtain ⟨y0, y1, y2, y3, y4, y5, y6, y7⟩ := box8 b1)
    | (go_at_call 44; have h9 := o1; clear h9; refine (rput_ok (w.alloc (.cells #[.int .i64 k, .int .i64 p, .string N, .int .i64 z, .int .i64 m, .int .u64 st, .int .i64 h, .string T] 50)) 4 p _ (0 + 1) ([] ++ (dg k 1)) _ ?_ ?_ ?_ ?_ ?_ ?_).mono ?_; omega; omega; omega; omega; exact o1; exact b1; rintro e w3 ⟨x2, rfl, o2, b2⟩; clear y0 y1 y2 y3 y4 y5 y6 y7 o1 b1; obtain ⟨y0, y1, y2, y3, y4, y5, y6, y7⟩ := box8 b2)
    | (go_at_call 44; have h9 := o2; clear h9; refine (rput_ok (w.alloc (.cells #[.int .i64 k, .int .i64 p, .string N, .int .i64 z, .int .i64 m, .int .u64 st, .int .i64 h, .string T] 50)) 4 z _ (0 + 1 + 4) ([] ++ (dg k 1) ++ (dg p 4)) _ ?_ ?_ ?_ ?_ ?_ ?_).mono ?_; omega; omega; omega; omega; exact o2; exact b2; rintro e w4 ⟨x3, rfl, o3, b3⟩; clear y0 y1 y2 y3 y4 y5 y6 y7 o2 b2; obtain ⟨y0, y1, y2, y3, y4, y5, y6, y7⟩ := box8 b3)
    | (go_at_call 44; have h9 := o3; clear h9; refine (rput_ok (w.alloc (.cells #[.int .i64 k, .int .i64 p, .string N, .int .i64 z, .int .i64 m, .int .u64 st, .int .i64 h, .string T] 50)) 2 m _ (0 + 1 + 4 + 4) ([] ++ (dg k 1) ++ (dg p 4) ++ (dg z 4)) _ ?_ ?_ ?_ ?_ ?_ ?_).mono ?_; omega; omega; omega; omega; exact o3; exact b3; rintro e w5 ⟨x4, rfl, o4, b4⟩; clear y0 y1 y2 y3 y4 y5 y6 y7 o3 b3; obtain ⟨y0, y1, y2, y3, y4, y5, y6, y7⟩ := box8 b4)
    | (go_at_call 44; have h9 := o4; clear h9; refine (rput_ok (w.alloc (.cells #[.int .i64 k, .int .i64 p, .string N, .int .i64 z, .int .i64 m, .int .u64 st, .int .i64 h, .string T] 50)) 8 st _ (0 + 1 + 4 + 4 + 2) ([] ++ (dg k 1) ++ (dg p 4) ++ (dg z 4) ++ (dg m 2)) _ ?_ ?_ ?_ ?_ ?_ ?_).mono ?_; omega; omega; omega; omega; exact o4; exact b4; rintro e w6 ⟨x5, rfl, o5, b5⟩; clear y0 y1 y2 y3 y4 y5 y6 y7 o4 b4; obtain ⟨y0, y1, y2, y3, y4, y5, y6, y7⟩ := box8 b5)
    | (go_at_call 44; have h9 := o5; clear h9; refine (rput_ok (w.alloc (.cells #[.int .i64 k, .int .i64 p, .string N, .int .i64 z, .int .i64 m, .int .u64 st, .int .i64 h, .string T] 50)) 4 h _ (0 + 1 + 4 + 4 + 2 + 8) ([] ++ (dg k 1) ++ (dg p 4) ++ (dg z 4) ++ (dg m 2) ++ (dg st 8)) _ ?_ ?_ ?_ ?_ ?_ ?_).mono ?_; omega; omega; omega; omega; exact o5; exact b5; rintro e w7 ⟨x6, rfl, o6, b6⟩; clear y0 y1 y2 y3 y4 y5 y6 y7 o5 b5; obtain ⟨y0, y1, y2, y3, y4, y5, y6, y7⟩ := box8 b6)
    | (go_at_call 44; have h9 := o6; clear h9; refine (rput_ok (w.alloc (.cells #[.int .i64 k, .int .i64 p, .string N, .int .i64 z, .int .i64 m, .int .u64 st, .int .i64 h, .string T] 50)) 1 (N.size : Int) _ (0 + 1 + 4 + 4 + 2 + 8 + 4) ([] ++ (dg k 1) ++ (dg p 4) ++ (dg z 4) ++ (dg m 2) ++ (dg st 8) ++ (dg h 4)) _ ?_ ?_ ?_ ?_ ?_ ?_).mono ?_; omega; omega; omega; omega; exact o6; exact b6; rintro e w8 ⟨x7, rfl, o7, b7⟩; clear y0 y1 y2 y3 y4 y5 y6 y7 o6 b6; obtain ⟨y0, y1, y2, y3, y4, y5, y6, y7⟩ := box8 b7)
    | (at_builtin; have h9 := o7; clear h9; refine Go.Lib.wpList_append_own_string _ rfl (.tmp 46) (.tmp 48) 22 9 rfl (w.alloc (.cells #[.int .i64 k, .int .i64 p, .string N, .int .i64 z, .int .i64 m, .int .u64 st, .int .i64 h, .string T] 50)).heap.size 5 i0 Try.underlying22 Try.underlying9 hi hz0 hz1 hz2 _ (0 + 1 + 4 + 4 + 2 + 8 + 4 + 1) _ rfl o7 N rfl (by simp [maxLen]; omega) (by omega) b7.size ?_; intro x8 w9 o8 g8 _; rw [← strL_cells, ← List.map_append] at o8; have b8 := b7.grown g8 b7.size (fun q hq => (o7.lt q hq).1); clear y0 y1 y2 y3 y4 y5 y6 y7 o7 b7 g8; obtain ⟨y0, y1, y2, y3, y4, y5, y6, y7⟩ := box8 b8)
    | (go_at_call 44; have h9 := o8; clear h9; refine (rput_ok (w.alloc (.cells #[.int .i64 k, .int .i64 p, .string N, .int .i64 z, .int .i64 m, .int .u64 st, .int .i64 h, .string T] 50)) 1 (T.size : Int) _ (0 + 1 + 4 + 4 + 2 + 8 + 4 + 1 + N.size) ([] ++ (dg k 1) ++ (dg p 4) ++ (dg z 4) ++ (dg m 2) ++ (dg st 8) ++ (dg h 4) ++ (dg N.size 1) ++ (strL N)) _ ?_ ?_ ?_ ?_ ?_ ?_).mono ?_; omega; omega; omega; omega; exact o8; exact b8; rintro e w10 ⟨x9, rfl, o9, b9⟩; clear y0 y1 y2 y3 y4 y5 y6 y7 o8 b8; obtain ⟨y0, y1, y2, y3, y4, y5, y6, y7⟩ := box8 b9)
    | (at_builtin; have h9 := o9; clear h9; refine Go.Lib.wpList_append_own_string _ rfl (.tmp 56) (.tmp 58) 22 9 rfl (w.alloc (.cells #[.int .i64 k, .int .i64 p, .string N, .int .i64 z, .int .i64 m, .int .u64 st, .int .i64 h, .string T] 50)).heap.size 5 i0 Try.underlying22 Try.underlying9 hi hz0 hz1 hz2 _ (0 + 1 + 4 + 4 + 2 + 8 + 4 + 1 + N.size + 1) _ rfl o9 T rfl (by simp [maxLen]; omega) (by omega) b9.size ?_; intro x10 w11 o10 g10 _; rw [← strL_cells, ← List.map_append] at o10; have b10 := b9.grown g10 b9.size (fun q hq => (o9.lt q hq).1); clear y0 y1 y2 y3 y4 y5 y6 y7 o9 b9 g10; obtain ⟨y0, y1, y2, y3, y4, y5, y6, y7⟩ := box8 b10))
  go_ret2
  have e9 : nodeL k p N z m st h T = [] ++ (dg k 1) ++ (dg p 4) ++ (dg z 4) ++ (dg m 2) ++ (dg st 8) ++ (dg h 4) ++ (dg N.size 1) ++ (strL N) ++ (dg T.size 1) ++ (strL T) := by simp [nodeL, List.append_assoc]
  rw [e9]
  have e10 : 1 + 4 + 4 + 2 + 8 + 4 + (1 + N.size) + (1 + T.size) = 0 + 1 + 4 + 4 + 2 + 8 + 4 + 1 + N.size + 1 + T.size := by omega
  rw [e10]
  exact ⟨⟨_, rfl, own_base o10 (by simp)⟩, below1 b10⟩
end Go.Proofs.Ytoaahellfflooaa
