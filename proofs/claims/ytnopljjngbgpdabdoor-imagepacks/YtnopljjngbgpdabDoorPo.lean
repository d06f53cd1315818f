/-
  SEAT YtnopljjngbgpdabDoor: the reference's Pack: the head.
-/
import Derived.Test.YtnopljjngbgpdabDoorPn
namespace Go.Proofs.YtnopljjngbgpdabDoor
open Go.RowKit
set_option linter.unusedVariables false

theorem row_below5 {W X : World} {B n : Nat} {v : Value} {xs : List Value} (h : W.ownsRow B 5 1 v n xs) (hb : Below W.heap.size W X) : X.ownsRow B 5 1 v n xs := ⟨h.1, h.2.imp id (fun ⟨g, cap, cur, r1, r2, r3, r4⟩ => ⟨g, cap, cur, r1, r2, (hb.block _ (lt_of_bk r3)).trans r3, r4⟩)⟩
/-- A row that grows beside a box of another type. -/
structure HdS (w W : World) (M : Array Value) (v : Value) (X : List Int) : Prop where
  row : W.ownsRow w.heap.size 5 1 v X.length (X.map (Value.int .u8))
  box : W.heap[w.heap.size]? = some (.cells M 27 (0, 0))
  bel : Below w.heap.size w W
theorem HdS.below {w W Y : World} {M : Array Value} {v : Value} {X : List Int} (h : HdS w W M v X) (hb : Below W.heap.size W Y) : HdS w Y M v X :=
  ⟨row_below5 h.row hb, (hb.block _ (lt_of_bk h.box)).trans h.box, below_trans h.bel hb⟩
theorem HdS.app {w W w1 : World} {M : Array Value} {v v1 : Value} {X Z : List Int} (h : HdS w W M v X) (k : Nat) (hk : Z.length = k) (own : w1.ownsRow w.heap.size 5 1 v1 (X.length + k) ((X ++ Z).map (Value.int .u8))) (hg : W.grownBy w1 v.ownBlock) : HdS w w1 M v1 (X ++ Z) := by
  refine ⟨by rw [List.length_append, hk]; exact own, ?_, h.bel.grown hg h.bel.size (fun q hq => (h.row.lt q hq).1)⟩
  refine (hg.block _ (lt_of_bk h.box) (fun e => ?_)).trans h.box
  rcases h.row.2 with ⟨rfl, _⟩ | ⟨g, cap, cur, rfl, _, hg', _⟩
  · cases e
  · injection e with e
    have h9 := h.box
    rw [show w.heap.size = g from e, hg'] at h9
    cases h9
theorem bits_half (ms : List Bool) (i t : Nat) (ht : t < 8) : bitsTo ms i 8 / 2 ^ t = 2 * (bitsTo ms i 8 / 2 ^ (t + 1)) + if ms.getD (8 * i + t) false then 1 else 0 := by
  rw [← bitsTo_bit ms i 8 t ht, Nat.pow_succ, ← Nat.div_div_eq_div_mul]
  omega
theorem bits_top (ms : List Bool) (i : Nat) : bitsTo ms i 8 / 2 ^ 8 = 0 := Nat.div_eq_of_lt (bitsTo_lt ms i 8)
def bitsI (ms : List Bool) (i : Nat) : List Int := (List.range i).map fun i => ((bitsTo ms i 8 : Nat) : Int)
theorem bitsI_succ (ms : List Bool) (i : Nat) : bitsI ms (i + 1) = bitsI ms i ++ [((bitsTo ms i 8 : Nat) : Int)] := by
  unfold bitsI
  rw [List.range_succ, List.map_append, List.map_singleton]
theorem one_row (u : World) (x : Nat) (h : x < 256) : Reads (u.alloc (.cells #[.int .u8 (x : Int)] 5)) (some ⟨u.heap.size, 0, none⟩) 1 [(x : Int)] := by
  exact reads_new u [(x : Int)] (fun y hy => by rw [List.mem_singleton.1 hy]; omega)
theorem le2_byt {n : Nat} (h : n < 65536) : ∀ x ∈ le2 n, 0 ≤ x ∧ x ≤ 255 := by
  intro x hx
  simp only [le2, List.mem_cons, List.mem_nil_iff, or_false] at hx
  rcases hx with rfl | rfl <;> omega

set_option maxHeartbeats 2000000 in
set_option maxRecDepth 100000 in
theorem rhead_any (b p s : Nat) (a a' : Option Addr) (n c m c' : Nat) (ms : List Bool) (w : World) (hf : Fits (b : Int) (p : Int) (s : Int) = true) (hm : m = b) (hms : ReadsB w a' m ms) :
    Calls Tryd.prog 41 #[.agg #[.int .i64 (b : Int), .int .i64 (p : Int), .int .i64 (s : Int), .slice a n c, .slice a' m c']] w fun e w' => ∃ v, e = .returned v ∧ w'.ownsRow w.heap.size 5 1 v (headL b p s ms).length ((headL b p s ms).map (Value.int .u8)) ∧ Below w.heap.size w w' := by
  obtain ⟨q1, q2, q3, q4, q5, q6, q7⟩ := fits_nat hf
  obtain ⟨mb, mo, rfl, hmk, hmc⟩ := hms.pos (by omega)
  have HMC : Hid (∀ i, i < m → w.cell? ⟨mb, mo + i, none⟩ = some (.bool (ms.getD i false))) := hmc
  have HML : Hid (mb < w.heap.size) := hmk
  have Hm : Hid (m = b) := hm
  have HLM : Hid (ms.length = m) := hms.1
  obtain ⟨N8, hN8⟩ : ∃ N8, (b + 7) / 8 = N8 := ⟨_, rfl⟩
  have HN8 : Hid ((b + 7) / 8 = N8) := hN8
  have wb : IntKind.i64.wrap ((b : Int) + 7) = (b : Int) + 7 := by rw [IntKind.wrap_i64]; omega
  have tb : Int.tdiv ((b : Int) + 7) 8 = (N8 : Int) := by rw [Int.tdiv_eq_ediv_of_nonneg (by omega)]; omega
  have wn : IntKind.i64.wrap (N8 : Int) = (N8 : Int) := by rw [IntKind.wrap_i64]; omega
  have wsb : IntKind.u8.wrap (s : Int) = (s : Int) := by rw [IntKind.wrap_u8]; omega
  have hN8b : N8 ≤ 513 := by omega
  have HM0 : Hid ((w.alloc (.cells #[.int .i64 (b : Int), .int .i64 (p : Int), .int .i64 (s : Int), .slice a n c, .slice (some ⟨mb, mo, none⟩) m c'] 27)).heap[w.heap.size]? = some (.cells #[.int .i64 (b : Int), .int .i64 (p : Int), .int .i64 (s : Int), .slice a n c, .slice (some ⟨mb, mo, none⟩) m c'] 27 (0, 0))) := heap_alloc_new w _
  have HB0 : Hid (Below w.heap.size w (w.alloc (.cells #[.int .i64 (b : Int), .int .i64 (p : Int), .int .i64 (s : Int), .slice a n c, .slice (some ⟨mb, mo, none⟩) m c'] 27))) := below_alloc w _
  obtain ⟨x0, x1, x2, x3, x4⟩ := cells5 HM0.out
  clear hm hmc hmk hms hf q7 hN8
  go_enter Tryd.func41, Tryd.ntmps41
  go_upto_region 2 with fail
  obtain ⟨W0, hW0⟩ : ∃ W0, (w.alloc (.cells #[.int .i64 (b : Int), .int .i64 (p : Int), .int .i64 (s : Int), .slice a n c, .slice (some ⟨mb, mo, none⟩) m c'] 27)).alloc (.cells #[.int .u8 83, .int .u8 72, .int .u8 65, .int .u8 76, .int .u8 1] 5) = W0 := ⟨_, rfl⟩
  have HH0 : Hid (HdS w W0 #[.int .i64 (b : Int), .int .i64 (p : Int), .int .i64 (s : Int), .slice a n c, .slice (some ⟨mb, mo, none⟩) m c'] (.slice (some ⟨w.heap.size + 1, 0, none⟩) 5 5) ([83, 72, 65, 76, 1])) := by
    unfold Hid
    rw [← hW0]
    refine ⟨?_, (Below.heap_alloc _ _ _ (by simp)).trans HM0.out, below_trans HB0.out (below_alloc _ _)⟩
    have h9 := World.ownsRow_lit (e := 5) (size := 1) (base := w.heap.size) (w.alloc (.cells #[.int .i64 (b : Int), .int .i64 (p : Int), .int .i64 (s : Int), .slice a n c, .slice (some ⟨mb, mo, none⟩) m c'] 27)) #[.int .u8 83, .int .u8 72, .int .u8 65, .int .u8 76, .int .u8 1] 5 (by simp) (by simp [maxLen]) rfl
    rw [World.size_alloc] at h9
    exact h9
  rw [hW0]
  clear hW0 x0 x1 x2 x3 x4
  obtain ⟨x0, x1, x2, x3, x4⟩ := cells5 HH0.out.box
  have T1 : Hid True := trivial
  have T2 : Hid True := trivial
  have T3 : Hid True := trivial
  go_upto_region 5 with (first
    | (go_at_call 66; have zz := T1; clear T1 zz; refine (two_any b _ (by omega)).mono ?_; rintro e u1 ⟨vv, rfl, own1, bl⟩
       obtain ⟨ad, cad, rfl, rd1⟩ := own_any own1 (le2_byt (by omega))
       have HH1 : Hid (HdS w u1 #[.int .i64 (b : Int), .int .i64 (p : Int), .int .i64 (s : Int), .slice a n c, .slice (some ⟨mb, mo, none⟩) m c'] (.slice (some ⟨w.heap.size + 1, 0, none⟩) 5 5) ([83, 72, 65, 76, 1])) := HH0.out.below bl
       have HD1 : Hid (Reads u1 ad 2 (le2 b)) := rd1
       have TA1 : Hid True := trivial
       clear own1 bl rd1
       clear x0 x1 x2 x3 x4
       obtain ⟨x0, x1, x2, x3, x4⟩ := cells5 HH1.out.box)
    | (at_builtin; have zz := TA1; clear TA1 zz; refine wpList_append_reads rfl (.tmp 8) (.tmp 12) rfl w.heap.size (.slice (some ⟨w.heap.size + 1, 0, none⟩) 5 5) ([83, 72, 65, 76, 1]).length ([83, 72, 65, 76, 1]) rfl HH1.out.row ad 2 cad (le2 b) rfl HD1.out (by simp) (by have := HH1.out.bel.size; omega) ?_; intro v2 w2 own2 grow2
       have HH2 : Hid (HdS w w2 #[.int .i64 (b : Int), .int .i64 (p : Int), .int .i64 (s : Int), .slice a n c, .slice (some ⟨mb, mo, none⟩) m c'] v2 ([83, 72, 65, 76, 1] ++ le2 b)) := HH1.out.app 2 rfl own2 grow2
       clear own2 grow2
       clear x0 x1 x2 x3 x4
       obtain ⟨x0, x1, x2, x3, x4⟩ := cells5 HH2.out.box)
    | (go_at_call 66; have zz := T2; clear T2 zz; refine (two_any p _ (by omega)).mono ?_; rintro e u3 ⟨vv, rfl, own1, bl⟩
       obtain ⟨ae, cae, rfl, rd1⟩ := own_any own1 (le2_byt (by omega))
       have HH3 : Hid (HdS w u3 #[.int .i64 (b : Int), .int .i64 (p : Int), .int .i64 (s : Int), .slice a n c, .slice (some ⟨mb, mo, none⟩) m c'] v2 ([83, 72, 65, 76, 1] ++ le2 b)) := HH2.out.below bl
       have HD3 : Hid (Reads u3 ae 2 (le2 p)) := rd1
       have TA3 : Hid True := trivial
       clear own1 bl rd1
       clear x0 x1 x2 x3 x4
       obtain ⟨x0, x1, x2, x3, x4⟩ := cells5 HH3.out.box)
    | (at_builtin; have zz := TA3; clear TA3 zz; refine wpList_append_reads rfl (.tmp 14) (.tmp 18) rfl w.heap.size v2 ([83, 72, 65, 76, 1] ++ le2 b).length ([83, 72, 65, 76, 1] ++ le2 b) rfl HH3.out.row ae 2 cae (le2 p) rfl HD3.out (by simp [le2]) (by have := HH3.out.bel.size; omega) ?_; intro v4 w4 own2 grow2
       have HH4 : Hid (HdS w w4 #[.int .i64 (b : Int), .int .i64 (p : Int), .int .i64 (s : Int), .slice a n c, .slice (some ⟨mb, mo, none⟩) m c'] v4 ([83, 72, 65, 76, 1] ++ le2 b ++ le2 p)) := HH3.out.app 2 rfl own2 grow2
       clear own2 grow2
       clear x0 x1 x2 x3 x4
       obtain ⟨x0, x1, x2, x3, x4⟩ := cells5 HH4.out.box)
    | (at_builtin; have zz := T3; clear T3 zz; refine wpList_append_reads rfl (.tmp 20) (.tmp 25) rfl w.heap.size v4 ([83, 72, 65, 76, 1] ++ le2 b ++ le2 p).length ([83, 72, 65, 76, 1] ++ le2 b ++ le2 p) rfl (HH4.out.below (below_alloc _ _)).row _ 1 1 [(s : Int)] rfl (one_row w4 s (by omega)) (by simp [le2]) (by have := HH4.out.bel.size; simp; omega) ?_; intro v5 w5 own2 grow2
       have HH5 : Hid (HdS w w5 #[.int .i64 (b : Int), .int .i64 (p : Int), .int .i64 (s : Int), .slice a n c, .slice (some ⟨mb, mo, none⟩) m c'] v5 ([83, 72, 65, 76, 1] ++ le2 b ++ le2 p ++ [(s : Int)])) := (HH4.out.below (below_alloc _ _)).app 1 rfl own2 grow2
       clear own2 grow2
       clear x0 x1 x2 x3 x4
       obtain ⟨x0, x1, x2, x3, x4⟩ := cells5 HH5.out.box))
  obtain ⟨X5, hX5⟩ : ∃ X5, [83, 72, 65, 76, 1] ++ le2 b ++ le2 p ++ [(s : Int)] = X5 := ⟨_, rfl⟩
  have HX5 : Hid ([83, 72, 65, 76, 1] ++ le2 b ++ le2 p ++ [(s : Int)] = X5) := hX5
  have HH6 : Hid (HdS w w5 #[.int .i64 (b : Int), .int .i64 (p : Int), .int .i64 (s : Int), .slice a n c, .slice (some ⟨mb, mo, none⟩) m c'] v5 (X5)) := by
    unfold Hid
    rw [← hX5]
    exact HH5.out
  have hX5l : X5.length = 10 := by rw [← hX5]; simp [le2]
  clear hX5 HH5 x0 x1 x2 x3 x4
  go_wp2_with fail
  go_loopw [3, 4] (fun s3 s4 wr => ∃ i : Nat, i ≤ N8 ∧ s4 = .int .i64 (i : Int) ∧ Hid (HdS w wr #[.int .i64 (b : Int), .int .i64 (p : Int), .int .i64 (s : Int), .slice a n c, .slice (some ⟨mb, mo, none⟩) m c'] s3 (X5 ++ bitsI ms i))) (fun _ i _ => N8 - (intOf i).toNat)
  case atStart => exact ⟨0, Nat.zero_le _, rfl, by rw [show X5 ++ bitsI ms 0 = X5 by simp [bitsI]]; exact HH6.out⟩
  case round =>
    obtain ⟨i, hi, rfl, HI⟩ := hrel
    obtain ⟨W1, hW1⟩ : ∃ W1, W1 = wr := ⟨_, rfl⟩
    subst hW1
    obtain ⟨V3, hV3⟩ : ∃ V3, V3 = u3 := ⟨_, rfl⟩
    subst hV3
    obtain ⟨x0, x1, x2, x3, x4⟩ := cells5 HI.out.box
    by_cases hlt : i < N8
    · have d1 : (i : Int) < (N8 : Int) := by omega
      have w8 : IntKind.i64.wrap (8 * (i : Int)) = 8 * (i : Int) := by rw [IntKind.wrap_i64]; omega
      have wi : IntKind.i64.wrap ((i : Int) + 1) = (i : Int) + 1 := by rw [IntKind.wrap_i64]; omega
      go_wp2_with fail
      go_loopw [5, 6] (fun s5 s6 wq => ∃ (t : Nat) (z : Int) (y : Nat), t ≤ 8 ∧ z = (t : Int) - 1 ∧ y < 256 ∧ s6 = .int .i64 z ∧ s5 = .int .i64 (y : Int) ∧ Hid (y = bitsTo ms i 8 / 2 ^ t) ∧ wq = W1) (fun _ j _ => (intOf j + 1).toNat)
      case atStart => exact ⟨8, 7, 0, by omega, by omega, by omega, rfl, rfl, (bits_top ms i).symm, rfl⟩
      case round =>
        obtain ⟨t, z, y, ht, hz, hy, rfl, rfl, HY, rfl⟩ := hrel
        obtain ⟨W2, hW2⟩ : ∃ W2, W2 = wr := ⟨_, rfl⟩
        subst hW2
        rcases Nat.eq_zero_or_pos t with ht0 | ht0
        · subst ht0
          obtain rfl : z = -1 := by omega
          clear hz
          have HYB : Hid (y = bitsTo ms i 8) := by
            have h9 := HY.out
            rw [Nat.pow_zero, Nat.div_one] at h9
            exact h9
          have wy : IntKind.u8.wrap (y : Int) = (y : Int) := by rw [IntKind.wrap_u8]; omega
          have hlX : (X5 ++ bitsI ms i).length = 10 + i := by rw [List.length_append, hX5l]; simp [bitsI]
          obtain ⟨X6, hX6⟩ : ∃ X6, X5 ++ bitsI ms i = X6 := ⟨_, rfl⟩
          have HX6 : Hid (X5 ++ bitsI ms i = X6) := hX6
          have HI2 : Hid (HdS w W2 #[.int .i64 (b : Int), .int .i64 (p : Int), .int .i64 (s : Int), .slice a n c, .slice (some ⟨mb, mo, none⟩) m c'] V3 (X6)) := by
            unfold Hid
            rw [← hX6]
            exact HI.out
          rw [hX6] at hlX
          clear hX6 HY
          go_wp2_with (first
            | (at_builtin; refine wpList_append_reads rfl (.tmp 62) (.tmp 65) rfl w.heap.size V3 X6.length X6 rfl (HI2.out.below (below_alloc _ _)).row _ 1 1 [(y : Int)] rfl (one_row W2 y (by omega)) (by omega) (by have := HI2.out.bel.size; simp; omega) ?_; intro v7 w7 own2 grow2
               have HI3 : Hid (HdS w w7 #[.int .i64 (b : Int), .int .i64 (p : Int), .int .i64 (s : Int), .slice a n c, .slice (some ⟨mb, mo, none⟩) m c'] v7 (X6 ++ [(y : Int)])) := (HI2.out.below (below_alloc _ _)).app 1 rfl own2 grow2
               clear own2 grow2 x0 x1 x2 x3 x4))
          go_roundw
          case rel =>
            refine ⟨i + 1, by omega, by go_num, ?_⟩
            have h9 := HI3.out
            rw [HYB.out, ← HX6.out, List.append_assoc, ← bitsI_succ] at h9
            exact h9
          case measure => simp [intOf]; omega
        · obtain ⟨t, rfl⟩ : ∃ t', t = t' + 1 := ⟨t - 1, by omega⟩
          obtain rfl : z = (t : Int) := by omega
          clear hz
          have g0 : (0 : Int) ≤ (t : Int) := by omega
          have HYN : Hid (bitsTo ms i 8 / 2 ^ t = 2 * y + if ms.getD (8 * i + t) false then 1 else 0) := by
            unfold Hid
            rw [bits_half ms i t (by omega), HY.out]
          have hYB : bitsTo ms i 8 / 2 ^ t < 256 := Nat.lt_of_le_of_lt (Nat.div_le_self _ _) (bitsTo_lt ms i 8)
          have h2y : 2 * y < 256 := by have := HYN.out; omega
          have w2y : IntKind.i64.wrap (2 * (y : Int)) = 2 * (y : Int) := by rw [IntKind.wrap_i64]; omega
          obtain ⟨k, hk⟩ : ∃ k, 8 * i + t = k := ⟨_, rfl⟩
          have HK : Hid (8 * i + t = k) := hk
          have wk : IntKind.i64.wrap (8 * (i : Int) + (t : Int)) = (k : Int) := by rw [IntKind.wrap_i64]; omega
          have wt : IntKind.i64.wrap ((t : Int) - 1) = (t : Int) - 1 := by rw [IntKind.wrap_i64]; omega
          rw [hk] at HYN
          clear HY hYB hk
          by_cases hkb : k < b
          · have dk : (k : Int) < (b : Int) := by omega
            have dm : (k : Int) < (m : Int) := by have := Hm.out; omega
            have hmk := (HI.out.bel.cell (p := ⟨mb, mo + k, none⟩) HML.out).trans (HMC.out k (by have := Hm.out; omega))
            cases hb : ms.getD k false with
            | true =>
              rw [hb] at hmk
              have HY2 : Hid (2 * y + 1 = bitsTo ms i 8 / 2 ^ t) := by
                have h9 := HYN.out
                rw [hb] at h9
                exact h9.symm
              have hy3 : 2 * y + 1 < 256 := by omega
              have w2z : IntKind.i64.wrap (2 * (y : Int) + 1) = 2 * (y : Int) + 1 := by rw [IntKind.wrap_i64]; omega
              clear HYN hb
              go_wp2_with fail
              go_roundw
              case rel => exact ⟨t, (t : Int) - 1, 2 * y + 1, by omega, rfl, hy3, by go_num, by go_num, HY2, by trivial⟩
              case measure => simp [intOf]
            | false =>
              rw [hb] at hmk
              have HY2 : Hid (2 * y = bitsTo ms i 8 / 2 ^ t) := by
                have h9 := HYN.out
                rw [hb] at h9
                exact h9.symm
              clear HYN hb
              go_wp2_with fail
              go_roundw
              case rel => exact ⟨t, (t : Int) - 1, 2 * y, by omega, rfl, h2y, by go_num, by go_num, HY2, by trivial⟩
              case measure => simp [intOf]
          · have dk : ¬ (k : Int) < (b : Int) := by omega
            have HY2 : Hid (2 * y = bitsTo ms i 8 / 2 ^ t) := by
              have h9 := HYN.out
              rw [List.getD_eq_getElem?_getD, List.getElem?_eq_none (by have := Hm.out; have := HLM.out; omega)] at h9
              exact h9.symm
            clear HYN
            go_wp2_with fail
            go_roundw
            case rel => exact ⟨t, (t : Int) - 1, 2 * y, by omega, rfl, h2y, by go_num, by go_num, HY2, by trivial⟩
            case measure => simp [intOf]
    · have d1 : ¬ (i : Int) < (N8 : Int) := by omega
      have hiN : i = N8 := by omega
      have HIN : Hid (i = N8) := hiN
      clear hiN
      go_wp2_with fail
      go_ret
      refine ⟨V3, rfl, ?_, HI.out.bel⟩
      have h9 := HI.out.row
      have e9 : X5 ++ bitsI ms i = headL b p s ms := by
        rw [HIN.out, ← HX5.out, ← HN8.out]
        unfold headL bitsI bitsOf
        rw [HLM.out, Hm.out]
        simp [le2]
      rw [e9] at h9
      exact h9

end Go.Proofs.YtnopljjngbgpdabDoor
