/-
  SEAT Ytoaahellfflooaa: the reference's get; Read.
-/
import Derived.Test.YtoaahellfflooaaRH
namespace Go.Proofs.Ytoaahellfflooaa
open Go.RowKit
set_option linter.unusedVariables false


set_option maxHeartbeats 400000 in
theorem rget_ok (a : Option Addr) (l cap t n : Nat) (zs : List Int) (w : World) (hl : l ≤ 140737488355000) (h1 : 1 ≤ n) (h2 : n ≤ 8) (ht : t + n ≤ l) (h : Reads w a l zs) :
    Calls Try.prog 49 #[.slice a l cap, .int .i64 t, .int .i64 n] w fun e w' => e = .returned (.int .u64 (getL zs t n)) ∧ w = w' := by
  obtain ⟨b, off, rfl, hb, hcell⟩ := h.pos (by omega)
  go_enter Try.func49, Try.ntmps49
  go_wp2
  go_loop [7, 8] (fun x i => ∃ (k : Nat) (q : Int), k ≤ n ∧ i = .int .i64 k ∧ x = .int .u64 q ∧ Hid (q = getL zs t k))
    (fun _ i => n - (intOf i).toNat)
  case atStart => exact ⟨0, 0, Nat.zero_le _, rfl, rfl, rfl⟩
  case round =>
    obtain ⟨k, q, hk, rfl, rfl, HQ⟩ := hrel
    by_cases hlt : k < n
    · obtain ⟨z, hz⟩ : ∃ z, z = zs.getD (t + k) 0 := ⟨_, rfl⟩
      have hcx : w.cell? ⟨b, off + (t + k), none⟩ = some (.int .u8 z) := by rw [hz]; exact hcell (t + k) (by omega)
      have HZ : Hid (z = zs.getD (t + k) 0) := hz
      have hz0 : 0 ≤ z ∧ z ≤ 255 := by rw [hz]; exact byteAt h.2.1 _
      have hqr : 0 ≤ q ∧ q < 256 ^ k := by rw [HQ.out]; exact getL_range h.2.1 t k
      have hst := or_step q z k (by omega) hqr.1 hqr.2 hz0.1 hz0.2
      have HS : Hid (bits .or .u64 q (IntKind.u64.wrap (z * 2 ^ (8 * k))) = getL zs t (k + 1)) := by unfold Hid; rw [hst, getL, ← hz, ← HQ.out]
      obtain ⟨hz1, hz2⟩ := hz0
      clear hz hqr hst
      go_wp2
      go_round
      case rel => exact ⟨k + 1, _, by omega, by go_num, rfl, HS⟩
      case measure => simp [intOf]; omega
    · have hkn : k = n := by omega
      subst hkn
      go_wp2
      go_ret
      exact ⟨by rw [← HQ.out]; rfl, rfl⟩

theorem nox_made (w : World) (k p : Int) (N : ByteArray) (z m st h : Int) (T : ByteArray) : Nox (w.alloc (.cells #[.int .i64 k, .int .i64 p, .string N, .int .i64 z, .int .i64 m, .int .u64 st, .int .i64 h, .string T] 50)) w.heap.size k p N z m st h T := heap_alloc_new w _
theorem Nox.below {w u : World} {B T : Nat} {n0 n1 : Int} {n2 : ByteArray} {n3 n4 n5 n6 : Int} {n7 : ByteArray} (h : Nox w T n0 n1 n2 n3 n4 n5 n6 n7) (b : Below B w u) (hT : T < B) : Nox u T n0 n1 n2 n3 n4 n5 n6 n7 := (b.block T hT).trans h
theorem res14 {W : World} {T : Nat} {tmps : Array Value} {n0 n1 : Int} {n2 : ByteArray} {n3 n4 n5 n6 : Int} {n7 : ByteArray} {q : Int} (h : Nox W T n0 n1 n2 n3 n4 n5 n6 n7)
    (h2 : tmps[2]? = some (.pointer (some ⟨T, 0, none⟩))) (h3 : tmps[3]? = some (.int .i64 q)) : (results Try.f54 tmps).run Try.prog W = .ok (.tuple #[N8 n0 n1 n2 n3 n4 n5 n6 n7, .int .i64 q]) W := by
  obtain ⟨q0, q1, q2, q3, q4, q5, q6, q7⟩ := nox_cells h
  simp [results, Try.results54, go_sem, q0, q1, q2, q3, q4, q5, q6, q7, h2, h3]
theorem res12 {W : World} {T : Nat} {tmps : Array Value} {n0 n1 : Int} {n2 : ByteArray} {n3 n4 n5 n6 : Int} {n7 : ByteArray} {q : Int} (h : Nox W T n0 n1 n2 n3 n4 n5 n6 n7)
    (h2 : tmps[2]? = some (.pointer (some ⟨T, 0, none⟩))) (h3 : tmps[3]? = some (.int .i64 q)) : (results Try.f31 tmps).run Try.prog W = .ok (.tuple #[N8 n0 n1 n2 n3 n4 n5 n6 n7, .int .i64 q]) W := by
  obtain ⟨q0, q1, q2, q3, q4, q5, q6, q7⟩ := nox_cells h
  simp [results, Try.results31, go_sem, q0, q1, q2, q3, q4, q5, q6, q7, h2, h3]

set_option maxHeartbeats 1000000 in
set_option maxRecDepth 100000 in
theorem read_f (a : Option Addr) (len cap : Nat) (k p : Int) (N : ByteArray) (z m st h : Int) (T : ByteArray) (w : World) (HL : ∀ u, Below w.heap.size w u → Calls Try.prog 69 #[.slice a len cap] u fun e w' => e = .returned (.tuple #[N8 k p N z m st h T, .bool false]) ∧ Below u.heap.size u w') :
    Calls Try.prog 54 #[.slice a len cap] w fun e w' => e = .returned (.tuple #[N8 0 0 ⟨#[]⟩ 0 0 0 0 ⟨#[]⟩, .int .i64 80]) ∧ Below w.heap.size w w' := by
  have HLL : Hid _ := HL
  clear HL
  go_enter Try.func54, Try.ntmps54
  go_wp2_with (first
    | (go_at_call 69; refine Calls.mono (HLL.out _ ((Below.refl w.heap.size w).alloc (Nat.le_refl _) _)) ?_; rintro e u1 ⟨rfl, b1⟩; have b1A := b1.alloc b1.size (.cells #[.int .i64 k, .int .i64 p, .string N, .int .i64 z, .int .i64 m, .int .u64 st, .int .i64 h, .string T] 50); have bx2 := (nox_made w 0 0 ⟨#[]⟩ 0 0 0 0 ⟨#[]⟩).below b1A (by simp); have bw2 := ((Below.refl w.heap.size w).alloc (Nat.le_refl _) (.cells #[.int .i64 0, .int .i64 0, .string ⟨#[]⟩, .int .i64 0, .int .i64 0, .int .u64 0, .int .i64 0, .string ⟨#[]⟩] 50)).trans (b1A.mono (by simp));  clear b1 b1A; obtain ⟨⟨x0, x1, x2, x3, x4, x5, x6, x7⟩, fz⟩ := n8_cells bx2; have f0 := fz 0; have f1 := fz 1; have f2 := fz 2; have f3 := fz 3; have f4 := fz 4; have f5 := fz 5; have f6 := fz 6; have f7 := fz 7; have HB2 : Hid _ := bw2; have HX2 : Hid _ := bx2; clear fz bw2 bx2))
  refine bodyPost_ret (v := .tuple #[N8 0 0 ⟨#[]⟩ 0 0 0 0 ⟨#[]⟩, .int .i64 80]) (res14 (over8 0 0 ⟨#[]⟩ 0 0 0 0 ⟨#[]⟩ HX2.out) rfl rfl) rfl ⟨rfl, ?_⟩
  exact bov8 0 0 ⟨#[]⟩ 0 0 0 0 ⟨#[]⟩ HB2.out (Nat.le_refl _)


set_option maxHeartbeats 1000000 in
set_option maxRecDepth 100000 in
theorem read_e (a : Option Addr) (len cap : Nat) (k p : Int) (N : ByteArray) (z m st h : Int) (T : ByteArray) (w : World) (hN : N.size ≤ 9223372036854775807) (hT : T.size ≤ 9223372036854775807) (E : Int) (hE : nodeE k p N z m st h T = E) (h0 : E ≠ 0) (HL : ∀ u, Below w.heap.size w u → Calls Try.prog 69 #[.slice a len cap] u fun e w' => e = .returned (.tuple #[N8 k p N z m st h T, .bool true]) ∧ Below u.heap.size u w') :
    Calls Try.prog 54 #[.slice a len cap] w fun e w' => e = .returned (.tuple #[N8 0 0 ⟨#[]⟩ 0 0 0 0 ⟨#[]⟩, .int .i64 E]) ∧ Below w.heap.size w w' := by
  have HLL : Hid _ := HL
  have h1 : (E != 0) = true := by simpa using h0
  clear HL
  go_enter Try.func54, Try.ntmps54
  go_wp2_with (first
    | (go_at_call 69; refine Calls.mono (HLL.out _ ((Below.refl w.heap.size w).alloc (Nat.le_refl _) _)) ?_; rintro e u1 ⟨rfl, b1⟩; have b1A := b1.alloc b1.size (.cells #[.int .i64 k, .int .i64 p, .string N, .int .i64 z, .int .i64 m, .int .u64 st, .int .i64 h, .string T] 50); have bx1 := (nox_made w 0 0 ⟨#[]⟩ 0 0 0 0 ⟨#[]⟩).below b1A (by simp); have bw1 := ((Below.refl w.heap.size w).alloc (Nat.le_refl _) (.cells #[.int .i64 0, .int .i64 0, .string ⟨#[]⟩, .int .i64 0, .int .i64 0, .int .u64 0, .int .i64 0, .string ⟨#[]⟩] 50)).trans (b1A.mono (by simp)); have bn1 := nox_made u1 k p N z m st h T; clear b1 b1A; obtain ⟨⟨g0, g1, g2, g3, g4, g5, g6, g7⟩, gz⟩ := n8_cells bn1; clear gz)
    | (go_at_call 65; refine (check_any _ _ _ _ _ _ _ _ _ hN hT).mono ?_; rintro e u2 ⟨rfl, b2⟩; rw [hE]; have bx2 := bx1.below b2 (lt_of_block bx1); have bw2 := bw1.trans (b2.mono bw1.size); have by2 := bn1.below b2 (lt_of_block bn1); clear b2 bx1 bw1 bn1; clear by2; obtain ⟨⟨x0, x1, x2, x3, x4, x5, x6, x7⟩, fz⟩ := n8_cells bx2; have f0 := fz 0; have f1 := fz 1; have f2 := fz 2; have f3 := fz 3; have f4 := fz 4; have f5 := fz 5; have f6 := fz 6; have f7 := fz 7; have HB2 : Hid _ := bw2; have HX2 : Hid _ := bx2; clear fz bw2 bx2))
  refine bodyPost_ret (v := .tuple #[N8 0 0 ⟨#[]⟩ 0 0 0 0 ⟨#[]⟩, .int .i64 E]) (res14 (over8 0 0 ⟨#[]⟩ 0 0 0 0 ⟨#[]⟩ HX2.out) rfl rfl) rfl ⟨rfl, ?_⟩
  exact bov8 0 0 ⟨#[]⟩ 0 0 0 0 ⟨#[]⟩ HB2.out (Nat.le_refl _)


set_option maxHeartbeats 1000000 in
set_option maxRecDepth 100000 in
theorem read_t (a : Option Addr) (len cap : Nat) (k p : Int) (N : ByteArray) (z m st h : Int) (T : ByteArray) (w : World) (hN : N.size ≤ 9223372036854775807) (hT : T.size ≤ 9223372036854775807) (hE : nodeE k p N z m st h T = 0) (HL : ∀ u, Below w.heap.size w u → Calls Try.prog 69 #[.slice a len cap] u fun e w' => e = .returned (.tuple #[N8 k p N z m st h T, .bool true]) ∧ Below u.heap.size u w') :
    Calls Try.prog 54 #[.slice a len cap] w fun e w' => e = .returned (.tuple #[N8 k p N z m st h T, .int .i64 0]) ∧ Below w.heap.size w w' := by
  have HLL : Hid _ := HL
  clear HL
  go_enter Try.func54, Try.ntmps54
  go_wp2_with (first
    | (go_at_call 69; refine Calls.mono (HLL.out _ ((Below.refl w.heap.size w).alloc (Nat.le_refl _) _)) ?_; rintro e u1 ⟨rfl, b1⟩; have b1A := b1.alloc b1.size (.cells #[.int .i64 k, .int .i64 p, .string N, .int .i64 z, .int .i64 m, .int .u64 st, .int .i64 h, .string T] 50); have bx1 := (nox_made w 0 0 ⟨#[]⟩ 0 0 0 0 ⟨#[]⟩).below b1A (by simp); have bw1 := ((Below.refl w.heap.size w).alloc (Nat.le_refl _) (.cells #[.int .i64 0, .int .i64 0, .string ⟨#[]⟩, .int .i64 0, .int .i64 0, .int .u64 0, .int .i64 0, .string ⟨#[]⟩] 50)).trans (b1A.mono (by simp)); have bn1 := nox_made u1 k p N z m st h T; clear b1 b1A; obtain ⟨⟨g0, g1, g2, g3, g4, g5, g6, g7⟩, gz⟩ := n8_cells bn1; clear gz)
    | (go_at_call 65; refine (check_any _ _ _ _ _ _ _ _ _ hN hT).mono ?_; rintro e u2 ⟨rfl, b2⟩; rw [hE]; have bx2 := bx1.below b2 (lt_of_block bx1); have bw2 := bw1.trans (b2.mono bw1.size); have by2 := bn1.below b2 (lt_of_block bn1); clear b2 bx1 bw1 bn1; clear g0 g1 g2 g3 g4 g5 g6 g7; obtain ⟨⟨g0, g1, g2, g3, g4, g5, g6, g7⟩, gz⟩ := n8_cells by2; clear gz by2; obtain ⟨⟨x0, x1, x2, x3, x4, x5, x6, x7⟩, fz⟩ := n8_cells bx2; have f0 := fz 0; have f1 := fz 1; have f2 := fz 2; have f3 := fz 3; have f4 := fz 4; have f5 := fz 5; have f6 := fz 6; have f7 := fz 7; have HB2 : Hid _ := bw2; have HX2 : Hid _ := bx2; clear fz bw2 bx2))
  refine bodyPost_ret (v := .tuple #[N8 k p N z m st h T, .int .i64 0]) (res14 (over8 k p N z m st h T HX2.out) rfl rfl) rfl ⟨rfl, ?_⟩
  exact bov8 k p N z m st h T HB2.out (Nat.le_refl _)

end Go.Proofs.Ytoaahellfflooaa
