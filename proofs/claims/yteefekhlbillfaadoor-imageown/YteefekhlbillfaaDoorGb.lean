/-
  SEAT YteefekhlbillfaaDoor: a page of the reference; a window; a row joined of one.
-/
import Derived.Test.YteefekhlbillfaaDoorF
namespace Go.Proofs.YteefekhlbillfaaDoor
open Go.RowKit
set_option linter.unusedVariables false

set_option maxHeartbeats 1000000 in
set_option maxRecDepth 100000 in
theorem window_any (b p s : Int) (bk off : Nat) (a' : Option Addr) (n c m c' : Nat) (w : World) (k Ln K0 K1 : Nat) (hc : c ≤ 9223372036854775807) (hnc : n ≤ c) (hf : Fits b p s = true)
    (hLn : (Ln : Int) = 256 * s + (54 + 3 * s)) (hK0 : k * Ln = K0) (hK1' : (k + 1) * Ln = K1) (hK1 : K1 ≤ n) (hn : n ≤ 140737488355000) (hk : k ≤ 65536) :
    Calls Tryd.prog 44 #[.agg #[.int .i64 b, .int .i64 p, .int .i64 s, .slice (some ⟨bk, off, none⟩) n c, .slice a' m c'], .int .i64 k] w fun e w' => e = .returned (.slice (some ⟨bk, off + K0, none⟩) Ln (c - K0)) ∧ Below w.heap.size w w' := by
  have hb0 : Below w.heap.size w (w.alloc (.cells #[.int .i64 b, .int .i64 p, .int .i64 s, .slice (some ⟨bk, off, none⟩) n c, .slice a' m c'] 30)) := below_alloc w _
  have hKK : K0 ≤ K1 := by rw [← hK0, ← hK1', Nat.add_mul]; omega
  have hD : K1 - K0 = Ln := by rw [← hK0, ← hK1', Nat.add_mul]; omega
  obtain ⟨L, hL⟩ : ∃ L, 256 * s + (54 + 3 * s) = L := ⟨_, rfl⟩
  have w0 : IntKind.i64.wrap ((k : Int) * L) = (K0 : Int) := by
    rw [show (k : Int) * L = (K0 : Int) by rw [← hL, ← hLn, ← hK0]; simp, IntKind.wrap_i64]; omega
  have w1 : IntKind.i64.wrap (((k : Int) + 1) * L) = (K1 : Int) := by
    rw [show ((k : Int) + 1) * L = (K1 : Int) by rw [← hL, ← hLn, ← hK1']; simp, IntKind.wrap_i64]; omega
  have HL : Hid (256 * s + (54 + 3 * s) = L) := hL
  have i1 : K1 ≤ c := by omega
  have i2 : K0 ≤ c := by omega
  have hLp : 0 < Ln := by omega
  have i3 : K0 < c := by omega
  have i4 : ¬ c ≤ K0 := by omega
  have i5 : ¬ c - K0 = 0 := by omega
  have i6 : ¬ c = K0 := by omega
  rw [← hD]
  clear hL hK0 hK1' hLn hD
  go_enter Tryd.func44, Tryd.ntmps44
  go_wp2_with (go_at_call 37; refine (pageBytes_any b p s _ hf).mono ?_; rintro e u1 ⟨rfl, b1⟩; rw [HL.out]; have g1 := grown_of b1 none; obtain ⟨c0, c1, c2, c3, c4⟩ := box5 g1)
  go_ret
  exact ⟨rfl, below_trans hb0 b1⟩

set_option maxHeartbeats 1000000 in
set_option maxRecDepth 100000 in
theorem join_one (q : Nat) (a : Option Addr) (n c : Nat) (zs : List Int) (w : World) (hn : n ≤ 140737488351232) (hp : 0 < n) (hr : Reads w a n zs) (hq : w.cell? ⟨q, 0, none⟩ = some (.slice a n c)) :
    Calls Tryd.prog 45 #[.slice (some ⟨q, 0, none⟩) 1 1] w fun e w' => ∃ g cc, e = .returned (.slice (some ⟨g, 0, none⟩) n cc) ∧ Own w' w.heap.size g n cc zs ∧ Below w.heap.size w w' := by
  obtain ⟨i0, hi, hz0, hz1, hz2⟩ := info_parts info5
  have hlen := hr.1
  have hmk : ∀ u : World, (Instr.makeSlice 22 (.int .i64 0) (.int .i64 (n : Int))).run Tryd.prog u =
      .ok (.slice (some ⟨u.heap.size, 0, none⟩) 0 n) (u.alloc (.cells (madeCells #[.int .u8 0] n) 5)) := fun u => by
    have h := run_make (P := Tryd.prog) u 22 5 i0 (.int .u8 0) Tryd.underlying22 hi hz0 .i64 .i64 0 (n : Int) (by omega) (by omega) (by rw [hz2]; omega) (by omega)
    simpa [hz1, Value.cells] using h
  have hqb : q < w.heap.size := block_lt_of_cell hq
  have hm0 := made_own w n (by omega)
  have rA := hr.below (below_alloc w (.cells (madeCells #[.int .u8 0] n) 5))
  have hq2 : (w.alloc (.cells (madeCells #[.int .u8 0] n) 5)).cell? ⟨q, 0, none⟩ = some (.slice a n c) := by
    rw [(below_alloc w _).cell hqb]; exact hq
  go_enter Tryd.func45, Tryd.ntmps45
  go_wp2
  refine wp_loop_rounds 2 ?_
  rw [rounds_succ]
  go_wp2
  rw [rounds_succ]
  go_wp2
  refine wp_loop_rounds 2 ?_
  rw [rounds_succ]
  go_wp2_with (at_builtin; refine wpList_append_reads rfl (.tmp 28) (.tmp 29) rfl w.heap.size _ _ [] rfl hm0 _ _ _ zs rfl rA (by omega) (by simp) ?_; intro v1 w1 hown1 hgrow1; simp only [Nat.zero_add, List.nil_append] at hown1)
  have bel1 : Below w.heap.size w w1 := (below_alloc w _).grown hgrow1 (by simp) (fun k hk => (World.ownsRow.lt hm0 k hk).1)
  obtain ⟨g, cc, rfl, _⟩ := own_shape hown1 hp
  have HO : Hid _ := hown1
  clear hown1 hgrow1 hm0 rA
  go_wp2
  rw [rounds_succ]
  go_wp2
  go_ret
  exact ⟨g, cc, rfl, HO.out, bel1⟩

end Go.Proofs.YteefekhlbillfaaDoor
