/-
  SEAT Ytadlkikjfonkgaa: sameImage.
-/
import Derived.Test.YtadlkikjfonkgaaIa
import Derived.Test.YtadlkikjfonkgaaLu
namespace Go.Proofs.Ytadlkikjfonkgaa
open Go.RowKit Go.Conc
set_option linter.unusedVariables false

set_option maxHeartbeats 4000000 in
set_option maxRecDepth 100000 in
theorem sameImage_eq (w : World) (B P S : Int) (ca cb ma mb : Option Addr) (cn cc cd mn mc md : Nat) (zs : List Int) (ms : List Bool) (h1 : Reads w ca cn zs) (h2 : Reads w cb cn zs) (k1 : ReadsB w ma mn ms) (k2 : ReadsB w mb mn ms) (hmn : mn ≤ 9223372036854775806) :
    Calls Try.prog 16 #[.agg #[.int .i64 B, .int .i64 P, .int .i64 S, .slice ca cn cc, .slice ma mn mc], .agg #[.int .i64 B, .int .i64 P, .int .i64 S, .slice cb cn cd, .slice mb mn md]] w fun e w' => e = .returned (.bool true) ∧ Below w.heap.size w w' := by
  have hb := below_trans (below_alloc w (.cells #[.int .i64 B, .int .i64 P, .int .i64 S, .slice ca cn cc, .slice ma mn mc] 27)) (below_alloc _ (.cells #[.int .i64 B, .int .i64 P, .int .i64 S, .slice cb cn cd, .slice mb mn md] 27))
  have v1 := conv ca cn cc zs _ (h1.below hb)
  have v2 := conv cb cn cd zs _ (h2.below hb)
  have HK1 := hide (k1.below hb)
  have HK2 := hide (k2.below hb)
  have HXA : Hid (((w.alloc (.cells #[.int .i64 B, .int .i64 P, .int .i64 S, .slice ca cn cc, .slice ma mn mc] 27)).alloc (.cells #[.int .i64 B, .int .i64 P, .int .i64 S, .slice cb cn cd, .slice mb mn md] 27)).heap[w.heap.size]? = some (.cells #[.int .i64 B, .int .i64 P, .int .i64 S, .slice ca cn cc, .slice ma mn mc] 27 (0, 0))) := (alloc_old _ _ (by simp)).trans (alloc_new w _)
  have HXB : Hid (((w.alloc (.cells #[.int .i64 B, .int .i64 P, .int .i64 S, .slice ca cn cc, .slice ma mn mc] 27)).alloc (.cells #[.int .i64 B, .int .i64 P, .int .i64 S, .slice cb cn cd, .slice mb mn md] 27)).heap[w.heap.size + 1]? = some (.cells #[.int .i64 B, .int .i64 P, .int .i64 S, .slice cb cn cd, .slice mb mn md] 27 (0, 0))) := by have h9 := alloc_new (w.alloc (.cells #[.int .i64 B, .int .i64 P, .int .i64 S, .slice ca cn cc, .slice ma mn mc] 27)) (.cells #[.int .i64 B, .int .i64 P, .int .i64 S, .slice cb cn cd, .slice mb mn md] 27); rw [alloc_size] at h9; exact h9
  have HB := hide hb
  clear hb h1 h2 k1 k2
  go_enter Try.func16, Try.ntmps16
  go_wp2
  generalize hu : (w.alloc (.cells #[.int .i64 B, .int .i64 P, .int .i64 S, .slice ca cn cc, .slice ma mn mc] 27)).alloc (.cells #[.int .i64 B, .int .i64 P, .int .i64 S, .slice cb cn cd, .slice mb mn md] 27) = u0 at HK1 HK2 HXA HXB HB ⊢
  clear hu v1 v2
  go_loopw [5] (fun i wr => ∃ m : Nat, m ≤ mn ∧ i = .int .i64 m ∧ Hid (Below u0.heap.size u0 wr)) (fun i _ => mn - (intOf i).toNat)
  case atStart => exact ⟨0, Nat.zero_le _, rfl, Below.refl _ _⟩
  case round =>
    obtain ⟨m, hm, rfl, HBr⟩ := hrel
    obtain ⟨x0, x1, x2, x3, x4⟩ := cells5 ((HBr.out.block _ (lt_of_block HXA.out)).trans HXA.out)
    obtain ⟨y0, y1, y2, y3, y4⟩ := cells5 ((HBr.out.block _ (lt_of_block HXB.out)).trans HXB.out)
    clear x0 x1 x2 x3 y0 y1 y2 y3
    by_cases hlt : m < mn
    · have dm : decide ((m : Int) < (mn : Int)) = true := decide_eq_true (by omega)
      have m1 : (m : Int) < (mn : Int) := by omega
      obtain ⟨g1, o1, rfl, _, c1⟩ := HK1.out.pos (by omega)
      obtain ⟨g2, o2, rfl, _, c2⟩ := HK2.out.pos (by omega)
      obtain ⟨mv, hmv⟩ : ∃ v, ms.getD m false = v := ⟨_, rfl⟩
      have q1 := c1 m hlt
      have q2 := c2 m hlt
      rw [hmv] at q1 q2
      have q1 := (HBr.out.cell (block_lt_of_cell q1)).trans q1
      have q2 := (HBr.out.cell (block_lt_of_cell q2)).trans q2
      clear c1 c2 hmv
      go_wp2
      refine wp_region_held_drew (S := (fun u => u.cell? ⟨w.heap.size, 4, none⟩ = some (.slice (some ⟨g1, o1, none⟩) mn mc) ∧ u.cell? ⟨w.heap.size + 1, 4, none⟩ = some (.slice (some ⟨g2, o2, none⟩) mn md) ∧ u.cell? ⟨g1, o1 + m, none⟩ = some (.bool mv) ∧ u.cell? ⟨g2, o2 + m, none⟩ = some (.bool mv))) (by kernel_rfl) (⟨x4, y4, q1, q2⟩) (fun hHeld => ?_)
      refine wpAnyH_take (i := 0) (oi := { dst := some 36, op := Op.fieldAddr 27 (Operand.tmp 2) 2, type := 0, pos := "law.go:129", after := #[], guard := none }) (v := ?v0) rfl (by kernel_rfl) (by kernel_rfl) (by kernel_rfl) (fun _ _ _ h => h) (Or.inl ⟨by rfl, ?y0⟩) (by assumption) ?r0
      case y0 => (intro x hx; (try dsimp only at hx); go_simp; try with_reducible rfl)
      try simp only [Act.put, List.setIfInBounds_toArray, List.set_cons_zero, List.set_cons_succ]
      refine wpAnyH_take (i := 1) (oi := { dst := some 37, op := Op.load 25 (Operand.tmp 36), type := 25, pos := "law.go:129", after := #[{ on := 0, ground := Ground.data }], guard := none }) (v := ?v1) rfl (by kernel_rfl) (by kernel_rfl) (by kernel_rfl) (fun _ _ _ h => h) (Or.inl ⟨by rfl, ?y1⟩) (by assumption) ?r1
      case y1 => (intro x hx; (try dsimp only at hx); go_simp; try with_reducible rfl)
      try simp only [Act.put, List.setIfInBounds_toArray, List.set_cons_zero, List.set_cons_succ]
      refine wpAnyH_take (i := 2) (oi := { dst := some 38, op := Op.move (Operand.tmp 5), type := 3, pos := "law.go:129", after := #[], guard := none }) (v := ?v2) rfl (by kernel_rfl) (by kernel_rfl) (by kernel_rfl) (fun _ _ _ h => h) (Or.inl ⟨by rfl, ?y2⟩) (by assumption) ?r2
      case y2 => (intro x hx; (try dsimp only at hx); go_simp; try with_reducible rfl)
      try simp only [Act.put, List.setIfInBounds_toArray, List.set_cons_zero, List.set_cons_succ]
      refine wpAnyH_take (i := 3) (oi := { dst := some 39, op := Op.indexAddr 25 (Operand.tmp 37) (Operand.tmp 38), type := 0, pos := "law.go:129", after := #[{ on := 1, ground := Ground.data }, { on := 2, ground := Ground.data }], guard := none }) (v := ?v3) rfl (by kernel_rfl) (by kernel_rfl) (by kernel_rfl) (fun _ _ _ h => h) (Or.inl ⟨by rfl, ?y3⟩) (by assumption) ?r3
      case y3 => (intro x hx; (try dsimp only at hx); go_simp; try with_reducible rfl)
      try simp only [Act.put, List.setIfInBounds_toArray, List.set_cons_zero, List.set_cons_succ]
      refine wpAnyH_take (i := 4) (oi := { dst := some 40, op := Op.load 4 (Operand.tmp 39), type := 4, pos := "law.go:129", after := #[{ on := 3, ground := Ground.data }], guard := none }) (v := ?v4) rfl (by kernel_rfl) (by kernel_rfl) (by kernel_rfl) (fun _ _ _ h => h) (Or.inl ⟨by rfl, ?y4⟩) (by assumption) ?r4
      case y4 => (intro x hx; (try dsimp only at hx); go_simp; try with_reducible rfl)
      try simp only [Act.put, List.setIfInBounds_toArray, List.set_cons_zero, List.set_cons_succ]
      refine wpAnyH_take (i := 5) (oi := { dst := some 41, op := Op.fieldAddr 27 (Operand.tmp 3) 2, type := 0, pos := "law.go:129", after := #[], guard := none }) (v := ?v5) rfl (by kernel_rfl) (by kernel_rfl) (by kernel_rfl) (fun _ _ _ h => h) (Or.inl ⟨by rfl, ?y5⟩) (by assumption) ?r5
      case y5 => (intro x hx; (try dsimp only at hx); go_simp; try with_reducible rfl)
      try simp only [Act.put, List.setIfInBounds_toArray, List.set_cons_zero, List.set_cons_succ]
      refine wpAnyH_take (i := 6) (oi := { dst := some 42, op := Op.load 25 (Operand.tmp 41), type := 25, pos := "law.go:129", after := #[{ on := 5, ground := Ground.data }], guard := none }) (v := ?v6) rfl (by kernel_rfl) (by kernel_rfl) (by kernel_rfl) (fun _ _ _ h => h) (Or.inl ⟨by rfl, ?y6⟩) (by assumption) ?r6
      case y6 => (intro x hx; (try dsimp only at hx); go_simp; try with_reducible rfl)
      try simp only [Act.put, List.setIfInBounds_toArray, List.set_cons_zero, List.set_cons_succ]
      refine wpAnyH_take (i := 7) (oi := { dst := some 43, op := Op.move (Operand.tmp 5), type := 3, pos := "law.go:129", after := #[], guard := none }) (v := ?v7) rfl (by kernel_rfl) (by kernel_rfl) (by kernel_rfl) (fun _ _ _ h => h) (Or.inl ⟨by rfl, ?y7⟩) (by assumption) ?r7
      case y7 => (intro x hx; (try dsimp only at hx); go_simp; try with_reducible rfl)
      try simp only [Act.put, List.setIfInBounds_toArray, List.set_cons_zero, List.set_cons_succ]
      refine wpAnyH_take (i := 8) (oi := { dst := some 44, op := Op.indexAddr 25 (Operand.tmp 42) (Operand.tmp 43), type := 0, pos := "law.go:129", after := #[{ on := 6, ground := Ground.data }, { on := 7, ground := Ground.data }], guard := none }) (v := ?v8) rfl (by kernel_rfl) (by kernel_rfl) (by kernel_rfl) (fun _ _ _ h => h) (Or.inl ⟨by rfl, ?y8⟩) (by assumption) ?r8
      case y8 => (intro x hx; (try dsimp only at hx); go_simp; try with_reducible rfl)
      try simp only [Act.put, List.setIfInBounds_toArray, List.set_cons_zero, List.set_cons_succ]
      refine wpAnyH_take (i := 9) (oi := { dst := some 45, op := Op.load 4 (Operand.tmp 44), type := 4, pos := "law.go:129", after := #[{ on := 8, ground := Ground.data }], guard := none }) (v := ?v9) rfl (by kernel_rfl) (by kernel_rfl) (by kernel_rfl) (fun _ _ _ h => h) (Or.inl ⟨by rfl, ?y9⟩) (by assumption) ?r9
      case y9 => (intro x hx; (try dsimp only at hx); go_simp; try with_reducible rfl)
      try simp only [Act.put, List.setIfInBounds_toArray, List.set_cons_zero, List.set_cons_succ]
      refine wpAnyH_take (i := 10) (oi := { dst := some 46, op := Op.binOp BinOp.neq 4 (Operand.tmp 40) (Operand.tmp 45) 4, type := 4, pos := "law.go:129", after := #[{ on := 4, ground := Ground.data }, { on := 9, ground := Ground.data }], guard := none }) (v := ?v10) rfl (by kernel_rfl) (by kernel_rfl) (by kernel_rfl) (fun _ _ _ h => h) (Or.inl ⟨by rfl, ?y10⟩) (by assumption) ?r10
      case y10 => (intro x hx; (try dsimp only at hx); go_simp; try with_reducible rfl)
      try simp only [Act.put, List.setIfInBounds_toArray, List.set_cons_zero, List.set_cons_succ]
      refine wpAnyH_done (by kernel_rfl) ?_ _
      clear hHeld
      go_wp2
      go_roundw
      case rel => exact ⟨m + 1, by omega, by go_num, below_trans HBr.out (drew_below _)⟩
      case measure => simp [intOf]; omega
    · have dm : decide ((m : Int) < (mn : Int)) = false := decide_eq_false (by omega)
      go_wp2
      go_ret
      exact ⟨rfl, below_trans HB.out HBr.out⟩
end Go.Proofs.Ytadlkikjfonkgaa
