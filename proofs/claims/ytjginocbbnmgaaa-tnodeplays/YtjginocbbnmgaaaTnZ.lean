/-
  SEAT Ytjginocbbnmgaaa: same.
-/
import Derived.Test.YtjginocbbnmgaaaTnY
namespace Go.Proofs.Ytjginocbbnmgaaa
open Go.RowKit Go.Shelf
set_option linter.unusedVariables false

theorem flatP_get (xs : List (Int × Int)) : ∀ (i : Nat) (p : Int × Int), xs[i]? = some p → (flatP xs)[i * 2]? = some (.int .i64 p.1) ∧ (flatP xs)[i * 2 + 1]? = some (.int .i64 p.2) := by
  induction xs with
  | nil => intro i p h; simp at h
  | cons x xs ih =>
    intro i p h
    cases i with
    | zero =>
      simp at h
      subst h
      exact ⟨rfl, rfl⟩
    | succ i =>
      have h' : xs[i]? = some p := by simpa using h
      obtain ⟨h1, h2⟩ := ih i p h'
      have e : flatP (x :: xs) = .int .i64 x.1 :: .int .i64 x.2 :: flatP xs := rfl
      rw [e, show (i + 1) * 2 = i * 2 + 1 + 1 by omega, show i * 2 + 1 + 1 + 1 = (i * 2 + 1) + 1 + 1 by omega]
      simp only [List.getElem?_cons_succ]
      exact ⟨h1, h2⟩
/-- A slice of pairs. -/
def Rd (W : World) (v : Value) (xs : List (Int × Int)) : Prop := W.ownsRow 0 35 2 v xs.length (flatP xs)
theorem Rd.of {W : World} {base : Nat} {v : Value} {xs : List (Int × Int)} (h : W.ownsRow base 35 2 v xs.length (flatP xs)) : Rd W v xs := by
  obtain ⟨h1, h2⟩ := h
  refine ⟨h1, h2.imp id (fun ⟨g, cap, cur, a, b, c⟩ => ⟨g, cap, cur, a, by omega, c⟩)⟩
/-- What a slice of pairs shows. -/
theorem Rd.reads {W : World} {v : Value} {xs : List (Int × Int)} (h : Rd W v xs) : (v = .slice none 0 0 ∧ xs = []) ∨ ∃ g cap, v = .slice (some ⟨g, 0, none⟩) xs.length cap ∧ xs.length ≤ maxLen ∧ ∀ i p, xs[i]? = some p → W.cell? ⟨g, i * 2, none⟩ = some (.int .i64 p.1) ∧ W.cell? ⟨g, i * 2 + 1, none⟩ = some (.int .i64 p.2) := by
  obtain ⟨h1, ⟨rfl, h2⟩ | ⟨g, cap, cur, rfl, h3, h4, h5, h6, h7, h8⟩⟩ := h
  · left
    exact ⟨rfl, List.length_eq_zero_iff.1 h2⟩
  · right
    refine ⟨g, cap, rfl, by omega, fun i p hp => ?_⟩
    obtain ⟨q1, q2⟩ := flatP_get xs i p hp
    have hlt : i < xs.length := (List.getElem?_eq_some_iff.1 hp).1
    have key : ∀ j, j < xs.length * 2 → cur[j]? = (flatP xs)[j]? := fun j hj => by
      rw [← h8, List.getElem?_take, if_pos hj, Array.getElem?_toList]
    exact ⟨by rw [cell_of_row _ _ _ _ 35 (0, 0) h4, key _ (by omega)]; exact q1, by rw [cell_of_row _ _ _ _ 35 (0, 0) h4, key _ (by omega)]; exact q2⟩
theorem Rd.below {A B : World} {v : Value} {xs : List (Int × Int)} (h : Rd A v xs) (hb : Below A.heap.size A B) : Rd B v xs := by
  obtain ⟨h1, h2⟩ := h
  refine ⟨h1, h2.imp id (fun ⟨g, cap, cur, a, b, c, d⟩ => ⟨g, cap, cur, a, b, (hb.block g (lt_of_block c)).trans c, d⟩)⟩
theorem Rd.grown {A B : World} {v : Value} {xs : List (Int × Int)} {gt : Nat} (h : Rd A v xs) (hb : A.grownBy B (some gt)) {p q r : Value} (hg : A.heap[gt]? = some (.cells #[p, q, r] 72 (0, 0))) : Rd B v xs := by
  obtain ⟨h1, h2⟩ := h
  refine ⟨h1, h2.imp id (fun ⟨g, cap, cur, a, b, c, d⟩ => ⟨g, cap, cur, a, b, (hb.block g (lt_of_block c) (fun e => ?_)).trans c, d⟩)⟩
  injection e with e
  rw [e, hg] at c
  cases c
set_option maxHeartbeats 4000000 in
set_option maxRecDepth 100000 in
theorem same_nil (W : World) (p p' : Option Addr) (ca cb : Nat) : Calls Try.prog 18 #[.slice p 0 ca, .slice p' 0 cb] W fun e w' => e = .returned (.bool true) ∧ ∃ q, w' = W.drewN q := by
  go_enter Try.func18, Try.ntmps18
  go_wp2_with fail
  go_loopw [5] (fun s5 wr => s5 = .int .i64 0 ∧ wr = W) (fun _ _ => 0)
  case atStart => exact ⟨rfl, rfl⟩
  case round =>
    obtain ⟨rfl, rfl⟩ := hrel
    go_wp2_with fail
    go_ret
    exact ⟨rfl, 0, rfl⟩
set_option maxHeartbeats 4000000 in
set_option maxRecDepth 100000 in
theorem same_some (W : World) (ga ca gb cb : Nat) (xs : List (Int × Int)) (hl : xs.length ≤ 9223372036854775807) (ha : ∀ i p, xs[i]? = some p → W.cell? ⟨ga, i * 2, none⟩ = some (.int .i64 p.1) ∧ W.cell? ⟨ga, i * 2 + 1, none⟩ = some (.int .i64 p.2)) (hb : ∀ i p, xs[i]? = some p → W.cell? ⟨gb, i * 2, none⟩ = some (.int .i64 p.1) ∧ W.cell? ⟨gb, i * 2 + 1, none⟩ = some (.int .i64 p.2)) :
    Calls Try.prog 18 #[.slice (some ⟨ga, 0, none⟩) xs.length ca, .slice (some ⟨gb, 0, none⟩) xs.length cb] W fun e w' => e = .returned (.bool true) ∧ ∃ q, w' = W.drewN q := by
  obtain ⟨n, hn⟩ : ∃ n, xs.length = n := ⟨_, rfl⟩
  rw [hn] at hl ⊢
  have HN : Hid _ := hn
  have HA : Hid _ := And.intro ha hb
  clear hn ha hb
  go_enter Try.func18, Try.ntmps18
  go_wp2_with fail
  go_loopw [5] (fun s5 wr => ∃ i : Nat, i ≤ n ∧ s5 = .int .i64 (i : Int) ∧ ∃ q, wr = W.drewN q) (fun i _ => n - (intOf i).toNat)
  case atStart => exact ⟨0, by omega, rfl, 0, rfl⟩
  case round =>
    obtain ⟨i, hi, rfl, q, rfl⟩ := hrel
    by_cases hc : i < n
    · have dc : (i : Int) < (n : Int) := by omega
      obtain ⟨⟨pk, pv⟩, hp⟩ : ∃ p, xs[i]? = some p := ⟨xs[i]'(by rw [HN.out]; exact hc), List.getElem?_eq_getElem _⟩
      obtain ⟨x0, x1⟩ := HA.out.1 i (pk, pv) hp
      obtain ⟨y0, y1⟩ := HA.out.2 i (pk, pv) hp
      have wi : IntKind.i64.wrap ((i : Int) + 1) = (i : Int) + 1 := by rw [IntKind.wrap_i64]; omega
      dsimp only at x0 x1 y0 y1
      clear hp
      go_upto_region 6 with fail
      refine wp_region_held_drew (S := (fun x => x.cell? ⟨ga, i * 2, none⟩ = some (.int .i64 pk) ∧ x.cell? ⟨ga, i * 2 + 1, none⟩ = some (.int .i64 pv) ∧ x.cell? ⟨gb, i * 2, none⟩ = some (.int .i64 pk) ∧ x.cell? ⟨gb, i * 2 + 1, none⟩ = some (.int .i64 pv))) (by kernel_rfl) (⟨x0, x1, y0, y1⟩) (fun hHeld => ?_)
      refine wpAnyH_take (i := 0) (oi := { dst := some 17, op := Op.move (Operand.tmp 0), type := 28, pos := "law.go:41", after := #[], guard := none }) (v := ?v0p) rfl (by kernel_rfl) (by kernel_rfl) (by kernel_rfl) (fun _ _ _ h => h) (Or.inl ⟨by rfl, ?y0p⟩) (by assumption) ?r0p
      case y0p => (intro x hx; obtain ⟨hx0, hx1, hx2, hx3⟩ := hx; go_simp; try with_reducible rfl)
      try simp only [Act.put, List.setIfInBounds_toArray, List.set_cons_zero, List.set_cons_succ]
      refine wpAnyH_take (i := 1) (oi := { dst := some 18, op := Op.move (Operand.tmp 5), type := 3, pos := "law.go:41", after := #[], guard := none }) (v := ?v1p) rfl (by kernel_rfl) (by kernel_rfl) (by kernel_rfl) (fun _ _ _ h => h) (Or.inl ⟨by rfl, ?y1p⟩) (by assumption) ?r1p
      case y1p => (intro x hx; obtain ⟨hx0, hx1, hx2, hx3⟩ := hx; go_simp; try with_reducible rfl)
      try simp only [Act.put, List.setIfInBounds_toArray, List.set_cons_zero, List.set_cons_succ]
      refine wpAnyH_take (i := 2) (oi := { dst := some 19, op := Op.indexAddr 28 (Operand.tmp 17) (Operand.tmp 18), type := 0, pos := "law.go:41", after := #[{ on := 0, ground := Ground.data }, { on := 1, ground := Ground.data }], guard := none }) (v := ?v2p) rfl (by kernel_rfl) (by kernel_rfl) (by kernel_rfl) (fun _ _ _ h => h) (Or.inl ⟨by rfl, ?y2p⟩) (by assumption) ?r2p
      case y2p => (intro x hx; obtain ⟨hx0, hx1, hx2, hx3⟩ := hx; go_simp; try with_reducible rfl)
      try simp only [Act.put, List.setIfInBounds_toArray, List.set_cons_zero, List.set_cons_succ]
      refine wpAnyH_take (i := 3) (oi := { dst := some 20, op := Op.fieldAddr 35 (Operand.tmp 19) 0, type := 0, pos := "law.go:41", after := #[{ on := 2, ground := Ground.data }], guard := none }) (v := ?v3p) rfl (by kernel_rfl) (by kernel_rfl) (by kernel_rfl) (fun _ _ _ h => h) (Or.inl ⟨by rfl, ?y3p⟩) (by assumption) ?r3p
      case y3p => (intro x hx; obtain ⟨hx0, hx1, hx2, hx3⟩ := hx; go_simp; try with_reducible rfl)
      try simp only [Act.put, List.setIfInBounds_toArray, List.set_cons_zero, List.set_cons_succ]
      refine wpAnyH_take (i := 4) (oi := { dst := some 21, op := Op.load 3 (Operand.tmp 20), type := 3, pos := "law.go:41", after := #[{ on := 3, ground := Ground.data }], guard := none }) (v := ?v4p) rfl (by kernel_rfl) (by kernel_rfl) (by kernel_rfl) (fun _ _ _ h => h) (Or.inl ⟨by rfl, ?y4p⟩) (by assumption) ?r4p
      case y4p => (intro x hx; obtain ⟨hx0, hx1, hx2, hx3⟩ := hx; go_simp; try with_reducible rfl)
      try simp only [Act.put, List.setIfInBounds_toArray, List.set_cons_zero, List.set_cons_succ]
      refine wpAnyH_take (i := 5) (oi := { dst := some 22, op := Op.move (Operand.tmp 1), type := 28, pos := "law.go:41", after := #[], guard := none }) (v := ?v5p) rfl (by kernel_rfl) (by kernel_rfl) (by kernel_rfl) (fun _ _ _ h => h) (Or.inl ⟨by rfl, ?y5p⟩) (by assumption) ?r5p
      case y5p => (intro x hx; obtain ⟨hx0, hx1, hx2, hx3⟩ := hx; go_simp; try with_reducible rfl)
      try simp only [Act.put, List.setIfInBounds_toArray, List.set_cons_zero, List.set_cons_succ]
      refine wpAnyH_take (i := 6) (oi := { dst := some 23, op := Op.move (Operand.tmp 5), type := 3, pos := "law.go:41", after := #[], guard := none }) (v := ?v6p) rfl (by kernel_rfl) (by kernel_rfl) (by kernel_rfl) (fun _ _ _ h => h) (Or.inl ⟨by rfl, ?y6p⟩) (by assumption) ?r6p
      case y6p => (intro x hx; obtain ⟨hx0, hx1, hx2, hx3⟩ := hx; go_simp; try with_reducible rfl)
      try simp only [Act.put, List.setIfInBounds_toArray, List.set_cons_zero, List.set_cons_succ]
      refine wpAnyH_take (i := 7) (oi := { dst := some 24, op := Op.indexAddr 28 (Operand.tmp 22) (Operand.tmp 23), type := 0, pos := "law.go:41", after := #[{ on := 5, ground := Ground.data }, { on := 6, ground := Ground.data }], guard := none }) (v := ?v7p) rfl (by kernel_rfl) (by kernel_rfl) (by kernel_rfl) (fun _ _ _ h => h) (Or.inl ⟨by rfl, ?y7p⟩) (by assumption) ?r7p
      case y7p => (intro x hx; obtain ⟨hx0, hx1, hx2, hx3⟩ := hx; go_simp; try with_reducible rfl)
      try simp only [Act.put, List.setIfInBounds_toArray, List.set_cons_zero, List.set_cons_succ]
      refine wpAnyH_take (i := 8) (oi := { dst := some 25, op := Op.fieldAddr 35 (Operand.tmp 24) 0, type := 0, pos := "law.go:41", after := #[{ on := 7, ground := Ground.data }], guard := none }) (v := ?v8p) rfl (by kernel_rfl) (by kernel_rfl) (by kernel_rfl) (fun _ _ _ h => h) (Or.inl ⟨by rfl, ?y8p⟩) (by assumption) ?r8p
      case y8p => (intro x hx; obtain ⟨hx0, hx1, hx2, hx3⟩ := hx; go_simp; try with_reducible rfl)
      try simp only [Act.put, List.setIfInBounds_toArray, List.set_cons_zero, List.set_cons_succ]
      refine wpAnyH_take (i := 9) (oi := { dst := some 26, op := Op.load 3 (Operand.tmp 25), type := 3, pos := "law.go:41", after := #[{ on := 8, ground := Ground.data }], guard := none }) (v := ?v9p) rfl (by kernel_rfl) (by kernel_rfl) (by kernel_rfl) (fun _ _ _ h => h) (Or.inl ⟨by rfl, ?y9p⟩) (by assumption) ?r9p
      case y9p => (intro x hx; obtain ⟨hx0, hx1, hx2, hx3⟩ := hx; go_simp; try with_reducible rfl)
      try simp only [Act.put, List.setIfInBounds_toArray, List.set_cons_zero, List.set_cons_succ]
      refine wpAnyH_take (i := 10) (oi := { dst := some 27, op := Op.binOp BinOp.neq 3 (Operand.tmp 21) (Operand.tmp 26) 3, type := 4, pos := "law.go:41", after := #[{ on := 4, ground := Ground.data }, { on := 9, ground := Ground.data }], guard := none }) (v := ?v10p) rfl (by kernel_rfl) (by kernel_rfl) (by kernel_rfl) (fun _ _ _ h => h) (Or.inl ⟨by rfl, ?y10p⟩) (by assumption) ?r10p
      case y10p => (intro x hx; obtain ⟨hx0, hx1, hx2, hx3⟩ := hx; go_simp; try with_reducible rfl)
      try simp only [Act.put, List.setIfInBounds_toArray, List.set_cons_zero, List.set_cons_succ]
      refine wpAnyH_take (i := 11) (oi := { dst := some 28, op := Op.move (Operand.tmp 27), type := 4, pos := "law.go:41", after := #[{ on := 10, ground := Ground.data }], guard := none }) (v := ?v11p) rfl (by kernel_rfl) (by kernel_rfl) (by kernel_rfl) (fun _ _ _ h => h) (Or.inl ⟨by rfl, ?y11p⟩) (by assumption) ?r11p
      case y11p => (intro x hx; obtain ⟨hx0, hx1, hx2, hx3⟩ := hx; go_simp; try with_reducible rfl)
      try simp only [Act.put, List.setIfInBounds_toArray, List.set_cons_zero, List.set_cons_succ]
      refine wpAnyH_take (i := 12) (oi := { dst := some 29, op := Op.move (Operand.tmp 0), type := 28, pos := "law.go:41", after := #[{ on := 11, ground := Ground.guard }], guard := some (11, false) }) (v := ?v12p) rfl (by kernel_rfl) (by kernel_rfl) (by kernel_rfl) (fun _ _ _ h => h) (Or.inl ⟨by rfl, ?y12p⟩) (by assumption) ?r12p
      case y12p => (intro x hx; obtain ⟨hx0, hx1, hx2, hx3⟩ := hx; go_simp; try with_reducible rfl)
      try simp only [Act.put, List.setIfInBounds_toArray, List.set_cons_zero, List.set_cons_succ]
      refine wpAnyH_take (i := 13) (oi := { dst := some 30, op := Op.move (Operand.tmp 5), type := 3, pos := "law.go:41", after := #[{ on := 11, ground := Ground.guard }], guard := some (11, false) }) (v := ?v13p) rfl (by kernel_rfl) (by kernel_rfl) (by kernel_rfl) (fun _ _ _ h => h) (Or.inl ⟨by rfl, ?y13p⟩) (by assumption) ?r13p
      case y13p => (intro x hx; obtain ⟨hx0, hx1, hx2, hx3⟩ := hx; go_simp; try with_reducible rfl)
      try simp only [Act.put, List.setIfInBounds_toArray, List.set_cons_zero, List.set_cons_succ]
      refine wpAnyH_take (i := 14) (oi := { dst := some 31, op := Op.indexAddr 28 (Operand.tmp 29) (Operand.tmp 30), type := 0, pos := "law.go:41", after := #[{ on := 12, ground := Ground.data }, { on := 13, ground := Ground.data }, { on := 11, ground := Ground.guard }], guard := some (11, false) }) (v := ?v14p) rfl (by kernel_rfl) (by kernel_rfl) (by kernel_rfl) (fun _ _ _ h => h) (Or.inl ⟨by rfl, ?y14p⟩) (by assumption) ?r14p
      case y14p => (intro x hx; obtain ⟨hx0, hx1, hx2, hx3⟩ := hx; go_simp; try with_reducible rfl)
      try simp only [Act.put, List.setIfInBounds_toArray, List.set_cons_zero, List.set_cons_succ]
      refine wpAnyH_take (i := 15) (oi := { dst := some 32, op := Op.fieldAddr 35 (Operand.tmp 31) 1, type := 0, pos := "law.go:41", after := #[{ on := 14, ground := Ground.data }, { on := 11, ground := Ground.guard }], guard := some (11, false) }) (v := ?v15p) rfl (by kernel_rfl) (by kernel_rfl) (by kernel_rfl) (fun _ _ _ h => h) (Or.inl ⟨by rfl, ?y15p⟩) (by assumption) ?r15p
      case y15p => (intro x hx; obtain ⟨hx0, hx1, hx2, hx3⟩ := hx; go_simp; try with_reducible rfl)
      try simp only [Act.put, List.setIfInBounds_toArray, List.set_cons_zero, List.set_cons_succ]
      refine wpAnyH_take (i := 16) (oi := { dst := some 33, op := Op.load 3 (Operand.tmp 32), type := 3, pos := "law.go:41", after := #[{ on := 15, ground := Ground.data }, { on := 11, ground := Ground.guard }], guard := some (11, false) }) (v := ?v16p) rfl (by kernel_rfl) (by kernel_rfl) (by kernel_rfl) (fun _ _ _ h => h) (Or.inl ⟨by rfl, ?y16p⟩) (by assumption) ?r16p
      case y16p => (intro x hx; obtain ⟨hx0, hx1, hx2, hx3⟩ := hx; go_simp; try with_reducible rfl)
      try simp only [Act.put, List.setIfInBounds_toArray, List.set_cons_zero, List.set_cons_succ]
      refine wpAnyH_take (i := 17) (oi := { dst := some 34, op := Op.move (Operand.tmp 1), type := 28, pos := "law.go:41", after := #[{ on := 11, ground := Ground.guard }], guard := some (11, false) }) (v := ?v17p) rfl (by kernel_rfl) (by kernel_rfl) (by kernel_rfl) (fun _ _ _ h => h) (Or.inl ⟨by rfl, ?y17p⟩) (by assumption) ?r17p
      case y17p => (intro x hx; obtain ⟨hx0, hx1, hx2, hx3⟩ := hx; go_simp; try with_reducible rfl)
      try simp only [Act.put, List.setIfInBounds_toArray, List.set_cons_zero, List.set_cons_succ]
      refine wpAnyH_take (i := 18) (oi := { dst := some 35, op := Op.move (Operand.tmp 5), type := 3, pos := "law.go:41", after := #[{ on := 11, ground := Ground.guard }], guard := some (11, false) }) (v := ?v18p) rfl (by kernel_rfl) (by kernel_rfl) (by kernel_rfl) (fun _ _ _ h => h) (Or.inl ⟨by rfl, ?y18p⟩) (by assumption) ?r18p
      case y18p => (intro x hx; obtain ⟨hx0, hx1, hx2, hx3⟩ := hx; go_simp; try with_reducible rfl)
      try simp only [Act.put, List.setIfInBounds_toArray, List.set_cons_zero, List.set_cons_succ]
      refine wpAnyH_take (i := 19) (oi := { dst := some 36, op := Op.indexAddr 28 (Operand.tmp 34) (Operand.tmp 35), type := 0, pos := "law.go:41", after := #[{ on := 17, ground := Ground.data }, { on := 18, ground := Ground.data }, { on := 11, ground := Ground.guard }], guard := some (11, false) }) (v := ?v19p) rfl (by kernel_rfl) (by kernel_rfl) (by kernel_rfl) (fun _ _ _ h => h) (Or.inl ⟨by rfl, ?y19p⟩) (by assumption) ?r19p
      case y19p => (intro x hx; obtain ⟨hx0, hx1, hx2, hx3⟩ := hx; go_simp; try with_reducible rfl)
      try simp only [Act.put, List.setIfInBounds_toArray, List.set_cons_zero, List.set_cons_succ]
      refine wpAnyH_take (i := 20) (oi := { dst := some 37, op := Op.fieldAddr 35 (Operand.tmp 36) 1, type := 0, pos := "law.go:41", after := #[{ on := 19, ground := Ground.data }, { on := 11, ground := Ground.guard }], guard := some (11, false) }) (v := ?v20p) rfl (by kernel_rfl) (by kernel_rfl) (by kernel_rfl) (fun _ _ _ h => h) (Or.inl ⟨by rfl, ?y20p⟩) (by assumption) ?r20p
      case y20p => (intro x hx; obtain ⟨hx0, hx1, hx2, hx3⟩ := hx; go_simp; try with_reducible rfl)
      try simp only [Act.put, List.setIfInBounds_toArray, List.set_cons_zero, List.set_cons_succ]
      refine wpAnyH_take (i := 21) (oi := { dst := some 38, op := Op.load 3 (Operand.tmp 37), type := 3, pos := "law.go:41", after := #[{ on := 20, ground := Ground.data }, { on := 11, ground := Ground.guard }], guard := some (11, false) }) (v := ?v21p) rfl (by kernel_rfl) (by kernel_rfl) (by kernel_rfl) (fun _ _ _ h => h) (Or.inl ⟨by rfl, ?y21p⟩) (by assumption) ?r21p
      case y21p => (intro x hx; obtain ⟨hx0, hx1, hx2, hx3⟩ := hx; go_simp; try with_reducible rfl)
      try simp only [Act.put, List.setIfInBounds_toArray, List.set_cons_zero, List.set_cons_succ]
      refine wpAnyH_take (i := 22) (oi := { dst := some 39, op := Op.binOp BinOp.neq 3 (Operand.tmp 33) (Operand.tmp 38) 3, type := 4, pos := "law.go:41", after := #[{ on := 16, ground := Ground.data }, { on := 21, ground := Ground.data }, { on := 11, ground := Ground.guard }], guard := some (11, false) }) (v := ?v22p) rfl (by kernel_rfl) (by kernel_rfl) (by kernel_rfl) (fun _ _ _ h => h) (Or.inl ⟨by rfl, ?y22p⟩) (by assumption) ?r22p
      case y22p => (intro x hx; obtain ⟨hx0, hx1, hx2, hx3⟩ := hx; go_simp; try with_reducible rfl)
      try simp only [Act.put, List.setIfInBounds_toArray, List.set_cons_zero, List.set_cons_succ]
      refine wpAnyH_take (i := 23) (oi := { dst := some 40, op := Op.pick (Operand.tmp 28) (Operand.const (Value.bool true)) (Operand.tmp 39), type := 4, pos := "law.go:41", after := #[{ on := 11, ground := Ground.data }, { on := 22, ground := Ground.data }], guard := none }) (v := ?v23p) rfl (by kernel_rfl) (by kernel_rfl) (by kernel_rfl) (fun _ _ _ h => h) (Or.inl ⟨by rfl, ?y23p⟩) (by assumption) ?r23p
      case y23p => (intro x hx; obtain ⟨hx0, hx1, hx2, hx3⟩ := hx; go_simp; try with_reducible rfl)
      try simp only [Act.put, List.setIfInBounds_toArray, List.set_cons_zero, List.set_cons_succ]
      refine wpAnyH_done (by kernel_rfl) ?_ _
      go_wp2_with fail
      go_roundw
      case rel => exact ⟨i + 1, by omega, by first | rfl | simp, _, rfl⟩
      case measure => (simp [intOf]; omega)
    · have dc : ¬ ((i : Int) < (n : Int)) := by omega
      go_wp2_with fail
      go_ret
      exact ⟨rfl, q, rfl⟩
/-- Slices of the same pairs are the same. -/
theorem same_any (W : World) (a b : Value) (xs : List (Int × Int)) (ha : Rd W a xs) (hb : Rd W b xs) : Calls Try.prog 18 #[a, b] W fun e w' => e = .returned (.bool true) ∧ ∃ q, w' = W.drewN q := by
  rcases ha.reads with ⟨rfl, rfl⟩ | ⟨ga, ca, rfl, hl, ha'⟩
  · rcases hb.reads with ⟨rfl, _⟩ | ⟨gb, cb, rfl, _, _⟩
    · exact same_nil W _ _ _ _
    · exact same_nil W _ _ _ _
  · rcases hb.reads with ⟨rfl, rfl⟩ | ⟨gb, cb, rfl, _, hb'⟩
    · exact same_nil W _ _ _ _
    · exact same_some W ga ca gb cb xs hl ha' hb'
end Go.Proofs.Ytjginocbbnmgaaa
