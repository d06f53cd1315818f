/-
  SEAT Ytadlkikjfonkgaa: traces alike; the list of calls.
-/
import Derived.Test.YtadlkikjfonkgaaFd
namespace Go.Proofs.Ytadlkikjfonkgaa
open Go.RowKit Go.Conc
set_option linter.unusedVariables false

theorem tr_cells {w : World} {B g n c : Nat} {tr : List Cmd} (h : w.ownsRow B 120 4 (.slice (some ⟨g, 0, none⟩) n c) n (tr.flatMap Cmd.cells)) {m : Nat} {x : Cmd} (hx : tr[m]? = some x) : w.cell? ⟨g, m * 4, none⟩ = some (.int .i64 x.k) ∧ w.cell? ⟨g, m * 4 + 1, none⟩ = some (.int .i64 x.b) ∧ w.cell? ⟨g, m * 4 + 2, none⟩ = some (.int .i64 x.p) ∧ w.cell? ⟨g, m * 4 + 3, none⟩ = some (.int .i64 x.s) := by
  have hm : m < tr.length := (List.getElem?_eq_some_iff.1 hx).1
  have hl := flat_len Cmd.cells 4 Cmd.cells_len tr
  have c : ∀ j, j < 4 → w.cell? ⟨g, m * 4 + j, none⟩ = x.cells[j]? := fun j hj => by
    rw [World.ownsRow.cellAt h (m * 4 + j) (by have := h.1; omega)]
    exact flat_get Cmd.cells 4 Cmd.cells_len j hj tr m x hx
  exact ⟨c 0 (by omega), c 1 (by omega), c 2 (by omega), c 3 (by omega)⟩
set_option maxHeartbeats 4000000 in
set_option maxRecDepth 100000 in
theorem sameTrace_eq (w : World) (a1 a2 : Option Addr) (n c1 c2 B1 B2 : Nat) (tr : List Cmd) (h1 : w.ownsRow B1 120 4 (.slice a1 n c1) n (tr.flatMap Cmd.cells)) (h2 : w.ownsRow B2 120 4 (.slice a2 n c2) n (tr.flatMap Cmd.cells)) (hn : n ≤ 9223372036854775806) :
    Calls Try.prog 23 #[.slice a1 n c1, .slice a2 n c2] w fun e w' => e = .returned (.bool true) ∧ Below w.heap.size w w' := by
  have HL : Hid (tr.length = n) := by
    unfold Hid
    have h3 := h1.1
    rw [flat_len Cmd.cells 4 Cmd.cells_len] at h3
    omega
  have HH1 := hide h1
  have HH2 := hide h2
  clear h1 h2
  go_enter Try.func23, Try.ntmps23
  go_wp2
  go_loopw [5] (fun i wr => ∃ m : Nat, m ≤ n ∧ i = .int .i64 m ∧ Hid (Below w.heap.size w wr)) (fun i _ => n - (intOf i).toNat)
  case atStart => exact ⟨0, Nat.zero_le _, rfl, Below.refl _ _⟩
  case round =>
    obtain ⟨m, hm, rfl, HBr⟩ := hrel
    by_cases hlt : m < n
    · have dm : decide ((m : Int) < (n : Int)) = true := decide_eq_true (by omega)
      have m1 : (m : Int) < (n : Int) := by omega
      have hml : m < tr.length := by rw [HL.out]; exact hlt
      obtain ⟨x, hx⟩ : ∃ x, tr[m]? = some x := ⟨_, List.getElem?_eq_getElem hml⟩
      obtain ⟨g1, d1, q1, _⟩ := HH1.out.form (by omega)
      obtain ⟨g2, d2, q2, _⟩ := HH2.out.form (by omega)
      cases q1
      cases q2
      obtain ⟨a0, a1, a2, a3⟩ := tr_cells HH1.out hx
      obtain ⟨e0, e1, e2, e3⟩ := tr_cells HH2.out hx
      have a0 := (HBr.out.cell (block_lt_of_cell a0)).trans a0
      have a1 := (HBr.out.cell (block_lt_of_cell a1)).trans a1
      have a2 := (HBr.out.cell (block_lt_of_cell a2)).trans a2
      have a3 := (HBr.out.cell (block_lt_of_cell a3)).trans a3
      have e0 := (HBr.out.cell (block_lt_of_cell e0)).trans e0
      have e1 := (HBr.out.cell (block_lt_of_cell e1)).trans e1
      have e2 := (HBr.out.cell (block_lt_of_cell e2)).trans e2
      have e3 := (HBr.out.cell (block_lt_of_cell e3)).trans e3
      clear hx hml
      go_wp2
      refine wp_region_held_drew (S := (fun u => u.cell? ⟨g1, m * 4, none⟩ = some (.int .i64 x.k) ∧ u.cell? ⟨g1, m * 4 + 1, none⟩ = some (.int .i64 x.b) ∧ u.cell? ⟨g1, m * 4 + 2, none⟩ = some (.int .i64 x.p) ∧ u.cell? ⟨g1, m * 4 + 3, none⟩ = some (.int .i64 x.s) ∧ u.cell? ⟨g2, m * 4, none⟩ = some (.int .i64 x.k) ∧ u.cell? ⟨g2, m * 4 + 1, none⟩ = some (.int .i64 x.b) ∧ u.cell? ⟨g2, m * 4 + 2, none⟩ = some (.int .i64 x.p) ∧ u.cell? ⟨g2, m * 4 + 3, none⟩ = some (.int .i64 x.s))) (by kernel_rfl) (⟨a0, a1, a2, a3, e0, e1, e2, e3⟩) (fun hHeld => ?_)
      refine wpAnyH_take (i := 0) (oi := { dst := some 17, op := Op.move (Operand.tmp 0), type := 45, pos := "law.go:117", after := #[], guard := none }) (v := ?v0) rfl (by kernel_rfl) (by kernel_rfl) (by kernel_rfl) (fun _ _ _ h => h) (Or.inl ⟨by rfl, ?y0⟩) (by assumption) ?r0
      case y0 => (intro x hx; (try dsimp only at hx); go_simp; try with_reducible rfl)
      try simp only [Act.put, List.setIfInBounds_toArray, List.set_cons_zero, List.set_cons_succ]
      refine wpAnyH_take (i := 1) (oi := { dst := some 18, op := Op.move (Operand.tmp 5), type := 3, pos := "law.go:117", after := #[], guard := none }) (v := ?v1) rfl (by kernel_rfl) (by kernel_rfl) (by kernel_rfl) (fun _ _ _ h => h) (Or.inl ⟨by rfl, ?y1⟩) (by assumption) ?r1
      case y1 => (intro x hx; (try dsimp only at hx); go_simp; try with_reducible rfl)
      try simp only [Act.put, List.setIfInBounds_toArray, List.set_cons_zero, List.set_cons_succ]
      refine wpAnyH_take (i := 2) (oi := { dst := some 19, op := Op.indexAddr 45 (Operand.tmp 17) (Operand.tmp 18), type := 0, pos := "law.go:117", after := #[{ on := 0, ground := Ground.data }, { on := 1, ground := Ground.data }], guard := none }) (v := ?v2) rfl (by kernel_rfl) (by kernel_rfl) (by kernel_rfl) (fun _ _ _ h => h) (Or.inl ⟨by rfl, ?y2⟩) (by assumption) ?r2
      case y2 => (intro x hx; (try dsimp only at hx); go_simp; try with_reducible rfl)
      try simp only [Act.put, List.setIfInBounds_toArray, List.set_cons_zero, List.set_cons_succ]
      refine wpAnyH_take (i := 3) (oi := { dst := some 20, op := Op.load 120 (Operand.tmp 19), type := 120, pos := "law.go:117", after := #[{ on := 2, ground := Ground.data }], guard := none }) (v := ?v3) rfl (by kernel_rfl) (by kernel_rfl) (by kernel_rfl) (fun _ _ _ h => h) (Or.inl ⟨by rfl, ?y3⟩) (by assumption) ?r3
      case y3 => (intro x hx; (try dsimp only at hx); go_simp; try with_reducible rfl)
      try simp only [Act.put, List.setIfInBounds_toArray, List.set_cons_zero, List.set_cons_succ]
      refine wpAnyH_take (i := 4) (oi := { dst := some 21, op := Op.move (Operand.tmp 1), type := 45, pos := "law.go:117", after := #[], guard := none }) (v := ?v4) rfl (by kernel_rfl) (by kernel_rfl) (by kernel_rfl) (fun _ _ _ h => h) (Or.inl ⟨by rfl, ?y4⟩) (by assumption) ?r4
      case y4 => (intro x hx; (try dsimp only at hx); go_simp; try with_reducible rfl)
      try simp only [Act.put, List.setIfInBounds_toArray, List.set_cons_zero, List.set_cons_succ]
      refine wpAnyH_take (i := 5) (oi := { dst := some 22, op := Op.move (Operand.tmp 5), type := 3, pos := "law.go:117", after := #[], guard := none }) (v := ?v5) rfl (by kernel_rfl) (by kernel_rfl) (by kernel_rfl) (fun _ _ _ h => h) (Or.inl ⟨by rfl, ?y5⟩) (by assumption) ?r5
      case y5 => (intro x hx; (try dsimp only at hx); go_simp; try with_reducible rfl)
      try simp only [Act.put, List.setIfInBounds_toArray, List.set_cons_zero, List.set_cons_succ]
      refine wpAnyH_take (i := 6) (oi := { dst := some 23, op := Op.indexAddr 45 (Operand.tmp 21) (Operand.tmp 22), type := 0, pos := "law.go:117", after := #[{ on := 4, ground := Ground.data }, { on := 5, ground := Ground.data }], guard := none }) (v := ?v6) rfl (by kernel_rfl) (by kernel_rfl) (by kernel_rfl) (fun _ _ _ h => h) (Or.inl ⟨by rfl, ?y6⟩) (by assumption) ?r6
      case y6 => (intro x hx; (try dsimp only at hx); go_simp; try with_reducible rfl)
      try simp only [Act.put, List.setIfInBounds_toArray, List.set_cons_zero, List.set_cons_succ]
      refine wpAnyH_take (i := 7) (oi := { dst := some 24, op := Op.load 120 (Operand.tmp 23), type := 120, pos := "law.go:117", after := #[{ on := 6, ground := Ground.data }], guard := none }) (v := ?v7) rfl (by kernel_rfl) (by kernel_rfl) (by kernel_rfl) (fun _ _ _ h => h) (Or.inl ⟨by rfl, ?y7⟩) (by assumption) ?r7
      case y7 => (intro x hx; (try dsimp only at hx); go_simp; try with_reducible rfl)
      try simp only [Act.put, List.setIfInBounds_toArray, List.set_cons_zero, List.set_cons_succ]
      refine wpAnyH_take (i := 8) (oi := { dst := some 25, op := Op.binOp BinOp.neq 120 (Operand.tmp 20) (Operand.tmp 24) 120, type := 4, pos := "law.go:117", after := #[{ on := 3, ground := Ground.data }, { on := 7, ground := Ground.data }], guard := none }) (v := ?v8) rfl (by kernel_rfl) (by kernel_rfl) (by kernel_rfl) (fun _ _ _ h => h) (Or.inl ⟨by rfl, ?y8⟩) (by assumption) ?r8
      case y8 => (intro x hx; (try dsimp only at hx); go_simp; try with_reducible rfl)
      try simp only [Act.put, List.setIfInBounds_toArray, List.set_cons_zero, List.set_cons_succ]
      refine wpAnyH_done (by kernel_rfl) ?_ _
      clear hHeld
      go_wp2
      go_roundw
      case rel => exact ⟨m + 1, by omega, by go_num, below_trans HBr.out (drew_below _)⟩
      case measure => simp [intOf]; omega
    · have dm : decide ((m : Int) < (n : Int)) = false := decide_eq_false (by omega)
      go_wp2
      go_ret
      exact ⟨rfl, HBr.out⟩

/-- The records of calls, as they are handed in. -/
structure Ox where
  o : Opc
  da : Option Addr
  dn : Nat
  dc : Nat
  za : Option Addr
  zn : Nat
  zc : Nat
def Ox.zero : Ox := ⟨⟨0, 0, 0, 0, false, [], []⟩, none, 0, 0, none, 0, 0⟩
def Ox.cell (x : Ox) : Nat → Value
  | 0 => .int .i64 x.o.k
  | 1 => .int .i64 x.o.b
  | 2 => .int .i64 x.o.p
  | 3 => .int .i64 x.o.bit
  | 4 => .bool x.o.fit
  | 5 => .slice x.da x.dn x.dc
  | _ => .slice x.za x.zn x.zc
structure OxOk (w : World) (x : Ox) : Prop where
  d : Reads w x.da x.dn x.o.d
  z : Reads w x.za x.zn x.o.z
  dl : x.dn ≤ 140737488351232
  zl : x.zn ≤ 140737488351232
  bit : x.o.bit ≤ 9223372036854775807
def ReadsO (w : World) (a : Option Addr) (len : Nat) (xs : List Ox) : Prop :=
  xs.length = len ∧ (∀ x ∈ xs, OxOk w x) ∧ (a = none → len = 0) ∧ ∀ y, a = some y → ∀ i, i < len → ∀ j, j < 7 → w.cell? (y.add (i * 7 + j)) = some ((xs.getD i Ox.zero).cell j)
theorem OxOk.below {w w' : World} {x : Ox} (h : OxOk w x) (hb : Below w.heap.size w w') : OxOk w' x := ⟨h.d.below hb, h.z.below hb, h.dl, h.zl, h.bit⟩
theorem reads_low {w : World} {a : Option Addr} {l : Nat} {zs : List Int} (h : Reads w a l zs) {y : Addr} (hy : a = some y) (h0 : 0 < l) : y.block < w.heap.size := by
  obtain ⟨b, off, e, hb, _⟩ := h.pos h0
  rw [hy] at e
  cases e
  exact hb
theorem ReadsO.pos {w : World} {a : Option Addr} {len : Nat} {xs : List Ox} (h : ReadsO w a len xs) {i : Nat} (hi : i < len) : ∃ b off x, a = some ⟨b, off, none⟩ ∧ b < w.heap.size ∧ xs[i]? = some x ∧ OxOk w x ∧ w.cell? ⟨b, off + i * 7, none⟩ = some (.int .i64 x.o.k) ∧ w.cell? ⟨b, off + i * 7 + 1, none⟩ = some (.int .i64 x.o.b) ∧ w.cell? ⟨b, off + i * 7 + 2, none⟩ = some (.int .i64 x.o.p) ∧ w.cell? ⟨b, off + i * 7 + 3, none⟩ = some (.int .i64 x.o.bit) ∧ w.cell? ⟨b, off + i * 7 + 4, none⟩ = some (.bool x.o.fit) ∧ w.cell? ⟨b, off + i * 7 + 5, none⟩ = some (.slice x.da x.dn x.dc) ∧ w.cell? ⟨b, off + i * 7 + 6, none⟩ = some (.slice x.za x.zn x.zc) := by
  obtain ⟨hl, hok, hn, hc⟩ := h
  cases a with
  | none => have := hn rfl; omega
  | some y =>
    obtain ⟨b, off, spot⟩ := y
    have h0 := hc _ rfl 0 (by omega) 0 (by omega)
    have hspot : spot = none := by simpa [Addr.add] using World.cell?_spot h0
    subst hspot
    have hil : i < xs.length := by omega
    have e : xs.getD i Ox.zero = xs[i] := by rw [List.getD_eq_getElem?_getD, List.getElem?_eq_getElem hil]; rfl
    have k : ∀ j, j < 7 → w.cell? ⟨b, off + i * 7 + j, none⟩ = some (xs[i].cell j) := fun j hj => by
      have h1 := hc _ rfl i hi j hj
      rw [plain_add, e] at h1
      rw [Nat.add_assoc]
      exact h1
    refine ⟨b, off, xs[i], rfl, by simpa [Addr.add] using block_lt_of_cell h0, List.getElem?_eq_getElem hil, hok _ (List.getElem_mem hil), k 0 (by omega), k 1 (by omega), k 2 (by omega), k 3 (by omega), k 4 (by omega), k 5 (by omega), k 6 (by omega)⟩
end Go.Proofs.Ytadlkikjfonkgaa
