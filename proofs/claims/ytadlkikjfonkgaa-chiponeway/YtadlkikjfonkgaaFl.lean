/-
  SEAT Ytadlkikjfonkgaa: units that are flipped.
-/
import Derived.Test.YtadlkikjfonkgaaTr
namespace Go.Proofs.Ytadlkikjfonkgaa
open Go.RowKit Go.Conc
set_option linter.unusedVariables false

/-- What the closure of Flip looks at. -/
def UB (p cb ub un : Nat) (C : Ch) (u : World) : Prop := u.cell? ⟨cb, 0, none⟩ = some (.pointer (some ⟨p, 0, none⟩)) ∧ u.cell? ⟨ub, 0, none⟩ = some (.int .i64 (un : Int)) ∧ u.cell? ⟨p, 0, none⟩ = some (.int .i64 (C.B : Int)) ∧ u.cell? ⟨p, 1, none⟩ = some (.int .i64 (C.P : Int)) ∧ u.cell? ⟨p, 2, none⟩ = some (.int .i64 (C.S : Int))
theorem ub_keep {p cb ub un : Nat} {C : Ch} {u u' : World} (h : UB p cb ub un C u) (hb : Below u.heap.size u u') : UB p cb ub un C u' := by
  obtain ⟨h0, h1, h2, h3, h4⟩ := h
  exact ⟨(hb.cell (block_lt_of_cell h0)).trans h0, (hb.cell (block_lt_of_cell h1)).trans h1, (hb.cell (block_lt_of_cell h2)).trans h2, (hb.cell (block_lt_of_cell h3)).trans h3, (hb.cell (block_lt_of_cell h4)).trans h4⟩
theorem ub_drew {p cb ub un : Nat} {C : Ch} {u : World} (h : UB p cb ub un C u) : UB p cb ub un C u.drew := h
set_option maxRecDepth 100000 in
theorem unit_any (p cb ub un z : Nat) (C : Ch) (w : World) (hu : UB p cb ub un C w) (hS : 1 ≤ C.S ∧ C.S ≤ 8) (hz : z < 8 * pgB C.S) :
    Calls Try.prog 92 #[.int .i64 (z : Int), .pointer (some ⟨cb, 0, none⟩), .pointer (some ⟨ub, 0, none⟩)] w fun e w' => e = .returned (.bool (((unitN C.S z : Nat) : Int) == (un : Int))) ∧ Below w.heap.size w w' := by
  have HU := hide hu
  clear hu
  go_enter Try.func92, Try.ntmps92
  go_wp2
  refine wp_region_held_drew (S := (fun u => u.cell? ⟨cb, 0, none⟩ = some (.pointer (some ⟨p, 0, none⟩)) ∧ u.cell? ⟨ub, 0, none⟩ = some (.int .i64 (un : Int)) ∧ u.cell? ⟨p, 0, none⟩ = some (.int .i64 (C.B : Int)) ∧ u.cell? ⟨p, 1, none⟩ = some (.int .i64 (C.P : Int)) ∧ u.cell? ⟨p, 2, none⟩ = some (.int .i64 (C.S : Int)))) (by kernel_rfl) (ub_drew HU.out) (fun hHeld => ?_)
  refine wpAnyH_take (i := 0) (oi := { dst := some 5, op := Op.load 29 (Operand.tmp 1), type := 29, pos := "commands.go:98", after := #[], guard := none }) (v := ?v0) rfl (by kernel_rfl) (by kernel_rfl) (by kernel_rfl) (fun _ _ _ h => h) (Or.inl ⟨by rfl, ?y0⟩) (by assumption) ?r0
  case y0 => (intro x hx; (try dsimp only at hx); go_simp; try with_reducible rfl)
  try simp only [Act.put, List.setIfInBounds_toArray, List.set_cons_zero, List.set_cons_succ]
  refine wpAnyH_take (i := 1) (oi := { dst := some 6, op := Op.nilCheck (Operand.tmp 5), type := 0, pos := "commands.go:98", after := #[{ on := 0, ground := Ground.data }], guard := none }) (v := ?v1) rfl (by kernel_rfl) (by kernel_rfl) (by kernel_rfl) (fun _ _ _ h => h) (Or.inl ⟨by rfl, ?y1⟩) (by assumption) ?r1
  case y1 => (intro x hx; (try dsimp only at hx); go_simp; try with_reducible rfl)
  try simp only [Act.put, List.setIfInBounds_toArray, List.set_cons_zero, List.set_cons_succ]
  refine wpAnyH_take (i := 2) (oi := { dst := some 7, op := Op.fieldAddr 102 (Operand.tmp 6) 0, type := 0, pos := "commands.go:98", after := #[{ on := 1, ground := Ground.data }], guard := none }) (v := ?v2) rfl (by kernel_rfl) (by kernel_rfl) (by kernel_rfl) (fun _ _ _ h => h) (Or.inl ⟨by rfl, ?y2⟩) (by assumption) ?r2
  case y2 => (intro x hx; (try dsimp only at hx); go_simp; try with_reducible rfl)
  try simp only [Act.put, List.setIfInBounds_toArray, List.set_cons_zero, List.set_cons_succ]
  refine wpAnyH_take (i := 3) (oi := { dst := some 8, op := Op.load 23 (Operand.tmp 7), type := 23, pos := "commands.go:98", after := #[{ on := 2, ground := Ground.data }], guard := none }) (v := ?v3) rfl (by kernel_rfl) (by kernel_rfl) (by kernel_rfl) (fun _ _ _ h => h) (Or.inl ⟨by rfl, ?y3⟩) (by assumption) ?r3
  case y3 => (intro x hx; (try dsimp only at hx); go_simp; try with_reducible rfl)
  try simp only [Act.put, List.setIfInBounds_toArray, List.set_cons_zero, List.set_cons_succ]
  refine wpAnyH_take (i := 4) (oi := { dst := some 9, op := Op.move (Operand.tmp 0), type := 3, pos := "commands.go:98", after := #[], guard := none }) (v := ?v4) rfl (by kernel_rfl) (by kernel_rfl) (by kernel_rfl) (fun _ _ _ h => h) (Or.inl ⟨by rfl, ?y4⟩) (by assumption) ?r4
  case y4 => (intro x hx; (try dsimp only at hx); go_simp; try with_reducible rfl)
  try simp only [Act.put, List.setIfInBounds_toArray, List.set_cons_zero, List.set_cons_succ]
  refine wpAnyH_take (i := 6) (oi := { dst := some 11, op := Op.load 3 (Operand.tmp 2), type := 3, pos := "commands.go:98", after := #[], guard := none }) (v := ?v6) rfl (by kernel_rfl) (by kernel_rfl) (by kernel_rfl) (fun _ _ _ h => h) (Or.inl ⟨by rfl, ?y6⟩) (by assumption) ?r6
  case y6 => (intro x hx; (try dsimp only at hx); go_simp; try with_reducible rfl)
  try simp only [Act.put, List.setIfInBounds_toArray, List.set_cons_zero, List.set_cons_succ]
  refine wpAnyH_ready (rs := [5]) (by kernel_rfl) (by simp) ?_
  refine AllReadyH.cons (o := { dst := some 10, op := Op.call { callee := Callee.value (Operand.func 90), args := #[Operand.tmp 8, Operand.tmp 9], argTypes := #[23, 3] }, type := 3, pos := "commands.go:98", after := #[{ on := 3, ground := Ground.data }, { on := 4, ground := Ground.data }], guard := none }) rfl (fun K hK => ?_) AllReadyH.nil
  go_simp
  go_at_call 90
  refine (unitOf_any _ _ C.S z _ hS.1 hS.2 hz).mono ?_
  rintro e u1 ⟨rfl, b1⟩
  have HB1 := hide (below_trans (drew_below _) b1)
  have hSnew := ub_keep HU.out HB1.out
  clear b1
  go_wp2_with fail
  refine hK.out _ _ hSnew (fun hHeld5 => ?_)
  clear hK K hSnew
  clear hHeld
  have hHeld := hHeld5
  clear hHeld5
  try simp only [Act.put, List.setIfInBounds_toArray, List.set_cons_zero, List.set_cons_succ]
  refine wpAnyH_take (i := 7) (oi := { dst := some 12, op := Op.binOp BinOp.eql 3 (Operand.tmp 10) (Operand.tmp 11) 3, type := 4, pos := "commands.go:98", after := #[{ on := 5, ground := Ground.data }, { on := 6, ground := Ground.data }], guard := none }) (v := ?v7) rfl (by kernel_rfl) (by kernel_rfl) (by kernel_rfl) (fun _ _ _ h => h) (Or.inl ⟨by rfl, ?y7⟩) (by assumption) ?r7
  case y7 => (intro x hx; (try dsimp only at hx); go_simp; try with_reducible rfl)
  try simp only [Act.put, List.setIfInBounds_toArray, List.set_cons_zero, List.set_cons_succ]
  refine wpAnyH_take (i := 8) (oi := { dst := some 4, op := Op.assign (Operand.tmp 12), type := 4, pos := "commands.go:98", after := #[{ on := 7, ground := Ground.data }, { on := 5, ground := Ground.chain }, { on := 0, ground := Ground.phase }, { on := 1, ground := Ground.phase }, { on := 2, ground := Ground.phase }, { on := 3, ground := Ground.phase }, { on := 4, ground := Ground.phase }, { on := 5, ground := Ground.phase }, { on := 6, ground := Ground.phase }, { on := 7, ground := Ground.phase }], guard := none }) (v := ?v8) rfl (by kernel_rfl) (by kernel_rfl) (by kernel_rfl) (fun _ _ _ h => h) (Or.inl ⟨by rfl, ?y8⟩) (by assumption) ?r8
  case y8 => (intro x hx; (try dsimp only at hx); go_simp; try with_reducible rfl)
  try simp only [Act.put, List.setIfInBounds_toArray, List.set_cons_zero, List.set_cons_succ]
  refine wpAnyH_done (by kernel_rfl) ?_ _
  clear hHeld
  go_wp2
  go_ret
  exact ⟨rfl, HB1.out⟩

set_option maxRecDepth 100000 in
set_option maxHeartbeats 1000000 in
theorem indexF_any (p cb ub un : Nat) (C : Ch) (w : World) (hu : UB p cb ub un C w) (hS : 1 ≤ C.S ∧ C.S ≤ 8) (la : Option Addr) (ln lc B : Nat) (fl : List Nat) (ho : w.ownsRow B 3 1 (.slice la ln lc) ln (fl.map fun (i : Nat) => Value.int .i64 (i : Int))) (hb : ∀ z ∈ fl, z < 8 * pgB C.S) (hlb : ln ≤ 9223372036854775807) :
    Calls Try.prog 109 #[.slice la ln lc, .func (.func 92) #[] #[.pointer (some ⟨cb, 0, none⟩), .pointer (some ⟨ub, 0, none⟩)]] w fun e w' => (∃ r : Int, e = .returned (.int .i64 r) ∧ decide (r ≥ 0) = fl.any (fun z => ((unitN C.S z : Nat) : Int) == (un : Int))) ∧ Below w.heap.size w w' := by
  have hln : fl.length = ln := by have h9 := ho.1; simpa using h9
  have HO := hide ho
  have HU := hide hu
  have HF := hide hb
  have HLN := hide hln
  clear ho hu hb hln
  go_enter Try.func109, Try.ntmps109
  go_wp2
  go_loopw [8] (fun s8 wr => ∃ m : Nat, m ≤ ln ∧ s8 = .int .i64 m ∧ Hid (Below w.heap.size w wr) ∧ Hid (∀ z ∈ fl.take m, (((unitN C.S z : Nat) : Int) == (un : Int)) = false))
    (fun s8 _ => ln - (intOf s8).toNat)
  case atStart => exact ⟨0, Nat.zero_le _, rfl, Below.refl _ _, by intro z hz; simp at hz⟩
  case round =>
    obtain ⟨m, hm, rfl, HB, HN⟩ := hrel
    by_cases hlt : m < ln
    · obtain ⟨gl, cl, hle, _, hgl⟩ := HO.out.form (by omega)
      cases hle
      have hflm : m < fl.length := by have := HLN.out; omega
      obtain ⟨z, hz⟩ : ∃ z, fl[m] = z := ⟨_, rfl⟩
      have hzb : z < 8 * pgB C.S := HF.out z (by rw [← hz]; exact List.getElem_mem hflm)
      have hcz : wr.cell? ⟨gl, m, none⟩ = some (.int .i64 (z : Int)) := by
        have h1 := World.ownsRow.cellAt HO.out m (by have := HLN.out; simp; omega)
        rw [List.getElem?_map, List.getElem?_eq_getElem hflm, hz] at h1
        rw [HB.out.cell hgl]
        exact h1
      have m1 : (m : Int) < (ln : Int) := by omega
      have dm : decide ((m : Int) < (ln : Int)) = true := decide_eq_true m1
      have HUr := hide (ub_keep HU.out HB.out)
      have HTK : Hid (fl.take (m + 1) = fl.take m ++ [z]) := by unfold Hid; rw [List.take_succ_eq_append_getElem hflm, hz]
      have HZM : Hid (z ∈ fl) := by unfold Hid; rw [← hz]; exact List.getElem_mem hflm
      clear hz
      cases hq : (((unitN C.S z : Nat) : Int) == (un : Int)) with
      | true =>
        go_wp2_with (first | (go_at_call 92; refine (unit_any p cb ub un z C _ HUr.out hS hzb).mono ?_; rintro e u1 ⟨rfl, b1⟩; rw [hq]; have HB1 := hide b1; clear b1))
        go_ret
        refine ⟨⟨_, rfl, ?_⟩, below_trans HB.out HB1.out⟩
        have e1 : fl.any (fun z => ((unitN C.S z : Nat) : Int) == (un : Int)) = true := List.any_eq_true.2 ⟨z, HZM.out, hq⟩
        rw [e1]
        exact decide_eq_true (by omega)
      | false =>
        have HNX : Hid (∀ y ∈ fl.take (m + 1), (((unitN C.S y : Nat) : Int) == (un : Int)) = false) := by
          intro y hy
          rw [HTK.out] at hy
          rcases List.mem_append.1 hy with h1 | h1
          · exact HN.out y h1
          · simp at h1; rw [h1]; exact hq
        go_wp2_with (first | (go_at_call 92; refine (unit_any p cb ub un z C _ HUr.out hS hzb).mono ?_; rintro e u1 ⟨rfl, b1⟩; rw [hq]; have HB1 := hide (below_trans HB.out b1); clear b1))
        go_roundw
        case rel => exact ⟨m + 1, by omega, by go_num, HB1, HNX⟩
        case measure => simp [intOf]; omega
    · have hml : m = ln := by omega
      subst hml
      go_wp2
      go_ret
      refine ⟨⟨-1, rfl, ?_⟩, HB.out⟩
      have e1 : fl.any (fun z => ((unitN C.S z : Nat) : Int) == (un : Int)) = false := by
        rw [List.any_eq_false]
        intro y hy
        have h9 := HN.out y (by rw [List.take_of_length_le (by have := HLN.out; omega)]; exact hy)
        rw [h9]
        decide
      rw [e1]
      rfl

theorem containsF_any (p cb ub un : Nat) (C : Ch) (w : World) (hu : UB p cb ub un C w) (hS : 1 ≤ C.S ∧ C.S ≤ 8) (la : Option Addr) (ln lc B : Nat) (fl : List Nat) (ho : w.ownsRow B 3 1 (.slice la ln lc) ln (fl.map fun (i : Nat) => Value.int .i64 (i : Int))) (hb : ∀ z ∈ fl, z < 8 * pgB C.S) (hlb : ln ≤ 9223372036854775807) :
    Calls Try.prog 91 #[.slice la ln lc, .func (.func 92) #[] #[.pointer (some ⟨cb, 0, none⟩), .pointer (some ⟨ub, 0, none⟩)]] w fun e w' => e = .returned (.bool (fl.any (fun z => ((unitN C.S z : Nat) : Int) == (un : Int)))) ∧ Below w.heap.size w w' := by
  have HH := hide (indexF_any p cb ub un C w hu hS la ln lc B fl ho hb hlb)
  clear hu ho hb
  go_enter Try.func91, Try.ntmps91
  go_wp2_with (first | (go_at_call 109; refine HH.out.mono ?_; rintro e u1 ⟨⟨r, rfl, hr⟩, b1⟩; have HB1 := hide b1; have HR := hide hr; clear b1 hr))
  go_ret
  exact ⟨ret_bool HR.out, HB1.out⟩
end Go.Proofs.Ytadlkikjfonkgaa
