/-
  SEAT YteefekhlbillfaaDoor: the reference's Read: the geometry that a head tells.
-/
import Derived.Test.YteefekhlbillfaaDoorQa
namespace Go.Proofs.YteefekhlbillfaaDoor
open Go.RowKit
set_option linter.unusedVariables false

theorem Reads.at {w : World} {bk off n : Nat} {zs : List Int} (h : Reads w (some ⟨bk, off, none⟩) n zs) (i : Nat) (hi : i < n) : w.cell? ⟨bk, off + i, none⟩ = some (.int .u8 (zs.getD i 0)) := by
  rw [← plain_add bk off i]
  exact h.2.2.2 _ rfl i hi

/-- What the head of a row is wrong in; 0: nothing. -/
def geoE (bs : List Int) : Int :=
  if bs.take 4 ≠ [83, 72, 65, 76] then 210
  else if bs.length < 5 then 10
  else if bs.getD 4 0 ≠ 1 then 211
  else if bs.length < 10 then 10
  else if Fits (bs.getD 5 0 + 256 * bs.getD 6 0) (bs.getD 7 0 + 256 * bs.getD 8 0) (bs.getD 9 0) = false then 40
  else 0

theorem below_drew (w : World) : Below w.heap.size w w.drew := (Below.refl _ w).drew

theorem magic_short {bs : List Int} (h : bs.length < 4) : bs.take 4 ≠ [83, 72, 65, 76] := fun e => by
  have := congrArg List.length e
  simp at this
  omega
theorem magic_iff {bs : List Int} (h : 4 ≤ bs.length) : bs.take 4 = [83, 72, 65, 76] ↔ (bs.getD 0 0 = 83 ∧ bs.getD 1 0 = 72 ∧ bs.getD 2 0 = 65 ∧ bs.getD 3 0 = 76) := by
  match bs, h with
  | a :: b :: c :: d :: r, _ => simp

set_option maxHeartbeats 2000000 in
set_option maxRecDepth 100000 in
theorem rgeo_bad (a : Option Addr) (n c : Nat) (bs : List Int) (w : World) (hr : Reads w a n bs) (hn : n ≤ 200000000000000) (hx : bs.take 4 ≠ [83, 72, 65, 76]) :
    Calls Tryd.prog 27 #[.slice a n c] w fun e w' => (geoE bs ≠ 0 ∧ e = .returned (.tuple #[.agg #[.int .i64 0, .int .i64 0, .int .i64 0], .int .i64 (geoE bs)]) ∨ geoE bs = 0 ∧ e = .returned (.tuple #[.agg #[.int .i64 (bs.getD 5 0 + 256 * bs.getD 6 0), .int .i64 (bs.getD 7 0 + 256 * bs.getD 8 0), .int .i64 (bs.getD 9 0)], .int .i64 0])) ∧ Below w.heap.size w w' := by
  have hge : geoE bs = 210 := by unfold geoE; rw [if_pos hx]
  have HG : Hid (geoE bs = 210) := hge
  clear hge
  by_cases h4 : n < 4
  · have d1 : (n : Int) < 4 := by omega
    clear hr hx
    go_enter Tryd.func27, Tryd.ntmps27
    go_wp2_with fail
    exact bodyPost_ret (v := .tuple #[.agg #[.int .i64 0, .int .i64 0, .int .i64 0], .int .i64 210]) (by simp [results, Tryd.results27, go_sem]) rfl ⟨Or.inl ⟨by rw [HG.out]; decide, by rw [HG.out]⟩, (below_alloc w _)⟩
  · have d1 : ¬ (n : Int) < 4 := by omega
    have hlen := hr.1
    rw [ne_eq, magic_iff (by omega)] at hx
    obtain ⟨bk, off, rfl, hbk, hcell⟩ := (hr.below (below_alloc w (.cells #[.int .i64 0, .int .i64 0, .int .i64 0] 27))).pos (by omega)
    have k0 := hcell 0 (by omega)
    rw [Nat.add_zero] at k0
    have k1 := hcell 1 (by omega)
    have k2 := hcell 2 (by omega)
    have k3 := hcell 3 (by omega)
    have i0 : (0 : Int) < (n : Int) := by omega
    have i1 : (1 : Int) < (n : Int) := by omega
    have i2 : (2 : Int) < (n : Int) := by omega
    have i3 : (3 : Int) < (n : Int) := by omega
    generalize bs.getD 0 0 = z0 at k0 hx
    generalize bs.getD 1 0 = z1 at k1 hx
    generalize bs.getD 2 0 = z2 at k2 hx
    generalize bs.getD 3 0 = z3 at k3 hx
    clear hcell hr hlen
    by_cases h0 : z0 = 83
    · subst h0
      by_cases h1 : z1 = 72
      · subst h1
        by_cases h2 : z2 = 65
        · subst h2
          have h3 : (z3 == 76) = false := by rw [beq_eq_false_iff_ne]; exact fun e => hx ⟨rfl, rfl, rfl, e⟩
          clear hx
          go_enter Tryd.func27, Tryd.ntmps27
          go_wp2_with fail
          exact bodyPost_ret (v := .tuple #[.agg #[.int .i64 0, .int .i64 0, .int .i64 0], .int .i64 210]) (by simp [results, Tryd.results27, go_sem]) rfl ⟨Or.inl ⟨by rw [HG.out]; decide, by rw [HG.out]⟩, (below_alloc w _)⟩
        · have h3 : (z2 == 65) = false := by rw [beq_eq_false_iff_ne]; exact h2
          clear hx k3 i3
          go_enter Tryd.func27, Tryd.ntmps27
          go_wp2_with fail
          exact bodyPost_ret (v := .tuple #[.agg #[.int .i64 0, .int .i64 0, .int .i64 0], .int .i64 210]) (by simp [results, Tryd.results27, go_sem]) rfl ⟨Or.inl ⟨by rw [HG.out]; decide, by rw [HG.out]⟩, (below_alloc w _)⟩
      · have h3 : (z1 == 72) = false := by rw [beq_eq_false_iff_ne]; exact h1
        clear hx k2 k3 i2 i3
        go_enter Tryd.func27, Tryd.ntmps27
        go_wp2_with fail
        exact bodyPost_ret (v := .tuple #[.agg #[.int .i64 0, .int .i64 0, .int .i64 0], .int .i64 210]) (by simp [results, Tryd.results27, go_sem]) rfl ⟨Or.inl ⟨by rw [HG.out]; decide, by rw [HG.out]⟩, (below_alloc w _)⟩
    · have h3 : (z0 == 83) = false := by rw [beq_eq_false_iff_ne]; exact h0
      clear hx k1 k2 k3 i1 i2 i3
      go_enter Tryd.func27, Tryd.ntmps27
      go_wp2_with fail
      exact bodyPost_ret (v := .tuple #[.agg #[.int .i64 0, .int .i64 0, .int .i64 0], .int .i64 210]) (by simp [results, Tryd.results27, go_sem]) rfl ⟨Or.inl ⟨by rw [HG.out]; decide, by rw [HG.out]⟩, (below_alloc w _)⟩
set_option maxHeartbeats 2000000 in
set_option maxRecDepth 100000 in
theorem rgeo_some (a : Option Addr) (n c : Nat) (bs : List Int) (w : World) (hr : Reads w a n bs) (hn : n ≤ 200000000000000) (hm : bs.take 4 = [83, 72, 65, 76]) (hs : n < 10 ∨ bs.getD 4 0 ≠ 1) :
    Calls Tryd.prog 27 #[.slice a n c] w fun e w' => (geoE bs ≠ 0 ∧ e = .returned (.tuple #[.agg #[.int .i64 0, .int .i64 0, .int .i64 0], .int .i64 (geoE bs)]) ∨ geoE bs = 0 ∧ e = .returned (.tuple #[.agg #[.int .i64 (bs.getD 5 0 + 256 * bs.getD 6 0), .int .i64 (bs.getD 7 0 + 256 * bs.getD 8 0), .int .i64 (bs.getD 9 0)], .int .i64 0])) ∧ Below w.heap.size w w' := by
  have hlen := hr.1
  have hl4 : 4 ≤ bs.length := by
    have := congrArg List.length hm
    simp at this
    omega
  have hz := (magic_iff hl4).1 hm
  obtain ⟨bk, off, rfl, hbk, hcell⟩ := (hr.below (below_alloc w (.cells #[.int .i64 0, .int .i64 0, .int .i64 0] 27))).pos (by omega)
  have d1 : ¬ (n : Int) < 4 := by omega
  have i0 : (0 : Int) < (n : Int) := by omega
  have i1 : (1 : Int) < (n : Int) := by omega
  have i2 : (2 : Int) < (n : Int) := by omega
  have i3 : (3 : Int) < (n : Int) := by omega
  have k0 := hcell 0 (by omega)
  rw [Nat.add_zero] at k0
  have k1 := hcell 1 (by omega)
  have k2 := hcell 2 (by omega)
  have k3 := hcell 3 (by omega)
  rw [hz.1] at k0
  rw [hz.2.1] at k1
  rw [hz.2.2.1] at k2
  rw [hz.2.2.2] at k3
  clear hz
  by_cases h5 : n < 5
  · have d5 : (n : Int) < 5 := by omega
    have HG : Hid (geoE bs = 10) := by unfold Hid geoE; rw [if_neg (by simp [hm]), if_pos (by omega)]
    clear hr hm hcell hs
    go_enter Tryd.func27, Tryd.ntmps27
    go_wp2_with fail
    exact bodyPost_ret (v := .tuple #[.agg #[.int .i64 0, .int .i64 0, .int .i64 0], .int .i64 10]) (by simp [results, Tryd.results27, go_sem]) rfl ⟨Or.inl ⟨by rw [HG.out]; decide, by rw [HG.out]⟩, (below_alloc w _)⟩
  · have d5 : ¬ (n : Int) < 5 := by omega
    have i4 : (4 : Int) < (n : Int) := by omega
    have k4 := hcell 4 (by omega)
    by_cases h1 : bs.getD 4 0 = 1
    · have HG : Hid (geoE bs = 10) := by unfold Hid geoE; rw [if_neg (by simp [hm]), if_neg (by omega), if_neg (by simp only [ne_eq, h1]; simp), if_pos (by omega)]
      have d10 : (n : Int) < 10 := by omega
      rw [h1] at k4
      clear hr hm hcell hs h1
      go_enter Tryd.func27, Tryd.ntmps27
      go_wp2_with fail
      exact bodyPost_ret (v := .tuple #[.agg #[.int .i64 0, .int .i64 0, .int .i64 0], .int .i64 10]) (by simp [results, Tryd.results27, go_sem]) rfl ⟨Or.inl ⟨by rw [HG.out]; decide, by rw [HG.out]⟩, (below_alloc w _)⟩
    · have HG : Hid (geoE bs = 211) := by unfold Hid geoE; rw [if_neg (by simp [hm]), if_neg (by omega), if_pos (by simpa using h1)]
      generalize bs.getD 4 0 = z4 at k4 h1
      have h3 : (z4 == 1) = false := by rw [beq_eq_false_iff_ne]; exact h1
      clear hr hm hcell hs h1
      go_enter Tryd.func27, Tryd.ntmps27
      go_wp2_with fail
      exact bodyPost_ret (v := .tuple #[.agg #[.int .i64 0, .int .i64 0, .int .i64 0], .int .i64 211]) (by simp [results, Tryd.results27, go_sem]) rfl ⟨Or.inl ⟨by rw [HG.out]; decide, by rw [HG.out]⟩, (below_alloc w _)⟩
set_option maxHeartbeats 2000000 in
set_option maxRecDepth 100000 in
theorem rgeo_ten (a : Option Addr) (n c : Nat) (bs : List Int) (w : World) (hr : Reads w a n bs) (hn : n ≤ 200000000000000) (hm : bs.take 4 = [83, 72, 65, 76]) (h10 : 10 ≤ n) (h41 : bs.getD 4 0 = 1) :
    Calls Tryd.prog 27 #[.slice a n c] w fun e w' => (geoE bs ≠ 0 ∧ e = .returned (.tuple #[.agg #[.int .i64 0, .int .i64 0, .int .i64 0], .int .i64 (geoE bs)]) ∨ geoE bs = 0 ∧ e = .returned (.tuple #[.agg #[.int .i64 (bs.getD 5 0 + 256 * bs.getD 6 0), .int .i64 (bs.getD 7 0 + 256 * bs.getD 8 0), .int .i64 (bs.getD 9 0)], .int .i64 0])) ∧ Below w.heap.size w w' := by
  have hlen := hr.1
  have hl4 : 4 ≤ bs.length := by
    have := congrArg List.length hm
    simp at this
    omega
  have hz := (magic_iff hl4).1 hm
  obtain ⟨bk, off, rfl, hbk, hcell⟩ := (hr.below (below_alloc w (.cells #[.int .i64 0, .int .i64 0, .int .i64 0] 27))).pos (by omega)
  have d1 : ¬ (n : Int) < 4 := by omega
  have i0 : (0 : Int) < (n : Int) := by omega
  have i1 : (1 : Int) < (n : Int) := by omega
  have i2 : (2 : Int) < (n : Int) := by omega
  have i3 : (3 : Int) < (n : Int) := by omega
  have k0 := hcell 0 (by omega)
  rw [Nat.add_zero] at k0
  have k1 := hcell 1 (by omega)
  have k2 := hcell 2 (by omega)
  have k3 := hcell 3 (by omega)
  rw [hz.1] at k0
  rw [hz.2.1] at k1
  rw [hz.2.2.1] at k2
  rw [hz.2.2.2] at k3
  clear hz
  have d5 : ¬ (n : Int) < 5 := by omega
  have d10 : ¬ (n : Int) < 10 := by omega
  have i4 : (4 : Int) < (n : Int) := by omega
  have i5 : (5 : Int) < (n : Int) := by omega
  have i6 : (6 : Int) < (n : Int) := by omega
  have i7 : (7 : Int) < (n : Int) := by omega
  have i8 : (8 : Int) < (n : Int) := by omega
  have i9 : (9 : Int) < (n : Int) := by omega
  have k4 := hcell 4 (by omega)
  rw [h41] at k4
  have b5 := byt_getD hr.2.1 5
  have b6 := byt_getD hr.2.1 6
  have b7 := byt_getD hr.2.1 7
  have b8 := byt_getD hr.2.1 8
  have b9 := byt_getD hr.2.1 9
  have HGE : Hid (geoE bs = if Fits (bs.getD 5 0 + 256 * bs.getD 6 0) (bs.getD 7 0 + 256 * bs.getD 8 0) (bs.getD 9 0) = false then 40 else 0) := by
    unfold Hid geoE
    rw [if_neg (by simp [hm]), if_neg (by omega), if_neg (by simp only [ne_eq, h41]; simp), if_neg (by omega)]
  have HR1 : Hid (Reads (w.alloc (.cells #[.int .i64 0, .int .i64 0, .int .i64 0] 27)) (some ⟨bk, off, none⟩) n bs) := hr.below (below_alloc w _)
  have HSY : Hid (∀ u : World, Below (w.alloc (.cells #[.int .i64 0, .int .i64 0, .int .i64 0] 27)).heap.size (w.alloc (.cells #[.int .i64 0, .int .i64 0, .int .i64 0] 27)) u → u.cell? ⟨bk, off + 5, none⟩ = some (.int .u8 (bs.getD 5 0)) ∧ u.cell? ⟨bk, off + 6, none⟩ = some (.int .u8 (bs.getD 6 0)) ∧ u.cell? ⟨bk, off + 7, none⟩ = some (.int .u8 (bs.getD 7 0)) ∧ u.cell? ⟨bk, off + 8, none⟩ = some (.int .u8 (bs.getD 8 0)) ∧ u.cell? ⟨bk, off + 9, none⟩ = some (.int .u8 (bs.getD 9 0))) := fun u hu => ⟨(HR1.out.below hu).at 5 (by omega), (HR1.out.below hu).at 6 (by omega), (HR1.out.below hu).at 7 (by omega), (HR1.out.below hu).at 8 (by omega), (HR1.out.below hu).at 9 (by omega)⟩
  generalize bs.getD 5 0 = z5 at HSY HGE b5 ⊢
  generalize bs.getD 6 0 = z6 at HSY HGE b6 ⊢
  generalize bs.getD 7 0 = z7 at HSY HGE b7 ⊢
  generalize bs.getD 8 0 = z8 at HSY HGE b8 ⊢
  generalize bs.getD 9 0 = z9 at HSY HGE b9 ⊢
  have HS0 : Hid ((w.alloc (.cells #[.int .i64 0, .int .i64 0, .int .i64 0] 27)).cell? ⟨bk, off + 5, none⟩ = some (.int .u8 z5) ∧ (w.alloc (.cells #[.int .i64 0, .int .i64 0, .int .i64 0] 27)).cell? ⟨bk, off + 6, none⟩ = some (.int .u8 z6) ∧ (w.alloc (.cells #[.int .i64 0, .int .i64 0, .int .i64 0] 27)).cell? ⟨bk, off + 7, none⟩ = some (.int .u8 z7) ∧ (w.alloc (.cells #[.int .i64 0, .int .i64 0, .int .i64 0] 27)).cell? ⟨bk, off + 8, none⟩ = some (.int .u8 z8) ∧ (w.alloc (.cells #[.int .i64 0, .int .i64 0, .int .i64 0] 27)).cell? ⟨bk, off + 9, none⟩ = some (.int .u8 z9)) := HSY.out _ (Below.refl _ _)
  have HSX : Hid (∀ u : World, Below (w.alloc (.cells #[.int .i64 0, .int .i64 0, .int .i64 0] 27)).drew.heap.size (w.alloc (.cells #[.int .i64 0, .int .i64 0, .int .i64 0] 27)).drew u → u.cell? ⟨bk, off + 5, none⟩ = some (.int .u8 z5) ∧ u.cell? ⟨bk, off + 6, none⟩ = some (.int .u8 z6) ∧ u.cell? ⟨bk, off + 7, none⟩ = some (.int .u8 z7) ∧ u.cell? ⟨bk, off + 8, none⟩ = some (.int .u8 z8) ∧ u.cell? ⟨bk, off + 9, none⟩ = some (.int .u8 z9)) := fun u hu => HSY.out u (below_trans (below_drew _) hu)
  have v5 : IntKind.i64.wrap z5 = z5 := by rw [IntKind.wrap_i64]; omega
  have v6 : IntKind.i64.wrap z6 = z6 := by rw [IntKind.wrap_i64]; omega
  have v7 : IntKind.i64.wrap z7 = z7 := by rw [IntKind.wrap_i64]; omega
  have v8 : IntKind.i64.wrap z8 = z8 := by rw [IntKind.wrap_i64]; omega
  have v9 : IntKind.i64.wrap z9 = z9 := by rw [IntKind.wrap_i64]; omega
  have w6 : IntKind.i64.wrap (256 * z6) = 256 * z6 := by rw [IntKind.wrap_i64]; omega
  have w8 : IntKind.i64.wrap (256 * z8) = 256 * z8 := by rw [IntKind.wrap_i64]; omega
  obtain ⟨A, hA⟩ : ∃ A, z5 + 256 * z6 = A := ⟨_, rfl⟩
  obtain ⟨B, hB⟩ : ∃ B, z7 + 256 * z8 = B := ⟨_, rfl⟩
  have wA : IntKind.i64.wrap (z5 + 256 * z6) = A := by rw [IntKind.wrap_i64]; omega
  have wB : IntKind.i64.wrap (z7 + 256 * z8) = B := by rw [IntKind.wrap_i64]; omega
  rw [hA, hB] at HGE ⊢
  clear hA hB hr hm hcell h41 HSY
  go_enter Tryd.func27, Tryd.ntmps27
  go_upto_region 9 with fail
  refine wp_region_held_drew (S := (fun y : World => y.cell? ⟨bk, off + 5, none⟩ = some (.int .u8 z5) ∧ y.cell? ⟨bk, off + 6, none⟩ = some (.int .u8 z6) ∧ y.cell? ⟨bk, off + 7, none⟩ = some (.int .u8 z7) ∧ y.cell? ⟨bk, off + 8, none⟩ = some (.int .u8 z8) ∧ y.cell? ⟨bk, off + 9, none⟩ = some (.int .u8 z9))) (by kernel_rfl) (HS0.out) (fun hHeld => ?_)
  refine wpAnyH_take (i := 0) (oi := { dst := some 46, op := Op.move (Operand.tmp 0), type := 22, pos := "ref.go:167", after := #[], guard := none }) (v := ?v0g) rfl (by kernel_rfl) (by kernel_rfl) (by kernel_rfl) (fun _ _ _ h => h) (Or.inl ⟨by rfl, ?y0g⟩) (by assumption) ?r0g
  case y0g => (intro x hx; (try dsimp only at hx); go_simp; try with_reducible rfl)
  try simp only [Act.put, List.setIfInBounds_toArray, List.set_cons_zero, List.set_cons_succ]
  refine wpAnyH_take (i := 1) (oi := { dst := some 47, op := Op.indexAddr 22 (Operand.tmp 46) (Operand.const (Value.int IntKind.i64 5)), type := 0, pos := "ref.go:167", after := #[{ on := 0, ground := Ground.data }], guard := none }) (v := ?v1g) rfl (by kernel_rfl) (by kernel_rfl) (by kernel_rfl) (fun _ _ _ h => h) (Or.inl ⟨by rfl, ?y1g⟩) (by assumption) ?r1g
  case y1g => (intro x hx; (try dsimp only at hx); go_simp; try with_reducible rfl)
  try simp only [Act.put, List.setIfInBounds_toArray, List.set_cons_zero, List.set_cons_succ]
  refine wpAnyH_take (i := 2) (oi := { dst := some 48, op := Op.load 5 (Operand.tmp 47), type := 5, pos := "ref.go:167", after := #[{ on := 1, ground := Ground.data }], guard := none }) (v := ?v2g) rfl (by kernel_rfl) (by kernel_rfl) (by kernel_rfl) (fun _ _ _ h => h) (Or.inl ⟨by rfl, ?y2g⟩) (by assumption) ?r2g
  case y2g => (intro x hx; (try dsimp only at hx); go_simp; try with_reducible rfl)
  try simp only [Act.put, List.setIfInBounds_toArray, List.set_cons_zero, List.set_cons_succ]
  refine wpAnyH_take (i := 3) (oi := { dst := some 49, op := Op.convert 5 3 (Operand.tmp 48), type := 3, pos := "ref.go:167", after := #[{ on := 2, ground := Ground.data }], guard := none }) (v := ?v3g) rfl (by kernel_rfl) (by kernel_rfl) (by kernel_rfl) (fun _ _ _ h => h) (Or.inl ⟨by rfl, ?y3g⟩) (by assumption) ?r3g
  case y3g => (intro x hx; (try dsimp only at hx); go_simp; try with_reducible rfl)
  try simp only [Act.put, List.setIfInBounds_toArray, List.set_cons_zero, List.set_cons_succ]
  refine wpAnyH_take (i := 4) (oi := { dst := some 50, op := Op.move (Operand.tmp 0), type := 22, pos := "ref.go:167", after := #[], guard := none }) (v := ?v4g) rfl (by kernel_rfl) (by kernel_rfl) (by kernel_rfl) (fun _ _ _ h => h) (Or.inl ⟨by rfl, ?y4g⟩) (by assumption) ?r4g
  case y4g => (intro x hx; (try dsimp only at hx); go_simp; try with_reducible rfl)
  try simp only [Act.put, List.setIfInBounds_toArray, List.set_cons_zero, List.set_cons_succ]
  refine wpAnyH_take (i := 5) (oi := { dst := some 51, op := Op.indexAddr 22 (Operand.tmp 50) (Operand.const (Value.int IntKind.i64 6)), type := 0, pos := "ref.go:167", after := #[{ on := 4, ground := Ground.data }], guard := none }) (v := ?v5g) rfl (by kernel_rfl) (by kernel_rfl) (by kernel_rfl) (fun _ _ _ h => h) (Or.inl ⟨by rfl, ?y5g⟩) (by assumption) ?r5g
  case y5g => (intro x hx; (try dsimp only at hx); go_simp; try with_reducible rfl)
  try simp only [Act.put, List.setIfInBounds_toArray, List.set_cons_zero, List.set_cons_succ]
  refine wpAnyH_take (i := 6) (oi := { dst := some 52, op := Op.load 5 (Operand.tmp 51), type := 5, pos := "ref.go:167", after := #[{ on := 5, ground := Ground.data }], guard := none }) (v := ?v6g) rfl (by kernel_rfl) (by kernel_rfl) (by kernel_rfl) (fun _ _ _ h => h) (Or.inl ⟨by rfl, ?y6g⟩) (by assumption) ?r6g
  case y6g => (intro x hx; (try dsimp only at hx); go_simp; try with_reducible rfl)
  try simp only [Act.put, List.setIfInBounds_toArray, List.set_cons_zero, List.set_cons_succ]
  refine wpAnyH_take (i := 7) (oi := { dst := some 53, op := Op.convert 5 3 (Operand.tmp 52), type := 3, pos := "ref.go:167", after := #[{ on := 6, ground := Ground.data }], guard := none }) (v := ?v7g) rfl (by kernel_rfl) (by kernel_rfl) (by kernel_rfl) (fun _ _ _ h => h) (Or.inl ⟨by rfl, ?y7g⟩) (by assumption) ?r7g
  case y7g => (intro x hx; (try dsimp only at hx); go_simp; try with_reducible rfl)
  try simp only [Act.put, List.setIfInBounds_toArray, List.set_cons_zero, List.set_cons_succ]
  refine wpAnyH_take (i := 8) (oi := { dst := some 54, op := Op.binOp BinOp.mul 3 (Operand.const (Value.int IntKind.i64 256)) (Operand.tmp 53) 3, type := 3, pos := "ref.go:167", after := #[{ on := 7, ground := Ground.data }], guard := none }) (v := ?v8g) rfl (by kernel_rfl) (by kernel_rfl) (by kernel_rfl) (fun _ _ _ h => h) (Or.inl ⟨by rfl, ?y8g⟩) (by assumption) ?r8g
  case y8g => (intro x hx; (try dsimp only at hx); go_simp; try with_reducible rfl)
  try simp only [Act.put, List.setIfInBounds_toArray, List.set_cons_zero, List.set_cons_succ]
  refine wpAnyH_take (i := 9) (oi := { dst := some 55, op := Op.binOp BinOp.add 3 (Operand.tmp 49) (Operand.tmp 54) 3, type := 3, pos := "ref.go:167", after := #[{ on := 3, ground := Ground.data }, { on := 8, ground := Ground.data }], guard := none }) (v := ?v9g) rfl (by kernel_rfl) (by kernel_rfl) (by kernel_rfl) (fun _ _ _ h => h) (Or.inl ⟨by rfl, ?y9g⟩) (by assumption) ?r9g
  case y9g => (intro x hx; (try dsimp only at hx); go_simp; try with_reducible rfl)
  try simp only [Act.put, List.setIfInBounds_toArray, List.set_cons_zero, List.set_cons_succ]
  refine wpAnyH_take (i := 10) (oi := { dst := some 56, op := Op.move (Operand.tmp 0), type := 22, pos := "ref.go:167", after := #[], guard := none }) (v := ?v10g) rfl (by kernel_rfl) (by kernel_rfl) (by kernel_rfl) (fun _ _ _ h => h) (Or.inl ⟨by rfl, ?y10g⟩) (by assumption) ?r10g
  case y10g => (intro x hx; (try dsimp only at hx); go_simp; try with_reducible rfl)
  try simp only [Act.put, List.setIfInBounds_toArray, List.set_cons_zero, List.set_cons_succ]
  refine wpAnyH_take (i := 11) (oi := { dst := some 57, op := Op.indexAddr 22 (Operand.tmp 56) (Operand.const (Value.int IntKind.i64 7)), type := 0, pos := "ref.go:167", after := #[{ on := 10, ground := Ground.data }], guard := none }) (v := ?v11g) rfl (by kernel_rfl) (by kernel_rfl) (by kernel_rfl) (fun _ _ _ h => h) (Or.inl ⟨by rfl, ?y11g⟩) (by assumption) ?r11g
  case y11g => (intro x hx; (try dsimp only at hx); go_simp; try with_reducible rfl)
  try simp only [Act.put, List.setIfInBounds_toArray, List.set_cons_zero, List.set_cons_succ]
  refine wpAnyH_take (i := 12) (oi := { dst := some 58, op := Op.load 5 (Operand.tmp 57), type := 5, pos := "ref.go:167", after := #[{ on := 11, ground := Ground.data }], guard := none }) (v := ?v12g) rfl (by kernel_rfl) (by kernel_rfl) (by kernel_rfl) (fun _ _ _ h => h) (Or.inl ⟨by rfl, ?y12g⟩) (by assumption) ?r12g
  case y12g => (intro x hx; (try dsimp only at hx); go_simp; try with_reducible rfl)
  try simp only [Act.put, List.setIfInBounds_toArray, List.set_cons_zero, List.set_cons_succ]
  refine wpAnyH_take (i := 13) (oi := { dst := some 59, op := Op.convert 5 3 (Operand.tmp 58), type := 3, pos := "ref.go:167", after := #[{ on := 12, ground := Ground.data }], guard := none }) (v := ?v13g) rfl (by kernel_rfl) (by kernel_rfl) (by kernel_rfl) (fun _ _ _ h => h) (Or.inl ⟨by rfl, ?y13g⟩) (by assumption) ?r13g
  case y13g => (intro x hx; (try dsimp only at hx); go_simp; try with_reducible rfl)
  try simp only [Act.put, List.setIfInBounds_toArray, List.set_cons_zero, List.set_cons_succ]
  refine wpAnyH_take (i := 14) (oi := { dst := some 60, op := Op.move (Operand.tmp 0), type := 22, pos := "ref.go:167", after := #[], guard := none }) (v := ?v14g) rfl (by kernel_rfl) (by kernel_rfl) (by kernel_rfl) (fun _ _ _ h => h) (Or.inl ⟨by rfl, ?y14g⟩) (by assumption) ?r14g
  case y14g => (intro x hx; (try dsimp only at hx); go_simp; try with_reducible rfl)
  try simp only [Act.put, List.setIfInBounds_toArray, List.set_cons_zero, List.set_cons_succ]
  refine wpAnyH_take (i := 15) (oi := { dst := some 61, op := Op.indexAddr 22 (Operand.tmp 60) (Operand.const (Value.int IntKind.i64 8)), type := 0, pos := "ref.go:167", after := #[{ on := 14, ground := Ground.data }], guard := none }) (v := ?v15g) rfl (by kernel_rfl) (by kernel_rfl) (by kernel_rfl) (fun _ _ _ h => h) (Or.inl ⟨by rfl, ?y15g⟩) (by assumption) ?r15g
  case y15g => (intro x hx; (try dsimp only at hx); go_simp; try with_reducible rfl)
  try simp only [Act.put, List.setIfInBounds_toArray, List.set_cons_zero, List.set_cons_succ]
  refine wpAnyH_take (i := 16) (oi := { dst := some 62, op := Op.load 5 (Operand.tmp 61), type := 5, pos := "ref.go:167", after := #[{ on := 15, ground := Ground.data }], guard := none }) (v := ?v16g) rfl (by kernel_rfl) (by kernel_rfl) (by kernel_rfl) (fun _ _ _ h => h) (Or.inl ⟨by rfl, ?y16g⟩) (by assumption) ?r16g
  case y16g => (intro x hx; (try dsimp only at hx); go_simp; try with_reducible rfl)
  try simp only [Act.put, List.setIfInBounds_toArray, List.set_cons_zero, List.set_cons_succ]
  refine wpAnyH_take (i := 17) (oi := { dst := some 63, op := Op.convert 5 3 (Operand.tmp 62), type := 3, pos := "ref.go:167", after := #[{ on := 16, ground := Ground.data }], guard := none }) (v := ?v17g) rfl (by kernel_rfl) (by kernel_rfl) (by kernel_rfl) (fun _ _ _ h => h) (Or.inl ⟨by rfl, ?y17g⟩) (by assumption) ?r17g
  case y17g => (intro x hx; (try dsimp only at hx); go_simp; try with_reducible rfl)
  try simp only [Act.put, List.setIfInBounds_toArray, List.set_cons_zero, List.set_cons_succ]
  refine wpAnyH_take (i := 18) (oi := { dst := some 64, op := Op.binOp BinOp.mul 3 (Operand.const (Value.int IntKind.i64 256)) (Operand.tmp 63) 3, type := 3, pos := "ref.go:167", after := #[{ on := 17, ground := Ground.data }], guard := none }) (v := ?v18g) rfl (by kernel_rfl) (by kernel_rfl) (by kernel_rfl) (fun _ _ _ h => h) (Or.inl ⟨by rfl, ?y18g⟩) (by assumption) ?r18g
  case y18g => (intro x hx; (try dsimp only at hx); go_simp; try with_reducible rfl)
  try simp only [Act.put, List.setIfInBounds_toArray, List.set_cons_zero, List.set_cons_succ]
  refine wpAnyH_take (i := 19) (oi := { dst := some 65, op := Op.binOp BinOp.add 3 (Operand.tmp 59) (Operand.tmp 64) 3, type := 3, pos := "ref.go:167", after := #[{ on := 13, ground := Ground.data }, { on := 18, ground := Ground.data }], guard := none }) (v := ?v19g) rfl (by kernel_rfl) (by kernel_rfl) (by kernel_rfl) (fun _ _ _ h => h) (Or.inl ⟨by rfl, ?y19g⟩) (by assumption) ?r19g
  case y19g => (intro x hx; (try dsimp only at hx); go_simp; try with_reducible rfl)
  try simp only [Act.put, List.setIfInBounds_toArray, List.set_cons_zero, List.set_cons_succ]
  refine wpAnyH_take (i := 20) (oi := { dst := some 66, op := Op.move (Operand.tmp 0), type := 22, pos := "ref.go:167", after := #[], guard := none }) (v := ?v20g) rfl (by kernel_rfl) (by kernel_rfl) (by kernel_rfl) (fun _ _ _ h => h) (Or.inl ⟨by rfl, ?y20g⟩) (by assumption) ?r20g
  case y20g => (intro x hx; (try dsimp only at hx); go_simp; try with_reducible rfl)
  try simp only [Act.put, List.setIfInBounds_toArray, List.set_cons_zero, List.set_cons_succ]
  refine wpAnyH_take (i := 21) (oi := { dst := some 67, op := Op.indexAddr 22 (Operand.tmp 66) (Operand.const (Value.int IntKind.i64 9)), type := 0, pos := "ref.go:167", after := #[{ on := 20, ground := Ground.data }], guard := none }) (v := ?v21g) rfl (by kernel_rfl) (by kernel_rfl) (by kernel_rfl) (fun _ _ _ h => h) (Or.inl ⟨by rfl, ?y21g⟩) (by assumption) ?r21g
  case y21g => (intro x hx; (try dsimp only at hx); go_simp; try with_reducible rfl)
  try simp only [Act.put, List.setIfInBounds_toArray, List.set_cons_zero, List.set_cons_succ]
  refine wpAnyH_take (i := 22) (oi := { dst := some 68, op := Op.load 5 (Operand.tmp 67), type := 5, pos := "ref.go:167", after := #[{ on := 21, ground := Ground.data }], guard := none }) (v := ?v22g) rfl (by kernel_rfl) (by kernel_rfl) (by kernel_rfl) (fun _ _ _ h => h) (Or.inl ⟨by rfl, ?y22g⟩) (by assumption) ?r22g
  case y22g => (intro x hx; (try dsimp only at hx); go_simp; try with_reducible rfl)
  try simp only [Act.put, List.setIfInBounds_toArray, List.set_cons_zero, List.set_cons_succ]
  refine wpAnyH_take (i := 23) (oi := { dst := some 69, op := Op.convert 5 3 (Operand.tmp 68), type := 3, pos := "ref.go:167", after := #[{ on := 22, ground := Ground.data }], guard := none }) (v := ?v23g) rfl (by kernel_rfl) (by kernel_rfl) (by kernel_rfl) (fun _ _ _ h => h) (Or.inl ⟨by rfl, ?y23g⟩) (by assumption) ?r23g
  case y23g => (intro x hx; (try dsimp only at hx); go_simp; try with_reducible rfl)
  try simp only [Act.put, List.setIfInBounds_toArray, List.set_cons_zero, List.set_cons_succ]
  refine wpAnyH_take (i := 24) (oi := { dst := some 70, op := Op.build 27 #[(0, Operand.tmp 55), (1, Operand.tmp 65), (2, Operand.tmp 69)], type := 27, pos := "ref.go:167", after := #[{ on := 9, ground := Ground.data }, { on := 19, ground := Ground.data }, { on := 23, ground := Ground.data }], guard := none }) (v := ?v24g) rfl (by kernel_rfl) (by kernel_rfl) (by kernel_rfl) (fun _ _ _ h => h) (Or.inl ⟨by rfl, ?y24g⟩) (by assumption) ?r24g
  case y24g => (intro x hx; (try dsimp only at hx); go_simp; try with_reducible rfl)
  try simp only [Act.put, List.setIfInBounds_toArray, List.set_cons_zero, List.set_cons_succ]
  refine wpAnyH_ready (rs := [25]) (by kernel_rfl) (by simp) ?_
  refine AllReadyH.cons (o := { dst := some 4, op := Op.alloc 27, type := 0, pos := "ref.go:167", after := #[], guard := none }) rfl (fun K hK => ?_) AllReadyH.nil
  go_simp
  go_wp2_with fail
  have hSnew : ((w.alloc (.cells #[.int .i64 0, .int .i64 0, .int .i64 0] 27)).drew.alloc (.cells #[.int .i64 0, .int .i64 0, .int .i64 0] 27)).cell? ⟨bk, off + 5, none⟩ = some (.int .u8 z5) ∧ ((w.alloc (.cells #[.int .i64 0, .int .i64 0, .int .i64 0] 27)).drew.alloc (.cells #[.int .i64 0, .int .i64 0, .int .i64 0] 27)).cell? ⟨bk, off + 6, none⟩ = some (.int .u8 z6) ∧ ((w.alloc (.cells #[.int .i64 0, .int .i64 0, .int .i64 0] 27)).drew.alloc (.cells #[.int .i64 0, .int .i64 0, .int .i64 0] 27)).cell? ⟨bk, off + 7, none⟩ = some (.int .u8 z7) ∧ ((w.alloc (.cells #[.int .i64 0, .int .i64 0, .int .i64 0] 27)).drew.alloc (.cells #[.int .i64 0, .int .i64 0, .int .i64 0] 27)).cell? ⟨bk, off + 8, none⟩ = some (.int .u8 z8) ∧ ((w.alloc (.cells #[.int .i64 0, .int .i64 0, .int .i64 0] 27)).drew.alloc (.cells #[.int .i64 0, .int .i64 0, .int .i64 0] 27)).cell? ⟨bk, off + 9, none⟩ = some (.int .u8 z9) := HSX.out _ (below_alloc _ _)
  refine hK.out _ _ hSnew (fun hHeld25 => ?_)
  clear hK K hSnew
  clear hHeld
  have hHeld := hHeld25
  clear hHeld25
  try simp only [Act.put, List.setIfInBounds_toArray, List.set_cons_zero, List.set_cons_succ]
  refine wpAnyH_ready (rs := [26]) (by kernel_rfl) (by simp) ?_
  refine AllReadyH.cons (o := { dst := none, op := Op.store 27 (Operand.tmp 4) (Operand.tmp 70), type := 0, pos := "ref.go:167", after := #[{ on := 25, ground := Ground.data }, { on := 24, ground := Ground.data }, { on := 0, ground := Ground.phase }, { on := 1, ground := Ground.phase }, { on := 2, ground := Ground.phase }, { on := 3, ground := Ground.phase }, { on := 4, ground := Ground.phase }, { on := 5, ground := Ground.phase }, { on := 6, ground := Ground.phase }, { on := 7, ground := Ground.phase }, { on := 8, ground := Ground.phase }, { on := 9, ground := Ground.phase }, { on := 10, ground := Ground.phase }, { on := 11, ground := Ground.phase }, { on := 12, ground := Ground.phase }, { on := 13, ground := Ground.phase }, { on := 14, ground := Ground.phase }, { on := 15, ground := Ground.phase }, { on := 16, ground := Ground.phase }, { on := 17, ground := Ground.phase }, { on := 18, ground := Ground.phase }, { on := 19, ground := Ground.phase }, { on := 20, ground := Ground.phase }, { on := 21, ground := Ground.phase }, { on := 22, ground := Ground.phase }, { on := 23, ground := Ground.phase }, { on := 24, ground := Ground.phase }, { on := 25, ground := Ground.phase }], guard := none }) rfl (fun K hK => ?_) AllReadyH.nil
  go_simp
  go_wp2_with fail
  have hSnew : ((w.alloc (.cells #[.int .i64 0, .int .i64 0, .int .i64 0] 27)).drew.alloc (.cells #[.int .i64 A, .int .i64 B, .int .i64 z9] 27)).cell? ⟨bk, off + 5, none⟩ = some (.int .u8 z5) ∧ ((w.alloc (.cells #[.int .i64 0, .int .i64 0, .int .i64 0] 27)).drew.alloc (.cells #[.int .i64 A, .int .i64 B, .int .i64 z9] 27)).cell? ⟨bk, off + 6, none⟩ = some (.int .u8 z6) ∧ ((w.alloc (.cells #[.int .i64 0, .int .i64 0, .int .i64 0] 27)).drew.alloc (.cells #[.int .i64 A, .int .i64 B, .int .i64 z9] 27)).cell? ⟨bk, off + 7, none⟩ = some (.int .u8 z7) ∧ ((w.alloc (.cells #[.int .i64 0, .int .i64 0, .int .i64 0] 27)).drew.alloc (.cells #[.int .i64 A, .int .i64 B, .int .i64 z9] 27)).cell? ⟨bk, off + 8, none⟩ = some (.int .u8 z8) ∧ ((w.alloc (.cells #[.int .i64 0, .int .i64 0, .int .i64 0] 27)).drew.alloc (.cells #[.int .i64 A, .int .i64 B, .int .i64 z9] 27)).cell? ⟨bk, off + 9, none⟩ = some (.int .u8 z9) := HSX.out _ (below_alloc _ _)
  refine hK.out _ _ hSnew (fun hHeld26 => ?_)
  clear hK K hSnew
  clear hHeld
  have hHeld := hHeld26
  clear hHeld26
  try simp only [Act.put, List.setIfInBounds_toArray, List.set_cons_zero, List.set_cons_succ]
  refine wpAnyH_done (by kernel_rfl) ?_ _
  clear hHeld k0 k1 k2 k3 k4
  have HT : Hid (Below w.heap.size w (((w.alloc (.cells #[.int .i64 0, .int .i64 0, .int .i64 0] 27)).alloc (.cells #[.int .i64 A, .int .i64 B, .int .i64 z9] 27)).drew)) := below_trans (below_trans (below_alloc w _) (below_alloc _ _)) (below_drew _)
  have HU1 : Hid ((((w.alloc (.cells #[.int .i64 0, .int .i64 0, .int .i64 0] 27)).alloc (.cells #[.int .i64 A, .int .i64 B, .int .i64 z9] 27)).drew).heap[w.heap.size + 1]? = some (.cells #[.int .i64 A, .int .i64 B, .int .i64 z9] 27 (0, 0))) := by
    have h9 := heap_alloc_new (w.alloc (.cells #[.int .i64 0, .int .i64 0, .int .i64 0] 27)) (.cells #[.int .i64 A, .int .i64 B, .int .i64 z9] 27)
    rw [World.size_alloc w] at h9
    exact h9
  have HU0 : Hid ((((w.alloc (.cells #[.int .i64 0, .int .i64 0, .int .i64 0] 27)).alloc (.cells #[.int .i64 A, .int .i64 B, .int .i64 z9] 27)).drew).heap[w.heap.size]? = some (.cells #[.int .i64 0, .int .i64 0, .int .i64 0] 27 (0, 0))) := by
    exact (Below.heap_alloc (w.alloc (.cells #[.int .i64 0, .int .i64 0, .int .i64 0] 27)) (.cells #[.int .i64 A, .int .i64 B, .int .i64 z9] 27) _ (by rw [World.size_alloc w]; omega)).trans (heap_alloc_new w _)
  obtain ⟨U, hU⟩ : ∃ U, ((w.alloc (.cells #[.int .i64 0, .int .i64 0, .int .i64 0] 27)).alloc (.cells #[.int .i64 A, .int .i64 B, .int .i64 z9] 27)).drew = U := ⟨_, rfl⟩
  rw [hU] at HT HU1 HU0 ⊢
  clear hU HS0 HSX HR1
  obtain ⟨a0, a1, a2, a3, a4, a5⟩ := blk3_cells HU1.out
  cases hf : Fits A B z9 with
  | false =>
    have HGE2 : Hid (geoE bs = 40) := by unfold Hid; rw [HGE.out, hf]; rfl
    have HF : Hid (Fits A B z9 = false) := hf
    clear hf HGE
    go_wp2_with (first
      | (go_at_call 48; refine (shape_any _ _ _ _).mono ?_; rintro e u1 ⟨rfl, bl⟩; rw [HF.out]
         have HB1 : Hid (Below w.heap.size w u1) := below_trans HT.out bl
         have HV0 : Hid (u1.heap[w.heap.size]? = some (.cells #[.int .i64 0, .int .i64 0, .int .i64 0] 27 (0, 0))) := (bl.block _ (lt_of_bk HU0.out)).trans HU0.out
         have HV1 : Hid (u1.heap[w.heap.size + 1]? = some (.cells #[.int .i64 A, .int .i64 B, .int .i64 z9] 27 (0, 0))) := (bl.block _ (lt_of_bk HU1.out)).trans HU1.out
         clear bl a0 a1 a2 a3 a4 a5
         obtain ⟨a0, a1, a2, a3, a4, a5⟩ := blk3_cells HV1.out
         obtain ⟨c0, c1, c2, c3, c4, c5⟩ := blk3_cells HV0.out))
    exact bodyPost_ret (v := .tuple #[.agg #[.int .i64 0, .int .i64 0, .int .i64 0], .int .i64 40]) (by obtain ⟨y0, y1, y2, _⟩ := blk3_cells (blk3_2 (blk3_1 (blk3_0 HV0.out (.int .i64 0)) (.int .i64 0)) (.int .i64 0)); simp [results, Tryd.results27, go_sem, y0, y1, y2]) rfl ⟨Or.inl ⟨by rw [HGE2.out]; decide, by rw [HGE2.out]⟩, below_grown HB1.out (grown3 _ _ _ _ _) (Nat.le_refl _)⟩
  | true =>
    have HGE2 : Hid (geoE bs = 0) := by unfold Hid; rw [HGE.out, hf]; rfl
    have HF : Hid (Fits A B z9 = true) := hf
    clear hf HGE
    go_wp2_with (first
      | (go_at_call 48; refine (shape_any _ _ _ _).mono ?_; rintro e u1 ⟨rfl, bl⟩; rw [HF.out]
         have HB1 : Hid (Below w.heap.size w u1) := below_trans HT.out bl
         have HV0 : Hid (u1.heap[w.heap.size]? = some (.cells #[.int .i64 0, .int .i64 0, .int .i64 0] 27 (0, 0))) := (bl.block _ (lt_of_bk HU0.out)).trans HU0.out
         have HV1 : Hid (u1.heap[w.heap.size + 1]? = some (.cells #[.int .i64 A, .int .i64 B, .int .i64 z9] 27 (0, 0))) := (bl.block _ (lt_of_bk HU1.out)).trans HU1.out
         clear bl a0 a1 a2 a3 a4 a5
         obtain ⟨a0, a1, a2, a3, a4, a5⟩ := blk3_cells HV1.out
         obtain ⟨c0, c1, c2, c3, c4, c5⟩ := blk3_cells HV0.out))
    exact bodyPost_ret (v := .tuple #[.agg #[.int .i64 A, .int .i64 B, .int .i64 z9], .int .i64 0]) (by obtain ⟨y0, y1, y2, _⟩ := blk3_cells (blk3_2 (blk3_1 (blk3_0 HV0.out (.int .i64 A)) (.int .i64 B)) (.int .i64 z9)); simp [results, Tryd.results27, go_sem, y0, y1, y2]) rfl ⟨Or.inr ⟨HGE2.out, rfl⟩, below_grown HB1.out (grown3 _ _ _ _ _) (Nat.le_refl _)⟩
theorem rgeo_any (a : Option Addr) (n c : Nat) (bs : List Int) (w : World) (hr : Reads w a n bs) (hn : n ≤ 200000000000000) :
    Calls Tryd.prog 27 #[.slice a n c] w fun e w' => (geoE bs ≠ 0 ∧ e = .returned (.tuple #[.agg #[.int .i64 0, .int .i64 0, .int .i64 0], .int .i64 (geoE bs)]) ∨ geoE bs = 0 ∧ e = .returned (.tuple #[.agg #[.int .i64 (bs.getD 5 0 + 256 * bs.getD 6 0), .int .i64 (bs.getD 7 0 + 256 * bs.getD 8 0), .int .i64 (bs.getD 9 0)], .int .i64 0])) ∧ Below w.heap.size w w' := by
  by_cases h1 : bs.take 4 = [83, 72, 65, 76]
  · by_cases h2 : n < 10 ∨ bs.getD 4 0 ≠ 1
    · exact rgeo_some a n c bs w hr hn h1 h2
    · exact rgeo_ten a n c bs w hr hn h1 (by omega) (by omega)
  · exact rgeo_bad a n c bs w hr hn h1

end Go.Proofs.YteefekhlbillfaaDoor
