/-
  SEAT Ytadlkikjfonkgaa: Oc.
-/
import Derived.Test.YtadlkikjfonkgaaZf
import Derived.Test.YtadlkikjfonkgaaZe
import Derived.Test.YtadlkikjfonkgaaZd
namespace Go.Proofs.Ytadlkikjfonkgaa
open Go.RowKit Go.Conc
set_option linter.unusedVariables false

def dsum (xs ys : List Int) : Nat → Nat
  | 0 => 0
  | m + 1 => dsum xs ys m + (8 - zb (bits .xor .u8 (xs.getD m 0) (ys.getD m 0)))
theorem dsum_le (xs ys : List Int) : ∀ m, dsum xs ys m ≤ 8 * m
  | 0 => Nat.le_refl _
  | m + 1 => by have := dsum_le xs ys m; rw [dsum]; omega
theorem xor_self8 {x : Int} (h : 0 ≤ x ∧ x ≤ 255) : bits .xor .u8 x x = 0 := by
  obtain ⟨X, rfl, hX⟩ := nat_of h
  rw [u8_xor_nat X X hX hX, Nat.xor_self]; rfl
theorem xor_back8 {x : Int} (h : 0 ≤ x ∧ x ≤ 255) {m : Nat} (hm : m < 8) : bits .xor .u8 x (bits .xor .u8 x (2 ^ m % 256)) = 2 ^ m % 256 := by
  obtain ⟨X, rfl, hX⟩ := nat_of h
  have h1 : (2 : Nat) ^ m < 256 := Nat.lt_of_lt_of_le (Nat.pow_lt_pow_right (by omega) hm) (by decide)
  have hp : (2 : Int) ^ m % 256 = ((2 ^ m : Nat) : Int) := by
    have h2 : ((2 ^ m : Nat) : Int) = (2 : Int) ^ m := by rw [Int.natCast_pow]; rfl
    rw [← h2]
    exact Int.emod_eq_of_lt (Int.natCast_nonneg _) (Int.ofNat_lt.2 h1)
  rw [hp, u8_xor_nat X _ hX h1, u8_xor_nat X _ hX (Nat.xor_lt_two_pow (n := 8) hX h1), ← Nat.xor_assoc, Nat.xor_self, Nat.zero_xor]
theorem zb_pow : ∀ m : Nat, m < 8 → zb ((2 : Int) ^ m % 256) = 7 := by decide +kernel
theorem dsum_flip {xs : List Int} (hb : Byt xs) {j : Nat} (hj : j < 8 * xs.length) : ∀ m, dsum xs (flipL xs j) m = if j / 8 < m then 1 else 0
  | 0 => rfl
  | m + 1 => by
    rw [dsum, dsum_flip hb hj m]
    unfold flipL
    rw [getD_set' _ _ _ _ (by omega)]
    by_cases e : j / 8 = m
    · rw [if_pos e, e, xor_back8 (getD_range hb _) (Nat.mod_lt _ (by omega)), zb_pow _ (Nat.mod_lt _ (by omega)), if_neg (by omega), if_pos (by omega)]
    · rw [if_neg e, xor_self8 (getD_range hb _)]
      have z0 : zb 0 = 8 := by decide
      rw [z0]
      by_cases h : j / 8 < m
      · rw [if_pos h, if_pos (by omega)]
      · rw [if_neg h, if_neg (by omega)]
set_option maxHeartbeats 8000000 in
set_option maxRecDepth 100000 in
theorem goes_same (w : World) (o : Opc) (da : Option Addr) (dn dc : Nat) (za : Option Addr) (zn zc : Nat) (done : Bool) (i k : Nat) (ga ca gb cb : Nat) (xs ys : List Int) (hx : Reads w (some ⟨ga, 0, none⟩) 313 xs) (hy : Reads w (some ⟨gb, 0, none⟩) 313 ys) (fl : Bool) (hE : ys = xs) (hG : GoA o done i k) : Calls Try.prog 26 #[.agg #[.int .i64 o.k, .int .i64 o.b, .int .i64 o.p, .int .i64 o.bit, .bool o.fit, .slice da dn dc, .slice za zn zc], .bool done, .agg #[.int .i64 (i : Int), .int .i64 (k : Int)], .slice (some ⟨ga, 0, none⟩) 313 ca, .slice (some ⟨gb, 0, none⟩) 313 cb, .bool fl] w fun e w' => e = .returned (.bool true) ∧ Below w.heap.size w w' := by
  subst hE
  have hb0 := below_trans (below_alloc w (.cells #[.int .i64 o.k, .int .i64 o.b, .int .i64 o.p, .int .i64 o.bit, .bool o.fit, .slice da dn dc, .slice za zn zc] 56)) (below_alloc _ (.cells #[.int .i64 (i : Int), .int .i64 (k : Int)] 41))
  have HB0 := hide hb0
  have HXR := hide (hx.below hb0)
  have HYR := hide (hy.below hb0)
  have HO1 : Hid (((w.alloc (.cells #[.int .i64 o.k, .int .i64 o.b, .int .i64 o.p, .int .i64 o.bit, .bool o.fit, .slice da dn dc, .slice za zn zc] 56)).alloc (.cells #[.int .i64 (i : Int), .int .i64 (k : Int)] 41)).heap[w.heap.size]? = some (.cells #[.int .i64 o.k, .int .i64 o.b, .int .i64 o.p, .int .i64 o.bit, .bool o.fit, .slice da dn dc, .slice za zn zc] 56 (0, 0))) := (alloc_old _ _ (by simp)).trans (alloc_new w _)
  have HP1 : Hid (((w.alloc (.cells #[.int .i64 o.k, .int .i64 o.b, .int .i64 o.p, .int .i64 o.bit, .bool o.fit, .slice da dn dc, .slice za zn zc] 56)).alloc (.cells #[.int .i64 (i : Int), .int .i64 (k : Int)] 41)).heap[w.heap.size + 1]? = some (.cells #[.int .i64 (i : Int), .int .i64 (k : Int)] 41 (0, 0))) := by
    have h9 := alloc_new (w.alloc (.cells #[.int .i64 o.k, .int .i64 o.b, .int .i64 o.p, .int .i64 o.bit, .bool o.fit, .slice da dn dc, .slice za zn zc] 56)) (.cells #[.int .i64 (i : Int), .int .i64 (k : Int)] 41)
    rw [alloc_size] at h9
    exact h9
  clear hb0 hx hy
  have v1 := conv (some ⟨ga, 0, none⟩) 313 ca ys _ HXR.out
  have v2 := conv (some ⟨gb, 0, none⟩) 313 cb ys _ HYR.out
  obtain ⟨y0, y1, y2, y3, _⟩ := cells7 HO1.out
  obtain ⟨z0, z1⟩ := cells2 HP1.out
  cases done with
  | false =>
    clear hG
    go_enter Try.func26, Try.ntmps26
    go_wp2
    go_ret
    exact ⟨rfl, HB0.out⟩
  | true =>
    by_cases h4 : 4 < o.k
    · have d4 : decide (4 < o.k) = true := decide_eq_true h4
      have d4' : decide (o.k > 4) = true := decide_eq_true h4
      clear h4 hG
      go_enter Try.func26, Try.ntmps26
      go_wp2
      go_ret
      exact ⟨rfl, HB0.out⟩
    have d4 : decide (4 < o.k) = false := decide_eq_false h4
    have d4' : decide (o.k > 4) = false := decide_eq_false h4
    by_cases h1 : o.k < 1
    · have d1 : decide (o.k < 1) = true := decide_eq_true h1
      clear h4 hG h1
      go_enter Try.func26, Try.ntmps26
      go_wp2
      go_ret
      exact ⟨rfl, HB0.out⟩
    have d1 : decide (o.k < 1) = false := decide_eq_false h1
    by_cases h3 : o.k = 3
    · have d3 : (o.k == 3) = true := by rw [h3]; rfl
      clear h4 hG h1 h3
      go_enter Try.func26, Try.ntmps26
      go_wp2
      go_ret
      exact ⟨rfl, HB0.out⟩
    have d3 : (o.k == 3) = false := by simp [h3]
    by_cases h2 : o.k = 2
    · have hb : o.b ≠ (i : Int) := by
        rcases hG with h9 | h9 | h9 | h9 | h9 | h9
        · cases h9
        · omega
        · omega
        · omega
        · exact h9.2
        · omega
      have d2 : (o.k == 2) = true := by rw [h2]; rfl
      have db : (o.b == (i : Int)) = false := by simp [hb]
      have db' : (o.b != (i : Int)) = true := by simp [hb]
      clear h4 hG h1 h3 h2 hb
      go_enter Try.func26, Try.ntmps26
      go_wp2
      go_ret
      exact ⟨rfl, HB0.out⟩
    · have hb : ¬ (o.b = (i : Int) ∧ o.p = (k : Int)) := by
        rcases hG with h9 | h9 | h9 | h9 | h9 | h9
        · cases h9
        · omega
        · omega
        · omega
        · omega
        · exact h9.2
      have d2 : (o.k == 2) = false := by simp [h2]
      have d2' : (o.k != 2) = true := by simp [h2]
      by_cases hbi : o.b = (i : Int)
      · have db : (o.b == (i : Int)) = true := by simp [hbi]
        have dp : (o.p == (k : Int)) = false := by
          have : ¬ o.p = (k : Int) := fun h9 => hb ⟨hbi, h9⟩
          simp [this]
        clear h4 hG h1 h3 h2 hb hbi
        go_enter Try.func26, Try.ntmps26
        go_wp2
        go_ret
        exact ⟨rfl, HB0.out⟩
      · have db : (o.b == (i : Int)) = false := by simp [hbi]
        clear h4 hG h1 h3 h2 hb hbi
        go_enter Try.func26, Try.ntmps26
        go_wp2
        go_ret
        exact ⟨rfl, HB0.out⟩
theorem xor_rng2 {x y : Int} (hx : 0 ≤ x ∧ x ≤ 255) (hy : 0 ≤ y ∧ y ≤ 255) : 0 ≤ bits .xor .u8 x y ∧ bits .xor .u8 x y ≤ 255 := by
  obtain ⟨X, rfl, hX⟩ := nat_of hx
  obtain ⟨Y, rfl, hY⟩ := nat_of hy
  have h := Nat.xor_lt_two_pow (n := 8) hX hY
  rw [u8_xor_nat X Y hX hY]
  omega
theorem reads_one2 {u : World} {g : Nat} {z : Int} (h : u.heap[g]? = some (.cells #[.int .u8 z] 5 (0, 0))) (hz : 0 ≤ z ∧ z ≤ 255) : Reads u (some ⟨g, 0, none⟩) 1 [z] := by
  refine ⟨rfl, fun n hn => ?_, (fun h9 => by cases h9), fun x hx i hi => ?_⟩
  · simp at hn; subst hn; exact hz
  · cases hx
    have e : i = 0 := by omega
    subst e
    simp [World.cell?, h, Addr.add]
set_option maxHeartbeats 8000000 in
set_option maxRecDepth 100000 in
theorem goes_one (w : World) (o : Opc) (da : Option Addr) (dn dc : Nat) (za : Option Addr) (zn zc : Nat)  (i k : Nat) (ga ca gb cb : Nat) (xs ys : List Int) (hx : Reads w (some ⟨ga, 0, none⟩) 313 xs) (hy : Reads w (some ⟨gb, 0, none⟩) 313 ys) (fl : Bool) (hk : o.k = 1) (hp : o.b = (i : Int) ∧ o.p = (k : Int)) (hG : ∀ j, j < xs.length → bits .andNot .u8 (ys.getD j 0) (xs.getD j 0) = 0) : Calls Try.prog 26 #[.agg #[.int .i64 o.k, .int .i64 o.b, .int .i64 o.p, .int .i64 o.bit, .bool o.fit, .slice da dn dc, .slice za zn zc], .bool true, .agg #[.int .i64 (i : Int), .int .i64 (k : Int)], .slice (some ⟨ga, 0, none⟩) 313 ca, .slice (some ⟨gb, 0, none⟩) 313 cb, .bool fl] w fun e w' => e = .returned (.bool true) ∧ Below w.heap.size w w' := by
  have d4 : decide (4 < o.k) = false := decide_eq_false (by omega)
  have d4' : decide (o.k > 4) = false := decide_eq_false (by omega)
  have d1 : decide (o.k < 1) = false := decide_eq_false (by omega)
  have d3 : (o.k == 3) = false := by rw [hk]; rfl
  have d2 : (o.k == 2) = false := by rw [hk]; rfl
  have d2' : (o.k != 2) = true := by rw [hk]; rfl
  have d5 : (o.k == 1) = true := by rw [hk]; rfl
  have d6 : (o.k == 4) = false := by rw [hk]; rfl
  have db : (o.b == (i : Int)) = true := by simp [hp.1]
  have dp : (o.p == (k : Int)) = true := by simp [hp.2]
  have HGO := hide hG
  have HXL : Hid (xs.length = 313) := hx.1
  have HXB : Hid (Byt xs) := hx.2.1
  have HYB : Hid (Byt ys) := hy.2.1
  have hb0 := below_trans (below_alloc w (.cells #[.int .i64 o.k, .int .i64 o.b, .int .i64 o.p, .int .i64 o.bit, .bool o.fit, .slice da dn dc, .slice za zn zc] 56)) (below_alloc _ (.cells #[.int .i64 (i : Int), .int .i64 (k : Int)] 41))
  have HB0 := hide hb0
  have HXR := hide (hx.below hb0)
  have HYR := hide (hy.below hb0)
  have HO1 : Hid (((w.alloc (.cells #[.int .i64 o.k, .int .i64 o.b, .int .i64 o.p, .int .i64 o.bit, .bool o.fit, .slice da dn dc, .slice za zn zc] 56)).alloc (.cells #[.int .i64 (i : Int), .int .i64 (k : Int)] 41)).heap[w.heap.size]? = some (.cells #[.int .i64 o.k, .int .i64 o.b, .int .i64 o.p, .int .i64 o.bit, .bool o.fit, .slice da dn dc, .slice za zn zc] 56 (0, 0))) := (alloc_old _ _ (by simp)).trans (alloc_new w _)
  have HP1 : Hid (((w.alloc (.cells #[.int .i64 o.k, .int .i64 o.b, .int .i64 o.p, .int .i64 o.bit, .bool o.fit, .slice da dn dc, .slice za zn zc] 56)).alloc (.cells #[.int .i64 (i : Int), .int .i64 (k : Int)] 41)).heap[w.heap.size + 1]? = some (.cells #[.int .i64 (i : Int), .int .i64 (k : Int)] 41 (0, 0))) := by
    have h9 := alloc_new (w.alloc (.cells #[.int .i64 o.k, .int .i64 o.b, .int .i64 o.p, .int .i64 o.bit, .bool o.fit, .slice da dn dc, .slice za zn zc] 56)) (.cells #[.int .i64 (i : Int), .int .i64 (k : Int)] 41)
    rw [alloc_size] at h9
    exact h9
  clear hb0 hx hy
  obtain ⟨y0, y1, y2, y3, _⟩ := cells7 HO1.out
  obtain ⟨z0, z1⟩ := cells2 HP1.out
  clear hk hp hG
  go_enter Try.func26, Try.ntmps26
  go_wp2
  generalize hU : (w.alloc (.cells #[.int .i64 o.k, .int .i64 o.b, .int .i64 o.p, .int .i64 o.bit, .bool o.fit, .slice da dn dc, .slice za zn zc] 56)).alloc (.cells #[.int .i64 (i : Int), .int .i64 (k : Int)] 41) = U at HB0 HXR HYR HO1 HP1 y0 y1 y2 y3 z0 z1 ⊢
  clear hU
  go_loopw [13, 14] (fun s13 s14 wr => ∃ m : Nat, m ≤ 313 ∧ s14 = .int .i64 m ∧ s13 = .int .i64 (dsum xs ys m) ∧ Hid (Below U.heap.size U wr)) (fun _ s14 _ => 313 - (intOf s14).toNat)
  case atStart => exact ⟨0, by omega, rfl, rfl, Below.refl _ _⟩
  case round =>
    obtain ⟨m, hm, rfl, rfl, HJ⟩ := hrel
    clear y1 y2 y3 z0 z1
    have y0 := (HJ.out.cell (block_lt_of_cell y0)).trans y0
    by_cases hlt : m < 313
    · have dm : decide ((m : Int) < 313) = true := decide_eq_true (by omega)
      have m1 : (m : Int) < 313 := by omega
      obtain ⟨xm, hxm⟩ : ∃ z, z = xs.getD m 0 := ⟨_, rfl⟩
      obtain ⟨ym, hym⟩ : ∃ z, z = ys.getD m 0 := ⟨_, rfl⟩
      have hcx := (HXR.out.below HJ.out).2.2.2 ⟨ga, 0, none⟩ rfl m hlt
      have hcy := (HYR.out.below HJ.out).2.2.2 ⟨gb, 0, none⟩ rfl m hlt
      rw [plain_add, Nat.zero_add, ← hxm] at hcx
      rw [plain_add, Nat.zero_add, ← hym] at hcy
      have hand : bits .andNot .u8 ym xm = 0 := by rw [hxm, hym]; exact HGO.out m (by rw [HXL.out]; omega)
      have HCE : Hid (wr.cell? ⟨w.heap.size, 0, none⟩ = some (.int .i64 o.k) ∧ wr.cell? ⟨ga, m, none⟩ = some (.int .u8 xm) ∧ wr.cell? ⟨gb, m, none⟩ = some (.int .u8 ym)) := ⟨y0, hcx, hcy⟩
      have HCE1 : Hid (wr.drew.cell? ⟨w.heap.size, 0, none⟩ = some (.int .i64 o.k) ∧ wr.drew.cell? ⟨ga, m, none⟩ = some (.int .u8 xm) ∧ wr.drew.cell? ⟨gb, m, none⟩ = some (.int .u8 ym)) := ⟨y0, hcx, hcy⟩
      have HXY : Hid (0 ≤ (bits .xor .u8 xm ym) ∧ (bits .xor .u8 xm ym) ≤ 255) := xor_rng2 (by rw [hxm]; exact getD_range HXB.out _) (by rw [hym]; exact getD_range HYB.out _)
      have HDS : Hid (dsum xs ys (m + 1) = dsum xs ys m + (8 - zb (bits .xor .u8 xm ym))) := by rw [hxm, hym]; rfl
      have HZB : Hid (zb (bits .xor .u8 xm ym) ≤ 8) := by show zb (bits .xor .u8 xm ym) ≤ 8; unfold zb; omega
      have HZS : Hid (((zsum [(bits .xor .u8 xm ym)] : Nat) : Int) = ((zb (bits .xor .u8 xm ym) : Nat) : Int)) := rfl
      have HDL := hide (dsum_le xs ys m)
      clear hxm hym hcx hcy y0
      go_upto_region 9 with fail
      refine wp_region_held_drew (S := (fun u => u.cell? ⟨w.heap.size, 0, none⟩ = some (.int .i64 o.k) ∧ u.cell? ⟨ga, m, none⟩ = some (.int .u8 xm) ∧ u.cell? ⟨gb, m, none⟩ = some (.int .u8 ym))) (by kernel_rfl) (HCE.out) (fun hHeld => ?_)
      refine wpAnyH_take (i := 0) (oi := { dst := some 77, op := Op.fieldAddr 56 (Operand.tmp 6) 0, type := 0, pos := "outright.go:125", after := #[], guard := none }) (v := ?v0onea) rfl (by kernel_rfl) (by kernel_rfl) (by kernel_rfl) (fun _ _ _ h => h) (Or.inl ⟨by rfl, ?y0onea⟩) (by assumption) ?r0onea
      case y0onea => (intro x hx; (try dsimp only at hx); go_simp; try with_reducible rfl)
      try simp only [Act.put, List.setIfInBounds_toArray, List.set_cons_zero, List.set_cons_succ]
      refine wpAnyH_take (i := 1) (oi := { dst := some 78, op := Op.load 3 (Operand.tmp 77), type := 3, pos := "outright.go:125", after := #[{ on := 0, ground := Ground.data }], guard := none }) (v := ?v1onea) rfl (by kernel_rfl) (by kernel_rfl) (by kernel_rfl) (fun _ _ _ h => h) (Or.inl ⟨by rfl, ?y1onea⟩) (by assumption) ?r1onea
      case y1onea => (intro x hx; (try dsimp only at hx); go_simp; try with_reducible rfl)
      try simp only [Act.put, List.setIfInBounds_toArray, List.set_cons_zero, List.set_cons_succ]
      refine wpAnyH_take (i := 2) (oi := { dst := some 79, op := Op.binOp BinOp.eql 3 (Operand.tmp 78) (Operand.const (Value.int IntKind.i64 1)) 3, type := 4, pos := "outright.go:125", after := #[{ on := 1, ground := Ground.data }], guard := none }) (v := ?v2onea) rfl (by kernel_rfl) (by kernel_rfl) (by kernel_rfl) (fun _ _ _ h => h) (Or.inl ⟨by rfl, ?y2onea⟩) (by assumption) ?r2onea
      case y2onea => (intro x hx; (try dsimp only at hx); go_simp; try with_reducible rfl)
      try simp only [Act.put, List.setIfInBounds_toArray, List.set_cons_zero, List.set_cons_succ]
      refine wpAnyH_take (i := 3) (oi := { dst := some 80, op := Op.move (Operand.tmp 79), type := 4, pos := "outright.go:125", after := #[{ on := 2, ground := Ground.data }], guard := none }) (v := ?v3onea) rfl (by kernel_rfl) (by kernel_rfl) (by kernel_rfl) (fun _ _ _ h => h) (Or.inl ⟨by rfl, ?y3onea⟩) (by assumption) ?r3onea
      case y3onea => (intro x hx; (try dsimp only at hx); go_simp; try with_reducible rfl)
      try simp only [Act.put, List.setIfInBounds_toArray, List.set_cons_zero, List.set_cons_succ]
      refine wpAnyH_take (i := 4) (oi := { dst := some 81, op := Op.move (Operand.tmp 4), type := 24, pos := "outright.go:125", after := #[{ on := 3, ground := Ground.guard }], guard := some (3, true) }) (v := ?v4onea) rfl (by kernel_rfl) (by kernel_rfl) (by kernel_rfl) (fun _ _ _ h => h) (Or.inl ⟨by rfl, ?y4onea⟩) (by assumption) ?r4onea
      case y4onea => (intro x hx; (try dsimp only at hx); go_simp; try with_reducible rfl)
      try simp only [Act.put, List.setIfInBounds_toArray, List.set_cons_zero, List.set_cons_succ]
      refine wpAnyH_take (i := 5) (oi := { dst := some 82, op := Op.move (Operand.tmp 14), type := 3, pos := "outright.go:125", after := #[{ on := 3, ground := Ground.guard }], guard := some (3, true) }) (v := ?v5onea) rfl (by kernel_rfl) (by kernel_rfl) (by kernel_rfl) (fun _ _ _ h => h) (Or.inl ⟨by rfl, ?y5onea⟩) (by assumption) ?r5onea
      case y5onea => (intro x hx; (try dsimp only at hx); go_simp; try with_reducible rfl)
      try simp only [Act.put, List.setIfInBounds_toArray, List.set_cons_zero, List.set_cons_succ]
      refine wpAnyH_take (i := 6) (oi := { dst := some 83, op := Op.indexAddr 24 (Operand.tmp 81) (Operand.tmp 82), type := 0, pos := "outright.go:125", after := #[{ on := 4, ground := Ground.data }, { on := 5, ground := Ground.data }, { on := 3, ground := Ground.guard }], guard := some (3, true) }) (v := ?v6onea) rfl (by kernel_rfl) (by kernel_rfl) (by kernel_rfl) (fun _ _ _ h => h) (Or.inl ⟨by rfl, ?y6onea⟩) (by assumption) ?r6onea
      case y6onea => (intro x hx; (try dsimp only at hx); go_simp; try with_reducible rfl)
      try simp only [Act.put, List.setIfInBounds_toArray, List.set_cons_zero, List.set_cons_succ]
      refine wpAnyH_take (i := 7) (oi := { dst := some 84, op := Op.load 5 (Operand.tmp 83), type := 5, pos := "outright.go:125", after := #[{ on := 6, ground := Ground.data }, { on := 3, ground := Ground.guard }], guard := some (3, true) }) (v := ?v7onea) rfl (by kernel_rfl) (by kernel_rfl) (by kernel_rfl) (fun _ _ _ h => h) (Or.inl ⟨by rfl, ?y7onea⟩) (by assumption) ?r7onea
      case y7onea => (intro x hx; (try dsimp only at hx); go_simp; try with_reducible rfl)
      try simp only [Act.put, List.setIfInBounds_toArray, List.set_cons_zero, List.set_cons_succ]
      refine wpAnyH_take (i := 8) (oi := { dst := some 85, op := Op.move (Operand.tmp 3), type := 24, pos := "outright.go:125", after := #[{ on := 3, ground := Ground.guard }], guard := some (3, true) }) (v := ?v8onea) rfl (by kernel_rfl) (by kernel_rfl) (by kernel_rfl) (fun _ _ _ h => h) (Or.inl ⟨by rfl, ?y8onea⟩) (by assumption) ?r8onea
      case y8onea => (intro x hx; (try dsimp only at hx); go_simp; try with_reducible rfl)
      try simp only [Act.put, List.setIfInBounds_toArray, List.set_cons_zero, List.set_cons_succ]
      refine wpAnyH_take (i := 9) (oi := { dst := some 86, op := Op.move (Operand.tmp 14), type := 3, pos := "outright.go:125", after := #[{ on := 3, ground := Ground.guard }], guard := some (3, true) }) (v := ?v9onea) rfl (by kernel_rfl) (by kernel_rfl) (by kernel_rfl) (fun _ _ _ h => h) (Or.inl ⟨by rfl, ?y9onea⟩) (by assumption) ?r9onea
      case y9onea => (intro x hx; (try dsimp only at hx); go_simp; try with_reducible rfl)
      try simp only [Act.put, List.setIfInBounds_toArray, List.set_cons_zero, List.set_cons_succ]
      refine wpAnyH_take (i := 10) (oi := { dst := some 87, op := Op.indexAddr 24 (Operand.tmp 85) (Operand.tmp 86), type := 0, pos := "outright.go:125", after := #[{ on := 8, ground := Ground.data }, { on := 9, ground := Ground.data }, { on := 3, ground := Ground.guard }], guard := some (3, true) }) (v := ?v10onea) rfl (by kernel_rfl) (by kernel_rfl) (by kernel_rfl) (fun _ _ _ h => h) (Or.inl ⟨by rfl, ?y10onea⟩) (by assumption) ?r10onea
      case y10onea => (intro x hx; (try dsimp only at hx); go_simp; try with_reducible rfl)
      try simp only [Act.put, List.setIfInBounds_toArray, List.set_cons_zero, List.set_cons_succ]
      refine wpAnyH_take (i := 11) (oi := { dst := some 88, op := Op.load 5 (Operand.tmp 87), type := 5, pos := "outright.go:125", after := #[{ on := 10, ground := Ground.data }, { on := 3, ground := Ground.guard }], guard := some (3, true) }) (v := ?v11onea) rfl (by kernel_rfl) (by kernel_rfl) (by kernel_rfl) (fun _ _ _ h => h) (Or.inl ⟨by rfl, ?y11onea⟩) (by assumption) ?r11onea
      case y11onea => (intro x hx; (try dsimp only at hx); go_simp; try with_reducible rfl)
      try simp only [Act.put, List.setIfInBounds_toArray, List.set_cons_zero, List.set_cons_succ]
      refine wpAnyH_take (i := 12) (oi := { dst := some 89, op := Op.binOp BinOp.andNot 5 (Operand.tmp 84) (Operand.tmp 88) 5, type := 5, pos := "outright.go:125", after := #[{ on := 7, ground := Ground.data }, { on := 11, ground := Ground.data }, { on := 3, ground := Ground.guard }], guard := some (3, true) }) (v := ?v12onea) rfl (by kernel_rfl) (by kernel_rfl) (by kernel_rfl) (fun _ _ _ h => h) (Or.inl ⟨by rfl, ?y12onea⟩) (by assumption) ?r12onea
      case y12onea => (intro x hx; (try dsimp only at hx); go_simp; try with_reducible rfl)
      try simp only [Act.put, List.setIfInBounds_toArray, List.set_cons_zero, List.set_cons_succ]
      refine wpAnyH_take (i := 13) (oi := { dst := some 90, op := Op.binOp BinOp.neq 5 (Operand.tmp 89) (Operand.const (Value.int IntKind.u8 0)) 5, type := 4, pos := "outright.go:125", after := #[{ on := 12, ground := Ground.data }, { on := 3, ground := Ground.guard }], guard := some (3, true) }) (v := ?v13onea) rfl (by kernel_rfl) (by kernel_rfl) (by kernel_rfl) (fun _ _ _ h => h) (Or.inl ⟨by rfl, ?y13onea⟩) (by assumption) ?r13onea
      case y13onea => (intro x hx; (try dsimp only at hx); go_simp; try with_reducible rfl)
      try simp only [Act.put, List.setIfInBounds_toArray, List.set_cons_zero, List.set_cons_succ]
      refine wpAnyH_take (i := 14) (oi := { dst := some 91, op := Op.pick (Operand.tmp 80) (Operand.tmp 90) (Operand.const (Value.bool false)), type := 4, pos := "outright.go:125", after := #[{ on := 3, ground := Ground.data }, { on := 13, ground := Ground.data }], guard := none }) (v := ?v14onea) rfl (by kernel_rfl) (by kernel_rfl) (by kernel_rfl) (fun _ _ _ h => h) (Or.inl ⟨by rfl, ?y14onea⟩) (by assumption) ?r14onea
      case y14onea => (intro x hx; (try dsimp only at hx); go_simp; try with_reducible rfl)
      try simp only [Act.put, List.setIfInBounds_toArray, List.set_cons_zero, List.set_cons_succ]
      refine wpAnyH_take (i := 15) (oi := { dst := some 92, op := Op.move (Operand.tmp 91), type := 4, pos := "outright.go:125", after := #[{ on := 14, ground := Ground.data }, { on := 3, ground := Ground.chain }], guard := none }) (v := ?v15onea) rfl (by kernel_rfl) (by kernel_rfl) (by kernel_rfl) (fun _ _ _ h => h) (Or.inl ⟨by rfl, ?y15onea⟩) (by assumption) ?r15onea
      case y15onea => (intro x hx; (try dsimp only at hx); go_simp; try with_reducible rfl)
      try simp only [Act.put, List.setIfInBounds_toArray, List.set_cons_zero, List.set_cons_succ]
      refine wpAnyH_take (i := 16) (oi := { dst := some 93, op := Op.fieldAddr 56 (Operand.tmp 6) 0, type := 0, pos := "outright.go:125", after := #[{ on := 15, ground := Ground.guard }], guard := some (15, false) }) (v := ?v16onea) rfl (by kernel_rfl) (by kernel_rfl) (by kernel_rfl) (fun _ _ _ h => h) (Or.inl ⟨by rfl, ?y16onea⟩) (by assumption) ?r16onea
      case y16onea => (intro x hx; (try dsimp only at hx); go_simp; try with_reducible rfl)
      try simp only [Act.put, List.setIfInBounds_toArray, List.set_cons_zero, List.set_cons_succ]
      refine wpAnyH_take (i := 17) (oi := { dst := some 94, op := Op.load 3 (Operand.tmp 93), type := 3, pos := "outright.go:125", after := #[{ on := 16, ground := Ground.data }, { on := 15, ground := Ground.guard }], guard := some (15, false) }) (v := ?v17onea) rfl (by kernel_rfl) (by kernel_rfl) (by kernel_rfl) (fun _ _ _ h => h) (Or.inl ⟨by rfl, ?y17onea⟩) (by assumption) ?r17onea
      case y17onea => (intro x hx; (try dsimp only at hx); go_simp; try with_reducible rfl)
      try simp only [Act.put, List.setIfInBounds_toArray, List.set_cons_zero, List.set_cons_succ]
      refine wpAnyH_take (i := 18) (oi := { dst := some 95, op := Op.binOp BinOp.eql 3 (Operand.tmp 94) (Operand.const (Value.int IntKind.i64 2)) 3, type := 4, pos := "outright.go:125", after := #[{ on := 17, ground := Ground.data }, { on := 15, ground := Ground.guard }], guard := some (15, false) }) (v := ?v18onea) rfl (by kernel_rfl) (by kernel_rfl) (by kernel_rfl) (fun _ _ _ h => h) (Or.inl ⟨by rfl, ?y18onea⟩) (by assumption) ?r18onea
      case y18onea => (intro x hx; (try dsimp only at hx); go_simp; try with_reducible rfl)
      try simp only [Act.put, List.setIfInBounds_toArray, List.set_cons_zero, List.set_cons_succ]
      refine wpAnyH_take (i := 19) (oi := { dst := some 96, op := Op.move (Operand.tmp 95), type := 4, pos := "outright.go:125", after := #[{ on := 18, ground := Ground.data }, { on := 15, ground := Ground.chain }, { on := 15, ground := Ground.guard }], guard := some (15, false) }) (v := ?v19onea) rfl (by kernel_rfl) (by kernel_rfl) (by kernel_rfl) (fun _ _ _ h => h) (Or.inl ⟨by rfl, ?y19onea⟩) (by assumption) ?r19onea
      case y19onea => (intro x hx; (try dsimp only at hx); go_simp; try with_reducible rfl)
      try simp only [Act.put, List.setIfInBounds_toArray, List.set_cons_zero, List.set_cons_succ]
      refine wpAnyH_take (i := 20) (oi := { dst := some 97, op := Op.move (Operand.tmp 5), type := 4, pos := "outright.go:125", after := #[{ on := 19, ground := Ground.guard }], guard := some (19, true) }) (v := undef) rfl (by kernel_rfl) (by kernel_rfl) (by kernel_rfl) (fun _ _ _ h => h) (Or.inr ⟨by rfl, rfl⟩) (by assumption) ?_
      try simp only [Act.put, List.setIfInBounds_toArray, List.set_cons_zero, List.set_cons_succ]
      refine wpAnyH_take (i := 21) (oi := { dst := some 98, op := Op.unOp UnOp.not 4 (Operand.tmp 97), type := 4, pos := "outright.go:125", after := #[{ on := 20, ground := Ground.data }, { on := 19, ground := Ground.guard }], guard := some (19, true) }) (v := undef) rfl (by kernel_rfl) (by kernel_rfl) (by kernel_rfl) (fun _ _ _ h => h) (Or.inr ⟨by rfl, rfl⟩) (by assumption) ?_
      try simp only [Act.put, List.setIfInBounds_toArray, List.set_cons_zero, List.set_cons_succ]
      refine wpAnyH_take (i := 22) (oi := { dst := some 99, op := Op.pick (Operand.tmp 96) (Operand.tmp 98) (Operand.const (Value.bool false)), type := 4, pos := "outright.go:125", after := #[{ on := 19, ground := Ground.data }, { on := 21, ground := Ground.data }, { on := 15, ground := Ground.guard }], guard := some (15, false) }) (v := ?v22onea) rfl (by kernel_rfl) (by kernel_rfl) (by kernel_rfl) (fun _ _ _ h => h) (Or.inl ⟨by rfl, ?y22onea⟩) (by assumption) ?r22onea
      case y22onea => (intro x hx; (try dsimp only at hx); go_simp; try with_reducible rfl)
      try simp only [Act.put, List.setIfInBounds_toArray, List.set_cons_zero, List.set_cons_succ]
      refine wpAnyH_take (i := 23) (oi := { dst := some 100, op := Op.move (Operand.tmp 99), type := 4, pos := "outright.go:125", after := #[{ on := 22, ground := Ground.data }, { on := 19, ground := Ground.chain }, { on := 15, ground := Ground.guard }], guard := some (15, false) }) (v := ?v23onea) rfl (by kernel_rfl) (by kernel_rfl) (by kernel_rfl) (fun _ _ _ h => h) (Or.inl ⟨by rfl, ?y23onea⟩) (by assumption) ?r23onea
      case y23onea => (intro x hx; (try dsimp only at hx); go_simp; try with_reducible rfl)
      try simp only [Act.put, List.setIfInBounds_toArray, List.set_cons_zero, List.set_cons_succ]
      refine wpAnyH_take (i := 24) (oi := { dst := some 101, op := Op.move (Operand.tmp 3), type := 24, pos := "outright.go:125", after := #[{ on := 23, ground := Ground.guard }], guard := some (23, true) }) (v := undef) rfl (by kernel_rfl) (by kernel_rfl) (by kernel_rfl) (fun _ _ _ h => h) (Or.inr ⟨by rfl, rfl⟩) (by assumption) ?_
      try simp only [Act.put, List.setIfInBounds_toArray, List.set_cons_zero, List.set_cons_succ]
      refine wpAnyH_take (i := 25) (oi := { dst := some 102, op := Op.move (Operand.tmp 14), type := 3, pos := "outright.go:125", after := #[{ on := 23, ground := Ground.guard }], guard := some (23, true) }) (v := undef) rfl (by kernel_rfl) (by kernel_rfl) (by kernel_rfl) (fun _ _ _ h => h) (Or.inr ⟨by rfl, rfl⟩) (by assumption) ?_
      try simp only [Act.put, List.setIfInBounds_toArray, List.set_cons_zero, List.set_cons_succ]
      refine wpAnyH_take (i := 26) (oi := { dst := some 103, op := Op.indexAddr 24 (Operand.tmp 101) (Operand.tmp 102), type := 0, pos := "outright.go:125", after := #[{ on := 24, ground := Ground.data }, { on := 25, ground := Ground.data }, { on := 23, ground := Ground.guard }], guard := some (23, true) }) (v := undef) rfl (by kernel_rfl) (by kernel_rfl) (by kernel_rfl) (fun _ _ _ h => h) (Or.inr ⟨by rfl, rfl⟩) (by assumption) ?_
      try simp only [Act.put, List.setIfInBounds_toArray, List.set_cons_zero, List.set_cons_succ]
      refine wpAnyH_take (i := 27) (oi := { dst := some 104, op := Op.load 5 (Operand.tmp 103), type := 5, pos := "outright.go:125", after := #[{ on := 26, ground := Ground.data }, { on := 23, ground := Ground.guard }], guard := some (23, true) }) (v := undef) rfl (by kernel_rfl) (by kernel_rfl) (by kernel_rfl) (fun _ _ _ h => h) (Or.inr ⟨by rfl, rfl⟩) (by assumption) ?_
      try simp only [Act.put, List.setIfInBounds_toArray, List.set_cons_zero, List.set_cons_succ]
      refine wpAnyH_take (i := 28) (oi := { dst := some 105, op := Op.move (Operand.tmp 4), type := 24, pos := "outright.go:125", after := #[{ on := 23, ground := Ground.guard }], guard := some (23, true) }) (v := undef) rfl (by kernel_rfl) (by kernel_rfl) (by kernel_rfl) (fun _ _ _ h => h) (Or.inr ⟨by rfl, rfl⟩) (by assumption) ?_
      try simp only [Act.put, List.setIfInBounds_toArray, List.set_cons_zero, List.set_cons_succ]
      refine wpAnyH_take (i := 29) (oi := { dst := some 106, op := Op.move (Operand.tmp 14), type := 3, pos := "outright.go:125", after := #[{ on := 23, ground := Ground.guard }], guard := some (23, true) }) (v := undef) rfl (by kernel_rfl) (by kernel_rfl) (by kernel_rfl) (fun _ _ _ h => h) (Or.inr ⟨by rfl, rfl⟩) (by assumption) ?_
      try simp only [Act.put, List.setIfInBounds_toArray, List.set_cons_zero, List.set_cons_succ]
      refine wpAnyH_take (i := 30) (oi := { dst := some 107, op := Op.indexAddr 24 (Operand.tmp 105) (Operand.tmp 106), type := 0, pos := "outright.go:125", after := #[{ on := 28, ground := Ground.data }, { on := 29, ground := Ground.data }, { on := 23, ground := Ground.guard }], guard := some (23, true) }) (v := undef) rfl (by kernel_rfl) (by kernel_rfl) (by kernel_rfl) (fun _ _ _ h => h) (Or.inr ⟨by rfl, rfl⟩) (by assumption) ?_
      try simp only [Act.put, List.setIfInBounds_toArray, List.set_cons_zero, List.set_cons_succ]
      refine wpAnyH_take (i := 31) (oi := { dst := some 108, op := Op.load 5 (Operand.tmp 107), type := 5, pos := "outright.go:125", after := #[{ on := 30, ground := Ground.data }, { on := 23, ground := Ground.guard }], guard := some (23, true) }) (v := undef) rfl (by kernel_rfl) (by kernel_rfl) (by kernel_rfl) (fun _ _ _ h => h) (Or.inr ⟨by rfl, rfl⟩) (by assumption) ?_
      try simp only [Act.put, List.setIfInBounds_toArray, List.set_cons_zero, List.set_cons_succ]
      refine wpAnyH_take (i := 32) (oi := { dst := some 109, op := Op.binOp BinOp.andNot 5 (Operand.tmp 104) (Operand.tmp 108) 5, type := 5, pos := "outright.go:125", after := #[{ on := 27, ground := Ground.data }, { on := 31, ground := Ground.data }, { on := 23, ground := Ground.guard }], guard := some (23, true) }) (v := undef) rfl (by kernel_rfl) (by kernel_rfl) (by kernel_rfl) (fun _ _ _ h => h) (Or.inr ⟨by rfl, rfl⟩) (by assumption) ?_
      try simp only [Act.put, List.setIfInBounds_toArray, List.set_cons_zero, List.set_cons_succ]
      refine wpAnyH_take (i := 33) (oi := { dst := some 110, op := Op.binOp BinOp.neq 5 (Operand.tmp 109) (Operand.const (Value.int IntKind.u8 0)) 5, type := 4, pos := "outright.go:125", after := #[{ on := 32, ground := Ground.data }, { on := 23, ground := Ground.guard }], guard := some (23, true) }) (v := undef) rfl (by kernel_rfl) (by kernel_rfl) (by kernel_rfl) (fun _ _ _ h => h) (Or.inr ⟨by rfl, rfl⟩) (by assumption) ?_
      try simp only [Act.put, List.setIfInBounds_toArray, List.set_cons_zero, List.set_cons_succ]
      refine wpAnyH_take (i := 34) (oi := { dst := some 111, op := Op.pick (Operand.tmp 100) (Operand.tmp 110) (Operand.const (Value.bool false)), type := 4, pos := "outright.go:125", after := #[{ on := 23, ground := Ground.data }, { on := 33, ground := Ground.data }, { on := 15, ground := Ground.guard }], guard := some (15, false) }) (v := ?v34onea) rfl (by kernel_rfl) (by kernel_rfl) (by kernel_rfl) (fun _ _ _ h => h) (Or.inl ⟨by rfl, ?y34onea⟩) (by assumption) ?r34onea
      case y34onea => (intro x hx; (try dsimp only at hx); go_simp; try with_reducible rfl)
      try simp only [Act.put, List.setIfInBounds_toArray, List.set_cons_zero, List.set_cons_succ]
      refine wpAnyH_take (i := 35) (oi := { dst := some 112, op := Op.pick (Operand.tmp 92) (Operand.const (Value.bool true)) (Operand.tmp 111), type := 4, pos := "outright.go:125", after := #[{ on := 15, ground := Ground.data }, { on := 34, ground := Ground.data }], guard := none }) (v := ?v35onea) rfl (by kernel_rfl) (by kernel_rfl) (by kernel_rfl) (fun _ _ _ h => h) (Or.inl ⟨by rfl, ?y35onea⟩) (by assumption) ?r35onea
      case y35onea => (intro x hx; (try dsimp only at hx); go_simp; try with_reducible rfl)
      try simp only [Act.put, List.setIfInBounds_toArray, List.set_cons_zero, List.set_cons_succ]
      refine wpAnyH_done (by kernel_rfl) ?_ _
      clear hHeld
      go_upto_region 11 with fail
      refine wp_region_held_drew (S := (fun u => u.cell? ⟨w.heap.size, 0, none⟩ = some (.int .i64 o.k) ∧ u.cell? ⟨ga, m, none⟩ = some (.int .u8 xm) ∧ u.cell? ⟨gb, m, none⟩ = some (.int .u8 ym))) (by kernel_rfl) (HCE1.out) (fun hHeld => ?_)
      refine wpAnyH_take (i := 0) (oi := { dst := some 113, op := Op.move (Operand.tmp 13), type := 3, pos := "outright.go:128", after := #[], guard := none }) (v := ?v0oneb) rfl (by kernel_rfl) (by kernel_rfl) (by kernel_rfl) (fun _ _ _ h => h) (Or.inl ⟨by rfl, ?y0oneb⟩) (by assumption) ?r0oneb
      case y0oneb => (intro x hx; (try dsimp only at hx); go_simp; try with_reducible rfl)
      try simp only [Act.put, List.setIfInBounds_toArray, List.set_cons_zero, List.set_cons_succ]
      refine wpAnyH_take (i := 1) (oi := { dst := some 114, op := Op.binOp BinOp.add 3 (Operand.tmp 113) (Operand.const (Value.int IntKind.i64 8)) 3, type := 3, pos := "outright.go:128", after := #[{ on := 0, ground := Ground.data }], guard := none }) (v := ?v1oneb) rfl (by kernel_rfl) (by kernel_rfl) (by kernel_rfl) (fun _ _ _ h => h) (Or.inl ⟨by rfl, ?y1oneb⟩) (by assumption) ?r1oneb
      case y1oneb => (intro x hx; (try dsimp only at hx); go_simp; try with_reducible rfl)
      try simp only [Act.put, List.setIfInBounds_toArray, List.set_cons_zero, List.set_cons_succ]
      refine wpAnyH_take (i := 2) (oi := { dst := some 115, op := Op.move (Operand.tmp 3), type := 24, pos := "outright.go:128", after := #[], guard := none }) (v := ?v2oneb) rfl (by kernel_rfl) (by kernel_rfl) (by kernel_rfl) (fun _ _ _ h => h) (Or.inl ⟨by rfl, ?y2oneb⟩) (by assumption) ?r2oneb
      case y2oneb => (intro x hx; (try dsimp only at hx); go_simp; try with_reducible rfl)
      try simp only [Act.put, List.setIfInBounds_toArray, List.set_cons_zero, List.set_cons_succ]
      refine wpAnyH_take (i := 3) (oi := { dst := some 116, op := Op.move (Operand.tmp 14), type := 3, pos := "outright.go:128", after := #[], guard := none }) (v := ?v3oneb) rfl (by kernel_rfl) (by kernel_rfl) (by kernel_rfl) (fun _ _ _ h => h) (Or.inl ⟨by rfl, ?y3oneb⟩) (by assumption) ?r3oneb
      case y3oneb => (intro x hx; (try dsimp only at hx); go_simp; try with_reducible rfl)
      try simp only [Act.put, List.setIfInBounds_toArray, List.set_cons_zero, List.set_cons_succ]
      refine wpAnyH_take (i := 4) (oi := { dst := some 117, op := Op.indexAddr 24 (Operand.tmp 115) (Operand.tmp 116), type := 0, pos := "outright.go:128", after := #[{ on := 2, ground := Ground.data }, { on := 3, ground := Ground.data }], guard := none }) (v := ?v4oneb) rfl (by kernel_rfl) (by kernel_rfl) (by kernel_rfl) (fun _ _ _ h => h) (Or.inl ⟨by rfl, ?y4oneb⟩) (by assumption) ?r4oneb
      case y4oneb => (intro x hx; (try dsimp only at hx); go_simp; try with_reducible rfl)
      try simp only [Act.put, List.setIfInBounds_toArray, List.set_cons_zero, List.set_cons_succ]
      refine wpAnyH_take (i := 5) (oi := { dst := some 118, op := Op.load 5 (Operand.tmp 117), type := 5, pos := "outright.go:128", after := #[{ on := 4, ground := Ground.data }], guard := none }) (v := ?v5oneb) rfl (by kernel_rfl) (by kernel_rfl) (by kernel_rfl) (fun _ _ _ h => h) (Or.inl ⟨by rfl, ?y5oneb⟩) (by assumption) ?r5oneb
      case y5oneb => (intro x hx; (try dsimp only at hx); go_simp; try with_reducible rfl)
      try simp only [Act.put, List.setIfInBounds_toArray, List.set_cons_zero, List.set_cons_succ]
      refine wpAnyH_take (i := 6) (oi := { dst := some 119, op := Op.move (Operand.tmp 4), type := 24, pos := "outright.go:128", after := #[], guard := none }) (v := ?v6oneb) rfl (by kernel_rfl) (by kernel_rfl) (by kernel_rfl) (fun _ _ _ h => h) (Or.inl ⟨by rfl, ?y6oneb⟩) (by assumption) ?r6oneb
      case y6oneb => (intro x hx; (try dsimp only at hx); go_simp; try with_reducible rfl)
      try simp only [Act.put, List.setIfInBounds_toArray, List.set_cons_zero, List.set_cons_succ]
      refine wpAnyH_take (i := 7) (oi := { dst := some 120, op := Op.move (Operand.tmp 14), type := 3, pos := "outright.go:128", after := #[], guard := none }) (v := ?v7oneb) rfl (by kernel_rfl) (by kernel_rfl) (by kernel_rfl) (fun _ _ _ h => h) (Or.inl ⟨by rfl, ?y7oneb⟩) (by assumption) ?r7oneb
      case y7oneb => (intro x hx; (try dsimp only at hx); go_simp; try with_reducible rfl)
      try simp only [Act.put, List.setIfInBounds_toArray, List.set_cons_zero, List.set_cons_succ]
      refine wpAnyH_take (i := 8) (oi := { dst := some 121, op := Op.indexAddr 24 (Operand.tmp 119) (Operand.tmp 120), type := 0, pos := "outright.go:128", after := #[{ on := 6, ground := Ground.data }, { on := 7, ground := Ground.data }], guard := none }) (v := ?v8oneb) rfl (by kernel_rfl) (by kernel_rfl) (by kernel_rfl) (fun _ _ _ h => h) (Or.inl ⟨by rfl, ?y8oneb⟩) (by assumption) ?r8oneb
      case y8oneb => (intro x hx; (try dsimp only at hx); go_simp; try with_reducible rfl)
      try simp only [Act.put, List.setIfInBounds_toArray, List.set_cons_zero, List.set_cons_succ]
      refine wpAnyH_take (i := 9) (oi := { dst := some 122, op := Op.load 5 (Operand.tmp 121), type := 5, pos := "outright.go:128", after := #[{ on := 8, ground := Ground.data }], guard := none }) (v := ?v9oneb) rfl (by kernel_rfl) (by kernel_rfl) (by kernel_rfl) (fun _ _ _ h => h) (Or.inl ⟨by rfl, ?y9oneb⟩) (by assumption) ?r9oneb
      case y9oneb => (intro x hx; (try dsimp only at hx); go_simp; try with_reducible rfl)
      try simp only [Act.put, List.setIfInBounds_toArray, List.set_cons_zero, List.set_cons_succ]
      refine wpAnyH_take (i := 10) (oi := { dst := some 123, op := Op.binOp BinOp.xor 5 (Operand.tmp 118) (Operand.tmp 122) 5, type := 5, pos := "outright.go:128", after := #[{ on := 5, ground := Ground.data }, { on := 9, ground := Ground.data }], guard := none }) (v := ?v10oneb) rfl (by kernel_rfl) (by kernel_rfl) (by kernel_rfl) (fun _ _ _ h => h) (Or.inl ⟨by rfl, ?y10oneb⟩) (by assumption) ?r10oneb
      case y10oneb => (intro x hx; (try dsimp only at hx); go_simp; try with_reducible rfl)
      try simp only [Act.put, List.setIfInBounds_toArray, List.set_cons_zero, List.set_cons_succ]
      refine wpAnyH_ready (rs := [11]) (by kernel_rfl) (by simp) ?_
      refine AllReadyH.cons (o := { dst := some 124, op := Op.buildSlice 24 1 #[(0, Operand.tmp 123)], type := 24, pos := "outright.go:128", after := #[{ on := 10, ground := Ground.data }], guard := none }) rfl (fun K hK => ?_) AllReadyH.nil
      go_simp
      go_wp2_with fail
      change K _ (wr.drew.drew.alloc (.cells #[.int .u8 (bits .xor .u8 xm ym)] 5))
      have hb5 : Below wr.heap.size wr (wr.drew.drew.alloc (.cells #[.int .u8 (bits .xor .u8 xm ym)] 5)) := below_trans (below_trans (drew_below _) (drew_below _)) (below_alloc _ _)
      have HB5 := hide hb5
      have HN5 := hide (alloc_new wr.drew.drew (.cells #[.int .u8 (bits .xor .u8 xm ym)] 5))
      have hSnew : (fun u => u.cell? ⟨w.heap.size, 0, none⟩ = some (.int .i64 o.k) ∧ u.cell? ⟨ga, m, none⟩ = some (.int .u8 xm) ∧ u.cell? ⟨gb, m, none⟩ = some (.int .u8 ym)) (wr.drew.drew.alloc (.cells #[.int .u8 (bits .xor .u8 xm ym)] 5)) := ⟨(hb5.cell (block_lt_of_cell HCE.out.1)).trans HCE.out.1, (hb5.cell (block_lt_of_cell HCE.out.2.1)).trans HCE.out.2.1, (hb5.cell (block_lt_of_cell HCE.out.2.2)).trans HCE.out.2.2⟩
      clear hb5
      refine hK.out _ _ hSnew (fun hHeld11 => ?_)
      clear hK K hSnew
      clear hHeld
      have hHeld := hHeld11
      clear hHeld11
      try simp only [Act.put, List.setIfInBounds_toArray, List.set_cons_zero, List.set_cons_succ]
      refine wpAnyH_ready (rs := [12]) (by kernel_rfl) (by simp) ?_
      refine AllReadyH.cons (o := { dst := some 125, op := Op.call { callee := Callee.value (Operand.func 29), args := #[Operand.tmp 124], argTypes := #[24] }, type := 3, pos := "outright.go:128", after := #[{ on := 11, ground := Ground.data }], guard := none }) rfl (fun K hK => ?_) AllReadyH.nil
      go_simp
      go_at_call 29
      refine (rzeros_any (some ⟨wr.heap.size, 0, none⟩) 1 1 [(bits .xor .u8 xm ym)] _ (by omega) (reads_one2 HN5.out HXY.out)).mono ?_
      rintro e u9 ⟨rfl, hu9⟩
      subst hu9
      rw [HZS.out]
      have hSnew := hHeld
      go_wp2_with fail
      refine hK.out _ _ hSnew (fun hHeld12 => ?_)
      clear hK K hSnew
      clear hHeld
      have hHeld := hHeld12
      clear hHeld12
      try simp only [Act.put, List.setIfInBounds_toArray, List.set_cons_zero, List.set_cons_succ]
      refine wpAnyH_take (i := 13) (oi := { dst := some 126, op := Op.binOp BinOp.sub 3 (Operand.tmp 114) (Operand.tmp 125) 3, type := 3, pos := "outright.go:128", after := #[{ on := 1, ground := Ground.data }, { on := 12, ground := Ground.data }], guard := none }) (v := ?v13oneb) rfl (by kernel_rfl) (by kernel_rfl) (by kernel_rfl) (fun _ _ _ h => h) (Or.inl ⟨by rfl, ?y13oneb⟩) (by assumption) ?r13oneb
      case y13oneb => (intro x hx; (try dsimp only at hx); go_simp; try with_reducible rfl)
      try simp only [Act.put, List.setIfInBounds_toArray, List.set_cons_zero, List.set_cons_succ]
      refine wpAnyH_take (i := 14) (oi := { dst := some 13, op := Op.assign (Operand.tmp 126), type := 3, pos := "outright.go:128", after := #[{ on := 13, ground := Ground.data }, { on := 12, ground := Ground.chain }, { on := 0, ground := Ground.phase }, { on := 1, ground := Ground.phase }, { on := 2, ground := Ground.phase }, { on := 3, ground := Ground.phase }, { on := 4, ground := Ground.phase }, { on := 5, ground := Ground.phase }, { on := 6, ground := Ground.phase }, { on := 7, ground := Ground.phase }, { on := 8, ground := Ground.phase }, { on := 9, ground := Ground.phase }, { on := 10, ground := Ground.phase }, { on := 11, ground := Ground.phase }, { on := 12, ground := Ground.phase }, { on := 13, ground := Ground.phase }], guard := none }) (v := ?v14oneb) rfl (by kernel_rfl) (by kernel_rfl) (by kernel_rfl) (fun _ _ _ h => h) (Or.inl ⟨by rfl, ?y14oneb⟩) (by assumption) ?r14oneb
      case y14oneb => (intro x hx; (try dsimp only at hx); go_simp; try with_reducible rfl)
      try simp only [Act.put, List.setIfInBounds_toArray, List.set_cons_zero, List.set_cons_succ]
      refine wpAnyH_done (by kernel_rfl) ?_ _
      clear hHeld
      go_wp2
      go_roundw
      case rel => exact ⟨m + 1, by omega, by go_num, by have h1 := HDS.out; have h2 := HZB.out; have h3 := HDL.out; rw [h1]; congr 1; simp only [IntKind.wrap_i64]; omega, below_trans HJ.out HB5.out⟩
      case measure => simp [intOf]; omega
    · have dm : decide ((m : Int) < 313) = false := decide_eq_false (by omega)
      have em : m = 313 := by omega
      subst em
      go_wp2
      go_ret
      exact ⟨rfl, below_trans HB0.out HJ.out⟩
set_option maxHeartbeats 8000000 in
set_option maxRecDepth 100000 in
theorem goes_two (w : World) (o : Opc) (da : Option Addr) (dn dc : Nat) (za : Option Addr) (zn zc : Nat)  (i k : Nat) (ga ca gb cb : Nat) (xs ys : List Int) (hx : Reads w (some ⟨ga, 0, none⟩) 313 xs) (hy : Reads w (some ⟨gb, 0, none⟩) 313 ys) (hk : o.k = 2) (hp : o.b = (i : Int)) (hG : ∀ j, j < xs.length → bits .andNot .u8 (xs.getD j 0) (ys.getD j 0) = 0) : Calls Try.prog 26 #[.agg #[.int .i64 o.k, .int .i64 o.b, .int .i64 o.p, .int .i64 o.bit, .bool o.fit, .slice da dn dc, .slice za zn zc], .bool true, .agg #[.int .i64 (i : Int), .int .i64 (k : Int)], .slice (some ⟨ga, 0, none⟩) 313 ca, .slice (some ⟨gb, 0, none⟩) 313 cb, .bool false] w fun e w' => e = .returned (.bool true) ∧ Below w.heap.size w w' := by
  have d4 : decide (4 < o.k) = false := decide_eq_false (by omega)
  have d4' : decide (o.k > 4) = false := decide_eq_false (by omega)
  have d1 : decide (o.k < 1) = false := decide_eq_false (by omega)
  have d3 : (o.k == 3) = false := by rw [hk]; rfl
  have d2 : (o.k == 2) = true := by rw [hk]; rfl
  have d2' : (o.k != 2) = false := by rw [hk]; rfl
  have d5 : (o.k == 1) = false := by rw [hk]; rfl
  have d6 : (o.k == 4) = false := by rw [hk]; rfl
  have db : (o.b == (i : Int)) = true := by simp [hp]
  have db' : (o.b != (i : Int)) = false := by simp [hp]
  have HGO := hide hG
  have HXL : Hid (xs.length = 313) := hx.1
  have HXB : Hid (Byt xs) := hx.2.1
  have HYB : Hid (Byt ys) := hy.2.1
  have hb0 := below_trans (below_alloc w (.cells #[.int .i64 o.k, .int .i64 o.b, .int .i64 o.p, .int .i64 o.bit, .bool o.fit, .slice da dn dc, .slice za zn zc] 56)) (below_alloc _ (.cells #[.int .i64 (i : Int), .int .i64 (k : Int)] 41))
  have HB0 := hide hb0
  have HXR := hide (hx.below hb0)
  have HYR := hide (hy.below hb0)
  have HO1 : Hid (((w.alloc (.cells #[.int .i64 o.k, .int .i64 o.b, .int .i64 o.p, .int .i64 o.bit, .bool o.fit, .slice da dn dc, .slice za zn zc] 56)).alloc (.cells #[.int .i64 (i : Int), .int .i64 (k : Int)] 41)).heap[w.heap.size]? = some (.cells #[.int .i64 o.k, .int .i64 o.b, .int .i64 o.p, .int .i64 o.bit, .bool o.fit, .slice da dn dc, .slice za zn zc] 56 (0, 0))) := (alloc_old _ _ (by simp)).trans (alloc_new w _)
  have HP1 : Hid (((w.alloc (.cells #[.int .i64 o.k, .int .i64 o.b, .int .i64 o.p, .int .i64 o.bit, .bool o.fit, .slice da dn dc, .slice za zn zc] 56)).alloc (.cells #[.int .i64 (i : Int), .int .i64 (k : Int)] 41)).heap[w.heap.size + 1]? = some (.cells #[.int .i64 (i : Int), .int .i64 (k : Int)] 41 (0, 0))) := by
    have h9 := alloc_new (w.alloc (.cells #[.int .i64 o.k, .int .i64 o.b, .int .i64 o.p, .int .i64 o.bit, .bool o.fit, .slice da dn dc, .slice za zn zc] 56)) (.cells #[.int .i64 (i : Int), .int .i64 (k : Int)] 41)
    rw [alloc_size] at h9
    exact h9
  clear hb0 hx hy
  obtain ⟨y0, y1, y2, y3, _⟩ := cells7 HO1.out
  obtain ⟨z0, z1⟩ := cells2 HP1.out
  clear hk hp hG
  go_enter Try.func26, Try.ntmps26
  go_wp2
  generalize hU : (w.alloc (.cells #[.int .i64 o.k, .int .i64 o.b, .int .i64 o.p, .int .i64 o.bit, .bool o.fit, .slice da dn dc, .slice za zn zc] 56)).alloc (.cells #[.int .i64 (i : Int), .int .i64 (k : Int)] 41) = U at HB0 HXR HYR HO1 HP1 y0 y1 y2 y3 z0 z1 ⊢
  clear hU
  go_loopw [13, 14] (fun s13 s14 wr => ∃ m : Nat, m ≤ 313 ∧ s14 = .int .i64 m ∧ s13 = .int .i64 (dsum xs ys m) ∧ Hid (Below U.heap.size U wr)) (fun _ s14 _ => 313 - (intOf s14).toNat)
  case atStart => exact ⟨0, by omega, rfl, rfl, Below.refl _ _⟩
  case round =>
    obtain ⟨m, hm, rfl, rfl, HJ⟩ := hrel
    clear y1 y2 y3 z0 z1
    have y0 := (HJ.out.cell (block_lt_of_cell y0)).trans y0
    by_cases hlt : m < 313
    · have dm : decide ((m : Int) < 313) = true := decide_eq_true (by omega)
      have m1 : (m : Int) < 313 := by omega
      obtain ⟨xm, hxm⟩ : ∃ z, z = xs.getD m 0 := ⟨_, rfl⟩
      obtain ⟨ym, hym⟩ : ∃ z, z = ys.getD m 0 := ⟨_, rfl⟩
      have hcx := (HXR.out.below HJ.out).2.2.2 ⟨ga, 0, none⟩ rfl m hlt
      have hcy := (HYR.out.below HJ.out).2.2.2 ⟨gb, 0, none⟩ rfl m hlt
      rw [plain_add, Nat.zero_add, ← hxm] at hcx
      rw [plain_add, Nat.zero_add, ← hym] at hcy
      have hand : bits .andNot .u8 xm ym = 0 := by rw [hxm, hym]; exact HGO.out m (by rw [HXL.out]; omega)
      have HCE : Hid (wr.cell? ⟨w.heap.size, 0, none⟩ = some (.int .i64 o.k) ∧ wr.cell? ⟨ga, m, none⟩ = some (.int .u8 xm) ∧ wr.cell? ⟨gb, m, none⟩ = some (.int .u8 ym)) := ⟨y0, hcx, hcy⟩
      have HCE1 : Hid (wr.drew.cell? ⟨w.heap.size, 0, none⟩ = some (.int .i64 o.k) ∧ wr.drew.cell? ⟨ga, m, none⟩ = some (.int .u8 xm) ∧ wr.drew.cell? ⟨gb, m, none⟩ = some (.int .u8 ym)) := ⟨y0, hcx, hcy⟩
      have HXY : Hid (0 ≤ (bits .xor .u8 xm ym) ∧ (bits .xor .u8 xm ym) ≤ 255) := xor_rng2 (by rw [hxm]; exact getD_range HXB.out _) (by rw [hym]; exact getD_range HYB.out _)
      have HDS : Hid (dsum xs ys (m + 1) = dsum xs ys m + (8 - zb (bits .xor .u8 xm ym))) := by rw [hxm, hym]; rfl
      have HZB : Hid (zb (bits .xor .u8 xm ym) ≤ 8) := by show zb (bits .xor .u8 xm ym) ≤ 8; unfold zb; omega
      have HZS : Hid (((zsum [(bits .xor .u8 xm ym)] : Nat) : Int) = ((zb (bits .xor .u8 xm ym) : Nat) : Int)) := rfl
      have HDL := hide (dsum_le xs ys m)
      clear hxm hym hcx hcy y0
      go_upto_region 9 with fail
      refine wp_region_held_drew (S := (fun u => u.cell? ⟨w.heap.size, 0, none⟩ = some (.int .i64 o.k) ∧ u.cell? ⟨ga, m, none⟩ = some (.int .u8 xm) ∧ u.cell? ⟨gb, m, none⟩ = some (.int .u8 ym))) (by kernel_rfl) (HCE.out) (fun hHeld => ?_)
      refine wpAnyH_take (i := 0) (oi := { dst := some 77, op := Op.fieldAddr 56 (Operand.tmp 6) 0, type := 0, pos := "outright.go:125", after := #[], guard := none }) (v := ?v0twoa) rfl (by kernel_rfl) (by kernel_rfl) (by kernel_rfl) (fun _ _ _ h => h) (Or.inl ⟨by rfl, ?y0twoa⟩) (by assumption) ?r0twoa
      case y0twoa => (intro x hx; (try dsimp only at hx); go_simp; try with_reducible rfl)
      try simp only [Act.put, List.setIfInBounds_toArray, List.set_cons_zero, List.set_cons_succ]
      refine wpAnyH_take (i := 1) (oi := { dst := some 78, op := Op.load 3 (Operand.tmp 77), type := 3, pos := "outright.go:125", after := #[{ on := 0, ground := Ground.data }], guard := none }) (v := ?v1twoa) rfl (by kernel_rfl) (by kernel_rfl) (by kernel_rfl) (fun _ _ _ h => h) (Or.inl ⟨by rfl, ?y1twoa⟩) (by assumption) ?r1twoa
      case y1twoa => (intro x hx; (try dsimp only at hx); go_simp; try with_reducible rfl)
      try simp only [Act.put, List.setIfInBounds_toArray, List.set_cons_zero, List.set_cons_succ]
      refine wpAnyH_take (i := 2) (oi := { dst := some 79, op := Op.binOp BinOp.eql 3 (Operand.tmp 78) (Operand.const (Value.int IntKind.i64 1)) 3, type := 4, pos := "outright.go:125", after := #[{ on := 1, ground := Ground.data }], guard := none }) (v := ?v2twoa) rfl (by kernel_rfl) (by kernel_rfl) (by kernel_rfl) (fun _ _ _ h => h) (Or.inl ⟨by rfl, ?y2twoa⟩) (by assumption) ?r2twoa
      case y2twoa => (intro x hx; (try dsimp only at hx); go_simp; try with_reducible rfl)
      try simp only [Act.put, List.setIfInBounds_toArray, List.set_cons_zero, List.set_cons_succ]
      refine wpAnyH_take (i := 3) (oi := { dst := some 80, op := Op.move (Operand.tmp 79), type := 4, pos := "outright.go:125", after := #[{ on := 2, ground := Ground.data }], guard := none }) (v := ?v3twoa) rfl (by kernel_rfl) (by kernel_rfl) (by kernel_rfl) (fun _ _ _ h => h) (Or.inl ⟨by rfl, ?y3twoa⟩) (by assumption) ?r3twoa
      case y3twoa => (intro x hx; (try dsimp only at hx); go_simp; try with_reducible rfl)
      try simp only [Act.put, List.setIfInBounds_toArray, List.set_cons_zero, List.set_cons_succ]
      refine wpAnyH_take (i := 4) (oi := { dst := some 81, op := Op.move (Operand.tmp 4), type := 24, pos := "outright.go:125", after := #[{ on := 3, ground := Ground.guard }], guard := some (3, true) }) (v := undef) rfl (by kernel_rfl) (by kernel_rfl) (by kernel_rfl) (fun _ _ _ h => h) (Or.inr ⟨by rfl, rfl⟩) (by assumption) ?_
      try simp only [Act.put, List.setIfInBounds_toArray, List.set_cons_zero, List.set_cons_succ]
      refine wpAnyH_take (i := 5) (oi := { dst := some 82, op := Op.move (Operand.tmp 14), type := 3, pos := "outright.go:125", after := #[{ on := 3, ground := Ground.guard }], guard := some (3, true) }) (v := undef) rfl (by kernel_rfl) (by kernel_rfl) (by kernel_rfl) (fun _ _ _ h => h) (Or.inr ⟨by rfl, rfl⟩) (by assumption) ?_
      try simp only [Act.put, List.setIfInBounds_toArray, List.set_cons_zero, List.set_cons_succ]
      refine wpAnyH_take (i := 6) (oi := { dst := some 83, op := Op.indexAddr 24 (Operand.tmp 81) (Operand.tmp 82), type := 0, pos := "outright.go:125", after := #[{ on := 4, ground := Ground.data }, { on := 5, ground := Ground.data }, { on := 3, ground := Ground.guard }], guard := some (3, true) }) (v := undef) rfl (by kernel_rfl) (by kernel_rfl) (by kernel_rfl) (fun _ _ _ h => h) (Or.inr ⟨by rfl, rfl⟩) (by assumption) ?_
      try simp only [Act.put, List.setIfInBounds_toArray, List.set_cons_zero, List.set_cons_succ]
      refine wpAnyH_take (i := 7) (oi := { dst := some 84, op := Op.load 5 (Operand.tmp 83), type := 5, pos := "outright.go:125", after := #[{ on := 6, ground := Ground.data }, { on := 3, ground := Ground.guard }], guard := some (3, true) }) (v := undef) rfl (by kernel_rfl) (by kernel_rfl) (by kernel_rfl) (fun _ _ _ h => h) (Or.inr ⟨by rfl, rfl⟩) (by assumption) ?_
      try simp only [Act.put, List.setIfInBounds_toArray, List.set_cons_zero, List.set_cons_succ]
      refine wpAnyH_take (i := 8) (oi := { dst := some 85, op := Op.move (Operand.tmp 3), type := 24, pos := "outright.go:125", after := #[{ on := 3, ground := Ground.guard }], guard := some (3, true) }) (v := undef) rfl (by kernel_rfl) (by kernel_rfl) (by kernel_rfl) (fun _ _ _ h => h) (Or.inr ⟨by rfl, rfl⟩) (by assumption) ?_
      try simp only [Act.put, List.setIfInBounds_toArray, List.set_cons_zero, List.set_cons_succ]
      refine wpAnyH_take (i := 9) (oi := { dst := some 86, op := Op.move (Operand.tmp 14), type := 3, pos := "outright.go:125", after := #[{ on := 3, ground := Ground.guard }], guard := some (3, true) }) (v := undef) rfl (by kernel_rfl) (by kernel_rfl) (by kernel_rfl) (fun _ _ _ h => h) (Or.inr ⟨by rfl, rfl⟩) (by assumption) ?_
      try simp only [Act.put, List.setIfInBounds_toArray, List.set_cons_zero, List.set_cons_succ]
      refine wpAnyH_take (i := 10) (oi := { dst := some 87, op := Op.indexAddr 24 (Operand.tmp 85) (Operand.tmp 86), type := 0, pos := "outright.go:125", after := #[{ on := 8, ground := Ground.data }, { on := 9, ground := Ground.data }, { on := 3, ground := Ground.guard }], guard := some (3, true) }) (v := undef) rfl (by kernel_rfl) (by kernel_rfl) (by kernel_rfl) (fun _ _ _ h => h) (Or.inr ⟨by rfl, rfl⟩) (by assumption) ?_
      try simp only [Act.put, List.setIfInBounds_toArray, List.set_cons_zero, List.set_cons_succ]
      refine wpAnyH_take (i := 11) (oi := { dst := some 88, op := Op.load 5 (Operand.tmp 87), type := 5, pos := "outright.go:125", after := #[{ on := 10, ground := Ground.data }, { on := 3, ground := Ground.guard }], guard := some (3, true) }) (v := undef) rfl (by kernel_rfl) (by kernel_rfl) (by kernel_rfl) (fun _ _ _ h => h) (Or.inr ⟨by rfl, rfl⟩) (by assumption) ?_
      try simp only [Act.put, List.setIfInBounds_toArray, List.set_cons_zero, List.set_cons_succ]
      refine wpAnyH_take (i := 12) (oi := { dst := some 89, op := Op.binOp BinOp.andNot 5 (Operand.tmp 84) (Operand.tmp 88) 5, type := 5, pos := "outright.go:125", after := #[{ on := 7, ground := Ground.data }, { on := 11, ground := Ground.data }, { on := 3, ground := Ground.guard }], guard := some (3, true) }) (v := undef) rfl (by kernel_rfl) (by kernel_rfl) (by kernel_rfl) (fun _ _ _ h => h) (Or.inr ⟨by rfl, rfl⟩) (by assumption) ?_
      try simp only [Act.put, List.setIfInBounds_toArray, List.set_cons_zero, List.set_cons_succ]
      refine wpAnyH_take (i := 13) (oi := { dst := some 90, op := Op.binOp BinOp.neq 5 (Operand.tmp 89) (Operand.const (Value.int IntKind.u8 0)) 5, type := 4, pos := "outright.go:125", after := #[{ on := 12, ground := Ground.data }, { on := 3, ground := Ground.guard }], guard := some (3, true) }) (v := undef) rfl (by kernel_rfl) (by kernel_rfl) (by kernel_rfl) (fun _ _ _ h => h) (Or.inr ⟨by rfl, rfl⟩) (by assumption) ?_
      try simp only [Act.put, List.setIfInBounds_toArray, List.set_cons_zero, List.set_cons_succ]
      refine wpAnyH_take (i := 14) (oi := { dst := some 91, op := Op.pick (Operand.tmp 80) (Operand.tmp 90) (Operand.const (Value.bool false)), type := 4, pos := "outright.go:125", after := #[{ on := 3, ground := Ground.data }, { on := 13, ground := Ground.data }], guard := none }) (v := ?v14twoa) rfl (by kernel_rfl) (by kernel_rfl) (by kernel_rfl) (fun _ _ _ h => h) (Or.inl ⟨by rfl, ?y14twoa⟩) (by assumption) ?r14twoa
      case y14twoa => (intro x hx; (try dsimp only at hx); go_simp; try with_reducible rfl)
      try simp only [Act.put, List.setIfInBounds_toArray, List.set_cons_zero, List.set_cons_succ]
      refine wpAnyH_take (i := 15) (oi := { dst := some 92, op := Op.move (Operand.tmp 91), type := 4, pos := "outright.go:125", after := #[{ on := 14, ground := Ground.data }, { on := 3, ground := Ground.chain }], guard := none }) (v := ?v15twoa) rfl (by kernel_rfl) (by kernel_rfl) (by kernel_rfl) (fun _ _ _ h => h) (Or.inl ⟨by rfl, ?y15twoa⟩) (by assumption) ?r15twoa
      case y15twoa => (intro x hx; (try dsimp only at hx); go_simp; try with_reducible rfl)
      try simp only [Act.put, List.setIfInBounds_toArray, List.set_cons_zero, List.set_cons_succ]
      refine wpAnyH_take (i := 16) (oi := { dst := some 93, op := Op.fieldAddr 56 (Operand.tmp 6) 0, type := 0, pos := "outright.go:125", after := #[{ on := 15, ground := Ground.guard }], guard := some (15, false) }) (v := ?v16twoa) rfl (by kernel_rfl) (by kernel_rfl) (by kernel_rfl) (fun _ _ _ h => h) (Or.inl ⟨by rfl, ?y16twoa⟩) (by assumption) ?r16twoa
      case y16twoa => (intro x hx; (try dsimp only at hx); go_simp; try with_reducible rfl)
      try simp only [Act.put, List.setIfInBounds_toArray, List.set_cons_zero, List.set_cons_succ]
      refine wpAnyH_take (i := 17) (oi := { dst := some 94, op := Op.load 3 (Operand.tmp 93), type := 3, pos := "outright.go:125", after := #[{ on := 16, ground := Ground.data }, { on := 15, ground := Ground.guard }], guard := some (15, false) }) (v := ?v17twoa) rfl (by kernel_rfl) (by kernel_rfl) (by kernel_rfl) (fun _ _ _ h => h) (Or.inl ⟨by rfl, ?y17twoa⟩) (by assumption) ?r17twoa
      case y17twoa => (intro x hx; (try dsimp only at hx); go_simp; try with_reducible rfl)
      try simp only [Act.put, List.setIfInBounds_toArray, List.set_cons_zero, List.set_cons_succ]
      refine wpAnyH_take (i := 18) (oi := { dst := some 95, op := Op.binOp BinOp.eql 3 (Operand.tmp 94) (Operand.const (Value.int IntKind.i64 2)) 3, type := 4, pos := "outright.go:125", after := #[{ on := 17, ground := Ground.data }, { on := 15, ground := Ground.guard }], guard := some (15, false) }) (v := ?v18twoa) rfl (by kernel_rfl) (by kernel_rfl) (by kernel_rfl) (fun _ _ _ h => h) (Or.inl ⟨by rfl, ?y18twoa⟩) (by assumption) ?r18twoa
      case y18twoa => (intro x hx; (try dsimp only at hx); go_simp; try with_reducible rfl)
      try simp only [Act.put, List.setIfInBounds_toArray, List.set_cons_zero, List.set_cons_succ]
      refine wpAnyH_take (i := 19) (oi := { dst := some 96, op := Op.move (Operand.tmp 95), type := 4, pos := "outright.go:125", after := #[{ on := 18, ground := Ground.data }, { on := 15, ground := Ground.chain }, { on := 15, ground := Ground.guard }], guard := some (15, false) }) (v := ?v19twoa) rfl (by kernel_rfl) (by kernel_rfl) (by kernel_rfl) (fun _ _ _ h => h) (Or.inl ⟨by rfl, ?y19twoa⟩) (by assumption) ?r19twoa
      case y19twoa => (intro x hx; (try dsimp only at hx); go_simp; try with_reducible rfl)
      try simp only [Act.put, List.setIfInBounds_toArray, List.set_cons_zero, List.set_cons_succ]
      refine wpAnyH_take (i := 20) (oi := { dst := some 97, op := Op.move (Operand.tmp 5), type := 4, pos := "outright.go:125", after := #[{ on := 19, ground := Ground.guard }], guard := some (19, true) }) (v := ?v20twoa) rfl (by kernel_rfl) (by kernel_rfl) (by kernel_rfl) (fun _ _ _ h => h) (Or.inl ⟨by rfl, ?y20twoa⟩) (by assumption) ?r20twoa
      case y20twoa => (intro x hx; (try dsimp only at hx); go_simp; try with_reducible rfl)
      try simp only [Act.put, List.setIfInBounds_toArray, List.set_cons_zero, List.set_cons_succ]
      refine wpAnyH_take (i := 21) (oi := { dst := some 98, op := Op.unOp UnOp.not 4 (Operand.tmp 97), type := 4, pos := "outright.go:125", after := #[{ on := 20, ground := Ground.data }, { on := 19, ground := Ground.guard }], guard := some (19, true) }) (v := ?v21twoa) rfl (by kernel_rfl) (by kernel_rfl) (by kernel_rfl) (fun _ _ _ h => h) (Or.inl ⟨by rfl, ?y21twoa⟩) (by assumption) ?r21twoa
      case y21twoa => (intro x hx; (try dsimp only at hx); go_simp; try with_reducible rfl)
      try simp only [Act.put, List.setIfInBounds_toArray, List.set_cons_zero, List.set_cons_succ]
      refine wpAnyH_take (i := 22) (oi := { dst := some 99, op := Op.pick (Operand.tmp 96) (Operand.tmp 98) (Operand.const (Value.bool false)), type := 4, pos := "outright.go:125", after := #[{ on := 19, ground := Ground.data }, { on := 21, ground := Ground.data }, { on := 15, ground := Ground.guard }], guard := some (15, false) }) (v := ?v22twoa) rfl (by kernel_rfl) (by kernel_rfl) (by kernel_rfl) (fun _ _ _ h => h) (Or.inl ⟨by rfl, ?y22twoa⟩) (by assumption) ?r22twoa
      case y22twoa => (intro x hx; (try dsimp only at hx); go_simp; try with_reducible rfl)
      try simp only [Act.put, List.setIfInBounds_toArray, List.set_cons_zero, List.set_cons_succ]
      refine wpAnyH_take (i := 23) (oi := { dst := some 100, op := Op.move (Operand.tmp 99), type := 4, pos := "outright.go:125", after := #[{ on := 22, ground := Ground.data }, { on := 19, ground := Ground.chain }, { on := 15, ground := Ground.guard }], guard := some (15, false) }) (v := ?v23twoa) rfl (by kernel_rfl) (by kernel_rfl) (by kernel_rfl) (fun _ _ _ h => h) (Or.inl ⟨by rfl, ?y23twoa⟩) (by assumption) ?r23twoa
      case y23twoa => (intro x hx; (try dsimp only at hx); go_simp; try with_reducible rfl)
      try simp only [Act.put, List.setIfInBounds_toArray, List.set_cons_zero, List.set_cons_succ]
      refine wpAnyH_take (i := 24) (oi := { dst := some 101, op := Op.move (Operand.tmp 3), type := 24, pos := "outright.go:125", after := #[{ on := 23, ground := Ground.guard }], guard := some (23, true) }) (v := ?v24twoa) rfl (by kernel_rfl) (by kernel_rfl) (by kernel_rfl) (fun _ _ _ h => h) (Or.inl ⟨by rfl, ?y24twoa⟩) (by assumption) ?r24twoa
      case y24twoa => (intro x hx; (try dsimp only at hx); go_simp; try with_reducible rfl)
      try simp only [Act.put, List.setIfInBounds_toArray, List.set_cons_zero, List.set_cons_succ]
      refine wpAnyH_take (i := 25) (oi := { dst := some 102, op := Op.move (Operand.tmp 14), type := 3, pos := "outright.go:125", after := #[{ on := 23, ground := Ground.guard }], guard := some (23, true) }) (v := ?v25twoa) rfl (by kernel_rfl) (by kernel_rfl) (by kernel_rfl) (fun _ _ _ h => h) (Or.inl ⟨by rfl, ?y25twoa⟩) (by assumption) ?r25twoa
      case y25twoa => (intro x hx; (try dsimp only at hx); go_simp; try with_reducible rfl)
      try simp only [Act.put, List.setIfInBounds_toArray, List.set_cons_zero, List.set_cons_succ]
      refine wpAnyH_take (i := 26) (oi := { dst := some 103, op := Op.indexAddr 24 (Operand.tmp 101) (Operand.tmp 102), type := 0, pos := "outright.go:125", after := #[{ on := 24, ground := Ground.data }, { on := 25, ground := Ground.data }, { on := 23, ground := Ground.guard }], guard := some (23, true) }) (v := ?v26twoa) rfl (by kernel_rfl) (by kernel_rfl) (by kernel_rfl) (fun _ _ _ h => h) (Or.inl ⟨by rfl, ?y26twoa⟩) (by assumption) ?r26twoa
      case y26twoa => (intro x hx; (try dsimp only at hx); go_simp; try with_reducible rfl)
      try simp only [Act.put, List.setIfInBounds_toArray, List.set_cons_zero, List.set_cons_succ]
      refine wpAnyH_take (i := 27) (oi := { dst := some 104, op := Op.load 5 (Operand.tmp 103), type := 5, pos := "outright.go:125", after := #[{ on := 26, ground := Ground.data }, { on := 23, ground := Ground.guard }], guard := some (23, true) }) (v := ?v27twoa) rfl (by kernel_rfl) (by kernel_rfl) (by kernel_rfl) (fun _ _ _ h => h) (Or.inl ⟨by rfl, ?y27twoa⟩) (by assumption) ?r27twoa
      case y27twoa => (intro x hx; (try dsimp only at hx); go_simp; try with_reducible rfl)
      try simp only [Act.put, List.setIfInBounds_toArray, List.set_cons_zero, List.set_cons_succ]
      refine wpAnyH_take (i := 28) (oi := { dst := some 105, op := Op.move (Operand.tmp 4), type := 24, pos := "outright.go:125", after := #[{ on := 23, ground := Ground.guard }], guard := some (23, true) }) (v := ?v28twoa) rfl (by kernel_rfl) (by kernel_rfl) (by kernel_rfl) (fun _ _ _ h => h) (Or.inl ⟨by rfl, ?y28twoa⟩) (by assumption) ?r28twoa
      case y28twoa => (intro x hx; (try dsimp only at hx); go_simp; try with_reducible rfl)
      try simp only [Act.put, List.setIfInBounds_toArray, List.set_cons_zero, List.set_cons_succ]
      refine wpAnyH_take (i := 29) (oi := { dst := some 106, op := Op.move (Operand.tmp 14), type := 3, pos := "outright.go:125", after := #[{ on := 23, ground := Ground.guard }], guard := some (23, true) }) (v := ?v29twoa) rfl (by kernel_rfl) (by kernel_rfl) (by kernel_rfl) (fun _ _ _ h => h) (Or.inl ⟨by rfl, ?y29twoa⟩) (by assumption) ?r29twoa
      case y29twoa => (intro x hx; (try dsimp only at hx); go_simp; try with_reducible rfl)
      try simp only [Act.put, List.setIfInBounds_toArray, List.set_cons_zero, List.set_cons_succ]
      refine wpAnyH_take (i := 30) (oi := { dst := some 107, op := Op.indexAddr 24 (Operand.tmp 105) (Operand.tmp 106), type := 0, pos := "outright.go:125", after := #[{ on := 28, ground := Ground.data }, { on := 29, ground := Ground.data }, { on := 23, ground := Ground.guard }], guard := some (23, true) }) (v := ?v30twoa) rfl (by kernel_rfl) (by kernel_rfl) (by kernel_rfl) (fun _ _ _ h => h) (Or.inl ⟨by rfl, ?y30twoa⟩) (by assumption) ?r30twoa
      case y30twoa => (intro x hx; (try dsimp only at hx); go_simp; try with_reducible rfl)
      try simp only [Act.put, List.setIfInBounds_toArray, List.set_cons_zero, List.set_cons_succ]
      refine wpAnyH_take (i := 31) (oi := { dst := some 108, op := Op.load 5 (Operand.tmp 107), type := 5, pos := "outright.go:125", after := #[{ on := 30, ground := Ground.data }, { on := 23, ground := Ground.guard }], guard := some (23, true) }) (v := ?v31twoa) rfl (by kernel_rfl) (by kernel_rfl) (by kernel_rfl) (fun _ _ _ h => h) (Or.inl ⟨by rfl, ?y31twoa⟩) (by assumption) ?r31twoa
      case y31twoa => (intro x hx; (try dsimp only at hx); go_simp; try with_reducible rfl)
      try simp only [Act.put, List.setIfInBounds_toArray, List.set_cons_zero, List.set_cons_succ]
      refine wpAnyH_take (i := 32) (oi := { dst := some 109, op := Op.binOp BinOp.andNot 5 (Operand.tmp 104) (Operand.tmp 108) 5, type := 5, pos := "outright.go:125", after := #[{ on := 27, ground := Ground.data }, { on := 31, ground := Ground.data }, { on := 23, ground := Ground.guard }], guard := some (23, true) }) (v := ?v32twoa) rfl (by kernel_rfl) (by kernel_rfl) (by kernel_rfl) (fun _ _ _ h => h) (Or.inl ⟨by rfl, ?y32twoa⟩) (by assumption) ?r32twoa
      case y32twoa => (intro x hx; (try dsimp only at hx); go_simp; try with_reducible rfl)
      try simp only [Act.put, List.setIfInBounds_toArray, List.set_cons_zero, List.set_cons_succ]
      refine wpAnyH_take (i := 33) (oi := { dst := some 110, op := Op.binOp BinOp.neq 5 (Operand.tmp 109) (Operand.const (Value.int IntKind.u8 0)) 5, type := 4, pos := "outright.go:125", after := #[{ on := 32, ground := Ground.data }, { on := 23, ground := Ground.guard }], guard := some (23, true) }) (v := ?v33twoa) rfl (by kernel_rfl) (by kernel_rfl) (by kernel_rfl) (fun _ _ _ h => h) (Or.inl ⟨by rfl, ?y33twoa⟩) (by assumption) ?r33twoa
      case y33twoa => (intro x hx; (try dsimp only at hx); go_simp; try with_reducible rfl)
      try simp only [Act.put, List.setIfInBounds_toArray, List.set_cons_zero, List.set_cons_succ]
      refine wpAnyH_take (i := 34) (oi := { dst := some 111, op := Op.pick (Operand.tmp 100) (Operand.tmp 110) (Operand.const (Value.bool false)), type := 4, pos := "outright.go:125", after := #[{ on := 23, ground := Ground.data }, { on := 33, ground := Ground.data }, { on := 15, ground := Ground.guard }], guard := some (15, false) }) (v := ?v34twoa) rfl (by kernel_rfl) (by kernel_rfl) (by kernel_rfl) (fun _ _ _ h => h) (Or.inl ⟨by rfl, ?y34twoa⟩) (by assumption) ?r34twoa
      case y34twoa => (intro x hx; (try dsimp only at hx); go_simp; try with_reducible rfl)
      try simp only [Act.put, List.setIfInBounds_toArray, List.set_cons_zero, List.set_cons_succ]
      refine wpAnyH_take (i := 35) (oi := { dst := some 112, op := Op.pick (Operand.tmp 92) (Operand.const (Value.bool true)) (Operand.tmp 111), type := 4, pos := "outright.go:125", after := #[{ on := 15, ground := Ground.data }, { on := 34, ground := Ground.data }], guard := none }) (v := ?v35twoa) rfl (by kernel_rfl) (by kernel_rfl) (by kernel_rfl) (fun _ _ _ h => h) (Or.inl ⟨by rfl, ?y35twoa⟩) (by assumption) ?r35twoa
      case y35twoa => (intro x hx; (try dsimp only at hx); go_simp; try with_reducible rfl)
      try simp only [Act.put, List.setIfInBounds_toArray, List.set_cons_zero, List.set_cons_succ]
      refine wpAnyH_done (by kernel_rfl) ?_ _
      clear hHeld
      go_upto_region 11 with fail
      refine wp_region_held_drew (S := (fun u => u.cell? ⟨w.heap.size, 0, none⟩ = some (.int .i64 o.k) ∧ u.cell? ⟨ga, m, none⟩ = some (.int .u8 xm) ∧ u.cell? ⟨gb, m, none⟩ = some (.int .u8 ym))) (by kernel_rfl) (HCE1.out) (fun hHeld => ?_)
      refine wpAnyH_take (i := 0) (oi := { dst := some 113, op := Op.move (Operand.tmp 13), type := 3, pos := "outright.go:128", after := #[], guard := none }) (v := ?v0twob) rfl (by kernel_rfl) (by kernel_rfl) (by kernel_rfl) (fun _ _ _ h => h) (Or.inl ⟨by rfl, ?y0twob⟩) (by assumption) ?r0twob
      case y0twob => (intro x hx; (try dsimp only at hx); go_simp; try with_reducible rfl)
      try simp only [Act.put, List.setIfInBounds_toArray, List.set_cons_zero, List.set_cons_succ]
      refine wpAnyH_take (i := 1) (oi := { dst := some 114, op := Op.binOp BinOp.add 3 (Operand.tmp 113) (Operand.const (Value.int IntKind.i64 8)) 3, type := 3, pos := "outright.go:128", after := #[{ on := 0, ground := Ground.data }], guard := none }) (v := ?v1twob) rfl (by kernel_rfl) (by kernel_rfl) (by kernel_rfl) (fun _ _ _ h => h) (Or.inl ⟨by rfl, ?y1twob⟩) (by assumption) ?r1twob
      case y1twob => (intro x hx; (try dsimp only at hx); go_simp; try with_reducible rfl)
      try simp only [Act.put, List.setIfInBounds_toArray, List.set_cons_zero, List.set_cons_succ]
      refine wpAnyH_take (i := 2) (oi := { dst := some 115, op := Op.move (Operand.tmp 3), type := 24, pos := "outright.go:128", after := #[], guard := none }) (v := ?v2twob) rfl (by kernel_rfl) (by kernel_rfl) (by kernel_rfl) (fun _ _ _ h => h) (Or.inl ⟨by rfl, ?y2twob⟩) (by assumption) ?r2twob
      case y2twob => (intro x hx; (try dsimp only at hx); go_simp; try with_reducible rfl)
      try simp only [Act.put, List.setIfInBounds_toArray, List.set_cons_zero, List.set_cons_succ]
      refine wpAnyH_take (i := 3) (oi := { dst := some 116, op := Op.move (Operand.tmp 14), type := 3, pos := "outright.go:128", after := #[], guard := none }) (v := ?v3twob) rfl (by kernel_rfl) (by kernel_rfl) (by kernel_rfl) (fun _ _ _ h => h) (Or.inl ⟨by rfl, ?y3twob⟩) (by assumption) ?r3twob
      case y3twob => (intro x hx; (try dsimp only at hx); go_simp; try with_reducible rfl)
      try simp only [Act.put, List.setIfInBounds_toArray, List.set_cons_zero, List.set_cons_succ]
      refine wpAnyH_take (i := 4) (oi := { dst := some 117, op := Op.indexAddr 24 (Operand.tmp 115) (Operand.tmp 116), type := 0, pos := "outright.go:128", after := #[{ on := 2, ground := Ground.data }, { on := 3, ground := Ground.data }], guard := none }) (v := ?v4twob) rfl (by kernel_rfl) (by kernel_rfl) (by kernel_rfl) (fun _ _ _ h => h) (Or.inl ⟨by rfl, ?y4twob⟩) (by assumption) ?r4twob
      case y4twob => (intro x hx; (try dsimp only at hx); go_simp; try with_reducible rfl)
      try simp only [Act.put, List.setIfInBounds_toArray, List.set_cons_zero, List.set_cons_succ]
      refine wpAnyH_take (i := 5) (oi := { dst := some 118, op := Op.load 5 (Operand.tmp 117), type := 5, pos := "outright.go:128", after := #[{ on := 4, ground := Ground.data }], guard := none }) (v := ?v5twob) rfl (by kernel_rfl) (by kernel_rfl) (by kernel_rfl) (fun _ _ _ h => h) (Or.inl ⟨by rfl, ?y5twob⟩) (by assumption) ?r5twob
      case y5twob => (intro x hx; (try dsimp only at hx); go_simp; try with_reducible rfl)
      try simp only [Act.put, List.setIfInBounds_toArray, List.set_cons_zero, List.set_cons_succ]
      refine wpAnyH_take (i := 6) (oi := { dst := some 119, op := Op.move (Operand.tmp 4), type := 24, pos := "outright.go:128", after := #[], guard := none }) (v := ?v6twob) rfl (by kernel_rfl) (by kernel_rfl) (by kernel_rfl) (fun _ _ _ h => h) (Or.inl ⟨by rfl, ?y6twob⟩) (by assumption) ?r6twob
      case y6twob => (intro x hx; (try dsimp only at hx); go_simp; try with_reducible rfl)
      try simp only [Act.put, List.setIfInBounds_toArray, List.set_cons_zero, List.set_cons_succ]
      refine wpAnyH_take (i := 7) (oi := { dst := some 120, op := Op.move (Operand.tmp 14), type := 3, pos := "outright.go:128", after := #[], guard := none }) (v := ?v7twob) rfl (by kernel_rfl) (by kernel_rfl) (by kernel_rfl) (fun _ _ _ h => h) (Or.inl ⟨by rfl, ?y7twob⟩) (by assumption) ?r7twob
      case y7twob => (intro x hx; (try dsimp only at hx); go_simp; try with_reducible rfl)
      try simp only [Act.put, List.setIfInBounds_toArray, List.set_cons_zero, List.set_cons_succ]
      refine wpAnyH_take (i := 8) (oi := { dst := some 121, op := Op.indexAddr 24 (Operand.tmp 119) (Operand.tmp 120), type := 0, pos := "outright.go:128", after := #[{ on := 6, ground := Ground.data }, { on := 7, ground := Ground.data }], guard := none }) (v := ?v8twob) rfl (by kernel_rfl) (by kernel_rfl) (by kernel_rfl) (fun _ _ _ h => h) (Or.inl ⟨by rfl, ?y8twob⟩) (by assumption) ?r8twob
      case y8twob => (intro x hx; (try dsimp only at hx); go_simp; try with_reducible rfl)
      try simp only [Act.put, List.setIfInBounds_toArray, List.set_cons_zero, List.set_cons_succ]
      refine wpAnyH_take (i := 9) (oi := { dst := some 122, op := Op.load 5 (Operand.tmp 121), type := 5, pos := "outright.go:128", after := #[{ on := 8, ground := Ground.data }], guard := none }) (v := ?v9twob) rfl (by kernel_rfl) (by kernel_rfl) (by kernel_rfl) (fun _ _ _ h => h) (Or.inl ⟨by rfl, ?y9twob⟩) (by assumption) ?r9twob
      case y9twob => (intro x hx; (try dsimp only at hx); go_simp; try with_reducible rfl)
      try simp only [Act.put, List.setIfInBounds_toArray, List.set_cons_zero, List.set_cons_succ]
      refine wpAnyH_take (i := 10) (oi := { dst := some 123, op := Op.binOp BinOp.xor 5 (Operand.tmp 118) (Operand.tmp 122) 5, type := 5, pos := "outright.go:128", after := #[{ on := 5, ground := Ground.data }, { on := 9, ground := Ground.data }], guard := none }) (v := ?v10twob) rfl (by kernel_rfl) (by kernel_rfl) (by kernel_rfl) (fun _ _ _ h => h) (Or.inl ⟨by rfl, ?y10twob⟩) (by assumption) ?r10twob
      case y10twob => (intro x hx; (try dsimp only at hx); go_simp; try with_reducible rfl)
      try simp only [Act.put, List.setIfInBounds_toArray, List.set_cons_zero, List.set_cons_succ]
      refine wpAnyH_ready (rs := [11]) (by kernel_rfl) (by simp) ?_
      refine AllReadyH.cons (o := { dst := some 124, op := Op.buildSlice 24 1 #[(0, Operand.tmp 123)], type := 24, pos := "outright.go:128", after := #[{ on := 10, ground := Ground.data }], guard := none }) rfl (fun K hK => ?_) AllReadyH.nil
      go_simp
      go_wp2_with fail
      change K _ (wr.drew.drew.alloc (.cells #[.int .u8 (bits .xor .u8 xm ym)] 5))
      have hb5 : Below wr.heap.size wr (wr.drew.drew.alloc (.cells #[.int .u8 (bits .xor .u8 xm ym)] 5)) := below_trans (below_trans (drew_below _) (drew_below _)) (below_alloc _ _)
      have HB5 := hide hb5
      have HN5 := hide (alloc_new wr.drew.drew (.cells #[.int .u8 (bits .xor .u8 xm ym)] 5))
      have hSnew : (fun u => u.cell? ⟨w.heap.size, 0, none⟩ = some (.int .i64 o.k) ∧ u.cell? ⟨ga, m, none⟩ = some (.int .u8 xm) ∧ u.cell? ⟨gb, m, none⟩ = some (.int .u8 ym)) (wr.drew.drew.alloc (.cells #[.int .u8 (bits .xor .u8 xm ym)] 5)) := ⟨(hb5.cell (block_lt_of_cell HCE.out.1)).trans HCE.out.1, (hb5.cell (block_lt_of_cell HCE.out.2.1)).trans HCE.out.2.1, (hb5.cell (block_lt_of_cell HCE.out.2.2)).trans HCE.out.2.2⟩
      clear hb5
      refine hK.out _ _ hSnew (fun hHeld11 => ?_)
      clear hK K hSnew
      clear hHeld
      have hHeld := hHeld11
      clear hHeld11
      try simp only [Act.put, List.setIfInBounds_toArray, List.set_cons_zero, List.set_cons_succ]
      refine wpAnyH_ready (rs := [12]) (by kernel_rfl) (by simp) ?_
      refine AllReadyH.cons (o := { dst := some 125, op := Op.call { callee := Callee.value (Operand.func 29), args := #[Operand.tmp 124], argTypes := #[24] }, type := 3, pos := "outright.go:128", after := #[{ on := 11, ground := Ground.data }], guard := none }) rfl (fun K hK => ?_) AllReadyH.nil
      go_simp
      go_at_call 29
      refine (rzeros_any (some ⟨wr.heap.size, 0, none⟩) 1 1 [(bits .xor .u8 xm ym)] _ (by omega) (reads_one2 HN5.out HXY.out)).mono ?_
      rintro e u9 ⟨rfl, hu9⟩
      subst hu9
      rw [HZS.out]
      have hSnew := hHeld
      go_wp2_with fail
      refine hK.out _ _ hSnew (fun hHeld12 => ?_)
      clear hK K hSnew
      clear hHeld
      have hHeld := hHeld12
      clear hHeld12
      try simp only [Act.put, List.setIfInBounds_toArray, List.set_cons_zero, List.set_cons_succ]
      refine wpAnyH_take (i := 13) (oi := { dst := some 126, op := Op.binOp BinOp.sub 3 (Operand.tmp 114) (Operand.tmp 125) 3, type := 3, pos := "outright.go:128", after := #[{ on := 1, ground := Ground.data }, { on := 12, ground := Ground.data }], guard := none }) (v := ?v13twob) rfl (by kernel_rfl) (by kernel_rfl) (by kernel_rfl) (fun _ _ _ h => h) (Or.inl ⟨by rfl, ?y13twob⟩) (by assumption) ?r13twob
      case y13twob => (intro x hx; (try dsimp only at hx); go_simp; try with_reducible rfl)
      try simp only [Act.put, List.setIfInBounds_toArray, List.set_cons_zero, List.set_cons_succ]
      refine wpAnyH_take (i := 14) (oi := { dst := some 13, op := Op.assign (Operand.tmp 126), type := 3, pos := "outright.go:128", after := #[{ on := 13, ground := Ground.data }, { on := 12, ground := Ground.chain }, { on := 0, ground := Ground.phase }, { on := 1, ground := Ground.phase }, { on := 2, ground := Ground.phase }, { on := 3, ground := Ground.phase }, { on := 4, ground := Ground.phase }, { on := 5, ground := Ground.phase }, { on := 6, ground := Ground.phase }, { on := 7, ground := Ground.phase }, { on := 8, ground := Ground.phase }, { on := 9, ground := Ground.phase }, { on := 10, ground := Ground.phase }, { on := 11, ground := Ground.phase }, { on := 12, ground := Ground.phase }, { on := 13, ground := Ground.phase }], guard := none }) (v := ?v14twob) rfl (by kernel_rfl) (by kernel_rfl) (by kernel_rfl) (fun _ _ _ h => h) (Or.inl ⟨by rfl, ?y14twob⟩) (by assumption) ?r14twob
      case y14twob => (intro x hx; (try dsimp only at hx); go_simp; try with_reducible rfl)
      try simp only [Act.put, List.setIfInBounds_toArray, List.set_cons_zero, List.set_cons_succ]
      refine wpAnyH_done (by kernel_rfl) ?_ _
      clear hHeld
      go_wp2
      go_roundw
      case rel => exact ⟨m + 1, by omega, by go_num, by have h1 := HDS.out; have h2 := HZB.out; have h3 := HDL.out; rw [h1]; congr 1; simp only [IntKind.wrap_i64]; omega, below_trans HJ.out HB5.out⟩
      case measure => simp [intOf]; omega
    · have dm : decide ((m : Int) < 313) = false := decide_eq_false (by omega)
      have em : m = 313 := by omega
      subst em
      go_wp2
      go_ret
      exact ⟨rfl, below_trans HB0.out HJ.out⟩
set_option maxHeartbeats 8000000 in
set_option maxRecDepth 100000 in
theorem goes_twof (w : World) (o : Opc) (da : Option Addr) (dn dc : Nat) (za : Option Addr) (zn zc : Nat)  (i k : Nat) (ga ca gb cb : Nat) (xs ys : List Int) (hx : Reads w (some ⟨ga, 0, none⟩) 313 xs) (hy : Reads w (some ⟨gb, 0, none⟩) 313 ys) (hk : o.k = 2) (hp : o.b = (i : Int)) : Calls Try.prog 26 #[.agg #[.int .i64 o.k, .int .i64 o.b, .int .i64 o.p, .int .i64 o.bit, .bool o.fit, .slice da dn dc, .slice za zn zc], .bool true, .agg #[.int .i64 (i : Int), .int .i64 (k : Int)], .slice (some ⟨ga, 0, none⟩) 313 ca, .slice (some ⟨gb, 0, none⟩) 313 cb, .bool true] w fun e w' => e = .returned (.bool true) ∧ Below w.heap.size w w' := by
  have d4 : decide (4 < o.k) = false := decide_eq_false (by omega)
  have d4' : decide (o.k > 4) = false := decide_eq_false (by omega)
  have d1 : decide (o.k < 1) = false := decide_eq_false (by omega)
  have d3 : (o.k == 3) = false := by rw [hk]; rfl
  have d2 : (o.k == 2) = true := by rw [hk]; rfl
  have d2' : (o.k != 2) = false := by rw [hk]; rfl
  have d5 : (o.k == 1) = false := by rw [hk]; rfl
  have d6 : (o.k == 4) = false := by rw [hk]; rfl
  have db : (o.b == (i : Int)) = true := by simp [hp]
  have db' : (o.b != (i : Int)) = false := by simp [hp]
  have HXL : Hid (xs.length = 313) := hx.1
  have HXB : Hid (Byt xs) := hx.2.1
  have HYB : Hid (Byt ys) := hy.2.1
  have hb0 := below_trans (below_alloc w (.cells #[.int .i64 o.k, .int .i64 o.b, .int .i64 o.p, .int .i64 o.bit, .bool o.fit, .slice da dn dc, .slice za zn zc] 56)) (below_alloc _ (.cells #[.int .i64 (i : Int), .int .i64 (k : Int)] 41))
  have HB0 := hide hb0
  have HXR := hide (hx.below hb0)
  have HYR := hide (hy.below hb0)
  have HO1 : Hid (((w.alloc (.cells #[.int .i64 o.k, .int .i64 o.b, .int .i64 o.p, .int .i64 o.bit, .bool o.fit, .slice da dn dc, .slice za zn zc] 56)).alloc (.cells #[.int .i64 (i : Int), .int .i64 (k : Int)] 41)).heap[w.heap.size]? = some (.cells #[.int .i64 o.k, .int .i64 o.b, .int .i64 o.p, .int .i64 o.bit, .bool o.fit, .slice da dn dc, .slice za zn zc] 56 (0, 0))) := (alloc_old _ _ (by simp)).trans (alloc_new w _)
  have HP1 : Hid (((w.alloc (.cells #[.int .i64 o.k, .int .i64 o.b, .int .i64 o.p, .int .i64 o.bit, .bool o.fit, .slice da dn dc, .slice za zn zc] 56)).alloc (.cells #[.int .i64 (i : Int), .int .i64 (k : Int)] 41)).heap[w.heap.size + 1]? = some (.cells #[.int .i64 (i : Int), .int .i64 (k : Int)] 41 (0, 0))) := by
    have h9 := alloc_new (w.alloc (.cells #[.int .i64 o.k, .int .i64 o.b, .int .i64 o.p, .int .i64 o.bit, .bool o.fit, .slice da dn dc, .slice za zn zc] 56)) (.cells #[.int .i64 (i : Int), .int .i64 (k : Int)] 41)
    rw [alloc_size] at h9
    exact h9
  clear hb0 hx hy
  obtain ⟨y0, y1, y2, y3, _⟩ := cells7 HO1.out
  obtain ⟨z0, z1⟩ := cells2 HP1.out
  clear hk hp
  go_enter Try.func26, Try.ntmps26
  go_wp2
  generalize hU : (w.alloc (.cells #[.int .i64 o.k, .int .i64 o.b, .int .i64 o.p, .int .i64 o.bit, .bool o.fit, .slice da dn dc, .slice za zn zc] 56)).alloc (.cells #[.int .i64 (i : Int), .int .i64 (k : Int)] 41) = U at HB0 HXR HYR HO1 HP1 y0 y1 y2 y3 z0 z1 ⊢
  clear hU
  go_loopw [13, 14] (fun s13 s14 wr => ∃ m : Nat, m ≤ 313 ∧ s14 = .int .i64 m ∧ s13 = .int .i64 (dsum xs ys m) ∧ Hid (Below U.heap.size U wr)) (fun _ s14 _ => 313 - (intOf s14).toNat)
  case atStart => exact ⟨0, by omega, rfl, rfl, Below.refl _ _⟩
  case round =>
    obtain ⟨m, hm, rfl, rfl, HJ⟩ := hrel
    clear y1 y2 y3 z0 z1
    have y0 := (HJ.out.cell (block_lt_of_cell y0)).trans y0
    by_cases hlt : m < 313
    · have dm : decide ((m : Int) < 313) = true := decide_eq_true (by omega)
      have m1 : (m : Int) < 313 := by omega
      obtain ⟨xm, hxm⟩ : ∃ z, z = xs.getD m 0 := ⟨_, rfl⟩
      obtain ⟨ym, hym⟩ : ∃ z, z = ys.getD m 0 := ⟨_, rfl⟩
      have hcx := (HXR.out.below HJ.out).2.2.2 ⟨ga, 0, none⟩ rfl m hlt
      have hcy := (HYR.out.below HJ.out).2.2.2 ⟨gb, 0, none⟩ rfl m hlt
      rw [plain_add, Nat.zero_add, ← hxm] at hcx
      rw [plain_add, Nat.zero_add, ← hym] at hcy
      have HCE : Hid (wr.cell? ⟨w.heap.size, 0, none⟩ = some (.int .i64 o.k) ∧ wr.cell? ⟨ga, m, none⟩ = some (.int .u8 xm) ∧ wr.cell? ⟨gb, m, none⟩ = some (.int .u8 ym)) := ⟨y0, hcx, hcy⟩
      have HCE1 : Hid (wr.drew.cell? ⟨w.heap.size, 0, none⟩ = some (.int .i64 o.k) ∧ wr.drew.cell? ⟨ga, m, none⟩ = some (.int .u8 xm) ∧ wr.drew.cell? ⟨gb, m, none⟩ = some (.int .u8 ym)) := ⟨y0, hcx, hcy⟩
      have HXY : Hid (0 ≤ (bits .xor .u8 xm ym) ∧ (bits .xor .u8 xm ym) ≤ 255) := xor_rng2 (by rw [hxm]; exact getD_range HXB.out _) (by rw [hym]; exact getD_range HYB.out _)
      have HDS : Hid (dsum xs ys (m + 1) = dsum xs ys m + (8 - zb (bits .xor .u8 xm ym))) := by rw [hxm, hym]; rfl
      have HZB : Hid (zb (bits .xor .u8 xm ym) ≤ 8) := by show zb (bits .xor .u8 xm ym) ≤ 8; unfold zb; omega
      have HZS : Hid (((zsum [(bits .xor .u8 xm ym)] : Nat) : Int) = ((zb (bits .xor .u8 xm ym) : Nat) : Int)) := rfl
      have HDL := hide (dsum_le xs ys m)
      clear hxm hym hcx hcy y0
      go_upto_region 9 with fail
      refine wp_region_held_drew (S := (fun u => u.cell? ⟨w.heap.size, 0, none⟩ = some (.int .i64 o.k) ∧ u.cell? ⟨ga, m, none⟩ = some (.int .u8 xm) ∧ u.cell? ⟨gb, m, none⟩ = some (.int .u8 ym))) (by kernel_rfl) (HCE.out) (fun hHeld => ?_)
      refine wpAnyH_take (i := 0) (oi := { dst := some 77, op := Op.fieldAddr 56 (Operand.tmp 6) 0, type := 0, pos := "outright.go:125", after := #[], guard := none }) (v := ?v0twofa) rfl (by kernel_rfl) (by kernel_rfl) (by kernel_rfl) (fun _ _ _ h => h) (Or.inl ⟨by rfl, ?y0twofa⟩) (by assumption) ?r0twofa
      case y0twofa => (intro x hx; (try dsimp only at hx); go_simp; try with_reducible rfl)
      try simp only [Act.put, List.setIfInBounds_toArray, List.set_cons_zero, List.set_cons_succ]
      refine wpAnyH_take (i := 1) (oi := { dst := some 78, op := Op.load 3 (Operand.tmp 77), type := 3, pos := "outright.go:125", after := #[{ on := 0, ground := Ground.data }], guard := none }) (v := ?v1twofa) rfl (by kernel_rfl) (by kernel_rfl) (by kernel_rfl) (fun _ _ _ h => h) (Or.inl ⟨by rfl, ?y1twofa⟩) (by assumption) ?r1twofa
      case y1twofa => (intro x hx; (try dsimp only at hx); go_simp; try with_reducible rfl)
      try simp only [Act.put, List.setIfInBounds_toArray, List.set_cons_zero, List.set_cons_succ]
      refine wpAnyH_take (i := 2) (oi := { dst := some 79, op := Op.binOp BinOp.eql 3 (Operand.tmp 78) (Operand.const (Value.int IntKind.i64 1)) 3, type := 4, pos := "outright.go:125", after := #[{ on := 1, ground := Ground.data }], guard := none }) (v := ?v2twofa) rfl (by kernel_rfl) (by kernel_rfl) (by kernel_rfl) (fun _ _ _ h => h) (Or.inl ⟨by rfl, ?y2twofa⟩) (by assumption) ?r2twofa
      case y2twofa => (intro x hx; (try dsimp only at hx); go_simp; try with_reducible rfl)
      try simp only [Act.put, List.setIfInBounds_toArray, List.set_cons_zero, List.set_cons_succ]
      refine wpAnyH_take (i := 3) (oi := { dst := some 80, op := Op.move (Operand.tmp 79), type := 4, pos := "outright.go:125", after := #[{ on := 2, ground := Ground.data }], guard := none }) (v := ?v3twofa) rfl (by kernel_rfl) (by kernel_rfl) (by kernel_rfl) (fun _ _ _ h => h) (Or.inl ⟨by rfl, ?y3twofa⟩) (by assumption) ?r3twofa
      case y3twofa => (intro x hx; (try dsimp only at hx); go_simp; try with_reducible rfl)
      try simp only [Act.put, List.setIfInBounds_toArray, List.set_cons_zero, List.set_cons_succ]
      refine wpAnyH_take (i := 4) (oi := { dst := some 81, op := Op.move (Operand.tmp 4), type := 24, pos := "outright.go:125", after := #[{ on := 3, ground := Ground.guard }], guard := some (3, true) }) (v := undef) rfl (by kernel_rfl) (by kernel_rfl) (by kernel_rfl) (fun _ _ _ h => h) (Or.inr ⟨by rfl, rfl⟩) (by assumption) ?_
      try simp only [Act.put, List.setIfInBounds_toArray, List.set_cons_zero, List.set_cons_succ]
      refine wpAnyH_take (i := 5) (oi := { dst := some 82, op := Op.move (Operand.tmp 14), type := 3, pos := "outright.go:125", after := #[{ on := 3, ground := Ground.guard }], guard := some (3, true) }) (v := undef) rfl (by kernel_rfl) (by kernel_rfl) (by kernel_rfl) (fun _ _ _ h => h) (Or.inr ⟨by rfl, rfl⟩) (by assumption) ?_
      try simp only [Act.put, List.setIfInBounds_toArray, List.set_cons_zero, List.set_cons_succ]
      refine wpAnyH_take (i := 6) (oi := { dst := some 83, op := Op.indexAddr 24 (Operand.tmp 81) (Operand.tmp 82), type := 0, pos := "outright.go:125", after := #[{ on := 4, ground := Ground.data }, { on := 5, ground := Ground.data }, { on := 3, ground := Ground.guard }], guard := some (3, true) }) (v := undef) rfl (by kernel_rfl) (by kernel_rfl) (by kernel_rfl) (fun _ _ _ h => h) (Or.inr ⟨by rfl, rfl⟩) (by assumption) ?_
      try simp only [Act.put, List.setIfInBounds_toArray, List.set_cons_zero, List.set_cons_succ]
      refine wpAnyH_take (i := 7) (oi := { dst := some 84, op := Op.load 5 (Operand.tmp 83), type := 5, pos := "outright.go:125", after := #[{ on := 6, ground := Ground.data }, { on := 3, ground := Ground.guard }], guard := some (3, true) }) (v := undef) rfl (by kernel_rfl) (by kernel_rfl) (by kernel_rfl) (fun _ _ _ h => h) (Or.inr ⟨by rfl, rfl⟩) (by assumption) ?_
      try simp only [Act.put, List.setIfInBounds_toArray, List.set_cons_zero, List.set_cons_succ]
      refine wpAnyH_take (i := 8) (oi := { dst := some 85, op := Op.move (Operand.tmp 3), type := 24, pos := "outright.go:125", after := #[{ on := 3, ground := Ground.guard }], guard := some (3, true) }) (v := undef) rfl (by kernel_rfl) (by kernel_rfl) (by kernel_rfl) (fun _ _ _ h => h) (Or.inr ⟨by rfl, rfl⟩) (by assumption) ?_
      try simp only [Act.put, List.setIfInBounds_toArray, List.set_cons_zero, List.set_cons_succ]
      refine wpAnyH_take (i := 9) (oi := { dst := some 86, op := Op.move (Operand.tmp 14), type := 3, pos := "outright.go:125", after := #[{ on := 3, ground := Ground.guard }], guard := some (3, true) }) (v := undef) rfl (by kernel_rfl) (by kernel_rfl) (by kernel_rfl) (fun _ _ _ h => h) (Or.inr ⟨by rfl, rfl⟩) (by assumption) ?_
      try simp only [Act.put, List.setIfInBounds_toArray, List.set_cons_zero, List.set_cons_succ]
      refine wpAnyH_take (i := 10) (oi := { dst := some 87, op := Op.indexAddr 24 (Operand.tmp 85) (Operand.tmp 86), type := 0, pos := "outright.go:125", after := #[{ on := 8, ground := Ground.data }, { on := 9, ground := Ground.data }, { on := 3, ground := Ground.guard }], guard := some (3, true) }) (v := undef) rfl (by kernel_rfl) (by kernel_rfl) (by kernel_rfl) (fun _ _ _ h => h) (Or.inr ⟨by rfl, rfl⟩) (by assumption) ?_
      try simp only [Act.put, List.setIfInBounds_toArray, List.set_cons_zero, List.set_cons_succ]
      refine wpAnyH_take (i := 11) (oi := { dst := some 88, op := Op.load 5 (Operand.tmp 87), type := 5, pos := "outright.go:125", after := #[{ on := 10, ground := Ground.data }, { on := 3, ground := Ground.guard }], guard := some (3, true) }) (v := undef) rfl (by kernel_rfl) (by kernel_rfl) (by kernel_rfl) (fun _ _ _ h => h) (Or.inr ⟨by rfl, rfl⟩) (by assumption) ?_
      try simp only [Act.put, List.setIfInBounds_toArray, List.set_cons_zero, List.set_cons_succ]
      refine wpAnyH_take (i := 12) (oi := { dst := some 89, op := Op.binOp BinOp.andNot 5 (Operand.tmp 84) (Operand.tmp 88) 5, type := 5, pos := "outright.go:125", after := #[{ on := 7, ground := Ground.data }, { on := 11, ground := Ground.data }, { on := 3, ground := Ground.guard }], guard := some (3, true) }) (v := undef) rfl (by kernel_rfl) (by kernel_rfl) (by kernel_rfl) (fun _ _ _ h => h) (Or.inr ⟨by rfl, rfl⟩) (by assumption) ?_
      try simp only [Act.put, List.setIfInBounds_toArray, List.set_cons_zero, List.set_cons_succ]
      refine wpAnyH_take (i := 13) (oi := { dst := some 90, op := Op.binOp BinOp.neq 5 (Operand.tmp 89) (Operand.const (Value.int IntKind.u8 0)) 5, type := 4, pos := "outright.go:125", after := #[{ on := 12, ground := Ground.data }, { on := 3, ground := Ground.guard }], guard := some (3, true) }) (v := undef) rfl (by kernel_rfl) (by kernel_rfl) (by kernel_rfl) (fun _ _ _ h => h) (Or.inr ⟨by rfl, rfl⟩) (by assumption) ?_
      try simp only [Act.put, List.setIfInBounds_toArray, List.set_cons_zero, List.set_cons_succ]
      refine wpAnyH_take (i := 14) (oi := { dst := some 91, op := Op.pick (Operand.tmp 80) (Operand.tmp 90) (Operand.const (Value.bool false)), type := 4, pos := "outright.go:125", after := #[{ on := 3, ground := Ground.data }, { on := 13, ground := Ground.data }], guard := none }) (v := ?v14twofa) rfl (by kernel_rfl) (by kernel_rfl) (by kernel_rfl) (fun _ _ _ h => h) (Or.inl ⟨by rfl, ?y14twofa⟩) (by assumption) ?r14twofa
      case y14twofa => (intro x hx; (try dsimp only at hx); go_simp; try with_reducible rfl)
      try simp only [Act.put, List.setIfInBounds_toArray, List.set_cons_zero, List.set_cons_succ]
      refine wpAnyH_take (i := 15) (oi := { dst := some 92, op := Op.move (Operand.tmp 91), type := 4, pos := "outright.go:125", after := #[{ on := 14, ground := Ground.data }, { on := 3, ground := Ground.chain }], guard := none }) (v := ?v15twofa) rfl (by kernel_rfl) (by kernel_rfl) (by kernel_rfl) (fun _ _ _ h => h) (Or.inl ⟨by rfl, ?y15twofa⟩) (by assumption) ?r15twofa
      case y15twofa => (intro x hx; (try dsimp only at hx); go_simp; try with_reducible rfl)
      try simp only [Act.put, List.setIfInBounds_toArray, List.set_cons_zero, List.set_cons_succ]
      refine wpAnyH_take (i := 16) (oi := { dst := some 93, op := Op.fieldAddr 56 (Operand.tmp 6) 0, type := 0, pos := "outright.go:125", after := #[{ on := 15, ground := Ground.guard }], guard := some (15, false) }) (v := ?v16twofa) rfl (by kernel_rfl) (by kernel_rfl) (by kernel_rfl) (fun _ _ _ h => h) (Or.inl ⟨by rfl, ?y16twofa⟩) (by assumption) ?r16twofa
      case y16twofa => (intro x hx; (try dsimp only at hx); go_simp; try with_reducible rfl)
      try simp only [Act.put, List.setIfInBounds_toArray, List.set_cons_zero, List.set_cons_succ]
      refine wpAnyH_take (i := 17) (oi := { dst := some 94, op := Op.load 3 (Operand.tmp 93), type := 3, pos := "outright.go:125", after := #[{ on := 16, ground := Ground.data }, { on := 15, ground := Ground.guard }], guard := some (15, false) }) (v := ?v17twofa) rfl (by kernel_rfl) (by kernel_rfl) (by kernel_rfl) (fun _ _ _ h => h) (Or.inl ⟨by rfl, ?y17twofa⟩) (by assumption) ?r17twofa
      case y17twofa => (intro x hx; (try dsimp only at hx); go_simp; try with_reducible rfl)
      try simp only [Act.put, List.setIfInBounds_toArray, List.set_cons_zero, List.set_cons_succ]
      refine wpAnyH_take (i := 18) (oi := { dst := some 95, op := Op.binOp BinOp.eql 3 (Operand.tmp 94) (Operand.const (Value.int IntKind.i64 2)) 3, type := 4, pos := "outright.go:125", after := #[{ on := 17, ground := Ground.data }, { on := 15, ground := Ground.guard }], guard := some (15, false) }) (v := ?v18twofa) rfl (by kernel_rfl) (by kernel_rfl) (by kernel_rfl) (fun _ _ _ h => h) (Or.inl ⟨by rfl, ?y18twofa⟩) (by assumption) ?r18twofa
      case y18twofa => (intro x hx; (try dsimp only at hx); go_simp; try with_reducible rfl)
      try simp only [Act.put, List.setIfInBounds_toArray, List.set_cons_zero, List.set_cons_succ]
      refine wpAnyH_take (i := 19) (oi := { dst := some 96, op := Op.move (Operand.tmp 95), type := 4, pos := "outright.go:125", after := #[{ on := 18, ground := Ground.data }, { on := 15, ground := Ground.chain }, { on := 15, ground := Ground.guard }], guard := some (15, false) }) (v := ?v19twofa) rfl (by kernel_rfl) (by kernel_rfl) (by kernel_rfl) (fun _ _ _ h => h) (Or.inl ⟨by rfl, ?y19twofa⟩) (by assumption) ?r19twofa
      case y19twofa => (intro x hx; (try dsimp only at hx); go_simp; try with_reducible rfl)
      try simp only [Act.put, List.setIfInBounds_toArray, List.set_cons_zero, List.set_cons_succ]
      refine wpAnyH_take (i := 20) (oi := { dst := some 97, op := Op.move (Operand.tmp 5), type := 4, pos := "outright.go:125", after := #[{ on := 19, ground := Ground.guard }], guard := some (19, true) }) (v := ?v20twofa) rfl (by kernel_rfl) (by kernel_rfl) (by kernel_rfl) (fun _ _ _ h => h) (Or.inl ⟨by rfl, ?y20twofa⟩) (by assumption) ?r20twofa
      case y20twofa => (intro x hx; (try dsimp only at hx); go_simp; try with_reducible rfl)
      try simp only [Act.put, List.setIfInBounds_toArray, List.set_cons_zero, List.set_cons_succ]
      refine wpAnyH_take (i := 21) (oi := { dst := some 98, op := Op.unOp UnOp.not 4 (Operand.tmp 97), type := 4, pos := "outright.go:125", after := #[{ on := 20, ground := Ground.data }, { on := 19, ground := Ground.guard }], guard := some (19, true) }) (v := ?v21twofa) rfl (by kernel_rfl) (by kernel_rfl) (by kernel_rfl) (fun _ _ _ h => h) (Or.inl ⟨by rfl, ?y21twofa⟩) (by assumption) ?r21twofa
      case y21twofa => (intro x hx; (try dsimp only at hx); go_simp; try with_reducible rfl)
      try simp only [Act.put, List.setIfInBounds_toArray, List.set_cons_zero, List.set_cons_succ]
      refine wpAnyH_take (i := 22) (oi := { dst := some 99, op := Op.pick (Operand.tmp 96) (Operand.tmp 98) (Operand.const (Value.bool false)), type := 4, pos := "outright.go:125", after := #[{ on := 19, ground := Ground.data }, { on := 21, ground := Ground.data }, { on := 15, ground := Ground.guard }], guard := some (15, false) }) (v := ?v22twofa) rfl (by kernel_rfl) (by kernel_rfl) (by kernel_rfl) (fun _ _ _ h => h) (Or.inl ⟨by rfl, ?y22twofa⟩) (by assumption) ?r22twofa
      case y22twofa => (intro x hx; (try dsimp only at hx); go_simp; try with_reducible rfl)
      try simp only [Act.put, List.setIfInBounds_toArray, List.set_cons_zero, List.set_cons_succ]
      refine wpAnyH_take (i := 23) (oi := { dst := some 100, op := Op.move (Operand.tmp 99), type := 4, pos := "outright.go:125", after := #[{ on := 22, ground := Ground.data }, { on := 19, ground := Ground.chain }, { on := 15, ground := Ground.guard }], guard := some (15, false) }) (v := ?v23twofa) rfl (by kernel_rfl) (by kernel_rfl) (by kernel_rfl) (fun _ _ _ h => h) (Or.inl ⟨by rfl, ?y23twofa⟩) (by assumption) ?r23twofa
      case y23twofa => (intro x hx; (try dsimp only at hx); go_simp; try with_reducible rfl)
      try simp only [Act.put, List.setIfInBounds_toArray, List.set_cons_zero, List.set_cons_succ]
      refine wpAnyH_take (i := 24) (oi := { dst := some 101, op := Op.move (Operand.tmp 3), type := 24, pos := "outright.go:125", after := #[{ on := 23, ground := Ground.guard }], guard := some (23, true) }) (v := undef) rfl (by kernel_rfl) (by kernel_rfl) (by kernel_rfl) (fun _ _ _ h => h) (Or.inr ⟨by rfl, rfl⟩) (by assumption) ?_
      try simp only [Act.put, List.setIfInBounds_toArray, List.set_cons_zero, List.set_cons_succ]
      refine wpAnyH_take (i := 25) (oi := { dst := some 102, op := Op.move (Operand.tmp 14), type := 3, pos := "outright.go:125", after := #[{ on := 23, ground := Ground.guard }], guard := some (23, true) }) (v := undef) rfl (by kernel_rfl) (by kernel_rfl) (by kernel_rfl) (fun _ _ _ h => h) (Or.inr ⟨by rfl, rfl⟩) (by assumption) ?_
      try simp only [Act.put, List.setIfInBounds_toArray, List.set_cons_zero, List.set_cons_succ]
      refine wpAnyH_take (i := 26) (oi := { dst := some 103, op := Op.indexAddr 24 (Operand.tmp 101) (Operand.tmp 102), type := 0, pos := "outright.go:125", after := #[{ on := 24, ground := Ground.data }, { on := 25, ground := Ground.data }, { on := 23, ground := Ground.guard }], guard := some (23, true) }) (v := undef) rfl (by kernel_rfl) (by kernel_rfl) (by kernel_rfl) (fun _ _ _ h => h) (Or.inr ⟨by rfl, rfl⟩) (by assumption) ?_
      try simp only [Act.put, List.setIfInBounds_toArray, List.set_cons_zero, List.set_cons_succ]
      refine wpAnyH_take (i := 27) (oi := { dst := some 104, op := Op.load 5 (Operand.tmp 103), type := 5, pos := "outright.go:125", after := #[{ on := 26, ground := Ground.data }, { on := 23, ground := Ground.guard }], guard := some (23, true) }) (v := undef) rfl (by kernel_rfl) (by kernel_rfl) (by kernel_rfl) (fun _ _ _ h => h) (Or.inr ⟨by rfl, rfl⟩) (by assumption) ?_
      try simp only [Act.put, List.setIfInBounds_toArray, List.set_cons_zero, List.set_cons_succ]
      refine wpAnyH_take (i := 28) (oi := { dst := some 105, op := Op.move (Operand.tmp 4), type := 24, pos := "outright.go:125", after := #[{ on := 23, ground := Ground.guard }], guard := some (23, true) }) (v := undef) rfl (by kernel_rfl) (by kernel_rfl) (by kernel_rfl) (fun _ _ _ h => h) (Or.inr ⟨by rfl, rfl⟩) (by assumption) ?_
      try simp only [Act.put, List.setIfInBounds_toArray, List.set_cons_zero, List.set_cons_succ]
      refine wpAnyH_take (i := 29) (oi := { dst := some 106, op := Op.move (Operand.tmp 14), type := 3, pos := "outright.go:125", after := #[{ on := 23, ground := Ground.guard }], guard := some (23, true) }) (v := undef) rfl (by kernel_rfl) (by kernel_rfl) (by kernel_rfl) (fun _ _ _ h => h) (Or.inr ⟨by rfl, rfl⟩) (by assumption) ?_
      try simp only [Act.put, List.setIfInBounds_toArray, List.set_cons_zero, List.set_cons_succ]
      refine wpAnyH_take (i := 30) (oi := { dst := some 107, op := Op.indexAddr 24 (Operand.tmp 105) (Operand.tmp 106), type := 0, pos := "outright.go:125", after := #[{ on := 28, ground := Ground.data }, { on := 29, ground := Ground.data }, { on := 23, ground := Ground.guard }], guard := some (23, true) }) (v := undef) rfl (by kernel_rfl) (by kernel_rfl) (by kernel_rfl) (fun _ _ _ h => h) (Or.inr ⟨by rfl, rfl⟩) (by assumption) ?_
      try simp only [Act.put, List.setIfInBounds_toArray, List.set_cons_zero, List.set_cons_succ]
      refine wpAnyH_take (i := 31) (oi := { dst := some 108, op := Op.load 5 (Operand.tmp 107), type := 5, pos := "outright.go:125", after := #[{ on := 30, ground := Ground.data }, { on := 23, ground := Ground.guard }], guard := some (23, true) }) (v := undef) rfl (by kernel_rfl) (by kernel_rfl) (by kernel_rfl) (fun _ _ _ h => h) (Or.inr ⟨by rfl, rfl⟩) (by assumption) ?_
      try simp only [Act.put, List.setIfInBounds_toArray, List.set_cons_zero, List.set_cons_succ]
      refine wpAnyH_take (i := 32) (oi := { dst := some 109, op := Op.binOp BinOp.andNot 5 (Operand.tmp 104) (Operand.tmp 108) 5, type := 5, pos := "outright.go:125", after := #[{ on := 27, ground := Ground.data }, { on := 31, ground := Ground.data }, { on := 23, ground := Ground.guard }], guard := some (23, true) }) (v := undef) rfl (by kernel_rfl) (by kernel_rfl) (by kernel_rfl) (fun _ _ _ h => h) (Or.inr ⟨by rfl, rfl⟩) (by assumption) ?_
      try simp only [Act.put, List.setIfInBounds_toArray, List.set_cons_zero, List.set_cons_succ]
      refine wpAnyH_take (i := 33) (oi := { dst := some 110, op := Op.binOp BinOp.neq 5 (Operand.tmp 109) (Operand.const (Value.int IntKind.u8 0)) 5, type := 4, pos := "outright.go:125", after := #[{ on := 32, ground := Ground.data }, { on := 23, ground := Ground.guard }], guard := some (23, true) }) (v := undef) rfl (by kernel_rfl) (by kernel_rfl) (by kernel_rfl) (fun _ _ _ h => h) (Or.inr ⟨by rfl, rfl⟩) (by assumption) ?_
      try simp only [Act.put, List.setIfInBounds_toArray, List.set_cons_zero, List.set_cons_succ]
      refine wpAnyH_take (i := 34) (oi := { dst := some 111, op := Op.pick (Operand.tmp 100) (Operand.tmp 110) (Operand.const (Value.bool false)), type := 4, pos := "outright.go:125", after := #[{ on := 23, ground := Ground.data }, { on := 33, ground := Ground.data }, { on := 15, ground := Ground.guard }], guard := some (15, false) }) (v := ?v34twofa) rfl (by kernel_rfl) (by kernel_rfl) (by kernel_rfl) (fun _ _ _ h => h) (Or.inl ⟨by rfl, ?y34twofa⟩) (by assumption) ?r34twofa
      case y34twofa => (intro x hx; (try dsimp only at hx); go_simp; try with_reducible rfl)
      try simp only [Act.put, List.setIfInBounds_toArray, List.set_cons_zero, List.set_cons_succ]
      refine wpAnyH_take (i := 35) (oi := { dst := some 112, op := Op.pick (Operand.tmp 92) (Operand.const (Value.bool true)) (Operand.tmp 111), type := 4, pos := "outright.go:125", after := #[{ on := 15, ground := Ground.data }, { on := 34, ground := Ground.data }], guard := none }) (v := ?v35twofa) rfl (by kernel_rfl) (by kernel_rfl) (by kernel_rfl) (fun _ _ _ h => h) (Or.inl ⟨by rfl, ?y35twofa⟩) (by assumption) ?r35twofa
      case y35twofa => (intro x hx; (try dsimp only at hx); go_simp; try with_reducible rfl)
      try simp only [Act.put, List.setIfInBounds_toArray, List.set_cons_zero, List.set_cons_succ]
      refine wpAnyH_done (by kernel_rfl) ?_ _
      clear hHeld
      go_upto_region 11 with fail
      refine wp_region_held_drew (S := (fun u => u.cell? ⟨w.heap.size, 0, none⟩ = some (.int .i64 o.k) ∧ u.cell? ⟨ga, m, none⟩ = some (.int .u8 xm) ∧ u.cell? ⟨gb, m, none⟩ = some (.int .u8 ym))) (by kernel_rfl) (HCE1.out) (fun hHeld => ?_)
      refine wpAnyH_take (i := 0) (oi := { dst := some 113, op := Op.move (Operand.tmp 13), type := 3, pos := "outright.go:128", after := #[], guard := none }) (v := ?v0twofb) rfl (by kernel_rfl) (by kernel_rfl) (by kernel_rfl) (fun _ _ _ h => h) (Or.inl ⟨by rfl, ?y0twofb⟩) (by assumption) ?r0twofb
      case y0twofb => (intro x hx; (try dsimp only at hx); go_simp; try with_reducible rfl)
      try simp only [Act.put, List.setIfInBounds_toArray, List.set_cons_zero, List.set_cons_succ]
      refine wpAnyH_take (i := 1) (oi := { dst := some 114, op := Op.binOp BinOp.add 3 (Operand.tmp 113) (Operand.const (Value.int IntKind.i64 8)) 3, type := 3, pos := "outright.go:128", after := #[{ on := 0, ground := Ground.data }], guard := none }) (v := ?v1twofb) rfl (by kernel_rfl) (by kernel_rfl) (by kernel_rfl) (fun _ _ _ h => h) (Or.inl ⟨by rfl, ?y1twofb⟩) (by assumption) ?r1twofb
      case y1twofb => (intro x hx; (try dsimp only at hx); go_simp; try with_reducible rfl)
      try simp only [Act.put, List.setIfInBounds_toArray, List.set_cons_zero, List.set_cons_succ]
      refine wpAnyH_take (i := 2) (oi := { dst := some 115, op := Op.move (Operand.tmp 3), type := 24, pos := "outright.go:128", after := #[], guard := none }) (v := ?v2twofb) rfl (by kernel_rfl) (by kernel_rfl) (by kernel_rfl) (fun _ _ _ h => h) (Or.inl ⟨by rfl, ?y2twofb⟩) (by assumption) ?r2twofb
      case y2twofb => (intro x hx; (try dsimp only at hx); go_simp; try with_reducible rfl)
      try simp only [Act.put, List.setIfInBounds_toArray, List.set_cons_zero, List.set_cons_succ]
      refine wpAnyH_take (i := 3) (oi := { dst := some 116, op := Op.move (Operand.tmp 14), type := 3, pos := "outright.go:128", after := #[], guard := none }) (v := ?v3twofb) rfl (by kernel_rfl) (by kernel_rfl) (by kernel_rfl) (fun _ _ _ h => h) (Or.inl ⟨by rfl, ?y3twofb⟩) (by assumption) ?r3twofb
      case y3twofb => (intro x hx; (try dsimp only at hx); go_simp; try with_reducible rfl)
      try simp only [Act.put, List.setIfInBounds_toArray, List.set_cons_zero, List.set_cons_succ]
      refine wpAnyH_take (i := 4) (oi := { dst := some 117, op := Op.indexAddr 24 (Operand.tmp 115) (Operand.tmp 116), type := 0, pos := "outright.go:128", after := #[{ on := 2, ground := Ground.data }, { on := 3, ground := Ground.data }], guard := none }) (v := ?v4twofb) rfl (by kernel_rfl) (by kernel_rfl) (by kernel_rfl) (fun _ _ _ h => h) (Or.inl ⟨by rfl, ?y4twofb⟩) (by assumption) ?r4twofb
      case y4twofb => (intro x hx; (try dsimp only at hx); go_simp; try with_reducible rfl)
      try simp only [Act.put, List.setIfInBounds_toArray, List.set_cons_zero, List.set_cons_succ]
      refine wpAnyH_take (i := 5) (oi := { dst := some 118, op := Op.load 5 (Operand.tmp 117), type := 5, pos := "outright.go:128", after := #[{ on := 4, ground := Ground.data }], guard := none }) (v := ?v5twofb) rfl (by kernel_rfl) (by kernel_rfl) (by kernel_rfl) (fun _ _ _ h => h) (Or.inl ⟨by rfl, ?y5twofb⟩) (by assumption) ?r5twofb
      case y5twofb => (intro x hx; (try dsimp only at hx); go_simp; try with_reducible rfl)
      try simp only [Act.put, List.setIfInBounds_toArray, List.set_cons_zero, List.set_cons_succ]
      refine wpAnyH_take (i := 6) (oi := { dst := some 119, op := Op.move (Operand.tmp 4), type := 24, pos := "outright.go:128", after := #[], guard := none }) (v := ?v6twofb) rfl (by kernel_rfl) (by kernel_rfl) (by kernel_rfl) (fun _ _ _ h => h) (Or.inl ⟨by rfl, ?y6twofb⟩) (by assumption) ?r6twofb
      case y6twofb => (intro x hx; (try dsimp only at hx); go_simp; try with_reducible rfl)
      try simp only [Act.put, List.setIfInBounds_toArray, List.set_cons_zero, List.set_cons_succ]
      refine wpAnyH_take (i := 7) (oi := { dst := some 120, op := Op.move (Operand.tmp 14), type := 3, pos := "outright.go:128", after := #[], guard := none }) (v := ?v7twofb) rfl (by kernel_rfl) (by kernel_rfl) (by kernel_rfl) (fun _ _ _ h => h) (Or.inl ⟨by rfl, ?y7twofb⟩) (by assumption) ?r7twofb
      case y7twofb => (intro x hx; (try dsimp only at hx); go_simp; try with_reducible rfl)
      try simp only [Act.put, List.setIfInBounds_toArray, List.set_cons_zero, List.set_cons_succ]
      refine wpAnyH_take (i := 8) (oi := { dst := some 121, op := Op.indexAddr 24 (Operand.tmp 119) (Operand.tmp 120), type := 0, pos := "outright.go:128", after := #[{ on := 6, ground := Ground.data }, { on := 7, ground := Ground.data }], guard := none }) (v := ?v8twofb) rfl (by kernel_rfl) (by kernel_rfl) (by kernel_rfl) (fun _ _ _ h => h) (Or.inl ⟨by rfl, ?y8twofb⟩) (by assumption) ?r8twofb
      case y8twofb => (intro x hx; (try dsimp only at hx); go_simp; try with_reducible rfl)
      try simp only [Act.put, List.setIfInBounds_toArray, List.set_cons_zero, List.set_cons_succ]
      refine wpAnyH_take (i := 9) (oi := { dst := some 122, op := Op.load 5 (Operand.tmp 121), type := 5, pos := "outright.go:128", after := #[{ on := 8, ground := Ground.data }], guard := none }) (v := ?v9twofb) rfl (by kernel_rfl) (by kernel_rfl) (by kernel_rfl) (fun _ _ _ h => h) (Or.inl ⟨by rfl, ?y9twofb⟩) (by assumption) ?r9twofb
      case y9twofb => (intro x hx; (try dsimp only at hx); go_simp; try with_reducible rfl)
      try simp only [Act.put, List.setIfInBounds_toArray, List.set_cons_zero, List.set_cons_succ]
      refine wpAnyH_take (i := 10) (oi := { dst := some 123, op := Op.binOp BinOp.xor 5 (Operand.tmp 118) (Operand.tmp 122) 5, type := 5, pos := "outright.go:128", after := #[{ on := 5, ground := Ground.data }, { on := 9, ground := Ground.data }], guard := none }) (v := ?v10twofb) rfl (by kernel_rfl) (by kernel_rfl) (by kernel_rfl) (fun _ _ _ h => h) (Or.inl ⟨by rfl, ?y10twofb⟩) (by assumption) ?r10twofb
      case y10twofb => (intro x hx; (try dsimp only at hx); go_simp; try with_reducible rfl)
      try simp only [Act.put, List.setIfInBounds_toArray, List.set_cons_zero, List.set_cons_succ]
      refine wpAnyH_ready (rs := [11]) (by kernel_rfl) (by simp) ?_
      refine AllReadyH.cons (o := { dst := some 124, op := Op.buildSlice 24 1 #[(0, Operand.tmp 123)], type := 24, pos := "outright.go:128", after := #[{ on := 10, ground := Ground.data }], guard := none }) rfl (fun K hK => ?_) AllReadyH.nil
      go_simp
      go_wp2_with fail
      change K _ (wr.drew.drew.alloc (.cells #[.int .u8 (bits .xor .u8 xm ym)] 5))
      have hb5 : Below wr.heap.size wr (wr.drew.drew.alloc (.cells #[.int .u8 (bits .xor .u8 xm ym)] 5)) := below_trans (below_trans (drew_below _) (drew_below _)) (below_alloc _ _)
      have HB5 := hide hb5
      have HN5 := hide (alloc_new wr.drew.drew (.cells #[.int .u8 (bits .xor .u8 xm ym)] 5))
      have hSnew : (fun u => u.cell? ⟨w.heap.size, 0, none⟩ = some (.int .i64 o.k) ∧ u.cell? ⟨ga, m, none⟩ = some (.int .u8 xm) ∧ u.cell? ⟨gb, m, none⟩ = some (.int .u8 ym)) (wr.drew.drew.alloc (.cells #[.int .u8 (bits .xor .u8 xm ym)] 5)) := ⟨(hb5.cell (block_lt_of_cell HCE.out.1)).trans HCE.out.1, (hb5.cell (block_lt_of_cell HCE.out.2.1)).trans HCE.out.2.1, (hb5.cell (block_lt_of_cell HCE.out.2.2)).trans HCE.out.2.2⟩
      clear hb5
      refine hK.out _ _ hSnew (fun hHeld11 => ?_)
      clear hK K hSnew
      clear hHeld
      have hHeld := hHeld11
      clear hHeld11
      try simp only [Act.put, List.setIfInBounds_toArray, List.set_cons_zero, List.set_cons_succ]
      refine wpAnyH_ready (rs := [12]) (by kernel_rfl) (by simp) ?_
      refine AllReadyH.cons (o := { dst := some 125, op := Op.call { callee := Callee.value (Operand.func 29), args := #[Operand.tmp 124], argTypes := #[24] }, type := 3, pos := "outright.go:128", after := #[{ on := 11, ground := Ground.data }], guard := none }) rfl (fun K hK => ?_) AllReadyH.nil
      go_simp
      go_at_call 29
      refine (rzeros_any (some ⟨wr.heap.size, 0, none⟩) 1 1 [(bits .xor .u8 xm ym)] _ (by omega) (reads_one2 HN5.out HXY.out)).mono ?_
      rintro e u9 ⟨rfl, hu9⟩
      subst hu9
      rw [HZS.out]
      have hSnew := hHeld
      go_wp2_with fail
      refine hK.out _ _ hSnew (fun hHeld12 => ?_)
      clear hK K hSnew
      clear hHeld
      have hHeld := hHeld12
      clear hHeld12
      try simp only [Act.put, List.setIfInBounds_toArray, List.set_cons_zero, List.set_cons_succ]
      refine wpAnyH_take (i := 13) (oi := { dst := some 126, op := Op.binOp BinOp.sub 3 (Operand.tmp 114) (Operand.tmp 125) 3, type := 3, pos := "outright.go:128", after := #[{ on := 1, ground := Ground.data }, { on := 12, ground := Ground.data }], guard := none }) (v := ?v13twofb) rfl (by kernel_rfl) (by kernel_rfl) (by kernel_rfl) (fun _ _ _ h => h) (Or.inl ⟨by rfl, ?y13twofb⟩) (by assumption) ?r13twofb
      case y13twofb => (intro x hx; (try dsimp only at hx); go_simp; try with_reducible rfl)
      try simp only [Act.put, List.setIfInBounds_toArray, List.set_cons_zero, List.set_cons_succ]
      refine wpAnyH_take (i := 14) (oi := { dst := some 13, op := Op.assign (Operand.tmp 126), type := 3, pos := "outright.go:128", after := #[{ on := 13, ground := Ground.data }, { on := 12, ground := Ground.chain }, { on := 0, ground := Ground.phase }, { on := 1, ground := Ground.phase }, { on := 2, ground := Ground.phase }, { on := 3, ground := Ground.phase }, { on := 4, ground := Ground.phase }, { on := 5, ground := Ground.phase }, { on := 6, ground := Ground.phase }, { on := 7, ground := Ground.phase }, { on := 8, ground := Ground.phase }, { on := 9, ground := Ground.phase }, { on := 10, ground := Ground.phase }, { on := 11, ground := Ground.phase }, { on := 12, ground := Ground.phase }, { on := 13, ground := Ground.phase }], guard := none }) (v := ?v14twofb) rfl (by kernel_rfl) (by kernel_rfl) (by kernel_rfl) (fun _ _ _ h => h) (Or.inl ⟨by rfl, ?y14twofb⟩) (by assumption) ?r14twofb
      case y14twofb => (intro x hx; (try dsimp only at hx); go_simp; try with_reducible rfl)
      try simp only [Act.put, List.setIfInBounds_toArray, List.set_cons_zero, List.set_cons_succ]
      refine wpAnyH_done (by kernel_rfl) ?_ _
      clear hHeld
      go_wp2
      go_roundw
      case rel => exact ⟨m + 1, by omega, by go_num, by have h1 := HDS.out; have h2 := HZB.out; have h3 := HDL.out; rw [h1]; congr 1; simp only [IntKind.wrap_i64]; omega, below_trans HJ.out HB5.out⟩
      case measure => simp [intOf]; omega
    · have dm : decide ((m : Int) < 313) = false := decide_eq_false (by omega)
      have em : m = 313 := by omega
      subst em
      go_wp2
      go_ret
      exact ⟨rfl, below_trans HB0.out HJ.out⟩
set_option maxHeartbeats 8000000 in
set_option maxRecDepth 100000 in
theorem goes_four (w : World) (o : Opc) (da : Option Addr) (dn dc : Nat) (za : Option Addr) (zn zc : Nat)  (i k : Nat) (ga ca gb cb : Nat) (xs ys : List Int) (hx : Reads w (some ⟨ga, 0, none⟩) 313 xs) (hy : Reads w (some ⟨gb, 0, none⟩) 313 ys) (fl : Bool) (hk : o.k = 4) (hp : o.b = (i : Int) ∧ o.p = (k : Int)) (j : Nat) (hbit : o.bit = (j : Int)) (hj : j < 8 * xs.length) (hG : ys = flipL xs j) : Calls Try.prog 26 #[.agg #[.int .i64 o.k, .int .i64 o.b, .int .i64 o.p, .int .i64 o.bit, .bool o.fit, .slice da dn dc, .slice za zn zc], .bool true, .agg #[.int .i64 (i : Int), .int .i64 (k : Int)], .slice (some ⟨ga, 0, none⟩) 313 ca, .slice (some ⟨gb, 0, none⟩) 313 cb, .bool fl] w fun e w' => e = .returned (.bool true) ∧ Below w.heap.size w w' := by
  have d4 : decide (4 < o.k) = false := decide_eq_false (by omega)
  have d4' : decide (o.k > 4) = false := decide_eq_false (by omega)
  have d1 : decide (o.k < 1) = false := decide_eq_false (by omega)
  have d3 : (o.k == 3) = false := by rw [hk]; rfl
  have d2 : (o.k == 2) = false := by rw [hk]; rfl
  have d2' : (o.k != 2) = true := by rw [hk]; rfl
  have d5 : (o.k == 1) = false := by rw [hk]; rfl
  have d6 : (o.k == 4) = true := by rw [hk]; rfl
  have db : (o.b == (i : Int)) = true := by simp [hp.1]
  have dp : (o.p == (k : Int)) = true := by simp [hp.2]
  have HXL : Hid (xs.length = 313) := hx.1
  have HXB : Hid (Byt xs) := hx.2.1
  have HYB : Hid (Byt ys) := hy.2.1
  have hj313 : j < 8 * 313 := by have := hx.1; omega
  have HFL := hide hG
  have HBI := hide hbit
  have hb0 := below_trans (below_alloc w (.cells #[.int .i64 o.k, .int .i64 o.b, .int .i64 o.p, .int .i64 o.bit, .bool o.fit, .slice da dn dc, .slice za zn zc] 56)) (below_alloc _ (.cells #[.int .i64 (i : Int), .int .i64 (k : Int)] 41))
  have HB0 := hide hb0
  have HXR := hide (hx.below hb0)
  have HYR := hide (hy.below hb0)
  have HO1 : Hid (((w.alloc (.cells #[.int .i64 o.k, .int .i64 o.b, .int .i64 o.p, .int .i64 o.bit, .bool o.fit, .slice da dn dc, .slice za zn zc] 56)).alloc (.cells #[.int .i64 (i : Int), .int .i64 (k : Int)] 41)).heap[w.heap.size]? = some (.cells #[.int .i64 o.k, .int .i64 o.b, .int .i64 o.p, .int .i64 o.bit, .bool o.fit, .slice da dn dc, .slice za zn zc] 56 (0, 0))) := (alloc_old _ _ (by simp)).trans (alloc_new w _)
  have HP1 : Hid (((w.alloc (.cells #[.int .i64 o.k, .int .i64 o.b, .int .i64 o.p, .int .i64 o.bit, .bool o.fit, .slice da dn dc, .slice za zn zc] 56)).alloc (.cells #[.int .i64 (i : Int), .int .i64 (k : Int)] 41)).heap[w.heap.size + 1]? = some (.cells #[.int .i64 (i : Int), .int .i64 (k : Int)] 41 (0, 0))) := by
    have h9 := alloc_new (w.alloc (.cells #[.int .i64 o.k, .int .i64 o.b, .int .i64 o.p, .int .i64 o.bit, .bool o.fit, .slice da dn dc, .slice za zn zc] 56)) (.cells #[.int .i64 (i : Int), .int .i64 (k : Int)] 41)
    rw [alloc_size] at h9
    exact h9
  clear hb0 hx hy
  obtain ⟨y0, y1, y2, y3, _⟩ := cells7 HO1.out
  obtain ⟨z0, z1⟩ := cells2 HP1.out
  clear hk hp hG hbit hj
  go_enter Try.func26, Try.ntmps26
  go_wp2
  generalize hU : (w.alloc (.cells #[.int .i64 o.k, .int .i64 o.b, .int .i64 o.p, .int .i64 o.bit, .bool o.fit, .slice da dn dc, .slice za zn zc] 56)).alloc (.cells #[.int .i64 (i : Int), .int .i64 (k : Int)] 41) = U at HB0 HXR HYR HO1 HP1 y0 y1 y2 y3 z0 z1 ⊢
  clear hU
  go_loopw [13, 14] (fun s13 s14 wr => ∃ m : Nat, m ≤ 313 ∧ s14 = .int .i64 m ∧ s13 = .int .i64 (dsum xs ys m) ∧ Hid (Below U.heap.size U wr)) (fun _ s14 _ => 313 - (intOf s14).toNat)
  case atStart => exact ⟨0, by omega, rfl, rfl, Below.refl _ _⟩
  case round =>
    obtain ⟨m, hm, rfl, rfl, HJ⟩ := hrel
    clear y1 y2 y3 z0 z1
    have y0 := (HJ.out.cell (block_lt_of_cell y0)).trans y0
    by_cases hlt : m < 313
    · have dm : decide ((m : Int) < 313) = true := decide_eq_true (by omega)
      have m1 : (m : Int) < 313 := by omega
      obtain ⟨xm, hxm⟩ : ∃ z, z = xs.getD m 0 := ⟨_, rfl⟩
      obtain ⟨ym, hym⟩ : ∃ z, z = ys.getD m 0 := ⟨_, rfl⟩
      have hcx := (HXR.out.below HJ.out).2.2.2 ⟨ga, 0, none⟩ rfl m hlt
      have hcy := (HYR.out.below HJ.out).2.2.2 ⟨gb, 0, none⟩ rfl m hlt
      rw [plain_add, Nat.zero_add, ← hxm] at hcx
      rw [plain_add, Nat.zero_add, ← hym] at hcy
      have HCE : Hid (wr.cell? ⟨w.heap.size, 0, none⟩ = some (.int .i64 o.k) ∧ wr.cell? ⟨ga, m, none⟩ = some (.int .u8 xm) ∧ wr.cell? ⟨gb, m, none⟩ = some (.int .u8 ym)) := ⟨y0, hcx, hcy⟩
      have HCE1 : Hid (wr.drew.cell? ⟨w.heap.size, 0, none⟩ = some (.int .i64 o.k) ∧ wr.drew.cell? ⟨ga, m, none⟩ = some (.int .u8 xm) ∧ wr.drew.cell? ⟨gb, m, none⟩ = some (.int .u8 ym)) := ⟨y0, hcx, hcy⟩
      have HXY : Hid (0 ≤ (bits .xor .u8 xm ym) ∧ (bits .xor .u8 xm ym) ≤ 255) := xor_rng2 (by rw [hxm]; exact getD_range HXB.out _) (by rw [hym]; exact getD_range HYB.out _)
      have HDS : Hid (dsum xs ys (m + 1) = dsum xs ys m + (8 - zb (bits .xor .u8 xm ym))) := by rw [hxm, hym]; rfl
      have HZB : Hid (zb (bits .xor .u8 xm ym) ≤ 8) := by show zb (bits .xor .u8 xm ym) ≤ 8; unfold zb; omega
      have HZS : Hid (((zsum [(bits .xor .u8 xm ym)] : Nat) : Int) = ((zb (bits .xor .u8 xm ym) : Nat) : Int)) := rfl
      have HDL := hide (dsum_le xs ys m)
      clear hxm hym hcx hcy y0
      go_upto_region 9 with fail
      refine wp_region_held_drew (S := (fun u => u.cell? ⟨w.heap.size, 0, none⟩ = some (.int .i64 o.k) ∧ u.cell? ⟨ga, m, none⟩ = some (.int .u8 xm) ∧ u.cell? ⟨gb, m, none⟩ = some (.int .u8 ym))) (by kernel_rfl) (HCE.out) (fun hHeld => ?_)
      refine wpAnyH_take (i := 0) (oi := { dst := some 77, op := Op.fieldAddr 56 (Operand.tmp 6) 0, type := 0, pos := "outright.go:125", after := #[], guard := none }) (v := ?v0foura) rfl (by kernel_rfl) (by kernel_rfl) (by kernel_rfl) (fun _ _ _ h => h) (Or.inl ⟨by rfl, ?y0foura⟩) (by assumption) ?r0foura
      case y0foura => (intro x hx; (try dsimp only at hx); go_simp; try with_reducible rfl)
      try simp only [Act.put, List.setIfInBounds_toArray, List.set_cons_zero, List.set_cons_succ]
      refine wpAnyH_take (i := 1) (oi := { dst := some 78, op := Op.load 3 (Operand.tmp 77), type := 3, pos := "outright.go:125", after := #[{ on := 0, ground := Ground.data }], guard := none }) (v := ?v1foura) rfl (by kernel_rfl) (by kernel_rfl) (by kernel_rfl) (fun _ _ _ h => h) (Or.inl ⟨by rfl, ?y1foura⟩) (by assumption) ?r1foura
      case y1foura => (intro x hx; (try dsimp only at hx); go_simp; try with_reducible rfl)
      try simp only [Act.put, List.setIfInBounds_toArray, List.set_cons_zero, List.set_cons_succ]
      refine wpAnyH_take (i := 2) (oi := { dst := some 79, op := Op.binOp BinOp.eql 3 (Operand.tmp 78) (Operand.const (Value.int IntKind.i64 1)) 3, type := 4, pos := "outright.go:125", after := #[{ on := 1, ground := Ground.data }], guard := none }) (v := ?v2foura) rfl (by kernel_rfl) (by kernel_rfl) (by kernel_rfl) (fun _ _ _ h => h) (Or.inl ⟨by rfl, ?y2foura⟩) (by assumption) ?r2foura
      case y2foura => (intro x hx; (try dsimp only at hx); go_simp; try with_reducible rfl)
      try simp only [Act.put, List.setIfInBounds_toArray, List.set_cons_zero, List.set_cons_succ]
      refine wpAnyH_take (i := 3) (oi := { dst := some 80, op := Op.move (Operand.tmp 79), type := 4, pos := "outright.go:125", after := #[{ on := 2, ground := Ground.data }], guard := none }) (v := ?v3foura) rfl (by kernel_rfl) (by kernel_rfl) (by kernel_rfl) (fun _ _ _ h => h) (Or.inl ⟨by rfl, ?y3foura⟩) (by assumption) ?r3foura
      case y3foura => (intro x hx; (try dsimp only at hx); go_simp; try with_reducible rfl)
      try simp only [Act.put, List.setIfInBounds_toArray, List.set_cons_zero, List.set_cons_succ]
      refine wpAnyH_take (i := 4) (oi := { dst := some 81, op := Op.move (Operand.tmp 4), type := 24, pos := "outright.go:125", after := #[{ on := 3, ground := Ground.guard }], guard := some (3, true) }) (v := undef) rfl (by kernel_rfl) (by kernel_rfl) (by kernel_rfl) (fun _ _ _ h => h) (Or.inr ⟨by rfl, rfl⟩) (by assumption) ?_
      try simp only [Act.put, List.setIfInBounds_toArray, List.set_cons_zero, List.set_cons_succ]
      refine wpAnyH_take (i := 5) (oi := { dst := some 82, op := Op.move (Operand.tmp 14), type := 3, pos := "outright.go:125", after := #[{ on := 3, ground := Ground.guard }], guard := some (3, true) }) (v := undef) rfl (by kernel_rfl) (by kernel_rfl) (by kernel_rfl) (fun _ _ _ h => h) (Or.inr ⟨by rfl, rfl⟩) (by assumption) ?_
      try simp only [Act.put, List.setIfInBounds_toArray, List.set_cons_zero, List.set_cons_succ]
      refine wpAnyH_take (i := 6) (oi := { dst := some 83, op := Op.indexAddr 24 (Operand.tmp 81) (Operand.tmp 82), type := 0, pos := "outright.go:125", after := #[{ on := 4, ground := Ground.data }, { on := 5, ground := Ground.data }, { on := 3, ground := Ground.guard }], guard := some (3, true) }) (v := undef) rfl (by kernel_rfl) (by kernel_rfl) (by kernel_rfl) (fun _ _ _ h => h) (Or.inr ⟨by rfl, rfl⟩) (by assumption) ?_
      try simp only [Act.put, List.setIfInBounds_toArray, List.set_cons_zero, List.set_cons_succ]
      refine wpAnyH_take (i := 7) (oi := { dst := some 84, op := Op.load 5 (Operand.tmp 83), type := 5, pos := "outright.go:125", after := #[{ on := 6, ground := Ground.data }, { on := 3, ground := Ground.guard }], guard := some (3, true) }) (v := undef) rfl (by kernel_rfl) (by kernel_rfl) (by kernel_rfl) (fun _ _ _ h => h) (Or.inr ⟨by rfl, rfl⟩) (by assumption) ?_
      try simp only [Act.put, List.setIfInBounds_toArray, List.set_cons_zero, List.set_cons_succ]
      refine wpAnyH_take (i := 8) (oi := { dst := some 85, op := Op.move (Operand.tmp 3), type := 24, pos := "outright.go:125", after := #[{ on := 3, ground := Ground.guard }], guard := some (3, true) }) (v := undef) rfl (by kernel_rfl) (by kernel_rfl) (by kernel_rfl) (fun _ _ _ h => h) (Or.inr ⟨by rfl, rfl⟩) (by assumption) ?_
      try simp only [Act.put, List.setIfInBounds_toArray, List.set_cons_zero, List.set_cons_succ]
      refine wpAnyH_take (i := 9) (oi := { dst := some 86, op := Op.move (Operand.tmp 14), type := 3, pos := "outright.go:125", after := #[{ on := 3, ground := Ground.guard }], guard := some (3, true) }) (v := undef) rfl (by kernel_rfl) (by kernel_rfl) (by kernel_rfl) (fun _ _ _ h => h) (Or.inr ⟨by rfl, rfl⟩) (by assumption) ?_
      try simp only [Act.put, List.setIfInBounds_toArray, List.set_cons_zero, List.set_cons_succ]
      refine wpAnyH_take (i := 10) (oi := { dst := some 87, op := Op.indexAddr 24 (Operand.tmp 85) (Operand.tmp 86), type := 0, pos := "outright.go:125", after := #[{ on := 8, ground := Ground.data }, { on := 9, ground := Ground.data }, { on := 3, ground := Ground.guard }], guard := some (3, true) }) (v := undef) rfl (by kernel_rfl) (by kernel_rfl) (by kernel_rfl) (fun _ _ _ h => h) (Or.inr ⟨by rfl, rfl⟩) (by assumption) ?_
      try simp only [Act.put, List.setIfInBounds_toArray, List.set_cons_zero, List.set_cons_succ]
      refine wpAnyH_take (i := 11) (oi := { dst := some 88, op := Op.load 5 (Operand.tmp 87), type := 5, pos := "outright.go:125", after := #[{ on := 10, ground := Ground.data }, { on := 3, ground := Ground.guard }], guard := some (3, true) }) (v := undef) rfl (by kernel_rfl) (by kernel_rfl) (by kernel_rfl) (fun _ _ _ h => h) (Or.inr ⟨by rfl, rfl⟩) (by assumption) ?_
      try simp only [Act.put, List.setIfInBounds_toArray, List.set_cons_zero, List.set_cons_succ]
      refine wpAnyH_take (i := 12) (oi := { dst := some 89, op := Op.binOp BinOp.andNot 5 (Operand.tmp 84) (Operand.tmp 88) 5, type := 5, pos := "outright.go:125", after := #[{ on := 7, ground := Ground.data }, { on := 11, ground := Ground.data }, { on := 3, ground := Ground.guard }], guard := some (3, true) }) (v := undef) rfl (by kernel_rfl) (by kernel_rfl) (by kernel_rfl) (fun _ _ _ h => h) (Or.inr ⟨by rfl, rfl⟩) (by assumption) ?_
      try simp only [Act.put, List.setIfInBounds_toArray, List.set_cons_zero, List.set_cons_succ]
      refine wpAnyH_take (i := 13) (oi := { dst := some 90, op := Op.binOp BinOp.neq 5 (Operand.tmp 89) (Operand.const (Value.int IntKind.u8 0)) 5, type := 4, pos := "outright.go:125", after := #[{ on := 12, ground := Ground.data }, { on := 3, ground := Ground.guard }], guard := some (3, true) }) (v := undef) rfl (by kernel_rfl) (by kernel_rfl) (by kernel_rfl) (fun _ _ _ h => h) (Or.inr ⟨by rfl, rfl⟩) (by assumption) ?_
      try simp only [Act.put, List.setIfInBounds_toArray, List.set_cons_zero, List.set_cons_succ]
      refine wpAnyH_take (i := 14) (oi := { dst := some 91, op := Op.pick (Operand.tmp 80) (Operand.tmp 90) (Operand.const (Value.bool false)), type := 4, pos := "outright.go:125", after := #[{ on := 3, ground := Ground.data }, { on := 13, ground := Ground.data }], guard := none }) (v := ?v14foura) rfl (by kernel_rfl) (by kernel_rfl) (by kernel_rfl) (fun _ _ _ h => h) (Or.inl ⟨by rfl, ?y14foura⟩) (by assumption) ?r14foura
      case y14foura => (intro x hx; (try dsimp only at hx); go_simp; try with_reducible rfl)
      try simp only [Act.put, List.setIfInBounds_toArray, List.set_cons_zero, List.set_cons_succ]
      refine wpAnyH_take (i := 15) (oi := { dst := some 92, op := Op.move (Operand.tmp 91), type := 4, pos := "outright.go:125", after := #[{ on := 14, ground := Ground.data }, { on := 3, ground := Ground.chain }], guard := none }) (v := ?v15foura) rfl (by kernel_rfl) (by kernel_rfl) (by kernel_rfl) (fun _ _ _ h => h) (Or.inl ⟨by rfl, ?y15foura⟩) (by assumption) ?r15foura
      case y15foura => (intro x hx; (try dsimp only at hx); go_simp; try with_reducible rfl)
      try simp only [Act.put, List.setIfInBounds_toArray, List.set_cons_zero, List.set_cons_succ]
      refine wpAnyH_take (i := 16) (oi := { dst := some 93, op := Op.fieldAddr 56 (Operand.tmp 6) 0, type := 0, pos := "outright.go:125", after := #[{ on := 15, ground := Ground.guard }], guard := some (15, false) }) (v := ?v16foura) rfl (by kernel_rfl) (by kernel_rfl) (by kernel_rfl) (fun _ _ _ h => h) (Or.inl ⟨by rfl, ?y16foura⟩) (by assumption) ?r16foura
      case y16foura => (intro x hx; (try dsimp only at hx); go_simp; try with_reducible rfl)
      try simp only [Act.put, List.setIfInBounds_toArray, List.set_cons_zero, List.set_cons_succ]
      refine wpAnyH_take (i := 17) (oi := { dst := some 94, op := Op.load 3 (Operand.tmp 93), type := 3, pos := "outright.go:125", after := #[{ on := 16, ground := Ground.data }, { on := 15, ground := Ground.guard }], guard := some (15, false) }) (v := ?v17foura) rfl (by kernel_rfl) (by kernel_rfl) (by kernel_rfl) (fun _ _ _ h => h) (Or.inl ⟨by rfl, ?y17foura⟩) (by assumption) ?r17foura
      case y17foura => (intro x hx; (try dsimp only at hx); go_simp; try with_reducible rfl)
      try simp only [Act.put, List.setIfInBounds_toArray, List.set_cons_zero, List.set_cons_succ]
      refine wpAnyH_take (i := 18) (oi := { dst := some 95, op := Op.binOp BinOp.eql 3 (Operand.tmp 94) (Operand.const (Value.int IntKind.i64 2)) 3, type := 4, pos := "outright.go:125", after := #[{ on := 17, ground := Ground.data }, { on := 15, ground := Ground.guard }], guard := some (15, false) }) (v := ?v18foura) rfl (by kernel_rfl) (by kernel_rfl) (by kernel_rfl) (fun _ _ _ h => h) (Or.inl ⟨by rfl, ?y18foura⟩) (by assumption) ?r18foura
      case y18foura => (intro x hx; (try dsimp only at hx); go_simp; try with_reducible rfl)
      try simp only [Act.put, List.setIfInBounds_toArray, List.set_cons_zero, List.set_cons_succ]
      refine wpAnyH_take (i := 19) (oi := { dst := some 96, op := Op.move (Operand.tmp 95), type := 4, pos := "outright.go:125", after := #[{ on := 18, ground := Ground.data }, { on := 15, ground := Ground.chain }, { on := 15, ground := Ground.guard }], guard := some (15, false) }) (v := ?v19foura) rfl (by kernel_rfl) (by kernel_rfl) (by kernel_rfl) (fun _ _ _ h => h) (Or.inl ⟨by rfl, ?y19foura⟩) (by assumption) ?r19foura
      case y19foura => (intro x hx; (try dsimp only at hx); go_simp; try with_reducible rfl)
      try simp only [Act.put, List.setIfInBounds_toArray, List.set_cons_zero, List.set_cons_succ]
      refine wpAnyH_take (i := 20) (oi := { dst := some 97, op := Op.move (Operand.tmp 5), type := 4, pos := "outright.go:125", after := #[{ on := 19, ground := Ground.guard }], guard := some (19, true) }) (v := undef) rfl (by kernel_rfl) (by kernel_rfl) (by kernel_rfl) (fun _ _ _ h => h) (Or.inr ⟨by rfl, rfl⟩) (by assumption) ?_
      try simp only [Act.put, List.setIfInBounds_toArray, List.set_cons_zero, List.set_cons_succ]
      refine wpAnyH_take (i := 21) (oi := { dst := some 98, op := Op.unOp UnOp.not 4 (Operand.tmp 97), type := 4, pos := "outright.go:125", after := #[{ on := 20, ground := Ground.data }, { on := 19, ground := Ground.guard }], guard := some (19, true) }) (v := undef) rfl (by kernel_rfl) (by kernel_rfl) (by kernel_rfl) (fun _ _ _ h => h) (Or.inr ⟨by rfl, rfl⟩) (by assumption) ?_
      try simp only [Act.put, List.setIfInBounds_toArray, List.set_cons_zero, List.set_cons_succ]
      refine wpAnyH_take (i := 22) (oi := { dst := some 99, op := Op.pick (Operand.tmp 96) (Operand.tmp 98) (Operand.const (Value.bool false)), type := 4, pos := "outright.go:125", after := #[{ on := 19, ground := Ground.data }, { on := 21, ground := Ground.data }, { on := 15, ground := Ground.guard }], guard := some (15, false) }) (v := ?v22foura) rfl (by kernel_rfl) (by kernel_rfl) (by kernel_rfl) (fun _ _ _ h => h) (Or.inl ⟨by rfl, ?y22foura⟩) (by assumption) ?r22foura
      case y22foura => (intro x hx; (try dsimp only at hx); go_simp; try with_reducible rfl)
      try simp only [Act.put, List.setIfInBounds_toArray, List.set_cons_zero, List.set_cons_succ]
      refine wpAnyH_take (i := 23) (oi := { dst := some 100, op := Op.move (Operand.tmp 99), type := 4, pos := "outright.go:125", after := #[{ on := 22, ground := Ground.data }, { on := 19, ground := Ground.chain }, { on := 15, ground := Ground.guard }], guard := some (15, false) }) (v := ?v23foura) rfl (by kernel_rfl) (by kernel_rfl) (by kernel_rfl) (fun _ _ _ h => h) (Or.inl ⟨by rfl, ?y23foura⟩) (by assumption) ?r23foura
      case y23foura => (intro x hx; (try dsimp only at hx); go_simp; try with_reducible rfl)
      try simp only [Act.put, List.setIfInBounds_toArray, List.set_cons_zero, List.set_cons_succ]
      refine wpAnyH_take (i := 24) (oi := { dst := some 101, op := Op.move (Operand.tmp 3), type := 24, pos := "outright.go:125", after := #[{ on := 23, ground := Ground.guard }], guard := some (23, true) }) (v := undef) rfl (by kernel_rfl) (by kernel_rfl) (by kernel_rfl) (fun _ _ _ h => h) (Or.inr ⟨by rfl, rfl⟩) (by assumption) ?_
      try simp only [Act.put, List.setIfInBounds_toArray, List.set_cons_zero, List.set_cons_succ]
      refine wpAnyH_take (i := 25) (oi := { dst := some 102, op := Op.move (Operand.tmp 14), type := 3, pos := "outright.go:125", after := #[{ on := 23, ground := Ground.guard }], guard := some (23, true) }) (v := undef) rfl (by kernel_rfl) (by kernel_rfl) (by kernel_rfl) (fun _ _ _ h => h) (Or.inr ⟨by rfl, rfl⟩) (by assumption) ?_
      try simp only [Act.put, List.setIfInBounds_toArray, List.set_cons_zero, List.set_cons_succ]
      refine wpAnyH_take (i := 26) (oi := { dst := some 103, op := Op.indexAddr 24 (Operand.tmp 101) (Operand.tmp 102), type := 0, pos := "outright.go:125", after := #[{ on := 24, ground := Ground.data }, { on := 25, ground := Ground.data }, { on := 23, ground := Ground.guard }], guard := some (23, true) }) (v := undef) rfl (by kernel_rfl) (by kernel_rfl) (by kernel_rfl) (fun _ _ _ h => h) (Or.inr ⟨by rfl, rfl⟩) (by assumption) ?_
      try simp only [Act.put, List.setIfInBounds_toArray, List.set_cons_zero, List.set_cons_succ]
      refine wpAnyH_take (i := 27) (oi := { dst := some 104, op := Op.load 5 (Operand.tmp 103), type := 5, pos := "outright.go:125", after := #[{ on := 26, ground := Ground.data }, { on := 23, ground := Ground.guard }], guard := some (23, true) }) (v := undef) rfl (by kernel_rfl) (by kernel_rfl) (by kernel_rfl) (fun _ _ _ h => h) (Or.inr ⟨by rfl, rfl⟩) (by assumption) ?_
      try simp only [Act.put, List.setIfInBounds_toArray, List.set_cons_zero, List.set_cons_succ]
      refine wpAnyH_take (i := 28) (oi := { dst := some 105, op := Op.move (Operand.tmp 4), type := 24, pos := "outright.go:125", after := #[{ on := 23, ground := Ground.guard }], guard := some (23, true) }) (v := undef) rfl (by kernel_rfl) (by kernel_rfl) (by kernel_rfl) (fun _ _ _ h => h) (Or.inr ⟨by rfl, rfl⟩) (by assumption) ?_
      try simp only [Act.put, List.setIfInBounds_toArray, List.set_cons_zero, List.set_cons_succ]
      refine wpAnyH_take (i := 29) (oi := { dst := some 106, op := Op.move (Operand.tmp 14), type := 3, pos := "outright.go:125", after := #[{ on := 23, ground := Ground.guard }], guard := some (23, true) }) (v := undef) rfl (by kernel_rfl) (by kernel_rfl) (by kernel_rfl) (fun _ _ _ h => h) (Or.inr ⟨by rfl, rfl⟩) (by assumption) ?_
      try simp only [Act.put, List.setIfInBounds_toArray, List.set_cons_zero, List.set_cons_succ]
      refine wpAnyH_take (i := 30) (oi := { dst := some 107, op := Op.indexAddr 24 (Operand.tmp 105) (Operand.tmp 106), type := 0, pos := "outright.go:125", after := #[{ on := 28, ground := Ground.data }, { on := 29, ground := Ground.data }, { on := 23, ground := Ground.guard }], guard := some (23, true) }) (v := undef) rfl (by kernel_rfl) (by kernel_rfl) (by kernel_rfl) (fun _ _ _ h => h) (Or.inr ⟨by rfl, rfl⟩) (by assumption) ?_
      try simp only [Act.put, List.setIfInBounds_toArray, List.set_cons_zero, List.set_cons_succ]
      refine wpAnyH_take (i := 31) (oi := { dst := some 108, op := Op.load 5 (Operand.tmp 107), type := 5, pos := "outright.go:125", after := #[{ on := 30, ground := Ground.data }, { on := 23, ground := Ground.guard }], guard := some (23, true) }) (v := undef) rfl (by kernel_rfl) (by kernel_rfl) (by kernel_rfl) (fun _ _ _ h => h) (Or.inr ⟨by rfl, rfl⟩) (by assumption) ?_
      try simp only [Act.put, List.setIfInBounds_toArray, List.set_cons_zero, List.set_cons_succ]
      refine wpAnyH_take (i := 32) (oi := { dst := some 109, op := Op.binOp BinOp.andNot 5 (Operand.tmp 104) (Operand.tmp 108) 5, type := 5, pos := "outright.go:125", after := #[{ on := 27, ground := Ground.data }, { on := 31, ground := Ground.data }, { on := 23, ground := Ground.guard }], guard := some (23, true) }) (v := undef) rfl (by kernel_rfl) (by kernel_rfl) (by kernel_rfl) (fun _ _ _ h => h) (Or.inr ⟨by rfl, rfl⟩) (by assumption) ?_
      try simp only [Act.put, List.setIfInBounds_toArray, List.set_cons_zero, List.set_cons_succ]
      refine wpAnyH_take (i := 33) (oi := { dst := some 110, op := Op.binOp BinOp.neq 5 (Operand.tmp 109) (Operand.const (Value.int IntKind.u8 0)) 5, type := 4, pos := "outright.go:125", after := #[{ on := 32, ground := Ground.data }, { on := 23, ground := Ground.guard }], guard := some (23, true) }) (v := undef) rfl (by kernel_rfl) (by kernel_rfl) (by kernel_rfl) (fun _ _ _ h => h) (Or.inr ⟨by rfl, rfl⟩) (by assumption) ?_
      try simp only [Act.put, List.setIfInBounds_toArray, List.set_cons_zero, List.set_cons_succ]
      refine wpAnyH_take (i := 34) (oi := { dst := some 111, op := Op.pick (Operand.tmp 100) (Operand.tmp 110) (Operand.const (Value.bool false)), type := 4, pos := "outright.go:125", after := #[{ on := 23, ground := Ground.data }, { on := 33, ground := Ground.data }, { on := 15, ground := Ground.guard }], guard := some (15, false) }) (v := ?v34foura) rfl (by kernel_rfl) (by kernel_rfl) (by kernel_rfl) (fun _ _ _ h => h) (Or.inl ⟨by rfl, ?y34foura⟩) (by assumption) ?r34foura
      case y34foura => (intro x hx; (try dsimp only at hx); go_simp; try with_reducible rfl)
      try simp only [Act.put, List.setIfInBounds_toArray, List.set_cons_zero, List.set_cons_succ]
      refine wpAnyH_take (i := 35) (oi := { dst := some 112, op := Op.pick (Operand.tmp 92) (Operand.const (Value.bool true)) (Operand.tmp 111), type := 4, pos := "outright.go:125", after := #[{ on := 15, ground := Ground.data }, { on := 34, ground := Ground.data }], guard := none }) (v := ?v35foura) rfl (by kernel_rfl) (by kernel_rfl) (by kernel_rfl) (fun _ _ _ h => h) (Or.inl ⟨by rfl, ?y35foura⟩) (by assumption) ?r35foura
      case y35foura => (intro x hx; (try dsimp only at hx); go_simp; try with_reducible rfl)
      try simp only [Act.put, List.setIfInBounds_toArray, List.set_cons_zero, List.set_cons_succ]
      refine wpAnyH_done (by kernel_rfl) ?_ _
      clear hHeld
      go_upto_region 11 with fail
      refine wp_region_held_drew (S := (fun u => u.cell? ⟨w.heap.size, 0, none⟩ = some (.int .i64 o.k) ∧ u.cell? ⟨ga, m, none⟩ = some (.int .u8 xm) ∧ u.cell? ⟨gb, m, none⟩ = some (.int .u8 ym))) (by kernel_rfl) (HCE1.out) (fun hHeld => ?_)
      refine wpAnyH_take (i := 0) (oi := { dst := some 113, op := Op.move (Operand.tmp 13), type := 3, pos := "outright.go:128", after := #[], guard := none }) (v := ?v0fourb) rfl (by kernel_rfl) (by kernel_rfl) (by kernel_rfl) (fun _ _ _ h => h) (Or.inl ⟨by rfl, ?y0fourb⟩) (by assumption) ?r0fourb
      case y0fourb => (intro x hx; (try dsimp only at hx); go_simp; try with_reducible rfl)
      try simp only [Act.put, List.setIfInBounds_toArray, List.set_cons_zero, List.set_cons_succ]
      refine wpAnyH_take (i := 1) (oi := { dst := some 114, op := Op.binOp BinOp.add 3 (Operand.tmp 113) (Operand.const (Value.int IntKind.i64 8)) 3, type := 3, pos := "outright.go:128", after := #[{ on := 0, ground := Ground.data }], guard := none }) (v := ?v1fourb) rfl (by kernel_rfl) (by kernel_rfl) (by kernel_rfl) (fun _ _ _ h => h) (Or.inl ⟨by rfl, ?y1fourb⟩) (by assumption) ?r1fourb
      case y1fourb => (intro x hx; (try dsimp only at hx); go_simp; try with_reducible rfl)
      try simp only [Act.put, List.setIfInBounds_toArray, List.set_cons_zero, List.set_cons_succ]
      refine wpAnyH_take (i := 2) (oi := { dst := some 115, op := Op.move (Operand.tmp 3), type := 24, pos := "outright.go:128", after := #[], guard := none }) (v := ?v2fourb) rfl (by kernel_rfl) (by kernel_rfl) (by kernel_rfl) (fun _ _ _ h => h) (Or.inl ⟨by rfl, ?y2fourb⟩) (by assumption) ?r2fourb
      case y2fourb => (intro x hx; (try dsimp only at hx); go_simp; try with_reducible rfl)
      try simp only [Act.put, List.setIfInBounds_toArray, List.set_cons_zero, List.set_cons_succ]
      refine wpAnyH_take (i := 3) (oi := { dst := some 116, op := Op.move (Operand.tmp 14), type := 3, pos := "outright.go:128", after := #[], guard := none }) (v := ?v3fourb) rfl (by kernel_rfl) (by kernel_rfl) (by kernel_rfl) (fun _ _ _ h => h) (Or.inl ⟨by rfl, ?y3fourb⟩) (by assumption) ?r3fourb
      case y3fourb => (intro x hx; (try dsimp only at hx); go_simp; try with_reducible rfl)
      try simp only [Act.put, List.setIfInBounds_toArray, List.set_cons_zero, List.set_cons_succ]
      refine wpAnyH_take (i := 4) (oi := { dst := some 117, op := Op.indexAddr 24 (Operand.tmp 115) (Operand.tmp 116), type := 0, pos := "outright.go:128", after := #[{ on := 2, ground := Ground.data }, { on := 3, ground := Ground.data }], guard := none }) (v := ?v4fourb) rfl (by kernel_rfl) (by kernel_rfl) (by kernel_rfl) (fun _ _ _ h => h) (Or.inl ⟨by rfl, ?y4fourb⟩) (by assumption) ?r4fourb
      case y4fourb => (intro x hx; (try dsimp only at hx); go_simp; try with_reducible rfl)
      try simp only [Act.put, List.setIfInBounds_toArray, List.set_cons_zero, List.set_cons_succ]
      refine wpAnyH_take (i := 5) (oi := { dst := some 118, op := Op.load 5 (Operand.tmp 117), type := 5, pos := "outright.go:128", after := #[{ on := 4, ground := Ground.data }], guard := none }) (v := ?v5fourb) rfl (by kernel_rfl) (by kernel_rfl) (by kernel_rfl) (fun _ _ _ h => h) (Or.inl ⟨by rfl, ?y5fourb⟩) (by assumption) ?r5fourb
      case y5fourb => (intro x hx; (try dsimp only at hx); go_simp; try with_reducible rfl)
      try simp only [Act.put, List.setIfInBounds_toArray, List.set_cons_zero, List.set_cons_succ]
      refine wpAnyH_take (i := 6) (oi := { dst := some 119, op := Op.move (Operand.tmp 4), type := 24, pos := "outright.go:128", after := #[], guard := none }) (v := ?v6fourb) rfl (by kernel_rfl) (by kernel_rfl) (by kernel_rfl) (fun _ _ _ h => h) (Or.inl ⟨by rfl, ?y6fourb⟩) (by assumption) ?r6fourb
      case y6fourb => (intro x hx; (try dsimp only at hx); go_simp; try with_reducible rfl)
      try simp only [Act.put, List.setIfInBounds_toArray, List.set_cons_zero, List.set_cons_succ]
      refine wpAnyH_take (i := 7) (oi := { dst := some 120, op := Op.move (Operand.tmp 14), type := 3, pos := "outright.go:128", after := #[], guard := none }) (v := ?v7fourb) rfl (by kernel_rfl) (by kernel_rfl) (by kernel_rfl) (fun _ _ _ h => h) (Or.inl ⟨by rfl, ?y7fourb⟩) (by assumption) ?r7fourb
      case y7fourb => (intro x hx; (try dsimp only at hx); go_simp; try with_reducible rfl)
      try simp only [Act.put, List.setIfInBounds_toArray, List.set_cons_zero, List.set_cons_succ]
      refine wpAnyH_take (i := 8) (oi := { dst := some 121, op := Op.indexAddr 24 (Operand.tmp 119) (Operand.tmp 120), type := 0, pos := "outright.go:128", after := #[{ on := 6, ground := Ground.data }, { on := 7, ground := Ground.data }], guard := none }) (v := ?v8fourb) rfl (by kernel_rfl) (by kernel_rfl) (by kernel_rfl) (fun _ _ _ h => h) (Or.inl ⟨by rfl, ?y8fourb⟩) (by assumption) ?r8fourb
      case y8fourb => (intro x hx; (try dsimp only at hx); go_simp; try with_reducible rfl)
      try simp only [Act.put, List.setIfInBounds_toArray, List.set_cons_zero, List.set_cons_succ]
      refine wpAnyH_take (i := 9) (oi := { dst := some 122, op := Op.load 5 (Operand.tmp 121), type := 5, pos := "outright.go:128", after := #[{ on := 8, ground := Ground.data }], guard := none }) (v := ?v9fourb) rfl (by kernel_rfl) (by kernel_rfl) (by kernel_rfl) (fun _ _ _ h => h) (Or.inl ⟨by rfl, ?y9fourb⟩) (by assumption) ?r9fourb
      case y9fourb => (intro x hx; (try dsimp only at hx); go_simp; try with_reducible rfl)
      try simp only [Act.put, List.setIfInBounds_toArray, List.set_cons_zero, List.set_cons_succ]
      refine wpAnyH_take (i := 10) (oi := { dst := some 123, op := Op.binOp BinOp.xor 5 (Operand.tmp 118) (Operand.tmp 122) 5, type := 5, pos := "outright.go:128", after := #[{ on := 5, ground := Ground.data }, { on := 9, ground := Ground.data }], guard := none }) (v := ?v10fourb) rfl (by kernel_rfl) (by kernel_rfl) (by kernel_rfl) (fun _ _ _ h => h) (Or.inl ⟨by rfl, ?y10fourb⟩) (by assumption) ?r10fourb
      case y10fourb => (intro x hx; (try dsimp only at hx); go_simp; try with_reducible rfl)
      try simp only [Act.put, List.setIfInBounds_toArray, List.set_cons_zero, List.set_cons_succ]
      refine wpAnyH_ready (rs := [11]) (by kernel_rfl) (by simp) ?_
      refine AllReadyH.cons (o := { dst := some 124, op := Op.buildSlice 24 1 #[(0, Operand.tmp 123)], type := 24, pos := "outright.go:128", after := #[{ on := 10, ground := Ground.data }], guard := none }) rfl (fun K hK => ?_) AllReadyH.nil
      go_simp
      go_wp2_with fail
      change K _ (wr.drew.drew.alloc (.cells #[.int .u8 (bits .xor .u8 xm ym)] 5))
      have hb5 : Below wr.heap.size wr (wr.drew.drew.alloc (.cells #[.int .u8 (bits .xor .u8 xm ym)] 5)) := below_trans (below_trans (drew_below _) (drew_below _)) (below_alloc _ _)
      have HB5 := hide hb5
      have HN5 := hide (alloc_new wr.drew.drew (.cells #[.int .u8 (bits .xor .u8 xm ym)] 5))
      have hSnew : (fun u => u.cell? ⟨w.heap.size, 0, none⟩ = some (.int .i64 o.k) ∧ u.cell? ⟨ga, m, none⟩ = some (.int .u8 xm) ∧ u.cell? ⟨gb, m, none⟩ = some (.int .u8 ym)) (wr.drew.drew.alloc (.cells #[.int .u8 (bits .xor .u8 xm ym)] 5)) := ⟨(hb5.cell (block_lt_of_cell HCE.out.1)).trans HCE.out.1, (hb5.cell (block_lt_of_cell HCE.out.2.1)).trans HCE.out.2.1, (hb5.cell (block_lt_of_cell HCE.out.2.2)).trans HCE.out.2.2⟩
      clear hb5
      refine hK.out _ _ hSnew (fun hHeld11 => ?_)
      clear hK K hSnew
      clear hHeld
      have hHeld := hHeld11
      clear hHeld11
      try simp only [Act.put, List.setIfInBounds_toArray, List.set_cons_zero, List.set_cons_succ]
      refine wpAnyH_ready (rs := [12]) (by kernel_rfl) (by simp) ?_
      refine AllReadyH.cons (o := { dst := some 125, op := Op.call { callee := Callee.value (Operand.func 29), args := #[Operand.tmp 124], argTypes := #[24] }, type := 3, pos := "outright.go:128", after := #[{ on := 11, ground := Ground.data }], guard := none }) rfl (fun K hK => ?_) AllReadyH.nil
      go_simp
      go_at_call 29
      refine (rzeros_any (some ⟨wr.heap.size, 0, none⟩) 1 1 [(bits .xor .u8 xm ym)] _ (by omega) (reads_one2 HN5.out HXY.out)).mono ?_
      rintro e u9 ⟨rfl, hu9⟩
      subst hu9
      rw [HZS.out]
      have hSnew := hHeld
      go_wp2_with fail
      refine hK.out _ _ hSnew (fun hHeld12 => ?_)
      clear hK K hSnew
      clear hHeld
      have hHeld := hHeld12
      clear hHeld12
      try simp only [Act.put, List.setIfInBounds_toArray, List.set_cons_zero, List.set_cons_succ]
      refine wpAnyH_take (i := 13) (oi := { dst := some 126, op := Op.binOp BinOp.sub 3 (Operand.tmp 114) (Operand.tmp 125) 3, type := 3, pos := "outright.go:128", after := #[{ on := 1, ground := Ground.data }, { on := 12, ground := Ground.data }], guard := none }) (v := ?v13fourb) rfl (by kernel_rfl) (by kernel_rfl) (by kernel_rfl) (fun _ _ _ h => h) (Or.inl ⟨by rfl, ?y13fourb⟩) (by assumption) ?r13fourb
      case y13fourb => (intro x hx; (try dsimp only at hx); go_simp; try with_reducible rfl)
      try simp only [Act.put, List.setIfInBounds_toArray, List.set_cons_zero, List.set_cons_succ]
      refine wpAnyH_take (i := 14) (oi := { dst := some 13, op := Op.assign (Operand.tmp 126), type := 3, pos := "outright.go:128", after := #[{ on := 13, ground := Ground.data }, { on := 12, ground := Ground.chain }, { on := 0, ground := Ground.phase }, { on := 1, ground := Ground.phase }, { on := 2, ground := Ground.phase }, { on := 3, ground := Ground.phase }, { on := 4, ground := Ground.phase }, { on := 5, ground := Ground.phase }, { on := 6, ground := Ground.phase }, { on := 7, ground := Ground.phase }, { on := 8, ground := Ground.phase }, { on := 9, ground := Ground.phase }, { on := 10, ground := Ground.phase }, { on := 11, ground := Ground.phase }, { on := 12, ground := Ground.phase }, { on := 13, ground := Ground.phase }], guard := none }) (v := ?v14fourb) rfl (by kernel_rfl) (by kernel_rfl) (by kernel_rfl) (fun _ _ _ h => h) (Or.inl ⟨by rfl, ?y14fourb⟩) (by assumption) ?r14fourb
      case y14fourb => (intro x hx; (try dsimp only at hx); go_simp; try with_reducible rfl)
      try simp only [Act.put, List.setIfInBounds_toArray, List.set_cons_zero, List.set_cons_succ]
      refine wpAnyH_done (by kernel_rfl) ?_ _
      clear hHeld
      go_wp2
      go_roundw
      case rel => exact ⟨m + 1, by omega, by go_num, by have h1 := HDS.out; have h2 := HZB.out; have h3 := HDL.out; rw [h1]; congr 1; simp only [IntKind.wrap_i64]; omega, below_trans HJ.out HB5.out⟩
      case measure => simp [intOf]; omega
    · have dm : decide ((m : Int) < 313) = false := decide_eq_false (by omega)
      have em : m = 313 := by omega
      subst em
      have HD1 : Hid (dsum xs ys 313 = 1) := by show dsum xs ys 313 = 1; rw [HFL.out, dsum_flip HXB.out (by rw [HXL.out]; exact hj313) 313, if_pos (by omega)]
      rw [HD1.out]
      have hbt : (xs.getD (j / 8) 0 / 2 ^ (j % 8) % 2 != ys.getD (j / 8) 0 / 2 ^ (j % 8) % 2) = true := by
        have h9 := bt_flip HXB.out (j := j) (by rw [HXL.out]; exact hj313) j
        rw [if_pos rfl] at h9
        unfold bt at h9
        rw [← HFL.out] at h9
        generalize xs.getD (j / 8) 0 / 2 ^ (j % 8) = X9 at h9 ⊢
        generalize ys.getD (j / 8) 0 / 2 ^ (j % 8) = Y9 at h9 ⊢
        have h8 : X9 % 2 ≠ Y9 % 2 := by omega
        simp [h8]
      have hc3 : wr.cell? ⟨w.heap.size, 3, none⟩ = some (.int .i64 (j : Int)) := by
        have h9 := (cells7 ((HJ.out.block _ (lt_of_block HO1.out)).trans HO1.out)).2.2.2.1
        rw [HBI.out] at h9
        exact h9
      obtain ⟨bx, hbx⟩ : ∃ b, b = xs.getD (j / 8) 0 / 2 ^ (j % 8) % 2 := ⟨_, rfl⟩
      obtain ⟨by_, hby⟩ : ∃ b, b = ys.getD (j / 8) 0 / 2 ^ (j % 8) % 2 := ⟨_, rfl⟩
      rw [← hbx, ← hby] at hbt
      have HBX := hide hbx
      have HBY := hide hby
      clear hbx hby
      go_upto_region 13 with fail
      refine wp_region_held_drew (S := (fun u => u.cell? ⟨w.heap.size, 3, none⟩ = some (.int .i64 (j : Int)))) (by kernel_rfl) (hc3) (fun hHeld => ?_)
      refine wpAnyH_take (i := 0) (oi := { dst := some 130, op := Op.move (Operand.tmp 13), type := 3, pos := "outright.go:131", after := #[], guard := none }) (v := ?v0fourc) rfl (by kernel_rfl) (by kernel_rfl) (by kernel_rfl) (fun _ _ _ h => h) (Or.inl ⟨by rfl, ?y0fourc⟩) (by assumption) ?r0fourc
      case y0fourc => (intro x hx; (try dsimp only at hx); go_simp; try with_reducible rfl)
      try simp only [Act.put, List.setIfInBounds_toArray, List.set_cons_zero, List.set_cons_succ]
      refine wpAnyH_take (i := 1) (oi := { dst := some 131, op := Op.binOp BinOp.eql 3 (Operand.tmp 130) (Operand.const (Value.int IntKind.i64 1)) 3, type := 4, pos := "outright.go:131", after := #[{ on := 0, ground := Ground.data }], guard := none }) (v := ?v1fourc) rfl (by kernel_rfl) (by kernel_rfl) (by kernel_rfl) (fun _ _ _ h => h) (Or.inl ⟨by rfl, ?y1fourc⟩) (by assumption) ?r1fourc
      case y1fourc => (intro x hx; (try dsimp only at hx); go_simp; try with_reducible rfl)
      try simp only [Act.put, List.setIfInBounds_toArray, List.set_cons_zero, List.set_cons_succ]
      refine wpAnyH_take (i := 2) (oi := { dst := some 132, op := Op.move (Operand.tmp 131), type := 4, pos := "outright.go:131", after := #[{ on := 1, ground := Ground.data }], guard := none }) (v := ?v2fourc) rfl (by kernel_rfl) (by kernel_rfl) (by kernel_rfl) (fun _ _ _ h => h) (Or.inl ⟨by rfl, ?y2fourc⟩) (by assumption) ?r2fourc
      case y2fourc => (intro x hx; (try dsimp only at hx); go_simp; try with_reducible rfl)
      try simp only [Act.put, List.setIfInBounds_toArray, List.set_cons_zero, List.set_cons_succ]
      refine wpAnyH_take (i := 3) (oi := { dst := some 133, op := Op.move (Operand.tmp 3), type := 24, pos := "outright.go:131", after := #[{ on := 2, ground := Ground.guard }], guard := some (2, true) }) (v := ?v3fourc) rfl (by kernel_rfl) (by kernel_rfl) (by kernel_rfl) (fun _ _ _ h => h) (Or.inl ⟨by rfl, ?y3fourc⟩) (by assumption) ?r3fourc
      case y3fourc => (intro x hx; (try dsimp only at hx); go_simp; try with_reducible rfl)
      try simp only [Act.put, List.setIfInBounds_toArray, List.set_cons_zero, List.set_cons_succ]
      refine wpAnyH_take (i := 4) (oi := { dst := some 134, op := Op.fieldAddr 56 (Operand.tmp 6) 2, type := 0, pos := "outright.go:131", after := #[{ on := 2, ground := Ground.guard }], guard := some (2, true) }) (v := ?v4fourc) rfl (by kernel_rfl) (by kernel_rfl) (by kernel_rfl) (fun _ _ _ h => h) (Or.inl ⟨by rfl, ?y4fourc⟩) (by assumption) ?r4fourc
      case y4fourc => (intro x hx; (try dsimp only at hx); go_simp; try with_reducible rfl)
      try simp only [Act.put, List.setIfInBounds_toArray, List.set_cons_zero, List.set_cons_succ]
      refine wpAnyH_take (i := 5) (oi := { dst := some 135, op := Op.load 3 (Operand.tmp 134), type := 3, pos := "outright.go:131", after := #[{ on := 4, ground := Ground.data }, { on := 2, ground := Ground.guard }], guard := some (2, true) }) (v := ?v5fourc) rfl (by kernel_rfl) (by kernel_rfl) (by kernel_rfl) (fun _ _ _ h => h) (Or.inl ⟨by rfl, ?y5fourc⟩) (by assumption) ?r5fourc
      case y5fourc => (intro x hx; (try dsimp only at hx); go_simp; try with_reducible rfl)
      try simp only [Act.put, List.setIfInBounds_toArray, List.set_cons_zero, List.set_cons_succ]
      refine wpAnyH_take (i := 7) (oi := { dst := some 137, op := Op.move (Operand.tmp 4), type := 24, pos := "outright.go:131", after := #[{ on := 2, ground := Ground.guard }], guard := some (2, true) }) (v := ?v7fourc) rfl (by kernel_rfl) (by kernel_rfl) (by kernel_rfl) (fun _ _ _ h => h) (Or.inl ⟨by rfl, ?y7fourc⟩) (by assumption) ?r7fourc
      case y7fourc => (intro x hx; (try dsimp only at hx); go_simp; try with_reducible rfl)
      try simp only [Act.put, List.setIfInBounds_toArray, List.set_cons_zero, List.set_cons_succ]
      refine wpAnyH_take (i := 8) (oi := { dst := some 138, op := Op.fieldAddr 56 (Operand.tmp 6) 2, type := 0, pos := "outright.go:131", after := #[{ on := 2, ground := Ground.guard }], guard := some (2, true) }) (v := ?v8fourc) rfl (by kernel_rfl) (by kernel_rfl) (by kernel_rfl) (fun _ _ _ h => h) (Or.inl ⟨by rfl, ?y8fourc⟩) (by assumption) ?r8fourc
      case y8fourc => (intro x hx; (try dsimp only at hx); go_simp; try with_reducible rfl)
      try simp only [Act.put, List.setIfInBounds_toArray, List.set_cons_zero, List.set_cons_succ]
      refine wpAnyH_take (i := 9) (oi := { dst := some 139, op := Op.load 3 (Operand.tmp 138), type := 3, pos := "outright.go:131", after := #[{ on := 8, ground := Ground.data }, { on := 2, ground := Ground.guard }], guard := some (2, true) }) (v := ?v9fourc) rfl (by kernel_rfl) (by kernel_rfl) (by kernel_rfl) (fun _ _ _ h => h) (Or.inl ⟨by rfl, ?y9fourc⟩) (by assumption) ?r9fourc
      case y9fourc => (intro x hx; (try dsimp only at hx); go_simp; try with_reducible rfl)
      try simp only [Act.put, List.setIfInBounds_toArray, List.set_cons_zero, List.set_cons_succ]
      refine wpAnyH_ready (rs := [6]) (by kernel_rfl) (by simp) ?_
      refine AllReadyH.cons (o := { dst := some 136, op := Op.call { callee := Callee.value (Operand.func 61), args := #[Operand.tmp 133, Operand.tmp 135], argTypes := #[24, 3] }, type := 3, pos := "outright.go:131", after := #[{ on := 3, ground := Ground.data }, { on := 5, ground := Ground.data }, { on := 2, ground := Ground.chain }, { on := 2, ground := Ground.guard }], guard := some (2, true) }) rfl (fun K hK => ?_) AllReadyH.nil
      go_simp
      go_at_call 61
      refine (bit_any (some ⟨ga, 0, none⟩) 313 _ xs j _ (by omega) (HXR.out.below (below_trans HJ.out (drew_below _))) (by omega)).mono ?_
      rintro e u9 ⟨rfl, hu9⟩
      subst hu9
      rw [← HBX.out]
      have hSnew := hHeld
      go_wp2_with fail
      refine hK.out _ _ hSnew (fun hHeld6 => ?_)
      clear hK K hSnew
      clear hHeld
      have hHeld := hHeld6
      clear hHeld6
      try simp only [Act.put, List.setIfInBounds_toArray, List.set_cons_zero, List.set_cons_succ]
      refine wpAnyH_ready (rs := [10]) (by kernel_rfl) (by simp) ?_
      refine AllReadyH.cons (o := { dst := some 140, op := Op.call { callee := Callee.value (Operand.func 61), args := #[Operand.tmp 137, Operand.tmp 139], argTypes := #[24, 3] }, type := 3, pos := "outright.go:131", after := #[{ on := 7, ground := Ground.data }, { on := 9, ground := Ground.data }, { on := 6, ground := Ground.chain }, { on := 2, ground := Ground.guard }], guard := some (2, true) }) rfl (fun K hK => ?_) AllReadyH.nil
      go_simp
      go_at_call 61
      refine (bit_any (some ⟨gb, 0, none⟩) 313 _ ys j _ (by omega) (HYR.out.below (below_trans HJ.out (drew_below _))) (by omega)).mono ?_
      rintro e u9 ⟨rfl, hu9⟩
      subst hu9
      rw [← HBY.out]
      have hSnew := hHeld
      go_wp2_with fail
      refine hK.out _ _ hSnew (fun hHeld10 => ?_)
      clear hK K hSnew
      clear hHeld
      have hHeld := hHeld10
      clear hHeld10
      try simp only [Act.put, List.setIfInBounds_toArray, List.set_cons_zero, List.set_cons_succ]
      refine wpAnyH_take (i := 11) (oi := { dst := some 141, op := Op.binOp BinOp.neq 3 (Operand.tmp 136) (Operand.tmp 140) 3, type := 4, pos := "outright.go:131", after := #[{ on := 6, ground := Ground.data }, { on := 10, ground := Ground.data }, { on := 2, ground := Ground.guard }], guard := some (2, true) }) (v := ?v11fourc) rfl (by kernel_rfl) (by kernel_rfl) (by kernel_rfl) (fun _ _ _ h => h) (Or.inl ⟨by rfl, ?y11fourc⟩) (by assumption) ?r11fourc
      case y11fourc => (intro x hx; (try dsimp only at hx); go_simp; try with_reducible rfl)
      try simp only [Act.put, List.setIfInBounds_toArray, List.set_cons_zero, List.set_cons_succ]
      refine wpAnyH_take (i := 12) (oi := { dst := some 142, op := Op.pick (Operand.tmp 132) (Operand.tmp 141) (Operand.const (Value.bool false)), type := 4, pos := "outright.go:131", after := #[{ on := 2, ground := Ground.data }, { on := 11, ground := Ground.data }], guard := none }) (v := ?v12fourc) rfl (by kernel_rfl) (by kernel_rfl) (by kernel_rfl) (fun _ _ _ h => h) (Or.inl ⟨by rfl, ?y12fourc⟩) (by assumption) ?r12fourc
      case y12fourc => (intro x hx; (try dsimp only at hx); go_simp; try with_reducible rfl)
      try simp only [Act.put, List.setIfInBounds_toArray, List.set_cons_zero, List.set_cons_succ]
      refine wpAnyH_take (i := 13) (oi := { dst := some 12, op := Op.assign (Operand.tmp 142), type := 4, pos := "outright.go:131", after := #[{ on := 12, ground := Ground.data }, { on := 10, ground := Ground.chain }, { on := 0, ground := Ground.phase }, { on := 1, ground := Ground.phase }, { on := 2, ground := Ground.phase }, { on := 3, ground := Ground.phase }, { on := 4, ground := Ground.phase }, { on := 5, ground := Ground.phase }, { on := 6, ground := Ground.phase }, { on := 7, ground := Ground.phase }, { on := 8, ground := Ground.phase }, { on := 9, ground := Ground.phase }, { on := 10, ground := Ground.phase }, { on := 11, ground := Ground.phase }, { on := 12, ground := Ground.phase }], guard := none }) (v := ?v13fourc) rfl (by kernel_rfl) (by kernel_rfl) (by kernel_rfl) (fun _ _ _ h => h) (Or.inl ⟨by rfl, ?y13fourc⟩) (by assumption) ?r13fourc
      case y13fourc => (intro x hx; (try dsimp only at hx); go_simp; try with_reducible rfl)
      try simp only [Act.put, List.setIfInBounds_toArray, List.set_cons_zero, List.set_cons_succ]
      refine wpAnyH_done (by kernel_rfl) ?_ _
      clear hHeld
      go_wp2
      go_ret
      exact ⟨rfl, below_trans HB0.out (below_trans HJ.out (drew_below _))⟩
end Go.Proofs.Ytadlkikjfonkgaa
