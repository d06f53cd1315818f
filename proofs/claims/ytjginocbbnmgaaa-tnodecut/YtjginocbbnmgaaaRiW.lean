/-
  SEAT Ytjginocbbnmgaaa: TnodeRises, its walk.
-/
import Derived.Test.YtjginocbbnmgaaaHeW
namespace Go.Proofs.Ytjginocbbnmgaaa
open Go.RowKit
set_option linter.unusedVariables false

theorem items_mem (M : Mp) : ∀ (n i : Nat) (p : Int × Int), (items M 0 n)[i]? = some p → ∃ K : Nat, K < n ∧ p.1 = (K : Int) ∧ M K = some p.2
  | 0, i, p, h => by simp [items] at h
  | n + 1, i, p, h => by
    simp only [items] at h
    rcases Nat.lt_or_ge i (items M 0 n).length with q | q
    · rw [List.getElem?_append_left q] at h
      obtain ⟨K, h1, h2, h3⟩ := items_mem M n i p h
      exact ⟨K, by omega, h2, h3⟩
    · rw [List.getElem?_append_right q] at h
      cases hm : M n with
      | none => rw [hm] at h; simp at h
      | some v =>
        rw [hm] at h
        have h9 := List.mem_of_getElem? h
        simp at h9
        subst h9
        exact ⟨n, by omega, rfl, hm⟩
theorem items_rise (M : Mp) : ∀ (n i j : Nat) (p q : Int × Int), i < j → (items M 0 n)[i]? = some p → (items M 0 n)[j]? = some q → p.1 < q.1
  | 0, i, j, p, q, _, h, _ => by simp [items] at h
  | n + 1, i, j, p, q, hij, h, h' => by
    simp only [items] at h h'
    rcases Nat.lt_or_ge j (items M 0 n).length with c | c
    · rw [List.getElem?_append_left c] at h'
      rw [List.getElem?_append_left (by omega)] at h
      exact items_rise M n i j p q hij h h'
    · rw [List.getElem?_append_right c] at h'
      cases hm : M n with
      | none => rw [hm] at h'; simp at h'
      | some v =>
        rw [hm] at h'
        have hj : j = (items M 0 n).length := by
          have := (List.getElem?_eq_some_iff.1 h').1
          simp at this
          omega
        have h9 := List.mem_of_getElem? h'
        simp at h9
        subst h9
        rw [List.getElem?_append_left (by omega)] at h
        obtain ⟨K, h1, h2, _⟩ := items_mem M n i p h
        show p.1 < (n : Int)
        omega
theorem all_mem {M : Mp} {i : Nat} {p : Int × Int} (h : (allOf M)[i]? = some p) : ∃ K : Nat, K < 1048576 ∧ p.1 = (K : Int) ∧ M K = some p.2 := items_mem M 1048576 i p h
theorem all_rise {M : Mp} {i j : Nat} {p q : Int × Int} (hij : i < j) (h : (allOf M)[i]? = some p) (h' : (allOf M)[j]? = some q) : p.1 < q.1 := items_rise M 1048576 i j p q hij h h'
theorem ReadsI.below {A B : World} {a : Option Addr} {len : Nat} {ks : List Int} (h : ReadsI A a len ks) (hb : Below A.heap.size A B) : ReadsI B a len ks := by
  obtain ⟨q1, q2, q3, q4⟩ := h
  refine ⟨q1, q2, q3, fun x hx i hi => ?_⟩
  obtain ⟨b, off, hb1, hbl, _⟩ := ReadsI.pos ⟨q1, q2, q3, q4⟩ (show 0 < len by omega)
  rw [hx] at hb1
  injection hb1 with hb1
  subst hb1
  rw [plain_add]
  have h9 := q4 _ hx i hi
  rw [plain_add] at h9
  exact (hb.cell (p := ⟨b, off + i, none⟩) hbl).trans h9
/-- A slice of pairs, and where it lies. -/
theorem Rd.lies {W : World} {v : Value} {xs : List (Int × Int)} (h : Rd W v xs) (hp : 0 < xs.length) : ∃ g cap, v = .slice (some ⟨g, 0, none⟩) xs.length cap ∧ g < W.heap.size ∧ ∀ i p, xs[i]? = some p → W.cell? ⟨g, i * 2, none⟩ = some (.int .i64 p.1) ∧ W.cell? ⟨g, i * 2 + 1, none⟩ = some (.int .i64 p.2) := by
  rcases Rd.reads h with ⟨_, rfl⟩ | ⟨g, cap, rfl, hl, hc⟩
  · simp at hp
  · refine ⟨g, cap, rfl, ?_, hc⟩
    obtain ⟨h1, _⟩ := hc 0 xs[0] (List.getElem?_eq_getElem hp)
    unfold World.cell? at h1
    rcases Nat.lt_or_ge g W.heap.size with q | q
    · exact q
    · simp [Array.getElem?_eq_none q] at h1
theorem Rd.any {W : World} {v : Value} {xs : List (Int × Int)} (h : Rd W v xs) : ∃ a cap, v = .slice a xs.length cap := by
  rcases Rd.reads h with ⟨rfl, rfl⟩ | ⟨g, cap, rfl, hl, hc⟩
  · exact ⟨_, _, rfl⟩
  · exact ⟨_, _, rfl⟩
theorem at1_nat (M : Mp) (K : Nat) : at1 M (K : Int) = M K := by unfold at1; rw [if_pos (by omega), Int.toNat_natCast]
theorem may_nat {K : Nat} (h : K < 1048576) : mayB (K : Int) = true := decide_eq_true ⟨by omega, by omega⟩
set_option maxHeartbeats 8000000 in
set_option maxRecDepth 100000 in
theorem rises_walk (a : Option Addr) (len cap : Nat) (ks : List Int) (w : World) (hr : ReadsI w a len ks) (hs : len * 8 ≤ 140737488351232) :
    Calls Try.prog 7 #[.slice a len cap] w fun e w' => e = .returned (.bool true) ∧ Below w.heap.size w w' := by
  have HR : Hid _ := hr
  have HHS : Hid _ := hs
  clear hr hs
  go_enter Try.func7, Try.ntmps7
  go_upto_region 3 with (first | (go_at_call 9; refine (heads_any _).mono ?_; rintro e u0 ⟨rfl, b0⟩; have B0 : Hid _ := b0; clear b0))
  have HR0 : Hid _ := ReadsI.below HR.out B0.out
  obtain ⟨M, hM⟩ : ∃ M, fillM ks len = M := ⟨_, rfl⟩
  have HFI : Hid _ := filled_any a len cap ks u0 HR0.out HHS.out
  obtain ⟨gt, hgt⟩ : ∃ gt, u0.heap.size = gt := ⟨_, rfl⟩
  rw [hM, hgt] at HFI
  clear hM
  go_upto_region 4 with (first | (go_at_call 10; refine Calls.mono HFI.out ?_; rintro e u1 ⟨h1, rfl, t1, b1⟩; have T1 : Hid _ := t1; have B1 : Hid (Below w.heap.size w u1) := B0.out.trans (Below.mono (by rw [hgt]; exact b1) B0.out.size); clear t1 b1))
  clear hgt HFI HR0
  obtain ⟨A, hA⟩ : ∃ A, allOf M = A := ⟨_, rfl⟩
  obtain ⟨N, hN⟩ : ∃ N, A.length = N := ⟨_, rfl⟩
  have hnum : num M = N := by rw [← all_count, hA]; exact hN
  have HNN : Hid _ := And.intro hN hnum
  have hN6 : N ≤ 1048576 := by rw [← hnum]; exact num_le M
  have HA : Hid _ := hA
  clear hN hnum hA
  go_upto_region 5 with (first
    | (go_at_call 12; refine (pairs_t gt h1 M _ T1.out).mono ?_; rintro e u3 ⟨vl, rfl, r3, t3, b3⟩; rw [HA.out] at r3; obtain ⟨al, cl, rfl⟩ := Rd.any r3; rw [HNN.out.1] at r3 ⊢; have R3 : Hid (Rd u3 (.slice al N cl) A) := r3; have T3 : Hid _ := t3; have B3 : Hid (Below w.heap.size w u3) := B1.out.trans (b3.mono B1.out.size); clear r3 t3 b3))
  have hne : ((N : Int) == (N : Int)) = true := by simp
  go_upto_region 7 with (first
    | (go_at_call 14; refine (len_t gt h1 M _ T3.out).mono ?_; rintro e u ⟨rfl, rfl⟩; rw [HNN.out.2])
    | (go_at_call 12; refine (pairs_t gt h1 M _ T3.out).mono ?_; rintro e u4 ⟨v4, rfl, r4, t4, b4⟩; rw [HA.out] at r4; have R4 : Hid (Rd u4 v4 A) := r4; have T4 : Hid _ := t4; have B34 : Hid (Below u3.heap.size u3 u4) := b4; have R34 : Hid (Rd u4 (.slice al N cl) A) := Rd.below R3.out b4; clear r4 t4 b4)
    | (go_at_call 18; refine (same_t _ _ _ A R34.out R4.out).mono ?_; rintro e u5 ⟨rfl, b5⟩; have T5 : Hid _ := T4.out.below b5; have B35 : Hid (Below u3.heap.size u3 u5) := B34.out.trans (b5.mono B34.out.size); clear b5))
  clear hne
  have HN6 : Hid _ := hN6
  clear hN6
  go_wp2_with fail
  go_loopw [6] (fun s6 wr => ∃ i : Nat, i ≤ N ∧ s6 = .int .i64 (i : Int) ∧ Hid (Below u3.heap.size u3 wr)) (fun i _ => N - (intOf i).toNat)
  case atStart => exact ⟨0, by omega, rfl, B35⟩
  case round =>
    obtain ⟨i, hi, rfl, HB⟩ := hrel
    by_cases hc : i < N
    · have dc : (i : Int) < (N : Int) := by omega
      have hlt : i < A.length := by rw [HNN.out.1]; exact hc
      obtain ⟨⟨pk, pv⟩, hp⟩ : ∃ p, A[i]? = some p := ⟨A[i], List.getElem?_eq_getElem hlt⟩
      obtain ⟨kk, hK, hpk, hKv⟩ := all_mem (M := M) (by rw [HA.out]; exact hp)
      obtain ⟨g, cl', hsl, hgl, hcells⟩ := Rd.lies R3.out (show 0 < A.length by omega)
      have hal : al = some ⟨g, 0, none⟩ := by injection hsl
      subst hal
      dsimp only at hpk hKv
      subst hpk
      obtain ⟨x0, x1⟩ := hcells i _ hp
      have x0r : wr.cell? ⟨g, i * 2, none⟩ = some (.int .i64 (kk : Int)) := (HB.out.cell (p := ⟨g, i * 2, none⟩) hgl).trans x0
      have X1 : Hid (∀ u, Below u3.heap.size u3 u → u.cell? ⟨g, i * 2, none⟩ = some (.int .i64 (kk : Int)) ∧ u.cell? ⟨g, i * 2 + 1, none⟩ = some (.int .i64 pv)) := fun u hu => ⟨(hu.cell (p := ⟨g, i * 2, none⟩) hgl).trans x0, (hu.cell (p := ⟨g, i * 2 + 1, none⟩) hgl).trans x1⟩
      have XP : Hid (∀ j, i = j + 1 → ∃ q : Int, q < (kk : Int) ∧ ∀ u, Below u3.heap.size u3 u → u.cell? ⟨g, j * 2, none⟩ = some (.int .i64 q)) := fun j hj => by
        obtain ⟨⟨qk, qv⟩, hq⟩ : ∃ p, A[j]? = some p := ⟨A[j]'(by omega), List.getElem?_eq_getElem _⟩
        have h9 := all_rise (M := M) (show j < i by omega) (by rw [HA.out]; exact hq) (by rw [HA.out]; exact hp)
        obtain ⟨y0, _⟩ := hcells j _ hq
        exact ⟨qk, h9, fun u hu => (hu.cell (p := ⟨g, j * 2, none⟩) hgl).trans y0⟩
      have hgot : got (at1 M (kk : Int)) = .tuple #[.int .i64 pv, .bool true] := by rw [at1_nat, hKv]; rfl
      have HGOT : Hid _ := hgot
      have HTW : Hid _ := T3.out.below HB.out
      have HMAY : Hid _ := may_nat hK
      have wi : IntKind.i64.wrap ((i : Int) + 1) = (i : Int) + 1 := by have := HN6.out; rw [IntKind.wrap_i64]; omega
      clear hp hKv hcells x0 x1 hlt hgot hsl hgl hK
      go_upto_region 11 with (first
        | (go_at_call 19; refine (get_t gt h1 (kk : Int) M _ HTW.out).mono ?_; rintro e u6 ⟨rfl, t6, b6⟩; rw [HGOT.out]; have B6 : Hid (Below u3.heap.size u3 u6) := HB.out.trans (b6.mono HB.out.size); clear t6 b6 x0r))
      obtain ⟨z0, z1⟩ := X1.out u6 B6.out
      cases i with
      | zero =>
        refine wp_region_held_drew (S := (fun x => x.cell? ⟨g, 0 * 2, none⟩ = some (.int .i64 (kk : Int)) ∧ x.cell? ⟨g, 0 * 2 + 1, none⟩ = some (.int .i64 pv))) (by kernel_rfl) (⟨z0, z1⟩) (fun hHeld => ?_)
        refine wpAnyH_take (i := 0) (oi := { dst := some 46, op := Op.move (Operand.tmp 8), type := 4, pos := "law.go:201", after := #[], guard := none }) (v := ?v0p) rfl (by kernel_rfl) (by kernel_rfl) (by kernel_rfl) (fun _ _ _ h => h) (Or.inl ⟨by rfl, ?y0p⟩) (by assumption) ?r0p
        case y0p => (intro x hx; obtain ⟨hx0, hx1⟩ := hx; go_simp; try with_reducible rfl)
        try simp only [Act.put, List.setIfInBounds_toArray, List.set_cons_zero, List.set_cons_succ]
        refine wpAnyH_take (i := 1) (oi := { dst := some 47, op := Op.unOp UnOp.not 4 (Operand.tmp 46), type := 4, pos := "law.go:201", after := #[{ on := 0, ground := Ground.data }], guard := none }) (v := ?v1p) rfl (by kernel_rfl) (by kernel_rfl) (by kernel_rfl) (fun _ _ _ h => h) (Or.inl ⟨by rfl, ?y1p⟩) (by assumption) ?r1p
        case y1p => (intro x hx; obtain ⟨hx0, hx1⟩ := hx; go_simp; try with_reducible rfl)
        try simp only [Act.put, List.setIfInBounds_toArray, List.set_cons_zero, List.set_cons_succ]
        refine wpAnyH_take (i := 2) (oi := { dst := some 48, op := Op.move (Operand.tmp 47), type := 4, pos := "law.go:201", after := #[{ on := 1, ground := Ground.data }], guard := none }) (v := ?v2p) rfl (by kernel_rfl) (by kernel_rfl) (by kernel_rfl) (fun _ _ _ h => h) (Or.inl ⟨by rfl, ?y2p⟩) (by assumption) ?r2p
        case y2p => (intro x hx; obtain ⟨hx0, hx1⟩ := hx; go_simp; try with_reducible rfl)
        try simp only [Act.put, List.setIfInBounds_toArray, List.set_cons_zero, List.set_cons_succ]
        refine wpAnyH_take (i := 3) (oi := { dst := some 49, op := Op.move (Operand.tmp 7), type := 3, pos := "law.go:201", after := #[{ on := 2, ground := Ground.guard }], guard := some (2, false) }) (v := ?v3p) rfl (by kernel_rfl) (by kernel_rfl) (by kernel_rfl) (fun _ _ _ h => h) (Or.inl ⟨by rfl, ?y3p⟩) (by assumption) ?r3p
        case y3p => (intro x hx; obtain ⟨hx0, hx1⟩ := hx; go_simp; try with_reducible rfl)
        try simp only [Act.put, List.setIfInBounds_toArray, List.set_cons_zero, List.set_cons_succ]
        refine wpAnyH_take (i := 4) (oi := { dst := some 50, op := Op.move (Operand.tmp 5), type := 28, pos := "law.go:201", after := #[{ on := 2, ground := Ground.guard }], guard := some (2, false) }) (v := ?v4p) rfl (by kernel_rfl) (by kernel_rfl) (by kernel_rfl) (fun _ _ _ h => h) (Or.inl ⟨by rfl, ?y4p⟩) (by assumption) ?r4p
        case y4p => (intro x hx; obtain ⟨hx0, hx1⟩ := hx; go_simp; try with_reducible rfl)
        try simp only [Act.put, List.setIfInBounds_toArray, List.set_cons_zero, List.set_cons_succ]
        refine wpAnyH_take (i := 5) (oi := { dst := some 51, op := Op.move (Operand.tmp 6), type := 3, pos := "law.go:201", after := #[{ on := 2, ground := Ground.guard }], guard := some (2, false) }) (v := ?v5p) rfl (by kernel_rfl) (by kernel_rfl) (by kernel_rfl) (fun _ _ _ h => h) (Or.inl ⟨by rfl, ?y5p⟩) (by assumption) ?r5p
        case y5p => (intro x hx; obtain ⟨hx0, hx1⟩ := hx; go_simp; try with_reducible rfl)
        try simp only [Act.put, List.setIfInBounds_toArray, List.set_cons_zero, List.set_cons_succ]
        refine wpAnyH_take (i := 6) (oi := { dst := some 52, op := Op.indexAddr 28 (Operand.tmp 50) (Operand.tmp 51), type := 0, pos := "law.go:201", after := #[{ on := 4, ground := Ground.data }, { on := 5, ground := Ground.data }, { on := 2, ground := Ground.guard }], guard := some (2, false) }) (v := ?v6p) rfl (by kernel_rfl) (by kernel_rfl) (by kernel_rfl) (fun _ _ _ h => h) (Or.inl ⟨by rfl, ?y6p⟩) (by assumption) ?r6p
        case y6p => (intro x hx; obtain ⟨hx0, hx1⟩ := hx; go_simp; try with_reducible rfl)
        try simp only [Act.put, List.setIfInBounds_toArray, List.set_cons_zero, List.set_cons_succ]
        refine wpAnyH_take (i := 7) (oi := { dst := some 53, op := Op.fieldAddr 35 (Operand.tmp 52) 1, type := 0, pos := "law.go:201", after := #[{ on := 6, ground := Ground.data }, { on := 2, ground := Ground.guard }], guard := some (2, false) }) (v := ?v7p) rfl (by kernel_rfl) (by kernel_rfl) (by kernel_rfl) (fun _ _ _ h => h) (Or.inl ⟨by rfl, ?y7p⟩) (by assumption) ?r7p
        case y7p => (intro x hx; obtain ⟨hx0, hx1⟩ := hx; go_simp; try with_reducible rfl)
        try simp only [Act.put, List.setIfInBounds_toArray, List.set_cons_zero, List.set_cons_succ]
        refine wpAnyH_take (i := 8) (oi := { dst := some 54, op := Op.load 3 (Operand.tmp 53), type := 3, pos := "law.go:201", after := #[{ on := 7, ground := Ground.data }, { on := 2, ground := Ground.guard }], guard := some (2, false) }) (v := ?v8p) rfl (by kernel_rfl) (by kernel_rfl) (by kernel_rfl) (fun _ _ _ h => h) (Or.inl ⟨by rfl, ?y8p⟩) (by assumption) ?r8p
        case y8p => (intro x hx; obtain ⟨hx0, hx1⟩ := hx; go_simp; try with_reducible rfl)
        try simp only [Act.put, List.setIfInBounds_toArray, List.set_cons_zero, List.set_cons_succ]
        refine wpAnyH_take (i := 9) (oi := { dst := some 55, op := Op.binOp BinOp.neq 3 (Operand.tmp 49) (Operand.tmp 54) 3, type := 4, pos := "law.go:201", after := #[{ on := 3, ground := Ground.data }, { on := 8, ground := Ground.data }, { on := 2, ground := Ground.guard }], guard := some (2, false) }) (v := ?v9p) rfl (by kernel_rfl) (by kernel_rfl) (by kernel_rfl) (fun _ _ _ h => h) (Or.inl ⟨by rfl, ?y9p⟩) (by assumption) ?r9p
        case y9p => (intro x hx; obtain ⟨hx0, hx1⟩ := hx; go_simp; try with_reducible rfl)
        try simp only [Act.put, List.setIfInBounds_toArray, List.set_cons_zero, List.set_cons_succ]
        refine wpAnyH_take (i := 10) (oi := { dst := some 56, op := Op.pick (Operand.tmp 48) (Operand.const (Value.bool true)) (Operand.tmp 55), type := 4, pos := "law.go:201", after := #[{ on := 2, ground := Ground.data }, { on := 9, ground := Ground.data }], guard := none }) (v := ?v10p) rfl (by kernel_rfl) (by kernel_rfl) (by kernel_rfl) (fun _ _ _ h => h) (Or.inl ⟨by rfl, ?y10p⟩) (by assumption) ?r10p
        case y10p => (intro x hx; obtain ⟨hx0, hx1⟩ := hx; go_simp; try with_reducible rfl)
        try simp only [Act.put, List.setIfInBounds_toArray, List.set_cons_zero, List.set_cons_succ]
        refine wpAnyH_take (i := 11) (oi := { dst := some 57, op := Op.move (Operand.tmp 56), type := 4, pos := "law.go:201", after := #[{ on := 10, ground := Ground.data }, { on := 2, ground := Ground.chain }], guard := none }) (v := ?v11p) rfl (by kernel_rfl) (by kernel_rfl) (by kernel_rfl) (fun _ _ _ h => h) (Or.inl ⟨by rfl, ?y11p⟩) (by assumption) ?r11p
        case y11p => (intro x hx; obtain ⟨hx0, hx1⟩ := hx; go_simp; try with_reducible rfl)
        try simp only [Act.put, List.setIfInBounds_toArray, List.set_cons_zero, List.set_cons_succ]
        refine wpAnyH_take (i := 12) (oi := { dst := some 58, op := Op.move (Operand.tmp 6), type := 3, pos := "law.go:201", after := #[{ on := 11, ground := Ground.guard }], guard := some (11, false) }) (v := ?v12p) rfl (by kernel_rfl) (by kernel_rfl) (by kernel_rfl) (fun _ _ _ h => h) (Or.inl ⟨by rfl, ?y12p⟩) (by assumption) ?r12p
        case y12p => (intro x hx; obtain ⟨hx0, hx1⟩ := hx; go_simp; try with_reducible rfl)
        try simp only [Act.put, List.setIfInBounds_toArray, List.set_cons_zero, List.set_cons_succ]
        refine wpAnyH_take (i := 13) (oi := { dst := some 59, op := Op.binOp BinOp.gtr 3 (Operand.tmp 58) (Operand.const (Value.int IntKind.i64 0)) 3, type := 4, pos := "law.go:201", after := #[{ on := 12, ground := Ground.data }, { on := 11, ground := Ground.guard }], guard := some (11, false) }) (v := ?v13p) rfl (by kernel_rfl) (by kernel_rfl) (by kernel_rfl) (fun _ _ _ h => h) (Or.inl ⟨by rfl, ?y13p⟩) (by assumption) ?r13p
        case y13p => (intro x hx; obtain ⟨hx0, hx1⟩ := hx; go_simp; try with_reducible rfl)
        try simp only [Act.put, List.setIfInBounds_toArray, List.set_cons_zero, List.set_cons_succ]
        refine wpAnyH_take (i := 14) (oi := { dst := some 60, op := Op.move (Operand.tmp 59), type := 4, pos := "law.go:201", after := #[{ on := 13, ground := Ground.data }, { on := 11, ground := Ground.chain }, { on := 11, ground := Ground.guard }], guard := some (11, false) }) (v := ?v14p) rfl (by kernel_rfl) (by kernel_rfl) (by kernel_rfl) (fun _ _ _ h => h) (Or.inl ⟨by rfl, ?y14p⟩) (by assumption) ?r14p
        case y14p => (intro x hx; obtain ⟨hx0, hx1⟩ := hx; go_simp; try with_reducible rfl)
        try simp only [Act.put, List.setIfInBounds_toArray, List.set_cons_zero, List.set_cons_succ]
        refine wpAnyH_take (i := 15) (oi := { dst := some 61, op := Op.move (Operand.tmp 5), type := 28, pos := "law.go:201", after := #[{ on := 14, ground := Ground.guard }], guard := some (14, true) }) (v := undef) rfl (by kernel_rfl) (by kernel_rfl) (by kernel_rfl) (fun _ _ _ h => h) (Or.inr ⟨by rfl, rfl⟩) (by assumption) ?_
        try simp only [Act.put, List.setIfInBounds_toArray, List.set_cons_zero, List.set_cons_succ]
        refine wpAnyH_take (i := 16) (oi := { dst := some 62, op := Op.move (Operand.tmp 6), type := 3, pos := "law.go:201", after := #[{ on := 14, ground := Ground.guard }], guard := some (14, true) }) (v := undef) rfl (by kernel_rfl) (by kernel_rfl) (by kernel_rfl) (fun _ _ _ h => h) (Or.inr ⟨by rfl, rfl⟩) (by assumption) ?_
        try simp only [Act.put, List.setIfInBounds_toArray, List.set_cons_zero, List.set_cons_succ]
        refine wpAnyH_take (i := 17) (oi := { dst := some 63, op := Op.indexAddr 28 (Operand.tmp 61) (Operand.tmp 62), type := 0, pos := "law.go:201", after := #[{ on := 15, ground := Ground.data }, { on := 16, ground := Ground.data }, { on := 14, ground := Ground.guard }], guard := some (14, true) }) (v := undef) rfl (by kernel_rfl) (by kernel_rfl) (by kernel_rfl) (fun _ _ _ h => h) (Or.inr ⟨by rfl, rfl⟩) (by assumption) ?_
        try simp only [Act.put, List.setIfInBounds_toArray, List.set_cons_zero, List.set_cons_succ]
        refine wpAnyH_take (i := 18) (oi := { dst := some 64, op := Op.fieldAddr 35 (Operand.tmp 63) 0, type := 0, pos := "law.go:201", after := #[{ on := 17, ground := Ground.data }, { on := 14, ground := Ground.guard }], guard := some (14, true) }) (v := undef) rfl (by kernel_rfl) (by kernel_rfl) (by kernel_rfl) (fun _ _ _ h => h) (Or.inr ⟨by rfl, rfl⟩) (by assumption) ?_
        try simp only [Act.put, List.setIfInBounds_toArray, List.set_cons_zero, List.set_cons_succ]
        refine wpAnyH_take (i := 19) (oi := { dst := some 65, op := Op.load 3 (Operand.tmp 64), type := 3, pos := "law.go:201", after := #[{ on := 18, ground := Ground.data }, { on := 14, ground := Ground.guard }], guard := some (14, true) }) (v := undef) rfl (by kernel_rfl) (by kernel_rfl) (by kernel_rfl) (fun _ _ _ h => h) (Or.inr ⟨by rfl, rfl⟩) (by assumption) ?_
        try simp only [Act.put, List.setIfInBounds_toArray, List.set_cons_zero, List.set_cons_succ]
        refine wpAnyH_take (i := 20) (oi := { dst := some 66, op := Op.move (Operand.tmp 5), type := 28, pos := "law.go:201", after := #[{ on := 14, ground := Ground.guard }], guard := some (14, true) }) (v := undef) rfl (by kernel_rfl) (by kernel_rfl) (by kernel_rfl) (fun _ _ _ h => h) (Or.inr ⟨by rfl, rfl⟩) (by assumption) ?_
        try simp only [Act.put, List.setIfInBounds_toArray, List.set_cons_zero, List.set_cons_succ]
        refine wpAnyH_take (i := 21) (oi := { dst := some 67, op := Op.move (Operand.tmp 6), type := 3, pos := "law.go:201", after := #[{ on := 14, ground := Ground.guard }], guard := some (14, true) }) (v := undef) rfl (by kernel_rfl) (by kernel_rfl) (by kernel_rfl) (fun _ _ _ h => h) (Or.inr ⟨by rfl, rfl⟩) (by assumption) ?_
        try simp only [Act.put, List.setIfInBounds_toArray, List.set_cons_zero, List.set_cons_succ]
        refine wpAnyH_take (i := 22) (oi := { dst := some 68, op := Op.binOp BinOp.sub 3 (Operand.tmp 67) (Operand.const (Value.int IntKind.i64 1)) 3, type := 3, pos := "law.go:201", after := #[{ on := 21, ground := Ground.data }, { on := 14, ground := Ground.guard }], guard := some (14, true) }) (v := undef) rfl (by kernel_rfl) (by kernel_rfl) (by kernel_rfl) (fun _ _ _ h => h) (Or.inr ⟨by rfl, rfl⟩) (by assumption) ?_
        try simp only [Act.put, List.setIfInBounds_toArray, List.set_cons_zero, List.set_cons_succ]
        refine wpAnyH_take (i := 23) (oi := { dst := some 69, op := Op.indexAddr 28 (Operand.tmp 66) (Operand.tmp 68), type := 0, pos := "law.go:201", after := #[{ on := 20, ground := Ground.data }, { on := 22, ground := Ground.data }, { on := 14, ground := Ground.guard }], guard := some (14, true) }) (v := undef) rfl (by kernel_rfl) (by kernel_rfl) (by kernel_rfl) (fun _ _ _ h => h) (Or.inr ⟨by rfl, rfl⟩) (by assumption) ?_
        try simp only [Act.put, List.setIfInBounds_toArray, List.set_cons_zero, List.set_cons_succ]
        refine wpAnyH_take (i := 24) (oi := { dst := some 70, op := Op.fieldAddr 35 (Operand.tmp 69) 0, type := 0, pos := "law.go:201", after := #[{ on := 23, ground := Ground.data }, { on := 14, ground := Ground.guard }], guard := some (14, true) }) (v := undef) rfl (by kernel_rfl) (by kernel_rfl) (by kernel_rfl) (fun _ _ _ h => h) (Or.inr ⟨by rfl, rfl⟩) (by assumption) ?_
        try simp only [Act.put, List.setIfInBounds_toArray, List.set_cons_zero, List.set_cons_succ]
        refine wpAnyH_take (i := 25) (oi := { dst := some 71, op := Op.load 3 (Operand.tmp 70), type := 3, pos := "law.go:201", after := #[{ on := 24, ground := Ground.data }, { on := 14, ground := Ground.guard }], guard := some (14, true) }) (v := undef) rfl (by kernel_rfl) (by kernel_rfl) (by kernel_rfl) (fun _ _ _ h => h) (Or.inr ⟨by rfl, rfl⟩) (by assumption) ?_
        try simp only [Act.put, List.setIfInBounds_toArray, List.set_cons_zero, List.set_cons_succ]
        refine wpAnyH_take (i := 26) (oi := { dst := some 72, op := Op.binOp BinOp.leq 3 (Operand.tmp 65) (Operand.tmp 71) 3, type := 4, pos := "law.go:201", after := #[{ on := 19, ground := Ground.data }, { on := 25, ground := Ground.data }, { on := 14, ground := Ground.guard }], guard := some (14, true) }) (v := undef) rfl (by kernel_rfl) (by kernel_rfl) (by kernel_rfl) (fun _ _ _ h => h) (Or.inr ⟨by rfl, rfl⟩) (by assumption) ?_
        try simp only [Act.put, List.setIfInBounds_toArray, List.set_cons_zero, List.set_cons_succ]
        refine wpAnyH_take (i := 27) (oi := { dst := some 73, op := Op.pick (Operand.tmp 60) (Operand.tmp 72) (Operand.const (Value.bool false)), type := 4, pos := "law.go:201", after := #[{ on := 14, ground := Ground.data }, { on := 26, ground := Ground.data }, { on := 11, ground := Ground.guard }], guard := some (11, false) }) (v := ?v27p) rfl (by kernel_rfl) (by kernel_rfl) (by kernel_rfl) (fun _ _ _ h => h) (Or.inl ⟨by rfl, ?y27p⟩) (by assumption) ?r27p
        case y27p => (intro x hx; obtain ⟨hx0, hx1⟩ := hx; go_simp; try with_reducible rfl)
        try simp only [Act.put, List.setIfInBounds_toArray, List.set_cons_zero, List.set_cons_succ]
        refine wpAnyH_take (i := 28) (oi := { dst := some 74, op := Op.pick (Operand.tmp 57) (Operand.const (Value.bool true)) (Operand.tmp 73), type := 4, pos := "law.go:201", after := #[{ on := 11, ground := Ground.data }, { on := 27, ground := Ground.data }], guard := none }) (v := ?v28p) rfl (by kernel_rfl) (by kernel_rfl) (by kernel_rfl) (fun _ _ _ h => h) (Or.inl ⟨by rfl, ?y28p⟩) (by assumption) ?r28p
        case y28p => (intro x hx; obtain ⟨hx0, hx1⟩ := hx; go_simp; try with_reducible rfl)
        try simp only [Act.put, List.setIfInBounds_toArray, List.set_cons_zero, List.set_cons_succ]
        refine wpAnyH_take (i := 29) (oi := { dst := some 75, op := Op.move (Operand.tmp 74), type := 4, pos := "law.go:201", after := #[{ on := 28, ground := Ground.data }, { on := 14, ground := Ground.chain }], guard := none }) (v := ?v29p) rfl (by kernel_rfl) (by kernel_rfl) (by kernel_rfl) (fun _ _ _ h => h) (Or.inl ⟨by rfl, ?y29p⟩) (by assumption) ?r29p
        case y29p => (intro x hx; obtain ⟨hx0, hx1⟩ := hx; go_simp; try with_reducible rfl)
        try simp only [Act.put, List.setIfInBounds_toArray, List.set_cons_zero, List.set_cons_succ]
        refine wpAnyH_take (i := 30) (oi := { dst := some 76, op := Op.move (Operand.tmp 5), type := 28, pos := "law.go:201", after := #[{ on := 29, ground := Ground.guard }], guard := some (29, false) }) (v := ?v30p) rfl (by kernel_rfl) (by kernel_rfl) (by kernel_rfl) (fun _ _ _ h => h) (Or.inl ⟨by rfl, ?y30p⟩) (by assumption) ?r30p
        case y30p => (intro x hx; obtain ⟨hx0, hx1⟩ := hx; go_simp; try with_reducible rfl)
        try simp only [Act.put, List.setIfInBounds_toArray, List.set_cons_zero, List.set_cons_succ]
        refine wpAnyH_take (i := 31) (oi := { dst := some 77, op := Op.move (Operand.tmp 6), type := 3, pos := "law.go:201", after := #[{ on := 29, ground := Ground.guard }], guard := some (29, false) }) (v := ?v31p) rfl (by kernel_rfl) (by kernel_rfl) (by kernel_rfl) (fun _ _ _ h => h) (Or.inl ⟨by rfl, ?y31p⟩) (by assumption) ?r31p
        case y31p => (intro x hx; obtain ⟨hx0, hx1⟩ := hx; go_simp; try with_reducible rfl)
        try simp only [Act.put, List.setIfInBounds_toArray, List.set_cons_zero, List.set_cons_succ]
        refine wpAnyH_take (i := 32) (oi := { dst := some 78, op := Op.indexAddr 28 (Operand.tmp 76) (Operand.tmp 77), type := 0, pos := "law.go:201", after := #[{ on := 30, ground := Ground.data }, { on := 31, ground := Ground.data }, { on := 29, ground := Ground.guard }], guard := some (29, false) }) (v := ?v32p) rfl (by kernel_rfl) (by kernel_rfl) (by kernel_rfl) (fun _ _ _ h => h) (Or.inl ⟨by rfl, ?y32p⟩) (by assumption) ?r32p
        case y32p => (intro x hx; obtain ⟨hx0, hx1⟩ := hx; go_simp; try with_reducible rfl)
        try simp only [Act.put, List.setIfInBounds_toArray, List.set_cons_zero, List.set_cons_succ]
        refine wpAnyH_take (i := 33) (oi := { dst := some 79, op := Op.fieldAddr 35 (Operand.tmp 78) 0, type := 0, pos := "law.go:201", after := #[{ on := 32, ground := Ground.data }, { on := 29, ground := Ground.guard }], guard := some (29, false) }) (v := ?v33p) rfl (by kernel_rfl) (by kernel_rfl) (by kernel_rfl) (fun _ _ _ h => h) (Or.inl ⟨by rfl, ?y33p⟩) (by assumption) ?r33p
        case y33p => (intro x hx; obtain ⟨hx0, hx1⟩ := hx; go_simp; try with_reducible rfl)
        try simp only [Act.put, List.setIfInBounds_toArray, List.set_cons_zero, List.set_cons_succ]
        refine wpAnyH_take (i := 34) (oi := { dst := some 80, op := Op.load 3 (Operand.tmp 79), type := 3, pos := "law.go:201", after := #[{ on := 33, ground := Ground.data }, { on := 29, ground := Ground.guard }], guard := some (29, false) }) (v := ?v34p) rfl (by kernel_rfl) (by kernel_rfl) (by kernel_rfl) (fun _ _ _ h => h) (Or.inl ⟨by rfl, ?y34p⟩) (by assumption) ?r34p
        case y34p => (intro x hx; obtain ⟨hx0, hx1⟩ := hx; go_simp; try with_reducible rfl)
        try simp only [Act.put, List.setIfInBounds_toArray, List.set_cons_zero, List.set_cons_succ]
        refine wpAnyH_ready (rs := [35]) (by kernel_rfl) (by simp) ?_
        refine AllReadyH.cons (o := { dst := some 81, op := Op.call { callee := Callee.value (Operand.func 27), args := #[Operand.tmp 80], argTypes := #[3] }, type := 4, pos := "law.go:201", after := #[{ on := 34, ground := Ground.data }, { on := 29, ground := Ground.chain }, { on := 29, ground := Ground.guard }], guard := some (29, false) }) rfl (fun K hK => ?_) AllReadyH.nil
        go_simp
        go_at_call 27
        refine (may_any (kk : Int) _).mono ?_
        rintro e u ⟨rfl, rfl⟩
        rw [HMAY.out]
        have hSnew := hHeld
        go_wp2_with fail
        refine hK.out _ _ hSnew (fun hHeld35 => ?_)
        clear hK K hSnew
        clear hHeld
        have hHeld := hHeld35
        clear hHeld35
        try simp only [Act.put, List.setIfInBounds_toArray, List.set_cons_zero, List.set_cons_succ]
        refine wpAnyH_take (i := 36) (oi := { dst := some 82, op := Op.unOp UnOp.not 4 (Operand.tmp 81), type := 4, pos := "law.go:201", after := #[{ on := 35, ground := Ground.data }, { on := 29, ground := Ground.guard }], guard := some (29, false) }) (v := ?v36p) rfl (by kernel_rfl) (by kernel_rfl) (by kernel_rfl) (fun _ _ _ h => h) (Or.inl ⟨by rfl, ?y36p⟩) (by assumption) ?r36p
        case y36p => (intro x hx; obtain ⟨hx0, hx1⟩ := hx; go_simp; try with_reducible rfl)
        try simp only [Act.put, List.setIfInBounds_toArray, List.set_cons_zero, List.set_cons_succ]
        refine wpAnyH_take (i := 37) (oi := { dst := some 83, op := Op.pick (Operand.tmp 75) (Operand.const (Value.bool true)) (Operand.tmp 82), type := 4, pos := "law.go:201", after := #[{ on := 29, ground := Ground.data }, { on := 36, ground := Ground.data }], guard := none }) (v := ?v37p) rfl (by kernel_rfl) (by kernel_rfl) (by kernel_rfl) (fun _ _ _ h => h) (Or.inl ⟨by rfl, ?y37p⟩) (by assumption) ?r37p
        case y37p => (intro x hx; obtain ⟨hx0, hx1⟩ := hx; go_simp; try with_reducible rfl)
        try simp only [Act.put, List.setIfInBounds_toArray, List.set_cons_zero, List.set_cons_succ]
        refine wpAnyH_done (by kernel_rfl) ?_ _
        go_wp2_with fail
        go_roundw
        case rel => exact ⟨0 + 1, by omega, by first | rfl | simp, B6.out.drew⟩
        case measure => (simp [intOf]; omega)
      | succ j =>
        obtain ⟨q, hqk, hqc⟩ := XP.out j rfl
        have z2 := hqc u6 B6.out
        have dq : ¬ ((kk : Int) ≤ q) := by omega
        have d0 : (0 : Int) < (j : Int) + 1 := by omega
        have dc1 : (j : Int) + 1 < (N : Int) := by omega
        have dc2 : (0 : Int) ≤ (j : Int) + 1 := by omega
        have dc3 : (j : Int) < (N : Int) := by omega
        have wj2 : IntKind.i64.wrap ((j : Int) + 1 + 1) = (j : Int) + 1 + 1 := by have := HN6.out; rw [IntKind.wrap_i64]; omega
        have d01 : decide ((0 : Int) < (j : Int) + 1) = true := decide_eq_true d0
        have wj : IntKind.i64.wrap (j : Int) = (j : Int) := by have := HN6.out; rw [IntKind.wrap_i64]; omega
        clear hqc hqk
        refine wp_region_held_drew (S := (fun x => x.cell? ⟨g, (j + 1) * 2, none⟩ = some (.int .i64 (kk : Int)) ∧ x.cell? ⟨g, (j + 1) * 2 + 1, none⟩ = some (.int .i64 pv) ∧ x.cell? ⟨g, j * 2, none⟩ = some (.int .i64 q))) (by kernel_rfl) (⟨z0, z1, z2⟩) (fun hHeld => ?_)
        refine wpAnyH_take (i := 0) (oi := { dst := some 46, op := Op.move (Operand.tmp 8), type := 4, pos := "law.go:201", after := #[], guard := none }) (v := ?v0r) rfl (by kernel_rfl) (by kernel_rfl) (by kernel_rfl) (fun _ _ _ h => h) (Or.inl ⟨by rfl, ?y0r⟩) (by assumption) ?r0r
        case y0r => (intro x hx; obtain ⟨hx0, hx1, hx2⟩ := hx; go_simp; try with_reducible rfl)
        try simp only [Act.put, List.setIfInBounds_toArray, List.set_cons_zero, List.set_cons_succ]
        refine wpAnyH_take (i := 1) (oi := { dst := some 47, op := Op.unOp UnOp.not 4 (Operand.tmp 46), type := 4, pos := "law.go:201", after := #[{ on := 0, ground := Ground.data }], guard := none }) (v := ?v1r) rfl (by kernel_rfl) (by kernel_rfl) (by kernel_rfl) (fun _ _ _ h => h) (Or.inl ⟨by rfl, ?y1r⟩) (by assumption) ?r1r
        case y1r => (intro x hx; obtain ⟨hx0, hx1, hx2⟩ := hx; go_simp; try with_reducible rfl)
        try simp only [Act.put, List.setIfInBounds_toArray, List.set_cons_zero, List.set_cons_succ]
        refine wpAnyH_take (i := 2) (oi := { dst := some 48, op := Op.move (Operand.tmp 47), type := 4, pos := "law.go:201", after := #[{ on := 1, ground := Ground.data }], guard := none }) (v := ?v2r) rfl (by kernel_rfl) (by kernel_rfl) (by kernel_rfl) (fun _ _ _ h => h) (Or.inl ⟨by rfl, ?y2r⟩) (by assumption) ?r2r
        case y2r => (intro x hx; obtain ⟨hx0, hx1, hx2⟩ := hx; go_simp; try with_reducible rfl)
        try simp only [Act.put, List.setIfInBounds_toArray, List.set_cons_zero, List.set_cons_succ]
        refine wpAnyH_take (i := 3) (oi := { dst := some 49, op := Op.move (Operand.tmp 7), type := 3, pos := "law.go:201", after := #[{ on := 2, ground := Ground.guard }], guard := some (2, false) }) (v := ?v3r) rfl (by kernel_rfl) (by kernel_rfl) (by kernel_rfl) (fun _ _ _ h => h) (Or.inl ⟨by rfl, ?y3r⟩) (by assumption) ?r3r
        case y3r => (intro x hx; obtain ⟨hx0, hx1, hx2⟩ := hx; go_simp; try with_reducible rfl)
        try simp only [Act.put, List.setIfInBounds_toArray, List.set_cons_zero, List.set_cons_succ]
        refine wpAnyH_take (i := 4) (oi := { dst := some 50, op := Op.move (Operand.tmp 5), type := 28, pos := "law.go:201", after := #[{ on := 2, ground := Ground.guard }], guard := some (2, false) }) (v := ?v4r) rfl (by kernel_rfl) (by kernel_rfl) (by kernel_rfl) (fun _ _ _ h => h) (Or.inl ⟨by rfl, ?y4r⟩) (by assumption) ?r4r
        case y4r => (intro x hx; obtain ⟨hx0, hx1, hx2⟩ := hx; go_simp; try with_reducible rfl)
        try simp only [Act.put, List.setIfInBounds_toArray, List.set_cons_zero, List.set_cons_succ]
        refine wpAnyH_take (i := 5) (oi := { dst := some 51, op := Op.move (Operand.tmp 6), type := 3, pos := "law.go:201", after := #[{ on := 2, ground := Ground.guard }], guard := some (2, false) }) (v := ?v5r) rfl (by kernel_rfl) (by kernel_rfl) (by kernel_rfl) (fun _ _ _ h => h) (Or.inl ⟨by rfl, ?y5r⟩) (by assumption) ?r5r
        case y5r => (intro x hx; obtain ⟨hx0, hx1, hx2⟩ := hx; go_simp; try with_reducible rfl)
        try simp only [Act.put, List.setIfInBounds_toArray, List.set_cons_zero, List.set_cons_succ]
        refine wpAnyH_take (i := 6) (oi := { dst := some 52, op := Op.indexAddr 28 (Operand.tmp 50) (Operand.tmp 51), type := 0, pos := "law.go:201", after := #[{ on := 4, ground := Ground.data }, { on := 5, ground := Ground.data }, { on := 2, ground := Ground.guard }], guard := some (2, false) }) (v := ?v6r) rfl (by kernel_rfl) (by kernel_rfl) (by kernel_rfl) (fun _ _ _ h => h) (Or.inl ⟨by rfl, ?y6r⟩) (by assumption) ?r6r
        case y6r => (intro x hx; obtain ⟨hx0, hx1, hx2⟩ := hx; go_simp; try with_reducible rfl)
        try simp only [Act.put, List.setIfInBounds_toArray, List.set_cons_zero, List.set_cons_succ]
        refine wpAnyH_take (i := 7) (oi := { dst := some 53, op := Op.fieldAddr 35 (Operand.tmp 52) 1, type := 0, pos := "law.go:201", after := #[{ on := 6, ground := Ground.data }, { on := 2, ground := Ground.guard }], guard := some (2, false) }) (v := ?v7r) rfl (by kernel_rfl) (by kernel_rfl) (by kernel_rfl) (fun _ _ _ h => h) (Or.inl ⟨by rfl, ?y7r⟩) (by assumption) ?r7r
        case y7r => (intro x hx; obtain ⟨hx0, hx1, hx2⟩ := hx; go_simp; try with_reducible rfl)
        try simp only [Act.put, List.setIfInBounds_toArray, List.set_cons_zero, List.set_cons_succ]
        refine wpAnyH_take (i := 8) (oi := { dst := some 54, op := Op.load 3 (Operand.tmp 53), type := 3, pos := "law.go:201", after := #[{ on := 7, ground := Ground.data }, { on := 2, ground := Ground.guard }], guard := some (2, false) }) (v := ?v8r) rfl (by kernel_rfl) (by kernel_rfl) (by kernel_rfl) (fun _ _ _ h => h) (Or.inl ⟨by rfl, ?y8r⟩) (by assumption) ?r8r
        case y8r => (intro x hx; obtain ⟨hx0, hx1, hx2⟩ := hx; go_simp; try with_reducible rfl)
        try simp only [Act.put, List.setIfInBounds_toArray, List.set_cons_zero, List.set_cons_succ]
        refine wpAnyH_take (i := 9) (oi := { dst := some 55, op := Op.binOp BinOp.neq 3 (Operand.tmp 49) (Operand.tmp 54) 3, type := 4, pos := "law.go:201", after := #[{ on := 3, ground := Ground.data }, { on := 8, ground := Ground.data }, { on := 2, ground := Ground.guard }], guard := some (2, false) }) (v := ?v9r) rfl (by kernel_rfl) (by kernel_rfl) (by kernel_rfl) (fun _ _ _ h => h) (Or.inl ⟨by rfl, ?y9r⟩) (by assumption) ?r9r
        case y9r => (intro x hx; obtain ⟨hx0, hx1, hx2⟩ := hx; go_simp; try with_reducible rfl)
        try simp only [Act.put, List.setIfInBounds_toArray, List.set_cons_zero, List.set_cons_succ]
        refine wpAnyH_take (i := 10) (oi := { dst := some 56, op := Op.pick (Operand.tmp 48) (Operand.const (Value.bool true)) (Operand.tmp 55), type := 4, pos := "law.go:201", after := #[{ on := 2, ground := Ground.data }, { on := 9, ground := Ground.data }], guard := none }) (v := ?v10r) rfl (by kernel_rfl) (by kernel_rfl) (by kernel_rfl) (fun _ _ _ h => h) (Or.inl ⟨by rfl, ?y10r⟩) (by assumption) ?r10r
        case y10r => (intro x hx; obtain ⟨hx0, hx1, hx2⟩ := hx; go_simp; try with_reducible rfl)
        try simp only [Act.put, List.setIfInBounds_toArray, List.set_cons_zero, List.set_cons_succ]
        refine wpAnyH_take (i := 11) (oi := { dst := some 57, op := Op.move (Operand.tmp 56), type := 4, pos := "law.go:201", after := #[{ on := 10, ground := Ground.data }, { on := 2, ground := Ground.chain }], guard := none }) (v := ?v11r) rfl (by kernel_rfl) (by kernel_rfl) (by kernel_rfl) (fun _ _ _ h => h) (Or.inl ⟨by rfl, ?y11r⟩) (by assumption) ?r11r
        case y11r => (intro x hx; obtain ⟨hx0, hx1, hx2⟩ := hx; go_simp; try with_reducible rfl)
        try simp only [Act.put, List.setIfInBounds_toArray, List.set_cons_zero, List.set_cons_succ]
        refine wpAnyH_take (i := 12) (oi := { dst := some 58, op := Op.move (Operand.tmp 6), type := 3, pos := "law.go:201", after := #[{ on := 11, ground := Ground.guard }], guard := some (11, false) }) (v := ?v12r) rfl (by kernel_rfl) (by kernel_rfl) (by kernel_rfl) (fun _ _ _ h => h) (Or.inl ⟨by rfl, ?y12r⟩) (by assumption) ?r12r
        case y12r => (intro x hx; obtain ⟨hx0, hx1, hx2⟩ := hx; go_simp; try with_reducible rfl)
        try simp only [Act.put, List.setIfInBounds_toArray, List.set_cons_zero, List.set_cons_succ]
        refine wpAnyH_take (i := 13) (oi := { dst := some 59, op := Op.binOp BinOp.gtr 3 (Operand.tmp 58) (Operand.const (Value.int IntKind.i64 0)) 3, type := 4, pos := "law.go:201", after := #[{ on := 12, ground := Ground.data }, { on := 11, ground := Ground.guard }], guard := some (11, false) }) (v := ?v13r) rfl (by kernel_rfl) (by kernel_rfl) (by kernel_rfl) (fun _ _ _ h => h) (Or.inl ⟨by rfl, ?y13r⟩) (by assumption) ?r13r
        case y13r => (intro x hx; obtain ⟨hx0, hx1, hx2⟩ := hx; go_simp; try with_reducible rfl)
        try simp only [Act.put, List.setIfInBounds_toArray, List.set_cons_zero, List.set_cons_succ]
        refine wpAnyH_take (i := 14) (oi := { dst := some 60, op := Op.move (Operand.tmp 59), type := 4, pos := "law.go:201", after := #[{ on := 13, ground := Ground.data }, { on := 11, ground := Ground.chain }, { on := 11, ground := Ground.guard }], guard := some (11, false) }) (v := ?v14r) rfl (by kernel_rfl) (by kernel_rfl) (by kernel_rfl) (fun _ _ _ h => h) (Or.inl ⟨by rfl, ?y14r⟩) (by assumption) ?r14r
        case y14r => (intro x hx; obtain ⟨hx0, hx1, hx2⟩ := hx; go_simp; try with_reducible rfl)
        try simp only [Act.put, List.setIfInBounds_toArray, List.set_cons_zero, List.set_cons_succ]
        refine wpAnyH_take (i := 15) (oi := { dst := some 61, op := Op.move (Operand.tmp 5), type := 28, pos := "law.go:201", after := #[{ on := 14, ground := Ground.guard }], guard := some (14, true) }) (v := ?v15r) rfl (by kernel_rfl) (by kernel_rfl) (by kernel_rfl) (fun _ _ _ h => h) (Or.inl ⟨by rfl, ?y15r⟩) (by assumption) ?r15r
        case y15r => (intro x hx; obtain ⟨hx0, hx1, hx2⟩ := hx; go_simp; try with_reducible rfl)
        try simp only [Act.put, List.setIfInBounds_toArray, List.set_cons_zero, List.set_cons_succ]
        refine wpAnyH_take (i := 16) (oi := { dst := some 62, op := Op.move (Operand.tmp 6), type := 3, pos := "law.go:201", after := #[{ on := 14, ground := Ground.guard }], guard := some (14, true) }) (v := ?v16r) rfl (by kernel_rfl) (by kernel_rfl) (by kernel_rfl) (fun _ _ _ h => h) (Or.inl ⟨by rfl, ?y16r⟩) (by assumption) ?r16r
        case y16r => (intro x hx; obtain ⟨hx0, hx1, hx2⟩ := hx; go_simp; try with_reducible rfl)
        try simp only [Act.put, List.setIfInBounds_toArray, List.set_cons_zero, List.set_cons_succ]
        refine wpAnyH_take (i := 17) (oi := { dst := some 63, op := Op.indexAddr 28 (Operand.tmp 61) (Operand.tmp 62), type := 0, pos := "law.go:201", after := #[{ on := 15, ground := Ground.data }, { on := 16, ground := Ground.data }, { on := 14, ground := Ground.guard }], guard := some (14, true) }) (v := ?v17r) rfl (by kernel_rfl) (by kernel_rfl) (by kernel_rfl) (fun _ _ _ h => h) (Or.inl ⟨by rfl, ?y17r⟩) (by assumption) ?r17r
        case y17r => (intro x hx; obtain ⟨hx0, hx1, hx2⟩ := hx; go_simp; try with_reducible rfl)
        try simp only [Act.put, List.setIfInBounds_toArray, List.set_cons_zero, List.set_cons_succ]
        refine wpAnyH_take (i := 18) (oi := { dst := some 64, op := Op.fieldAddr 35 (Operand.tmp 63) 0, type := 0, pos := "law.go:201", after := #[{ on := 17, ground := Ground.data }, { on := 14, ground := Ground.guard }], guard := some (14, true) }) (v := ?v18r) rfl (by kernel_rfl) (by kernel_rfl) (by kernel_rfl) (fun _ _ _ h => h) (Or.inl ⟨by rfl, ?y18r⟩) (by assumption) ?r18r
        case y18r => (intro x hx; obtain ⟨hx0, hx1, hx2⟩ := hx; go_simp; try with_reducible rfl)
        try simp only [Act.put, List.setIfInBounds_toArray, List.set_cons_zero, List.set_cons_succ]
        refine wpAnyH_take (i := 19) (oi := { dst := some 65, op := Op.load 3 (Operand.tmp 64), type := 3, pos := "law.go:201", after := #[{ on := 18, ground := Ground.data }, { on := 14, ground := Ground.guard }], guard := some (14, true) }) (v := ?v19r) rfl (by kernel_rfl) (by kernel_rfl) (by kernel_rfl) (fun _ _ _ h => h) (Or.inl ⟨by rfl, ?y19r⟩) (by assumption) ?r19r
        case y19r => (intro x hx; obtain ⟨hx0, hx1, hx2⟩ := hx; go_simp; try with_reducible rfl)
        try simp only [Act.put, List.setIfInBounds_toArray, List.set_cons_zero, List.set_cons_succ]
        refine wpAnyH_take (i := 20) (oi := { dst := some 66, op := Op.move (Operand.tmp 5), type := 28, pos := "law.go:201", after := #[{ on := 14, ground := Ground.guard }], guard := some (14, true) }) (v := ?v20r) rfl (by kernel_rfl) (by kernel_rfl) (by kernel_rfl) (fun _ _ _ h => h) (Or.inl ⟨by rfl, ?y20r⟩) (by assumption) ?r20r
        case y20r => (intro x hx; obtain ⟨hx0, hx1, hx2⟩ := hx; go_simp; try with_reducible rfl)
        try simp only [Act.put, List.setIfInBounds_toArray, List.set_cons_zero, List.set_cons_succ]
        refine wpAnyH_take (i := 21) (oi := { dst := some 67, op := Op.move (Operand.tmp 6), type := 3, pos := "law.go:201", after := #[{ on := 14, ground := Ground.guard }], guard := some (14, true) }) (v := ?v21r) rfl (by kernel_rfl) (by kernel_rfl) (by kernel_rfl) (fun _ _ _ h => h) (Or.inl ⟨by rfl, ?y21r⟩) (by assumption) ?r21r
        case y21r => (intro x hx; obtain ⟨hx0, hx1, hx2⟩ := hx; go_simp; try with_reducible rfl)
        try simp only [Act.put, List.setIfInBounds_toArray, List.set_cons_zero, List.set_cons_succ]
        refine wpAnyH_take (i := 22) (oi := { dst := some 68, op := Op.binOp BinOp.sub 3 (Operand.tmp 67) (Operand.const (Value.int IntKind.i64 1)) 3, type := 3, pos := "law.go:201", after := #[{ on := 21, ground := Ground.data }, { on := 14, ground := Ground.guard }], guard := some (14, true) }) (v := ?v22r) rfl (by kernel_rfl) (by kernel_rfl) (by kernel_rfl) (fun _ _ _ h => h) (Or.inl ⟨by rfl, ?y22r⟩) (by assumption) ?r22r
        case y22r => (intro x hx; obtain ⟨hx0, hx1, hx2⟩ := hx; go_simp; try with_reducible rfl)
        try simp only [Act.put, List.setIfInBounds_toArray, List.set_cons_zero, List.set_cons_succ]
        refine wpAnyH_take (i := 23) (oi := { dst := some 69, op := Op.indexAddr 28 (Operand.tmp 66) (Operand.tmp 68), type := 0, pos := "law.go:201", after := #[{ on := 20, ground := Ground.data }, { on := 22, ground := Ground.data }, { on := 14, ground := Ground.guard }], guard := some (14, true) }) (v := ?v23r) rfl (by kernel_rfl) (by kernel_rfl) (by kernel_rfl) (fun _ _ _ h => h) (Or.inl ⟨by rfl, ?y23r⟩) (by assumption) ?r23r
        case y23r => (intro x hx; obtain ⟨hx0, hx1, hx2⟩ := hx; go_simp; try with_reducible rfl)
        try simp only [Act.put, List.setIfInBounds_toArray, List.set_cons_zero, List.set_cons_succ]
        refine wpAnyH_take (i := 24) (oi := { dst := some 70, op := Op.fieldAddr 35 (Operand.tmp 69) 0, type := 0, pos := "law.go:201", after := #[{ on := 23, ground := Ground.data }, { on := 14, ground := Ground.guard }], guard := some (14, true) }) (v := ?v24r) rfl (by kernel_rfl) (by kernel_rfl) (by kernel_rfl) (fun _ _ _ h => h) (Or.inl ⟨by rfl, ?y24r⟩) (by assumption) ?r24r
        case y24r => (intro x hx; obtain ⟨hx0, hx1, hx2⟩ := hx; go_simp; try with_reducible rfl)
        try simp only [Act.put, List.setIfInBounds_toArray, List.set_cons_zero, List.set_cons_succ]
        refine wpAnyH_take (i := 25) (oi := { dst := some 71, op := Op.load 3 (Operand.tmp 70), type := 3, pos := "law.go:201", after := #[{ on := 24, ground := Ground.data }, { on := 14, ground := Ground.guard }], guard := some (14, true) }) (v := ?v25r) rfl (by kernel_rfl) (by kernel_rfl) (by kernel_rfl) (fun _ _ _ h => h) (Or.inl ⟨by rfl, ?y25r⟩) (by assumption) ?r25r
        case y25r => (intro x hx; obtain ⟨hx0, hx1, hx2⟩ := hx; go_simp; try with_reducible rfl)
        try simp only [Act.put, List.setIfInBounds_toArray, List.set_cons_zero, List.set_cons_succ]
        refine wpAnyH_take (i := 26) (oi := { dst := some 72, op := Op.binOp BinOp.leq 3 (Operand.tmp 65) (Operand.tmp 71) 3, type := 4, pos := "law.go:201", after := #[{ on := 19, ground := Ground.data }, { on := 25, ground := Ground.data }, { on := 14, ground := Ground.guard }], guard := some (14, true) }) (v := ?v26r) rfl (by kernel_rfl) (by kernel_rfl) (by kernel_rfl) (fun _ _ _ h => h) (Or.inl ⟨by rfl, ?y26r⟩) (by assumption) ?r26r
        case y26r => (intro x hx; obtain ⟨hx0, hx1, hx2⟩ := hx; go_simp; try with_reducible rfl)
        try simp only [Act.put, List.setIfInBounds_toArray, List.set_cons_zero, List.set_cons_succ]
        refine wpAnyH_take (i := 27) (oi := { dst := some 73, op := Op.pick (Operand.tmp 60) (Operand.tmp 72) (Operand.const (Value.bool false)), type := 4, pos := "law.go:201", after := #[{ on := 14, ground := Ground.data }, { on := 26, ground := Ground.data }, { on := 11, ground := Ground.guard }], guard := some (11, false) }) (v := ?v27r) rfl (by kernel_rfl) (by kernel_rfl) (by kernel_rfl) (fun _ _ _ h => h) (Or.inl ⟨by rfl, ?y27r⟩) (by assumption) ?r27r
        case y27r => (intro x hx; obtain ⟨hx0, hx1, hx2⟩ := hx; go_simp; try with_reducible rfl)
        try simp only [Act.put, List.setIfInBounds_toArray, List.set_cons_zero, List.set_cons_succ]
        refine wpAnyH_take (i := 28) (oi := { dst := some 74, op := Op.pick (Operand.tmp 57) (Operand.const (Value.bool true)) (Operand.tmp 73), type := 4, pos := "law.go:201", after := #[{ on := 11, ground := Ground.data }, { on := 27, ground := Ground.data }], guard := none }) (v := ?v28r) rfl (by kernel_rfl) (by kernel_rfl) (by kernel_rfl) (fun _ _ _ h => h) (Or.inl ⟨by rfl, ?y28r⟩) (by assumption) ?r28r
        case y28r => (intro x hx; obtain ⟨hx0, hx1, hx2⟩ := hx; go_simp; try with_reducible rfl)
        try simp only [Act.put, List.setIfInBounds_toArray, List.set_cons_zero, List.set_cons_succ]
        refine wpAnyH_take (i := 29) (oi := { dst := some 75, op := Op.move (Operand.tmp 74), type := 4, pos := "law.go:201", after := #[{ on := 28, ground := Ground.data }, { on := 14, ground := Ground.chain }], guard := none }) (v := ?v29r) rfl (by kernel_rfl) (by kernel_rfl) (by kernel_rfl) (fun _ _ _ h => h) (Or.inl ⟨by rfl, ?y29r⟩) (by assumption) ?r29r
        case y29r => (intro x hx; obtain ⟨hx0, hx1, hx2⟩ := hx; go_simp; try with_reducible rfl)
        try simp only [Act.put, List.setIfInBounds_toArray, List.set_cons_zero, List.set_cons_succ]
        refine wpAnyH_take (i := 30) (oi := { dst := some 76, op := Op.move (Operand.tmp 5), type := 28, pos := "law.go:201", after := #[{ on := 29, ground := Ground.guard }], guard := some (29, false) }) (v := ?v30r) rfl (by kernel_rfl) (by kernel_rfl) (by kernel_rfl) (fun _ _ _ h => h) (Or.inl ⟨by rfl, ?y30r⟩) (by assumption) ?r30r
        case y30r => (intro x hx; obtain ⟨hx0, hx1, hx2⟩ := hx; go_simp; try with_reducible rfl)
        try simp only [Act.put, List.setIfInBounds_toArray, List.set_cons_zero, List.set_cons_succ]
        refine wpAnyH_take (i := 31) (oi := { dst := some 77, op := Op.move (Operand.tmp 6), type := 3, pos := "law.go:201", after := #[{ on := 29, ground := Ground.guard }], guard := some (29, false) }) (v := ?v31r) rfl (by kernel_rfl) (by kernel_rfl) (by kernel_rfl) (fun _ _ _ h => h) (Or.inl ⟨by rfl, ?y31r⟩) (by assumption) ?r31r
        case y31r => (intro x hx; obtain ⟨hx0, hx1, hx2⟩ := hx; go_simp; try with_reducible rfl)
        try simp only [Act.put, List.setIfInBounds_toArray, List.set_cons_zero, List.set_cons_succ]
        refine wpAnyH_take (i := 32) (oi := { dst := some 78, op := Op.indexAddr 28 (Operand.tmp 76) (Operand.tmp 77), type := 0, pos := "law.go:201", after := #[{ on := 30, ground := Ground.data }, { on := 31, ground := Ground.data }, { on := 29, ground := Ground.guard }], guard := some (29, false) }) (v := ?v32r) rfl (by kernel_rfl) (by kernel_rfl) (by kernel_rfl) (fun _ _ _ h => h) (Or.inl ⟨by rfl, ?y32r⟩) (by assumption) ?r32r
        case y32r => (intro x hx; obtain ⟨hx0, hx1, hx2⟩ := hx; go_simp; try with_reducible rfl)
        try simp only [Act.put, List.setIfInBounds_toArray, List.set_cons_zero, List.set_cons_succ]
        refine wpAnyH_take (i := 33) (oi := { dst := some 79, op := Op.fieldAddr 35 (Operand.tmp 78) 0, type := 0, pos := "law.go:201", after := #[{ on := 32, ground := Ground.data }, { on := 29, ground := Ground.guard }], guard := some (29, false) }) (v := ?v33r) rfl (by kernel_rfl) (by kernel_rfl) (by kernel_rfl) (fun _ _ _ h => h) (Or.inl ⟨by rfl, ?y33r⟩) (by assumption) ?r33r
        case y33r => (intro x hx; obtain ⟨hx0, hx1, hx2⟩ := hx; go_simp; try with_reducible rfl)
        try simp only [Act.put, List.setIfInBounds_toArray, List.set_cons_zero, List.set_cons_succ]
        refine wpAnyH_take (i := 34) (oi := { dst := some 80, op := Op.load 3 (Operand.tmp 79), type := 3, pos := "law.go:201", after := #[{ on := 33, ground := Ground.data }, { on := 29, ground := Ground.guard }], guard := some (29, false) }) (v := ?v34r) rfl (by kernel_rfl) (by kernel_rfl) (by kernel_rfl) (fun _ _ _ h => h) (Or.inl ⟨by rfl, ?y34r⟩) (by assumption) ?r34r
        case y34r => (intro x hx; obtain ⟨hx0, hx1, hx2⟩ := hx; go_simp; try with_reducible rfl)
        try simp only [Act.put, List.setIfInBounds_toArray, List.set_cons_zero, List.set_cons_succ]
        refine wpAnyH_ready (rs := [35]) (by kernel_rfl) (by simp) ?_
        refine AllReadyH.cons (o := { dst := some 81, op := Op.call { callee := Callee.value (Operand.func 27), args := #[Operand.tmp 80], argTypes := #[3] }, type := 4, pos := "law.go:201", after := #[{ on := 34, ground := Ground.data }, { on := 29, ground := Ground.chain }, { on := 29, ground := Ground.guard }], guard := some (29, false) }) rfl (fun K hK => ?_) AllReadyH.nil
        go_simp
        go_at_call 27
        refine (may_any (kk : Int) _).mono ?_
        rintro e u ⟨rfl, rfl⟩
        rw [HMAY.out]
        have hSnew := hHeld
        go_wp2_with fail
        refine hK.out _ _ hSnew (fun hHeld35 => ?_)
        clear hK K hSnew
        clear hHeld
        have hHeld := hHeld35
        clear hHeld35
        try simp only [Act.put, List.setIfInBounds_toArray, List.set_cons_zero, List.set_cons_succ]
        refine wpAnyH_take (i := 36) (oi := { dst := some 82, op := Op.unOp UnOp.not 4 (Operand.tmp 81), type := 4, pos := "law.go:201", after := #[{ on := 35, ground := Ground.data }, { on := 29, ground := Ground.guard }], guard := some (29, false) }) (v := ?v36r) rfl (by kernel_rfl) (by kernel_rfl) (by kernel_rfl) (fun _ _ _ h => h) (Or.inl ⟨by rfl, ?y36r⟩) (by assumption) ?r36r
        case y36r => (intro x hx; obtain ⟨hx0, hx1, hx2⟩ := hx; go_simp; try with_reducible rfl)
        try simp only [Act.put, List.setIfInBounds_toArray, List.set_cons_zero, List.set_cons_succ]
        refine wpAnyH_take (i := 37) (oi := { dst := some 83, op := Op.pick (Operand.tmp 75) (Operand.const (Value.bool true)) (Operand.tmp 82), type := 4, pos := "law.go:201", after := #[{ on := 29, ground := Ground.data }, { on := 36, ground := Ground.data }], guard := none }) (v := ?v37r) rfl (by kernel_rfl) (by kernel_rfl) (by kernel_rfl) (fun _ _ _ h => h) (Or.inl ⟨by rfl, ?y37r⟩) (by assumption) ?r37r
        case y37r => (intro x hx; obtain ⟨hx0, hx1, hx2⟩ := hx; go_simp; try with_reducible rfl)
        try simp only [Act.put, List.setIfInBounds_toArray, List.set_cons_zero, List.set_cons_succ]
        refine wpAnyH_done (by kernel_rfl) ?_ _
        go_wp2_with fail
        go_roundw
        case rel => exact ⟨j + 1 + 1, by omega, by first | rfl | simp, B6.out.drew⟩
        case measure => (simp [intOf]; omega)
    · have dc : ¬ ((i : Int) < (N : Int)) := by omega
      go_wp2_with fail
      go_ret
      exact ⟨rfl, B3.out.trans (HB.out.mono B3.out.size)⟩
end Go.Proofs.Ytjginocbbnmgaaa
