/-
  SEAT YtnjcjaaciphcgaaDoor: the reference's Show.
-/
import Derived.Test.YtnjcjaaciphcgaaDoorUc
namespace Go.Proofs.YtnjcjaaciphcgaaDoor
open Go.RowKit Go.Sort Go.Lib
set_option linter.unusedVariables false

def wordB (k : Int) : List UInt8 := if 1 ≤ k ∧ k < 10 then kw k.toNat else []
theorem word_cells (w : World) (u : Nat) (h : u < 10) : (w.alloc (.cells #[.string ⟨#[]⟩, .string ⟨#[98, 114, 111, 107, 101, 110]⟩, .string ⟨#[102, 105, 120, 101, 100]⟩, .string ⟨#[115, 116, 97, 108, 101]⟩, .string ⟨#[114, 101, 102, 117, 115, 101, 100]⟩, .string ⟨#[112, 104, 97, 110, 116, 111, 109]⟩, .string ⟨#[108, 111, 115, 116]⟩, .string ⟨#[116, 119, 105, 99, 101]⟩, .string ⟨#[117, 110, 108, 105, 110, 107, 101, 100]⟩, .string ⟨#[98, 97, 100]⟩] 9)).cell? ⟨w.heap.size, u, none⟩ = some (.string ⟨(kw u).toArray⟩) := by
  have h9 := heap_alloc_new w (.cells #[.string ⟨#[]⟩, .string ⟨#[98, 114, 111, 107, 101, 110]⟩, .string ⟨#[102, 105, 120, 101, 100]⟩, .string ⟨#[115, 116, 97, 108, 101]⟩, .string ⟨#[114, 101, 102, 117, 115, 101, 100]⟩, .string ⟨#[112, 104, 97, 110, 116, 111, 109]⟩, .string ⟨#[108, 111, 115, 116]⟩, .string ⟨#[116, 119, 105, 99, 101]⟩, .string ⟨#[117, 110, 108, 105, 110, 107, 101, 100]⟩, .string ⟨#[98, 97, 100]⟩] 9)
  simp only [World.cell?, h9]
  match u, h with
  | 0, _ => rfl
  | 1, _ => rfl
  | 2, _ => rfl
  | 3, _ => rfl
  | 4, _ => rfl
  | 5, _ => rfl
  | 6, _ => rfl
  | 7, _ => rfl
  | 8, _ => rfl
  | 9, _ => rfl

set_option maxRecDepth 100000 in
theorem word_any (k : Int) (hk : In k) (w : World) : Calls Tryd.prog 36 #[.int .i64 k] w fun e w' => e = .returned (.string ⟨(wordB k).toArray⟩) ∧ Below w.heap.size w w' := by
  by_cases h1 : k < 1
  · have HK : Hid (wordB k = []) := by unfold Hid wordB; rw [if_neg (by omega)]
    go_enter Tryd.func36, Tryd.ntmps36
    go_wp2_with fail
    go_ret
    exact ⟨by rw [HK.out]; rfl, below_alloc' w _⟩
  · by_cases h2 : 9 < k
    · have HK : Hid (wordB k = []) := by unfold Hid wordB; rw [if_neg (by omega)]
      go_enter Tryd.func36, Tryd.ntmps36
      go_wp2_with fail
      go_ret
      exact ⟨by rw [HK.out]; rfl, below_alloc' w _⟩
    · obtain ⟨u, rfl⟩ := Int.eq_ofNat_of_zero_le (show 0 ≤ k by omega)
      have HK : Hid (wordB (u : Int) = kw u) := by unfold Hid wordB; rw [if_pos (by omega), Int.toNat_natCast]
      have hc := word_cells w u (by omega)
      have d1 : (u : Int) < 10 := by omega
      go_enter Tryd.func36, Tryd.ntmps36
      go_wp2_with fail
      go_ret
      exact ⟨by rw [HK.out]; rfl, below_alloc' w _⟩

theorem kw_ne (u : Nat) (h1 : 1 ≤ u) (h2 : u < 10) : kw u ≠ [] := by
  match u, h1, h2 with
  | 1, _, _ => simp [kw]
  | 2, _, _ => simp [kw]
  | 3, _, _ => simp [kw]
  | 4, _, _ => simp [kw]
  | 5, _, _ => simp [kw]
  | 6, _, _ => simp [kw]
  | 7, _, _ => simp [kw]
  | 8, _, _ => simp [kw]
  | 9, _, _ => simp [kw]
theorem emp_ne {x : List UInt8} (h : x ≠ []) : x.isEmpty = false := by
  cases x with
  | nil => exact absurd rfl h
  | cons a r => rfl

set_option maxHeartbeats 4000000 in
set_option maxRecDepth 100000 in
theorem row_any (f : Fd) (hf : f.Ok) (w : World) (ht : P10 w) : Calls Tryd.prog 23 #[.agg #[.int .i64 f.k, .int .i64 f.b, .int .i64 f.p, .int .i64 f.o]] w fun e w' => e = .returned (.string ⟨(rowB f).toArray⟩) ∧ Below w.heap.size w w' := by
  obtain ⟨k0, b0, p0, o0⟩ := f
  obtain ⟨hk0, hb0, hp0, ho0⟩ := hf
  simp only at hk0 hb0 hp0 ho0 ⊢
  have HT : Hid (P10 w) := ht
  have HB0 : Hid (Below w.heap.size w (w.alloc (.cells #[.int .i64 k0, .int .i64 b0, .int .i64 p0, .int .i64 o0] 29))) := below_alloc' w _
  have HF0 : Hid ((w.alloc (.cells #[.int .i64 k0, .int .i64 b0, .int .i64 p0, .int .i64 o0] 29)).heap[w.heap.size]? = some (.cells #[.int .i64 k0, .int .i64 b0, .int .i64 p0, .int .i64 o0] 29 (0, 0))) := heap_alloc_new w _
  clear ht
  obtain ⟨K0, hK0⟩ : ∃ K0, kindB k0 = K0 := ⟨_, rfl⟩
  obtain ⟨B0, hB0⟩ : ∃ B0, Lib.itoa b0 = B0 := ⟨_, rfl⟩
  obtain ⟨P0, hP0⟩ : ∃ P0, Lib.itoa p0 = P0 := ⟨_, rfl⟩
  obtain ⟨O0, hO0⟩ : ∃ O0, Lib.itoa o0 = O0 := ⟨_, rfl⟩
  have lK : K0.length ≤ 21 := by rw [← hK0]; exact kind_len k0 hk0
  have lB : B0.length ≤ 21 := by rw [← hB0]; exact itoa_len b0 hb0
  have lP : P0.length ≤ 21 := by rw [← hP0]; exact itoa_len p0 hp0
  have lO : O0.length ≤ 21 := by rw [← hO0]; exact itoa_len o0 ho0
  have HKK : Hid (kindB k0 = K0) := hK0
  have HIB : Hid (Lib.itoa b0 = B0) := hB0
  have HIP : Hid (Lib.itoa p0 = P0) := hP0
  have HIO : Hid (Lib.itoa o0 = O0) := hO0
  obtain ⟨L1, hL1⟩ : ∃ L1, K0 ++ [32] = L1 := ⟨_, rfl⟩
  have l1 : L1.length = K0.length + ([32] : List UInt8).length := by rw [← hL1, List.length_append]
  have ea1 : ((⟨K0.toArray⟩ : ByteArray) ++ (⟨#[32]⟩ : ByteArray)) = ⟨L1.toArray⟩ := by rw [← hL1]; exact str_add K0 [32]
  have cc1 : ¬ 9223372036854775807 < K0.length + 1 := by simp only [List.length_cons, List.length_nil] at *; omega
  obtain ⟨L2, hL2⟩ : ∃ L2, L1 ++ B0 = L2 := ⟨_, rfl⟩
  have l2 : L2.length = L1.length + (B0).length := by rw [← hL2, List.length_append]
  have ea2 : ((⟨L1.toArray⟩ : ByteArray) ++ (⟨B0.toArray⟩ : ByteArray)) = ⟨L2.toArray⟩ := by rw [← hL2]; exact str_add L1 B0
  have cc2 : ¬ 9223372036854775807 < L1.length + B0.length := by simp only [List.length_cons, List.length_nil] at *; omega
  obtain ⟨L3, hL3⟩ : ∃ L3, L2 ++ [32] = L3 := ⟨_, rfl⟩
  have l3 : L3.length = L2.length + ([32] : List UInt8).length := by rw [← hL3, List.length_append]
  have ea3 : ((⟨L2.toArray⟩ : ByteArray) ++ (⟨#[32]⟩ : ByteArray)) = ⟨L3.toArray⟩ := by rw [← hL3]; exact str_add L2 [32]
  have cc3 : ¬ 9223372036854775807 < L2.length + 1 := by simp only [List.length_cons, List.length_nil] at *; omega
  obtain ⟨L4, hL4⟩ : ∃ L4, L3 ++ P0 = L4 := ⟨_, rfl⟩
  have l4 : L4.length = L3.length + (P0).length := by rw [← hL4, List.length_append]
  have ea4 : ((⟨L3.toArray⟩ : ByteArray) ++ (⟨P0.toArray⟩ : ByteArray)) = ⟨L4.toArray⟩ := by rw [← hL4]; exact str_add L3 P0
  have cc4 : ¬ 9223372036854775807 < L3.length + P0.length := by simp only [List.length_cons, List.length_nil] at *; omega
  obtain ⟨L5, hL5⟩ : ∃ L5, L4 ++ [32] = L5 := ⟨_, rfl⟩
  have l5 : L5.length = L4.length + ([32] : List UInt8).length := by rw [← hL5, List.length_append]
  have ea5 : ((⟨L4.toArray⟩ : ByteArray) ++ (⟨#[32]⟩ : ByteArray)) = ⟨L5.toArray⟩ := by rw [← hL5]; exact str_add L4 [32]
  have cc5 : ¬ 9223372036854775807 < L4.length + 1 := by simp only [List.length_cons, List.length_nil] at *; omega
  obtain ⟨L6, hL6⟩ : ∃ L6, L5 ++ O0 = L6 := ⟨_, rfl⟩
  have l6 : L6.length = L5.length + (O0).length := by rw [← hL6, List.length_append]
  have ea6 : ((⟨L5.toArray⟩ : ByteArray) ++ (⟨O0.toArray⟩ : ByteArray)) = ⟨L6.toArray⟩ := by rw [← hL6]; exact str_add L5 O0
  have cc6 : ¬ 9223372036854775807 < L5.length + O0.length := by simp only [List.length_cons, List.length_nil] at *; omega
  obtain ⟨L7, hL7⟩ : ∃ L7, L6 ++ [10] = L7 := ⟨_, rfl⟩
  have l7 : L7.length = L6.length + ([10] : List UInt8).length := by rw [← hL7, List.length_append]
  have ea7 : ((⟨L6.toArray⟩ : ByteArray) ++ (⟨#[10]⟩ : ByteArray)) = ⟨L7.toArray⟩ := by rw [← hL7]; exact str_add L6 [10]
  have cc7 : ¬ 9223372036854775807 < L6.length + 1 := by simp only [List.length_cons, List.length_nil] at *; omega
  have HRW : Hid (rowB ⟨k0, b0, p0, o0⟩ = L7) := by
    unfold Hid rowB
    rw [line4, hK0, hB0, hP0, hO0, hL1, hL2, hL3, hL4, hL5, hL6, hL7]
  clear hK0 hB0 hP0 hO0 hL1 hL2 hL3 hL4 hL5 hL6 hL7 l1 l2 l3 l4 l5 l6 l7
  by_cases h1 : 1 ≤ k0 ∧ k0 < 10
  · have HW : Hid (wordB k0 = K0) := by unfold Hid; rw [← HKK.out]; unfold wordB kindB; rw [if_pos h1, if_pos h1]
    have hne : K0 ≠ [] := by
      rw [← HKK.out]
      unfold kindB
      rw [if_pos h1]
      exact kw_ne _ (by omega) (by omega)
    have hs := emp_ne hne
    clear h1 hne
    go_enter Tryd.func23, Tryd.ntmps23
    go_upto_region 4 with (first
      | (go_at_call 36; refine (word_any k0 hk0 _).mono ?_; rintro e z0 ⟨rfl, bl⟩; rw [HW.out]
         have HBA : Hid (Below w.heap.size w z0) := HB0.out.trans (below_low bl HB0.out.size)
         have HFA : Hid (z0.heap[w.heap.size]? = some (.cells #[.int .i64 k0, .int .i64 b0, .int .i64 p0, .int .i64 o0] 29 (0, 0))) := (bl.block _ (Array.getElem?_eq_some_iff.1 HF0.out).1).trans HF0.out
         clear bl))
    have HBD : Hid (Below w.heap.size w z0.drew) := HBA.out.drew
    have HFD : Hid (z0.drew.heap[w.heap.size]? = some (.cells #[.int .i64 k0, .int .i64 b0, .int .i64 p0, .int .i64 o0] 29 (0, 0))) := HFA.out
    refine wp_region_held_drew (S := (fun y : World => y.cell? ⟨w.heap.size, 0, none⟩ = some (.int .i64 k0) ∧ y.cell? ⟨w.heap.size, 1, none⟩ = some (.int .i64 b0) ∧ y.cell? ⟨w.heap.size, 2, none⟩ = some (.int .i64 p0) ∧ y.cell? ⟨w.heap.size, 3, none⟩ = some (.int .i64 o0))) (by kernel_rfl) (cells4 HFA.out) (fun hHeld => ?_)
    refine wpAnyH_take (i := 0) (oi := { dst := some 12, op := Op.move (Operand.tmp 3), type := 9, pos := "text.go:26", after := #[], guard := none }) (v := ?v0rx) rfl (by kernel_rfl) (by kernel_rfl) (by kernel_rfl) (fun _ _ _ h => h) (Or.inl ⟨by rfl, ?y0rx⟩) (by assumption) ?r0rx
    case y0rx => (intro x hx; (try dsimp only at hx); go_simp; try with_reducible rfl)
    try simp only [Act.put, List.setIfInBounds_toArray, List.set_cons_zero, List.set_cons_succ]
    refine wpAnyH_take (i := 1) (oi := { dst := some 13, op := Op.binOp BinOp.add 9 (Operand.tmp 12) (Operand.const (Value.string { data := #[32] })) 9, type := 9, pos := "text.go:26", after := #[{ on := 0, ground := Ground.data }], guard := none }) (v := ?v1rx) rfl (by kernel_rfl) (by kernel_rfl) (by kernel_rfl) (fun _ _ _ h => h) (Or.inl ⟨by rfl, ?y1rx⟩) (by assumption) ?r1rx
    case y1rx => (intro x hx; (try dsimp only at hx); go_simp; try with_reducible rfl)
    try simp only [Act.put, List.setIfInBounds_toArray, List.set_cons_zero, List.set_cons_succ]
    refine wpAnyH_take (i := 2) (oi := { dst := some 14, op := Op.fieldAddr 29 (Operand.tmp 1) 1, type := 0, pos := "text.go:26", after := #[], guard := none }) (v := ?v2rx) rfl (by kernel_rfl) (by kernel_rfl) (by kernel_rfl) (fun _ _ _ h => h) (Or.inl ⟨by rfl, ?y2rx⟩) (by assumption) ?r2rx
    case y2rx => (intro x hx; (try dsimp only at hx); go_simp; try with_reducible rfl)
    try simp only [Act.put, List.setIfInBounds_toArray, List.set_cons_zero, List.set_cons_succ]
    refine wpAnyH_take (i := 3) (oi := { dst := some 15, op := Op.fieldAddr 27 (Operand.tmp 14) 0, type := 0, pos := "text.go:26", after := #[{ on := 2, ground := Ground.data }], guard := none }) (v := ?v3rx) rfl (by kernel_rfl) (by kernel_rfl) (by kernel_rfl) (fun _ _ _ h => h) (Or.inl ⟨by rfl, ?y3rx⟩) (by assumption) ?r3rx
    case y3rx => (intro x hx; (try dsimp only at hx); go_simp; try with_reducible rfl)
    try simp only [Act.put, List.setIfInBounds_toArray, List.set_cons_zero, List.set_cons_succ]
    refine wpAnyH_take (i := 4) (oi := { dst := some 16, op := Op.load 3 (Operand.tmp 15), type := 3, pos := "text.go:26", after := #[{ on := 3, ground := Ground.data }], guard := none }) (v := ?v4rx) rfl (by kernel_rfl) (by kernel_rfl) (by kernel_rfl) (fun _ _ _ h => h) (Or.inl ⟨by rfl, ?y4rx⟩) (by assumption) ?r4rx
    case y4rx => (intro x hx; (try dsimp only at hx); go_simp; try with_reducible rfl)
    try simp only [Act.put, List.setIfInBounds_toArray, List.set_cons_zero, List.set_cons_succ]
    refine wpAnyH_take (i := 8) (oi := { dst := some 20, op := Op.fieldAddr 29 (Operand.tmp 1) 1, type := 0, pos := "text.go:26", after := #[], guard := none }) (v := ?v8rx) rfl (by kernel_rfl) (by kernel_rfl) (by kernel_rfl) (fun _ _ _ h => h) (Or.inl ⟨by rfl, ?y8rx⟩) (by assumption) ?r8rx
    case y8rx => (intro x hx; (try dsimp only at hx); go_simp; try with_reducible rfl)
    try simp only [Act.put, List.setIfInBounds_toArray, List.set_cons_zero, List.set_cons_succ]
    refine wpAnyH_take (i := 9) (oi := { dst := some 21, op := Op.fieldAddr 27 (Operand.tmp 20) 1, type := 0, pos := "text.go:26", after := #[{ on := 8, ground := Ground.data }], guard := none }) (v := ?v9rx) rfl (by kernel_rfl) (by kernel_rfl) (by kernel_rfl) (fun _ _ _ h => h) (Or.inl ⟨by rfl, ?y9rx⟩) (by assumption) ?r9rx
    case y9rx => (intro x hx; (try dsimp only at hx); go_simp; try with_reducible rfl)
    try simp only [Act.put, List.setIfInBounds_toArray, List.set_cons_zero, List.set_cons_succ]
    refine wpAnyH_take (i := 10) (oi := { dst := some 22, op := Op.load 3 (Operand.tmp 21), type := 3, pos := "text.go:26", after := #[{ on := 9, ground := Ground.data }], guard := none }) (v := ?v10rx) rfl (by kernel_rfl) (by kernel_rfl) (by kernel_rfl) (fun _ _ _ h => h) (Or.inl ⟨by rfl, ?y10rx⟩) (by assumption) ?r10rx
    case y10rx => (intro x hx; (try dsimp only at hx); go_simp; try with_reducible rfl)
    try simp only [Act.put, List.setIfInBounds_toArray, List.set_cons_zero, List.set_cons_succ]
    refine wpAnyH_take (i := 14) (oi := { dst := some 26, op := Op.fieldAddr 29 (Operand.tmp 1) 2, type := 0, pos := "text.go:26", after := #[], guard := none }) (v := ?v14rx) rfl (by kernel_rfl) (by kernel_rfl) (by kernel_rfl) (fun _ _ _ h => h) (Or.inl ⟨by rfl, ?y14rx⟩) (by assumption) ?r14rx
    case y14rx => (intro x hx; (try dsimp only at hx); go_simp; try with_reducible rfl)
    try simp only [Act.put, List.setIfInBounds_toArray, List.set_cons_zero, List.set_cons_succ]
    refine wpAnyH_take (i := 15) (oi := { dst := some 27, op := Op.load 3 (Operand.tmp 26), type := 3, pos := "text.go:26", after := #[{ on := 14, ground := Ground.data }], guard := none }) (v := ?v15rx) rfl (by kernel_rfl) (by kernel_rfl) (by kernel_rfl) (fun _ _ _ h => h) (Or.inl ⟨by rfl, ?y15rx⟩) (by assumption) ?r15rx
    case y15rx => (intro x hx; (try dsimp only at hx); go_simp; try with_reducible rfl)
    try simp only [Act.put, List.setIfInBounds_toArray, List.set_cons_zero, List.set_cons_succ]
    refine wpAnyH_ready (rs := [5]) (by kernel_rfl) (by simp) ?_
    refine AllReadyH.cons (o := { dst := some 17, op := Op.call { callee := Callee.value (Operand.func 18), args := #[Operand.tmp 16], argTypes := #[3] }, type := 9, pos := "text.go:26", after := #[{ on := 4, ground := Ground.data }], guard := none }) rfl (fun K hK => ?_) AllReadyH.nil
    go_simp
    refine (itoa_any b0 hb0.1 hb0.2 _ (p10_below HT.out HBD.out)).mono ?_; rintro e z1 ⟨rfl, bl⟩; rw [HIB.out]
    have HB1 : Hid (Below w.heap.size w z1) := HBD.out.trans (below_low bl HBD.out.size)
    have HF1 : Hid (z1.heap[w.heap.size]? = some (.cells #[.int .i64 k0, .int .i64 b0, .int .i64 p0, .int .i64 o0] 29 (0, 0))) := (bl.block _ (Array.getElem?_eq_some_iff.1 HFD.out).1).trans HFD.out
    have hSnew := cells4 HF1.out
    clear bl
    go_wp2_with fail
    refine hK.out _ _ hSnew (fun hHeld5 => ?_)
    clear hK K hSnew
    clear hHeld
    have hHeld := hHeld5
    clear hHeld5
    try simp only [Act.put, List.setIfInBounds_toArray, List.set_cons_zero, List.set_cons_succ]
    refine wpAnyH_take (i := 6) (oi := { dst := some 18, op := Op.binOp BinOp.add 9 (Operand.tmp 13) (Operand.tmp 17) 9, type := 9, pos := "text.go:26", after := #[{ on := 1, ground := Ground.data }, { on := 5, ground := Ground.data }], guard := none }) (v := ?v6rx) rfl (by kernel_rfl) (by kernel_rfl) (by kernel_rfl) (fun _ _ _ h => h) (Or.inl ⟨by rfl, ?y6rx⟩) (by assumption) ?r6rx
    case y6rx => (intro x hx; (try dsimp only at hx); go_simp; try with_reducible rfl)
    try simp only [Act.put, List.setIfInBounds_toArray, List.set_cons_zero, List.set_cons_succ]
    refine wpAnyH_take (i := 7) (oi := { dst := some 19, op := Op.binOp BinOp.add 9 (Operand.tmp 18) (Operand.const (Value.string { data := #[32] })) 9, type := 9, pos := "text.go:26", after := #[{ on := 6, ground := Ground.data }], guard := none }) (v := ?v7rx) rfl (by kernel_rfl) (by kernel_rfl) (by kernel_rfl) (fun _ _ _ h => h) (Or.inl ⟨by rfl, ?y7rx⟩) (by assumption) ?r7rx
    case y7rx => (intro x hx; (try dsimp only at hx); go_simp; try with_reducible rfl)
    try simp only [Act.put, List.setIfInBounds_toArray, List.set_cons_zero, List.set_cons_succ]
    refine wpAnyH_ready (rs := [11]) (by kernel_rfl) (by simp) ?_
    refine AllReadyH.cons (o := { dst := some 23, op := Op.call { callee := Callee.value (Operand.func 18), args := #[Operand.tmp 22], argTypes := #[3] }, type := 9, pos := "text.go:26", after := #[{ on := 10, ground := Ground.data }, { on := 5, ground := Ground.chain }], guard := none }) rfl (fun K hK => ?_) AllReadyH.nil
    go_simp
    refine (itoa_any p0 hp0.1 hp0.2 _ (p10_below HT.out HB1.out)).mono ?_; rintro e z2 ⟨rfl, bl⟩; rw [HIP.out]
    have HB2 : Hid (Below w.heap.size w z2) := HB1.out.trans (below_low bl HB1.out.size)
    have HF2 : Hid (z2.heap[w.heap.size]? = some (.cells #[.int .i64 k0, .int .i64 b0, .int .i64 p0, .int .i64 o0] 29 (0, 0))) := (bl.block _ (Array.getElem?_eq_some_iff.1 HF1.out).1).trans HF1.out
    have hSnew := cells4 HF2.out
    clear bl
    go_wp2_with fail
    refine hK.out _ _ hSnew (fun hHeld11 => ?_)
    clear hK K hSnew
    clear hHeld
    have hHeld := hHeld11
    clear hHeld11
    try simp only [Act.put, List.setIfInBounds_toArray, List.set_cons_zero, List.set_cons_succ]
    refine wpAnyH_take (i := 12) (oi := { dst := some 24, op := Op.binOp BinOp.add 9 (Operand.tmp 19) (Operand.tmp 23) 9, type := 9, pos := "text.go:26", after := #[{ on := 7, ground := Ground.data }, { on := 11, ground := Ground.data }], guard := none }) (v := ?v12rx) rfl (by kernel_rfl) (by kernel_rfl) (by kernel_rfl) (fun _ _ _ h => h) (Or.inl ⟨by rfl, ?y12rx⟩) (by assumption) ?r12rx
    case y12rx => (intro x hx; (try dsimp only at hx); go_simp; try with_reducible rfl)
    try simp only [Act.put, List.setIfInBounds_toArray, List.set_cons_zero, List.set_cons_succ]
    refine wpAnyH_take (i := 13) (oi := { dst := some 25, op := Op.binOp BinOp.add 9 (Operand.tmp 24) (Operand.const (Value.string { data := #[32] })) 9, type := 9, pos := "text.go:26", after := #[{ on := 12, ground := Ground.data }], guard := none }) (v := ?v13rx) rfl (by kernel_rfl) (by kernel_rfl) (by kernel_rfl) (fun _ _ _ h => h) (Or.inl ⟨by rfl, ?y13rx⟩) (by assumption) ?r13rx
    case y13rx => (intro x hx; (try dsimp only at hx); go_simp; try with_reducible rfl)
    try simp only [Act.put, List.setIfInBounds_toArray, List.set_cons_zero, List.set_cons_succ]
    refine wpAnyH_ready (rs := [16]) (by kernel_rfl) (by simp) ?_
    refine AllReadyH.cons (o := { dst := some 28, op := Op.call { callee := Callee.value (Operand.func 18), args := #[Operand.tmp 27], argTypes := #[3] }, type := 9, pos := "text.go:26", after := #[{ on := 15, ground := Ground.data }, { on := 11, ground := Ground.chain }], guard := none }) rfl (fun K hK => ?_) AllReadyH.nil
    go_simp
    refine (itoa_any o0 ho0.1 ho0.2 _ (p10_below HT.out HB2.out)).mono ?_; rintro e z3 ⟨rfl, bl⟩; rw [HIO.out]
    have HB3 : Hid (Below w.heap.size w z3) := HB2.out.trans (below_low bl HB2.out.size)
    have HF3 : Hid (z3.heap[w.heap.size]? = some (.cells #[.int .i64 k0, .int .i64 b0, .int .i64 p0, .int .i64 o0] 29 (0, 0))) := (bl.block _ (Array.getElem?_eq_some_iff.1 HF2.out).1).trans HF2.out
    have hSnew := cells4 HF3.out
    clear bl
    go_wp2_with fail
    refine hK.out _ _ hSnew (fun hHeld16 => ?_)
    clear hK K hSnew
    clear hHeld
    have hHeld := hHeld16
    clear hHeld16
    try simp only [Act.put, List.setIfInBounds_toArray, List.set_cons_zero, List.set_cons_succ]
    refine wpAnyH_take (i := 17) (oi := { dst := some 29, op := Op.binOp BinOp.add 9 (Operand.tmp 25) (Operand.tmp 28) 9, type := 9, pos := "text.go:26", after := #[{ on := 13, ground := Ground.data }, { on := 16, ground := Ground.data }], guard := none }) (v := ?v17rx) rfl (by kernel_rfl) (by kernel_rfl) (by kernel_rfl) (fun _ _ _ h => h) (Or.inl ⟨by rfl, ?y17rx⟩) (by assumption) ?r17rx
    case y17rx => (intro x hx; (try dsimp only at hx); go_simp; try with_reducible rfl)
    try simp only [Act.put, List.setIfInBounds_toArray, List.set_cons_zero, List.set_cons_succ]
    refine wpAnyH_take (i := 18) (oi := { dst := some 30, op := Op.binOp BinOp.add 9 (Operand.tmp 29) (Operand.const (Value.string { data := #[10] })) 9, type := 9, pos := "text.go:26", after := #[{ on := 17, ground := Ground.data }], guard := none }) (v := ?v18rx) rfl (by kernel_rfl) (by kernel_rfl) (by kernel_rfl) (fun _ _ _ h => h) (Or.inl ⟨by rfl, ?y18rx⟩) (by assumption) ?r18rx
    case y18rx => (intro x hx; (try dsimp only at hx); go_simp; try with_reducible rfl)
    try simp only [Act.put, List.setIfInBounds_toArray, List.set_cons_zero, List.set_cons_succ]
    refine wpAnyH_take (i := 19) (oi := { dst := some 2, op := Op.assign (Operand.tmp 30), type := 9, pos := "text.go:26", after := #[{ on := 18, ground := Ground.data }, { on := 16, ground := Ground.chain }, { on := 0, ground := Ground.phase }, { on := 1, ground := Ground.phase }, { on := 2, ground := Ground.phase }, { on := 3, ground := Ground.phase }, { on := 4, ground := Ground.phase }, { on := 5, ground := Ground.phase }, { on := 6, ground := Ground.phase }, { on := 7, ground := Ground.phase }, { on := 8, ground := Ground.phase }, { on := 9, ground := Ground.phase }, { on := 10, ground := Ground.phase }, { on := 11, ground := Ground.phase }, { on := 12, ground := Ground.phase }, { on := 13, ground := Ground.phase }, { on := 14, ground := Ground.phase }, { on := 15, ground := Ground.phase }, { on := 16, ground := Ground.phase }, { on := 17, ground := Ground.phase }, { on := 18, ground := Ground.phase }], guard := none }) (v := ?v19rx) rfl (by kernel_rfl) (by kernel_rfl) (by kernel_rfl) (fun _ _ _ h => h) (Or.inl ⟨by rfl, ?y19rx⟩) (by assumption) ?r19rx
    case y19rx => (intro x hx; (try dsimp only at hx); go_simp; try with_reducible rfl)
    try simp only [Act.put, List.setIfInBounds_toArray, List.set_cons_zero, List.set_cons_succ]
    refine wpAnyH_done (by kernel_rfl) ?_ _
    go_wp2_with fail
    go_ret
    refine ⟨?_, HB3.out⟩
    rw [HRW.out]
    rfl
  · have HW : Hid (wordB k0 = []) := by unfold Hid wordB; rw [if_neg h1]
    have HKI : Hid (Lib.itoa k0 = K0) := by unfold Hid; rw [← HKK.out]; unfold kindB; rw [if_neg h1]
    clear h1
    go_enter Tryd.func23, Tryd.ntmps23
    obtain ⟨x0, x1, x2, x3⟩ := cells4 HF0.out
    go_upto_region 4 with (first
      | (go_at_call 36; refine (word_any k0 hk0 _).mono ?_; rintro e z0 ⟨rfl, bl⟩; rw [HW.out]
         have HBC : Hid (Below w.heap.size w z0) := HB0.out.trans (below_low bl HB0.out.size)
         have HFC : Hid (z0.heap[w.heap.size]? = some (.cells #[.int .i64 k0, .int .i64 b0, .int .i64 p0, .int .i64 o0] 29 (0, 0))) := (bl.block _ (Array.getElem?_eq_some_iff.1 HF0.out).1).trans HF0.out
         clear bl x0 x1 x2 x3
         obtain ⟨x0, x1, x2, x3⟩ := cells4 HFC.out)
      | (go_at_call 18; refine (itoa_any k0 hk0.1 hk0.2 _ (p10_below HT.out HBC.out)).mono ?_; rintro e z9 ⟨rfl, bl⟩; rw [HKI.out]
         have HBA : Hid (Below w.heap.size w z9) := HBC.out.trans (below_low bl HBC.out.size)
         have HFA : Hid (z9.heap[w.heap.size]? = some (.cells #[.int .i64 k0, .int .i64 b0, .int .i64 p0, .int .i64 o0] 29 (0, 0))) := (bl.block _ (Array.getElem?_eq_some_iff.1 HFC.out).1).trans HFC.out
         clear bl x0 x1 x2 x3))
    have HBD : Hid (Below w.heap.size w z9.drew) := HBA.out.drew
    have HFD : Hid (z9.drew.heap[w.heap.size]? = some (.cells #[.int .i64 k0, .int .i64 b0, .int .i64 p0, .int .i64 o0] 29 (0, 0))) := HFA.out
    refine wp_region_held_drew (S := (fun y : World => y.cell? ⟨w.heap.size, 0, none⟩ = some (.int .i64 k0) ∧ y.cell? ⟨w.heap.size, 1, none⟩ = some (.int .i64 b0) ∧ y.cell? ⟨w.heap.size, 2, none⟩ = some (.int .i64 p0) ∧ y.cell? ⟨w.heap.size, 3, none⟩ = some (.int .i64 o0))) (by kernel_rfl) (cells4 HFA.out) (fun hHeld => ?_)
    refine wpAnyH_take (i := 0) (oi := { dst := some 12, op := Op.move (Operand.tmp 3), type := 9, pos := "text.go:26", after := #[], guard := none }) (v := ?v0ry) rfl (by kernel_rfl) (by kernel_rfl) (by kernel_rfl) (fun _ _ _ h => h) (Or.inl ⟨by rfl, ?y0ry⟩) (by assumption) ?r0ry
    case y0ry => (intro x hx; (try dsimp only at hx); go_simp; try with_reducible rfl)
    try simp only [Act.put, List.setIfInBounds_toArray, List.set_cons_zero, List.set_cons_succ]
    refine wpAnyH_take (i := 1) (oi := { dst := some 13, op := Op.binOp BinOp.add 9 (Operand.tmp 12) (Operand.const (Value.string { data := #[32] })) 9, type := 9, pos := "text.go:26", after := #[{ on := 0, ground := Ground.data }], guard := none }) (v := ?v1ry) rfl (by kernel_rfl) (by kernel_rfl) (by kernel_rfl) (fun _ _ _ h => h) (Or.inl ⟨by rfl, ?y1ry⟩) (by assumption) ?r1ry
    case y1ry => (intro x hx; (try dsimp only at hx); go_simp; try with_reducible rfl)
    try simp only [Act.put, List.setIfInBounds_toArray, List.set_cons_zero, List.set_cons_succ]
    refine wpAnyH_take (i := 2) (oi := { dst := some 14, op := Op.fieldAddr 29 (Operand.tmp 1) 1, type := 0, pos := "text.go:26", after := #[], guard := none }) (v := ?v2ry) rfl (by kernel_rfl) (by kernel_rfl) (by kernel_rfl) (fun _ _ _ h => h) (Or.inl ⟨by rfl, ?y2ry⟩) (by assumption) ?r2ry
    case y2ry => (intro x hx; (try dsimp only at hx); go_simp; try with_reducible rfl)
    try simp only [Act.put, List.setIfInBounds_toArray, List.set_cons_zero, List.set_cons_succ]
    refine wpAnyH_take (i := 3) (oi := { dst := some 15, op := Op.fieldAddr 27 (Operand.tmp 14) 0, type := 0, pos := "text.go:26", after := #[{ on := 2, ground := Ground.data }], guard := none }) (v := ?v3ry) rfl (by kernel_rfl) (by kernel_rfl) (by kernel_rfl) (fun _ _ _ h => h) (Or.inl ⟨by rfl, ?y3ry⟩) (by assumption) ?r3ry
    case y3ry => (intro x hx; (try dsimp only at hx); go_simp; try with_reducible rfl)
    try simp only [Act.put, List.setIfInBounds_toArray, List.set_cons_zero, List.set_cons_succ]
    refine wpAnyH_take (i := 4) (oi := { dst := some 16, op := Op.load 3 (Operand.tmp 15), type := 3, pos := "text.go:26", after := #[{ on := 3, ground := Ground.data }], guard := none }) (v := ?v4ry) rfl (by kernel_rfl) (by kernel_rfl) (by kernel_rfl) (fun _ _ _ h => h) (Or.inl ⟨by rfl, ?y4ry⟩) (by assumption) ?r4ry
    case y4ry => (intro x hx; (try dsimp only at hx); go_simp; try with_reducible rfl)
    try simp only [Act.put, List.setIfInBounds_toArray, List.set_cons_zero, List.set_cons_succ]
    refine wpAnyH_take (i := 8) (oi := { dst := some 20, op := Op.fieldAddr 29 (Operand.tmp 1) 1, type := 0, pos := "text.go:26", after := #[], guard := none }) (v := ?v8ry) rfl (by kernel_rfl) (by kernel_rfl) (by kernel_rfl) (fun _ _ _ h => h) (Or.inl ⟨by rfl, ?y8ry⟩) (by assumption) ?r8ry
    case y8ry => (intro x hx; (try dsimp only at hx); go_simp; try with_reducible rfl)
    try simp only [Act.put, List.setIfInBounds_toArray, List.set_cons_zero, List.set_cons_succ]
    refine wpAnyH_take (i := 9) (oi := { dst := some 21, op := Op.fieldAddr 27 (Operand.tmp 20) 1, type := 0, pos := "text.go:26", after := #[{ on := 8, ground := Ground.data }], guard := none }) (v := ?v9ry) rfl (by kernel_rfl) (by kernel_rfl) (by kernel_rfl) (fun _ _ _ h => h) (Or.inl ⟨by rfl, ?y9ry⟩) (by assumption) ?r9ry
    case y9ry => (intro x hx; (try dsimp only at hx); go_simp; try with_reducible rfl)
    try simp only [Act.put, List.setIfInBounds_toArray, List.set_cons_zero, List.set_cons_succ]
    refine wpAnyH_take (i := 10) (oi := { dst := some 22, op := Op.load 3 (Operand.tmp 21), type := 3, pos := "text.go:26", after := #[{ on := 9, ground := Ground.data }], guard := none }) (v := ?v10ry) rfl (by kernel_rfl) (by kernel_rfl) (by kernel_rfl) (fun _ _ _ h => h) (Or.inl ⟨by rfl, ?y10ry⟩) (by assumption) ?r10ry
    case y10ry => (intro x hx; (try dsimp only at hx); go_simp; try with_reducible rfl)
    try simp only [Act.put, List.setIfInBounds_toArray, List.set_cons_zero, List.set_cons_succ]
    refine wpAnyH_take (i := 14) (oi := { dst := some 26, op := Op.fieldAddr 29 (Operand.tmp 1) 2, type := 0, pos := "text.go:26", after := #[], guard := none }) (v := ?v14ry) rfl (by kernel_rfl) (by kernel_rfl) (by kernel_rfl) (fun _ _ _ h => h) (Or.inl ⟨by rfl, ?y14ry⟩) (by assumption) ?r14ry
    case y14ry => (intro x hx; (try dsimp only at hx); go_simp; try with_reducible rfl)
    try simp only [Act.put, List.setIfInBounds_toArray, List.set_cons_zero, List.set_cons_succ]
    refine wpAnyH_take (i := 15) (oi := { dst := some 27, op := Op.load 3 (Operand.tmp 26), type := 3, pos := "text.go:26", after := #[{ on := 14, ground := Ground.data }], guard := none }) (v := ?v15ry) rfl (by kernel_rfl) (by kernel_rfl) (by kernel_rfl) (fun _ _ _ h => h) (Or.inl ⟨by rfl, ?y15ry⟩) (by assumption) ?r15ry
    case y15ry => (intro x hx; (try dsimp only at hx); go_simp; try with_reducible rfl)
    try simp only [Act.put, List.setIfInBounds_toArray, List.set_cons_zero, List.set_cons_succ]
    refine wpAnyH_ready (rs := [5]) (by kernel_rfl) (by simp) ?_
    refine AllReadyH.cons (o := { dst := some 17, op := Op.call { callee := Callee.value (Operand.func 18), args := #[Operand.tmp 16], argTypes := #[3] }, type := 9, pos := "text.go:26", after := #[{ on := 4, ground := Ground.data }], guard := none }) rfl (fun K hK => ?_) AllReadyH.nil
    go_simp
    refine (itoa_any b0 hb0.1 hb0.2 _ (p10_below HT.out HBD.out)).mono ?_; rintro e z1 ⟨rfl, bl⟩; rw [HIB.out]
    have HB1 : Hid (Below w.heap.size w z1) := HBD.out.trans (below_low bl HBD.out.size)
    have HF1 : Hid (z1.heap[w.heap.size]? = some (.cells #[.int .i64 k0, .int .i64 b0, .int .i64 p0, .int .i64 o0] 29 (0, 0))) := (bl.block _ (Array.getElem?_eq_some_iff.1 HFD.out).1).trans HFD.out
    have hSnew := cells4 HF1.out
    clear bl
    go_wp2_with fail
    refine hK.out _ _ hSnew (fun hHeld5 => ?_)
    clear hK K hSnew
    clear hHeld
    have hHeld := hHeld5
    clear hHeld5
    try simp only [Act.put, List.setIfInBounds_toArray, List.set_cons_zero, List.set_cons_succ]
    refine wpAnyH_take (i := 6) (oi := { dst := some 18, op := Op.binOp BinOp.add 9 (Operand.tmp 13) (Operand.tmp 17) 9, type := 9, pos := "text.go:26", after := #[{ on := 1, ground := Ground.data }, { on := 5, ground := Ground.data }], guard := none }) (v := ?v6ry) rfl (by kernel_rfl) (by kernel_rfl) (by kernel_rfl) (fun _ _ _ h => h) (Or.inl ⟨by rfl, ?y6ry⟩) (by assumption) ?r6ry
    case y6ry => (intro x hx; (try dsimp only at hx); go_simp; try with_reducible rfl)
    try simp only [Act.put, List.setIfInBounds_toArray, List.set_cons_zero, List.set_cons_succ]
    refine wpAnyH_take (i := 7) (oi := { dst := some 19, op := Op.binOp BinOp.add 9 (Operand.tmp 18) (Operand.const (Value.string { data := #[32] })) 9, type := 9, pos := "text.go:26", after := #[{ on := 6, ground := Ground.data }], guard := none }) (v := ?v7ry) rfl (by kernel_rfl) (by kernel_rfl) (by kernel_rfl) (fun _ _ _ h => h) (Or.inl ⟨by rfl, ?y7ry⟩) (by assumption) ?r7ry
    case y7ry => (intro x hx; (try dsimp only at hx); go_simp; try with_reducible rfl)
    try simp only [Act.put, List.setIfInBounds_toArray, List.set_cons_zero, List.set_cons_succ]
    refine wpAnyH_ready (rs := [11]) (by kernel_rfl) (by simp) ?_
    refine AllReadyH.cons (o := { dst := some 23, op := Op.call { callee := Callee.value (Operand.func 18), args := #[Operand.tmp 22], argTypes := #[3] }, type := 9, pos := "text.go:26", after := #[{ on := 10, ground := Ground.data }, { on := 5, ground := Ground.chain }], guard := none }) rfl (fun K hK => ?_) AllReadyH.nil
    go_simp
    refine (itoa_any p0 hp0.1 hp0.2 _ (p10_below HT.out HB1.out)).mono ?_; rintro e z2 ⟨rfl, bl⟩; rw [HIP.out]
    have HB2 : Hid (Below w.heap.size w z2) := HB1.out.trans (below_low bl HB1.out.size)
    have HF2 : Hid (z2.heap[w.heap.size]? = some (.cells #[.int .i64 k0, .int .i64 b0, .int .i64 p0, .int .i64 o0] 29 (0, 0))) := (bl.block _ (Array.getElem?_eq_some_iff.1 HF1.out).1).trans HF1.out
    have hSnew := cells4 HF2.out
    clear bl
    go_wp2_with fail
    refine hK.out _ _ hSnew (fun hHeld11 => ?_)
    clear hK K hSnew
    clear hHeld
    have hHeld := hHeld11
    clear hHeld11
    try simp only [Act.put, List.setIfInBounds_toArray, List.set_cons_zero, List.set_cons_succ]
    refine wpAnyH_take (i := 12) (oi := { dst := some 24, op := Op.binOp BinOp.add 9 (Operand.tmp 19) (Operand.tmp 23) 9, type := 9, pos := "text.go:26", after := #[{ on := 7, ground := Ground.data }, { on := 11, ground := Ground.data }], guard := none }) (v := ?v12ry) rfl (by kernel_rfl) (by kernel_rfl) (by kernel_rfl) (fun _ _ _ h => h) (Or.inl ⟨by rfl, ?y12ry⟩) (by assumption) ?r12ry
    case y12ry => (intro x hx; (try dsimp only at hx); go_simp; try with_reducible rfl)
    try simp only [Act.put, List.setIfInBounds_toArray, List.set_cons_zero, List.set_cons_succ]
    refine wpAnyH_take (i := 13) (oi := { dst := some 25, op := Op.binOp BinOp.add 9 (Operand.tmp 24) (Operand.const (Value.string { data := #[32] })) 9, type := 9, pos := "text.go:26", after := #[{ on := 12, ground := Ground.data }], guard := none }) (v := ?v13ry) rfl (by kernel_rfl) (by kernel_rfl) (by kernel_rfl) (fun _ _ _ h => h) (Or.inl ⟨by rfl, ?y13ry⟩) (by assumption) ?r13ry
    case y13ry => (intro x hx; (try dsimp only at hx); go_simp; try with_reducible rfl)
    try simp only [Act.put, List.setIfInBounds_toArray, List.set_cons_zero, List.set_cons_succ]
    refine wpAnyH_ready (rs := [16]) (by kernel_rfl) (by simp) ?_
    refine AllReadyH.cons (o := { dst := some 28, op := Op.call { callee := Callee.value (Operand.func 18), args := #[Operand.tmp 27], argTypes := #[3] }, type := 9, pos := "text.go:26", after := #[{ on := 15, ground := Ground.data }, { on := 11, ground := Ground.chain }], guard := none }) rfl (fun K hK => ?_) AllReadyH.nil
    go_simp
    refine (itoa_any o0 ho0.1 ho0.2 _ (p10_below HT.out HB2.out)).mono ?_; rintro e z3 ⟨rfl, bl⟩; rw [HIO.out]
    have HB3 : Hid (Below w.heap.size w z3) := HB2.out.trans (below_low bl HB2.out.size)
    have HF3 : Hid (z3.heap[w.heap.size]? = some (.cells #[.int .i64 k0, .int .i64 b0, .int .i64 p0, .int .i64 o0] 29 (0, 0))) := (bl.block _ (Array.getElem?_eq_some_iff.1 HF2.out).1).trans HF2.out
    have hSnew := cells4 HF3.out
    clear bl
    go_wp2_with fail
    refine hK.out _ _ hSnew (fun hHeld16 => ?_)
    clear hK K hSnew
    clear hHeld
    have hHeld := hHeld16
    clear hHeld16
    try simp only [Act.put, List.setIfInBounds_toArray, List.set_cons_zero, List.set_cons_succ]
    refine wpAnyH_take (i := 17) (oi := { dst := some 29, op := Op.binOp BinOp.add 9 (Operand.tmp 25) (Operand.tmp 28) 9, type := 9, pos := "text.go:26", after := #[{ on := 13, ground := Ground.data }, { on := 16, ground := Ground.data }], guard := none }) (v := ?v17ry) rfl (by kernel_rfl) (by kernel_rfl) (by kernel_rfl) (fun _ _ _ h => h) (Or.inl ⟨by rfl, ?y17ry⟩) (by assumption) ?r17ry
    case y17ry => (intro x hx; (try dsimp only at hx); go_simp; try with_reducible rfl)
    try simp only [Act.put, List.setIfInBounds_toArray, List.set_cons_zero, List.set_cons_succ]
    refine wpAnyH_take (i := 18) (oi := { dst := some 30, op := Op.binOp BinOp.add 9 (Operand.tmp 29) (Operand.const (Value.string { data := #[10] })) 9, type := 9, pos := "text.go:26", after := #[{ on := 17, ground := Ground.data }], guard := none }) (v := ?v18ry) rfl (by kernel_rfl) (by kernel_rfl) (by kernel_rfl) (fun _ _ _ h => h) (Or.inl ⟨by rfl, ?y18ry⟩) (by assumption) ?r18ry
    case y18ry => (intro x hx; (try dsimp only at hx); go_simp; try with_reducible rfl)
    try simp only [Act.put, List.setIfInBounds_toArray, List.set_cons_zero, List.set_cons_succ]
    refine wpAnyH_take (i := 19) (oi := { dst := some 2, op := Op.assign (Operand.tmp 30), type := 9, pos := "text.go:26", after := #[{ on := 18, ground := Ground.data }, { on := 16, ground := Ground.chain }, { on := 0, ground := Ground.phase }, { on := 1, ground := Ground.phase }, { on := 2, ground := Ground.phase }, { on := 3, ground := Ground.phase }, { on := 4, ground := Ground.phase }, { on := 5, ground := Ground.phase }, { on := 6, ground := Ground.phase }, { on := 7, ground := Ground.phase }, { on := 8, ground := Ground.phase }, { on := 9, ground := Ground.phase }, { on := 10, ground := Ground.phase }, { on := 11, ground := Ground.phase }, { on := 12, ground := Ground.phase }, { on := 13, ground := Ground.phase }, { on := 14, ground := Ground.phase }, { on := 15, ground := Ground.phase }, { on := 16, ground := Ground.phase }, { on := 17, ground := Ground.phase }, { on := 18, ground := Ground.phase }], guard := none }) (v := ?v19ry) rfl (by kernel_rfl) (by kernel_rfl) (by kernel_rfl) (fun _ _ _ h => h) (Or.inl ⟨by rfl, ?y19ry⟩) (by assumption) ?r19ry
    case y19ry => (intro x hx; (try dsimp only at hx); go_simp; try with_reducible rfl)
    try simp only [Act.put, List.setIfInBounds_toArray, List.set_cons_zero, List.set_cons_succ]
    refine wpAnyH_done (by kernel_rfl) ?_ _
    go_wp2_with fail
    go_ret
    refine ⟨?_, HB3.out⟩
    rw [HRW.out]
    rfl
theorem cells75 {w : World} {q : Nat} {x0 x1 x2 x3 x4 x5 x6 : Value} {t : TypeId} (h : w.heap[q]? = some (.cells #[x0, x1, x2, x3, x4, x5, x6] t (0, 0))) :
    w.cell? ⟨q, 0, none⟩ = some x0 ∧ w.cell? ⟨q, 1, none⟩ = some x1 ∧ w.cell? ⟨q, 2, none⟩ = some x2 ∧ w.cell? ⟨q, 3, none⟩ = some x3 ∧ w.cell? ⟨q, 4, none⟩ = some x4 := by
  simp [World.cell?, h]
/-- The six first lines. -/
def headsL (r : Rp) : List (List UInt8) := [lineB [[102, 108, 111, 111, 114], Lib.decDigits r.fl], lineB [[99, 111, 117, 110, 116, 101, 100], Lib.itoa r.c], lineB [[108, 105, 118, 101], Lib.itoa r.l], lineB [[117, 115, 101, 100], Lib.itoa r.u], lineB [[98, 97, 100], Lib.itoa r.b], lineB [[115, 97, 118, 101, 100], savedB r.s]]
theorem headsL_flat (r : Rp) : (headsL r).flatten = headB r := by
  simp [headsL, headB]

set_option maxHeartbeats 8000000 in
set_option maxRecDepth 100000 in
theorem heads_any (r : Rp) (a : Option Addr) (n c : Nat) (w : World) (ho : r.Ok) (ht : P10 w) :
    Calls Tryd.prog 22 #[.agg #[.int .u64 (r.fl : Int), .int .i64 r.c, .int .i64 r.l, .int .i64 r.u, .int .i64 r.b, .bool r.s, .slice a n c]] w fun e w' => ∃ g, e = .returned (.slice (some ⟨g, 0, none⟩) 6 6) ∧ (∀ i, i < 6 → w'.cell? ⟨g, i, none⟩ = some (.string ⟨((headsL r).getD i []).toArray⟩)) ∧ Below w.heap.size w w' := by
  obtain ⟨D0, hD0⟩ : ∃ D, Lib.decDigits r.fl = D := ⟨_, rfl⟩
  have lD0 : D0.length ≤ 21 := by rw [← hD0]; have := (dec_len r.fl ho.fl); omega
  have HD0 : Hid (Lib.decDigits r.fl = D0) := hD0
  obtain ⟨M0, hM0⟩ : ∃ M, ([102, 108, 111, 111, 114, 32] : List UInt8) ++ D0 = M := ⟨_, rfl⟩
  have lM0 : M0.length = 6 + D0.length := by rw [← hM0, List.length_append]; rfl
  have ea0 : ((⟨#[102, 108, 111, 111, 114, 32]⟩ : ByteArray) ++ (⟨D0.toArray⟩ : ByteArray)) = ⟨M0.toArray⟩ := by rw [← hM0]; exact str_add [102, 108, 111, 111, 114, 32] D0
  have ca0 : ¬ 9223372036854775807 < 6 + D0.length := by omega
  obtain ⟨N0, hN0⟩ : ∃ N, M0 ++ ([10] : List UInt8) = N := ⟨_, rfl⟩
  have eb0 : ((⟨M0.toArray⟩ : ByteArray) ++ (⟨#[10]⟩ : ByteArray)) = ⟨N0.toArray⟩ := by rw [← hN0]; exact str_add M0 [10]
  have cb0 : ¬ 9223372036854775807 < M0.length + 1 := by omega
  have HN0 : Hid (lineB [[102, 108, 111, 111, 114], Lib.decDigits r.fl] = N0) := by unfold Hid; rw [line2, ← hN0, ← hM0, hD0]; simp
  obtain ⟨D1, hD1⟩ : ∃ D, Lib.itoa r.c = D := ⟨_, rfl⟩
  have lD1 : D1.length ≤ 21 := by rw [← hD1]; have := (itoa_len r.c ho.c); omega
  have HD1 : Hid (Lib.itoa r.c = D1) := hD1
  obtain ⟨M1, hM1⟩ : ∃ M, ([99, 111, 117, 110, 116, 101, 100, 32] : List UInt8) ++ D1 = M := ⟨_, rfl⟩
  have lM1 : M1.length = 8 + D1.length := by rw [← hM1, List.length_append]; rfl
  have ea1 : ((⟨#[99, 111, 117, 110, 116, 101, 100, 32]⟩ : ByteArray) ++ (⟨D1.toArray⟩ : ByteArray)) = ⟨M1.toArray⟩ := by rw [← hM1]; exact str_add [99, 111, 117, 110, 116, 101, 100, 32] D1
  have ca1 : ¬ 9223372036854775807 < 8 + D1.length := by omega
  obtain ⟨N1, hN1⟩ : ∃ N, M1 ++ ([10] : List UInt8) = N := ⟨_, rfl⟩
  have eb1 : ((⟨M1.toArray⟩ : ByteArray) ++ (⟨#[10]⟩ : ByteArray)) = ⟨N1.toArray⟩ := by rw [← hN1]; exact str_add M1 [10]
  have cb1 : ¬ 9223372036854775807 < M1.length + 1 := by omega
  have HN1 : Hid (lineB [[99, 111, 117, 110, 116, 101, 100], Lib.itoa r.c] = N1) := by unfold Hid; rw [line2, ← hN1, ← hM1, hD1]; simp
  obtain ⟨D2, hD2⟩ : ∃ D, Lib.itoa r.l = D := ⟨_, rfl⟩
  have lD2 : D2.length ≤ 21 := by rw [← hD2]; have := (itoa_len r.l ho.l); omega
  have HD2 : Hid (Lib.itoa r.l = D2) := hD2
  obtain ⟨M2, hM2⟩ : ∃ M, ([108, 105, 118, 101, 32] : List UInt8) ++ D2 = M := ⟨_, rfl⟩
  have lM2 : M2.length = 5 + D2.length := by rw [← hM2, List.length_append]; rfl
  have ea2 : ((⟨#[108, 105, 118, 101, 32]⟩ : ByteArray) ++ (⟨D2.toArray⟩ : ByteArray)) = ⟨M2.toArray⟩ := by rw [← hM2]; exact str_add [108, 105, 118, 101, 32] D2
  have ca2 : ¬ 9223372036854775807 < 5 + D2.length := by omega
  obtain ⟨N2, hN2⟩ : ∃ N, M2 ++ ([10] : List UInt8) = N := ⟨_, rfl⟩
  have eb2 : ((⟨M2.toArray⟩ : ByteArray) ++ (⟨#[10]⟩ : ByteArray)) = ⟨N2.toArray⟩ := by rw [← hN2]; exact str_add M2 [10]
  have cb2 : ¬ 9223372036854775807 < M2.length + 1 := by omega
  have HN2 : Hid (lineB [[108, 105, 118, 101], Lib.itoa r.l] = N2) := by unfold Hid; rw [line2, ← hN2, ← hM2, hD2]; simp
  obtain ⟨D3, hD3⟩ : ∃ D, Lib.itoa r.u = D := ⟨_, rfl⟩
  have lD3 : D3.length ≤ 21 := by rw [← hD3]; have := (itoa_len r.u ho.u); omega
  have HD3 : Hid (Lib.itoa r.u = D3) := hD3
  obtain ⟨M3, hM3⟩ : ∃ M, ([117, 115, 101, 100, 32] : List UInt8) ++ D3 = M := ⟨_, rfl⟩
  have lM3 : M3.length = 5 + D3.length := by rw [← hM3, List.length_append]; rfl
  have ea3 : ((⟨#[117, 115, 101, 100, 32]⟩ : ByteArray) ++ (⟨D3.toArray⟩ : ByteArray)) = ⟨M3.toArray⟩ := by rw [← hM3]; exact str_add [117, 115, 101, 100, 32] D3
  have ca3 : ¬ 9223372036854775807 < 5 + D3.length := by omega
  obtain ⟨N3, hN3⟩ : ∃ N, M3 ++ ([10] : List UInt8) = N := ⟨_, rfl⟩
  have eb3 : ((⟨M3.toArray⟩ : ByteArray) ++ (⟨#[10]⟩ : ByteArray)) = ⟨N3.toArray⟩ := by rw [← hN3]; exact str_add M3 [10]
  have cb3 : ¬ 9223372036854775807 < M3.length + 1 := by omega
  have HN3 : Hid (lineB [[117, 115, 101, 100], Lib.itoa r.u] = N3) := by unfold Hid; rw [line2, ← hN3, ← hM3, hD3]; simp
  obtain ⟨D4, hD4⟩ : ∃ D, Lib.itoa r.b = D := ⟨_, rfl⟩
  have lD4 : D4.length ≤ 21 := by rw [← hD4]; have := (itoa_len r.b ho.b); omega
  have HD4 : Hid (Lib.itoa r.b = D4) := hD4
  obtain ⟨M4, hM4⟩ : ∃ M, ([98, 97, 100, 32] : List UInt8) ++ D4 = M := ⟨_, rfl⟩
  have lM4 : M4.length = 4 + D4.length := by rw [← hM4, List.length_append]; rfl
  have ea4 : ((⟨#[98, 97, 100, 32]⟩ : ByteArray) ++ (⟨D4.toArray⟩ : ByteArray)) = ⟨M4.toArray⟩ := by rw [← hM4]; exact str_add [98, 97, 100, 32] D4
  have ca4 : ¬ 9223372036854775807 < 4 + D4.length := by omega
  obtain ⟨N4, hN4⟩ : ∃ N, M4 ++ ([10] : List UInt8) = N := ⟨_, rfl⟩
  have eb4 : ((⟨M4.toArray⟩ : ByteArray) ++ (⟨#[10]⟩ : ByteArray)) = ⟨N4.toArray⟩ := by rw [← hN4]; exact str_add M4 [10]
  have cb4 : ¬ 9223372036854775807 < M4.length + 1 := by omega
  have HN4 : Hid (lineB [[98, 97, 100], Lib.itoa r.b] = N4) := by unfold Hid; rw [line2, ← hN4, ← hM4, hD4]; simp
  clear hD0 hM0 hN0 lM0 hD1 hM1 hN1 lM1 hD2 hM2 hN2 lM2 hD3 hM3 hN3 lM3 hD4 hM4 hN4 lM4
  have HT : Hid (P10 w) := ht
  have HF0 : Hid ((w.alloc (.cells #[.int .u64 (r.fl : Int), .int .i64 r.c, .int .i64 r.l, .int .i64 r.u, .int .i64 r.b, .bool r.s, .slice a n c] 25)).heap[w.heap.size]? = some (.cells #[.int .u64 (r.fl : Int), .int .i64 r.c, .int .i64 r.l, .int .i64 r.u, .int .i64 r.b, .bool r.s, .slice a n c] 25 (0, 0))) := heap_alloc_new w _
  have HB0 : Hid (Below w.heap.size w (w.alloc (.cells #[.int .u64 (r.fl : Int), .int .i64 r.c, .int .i64 r.l, .int .i64 r.u, .int .i64 r.b, .bool r.s, .slice a n c] 25))) := below_alloc' w _
  have HBD : Hid (Below w.heap.size w (w.alloc (.cells #[.int .u64 (r.fl : Int), .int .i64 r.c, .int .i64 r.l, .int .i64 r.u, .int .i64 r.b, .bool r.s, .slice a n c] 25)).drew) := HB0.out.drew
  have HFD : Hid ((w.alloc (.cells #[.int .u64 (r.fl : Int), .int .i64 r.c, .int .i64 r.l, .int .i64 r.u, .int .i64 r.b, .bool r.s, .slice a n c] 25)).drew.heap[w.heap.size]? = some (.cells #[.int .u64 (r.fl : Int), .int .i64 r.c, .int .i64 r.l, .int .i64 r.u, .int .i64 r.b, .bool r.s, .slice a n c] 25 (0, 0))) := HF0.out
  have HSV : Hid (lineB [[115, 97, 118, 101, 100], savedB r.s] = if r.s then [115, 97, 118, 101, 100, 32, 121, 101, 115, 10] else [115, 97, 118, 101, 100, 32, 110, 111, 10]) := by unfold Hid; rw [line2]; cases r.s <;> rfl
  clear ht
  cases hs : r.s with
  | true =>
    have HL : Hid (headsL r = [N0, N1, N2, N3, N4, [115, 97, 118, 101, 100, 32, 121, 101, 115, 10]]) := by
      have h9 := HSV.out
      rw [hs] at h9
      unfold Hid headsL
      rw [HN0.out, HN1.out, HN2.out, HN3.out, HN4.out, hs, h9]
      rfl
    rw [hs] at HF0 HB0 HBD HFD
    clear hs HSV HN0 HN1 HN2 HN3 HN4
    obtain ⟨x0, x1, x2, x3, x4, x5, x6⟩ := cells7 HF0.out
    clear x0 x1 x2 x3 x4 x6
    go_enter Tryd.func22, Tryd.ntmps22
    go_upto_region 4 with fail
    clear x5
    refine wp_region_held_drew (S := (fun y : World => y.cell? ⟨w.heap.size, 0, none⟩ = some (.int .u64 (r.fl : Int)) ∧ y.cell? ⟨w.heap.size, 1, none⟩ = some (.int .i64 r.c) ∧ y.cell? ⟨w.heap.size, 2, none⟩ = some (.int .i64 r.l) ∧ y.cell? ⟨w.heap.size, 3, none⟩ = some (.int .i64 r.u) ∧ y.cell? ⟨w.heap.size, 4, none⟩ = some (.int .i64 r.b))) (by kernel_rfl) (cells75 HF0.out) (fun hHeld => ?_)
    refine wpAnyH_take (i := 0) (oi := { dst := some 6, op := Op.fieldAddr 25 (Operand.tmp 1) 0, type := 0, pos := "text.go:35", after := #[], guard := none }) (v := ?v0ht) rfl (by kernel_rfl) (by kernel_rfl) (by kernel_rfl) (fun _ _ _ h => h) (Or.inl ⟨by rfl, ?y0ht⟩) (by assumption) ?r0ht
    case y0ht => (intro x hx; (try dsimp only at hx); go_simp; try with_reducible rfl)
    try simp only [Act.put, List.setIfInBounds_toArray, List.set_cons_zero, List.set_cons_succ]
    refine wpAnyH_take (i := 1) (oi := { dst := some 7, op := Op.load 22 (Operand.tmp 6), type := 22, pos := "text.go:35", after := #[{ on := 0, ground := Ground.data }], guard := none }) (v := ?v1ht) rfl (by kernel_rfl) (by kernel_rfl) (by kernel_rfl) (fun _ _ _ h => h) (Or.inl ⟨by rfl, ?y1ht⟩) (by assumption) ?r1ht
    case y1ht => (intro x hx; (try dsimp only at hx); go_simp; try with_reducible rfl)
    try simp only [Act.put, List.setIfInBounds_toArray, List.set_cons_zero, List.set_cons_succ]
    refine wpAnyH_take (i := 5) (oi := { dst := some 11, op := Op.fieldAddr 25 (Operand.tmp 1) 1, type := 0, pos := "text.go:35", after := #[], guard := none }) (v := ?v5ht) rfl (by kernel_rfl) (by kernel_rfl) (by kernel_rfl) (fun _ _ _ h => h) (Or.inl ⟨by rfl, ?y5ht⟩) (by assumption) ?r5ht
    case y5ht => (intro x hx; (try dsimp only at hx); go_simp; try with_reducible rfl)
    try simp only [Act.put, List.setIfInBounds_toArray, List.set_cons_zero, List.set_cons_succ]
    refine wpAnyH_take (i := 6) (oi := { dst := some 12, op := Op.load 3 (Operand.tmp 11), type := 3, pos := "text.go:35", after := #[{ on := 5, ground := Ground.data }], guard := none }) (v := ?v6ht) rfl (by kernel_rfl) (by kernel_rfl) (by kernel_rfl) (fun _ _ _ h => h) (Or.inl ⟨by rfl, ?y6ht⟩) (by assumption) ?r6ht
    case y6ht => (intro x hx; (try dsimp only at hx); go_simp; try with_reducible rfl)
    try simp only [Act.put, List.setIfInBounds_toArray, List.set_cons_zero, List.set_cons_succ]
    refine wpAnyH_take (i := 10) (oi := { dst := some 16, op := Op.fieldAddr 25 (Operand.tmp 1) 2, type := 0, pos := "text.go:35", after := #[], guard := none }) (v := ?v10ht) rfl (by kernel_rfl) (by kernel_rfl) (by kernel_rfl) (fun _ _ _ h => h) (Or.inl ⟨by rfl, ?y10ht⟩) (by assumption) ?r10ht
    case y10ht => (intro x hx; (try dsimp only at hx); go_simp; try with_reducible rfl)
    try simp only [Act.put, List.setIfInBounds_toArray, List.set_cons_zero, List.set_cons_succ]
    refine wpAnyH_take (i := 11) (oi := { dst := some 17, op := Op.load 3 (Operand.tmp 16), type := 3, pos := "text.go:35", after := #[{ on := 10, ground := Ground.data }], guard := none }) (v := ?v11ht) rfl (by kernel_rfl) (by kernel_rfl) (by kernel_rfl) (fun _ _ _ h => h) (Or.inl ⟨by rfl, ?y11ht⟩) (by assumption) ?r11ht
    case y11ht => (intro x hx; (try dsimp only at hx); go_simp; try with_reducible rfl)
    try simp only [Act.put, List.setIfInBounds_toArray, List.set_cons_zero, List.set_cons_succ]
    refine wpAnyH_take (i := 15) (oi := { dst := some 21, op := Op.fieldAddr 25 (Operand.tmp 1) 3, type := 0, pos := "text.go:35", after := #[], guard := none }) (v := ?v15ht) rfl (by kernel_rfl) (by kernel_rfl) (by kernel_rfl) (fun _ _ _ h => h) (Or.inl ⟨by rfl, ?y15ht⟩) (by assumption) ?r15ht
    case y15ht => (intro x hx; (try dsimp only at hx); go_simp; try with_reducible rfl)
    try simp only [Act.put, List.setIfInBounds_toArray, List.set_cons_zero, List.set_cons_succ]
    refine wpAnyH_take (i := 16) (oi := { dst := some 22, op := Op.load 3 (Operand.tmp 21), type := 3, pos := "text.go:35", after := #[{ on := 15, ground := Ground.data }], guard := none }) (v := ?v16ht) rfl (by kernel_rfl) (by kernel_rfl) (by kernel_rfl) (fun _ _ _ h => h) (Or.inl ⟨by rfl, ?y16ht⟩) (by assumption) ?r16ht
    case y16ht => (intro x hx; (try dsimp only at hx); go_simp; try with_reducible rfl)
    try simp only [Act.put, List.setIfInBounds_toArray, List.set_cons_zero, List.set_cons_succ]
    refine wpAnyH_take (i := 20) (oi := { dst := some 26, op := Op.fieldAddr 25 (Operand.tmp 1) 4, type := 0, pos := "text.go:35", after := #[], guard := none }) (v := ?v20ht) rfl (by kernel_rfl) (by kernel_rfl) (by kernel_rfl) (fun _ _ _ h => h) (Or.inl ⟨by rfl, ?y20ht⟩) (by assumption) ?r20ht
    case y20ht => (intro x hx; (try dsimp only at hx); go_simp; try with_reducible rfl)
    try simp only [Act.put, List.setIfInBounds_toArray, List.set_cons_zero, List.set_cons_succ]
    refine wpAnyH_take (i := 21) (oi := { dst := some 27, op := Op.load 3 (Operand.tmp 26), type := 3, pos := "text.go:35", after := #[{ on := 20, ground := Ground.data }], guard := none }) (v := ?v21ht) rfl (by kernel_rfl) (by kernel_rfl) (by kernel_rfl) (fun _ _ _ h => h) (Or.inl ⟨by rfl, ?y21ht⟩) (by assumption) ?r21ht
    case y21ht => (intro x hx; (try dsimp only at hx); go_simp; try with_reducible rfl)
    try simp only [Act.put, List.setIfInBounds_toArray, List.set_cons_zero, List.set_cons_succ]
    refine wpAnyH_take (i := 25) (oi := { dst := some 31, op := Op.move (Operand.tmp 3), type := 9, pos := "text.go:35", after := #[], guard := none }) (v := ?v25ht) rfl (by kernel_rfl) (by kernel_rfl) (by kernel_rfl) (fun _ _ _ h => h) (Or.inl ⟨by rfl, ?y25ht⟩) (by assumption) ?r25ht
    case y25ht => (intro x hx; (try dsimp only at hx); go_simp; try with_reducible rfl)
    try simp only [Act.put, List.setIfInBounds_toArray, List.set_cons_zero, List.set_cons_succ]
    refine wpAnyH_ready (rs := [2]) (by kernel_rfl) (by simp) ?_
    refine AllReadyH.cons (o := { dst := some 8, op := Op.call { callee := Callee.value (Operand.func 17), args := #[Operand.tmp 7, Operand.const (Value.int IntKind.i64 10)], argTypes := #[22, 3] }, type := 9, pos := "text.go:35", after := #[{ on := 1, ground := Ground.data }], guard := none }) rfl (fun K hK => ?_) AllReadyH.nil
    go_simp
    refine (fmtu_any r.fl ho.fl _ (p10_below HT.out HBD.out)).mono ?_; rintro e z1 ⟨rfl, bl⟩; rw [HD0.out]
    have HB1 : Hid (Below w.heap.size w z1) := HBD.out.trans (below_low bl HBD.out.size)
    have HF1 : Hid (z1.heap[w.heap.size]? = some (.cells #[.int .u64 (r.fl : Int), .int .i64 r.c, .int .i64 r.l, .int .i64 r.u, .int .i64 r.b, .bool true, .slice a n c] 25 (0, 0))) := (bl.block _ (Array.getElem?_eq_some_iff.1 HFD.out).1).trans HFD.out
    have hSnew := cells75 HF1.out
    clear bl
    go_wp2_with fail
    refine hK.out _ _ hSnew (fun hHeld2 => ?_)
    clear hK K hSnew
    clear hHeld
    have hHeld := hHeld2
    clear hHeld2
    try simp only [Act.put, List.setIfInBounds_toArray, List.set_cons_zero, List.set_cons_succ]
    refine wpAnyH_take (i := 3) (oi := { dst := some 9, op := Op.binOp BinOp.add 9 (Operand.const (Value.string { data := #[102, 108, 111, 111, 114, 32] })) (Operand.tmp 8) 9, type := 9, pos := "text.go:35", after := #[{ on := 2, ground := Ground.data }], guard := none }) (v := ?v3ht) rfl (by kernel_rfl) (by kernel_rfl) (by kernel_rfl) (fun _ _ _ h => h) (Or.inl ⟨by rfl, ?y3ht⟩) (by assumption) ?r3ht
    case y3ht => (intro x hx; (try dsimp only at hx); go_simp; try with_reducible rfl)
    try simp only [Act.put, List.setIfInBounds_toArray, List.set_cons_zero, List.set_cons_succ]
    refine wpAnyH_take (i := 4) (oi := { dst := some 10, op := Op.binOp BinOp.add 9 (Operand.tmp 9) (Operand.const (Value.string { data := #[10] })) 9, type := 9, pos := "text.go:35", after := #[{ on := 3, ground := Ground.data }], guard := none }) (v := ?v4ht) rfl (by kernel_rfl) (by kernel_rfl) (by kernel_rfl) (fun _ _ _ h => h) (Or.inl ⟨by rfl, ?y4ht⟩) (by assumption) ?r4ht
    case y4ht => (intro x hx; (try dsimp only at hx); go_simp; try with_reducible rfl)
    try simp only [Act.put, List.setIfInBounds_toArray, List.set_cons_zero, List.set_cons_succ]
    refine wpAnyH_ready (rs := [7]) (by kernel_rfl) (by simp) ?_
    refine AllReadyH.cons (o := { dst := some 13, op := Op.call { callee := Callee.value (Operand.func 18), args := #[Operand.tmp 12], argTypes := #[3] }, type := 9, pos := "text.go:35", after := #[{ on := 6, ground := Ground.data }, { on := 2, ground := Ground.chain }], guard := none }) rfl (fun K hK => ?_) AllReadyH.nil
    go_simp
    refine (itoa_any r.c ho.c.1 ho.c.2 _ (p10_below HT.out HB1.out)).mono ?_; rintro e z2 ⟨rfl, bl⟩; rw [HD1.out]
    have HB2 : Hid (Below w.heap.size w z2) := HB1.out.trans (below_low bl HB1.out.size)
    have HF2 : Hid (z2.heap[w.heap.size]? = some (.cells #[.int .u64 (r.fl : Int), .int .i64 r.c, .int .i64 r.l, .int .i64 r.u, .int .i64 r.b, .bool true, .slice a n c] 25 (0, 0))) := (bl.block _ (Array.getElem?_eq_some_iff.1 HF1.out).1).trans HF1.out
    have hSnew := cells75 HF2.out
    clear bl
    go_wp2_with fail
    refine hK.out _ _ hSnew (fun hHeld7 => ?_)
    clear hK K hSnew
    clear hHeld
    have hHeld := hHeld7
    clear hHeld7
    try simp only [Act.put, List.setIfInBounds_toArray, List.set_cons_zero, List.set_cons_succ]
    refine wpAnyH_take (i := 8) (oi := { dst := some 14, op := Op.binOp BinOp.add 9 (Operand.const (Value.string { data := #[99, 111, 117, 110, 116, 101, 100, 32] })) (Operand.tmp 13) 9, type := 9, pos := "text.go:35", after := #[{ on := 7, ground := Ground.data }], guard := none }) (v := ?v8ht) rfl (by kernel_rfl) (by kernel_rfl) (by kernel_rfl) (fun _ _ _ h => h) (Or.inl ⟨by rfl, ?y8ht⟩) (by assumption) ?r8ht
    case y8ht => (intro x hx; (try dsimp only at hx); go_simp; try with_reducible rfl)
    try simp only [Act.put, List.setIfInBounds_toArray, List.set_cons_zero, List.set_cons_succ]
    refine wpAnyH_take (i := 9) (oi := { dst := some 15, op := Op.binOp BinOp.add 9 (Operand.tmp 14) (Operand.const (Value.string { data := #[10] })) 9, type := 9, pos := "text.go:35", after := #[{ on := 8, ground := Ground.data }], guard := none }) (v := ?v9ht) rfl (by kernel_rfl) (by kernel_rfl) (by kernel_rfl) (fun _ _ _ h => h) (Or.inl ⟨by rfl, ?y9ht⟩) (by assumption) ?r9ht
    case y9ht => (intro x hx; (try dsimp only at hx); go_simp; try with_reducible rfl)
    try simp only [Act.put, List.setIfInBounds_toArray, List.set_cons_zero, List.set_cons_succ]
    refine wpAnyH_ready (rs := [12]) (by kernel_rfl) (by simp) ?_
    refine AllReadyH.cons (o := { dst := some 18, op := Op.call { callee := Callee.value (Operand.func 18), args := #[Operand.tmp 17], argTypes := #[3] }, type := 9, pos := "text.go:35", after := #[{ on := 11, ground := Ground.data }, { on := 7, ground := Ground.chain }], guard := none }) rfl (fun K hK => ?_) AllReadyH.nil
    go_simp
    refine (itoa_any r.l ho.l.1 ho.l.2 _ (p10_below HT.out HB2.out)).mono ?_; rintro e z3 ⟨rfl, bl⟩; rw [HD2.out]
    have HB3 : Hid (Below w.heap.size w z3) := HB2.out.trans (below_low bl HB2.out.size)
    have HF3 : Hid (z3.heap[w.heap.size]? = some (.cells #[.int .u64 (r.fl : Int), .int .i64 r.c, .int .i64 r.l, .int .i64 r.u, .int .i64 r.b, .bool true, .slice a n c] 25 (0, 0))) := (bl.block _ (Array.getElem?_eq_some_iff.1 HF2.out).1).trans HF2.out
    have hSnew := cells75 HF3.out
    clear bl
    go_wp2_with fail
    refine hK.out _ _ hSnew (fun hHeld12 => ?_)
    clear hK K hSnew
    clear hHeld
    have hHeld := hHeld12
    clear hHeld12
    try simp only [Act.put, List.setIfInBounds_toArray, List.set_cons_zero, List.set_cons_succ]
    refine wpAnyH_take (i := 13) (oi := { dst := some 19, op := Op.binOp BinOp.add 9 (Operand.const (Value.string { data := #[108, 105, 118, 101, 32] })) (Operand.tmp 18) 9, type := 9, pos := "text.go:35", after := #[{ on := 12, ground := Ground.data }], guard := none }) (v := ?v13ht) rfl (by kernel_rfl) (by kernel_rfl) (by kernel_rfl) (fun _ _ _ h => h) (Or.inl ⟨by rfl, ?y13ht⟩) (by assumption) ?r13ht
    case y13ht => (intro x hx; (try dsimp only at hx); go_simp; try with_reducible rfl)
    try simp only [Act.put, List.setIfInBounds_toArray, List.set_cons_zero, List.set_cons_succ]
    refine wpAnyH_take (i := 14) (oi := { dst := some 20, op := Op.binOp BinOp.add 9 (Operand.tmp 19) (Operand.const (Value.string { data := #[10] })) 9, type := 9, pos := "text.go:35", after := #[{ on := 13, ground := Ground.data }], guard := none }) (v := ?v14ht) rfl (by kernel_rfl) (by kernel_rfl) (by kernel_rfl) (fun _ _ _ h => h) (Or.inl ⟨by rfl, ?y14ht⟩) (by assumption) ?r14ht
    case y14ht => (intro x hx; (try dsimp only at hx); go_simp; try with_reducible rfl)
    try simp only [Act.put, List.setIfInBounds_toArray, List.set_cons_zero, List.set_cons_succ]
    refine wpAnyH_ready (rs := [17]) (by kernel_rfl) (by simp) ?_
    refine AllReadyH.cons (o := { dst := some 23, op := Op.call { callee := Callee.value (Operand.func 18), args := #[Operand.tmp 22], argTypes := #[3] }, type := 9, pos := "text.go:35", after := #[{ on := 16, ground := Ground.data }, { on := 12, ground := Ground.chain }], guard := none }) rfl (fun K hK => ?_) AllReadyH.nil
    go_simp
    refine (itoa_any r.u ho.u.1 ho.u.2 _ (p10_below HT.out HB3.out)).mono ?_; rintro e z4 ⟨rfl, bl⟩; rw [HD3.out]
    have HB4 : Hid (Below w.heap.size w z4) := HB3.out.trans (below_low bl HB3.out.size)
    have HF4 : Hid (z4.heap[w.heap.size]? = some (.cells #[.int .u64 (r.fl : Int), .int .i64 r.c, .int .i64 r.l, .int .i64 r.u, .int .i64 r.b, .bool true, .slice a n c] 25 (0, 0))) := (bl.block _ (Array.getElem?_eq_some_iff.1 HF3.out).1).trans HF3.out
    have hSnew := cells75 HF4.out
    clear bl
    go_wp2_with fail
    refine hK.out _ _ hSnew (fun hHeld17 => ?_)
    clear hK K hSnew
    clear hHeld
    have hHeld := hHeld17
    clear hHeld17
    try simp only [Act.put, List.setIfInBounds_toArray, List.set_cons_zero, List.set_cons_succ]
    refine wpAnyH_take (i := 18) (oi := { dst := some 24, op := Op.binOp BinOp.add 9 (Operand.const (Value.string { data := #[117, 115, 101, 100, 32] })) (Operand.tmp 23) 9, type := 9, pos := "text.go:35", after := #[{ on := 17, ground := Ground.data }], guard := none }) (v := ?v18ht) rfl (by kernel_rfl) (by kernel_rfl) (by kernel_rfl) (fun _ _ _ h => h) (Or.inl ⟨by rfl, ?y18ht⟩) (by assumption) ?r18ht
    case y18ht => (intro x hx; (try dsimp only at hx); go_simp; try with_reducible rfl)
    try simp only [Act.put, List.setIfInBounds_toArray, List.set_cons_zero, List.set_cons_succ]
    refine wpAnyH_take (i := 19) (oi := { dst := some 25, op := Op.binOp BinOp.add 9 (Operand.tmp 24) (Operand.const (Value.string { data := #[10] })) 9, type := 9, pos := "text.go:35", after := #[{ on := 18, ground := Ground.data }], guard := none }) (v := ?v19ht) rfl (by kernel_rfl) (by kernel_rfl) (by kernel_rfl) (fun _ _ _ h => h) (Or.inl ⟨by rfl, ?y19ht⟩) (by assumption) ?r19ht
    case y19ht => (intro x hx; (try dsimp only at hx); go_simp; try with_reducible rfl)
    try simp only [Act.put, List.setIfInBounds_toArray, List.set_cons_zero, List.set_cons_succ]
    refine wpAnyH_ready (rs := [22]) (by kernel_rfl) (by simp) ?_
    refine AllReadyH.cons (o := { dst := some 28, op := Op.call { callee := Callee.value (Operand.func 18), args := #[Operand.tmp 27], argTypes := #[3] }, type := 9, pos := "text.go:35", after := #[{ on := 21, ground := Ground.data }, { on := 17, ground := Ground.chain }], guard := none }) rfl (fun K hK => ?_) AllReadyH.nil
    go_simp
    refine (itoa_any r.b ho.b.1 ho.b.2 _ (p10_below HT.out HB4.out)).mono ?_; rintro e z5 ⟨rfl, bl⟩; rw [HD4.out]
    have HB5 : Hid (Below w.heap.size w z5) := HB4.out.trans (below_low bl HB4.out.size)
    have HF5 : Hid (z5.heap[w.heap.size]? = some (.cells #[.int .u64 (r.fl : Int), .int .i64 r.c, .int .i64 r.l, .int .i64 r.u, .int .i64 r.b, .bool true, .slice a n c] 25 (0, 0))) := (bl.block _ (Array.getElem?_eq_some_iff.1 HF4.out).1).trans HF4.out
    have hSnew := cells75 HF5.out
    clear bl
    go_wp2_with fail
    refine hK.out _ _ hSnew (fun hHeld22 => ?_)
    clear hK K hSnew
    clear hHeld
    have hHeld := hHeld22
    clear hHeld22
    try simp only [Act.put, List.setIfInBounds_toArray, List.set_cons_zero, List.set_cons_succ]
    refine wpAnyH_take (i := 23) (oi := { dst := some 29, op := Op.binOp BinOp.add 9 (Operand.const (Value.string { data := #[98, 97, 100, 32] })) (Operand.tmp 28) 9, type := 9, pos := "text.go:35", after := #[{ on := 22, ground := Ground.data }], guard := none }) (v := ?v23ht) rfl (by kernel_rfl) (by kernel_rfl) (by kernel_rfl) (fun _ _ _ h => h) (Or.inl ⟨by rfl, ?y23ht⟩) (by assumption) ?r23ht
    case y23ht => (intro x hx; (try dsimp only at hx); go_simp; try with_reducible rfl)
    try simp only [Act.put, List.setIfInBounds_toArray, List.set_cons_zero, List.set_cons_succ]
    refine wpAnyH_take (i := 24) (oi := { dst := some 30, op := Op.binOp BinOp.add 9 (Operand.tmp 29) (Operand.const (Value.string { data := #[10] })) 9, type := 9, pos := "text.go:35", after := #[{ on := 23, ground := Ground.data }], guard := none }) (v := ?v24ht) rfl (by kernel_rfl) (by kernel_rfl) (by kernel_rfl) (fun _ _ _ h => h) (Or.inl ⟨by rfl, ?y24ht⟩) (by assumption) ?r24ht
    case y24ht => (intro x hx; (try dsimp only at hx); go_simp; try with_reducible rfl)
    try simp only [Act.put, List.setIfInBounds_toArray, List.set_cons_zero, List.set_cons_succ]
    refine wpAnyH_ready (rs := [26]) (by kernel_rfl) (by simp) ?_
    refine AllReadyH.cons (o := { dst := some 32, op := Op.buildSlice 46 6 #[(0, Operand.tmp 10), (1, Operand.tmp 15), (2, Operand.tmp 20), (3, Operand.tmp 25), (4, Operand.tmp 30), (5, Operand.tmp 31)], type := 46, pos := "text.go:35", after := #[{ on := 4, ground := Ground.data }, { on := 9, ground := Ground.data }, { on := 14, ground := Ground.data }, { on := 19, ground := Ground.data }, { on := 24, ground := Ground.data }, { on := 25, ground := Ground.data }], guard := none }) rfl (fun K hK => ?_) AllReadyH.nil
    go_simp
    go_wp2_with fail
    have hSnew : (z5.alloc (.cells #[.string ⟨N0.toArray⟩, .string ⟨N1.toArray⟩, .string ⟨N2.toArray⟩, .string ⟨N3.toArray⟩, .string ⟨N4.toArray⟩, .string ⟨#[115, 97, 118, 101, 100, 32, 121, 101, 115, 10]⟩] 9)).cell? ⟨w.heap.size, 0, none⟩ = some (.int .u64 (r.fl : Int)) ∧ (z5.alloc (.cells #[.string ⟨N0.toArray⟩, .string ⟨N1.toArray⟩, .string ⟨N2.toArray⟩, .string ⟨N3.toArray⟩, .string ⟨N4.toArray⟩, .string ⟨#[115, 97, 118, 101, 100, 32, 121, 101, 115, 10]⟩] 9)).cell? ⟨w.heap.size, 1, none⟩ = some (.int .i64 r.c) ∧ (z5.alloc (.cells #[.string ⟨N0.toArray⟩, .string ⟨N1.toArray⟩, .string ⟨N2.toArray⟩, .string ⟨N3.toArray⟩, .string ⟨N4.toArray⟩, .string ⟨#[115, 97, 118, 101, 100, 32, 121, 101, 115, 10]⟩] 9)).cell? ⟨w.heap.size, 2, none⟩ = some (.int .i64 r.l) ∧ (z5.alloc (.cells #[.string ⟨N0.toArray⟩, .string ⟨N1.toArray⟩, .string ⟨N2.toArray⟩, .string ⟨N3.toArray⟩, .string ⟨N4.toArray⟩, .string ⟨#[115, 97, 118, 101, 100, 32, 121, 101, 115, 10]⟩] 9)).cell? ⟨w.heap.size, 3, none⟩ = some (.int .i64 r.u) ∧ (z5.alloc (.cells #[.string ⟨N0.toArray⟩, .string ⟨N1.toArray⟩, .string ⟨N2.toArray⟩, .string ⟨N3.toArray⟩, .string ⟨N4.toArray⟩, .string ⟨#[115, 97, 118, 101, 100, 32, 121, 101, 115, 10]⟩] 9)).cell? ⟨w.heap.size, 4, none⟩ = some (.int .i64 r.b) := cells75 ((Below.heap_alloc z5 _ _ (Array.getElem?_eq_some_iff.1 HF5.out).1).trans HF5.out)
    refine hK.out _ _ hSnew (fun hHeld26 => ?_)
    clear hK K hSnew
    clear hHeld
    have hHeld := hHeld26
    clear hHeld26
    try simp only [Act.put, List.setIfInBounds_toArray, List.set_cons_zero, List.set_cons_succ]
    refine wpAnyH_take (i := 27) (oi := { dst := some 2, op := Op.assign (Operand.tmp 32), type := 46, pos := "text.go:35", after := #[{ on := 26, ground := Ground.data }, { on := 22, ground := Ground.chain }, { on := 0, ground := Ground.phase }, { on := 1, ground := Ground.phase }, { on := 2, ground := Ground.phase }, { on := 3, ground := Ground.phase }, { on := 4, ground := Ground.phase }, { on := 5, ground := Ground.phase }, { on := 6, ground := Ground.phase }, { on := 7, ground := Ground.phase }, { on := 8, ground := Ground.phase }, { on := 9, ground := Ground.phase }, { on := 10, ground := Ground.phase }, { on := 11, ground := Ground.phase }, { on := 12, ground := Ground.phase }, { on := 13, ground := Ground.phase }, { on := 14, ground := Ground.phase }, { on := 15, ground := Ground.phase }, { on := 16, ground := Ground.phase }, { on := 17, ground := Ground.phase }, { on := 18, ground := Ground.phase }, { on := 19, ground := Ground.phase }, { on := 20, ground := Ground.phase }, { on := 21, ground := Ground.phase }, { on := 22, ground := Ground.phase }, { on := 23, ground := Ground.phase }, { on := 24, ground := Ground.phase }, { on := 25, ground := Ground.phase }, { on := 26, ground := Ground.phase }], guard := none }) (v := ?v27ht) rfl (by kernel_rfl) (by kernel_rfl) (by kernel_rfl) (fun _ _ _ h => h) (Or.inl ⟨by rfl, ?y27ht⟩) (by assumption) ?r27ht
    case y27ht => (intro x hx; (try dsimp only at hx); go_simp; try with_reducible rfl)
    try simp only [Act.put, List.setIfInBounds_toArray, List.set_cons_zero, List.set_cons_succ]
    refine wpAnyH_done (by kernel_rfl) ?_ _
    clear hHeld
    go_wp2_with fail
    go_ret
    refine ⟨z5.heap.size, rfl, fun i hi => ?_, HB5.out.trans (below_low (below_alloc' z5 _) HB5.out.size)⟩
    rw [HL.out]
    have h9 := heap_alloc_new z5 (.cells #[.string ⟨N0.toArray⟩, .string ⟨N1.toArray⟩, .string ⟨N2.toArray⟩, .string ⟨N3.toArray⟩, .string ⟨N4.toArray⟩, .string ⟨#[115, 97, 118, 101, 100, 32, 121, 101, 115, 10]⟩] 9)
    simp only [World.cell?, h9]
    match i, hi with
    | 0, _ => rfl
    | 1, _ => rfl
    | 2, _ => rfl
    | 3, _ => rfl
    | 4, _ => rfl
    | 5, _ => rfl
  | false =>
    have HL : Hid (headsL r = [N0, N1, N2, N3, N4, [115, 97, 118, 101, 100, 32, 110, 111, 10]]) := by
      have h9 := HSV.out
      rw [hs] at h9
      unfold Hid headsL
      rw [HN0.out, HN1.out, HN2.out, HN3.out, HN4.out, hs, h9]
      rfl
    rw [hs] at HF0 HB0 HBD HFD
    clear hs HSV HN0 HN1 HN2 HN3 HN4
    obtain ⟨x0, x1, x2, x3, x4, x5, x6⟩ := cells7 HF0.out
    clear x0 x1 x2 x3 x4 x6
    go_enter Tryd.func22, Tryd.ntmps22
    go_upto_region 4 with fail
    clear x5
    refine wp_region_held_drew (S := (fun y : World => y.cell? ⟨w.heap.size, 0, none⟩ = some (.int .u64 (r.fl : Int)) ∧ y.cell? ⟨w.heap.size, 1, none⟩ = some (.int .i64 r.c) ∧ y.cell? ⟨w.heap.size, 2, none⟩ = some (.int .i64 r.l) ∧ y.cell? ⟨w.heap.size, 3, none⟩ = some (.int .i64 r.u) ∧ y.cell? ⟨w.heap.size, 4, none⟩ = some (.int .i64 r.b))) (by kernel_rfl) (cells75 HF0.out) (fun hHeld => ?_)
    refine wpAnyH_take (i := 0) (oi := { dst := some 6, op := Op.fieldAddr 25 (Operand.tmp 1) 0, type := 0, pos := "text.go:35", after := #[], guard := none }) (v := ?v0hf) rfl (by kernel_rfl) (by kernel_rfl) (by kernel_rfl) (fun _ _ _ h => h) (Or.inl ⟨by rfl, ?y0hf⟩) (by assumption) ?r0hf
    case y0hf => (intro x hx; (try dsimp only at hx); go_simp; try with_reducible rfl)
    try simp only [Act.put, List.setIfInBounds_toArray, List.set_cons_zero, List.set_cons_succ]
    refine wpAnyH_take (i := 1) (oi := { dst := some 7, op := Op.load 22 (Operand.tmp 6), type := 22, pos := "text.go:35", after := #[{ on := 0, ground := Ground.data }], guard := none }) (v := ?v1hf) rfl (by kernel_rfl) (by kernel_rfl) (by kernel_rfl) (fun _ _ _ h => h) (Or.inl ⟨by rfl, ?y1hf⟩) (by assumption) ?r1hf
    case y1hf => (intro x hx; (try dsimp only at hx); go_simp; try with_reducible rfl)
    try simp only [Act.put, List.setIfInBounds_toArray, List.set_cons_zero, List.set_cons_succ]
    refine wpAnyH_take (i := 5) (oi := { dst := some 11, op := Op.fieldAddr 25 (Operand.tmp 1) 1, type := 0, pos := "text.go:35", after := #[], guard := none }) (v := ?v5hf) rfl (by kernel_rfl) (by kernel_rfl) (by kernel_rfl) (fun _ _ _ h => h) (Or.inl ⟨by rfl, ?y5hf⟩) (by assumption) ?r5hf
    case y5hf => (intro x hx; (try dsimp only at hx); go_simp; try with_reducible rfl)
    try simp only [Act.put, List.setIfInBounds_toArray, List.set_cons_zero, List.set_cons_succ]
    refine wpAnyH_take (i := 6) (oi := { dst := some 12, op := Op.load 3 (Operand.tmp 11), type := 3, pos := "text.go:35", after := #[{ on := 5, ground := Ground.data }], guard := none }) (v := ?v6hf) rfl (by kernel_rfl) (by kernel_rfl) (by kernel_rfl) (fun _ _ _ h => h) (Or.inl ⟨by rfl, ?y6hf⟩) (by assumption) ?r6hf
    case y6hf => (intro x hx; (try dsimp only at hx); go_simp; try with_reducible rfl)
    try simp only [Act.put, List.setIfInBounds_toArray, List.set_cons_zero, List.set_cons_succ]
    refine wpAnyH_take (i := 10) (oi := { dst := some 16, op := Op.fieldAddr 25 (Operand.tmp 1) 2, type := 0, pos := "text.go:35", after := #[], guard := none }) (v := ?v10hf) rfl (by kernel_rfl) (by kernel_rfl) (by kernel_rfl) (fun _ _ _ h => h) (Or.inl ⟨by rfl, ?y10hf⟩) (by assumption) ?r10hf
    case y10hf => (intro x hx; (try dsimp only at hx); go_simp; try with_reducible rfl)
    try simp only [Act.put, List.setIfInBounds_toArray, List.set_cons_zero, List.set_cons_succ]
    refine wpAnyH_take (i := 11) (oi := { dst := some 17, op := Op.load 3 (Operand.tmp 16), type := 3, pos := "text.go:35", after := #[{ on := 10, ground := Ground.data }], guard := none }) (v := ?v11hf) rfl (by kernel_rfl) (by kernel_rfl) (by kernel_rfl) (fun _ _ _ h => h) (Or.inl ⟨by rfl, ?y11hf⟩) (by assumption) ?r11hf
    case y11hf => (intro x hx; (try dsimp only at hx); go_simp; try with_reducible rfl)
    try simp only [Act.put, List.setIfInBounds_toArray, List.set_cons_zero, List.set_cons_succ]
    refine wpAnyH_take (i := 15) (oi := { dst := some 21, op := Op.fieldAddr 25 (Operand.tmp 1) 3, type := 0, pos := "text.go:35", after := #[], guard := none }) (v := ?v15hf) rfl (by kernel_rfl) (by kernel_rfl) (by kernel_rfl) (fun _ _ _ h => h) (Or.inl ⟨by rfl, ?y15hf⟩) (by assumption) ?r15hf
    case y15hf => (intro x hx; (try dsimp only at hx); go_simp; try with_reducible rfl)
    try simp only [Act.put, List.setIfInBounds_toArray, List.set_cons_zero, List.set_cons_succ]
    refine wpAnyH_take (i := 16) (oi := { dst := some 22, op := Op.load 3 (Operand.tmp 21), type := 3, pos := "text.go:35", after := #[{ on := 15, ground := Ground.data }], guard := none }) (v := ?v16hf) rfl (by kernel_rfl) (by kernel_rfl) (by kernel_rfl) (fun _ _ _ h => h) (Or.inl ⟨by rfl, ?y16hf⟩) (by assumption) ?r16hf
    case y16hf => (intro x hx; (try dsimp only at hx); go_simp; try with_reducible rfl)
    try simp only [Act.put, List.setIfInBounds_toArray, List.set_cons_zero, List.set_cons_succ]
    refine wpAnyH_take (i := 20) (oi := { dst := some 26, op := Op.fieldAddr 25 (Operand.tmp 1) 4, type := 0, pos := "text.go:35", after := #[], guard := none }) (v := ?v20hf) rfl (by kernel_rfl) (by kernel_rfl) (by kernel_rfl) (fun _ _ _ h => h) (Or.inl ⟨by rfl, ?y20hf⟩) (by assumption) ?r20hf
    case y20hf => (intro x hx; (try dsimp only at hx); go_simp; try with_reducible rfl)
    try simp only [Act.put, List.setIfInBounds_toArray, List.set_cons_zero, List.set_cons_succ]
    refine wpAnyH_take (i := 21) (oi := { dst := some 27, op := Op.load 3 (Operand.tmp 26), type := 3, pos := "text.go:35", after := #[{ on := 20, ground := Ground.data }], guard := none }) (v := ?v21hf) rfl (by kernel_rfl) (by kernel_rfl) (by kernel_rfl) (fun _ _ _ h => h) (Or.inl ⟨by rfl, ?y21hf⟩) (by assumption) ?r21hf
    case y21hf => (intro x hx; (try dsimp only at hx); go_simp; try with_reducible rfl)
    try simp only [Act.put, List.setIfInBounds_toArray, List.set_cons_zero, List.set_cons_succ]
    refine wpAnyH_take (i := 25) (oi := { dst := some 31, op := Op.move (Operand.tmp 3), type := 9, pos := "text.go:35", after := #[], guard := none }) (v := ?v25hf) rfl (by kernel_rfl) (by kernel_rfl) (by kernel_rfl) (fun _ _ _ h => h) (Or.inl ⟨by rfl, ?y25hf⟩) (by assumption) ?r25hf
    case y25hf => (intro x hx; (try dsimp only at hx); go_simp; try with_reducible rfl)
    try simp only [Act.put, List.setIfInBounds_toArray, List.set_cons_zero, List.set_cons_succ]
    refine wpAnyH_ready (rs := [2]) (by kernel_rfl) (by simp) ?_
    refine AllReadyH.cons (o := { dst := some 8, op := Op.call { callee := Callee.value (Operand.func 17), args := #[Operand.tmp 7, Operand.const (Value.int IntKind.i64 10)], argTypes := #[22, 3] }, type := 9, pos := "text.go:35", after := #[{ on := 1, ground := Ground.data }], guard := none }) rfl (fun K hK => ?_) AllReadyH.nil
    go_simp
    refine (fmtu_any r.fl ho.fl _ (p10_below HT.out HBD.out)).mono ?_; rintro e z1 ⟨rfl, bl⟩; rw [HD0.out]
    have HB1 : Hid (Below w.heap.size w z1) := HBD.out.trans (below_low bl HBD.out.size)
    have HF1 : Hid (z1.heap[w.heap.size]? = some (.cells #[.int .u64 (r.fl : Int), .int .i64 r.c, .int .i64 r.l, .int .i64 r.u, .int .i64 r.b, .bool false, .slice a n c] 25 (0, 0))) := (bl.block _ (Array.getElem?_eq_some_iff.1 HFD.out).1).trans HFD.out
    have hSnew := cells75 HF1.out
    clear bl
    go_wp2_with fail
    refine hK.out _ _ hSnew (fun hHeld2 => ?_)
    clear hK K hSnew
    clear hHeld
    have hHeld := hHeld2
    clear hHeld2
    try simp only [Act.put, List.setIfInBounds_toArray, List.set_cons_zero, List.set_cons_succ]
    refine wpAnyH_take (i := 3) (oi := { dst := some 9, op := Op.binOp BinOp.add 9 (Operand.const (Value.string { data := #[102, 108, 111, 111, 114, 32] })) (Operand.tmp 8) 9, type := 9, pos := "text.go:35", after := #[{ on := 2, ground := Ground.data }], guard := none }) (v := ?v3hf) rfl (by kernel_rfl) (by kernel_rfl) (by kernel_rfl) (fun _ _ _ h => h) (Or.inl ⟨by rfl, ?y3hf⟩) (by assumption) ?r3hf
    case y3hf => (intro x hx; (try dsimp only at hx); go_simp; try with_reducible rfl)
    try simp only [Act.put, List.setIfInBounds_toArray, List.set_cons_zero, List.set_cons_succ]
    refine wpAnyH_take (i := 4) (oi := { dst := some 10, op := Op.binOp BinOp.add 9 (Operand.tmp 9) (Operand.const (Value.string { data := #[10] })) 9, type := 9, pos := "text.go:35", after := #[{ on := 3, ground := Ground.data }], guard := none }) (v := ?v4hf) rfl (by kernel_rfl) (by kernel_rfl) (by kernel_rfl) (fun _ _ _ h => h) (Or.inl ⟨by rfl, ?y4hf⟩) (by assumption) ?r4hf
    case y4hf => (intro x hx; (try dsimp only at hx); go_simp; try with_reducible rfl)
    try simp only [Act.put, List.setIfInBounds_toArray, List.set_cons_zero, List.set_cons_succ]
    refine wpAnyH_ready (rs := [7]) (by kernel_rfl) (by simp) ?_
    refine AllReadyH.cons (o := { dst := some 13, op := Op.call { callee := Callee.value (Operand.func 18), args := #[Operand.tmp 12], argTypes := #[3] }, type := 9, pos := "text.go:35", after := #[{ on := 6, ground := Ground.data }, { on := 2, ground := Ground.chain }], guard := none }) rfl (fun K hK => ?_) AllReadyH.nil
    go_simp
    refine (itoa_any r.c ho.c.1 ho.c.2 _ (p10_below HT.out HB1.out)).mono ?_; rintro e z2 ⟨rfl, bl⟩; rw [HD1.out]
    have HB2 : Hid (Below w.heap.size w z2) := HB1.out.trans (below_low bl HB1.out.size)
    have HF2 : Hid (z2.heap[w.heap.size]? = some (.cells #[.int .u64 (r.fl : Int), .int .i64 r.c, .int .i64 r.l, .int .i64 r.u, .int .i64 r.b, .bool false, .slice a n c] 25 (0, 0))) := (bl.block _ (Array.getElem?_eq_some_iff.1 HF1.out).1).trans HF1.out
    have hSnew := cells75 HF2.out
    clear bl
    go_wp2_with fail
    refine hK.out _ _ hSnew (fun hHeld7 => ?_)
    clear hK K hSnew
    clear hHeld
    have hHeld := hHeld7
    clear hHeld7
    try simp only [Act.put, List.setIfInBounds_toArray, List.set_cons_zero, List.set_cons_succ]
    refine wpAnyH_take (i := 8) (oi := { dst := some 14, op := Op.binOp BinOp.add 9 (Operand.const (Value.string { data := #[99, 111, 117, 110, 116, 101, 100, 32] })) (Operand.tmp 13) 9, type := 9, pos := "text.go:35", after := #[{ on := 7, ground := Ground.data }], guard := none }) (v := ?v8hf) rfl (by kernel_rfl) (by kernel_rfl) (by kernel_rfl) (fun _ _ _ h => h) (Or.inl ⟨by rfl, ?y8hf⟩) (by assumption) ?r8hf
    case y8hf => (intro x hx; (try dsimp only at hx); go_simp; try with_reducible rfl)
    try simp only [Act.put, List.setIfInBounds_toArray, List.set_cons_zero, List.set_cons_succ]
    refine wpAnyH_take (i := 9) (oi := { dst := some 15, op := Op.binOp BinOp.add 9 (Operand.tmp 14) (Operand.const (Value.string { data := #[10] })) 9, type := 9, pos := "text.go:35", after := #[{ on := 8, ground := Ground.data }], guard := none }) (v := ?v9hf) rfl (by kernel_rfl) (by kernel_rfl) (by kernel_rfl) (fun _ _ _ h => h) (Or.inl ⟨by rfl, ?y9hf⟩) (by assumption) ?r9hf
    case y9hf => (intro x hx; (try dsimp only at hx); go_simp; try with_reducible rfl)
    try simp only [Act.put, List.setIfInBounds_toArray, List.set_cons_zero, List.set_cons_succ]
    refine wpAnyH_ready (rs := [12]) (by kernel_rfl) (by simp) ?_
    refine AllReadyH.cons (o := { dst := some 18, op := Op.call { callee := Callee.value (Operand.func 18), args := #[Operand.tmp 17], argTypes := #[3] }, type := 9, pos := "text.go:35", after := #[{ on := 11, ground := Ground.data }, { on := 7, ground := Ground.chain }], guard := none }) rfl (fun K hK => ?_) AllReadyH.nil
    go_simp
    refine (itoa_any r.l ho.l.1 ho.l.2 _ (p10_below HT.out HB2.out)).mono ?_; rintro e z3 ⟨rfl, bl⟩; rw [HD2.out]
    have HB3 : Hid (Below w.heap.size w z3) := HB2.out.trans (below_low bl HB2.out.size)
    have HF3 : Hid (z3.heap[w.heap.size]? = some (.cells #[.int .u64 (r.fl : Int), .int .i64 r.c, .int .i64 r.l, .int .i64 r.u, .int .i64 r.b, .bool false, .slice a n c] 25 (0, 0))) := (bl.block _ (Array.getElem?_eq_some_iff.1 HF2.out).1).trans HF2.out
    have hSnew := cells75 HF3.out
    clear bl
    go_wp2_with fail
    refine hK.out _ _ hSnew (fun hHeld12 => ?_)
    clear hK K hSnew
    clear hHeld
    have hHeld := hHeld12
    clear hHeld12
    try simp only [Act.put, List.setIfInBounds_toArray, List.set_cons_zero, List.set_cons_succ]
    refine wpAnyH_take (i := 13) (oi := { dst := some 19, op := Op.binOp BinOp.add 9 (Operand.const (Value.string { data := #[108, 105, 118, 101, 32] })) (Operand.tmp 18) 9, type := 9, pos := "text.go:35", after := #[{ on := 12, ground := Ground.data }], guard := none }) (v := ?v13hf) rfl (by kernel_rfl) (by kernel_rfl) (by kernel_rfl) (fun _ _ _ h => h) (Or.inl ⟨by rfl, ?y13hf⟩) (by assumption) ?r13hf
    case y13hf => (intro x hx; (try dsimp only at hx); go_simp; try with_reducible rfl)
    try simp only [Act.put, List.setIfInBounds_toArray, List.set_cons_zero, List.set_cons_succ]
    refine wpAnyH_take (i := 14) (oi := { dst := some 20, op := Op.binOp BinOp.add 9 (Operand.tmp 19) (Operand.const (Value.string { data := #[10] })) 9, type := 9, pos := "text.go:35", after := #[{ on := 13, ground := Ground.data }], guard := none }) (v := ?v14hf) rfl (by kernel_rfl) (by kernel_rfl) (by kernel_rfl) (fun _ _ _ h => h) (Or.inl ⟨by rfl, ?y14hf⟩) (by assumption) ?r14hf
    case y14hf => (intro x hx; (try dsimp only at hx); go_simp; try with_reducible rfl)
    try simp only [Act.put, List.setIfInBounds_toArray, List.set_cons_zero, List.set_cons_succ]
    refine wpAnyH_ready (rs := [17]) (by kernel_rfl) (by simp) ?_
    refine AllReadyH.cons (o := { dst := some 23, op := Op.call { callee := Callee.value (Operand.func 18), args := #[Operand.tmp 22], argTypes := #[3] }, type := 9, pos := "text.go:35", after := #[{ on := 16, ground := Ground.data }, { on := 12, ground := Ground.chain }], guard := none }) rfl (fun K hK => ?_) AllReadyH.nil
    go_simp
    refine (itoa_any r.u ho.u.1 ho.u.2 _ (p10_below HT.out HB3.out)).mono ?_; rintro e z4 ⟨rfl, bl⟩; rw [HD3.out]
    have HB4 : Hid (Below w.heap.size w z4) := HB3.out.trans (below_low bl HB3.out.size)
    have HF4 : Hid (z4.heap[w.heap.size]? = some (.cells #[.int .u64 (r.fl : Int), .int .i64 r.c, .int .i64 r.l, .int .i64 r.u, .int .i64 r.b, .bool false, .slice a n c] 25 (0, 0))) := (bl.block _ (Array.getElem?_eq_some_iff.1 HF3.out).1).trans HF3.out
    have hSnew := cells75 HF4.out
    clear bl
    go_wp2_with fail
    refine hK.out _ _ hSnew (fun hHeld17 => ?_)
    clear hK K hSnew
    clear hHeld
    have hHeld := hHeld17
    clear hHeld17
    try simp only [Act.put, List.setIfInBounds_toArray, List.set_cons_zero, List.set_cons_succ]
    refine wpAnyH_take (i := 18) (oi := { dst := some 24, op := Op.binOp BinOp.add 9 (Operand.const (Value.string { data := #[117, 115, 101, 100, 32] })) (Operand.tmp 23) 9, type := 9, pos := "text.go:35", after := #[{ on := 17, ground := Ground.data }], guard := none }) (v := ?v18hf) rfl (by kernel_rfl) (by kernel_rfl) (by kernel_rfl) (fun _ _ _ h => h) (Or.inl ⟨by rfl, ?y18hf⟩) (by assumption) ?r18hf
    case y18hf => (intro x hx; (try dsimp only at hx); go_simp; try with_reducible rfl)
    try simp only [Act.put, List.setIfInBounds_toArray, List.set_cons_zero, List.set_cons_succ]
    refine wpAnyH_take (i := 19) (oi := { dst := some 25, op := Op.binOp BinOp.add 9 (Operand.tmp 24) (Operand.const (Value.string { data := #[10] })) 9, type := 9, pos := "text.go:35", after := #[{ on := 18, ground := Ground.data }], guard := none }) (v := ?v19hf) rfl (by kernel_rfl) (by kernel_rfl) (by kernel_rfl) (fun _ _ _ h => h) (Or.inl ⟨by rfl, ?y19hf⟩) (by assumption) ?r19hf
    case y19hf => (intro x hx; (try dsimp only at hx); go_simp; try with_reducible rfl)
    try simp only [Act.put, List.setIfInBounds_toArray, List.set_cons_zero, List.set_cons_succ]
    refine wpAnyH_ready (rs := [22]) (by kernel_rfl) (by simp) ?_
    refine AllReadyH.cons (o := { dst := some 28, op := Op.call { callee := Callee.value (Operand.func 18), args := #[Operand.tmp 27], argTypes := #[3] }, type := 9, pos := "text.go:35", after := #[{ on := 21, ground := Ground.data }, { on := 17, ground := Ground.chain }], guard := none }) rfl (fun K hK => ?_) AllReadyH.nil
    go_simp
    refine (itoa_any r.b ho.b.1 ho.b.2 _ (p10_below HT.out HB4.out)).mono ?_; rintro e z5 ⟨rfl, bl⟩; rw [HD4.out]
    have HB5 : Hid (Below w.heap.size w z5) := HB4.out.trans (below_low bl HB4.out.size)
    have HF5 : Hid (z5.heap[w.heap.size]? = some (.cells #[.int .u64 (r.fl : Int), .int .i64 r.c, .int .i64 r.l, .int .i64 r.u, .int .i64 r.b, .bool false, .slice a n c] 25 (0, 0))) := (bl.block _ (Array.getElem?_eq_some_iff.1 HF4.out).1).trans HF4.out
    have hSnew := cells75 HF5.out
    clear bl
    go_wp2_with fail
    refine hK.out _ _ hSnew (fun hHeld22 => ?_)
    clear hK K hSnew
    clear hHeld
    have hHeld := hHeld22
    clear hHeld22
    try simp only [Act.put, List.setIfInBounds_toArray, List.set_cons_zero, List.set_cons_succ]
    refine wpAnyH_take (i := 23) (oi := { dst := some 29, op := Op.binOp BinOp.add 9 (Operand.const (Value.string { data := #[98, 97, 100, 32] })) (Operand.tmp 28) 9, type := 9, pos := "text.go:35", after := #[{ on := 22, ground := Ground.data }], guard := none }) (v := ?v23hf) rfl (by kernel_rfl) (by kernel_rfl) (by kernel_rfl) (fun _ _ _ h => h) (Or.inl ⟨by rfl, ?y23hf⟩) (by assumption) ?r23hf
    case y23hf => (intro x hx; (try dsimp only at hx); go_simp; try with_reducible rfl)
    try simp only [Act.put, List.setIfInBounds_toArray, List.set_cons_zero, List.set_cons_succ]
    refine wpAnyH_take (i := 24) (oi := { dst := some 30, op := Op.binOp BinOp.add 9 (Operand.tmp 29) (Operand.const (Value.string { data := #[10] })) 9, type := 9, pos := "text.go:35", after := #[{ on := 23, ground := Ground.data }], guard := none }) (v := ?v24hf) rfl (by kernel_rfl) (by kernel_rfl) (by kernel_rfl) (fun _ _ _ h => h) (Or.inl ⟨by rfl, ?y24hf⟩) (by assumption) ?r24hf
    case y24hf => (intro x hx; (try dsimp only at hx); go_simp; try with_reducible rfl)
    try simp only [Act.put, List.setIfInBounds_toArray, List.set_cons_zero, List.set_cons_succ]
    refine wpAnyH_ready (rs := [26]) (by kernel_rfl) (by simp) ?_
    refine AllReadyH.cons (o := { dst := some 32, op := Op.buildSlice 46 6 #[(0, Operand.tmp 10), (1, Operand.tmp 15), (2, Operand.tmp 20), (3, Operand.tmp 25), (4, Operand.tmp 30), (5, Operand.tmp 31)], type := 46, pos := "text.go:35", after := #[{ on := 4, ground := Ground.data }, { on := 9, ground := Ground.data }, { on := 14, ground := Ground.data }, { on := 19, ground := Ground.data }, { on := 24, ground := Ground.data }, { on := 25, ground := Ground.data }], guard := none }) rfl (fun K hK => ?_) AllReadyH.nil
    go_simp
    go_wp2_with fail
    have hSnew : (z5.alloc (.cells #[.string ⟨N0.toArray⟩, .string ⟨N1.toArray⟩, .string ⟨N2.toArray⟩, .string ⟨N3.toArray⟩, .string ⟨N4.toArray⟩, .string ⟨#[115, 97, 118, 101, 100, 32, 110, 111, 10]⟩] 9)).cell? ⟨w.heap.size, 0, none⟩ = some (.int .u64 (r.fl : Int)) ∧ (z5.alloc (.cells #[.string ⟨N0.toArray⟩, .string ⟨N1.toArray⟩, .string ⟨N2.toArray⟩, .string ⟨N3.toArray⟩, .string ⟨N4.toArray⟩, .string ⟨#[115, 97, 118, 101, 100, 32, 110, 111, 10]⟩] 9)).cell? ⟨w.heap.size, 1, none⟩ = some (.int .i64 r.c) ∧ (z5.alloc (.cells #[.string ⟨N0.toArray⟩, .string ⟨N1.toArray⟩, .string ⟨N2.toArray⟩, .string ⟨N3.toArray⟩, .string ⟨N4.toArray⟩, .string ⟨#[115, 97, 118, 101, 100, 32, 110, 111, 10]⟩] 9)).cell? ⟨w.heap.size, 2, none⟩ = some (.int .i64 r.l) ∧ (z5.alloc (.cells #[.string ⟨N0.toArray⟩, .string ⟨N1.toArray⟩, .string ⟨N2.toArray⟩, .string ⟨N3.toArray⟩, .string ⟨N4.toArray⟩, .string ⟨#[115, 97, 118, 101, 100, 32, 110, 111, 10]⟩] 9)).cell? ⟨w.heap.size, 3, none⟩ = some (.int .i64 r.u) ∧ (z5.alloc (.cells #[.string ⟨N0.toArray⟩, .string ⟨N1.toArray⟩, .string ⟨N2.toArray⟩, .string ⟨N3.toArray⟩, .string ⟨N4.toArray⟩, .string ⟨#[115, 97, 118, 101, 100, 32, 110, 111, 10]⟩] 9)).cell? ⟨w.heap.size, 4, none⟩ = some (.int .i64 r.b) := cells75 ((Below.heap_alloc z5 _ _ (Array.getElem?_eq_some_iff.1 HF5.out).1).trans HF5.out)
    refine hK.out _ _ hSnew (fun hHeld26 => ?_)
    clear hK K hSnew
    clear hHeld
    have hHeld := hHeld26
    clear hHeld26
    try simp only [Act.put, List.setIfInBounds_toArray, List.set_cons_zero, List.set_cons_succ]
    refine wpAnyH_take (i := 27) (oi := { dst := some 2, op := Op.assign (Operand.tmp 32), type := 46, pos := "text.go:35", after := #[{ on := 26, ground := Ground.data }, { on := 22, ground := Ground.chain }, { on := 0, ground := Ground.phase }, { on := 1, ground := Ground.phase }, { on := 2, ground := Ground.phase }, { on := 3, ground := Ground.phase }, { on := 4, ground := Ground.phase }, { on := 5, ground := Ground.phase }, { on := 6, ground := Ground.phase }, { on := 7, ground := Ground.phase }, { on := 8, ground := Ground.phase }, { on := 9, ground := Ground.phase }, { on := 10, ground := Ground.phase }, { on := 11, ground := Ground.phase }, { on := 12, ground := Ground.phase }, { on := 13, ground := Ground.phase }, { on := 14, ground := Ground.phase }, { on := 15, ground := Ground.phase }, { on := 16, ground := Ground.phase }, { on := 17, ground := Ground.phase }, { on := 18, ground := Ground.phase }, { on := 19, ground := Ground.phase }, { on := 20, ground := Ground.phase }, { on := 21, ground := Ground.phase }, { on := 22, ground := Ground.phase }, { on := 23, ground := Ground.phase }, { on := 24, ground := Ground.phase }, { on := 25, ground := Ground.phase }, { on := 26, ground := Ground.phase }], guard := none }) (v := ?v27hf) rfl (by kernel_rfl) (by kernel_rfl) (by kernel_rfl) (fun _ _ _ h => h) (Or.inl ⟨by rfl, ?y27hf⟩) (by assumption) ?r27hf
    case y27hf => (intro x hx; (try dsimp only at hx); go_simp; try with_reducible rfl)
    try simp only [Act.put, List.setIfInBounds_toArray, List.set_cons_zero, List.set_cons_succ]
    refine wpAnyH_done (by kernel_rfl) ?_ _
    clear hHeld
    go_wp2_with fail
    go_ret
    refine ⟨z5.heap.size, rfl, fun i hi => ?_, HB5.out.trans (below_low (below_alloc' z5 _) HB5.out.size)⟩
    rw [HL.out]
    have h9 := heap_alloc_new z5 (.cells #[.string ⟨N0.toArray⟩, .string ⟨N1.toArray⟩, .string ⟨N2.toArray⟩, .string ⟨N3.toArray⟩, .string ⟨N4.toArray⟩, .string ⟨#[115, 97, 118, 101, 100, 32, 110, 111, 10]⟩] 9)
    simp only [World.cell?, h9]
    match i, hi with
    | 0, _ => rfl
    | 1, _ => rfl
    | 2, _ => rfl
    | 3, _ => rfl
    | 4, _ => rfl
    | 5, _ => rfl

end Go.Proofs.YtnjcjaaciphcgaaDoor
