/-
  SEAT YtdiifegljonojaaGreatDoor: the front of a row.
-/
import Derived.Test.YtdiifegljonojaaGreatDoorRg
import Derived.Test.YtdiifegljonojaaGreatDoorC
import Derived.Deep.RegionHeld3
import Derived.Deep.DeepCutAuto
import Derived.Lib.AppendZerosOnto
namespace Go.Proofs.YtdiifegljonojaaGreatDoor
open Go.RowKit
set_option linter.unusedVariables false

theorem byte_inj {a b : Int} (ha : 0 ≤ a ∧ a ≤ 255) (hb : 0 ≤ b ∧ b ≤ 255) (h : UInt8.ofNat a.toNat = UInt8.ofNat b.toNat) : a = b := by
  have h1 := congrArg UInt8.toNat h
  simp only [UInt8.toNat_ofNat'] at h1
  omega
theorem str_inj {xs ys : List Int} (hx : ∀ x ∈ xs, 0 ≤ x ∧ x ≤ 255) (hy : ∀ x ∈ ys, 0 ≤ x ∧ x ≤ 255) (h : strOfNums xs = strOfNums ys) : xs = ys := by
  have h1 := congrArg (fun s => s.data.toList) h
  simp only [strOfNums_data] at h1
  clear h
  induction xs generalizing ys with
  | nil => cases ys with
    | nil => rfl
    | cons y ys => simp at h1
  | cons x xs ih => cases ys with
    | nil => simp at h1
    | cons y ys =>
      simp only [List.map_cons, List.cons.injEq] at h1
      rw [byte_inj (hx x (by simp)) (hy y (by simp)) h1.1, ih (fun z hz => hx z (by simp [hz])) (fun z hz => hy z (by simp [hz])) h1.2]

theorem str_eq {xs ys : List Int} (hx : ∀ x ∈ xs, 0 ≤ x ∧ x ≤ 255) (hy : ∀ x ∈ ys, 0 ≤ x ∧ x ≤ 255) : ((strOfNums xs).toList == (strOfNums ys).toList) = decide (xs = ys) := by
  by_cases h : xs = ys
  · subst h; simp
  · rw [decide_eq_false h]
    refine beq_false_of_ne fun e => h (str_inj hx hy (bytes_ext ?_))
    rw [← Lib.toList_data, ← Lib.toList_data]; exact e

theorem equal_any (a a' : Option Addr) (n n' c c' : Nat) (xs ys : List Int) (w : World) (h : Reads w a n xs) (h' : Reads w a' n' ys) :
    Calls Tryz.prog 87 #[.slice a n c, .slice a' n' c'] w fun e w' => e = .returned (.bool (decide (xs = ys))) ∧ w' = w := by
  have e1 := conv a n c xs w h
  have e2 := conv a' n' c' ys w h'
  have HE := hide (str_eq h.2.1 h'.2.1)
  clear h h'
  go_enter Tryz.func87, Tryz.ntmps87
  go_wp2
  go_ret
  refine ⟨?_, rfl⟩
  exact ret_bool HE.out

theorem hasPrefix_any (b off n c : Nat) (a' : Option Addr) (n' c' : Nat) (xs ys : List Int) (w : World) (hn : n ≤ 200000000000000) (hnc : n ≤ c) (hc : c ≤ 9223372036854775807) (hn' : n' ≤ 200000000000000) (h : Reads w (some ⟨b, off, none⟩) n xs) (h' : Reads w a' n' ys) :
    Calls Tryz.prog 69 #[.slice (some ⟨b, off, none⟩) n c, .slice a' n' c'] w fun e w' => e = .returned (.bool (decide (xs.take n' = ys))) ∧ w' = w := by
  have hx := h.1
  have hy := h'.1
  by_cases hl : n' ≤ n
  · have hf := h.front n' hl
    have d1 : (n' : Int) ≤ (n : Int) := by omega
    have d2 : (n' : Int) ≤ (c : Int) := by omega
    have d3 : n' ≤ c := by omega
    go_enter Tryz.func69, Tryz.ntmps69
    go_wp2_with (go_at_call 87; refine (equal_any _ _ _ _ _ _ (xs.take n') ys _ hf h').mono ?_; rintro e u1 ⟨rfl, hu1⟩; rw [hu1])
    go_ret
    exact ⟨rfl, rfl⟩
  · have hd : decide (xs.take n' = ys) = false := decide_eq_false (fun e => by have := congrArg List.length e; simp at this; omega)
    rw [hd]
    have d1 : (n : Int) < (n' : Int) := by omega
    clear hd
    go_enter Tryz.func69, Tryz.ntmps69
    go_wp2
    go_ret
    exact ⟨rfl, rfl⟩

/-- '[]byte("..")': the row is marked. -/
theorem conv_const {W : World} {g : Nat} {C : Array Value} (h : W.heap[g]? = some (.cells C 5 (0, 0))) (n c : Nat) :
    ∃ W', (convert 25 25 (.slice (some ⟨g, 0, none⟩) n c)).run Tryz.prog W = .ok (.slice (some ⟨g, 0, none⟩) n c) W' ∧ W'.heap[g]? = some (.cells C 5 (C.size, C.size + 1)) ∧ W.grownBy W' (some g) := by
  have hsh : W.shape? g = some (5, C.size) := by unfold World.shape?; rw [h]
  refine ⟨W.freeze ⟨g, C.size, none⟩ 1, ?_, ?_, ?_⟩
  · simp [convert, run_underlying Tryz.underlying25, run_underlying Tryz.underlying5, markStringish, hsh]
  · obtain ⟨hlt, hk⟩ := Array.getElem?_eq_some_iff.1 h
    unfold World.freeze
    rw [if_neg (by decide)]
    show (W.heap.modify g _)[g]? = _
    rw [Array.getElem?_eq_getElem (by rw [Array.size_modify]; exact hlt), Array.getElem_modify_self, hk]
    rfl
  · unfold World.freeze
    rw [if_neg (by decide)]
    refine ⟨rfl, rfl, rfl, by show W.heap.size ≤ (W.heap.modify g _).size; rw [Array.size_modify]; exact Nat.le_refl _, fun k hk hne => ?_⟩
    show (W.heap.modify g _)[k]? = _
    rw [Array.getElem?_modify, if_neg (fun e => hne (by rw [e]))]

theorem cells_news {W : World} {g : Nat} {C : List Value} {t : TypeId} {fr : Nat × Nat} (h : W.heap[g]? = some (.cells C.toArray t fr)) : ∀ j u, C[j]? = some u → W.cell? ((⟨g, 0, none⟩ : Addr).add j) = some u := by
  intro j u hj
  rw [plain_add, Nat.zero_add]
  simp [World.cell?, h, hj]

/-- append of the byte 1 to the four letters: a new row. -/
theorem wp_append_full {w : World} {o : Oper} {a : Act} {K : Act → World → Prop} {Q : Exit → Act → World → Prop} (s x : Operand)
    (ho : o.op = .call { callee := .builtin .append, args := #[s, x], argTypes := #[25, 25] })
    (base g4 g6 : Nat) (hs : a.eval s = .slice (some ⟨g4, 0, none⟩) 4 4) (h4 : w.heap[g4]? = some (.cells #[.int .u8 80, .int .u8 82, .int .u8 67, .int .u8 76] 5 (4, 5))) (hx : a.eval x = .slice (some ⟨g6, 0, none⟩) 1 1) (h6 : w.heap[g6]? = some (.cells #[.int .u8 1] 5 (0, 0))) (hbase : base ≤ w.heap.size)
    (h : ∀ g' cap' w', Own w' base g' 5 cap' [80, 82, 67, 76, 1] → w.grownBy w' none → K (a.put o.dst (.slice (some ⟨g', 0, none⟩) 5 cap')) w') : o.wp Tryz.prog a w K Q := by
  obtain ⟨i, hi, hz0, hz1, hz2⟩ := info_parts info5
  have hr := run_append_grow (P := Tryz.prog) w 25 o.type 5 i (.int .u8 0) Tryz.underlying25 hi hz0 ⟨g4, 0, none⟩ 4 4 [.int .u8 80, .int .u8 82, .int .u8 67, .int .u8 76] (by rw [hz1]; rfl) (cells_news h4) ⟨g6, 0, none⟩ 1 1 [.int .u8 1] (by rw [hz1]; rfl) (cells_news h6) (by decide) (by decide) (by rw [hz2]; exact growslice_fits (by omega) (by omega))
  have hge := grownCap_ge w 5 4 5
  have hcm' : grownCap w 5 4 5 ≤ maxLen := grownCap_le_maxLen w 5 4 5 (by simp only [maxLen]; omega)
  unfold Oper.wp execOp
  simp only [ho, resolve, invoke, builtin, Sem.run_bind, Sem.run_pure, Result.andThen_ok, List.map_toArray, List.map_cons, List.map_nil, hs, hx, hr]
  refine h w.heap.size (grownCap w 5 4 5) _ ⟨rfl, .inr ⟨w.heap.size, _, _, rfl, hbase, heap_alloc_new w.drew _, hge, hcm', ?_, ?_⟩⟩ ⟨rfl, rfl, rfl, by simp, fun j hj _ => heap_alloc_old w.drew _ hj⟩
  · simp only [Array.size_append, List.size_toArray, size_zeroCells]
    simp [Value.cells]
    omega
  · simp

end Go.Proofs.YtdiifegljonojaaGreatDoor
