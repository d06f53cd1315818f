/-
  SEAT YteefekhlbillfaaDoor: bytes.Repeat.
-/
import Derived.Test.YteefekhlbillfaaDoorRd
import Derived.Lib.SlBuf
import Derived.Lib.MakeNoZero
import Derived.Lib.Mul64
import Derived.Laws.Bits64b
namespace Go.Proofs.YteefekhlbillfaaDoor
open Go.RowKit
set_option linter.unusedVariables false

set_option maxHeartbeats 1000000 in
theorem mul64_one (y : Nat) (hy : y ≤ 65535) (w : World) : Calls Tryd.prog 79 #[.int .u64 1, .int .u64 (y : Int)] w fun e w' => e = .returned (.tuple #[.int .u64 0, .int .u64 (y : Int)]) ∧ w' = w := by
  have e1 : bits .and .u64 1 4294967295 = 1 := by decide
  have e2 : bits .and .u64 (y : Int) 4294967295 = (y : Int) := by
    have h := bits_and_u64_nat y 4294967295 (by omega) (by omega)
    have e : y &&& 4294967295 = y % 4294967296 := Nat.and_two_pow_sub_one_eq_mod y 32
    rw [e, Nat.mod_eq_of_lt (by omega)] at h
    exact h
  have e3 : (y : Int) / 4294967296 = 0 := by omega
  have e4 : bits .and .u64 0 4294967295 = 0 := by decide
  go_enter Tryd.func79, Tryd.ntmps79
  go_wp2
  go_ret2
  simp

theorem mul_one (y : Nat) (hy : y ≤ 65535) (w : World) : Calls Tryd.prog 71 #[.int .u64 1, .int .u64 (y : Int)] w fun e w' => e = .returned (.tuple #[.int .u64 0, .int .u64 (y : Int)]) ∧ w' = w := by
  go_enter Tryd.func71, Tryd.ntmps71
  go_wp2_with (go_at_call 79; refine (mul64_one y hy _).mono ?_; rintro e u ⟨rfl, hu⟩; rw [hu])
  go_ret2
  exact ⟨rfl, rfl⟩

theorem size5 : (Tryd.prog.info? 5).map (·.size) = some 1 := by kernel_rfl

/-- A row of bytes. -/
def Ty5 (w : World) (g : Nat) : Prop := ∃ cs f, w.heap[g]? = some (.cells cs 5 f)

theorem Ty5.setCells {g : Nat} : ∀ (vs : List Value) (o : Nat) {w : World}, Ty5 w g → Ty5 (w.setCells g o vs) g
  | [], _, _, h => h
  | v :: r, o, w, ⟨cs, f, h⟩ => Ty5.setCells r (o + 1) (w := w.setCell ⟨g, o, none⟩ v) ⟨_, f, Joins.block_setCell h v⟩

/-- Bytes of 255, copied behind one another. -/
theorem copy_ones (w0 wr : World) (h N k m cap : Nat) (a : Addr) (ty : TypeId) (hb : Lib.Buf w0 wr h N (List.replicate k 255)) (hsrc : ∀ j, j < m → wr.cell? (a.add j) = some (.int .u8 255)) (hkN : k < N) :
    ∃ wr', (Builtin.copy_ #[22, 22] ty #[.slice (some ⟨h, k, none⟩) (N - k) (N - k), .slice (some a) m cap]).run Tryd.prog wr = .ok (.int .i64 ((min m (N - k) : Nat) : Int)) wr' ∧ Lib.Buf w0 wr' h N (List.replicate (k + min m (N - k)) 255) ∧ (Ty5 wr h → Ty5 wr' h) := by
  obtain ⟨c, hc⟩ : ∃ c, min m (N - k) = c := ⟨_, rfl⟩
  have hck : c ≤ m ∧ k + c ≤ N := by omega
  rw [hc]
  have hr := run_copy_cells (P := Tryd.prog) wr 22 22 ty 5 h k (N - k) (N - k) a m cap (List.replicate c (Value.int .u8 255)) Tryd.underlying22 size5 (by rw [List.length_replicate]; exact hc.symm)
    (fun j u hj => by
      rw [List.getElem?_replicate] at hj
      split at hj
      · cases hj
        exact hsrc j (by omega)
      · cases hj)
    (fun j hj => by rw [List.length_replicate] at hj; exact hb.there _ (by omega)) (fun j hj => by rw [List.length_replicate] at hj; exact hb.free _ (by omega))
    (fun u hu => by rw [List.eq_of_mem_replicate hu]; rfl)
  rw [List.length_replicate] at hr
  refine ⟨_, hr, ?_, fun t => t.setCells _ _⟩
  have hin := World.cell?_setCells_in h (List.replicate c (Value.int .u8 255)) k wr (fun j hj => by rw [List.length_replicate] at hj; exact hb.there _ (by omega))
  have hout := World.cell?_setCells_out h (List.replicate c (Value.int .u8 255)) k wr
  refine ⟨Lib.below_setCells h (Nat.le_refl _) _ _ hb.below, ?_, ?_, ?_, by rw [List.length_replicate]; omega⟩
  · intro j hj
    by_cases h1 : k ≤ j ∧ j < k + c
    · obtain ⟨d, rfl⟩ : ∃ d, j = k + d := ⟨j - k, by omega⟩
      rw [hin d (by rw [List.length_replicate]; omega)]
      rfl
    · rw [hout ⟨h, j, none⟩ (fun _ _ => by rw [List.length_replicate]; show j < _ ∨ _ ≤ j; omega)]
      exact hb.there j hj
  · intro j hj
    rw [World.frozen?_setCells]
    exact hb.free j hj
  · intro j x hx
    rw [List.getElem?_replicate] at hx
    split at hx
    · rename_i hj
      cases hx
      by_cases h1 : j < k
      · rw [hout ⟨h, j, none⟩ (fun _ _ => Or.inl h1)]
        exact hb.holds j 255 (by rw [List.getElem?_replicate, if_pos h1])
      · obtain ⟨d, rfl⟩ : ∃ d, j = k + d := ⟨j - k, by omega⟩
        rw [hin d (by rw [List.length_replicate]; omega)]
        simp
    · cases hx

theorem copy_self (w0 wr : World) (h N k : Nat) (ty : TypeId) (hb : Lib.Buf w0 wr h N (List.replicate k 255)) (hk : 0 < k) (hkN : k < N) :
    ∃ wr', (Builtin.copy_ #[22, 22] ty #[.slice (some ⟨h, k, none⟩) (N - k) (N - k), .slice (some ⟨h, 0, none⟩) k N]).run Tryd.prog wr = .ok (.int .i64 ((min k (N - k) : Nat) : Int)) wr' ∧ Lib.Buf w0 wr' h N (List.replicate (k + min k (N - k)) 255) ∧ (Ty5 wr h → Ty5 wr' h) :=
  copy_ones w0 wr h N k k N ⟨h, 0, none⟩ ty hb (fun j hj => by
    rw [plain_add, Nat.zero_add]
    exact hb.holds j 255 (by rw [List.getElem?_replicate, if_pos (by omega)])) hkN

theorem buf_reads {w0 wr : World} {h N : Nat} (hb : Lib.Buf w0 wr h N (List.replicate N 255)) : Reads wr (some ⟨h, 0, none⟩) N (List.replicate N 255) := by
  refine ⟨by simp, fun n hn => by rw [List.eq_of_mem_replicate hn]; omega, fun e => (by cases e), fun x hx i hi => ?_⟩
  cases hx
  rw [plain_add, Nat.zero_add, hb.holds i 255 (by rw [List.getElem?_replicate, if_pos hi])]
  simp [List.getD_eq_getElem?_getD, hi]

/-- []byte{255} again and again: a new row. -/
def OnesAt (w w' : World) (e : Ending) (n : Nat) : Prop := ∃ g, e = .returned (.slice (some ⟨g, 0, none⟩) n n) ∧ Reads w' (some ⟨g, 0, none⟩) n (List.replicate n 255) ∧ w.heap.size ≤ g ∧ g < w'.heap.size ∧ Ty5 w' g ∧ Below w.heap.size w w'

set_option maxHeartbeats 1000000 in
theorem repeat_zero (a : Option Addr) (c : Nat) (w : World) : Calls Tryd.prog 57 #[.slice a 1 c, .int .i64 0] w fun e w' => OnesAt w w' e 0 := by
  go_enter Tryd.func57, Tryd.ntmps57
  go_wp2
  go_ret
  exact ⟨_, rfl, ⟨by simp, by simp, by simp, fun x hx i hi => by omega⟩, Nat.le_refl _, by simp, ⟨_, _, heap_alloc_new _ _⟩, below_alloc _ _⟩

theorem buf_one (w0 wr : World) (h N bk off cap : Nat) (ty : TypeId) (hb : Lib.Buf w0 wr h N []) (hh : w0.heap.size ≤ h) (hN : 1 ≤ N) (hc : w0.cell? ⟨bk, off, none⟩ = some (.int .u8 255)) :
    ∃ wr', (Builtin.copy_ #[22, 22] ty #[.slice (some ⟨h, 0, none⟩) N N, .slice (some ⟨bk, off, none⟩) 1 cap]).run Tryd.prog wr = .ok (.int .i64 1) wr' ∧ Lib.Buf w0 wr' h N (List.replicate 1 255) ∧ (Ty5 wr h → Ty5 wr' h) := by
  have h1 := copy_ones w0 wr h N 0 1 cap ⟨bk, off, none⟩ ty hb (fun j hj => by
    obtain rfl : j = 0 := by omega
    exact Lib.Below.cellOf hb.below hc hh) hN
  rw [show min 1 (N - 0) = 1 by omega] at h1
  exact h1

set_option maxHeartbeats 2000000 in
set_option maxRecDepth 100000 in
theorem repeat_some (bk off c n : Nat) (w : World) (hw : w.cell? ⟨bk, off, none⟩ = some (.int .u8 255)) (h0 : 0 < n) (hn : n ≤ 4096) : Calls Tryd.prog 57 #[.slice (some ⟨bk, off, none⟩) 1 c, .int .i64 (n : Int)] w fun e w' => OnesAt w w' e n := by
  have HC : Hid (w.cell? ⟨bk, off, none⟩ = some (.int .u8 255)) := hw
  clear hw
  obtain ⟨cs, hrunM, hle, _⟩ := Lib.run_makeNoZero (P := Tryd.prog) (w := w) #[3] 22 5 Tryd.underlying22 n (by omega)
  have hcall : (callFunc 72 #[.int .i64 (n : Int)]).run Tryd.prog w = .ok (.value (.slice (some ⟨w.heap.size, 0, none⟩) n cs.size)) ((w.alloc (.cells cs 5)).drewN 2) := by
    rw [run_callFunc_extern Tryd.func72 (by kernel_rfl) (by kernel_rfl) (by kernel_rfl) (e := Extern.BytealgMakeNoZero.makeNoZero #[3] #[22]) (by kernel_rfl), hrunM]
    rfl
  clear hrunM
  have i1 : (n : Int) ≤ (cs.size : Int) := by omega
  have B0 := Lib.Buf.start w cs 5 n 2 hle
  obtain ⟨w1, hr1, B1, ty1⟩ := buf_one w _ w.heap.size n bk off c 3 B0 (Nat.le_refl _) h0 HC.out
  have HB1 : Hid (Lib.Buf w w1 w.heap.size n (List.replicate 1 255)) := B1
  have TY1 : Hid (Ty5 w1 w.heap.size) := ty1 ⟨_, _, heap_alloc_new w _⟩
  clear B0 B1 ty1
  have e0 : ((n : Int) == 0) = false := by rw [beq_eq_false_iff_ne]; omega
  go_enter Tryd.func57, Tryd.ntmps57
  go_wp2_with (first
    | (go_at_call 71; refine (mul_one n (by omega) _).mono ?_; rintro e u ⟨rfl, hu⟩; rw [hu])
    | (at_builtin; refine Lib.wpList_copy_run _ rfl _ _ 22 22 rfl _ _ rfl rfl hr1 ?_))
  go_loopg [10] n (fun g s10 wr => ∃ k : Nat, 0 < k ∧ k ≤ n ∧ n - k ≤ g ∧ s10 = .int .i64 (k : Int) ∧ Hid (Lib.Buf w wr w.heap.size n (List.replicate k 255)) ∧ Hid (Ty5 wr w.heap.size))
  case atStart => exact ⟨1, by omega, by omega, by omega, rfl, HB1, TY1⟩
  case round =>
    obtain ⟨k, hk0, hkn, hg, rfl, HB, TY⟩ := hrel
    by_cases hkl : k < n
    · have d0 : (k : Int) < (n : Int) := by omega
      have d1 : (k : Int) ≤ (n : Int) := by omega
      have d2 : ¬ n = k := by omega
      have d3 : ¬ k = n := by omega
      have d4 : ¬ n - k = 0 := by omega
      have d5 : min (k : Int) (n : Int) = (k : Int) := by omega
      have d6 : ¬ (n : Int) < (k : Int) := by omega
      obtain ⟨w2, hr2, B2, ty2⟩ := copy_self w wr.drew w.heap.size n k 3 (⟨⟨HB.out.below.os, HB.out.below.tape, HB.out.below.output, HB.out.below.size, HB.out.below.block⟩, HB.out.there, HB.out.free, HB.out.holds, HB.out.fits⟩) hk0 hkl
      obtain ⟨m, hm⟩ : ∃ m, min k (n - k) = m := ⟨_, rfl⟩
      rw [hm] at hr2 B2
      have hm1 : 1 ≤ m ∧ k + m ≤ n := by omega
      have HB2 : Hid (Lib.Buf w w2 w.heap.size n (List.replicate (k + m) 255)) := B2
      have HR2 : Hid _ := hr2
      have TY2 : Hid (Ty5 w2 w.heap.size) := ty2 TY.out
      clear ty2 B2 hr1 hcall hr2 hm
      go_upto_region 20 with fail
      refine wp_region_held_drew (S := (fun _ : World => True)) (by kernel_rfl) (trivial) (fun hHeld => ?_)
      refine wpAnyH_take (i := 0) (oi := { dst := some 67, op := Op.move (Operand.tmp 10), type := 3, pos := "bytes.go:672", after := #[], guard := none }) (v := ?v0r) rfl (by kernel_rfl) (by kernel_rfl) (by kernel_rfl) (fun _ _ _ h => h) (Or.inl ⟨by rfl, ?y0r⟩) (by assumption) ?r0r
      case y0r => (intro x hx; (try dsimp only at hx); go_simp; try with_reducible rfl)
      try simp only [Act.put, List.setIfInBounds_toArray, List.set_cons_zero, List.set_cons_succ]
      refine wpAnyH_take (i := 1) (oi := { dst := some 68, op := Op.move (Operand.tmp 9), type := 22, pos := "bytes.go:672", after := #[], guard := none }) (v := ?v1r) rfl (by kernel_rfl) (by kernel_rfl) (by kernel_rfl) (fun _ _ _ h => h) (Or.inl ⟨by rfl, ?y1r⟩) (by assumption) ?r1r
      case y1r => (intro x hx; (try dsimp only at hx); go_simp; try with_reducible rfl)
      try simp only [Act.put, List.setIfInBounds_toArray, List.set_cons_zero, List.set_cons_succ]
      refine wpAnyH_take (i := 2) (oi := { dst := some 69, op := Op.move (Operand.tmp 10), type := 3, pos := "bytes.go:672", after := #[], guard := none }) (v := ?v2r) rfl (by kernel_rfl) (by kernel_rfl) (by kernel_rfl) (fun _ _ _ h => h) (Or.inl ⟨by rfl, ?y2r⟩) (by assumption) ?r2r
      case y2r => (intro x hx; (try dsimp only at hx); go_simp; try with_reducible rfl)
      try simp only [Act.put, List.setIfInBounds_toArray, List.set_cons_zero, List.set_cons_succ]
      refine wpAnyH_take (i := 3) (oi := { dst := some 70, op := Op.slice 22 (Operand.tmp 68) (some (Operand.tmp 69)) none none, type := 22, pos := "bytes.go:672", after := #[{ on := 1, ground := Ground.data }, { on := 2, ground := Ground.data }], guard := none }) (v := ?v3r) rfl (by kernel_rfl) (by kernel_rfl) (by kernel_rfl) (fun _ _ _ h => h) (Or.inl ⟨by rfl, ?y3r⟩) (by assumption) ?r3r
      case y3r => (intro x hx; (try dsimp only at hx); go_simp; try with_reducible rfl)
      try simp only [Act.put, List.setIfInBounds_toArray, List.set_cons_zero, List.set_cons_succ]
      refine wpAnyH_take (i := 4) (oi := { dst := some 71, op := Op.move (Operand.tmp 9), type := 22, pos := "bytes.go:672", after := #[], guard := none }) (v := ?v4r) rfl (by kernel_rfl) (by kernel_rfl) (by kernel_rfl) (fun _ _ _ h => h) (Or.inl ⟨by rfl, ?y4r⟩) (by assumption) ?r4r
      case y4r => (intro x hx; (try dsimp only at hx); go_simp; try with_reducible rfl)
      try simp only [Act.put, List.setIfInBounds_toArray, List.set_cons_zero, List.set_cons_succ]
      refine wpAnyH_take (i := 5) (oi := { dst := some 72, op := Op.move (Operand.tmp 11), type := 3, pos := "bytes.go:672", after := #[], guard := none }) (v := ?v5r) rfl (by kernel_rfl) (by kernel_rfl) (by kernel_rfl) (fun _ _ _ h => h) (Or.inl ⟨by rfl, ?y5r⟩) (by assumption) ?r5r
      case y5r => (intro x hx; (try dsimp only at hx); go_simp; try with_reducible rfl)
      try simp only [Act.put, List.setIfInBounds_toArray, List.set_cons_zero, List.set_cons_succ]
      refine wpAnyH_take (i := 6) (oi := { dst := some 73, op := Op.slice 22 (Operand.tmp 71) none (some (Operand.tmp 72)) none, type := 22, pos := "bytes.go:672", after := #[{ on := 4, ground := Ground.data }, { on := 5, ground := Ground.data }], guard := none }) (v := ?v6r) rfl (by kernel_rfl) (by kernel_rfl) (by kernel_rfl) (fun _ _ _ h => h) (Or.inl ⟨by rfl, ?y6r⟩) (by assumption) ?r6r
      case y6r => (intro x hx; (try dsimp only at hx); go_simp; try with_reducible rfl)
      try simp only [Act.put, List.setIfInBounds_toArray, List.set_cons_zero, List.set_cons_succ]
      refine wpAnyH_ready (rs := [7]) (by kernel_rfl) (by simp) ?_
      refine AllReadyH.cons (o := { dst := some 74, op := Op.call { callee := Callee.builtin Builtin.copy, args := #[Operand.tmp 70, Operand.tmp 73], argTypes := #[22, 22] }, type := 3, pos := "bytes.go:672", after := #[{ on := 3, ground := Ground.data }, { on := 6, ground := Ground.data }], guard := none }) rfl (fun K hK => ?_) AllReadyH.nil
      refine Lib.wp_copy_run _ _ _ 22 22 rfl _ _ rfl rfl HR2.out ?_
      have hSnew : True := trivial
      refine hK.out _ _ hSnew (fun hHeld7 => ?_)
      clear hK K hSnew
      clear hHeld
      have hHeld := hHeld7
      clear hHeld7
      try simp only [Act.put, List.setIfInBounds_toArray, List.set_cons_zero, List.set_cons_succ]
      refine wpAnyH_take (i := 8) (oi := { dst := some 75, op := Op.binOp BinOp.add 3 (Operand.tmp 67) (Operand.tmp 74) 3, type := 3, pos := "bytes.go:672", after := #[{ on := 0, ground := Ground.data }, { on := 7, ground := Ground.data }], guard := none }) (v := ?v8r) rfl (by kernel_rfl) (by kernel_rfl) (by kernel_rfl) (fun _ _ _ h => h) (Or.inl ⟨by rfl, ?y8r⟩) (by assumption) ?r8r
      case y8r => (intro x hx; (try dsimp only at hx); go_simp; try with_reducible rfl)
      try simp only [Act.put, List.setIfInBounds_toArray, List.set_cons_zero, List.set_cons_succ]
      refine wpAnyH_take (i := 9) (oi := { dst := some 10, op := Op.assign (Operand.tmp 75), type := 3, pos := "bytes.go:672", after := #[{ on := 8, ground := Ground.data }, { on := 7, ground := Ground.chain }, { on := 0, ground := Ground.phase }, { on := 1, ground := Ground.phase }, { on := 2, ground := Ground.phase }, { on := 3, ground := Ground.phase }, { on := 4, ground := Ground.phase }, { on := 5, ground := Ground.phase }, { on := 6, ground := Ground.phase }, { on := 7, ground := Ground.phase }, { on := 8, ground := Ground.phase }], guard := none }) (v := ?v9r) rfl (by kernel_rfl) (by kernel_rfl) (by kernel_rfl) (fun _ _ _ h => h) (Or.inl ⟨by rfl, ?y9r⟩) (by assumption) ?r9r
      case y9r => (intro x hx; (try dsimp only at hx); go_simp; try with_reducible rfl)
      try simp only [Act.put, List.setIfInBounds_toArray, List.set_cons_zero, List.set_cons_succ]
      refine wpAnyH_done (by kernel_rfl) ?_ _
      go_wp2
      go_roundg (n - (k + m))
      case measure => omega
      case rel => exact ⟨k + m, by omega, by omega, Nat.le_refl _, (by clear d5; congr 1; rw [IntKind.wrap_i64]; omega), HB2, TY2⟩
    · obtain rfl : k = n := by omega
      go_wp2
      go_ret
      have hb := HB.out
      exact ⟨_, rfl, buf_reads hb, Nat.le_refl _, block_lt_of_cell (by have := hb.holds 0 255 (by rw [List.getElem?_replicate, if_pos h0]); exact this), TY.out, hb.below⟩

end Go.Proofs.YteefekhlbillfaaDoor
