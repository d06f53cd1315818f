/-
  SEAT Ytjginocbbnmgaaa: StX, of several texts.
-/
import Derived.Test.YtjginocbbnmgaaaTnK
import Derived.Test.YtjginocbbnmgaaaRows
import Derived.WalkKit
import Derived.WalkSpells
import Derived.WalkSmall
import Derived.ProofKit
import Derived.OpenShut
import Derived.ChangeOld
import Derived.Below
import Derived.BigQuiet
import Derived.Deep.RegionHeld3
import Derived.Deep.WholeRow
import Derived.Deep.DeepCutAuto
namespace Go.Proofs.Ytjginocbbnmgaaa.Str
open Go.RowKit
set_option linter.unusedVariables false

/-- What lies at each number. -/
abbrev Mp := Nat → Option ByteArray
def upd (M : Mp) (k : Nat) (v : ByteArray) : Mp := fun j => if j = k then some v else M j
/-- What lies below the pointer i of a node whose children have s keys each. -/
def sub (M : Mp) (s i : Nat) : Mp := fun k => M (i * s + k)
/-- Nothing at the first s numbers. -/
def Void (M : Mp) (s : Nat) : Prop := ∀ k, k < s → M k = none
theorem void_sub {M : Mp} {s : Nat} (hs : 0 < s) : Void M (16 * s) ↔ ∀ i, i < 16 → Void (sub M s i) s := by
  constructor
  · intro h i hi k hk
    exact h _ (sub_lt hi hk)
  · intro h k hk
    obtain ⟨h1, h2, h3⟩ := split_key hs hk
    rw [h3]
    exact h _ h1 _ h2
theorem sub_upd_same (M : Mp) {s k : Nat} (hs : 0 < s) (v : ByteArray) : ∀ j, j < s → sub (upd M k v) s (k / s) j = upd (sub M s (k / s)) (k % s) v j := by
  intro j hj
  unfold sub upd
  have hdm := Nat.div_add_mod k s
  have e : (k / s * s + j = k) ↔ (j = k % s) := by
    have : k / s * s = s * (k / s) := Nat.mul_comm _ _
    constructor <;> intro h <;> omega
  simp only [e]
theorem sub_upd_other (M : Mp) {s k i : Nat} (hs : 0 < s) (v : ByteArray) (hi : i ≠ k / s) : ∀ j, j < s → sub (upd M k v) s i j = sub M s i j := by
  intro j hj
  unfold sub upd
  rw [if_neg]
  intro h
  apply hi
  have := congrArg (· / s) h
  simp only [Nat.mul_comm i s, Nat.mul_add_div hs, Nat.div_eq_of_lt hj] at this
  omega
/-- A thing in a block of its own. -/
def ThingOn (H : Nat → Option Obj) : Option Nat → Option ByteArray → Prop
  | none, none => True
  | some g, some x => H g = some (.cells #[.string x] 9 (0, 0))
  | _, _ => False
/-- A node of the level l, or nil, and what lies at its keys. -/
def NodeOn (H : Nat → Option Obj) : Nat → Option Nat → Mp → Prop
  | 0, none, M => Void M (spn 1)
  | 0, some g, M => ∃ ts : List (Option Nat), ts.length = 16 ∧ H g = some (.cells (List.replicate 16 (Value.pointer none) ++ ts.map ptr).toArray 106 (0, 0)) ∧ (∀ i, i < 16 → ThingOn H (ts.getD i none) (M i)) ∧ ¬ Void M (spn 1)
  | l + 1, none, M => Void M (spn (l + 2))
  | l + 1, some g, M => ∃ bs : List (Option Nat), bs.length = 16 ∧ H g = some (.cells (bs.map ptr ++ List.replicate 16 (Value.pointer none)).toArray 106 (0, 0)) ∧ (∀ i, i < 16 → NodeOn H l (bs.getD i none) (sub M (spn (l + 1)) i)) ∧ ¬ Void M (spn (l + 2))
theorem ThingOn.mono {H H' : Nat → Option Obj} {t : Option Nat} {m : Option ByteArray} (h : ThingOn H t m) (hs : Shows H H') : ThingOn H' t m := by
  cases t with
  | none => cases m with
    | none => trivial
    | some x => cases h
  | some g => cases m with
    | none => cases h
    | some x => exact hs _ _ h
theorem NodeOn.mono {H H' : Nat → Option Obj} (hs : Shows H H') : ∀ {l : Nat} {o : Option Nat} {M : Mp}, NodeOn H l o M → NodeOn H' l o M
  | 0, none, M, h => h
  | 0, some g, M, ⟨ts, h1, h2, h3, h4⟩ => ⟨ts, h1, hs _ _ h2, fun i hi => (h3 i hi).mono hs, h4⟩
  | l + 1, none, M, h => h
  | l + 1, some g, M, ⟨bs, h1, h2, h3, h4⟩ => ⟨bs, h1, hs _ _ h2, fun i hi => NodeOn.mono hs (h3 i hi), h4⟩
theorem void_congr {M M' : Mp} {s : Nat} (h : ∀ k, k < s → M k = M' k) (hv : Void M s) : Void M' s := fun k hk => by rw [← h k hk]; exact hv k hk
theorem NodeOn.congr {H : Nat → Option Obj} : ∀ {l : Nat} {o : Option Nat} {M M' : Mp}, (∀ k, k < spn (l + 1) → M k = M' k) → NodeOn H l o M → NodeOn H l o M'
  | 0, none, M, M', hc, h => void_congr hc h
  | 0, some g, M, M', hc, ⟨ts, h1, h2, h3, h4⟩ => ⟨ts, h1, h2, fun i hi => by rw [← hc i hi]; exact h3 i hi, fun q => h4 (void_congr (fun k hk => (hc k hk).symm) q)⟩
  | l + 1, none, M, M', hc, h => void_congr hc h
  | l + 1, some g, M, M', hc, ⟨bs, h1, h2, h3, h4⟩ => ⟨bs, h1, h2, fun i hi => NodeOn.congr (fun k hk => hc _ (by rw [spn_succ (l + 1)]; exact sub_lt hi hk)) (h3 i hi), fun q => h4 (void_congr (fun k hk => (hc k hk).symm) q)⟩
theorem NodeOn.void {H : Nat → Option Obj} {l : Nat} {M : Mp} (h : Void M (spn (l + 1))) : NodeOn H l none M := by
  cases l with
  | zero => exact h
  | succ l => exact h
theorem NodeOn.isVoid {H : Nat → Option Obj} {l : Nat} {M : Mp} (h : NodeOn H l none M) : Void M (spn (l + 1)) := by
  cases l with
  | zero => exact h
  | succ l => exact h
theorem not_void_upd (M : Mp) {k s : Nat} (v : ByteArray) (hk : k < s) : ¬ Void (upd M k v) s := fun h => by
  have := h k hk
  unfold upd at this
  rw [if_pos rfl] at this
  cases this
theorem size96 : (Try.prog.info? 106).map (·.size) = some 32 := by kernel_rfl
abbrev Z96 : Array Value := #[.pointer none, .pointer none, .pointer none, .pointer none, .pointer none, .pointer none, .pointer none, .pointer none, .pointer none, .pointer none, .pointer none, .pointer none, .pointer none, .pointer none, .pointer none, .pointer none, .pointer none, .pointer none, .pointer none, .pointer none, .pointer none, .pointer none, .pointer none, .pointer none, .pointer none, .pointer none, .pointer none, .pointer none, .pointer none, .pointer none, .pointer none, .pointer none]
/-- A whole node out of its block: one step. -/
theorem wpList_load96 {w : World} {ops : Array Oper} {rest : List Oper} {o : Oper} {a : Act} {Q : Exit → Act → World → Prop} (hgd : o.guard = none) (x : Operand) (ho : o.op = .load 106 x)
    (g : Nat) (cs : Array Value) (hx : a.eval x = .pointer (some ⟨g, 0, none⟩)) (hg : w.heap[g]? = some (.cells cs 106 (0, 0))) (hs : cs.size = 32)
    (h : wpList Try.prog ops Q rest (a.put o.dst (.agg cs)) w) : wpList Try.prog ops Q (o :: rest) a w := by
  have hrun : (Instr.loadAt 106 (.pointer (some ⟨g, 0, none⟩))).run Try.prog w = .ok (.agg cs) w := by
    simp only [Instr.loadAt, Instr.sureAddr, Sem.run_bind, Sem.run_pure, Result.andThen]
    exact run_loadVar_row w g 106 106 cs (0, 0) _ hg Try.underlying106 rfl (by rw [size96, hs])
  refine wpList_plain hgd fun K hK => ?_
  unfold Oper.wp
  simp [execOp, ho, hx, hrun, Result.andThen]
  exact hK _ _ h
/-- A whole node into the block that was made last: one step. -/
theorem wpList_store96 {u : World} {ops : Array Oper} {rest : List Oper} {o : Oper} {a : Act} {Q : Exit → Act → World → Prop} (hgd : o.guard = none) (x y : Operand) (ho : o.op = .store 106 x y)
    (g : Nat) (zs cs : Array Value) (hg : u.heap.size = g) (hx : a.eval x = .pointer (some ⟨g, 0, none⟩)) (hy : a.eval y = .agg cs) (hz : zs.size = 32) (hs : cs.size = 32) (h1 : cs.all (·.oneCell') = true)
    (h : wpList Try.prog ops Q rest (a.put o.dst undef) (u.alloc (.cells cs 106))) : wpList Try.prog ops Q (o :: rest) a (u.alloc (.cells zs 106)) := by
  subst hg
  have hrun := run_storeAt_new (P := Try.prog) u 106 zs cs (by rw [size96, hs]) (by rw [hz, hs]) h1
  refine wpList_plain hgd fun K hK => ?_
  unfold Oper.wp
  simp [execOp, ho, hx, hy, hrun, Result.andThen]
  exact hK _ _ h
theorem node_cell {u : World} {cs : Array Value} {j : Nat} (hj : j < cs.size) : ∃ y, (u.alloc (.cells cs 106)).cell? ⟨u.heap.size, j, none⟩ = some y :=
  ⟨cs[j], by rw [cell_of_row _ _ j cs 106 (0, 0) (heap_alloc_last u _), Array.getElem?_eq_getElem hj]⟩
theorem node_free (u : World) (cs : Array Value) (j : Nat) : (u.alloc (.cells cs 106)).frozen? ⟨u.heap.size, j, none⟩ = false := by
  have h := heap_alloc_last u (.cells cs 106)
  unfold World.frozen?
  simp only [h]
  simp
/-- The node that with answers at the level 0: its block and its thing's. -/
def put0 (w : World) (v : ByteArray) (cs : Array Value) (D : Nat) : World := (w.alloc (.cells #[.string v] 9)).alloc (.cells (cs.setIfInBounds (16 + D) (.pointer (some ⟨w.heap.size, 0, none⟩))) 106)
set_option maxHeartbeats 2000000 in
set_option maxRecDepth 100000 in
theorem with0_some (k g0 : Nat) (v : ByteArray) (cs : Array Value) (w : World) (hk : k < 1048576) (h : w.heap[g0]? = some (.cells cs 106 (0, 0))) (hs : cs.size = 32) (h1 : cs.all (·.oneCell') = true) :
    Calls Try.prog 44 #[.pointer (some ⟨g0, 0, none⟩), .int .i64 0, .int .i64 (k : Int), .string v] w fun e w' => e = .returned (.pointer (some ⟨w.heap.size + 1, 0, none⟩)) ∧ w' = put0 w v cs (dig k 0) := by
  have hlt := dig_lt k 0
  obtain ⟨D, hD⟩ : ∃ D, dig k 0 = D := ⟨_, rfl⟩
  rw [hD]
  have HD : Hid _ := hD
  rw [hD] at hlt
  clear hD
  have dl : (D : Int) < 16 := by omega
  have hg0 := lt_of_block h
  have hsz : (w.alloc (.cells #[.string v] 9)).heap.size = w.heap.size + 1 := by simp
  have hb2 : Below w.heap.size w ((w.alloc (.cells #[.string v] 9)).alloc (.cells Z96 106)) := ((Below.refl _ _).alloc (Nat.le_refl _) _).alloc (by simp) _
  have HL : Hid (((w.alloc (.cells #[.string v] 9)).alloc (.cells Z96 106)).heap[g0]? = some (.cells cs 106 (0, 0))) := (hb2.block g0 hg0).trans h
  obtain ⟨y, hy⟩ := node_cell (u := w.alloc (.cells #[.string v] 9)) (cs := cs) (j := 16 + D) (by omega)
  have hfz := node_free (w.alloc (.cells #[.string v] 9)) cs (16 + D)
  rw [hsz] at hy hfz
  have H1 : Hid _ := h1
  clear h h1 hb2 hsz
  go_enter Try.func44, Try.ntmps44
  go_wp2_with (first
    | (refine wpList_load96 rfl (.tmp 14) rfl g0 cs rfl HL.out hs ?_)
    | (refine wpList_store96 (u := w.alloc (.cells #[.string v] 9)) rfl (.tmp 9) (.tmp 15) rfl (w.heap.size + 1) Z96 cs (World.size_alloc _ _) rfl rfl rfl hs H1.out ?_)
    | (go_at_call 55; refine (digit_any k 0 _ (by omega) hk).mono ?_; rintro e u ⟨rfl, rfl⟩; rw [HD.out]))
  go_ret
  exact ⟨rfl, rfl⟩
set_option maxHeartbeats 2000000 in
set_option maxRecDepth 100000 in
theorem with0_none (k : Nat) (v : ByteArray) (w : World) (hk : k < 1048576) :
    Calls Try.prog 44 #[.pointer none, .int .i64 0, .int .i64 (k : Int), .string v] w fun e w' => e = .returned (.pointer (some ⟨w.heap.size + 1, 0, none⟩)) ∧ w' = put0 w v Z96 (dig k 0) := by
  have hlt := dig_lt k 0
  obtain ⟨D, hD⟩ : ∃ D, dig k 0 = D := ⟨_, rfl⟩
  rw [hD]
  have HD : Hid _ := hD
  rw [hD] at hlt
  clear hD
  have dl : (D : Int) < 16 := by omega
  have hsz : (w.alloc (.cells #[.string v] 9)).heap.size = w.heap.size + 1 := by simp
  obtain ⟨y, hy⟩ := node_cell (u := w.alloc (.cells #[.string v] 9)) (cs := Z96) (j := 16 + D) (by simp; omega)
  have hfz := node_free (w.alloc (.cells #[.string v] 9)) Z96 (16 + D)
  rw [hsz] at hy hfz
  clear hsz
  go_enter Try.func44, Try.ntmps44
  go_wp2_with (first
    | (go_at_call 55; refine (digit_any k 0 _ (by omega) hk).mono ?_; rintro e u ⟨rfl, rfl⟩; rw [HD.out]))
  go_ret
  exact ⟨rfl, by unfold put0; first | rfl | simp⟩
/-- The world ahead of the call of the level below. -/
def mid1 (w : World) (v : ByteArray) (cs : Array Value) : World := (w.alloc (.cells #[.string v] 9)).alloc (.cells cs 106)
theorem mid1_size (w : World) (v : ByteArray) (cs : Array Value) : (mid1 w v cs).heap.size = w.heap.size + 2 := by simp [mid1]
theorem mid1_below (w : World) (v : ByteArray) (cs : Array Value) : Below w.heap.size w (mid1 w v cs) := ((Below.refl _ _).alloc (Nat.le_refl _) _).alloc (by simp) _
theorem mid1_node (w : World) (v : ByteArray) (cs : Array Value) : (mid1 w v cs).heap[w.heap.size + 1]? = some (.cells cs 106 (0, 0)) := by
  have h := heap_alloc_last (w.alloc (.cells #[.string v] 9)) (.cells cs 106)
  rw [World.size_alloc] at h
  exact h
theorem mid1_thing (w : World) (v : ByteArray) (cs : Array Value) : (mid1 w v cs).heap[w.heap.size]? = some (.cells #[.string v] 9 (0, 0)) := by
  have h := heap_alloc_last w (.cells #[.string v] 9)
  have hb : Below (w.alloc (.cells #[.string v] 9)).heap.size (w.alloc (.cells #[.string v] 9)) (mid1 w v cs) := (Below.refl _ _).alloc (Nat.le_refl _) _
  exact (hb.block _ (by simp)).trans h

set_option maxHeartbeats 2000000 in
set_option maxRecDepth 100000 in
theorem withS_some (l k g0 : Nat) (v : ByteArray) (cs : Array Value) (w : World) (b : Option Nat) (R : Nat → World → Prop) (hk : k < 1048576) (hl : l + 1 ≤ 4) (h : w.heap[g0]? = some (.cells cs 106 (0, 0))) (hs : cs.size = 32) (h1 : cs.all (·.oneCell') = true) (hb : cs[dig k (l + 1)]? = some (ptr b))
    (IH : Calls Try.prog 44 #[ptr b, .int .i64 (l : Int), .int .i64 (k : Int), .string v] (mid1 w v cs).drew fun e w1 => ∃ g', e = .returned (.pointer (some ⟨g', 0, none⟩)) ∧ Below (mid1 w v cs).heap.size (mid1 w v cs) w1 ∧ R g' w1) :
    Calls Try.prog 44 #[.pointer (some ⟨g0, 0, none⟩), .int .i64 ((l + 1 : Nat) : Int), .int .i64 (k : Int), .string v] w fun e w' => ∃ g' w1, e = .returned (.pointer (some ⟨w.heap.size + 1, 0, none⟩)) ∧ R g' w1 ∧ Below (mid1 w v cs).heap.size (mid1 w v cs) w1 ∧ w' = w1.setCell ⟨w.heap.size + 1, dig k (l + 1), none⟩ (.pointer (some ⟨g', 0, none⟩)) := by
  have hlt := dig_lt k (l + 1)
  obtain ⟨D, hD⟩ : ∃ D, dig k (l + 1) = D := ⟨_, rfl⟩
  rw [hD] at hb hlt ⊢
  have HD : Hid (dig k (l + 1) = D) := hD
  have HIH : Hid (Calls Try.prog 44 _ _ _) := IH
  clear hD IH
  have dl : (D : Int) < 16 := by omega
  have dz : ((((l + 1 : Nat) : Int)) == 0) = false := by simp; omega
  have dsub : ((l + 1 : Nat) : Int) - 1 = (l : Int) := by omega
  have dw : IntKind.i64.wrap (l : Int) = (l : Int) := by
    have : l = 0 ∨ l = 1 ∨ l = 2 ∨ l = 3 := by omega
    rcases this with rfl | rfl | rfl | rfl <;> rfl
  obtain ⟨P, hP⟩ : ∃ P, ptr b = P := ⟨_, rfl⟩
  rw [hP] at hb HIH
  clear hP
  have HY : Hid (∀ u, Below (mid1 w v cs).heap.size (mid1 w v cs) u → u.cell? ⟨w.heap.size + 1, D, none⟩ = some P ∧ u.frozen? ⟨w.heap.size + 1, D, none⟩ = false ∧ u.cell? ⟨w.heap.size, 0, none⟩ = some (.string v)) := fun u hu => by
    have n1 := (hu.block (w.heap.size + 1) (by rw [mid1_size]; omega)).trans (mid1_node w v cs)
    have n2 := (hu.block w.heap.size (by rw [mid1_size]; omega)).trans (mid1_thing w v cs)
    refine ⟨by rw [cell_of_row _ _ D cs 106 (0, 0) n1]; exact hb, ?_, by rw [cell_of_row _ _ 0 _ 9 (0, 0) n2]; rfl⟩
    unfold World.frozen?
    simp only [n1]
    simp
  clear hb
  have hg0 := lt_of_block h
  have hb2 : Below w.heap.size w ((w.alloc (.cells #[.string v] 9)).alloc (.cells Z96 106)) := ((Below.refl _ _).alloc (Nat.le_refl _) _).alloc (by simp) _
  have HL : Hid (((w.alloc (.cells #[.string v] 9)).alloc (.cells Z96 106)).heap[g0]? = some (.cells cs 106 (0, 0))) := (hb2.block g0 hg0).trans h
  have H1 : Hid _ := h1
  clear h h1 hb2
  go_enter Try.func44, Try.ntmps44
  go_upto_region 7 with (first
    | (refine wpList_load96 rfl (.tmp 14) rfl g0 cs rfl HL.out hs ?_)
    | (refine wpList_store96 (u := w.alloc (.cells #[.string v] 9)) rfl (.tmp 9) (.tmp 15) rfl (w.heap.size + 1) Z96 cs (World.size_alloc _ _) rfl rfl rfl hs H1.out ?_)
    | (go_at_call 55; refine (digit_any k (l + 1) _ hl hk).mono ?_; rintro e u ⟨rfl, rfl⟩; rw [HD.out]))
  rw [show (w.alloc (.cells #[.string v] 9)).alloc (.cells cs 106) = mid1 w v cs from rfl]
  obtain ⟨X, hX⟩ : ∃ X, mid1 w v cs = X := ⟨_, rfl⟩
  rw [hX] at HY HIH ⊢
  have HXX : Hid _ := hX
  clear hX
  obtain ⟨x0, x1, x2⟩ := HY.out _ (Below.refl _ _).drew
  refine wp_region_held_drew (S := (fun x => x.cell? ⟨w.heap.size, 0, none⟩ = some (.string v))) (by kernel_rfl) (x2) (fun hHeld => ?_)
  refine wpAnyH_take (i := 0) (oi := { dst := some 24, op := Op.move (Operand.tmp 10), type := 3, pos := "node.go:34", after := #[], guard := none }) (v := ?v0w) rfl (by kernel_rfl) (by kernel_rfl) (by kernel_rfl) (fun _ _ _ h => h) (Or.inl ⟨by rfl, ?y0w⟩) (by assumption) ?r0w
  case y0w => (intro x hx; (try dsimp only at hx); go_simp; try with_reducible rfl)
  try simp only [Act.put, List.setIfInBounds_toArray, List.set_cons_zero, List.set_cons_succ]
  refine wpAnyH_take (i := 1) (oi := { dst := some 25, op := Op.move (Operand.tmp 10), type := 3, pos := "node.go:34", after := #[], guard := none }) (v := ?v1w) rfl (by kernel_rfl) (by kernel_rfl) (by kernel_rfl) (fun _ _ _ h => h) (Or.inl ⟨by rfl, ?y1w⟩) (by assumption) ?r1w
  case y1w => (intro x hx; (try dsimp only at hx); go_simp; try with_reducible rfl)
  try simp only [Act.put, List.setIfInBounds_toArray, List.set_cons_zero, List.set_cons_succ]
  refine wpAnyH_take (i := 2) (oi := { dst := some 26, op := Op.fieldAddr 106 (Operand.tmp 9) 0, type := 0, pos := "node.go:34", after := #[], guard := none }) (v := ?v2w) rfl (by kernel_rfl) (by kernel_rfl) (by kernel_rfl) (fun _ _ _ h => h) (Or.inl ⟨by rfl, ?y2w⟩) (by assumption) ?r2w
  case y2w => (intro x hx; (try dsimp only at hx); go_simp; try with_reducible rfl)
  try simp only [Act.put, List.setIfInBounds_toArray, List.set_cons_zero, List.set_cons_succ]
  refine wpAnyH_take (i := 3) (oi := { dst := some 27, op := Op.indexAddr 103 (Operand.tmp 26) (Operand.tmp 25), type := 0, pos := "node.go:34", after := #[{ on := 2, ground := Ground.data }, { on := 1, ground := Ground.data }], guard := none }) (v := ?v3w) rfl (by kernel_rfl) (by kernel_rfl) (by kernel_rfl) (fun _ _ _ h => h) (Or.inl ⟨by rfl, ?y3w⟩) (by assumption) ?r3w
  case y3w => (intro x hx; (try dsimp only at hx); go_simp; try with_reducible rfl)
  try simp only [Act.put, List.setIfInBounds_toArray, List.set_cons_zero, List.set_cons_succ]
  refine wpAnyH_take (i := 5) (oi := { dst := some 29, op := Op.move (Operand.tmp 1), type := 3, pos := "node.go:34", after := #[], guard := none }) (v := ?v5w) rfl (by kernel_rfl) (by kernel_rfl) (by kernel_rfl) (fun _ _ _ h => h) (Or.inl ⟨by rfl, ?y5w⟩) (by assumption) ?r5w
  case y5w => (intro x hx; (try dsimp only at hx); go_simp; try with_reducible rfl)
  try simp only [Act.put, List.setIfInBounds_toArray, List.set_cons_zero, List.set_cons_succ]
  refine wpAnyH_take (i := 6) (oi := { dst := some 30, op := Op.binOp BinOp.sub 3 (Operand.tmp 29) (Operand.const (Value.int IntKind.i64 1)) 3, type := 3, pos := "node.go:34", after := #[{ on := 5, ground := Ground.data }], guard := none }) (v := ?v6w) rfl (by kernel_rfl) (by kernel_rfl) (by kernel_rfl) (fun _ _ _ h => h) (Or.inl ⟨by rfl, ?y6w⟩) (by assumption) ?r6w
  case y6w => (intro x hx; (try dsimp only at hx); go_simp; try with_reducible rfl)
  try simp only [Act.put, List.setIfInBounds_toArray, List.set_cons_zero, List.set_cons_succ]
  refine wpAnyH_take (i := 7) (oi := { dst := some 31, op := Op.move (Operand.tmp 2), type := 3, pos := "node.go:34", after := #[], guard := none }) (v := ?v7w) rfl (by kernel_rfl) (by kernel_rfl) (by kernel_rfl) (fun _ _ _ h => h) (Or.inl ⟨by rfl, ?y7w⟩) (by assumption) ?r7w
  case y7w => (intro x hx; (try dsimp only at hx); go_simp; try with_reducible rfl)
  try simp only [Act.put, List.setIfInBounds_toArray, List.set_cons_zero, List.set_cons_succ]
  refine wpAnyH_take (i := 8) (oi := { dst := some 32, op := Op.load 9 (Operand.tmp 7), type := 9, pos := "node.go:34", after := #[], guard := none }) (v := ?v8w) rfl (by kernel_rfl) (by kernel_rfl) (by kernel_rfl) (fun _ _ _ h => h) (Or.inl ⟨by rfl, ?y8w⟩) (by assumption) ?r8w
  case y8w => (intro x hx; (try dsimp only at hx); go_simp; try with_reducible rfl)
  try simp only [Act.put, List.setIfInBounds_toArray, List.set_cons_zero, List.set_cons_succ]
  refine wpAnyH_take (i := 10) (oi := { dst := some 34, op := Op.fieldAddr 106 (Operand.tmp 9) 0, type := 0, pos := "node.go:34", after := #[], guard := none }) (v := ?v10w) rfl (by kernel_rfl) (by kernel_rfl) (by kernel_rfl) (fun _ _ _ h => h) (Or.inl ⟨by rfl, ?y10w⟩) (by assumption) ?r10w
  case y10w => (intro x hx; (try dsimp only at hx); go_simp; try with_reducible rfl)
  try simp only [Act.put, List.setIfInBounds_toArray, List.set_cons_zero, List.set_cons_succ]
  refine wpAnyH_ready (rs := [4]) (by kernel_rfl) (by simp) ?_
  refine AllReadyH.cons (o := { dst := some 28, op := Op.load 80 (Operand.tmp 27), type := 80, pos := "node.go:34", after := #[{ on := 3, ground := Ground.data }], guard := none }) rfl (fun K hK => ?_) AllReadyH.nil
  go_simp
  go_wp2_with fail
  refine hK.out _ _ hHeld (fun hHeld4 => ?_)
  clear hK K
  clear hHeld4
  try simp only [Act.put, List.setIfInBounds_toArray, List.set_cons_zero, List.set_cons_succ]
  refine wpAnyH_ready (rs := [9]) (by kernel_rfl) (by simp) ?_
  refine AllReadyH.cons (o := { dst := some 33, op := Op.call { callee := Callee.value (Operand.func 44), args := #[Operand.tmp 28, Operand.tmp 30, Operand.tmp 31, Operand.tmp 32], argTypes := #[80, 3, 3, 9] }, type := 80, pos := "node.go:34", after := #[{ on := 4, ground := Ground.data }, { on := 6, ground := Ground.data }, { on := 7, ground := Ground.data }, { on := 8, ground := Ground.data }], guard := none }) rfl (fun K hK => ?_) AllReadyH.nil
  go_simp
  try rw [dw]
  go_at_call 44
  refine Calls.mono HIH.out ?_
  rintro e t1 ⟨g', rfl, q1, r1⟩
  have R1 : Hid _ := r1
  have Q1 : Hid _ := q1
  obtain ⟨z0, z1, z2⟩ := HY.out _ q1
  have hSnew := z2
  clear r1 q1
  go_wp2_with fail
  refine hK.out _ _ hSnew (fun hHeld9 => ?_)
  clear hK K hSnew
  clear hHeld
  have hHeld := hHeld9
  clear hHeld9
  try simp only [Act.put, List.setIfInBounds_toArray, List.set_cons_zero, List.set_cons_succ]
  refine wpAnyH_take (i := 11) (oi := { dst := some 35, op := Op.indexAddr 103 (Operand.tmp 34) (Operand.tmp 24), type := 0, pos := "node.go:34", after := #[{ on := 10, ground := Ground.data }, { on := 0, ground := Ground.data }, { on := 0, ground := Ground.phase }, { on := 1, ground := Ground.phase }, { on := 2, ground := Ground.phase }, { on := 3, ground := Ground.phase }, { on := 4, ground := Ground.phase }, { on := 5, ground := Ground.phase }, { on := 6, ground := Ground.phase }, { on := 7, ground := Ground.phase }, { on := 8, ground := Ground.phase }, { on := 9, ground := Ground.phase }], guard := none }) (v := ?v11w) rfl (by kernel_rfl) (by kernel_rfl) (by kernel_rfl) (fun _ _ _ h => h) (Or.inl ⟨by rfl, ?y11w⟩) (by assumption) ?r11w
  case y11w => (intro x hx; (try dsimp only at hx); go_simp; try with_reducible rfl)
  try simp only [Act.put, List.setIfInBounds_toArray, List.set_cons_zero, List.set_cons_succ]
  refine wpAnyH_ready (rs := [12]) (by kernel_rfl) (by simp) ?_
  refine AllReadyH.cons (o := { dst := none, op := Op.store 80 (Operand.tmp 35) (Operand.tmp 33), type := 0, pos := "node.go:34", after := #[{ on := 11, ground := Ground.data }, { on := 9, ground := Ground.data }, { on := 9, ground := Ground.chain }, { on := 0, ground := Ground.phase }, { on := 1, ground := Ground.phase }, { on := 2, ground := Ground.phase }, { on := 3, ground := Ground.phase }, { on := 4, ground := Ground.phase }, { on := 5, ground := Ground.phase }, { on := 6, ground := Ground.phase }, { on := 7, ground := Ground.phase }, { on := 8, ground := Ground.phase }, { on := 9, ground := Ground.phase }], guard := none }) rfl (fun K hK => ?_) AllReadyH.nil
  go_simp
  have hSnew : (t1.setCell ⟨w.heap.size + 1, D, none⟩ (.pointer (some ⟨g', 0, none⟩))).cell? ⟨w.heap.size, 0, none⟩ = some (.string v) := by
    rw [World.cell?_of_block (heap_setCell_other t1 ⟨w.heap.size + 1, D, none⟩ w.heap.size _ (by simp))]
    exact z2
  go_wp2_with fail
  refine hK.out _ _ hSnew (fun hHeld12 => ?_)
  clear hK K hSnew
  clear hHeld
  have hHeld := hHeld12
  clear hHeld12
  try simp only [Act.put, List.setIfInBounds_toArray, List.set_cons_zero, List.set_cons_succ]
  refine wpAnyH_done (by kernel_rfl) ?_ _
  go_wp2
  go_ret
  exact ⟨g', t1, rfl, R1.out, by rw [HXX.out]; exact Q1.out, rfl⟩

set_option maxHeartbeats 2000000 in
set_option maxRecDepth 100000 in
theorem withS_none (l k : Nat) (v : ByteArray) (w : World) (b : Option Nat) (R : Nat → World → Prop) (hk : k < 1048576) (hl : l + 1 ≤ 4) (hb : (Z96 : Array Value)[dig k (l + 1)]? = some (ptr b))
    (IH : Calls Try.prog 44 #[ptr b, .int .i64 (l : Int), .int .i64 (k : Int), .string v] (mid1 w v Z96).drew fun e w1 => ∃ g', e = .returned (.pointer (some ⟨g', 0, none⟩)) ∧ Below (mid1 w v Z96).heap.size (mid1 w v Z96) w1 ∧ R g' w1) :
    Calls Try.prog 44 #[.pointer none, .int .i64 ((l + 1 : Nat) : Int), .int .i64 (k : Int), .string v] w fun e w' => ∃ g' w1, e = .returned (.pointer (some ⟨w.heap.size + 1, 0, none⟩)) ∧ R g' w1 ∧ Below (mid1 w v Z96).heap.size (mid1 w v Z96) w1 ∧ w' = w1.setCell ⟨w.heap.size + 1, dig k (l + 1), none⟩ (.pointer (some ⟨g', 0, none⟩)) := by
  have hlt := dig_lt k (l + 1)
  obtain ⟨D, hD⟩ : ∃ D, dig k (l + 1) = D := ⟨_, rfl⟩
  rw [hD] at hb hlt ⊢
  have HD : Hid (dig k (l + 1) = D) := hD
  have HIH : Hid (Calls Try.prog 44 _ _ _) := IH
  clear hD IH
  have dl : (D : Int) < 16 := by omega
  have dz : ((((l + 1 : Nat) : Int)) == 0) = false := by simp; omega
  have dsub : ((l + 1 : Nat) : Int) - 1 = (l : Int) := by omega
  have dw : IntKind.i64.wrap (l : Int) = (l : Int) := by
    have : l = 0 ∨ l = 1 ∨ l = 2 ∨ l = 3 := by omega
    rcases this with rfl | rfl | rfl | rfl <;> rfl
  obtain ⟨P, hP⟩ : ∃ P, ptr b = P := ⟨_, rfl⟩
  rw [hP] at hb HIH
  clear hP
  have HY : Hid (∀ u, Below (mid1 w v Z96).heap.size (mid1 w v Z96) u → u.cell? ⟨w.heap.size + 1, D, none⟩ = some P ∧ u.frozen? ⟨w.heap.size + 1, D, none⟩ = false ∧ u.cell? ⟨w.heap.size, 0, none⟩ = some (.string v)) := fun u hu => by
    have n1 := (hu.block (w.heap.size + 1) (by rw [mid1_size]; omega)).trans (mid1_node w v Z96)
    have n2 := (hu.block w.heap.size (by rw [mid1_size]; omega)).trans (mid1_thing w v Z96)
    refine ⟨by rw [cell_of_row _ _ D Z96 106 (0, 0) n1]; exact hb, ?_, by rw [cell_of_row _ _ 0 _ 9 (0, 0) n2]; rfl⟩
    unfold World.frozen?
    simp only [n1]
    simp
  clear hb
  go_enter Try.func44, Try.ntmps44
  go_upto_region 7 with (first
    | (go_at_call 55; refine (digit_any k (l + 1) _ hl hk).mono ?_; rintro e u ⟨rfl, rfl⟩; rw [HD.out]))
  rw [show (w.alloc (.cells #[.string v] 9)).alloc (.cells Z96 106) = mid1 w v Z96 from rfl]
  obtain ⟨X, hX⟩ : ∃ X, mid1 w v Z96 = X := ⟨_, rfl⟩
  rw [hX] at HY HIH ⊢
  have HXX : Hid _ := hX
  clear hX
  obtain ⟨x0, x1, x2⟩ := HY.out _ (Below.refl _ _).drew
  refine wp_region_held_drew (S := (fun x => x.cell? ⟨w.heap.size, 0, none⟩ = some (.string v))) (by kernel_rfl) (x2) (fun hHeld => ?_)
  refine wpAnyH_take (i := 0) (oi := { dst := some 24, op := Op.move (Operand.tmp 10), type := 3, pos := "node.go:34", after := #[], guard := none }) (v := ?v0z) rfl (by kernel_rfl) (by kernel_rfl) (by kernel_rfl) (fun _ _ _ h => h) (Or.inl ⟨by rfl, ?y0z⟩) (by assumption) ?r0z
  case y0z => (intro x hx; (try dsimp only at hx); go_simp; try with_reducible rfl)
  try simp only [Act.put, List.setIfInBounds_toArray, List.set_cons_zero, List.set_cons_succ]
  refine wpAnyH_take (i := 1) (oi := { dst := some 25, op := Op.move (Operand.tmp 10), type := 3, pos := "node.go:34", after := #[], guard := none }) (v := ?v1z) rfl (by kernel_rfl) (by kernel_rfl) (by kernel_rfl) (fun _ _ _ h => h) (Or.inl ⟨by rfl, ?y1z⟩) (by assumption) ?r1z
  case y1z => (intro x hx; (try dsimp only at hx); go_simp; try with_reducible rfl)
  try simp only [Act.put, List.setIfInBounds_toArray, List.set_cons_zero, List.set_cons_succ]
  refine wpAnyH_take (i := 2) (oi := { dst := some 26, op := Op.fieldAddr 106 (Operand.tmp 9) 0, type := 0, pos := "node.go:34", after := #[], guard := none }) (v := ?v2z) rfl (by kernel_rfl) (by kernel_rfl) (by kernel_rfl) (fun _ _ _ h => h) (Or.inl ⟨by rfl, ?y2z⟩) (by assumption) ?r2z
  case y2z => (intro x hx; (try dsimp only at hx); go_simp; try with_reducible rfl)
  try simp only [Act.put, List.setIfInBounds_toArray, List.set_cons_zero, List.set_cons_succ]
  refine wpAnyH_take (i := 3) (oi := { dst := some 27, op := Op.indexAddr 103 (Operand.tmp 26) (Operand.tmp 25), type := 0, pos := "node.go:34", after := #[{ on := 2, ground := Ground.data }, { on := 1, ground := Ground.data }], guard := none }) (v := ?v3z) rfl (by kernel_rfl) (by kernel_rfl) (by kernel_rfl) (fun _ _ _ h => h) (Or.inl ⟨by rfl, ?y3z⟩) (by assumption) ?r3z
  case y3z => (intro x hx; (try dsimp only at hx); go_simp; try with_reducible rfl)
  try simp only [Act.put, List.setIfInBounds_toArray, List.set_cons_zero, List.set_cons_succ]
  refine wpAnyH_take (i := 5) (oi := { dst := some 29, op := Op.move (Operand.tmp 1), type := 3, pos := "node.go:34", after := #[], guard := none }) (v := ?v5z) rfl (by kernel_rfl) (by kernel_rfl) (by kernel_rfl) (fun _ _ _ h => h) (Or.inl ⟨by rfl, ?y5z⟩) (by assumption) ?r5z
  case y5z => (intro x hx; (try dsimp only at hx); go_simp; try with_reducible rfl)
  try simp only [Act.put, List.setIfInBounds_toArray, List.set_cons_zero, List.set_cons_succ]
  refine wpAnyH_take (i := 6) (oi := { dst := some 30, op := Op.binOp BinOp.sub 3 (Operand.tmp 29) (Operand.const (Value.int IntKind.i64 1)) 3, type := 3, pos := "node.go:34", after := #[{ on := 5, ground := Ground.data }], guard := none }) (v := ?v6z) rfl (by kernel_rfl) (by kernel_rfl) (by kernel_rfl) (fun _ _ _ h => h) (Or.inl ⟨by rfl, ?y6z⟩) (by assumption) ?r6z
  case y6z => (intro x hx; (try dsimp only at hx); go_simp; try with_reducible rfl)
  try simp only [Act.put, List.setIfInBounds_toArray, List.set_cons_zero, List.set_cons_succ]
  refine wpAnyH_take (i := 7) (oi := { dst := some 31, op := Op.move (Operand.tmp 2), type := 3, pos := "node.go:34", after := #[], guard := none }) (v := ?v7z) rfl (by kernel_rfl) (by kernel_rfl) (by kernel_rfl) (fun _ _ _ h => h) (Or.inl ⟨by rfl, ?y7z⟩) (by assumption) ?r7z
  case y7z => (intro x hx; (try dsimp only at hx); go_simp; try with_reducible rfl)
  try simp only [Act.put, List.setIfInBounds_toArray, List.set_cons_zero, List.set_cons_succ]
  refine wpAnyH_take (i := 8) (oi := { dst := some 32, op := Op.load 9 (Operand.tmp 7), type := 9, pos := "node.go:34", after := #[], guard := none }) (v := ?v8z) rfl (by kernel_rfl) (by kernel_rfl) (by kernel_rfl) (fun _ _ _ h => h) (Or.inl ⟨by rfl, ?y8z⟩) (by assumption) ?r8z
  case y8z => (intro x hx; (try dsimp only at hx); go_simp; try with_reducible rfl)
  try simp only [Act.put, List.setIfInBounds_toArray, List.set_cons_zero, List.set_cons_succ]
  refine wpAnyH_take (i := 10) (oi := { dst := some 34, op := Op.fieldAddr 106 (Operand.tmp 9) 0, type := 0, pos := "node.go:34", after := #[], guard := none }) (v := ?v10z) rfl (by kernel_rfl) (by kernel_rfl) (by kernel_rfl) (fun _ _ _ h => h) (Or.inl ⟨by rfl, ?y10z⟩) (by assumption) ?r10z
  case y10z => (intro x hx; (try dsimp only at hx); go_simp; try with_reducible rfl)
  try simp only [Act.put, List.setIfInBounds_toArray, List.set_cons_zero, List.set_cons_succ]
  refine wpAnyH_ready (rs := [4]) (by kernel_rfl) (by simp) ?_
  refine AllReadyH.cons (o := { dst := some 28, op := Op.load 80 (Operand.tmp 27), type := 80, pos := "node.go:34", after := #[{ on := 3, ground := Ground.data }], guard := none }) rfl (fun K hK => ?_) AllReadyH.nil
  go_simp
  go_wp2_with fail
  refine hK.out _ _ hHeld (fun hHeld4 => ?_)
  clear hK K
  clear hHeld4
  try simp only [Act.put, List.setIfInBounds_toArray, List.set_cons_zero, List.set_cons_succ]
  refine wpAnyH_ready (rs := [9]) (by kernel_rfl) (by simp) ?_
  refine AllReadyH.cons (o := { dst := some 33, op := Op.call { callee := Callee.value (Operand.func 44), args := #[Operand.tmp 28, Operand.tmp 30, Operand.tmp 31, Operand.tmp 32], argTypes := #[80, 3, 3, 9] }, type := 80, pos := "node.go:34", after := #[{ on := 4, ground := Ground.data }, { on := 6, ground := Ground.data }, { on := 7, ground := Ground.data }, { on := 8, ground := Ground.data }], guard := none }) rfl (fun K hK => ?_) AllReadyH.nil
  go_simp
  try rw [dw]
  go_at_call 44
  refine Calls.mono HIH.out ?_
  rintro e t1 ⟨g', rfl, q1, r1⟩
  have R1 : Hid _ := r1
  have Q1 : Hid _ := q1
  obtain ⟨z0, z1, z2⟩ := HY.out _ q1
  have hSnew := z2
  clear r1 q1
  go_wp2_with fail
  refine hK.out _ _ hSnew (fun hHeld9 => ?_)
  clear hK K hSnew
  clear hHeld
  have hHeld := hHeld9
  clear hHeld9
  try simp only [Act.put, List.setIfInBounds_toArray, List.set_cons_zero, List.set_cons_succ]
  refine wpAnyH_take (i := 11) (oi := { dst := some 35, op := Op.indexAddr 103 (Operand.tmp 34) (Operand.tmp 24), type := 0, pos := "node.go:34", after := #[{ on := 10, ground := Ground.data }, { on := 0, ground := Ground.data }, { on := 0, ground := Ground.phase }, { on := 1, ground := Ground.phase }, { on := 2, ground := Ground.phase }, { on := 3, ground := Ground.phase }, { on := 4, ground := Ground.phase }, { on := 5, ground := Ground.phase }, { on := 6, ground := Ground.phase }, { on := 7, ground := Ground.phase }, { on := 8, ground := Ground.phase }, { on := 9, ground := Ground.phase }], guard := none }) (v := ?v11z) rfl (by kernel_rfl) (by kernel_rfl) (by kernel_rfl) (fun _ _ _ h => h) (Or.inl ⟨by rfl, ?y11z⟩) (by assumption) ?r11z
  case y11z => (intro x hx; (try dsimp only at hx); go_simp; try with_reducible rfl)
  try simp only [Act.put, List.setIfInBounds_toArray, List.set_cons_zero, List.set_cons_succ]
  refine wpAnyH_ready (rs := [12]) (by kernel_rfl) (by simp) ?_
  refine AllReadyH.cons (o := { dst := none, op := Op.store 80 (Operand.tmp 35) (Operand.tmp 33), type := 0, pos := "node.go:34", after := #[{ on := 11, ground := Ground.data }, { on := 9, ground := Ground.data }, { on := 9, ground := Ground.chain }, { on := 0, ground := Ground.phase }, { on := 1, ground := Ground.phase }, { on := 2, ground := Ground.phase }, { on := 3, ground := Ground.phase }, { on := 4, ground := Ground.phase }, { on := 5, ground := Ground.phase }, { on := 6, ground := Ground.phase }, { on := 7, ground := Ground.phase }, { on := 8, ground := Ground.phase }, { on := 9, ground := Ground.phase }], guard := none }) rfl (fun K hK => ?_) AllReadyH.nil
  go_simp
  have hSnew : (t1.setCell ⟨w.heap.size + 1, D, none⟩ (.pointer (some ⟨g', 0, none⟩))).cell? ⟨w.heap.size, 0, none⟩ = some (.string v) := by
    rw [World.cell?_of_block (heap_setCell_other t1 ⟨w.heap.size + 1, D, none⟩ w.heap.size _ (by simp))]
    exact z2
  go_wp2_with fail
  refine hK.out _ _ hSnew (fun hHeld12 => ?_)
  clear hK K hSnew
  clear hHeld
  have hHeld := hHeld12
  clear hHeld12
  try simp only [Act.put, List.setIfInBounds_toArray, List.set_cons_zero, List.set_cons_succ]
  refine wpAnyH_done (by kernel_rfl) ?_ _
  go_wp2
  go_ret
  exact ⟨g', t1, rfl, R1.out, by rw [HXX.out]; exact Q1.out, rfl⟩
theorem cells0_one (ts : List (Option Nat)) : (List.replicate 16 (Value.pointer none) ++ ts.map ptr).toArray.all (·.oneCell') = true := by
  rw [List.all_toArray, List.all_eq_true]
  intro x hx
  rcases List.mem_append.1 hx with h | h
  · rw [List.eq_of_mem_replicate h]; rfl
  · obtain ⟨o, _, rfl⟩ := List.mem_map.1 h
    exact ptr_one o
theorem cells1_one (bs : List (Option Nat)) : (bs.map ptr ++ List.replicate 16 (Value.pointer none)).toArray.all (·.oneCell') = true := by
  rw [List.all_toArray, List.all_eq_true]
  intro x hx
  rcases List.mem_append.1 hx with h | h
  · obtain ⟨o, _, rfl⟩ := List.mem_map.1 h
    exact ptr_one o
  · rw [List.eq_of_mem_replicate h]; rfl
theorem cells0_set (ts : List (Option Nat)) (D x : Nat) : (List.replicate 16 (Value.pointer none) ++ ts.map ptr).toArray.setIfInBounds (16 + D) (.pointer (some ⟨x, 0, none⟩)) = (List.replicate 16 (Value.pointer none) ++ (ts.set D (some x)).map ptr).toArray := by
  rw [List.setIfInBounds_toArray, List.set_append_right _ _ (by simp), List.length_replicate, Nat.add_sub_cancel_left, List.map_set]
  rfl
theorem cells1_set (bs : List (Option Nat)) (hl : bs.length = 16) (D x : Nat) (hD : D < 16) : (bs.map ptr ++ List.replicate 16 (Value.pointer none)).toArray.setIfInBounds D (.pointer (some ⟨x, 0, none⟩)) = ((bs.set D (some x)).map ptr ++ List.replicate 16 (Value.pointer none)).toArray := by
  rw [List.setIfInBounds_toArray, List.set_append_left _ _ (by simp; omega), List.map_set]
  rfl
theorem z96_0 : (Z96 : Array Value) = (List.replicate 16 (Value.pointer none) ++ (List.replicate 16 (none : Option Nat)).map ptr).toArray := rfl
theorem z96_1 : (Z96 : Array Value) = ((List.replicate 16 (none : Option Nat)).map ptr ++ List.replicate 16 (Value.pointer none)).toArray := rfl
theorem put0_below (w : World) (v : ByteArray) (cs : Array Value) (D : Nat) : Below w.heap.size w (put0 w v cs D) := ((Below.refl _ _).alloc (Nat.le_refl _) _).alloc (by simp) _
theorem put0_node (w : World) (v : ByteArray) (cs : Array Value) (D : Nat) : (put0 w v cs D).heap[w.heap.size + 1]? = some (.cells (cs.setIfInBounds (16 + D) (.pointer (some ⟨w.heap.size, 0, none⟩))) 106 (0, 0)) := mid1_node w v _
theorem put0_thing (w : World) (v : ByteArray) (cs : Array Value) (D : Nat) : (put0 w v cs D).heap[w.heap.size]? = some (.cells #[.string v] 9 (0, 0)) := mid1_thing w v _
section
variable {w : World} {E : Nat → Prop} [DecidablePred E]
/-- The node that with makes at the lowest level. -/
theorem node0 (hE : ∀ i, E i → i < w.heap.size) (ts : List (Option Nat)) (hl : ts.length = 16) (M : Mp) (k : Nat) (v : ByteArray) (ht : ∀ i, i < 16 → ThingOn (seenH w E) (ts.getD i none) (M i)) : NodeOn (seenH (put0 w v (List.replicate 16 (Value.pointer none) ++ ts.map ptr).toArray (dig k 0)) E) 0 (some (w.heap.size + 1)) (upd M (k % spn 1) v) := by
  have hD := dig_lt k 0
  have hd : k % spn 1 = dig k 0 := by unfold dig spn; simp
  rw [hd]
  obtain ⟨D, hDD⟩ : ∃ D, dig k 0 = D := ⟨_, rfl⟩
  rw [hDD] at hD ⊢
  have hs := shows_below (E := E) (E' := E) (put0_below w v (List.replicate 16 (Value.pointer none) ++ ts.map ptr).toArray D) (fun i _ q => q)
  refine ⟨ts.set D (some w.heap.size), by simpa using hl, seen_of (fresh hE (by omega)) (by rw [put0_node, cells0_set]), fun i hi => ?_, not_void_upd M v (by unfold spn; omega)⟩
  rw [getD_set _ _ _ _ (by omega)]
  unfold upd
  by_cases e : i = D
  · rw [if_pos e, if_pos e]
    exact seen_of (fresh hE (Nat.le_refl _)) (put0_thing _ _ _ _)
  · rw [if_neg e, if_neg e]
    exact (ht i hi).mono hs
/-- The node that with makes above it. -/
theorem node1 {t1 : World} (hE : ∀ i, E i → i < w.heap.size) (bs : List (Option Nat)) (hl : bs.length = 16) (l : Nat) (M : Mp) (k : Nat) (v : ByteArray) (g' : Nat) (hb : ∀ i, i < 16 → NodeOn (seenH w E) l (bs.getD i none) (sub M (spn (l + 1)) i))
    (q1 : Below (mid1 w v (bs.map ptr ++ List.replicate 16 (Value.pointer none)).toArray).heap.size (mid1 w v (bs.map ptr ++ List.replicate 16 (Value.pointer none)).toArray) t1)
    (r1 : NodeOn (seenH t1 (fun i => E i ∨ i = w.heap.size + 1)) l (some g') (upd (sub M (spn (l + 1)) (dig k (l + 1))) (k % spn (l + 1)) v)) :
    NodeOn (seenH (t1.setCell ⟨w.heap.size + 1, dig k (l + 1), none⟩ (.pointer (some ⟨g', 0, none⟩))) E) (l + 1) (some (w.heap.size + 1)) (upd M (k % spn (l + 2)) v) ∧ Below w.heap.size w (t1.setCell ⟨w.heap.size + 1, dig k (l + 1), none⟩ (.pointer (some ⟨g', 0, none⟩))) := by
  have hD := dig_lt k (l + 1)
  have hms := mid1_size w v (bs.map ptr ++ List.replicate 16 (Value.pointer none)).toArray
  have hgn := (q1.block (w.heap.size + 1) (by omega)).trans (mid1_node w v _)
  have hbw : Below w.heap.size w t1 := (mid1_below w v _).trans (q1.mono (by omega))
  have hb2 : Below w.heap.size w (t1.setCell ⟨w.heap.size + 1, dig k (l + 1), none⟩ (.pointer (some ⟨g', 0, none⟩))) := hbw.setCell (p := ⟨w.heap.size + 1, dig k (l + 1), none⟩) (by simp) _
  have htop : k % spn (l + 2) / spn (l + 1) = dig k (l + 1) := dig_top k (l + 1)
  have hlow : k % spn (l + 2) % spn (l + 1) = k % spn (l + 1) := mod_mod k (l + 1)
  have hpos := spn_pos (l + 1)
  refine ⟨⟨bs.set (dig k (l + 1)) (some g'), by simpa using hl, seen_of (fresh hE (by omega)) ?_, fun i hi => ?_, not_void_upd M v (Nat.mod_lt _ (spn_pos (l + 2)))⟩, hb2⟩
  · rw [heap_setCell_same t1 (w.heap.size + 1) (dig k (l + 1)) _ 106 _ hgn, cells1_set bs hl _ _ hD]
  · rw [getD_set _ _ _ _ (by omega)]
    by_cases e : i = dig k (l + 1)
    · rw [if_pos e, e]
      refine NodeOn.congr (fun j hj => ?_) (r1.mono (H' := seenH (t1.setCell ⟨w.heap.size + 1, dig k (l + 1), none⟩ (.pointer (some ⟨g', 0, none⟩))) E) (fun x o hx => ?_))
      · have h9 := sub_upd_same M (s := spn (l + 1)) (k := k % spn (l + 2)) hpos v j hj
        rw [htop, hlow] at h9
        exact h9.symm
      · obtain ⟨h1, h2⟩ := seen_block hx
        refine seen_of (fun q => h1 (Or.inl q)) ?_
        rw [heap_setCell_other t1 ⟨w.heap.size + 1, dig k (l + 1), none⟩ x _ (fun q => h1 (Or.inr q))]
        exact h2
    · rw [if_neg e]
      refine NodeOn.congr (fun j hj => ?_) ((hb i hi).mono (shows_below (E := E) (E' := E) hb2 (fun _ _ q => q)))
      have h9 := sub_upd_other M (s := spn (l + 1)) (k := k % spn (l + 2)) (i := i) hpos v (by rw [htop]; exact e) j hj
      exact h9.symm
end
theorem NodeOn.drew {w : World} {E : Nat → Prop} [DecidablePred E] {l : Nat} {o : Option Nat} {M : Mp} (h : NodeOn (seenH w E) l o M) : NodeOn (seenH w.drew E) l o M := h
/-- with: a node with v at the key k, counted within its own keys. -/
theorem with_any : ∀ (l k : Nat) (v : ByteArray) (o : Option Nat) (M : Mp) (w : World) (E : Nat → Prop) [DecidablePred E], l ≤ 4 → k < 1048576 → (∀ i, E i → i < w.heap.size) → NodeOn (seenH w E) l o M →
    Calls Try.prog 44 #[ptr o, .int .i64 (l : Int), .int .i64 (k : Int), .string v] w fun e w' => ∃ g, e = .returned (.pointer (some ⟨g, 0, none⟩)) ∧ NodeOn (seenH w' E) l (some g) (upd M (k % spn (l + 1)) v) ∧ Below w.heap.size w w'
  | 0, k, v, none, M, w, E, _, hl, hk, hE, h => by
    refine (with0_none k v w hk).mono ?_
    rintro e w' ⟨rfl, rfl⟩
    refine ⟨_, rfl, ?_, put0_below _ _ _ _⟩
    rw [z96_0]
    refine node0 hE (List.replicate 16 none) (by simp) M k v (fun i hi => ?_)
    have hv : M i = none := h i (by unfold spn; omega)
    rw [hv, repD]
    trivial
  | 0, k, v, some g0, M, w, E, _, hl, hk, hE, ⟨ts, h1, h2, h3, h4⟩ => by
    obtain ⟨_, h5⟩ := seen_block h2
    refine (with0_some k g0 v _ w hk h5 (by simp [h1]) (cells0_one ts)).mono ?_
    rintro e w' ⟨rfl, rfl⟩
    exact ⟨_, rfl, node0 hE ts h1 M k v h3, put0_below _ _ _ _⟩
  | l + 1, k, v, none, M, w, E, _, hl, hk, hE, h => by
    have hv := (void_sub (spn_pos (l + 1))).1 (by rw [← spn_succ]; exact h)
    have hb0 : ∀ i, i < 16 → NodeOn (seenH w E) l ((List.replicate 16 (none : Option Nat)).getD i none) (sub M (spn (l + 1)) i) := fun i hi => by
      rw [repD]
      exact NodeOn.void (hv i hi)
    have hD := dig_lt k (l + 1)
    have IH := with_any l k v none (sub M (spn (l + 1)) (dig k (l + 1))) (mid1 w v Z96).drew (fun i => E i ∨ i = w.heap.size + 1) (by omega) hk (fun i q => by show i < (mid1 w v Z96).heap.size; rw [mid1_size]; exact q.elim (fun q => by have := hE i q; omega) (fun q => by omega)) (NodeOn.void (hv _ hD))
    refine (withS_none l k v w none (fun g' w1 => NodeOn (seenH w1 (fun i => E i ∨ i = w.heap.size + 1)) l (some g') (upd (sub M (spn (l + 1)) (dig k (l + 1))) (k % spn (l + 1)) v)) hk hl ?_ (IH.mono ?_)).mono ?_
    · rw [z96_1, List.getElem?_toArray, List.getElem?_append_left (by simp; omega), List.getElem?_map, List.getElem?_replicate]
      simp [hD]
    · rintro e w1 ⟨g', rfl, r1, q1⟩
      exact ⟨g', rfl, (Below.refl _ _).drew.trans q1, r1⟩
    · rintro e w' ⟨g', w1, rfl, r1, q1, rfl⟩
      rw [z96_1] at q1
      obtain ⟨n1, n2⟩ := node1 hE (List.replicate 16 none) (by simp) l M k v g' hb0 q1 r1
      exact ⟨_, rfl, n1, n2⟩
  | l + 1, k, v, some g0, M, w, E, _, hl, hk, hE, ⟨bs, h1, h2, h3, h4⟩ => by
    obtain ⟨_, h5⟩ := seen_block h2
    have hD := dig_lt k (l + 1)
    have IH := with_any l k v (bs.getD (dig k (l + 1)) none) (sub M (spn (l + 1)) (dig k (l + 1))) (mid1 w v (bs.map ptr ++ List.replicate 16 (Value.pointer none)).toArray).drew (fun i => E i ∨ i = w.heap.size + 1) (by omega) hk (fun i q => by show i < (mid1 w v _).heap.size; rw [mid1_size]; exact q.elim (fun q => by have := hE i q; omega) (fun q => by omega)) ((h3 _ hD).mono (shows_below (E := E) (mid1_below w v _).drew (fun i hi q => q.elim id (fun e => by omega))))
    refine (withS_some l k g0 v _ w (bs.getD (dig k (l + 1)) none) (fun g' w1 => NodeOn (seenH w1 (fun i => E i ∨ i = w.heap.size + 1)) l (some g') (upd (sub M (spn (l + 1)) (dig k (l + 1))) (k % spn (l + 1)) v)) hk hl h5 (by simp [h1]) (cells1_one bs) ?_ (IH.mono ?_)).mono ?_
    · rw [List.getElem?_toArray, List.getElem?_append_left (by simp; omega), List.getElem?_map, List.getD_eq_getElem?_getD, List.getElem?_eq_getElem (by omega)]
      rfl
    · rintro e w1 ⟨g', rfl, r1, q1⟩
      exact ⟨g', rfl, (Below.refl _ _).drew.trans q1, r1⟩
    · rintro e w' ⟨g', w1, rfl, r1, q1, rfl⟩
      obtain ⟨n1, n2⟩ := node1 hE bs h1 l M k v g' h3 q1 r1
      exact ⟨_, rfl, n1, n2⟩
/-- The first s numbers alone. -/
def firsts (M : Mp) (s : Nat) : Mp := fun k => if k < s then M k else none
abbrev A96 (p : Value) : Array Value := #[p, .pointer none, .pointer none, .pointer none, .pointer none, .pointer none, .pointer none, .pointer none, .pointer none, .pointer none, .pointer none, .pointer none, .pointer none, .pointer none, .pointer none, .pointer none, .pointer none, .pointer none, .pointer none, .pointer none, .pointer none, .pointer none, .pointer none, .pointer none, .pointer none, .pointer none, .pointer none, .pointer none, .pointer none, .pointer none, .pointer none, .pointer none]
set_option maxRecDepth 100000 in
theorem above_run (g : Nat) (w : World) : Calls Try.prog 58 #[.pointer (some ⟨g, 0, none⟩)] w fun e w' => e = .returned (.pointer (some ⟨w.heap.size, 0, none⟩)) ∧ w' = w.alloc (.cells (A96 (.pointer (some ⟨g, 0, none⟩))) 106) := by
  go_enter Try.func58, Try.ntmps58
  go_wp2
  go_ret
  exact ⟨rfl, rfl⟩
theorem a96_is (g : Nat) : A96 (.pointer (some ⟨g, 0, none⟩)) = ((((List.replicate 16 (none : Option Nat)).set 0 (some g)).map ptr) ++ List.replicate 16 (Value.pointer none)).toArray := rfl
/-- A node one level higher, whose keys stay as they are. -/
theorem above_any (l g : Nat) (M : Mp) (w : World) (E : Nat → Prop) [DecidablePred E] (hE : ∀ i, E i → i < w.heap.size) (h : NodeOn (seenH w E) l (some g) M) (hv : ¬ Void M (spn (l + 1))) :
    Calls Try.prog 58 #[.pointer (some ⟨g, 0, none⟩)] w fun e w' => ∃ g', e = .returned (.pointer (some ⟨g', 0, none⟩)) ∧ NodeOn (seenH w' E) (l + 1) (some g') (firsts M (spn (l + 1))) ∧ Below w.heap.size w w' := by
  refine (above_run g w).mono ?_
  rintro e w' ⟨rfl, rfl⟩
  have hb : Below w.heap.size w (w.alloc (.cells (A96 (.pointer (some ⟨g, 0, none⟩))) 106)) := (Below.refl _ _).alloc (Nat.le_refl _) _
  have hpos := spn_pos (l + 1)
  refine ⟨_, rfl, ⟨(List.replicate 16 none).set 0 (some g), by simp, seen_of (fresh hE (Nat.le_refl _)) (by rw [heap_alloc_last, a96_is]), fun i hi => ?_, fun q => hv (fun k hk => ?_)⟩, hb⟩
  · rw [getD_set _ _ _ _ (by simp)]
    by_cases e : i = 0
    · rw [if_pos e, e]
      refine NodeOn.congr (fun j hj => ?_) (h.mono (shows_below (E := E) (E' := E) hb (fun _ _ q => q)))
      unfold sub firsts
      rw [Nat.zero_mul, Nat.zero_add, if_pos hj]
    · rw [if_neg e, repD]
      refine NodeOn.void (fun j hj => ?_)
      unfold sub firsts
      have : spn (l + 1) ≤ i * spn (l + 1) := Nat.le_mul_of_pos_left _ (by omega)
      rw [if_neg (by omega)]
  · have h9 := q k (by rw [spn_succ (l + 1)]; omega)
    unfold firsts at h9
    rw [if_pos hk] at h9
    exact h9
theorem node_below {H : Nat → Option Obj} {l g : Nat} {M : Mp} (h : NodeOn H (l + 1) (some g) M) (k : Nat) : ∃ cs b, H g = some (.cells cs 106 (0, 0)) ∧ cs[dig k (l + 1)]? = some (ptr b) ∧ NodeOn H l b (sub M (spn (l + 1)) (dig k (l + 1))) := by
  obtain ⟨bs, h1, h2, h3, h4⟩ := h
  have hD := dig_lt k (l + 1)
  refine ⟨_, bs.getD (dig k (l + 1)) none, h2, ?_, h3 _ hD⟩
  rw [List.getElem?_toArray, List.getElem?_append_left (by simp; omega), List.getElem?_map, List.getD_eq_getElem?_getD, List.getElem?_eq_getElem (by omega)]
  rfl
theorem node_thing {H : Nat → Option Obj} {g : Nat} {M : Mp} (h : NodeOn H 0 (some g) M) (k : Nat) : ∃ cs t, H g = some (.cells cs 106 (0, 0)) ∧ cs[16 + dig k 0]? = some (ptr t) ∧ ThingOn H t (M (k % spn 1)) := by
  obtain ⟨ts, h1, h2, h3, h4⟩ := h
  have hD := dig_lt k 0
  have hd : k % spn 1 = dig k 0 := by unfold dig spn; simp
  refine ⟨_, ts.getD (dig k 0) none, h2, ?_, by rw [hd]; exact h3 _ hD⟩
  rw [List.getElem?_toArray, List.getElem?_append_right (by simp), List.length_replicate, Nat.add_sub_cancel_left, List.getElem?_map, List.getD_eq_getElem?_getD, List.getElem?_eq_getElem (by omega)]
  rfl
theorem sub_key (M : Mp) (k l : Nat) : sub M (spn (l + 1)) (dig k (l + 1)) (k % spn (l + 1)) = M (k % spn (l + 2)) := by
  unfold sub
  have h1 : k % spn (l + 2) / spn (l + 1) = dig k (l + 1) := dig_top k (l + 1)
  have h2 : k % spn (l + 2) % spn (l + 1) = k % spn (l + 1) := mod_mod k (l + 1)
  rw [← h1, ← h2, Nat.mul_comm, Nat.div_add_mod]
set_option maxHeartbeats 2000000 in
set_option maxRecDepth 100000 in
theorem seek_in (gt h k : Nat) (top : Option Nat) (n : Int) (M : Mp) (w : World) (hb : w.heap[gt]? = some (.cells #[ptr top, .int .i64 (h : Int), .int .i64 n] 82 (0, 0))) (l : Nat) (hh : h = l + 1) (h5 : h ≤ 5) (hk : k < spn h) (hN : NodeOn (seenH w (fun i => i = gt)) l top M) :
    Calls Try.prog 42 #[.pointer (some ⟨gt, 0, none⟩), .int .i64 (k : Int)] w fun e w' => ∃ t, e = .returned (ptr t) ∧ ThingOn (seenH w (fun i => i = gt)) t (M k) ∧ ∃ q, w' = w.drewN q := by
  have hk5 : k < 1048576 := Nat.lt_of_lt_of_le hk (dig_le5 h h5)
  have c0 : w.cell? ⟨gt, 0, none⟩ = some (ptr top) := by rw [cell_of_row _ _ 0 _ 82 (0, 0) hb]; rfl
  have c1 : w.cell? ⟨gt, 1, none⟩ = some (.int .i64 (h : Int)) := by rw [cell_of_row _ _ 1 _ 82 (0, 0) hb]; rfl
  obtain ⟨T0, hT0⟩ : ∃ T0, ptr top = T0 := ⟨_, rfl⟩
  rw [hT0] at c0
  have HT0 : Hid _ := hT0
  have HN : Hid _ := hN
  have hkk : k % spn (l + 1) = k := Nat.mod_eq_of_lt (by rw [← hh]; exact hk)
  have HKK : Hid _ := hkk
  obtain ⟨SP, hSP⟩ : ∃ SP, spn h = SP := ⟨_, rfl⟩
  have HSP : Hid _ := hSP
  rw [hSP] at hk
  have dk1 : ¬ ((k : Int) < 0) := by omega
  have dk2 : ¬ ((SP : Int) ≤ (k : Int)) := by omega
  have dk3 : decide (SP ≤ k) = false := decide_eq_false (by omega)
  have dk4 : decide ((SP : Int) ≤ (k : Int)) = false := decide_eq_false (by omega)
  have dl : (h : Int) - 1 = (l : Int) := by omega
  have HHL : Hid _ := hh
  clear hb hT0 hN hkk hSP hh
  go_enter Try.func42, Try.ntmps42
  go_wp2_with (first
    | (go_at_call 54; refine (span_any h _ h5).mono ?_; rintro e u ⟨rfl, rfl⟩; rw [HSP.out]))
  go_loopw [5, 6] (fun s5 s6 wr => ∃ (lev : Nat) (o' : Option Nat) (M' : Mp), lev ≤ 4 ∧ s6 = .int .i64 (lev : Int) ∧ (o' = none ∧ s5 = .pointer none ∨ ∃ g, o' = some g ∧ s5 = .pointer (some ⟨g, 0, none⟩)) ∧ Hid (NodeOn (seenH w (fun i => i = gt)) lev o' M') ∧ Hid (M' (k % spn (lev + 1)) = M k) ∧ ∃ q, wr = w.drewN q)
    (fun _ i _ => (intOf i).toNat)
  case atStart => exact ⟨l, top, M, by have := HHL.out; omega, by first | rfl | (congr 1; omega), by rw [← HT0.out]; exact ptr_cases top, HN, by unfold Hid; rw [HKK.out], 0, rfl⟩
  case round =>
    obtain ⟨lev, o', M', hlev, rfl, hps, HN', HM', q, rfl⟩ := hrel
    rcases hps with ⟨rfl, rfl⟩ | ⟨g, rfl, rfl⟩
    · have hv : M k = none := by rw [← HM'.out]; exact (NodeOn.isVoid HN'.out) _ (Nat.mod_lt _ (spn_pos _))
      have HV : Hid _ := hv
      clear hv
      by_cases hz : lev = 0
      · subst hz
        go_wp2
        go_ret
        exact ⟨none, rfl, by rw [HV.out]; trivial, _, rfl⟩
      · have dz : (0 : Int) < lev := by omega
        go_wp2
        go_ret
        exact ⟨none, rfl, by rw [HV.out]; trivial, _, rfl⟩
    · cases lev with
      | zero =>
        obtain ⟨cs, t, z1, z2, z3⟩ := node_thing HN'.out k
        obtain ⟨_, z4⟩ := seen_block z1
        have hD := dig_lt k 0
        obtain ⟨D, hDD⟩ : ∃ D, dig k 0 = D := ⟨_, rfl⟩
        rw [hDD] at z2 hD
        have HD : Hid _ := hDD
        have HZ3 : Hid (ThingOn (seenH w (fun i => i = gt)) t (M k)) := by unfold Hid; rw [← HM'.out]; exact z3
        have x0 : w.cell? ⟨g, 16 + D, none⟩ = some (ptr t) := by rw [cell_of_row _ _ (16 + D) cs 106 (0, 0) z4]; exact z2
        obtain ⟨TP, hTP⟩ : ∃ TP, ptr t = TP := ⟨_, rfl⟩
        rw [hTP] at x0
        have HTP : Hid _ := hTP
        have dD : (D : Int) < 16 := by omega
        clear z1 z2 z3 z4 hDD hTP
        go_upto_region 10 with fail
        refine wp_region_held_drew (S := (fun x => x.cell? ⟨g, 16 + D, none⟩ = some TP)) (by kernel_rfl) (x0) (fun hHeld => ?_)
        refine wpAnyH_take (i := 0) (oi := { dst := some 45, op := Op.move (Operand.tmp 5), type := 80, pos := "tnode.go:64", after := #[], guard := none }) (v := ?v0p) rfl (by kernel_rfl) (by kernel_rfl) (by kernel_rfl) (fun _ _ _ h => h) (Or.inl ⟨by rfl, ?y0p⟩) (by assumption) ?r0p
        case y0p => (intro x hx; (try dsimp only at hx); go_simp; try with_reducible rfl)
        try simp only [Act.put, List.setIfInBounds_toArray, List.set_cons_zero, List.set_cons_succ]
        refine wpAnyH_take (i := 1) (oi := { dst := some 46, op := Op.move (Operand.tmp 1), type := 3, pos := "tnode.go:64", after := #[], guard := none }) (v := ?v1p) rfl (by kernel_rfl) (by kernel_rfl) (by kernel_rfl) (fun _ _ _ h => h) (Or.inl ⟨by rfl, ?y1p⟩) (by assumption) ?r1p
        case y1p => (intro x hx; (try dsimp only at hx); go_simp; try with_reducible rfl)
        try simp only [Act.put, List.setIfInBounds_toArray, List.set_cons_zero, List.set_cons_succ]
        refine wpAnyH_take (i := 3) (oi := { dst := some 48, op := Op.nilCheck (Operand.tmp 45), type := 0, pos := "tnode.go:64", after := #[{ on := 0, ground := Ground.data }], guard := none }) (v := ?v3p) rfl (by kernel_rfl) (by kernel_rfl) (by kernel_rfl) (fun _ _ _ h => h) (Or.inl ⟨by rfl, ?y3p⟩) (by assumption) ?r3p
        case y3p => (intro x hx; (try dsimp only at hx); go_simp; try with_reducible rfl)
        try simp only [Act.put, List.setIfInBounds_toArray, List.set_cons_zero, List.set_cons_succ]
        refine wpAnyH_take (i := 4) (oi := { dst := some 49, op := Op.fieldAddr 106 (Operand.tmp 48) 1, type := 0, pos := "tnode.go:64", after := #[{ on := 3, ground := Ground.data }], guard := none }) (v := ?v4p) rfl (by kernel_rfl) (by kernel_rfl) (by kernel_rfl) (fun _ _ _ h => h) (Or.inl ⟨by rfl, ?y4p⟩) (by assumption) ?r4p
        case y4p => (intro x hx; (try dsimp only at hx); go_simp; try with_reducible rfl)
        try simp only [Act.put, List.setIfInBounds_toArray, List.set_cons_zero, List.set_cons_succ]
        refine wpAnyH_ready (rs := [2]) (by kernel_rfl) (by simp) ?_
        refine AllReadyH.cons (o := { dst := some 47, op := Op.call { callee := Callee.value (Operand.func 55), args := #[Operand.tmp 46, Operand.const (Value.int IntKind.i64 0)], argTypes := #[3, 3] }, type := 3, pos := "tnode.go:64", after := #[{ on := 1, ground := Ground.data }], guard := none }) rfl (fun K hK => ?_) AllReadyH.nil
        go_simp
        go_at_call 55
        refine (digit_any k 0 _ (by omega) hk5).mono ?_
        rintro e u ⟨rfl, rfl⟩
        rw [HD.out]
        have hSnew := x0
        go_wp2_with fail
        refine hK.out _ _ hSnew (fun hHeld2 => ?_)
        clear hK K hSnew
        clear hHeld
        have hHeld := hHeld2
        clear hHeld2
        try simp only [Act.put, List.setIfInBounds_toArray, List.set_cons_zero, List.set_cons_succ]
        refine wpAnyH_take (i := 5) (oi := { dst := some 50, op := Op.indexAddr 104 (Operand.tmp 49) (Operand.tmp 47), type := 0, pos := "tnode.go:64", after := #[{ on := 4, ground := Ground.data }, { on := 2, ground := Ground.data }], guard := none }) (v := ?v5p) rfl (by kernel_rfl) (by kernel_rfl) (by kernel_rfl) (fun _ _ _ h => h) (Or.inl ⟨by rfl, ?y5p⟩) (by assumption) ?r5p
        case y5p => (intro x hx; (try dsimp only at hx); go_simp; try with_reducible rfl)
        try simp only [Act.put, List.setIfInBounds_toArray, List.set_cons_zero, List.set_cons_succ]
        refine wpAnyH_take (i := 6) (oi := { dst := some 51, op := Op.load 86 (Operand.tmp 50), type := 86, pos := "tnode.go:64", after := #[{ on := 5, ground := Ground.data }], guard := none }) (v := ?v6p) rfl (by kernel_rfl) (by kernel_rfl) (by kernel_rfl) (fun _ _ _ h => h) (Or.inl ⟨by rfl, ?y6p⟩) (by assumption) ?r6p
        case y6p => (intro x hx; (try dsimp only at hx); go_simp; try with_reducible rfl)
        try simp only [Act.put, List.setIfInBounds_toArray, List.set_cons_zero, List.set_cons_succ]
        refine wpAnyH_take (i := 7) (oi := { dst := some 4, op := Op.assign (Operand.tmp 51), type := 86, pos := "tnode.go:64", after := #[{ on := 6, ground := Ground.data }, { on := 2, ground := Ground.chain }, { on := 0, ground := Ground.phase }, { on := 1, ground := Ground.phase }, { on := 2, ground := Ground.phase }, { on := 3, ground := Ground.phase }, { on := 4, ground := Ground.phase }, { on := 5, ground := Ground.phase }, { on := 6, ground := Ground.phase }], guard := none }) (v := ?v7p) rfl (by kernel_rfl) (by kernel_rfl) (by kernel_rfl) (fun _ _ _ h => h) (Or.inl ⟨by rfl, ?y7p⟩) (by assumption) ?r7p
        case y7p => (intro x hx; (try dsimp only at hx); go_simp; try with_reducible rfl)
        try simp only [Act.put, List.setIfInBounds_toArray, List.set_cons_zero, List.set_cons_succ]
        refine wpAnyH_done (by kernel_rfl) ?_ _
        go_wp2
        go_ret
        exact ⟨t, by rw [HTP.out]; rfl, HZ3.out, _, rfl⟩
      | succ lev =>
        obtain ⟨cs, b, z1, z2, z3⟩ := node_below HN'.out k
        obtain ⟨_, z4⟩ := seen_block z1
        have hD := dig_lt k (lev + 1)
        obtain ⟨D, hDD⟩ : ∃ D, dig k (lev + 1) = D := ⟨_, rfl⟩
        rw [hDD] at z2 z3 hD
        have HD : Hid _ := hDD
        have HZ3 : Hid _ := z3
        have HM2 : Hid (sub M' (spn (lev + 1)) D (k % spn (lev + 1)) = M k) := by unfold Hid; rw [← hDD, sub_key]; exact HM'.out
        have x0 : w.cell? ⟨g, D, none⟩ = some (ptr b) := by rw [cell_of_row _ _ D cs 106 (0, 0) z4]; exact z2
        obtain ⟨TP, hTP⟩ : ∃ TP, ptr b = TP := ⟨_, rfl⟩
        rw [hTP] at x0
        have HTP : Hid _ := hTP
        have dD : (D : Int) < 16 := by omega
        have dz : (0 : Int) < ((lev + 1 : Nat) : Int) := by omega
        clear z1 z2 z3 z4 hDD hTP
        go_upto_region 7 with fail
        refine wp_region_held_drew (S := (fun x => x.cell? ⟨g, D, none⟩ = some TP)) (by kernel_rfl) (x0) (fun hHeld => ?_)
        refine wpAnyH_take (i := 0) (oi := { dst := some 35, op := Op.move (Operand.tmp 5), type := 80, pos := "tnode.go:59", after := #[], guard := none }) (v := ?v0r) rfl (by kernel_rfl) (by kernel_rfl) (by kernel_rfl) (fun _ _ _ h => h) (Or.inl ⟨by rfl, ?y0r⟩) (by assumption) ?r0r
        case y0r => (intro x hx; (try dsimp only at hx); go_simp; try with_reducible rfl)
        try simp only [Act.put, List.setIfInBounds_toArray, List.set_cons_zero, List.set_cons_succ]
        refine wpAnyH_take (i := 1) (oi := { dst := some 36, op := Op.move (Operand.tmp 1), type := 3, pos := "tnode.go:59", after := #[], guard := none }) (v := ?v1r) rfl (by kernel_rfl) (by kernel_rfl) (by kernel_rfl) (fun _ _ _ h => h) (Or.inl ⟨by rfl, ?y1r⟩) (by assumption) ?r1r
        case y1r => (intro x hx; (try dsimp only at hx); go_simp; try with_reducible rfl)
        try simp only [Act.put, List.setIfInBounds_toArray, List.set_cons_zero, List.set_cons_succ]
        refine wpAnyH_take (i := 2) (oi := { dst := some 37, op := Op.move (Operand.tmp 6), type := 3, pos := "tnode.go:59", after := #[], guard := none }) (v := ?v2r) rfl (by kernel_rfl) (by kernel_rfl) (by kernel_rfl) (fun _ _ _ h => h) (Or.inl ⟨by rfl, ?y2r⟩) (by assumption) ?r2r
        case y2r => (intro x hx; (try dsimp only at hx); go_simp; try with_reducible rfl)
        try simp only [Act.put, List.setIfInBounds_toArray, List.set_cons_zero, List.set_cons_succ]
        refine wpAnyH_take (i := 4) (oi := { dst := some 39, op := Op.nilCheck (Operand.tmp 35), type := 0, pos := "tnode.go:59", after := #[{ on := 0, ground := Ground.data }], guard := none }) (v := ?v4r) rfl (by kernel_rfl) (by kernel_rfl) (by kernel_rfl) (fun _ _ _ h => h) (Or.inl ⟨by rfl, ?y4r⟩) (by assumption) ?r4r
        case y4r => (intro x hx; (try dsimp only at hx); go_simp; try with_reducible rfl)
        try simp only [Act.put, List.setIfInBounds_toArray, List.set_cons_zero, List.set_cons_succ]
        refine wpAnyH_take (i := 5) (oi := { dst := some 40, op := Op.fieldAddr 106 (Operand.tmp 39) 0, type := 0, pos := "tnode.go:59", after := #[{ on := 4, ground := Ground.data }], guard := none }) (v := ?v5r) rfl (by kernel_rfl) (by kernel_rfl) (by kernel_rfl) (fun _ _ _ h => h) (Or.inl ⟨by rfl, ?y5r⟩) (by assumption) ?r5r
        case y5r => (intro x hx; (try dsimp only at hx); go_simp; try with_reducible rfl)
        try simp only [Act.put, List.setIfInBounds_toArray, List.set_cons_zero, List.set_cons_succ]
        refine wpAnyH_ready (rs := [3]) (by kernel_rfl) (by simp) ?_
        refine AllReadyH.cons (o := { dst := some 38, op := Op.call { callee := Callee.value (Operand.func 55), args := #[Operand.tmp 36, Operand.tmp 37], argTypes := #[3, 3] }, type := 3, pos := "tnode.go:59", after := #[{ on := 1, ground := Ground.data }, { on := 2, ground := Ground.data }], guard := none }) rfl (fun K hK => ?_) AllReadyH.nil
        go_simp
        go_at_call 55
        refine (digit_any k (lev + 1) _ hlev hk5).mono ?_
        rintro e u ⟨rfl, rfl⟩
        rw [HD.out]
        have hSnew := x0
        go_wp2_with fail
        refine hK.out _ _ hSnew (fun hHeld3 => ?_)
        clear hK K hSnew
        clear hHeld
        have hHeld := hHeld3
        clear hHeld3
        try simp only [Act.put, List.setIfInBounds_toArray, List.set_cons_zero, List.set_cons_succ]
        refine wpAnyH_take (i := 6) (oi := { dst := some 41, op := Op.indexAddr 103 (Operand.tmp 40) (Operand.tmp 38), type := 0, pos := "tnode.go:59", after := #[{ on := 5, ground := Ground.data }, { on := 3, ground := Ground.data }], guard := none }) (v := ?v6r) rfl (by kernel_rfl) (by kernel_rfl) (by kernel_rfl) (fun _ _ _ h => h) (Or.inl ⟨by rfl, ?y6r⟩) (by assumption) ?r6r
        case y6r => (intro x hx; (try dsimp only at hx); go_simp; try with_reducible rfl)
        try simp only [Act.put, List.setIfInBounds_toArray, List.set_cons_zero, List.set_cons_succ]
        refine wpAnyH_take (i := 7) (oi := { dst := some 42, op := Op.load 80 (Operand.tmp 41), type := 80, pos := "tnode.go:59", after := #[{ on := 6, ground := Ground.data }], guard := none }) (v := ?v7r) rfl (by kernel_rfl) (by kernel_rfl) (by kernel_rfl) (fun _ _ _ h => h) (Or.inl ⟨by rfl, ?y7r⟩) (by assumption) ?r7r
        case y7r => (intro x hx; (try dsimp only at hx); go_simp; try with_reducible rfl)
        try simp only [Act.put, List.setIfInBounds_toArray, List.set_cons_zero, List.set_cons_succ]
        refine wpAnyH_take (i := 8) (oi := { dst := some 5, op := Op.assign (Operand.tmp 42), type := 80, pos := "tnode.go:59", after := #[{ on := 7, ground := Ground.data }, { on := 3, ground := Ground.chain }, { on := 0, ground := Ground.phase }, { on := 1, ground := Ground.phase }, { on := 2, ground := Ground.phase }, { on := 3, ground := Ground.phase }, { on := 4, ground := Ground.phase }, { on := 5, ground := Ground.phase }, { on := 6, ground := Ground.phase }, { on := 7, ground := Ground.phase }], guard := none }) (v := ?v8r) rfl (by kernel_rfl) (by kernel_rfl) (by kernel_rfl) (fun _ _ _ h => h) (Or.inl ⟨by rfl, ?y8r⟩) (by assumption) ?r8r
        case y8r => (intro x hx; (try dsimp only at hx); go_simp; try with_reducible rfl)
        try simp only [Act.put, List.setIfInBounds_toArray, List.set_cons_zero, List.set_cons_succ]
        refine wpAnyH_done (by kernel_rfl) ?_ _
        go_wp2
        go_roundw
        case rel => exact ⟨lev, b, sub M' (spn (lev + 1)) D, by omega, by first | rfl | (congr 1; omega) | simp, by rw [← HTP.out]; exact ptr_cases b, HZ3, HM2, _, rfl⟩
        case measure => simp [intOf]
end Go.Proofs.Ytjginocbbnmgaaa.Str
