/-
  SEAT YtnjcjaaciphcgaaDoor: Read.
-/
import Derived.Test.YtnjcjaaciphcgaaDoorVi
namespace Go.Proofs.YtnjcjaaciphcgaaDoor
open Go.RowKit Go.Sort
set_option linter.unusedVariables false

theorem report_any (q k : Nat) (l0 : List UInt8) (w : World) (hR : RdA w q l0 k) (hn0 : l0.length < 4294967281) (hk : k ≤ 100000000000) (ht : P10 w) (hv : EV w) (hq9 : 9 ≤ q) (hkw : KW w) :
    Calls Tryd.prog 29 #[.pointer (some ⟨q, 0, none⟩)] w fun e w' => RepR q k w w' e (rp l0) := by
  cases h0 : flr l0 with
  | none => exact rep_bad0 q k l0 w hR hn0 hk ht hv hq9 h0
  | some y0 =>
    cases h1 : nb (nx l0) wC with
    | none => exact rep_bad1 q k l0 w hR hn0 hk ht hv hq9 y0 h0 h1
    | some y1 =>
      cases h2 : nb (nx (nx l0)) wL with
      | none => exact rep_bad2 q k l0 w hR hn0 hk ht hv hq9 y0 h0 y1 h1 h2
      | some y2 =>
        cases h3 : nb (nx (nx (nx l0))) wU with
        | none => exact rep_bad3 q k l0 w hR hn0 hk ht hv hq9 y0 h0 y1 h1 y2 h2 h3
        | some y3 =>
          cases h4 : nb (nx (nx (nx (nx l0)))) wB with
          | none => exact rep_bad4 q k l0 w hR hn0 hk ht hv hq9 y0 h0 y1 h1 y2 h2 y3 h3 h4
          | some y4 =>
            cases h5 : sv (nx (nx (nx (nx (nx l0))))) with
            | none => exact rep_bad5 q k l0 w hR hn0 hk ht hv hq9 y0 h0 y1 h1 y2 h2 y3 h3 y4 h4 h5
            | some y5 =>
              exact rep_ok q k l0 w hR hn0 hk ht hv hq9 hkw y0 h0 y1 h1 y2 h2 y3 h3 y4 h4 y5 h5

theorem cell_drew (u : World) (a : Addr) : u.drew.cell? a = u.cell? a := rfl
theorem heap_drew (u : World) : u.drew.heap = u.heap := rfl
theorem readsF_grown {w u : World} {i n : Nat} {a : Option Addr} {fs : List Fd} (h : ReadsF w a n fs) (hg : w.grownBy u (some i)) (hne : ∀ x, a = some x → x.block ≠ i) : ReadsF u a n fs := by
  refine ⟨h.1, h.2.1, fun x hx p hp j hj => ?_⟩
  have h9 := h.2.2 x hx p hp j hj
  obtain ⟨bk, off, h8, _⟩ := h.pos (by omega)
  subst h8
  obtain rfl := Option.some.inj hx
  rw [plain_add] at h9 ⊢
  rw [World.cell?_of_block (hg.block _ (block_lt_of_cell h9) (fun e => hne _ rfl (Option.some.inj e)))]
  exact h9

/-- What Read answers. -/
def ReadR (w w' : World) (e : Ending) (x : Option Rp × Nat) : Prop :=
  match x.1 with
  | none => e = .returned (.tuple #[.agg #[.int .u64 0, .int .i64 0, .int .i64 0, .int .i64 0, .int .i64 0, .bool false, .slice none 0 0], .int .i64 200, .int .i64 (x.2 : Int)])
  | some r => ∃ a n c, e = .returned (.tuple #[.agg #[.int .u64 (r.fl : Int), .int .i64 r.c, .int .i64 r.l, .int .i64 r.u, .int .i64 r.b, .bool r.s, .slice a n c], .int .i64 0, .int .i64 0]) ∧ ReadsF w' a n r.fs

set_option maxHeartbeats 4000000 in
set_option maxRecDepth 100000 in
theorem read_bad (l : List UInt8) (w : World) (hl : l.length < 4294967281) (ht : P10 w) (hv : EV w) (hkw : KW w) (hw9 : 9 ≤ w.heap.size) (m : Nat) (hx : rp l = (none, m)) :
    Calls Tryd.prog 10 #[.string ⟨l.toArray⟩] w fun e w' => e = .returned (.tuple #[.agg #[.int .u64 0, .int .i64 0, .int .i64 0, .int .i64 0, .int .i64 0, .bool false, .slice none 0 0], .int .i64 200, .int .i64 (m : Int)]) ∧ Below w.heap.size w w' := by
  have HX : Hid (rp l = (none, m)) := hx
  clear hx
  have HBL : Hid (Below w.heap.size w ((w.alloc (.cells #[.int .u64 0, .int .i64 0, .int .i64 0, .int .i64 0, .int .i64 0, .bool false, .slice none 0 0] 25)).alloc (.cells #[.string ⟨l.toArray⟩, .int .i64 0] 67))) := below_trans (below_alloc' w _) (below_alloc' _ _)
  have HA0 : Hid (((w.alloc (.cells #[.int .u64 0, .int .i64 0, .int .i64 0, .int .i64 0, .int .i64 0, .bool false, .slice none 0 0] 25)).alloc (.cells #[.string ⟨l.toArray⟩, .int .i64 0] 67)).heap[w.heap.size]? = some (.cells #[.int .u64 0, .int .i64 0, .int .i64 0, .int .i64 0, .int .i64 0, .bool false, .slice none 0 0] 25 (0, 0))) := (Below.heap_alloc _ _ _ (by simp)).trans (heap_alloc_new w _)
  have HR0 : Hid (RdA ((w.alloc (.cells #[.int .u64 0, .int .i64 0, .int .i64 0, .int .i64 0, .int .i64 0, .bool false, .slice none 0 0] 25)).alloc (.cells #[.string ⟨l.toArray⟩, .int .i64 0] 67)) (w.heap.size + 1) l 0) := by
    have h9 := heap_alloc_new (w.alloc (.cells #[.int .u64 0, .int .i64 0, .int .i64 0, .int .i64 0, .int .i64 0, .bool false, .slice none 0 0] 25)) (.cells #[.string ⟨l.toArray⟩, .int .i64 0] 67)
    rw [World.size_alloc] at h9
    exact h9
  have HS0 : Hid (((w.alloc (.cells #[.int .u64 0, .int .i64 0, .int .i64 0, .int .i64 0, .int .i64 0, .bool false, .slice none 0 0] 25)).alloc (.cells #[.string ⟨l.toArray⟩, .int .i64 0] 67)).heap.size = w.heap.size + 2) := by unfold Hid; simp
  have HEV : EV ((w.alloc (.cells #[.int .u64 0, .int .i64 0, .int .i64 0, .int .i64 0, .int .i64 0, .bool false, .slice none 0 0] 25)).alloc (.cells #[.string ⟨l.toArray⟩, .int .i64 0] 67)) := hv.two (q := w.heap.size) (t := w.heap.size) (Two.of HBL.out) hw9 hw9
  have HRP := report_any (w.heap.size + 1) 0 l _ HR0.out hl (by omega) (p10_below ht HBL.out) HEV (by omega) (hkw.below HBL.out)
  clear ht hkw HEV hv
  go_enter Tryd.func10, Tryd.ntmps10
  go_upto_region 3 with (first
    | (go_at_call 29; refine HRP.mono ?_; rintro e t1 ⟨u, i1, i2, i3, i4, b, a, n, c, he1, hr1, ⟨l', hrd⟩, tw⟩
       have he2 : e = .returned (.tuple #[.agg #[.int .u64 u, .int .i64 i1, .int .i64 i2, .int .i64 i3, .int .i64 i4, .bool b, .slice a n c], .bool false]) := he1.trans (by rw [HX.out]; rfl)
       clear he1
       subst he2
       have hsz : w.heap.size + 2 ≤ t1.heap.size := by have h8 := tw.size; rw [HS0.out] at h8; exact h8
       have HN6 : Hid ((t1.alloc (.cells #[.int .u64 u, .int .i64 i1, .int .i64 i2, .int .i64 i3, .int .i64 i4, .bool b, .slice a n c] 25)).heap[t1.heap.size]? = some (.cells #[.int .u64 u, .int .i64 i1, .int .i64 i2, .int .i64 i3, .int .i64 i4, .bool b, .slice a n c] 25 (0, 0))) := heap_alloc_new _ _
       have HA6 : Hid ((t1.alloc (.cells #[.int .u64 u, .int .i64 i1, .int .i64 i2, .int .i64 i3, .int .i64 i4, .bool b, .slice a n c] 25)).heap[w.heap.size]? = some (.cells #[.int .u64 0, .int .i64 0, .int .i64 0, .int .i64 0, .int .i64 0, .bool false, .slice none 0 0] 25 (0, 0))) := (Below.heap_alloc _ _ _ (by omega)).trans ((tw.block _ (Array.getElem?_eq_some_iff.1 HA0.out).1 (by omega) (by omega)).trans HA0.out)
       have HR6 : Hid (RdA (t1.alloc (.cells #[.int .u64 u, .int .i64 i1, .int .i64 i2, .int .i64 i3, .int .i64 i4, .bool b, .slice a n c] 25)) (w.heap.size + 1) l' (0 + m)) := by have h8 := hrd; rw [HX.out] at h8; exact (Below.heap_alloc _ _ _ (by omega)).trans h8
       have HB6 : Hid (Below w.heap.size w (t1.alloc (.cells #[.int .u64 u, .int .i64 i1, .int .i64 i2, .int .i64 i3, .int .i64 i4, .bool b, .slice a n c] 25))) := by
         have h8 : Below w.heap.size ((w.alloc (.cells #[.int .u64 0, .int .i64 0, .int .i64 0, .int .i64 0, .int .i64 0, .bool false, .slice none 0 0] 25)).alloc (.cells #[.string ⟨l.toArray⟩, .int .i64 0] 67)) t1 := ⟨tw.os, tw.tape, tw.output, tw.size, fun i hi => tw.block i (by rw [HS0.out]; omega) (by omega) (by omega)⟩
         exact (HBL.out.trans h8).alloc (by omega) _
       clear hr1 hrd tw))
  obtain ⟨t6, ht6⟩ : ∃ t6, (t1.alloc (.cells #[.int .u64 u, .int .i64 i1, .int .i64 i2, .int .i64 i3, .int .i64 i4, .bool b, .slice a n c] 25)) = t6 := ⟨_, rfl⟩
  rw [ht6] at HN6 HA6 HR6 HB6 ⊢
  clear ht6
  obtain ⟨s0, s1, s2, s3, s4, s5, s6⟩ := cells7 HA6.out
  have rf := frozen7 HA6.out
  have rf0 := rf 0
  have rf1 := rf 1
  have rf2 := rf 2
  have rf3 := rf 3
  have rf4 := rf 4
  have rf5 := rf 5
  have rf6 := rf 6
  clear rf
  obtain ⟨q0, q1, q2, q3⟩ := rda_cells HR6.out
  rw [Nat.zero_add] at q1
  clear q0 q2 q3
  go_upto_region 4 with fail
  refine wp_region_held_drew (S := (fun y : World => y.cell? ⟨w.heap.size + 1, 1, none⟩ = some (.int .i64 (m : Int)))) (by kernel_rfl) (q1) (fun hHeld => ?_)
  refine wpAnyH_take (i := 0) (oi := { dst := some 18, op := Op.build 25 #[], type := 25, pos := "text.go:75", after := #[], guard := none }) (v := ?v0rn) rfl (by kernel_rfl) (by kernel_rfl) (by kernel_rfl) (fun _ _ _ h => h) (Or.inl ⟨by rfl, ?y0rn⟩) (by assumption) ?r0rn
  case y0rn => (intro x hx; (try dsimp only at hx); go_simp; try with_reducible rfl)
  try simp only [Act.put, List.setIfInBounds_toArray, List.set_cons_zero, List.set_cons_succ]
  refine wpAnyH_take (i := 1) (oi := { dst := some 19, op := Op.move (Operand.tmp 5), type := 65, pos := "text.go:75", after := #[{ on := 6, ground := Ground.gcOnly Departure.lateStores }], guard := none }) (v := ?v1rn) rfl (by kernel_rfl) (by kernel_rfl) (by kernel_rfl) (fun _ _ _ h => h) (Or.inl ⟨by rfl, ?y1rn⟩) (by assumption) ?r1rn
  case y1rn => (intro x hx; (try dsimp only at hx); go_simp; try with_reducible rfl)
  try simp only [Act.put, List.setIfInBounds_toArray, List.set_cons_zero, List.set_cons_succ]
  refine wpAnyH_take (i := 2) (oi := { dst := some 20, op := Op.nilCheck (Operand.tmp 19), type := 0, pos := "text.go:75", after := #[{ on := 1, ground := Ground.data }, { on := 6, ground := Ground.gcOnly Departure.lateStores }], guard := none }) (v := ?v2rn) rfl (by kernel_rfl) (by kernel_rfl) (by kernel_rfl) (fun _ _ _ h => h) (Or.inl ⟨by rfl, ?y2rn⟩) (by assumption) ?r2rn
  case y2rn => (intro x hx; (try dsimp only at hx); go_simp; try with_reducible rfl)
  try simp only [Act.put, List.setIfInBounds_toArray, List.set_cons_zero, List.set_cons_succ]
  refine wpAnyH_take (i := 3) (oi := { dst := some 21, op := Op.fieldAddr 67 (Operand.tmp 20) 1, type := 0, pos := "text.go:75", after := #[{ on := 2, ground := Ground.data }, { on := 6, ground := Ground.gcOnly Departure.lateStores }], guard := none }) (v := ?v3rn) rfl (by kernel_rfl) (by kernel_rfl) (by kernel_rfl) (fun _ _ _ h => h) (Or.inl ⟨by rfl, ?y3rn⟩) (by assumption) ?r3rn
  case y3rn => (intro x hx; (try dsimp only at hx); go_simp; try with_reducible rfl)
  try simp only [Act.put, List.setIfInBounds_toArray, List.set_cons_zero, List.set_cons_succ]
  refine wpAnyH_take (i := 4) (oi := { dst := some 22, op := Op.load 3 (Operand.tmp 21), type := 3, pos := "text.go:75", after := #[{ on := 3, ground := Ground.data }, { on := 6, ground := Ground.gcOnly Departure.lateStores }], guard := none }) (v := ?v4rn) rfl (by kernel_rfl) (by kernel_rfl) (by kernel_rfl) (fun _ _ _ h => h) (Or.inl ⟨by rfl, ?y4rn⟩) (by assumption) ?r4rn
  case y4rn => (intro x hx; (try dsimp only at hx); go_simp; try with_reducible rfl)
  try simp only [Act.put, List.setIfInBounds_toArray, List.set_cons_zero, List.set_cons_succ]
  refine wpAnyH_ready (rs := [5]) (by kernel_rfl) (by simp) ?_
  refine AllReadyH.cons (o := { dst := none, op := Op.store 25 (Operand.tmp 2) (Operand.tmp 18), type := 0, pos := "text.go:75", after := #[{ on := 0, ground := Ground.data }, { on := 0, ground := Ground.phase }, { on := 1, ground := Ground.textOnly Departure.lateStores }, { on := 2, ground := Ground.textOnly Departure.lateStores }, { on := 3, ground := Ground.textOnly Departure.lateStores }, { on := 4, ground := Ground.textOnly Departure.lateStores }], guard := none }) rfl (fun K hK => ?_) AllReadyH.nil
  go_simp
  go_wp2_with fail
  have hs1 : (((((((t6.setCell ⟨w.heap.size, 0, none⟩ (.int .u64 0)).setCell ⟨w.heap.size, 1, none⟩ (.int .i64 0)).setCell ⟨w.heap.size, 2, none⟩ (.int .i64 0)).setCell ⟨w.heap.size, 3, none⟩ (.int .i64 0)).setCell ⟨w.heap.size, 4, none⟩ (.int .i64 0)).setCell ⟨w.heap.size, 5, none⟩ (.bool false)).setCell ⟨w.heap.size, 6, none⟩ (.slice none 0 0)).cell? ⟨w.heap.size + 1, 1, none⟩ = some (.int .i64 (m : Int)) := by rw [World.cell?_of_block (a := ⟨w.heap.size + 1, 1, none⟩) ((grown7 t6 w.heap.size _ _ _ _ _ _ _).block _ (Array.getElem?_eq_some_iff.1 HR6.out).1 (fun e => by have h8 : w.heap.size + 1 = w.heap.size := Option.some.inj e; omega))]; exact q1
  have hSnew : (((((((t6.setCell ⟨w.heap.size, 0, none⟩ (.int .u64 0)).setCell ⟨w.heap.size, 1, none⟩ (.int .i64 0)).setCell ⟨w.heap.size, 2, none⟩ (.int .i64 0)).setCell ⟨w.heap.size, 3, none⟩ (.int .i64 0)).setCell ⟨w.heap.size, 4, none⟩ (.int .i64 0)).setCell ⟨w.heap.size, 5, none⟩ (.bool false)).setCell ⟨w.heap.size, 6, none⟩ (.slice none 0 0)).drew.cell? ⟨w.heap.size + 1, 1, none⟩ = some (.int .i64 (m : Int)) := (cell_drew _ _).trans hs1
  clear hs1
  refine hK.out _ _ hSnew (fun hHeld5 => ?_)
  clear hK K hSnew
  clear hHeld
  have hHeld := hHeld5
  clear hHeld5
  try simp only [Act.put, List.setIfInBounds_toArray, List.set_cons_zero, List.set_cons_succ]
  refine wpAnyH_take (i := 6) (oi := { dst := some 3, op := Op.assign (Operand.const (Value.int IntKind.i64 200)), type := 35, pos := "text.go:75", after := #[{ on := 5, ground := Ground.chain }, { on := 0, ground := Ground.phase }, { on := 1, ground := Ground.textOnly Departure.lateStores }, { on := 2, ground := Ground.textOnly Departure.lateStores }, { on := 3, ground := Ground.textOnly Departure.lateStores }, { on := 4, ground := Ground.textOnly Departure.lateStores }, { on := 5, ground := Ground.phase }], guard := none }) (v := ?v6rn) rfl (by kernel_rfl) (by kernel_rfl) (by kernel_rfl) (fun _ _ _ h => h) (Or.inl ⟨by rfl, ?y6rn⟩) (by assumption) ?r6rn
  case y6rn => (intro x hx; (try dsimp only at hx); go_simp; try with_reducible rfl)
  try simp only [Act.put, List.setIfInBounds_toArray, List.set_cons_zero, List.set_cons_succ]
  refine wpAnyH_take (i := 7) (oi := { dst := some 4, op := Op.assign (Operand.tmp 22), type := 3, pos := "text.go:75", after := #[{ on := 4, ground := Ground.data }, { on := 6, ground := Ground.chain }, { on := 0, ground := Ground.phase }, { on := 1, ground := Ground.phase }, { on := 2, ground := Ground.phase }, { on := 3, ground := Ground.phase }, { on := 4, ground := Ground.phase }, { on := 5, ground := Ground.phase }, { on := 6, ground := Ground.phase }], guard := none }) (v := ?v7rn) rfl (by kernel_rfl) (by kernel_rfl) (by kernel_rfl) (fun _ _ _ h => h) (Or.inl ⟨by rfl, ?y7rn⟩) (by assumption) ?r7rn
  case y7rn => (intro x hx; (try dsimp only at hx); go_simp; try with_reducible rfl)
  try simp only [Act.put, List.setIfInBounds_toArray, List.set_cons_zero, List.set_cons_succ]
  refine wpAnyH_done (by kernel_rfl) ?_ _
  go_wp2_with fail
  have HZZ : Hid ((((((((t6.setCell ⟨w.heap.size, 0, none⟩ (.int .u64 0)).setCell ⟨w.heap.size, 1, none⟩ (.int .i64 0)).setCell ⟨w.heap.size, 2, none⟩ (.int .i64 0)).setCell ⟨w.heap.size, 3, none⟩ (.int .i64 0)).setCell ⟨w.heap.size, 4, none⟩ (.int .i64 0)).setCell ⟨w.heap.size, 5, none⟩ (.bool false)).setCell ⟨w.heap.size, 6, none⟩ (.slice none 0 0)).drew.heap[w.heap.size]? = some (.cells #[.int .u64 0, .int .i64 0, .int .i64 0, .int .i64 0, .int .i64 0, .bool false, .slice none 0 0] 25 (0, 0))) := by unfold Hid; rw [heap_drew]; exact blk7_set HA6.out _ _ _ _ _ _ _
  have HBZ : Hid (Below w.heap.size w (((((((t6.setCell ⟨w.heap.size, 0, none⟩ (.int .u64 0)).setCell ⟨w.heap.size, 1, none⟩ (.int .i64 0)).setCell ⟨w.heap.size, 2, none⟩ (.int .i64 0)).setCell ⟨w.heap.size, 3, none⟩ (.int .i64 0)).setCell ⟨w.heap.size, 4, none⟩ (.int .i64 0)).setCell ⟨w.heap.size, 5, none⟩ (.bool false)).setCell ⟨w.heap.size, 6, none⟩ (.slice none 0 0)).drew) := (HB6.out.grown (grown7 _ _ _ _ _ _ _ _ _) HB6.out.size (fun i hi => by cases hi; exact Nat.le_refl _)).drew
  refine bodyPost_ret (v := .tuple #[.agg #[.int .u64 0, .int .i64 0, .int .i64 0, .int .i64 0, .int .i64 0, .bool false, .slice none 0 0], .int .i64 200, .int .i64 (m : Int)]) (by obtain ⟨z0, z1, z2, z3, z4, z5, z6⟩ := cells7 HZZ.out; simp [results, Tryd.results10, go_sem, z0, z1, z2, z3, z4, z5, z6]) rfl ⟨rfl, ?_⟩
  exact HBZ.out

set_option maxHeartbeats 4000000 in
set_option maxRecDepth 100000 in
theorem read_own (l : List UInt8) (w : World) (hl : l.length < 4294967281) (ht : P10 w) (hv : EV w) (hkw : KW w) (hw9 : 9 ≤ w.heap.size) (m : Nat) (r : Rp) (hx : rp l = (some r, m)) :
    Calls Tryd.prog 10 #[.string ⟨l.toArray⟩] w fun e w' => (∃ a n c, e = .returned (.tuple #[.agg #[.int .u64 (r.fl : Int), .int .i64 r.c, .int .i64 r.l, .int .i64 r.u, .int .i64 r.b, .bool r.s, .slice a n c], .int .i64 0, .int .i64 0]) ∧ ReadsF w' a n r.fs ∧ w'.ownsRow w.heap.size 29 4 (.slice a n c) n (flatF r.fs)) ∧ Below w.heap.size w w' := by
  have HX : Hid (rp l = (some r, m)) := hx
  clear hx
  have HBL : Hid (Below w.heap.size w ((w.alloc (.cells #[.int .u64 0, .int .i64 0, .int .i64 0, .int .i64 0, .int .i64 0, .bool false, .slice none 0 0] 25)).alloc (.cells #[.string ⟨l.toArray⟩, .int .i64 0] 67))) := below_trans (below_alloc' w _) (below_alloc' _ _)
  have HA0 : Hid (((w.alloc (.cells #[.int .u64 0, .int .i64 0, .int .i64 0, .int .i64 0, .int .i64 0, .bool false, .slice none 0 0] 25)).alloc (.cells #[.string ⟨l.toArray⟩, .int .i64 0] 67)).heap[w.heap.size]? = some (.cells #[.int .u64 0, .int .i64 0, .int .i64 0, .int .i64 0, .int .i64 0, .bool false, .slice none 0 0] 25 (0, 0))) := (Below.heap_alloc _ _ _ (by simp)).trans (heap_alloc_new w _)
  have HR0 : Hid (RdA ((w.alloc (.cells #[.int .u64 0, .int .i64 0, .int .i64 0, .int .i64 0, .int .i64 0, .bool false, .slice none 0 0] 25)).alloc (.cells #[.string ⟨l.toArray⟩, .int .i64 0] 67)) (w.heap.size + 1) l 0) := by
    have h9 := heap_alloc_new (w.alloc (.cells #[.int .u64 0, .int .i64 0, .int .i64 0, .int .i64 0, .int .i64 0, .bool false, .slice none 0 0] 25)) (.cells #[.string ⟨l.toArray⟩, .int .i64 0] 67)
    rw [World.size_alloc] at h9
    exact h9
  have HS0 : Hid (((w.alloc (.cells #[.int .u64 0, .int .i64 0, .int .i64 0, .int .i64 0, .int .i64 0, .bool false, .slice none 0 0] 25)).alloc (.cells #[.string ⟨l.toArray⟩, .int .i64 0] 67)).heap.size = w.heap.size + 2) := by unfold Hid; simp
  have HEV : EV ((w.alloc (.cells #[.int .u64 0, .int .i64 0, .int .i64 0, .int .i64 0, .int .i64 0, .bool false, .slice none 0 0] 25)).alloc (.cells #[.string ⟨l.toArray⟩, .int .i64 0] 67)) := hv.two (q := w.heap.size) (t := w.heap.size) (Two.of HBL.out) hw9 hw9
  have HRP := report_any (w.heap.size + 1) 0 l _ HR0.out hl (by omega) (p10_below ht HBL.out) HEV (by omega) (hkw.below HBL.out)
  clear ht hkw HEV hv
  go_enter Tryd.func10, Tryd.ntmps10
  go_upto_region 3 with (first
    | (go_at_call 29; refine HRP.mono ?_; rintro e t1 ⟨u, i1, i2, i3, i4, b, a, n, c, he1, hr1, ⟨l', hrd⟩, tw⟩
       have he2 : e = .returned (.tuple #[.agg #[.int .u64 u, .int .i64 i1, .int .i64 i2, .int .i64 i3, .int .i64 i4, .bool b, .slice a n c], .bool true]) := he1.trans (by rw [HX.out]; rfl)
       clear he1
       subst he2
       have hsz : w.heap.size + 2 ≤ t1.heap.size := by have h8 := tw.size; rw [HS0.out] at h8; exact h8
       have HN6 : Hid ((t1.alloc (.cells #[.int .u64 u, .int .i64 i1, .int .i64 i2, .int .i64 i3, .int .i64 i4, .bool b, .slice a n c] 25)).heap[t1.heap.size]? = some (.cells #[.int .u64 u, .int .i64 i1, .int .i64 i2, .int .i64 i3, .int .i64 i4, .bool b, .slice a n c] 25 (0, 0))) := heap_alloc_new _ _
       have HA6 : Hid ((t1.alloc (.cells #[.int .u64 u, .int .i64 i1, .int .i64 i2, .int .i64 i3, .int .i64 i4, .bool b, .slice a n c] 25)).heap[w.heap.size]? = some (.cells #[.int .u64 0, .int .i64 0, .int .i64 0, .int .i64 0, .int .i64 0, .bool false, .slice none 0 0] 25 (0, 0))) := (Below.heap_alloc _ _ _ (by omega)).trans ((tw.block _ (Array.getElem?_eq_some_iff.1 HA0.out).1 (by omega) (by omega)).trans HA0.out)
       have HR6 : Hid (RdA (t1.alloc (.cells #[.int .u64 u, .int .i64 i1, .int .i64 i2, .int .i64 i3, .int .i64 i4, .bool b, .slice a n c] 25)) (w.heap.size + 1) l' (0 + m)) := by have h8 := hrd; rw [HX.out] at h8; exact (Below.heap_alloc _ _ _ (by omega)).trans h8
       have HB6 : Hid (Below w.heap.size w (t1.alloc (.cells #[.int .u64 u, .int .i64 i1, .int .i64 i2, .int .i64 i3, .int .i64 i4, .bool b, .slice a n c] 25))) := by
         have h8 : Below w.heap.size ((w.alloc (.cells #[.int .u64 0, .int .i64 0, .int .i64 0, .int .i64 0, .int .i64 0, .bool false, .slice none 0 0] 25)).alloc (.cells #[.string ⟨l.toArray⟩, .int .i64 0] 67)) t1 := ⟨tw.os, tw.tape, tw.output, tw.size, fun i hi => tw.block i (by rw [HS0.out]; omega) (by omega) (by omega)⟩
         exact (HBL.out.trans h8).alloc (by omega) _
       obtain ⟨rfl, rfl, rfl, rfl, rfl, rfl, hrf, hrx⟩ := hr1 r (by rw [HX.out])
       rw [HS0.out] at hrx
       have HQ6 : Hid (ReadsF (t1.alloc (.cells #[.int .u64 (r.fl : Int), .int .i64 r.c, .int .i64 r.l, .int .i64 r.u, .int .i64 r.b, .bool r.s, .slice a n c] 25)) a n r.fs ∧ (∀ x, a = some x → x.block ≠ w.heap.size) ∧ (t1.alloc (.cells #[.int .u64 (r.fl : Int), .int .i64 r.c, .int .i64 r.l, .int .i64 r.u, .int .i64 r.b, .bool r.s, .slice a n c] 25)).ownsRow (w.heap.size + 2) 29 4 (.slice a n c) n (flatF r.fs)) := ⟨hrf.below (below_alloc' _ _), fun x hx => (by have h8 := (hrx.lt x.block (by rw [hx]; rfl)).1; omega), hrx.alloc _⟩
       clear hrf hrx
       clear hr1 hrd tw))
  obtain ⟨t6, ht6⟩ : ∃ t6, (t1.alloc (.cells #[.int .u64 (r.fl : Int), .int .i64 r.c, .int .i64 r.l, .int .i64 r.u, .int .i64 r.b, .bool r.s, .slice a n c] 25)) = t6 := ⟨_, rfl⟩
  rw [ht6] at HN6 HA6 HR6 HB6 HQ6 ⊢
  clear ht6
  obtain ⟨s0, s1, s2, s3, s4, s5, s6⟩ := cells7 HA6.out
  have rf := frozen7 HA6.out
  have rf0 := rf 0
  have rf1 := rf 1
  have rf2 := rf 2
  have rf3 := rf 3
  have rf4 := rf 4
  have rf5 := rf 5
  have rf6 := rf 6
  clear rf
  obtain ⟨q0, q1, q2, q3, q4, q5, q6⟩ := cells7 HN6.out
  go_wp2_with fail
  refine bodyPost_ret (v := .tuple #[.agg #[.int .u64 (r.fl : Int), .int .i64 r.c, .int .i64 r.l, .int .i64 r.u, .int .i64 r.b, .bool r.s, .slice a n c], .int .i64 0, .int .i64 0]) (by obtain ⟨z0, z1, z2, z3, z4, z5, z6⟩ := cells7 (blk7_set HA6.out (.int .u64 (r.fl : Int)) (.int .i64 r.c) (.int .i64 r.l) (.int .i64 r.u) (.int .i64 r.b) (.bool r.s) (.slice a n c)); simp [results, Tryd.results10, go_sem, z0, z1, z2, z3, z4, z5, z6]) rfl ⟨⟨a, n, c, rfl, ?_, ?_⟩, ?_⟩
  · exact readsF_grown HQ6.out.1 (grown7 _ _ _ _ _ _ _ _ _) HQ6.out.2.1
  · exact own_low (HQ6.out.2.2.kept (grown7 _ w.heap.size _ _ _ _ _ _ _) (Or.inr (fun e => by have := (HQ6.out.2.2.lt _ e).1; omega))) (by omega)
  · exact HB6.out.grown (grown7 _ _ _ _ _ _ _ _ _) HB6.out.size (fun i hi => by cases hi; exact Nat.le_refl _)

theorem read_good (l : List UInt8) (w : World) (hl : l.length < 4294967281) (ht : P10 w) (hv : EV w) (hkw : KW w) (hw9 : 9 ≤ w.heap.size) (m : Nat) (r : Rp) (hx : rp l = (some r, m)) :
    Calls Tryd.prog 10 #[.string ⟨l.toArray⟩] w fun e w' => (∃ a n c, e = .returned (.tuple #[.agg #[.int .u64 (r.fl : Int), .int .i64 r.c, .int .i64 r.l, .int .i64 r.u, .int .i64 r.b, .bool r.s, .slice a n c], .int .i64 0, .int .i64 0]) ∧ ReadsF w' a n r.fs) ∧ Below w.heap.size w w' :=
  (read_own l w hl ht hv hkw hw9 m r hx).mono fun e w' ⟨⟨a, n, c, he, h1, _⟩, hb⟩ => ⟨⟨a, n, c, he, h1⟩, hb⟩

end Go.Proofs.YtnjcjaaciphcgaaDoor
