/-
  SEAT Ytadlkikjfonkgaa: Cm, Fp, Me.
-/
import Derived.Test.YtadlkikjfonkgaaQa
import Derived.Conc.LoneCalls
namespace Go.Proofs.Ytadlkikjfonkgaa
open Go.RowKit Go.Conc
set_option linter.unusedVariables false
set_option maxRecDepth 100000
set_option maxHeartbeats 4000000
variable {P : Program} {ops : Array Oper} {Q : Exit → Act → World → Prop} {a : Act} {w : World} {i cap r id B : Nat} {rest : List Nat} {o : Oper} {c x y : Code} {buf : Array Value} {tm : Bool} {z : Value}
def SemOps (P : Program) (ops : Array Oper) (Q : Exit → Act → World → Prop) (l : List Nat) (a : Act) (w : World) : Prop :=
 ∀ (b : Frame) (k : List Item) (cs : List Frame), b.kind ≠ .early → ∃ e a' w', Q e a' w' ∧ Arrives P (lone (b.at a (.inRegion ops l :: k)) cs w) b k cs e a' w'
theorem semops_list (l : List Oper) (k : Nat) (hl : ∀ j, l[j]? = ops[k + j]?) (h : wpList P ops Q l a w) : SemOps P ops Q (List.range' k l.length) a w := by
 rw [← wpOps_eq_wpList l k hl] at h
 exact fun b kk cs _ => wp_ops _ a w h b kk cs
theorem semops_drop (k : Nat) (l : List Nat) (hl : l = List.range' k (ops.size - k)) (h : wpList P ops Q (ops.toList.drop k) a w) : SemOps P ops Q l a w := by
 have := semops_list (P := P) (ops := ops) (Q := Q) (a := a) (w := w) (ops.toList.drop k) k (fun j => by rw [List.getElem?_drop]; simp) h
 rw [hl]
 simpa using this
theorem semops_value {w' : World} {v : Value} (ho : ops[i]? = some o) (hw : Region.wanted o (yielded ops a.tmps) = true)
  (hr : (execOp a.eval o).run P w = .ok (.value v) w') (h : SemOps P ops Q rest (a.put o.dst v) w') : SemOps P ops Q (i :: rest) a w := by
 intro b k cs hk
 obtain ⟨e, a', w'', hq, harr⟩ := h b k cs hk
 refine ⟨e, a', w'', hq, .of_steps (.one (step_lone_go ?_)) harr⟩
 have hfin : (b.at a (.inRegion ops (i :: rest) :: k)).finish v = b.at (a.put o.dst v) (.inRegion ops rest :: k) := by
  rw [Frame.finish_at, ho]; rfl
 rw [stepG_op ho hw, ← hfin]
 simp [stepG.apply, hr]
theorem semops_recv_buf {c s : Nat} {closed : Bool} (ok : Bool) (ho : ops[i]? = some o) (hw : Region.wanted o (yielded ops a.tmps) = true)
  (hr : (execOp a.eval o).run P w = .ok (.comm #[rcase c z] true (.recv ok)) w) (hc : w.heap[c]? = some (.chan cap buf closed s r tm)) (hsome : 0 < buf.size)
  (h : SemOps P ops Q rest (a.put o.dst (got ok (buf.getD 0 undef) true)) (w.setChan c cap (buf.extract 1 buf.size) closed s (r + 1) tm)) : SemOps P ops Q (i :: rest) a w := by
 intro b k cs hk
 obtain ⟨e, a', w'', hq, harr⟩ := h b k cs hk
 refine ⟨e, a', w'', hq, .of_steps (.one ?_) harr⟩
 have hfin : ∀ v, (b.at a (.inRegion ops (i :: rest) :: k)).finish v = b.at (a.put o.dst v) (.inRegion ops rest :: k) := by
  intro v; rw [Frame.finish_at, ho]; rfl
 rw [← hfin]
 exact step_lone_recv_buf ok (stepG_comm ho hw hk hr) hc hsome
theorem semops_recv_shut {c s : Nat} (ok : Bool) (ho : ops[i]? = some o) (hw : Region.wanted o (yielded ops a.tmps) = true)
  (hr : (execOp a.eval o).run P w = .ok (.comm #[rcase c z] true (.recv ok)) w) (hc : w.heap[c]? = some (.chan cap #[] true s r tm))
  (h : SemOps P ops Q rest (a.put o.dst (got ok z false)) w) : SemOps P ops Q (i :: rest) a w := by
 intro b k cs hk
 obtain ⟨e, a', w'', hq, harr⟩ := h b k cs hk
 refine ⟨e, a', w'', hq, .of_steps (.one ?_) harr⟩
 have hfin : ∀ v, (b.at a (.inRegion ops (i :: rest) :: k)).finish v = b.at (a.put o.dst v) (.inRegion ops rest :: k) := by
  intro v; rw [Frame.finish_at, ho]; rfl
 rw [← hfin]
 exact step_lone_recv_shut ok (stepG_comm ho hw hk hr) hc
theorem semops_send_room {c s : Nat} {v : Value} (ho : ops[i]? = some o) (hw : Region.wanted o (yielded ops a.tmps) = true)
  (hr : (execOp a.eval o).run P w = .ok (.comm #[scase c v z] true .send) w) (hc : w.heap[c]? = some (.chan cap buf false s r tm)) (hroom : buf.size < cap)
  (h : SemOps P ops Q rest (a.put o.dst undef) (w.setChan c cap (buf.push v) false (s + 1) r tm)) : SemOps P ops Q (i :: rest) a w := by
 intro b k cs hk
 obtain ⟨e, a', w'', hq, harr⟩ := h b k cs hk
 refine ⟨e, a', w'', hq, .of_steps (.one ?_) harr⟩
 have hfin : ∀ v, (b.at a (.inRegion ops (i :: rest) :: k)).finish v = b.at (a.put o.dst v) (.inRegion ops rest :: k) := by
  intro v; rw [Frame.finish_at, ho]; rfl
 rw [← hfin]
 exact step_lone_send_room (stepG_comm ho hw hk hr) hc hroom
def wpN (P : Program) (c : Code) (Q : Exit → Act → World → Prop) (a : Act) (w : World) : Prop :=
 ∀ (b : Frame) (k : List Item) (cs : List Frame), b.kind ≠ .early → ∃ e a' w', Q e a' w' ∧ Arrives P (lone (b.at a (.code c :: k)) cs w) b k cs e a' w'
section
variable {P : Program} {Q : Exit → Act → World → Prop} {a : Act} {w : World}
theorem wpN_of_wp (h : c.wp P Q a w) : wpN P c Q a w := fun b k cs _ => h b k cs
theorem wpN_region (h : SemOps P ops Q (List.range ops.size) a w) : wpN P (.region id ops false) Q a w :=
 fun b k cs hk => let ⟨e, a', w', q, r⟩ := h b k cs hk; ⟨e, a', w', q, .of_steps (.one step_region) r⟩
theorem wpN_seq (h : wpN P x (Exit.then (wpN P y Q) Q) a w) : wpN P (Code.seq x y) Q a w := by
 intro b k cs hk
 obtain ⟨e, a1, w1, hq, harr⟩ := h b (.code y :: k) cs hk
 cases e with
 | normal =>
  obtain ⟨e2, a2, w2, hq2, harr2⟩ := hq b k cs hk
  exact ⟨e2, a2, w2, hq2, .of_steps (.head step_seq harr) harr2⟩
 | exit id => exact ⟨_, a1, w1, hq, .of_steps (.one step_seq) (.pass (x := .code y) rfl (fun _ _ => .inl (by simp)) harr)⟩
 | goto l => exact ⟨_, a1, w1, hq, .of_steps (.one step_seq) (.pass (x := .code y) rfl (fun _ _ => .inl (by simp)) harr)⟩
 | ret => exact ⟨_, a1, w1, hq, .of_steps (.one step_seq) (.pass (x := .code y) rfl (fun _ _ => .inl (by simp)) harr)⟩
 | panic ch => exact ⟨_, a1, w1, hq, .of_steps (.one step_seq) (.pass (x := .code y) rfl (fun _ _ => .inl (by simp)) harr)⟩
 | outgrown => exact ⟨_, a1, w1, hq, .of_steps (.one step_seq) (.pass (x := .code y) rfl (fun _ _ => .inl (by simp)) harr)⟩
theorem wpN_seq_k (h : ∀ K : Act → World → Prop, (∀ a w, wpN P y Q a w → K a w) → wpN P x (Exit.then K Q) a w) : wpN P (Code.seq x y) Q a w := wpN_seq (h _ fun _ _ h => h)
theorem wpN_block (h : wpN P c (Exit.inBlock id Q) a w) : wpN P (Code.block id c) Q a w := by
 intro b k cs hk
 obtain ⟨e, a1, w1, hq, harr⟩ := h b (.inBlock id :: k) cs hk
 cases e with
 | normal => exact ⟨.normal, a1, w1, hq, .head step_block (Steps.trans harr (.one step_inBlock))⟩
 | exit id' =>
  by_cases hid : id' = id
  ·simp only [Exit.inBlock, hid, if_true] at hq
   exact ⟨.normal, a1, w1, hq, .head step_block (harr k (by simp [exitTo, hid]))⟩
  ·simp only [Exit.inBlock, hid, if_false] at hq
   refine ⟨.exit id', a1, w1, hq, fun k' hk => .head step_block (harr k' ?_)⟩
   have : (id == id') = false := by simp; exact fun h => hid h.symm
   simp [exitTo, this, hk]
 | goto l => exact ⟨_, a1, w1, hq, fun k' hk => .head step_block (harr k' (by simp [gotoIn, hk]))⟩
 | ret => exact ⟨_, a1, w1, hq, .of_steps (.one step_block) harr⟩
 | panic ch => exact ⟨_, a1, w1, hq, .of_steps (.one step_block) harr⟩
 | outgrown => exact ⟨_, a1, w1, hq, .of_steps (b := b) (k := k) (cs := cs) (e := .outgrown) (.one step_block) harr⟩
theorem wpN_loop (I : Act → World → Prop) (m : Act → World → Nat) (h0 : I a w)
  (round : ∀ a w, I a w → wpN P c (Exit.then (fun a' w' => I a' w' ∧ m a' w' < m a w) Q) a w) : wpN P (Code.loop c) Q a w := by
 intro b k cs hk
 have key : ∀ n a w, m a w = n → I a w →
   ∃ e a' w', Q e a' w' ∧ Arrives P (lone (b.at a (.code c :: .inLoop c :: k)) cs w) b k cs e a' w' := by
  intro n
  induction n using Nat.strongRecOn with
  | _ n ih =>
   intro a w hn hI
   obtain ⟨e, a1, w1, hq, harr⟩ := round a w hI b (.inLoop c :: k) cs hk
   cases e with
   | normal =>
    obtain ⟨hI1, hlt⟩ := hq
    obtain ⟨e2, a2, w2, hq2, harr2⟩ := ih (m a1 w1) (hn ▸ hlt) a1 w1 rfl hI1
    exact ⟨e2, a2, w2, hq2, .of_steps (Steps.trans harr (.one step_inLoop)) harr2⟩
   | exit id => exact ⟨_, a1, w1, hq, .pass (x := .inLoop c) rfl (fun _ _ => .inl (by simp)) harr⟩
   | goto l => exact ⟨_, a1, w1, hq, .pass (x := .inLoop c) rfl (fun _ _ => .inl (by simp)) harr⟩
   | ret => exact ⟨_, a1, w1, hq, .pass (x := .inLoop c) rfl (fun _ _ => .inl (by simp)) harr⟩
   | panic ch => exact ⟨_, a1, w1, hq, .pass (x := .inLoop c) rfl (fun _ _ => .inl (by simp)) harr⟩
   | outgrown => exact ⟨_, a1, w1, hq, .pass (x := .inLoop c) rfl (fun _ _ => .inl (by simp)) harr⟩
 obtain ⟨e, a', w', hq, harr⟩ := key _ a w rfl h0
 exact ⟨e, a', w', hq, .of_steps (.one step_loop) harr⟩
theorem calls_of_wpN {f : FuncId} {fn : Func} {args : Array Value} {R : Ending → World → Prop} 
  (hf : P.funcs[f]? = some fn) (hb : fn.body = some c)
  (h : wpN P c (bodyPost P fn R) { tmps := args ++ Array.replicate (fn.ntmps - args.size) undef, defers := [] } w) : Calls P f args w R := by
 intro cs
 let b : Frame := { (default : Frame) with fn := f, kind := .normal }
 have henter : Frame.enter P f args .normal =
   b.at { tmps := args ++ Array.replicate (fn.ntmps - args.size) undef, defers := [] } [.code c] := by
  simp [Frame.enter, Frame.at, hf, hb, b]
 obtain ⟨e, a', w', hq, harr⟩ := h b [] cs (by simp [b])
 rw [← henter] at harr
 cases e with
 | normal =>
  obtain ⟨hd, v, hr, hR⟩ := hq
  exact ⟨.returned v, w', _, hR, Steps.trans harr (.one step_end), rfl, rfl, hd, rfl, fn, hf, hr⟩
 | ret =>
  obtain ⟨hd, v, hr, hR⟩ := hq
  obtain ⟨todo, hs⟩ := harr
  exact ⟨.returned v, w', _, hR, hs, rfl, rfl, hd, rfl, fn, hf, hr⟩
 | panic chain =>
  obtain ⟨hd, hR⟩ := hq
  obtain ⟨todo, hs⟩ := harr
  exact ⟨.panicked chain, w', _, hR, hs, rfl, rfl, hd, fn, hf⟩
 | exit id => exact hq.elim
 | goto l => exact hq.elim
 | outgrown => exact ⟨.outgrown, w', b, hq, harr.resolve_left (by simp [b]), rfl, trivial⟩
end
theorem J {p : Prop} (h : p) : Hid p := h
theorem ba {u : World} (h : Below B w u) (hB : B ≤ u.heap.size := by first | exact Nat.le_refl _ | (simp; done) | (simp; omega) | omega) {o : Obj} : Below B w (u.alloc o) := h.alloc hB _
theorem below_trans {a b c : World} (h : Below a.heap.size a b) (k : Below b.heap.size b c) : Below a.heap.size a c := h.trans (k.mono h.size)
theorem lt_of_block {g : Nat} {o : Obj} (h : w.heap[g]? = some o) : g < w.heap.size := by
 rcases Nat.lt_or_ge g w.heap.size with h1 | h1
 ·exact h1
 ·simp [Array.getElem?_eq_none h1] at h
theorem alloc_new (w : World) (o : Obj) : (w.alloc o).heap[w.heap.size]? = some o := Array.getElem?_push_size
theorem alloc_old (w : World) (o : Obj) {k : Nat} (h : k < w.heap.size) : (w.alloc o).heap[k]? = w.heap[k]? := by
 simp only [World.alloc]
 exact Array.getElem?_push_lt h |>.trans (Array.getElem?_eq_getElem h).symm
theorem alloc_size (w : World) (o : Obj) : (w.alloc o).heap.size = w.heap.size + 1 := by simp
structure Only (F : Nat → Prop) (w w' : World) : Prop where
 os : w'.os = w.os
 tape : w'.tape = w.tape
 output : w'.output = w.output
 size : w.heap.size ≤ w'.heap.size
 block : ∀ k, k < w.heap.size → ¬ F k → w'.heap[k]? = w.heap[k]?
section
variable {F G : Nat → Prop} {a b c : World}
theorem Only.refl (F : Nat → Prop) (a : World) : Only F a a := ⟨rfl, rfl, rfl, Nat.le_refl _, fun _ _ _ => rfl⟩
theorem Only.trans (h : Only F a b) (k : Only G b c) (hG : ∀ j, j < a.heap.size → G j → F j) : Only F a c :=
 ⟨k.os.trans h.os, k.tape.trans h.tape, k.output.trans h.output, Nat.le_trans h.size k.size, fun i hi hf => (k.block i (Nat.lt_of_lt_of_le hi h.size) (fun g => hf (hG i hi g))).trans (h.block i hi hf)⟩
theorem Only.trans' (h : Only F a b) (k : Only F b c) : Only F a c := h.trans k (fun _ _ h => h)
theorem Only.mono (h : Only F a b) (hG : ∀ j, j < a.heap.size → F j → G j) : Only G a b :=
 ⟨h.os, h.tape, h.output, h.size, fun i hi hf => h.block i hi (fun g => hf (hG i hi g))⟩
theorem Only.ofB (h : Below a.heap.size a b) : Only F a b := ⟨h.os, h.tape, h.output, h.size, fun k hk _ => h.block k hk⟩
theorem Only.ofG {r : Option Nat} (h : a.grownBy b r) (hr : ∀ j, r = some j → F j) : Only F a b :=
 ⟨h.os, h.tape, h.output, h.size, fun k hk hf => h.block k hk (fun e => hf (hr k e.symm))⟩
theorem Only.below (h : Only F a b) (hF : ∀ j, F j → B ≤ j) (hB : B ≤ a.heap.size) : Below B a b :=
 ⟨h.os, h.tape, h.output, h.size, fun k hk => h.block k (by omega) (fun hf => by have := hF k hf; omega)⟩
theorem Only.setCell (F : Nat → Prop) (w : World) (g j : Nat) (v : Value) (hF : F g) : Only F w (w.setCell ⟨g, j, none⟩ v) :=
 ⟨rfl, rfl, rfl, by simp, fun k hk hf => heap_setCell_other w ⟨g, j, none⟩ k v (fun e => hf (by rw [e]; exact hF))⟩
end
structure Bx where
 B : Int
 P : Int
 S : Int
 gb : Nat
 nb : Nat
 gm : Nat
 c : Nat
 fa : Int
 fk : Int
 ma : Option Addr
 ml : Nat
 mc : Nat
 ff : Int
 hn : Bool
 dark : Bool
 cnt : Int
 ta : Option Addr
 tl : Nat
 tc : Nat
def Bx.cells (x : Bx) : List Value := [.int .i64 x.B, .int .i64 x.P, .int .i64 x.S, .slice (some ⟨x.gb, 0, none⟩) x.nb x.nb, .map (some x.gm), .chan (some x.c), .int .i64 x.fa, .int .i64 x.fk, .slice x.ma x.ml x.mc, .int .u8 x.ff, .bool x.hn, .bool x.dark, .int .i64 x.cnt, .slice x.ta x.tl x.tc]
def Bx.at (x : Bx) (w : World) (p : Nat) : Prop := w.heap[p]? = some (.cells x.cells.toArray 102 (0, 0))
section
variable {x : Bx} {w w' : World} {p : Nat}
theorem Bx.at.c0 (h : x.at w p) : w.cell? ⟨p, 0, none⟩ = some (.int .i64 x.B) := by simp [World.cell?, show w.heap[p]? = _ from h, Bx.cells]
theorem Bx.at.c1 (h : x.at w p) : w.cell? ⟨p, 1, none⟩ = some (.int .i64 x.P) := by simp [World.cell?, show w.heap[p]? = _ from h, Bx.cells]
theorem Bx.at.c2 (h : x.at w p) : w.cell? ⟨p, 2, none⟩ = some (.int .i64 x.S) := by simp [World.cell?, show w.heap[p]? = _ from h, Bx.cells]
theorem Bx.at.c3 (h : x.at w p) : w.cell? ⟨p, 3, none⟩ = some (.slice (some ⟨x.gb, 0, none⟩) x.nb x.nb) := by simp [World.cell?, show w.heap[p]? = _ from h, Bx.cells]
theorem Bx.at.c4 (h : x.at w p) : w.cell? ⟨p, 4, none⟩ = some (.map (some x.gm)) := by simp [World.cell?, show w.heap[p]? = _ from h, Bx.cells]
theorem Bx.at.c5 (h : x.at w p) : w.cell? ⟨p, 5, none⟩ = some (.chan (some x.c)) := by simp [World.cell?, show w.heap[p]? = _ from h, Bx.cells]
theorem Bx.at.c6 (h : x.at w p) : w.cell? ⟨p, 6, none⟩ = some (.int .i64 x.fa) := by simp [World.cell?, show w.heap[p]? = _ from h, Bx.cells]
theorem Bx.at.c7 (h : x.at w p) : w.cell? ⟨p, 7, none⟩ = some (.int .i64 x.fk) := by simp [World.cell?, show w.heap[p]? = _ from h, Bx.cells]
theorem Bx.at.c8 (h : x.at w p) : w.cell? ⟨p, 8, none⟩ = some (.slice x.ma x.ml x.mc) := by simp [World.cell?, show w.heap[p]? = _ from h, Bx.cells]
theorem Bx.at.c9 (h : x.at w p) : w.cell? ⟨p, 9, none⟩ = some (.int .u8 x.ff) := by simp [World.cell?, show w.heap[p]? = _ from h, Bx.cells]
theorem Bx.at.c10 (h : x.at w p) : w.cell? ⟨p, 10, none⟩ = some (.bool x.hn) := by simp [World.cell?, show w.heap[p]? = _ from h, Bx.cells]
theorem Bx.at.c11 (h : x.at w p) : w.cell? ⟨p, 11, none⟩ = some (.bool x.dark) := by simp [World.cell?, show w.heap[p]? = _ from h, Bx.cells]
theorem Bx.at.c12 (h : x.at w p) : w.cell? ⟨p, 12, none⟩ = some (.int .i64 x.cnt) := by simp [World.cell?, show w.heap[p]? = _ from h, Bx.cells]
theorem Bx.at.c13 (h : x.at w p) : w.cell? ⟨p, 13, none⟩ = some (.slice x.ta x.tl x.tc) := by simp [World.cell?, show w.heap[p]? = _ from h, Bx.cells]
theorem Bx.at.fz (h : x.at w p) (j : Nat) : w.frozen? ⟨p, j, none⟩ = false := frozen_of_row w p j _ 102 h
theorem Bx.at.lt (h : x.at w p) : p < w.heap.size := lt_of_block h
theorem Bx.at.keep (h : x.at w p) (e : w'.heap[p]? = w.heap[p]?) : x.at w' p := e.trans h
theorem Bx.at.setDark (h : x.at w p) (d : Bool) : ({ x with dark := d } : Bx).at (w.setCell ⟨p, 11, none⟩ (.bool d)) p := heap_setCell_same w p 11 _ 102 (.bool d) h
theorem Bx.at.setCnt (h : x.at w p) (d : Int) : ({ x with cnt := d } : Bx).at (w.setCell ⟨p, 12, none⟩ (.int .i64 d)) p := heap_setCell_same w p 12 _ 102 (.int .i64 d) h
theorem Bx.at.setVt (h : x.at w p) (ta : Option Addr) (tl tc : Nat) : ({ x with ta := ta, tl := tl, tc := tc } : Bx).at (w.setCell ⟨p, 13, none⟩ (.slice ta tl tc)) p := heap_setCell_same w p 13 _ 102 (.slice ta tl tc) h
theorem Bx.at.setNext (h : x.at w p) (a k : Int) (m : Option Addr) (l n : Nat) (f : Int) (d : Bool) : ({ x with fa := a, fk := k, ma := m, ml := l, mc := n, ff := f, hn := d } : Bx).at (((((w.setCell ⟨p, 6, none⟩ (.int .i64 a)).setCell ⟨p, 7, none⟩ (.int .i64 k)).setCell ⟨p, 8, none⟩ (.slice m l n)).setCell ⟨p, 9, none⟩ (.int .u8 f)).setCell ⟨p, 10, none⟩ (.bool d)) p :=
 heap_setCell_same _ p 10 _ 102 _ (heap_setCell_same _ p 9 _ 102 _ (heap_setCell_same _ p 8 _ 102 _ (heap_setCell_same _ p 7 _ 102 _ (heap_setCell_same w p 6 _ 102 _ h))))
theorem only_next (w : World) (p : Nat) (v1 v2 v3 v4 v5 : Value) : Only (· = p) w (((((w.setCell ⟨p, 6, none⟩ v1).setCell ⟨p, 7, none⟩ v2).setCell ⟨p, 8, none⟩ v3).setCell ⟨p, 9, none⟩ v4).setCell ⟨p, 10, none⟩ v5) :=
 ((((Only.setCell (· = p) w p 6 v1 rfl).trans' (Only.setCell _ _ p 7 v2 rfl)).trans' (Only.setCell _ _ p 8 v3 rfl)).trans' (Only.setCell _ _ p 9 v4 rfl)).trans' (Only.setCell _ _ p 10 v5 rfl)
theorem Only.cell {F : Nat → Prop} {a b : World} (h : Only F a b) {g j : Nat} {v : Value} (hc : a.cell? ⟨g, j, none⟩ = some v) (hF : ¬ F g) : b.cell? ⟨g, j, none⟩ = some v := by
 have h1 : g < a.heap.size := block_lt_of_cell hc
 have h2 := h.block g h1 hF
 unfold World.cell? at *
 simp only [h2]
 exact hc
end
theorem meets_none (x : Bx) (p : Nat) (n : Int) (w : World) (h : x.at w p) (hn : x.hn = false ∨ x.fa ≠ n) :
  Calls Try.prog 113 #[.pointer (some ⟨p, 5, none⟩), .int .i64 n] w fun e w' => e = .returned (.agg #[.int .i64 0, .int .i64 0, .slice none 0 0, .int .u8 255]) ∧ Below w.heap.size w w' := by
 have hp := h.lt
 have c10 := h.c10
 have c6 := h.c6
 clear h
 cases hh : x.hn with
 | false =>
  rw [hh] at c10
  clear hh hn
  go_enter Try.func113, Try.ntmps113
  go_wp2
  refine bodyPost_ret (v := .agg #[.int .i64 0, .int .i64 0, .slice none 0 0, .int .u8 255]) (by simp [results, Try.results113, go_sem]) rfl ⟨rfl, ?_⟩
  exact ba (Below.refl _ _)
 | true =>
  rw [hh] at c10
  have hf : (x.fa != n) = true := by
   rcases hn with h1 | h1
   ·rw [hh] at h1; cases h1
   ·simpa using h1
  clear hh hn
  go_enter Try.func113, Try.ntmps113
  go_wp2
  refine bodyPost_ret (v := .agg #[.int .i64 0, .int .i64 0, .slice none 0 0, .int .u8 255]) (by simp [results, Try.results113, go_sem]) rfl ⟨rfl, ?_⟩
  exact ba (Below.refl _ _)
theorem meets_last (w : World) (x : Bx) (p cap s r : Nat) (n : Int) (hc : w.heap[x.c]? = some (.chan cap #[] true s r false)) (h : x.at w p) (hn : x.hn = true) (hf : x.fa = n) :
  Calls Try.prog 113 #[.pointer (some ⟨p, 5, none⟩), .int .i64 n] w fun e w' => e = .returned (.agg #[.int .i64 x.fa, .int .i64 x.fk, .slice x.ma x.ml x.mc, .int .u8 x.ff]) ∧ ({ x with fa := 0, fk := 0, ma := none, ml := 0, mc := 0, ff := 0, hn := false } : Bx).at w' p ∧ w'.heap[x.c]? = some (.chan cap #[] true s r false) ∧ Only (fun k => k = p ∨ k = x.c) w w' := by
 have hp := h.lt
 have hpc : p ≠ x.c := by
  intro e
  have h1 : w.heap[p]? = _ := h
  rw [e, hc] at h1
  simp at h1
 have c5 := h.c5
 have c6 := h.c6
 have c7 := h.c7
 have c8 := h.c8
 have c9 := h.c9
 have c10 := h.c10
 rw [hn] at c10
 have hfb : (x.fa != n) = false := by simpa using hf
 have HX : Hid (x.at w p) := h
 clear h hn hf
 refine calls_of_wpN Try.func113 rfl ?_
 simp only [Try.ntmps113, List.size_toArray, List.length_cons, List.length_nil, Nat.reduceAdd, Nat.reduceSub, Array.replicate_succ,
   Array.replicate_zero, List.push_toArray, List.append_toArray, List.nil_append, List.cons_append]
 refine wpN_seq_k fun K N => wpN_of_wp ?_
 go_wp2
 refine wpN_seq_k fun K N => wpN_of_wp ?_
 go_wp2
 refine wpN_seq_k fun K N => wpN_of_wp ?_
 go_wp2
 refine wpN_seq_k fun K N => wpN_region ?_
 obtain ⟨u, hu⟩ : ∃ u, u = (w.alloc (.cells #[.int .i64 0, .int .i64 0, .slice none 0 0, .int .u8 0] 58)).alloc (.cells #[.int .i64 x.fa, .int .i64 x.fk, .slice x.ma x.ml x.mc, .int .u8 x.ff] 58) := ⟨_, rfl⟩
 have hB : Below w.heap.size w u := by rw [hu]; exact ba (ba (Below.refl _ _))
 have hcu := (hB.block x.c (lt_of_block hc)).trans hc
 have hX : x.at u p := HX.out.keep (hB.block p hp)
 show SemOps _ _ _ [0, 1, 2, 3, 4, 5, 6, 7, 8, 9, 10, 11, 12, 13, 14, 15] _ _
 rw [← hu]
 have c5' := hX.c5
 refine semops_value rfl rfl rfl ?_
 refine semops_value rfl rfl rfl ?_
 refine semops_value rfl rfl rfl ?_
 refine semops_value rfl rfl rfl ?_
 refine semops_value rfl rfl (by simp [go_sem, execOp, Act.eval]; exact ⟨rfl, rfl⟩) ?_
 refine semops_value rfl rfl (by simp [go_sem, execOp, Act.eval, c5']; exact ⟨rfl, rfl⟩) ?_
 refine semops_recv_shut (c := x.c) (cap := cap) (s := s) (r := r) (tm := false) (z := .agg #[.int .i64 0, .int .i64 0, .slice none 0 0, .int .u8 0]) true rfl rfl (by simp [go_sem, execOp, Act.eval, rcase]) hcu ?_
 rw [show got true (.agg #[.int .i64 0, .int .i64 0, .slice none 0 0, .int .u8 0]) false = .tuple #[.agg #[.int .i64 0, .int .i64 0, .slice none 0 0, .int .u8 0], .bool false] from rfl]
 have hcl : x.c < w.heap.size := lt_of_block hc
 have b5 : u.heap[w.heap.size + 1]? = some (.cells #[.int .i64 x.fa, .int .i64 x.fk, .slice x.ma x.ml x.mc, .int .u8 x.ff] 58) := by rw [hu, ← alloc_size w (.cells #[.int .i64 0, .int .i64 0, .slice none 0 0, .int .u8 0] 58)]; exact alloc_new _ _
 have b4 : u.heap[w.heap.size]? = some (.cells #[.int .i64 0, .int .i64 0, .slice none 0 0, .int .u8 0] 58) := by rw [hu, alloc_old _ _ (by rw [alloc_size]; omega)]; exact alloc_new _ _
 have hus : u.heap.size = w.heap.size + 2 := by rw [hu]; simp
 clear hu
 obtain ⟨t, ht⟩ : ∃ t, t = u := ⟨_, rfl⟩
 have hT : Only (· = x.c) u t := by rw [ht]; exact Only.refl _ _
 have hct : t.heap[x.c]? = some (.chan cap #[] true s r false) := by rw [ht]; exact hcu
 rw [← ht]
 clear ht
 have hXt : x.at t p := hX.keep (hT.block p hX.lt hpc)
 have t5 := (hT.block (w.heap.size + 1) (by omega) (by omega)).trans b5
 have t4 := (hT.block w.heap.size (by omega) (by omega)).trans b4
 refine semops_drop 7 _ rfl ?_
 simp only [List.drop_succ_cons, List.drop_zero]
 have fz := hXt.fz
 have d6 := hXt.c6
 have d7 := hXt.c7
 have d8 := hXt.c8
 have d9 := hXt.c9
 have d10 := hXt.c10
 have HXT : Hid (x.at t p) := hXt
 have HT5 : Hid (t.heap[w.heap.size + 1]? = some (.cells #[.int .i64 x.fa, .int .i64 x.fk, .slice x.ma x.ml x.mc, .int .u8 x.ff] 58)) := t5
 have HT4 : Hid (t.heap[w.heap.size]? = some (.cells #[.int .i64 0, .int .i64 0, .slice none 0 0, .int .u8 0] 58)) := t4
 clear c5 c6 c7 c8 c9 c10 hX c5' b5 b4 hXt t5 t4 hcu
 go_wp2
 generalize hv : World.setCell _ ⟨p, 10, none⟩ _ = v
 have hV := HXT.out.setNext 0 0 none 0 0 0 false
 have hO := only_next t p (.int .i64 0) (.int .i64 0) (.slice none 0 0) (.int .u8 0) (.bool false)
 rw [hv] at hV hO
 have v5 := (hO.block (w.heap.size + 1) (lt_of_block HT5.out) (by omega)).trans HT5.out
 have v4 := (hO.block w.heap.size (lt_of_block HT4.out) (by omega)).trans HT4.out
 have b50 : v.cell? ⟨w.heap.size + 1, 0, none⟩ = some (.int .i64 x.fa) := by simp [World.cell?, v5]
 have b51 : v.cell? ⟨w.heap.size + 1, 1, none⟩ = some (.int .i64 x.fk) := by simp [World.cell?, v5]
 have b52 : v.cell? ⟨w.heap.size + 1, 2, none⟩ = some (.slice x.ma x.ml x.mc) := by simp [World.cell?, v5]
 have b53 : v.cell? ⟨w.heap.size + 1, 3, none⟩ = some (.int .u8 x.ff) := by simp [World.cell?, v5]
 have b40 : v.cell? ⟨w.heap.size, 0, none⟩ = some (.int .i64 0) := by simp [World.cell?, v4]
 have b41 : v.cell? ⟨w.heap.size, 1, none⟩ = some (.int .i64 0) := by simp [World.cell?, v4]
 have b42 : v.cell? ⟨w.heap.size, 2, none⟩ = some (.slice none 0 0) := by simp [World.cell?, v4]
 have b43 : v.cell? ⟨w.heap.size, 3, none⟩ = some (.int .u8 0) := by simp [World.cell?, v4]
 have f4 : ∀ j, v.frozen? ⟨w.heap.size, j, none⟩ = false := fun j => frozen_of_row v w.heap.size j _ 58 v4
 have HV := J hV
 have HO : Hid (Only (· = p) t v) := hO
 have HT : Hid (Only (· = x.c) u t) := hT
 have hcv : v.heap[x.c]? = some (.chan cap #[] true s r false) := (hO.block x.c (lt_of_block hct) (fun e => hpc e.symm)).trans hct
 have HCV : Hid (v.heap[x.c]? = some (.chan cap #[] true s r false)) := hcv
 clear hv hV hO hT v5 v4 hct hcv fz d6 d7 d8 d9 d10
 refine wpN_of_wp ?_
 go_wp2
 have hne : x.c ≠ w.heap.size := by omega
 refine bodyPost_ret (v := .agg #[.int .i64 x.fa, .int .i64 x.fk, .slice x.ma x.ml x.mc, .int .u8 x.ff]) (by simp [results, Try.results113, go_sem, b40, b41, b42, b43]) rfl ⟨rfl, ?_, ?_, ?_⟩
 ·exact HV.out.keep ((heap_setCell_other _ _ _ _ (by show p ≠ w.heap.size; omega)).trans ((heap_setCell_other _ _ _ _ (by show p ≠ w.heap.size; omega)).trans ((heap_setCell_other _ _ _ _ (by show p ≠ w.heap.size; omega)).trans (heap_setCell_other _ _ _ _ (by show p ≠ w.heap.size; omega)))))
 ·exact ((heap_setCell_other _ _ _ _ (by show x.c ≠ w.heap.size; omega)).trans ((heap_setCell_other _ _ _ _ (by show x.c ≠ w.heap.size; omega)).trans ((heap_setCell_other _ _ _ _ (by show x.c ≠ w.heap.size; omega)).trans (heap_setCell_other _ _ _ _ (by show x.c ≠ w.heap.size; omega))))).trans HCV.out
 ·have k1 : Only (fun k => k = p ∨ k = x.c) w v := ((Only.ofB hB).trans HT.out (fun j _ e => Or.inr e)).trans HO.out (fun j _ e => Or.inl e)
  exact (((k1.trans (Only.setCell (· = w.heap.size) _ _ _ _ rfl) (fun j hj e => absurd e (by omega))).trans (Only.setCell (· = w.heap.size) _ _ _ _ rfl) (fun j hj e => absurd e (by omega))).trans (Only.setCell (· = w.heap.size) _ _ _ _ rfl) (fun j hj e => absurd e (by omega))).trans (Only.setCell (· = w.heap.size) _ _ _ _ rfl) (fun j hj e => absurd e (by omega))
theorem meets_more (w : World) (x : Bx) (p cap s r : Nat) (n : Int) (a2 k2 f2 : Int) (m2 : Option Addr) (l2 n2 : Nat) (bs : List Value) (hc : w.heap[x.c]? = some (.chan cap (Value.agg #[.int .i64 a2, .int .i64 k2, .slice m2 l2 n2, .int .u8 f2] :: bs).toArray true s r false)) (h : x.at w p) (hn : x.hn = true) (hf : x.fa = n) :
  Calls Try.prog 113 #[.pointer (some ⟨p, 5, none⟩), .int .i64 n] w fun e w' => e = .returned (.agg #[.int .i64 x.fa, .int .i64 x.fk, .slice x.ma x.ml x.mc, .int .u8 x.ff]) ∧ ({ x with fa := a2, fk := k2, ma := m2, ml := l2, mc := n2, ff := f2, hn := true } : Bx).at w' p ∧ w'.heap[x.c]? = some (.chan cap bs.toArray true s (r + 1) false) ∧ Only (fun k => k = p ∨ k = x.c) w w' := by
 have hp := h.lt
 have hpc : p ≠ x.c := by
  intro e
  have h1 : w.heap[p]? = _ := h
  rw [e, hc] at h1
  simp at h1
 have c5 := h.c5
 have c6 := h.c6
 have c7 := h.c7
 have c8 := h.c8
 have c9 := h.c9
 have c10 := h.c10
 rw [hn] at c10
 have hfb : (x.fa != n) = false := by simpa using hf
 have HX : Hid (x.at w p) := h
 clear h hn hf
 refine calls_of_wpN Try.func113 rfl ?_
 simp only [Try.ntmps113, List.size_toArray, List.length_cons, List.length_nil, Nat.reduceAdd, Nat.reduceSub, Array.replicate_succ,
   Array.replicate_zero, List.push_toArray, List.append_toArray, List.nil_append, List.cons_append]
 refine wpN_seq_k fun K N => wpN_of_wp ?_
 go_wp2
 refine wpN_seq_k fun K N => wpN_of_wp ?_
 go_wp2
 refine wpN_seq_k fun K N => wpN_of_wp ?_
 go_wp2
 refine wpN_seq_k fun K N => wpN_region ?_
 obtain ⟨u, hu⟩ : ∃ u, u = (w.alloc (.cells #[.int .i64 0, .int .i64 0, .slice none 0 0, .int .u8 0] 58)).alloc (.cells #[.int .i64 x.fa, .int .i64 x.fk, .slice x.ma x.ml x.mc, .int .u8 x.ff] 58) := ⟨_, rfl⟩
 have hB : Below w.heap.size w u := by rw [hu]; exact ba (ba (Below.refl _ _))
 have hcu := (hB.block x.c (lt_of_block hc)).trans hc
 have hX : x.at u p := HX.out.keep (hB.block p hp)
 show SemOps _ _ _ [0, 1, 2, 3, 4, 5, 6, 7, 8, 9, 10, 11, 12, 13, 14, 15] _ _
 rw [← hu]
 have c5' := hX.c5
 refine semops_value rfl rfl rfl ?_
 refine semops_value rfl rfl rfl ?_
 refine semops_value rfl rfl rfl ?_
 refine semops_value rfl rfl rfl ?_
 refine semops_value rfl rfl (by simp [go_sem, execOp, Act.eval]; exact ⟨rfl, rfl⟩) ?_
 refine semops_value rfl rfl (by simp [go_sem, execOp, Act.eval, c5']; exact ⟨rfl, rfl⟩) ?_
 refine semops_recv_buf (c := x.c) (cap := cap) (s := s) (r := r) (tm := false) (closed := true) (buf := (Value.agg #[.int .i64 a2, .int .i64 k2, .slice m2 l2 n2, .int .u8 f2] :: bs).toArray) (z := .agg #[.int .i64 0, .int .i64 0, .slice none 0 0, .int .u8 0]) true rfl rfl (by simp [go_sem, execOp, Act.eval, rcase]) hcu (by simp) ?_
 rw [show got true (Array.getD (Value.agg #[.int .i64 a2, .int .i64 k2, .slice m2 l2 n2, .int .u8 f2] :: bs).toArray 0 undef) true = .tuple #[.agg #[.int .i64 a2, .int .i64 k2, .slice m2 l2 n2, .int .u8 f2], .bool true] from rfl]
 have hcl : x.c < w.heap.size := lt_of_block hc
 have b5 : u.heap[w.heap.size + 1]? = some (.cells #[.int .i64 x.fa, .int .i64 x.fk, .slice x.ma x.ml x.mc, .int .u8 x.ff] 58) := by rw [hu, ← alloc_size w (.cells #[.int .i64 0, .int .i64 0, .slice none 0 0, .int .u8 0] 58)]; exact alloc_new _ _
 have b4 : u.heap[w.heap.size]? = some (.cells #[.int .i64 0, .int .i64 0, .slice none 0 0, .int .u8 0] 58) := by rw [hu, alloc_old _ _ (by rw [alloc_size]; omega)]; exact alloc_new _ _
 have hus : u.heap.size = w.heap.size + 2 := by rw [hu]; simp
 clear hu
 obtain ⟨t, ht⟩ : ∃ t, t = u.setChan x.c cap ((Value.agg #[.int .i64 a2, .int .i64 k2, .slice m2 l2 n2, .int .u8 f2] :: bs).toArray.extract 1 (Value.agg #[.int .i64 a2, .int .i64 k2, .slice m2 l2 n2, .int .u8 f2] :: bs).toArray.size) true s (r + 1) false := ⟨_, rfl⟩
 have hT : Only (· = x.c) u t := by
  rw [ht]
  exact ⟨rfl, rfl, rfl, by simp [World.setChan], fun k hk hf => by simp only [World.setChan]; rw [Array.getElem?_setIfInBounds_ne (fun e => hf e.symm)]⟩
 have hct : t.heap[x.c]? = some (.chan cap bs.toArray true s (r + 1) false) := by
  rw [ht, heap_setChan _ _ _ _ _ _ _ _ (lt_of_block hcu)]
  simp
 rw [← ht]
 clear ht
 have hXt : x.at t p := hX.keep (hT.block p hX.lt hpc)
 have t5 := (hT.block (w.heap.size + 1) (by omega) (by omega)).trans b5
 have t4 := (hT.block w.heap.size (by omega) (by omega)).trans b4
 refine semops_drop 7 _ rfl ?_
 simp only [List.drop_succ_cons, List.drop_zero]
 have fz := hXt.fz
 have d6 := hXt.c6
 have d7 := hXt.c7
 have d8 := hXt.c8
 have d9 := hXt.c9
 have d10 := hXt.c10
 have HXT : Hid (x.at t p) := hXt
 have HT5 : Hid (t.heap[w.heap.size + 1]? = some (.cells #[.int .i64 x.fa, .int .i64 x.fk, .slice x.ma x.ml x.mc, .int .u8 x.ff] 58)) := t5
 have HT4 : Hid (t.heap[w.heap.size]? = some (.cells #[.int .i64 0, .int .i64 0, .slice none 0 0, .int .u8 0] 58)) := t4
 clear c5 c6 c7 c8 c9 c10 hX c5' b5 b4 hXt t5 t4 hcu
 go_wp2
 generalize hv : World.setCell _ ⟨p, 10, none⟩ _ = v
 have hV := HXT.out.setNext a2 k2 m2 l2 n2 f2 true
 have hO := only_next t p (.int .i64 a2) (.int .i64 k2) (.slice m2 l2 n2) (.int .u8 f2) (.bool true)
 rw [hv] at hV hO
 have v5 := (hO.block (w.heap.size + 1) (lt_of_block HT5.out) (by omega)).trans HT5.out
 have v4 := (hO.block w.heap.size (lt_of_block HT4.out) (by omega)).trans HT4.out
 have b50 : v.cell? ⟨w.heap.size + 1, 0, none⟩ = some (.int .i64 x.fa) := by simp [World.cell?, v5]
 have b51 : v.cell? ⟨w.heap.size + 1, 1, none⟩ = some (.int .i64 x.fk) := by simp [World.cell?, v5]
 have b52 : v.cell? ⟨w.heap.size + 1, 2, none⟩ = some (.slice x.ma x.ml x.mc) := by simp [World.cell?, v5]
 have b53 : v.cell? ⟨w.heap.size + 1, 3, none⟩ = some (.int .u8 x.ff) := by simp [World.cell?, v5]
 have b40 : v.cell? ⟨w.heap.size, 0, none⟩ = some (.int .i64 0) := by simp [World.cell?, v4]
 have b41 : v.cell? ⟨w.heap.size, 1, none⟩ = some (.int .i64 0) := by simp [World.cell?, v4]
 have b42 : v.cell? ⟨w.heap.size, 2, none⟩ = some (.slice none 0 0) := by simp [World.cell?, v4]
 have b43 : v.cell? ⟨w.heap.size, 3, none⟩ = some (.int .u8 0) := by simp [World.cell?, v4]
 have f4 : ∀ j, v.frozen? ⟨w.heap.size, j, none⟩ = false := fun j => frozen_of_row v w.heap.size j _ 58 v4
 have HV := J hV
 have HO : Hid (Only (· = p) t v) := hO
 have HT : Hid (Only (· = x.c) u t) := hT
 have hcv : v.heap[x.c]? = some (.chan cap bs.toArray true s (r + 1) false) := (hO.block x.c (lt_of_block hct) (fun e => hpc e.symm)).trans hct
 have HCV : Hid (v.heap[x.c]? = some (.chan cap bs.toArray true s (r + 1) false)) := hcv
 clear hv hV hO hT v5 v4 hct hcv fz d6 d7 d8 d9 d10
 refine wpN_of_wp ?_
 go_wp2
 have hne : x.c ≠ w.heap.size := by omega
 refine bodyPost_ret (v := .agg #[.int .i64 x.fa, .int .i64 x.fk, .slice x.ma x.ml x.mc, .int .u8 x.ff]) (by simp [results, Try.results113, go_sem, b40, b41, b42, b43]) rfl ⟨rfl, ?_, ?_, ?_⟩
 ·exact HV.out.keep ((heap_setCell_other _ _ _ _ (by show p ≠ w.heap.size; omega)).trans ((heap_setCell_other _ _ _ _ (by show p ≠ w.heap.size; omega)).trans ((heap_setCell_other _ _ _ _ (by show p ≠ w.heap.size; omega)).trans (heap_setCell_other _ _ _ _ (by show p ≠ w.heap.size; omega)))))
 ·exact ((heap_setCell_other _ _ _ _ (by show x.c ≠ w.heap.size; omega)).trans ((heap_setCell_other _ _ _ _ (by show x.c ≠ w.heap.size; omega)).trans ((heap_setCell_other _ _ _ _ (by show x.c ≠ w.heap.size; omega)).trans (heap_setCell_other _ _ _ _ (by show x.c ≠ w.heap.size; omega))))).trans HCV.out
 ·have k1 : Only (fun k => k = p ∨ k = x.c) w v := ((Only.ofB hB).trans HT.out (fun j _ e => Or.inr e)).trans HO.out (fun j _ e => Or.inl e)
  exact (((k1.trans (Only.setCell (· = w.heap.size) _ _ _ _ rfl) (fun j hj e => absurd e (by omega))).trans (Only.setCell (· = w.heap.size) _ _ _ _ rfl) (fun j hj e => absurd e (by omega))).trans (Only.setCell (· = w.heap.size) _ _ _ _ rfl) (fun j hj e => absurd e (by omega))).trans (Only.setCell (· = w.heap.size) _ _ _ _ rfl) (fun j hj e => absurd e (by omega))
end Go.Proofs.Ytadlkikjfonkgaa
