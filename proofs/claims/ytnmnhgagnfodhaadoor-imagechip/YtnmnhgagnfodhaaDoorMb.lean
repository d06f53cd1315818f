/-
  SEAT YtnmnhgagnfodhaaDoor: KCm, KFp.
-/
import Derived.Test.YtnmnhgagnfodhaaDoorMa
import Derived.Conc.LoneCalls
namespace Go.Proofs.YtnmnhgagnfodhaaDoor.Cp
open Go.RowKit Go.Conc
set_option linter.unusedVariables false
def SemOps (P : Program) (ops : Array Oper) (Q : Exit → Act → World → Prop) (l : List Nat) (a : Act) (w : World) : Prop :=
 ∀ (b : Frame) (k : List Item) (cs : List Frame), b.kind ≠ .early → ∃ e a' w', Q e a' w' ∧ Arrives P (lone (b.at a (.inRegion ops l :: k)) cs w) b k cs e a' w'
theorem semops_list {P : Program} {ops : Array Oper} {Q : Exit → Act → World → Prop} {a : Act} {w : World} (l : List Oper) (k : Nat) (hl : ∀ j, l[j]? = ops[k + j]?) (h : wpList P ops Q l a w) : SemOps P ops Q (List.range' k l.length) a w := by
 rw [← wpOps_eq_wpList l k hl] at h
 exact fun b kk cs _ => wp_ops _ a w h b kk cs
theorem semops_drop {P : Program} {ops : Array Oper} {Q : Exit → Act → World → Prop} {a : Act} {w : World} (k : Nat) (l : List Nat) (hl : l = List.range' k (ops.size - k)) (h : wpList P ops Q (ops.toList.drop k) a w) : SemOps P ops Q l a w := by
 have := semops_list (P := P) (ops := ops) (Q := Q) (a := a) (w := w) (ops.toList.drop k) k (fun j => by rw [List.getElem?_drop]; simp) h
 rw [hl]
 simpa using this
theorem semops_value {P : Program} {ops : Array Oper} {Q : Exit → Act → World → Prop} {a : Act} {w w' : World} {i : Nat} {rest : List Nat} {o : Oper} {v : Value} (ho : ops[i]? = some o) (hw : Region.wanted o (yielded ops a.tmps) = true)
  (hr : (execOp a.eval o).run P w = .ok (.value v) w') (h : SemOps P ops Q rest (a.put o.dst v) w') : SemOps P ops Q (i :: rest) a w := by
 intro b k cs hk
 obtain ⟨e, a', w'', hq, harr⟩ := h b k cs hk
 refine ⟨e, a', w'', hq, .of_steps (.one (step_lone_go ?_)) harr⟩
 have hfin : (b.at a (.inRegion ops (i :: rest) :: k)).finish v = b.at (a.put o.dst v) (.inRegion ops rest :: k) := by
  rw [Frame.finish_at, ho]; rfl
 rw [stepG_op ho hw, ← hfin]
 simp [stepG.apply, hr]
theorem semops_recv_buf {P : Program} {ops : Array Oper} {Q : Exit → Act → World → Prop} {a : Act} {w : World} {i : Nat} {rest : List Nat} {o : Oper} {c cap s r : Nat} {buf : Array Value} {closed tm : Bool} {z : Value} (ok : Bool) (ho : ops[i]? = some o) (hw : Region.wanted o (yielded ops a.tmps) = true)
  (hr : (execOp a.eval o).run P w = .ok (.comm #[rcase c z] true (.recv ok)) w) (hc : w.heap[c]? = some (.chan cap buf closed s r tm)) (hsome : 0 < buf.size)
  (h : SemOps P ops Q rest (a.put o.dst (got ok (buf.getD 0 undef) true)) (w.setChan c cap (buf.extract 1 buf.size) closed s (r + 1) tm)) : SemOps P ops Q (i :: rest) a w := by
 intro b k cs hk
 obtain ⟨e, a', w'', hq, harr⟩ := h b k cs hk
 refine ⟨e, a', w'', hq, .of_steps (.one ?_) harr⟩
 have hfin : ∀ v, (b.at a (.inRegion ops (i :: rest) :: k)).finish v = b.at (a.put o.dst v) (.inRegion ops rest :: k) := by
  intro v; rw [Frame.finish_at, ho]; rfl
 rw [← hfin]
 exact step_lone_recv_buf ok (stepG_comm ho hw hk hr) hc hsome
theorem semops_recv_shut {P : Program} {ops : Array Oper} {Q : Exit → Act → World → Prop} {a : Act} {w : World} {i : Nat} {rest : List Nat} {o : Oper} {c cap s r : Nat} {tm : Bool} {z : Value} (ok : Bool) (ho : ops[i]? = some o) (hw : Region.wanted o (yielded ops a.tmps) = true)
  (hr : (execOp a.eval o).run P w = .ok (.comm #[rcase c z] true (.recv ok)) w) (hc : w.heap[c]? = some (.chan cap #[] true s r tm))
  (h : SemOps P ops Q rest (a.put o.dst (got ok z false)) w) : SemOps P ops Q (i :: rest) a w := by
 intro b k cs hk
 obtain ⟨e, a', w'', hq, harr⟩ := h b k cs hk
 refine ⟨e, a', w'', hq, .of_steps (.one ?_) harr⟩
 have hfin : ∀ v, (b.at a (.inRegion ops (i :: rest) :: k)).finish v = b.at (a.put o.dst v) (.inRegion ops rest :: k) := by
  intro v; rw [Frame.finish_at, ho]; rfl
 rw [← hfin]
 exact step_lone_recv_shut ok (stepG_comm ho hw hk hr) hc
theorem semops_send_room {P : Program} {ops : Array Oper} {Q : Exit → Act → World → Prop} {a : Act} {w : World} {i : Nat} {rest : List Nat} {o : Oper} {c cap s r : Nat} {buf : Array Value} {tm : Bool} {v z : Value} (ho : ops[i]? = some o) (hw : Region.wanted o (yielded ops a.tmps) = true)
  (hr : (execOp a.eval o).run P w = .ok (.comm #[scase c v z] true .send) w) (hc : w.heap[c]? = some (.chan cap buf false s r tm)) (hroom : buf.size < cap)
  (h : SemOps P ops Q rest (a.put o.dst undef) (w.setChan c cap (buf.push v) false (s + 1) r tm)) : SemOps P ops Q (i :: rest) a w := by
 intro b k cs hk
 obtain ⟨e, a', w'', hq, harr⟩ := h b k cs hk
 refine ⟨e, a', w'', hq, .of_steps (.one ?_) harr⟩
 have hfin : ∀ v, (b.at a (.inRegion ops (i :: rest) :: k)).finish v = b.at (a.put o.dst v) (.inRegion ops rest :: k) := by
  intro v; rw [Frame.finish_at, ho]; rfl
 rw [← hfin]
 exact step_lone_send_room (stepG_comm ho hw hk hr) hc hroom
def wpN (P : Program) (c : Code) (Q : Exit → Act → World → Prop) (a : Act) (w : World) : Prop :=
 ∀ (b : Frame) (k : List Item) (cs : List Frame), b.kind ≠ .early → ∃ e a' w', Q e a' w' ∧ Arrives P (lone (b.at a (.code c :: k)) cs w) b k cs e a' w'
section
variable {P : Program} {Q : Exit → Act → World → Prop} {a : Act} {w : World}
theorem wpN_of_wp {c : Code} (h : c.wp P Q a w) : wpN P c Q a w := fun b k cs _ => h b k cs
theorem wpN_region {id : Nat} {ops : Array Oper} (h : SemOps P ops Q (List.range ops.size) a w) : wpN P (.region id ops false) Q a w :=
 fun b k cs hk => let ⟨e, a', w', q, r⟩ := h b k cs hk; ⟨e, a', w', q, .of_steps (.one step_region) r⟩
theorem wpN_seq {x y : Code} (h : wpN P x (Exit.then (wpN P y Q) Q) a w) : wpN P (Code.seq x y) Q a w := by
 intro b k cs hk
 obtain ⟨e, a1, w1, hq, harr⟩ := h b (.code y :: k) cs hk
 cases e with
 | normal =>
  obtain ⟨e2, a2, w2, hq2, harr2⟩ := hq b k cs hk
  exact ⟨e2, a2, w2, hq2, .of_steps (.head step_seq harr) harr2⟩
 | exit id => exact ⟨_, a1, w1, hq, .of_steps (.one step_seq) (.pass (x := .code y) rfl (fun _ _ => .inl (by simp)) harr)⟩
 | goto l => exact ⟨_, a1, w1, hq, .of_steps (.one step_seq) (.pass (x := .code y) rfl (fun _ _ => .inl (by simp)) harr)⟩
 | ret => exact ⟨_, a1, w1, hq, .of_steps (.one step_seq) (.pass (x := .code y) rfl (fun _ _ => .inl (by simp)) harr)⟩
 | panic ch => exact ⟨_, a1, w1, hq, .of_steps (.one step_seq) (.pass (x := .code y) rfl (fun _ _ => .inl (by simp)) harr)⟩
 | outgrown => exact ⟨_, a1, w1, hq, .of_steps (.one step_seq) (.pass (x := .code y) rfl (fun _ _ => .inl (by simp)) harr)⟩
theorem wpN_seq_k {x y : Code} (h : ∀ K : Act → World → Prop, (∀ a w, wpN P y Q a w → K a w) → wpN P x (Exit.then K Q) a w) : wpN P (Code.seq x y) Q a w := wpN_seq (h _ fun _ _ h => h)
theorem wpN_block {id : Nat} {c : Code} (h : wpN P c (Exit.inBlock id Q) a w) : wpN P (Code.block id c) Q a w := by
 intro b k cs hk
 obtain ⟨e, a1, w1, hq, harr⟩ := h b (.inBlock id :: k) cs hk
 cases e with
 | normal => exact ⟨.normal, a1, w1, hq, .head step_block (Steps.trans harr (.one step_inBlock))⟩
 | exit id' =>
  by_cases hid : id' = id
  ·simp only [Exit.inBlock, hid, if_true] at hq
   exact ⟨.normal, a1, w1, hq, .head step_block (harr k (by simp [exitTo, hid]))⟩
  ·simp only [Exit.inBlock, hid, if_false] at hq
   refine ⟨.exit id', a1, w1, hq, fun k' hk => .head step_block (harr k' ?_)⟩
   have : (id == id') = false := by simp; exact fun h => hid h.symm
   simp [exitTo, this, hk]
 | goto l => exact ⟨_, a1, w1, hq, fun k' hk => .head step_block (harr k' (by simp [gotoIn, hk]))⟩
 | ret => exact ⟨_, a1, w1, hq, .of_steps (.one step_block) harr⟩
 | panic ch => exact ⟨_, a1, w1, hq, .of_steps (.one step_block) harr⟩
 | outgrown => exact ⟨_, a1, w1, hq, .of_steps (b := b) (k := k) (cs := cs) (e := .outgrown) (.one step_block) harr⟩
theorem wpN_loop {c : Code} (I : Act → World → Prop) (m : Act → World → Nat) (h0 : I a w)
  (round : ∀ a w, I a w → wpN P c (Exit.then (fun a' w' => I a' w' ∧ m a' w' < m a w) Q) a w) : wpN P (Code.loop c) Q a w := by
 intro b k cs hk
 have key : ∀ n a w, m a w = n → I a w →
   ∃ e a' w', Q e a' w' ∧ Arrives P (lone (b.at a (.code c :: .inLoop c :: k)) cs w) b k cs e a' w' := by
  intro n
  induction n using Nat.strongRecOn with
  | _ n ih =>
   intro a w hn hI
   obtain ⟨e, a1, w1, hq, harr⟩ := round a w hI b (.inLoop c :: k) cs hk
   cases e with
   | normal =>
    obtain ⟨hI1, hlt⟩ := hq
    obtain ⟨e2, a2, w2, hq2, harr2⟩ := ih (m a1 w1) (hn ▸ hlt) a1 w1 rfl hI1
    exact ⟨e2, a2, w2, hq2, .of_steps (Steps.trans harr (.one step_inLoop)) harr2⟩
   | exit id => exact ⟨_, a1, w1, hq, .pass (x := .inLoop c) rfl (fun _ _ => .inl (by simp)) harr⟩
   | goto l => exact ⟨_, a1, w1, hq, .pass (x := .inLoop c) rfl (fun _ _ => .inl (by simp)) harr⟩
   | ret => exact ⟨_, a1, w1, hq, .pass (x := .inLoop c) rfl (fun _ _ => .inl (by simp)) harr⟩
   | panic ch => exact ⟨_, a1, w1, hq, .pass (x := .inLoop c) rfl (fun _ _ => .inl (by simp)) harr⟩
   | outgrown => exact ⟨_, a1, w1, hq, .pass (x := .inLoop c) rfl (fun _ _ => .inl (by simp)) harr⟩
 obtain ⟨e, a', w', hq, harr⟩ := key _ a w rfl h0
 exact ⟨e, a', w', hq, .of_steps (.one step_loop) harr⟩
theorem calls_of_wpN {f : FuncId} {fn : Func} {c : Code} {args : Array Value} {R : Ending → World → Prop}
  (hf : P.funcs[f]? = some fn) (hb : fn.body = some c)
  (h : wpN P c (bodyPost P fn R) { tmps := args ++ Array.replicate (fn.ntmps - args.size) undef, defers := [] } w) : Calls P f args w R := by
 intro cs
 let b : Frame := { (default : Frame) with fn := f, kind := .normal }
 have henter : Frame.enter P f args .normal =
   b.at { tmps := args ++ Array.replicate (fn.ntmps - args.size) undef, defers := [] } [.code c] := by
  simp [Frame.enter, Frame.at, hf, hb, b]
 obtain ⟨e, a', w', hq, harr⟩ := h b [] cs (by simp [b])
 rw [← henter] at harr
 cases e with
 | normal =>
  obtain ⟨hd, v, hr, hR⟩ := hq
  exact ⟨.returned v, w', _, hR, Steps.trans harr (.one step_end), rfl, rfl, hd, rfl, fn, hf, hr⟩
 | ret =>
  obtain ⟨hd, v, hr, hR⟩ := hq
  obtain ⟨todo, hs⟩ := harr
  exact ⟨.returned v, w', _, hR, hs, rfl, rfl, hd, rfl, fn, hf, hr⟩
 | panic chain =>
  obtain ⟨hd, hR⟩ := hq
  obtain ⟨todo, hs⟩ := harr
  exact ⟨.panicked chain, w', _, hR, hs, rfl, rfl, hd, fn, hf⟩
 | exit id => exact hq.elim
 | goto l => exact hq.elim
 | outgrown => exact ⟨.outgrown, w', b, hq, harr.resolve_left (by simp [b]), rfl, trivial⟩
end
end Go.Proofs.YtnmnhgagnfodhaaDoor.Cp
namespace Go.Proofs.YtnmnhgagnfodhaaDoor.Cp
open Go.RowKit Go.Conc
set_option linter.unusedVariables false
theorem hide {p : Prop} (h : p) : Hid p := h
theorem ba {B : Nat} {w u : World} (h : Below B w u) (hB : B ≤ u.heap.size := by first | exact Nat.le_refl _ | (simp; done) | (simp; omega) | omega) {o : Obj} : Below B w (u.alloc o) := h.alloc hB _
theorem below_trans {a b c : World} (h : Below a.heap.size a b) (k : Below b.heap.size b c) : Below a.heap.size a c := h.trans (k.mono h.size)
theorem lt_of_block {w : World} {g : Nat} {o : Obj} (h : w.heap[g]? = some o) : g < w.heap.size := by
 rcases Nat.lt_or_ge g w.heap.size with h1 | h1
 ·exact h1
 ·simp [Array.getElem?_eq_none h1] at h
theorem alloc_new (w : World) (o : Obj) : (w.alloc o).heap[w.heap.size]? = some o := Array.getElem?_push_size
theorem alloc_old (w : World) (o : Obj) {k : Nat} (h : k < w.heap.size) : (w.alloc o).heap[k]? = w.heap[k]? := by
 simp only [World.alloc]
 exact Array.getElem?_push_lt h |>.trans (Array.getElem?_eq_getElem h).symm
theorem alloc_size (w : World) (o : Obj) : (w.alloc o).heap.size = w.heap.size + 1 := by simp
structure Only (F : Nat → Prop) (w w' : World) : Prop where
 os : w'.os = w.os
 tape : w'.tape = w.tape
 output : w'.output = w.output
 size : w.heap.size ≤ w'.heap.size
 block : ∀ k, k < w.heap.size → ¬ F k → w'.heap[k]? = w.heap[k]?
section
variable {F G : Nat → Prop} {a b c : World}
theorem Only.refl (F : Nat → Prop) (a : World) : Only F a a := ⟨rfl, rfl, rfl, Nat.le_refl _, fun _ _ _ => rfl⟩
theorem Only.trans (h : Only F a b) (k : Only G b c) (hG : ∀ j, j < a.heap.size → G j → F j) : Only F a c :=
 ⟨k.os.trans h.os, k.tape.trans h.tape, k.output.trans h.output, Nat.le_trans h.size k.size, fun i hi hf => (k.block i (Nat.lt_of_lt_of_le hi h.size) (fun g => hf (hG i hi g))).trans (h.block i hi hf)⟩
theorem Only.trans' (h : Only F a b) (k : Only F b c) : Only F a c := h.trans k (fun _ _ h => h)
theorem Only.mono (h : Only F a b) (hG : ∀ j, j < a.heap.size → F j → G j) : Only G a b :=
 ⟨h.os, h.tape, h.output, h.size, fun i hi hf => h.block i hi (fun g => hf (hG i hi g))⟩
theorem Only.ofB (h : Below a.heap.size a b) : Only F a b := ⟨h.os, h.tape, h.output, h.size, fun k hk _ => h.block k hk⟩
theorem Only.ofG {r : Option Nat} (h : a.grownBy b r) (hr : ∀ j, r = some j → F j) : Only F a b :=
 ⟨h.os, h.tape, h.output, h.size, fun k hk hf => h.block k hk (fun e => hf (hr k e.symm))⟩
theorem Only.below {B : Nat} (h : Only F a b) (hF : ∀ j, F j → B ≤ j) (hB : B ≤ a.heap.size) : Below B a b :=
 ⟨h.os, h.tape, h.output, h.size, fun k hk => h.block k (by omega) (fun hf => by have := hF k hf; omega)⟩
theorem Only.setCell (F : Nat → Prop) (w : World) (g j : Nat) (v : Value) (hF : F g) : Only F w (w.setCell ⟨g, j, none⟩ v) :=
 ⟨rfl, rfl, rfl, by simp, fun k hk hf => heap_setCell_other w ⟨g, j, none⟩ k v (fun e => hf (by rw [e]; exact hF))⟩
end
structure Bx where
 B : Int
 P : Int
 S : Int
 gb : Nat
 nb : Nat
 gm : Nat
 c : Nat
 fa : Int
 fk : Int
 ma : Option Addr
 ml : Nat
 mc : Nat
 ff : Int
 hn : Bool
 dark : Bool
 cnt : Int
 ta : Option Addr
 tl : Nat
 tc : Nat
def Bx.cells (x : Bx) : List Value := [.int .i64 x.B, .int .i64 x.P, .int .i64 x.S, .slice (some ⟨x.gb, 0, none⟩) x.nb x.nb, .map (some x.gm), .chan (some x.c), .int .i64 x.fa, .int .i64 x.fk, .slice x.ma x.ml x.mc, .int .u8 x.ff, .bool x.hn, .bool x.dark, .int .i64 x.cnt, .slice x.ta x.tl x.tc]
def Bx.at (x : Bx) (w : World) (p : Nat) : Prop := w.heap[p]? = some (.cells x.cells.toArray 73 (0, 0))
section
variable {x : Bx} {w w' : World} {p : Nat}
theorem Bx.at.c0 (h : x.at w p) : w.cell? ⟨p, 0, none⟩ = some (.int .i64 x.B) := by simp [World.cell?, show w.heap[p]? = _ from h, Bx.cells]
theorem Bx.at.c1 (h : x.at w p) : w.cell? ⟨p, 1, none⟩ = some (.int .i64 x.P) := by simp [World.cell?, show w.heap[p]? = _ from h, Bx.cells]
theorem Bx.at.c2 (h : x.at w p) : w.cell? ⟨p, 2, none⟩ = some (.int .i64 x.S) := by simp [World.cell?, show w.heap[p]? = _ from h, Bx.cells]
theorem Bx.at.c3 (h : x.at w p) : w.cell? ⟨p, 3, none⟩ = some (.slice (some ⟨x.gb, 0, none⟩) x.nb x.nb) := by simp [World.cell?, show w.heap[p]? = _ from h, Bx.cells]
theorem Bx.at.c4 (h : x.at w p) : w.cell? ⟨p, 4, none⟩ = some (.map (some x.gm)) := by simp [World.cell?, show w.heap[p]? = _ from h, Bx.cells]
theorem Bx.at.c5 (h : x.at w p) : w.cell? ⟨p, 5, none⟩ = some (.chan (some x.c)) := by simp [World.cell?, show w.heap[p]? = _ from h, Bx.cells]
theorem Bx.at.c6 (h : x.at w p) : w.cell? ⟨p, 6, none⟩ = some (.int .i64 x.fa) := by simp [World.cell?, show w.heap[p]? = _ from h, Bx.cells]
theorem Bx.at.c7 (h : x.at w p) : w.cell? ⟨p, 7, none⟩ = some (.int .i64 x.fk) := by simp [World.cell?, show w.heap[p]? = _ from h, Bx.cells]
theorem Bx.at.c8 (h : x.at w p) : w.cell? ⟨p, 8, none⟩ = some (.slice x.ma x.ml x.mc) := by simp [World.cell?, show w.heap[p]? = _ from h, Bx.cells]
theorem Bx.at.c9 (h : x.at w p) : w.cell? ⟨p, 9, none⟩ = some (.int .u8 x.ff) := by simp [World.cell?, show w.heap[p]? = _ from h, Bx.cells]
theorem Bx.at.c10 (h : x.at w p) : w.cell? ⟨p, 10, none⟩ = some (.bool x.hn) := by simp [World.cell?, show w.heap[p]? = _ from h, Bx.cells]
theorem Bx.at.c11 (h : x.at w p) : w.cell? ⟨p, 11, none⟩ = some (.bool x.dark) := by simp [World.cell?, show w.heap[p]? = _ from h, Bx.cells]
theorem Bx.at.c12 (h : x.at w p) : w.cell? ⟨p, 12, none⟩ = some (.int .i64 x.cnt) := by simp [World.cell?, show w.heap[p]? = _ from h, Bx.cells]
theorem Bx.at.c13 (h : x.at w p) : w.cell? ⟨p, 13, none⟩ = some (.slice x.ta x.tl x.tc) := by simp [World.cell?, show w.heap[p]? = _ from h, Bx.cells]
theorem Bx.at.fz (h : x.at w p) (j : Nat) : w.frozen? ⟨p, j, none⟩ = false := frozen_of_row w p j _ 73 h
theorem Bx.at.lt (h : x.at w p) : p < w.heap.size := lt_of_block h
theorem Bx.at.keep (h : x.at w p) (e : w'.heap[p]? = w.heap[p]?) : x.at w' p := e.trans h
theorem Bx.at.setDark (h : x.at w p) (d : Bool) : ({ x with dark := d } : Bx).at (w.setCell ⟨p, 11, none⟩ (.bool d)) p := heap_setCell_same w p 11 _ 73 (.bool d) h
theorem Bx.at.setCnt (h : x.at w p) (d : Int) : ({ x with cnt := d } : Bx).at (w.setCell ⟨p, 12, none⟩ (.int .i64 d)) p := heap_setCell_same w p 12 _ 73 (.int .i64 d) h
theorem Bx.at.setVt (h : x.at w p) (ta : Option Addr) (tl tc : Nat) : ({ x with ta := ta, tl := tl, tc := tc } : Bx).at (w.setCell ⟨p, 13, none⟩ (.slice ta tl tc)) p := heap_setCell_same w p 13 _ 73 (.slice ta tl tc) h
theorem Bx.at.setNext (h : x.at w p) (a k : Int) (m : Option Addr) (l n : Nat) (f : Int) (d : Bool) : ({ x with fa := a, fk := k, ma := m, ml := l, mc := n, ff := f, hn := d } : Bx).at (((((w.setCell ⟨p, 6, none⟩ (.int .i64 a)).setCell ⟨p, 7, none⟩ (.int .i64 k)).setCell ⟨p, 8, none⟩ (.slice m l n)).setCell ⟨p, 9, none⟩ (.int .u8 f)).setCell ⟨p, 10, none⟩ (.bool d)) p :=
 heap_setCell_same _ p 10 _ 73 _ (heap_setCell_same _ p 9 _ 73 _ (heap_setCell_same _ p 8 _ 73 _ (heap_setCell_same _ p 7 _ 73 _ (heap_setCell_same w p 6 _ 73 _ h))))
theorem only_next (w : World) (p : Nat) (v1 v2 v3 v4 v5 : Value) : Only (· = p) w (((((w.setCell ⟨p, 6, none⟩ v1).setCell ⟨p, 7, none⟩ v2).setCell ⟨p, 8, none⟩ v3).setCell ⟨p, 9, none⟩ v4).setCell ⟨p, 10, none⟩ v5) :=
 ((((Only.setCell (· = p) w p 6 v1 rfl).trans' (Only.setCell _ _ p 7 v2 rfl)).trans' (Only.setCell _ _ p 8 v3 rfl)).trans' (Only.setCell _ _ p 9 v4 rfl)).trans' (Only.setCell _ _ p 10 v5 rfl)
theorem Only.cell {F : Nat → Prop} {a b : World} (h : Only F a b) {g j : Nat} {v : Value} (hc : a.cell? ⟨g, j, none⟩ = some v) (hF : ¬ F g) : b.cell? ⟨g, j, none⟩ = some v := by
 have h1 : g < a.heap.size := block_lt_of_cell hc
 have h2 := h.block g h1 hF
 unfold World.cell? at *
 simp only [h2]
 exact hc
end
end Go.Proofs.YtnmnhgagnfodhaaDoor.Cp
