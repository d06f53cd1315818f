/-
  SEAT Ytjhphkfpcpfdnaa: a chip beside a judge, in memory.
-/
import Derived.Test.YtjhphkfpcpfdnaaPa
import Derived.Test.YtjhphkfpcpfdnaaIa
import Derived.Test.YtjhphkfpcpfdnaaJY
namespace Go.Proofs.Ytjhphkfpcpfdnaa
open Go.RowKit Go.Conc
set_option linter.unusedVariables false

theorem cell_keep {w w' : World} {a : Addr} (h : w'.heap[a.block]? = w.heap[a.block]?) : w'.cell? a = w.cell? a := by unfold World.cell?; rw [h]
section
variable {w u v : World} {p gj bm : Nat} {F : Nat → Prop} {K : List (Nat × Obj)} {C C' : Ch} {st st' : List J.Blk} {b q s : Int}
theorem judge_keep (h : J.JudgeAt u gj b q s bm st) (h1 : v.heap[gj]? = u.heap[gj]?) (h2 : v.heap[bm]? = u.heap[bm]?) : J.JudgeAt v gj b q s bm st := by
  obtain ⟨c0, c1, c2, c3, ⟨D, ⟨es, clock, hb, r⟩, h3⟩, ne⟩ := h
  exact ⟨(cell_keep h1).trans c0, (cell_keep h1).trans c1, (cell_keep h1).trans c2, (cell_keep h1).trans c3, ⟨D, ⟨es, clock, h2.trans hb, r⟩, h3⟩, ne⟩
theorem judge_map (h : J.JudgeAt u gj b q s bm st) : ∃ es clock, u.heap[bm]? = some (.map es clock) := by
  obtain ⟨c0, c1, c2, c3, ⟨D, ⟨es, clock, hb, r⟩, h3⟩, ne⟩ := h
  exact ⟨es, clock, hb⟩
theorem judge_lt (h : J.JudgeAt u gj b q s bm st) : gj < u.heap.size ∧ bm < u.heap.size :=
  ⟨block_lt_of_cell h.c0, h.knows.lt⟩
theorem only_of_grown {g : Nat} (h : u.grownBy v (some g)) : Only (· = g) u v :=
  ⟨h.os, h.tape, h.output, h.size, fun k hk hn => h.block k hk (fun e => hn (Option.some.inj e))⟩
/-- What the law has: a chip, a judge, and boxes and rows of its own. -/
structure JS (w u : World) (p gj bm : Nat) (K : List (Nat × Obj)) (F : Nat → Prop) (C : Ch) (b q s : Int) (st : List J.Blk) : Prop where
  hd : HD w u p F K C
  kc : ∀ x ∈ K, ∃ cs t f, x.2 = .cells cs t f
  j : J.JudgeAt u gj b q s bm st
  fj : ¬ F gj ∧ ¬ F bm
  lo : w.heap.size ≤ gj ∧ w.heap.size ≤ bm
theorem JS.below (h : JS w u p gj bm K F C b q s st) (hb : Below u.heap.size u v) : JS w v p gj bm K F C b q s st :=
  ⟨h.hd.below hb, h.kc, h.j.grown (J.grown_of hb none), h.fj, h.lo⟩
theorem JS.step (h : JS w u p gj bm K F C b q s st) (hc : ChipAt v p (Fx F u v) C') (ho : Only F u v) : JS w v p gj bm K (Fx F u v) C' b q s st := by
  have hl := judge_lt h.j
  exact ⟨h.hd.step hc ho, h.kc, judge_keep h.j (ho.block _ hl.1 h.fj.1) (ho.block _ hl.2 h.fj.2), ⟨fun hf => hf.elim h.fj.1 (fun h9 => by omega), fun hf => hf.elim h.fj.2 (fun h9 => by omega)⟩, h.lo⟩
theorem JS.on (h : JS w u p gj bm K F C b q s st) (hc : ChipAt v p F C') (ho : Only F u v) : JS w v p gj bm K F C' b q s st := by
  have hl := judge_lt h.j
  exact ⟨h.hd.step0 hc ho, h.kc, judge_keep h.j (ho.block _ hl.1 h.fj.1) (ho.block _ hl.2 h.fj.2), h.fj, h.lo⟩
theorem HD.keepO {G : Nat → Prop} (h : HD w u p F K C) (ho : Only G u v) (hF : ∀ k, F k → ¬ G k) (hK : ∀ x ∈ K, ¬ G x.1) (hw : ∀ k, G k → w.heap.size ≤ k) : HD w v p F K C :=
  ⟨h.bel.trans (ho.below hw h.bel.size), h.ch.only ho hF, h.lo, fun x hx => ⟨(ho.block _ (lt_of_block (h.kp x hx).1) (hK x hx)).trans (h.kp x hx).1, (h.kp x hx).2⟩⟩
theorem JS.knob (h : JS w u p gj bm K F C b q s st) : ∀ x ∈ K, x.1 ≠ bm := by
  intro x hx e
  obtain ⟨es, clock, hm⟩ := judge_map h.j
  obtain ⟨cs, t, f, hxc⟩ := h.kc x hx
  have h1 := (h.hd.kp x hx).1
  rw [e, hm, hxc] at h1
  cases h1
theorem JS.see (h : JS w u p gj bm K F C b q s st) (hj : J.JudgeAt v gj b q s bm st') (hg : u.grownBy v (some bm)) : JS w v p gj bm K F C b q s st' :=
  ⟨h.hd.keepO (only_of_grown hg) (fun k hk e => h.fj.2 (e ▸ hk)) (fun x hx => h.knob x hx) (fun k e => by rw [e]; exact h.lo.2), h.kc, hj, h.fj, h.lo⟩
/-- Boxes of the law's own that come and go. -/
theorem JS.hold (h : JS w u p gj bm K F C b q s st) {g : Nat} {cs : Array Value} {t : TypeId} {f : Nat × Nat} (hg : u.heap[g]? = some (.cells cs t f)) (hf : ¬ F g) (hw : w.heap.size ≤ g) : JS w u p gj bm ((g, .cells cs t f) :: K) F C b q s st :=
  ⟨h.hd.hold hg hf hw, fun x hx => by rcases List.mem_cons.1 hx with rfl | hx; exact ⟨cs, t, f, rfl⟩; exact h.kc x hx, h.j, h.fj, h.lo⟩
theorem JS.less {K' : List (Nat × Obj)} (h : JS w u p gj bm K F C b q s st) (hs : ∀ x ∈ K', x ∈ K) : JS w u p gj bm K' F C b q s st := ⟨h.hd.less hs, fun x hx => h.kc x (hs x hx), h.j, h.fj, h.lo⟩
theorem JS.box (h : JS w u p gj bm K F C b q s st) (cs : Array Value) (t : TypeId) : JS w (u.alloc (.cells cs t)) p gj bm ((u.heap.size, .cells cs t (0, 0)) :: K) F C b q s st :=
  (h.below (below_alloc u (.cells cs t))).hold (alloc_new u (.cells cs t)) (fun hf => by have := h.hd.ch.fin _ hf; omega) h.hd.bel.size
end
/-- Acts: a kind, a block, a page. -/
structure Ac where
  k : Int
  b : Int
  p : Int
def Ac.cell (c : Ac) : Nat → Value
  | 0 => .int .i64 c.k
  | 1 => .int .i64 c.b
  | _ => .int .i64 c.p
def Ac.zero : Ac := ⟨0, 0, 0⟩
structure Ac.Ok (c : Ac) : Prop where
  k : J.Wf c.k
  b : J.Wf c.b
  p : J.Wf c.p
def ReadsA (w : World) (a : Option Addr) (len : Nat) (xs : List Ac) : Prop :=
  xs.length = len ∧ (∀ x ∈ xs, x.Ok) ∧ (a = none → len = 0) ∧ ∀ x, a = some x → ∀ i, i < len → ∀ j, j < 3 → w.cell? (x.add (i * 3 + j)) = some ((xs.getD i Ac.zero).cell j)
theorem ReadsA.pos {w : World} {a : Option Addr} {len : Nat} {xs : List Ac} (h : ReadsA w a len xs) {i : Nat} (hi : i < len) :
    ∃ (b off : Nat) (x : Ac), a = some ⟨b, off, none⟩ ∧ x.Ok ∧ w.cell? ⟨b, off + i * 3, none⟩ = some (.int .i64 x.k) ∧ w.cell? ⟨b, off + i * 3 + 1, none⟩ = some (.int .i64 x.b) ∧ w.cell? ⟨b, off + i * 3 + 2, none⟩ = some (.int .i64 x.p) := by
  obtain ⟨hl, hok, hn, hc⟩ := h
  cases a with
  | none => have := hn rfl; omega
  | some y =>
    obtain ⟨b, off, spot⟩ := y
    have h0 := hc _ rfl 0 (by omega) 0 (by omega)
    have hspot : spot = none := by simpa [Addr.add] using World.cell?_spot h0
    subst hspot
    have k0 := hc _ rfl i hi 0 (by omega)
    have k1 := hc _ rfl i hi 1 (by omega)
    have k2 := hc _ rfl i hi 2 (by omega)
    rw [J.plain_add] at k0 k1 k2
    refine ⟨b, off, xs.getD i Ac.zero, rfl, ?_, k0, k1, k2⟩
    rw [List.getD_eq_getElem?_getD, List.getElem?_eq_getElem (by omega)]
    exact hok _ (List.getElem_mem _)
/-- What stands of chip and judge between two acts. -/
structure JFin (C : Ch) (bs : List Bool) (B P S n : Nat) : Prop where
  inv : JInv C (J.jfold P (J.start true P bs) (C.tr.map Cmd.j))
  ok : C.Ok
  tr : C.tr.length ≤ n
  tok : ∀ c ∈ C.tr, c.j.Ok
  B : C.B = B
  P : C.P = P
  S : C.S = S
section
variable {C C' : Ch} {bs : List Bool} {B P S n : Nat} {k b p : Int}
theorem JFin.next (h : JFin C bs B P S n) (hs : JStep C C' (J.jfold P (J.start true P bs) (C.tr.map Cmd.j)) k b p) (hok : C'.Ok) (hg : C'.B = C.B ∧ C'.P = C.P ∧ C'.S = C.S) (wk : J.Wf k) (wb : J.Wf b) (wp : J.Wf p) :
    ∃ e : Int, C'.tr = C.tr ++ [⟨k, b, p, e⟩] ∧ J.Wf e ∧ C'.tr.length ≤ n + 1 ∧ ((k = 3 ∧ (e = 44 ∨ e = 45)) ∨ ((k = 3 → e = 0 ∨ e = 41) ∧ (J.see P (J.jfold P (J.start true P bs) (C.tr.map Cmd.j)) ⟨k, b, p, e⟩).isSome = J.taken e ∧ JFin C' bs B P S (n + 1) ∧ J.refR P (J.jfold P (J.start true P bs) (C.tr.map Cmd.j)) ⟨k, b, p, e⟩ = true)) := by
  obtain ⟨e, ht, he1, he2, hc⟩ := hs.ex
  have hlen : C'.tr.length ≤ n + 1 := by rw [ht, List.length_append]; have := h.tr; simp; omega
  refine ⟨e, ht, ⟨he1, he2⟩, hlen, hc.imp (fun h => h) (fun ⟨h1, h2, h3, h4⟩ => ?_)⟩
  have hP := h.P
  rw [hP] at h2 h3 h4
  refine ⟨h1, h2, ⟨?_, hok, hlen, ?_, hg.1.trans h.B, hg.2.1.trans hP, hg.2.2.trans h.S⟩, h4⟩
  · rw [ht, List.map_append, List.map_cons, List.map_nil, J.jfold_snoc]
    exact h3
  · intro c hc
    rw [ht] at hc
    rcases List.mem_append.1 hc with h9 | h9
    · exact h.tok c h9
    · simp at h9; subst h9; exact ⟨wk, wb, wp, ⟨he1, he2⟩⟩
theorem JFin.same (h : JFin C bs B P S n) (h1 : C'.bl = C.bl) (h2 : C'.q = C.q) (h3 : C'.tr = C.tr) (h4 : C'.B = C.B ∧ C'.P = C.P ∧ C'.S = C.S) (hok : C'.Ok) : JFin C' bs B P S (n + 1) := by
  refine ⟨?_, hok, by rw [h3]; have := h.tr; omega, by rw [h3]; exact h.tok, h4.1.trans h.B, h4.2.1.trans h.P, h4.2.2.trans h.S⟩
  rw [h3]
  have hi := h.inv
  exact ⟨by rw [h2]; exact hi.q, by rw [h4.1]; exact hi.len, by rw [h1, h4.2.1]; exact hi.blk⟩
theorem prog_geo (C : Ch) (pb pp : Int) (n1 n2 : Nat) (want : List Int) : (ProgramC C pb pp n1 n2 want).2.B = C.B ∧ (ProgramC C pb pp n1 n2 want).2.P = C.P ∧ (ProgramC C pb pp n1 n2 want).2.S = C.S := by
  unfold ProgramC
  split
  · exact ⟨rfl, rfl, rfl⟩
  split
  · exact ⟨rfl, rfl, rfl⟩
  unfold progC
  split
  · exact ⟨rfl, rfl, rfl⟩
  split
  · exact ⟨rfl, rfl, rfl⟩
  split
  · exact ⟨rfl, rfl, rfl⟩
  split <;> exact ⟨rfl, rfl, rfl⟩
theorem erase_geo (C : Ch) (pb : Int) : (EraseC C pb).2.B = C.B ∧ (EraseC C pb).2.P = C.P ∧ (EraseC C pb).2.S = C.S := by
  unfold EraseC
  split
  · exact ⟨rfl, rfl, rfl⟩
  unfold eraseC
  split
  · exact ⟨rfl, rfl, rfl⟩
  split
  · exact ⟨rfl, rfl, rfl⟩
  split <;> exact ⟨rfl, rfl, rfl⟩
theorem mark_geo (C : Ch) (pb : Int) : (MarkC C pb).2.B = C.B ∧ (MarkC C pb).2.P = C.P ∧ (MarkC C pb).2.S = C.S := by
  unfold MarkC
  split
  · exact ⟨rfl, rfl, rfl⟩
  unfold markC
  split
  · exact ⟨rfl, rfl, rfl⟩
  split <;> exact ⟨rfl, rfl, rfl⟩
end
/-- What one act leaves: a chip whose trace is the same, or one command longer. -/
inductive JAct (C C' : Ch) (bs : List Bool) (B P S n : Nat) (k b : Int) : Prop
  | same : C'.tr = C.tr → (C.dark = false → ¬ (1 ≤ k ∧ k ≤ 3)) → JFin C' bs B P S (n + 1) → JAct C C' bs B P S n k b
  | ended (e p : Int) : C'.tr = C.tr ++ [⟨k, b, p, e⟩] → k = 3 → (e = 44 ∨ e = 45) → C'.tr.length ≤ n + 1 → JAct C C' bs B P S n k b
  | new (e p : Int) : C'.tr = C.tr ++ [⟨k, b, p, e⟩] → J.Cmd.Ok ⟨k, b, p, e⟩ → (k = 3 → e = 0 ∨ e = 41) → (J.see P (J.jfold P (J.start true P bs) (C.tr.map Cmd.j)) ⟨k, b, p, e⟩).isSome = J.taken e → JFin C' bs B P S (n + 1) → J.refR P (J.jfold P (J.start true P bs) (C.tr.map Cmd.j)) ⟨k, b, p, e⟩ = true → JAct C C' bs B P S n k b
section
variable {C C' : Ch} {bs : List Bool} {B P S n : Nat} {k b p : Int}
theorem JAct.of (h : JFin C bs B P S n) (hs : JStep C C' (J.jfold P (J.start true P bs) (C.tr.map Cmd.j)) k b p) (hok : C'.Ok) (hg : C'.B = C.B ∧ C'.P = C.P ∧ C'.S = C.S) (wk : J.Wf k) (wb : J.Wf b) (wp : J.Wf p) : JAct C C' bs B P S n k b := by
  obtain ⟨e, ht, we, hlen, ⟨h1, h2⟩ | ⟨h1, h2, h3, h4⟩⟩ := h.next hs hok hg wk wb wp
  · exact .ended e p ht h1 h2 hlen
  · exact .new e p ht ⟨wk, wb, wp, we⟩ h1 h2 h3 h4
theorem wf0 : J.Wf 0 := by unfold J.Wf; omega
theorem act_prog (h : JFin C bs B P S n) (pb pp : Int) (want : List Int) (wb : J.Wf pb) (wp : J.Wf pp) (hS : S = C.S) : JAct C (ProgramC C pb pp (256 * S) (54 + 3 * S) want).2 bs B P S n 1 pb := by
  subst hS
  have hok := ProgramC_ok C h.ok pb pp (256 * C.S) (54 + 3 * C.S) want
  cases hd : C.dark with
  | true =>
    have e : (ProgramC C pb pp (256 * C.S) (54 + 3 * C.S) want).2 = C := by unfold ProgramC; rw [if_pos hd]
    rw [e] at hok ⊢
    exact .same rfl (fun h9 => by rw [hd] at h9; cases h9) (h.same rfl rfl rfl ⟨rfl, rfl, rfl⟩ hok)
  | false => exact JAct.of h (jprog h.inv h.ok hd pb pp want |> fun q => by have hP := h.P; exact q) hok (prog_geo C pb pp _ _ want) (by unfold J.Wf; omega) wb wp
theorem act_erase (h : JFin C bs B P S n) (pb : Int) (wb : J.Wf pb) : JAct C (EraseC C pb).2 bs B P S n 2 pb := by
  have hok := EraseC_ok C h.ok pb
  cases hd : C.dark with
  | true =>
    have e : (EraseC C pb).2 = C := by unfold EraseC; rw [if_pos hd]
    rw [e] at hok ⊢
    exact .same rfl (fun h9 => by rw [hd] at h9; cases h9) (h.same rfl rfl rfl ⟨rfl, rfl, rfl⟩ hok)
  | false => exact JAct.of h (jerase h.inv h.ok hd pb) hok (erase_geo C pb) (by unfold J.Wf; omega) wb wf0
theorem act_mark (h : JFin C bs B P S n) (pb : Int) (wb : J.Wf pb) : JAct C (MarkC C pb).2 bs B P S n 3 pb := by
  have hok := MarkC_ok C h.ok pb
  cases hd : C.dark with
  | true =>
    have e : (MarkC C pb).2 = C := by unfold MarkC; rw [if_pos hd]
    rw [e] at hok ⊢
    exact .same rfl (fun h9 => by rw [hd] at h9; cases h9) (h.same rfl rfl rfl ⟨rfl, rfl, rfl⟩ hok)
  | false => exact JAct.of h (jmark h.inv h.ok hd pb) hok (mark_geo C pb) (by unfold J.Wf; omega) wb wf0
theorem act_on (h : JFin C bs B P S n) (bb : Int) : JAct C { C with dark := false } bs B P S n 0 bb :=
  .same rfl (fun _ h9 => by omega) (h.same rfl rfl rfl ⟨rfl, rfl, rfl⟩ (On_ok _ h.ok))
theorem act_none (h : JFin C bs B P S n) (k bb : Int) (hk : ¬ (1 ≤ k ∧ k ≤ 3)) : JAct C C bs B P S n k bb :=
  .same rfl (fun _ => hk) (h.same rfl rfl rfl ⟨rfl, rfl, rfl⟩ h.ok)
end
theorem jfin_new (B P S : Nat) (bad : List Int) (q : List Ft) (hq : ∀ f ∈ q, f.k = 1 ∨ f.k = 2) (hf : Fits B P S = true) : JFin (newC B P S bad q) ((newC B P S bad q).bl.map (fun b => b.m)) B P S 0 :=
  ⟨jnew B P S bad q hq, newC_ok B P S bad q hf, Nat.le_refl _, (fun c hc => by cases hc), rfl, rfl, rfl⟩
theorem trace_reads {u : World} {B g c : Nat} {tr : List Cmd} {m : Nat} (h : u.ownsRow B 54 4 (.slice (some ⟨g, 0, none⟩) tr.length c) tr.length (tr.flatMap Cmd.cells)) (hok : ∀ x ∈ tr, x.j.Ok) (hm : m ≤ tr.length) : J.ReadsC u (some ⟨g, 0, none⟩) m ((tr.map Cmd.j).take m) := by
  refine J.own_readsC (n := tr.length) (c := c) (B := B) ?_ (fun x hx => ?_) hm
  · have e : J.flat (tr.map Cmd.j) = tr.flatMap Cmd.cells := by
      unfold J.flat
      rw [List.flatMap_map]
      rfl
    rw [e]
    exact h
  · obtain ⟨y, hy, rfl⟩ := List.mem_map.1 hx
    exact hok y hy
theorem marks_reads {u : World} {gm : Nat} {bs : List Bool} {f : Nat × Nat} (h : u.heap[gm]? = some (.cells (bs.map Value.bool).toArray 4 f)) : J.ReadsB u (some ⟨gm, 0, none⟩) bs.length bs := by
  refine ⟨rfl, (fun h => by cases h), fun x hx i hi => ?_⟩
  cases hx
  rw [J.plain_add, Nat.zero_add]
  simp only [World.cell?, h, List.getElem?_toArray, List.getElem?_map, List.getElem?_eq_getElem hi, List.getD_eq_getElem?_getD]
  rfl
end Go.Proofs.Ytjhphkfpcpfdnaa
