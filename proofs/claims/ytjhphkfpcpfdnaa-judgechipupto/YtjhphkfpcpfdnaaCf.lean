/-
  SEAT Ytjhphkfpcpfdnaa: blocks and pages are written.
-/
import Derived.Test.YtjhphkfpcpfdnaaCe
import Derived.Test.YtjhphkfpcpfdnaaCb
import Derived.Lib.LazyBuf
namespace Go.Proofs.Ytjhphkfpcpfdnaa
open Go.RowKit Go.Conc
set_option linter.unusedVariables false

/-- Other blocks, or others in them: the rest stays. -/
theorem CAt.blocks {w w' : World} {p : Nat} {F G T : Nat → Prop} {C : Ch} {x : Bx} {bs bs' : List Bc} {fe : List Fe} (h : CAt w p F C x bs fe) (hT : KeepT F T w w') (h5 : ¬ T 5) (h102 : ¬ T 71) (hm : ¬ T 1001) (hc : ¬ T 1002) (h3 : ¬ T 3) (h120 : ¬ T 54) (hF : ∀ k, F k → G k) (hG : ∀ k, G k → k < w'.heap.size)
    (hrow : w'.heap[x.gb]? = some (.cells (bs'.flatMap Bc.cells).toArray 74 (0, 0))) (hlen : bs'.length = bs.length) (hbok : ∀ b ∈ bs', BcOk w' G (pgB C.S) C.P b) (hgs : bs'.map Bc.g = bs.map Bc.g) : CAt w' p G { C with bl := bs'.map Bc.v } x bs' fe := by
  refine ⟨hT _ _ 71 h.fp h.box rfl h102, hF _ h.fp, h.B, h.P, h.S, h.nb.trans hlen.symm, h.dark, h.cnt, hrow, hF _ h.fb, rfl, hbok, ?_, h.fl.keep hT hm h3 hF, h.fs, h.q.keep hT h5 hc hF ⟨rfl, rfl, rfl, rfl, rfl, rfl, rfl⟩ rfl, h.tr.keep hT h120 hF ⟨rfl, rfl, rfl⟩, hG⟩
  have h1 : (bs.map Bc.g).Pairwise (· ≠ ·) := List.pairwise_map.2 h.gs
  rw [← hgs] at h1
  exact List.pairwise_map.1 h1

theorem map_set_v (bs : List Bc) (i : Nat) (b : Bc) : (bs.set i b).map Bc.v = (bs.map Bc.v).set i b.v := List.map_set
theorem map_set_g {bs : List Bc} {i : Nat} {b c : Bc} (hi : bs[i]? = some b) (hg : c.g = b.g) : (bs.set i c).map Bc.g = bs.map Bc.g := by
  rw [List.map_set, hg]
  have h1 : (bs.map Bc.g)[i]? = some b.g := by rw [List.getElem?_map, hi]; rfl
  obtain ⟨hlt, h2⟩ := List.getElem?_eq_some_iff.1 h1
  rw [← h2]
  exact List.set_getElem_self hlt

/-- A cell of a block's record is written. -/
theorem CAt.setB {w : World} {p : Nat} {F : Nat → Prop} {C : Ch} {x : Bx} {bs : List Bc} {fe : List Fe} (h : CAt w p F C x bs fe) {i : Nat} {b : Bc} (hi : bs[i]? = some b) (j : Nat) (hj : j < 4) (v : Value) (b' : Bc) (hg : b'.g = b.g) (hps : b'.ps = b.ps) (hset : b.cells.set j v = b'.cells) :
    CAt (w.setCell ⟨x.gb, i * 4 + j, none⟩ v) p F { C with bl := C.bl.set i b'.v } x (bs.set i b') fe := by
  have hrow := heap_setCell_same w x.gb (i * 4 + j) _ 74 v h.row
  have e1 : (bs.flatMap Bc.cells).toArray.setIfInBounds (i * 4 + j) v = ((bs.set i b').flatMap Bc.cells).toArray := by
    rw [← flat_set Bc.cells 4 Bc.cells_len j hj v b' bs i b hi hset]
    simp
  rw [e1] at hrow
  have hO := Only.setCell (· = x.gb) w x.gb (i * 4 + j) v rfl
  have hT : KeepT F (· = 74) w (w.setCell ⟨x.gb, i * 4 + j, none⟩ v) := hO.keepT (fun k o t hk ho ht => by
    rw [hk, h.row] at ho
    cases ho
    exact ht.symm)
  have hbm : b ∈ bs := List.mem_of_getElem? hi
  have := h.blocks hT (by decide) (by decide) (by decide) (by decide) (by decide) (by decide) (fun _ h => h) (fun k hk => Nat.lt_of_lt_of_le (h.fin k hk) hO.size) hrow (by simp) (fun c hc => ?_) (map_set_g hi hg)
  · rw [map_set_v, h.bl] at this
    exact this
  · have hkeep : ∀ c ∈ bs, BcOk (w.setCell ⟨x.gb, i * 4 + j, none⟩ v) F (pgB C.S) C.P c := fun c hc => (h.bok c hc).keep hT (by decide) (fun _ h => h) ((hT _ _ 117 (h.bok c hc).fg (h.bok c hc).row rfl (by decide)).trans (h.bok c hc).row.symm)
    rcases List.mem_or_eq_of_mem_set hc with h1 | h1
    · exact hkeep c h1
    · have hb := hkeep b hbm
      rw [h1]
      exact ⟨by rw [hg, hps]; exact hb.row, by rw [hg]; exact hb.fg, by rw [hps]; exact hb.np, by rw [hps]; exact hb.pg⟩

/-- A page's record is written, in a world where its new bits lie. -/
theorem CAt.setP {w w0 : World} {p : Nat} {F G : Nat → Prop} {C : Ch} {x : Bx} {bs : List Bc} {fe : List Fe} (h : CAt w p F C x bs fe) {i k : Nat} {b : Bc} {q q' : Pc} (hi : bs[i]? = some b) (hk : b.ps[k]? = some q) (hF : ∀ k, F k → G k) (hG : ∀ k, G k → k < w.heap.size) (hq' : PcOk w G (pgB C.S) q') :
    CAt ((w.setCell ⟨b.g, k * 2, none⟩ (.slice q'.a q'.n q'.c)).setCell ⟨b.g, k * 2 + 1, none⟩ (.bool q'.h)) p G { C with bl := C.bl.set i { b.v with ps := b.v.ps.set k q'.v } } x (bs.set i { b with ps := b.ps.set k q' }) fe ∧ Only (· = b.g) w ((w.setCell ⟨b.g, k * 2, none⟩ (.slice q'.a q'.n q'.c)).setCell ⟨b.g, k * 2 + 1, none⟩ (.bool q'.h)) := by
  have hbm : b ∈ bs := List.mem_of_getElem? hi
  have hb := h.bok b hbm
  have r1 := heap_setCell_same w b.g (k * 2) _ 117 (.slice q'.a q'.n q'.c) hb.row
  have r2 := heap_setCell_same _ b.g (k * 2 + 1) _ 117 (.bool q'.h) r1
  have e1 : ((b.ps.flatMap Pc.cells).toArray.setIfInBounds (k * 2) (.slice q'.a q'.n q'.c)).setIfInBounds (k * 2 + 1) (.bool q'.h) = ((b.ps.set k q').flatMap Pc.cells).toArray := by
    have s1 := flat_set Pc.cells 2 Pc.cells_len 0 (by omega) (.slice q'.a q'.n q'.c) { q with a := q'.a, n := q'.n, c := q'.c } b.ps k q hk rfl
    have hk1 : (b.ps.set k { q with a := q'.a, n := q'.n, c := q'.c })[k]? = some { q with a := q'.a, n := q'.n, c := q'.c } := by
      rw [List.getElem?_set_self (List.getElem?_eq_some_iff.1 hk).1]
    have s2 := flat_set Pc.cells 2 Pc.cells_len 1 (by omega) (.bool q'.h) q' (b.ps.set k { q with a := q'.a, n := q'.n, c := q'.c }) k _ hk1 rfl
    rw [List.set_set] at s2
    rw [← s2, ← s1]
    simp
  rw [e1] at r2
  have hO : Only (· = b.g) w ((w.setCell ⟨b.g, k * 2, none⟩ (.slice q'.a q'.n q'.c)).setCell ⟨b.g, k * 2 + 1, none⟩ (.bool q'.h)) := (Only.setCell (· = b.g) w b.g (k * 2) _ rfl).trans' (Only.setCell _ _ b.g (k * 2 + 1) _ rfl)
  refine ⟨?_, hO⟩
  generalize hv : (w.setCell ⟨b.g, k * 2, none⟩ (.slice q'.a q'.n q'.c)).setCell ⟨b.g, k * 2 + 1, none⟩ (.bool q'.h) = w' at r2 hO ⊢
  have hTF : ∀ H : Nat → Prop, KeepT H (· = 117) w w' := fun H => hO.keepT (fun k o t hk ho ht => by
    rw [hk, hb.row] at ho
    cases ho
    exact ht.symm)
  have hT := hTF F
  have hcel : ({ b with ps := b.ps.set k q' } : Bc).cells = b.cells := by simp [Bc.cells]
  have hrow : w'.heap[x.gb]? = some (.cells ((bs.set i { b with ps := b.ps.set k q' }).flatMap Bc.cells).toArray 74 (0, 0)) := by
    have h0 := hT _ _ 74 h.fb h.row rfl (by decide)
    rw [h0]
    have e2 := flat_set Bc.cells 4 Bc.cells_len 0 (by omega) (.bool b.m) { b with ps := b.ps.set k q' } bs i b hi (by rw [hcel]; rfl)
    rw [← e2]
    have e3 := flat_get Bc.cells 4 Bc.cells_len 0 (by omega) bs i b hi
    obtain ⟨hlt, e4⟩ := List.getElem?_eq_some_iff.1 e3
    have e5 : (bs.flatMap Bc.cells).set (i * 4 + 0) (.bool b.m) = bs.flatMap Bc.cells := by
      have e6 : (bs.flatMap Bc.cells)[i * 4 + 0] = Value.bool b.m := e4
      rw [← e6]
      exact List.set_getElem_self hlt
    rw [e5]
  have := h.blocks (bs' := bs.set i { b with ps := b.ps.set k q' }) hT (by decide) (by decide) (by decide) (by decide) (by decide) (by decide) hF (fun k hk => Nat.lt_of_lt_of_le (hG k hk) hO.size) hrow (by simp) (fun c hc => ?_) (map_set_g hi rfl)
  · rw [map_set_v, h.bl] at this
    have e7 : ({ b with ps := b.ps.set k q' } : Bc).v = { b.v with ps := b.v.ps.set k q'.v } := by simp [Bc.v, List.map_set]
    rw [e7] at this
    exact this
  · obtain ⟨j, hj⟩ := List.mem_iff_getElem?.1 hc
    by_cases hji : j = i
    · subst hji
      rw [List.getElem?_set_self (List.getElem?_eq_some_iff.1 hi).1] at hj
      cases hj
      refine ⟨r2, hF _ hb.fg, by simp [hb.np], fun z hz => ?_⟩
      rcases List.mem_or_eq_of_mem_set hz with h1 | h1
      · exact (hb.pg z h1).keep hT (by decide) hF
      · rw [h1]; exact hq'.keep (hTF G) (by decide) (fun _ h => h)
    · rw [List.getElem?_set_ne (fun e => hji e.symm)] at hj
      have hcm : c ∈ bs := List.mem_of_getElem? hj
      have hne : c.g ≠ b.g := by
        have hp1 : (bs.map Bc.g).Pairwise (· ≠ ·) := List.pairwise_map.2 h.gs
        have g1 : (bs.map Bc.g)[j]? = some c.g := by rw [List.getElem?_map, hj]; rfl
        have g2 : (bs.map Bc.g)[i]? = some b.g := by rw [List.getElem?_map, hi]; rfl
        intro e
        obtain ⟨l1, m1⟩ := List.getElem?_eq_some_iff.1 g1
        obtain ⟨l2, m2⟩ := List.getElem?_eq_some_iff.1 g2
        rcases Nat.lt_or_gt_of_ne hji with hl | hl
        · exact (List.pairwise_iff_getElem.1 hp1 j i l1 l2 hl) (by rw [m1, m2, e])
        · exact (List.pairwise_iff_getElem.1 hp1 i j l2 l1 hl) (by rw [m1, m2, e])
      exact (h.bok c hcm).keep hT (by decide) hF (hO.block c.g (h.fin _ (h.bok c hcm).fg) hne)

/-- A page's bits, as they are asked for. -/
theorem bits_r (w : World) (p : Nat) (F : Nat → Prop) (C : Ch) (x : Bx) (bs : List Bc) (fe : List Fe) (h : CAt w p F C x bs fe) (i k : Nat) (b : Bc) (q : Pc) (hi : bs[i]? = some b) (hk : b.ps[k]? = some q) (hs : 1 ≤ C.S ∧ C.S ≤ 8) :
    Calls Try.prog 53 #[.pointer (some ⟨p, 0, none⟩), .agg #[.int .i64 (i : Int), .int .i64 (k : Int)]] w fun e w' => ∃ a c, e = .returned (.slice a (pgB C.S) c) ∧ Reads w' a (pgB C.S) q.bits ∧ pgB C.S ≤ c ∧ Below w.heap.size w w' := by
  have hq := (h.bok b (List.mem_of_getElem? hi)).pg q (List.mem_of_getElem? hk)
  rcases hq.sl with ⟨h1, h2, h3, h4⟩ | ⟨g, h1, h2, h3, h4, h5, h6⟩
  · refine (bits_none w p F C x bs fe h i k b q hi hk h1 hs).mono ?_
    rintro e w' ⟨g, c, rfl, o, hb⟩
    have hr := o.reads (fun x hx => by have := (List.mem_replicate.1 hx).2; omega) (pgB C.S) (Nat.le_refl _)
    rw [List.take_of_length_le (by simp), ← h4] at hr
    have hpos : 0 < pgB C.S := by unfold pgB; omega
    obtain ⟨g', c', e1, e2, _⟩ := own_shape o hpos
    cases e1
    exact ⟨_, c, rfl, hr, e2, hb⟩
  · refine (bits_some w p F C x bs fe h i k b q hi hk _ h1).mono ?_
    rintro e w' ⟨rfl, hb⟩
    rw [h3]
    exact ⟨_, _, rfl, h5.below hb, h4, hb⟩

set_option maxRecDepth 100000 in
theorem clone_any (a : Option Addr) (n c : Nat) (zs : List Int) (w : World) (rd : Reads w a n zs) (hl : n ≤ 140737488351232) :
    Calls Try.prog 54 #[.slice a n c] w fun e w' => ∃ v, e = .returned v ∧ w'.ownsRow w.heap.size 5 1 v n (zs.map (Value.int .u8)) ∧ Below w.heap.size w w' := by
  cases a with
  | none =>
    have h0 := rd.2.2.1 rfl
    subst h0
    have hx : zs = [] := List.eq_nil_of_length_eq_zero rd.1
    subst hx
    clear rd
    have hnil := fun w : World => _root_.Go.run_eql_slice_nil (P := Try.prog) w 32 5 none 0 c Try.underlying32
    go_enter Try.func54, Try.ntmps54
    go_wp2
    go_ret
    exact ⟨_, rfl, World.ownsRow_nil _ _ _ _, Below.refl _ _⟩
  | some x =>
    have HB := hide (made0 w)
    have hnil := fun w : World => _root_.Go.run_eql_slice_nil (P := Try.prog) w 32 5 (some x) n c Try.underlying32
    have HRD := hide (rd.below (below_alloc w (.cells #[] 5)))
    go_enter Try.func54, Try.ntmps54
    go_wp2_with (at_builtin; refine wpList_append_reads rfl (.tmp 5) (.tmp 6) rfl w.heap.size _ 0 [] rfl HB.out (some x) n c zs rfl HRD.out (by omega) (by simp) ?_; intro v2 w2 own2 grow2; have HO := hide own2; have HG := hide grow2; clear own2 grow2)
    go_ret
    refine ⟨_, rfl, by simpa using HO.out, ?_⟩
    exact (below_alloc w _).grown HG.out (by simp) (fun k hk => (World.ownsRow.lt HB.out k hk).1)
end Go.Proofs.Ytjhphkfpcpfdnaa
