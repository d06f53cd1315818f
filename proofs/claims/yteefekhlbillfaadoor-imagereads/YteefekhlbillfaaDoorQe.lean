/-
  SEAT YteefekhlbillfaaDoor: the reference's Read: what stands through the rounds of its pieces.
-/
import Derived.Test.YteefekhlbillfaaDoorQd
import Derived.Test.YteefekhlbillfaaDoorJ
namespace Go.Proofs.YteefekhlbillfaaDoor
open Go.RowKit
set_option linter.unusedVariables false

theorem wr_last (t : List Int) : wrN t < t.length ↔ (0 < t.length ∧ t.getD (t.length - 1) 0 = 255) := by
  rcases List.eq_nil_or_concat t with rfl | ⟨r, x, rfl⟩
  · simp [wrN]
  · rw [List.concat_eq_append]
    have hg : (r ++ [x]).getD ((r ++ [x]).length - 1) 0 = x := by
      rw [List.getD_eq_getElem?_getD]
      simp
    rw [hg]
    by_cases hx : x = 255
    · subst hx
      have h := wrN_app r 1
      rw [show List.replicate 1 (255 : Int) = [255] from rfl] at h
      rw [h]
      have := wrN_le r
      simp
      omega
    · have h := wrN_char (r ++ [x]) (r ++ [x]).length (Nat.le_refl _) (fun i h1 h2 => by omega) (Or.inr (by rw [hg]; exact hx))
      rw [h]
      simp [hx]

/-- What the told count of bytes is. -/
def toldN (bs : List Int) (at_ : Nat) : Nat := (bs.getD (at_ + 1) 0 + 256 * bs.getD (at_ + 2) 0).toNat

theorem drop3 {bs : List Int} {at_ : Nat} (h : at_ + 3 ≤ bs.length) : bs.drop at_ = bs.getD at_ 0 :: bs.getD (at_ + 1) 0 :: bs.getD (at_ + 2) 0 :: bs.drop (at_ + 3) := by
  rw [List.drop_eq_getElem_cons (by omega), List.drop_eq_getElem_cons (by omega), List.drop_eq_getElem_cons (by omega)]
  simp only [List.getD_eq_getElem?_getD]
  rw [List.getElem?_eq_getElem (by omega), List.getElem?_eq_getElem (by omega), List.getElem?_eq_getElem (by omega)]
  rfl

/-- How the piece at a place is told of. -/
theorem rd_link (C S left at_ : Nat) (bs : List Int) : rdPiece C S left (bs.drop at_) = match rdAt C S left at_ bs with
    | .error e => .error e
    | .ok (k, m, pg, nx) => if k = 1 ∧ wrN ((bs.drop (at_ + 3)).take (toldN bs at_)) < toldN bs at_ then .error 47 else .ok (⟨k, m, pg⟩, bs.drop nx) := by
  unfold rdAt
  by_cases h1 : bs.length ≤ at_
  · rw [if_pos h1, List.drop_eq_nil_of_le h1]
    rfl
  · rw [if_neg h1]
    have e0 : bs.drop at_ = bs.getD at_ 0 :: bs.drop (at_ + 1) := by
      rw [List.drop_eq_getElem_cons (by omega), List.getD_eq_getElem?_getD, List.getElem?_eq_getElem (by omega)]
      rfl
    by_cases h2 : 2 < bs.getD at_ 0
    · rw [if_pos h2, e0]
      simp only [rdPiece]
      rw [if_pos h2]
    · rw [if_neg h2]
      by_cases h3 : bs.length < at_ + 3
      · rw [if_pos h3, e0]
        simp only [rdPiece]
        rw [if_neg h2]
        have h4 : (bs.drop (at_ + 1)).length < 2 := by rw [List.length_drop]; omega
        match bs.drop (at_ + 1), h4 with
        | [], _ => rfl
        | [x], _ => rfl
      · rw [if_neg h3, drop3 (by omega)]
        simp only [rdPiece]
        rw [if_neg h2]
        unfold toldN
        have hl : (bs.drop (at_ + 3)).length = bs.length - (at_ + 3) := List.length_drop
        generalize (bs.getD (at_ + 1) 0 + 256 * bs.getD (at_ + 2) 0).toNat = m
        by_cases h4 : bs.getD at_ 0 = 1
        · rw [if_pos h4, if_neg (show ¬ (bs.getD at_ 0 ≠ 1) from fun h => h h4)]
          by_cases h5 : C < m
          · rw [if_pos h5, if_pos h5]
          · rw [if_neg h5, if_neg h5]
            by_cases h6 : bs.length < at_ + 3 + m + S
            · rw [if_pos (by omega), if_pos h6]
            · rw [if_neg (by omega), if_neg h6]
              simp only [true_and, List.drop_drop]
              by_cases h7 : wrN ((bs.drop (at_ + 3)).take m) < m
              · rw [if_pos h7, if_pos h7]
              · rw [if_neg h7, if_neg h7, Nat.add_assoc (at_ + 3) m S]
        · rw [if_neg h4, if_pos (show bs.getD at_ 0 ≠ 1 from h4)]
          by_cases h5 : m = 0 ∨ left < m
          · rw [if_pos h5, if_pos h5]
          · rw [if_neg h5, if_neg h5]
            simp only
            by_cases h6 : (bs.getD at_ 0).toNat = 1
            · exfalso; omega
            · rw [if_neg (by simp only [not_and]; intro h; exact absurd h h6)]

theorem rdAt_facts {C S left at_ : Nat} {bs : List Int} {k m nx : Nat} {pg : List Int} (hb : Byt bs) (h : rdAt C S left at_ bs = .ok (k, m, pg, nx)) :
    at_ + 3 ≤ bs.length ∧ bs.getD at_ 0 = (k : Int) ∧ nx ≤ bs.length ∧ (k = 0 ∧ pg = [] ∧ 1 ≤ m ∧ m ≤ left ∧ m ≤ 65535 ∨ k = 2 ∧ pg = [] ∧ 1 ≤ m ∧ m ≤ left ∧ m ≤ 65535 ∨ k = 1 ∧ m = 1 ∧ toldN bs at_ ≤ C ∧ pg.length = C + S ∧ pg.take (toldN bs at_) = (bs.drop (at_ + 3)).take (toldN bs at_) ∧ ((bs.drop (at_ + 3)).take (toldN bs at_)).length = toldN bs at_ ∧ Byt pg) := by
  have g0 := byt_getD hb at_
  have g1 := byt_getD hb (at_ + 1)
  have g2 := byt_getD hb (at_ + 2)
  unfold rdAt at h
  split at h
  · cases h
  split at h
  · cases h
  split at h
  · cases h
  split at h
  · split at h
    · cases h
    · simp only [Except.ok.injEq, Prod.mk.injEq] at h
      obtain ⟨rfl, rfl, rfl, rfl⟩ := h
      refine ⟨by omega, by omega, by omega, ?_⟩
      rcases (show bs.getD at_ 0 = 0 ∨ bs.getD at_ 0 = 2 by omega) with h9 | h9
      · exact Or.inl ⟨by omega, rfl, by omega, by omega, by omega⟩
      · exact Or.inr (Or.inl ⟨by omega, rfl, by omega, by omega, by omega⟩)
  · split at h
    · cases h
    · split at h
      · cases h
      · simp only [Except.ok.injEq, Prod.mk.injEq] at h
        obtain ⟨rfl, rfl, rfl, rfl⟩ := h
        unfold toldN
        refine ⟨by omega, by omega, by omega, Or.inr (Or.inr ⟨rfl, rfl, by omega, ?_, ?_, ?_, ?_⟩)⟩
        · simp only [List.length_append, List.length_take, List.length_drop, List.length_replicate]; omega
        · rw [List.append_assoc, List.take_left' (by rw [List.length_take, List.length_drop]; omega)]
        · rw [List.length_take, List.length_drop]; omega
        · intro x hx
          rcases List.mem_append.1 hx with h8 | h8
          · rcases List.mem_append.1 h8 with h7 | h7
            · exact hb x (List.mem_of_mem_drop (List.mem_of_mem_take h7))
            · rw [List.eq_of_mem_replicate h7]; omega
          · exact hb x (List.mem_of_mem_drop (List.mem_of_mem_take h8))

/-- The kind of the run ahead, if it could have gone on. -/
def runI (a : Pc) : Int := if a.k ≠ 1 ∧ 0 < a.n ∧ a.n < 65535 then (a.k : Int) else -1

structure PcOk (a : Pc) (L : Nat) : Prop where
  kind : a.k ≤ 2
  cnt : a.n ≤ 65535
  blk : blankB a.g = decide (a.k = 0)
  len : a.g = [] ∨ a.g.length = L
  byt : Byt a.g

theorem add_block (q : Addr) (i : Nat) : (q.add i).block = q.block := by
  unfold Addr.add
  split <;> rfl

theorem Reads.far {W W' : World} {ad : Option Addr} {n : Nat} {zs : List Int} {r : Option Nat} (h : Reads W ad n zs) (hg : W.grownBy W' r) (hf : ∀ q, ad = some q → r ≠ some q.block ∧ q.block < W.heap.size) : Reads W' ad n zs :=
  ⟨h.1, h.2.1, h.2.2.1, fun q hq i hi => by
    rw [hg.cell_far (q.add i) (by rw [add_block]; exact (hf q hq).2) (by rw [add_block]; exact fun e => (hf q hq).1 e.symm)]
    exact h.2.2.2 q hq i hi⟩

/-- The row of the cells so far, and the page ahead, which lies apart from it. -/
structure PsAt (w W : World) (M : Array Value) (v : Value) (X : List Int) (ad : Option Addr) (G : List Int) : Prop where
  row : W.ownsRow (w.heap.size + 1) 5 1 v X.length (X.map (Value.int .u8))
  lst : Reads W ad G.length G
  far : ∀ q, ad = some q → v.ownBlock ≠ some q.block ∧ q.block < W.heap.size
  box : W.heap[w.heap.size]? = some (.cells M 27 (0, 0))
  bel : Below w.heap.size w W

theorem PsAt.below {w W Y : World} {M : Array Value} {v : Value} {X : List Int} {ad : Option Addr} {G : List Int} (h : PsAt w W M v X ad G) (hb : Below W.heap.size W Y) : PsAt w Y M v X ad G :=
  ⟨row_below h.row hb, h.lst.below hb, fun q hq => ⟨(h.far q hq).1, Nat.lt_of_lt_of_le (h.far q hq).2 hb.size⟩, (hb.block _ (lt_of_bk h.box)).trans h.box, below_trans h.bel hb⟩

theorem PsAt.app {w W Y : World} {M : Array Value} {v v1 : Value} {X Z : List Int} {ad : Option Addr} {G : List Int} (h : PsAt w W M v X ad G) (k : Nat) (hk : Z.length = k) (own : Y.ownsRow (w.heap.size + 1) 5 1 v1 (X.length + k) ((X ++ Z).map (Value.int .u8))) (hg : W.grownBy Y v.ownBlock) (hat : v1.ownBlock = v.ownBlock ∨ v1.ownBlock = some W.heap.size) : PsAt w Y M v1 (X ++ Z) ad G := by
  refine ⟨by rw [List.length_append, hk]; exact own, h.lst.far hg h.far, fun q hq => ⟨?_, Nat.lt_of_lt_of_le (h.far q hq).2 hg.size⟩, ?_, h.bel.grown hg h.bel.size (fun q hq => by have := (h.row.lt q hq).1; omega)⟩
  · rcases hat with e | e
    · rw [e]; exact (h.far q hq).1
    · rw [e]
      intro e2
      have := Option.some.inj e2
      have := (h.far q hq).2
      omega
  · exact (hg.block _ (lt_of_bk h.box) (fun e => by have := (h.row.lt _ e.symm).1; omega)).trans h.box

/-- Another page ahead, which was made behind the row. -/
theorem PsAt.last {w U W : World} {M : Array Value} {v : Value} {X : List Int} {ad : Option Addr} {G : List Int} (h : PsAt w U M v X ad G) (hb : Below U.heap.size U W) {pb po : Nat} {P : List Int} (hp : Reads W (some ⟨pb, po, none⟩) P.length P) (h1 : U.heap.size ≤ pb) (h2 : pb < W.heap.size) : PsAt w W M v X (some ⟨pb, po, none⟩) P := by
  have h9 := h.below hb
  refine ⟨h9.row, hp, fun q hq => ?_, h9.box, h9.bel⟩
  cases hq
  refine ⟨fun e => ?_, h2⟩
  have h3 := (h.row.lt _ e).2
  change pb < U.heap.size at h3
  omega

theorem wpList_append_at {w : World} {ops : Array Oper} {rest : List Oper} {o : Oper} {a : Act} {Q : Exit → Act → World → Prop} (hgd : o.guard = none) (s x : Operand)
    (ho : o.op = .call { callee := .builtin .append, args := #[s, x], argTypes := #[22, 22] })
    (base : Nat) (v : Value) (n : Nat) (xs : List Int) (hs : a.eval s = v) (hown : w.ownsRow base 5 1 v n (xs.map (Value.int .u8)))
    (ad : Addr) (m c : Nat) (zs : List Int) (hx : a.eval x = .slice (some ad) m c) (hrd : Reads w (some ad) m zs)
    (hb : n + m ≤ 140737488355328) (hbase : base ≤ w.heap.size)
    (h : ∀ v' w', w'.ownsRow base 5 1 v' (n + m) ((xs ++ zs).map (Value.int .u8)) → w.grownBy w' v.ownBlock → (v'.ownBlock = v.ownBlock ∨ v'.ownBlock = some w.heap.size) → wpList Tryd.prog ops Q rest (a.put o.dst v') w') : wpList Tryd.prog ops Q (o :: rest) a w := by
  obtain ⟨i0, hi, hz0, hz1, hz2⟩ := info_parts info5
  refine wpList_append_own_at w hgd s x 22 ho base 5 i0 (.int .u8 0) 1 1 Tryd.underlying22 hi hz0 hz1 hz2 rfl (by decide) v n _ hs hown ad m c (zs.map (Value.int .u8)) hx (by simp [hrd.1]) hrd.news (ints_oneCell _ _) (by simp [maxLen]; omega) (by omega) hbase ?_
  intro v' w' h1 h2 _ h4
  exact h v' w' (by rw [List.map_append]; exact h1) h2 h4

theorem flat_snoc (X P : List Int) (j : Nat) : X ++ (List.replicate j P).flatten ++ P = X ++ (List.replicate (j + 1) P).flatten := by
  rw [List.append_assoc, List.replicate_succ', List.flatten_append]
  simp
theorem pgs_snoc (ps : List Pc) (p : Pc) : (pgs (ps ++ [p])).flatten = (pgs ps).flatten ++ (List.replicate p.n p.g).flatten := by
  rw [pgs_append, List.flatten_append]
  simp [pgs]

set_option maxHeartbeats 400000 in
set_option maxRecDepth 100000 in
theorem rsame_gen (a a' : Option Addr) (n n' c c' : Nat) (xs ys : List Int) (w : World) (hn : n ≤ 140737488355000) (hn' : n' ≤ 140737488355000) (h : Reads w a n xs) (h' : Reads w a' n' ys) :
    Calls Tryd.prog 30 #[.slice a n c, .slice a' n' c'] w fun e w' => e = .returned (.bool (decide (xs = ys))) ∧ ∃ k, w' = w.drewN k := by
  by_cases he : n = n'
  · subst he
    exact rsame_any a a' n c c' xs ys w hn h h'
  · have e1 : ((n : Int) == (n' : Int)) = false := by rw [beq_eq_false_iff_ne]; omega
    have HB : Hid (decide (xs = ys) = false) := decide_eq_false (fun e => he (by rw [← h.1, ← h'.1, e]))
    clear h h'
    go_enter Tryd.func30, Tryd.ntmps30
    go_wp2_with fail
    go_ret
    exact ⟨by rw [HB.out]; rfl, 0, rfl⟩

end Go.Proofs.YteefekhlbillfaaDoor
