/-
  SEAT YtdiifegljonojaaGreatDoor: the pieces of a row.
-/
import Derived.Test.YtdiifegljonojaaGreatDoorRh
import Derived.Laws.OwnMore
namespace Go.Proofs.YtdiifegljonojaaGreatDoor
open Go.RowKit
set_option linter.unusedVariables false

/-- A piece that has been read, as it lies in a list. -/
structure Pe where
  p : Pc
  v0 : Value
  v9 : Value
def Pe.cells (x : Pe) : List Value := [x.v0, .bool (x.p.ty == 2), .string (Pt.tg x.p.names), .int .i64 x.p.ty, .int .i64 x.p.mode, .int .u64 x.p.stamp, .slice none 0 0, .string x.p.target, .int .i64 (x.p.size : Int), x.v9]
def flatP (es : List Pe) : List Value := es.flatMap Pe.cells
theorem flatP_append (es fs : List Pe) : flatP (es ++ fs) = flatP es ++ flatP fs := by simp [flatP]
/-- What names may be here. -/
def Nms (l : List ByteArray) : Prop := l.length ≤ 64 ∧ ∀ x ∈ l, x.size ≤ 63
structure Pe.Ok (w : World) (B0 B : Nat) (x : Pe) : Prop where
  ow : Pt.Ow w B0 x.v0 x.p.names
  sg : SgOn w B0 B x.v9 x.p.segs
  sz : x.p.size ≤ 16777216
  nm : Nms x.p.names

theorem Pe.Ok.kept {w w' : World} {B0 B i : Nat} {x : Pe} {cs : Array Value} {t : TypeId} (h : x.Ok w B0 B) (hg : w.grownBy w' (some i)) (hi : w.heap[i]? = some (.cells cs t (0, 0))) (h1 : t ≠ 9) (h2 : t ≠ 94) (hB : B ≤ i) (hBw : B ≤ w.heap.size) : x.Ok w' B0 B :=
  ⟨Ow.two h.ow hg hi h1, SgOn.two h.sg hg hi h2 hB hBw, h.sz, h.nm⟩
theorem Pe.Ok.below {w w' : World} {B0 B : Nat} {x : Pe} (h : x.Ok w B0 B) (hb : Below w.heap.size w w') (hBw : B ≤ w.heap.size) : x.Ok w' B0 B :=
  ⟨Pt.Ow.below h.ow hb, h.sg.kept (grown_of hb none) (fun k e => by cases e) hBw, h.sz, h.nm⟩

theorem takeR_ok {n : Nat} {b bs r : List Int} (h : takeR n bs = .ok (b, r)) : n ≤ bs.length ∧ b = bs.take n ∧ r = bs.drop n := by
  unfold takeR at h
  split at h
  · rename_i h1; cases h; exact ⟨h1, rfl, rfl⟩
  · cases h

theorem namesR_ok {xs ns : List ByteArray} {k : Nat} {bs r : List Int} (h : namesR xs k bs = .ok (ns, r)) (hx : Nms xs) (hk : k < 64) : Nms ns ∧ r.length ≤ bs.length := by
  unfold namesR at h
  split at h
  · cases h
  · rename_i n r1 h1
    split at h
    · cases h
    · rename_i b r2 h2
      split at h
      · cases h
        obtain ⟨q1, q2, q3, q4, q5⟩ := wholeR_ok h1
        obtain ⟨t1, t2, t3⟩ := takeR_ok h2
        refine ⟨⟨?_, ?_⟩, ?_⟩
        · rw [List.length_append, List.length_take, List.length_singleton]; omega
        · intro x hx9
          rcases List.mem_append.1 hx9 with h9 | h9
          · exact hx.2 x (List.mem_of_mem_take h9)
          · rw [List.mem_singleton.1 h9, strOfNums_size, t2, List.length_take]; omega
        · rw [t3, q5, List.length_drop, List.length_drop]; omega
      · cases h

theorem modeR_le {bs r : List Int} {x : Int × Int} (h : modeR bs = .ok (x, r)) : r.length ≤ bs.length := by
  unfold modeR at h
  split at h
  · cases h
  · rename_i m r1 h1
    split at h
    · cases h
    · rename_i s r2 h2
      cases h
      rw [(numR_ok h2).2.2, (wholeR_ok h1).2.2.2.2, List.length_drop, List.length_drop]; omega

theorem dataL_le : ∀ (f size pos : Nat) (last : Int) (acc l : List Sg) (bs r : List Int), dataL size f pos last acc bs = .ok (l, r) → r.length ≤ bs.length
  | 0, size, pos, last, acc, l, bs, r, h => by cases h; exact Nat.le_refl _
  | f + 1, size, pos, last, acc, l, bs, r, h => by
    rw [dataL] at h
    split at h
    · split at h
      · cases h
      · rename_i kd r1 h1
        have l1 : r1.length ≤ bs.length := by rw [(wholeR_ok h1).2.2.2.2, List.length_drop]; omega
        split at h
        · cases h
        · split at h
          · cases h
          · rename_i k r2 h2
            have l2 : r2.length ≤ r1.length := by rw [(wholeR_ok h2).2.2.2.2, List.length_drop]; omega
            split at h
            · split at h
              · cases h
              · rename_i b r3 h3
                have l3 : r3.length ≤ r2.length := by rw [(takeR_ok h3).2.2, List.length_drop]; omega
                split at h
                · have := dataL_le f _ _ _ _ _ _ _ h; omega
                · cases h
            · have := dataL_le f _ _ _ _ _ _ _ h; omega
    · cases h; exact Nat.le_refl _

theorem dataR_le {bs r : List Int} {x : Nat × List Sg} (h : dataR bs = .ok (x, r)) : r.length ≤ bs.length := by
  unfold dataR at h
  split at h
  · cases h
  · rename_i n r1 h1
    split at h
    · cases h
    · rename_i l r2 h2
      cases h
      have := dataL_le _ _ _ _ _ _ _ _ h2
      have h3 := (wholeR_ok h1).2.2.2.2
      rw [h3, List.length_drop] at this; omega

theorem targetR_le {bs r : List Int} {x : ByteArray} (h : targetR bs = .ok (x, r)) : r.length ≤ bs.length := by
  unfold targetR at h
  split at h
  · cases h
  · rename_i n r1 h1
    split at h
    · cases h
    · rename_i b r2 h2
      split at h
      · cases h
      · cases h
        rw [(takeR_ok h2).2.2, (wholeR_ok h1).2.2.2.2, List.length_drop, List.length_drop]; omega

theorem pieceR_ok {xs : List ByteArray} {k : Nat} {bs r : List Int} {p : Pc} (h : pieceR xs k bs = .ok (p, r)) (hx : Nms xs) (hk : k < 64) : Nms p.names ∧ r.length ≤ bs.length := by
  unfold pieceR at h
  split at h
  · cases h
  · rename_i ty r1 h1
    have l1 : r1.length ≤ bs.length := by rw [(wholeR_ok h1).2.2.2.2, List.length_drop]; omega
    split at h
    · cases h
    · rename_i ms r2 h2
      have l2 := modeR_le h2
      split at h
      · cases h
      · rename_i ns r3 h3
        have l3 := namesR_ok h3 hx hk
        split at h
        · split at h
          · cases h
          · rename_i d r4 h4
            have := dataR_le h4
            cases h
            exact ⟨l3.1, by omega⟩
        · split at h
          · split at h
            · cases h
            · rename_i t r4 h4
              have := targetR_le h4
              cases h
              exact ⟨l3.1, by omega⟩
          · cases h
            exact ⟨l3.1, by omega⟩

/-- A list of pieces in memory. -/
def PsV (w : World) (B : Nat) (l : List Pc) (val : Value) (w' : World) : Prop := ∃ es : List Pe, es.map Pe.p = l ∧ w'.ownsRow w.heap.size 63 10 val es.length (flatP es) ∧ (∀ x ∈ es, x.Ok w' w.heap.size B) ∧ es.length ≤ 5000000

theorem info63 : (Tryz.prog.info? 63).map (fun i => (i.zero, i.size, i.bytes)) = some (some (.agg #[.slice none 0 0, .bool false, .string ⟨#[]⟩, .int .i64 0, .int .i64 0, .int .u64 0, .slice none 0 0, .string ⟨#[]⟩, .int .i64 0, .slice none 0 0]), 10, 144) := by kernel_rfl

section
variable {f : Nat} {a : Pc} {acc : List Pc} {bs r : List Int} {e d : Int}
theorem pl_short (h : numR 1 bs = .error e) : piecesL (f + 1) a acc bs = .error e := by rw [piecesL, h]
theorem pl_end (h : numR 1 bs = .ok (255, r)) : piecesL (f + 1) a acc bs = .ok (acc, r) := by rw [piecesL, h]; rfl
theorem pl_deep (h : numR 1 bs = .ok (d, r)) (h1 : ¬ d = 255) (h2 : ¬ (d < 64 ∧ d ≤ a.deep)) : piecesL (f + 1) a acc bs = .error 191 := by rw [piecesL, h]; simp only [if_neg h1, if_neg h2]
theorem pl_err (h : numR 1 bs = .ok (d, r)) (h1 : ¬ d = 255) (h2 : d < 64 ∧ d ≤ a.deep) (h3 : pieceR a.names d.toNat r = .error e) : piecesL (f + 1) a acc bs = .error e := by rw [piecesL, h]; simp only [if_neg h1, if_pos h2, h3]
theorem pl_go {p : Pc} {r2 : List Int} (h : numR 1 bs = .ok (d, r)) (h1 : ¬ d = 255) (h2 : d < 64 ∧ d ≤ a.deep) (h3 : pieceR a.names d.toNat r = .ok (p, r2)) : piecesL (f + 1) a acc bs = piecesL f p (acc ++ [p]) r2 := by rw [piecesL, h]; simp only [if_neg h1, if_pos h2, h3]
end

/-- The rounds' state. -/
structure PiS (w : World) (B q A : Nat) (rest : List Int) (g : Nat) (s4 : Value) (wr : World) (a : Pe) (es : List Pe) (rest' : List Int) : Prop where
  rd : RdAt wr B q rest'
  pb : wr.heap[A]? = some (.cells a.cells.toArray 63 (0, 0))
  aok : a.Ok wr w.heap.size B
  own : wr.ownsRow (A + 1) 63 10 s4 es.length (flatP es)
  oks : ∀ x ∈ es, x.Ok wr w.heap.size B
  gr : w.grownBy wr (some q)
  pure : piecesR rest = piecesL g a.p (es.map Pe.p) rest'
  fuel : rest'.length < g
  len : es.length + rest'.length ≤ 4194305

theorem lit10_news (u : World) (x0 x1 x2 x3 x4 x5 x6 x7 x8 x9 : Value) : ∀ j v, [x0, x1, x2, x3, x4, x5, x6, x7, x8, x9][j]? = some v → (u.alloc (.cells #[x0, x1, x2, x3, x4, x5, x6, x7, x8, x9] 63)).cell? ((⟨u.heap.size, 0, none⟩ : Addr).add j) = some v := by
  have h : PB (u.alloc (.cells #[x0, x1, x2, x3, x4, x5, x6, x7, x8, x9] 63)) u.heap.size x0 x1 x2 x3 x4 x5 x6 x7 x8 x9 := heap_alloc_new u _
  exact cells_news h
end Go.Proofs.YtdiifegljonojaaGreatDoor
