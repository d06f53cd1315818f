/-
  SEAT Ytjhphkfpcpfdnaa: empty: its loop, in memory.
-/
import Derived.Test.YtjhphkfpcpfdnaaEa
namespace Go.Proofs.Ytjhphkfpcpfdnaa
open Go.RowKit Go.Conc
set_option linter.unusedVariables false

theorem cells_len4 (bs : List Bc) : (bs.flatMap Bc.cells).length = bs.length * 4 := by
  induction bs with
  | nil => rfl
  | cons b r ih => rw [List.flatMap_cons, List.length_append, ih, List.length_cons]; show 4 + _ = _; omega
def rowM (bs : List Bc) (k : Nat) : List Value := bs.flatMap Bc.cells ++ (List.replicate k z4).flatMap id
theorem rowM_get (bs : List Bc) (k : Nat) : (rowM bs (k + 1))[bs.length * 4 + 3]? = some (.slice none 0 0) := by
  unfold rowM
  rw [List.getElem?_append_right (by rw [cells_len4]; omega), cells_len4, List.replicate_succ, List.flatMap_cons]
  rw [show bs.length * 4 + 3 - bs.length * 4 = 3 by omega]
  rfl
theorem rowM_set (bs : List Bc) (k g P : Nat) (ps : List Pc) (hp : ps.length = P) : (rowM bs (k + 1)).set (bs.length * 4 + 3) (.slice (some ⟨g, 0, none⟩) P P) = rowM (bs ++ [⟨false, false, 0, g, ps⟩]) k := by
  unfold rowM
  rw [List.set_append_right _ _ (by rw [cells_len4]; omega), cells_len4, List.replicate_succ, List.flatMap_cons, show bs.length * 4 + 3 - bs.length * 4 = 3 by omega, List.flatMap_append, List.append_assoc]
  congr 1
  subst hp
  rfl
def bl0 (P L : Nat) : Bl := ⟨false, false, 0, List.replicate P ⟨List.replicate L 255, false⟩⟩
structure EL (w u : World) (p gb gm : Nat) (x y : Bx) (B P S : Nat) (q : List Ft) (m : Nat) (bs : List Bc) : Prop where
  e0 : Below w.heap.size w u
  bx : u.heap[w.heap.size]? = some (.cells #[.int .i64 (B : Int), .int .i64 (P : Int), .int .i64 (S : Int)] 23 (0, 0))
  box : y.at u p
  hp : w.heap.size ≤ p
  row : u.heap[gb]? = some (.cells (rowM bs (B - m)).toArray 74 (0, 0))
  hgb : w.heap.size ≤ gb
  map : u.heap[gm]? = some (.map #[] 0)
  hgm : w.heap.size ≤ gm
  scr : QAt u (fun k => w.heap.size ≤ k ∧ k < u.heap.size) x q
  ok : ∀ b ∈ bs, BcOk u (fun k => w.heap.size ≤ k ∧ k < u.heap.size) (pgB S) P b
  len : bs.length = m
  vs : bs.map Bc.v = List.replicate m (bl0 P (pgB S))
  gs : bs.Pairwise (fun b c => b.g ≠ c.g)
theorem pc0_ok (w : World) (F : Nat → Prop) (L : Nat) : PcOk w F L (pc0 L) := ⟨by simp [pc0], fun y hy => by have := (List.mem_replicate.1 hy).2; omega, Or.inl ⟨rfl, rfl, rfl, rfl⟩⟩

theorem EL.step {w u : World} {p gb gm : Nat} {x y : Bx} {B P S : Nat} {q : List Ft} {m : Nat} {bs : List Bc} (h : EL w u p gb gm x y B P S q m bs) (hm : m < B) :
    EL w ((u.drew.alloc (.cells (rowP P) 117)).setCell ⟨gb, m * 4 + 3, none⟩ (.slice (some ⟨u.heap.size, 0, none⟩) P P)) p gb gm x y B P S q (m + 1) (bs ++ [⟨false, false, 0, u.heap.size, List.replicate P (pc0 (pgB S))⟩]) := by
  have hB1 : Below u.heap.size u (u.drew.alloc (.cells (rowP P) 117)) := below_trans (drew_below u) (below_alloc _ _)
  have hnew : (u.drew.alloc (.cells (rowP P) 117)).heap[u.heap.size]? = some (.cells (rowP P) 117 (0, 0)) := alloc_new u.drew _
  have hrow1 := (hB1.block _ (lt_of_block h.row)).trans h.row
  obtain ⟨V, hV⟩ : ∃ V, V = u.drew.alloc (.cells (rowP P) 117) := ⟨_, rfl⟩
  rw [← hV] at hB1 hnew hrow1 ⊢
  clear hV
  have hrow2 := heap_setCell_same V gb (m * 4 + 3) _ 74 (.slice (some ⟨u.heap.size, 0, none⟩) P P) hrow1
  have hO := Only.setCell (· = gb) V gb (m * 4 + 3) (.slice (some ⟨u.heap.size, 0, none⟩) P P) rfl
  obtain ⟨Z, hZ⟩ : ∃ Z, Z = V.setCell ⟨gb, m * 4 + 3, none⟩ (.slice (some ⟨u.heap.size, 0, none⟩) P P) := ⟨_, rfl⟩
  rw [← hZ] at hrow2 hO ⊢
  clear hZ
  have hU : Only (· = gb) u Z := (Only.ofB hB1).trans hO (fun _ _ h => h)
  have hgl := lt_of_block h.row
  have hnl := lt_of_block hnew
  have hT : ∀ F, KeepT F (· = 74) u Z := fun F => hU.keepT (fun k o t hk ho ht => by
    rw [hk, h.row] at ho
    cases ho
    exact ht.symm)
  have hF : ∀ k, (w.heap.size ≤ k ∧ k < u.heap.size) → (w.heap.size ≤ k ∧ k < Z.heap.size) := fun k hk => ⟨hk.1, Nat.lt_of_lt_of_le hk.2 hU.size⟩
  have hl := h.len
  refine ⟨?_, ?_, ?_, h.hp, ?_, h.hgb, ?_, h.hgm, ?_, ?_, ?_, ?_, ?_⟩
  · exact ((Only.ofB (F := fun k => w.heap.size ≤ k) h.e0).trans hU (fun k _ e => by rw [e]; exact h.hgb)).below (fun _ h => h) (Nat.le_refl _)
  · exact hT (fun _ => True) _ _ 23 trivial h.bx rfl (by decide)
  · exact hT (fun _ => True) _ _ 71 trivial h.box rfl (by decide)
  · rw [hrow2, List.setIfInBounds_toArray, show B - m = (B - (m + 1)) + 1 by omega, ← hl, rowM_set bs _ u.heap.size P (List.replicate P (pc0 (pgB S))) (by simp)]
  · exact hT (fun _ => True) _ _ 1001 trivial h.map rfl (by decide)
  · exact h.scr.keep (hT _) (by decide) (by decide) hF ⟨rfl, rfl, rfl, rfl, rfl, rfl, rfl⟩ rfl
  · intro b hb
    rcases List.mem_append.1 hb with h1 | h1
    · exact (h.ok b h1).keep (hT _) (by decide) hF ((hT (fun _ => True) _ _ 117 trivial (h.ok b h1).row rfl (by decide)).trans (h.ok b h1).row.symm)
    · simp at h1
      subst h1
      refine ⟨?_, ⟨h.e0.size, Nat.lt_of_lt_of_le hnl hO.size⟩, by simp, fun c hc => ?_⟩
      · rw [← pages0 (pgB S) P]
        exact (hO.block _ hnl (by omega)).trans hnew
      · rw [(List.mem_replicate.1 hc).2]
        exact pc0_ok _ _ _
  · simp [hl]
  · rw [List.map_append, h.vs, List.replicate_succ']
    congr 1
    simp [Bc.v, bl0, Pc.v, pc0]
  · rw [List.pairwise_append]
    refine ⟨h.gs, by simp, fun a ha c hc => ?_⟩
    simp at hc
    subst hc
    have := (h.ok a ha).fg.2
    show a.g ≠ u.heap.size
    omega
/-- A chip on which nothing was done, and no block of which is ready. -/
def emptyC (B P S : Nat) (q : List Ft) : Ch := ⟨B, P, S, List.replicate B (bl0 P (pgB S)), fun _ _ => [], q, false, 0, []⟩
def boxY (x : Bx) (B P S gb gm : Nat) : Bx := { x with B := B, P := P, S := S, gb := gb, nb := B, gm := gm, dark := false, cnt := 0, ta := none, tl := 0, tc := 0 }
theorem EL.chip {w u : World} {p gb gm : Nat} {x : Bx} {B P S : Nat} {q : List Ft} {bs : List Bc} (h : EL w u p gb gm x (boxY x B P S gb gm) B P S q B bs) :
    CAt u p (fun k => w.heap.size ≤ k ∧ k < u.heap.size) (emptyC B P S q) (boxY x B P S gb gm) bs [] := by
  refine ⟨h.box, ⟨h.hp, lt_of_block h.box⟩, rfl, rfl, rfl, h.len.symm, rfl, rfl, ?_, ⟨h.hgb, lt_of_block h.row⟩, h.vs, h.ok, h.gs, ⟨⟨#[], 0, h.map, rfl, ⟨fun e he => by simp at he, by simp⟩⟩, ⟨h.hgm, lt_of_block h.map⟩, List.Pairwise.nil, List.Pairwise.nil, fun f hf => by cases hf⟩, fun _ _ => rfl, h.scr.keep (T := fun _ => False) (KeepT.of (fun _ _ => rfl) _) (fun h => h) (fun h => h) (fun _ h => h) ⟨rfl, rfl, rfl, rfl, rfl, rfl, rfl⟩ rfl, ⟨World.ownsRow_nil _ _ _ _, rfl, fun g hg => by cases hg⟩, fun k hk => hk.2⟩
  have hr := h.row
  rw [Nat.sub_self] at hr
  unfold rowM at hr
  simp at hr
  show u.heap[gb]? = _
  rw [hr]
end Go.Proofs.Ytjhphkfpcpfdnaa
