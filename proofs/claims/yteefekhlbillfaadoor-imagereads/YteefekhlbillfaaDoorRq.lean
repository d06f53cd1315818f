/-
  SEAT YteefekhlbillfaaDoor: Read.
-/
import Derived.Test.YteefekhlbillfaaDoorRo
namespace Go.Proofs.YteefekhlbillfaaDoor
open Go.RowKit
set_option linter.unusedVariables false

/-- What Read answers. -/
def RdRes (w w' : World) (e : Ending) : Except Int Img → Prop
  | .error x => e = .returned (.tuple #[.agg #[.int .i64 0, .int .i64 0, .int .i64 0, .slice none 0 0, .slice none 0 0], .int .i64 x]) ∧ x ≠ 0
  | .ok m => ∃ g cc gm, e = .returned (.tuple #[.agg #[.int .i64 (m.b : Int), .int .i64 (m.p : Int), .int .i64 (m.s : Int), .slice (some ⟨g, 0, none⟩) m.cs.length cc, .slice (some ⟨gm, 0, none⟩) m.b m.b], .int .i64 0]) ∧ Own w' w.heap.size g m.cs.length cc m.cs ∧ OwnB w' w.heap.size gm m.b m.b m.ms

theorem below_grown {w u v : World} {i : Nat} (h : Below w.heap.size w u) (h' : u.grownBy v (some i)) (hi : w.heap.size ≤ i) : Below w.heap.size w v := h.grown h' h.size (fun k hk => by cases hk; exact hi)

theorem res_zero {u : World} {i : Nat} {a0 a1 a2 a3 a4 : Value} (h : u.heap[i]? = some (.cells #[a0, a1, a2, a3, a4] 30 (0, 0))) : True := trivial

set_option maxHeartbeats 2000000 in
set_option maxRecDepth 100000 in
theorem read_front (bk off c : Nat) (bs : List Int) (w : World) (hr : Reads w (some ⟨bk, off, none⟩) bs.length bs) (hl : bs.length ≤ 200000000000000) (hnc : bs.length ≤ c) (hc : c ≤ 9223372036854775807) (hbk : bk < w.heap.size) (ht : Tab w) (x : Int) (hx : rdHead bs = .error x) :
    Calls Tryd.prog 9 #[.slice (some ⟨bk, off, none⟩) bs.length c] w fun e w' => x ≠ 0 ∧ e = .returned (.tuple #[.agg #[.int .i64 0, .int .i64 0, .int .i64 0, .slice none 0 0, .slice none 0 0], .int .i64 x]) ∧ Below w.heap.size w w' := by
  have hby := hr.2.1
  have HRD : Hid (Reads w (some ⟨bk, off, none⟩) bs.length bs) := hr
  have hR1 : RdAt ((w.alloc (.cells #[.int .i64 0, .int .i64 0, .int .i64 0, .slice none 0 0, .slice none 0 0] 30)).alloc (.cells #[.slice (some ⟨bk, off, none⟩) bs.length c] 70)) w.heap.size (w.heap.size + 1) bs := by
    refine ⟨bk, off, c, ?_, (hr.below (below_alloc w _)).below (below_alloc _ _), hnc, hc, hbk, by omega⟩
    have h9 := heap_alloc_new (w.alloc (.cells #[.int .i64 0, .int .i64 0, .int .i64 0, .slice none 0 0, .slice none 0 0] 30)) (.cells #[.slice (some ⟨bk, off, none⟩) bs.length c] 70); rw [World.size_alloc] at h9; exact h9
  have hrb : ((w.alloc (.cells #[.int .i64 0, .int .i64 0, .int .i64 0, .slice none 0 0, .slice none 0 0] 30)).alloc (.cells #[.slice (some ⟨bk, off, none⟩) bs.length c] 70)).heap[w.heap.size]? = some (.cells #[.int .i64 0, .int .i64 0, .int .i64 0, .slice none 0 0, .slice none 0 0] 30 (0, 0)) := by
    rw [Below.heap_alloc _ _ _ (by simp)]; exact heap_alloc_new _ _
  have hb1 : Below w.heap.size w ((w.alloc (.cells #[.int .i64 0, .int .i64 0, .int .i64 0, .slice none 0 0, .slice none 0 0] 30)).alloc (.cells #[.slice (some ⟨bk, off, none⟩) bs.length c] 70)) := below_trans (below_alloc w _) (below_alloc _ _)
  have HR1 : Hid (RdAt ((w.alloc (.cells #[.int .i64 0, .int .i64 0, .int .i64 0, .slice none 0 0, .slice none 0 0] 30)).alloc (.cells #[.slice (some ⟨bk, off, none⟩) bs.length c] 70)) w.heap.size (w.heap.size + 1) bs) := hR1
  have HRB : Hid (((w.alloc (.cells #[.int .i64 0, .int .i64 0, .int .i64 0, .slice none 0 0, .slice none 0 0] 30)).alloc (.cells #[.slice (some ⟨bk, off, none⟩) bs.length c] 70)).heap[w.heap.size]? = some (.cells #[.int .i64 0, .int .i64 0, .int .i64 0, .slice none 0 0, .slice none 0 0] 30 (0, 0))) := hrb
  have HB1 : Hid (Below w.heap.size w ((w.alloc (.cells #[.int .i64 0, .int .i64 0, .int .i64 0, .slice none 0 0, .slice none 0 0] 30)).alloc (.cells #[.slice (some ⟨bk, off, none⟩) bs.length c] 70))) := hb1
  have HTB : Hid (Tab w) := ht
  have HBY : Hid (Byt bs) := hby
  clear hR1 hrb hb1 hr ht hby
  have HX : Hid (rdHead bs = .error x) := hx
  clear hx
  go_enter Tryd.func9, Tryd.ntmps9
  go_wp2_with (first
    | (go_at_call 31; refine (front_any w.heap.size (w.heap.size + 1) bs _ HR1.out hl).mono ?_; rintro e t1 ⟨res, g1⟩; rw [HX.out] at res; obtain ⟨rfl, hx0⟩ := res
       have hx1 : (x == 0) = false := (by rw [beq_eq_false_iff_ne]; exact hx0)
       have HRB1 : Hid ((t1.alloc (.cells #[.int .i64 0, .int .i64 0, .int .i64 0, .slice none 0 0, .slice none 0 0] 30)).heap[w.heap.size]? = some (.cells #[.int .i64 0, .int .i64 0, .int .i64 0, .slice none 0 0, .slice none 0 0] 30 (0, 0))) := by
         have h9 : t1.heap[w.heap.size]? = some (.cells #[.int .i64 0, .int .i64 0, .int .i64 0, .slice none 0 0, .slice none 0 0] 30 (0, 0)) := (g1.block _ (Array.getElem?_eq_some_iff.1 HRB.out).1 (fun e => by have e' := Option.some.inj e; omega)).trans HRB.out
         exact (Below.heap_alloc t1 (.cells #[.int .i64 0, .int .i64 0, .int .i64 0, .slice none 0 0, .slice none 0 0] 30) _ (Array.getElem?_eq_some_iff.1 h9).1).trans h9
       have HB2 : Hid (Below w.heap.size w (t1.alloc (.cells #[.int .i64 0, .int .i64 0, .int .i64 0, .slice none 0 0, .slice none 0 0] 30))) := (below_grown HB1.out g1 (by omega)).alloc (below_grown HB1.out g1 (by omega)).size _
       clear g1
       obtain ⟨r0, r1, r2, r3, r4⟩ := cells5 HRB1.out
       have rf := frozen5 HRB1.out
       have rf0 := rf 0
       have rf1 := rf 1
       have rf2 := rf 2
       have rf3 := rf 3
       have rf4 := rf 4
       clear rf))
  exact bodyPost_ret (v := .tuple #[.agg #[.int .i64 0, .int .i64 0, .int .i64 0, .slice none 0 0, .slice none 0 0], .int .i64 x]) (by obtain ⟨y0, y1, y2, y3, y4⟩ := cells5 (blk5_set HRB1.out (.int .i64 0) (.int .i64 0) (.int .i64 0) (.slice none 0 0) (.slice none 0 0)); simp [results, Tryd.results9, go_sem, y0, y1, y2, y3, y4]) rfl ⟨hx0, rfl, below_grown HB2.out (grown5 _ _ _ _ _ _ _) (Nat.le_refl _)⟩

set_option maxHeartbeats 2000000 in
set_option maxRecDepth 100000 in
theorem read_pieces (bk off c : Nat) (bs : List Int) (w : World) (hr : Reads w (some ⟨bk, off, none⟩) bs.length bs) (hl : bs.length ≤ 200000000000000) (hnc : bs.length ≤ c) (hc : c ≤ 9223372036854775807) (hbk : bk < w.heap.size) (ht : Tab w) (b p s : Nat) (mk : List Bool) (r : List Int) (hx : rdHead bs = .ok (b, p, s, mk, r)) (x : Int) (hp : rdPs (256 * s) (54 + 3 * s) (b * p) (b * p) Pc.z r = .error x) :
    Calls Tryd.prog 9 #[.slice (some ⟨bk, off, none⟩) bs.length c] w fun e w' => x ≠ 0 ∧ e = .returned (.tuple #[.agg #[.int .i64 0, .int .i64 0, .int .i64 0, .slice none 0 0, .slice none 0 0], .int .i64 x]) ∧ Below w.heap.size w w' := by
  have hby := hr.2.1
  have HRD : Hid (Reads w (some ⟨bk, off, none⟩) bs.length bs) := hr
  have hR1 : RdAt ((w.alloc (.cells #[.int .i64 0, .int .i64 0, .int .i64 0, .slice none 0 0, .slice none 0 0] 30)).alloc (.cells #[.slice (some ⟨bk, off, none⟩) bs.length c] 70)) w.heap.size (w.heap.size + 1) bs := by
    refine ⟨bk, off, c, ?_, (hr.below (below_alloc w _)).below (below_alloc _ _), hnc, hc, hbk, by omega⟩
    have h9 := heap_alloc_new (w.alloc (.cells #[.int .i64 0, .int .i64 0, .int .i64 0, .slice none 0 0, .slice none 0 0] 30)) (.cells #[.slice (some ⟨bk, off, none⟩) bs.length c] 70); rw [World.size_alloc] at h9; exact h9
  have hrb : ((w.alloc (.cells #[.int .i64 0, .int .i64 0, .int .i64 0, .slice none 0 0, .slice none 0 0] 30)).alloc (.cells #[.slice (some ⟨bk, off, none⟩) bs.length c] 70)).heap[w.heap.size]? = some (.cells #[.int .i64 0, .int .i64 0, .int .i64 0, .slice none 0 0, .slice none 0 0] 30 (0, 0)) := by
    rw [Below.heap_alloc _ _ _ (by simp)]; exact heap_alloc_new _ _
  have hb1 : Below w.heap.size w ((w.alloc (.cells #[.int .i64 0, .int .i64 0, .int .i64 0, .slice none 0 0, .slice none 0 0] 30)).alloc (.cells #[.slice (some ⟨bk, off, none⟩) bs.length c] 70)) := below_trans (below_alloc w _) (below_alloc _ _)
  have HR1 : Hid (RdAt ((w.alloc (.cells #[.int .i64 0, .int .i64 0, .int .i64 0, .slice none 0 0, .slice none 0 0] 30)).alloc (.cells #[.slice (some ⟨bk, off, none⟩) bs.length c] 70)) w.heap.size (w.heap.size + 1) bs) := hR1
  have HRB : Hid (((w.alloc (.cells #[.int .i64 0, .int .i64 0, .int .i64 0, .slice none 0 0, .slice none 0 0] 30)).alloc (.cells #[.slice (some ⟨bk, off, none⟩) bs.length c] 70)).heap[w.heap.size]? = some (.cells #[.int .i64 0, .int .i64 0, .int .i64 0, .slice none 0 0, .slice none 0 0] 30 (0, 0))) := hrb
  have HB1 : Hid (Below w.heap.size w ((w.alloc (.cells #[.int .i64 0, .int .i64 0, .int .i64 0, .slice none 0 0, .slice none 0 0] 30)).alloc (.cells #[.slice (some ⟨bk, off, none⟩) bs.length c] 70))) := hb1
  have HTB : Hid (Tab w) := ht
  have HBY : Hid (Byt bs) := hby
  clear hR1 hrb hb1 hr ht hby
  have HX : Hid (rdHead bs = .ok (b, p, s, mk, r)) := hx
  have HPS : Hid (rdPs (256 * s) (54 + 3 * s) (b * p) (b * p) Pc.z r = .error x) := hp
  clear hx hp
  go_enter Tryd.func9, Tryd.ntmps9
  go_wp2_with (first
    | (go_at_call 31; refine (front_any w.heap.size (w.heap.size + 1) bs _ HR1.out hl).mono ?_; rintro e t1 ⟨res, g1⟩; rw [HX.out] at res; obtain ⟨hf, gm, rfl, om, rd1, hrl⟩ := res
       have HRB1 : Hid ((t1.alloc (.cells #[.int .i64 (b : Int), .int .i64 (p : Int), .int .i64 (s : Int), .slice none 0 0, .slice (some ⟨gm, 0, none⟩) b b] 30)).heap[w.heap.size]? = some (.cells #[.int .i64 0, .int .i64 0, .int .i64 0, .slice none 0 0, .slice none 0 0] 30 (0, 0))) := by
         have h9 : t1.heap[w.heap.size]? = some (.cells #[.int .i64 0, .int .i64 0, .int .i64 0, .slice none 0 0, .slice none 0 0] 30 (0, 0)) := (g1.block _ (Array.getElem?_eq_some_iff.1 HRB.out).1 (fun e => by have e' := Option.some.inj e; omega)).trans HRB.out
         exact (Below.heap_alloc t1 (.cells #[.int .i64 (b : Int), .int .i64 (p : Int), .int .i64 (s : Int), .slice none 0 0, .slice (some ⟨gm, 0, none⟩) b b] 30) _ (Array.getElem?_eq_some_iff.1 h9).1).trans h9
       have HMB1 : Hid ((t1.alloc (.cells #[.int .i64 (b : Int), .int .i64 (p : Int), .int .i64 (s : Int), .slice none 0 0, .slice (some ⟨gm, 0, none⟩) b b] 30)).heap[t1.heap.size]? = some (.cells #[.int .i64 (b : Int), .int .i64 (p : Int), .int .i64 (s : Int), .slice none 0 0, .slice (some ⟨gm, 0, none⟩) b b] 30 (0, 0))) := heap_alloc_new _ _
       have HB2 : Hid (Below w.heap.size w (t1.alloc (.cells #[.int .i64 (b : Int), .int .i64 (p : Int), .int .i64 (s : Int), .slice none 0 0, .slice (some ⟨gm, 0, none⟩) b b] 30))) := (below_grown HB1.out g1 (by omega)).alloc (below_grown HB1.out g1 (by omega)).size _
       have HR2 : Hid (RdAt (t1.alloc (.cells #[.int .i64 (b : Int), .int .i64 (p : Int), .int .i64 (s : Int), .slice none 0 0, .slice (some ⟨gm, 0, none⟩) b b] 30)) w.heap.size (w.heap.size + 1) r) := rd1.below (below_alloc _ _)
       have HOM1 : Hid (OwnB (t1.alloc (.cells #[.int .i64 (b : Int), .int .i64 (p : Int), .int .i64 (s : Int), .slice none 0 0, .slice (some ⟨gm, 0, none⟩) b b] 30)) (w.heap.size + 2) gm b b mk) := by
         have h9 := om.below (below_alloc t1 (.cells #[.int .i64 (b : Int), .int .i64 (p : Int), .int .i64 (s : Int), .slice none 0 0, .slice (some ⟨gm, 0, none⟩) b b] 30))
         simp only [World.size_alloc] at h9
         exact h9
       have HS1 : Hid (w.heap.size + 2 ≤ t1.heap.size ∧ gm < t1.heap.size) := ⟨by have := g1.size; simp at this; omega, om.lt.2⟩
       have hf' : Fits (b : Int) (p : Int) (s : Int) = true := hf
       clear g1 rd1 om hf
       obtain ⟨m0, m1, m2, m3, m4⟩ := cells5 HMB1.out)
    | (go_at_call 32; refine (pieces_any w.heap.size (w.heap.size + 1) b p s (256 * s) (54 + 3 * s) rfl rfl r _ HR2.out hrl hf').mono ?_; rintro e t2 ⟨res, g2⟩; rw [HPS.out] at res; obtain ⟨rfl, hx0⟩ := res
       have HRB2 : Hid (t2.heap[w.heap.size]? = some (.cells #[.int .i64 0, .int .i64 0, .int .i64 0, .slice none 0 0, .slice none 0 0] 30 (0, 0))) := (g2.block _ (Array.getElem?_eq_some_iff.1 HRB1.out).1 (fun e => by have e' := Option.some.inj e; omega)).trans HRB1.out
       have HMB2 : Hid (t2.heap[t1.heap.size]? = some (.cells #[.int .i64 (b : Int), .int .i64 (p : Int), .int .i64 (s : Int), .slice none 0 0, .slice (some ⟨gm, 0, none⟩) b b] 30 (0, 0))) := (g2.block _ (Array.getElem?_eq_some_iff.1 HMB1.out).1 (fun e => by have e' := Option.some.inj e; have := HS1.out; omega)).trans HMB1.out
       have HB3 : Hid (Below w.heap.size w t2) := below_grown HB2.out g2 (by omega)
       have HOM2 : Hid (OwnB t2 (w.heap.size + 2) gm b b mk) := HOM1.out.apart g2 (by have := HOM1.out.lt; omega)
       have HS2 : Hid (t1.heap.size + 1 ≤ t2.heap.size) := by have := g2.size; unfold Hid; simp at this; omega
       have hx1 : (x == 0) = false := (by rw [beq_eq_false_iff_ne]; exact hx0)
       clear g2 m0 m1 m2 m3 m4
       obtain ⟨r0, r1, r2, r3, r4⟩ := cells5 HRB2.out
       have rf := frozen5 HRB2.out
       have rf0 := rf 0
       have rf1 := rf 1
       have rf2 := rf 2
       have rf3 := rf 3
       have rf4 := rf 4
       clear rf))
  exact bodyPost_ret (v := .tuple #[.agg #[.int .i64 0, .int .i64 0, .int .i64 0, .slice none 0 0, .slice none 0 0], .int .i64 x]) (by obtain ⟨y0, y1, y2, y3, y4⟩ := cells5 (blk5_set HRB2.out (.int .i64 0) (.int .i64 0) (.int .i64 0) (.slice none 0 0) (.slice none 0 0)); simp [results, Tryd.results9, go_sem, y0, y1, y2, y3, y4]) rfl ⟨hx0, rfl, below_grown HB3.out (grown5 _ _ _ _ _ _ _) (Nat.le_refl _)⟩

set_option maxHeartbeats 2000000 in
set_option maxRecDepth 100000 in
theorem read_end (bk off c : Nat) (bs : List Int) (w : World) (hr : Reads w (some ⟨bk, off, none⟩) bs.length bs) (hl : bs.length ≤ 200000000000000) (hnc : bs.length ≤ c) (hc : c ≤ 9223372036854775807) (hbk : bk < w.heap.size) (ht : Tab w) (b p s : Nat) (mk : List Bool) (r : List Int) (hx : rdHead bs = .ok (b, p, s, mk, r)) (ps : List Pc) (t : List Int) (hp : rdPs (256 * s) (54 + 3 * s) (b * p) (b * p) Pc.z r = .ok (ps, t)) (x : Int) (he : rdEnd bs t = x) (hx0 : x ≠ 0) :
    Calls Tryd.prog 9 #[.slice (some ⟨bk, off, none⟩) bs.length c] w fun e w' => e = .returned (.tuple #[.agg #[.int .i64 0, .int .i64 0, .int .i64 0, .slice none 0 0, .slice none 0 0], .int .i64 x]) ∧ Below w.heap.size w w' := by
  have hby := hr.2.1
  have HRD : Hid (Reads w (some ⟨bk, off, none⟩) bs.length bs) := hr
  have hR1 : RdAt ((w.alloc (.cells #[.int .i64 0, .int .i64 0, .int .i64 0, .slice none 0 0, .slice none 0 0] 30)).alloc (.cells #[.slice (some ⟨bk, off, none⟩) bs.length c] 70)) w.heap.size (w.heap.size + 1) bs := by
    refine ⟨bk, off, c, ?_, (hr.below (below_alloc w _)).below (below_alloc _ _), hnc, hc, hbk, by omega⟩
    have h9 := heap_alloc_new (w.alloc (.cells #[.int .i64 0, .int .i64 0, .int .i64 0, .slice none 0 0, .slice none 0 0] 30)) (.cells #[.slice (some ⟨bk, off, none⟩) bs.length c] 70); rw [World.size_alloc] at h9; exact h9
  have hrb : ((w.alloc (.cells #[.int .i64 0, .int .i64 0, .int .i64 0, .slice none 0 0, .slice none 0 0] 30)).alloc (.cells #[.slice (some ⟨bk, off, none⟩) bs.length c] 70)).heap[w.heap.size]? = some (.cells #[.int .i64 0, .int .i64 0, .int .i64 0, .slice none 0 0, .slice none 0 0] 30 (0, 0)) := by
    rw [Below.heap_alloc _ _ _ (by simp)]; exact heap_alloc_new _ _
  have hb1 : Below w.heap.size w ((w.alloc (.cells #[.int .i64 0, .int .i64 0, .int .i64 0, .slice none 0 0, .slice none 0 0] 30)).alloc (.cells #[.slice (some ⟨bk, off, none⟩) bs.length c] 70)) := below_trans (below_alloc w _) (below_alloc _ _)
  have HR1 : Hid (RdAt ((w.alloc (.cells #[.int .i64 0, .int .i64 0, .int .i64 0, .slice none 0 0, .slice none 0 0] 30)).alloc (.cells #[.slice (some ⟨bk, off, none⟩) bs.length c] 70)) w.heap.size (w.heap.size + 1) bs) := hR1
  have HRB : Hid (((w.alloc (.cells #[.int .i64 0, .int .i64 0, .int .i64 0, .slice none 0 0, .slice none 0 0] 30)).alloc (.cells #[.slice (some ⟨bk, off, none⟩) bs.length c] 70)).heap[w.heap.size]? = some (.cells #[.int .i64 0, .int .i64 0, .int .i64 0, .slice none 0 0, .slice none 0 0] 30 (0, 0))) := hrb
  have HB1 : Hid (Below w.heap.size w ((w.alloc (.cells #[.int .i64 0, .int .i64 0, .int .i64 0, .slice none 0 0, .slice none 0 0] 30)).alloc (.cells #[.slice (some ⟨bk, off, none⟩) bs.length c] 70))) := hb1
  have HTB : Hid (Tab w) := ht
  have HBY : Hid (Byt bs) := hby
  clear hR1 hrb hb1 hr ht hby
  have HX : Hid (rdHead bs = .ok (b, p, s, mk, r)) := hx
  have HPS : Hid (rdPs (256 * s) (54 + 3 * s) (b * p) (b * p) Pc.z r = .ok (ps, t)) := hp
  obtain ⟨s1, s2, s3⟩ := rdHead_sound HBY.out hx
  have hbr : Byt r := fun x hx => HBY.out x (by rw [s1]; exact List.mem_append_right _ hx)
  have hpf := ps_facts hbr hp
  have HPF : Hid ((∀ p ∈ ps, p.g.length = 256 * s + (54 + 3 * s)) ∧ ps.length ≤ b * p ∧ cnt ps = b * p ∧ (pgs ps).flatten.length = b * p * (256 * s + (54 + 3 * s)) ∧ t.length ≤ r.length) := hpf
  have HTL : Hid (t.length ≤ bs.length) := by
    unfold Hid
    have h9 := hpf.2.2.2.2
    rw [s1, List.length_append]
    omega
  have HFB := fits_nat s2
  have HFT : Hid (8 ≤ b ∧ b ≤ 4096 ∧ 4 ≤ p ∧ p ≤ 256 ∧ 1 ≤ s ∧ s ≤ 8 ∧ b * p ≤ 65536) := HFB
  clear hx hp s1 s2 s3 hbr hpf HFB
  have HEN : Hid (rdEnd bs t = x) := he
  have hx1 : (x == 0) = false := (by rw [beq_eq_false_iff_ne]; exact hx0)
  clear he
  go_enter Tryd.func9, Tryd.ntmps9
  go_wp2_with (first
    | (go_at_call 31; refine (front_any w.heap.size (w.heap.size + 1) bs _ HR1.out hl).mono ?_; rintro e t1 ⟨res, g1⟩; rw [HX.out] at res; obtain ⟨hf, gm, rfl, om, rd1, hrl⟩ := res
       have HRB1 : Hid ((t1.alloc (.cells #[.int .i64 (b : Int), .int .i64 (p : Int), .int .i64 (s : Int), .slice none 0 0, .slice (some ⟨gm, 0, none⟩) b b] 30)).heap[w.heap.size]? = some (.cells #[.int .i64 0, .int .i64 0, .int .i64 0, .slice none 0 0, .slice none 0 0] 30 (0, 0))) := by
         have h9 : t1.heap[w.heap.size]? = some (.cells #[.int .i64 0, .int .i64 0, .int .i64 0, .slice none 0 0, .slice none 0 0] 30 (0, 0)) := (g1.block _ (Array.getElem?_eq_some_iff.1 HRB.out).1 (fun e => by have e' := Option.some.inj e; omega)).trans HRB.out
         exact (Below.heap_alloc t1 (.cells #[.int .i64 (b : Int), .int .i64 (p : Int), .int .i64 (s : Int), .slice none 0 0, .slice (some ⟨gm, 0, none⟩) b b] 30) _ (Array.getElem?_eq_some_iff.1 h9).1).trans h9
       have HMB1 : Hid ((t1.alloc (.cells #[.int .i64 (b : Int), .int .i64 (p : Int), .int .i64 (s : Int), .slice none 0 0, .slice (some ⟨gm, 0, none⟩) b b] 30)).heap[t1.heap.size]? = some (.cells #[.int .i64 (b : Int), .int .i64 (p : Int), .int .i64 (s : Int), .slice none 0 0, .slice (some ⟨gm, 0, none⟩) b b] 30 (0, 0))) := heap_alloc_new _ _
       have HB2 : Hid (Below w.heap.size w (t1.alloc (.cells #[.int .i64 (b : Int), .int .i64 (p : Int), .int .i64 (s : Int), .slice none 0 0, .slice (some ⟨gm, 0, none⟩) b b] 30))) := (below_grown HB1.out g1 (by omega)).alloc (below_grown HB1.out g1 (by omega)).size _
       have HR2 : Hid (RdAt (t1.alloc (.cells #[.int .i64 (b : Int), .int .i64 (p : Int), .int .i64 (s : Int), .slice none 0 0, .slice (some ⟨gm, 0, none⟩) b b] 30)) w.heap.size (w.heap.size + 1) r) := rd1.below (below_alloc _ _)
       have HOM1 : Hid (OwnB (t1.alloc (.cells #[.int .i64 (b : Int), .int .i64 (p : Int), .int .i64 (s : Int), .slice none 0 0, .slice (some ⟨gm, 0, none⟩) b b] 30)) (w.heap.size + 2) gm b b mk) := by
         have h9 := om.below (below_alloc t1 (.cells #[.int .i64 (b : Int), .int .i64 (p : Int), .int .i64 (s : Int), .slice none 0 0, .slice (some ⟨gm, 0, none⟩) b b] 30))
         simp only [World.size_alloc] at h9
         exact h9
       have HS1 : Hid (w.heap.size + 2 ≤ t1.heap.size ∧ gm < t1.heap.size) := ⟨by have := g1.size; simp at this; omega, om.lt.2⟩
       have hf' : Fits (b : Int) (p : Int) (s : Int) = true := hf
       clear g1 rd1 om hf
       obtain ⟨m0, m1, m2, m3, m4⟩ := cells5 HMB1.out)
    | (go_at_call 32; refine (pieces_any w.heap.size (w.heap.size + 1) b p s (256 * s) (54 + 3 * s) rfl rfl r _ HR2.out hrl hf').mono ?_; rintro e t2 ⟨res, g2⟩; rw [HPS.out] at res; obtain ⟨v, es, rfl, hes, ov, oks, rd2, htl⟩ := res
       have HRB2 : Hid (t2.heap[w.heap.size]? = some (.cells #[.int .i64 0, .int .i64 0, .int .i64 0, .slice none 0 0, .slice none 0 0] 30 (0, 0))) := (g2.block _ (Array.getElem?_eq_some_iff.1 HRB1.out).1 (fun e => by have e' := Option.some.inj e; omega)).trans HRB1.out
       have HMB2 : Hid (t2.heap[t1.heap.size]? = some (.cells #[.int .i64 (b : Int), .int .i64 (p : Int), .int .i64 (s : Int), .slice none 0 0, .slice (some ⟨gm, 0, none⟩) b b] 30 (0, 0))) := (g2.block _ (Array.getElem?_eq_some_iff.1 HMB1.out).1 (fun e => by have e' := Option.some.inj e; have := HS1.out; omega)).trans HMB1.out
       have HB3 : Hid (Below w.heap.size w t2) := below_grown HB2.out g2 (by omega)
       have HOM2 : Hid (OwnB t2 (w.heap.size + 2) gm b b mk) := HOM1.out.apart g2 (by have := HOM1.out.lt; omega)
       have HS2 : Hid (t1.heap.size + 1 ≤ t2.heap.size) := by have := g2.size; unfold Hid; simp at this; omega
       have HOV : Hid (t2.ownsRow (t1.heap.size + 1) 102 3 v es.length (flatE es)) := by have h9 := ov; simp only [World.size_alloc] at h9; exact h9
       have HOK : Hid (∀ x ∈ es, x.Ok t2 (t1.heap.size + 1)) := by have h9 := oks; simp only [World.size_alloc] at h9; exact h9
       have HR3 : Hid (RdAt t2 w.heap.size (w.heap.size + 1) t) := rd2
       have HES : Hid (es.map En.p = ps) := hes
       clear ov oks rd2 hes
       clear g2 m0 m1 m2 m3 m4
       obtain ⟨r0, r1, r2, r3, r4⟩ := cells5 HRB2.out
       have rf := frozen5 HRB2.out
       have rf0 := rf 0
       have rf1 := rf 1
       have rf2 := rf 2
       have rf3 := rf 3
       have rf4 := rf 4
       clear rf)
    | (go_at_call 33; refine (end_any w.heap.size (w.heap.size + 1) bk off bs.length c bs t _ HR3.out (HRD.out.below HB3.out) hl hnc hc HTL.out hbk (HTB.out.below HB3.out)).mono ?_; rintro e t3 ⟨rfl, g3⟩; rw [HEN.out]
       have HRB3 : Hid (t3.heap[w.heap.size]? = some (.cells #[.int .i64 0, .int .i64 0, .int .i64 0, .slice none 0 0, .slice none 0 0] 30 (0, 0))) := (g3.block _ (Array.getElem?_eq_some_iff.1 HRB2.out).1 (fun e => by have e' := Option.some.inj e; omega)).trans HRB2.out
       have HMB3 : Hid (t3.heap[t1.heap.size]? = some (.cells #[.int .i64 (b : Int), .int .i64 (p : Int), .int .i64 (s : Int), .slice none 0 0, .slice (some ⟨gm, 0, none⟩) b b] 30 (0, 0))) := (g3.block _ (Array.getElem?_eq_some_iff.1 HMB2.out).1 (fun e => by have e' := Option.some.inj e; have := HS1.out; omega)).trans HMB2.out
       have HB4 : Hid (Below w.heap.size w t3) := below_grown HB3.out g3 (by omega)
       have HOM3 : Hid (OwnB t3 (w.heap.size + 2) gm b b mk) := HOM2.out.apart g3 (by have := HOM2.out.lt; omega)
       have HS3 : Hid (t2.heap.size ≤ t3.heap.size) := g3.size
       have HNT : Hid (¬ Ty5 t2 (w.heap.size + 1)) := by obtain ⟨b9, o9, c9, h9, _⟩ := HR3.out; exact not_ty5 h9 (by decide)
       have HOV3 : Hid (t3.ownsRow (t1.heap.size + 1) 102 3 v es.length (flatE es)) := HOV.out.kept g3 (Or.inr (fun e9 => by have := (HOV.out.lt _ e9).1; have := HS1.out; omega))
       have HOK3 : Hid (∀ x ∈ es, x.Ok t3 (t1.heap.size + 1)) := fun x hx => (HOK.out x hx).kept g3 (fun j e9 => by cases e9; exact HNT.out)
       clear g3 r0 r1 r2 r3 r4 rf0 rf1 rf2 rf3 rf4
       obtain ⟨r0, r1, r2, r3, r4⟩ := cells5 HRB3.out
       have rf := frozen5 HRB3.out
       have rf0 := rf 0
       have rf1 := rf 1
       have rf2 := rf 2
       have rf3 := rf 3
       have rf4 := rf 4
       clear rf))
  exact bodyPost_ret (v := .tuple #[.agg #[.int .i64 0, .int .i64 0, .int .i64 0, .slice none 0 0, .slice none 0 0], .int .i64 x]) (by obtain ⟨y0, y1, y2, y3, y4⟩ := cells5 (blk5_set HRB3.out (.int .i64 0) (.int .i64 0) (.int .i64 0) (.slice none 0 0) (.slice none 0 0)); simp [results, Tryd.results9, go_sem, y0, y1, y2, y3, y4]) rfl ⟨rfl, below_grown HB4.out (grown5 _ _ _ _ _ _ _) (Nat.le_refl _)⟩

set_option maxHeartbeats 4000000 in
set_option maxRecDepth 100000 in
theorem read_ok (bk off c : Nat) (bs : List Int) (w : World) (hr : Reads w (some ⟨bk, off, none⟩) bs.length bs) (hl : bs.length ≤ 200000000000000) (hnc : bs.length ≤ c) (hc : c ≤ 9223372036854775807) (hbk : bk < w.heap.size) (ht : Tab w) (b p s : Nat) (mk : List Bool) (r : List Int) (hx : rdHead bs = .ok (b, p, s, mk, r)) (ps : List Pc) (t : List Int) (hp : rdPs (256 * s) (54 + 3 * s) (b * p) (b * p) Pc.z r = .ok (ps, t)) (he : rdEnd bs t = 0) :
    Calls Tryd.prog 9 #[.slice (some ⟨bk, off, none⟩) bs.length c] w fun e w' => RdRes w w' e (.ok ⟨b, p, s, (pgs ps).flatten, mk⟩) ∧ Below w.heap.size w w' := by
  have hby := hr.2.1
  have HRD : Hid (Reads w (some ⟨bk, off, none⟩) bs.length bs) := hr
  have hR1 : RdAt ((w.alloc (.cells #[.int .i64 0, .int .i64 0, .int .i64 0, .slice none 0 0, .slice none 0 0] 30)).alloc (.cells #[.slice (some ⟨bk, off, none⟩) bs.length c] 70)) w.heap.size (w.heap.size + 1) bs := by
    refine ⟨bk, off, c, ?_, (hr.below (below_alloc w _)).below (below_alloc _ _), hnc, hc, hbk, by omega⟩
    have h9 := heap_alloc_new (w.alloc (.cells #[.int .i64 0, .int .i64 0, .int .i64 0, .slice none 0 0, .slice none 0 0] 30)) (.cells #[.slice (some ⟨bk, off, none⟩) bs.length c] 70); rw [World.size_alloc] at h9; exact h9
  have hrb : ((w.alloc (.cells #[.int .i64 0, .int .i64 0, .int .i64 0, .slice none 0 0, .slice none 0 0] 30)).alloc (.cells #[.slice (some ⟨bk, off, none⟩) bs.length c] 70)).heap[w.heap.size]? = some (.cells #[.int .i64 0, .int .i64 0, .int .i64 0, .slice none 0 0, .slice none 0 0] 30 (0, 0)) := by
    rw [Below.heap_alloc _ _ _ (by simp)]; exact heap_alloc_new _ _
  have hb1 : Below w.heap.size w ((w.alloc (.cells #[.int .i64 0, .int .i64 0, .int .i64 0, .slice none 0 0, .slice none 0 0] 30)).alloc (.cells #[.slice (some ⟨bk, off, none⟩) bs.length c] 70)) := below_trans (below_alloc w _) (below_alloc _ _)
  have HR1 : Hid (RdAt ((w.alloc (.cells #[.int .i64 0, .int .i64 0, .int .i64 0, .slice none 0 0, .slice none 0 0] 30)).alloc (.cells #[.slice (some ⟨bk, off, none⟩) bs.length c] 70)) w.heap.size (w.heap.size + 1) bs) := hR1
  have HRB : Hid (((w.alloc (.cells #[.int .i64 0, .int .i64 0, .int .i64 0, .slice none 0 0, .slice none 0 0] 30)).alloc (.cells #[.slice (some ⟨bk, off, none⟩) bs.length c] 70)).heap[w.heap.size]? = some (.cells #[.int .i64 0, .int .i64 0, .int .i64 0, .slice none 0 0, .slice none 0 0] 30 (0, 0))) := hrb
  have HB1 : Hid (Below w.heap.size w ((w.alloc (.cells #[.int .i64 0, .int .i64 0, .int .i64 0, .slice none 0 0, .slice none 0 0] 30)).alloc (.cells #[.slice (some ⟨bk, off, none⟩) bs.length c] 70))) := hb1
  have HTB : Hid (Tab w) := ht
  have HBY : Hid (Byt bs) := hby
  clear hR1 hrb hb1 hr ht hby
  have HX : Hid (rdHead bs = .ok (b, p, s, mk, r)) := hx
  have HPS : Hid (rdPs (256 * s) (54 + 3 * s) (b * p) (b * p) Pc.z r = .ok (ps, t)) := hp
  obtain ⟨s1, s2, s3⟩ := rdHead_sound HBY.out hx
  have hbr : Byt r := fun x hx => HBY.out x (by rw [s1]; exact List.mem_append_right _ hx)
  have hpf := ps_facts hbr hp
  have HPF : Hid ((∀ p ∈ ps, p.g.length = 256 * s + (54 + 3 * s)) ∧ ps.length ≤ b * p ∧ cnt ps = b * p ∧ (pgs ps).flatten.length = b * p * (256 * s + (54 + 3 * s)) ∧ t.length ≤ r.length) := hpf
  have HTL : Hid (t.length ≤ bs.length) := by
    unfold Hid
    have h9 := hpf.2.2.2.2
    rw [s1, List.length_append]
    omega
  have HFB := fits_nat s2
  have HFT : Hid (8 ≤ b ∧ b ≤ 4096 ∧ 4 ≤ p ∧ p ≤ 256 ∧ 1 ≤ s ∧ s ≤ 8 ∧ b * p ≤ 65536) := HFB
  clear hx hp s1 s2 s3 hbr hpf HFB
  have HEN : Hid (rdEnd bs t = 0) := he
  obtain ⟨K, hK⟩ : ∃ K, (pgs ps).flatten.length = K := ⟨_, rfl⟩
  have HKL : Hid ((pgs ps).flatten.length = K) := hK
  clear hK
  clear he
  go_enter Tryd.func9, Tryd.ntmps9
  go_wp2_with (first
    | (go_at_call 31; refine (front_any w.heap.size (w.heap.size + 1) bs _ HR1.out hl).mono ?_; rintro e t1 ⟨res, g1⟩; rw [HX.out] at res; obtain ⟨hf, gm, rfl, om, rd1, hrl⟩ := res
       have HRB1 : Hid ((t1.alloc (.cells #[.int .i64 (b : Int), .int .i64 (p : Int), .int .i64 (s : Int), .slice none 0 0, .slice (some ⟨gm, 0, none⟩) b b] 30)).heap[w.heap.size]? = some (.cells #[.int .i64 0, .int .i64 0, .int .i64 0, .slice none 0 0, .slice none 0 0] 30 (0, 0))) := by
         have h9 : t1.heap[w.heap.size]? = some (.cells #[.int .i64 0, .int .i64 0, .int .i64 0, .slice none 0 0, .slice none 0 0] 30 (0, 0)) := (g1.block _ (Array.getElem?_eq_some_iff.1 HRB.out).1 (fun e => by have e' := Option.some.inj e; omega)).trans HRB.out
         exact (Below.heap_alloc t1 (.cells #[.int .i64 (b : Int), .int .i64 (p : Int), .int .i64 (s : Int), .slice none 0 0, .slice (some ⟨gm, 0, none⟩) b b] 30) _ (Array.getElem?_eq_some_iff.1 h9).1).trans h9
       have HMB1 : Hid ((t1.alloc (.cells #[.int .i64 (b : Int), .int .i64 (p : Int), .int .i64 (s : Int), .slice none 0 0, .slice (some ⟨gm, 0, none⟩) b b] 30)).heap[t1.heap.size]? = some (.cells #[.int .i64 (b : Int), .int .i64 (p : Int), .int .i64 (s : Int), .slice none 0 0, .slice (some ⟨gm, 0, none⟩) b b] 30 (0, 0))) := heap_alloc_new _ _
       have HB2 : Hid (Below w.heap.size w (t1.alloc (.cells #[.int .i64 (b : Int), .int .i64 (p : Int), .int .i64 (s : Int), .slice none 0 0, .slice (some ⟨gm, 0, none⟩) b b] 30))) := (below_grown HB1.out g1 (by omega)).alloc (below_grown HB1.out g1 (by omega)).size _
       have HR2 : Hid (RdAt (t1.alloc (.cells #[.int .i64 (b : Int), .int .i64 (p : Int), .int .i64 (s : Int), .slice none 0 0, .slice (some ⟨gm, 0, none⟩) b b] 30)) w.heap.size (w.heap.size + 1) r) := rd1.below (below_alloc _ _)
       have HOM1 : Hid (OwnB (t1.alloc (.cells #[.int .i64 (b : Int), .int .i64 (p : Int), .int .i64 (s : Int), .slice none 0 0, .slice (some ⟨gm, 0, none⟩) b b] 30)) (w.heap.size + 2) gm b b mk) := by
         have h9 := om.below (below_alloc t1 (.cells #[.int .i64 (b : Int), .int .i64 (p : Int), .int .i64 (s : Int), .slice none 0 0, .slice (some ⟨gm, 0, none⟩) b b] 30))
         simp only [World.size_alloc] at h9
         exact h9
       have HS1 : Hid (w.heap.size + 2 ≤ t1.heap.size ∧ gm < t1.heap.size) := ⟨by have := g1.size; simp at this; omega, om.lt.2⟩
       have hf' : Fits (b : Int) (p : Int) (s : Int) = true := hf
       clear g1 rd1 om hf
       obtain ⟨m0, m1, m2, m3, m4⟩ := cells5 HMB1.out)
    | (go_at_call 32; refine (pieces_any w.heap.size (w.heap.size + 1) b p s (256 * s) (54 + 3 * s) rfl rfl r _ HR2.out hrl hf').mono ?_; rintro e t2 ⟨res, g2⟩; rw [HPS.out] at res; obtain ⟨v, es, rfl, hes, ov, oks, rd2, htl⟩ := res
       have HRB2 : Hid (t2.heap[w.heap.size]? = some (.cells #[.int .i64 0, .int .i64 0, .int .i64 0, .slice none 0 0, .slice none 0 0] 30 (0, 0))) := (g2.block _ (Array.getElem?_eq_some_iff.1 HRB1.out).1 (fun e => by have e' := Option.some.inj e; omega)).trans HRB1.out
       have HMB2 : Hid (t2.heap[t1.heap.size]? = some (.cells #[.int .i64 (b : Int), .int .i64 (p : Int), .int .i64 (s : Int), .slice none 0 0, .slice (some ⟨gm, 0, none⟩) b b] 30 (0, 0))) := (g2.block _ (Array.getElem?_eq_some_iff.1 HMB1.out).1 (fun e => by have e' := Option.some.inj e; have := HS1.out; omega)).trans HMB1.out
       have HB3 : Hid (Below w.heap.size w t2) := below_grown HB2.out g2 (by omega)
       have HOM2 : Hid (OwnB t2 (w.heap.size + 2) gm b b mk) := HOM1.out.apart g2 (by have := HOM1.out.lt; omega)
       have HS2 : Hid (t1.heap.size + 1 ≤ t2.heap.size) := by have := g2.size; unfold Hid; simp at this; omega
       have HOV : Hid (t2.ownsRow (t1.heap.size + 1) 102 3 v es.length (flatE es)) := by have h9 := ov; simp only [World.size_alloc] at h9; exact h9
       have HOK : Hid (∀ x ∈ es, x.Ok t2 (t1.heap.size + 1)) := by have h9 := oks; simp only [World.size_alloc] at h9; exact h9
       have HR3 : Hid (RdAt t2 w.heap.size (w.heap.size + 1) t) := rd2
       have HES : Hid (es.map En.p = ps) := hes
       clear ov oks rd2 hes
       clear g2 m0 m1 m2 m3 m4
       obtain ⟨r0, r1, r2, r3, r4⟩ := cells5 HRB2.out
       have rf := frozen5 HRB2.out
       have rf0 := rf 0
       have rf1 := rf 1
       have rf2 := rf 2
       have rf3 := rf 3
       have rf4 := rf 4
       clear rf)
    | (go_at_call 33; refine (end_any w.heap.size (w.heap.size + 1) bk off bs.length c bs t _ HR3.out (HRD.out.below HB3.out) hl hnc hc HTL.out hbk (HTB.out.below HB3.out)).mono ?_; rintro e t3 ⟨rfl, g3⟩; rw [HEN.out]
       have HRB3 : Hid (t3.heap[w.heap.size]? = some (.cells #[.int .i64 0, .int .i64 0, .int .i64 0, .slice none 0 0, .slice none 0 0] 30 (0, 0))) := (g3.block _ (Array.getElem?_eq_some_iff.1 HRB2.out).1 (fun e => by have e' := Option.some.inj e; omega)).trans HRB2.out
       have HMB3 : Hid (t3.heap[t1.heap.size]? = some (.cells #[.int .i64 (b : Int), .int .i64 (p : Int), .int .i64 (s : Int), .slice none 0 0, .slice (some ⟨gm, 0, none⟩) b b] 30 (0, 0))) := (g3.block _ (Array.getElem?_eq_some_iff.1 HMB2.out).1 (fun e => by have e' := Option.some.inj e; have := HS1.out; omega)).trans HMB2.out
       have HB4 : Hid (Below w.heap.size w t3) := below_grown HB3.out g3 (by omega)
       have HOM3 : Hid (OwnB t3 (w.heap.size + 2) gm b b mk) := HOM2.out.apart g3 (by have := HOM2.out.lt; omega)
       have HS3 : Hid (t2.heap.size ≤ t3.heap.size) := g3.size
       have HNT : Hid (¬ Ty5 t2 (w.heap.size + 1)) := by obtain ⟨b9, o9, c9, h9, _⟩ := HR3.out; exact not_ty5 h9 (by decide)
       have HOV3 : Hid (t3.ownsRow (t1.heap.size + 1) 102 3 v es.length (flatE es)) := HOV.out.kept g3 (Or.inr (fun e9 => by have := (HOV.out.lt _ e9).1; have := HS1.out; omega))
       have HOK3 : Hid (∀ x ∈ es, x.Ok t3 (t1.heap.size + 1)) := fun x hx => (HOK.out x hx).kept g3 (fun j e9 => by cases e9; exact HNT.out)
       clear g3 r0 r1 r2 r3 r4 rf0 rf1 rf2 rf3 rf4
       obtain ⟨r0, r1, r2, r3, r4⟩ := cells5 HRB3.out
       have rf := frozen5 HRB3.out
       have rf0 := rf 0
       have rf1 := rf 1
       have rf2 := rf 2
       have rf3 := rf 3
       have rf4 := rf 4
       clear rf)
    | (go_at_call 34; refine (laid_any (t1.heap.size + 1) v es _ HOV3.out HOK3.out (by rw [fl_len, HES.out, HPF.out.2.2.1]; exact HFT.out.2.2.2.2.2.2) (by have h1 := HPF.out.2.1; rw [← HES.out, List.length_map] at h1; have h2 := HFT.out.2.2.2.2.2.2; omega) (fun x hx => by have h1 := HPF.out.1 x.p (by rw [← HES.out]; exact List.mem_map_of_mem hx); have h2 := (HOK3.out x hx).1.reads.1; have h3 := HFT.out; omega) (by rw [HES.out, HPF.out.2.2.2.1]; have h3 := HFT.out; exact Nat.mul_pos (Nat.mul_pos (by omega) (by omega)) (by omega))).mono ?_; rintro e t4 ⟨g, cc, rfl, own4, b4⟩; rw [HES.out, HKL.out] at own4 ⊢
       have HRB4 : Hid (t4.heap[w.heap.size]? = some (.cells #[.int .i64 0, .int .i64 0, .int .i64 0, .slice none 0 0, .slice none 0 0] 30 (0, 0))) := (b4.block _ (Array.getElem?_eq_some_iff.1 HRB3.out).1).trans HRB3.out
       have HMB4 : Hid (t4.heap[t1.heap.size]? = some (.cells #[.int .i64 (b : Int), .int .i64 (p : Int), .int .i64 (s : Int), .slice none 0 0, .slice (some ⟨gm, 0, none⟩) b b] 30 (0, 0))) := (b4.block _ (Array.getElem?_eq_some_iff.1 HMB3.out).1).trans HMB3.out
       have HB5 : Hid (Below w.heap.size w t4) := below_trans HB4.out b4
       have HOM4 : Hid (OwnB t4 (w.heap.size + 2) gm b b mk) := HOM3.out.below b4
       have HO4 : Hid (Own t4 t3.heap.size g K cc (pgs ps).flatten) := own4
       clear own4 b4 r0 r1 r2 r3 r4 rf0 rf1 rf2 rf3 rf4
       obtain ⟨m0, m1, m2, m3, m4⟩ := cells5 HMB4.out
       have mf := frozen5 HMB4.out
       have mf3 := mf 3
       clear mf
       obtain ⟨T4, hT4⟩ : ∃ T4, t4.setCell ⟨t1.heap.size, 3, none⟩ (.slice (some ⟨g, 0, none⟩) K cc) = T4 := ⟨_, rfl⟩
       have g5 := set_grown t4 t1.heap.size 3 (.slice (some ⟨g, 0, none⟩) K cc)
       have HMB5 : Hid (T4.heap[t1.heap.size]? = some (.cells #[.int .i64 (b : Int), .int .i64 (p : Int), .int .i64 (s : Int), .slice (some ⟨g, 0, none⟩) K cc, .slice (some ⟨gm, 0, none⟩) b b] 30 (0, 0))) := by unfold Hid; rw [← hT4]; exact Joins.block_setCell HMB4.out _
       rw [hT4] at g5
       have HRB5 : Hid (T4.heap[w.heap.size]? = some (.cells #[.int .i64 0, .int .i64 0, .int .i64 0, .slice none 0 0, .slice none 0 0] 30 (0, 0))) := (g5.block _ (Array.getElem?_eq_some_iff.1 HRB4.out).1 (fun e => by have e' := Option.some.inj e; have := HS1.out; omega)).trans HRB4.out
       have HB6 : Hid (Below w.heap.size w T4) := below_grown HB5.out g5 (by have := HS1.out; omega)
       have HOM5 : Hid (OwnB T4 (w.heap.size + 2) gm b b mk) := HOM4.out.apart g5 (by have := HS1.out; omega)
       have HO5 : Hid (Own T4 t3.heap.size g K cc (pgs ps).flatten) := HO4.out.apart g5 (by have := HO4.out.lt; have := HS2.out; have := HS3.out; omega)
       clear g5
       obtain ⟨k0, k1, k2, k3, k4⟩ := cells5 HMB5.out
       obtain ⟨r0, r1, r2, r3, r4⟩ := cells5 HRB5.out
       have rf := frozen5 HRB5.out
       have rf0 := rf 0
       have rf1 := rf 1
       have rf2 := rf 2
       have rf3 := rf 3
       have rf4 := rf 4
       clear rf))
  refine bodyPost_ret (v := .tuple #[.agg #[.int .i64 (b : Int), .int .i64 (p : Int), .int .i64 (s : Int), .slice (some ⟨g, 0, none⟩) K cc, .slice (some ⟨gm, 0, none⟩) b b], .int .i64 0]) (by obtain ⟨y0, y1, y2, y3, y4⟩ := cells5 (blk5_set HRB5.out (.int .i64 (b : Int)) (.int .i64 (p : Int)) (.int .i64 (s : Int)) (.slice (some ⟨g, 0, none⟩) K cc) (.slice (some ⟨gm, 0, none⟩) b b)); simp [results, Tryd.results9, go_sem, y0, y1, y2, y3, y4]) rfl ?_
  have gF := grown5 T4 w.heap.size (.int .i64 (b : Int)) (.int .i64 (p : Int)) (.int .i64 (s : Int)) (.slice (some ⟨g, 0, none⟩) K cc) (.slice (some ⟨gm, 0, none⟩) b b)
  have h3 := HB4.out.size
  refine ⟨⟨g, cc, gm, by simp only [HKL.out], ?_, ?_⟩, below_grown HB6.out gF (Nat.le_refl _)⟩
  · simp only [HKL.out]
    exact (HO5.out.base h3).apart gF (by have := HO5.out.lt; have := HS1.out; have := HS2.out; have := HS3.out; omega)
  · exact (HOM5.out.base (by omega)).apart gF (by have := HOM5.out.lt; omega)

theorem read_any (bk off c : Nat) (bs : List Int) (w : World) (hr : Reads w (some ⟨bk, off, none⟩) bs.length bs) (hl : bs.length ≤ 200000000000000) (hnc : bs.length ≤ c) (hc : c ≤ 9223372036854775807) (hbk : bk < w.heap.size) (ht : Tab w) :
    Calls Tryd.prog 9 #[.slice (some ⟨bk, off, none⟩) bs.length c] w fun e w' => RdRes w w' e (readR bs) ∧ Below w.heap.size w w' := by
  unfold readR
  cases hx : rdHead bs with
  | error x =>
    refine (read_front bk off c bs w hr hl hnc hc hbk ht x hx).mono fun e w' h => ⟨⟨h.2.1, h.1⟩, h.2.2⟩
  | ok y =>
    obtain ⟨b, p, s, mk, r⟩ := y
    simp only
    cases hp : rdPs (256 * s) (54 + 3 * s) (b * p) (b * p) Pc.z r with
    | error x =>
      refine (read_pieces bk off c bs w hr hl hnc hc hbk ht b p s mk r hx x hp).mono fun e w' h => ⟨⟨h.2.1, h.1⟩, h.2.2⟩
    | ok z =>
      obtain ⟨ps, t⟩ := z
      simp only
      by_cases he : rdEnd bs t = 0
      · rw [if_neg (by simp [he])]
        exact read_ok bk off c bs w hr hl hnc hc hbk ht b p s mk r hx ps t hp he
      · rw [if_pos he]
        exact (read_end bk off c bs w hr hl hnc hc hbk ht b p s mk r hx ps t hp _ rfl he).mono fun e w' h => ⟨⟨h.1, he⟩, h.2⟩

end Go.Proofs.YteefekhlbillfaaDoor
