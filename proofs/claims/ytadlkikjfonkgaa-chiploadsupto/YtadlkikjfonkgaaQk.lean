/-
  SEAT Ytadlkikjfonkgaa: Re.
-/
import Derived.Test.YtadlkikjfonkgaaQa
import Derived.Test.YtadlkikjfonkgaaQj
namespace Go.Proofs.Ytadlkikjfonkgaa
open Go.RowKit Go.Conc
set_option linter.unusedVariables false
set_option maxRecDepth 100000
set_option maxHeartbeats 4000000
variable {xs ys D Z : List Int} {j pl d1 e1 d2 e2 bx g1 g2 : Nat} {w u w0 w' : World} {k i : Int} {C : Ch}
def flipsL (xs : List Int) (l : List Nat) : List Int := l.foldl flipL xs
theorem flipL_left (h : j < 8 * xs.length) : flipL (xs ++ ys) j = flipL xs j ++ ys := by
 unfold flipL
 have h1 : j / 8 < xs.length := by omega
 have e : (xs ++ ys).getD (j / 8) 0 = xs.getD (j / 8) 0 := by rw [List.getD_eq_getElem?_getD, List.getD_eq_getElem?_getD, List.getElem?_append_left h1]
 rw [e, List.set_append_left _ _ h1]
theorem flipL_right (h : 8 * xs.length ≤ j) : flipL (xs ++ ys) j = xs ++ flipL ys (j - 8 * xs.length) := by
 unfold flipL
 have h1 : xs.length ≤ j / 8 := by omega
 have e0 : (j - 8 * xs.length) / 8 = j / 8 - xs.length := by omega
 have e1 : (j - 8 * xs.length) % 8 = j % 8 := by omega
 have e : (xs ++ ys).getD (j / 8) 0 = ys.getD (j / 8 - xs.length) 0 := by rw [List.getD_eq_getElem?_getD, List.getD_eq_getElem?_getD, List.getElem?_append_right h1]
 rw [e, e0, e1, List.set_append_right _ _ h1]
theorem flipsL_len (l : List Nat) : ∀ xs : List Int, (flipsL xs l).length = xs.length := by
 induction l with
 | nil => intro xs; rfl
 | cons j l ih => intro xs; show (flipsL (flipL xs j) l).length = _; rw [ih, flipL_length]
theorem flipsL_snoc (xs : List Int) (l : List Nat) (j : Nat) : flipsL xs (l ++ [j]) = flipL (flipsL xs l) j := by simp [flipsL]
theorem flipsL_range (l : List Nat) : ∀ xs : List Int, (∀ x ∈ xs, 0 ≤ x ∧ x ≤ 255) → ∀ x ∈ flipsL xs l, 0 ≤ x ∧ x ≤ 255 := by
 induction l with
 | nil => intro xs h; exact h
 | cons j l ih => intro xs h; exact ih _ (flipL_range xs j h)
theorem front_run (w : World) (a : Option Addr) (l c k : Nat) (hk : k ≤ c) : (Instr.sliceAt 24 (.slice a l c) none (some (.int .i64 (k : Int))) none).run Try.prog w = .ok (.slice a k c) w := by
 have h1 : (k : Int) ≤ c := by omega
 have h3 : (0 : Int) ≤ k := by omega
 simp [go_sem]
 intro h9
 omega
theorem front_reads {a : Option Addr} {l k : Nat} {zs : List Int} (h : Reads w a l zs) (hk : k ≤ l) : Reads w a k (zs.take k) := by
 obtain ⟨h1, h2, h3, h4⟩ := h
 refine ⟨by simp; omega, fun x hx => h2 x (List.mem_of_mem_take hx), (fun h => by have := h3 h; omega), fun x hx i hi => ?_⟩
 rw [h4 x hx i (by omega)]
 simp [List.getD, hi]
theorem findI_val (b p : Int) : ∀ (fe : List Fe) (i j : Nat), (findI b p fe i).map (·.2) = (findI b p fe j).map (·.2)
 | [], _, _ => rfl
 | f :: r, i, j => by
  unfold findI
  split
  ·rfl
  ·exact findI_val b p r (i + 1) (j + 1)
theorem lookV_cons (b p : Int) (f : Fe) (r : List Fe) : lookV (f :: r) b p = if isAt b p f then f.sl else lookV r b p := by
 unfold lookV
 conv => lhs; unfold findI
 by_cases h : isAt b p f = true
 ·rw [if_pos h, if_pos h]
 ·rw [if_neg h, if_neg h]
  have := findI_val b p r 1 0
  cases h1 : findI b p r 1 with
  | none => rw [h1] at this; cases h2 : findI b p r 0 with
   | none => rfl
   | some y => rw [h2] at this; cases this
  | some y => rw [h1] at this; cases h2 : findI b p r 0 with
   | none => rw [h2] at this; cases this
   | some z => rw [h2] at this; obtain ⟨y1, y2⟩ := y; obtain ⟨z1, z2⟩ := z; simp at this; rw [this]
theorem look_cons (b p : Int) (f : Fe) (r : List Fe) : look (f :: r) b p = if isAt b p f then f.xs else look r b p := by
 unfold look isAt
 by_cases h : (f.b == b && f.p == p) = true
 ·have e : f.b = b ∧ f.p = p := by simpa using h
  rw [if_pos (by rw [e.1, e.2]; simp)]
  simp [h]
 ·have h' : (f.b == b && f.p == p) = false := by simpa using h
  have h2 : ¬ (b == f.b && p == f.p) = true := fun hh => h (by
   have e : b = f.b ∧ p = f.p := by simpa using hh
   rw [e.1, e.2]; simp)
  rw [if_neg h2]
  simp [h']
theorem look_row {F : Nat → Prop} {gm : Nat} {fe : List Fe} (h : FlAt w F gm fe) (b p : Int) : ∃ la ln lc, lookV fe b p = .slice la ln lc ∧ w.ownsRow 0 3 1 (.slice la ln lc) ln ((look fe b p).map fun (i : Nat) => Value.int .i64 (i : Int)) ∧ ∀ g, (Value.slice la ln lc).ownBlock = some g → F g := by
 have hok := h.ok
 clear h
 induction fe with
 | nil => exact ⟨none, 0, 0, rfl, World.ownsRow_nil _ _ _ _, fun g hg => by cases hg⟩
 | cons f r ih =>
  rw [lookV_cons, look_cons]
  by_cases hc : isAt b p f = true
  ·rw [if_pos hc, if_pos hc]
   exact ⟨f.a, f.n, f.c, rfl, (hok f (by simp)).row, (hok f (by simp)).fg⟩
  ·rw [if_neg hc, if_neg hc]
   exact ih (fun g hg => hok g (by simp [hg]))
def SR (pl p : Nat) (i k : Int) (C : Ch) (u : World) : Prop := u.cell? ⟨pl, 0, none⟩ = some (.int .i64 i) ∧ u.cell? ⟨pl, 1, none⟩ = some (.int .i64 k) ∧ u.cell? ⟨p, 0, none⟩ = some (.int .i64 (C.B : Int)) ∧ u.cell? ⟨p, 1, none⟩ = some (.int .i64 (C.P : Int)) ∧ u.cell? ⟨p, 2, none⟩ = some (.int .i64 (C.S : Int))
theorem re_keep {p : Nat} {u' : World} (h : SR pl p i k C u) (hb : Below u.heap.size u u') : SR pl p i k C u' := by
 obtain ⟨h0, h1, h2, h3, h4⟩ := h
 exact ⟨(hb.cell (block_lt_of_cell h0)).trans h0, (hb.cell (block_lt_of_cell h1)).trans h1, (hb.cell (block_lt_of_cell h2)).trans h2, (hb.cell (block_lt_of_cell h3)).trans h3, (hb.cell (block_lt_of_cell h4)).trans h4⟩
theorem re_drew {p : Nat} (h : SR pl p i k C u) : SR pl p i k C u.drew := h
structure PgV (w0 w : World) (bx n1 n2 : Nat) (D Z : List Int) (g1 c1 g2 c2 : Nat) : Prop where
 box : w.heap[bx]? = some (.cells #[.slice (some ⟨g1, 0, none⟩) n1 c1, .slice (some ⟨g2, 0, none⟩) n2 c2] 36 (0, 0))
 o1 : Own w w0.heap.size g1 n1 c1 D
 o2 : Own w w0.heap.size g2 n2 c2 Z
 ne : g1 ≠ g2
theorem pg_alloc {v : World} {n1 n2 : Nat} (h1 : Own u w0.heap.size d1 n1 e1 D) (h2 : Own v w0.heap.size d2 n2 e2 Z) (hb : Below u.heap.size u v) (hi : d1 < u.heap.size) (hl : u.heap.size ≤ d2) : PgV w0 (v.alloc (.cells #[.slice (some ⟨d1, 0, none⟩) n1 e1, .slice (some ⟨d2, 0, none⟩) n2 e2] 36)) v.heap.size n1 n2 D Z d1 e1 d2 e2 :=
 ⟨alloc_new _ _, (h1.below hb).below (below_alloc _ _), h2.below (below_alloc _ _), by omega⟩
theorem pg_store {v : World} {n1 n2 : Nat} {c0 c1 : Value} (hb : v.heap[bx]? = some (.cells #[c0, c1] 36 (0, 0))) (h1 : Own v w0.heap.size d1 n1 e1 D) (h2 : Own v w0.heap.size d2 n2 e2 Z) (hne : d1 ≠ d2) : PgV w0 ((v.setCell ⟨bx, 0, none⟩ (.slice (some ⟨d1, 0, none⟩) n1 e1)).setCell ⟨bx, 1, none⟩ (.slice (some ⟨d2, 0, none⟩) n2 e2)) bx n1 n2 D Z d1 e1 d2 e2 := by
 have hO : Only (· = bx) v ((v.setCell ⟨bx, 0, none⟩ (.slice (some ⟨d1, 0, none⟩) n1 e1)).setCell ⟨bx, 1, none⟩ (.slice (some ⟨d2, 0, none⟩) n2 e2)) := (Only.setCell (· = bx) v bx 0 _ rfl).trans' (Only.setCell _ _ bx 1 _ rfl)
 have kk : ∀ {d e n : Nat} {Y : List Int}, Own v w0.heap.size d n e Y → ∀ g, (Value.slice (some ⟨d, 0, none⟩) n e).ownBlock = some g → ((v.setCell ⟨bx, 0, none⟩ (.slice (some ⟨d1, 0, none⟩) n1 e1)).setCell ⟨bx, 1, none⟩ (.slice (some ⟨d2, 0, none⟩) n2 e2)).heap[g]? = v.heap[g]? := fun h g hg => by
  obtain ⟨cs, hc⟩ := own_tag h hg
  exact hO.block g (lt_of_block hc) (tag_ne hc hb (t := 5) (u := 36) rfl rfl (by decide))
 exact ⟨heap_setCell_same _ bx 1 #[.slice (some ⟨d1, 0, none⟩) n1 e1, c1] 36 _ (heap_setCell_same v bx 0 _ 36 _ hb), owns_keep h1 (kk h1), owns_keep h2 (kk h2), hne⟩
theorem pgv_drew {n1 n2 : Nat} {c1 c2 : Nat} (h : PgV w0 w bx n1 n2 D Z g1 c1 g2 c2) : PgV w0 w.drew bx n1 n2 D Z g1 c1 g2 c2 := ⟨h.box, h.o1, h.o2, h.ne⟩
theorem pgv_one {n1 n2 : Nat} {D' : List Int} {c1 c2 : Nat} (h : PgV w0 w bx n1 n2 D Z g1 c1 g2 c2) (ho : Own w' w0.heap.size g1 n1 c1 D') (hg : w.grownBy w' (some g1)) : PgV w0 w' bx n1 n2 D' Z g1 c1 g2 c2 := by
 obtain ⟨cs, hc⟩ := own_tag (g := g1) h.o1 rfl
 exact ⟨(hg.block bx (lt_of_block h.box) (fun e => tag_ne h.box hc (t := 36) (u := 5) rfl rfl (by decide) (Option.some.inj e))).trans h.box, ho, owns_keep h.o2 (fun g hg' => by cases hg'; exact hg.block g2 h.o2.lt.2 (fun e => h.ne (Option.some.inj e).symm)), h.ne⟩
theorem pgv_two {n1 n2 : Nat} {Z' : List Int} {c1 c2 : Nat} (h : PgV w0 w bx n1 n2 D Z g1 c1 g2 c2) (ho : Own w' w0.heap.size g2 n2 c2 Z') (hg : w.grownBy w' (some g2)) : PgV w0 w' bx n1 n2 D Z' g1 c1 g2 c2 := by
 obtain ⟨cs, hc⟩ := own_tag (g := g2) h.o2 rfl
 exact ⟨(hg.block bx (lt_of_block h.box) (fun e => tag_ne h.box hc (t := 36) (u := 5) rfl rfl (by decide) (Option.some.inj e))).trans h.box, owns_keep h.o1 (fun g hg' => by cases hg'; exact hg.block g1 h.o1.lt.2 (fun e => h.ne (Option.some.inj e))), ho, h.ne⟩
theorem pgv_below {g : Nat} (h : Below w0.heap.size w0 w) (hg : w.grownBy w' (some g)) (hl : w0.heap.size ≤ g) : Below w0.heap.size w0 w' :=
 h.grown hg h.size (fun j hj => by cases hj; exact hl)
theorem pg_only {v : World} {c0 c1 x0 x1 : Value} (h : Below w0.heap.size w0 v) (hb : v.heap[bx]? = some (.cells #[c0, c1] 36 (0, 0))) (hl : w0.heap.size ≤ bx) : Below w0.heap.size w0 ((v.setCell ⟨bx, 0, none⟩ x0).setCell ⟨bx, 1, none⟩ x1) := (h.setCell hl _).setCell hl _
theorem reads_any (w : World) (p : Nat) (F : Nat → Prop) (C : Ch) (x : Bx) (bs : List Bc) (fe : List Fe) (h : CAt w p F C x bs fe) (hok : C.Ok) (i k : Nat) (b : Bc) (q : Pc) (hi : bs[i]? = some b) (hk : b.ps[k]? = some q) :
  Calls Try.prog 58 #[.pointer (some ⟨p, 0, none⟩), .agg #[.int .i64 (i : Int), .int .i64 (k : Int)]] w fun e w' => ∃ g1 c1 g2 c2 D Z, e = .returned (.agg #[.slice (some ⟨g1, 0, none⟩) (256 * C.S) c1, .slice (some ⟨g2, 0, none⟩) (54 + 3 * C.S) c2]) ∧ Own w' w.heap.size g1 (256 * C.S) c1 D ∧ Own w' w.heap.size g2 (54 + 3 * C.S) c2 Z ∧ g1 ≠ g2 ∧ D ++ Z = flipsL q.bits (C.fl i k) ∧ Below w.heap.size w w' := by
 have hS := hok.s
 have g0 : (1 : Int) ≤ C.S := by omega
 have g1 : (C.S : Int) ≤ 8 := by omega
 obtain ⟨L, hLe⟩ : ∃ L, pgB C.S = L := ⟨_, rfl⟩
 obtain ⟨n1, hn1⟩ : ∃ n, n = 256 * C.S := ⟨_, rfl⟩
 obtain ⟨n2, hn2⟩ : ∃ n, n = 54 + 3 * C.S := ⟨_, rfl⟩
 have hL12 : L = n1 + n2 := by rw [← hLe, hn1, hn2]; rfl
 have hLb : L ≤ 2126 := by rw [← hLe]; exact pgB_le hS.2
 have e256 : (256 * (C.S : Int)) = (n1 : Int) := by omega
 have HL := J hLe
 have N := (h.below (below_alloc _ (.cells #[.int .i64 (i : Int), .int .i64 (k : Int)] 41))).below (below_alloc _ (.cells #[.slice none 0 0, .slice none 0 0] 36))
 have HS1 : Hid (SR w.heap.size p (i : Int) (k : Int) C ((w.alloc (.cells #[.int .i64 (i : Int), .int .i64 (k : Int)] 41)).alloc (.cells #[.slice none 0 0, .slice none 0 0] 36))) := by
  obtain ⟨e0, e1⟩ := cells2 ((alloc_old (w.alloc (.cells #[.int .i64 (i : Int), .int .i64 (k : Int)] 41)) (.cells #[.slice none 0 0, .slice none 0 0] 36) (by simp)).trans (alloc_new w (.cells #[.int .i64 (i : Int), .int .i64 (k : Int)] 41)))
  have b0 := N.box.c0
  have b1 := N.box.c1
  have b2 := N.box.c2
  rw [N.B] at b0
  rw [N.P] at b1
  rw [N.S] at b2
  exact ⟨e0, e1, b0, b1, b2⟩
 have HCd : Hid (CAt ((w.alloc (.cells #[.int .i64 (i : Int), .int .i64 (k : Int)] 41)).alloc (.cells #[.slice none 0 0, .slice none 0 0] 36)).drew p F C x bs fe) := N.below (drew_below _)
 have HC := J h
 have HE256 := J e256
 rw [← hn1, ← hn2]
 have HN12 := J (And.intro hn1 hn2)
 have HL12 := J hL12
 clear h N hLe e256 hn1 hn2 hL12
 go_enter Try.func58, Try.ntmps58
 go_wp2
 refine wp_region_held_drew (S := (fun u => u.cell? ⟨w.heap.size, 0, none⟩ = some (.int .i64 (i : Int)) ∧ u.cell? ⟨w.heap.size, 1, none⟩ = some (.int .i64 (k : Int)) ∧ u.cell? ⟨p, 0, none⟩ = some (.int .i64 (C.B : Int)) ∧ u.cell? ⟨p, 1, none⟩ = some (.int .i64 (C.P : Int)) ∧ u.cell? ⟨p, 2, none⟩ = some (.int .i64 (C.S : Int)))) (by kernel_rfl) (re_drew HS1.out) fun O => ?_
 refine tk 0 ?_
 refine tk 1 ?_
 refine tk 3 ?_
 refine tk 4 ?_
 refine tk 5 ?_
 refine tk 6 ?_
 refine rd 2 fun K N => ?_
 go_simp
 go_at_call 93
 refine (bits_r _ p F C x bs fe HCd.out i k b q hi hk hS).mono ?_
 rintro e u1 ⟨a1, c1, rfl, rb, lb, bb⟩
 rw [HL.out]
 rw [HL.out] at rb lb
 have HR1 := J rb
 have hlc := lb
 have HB1 := J (below_trans (drew_below _) bb)
 have hZ := re_keep HS1.out HB1.out
 clear rb lb bb
 go_wp2_with fail
 clear O
 refine N.out _ _ hZ fun O => ?_
 clear N K hZ
 try simp only [zz]
 refine rd 7 fun K N => ?_
 go_simp
 go_at_call 82
 refine (data_any _ _ _ _ g0 g1).mono ?_
 rintro e u2 ⟨rfl, b2⟩
 have HB2 := J (below_trans HB1.out b2)
 have HR2 := J (HR1.out.below b2)
 have hZ := re_keep HS1.out HB2.out
 clear b2
 go_wp2_with fail
 clear O
 refine N.out _ _ hZ fun O => ?_
 clear N K hZ
 try simp only [zz]
 refine tk 8 ?_
 refine tk 9 ?_
 refine td ?_
 clear O
 rw [HE256.out]
 have HFR := J (front_reads HR2.out (show n1 ≤ L by have := HL12.out; omega))
 have hn2p : 0 < n2 := by have := HN12.out.2; omega
 have hn1p : 0 < n1 := by have := HN12.out.1; omega
 have hlc2 : n1 ≤ c1 := by have := HL12.out; omega
 have hfr := fun u : World => front_run u a1 L c1 n1 hlc2
 have HTR := J (tail_reads HR2.out (show n1 ≤ L by have := HL12.out; omega) hlc)
 have HLN : Hid (L - n1 = n2) := by have := HL12.out; unfold Hid; omega
 have hn1b : n1 ≤ 140737488351232 := by have := HL12.out; omega
 have hn2b : n2 ≤ 140737488351232 := by have := HL12.out; omega
 rw [HLN.out] at HTR
 have htl : ∀ u : World, (Instr.sliceAt 24 (.slice a1 L c1) (some (.int .i64 (n1 : Int))) none none).run Try.prog u = .ok (.slice (tailA a1 c1 n1) n2 (c1 - n1)) u := fun u => by
  have h9 := tail_run u a1 L c1 n1 (by have := HL12.out; omega) hlc
  rw [HLN.out] at h9
  exact h9
 obtain ⟨y, hy⟩ : ∃ y, y = ((w.alloc (.cells #[.int .i64 (i : Int), .int .i64 (k : Int)] 41)).alloc (.cells #[.slice none 0 0, .slice none 0 0] 36)) := ⟨_, rfl⟩
 have HB2y : Hid (Below y.heap.size y u2) := by rw [hy]; exact HB2.out
 have HY := J (show y.heap.size = w.heap.size + 2 by rw [hy]; simp)
 have HYB : Hid (Below w.heap.size w y) := by rw [hy]; exact below_trans (below_alloc _ _) (below_alloc _ _)
 have HY0 : Hid (y.heap[w.heap.size]? = some (.cells #[.int .i64 (i : Int), .int .i64 (k : Int)] 41 (0, 0))) := by rw [hy]; exact (alloc_old (w.alloc (.cells #[.int .i64 (i : Int), .int .i64 (k : Int)] 41)) (.cells #[.slice none 0 0, .slice none 0 0] 36) (by simp)).trans (alloc_new w (.cells #[.int .i64 (i : Int), .int .i64 (k : Int)] 41))
 have HY1 : Hid (y.heap[w.heap.size + 1]? = some (.cells #[.slice none 0 0, .slice none 0 0] 36 (0, 0))) := by rw [hy]; have h2 := alloc_new (w.alloc (.cells #[.int .i64 (i : Int), .int .i64 (k : Int)] 41)) (.cells #[.slice none 0 0, .slice none 0 0] 36); rw [alloc_size] at h2; exact h2
 clear hy
 have HBX2 : Hid (y.heap.size ≤ u2.heap.size) := HB2y.out.size
 go_upto_region 2 with fail
 go_cut [7] from 7 to 26 (fun s7 wx => ∃ bx d1 e1 d2 e2, s7 = .pointer (some ⟨bx, 0, none⟩) ∧ Hid (PgV y wx bx n1 n2 (q.bits.take n1) (q.bits.drop n1) d1 e1 d2 e2) ∧ Hid (Below y.heap.size y wx) ∧ Hid (y.heap.size ≤ bx))
 case first =>
  refine wp_region_held_drew (S := (fun _ => True)) (by kernel_rfl) (trivial) fun O => ?_
  refine tk 0 ?_
  refine tk 1 ?_
  refine tk 2 ?_
  refine tk 4 ?_
  refine tk 5 ?_
  refine tk 6 ?_
  refine wpAnyH_ready (rs := [3, 9]) (by kernel_rfl) (by simp) ?_
  refine AllReadyH.cons (o := { dst := some 21, op := Op.call { callee := Callee.value (Operand.func 49), args := #[Operand.tmp 20], argTypes := #[24] }, type := 24, pos := "chip.go:155", after := #[{ on := 2, ground := Ground.data }], guard := none }) rfl (fun K N => ?_) (AllReadyH.cons (o := { dst := some 7, op := Op.alloc 36, type := 0, pos := "chip.go:155", after := #[], guard := none }) rfl (fun K N => ?_) AllReadyH.nil)
  ·go_simp
   go_at_call 49
   refine (clone_any _ n1 _ (q.bits.take n1) _ (HFR.out.below (drew_below u2)) hn1b).mono ?_
   rintro e u3 ⟨v1, rfl, ow1, bl1⟩
   obtain ⟨d1, e1, rfl, le1, _, lo1, hi1⟩ := own_shape ow1 hn1p
   have HOW1 := J (own_base ow1 (below_trans HB2y.out (drew_below _)).size)
   have HLO1 := J lo1
   have HHI1 := J hi1
   have HBL1 := J bl1
   have HBW1 := J (below_trans (below_trans HB2y.out (drew_below _)) bl1)
   clear ow1 le1 lo1 hi1 bl1
   have hZ := trivial
   go_wp2_with fail
   clear O
   refine N.out _ _ hZ fun O => ?_
   clear N K hZ
   try simp only [zz]
   refine wpAnyH_ready (rs := [7, 9]) (by kernel_rfl) (by simp) ?_
   refine AllReadyH.cons (o := { dst := some 25, op := Op.call { callee := Callee.value (Operand.func 49), args := #[Operand.tmp 24], argTypes := #[24] }, type := 24, pos := "chip.go:155", after := #[{ on := 6, ground := Ground.data }, { on := 3, ground := Ground.chain }], guard := none }) rfl (fun K N => ?_) (AllReadyH.cons (o := { dst := some 7, op := Op.alloc 36, type := 0, pos := "chip.go:155", after := #[], guard := none }) rfl (fun K N => ?_) AllReadyH.nil)
   ·go_simp
    go_at_call 49
    refine (clone_any _ n2 _ (q.bits.drop n1) _ (HTR.out.below (below_trans (drew_below u2) HBL1.out)) hn2b).mono ?_
    rintro e u4 ⟨v2, rfl, ow2, bl2⟩
    obtain ⟨d2, e2, rfl, le2, _, lo2, hi2⟩ := own_shape ow2 hn2p
    have HOW2 := J (own_base ow2 (HBW1.out).size)
    have HLO2 := J lo2
    have HHI2 := J hi2
    have HBL2 := J bl2
    have HBW2 := J (below_trans (HBW1.out) bl2)
    clear ow2 le2 lo2 hi2 bl2
    have hZ := trivial
    go_wp2_with fail
    clear O
    refine N.out _ _ hZ fun O => ?_
    clear N K hZ
    try simp only [zz]
    refine tk 8 ?_
    refine rd 9 fun K N => ?_
    go_simp
    go_wp2_with fail
    have hZ := trivial
    clear O
    refine N.out _ _ hZ fun O => ?_
    clear N K hZ
    try simp only [zz]
    refine rd 10 fun K N => ?_
    go_simp
    go_wp2_with fail
    have hZ := trivial
    clear O
    refine N.out _ _ hZ fun O => ?_
    clear N K hZ
    try simp only [zz]
    refine td ?_
    go_wp2
    go_meet
    exact ⟨_, d1, e1, d2, e2, rfl, pg_alloc HOW1.out HOW2.out HBL2.out HHI1.out HLO2.out, below_trans HBW2.out (below_alloc _ _), by have h1 := HBW2.out.size; have h2 := HBX2.out; have h3 := HBL1.out.size; have h4 := HBL2.out.size; unfold Hid; simp at h3; omega⟩
   ·go_simp
    go_wp2_with fail
    have HB9 := J (below_trans HBW1.out (below_alloc u3 (.cells #[.slice none 0 0, .slice none 0 0] 36)))
    have hZ := trivial
    clear O
    refine N.out _ _ hZ fun O => ?_
    clear N K hZ
    try simp only [zz]
    refine rd 7 fun K N => ?_
    go_simp
    go_at_call 49
    refine (clone_any _ n2 _ (q.bits.drop n1) _ (HTR.out.below (below_trans (below_trans (drew_below u2) HBL1.out) (below_alloc u3 (.cells #[.slice none 0 0, .slice none 0 0] 36)))) hn2b).mono ?_
    rintro e u4 ⟨v2, rfl, ow2, bl2⟩
    obtain ⟨d2, e2, rfl, le2, _, lo2, hi2⟩ := own_shape ow2 hn2p
    have HOW2 := J (own_base ow2 (HB9.out).size)
    have HLO2 := J lo2
    have HHI2 := J hi2
    have HBL2 := J bl2
    have HBW2 := J (below_trans (HB9.out) bl2)
    clear ow2 le2 lo2 hi2 bl2
    have hZ := trivial
    go_wp2_with fail
    clear O
    refine N.out _ _ hZ fun O => ?_
    clear N K hZ
    try simp only [zz]
    refine tk 8 ?_
    have hbx := (HBL2.out.block u3.heap.size (by simp)).trans (alloc_new u3 (.cells #[.slice none 0 0, .slice none 0 0] 36))
    obtain ⟨t0, t1⟩ := cells2 hbx
    have fzx := fun j => frozen_of_row u4 u3.heap.size j _ 36 hbx
    have HBXH := J hbx
    clear hbx
    refine rd 10 fun K N => ?_
    go_simp
    go_wp2_with fail
    have hZ := trivial
    clear O
    refine N.out _ _ hZ fun O => ?_
    clear N K hZ
    try simp only [zz]
    refine td ?_
    go_wp2
    go_meet
    exact ⟨_, d1, e1, d2, e2, rfl, pg_store HBXH.out (owns_keep HOW1.out (fun g hg => by cases hg; exact (HBL2.out.block _ (by have := HHI1.out; simp; omega)).trans (alloc_old _ _ HHI1.out))) HOW2.out (by have h1 := HHI1.out; have h2 := HLO2.out; simp at h2; omega), pg_only HBW2.out HBXH.out (by have := HBW1.out.size; omega), by have h2 := HBX2.out; have h3 := HBL1.out.size; unfold Hid; simp at h3; omega⟩
  ·go_simp
   go_wp2_with fail
   have HB9 := J (below_trans HB2y.out (below_trans (below_alloc u2 (.cells #[.slice none 0 0, .slice none 0 0] 36)) (drew_below _)))
   have hZ := trivial
   clear O
   refine N.out _ _ hZ fun O => ?_
   clear N K hZ
   try simp only [zz]
   refine rd 3 fun K N => ?_
   go_simp
   go_at_call 49
   refine (clone_any _ n1 _ (q.bits.take n1) _ (HFR.out.below (below_trans (below_alloc u2 (.cells #[.slice none 0 0, .slice none 0 0] 36)) (drew_below _))) hn1b).mono ?_
   rintro e u3 ⟨v1, rfl, ow1, bl1⟩
   obtain ⟨d1, e1, rfl, le1, _, lo1, hi1⟩ := own_shape ow1 hn1p
   have HOW1 := J (own_base ow1 (HB9.out).size)
   have HLO1 := J lo1
   have HHI1 := J hi1
   have HBL1 := J bl1
   have HBW1 := J (below_trans (HB9.out) bl1)
   clear ow1 le1 lo1 hi1 bl1
   have hZ := trivial
   go_wp2_with fail
   clear O
   refine N.out _ _ hZ fun O => ?_
   clear N K hZ
   try simp only [zz]
   refine rd 7 fun K N => ?_
   go_simp
   go_at_call 49
   refine (clone_any _ n2 _ (q.bits.drop n1) _ (HTR.out.below (below_trans (below_trans (below_alloc u2 (.cells #[.slice none 0 0, .slice none 0 0] 36)) (drew_below _)) HBL1.out)) hn2b).mono ?_
   rintro e u4 ⟨v2, rfl, ow2, bl2⟩
   obtain ⟨d2, e2, rfl, le2, _, lo2, hi2⟩ := own_shape ow2 hn2p
   have HOW2 := J (own_base ow2 (HBW1.out).size)
   have HLO2 := J lo2
   have HHI2 := J hi2
   have HBL2 := J bl2
   have HBW2 := J (below_trans (HBW1.out) bl2)
   clear ow2 le2 lo2 hi2 bl2
   have hZ := trivial
   go_wp2_with fail
   clear O
   refine N.out _ _ hZ fun O => ?_
   clear N K hZ
   try simp only [zz]
   refine tk 8 ?_
   have hbx := (HBL2.out.block u2.heap.size (by have := HBL1.out.size; simp at this; omega)).trans ((HBL1.out.block u2.heap.size (by simp)).trans (alloc_new u2 (.cells #[.slice none 0 0, .slice none 0 0] 36)))
   obtain ⟨t0, t1⟩ := cells2 hbx
   have fzx := fun j => frozen_of_row u4 u2.heap.size j _ 36 hbx
   have HBXH := J hbx
   clear hbx
   refine rd 10 fun K N => ?_
   go_simp
   go_wp2_with fail
   have hZ := trivial
   clear O
   refine N.out _ _ hZ fun O => ?_
   clear N K hZ
   try simp only [zz]
   refine td ?_
   go_wp2
   go_meet
   exact ⟨_, d1, e1, d2, e2, rfl, pg_store HBXH.out (owns_keep HOW1.out (fun g hg => by cases hg; exact HBL2.out.block _ HHI1.out)) HOW2.out (by have h1 := HHI1.out; have h2 := HLO2.out; omega), pg_only HBW2.out HBXH.out (by have := HB2y.out.size; omega), by have h2 := HBX2.out; unfold Hid; omega⟩
 case rest =>
 obtain ⟨bx, d1, e1, d2, e2, rfl, HPG, HBX, HBXL⟩ := hcut
 have HBXw := J (below_trans HYB.out HBX.out)
 have HCc := J (HC.out.below (below_trans HBXw.out (drew_below wc)))
 obtain ⟨la, ln, lc, hlv, hlo, hlf⟩ := look_row HCc.out.fl (i : Int) (k : Int)
 have hll : (look fe (i : Int) (k : Int)).length = ln := by have h9 := hlo.1; simpa using h9
 rw [HCc.out.fs] at hlo hll
 obtain ⟨fl, hfl⟩ : ∃ l, C.fl (i : Int) (k : Int) = l := ⟨_, rfl⟩
 have hfb : ∀ z ∈ fl, z < 8 * L := fun z hz => by rw [← HL.out]; rw [← hfl] at hz; exact hok.fl _ _ z hz
 rw [hfl] at hlo hll
 have HFL := J hfl
 have HFB := J hfb
 have HLO := J hlo
 have HLF := J hlf
 have HLLn := J hll
 have hlnb : ln ≤ 9223372036854775807 := by
  rcases HLO.out.2 with ⟨_, h0⟩ | ⟨g, cap, cur, _, _, _, hnc, hcm, _⟩
  ·omega
  ·simp only [maxLen] at hcm; omega
 have c4 := HCc.out.box.c4
 obtain ⟨pq0, pq1⟩ := cells2 (((below_trans HBX.out (drew_below wc)).block _ (lt_of_block HY0.out)).trans HY0.out)
 have hlk : (Instr.lookup 97 (.map (some x.gm)) (.agg #[.int .i64 (i : Int), .int .i64 (k : Int)]) false).run Try.prog wc.drew = .ok (.slice la ln lc) wc.drew := by
  have h9 := HCc.out.fl.lkr (i : Int) (k : Int)
  rw [hlv] at h9
  exact h9
 clear hfl hfb hlo hlf hll hlv
 go_upto_region 3 with fail
 refine wp_region_held_drew (S := (fun u => u.cell? ⟨p, 4, none⟩ = some (.map (some x.gm)) ∧ u.cell? ⟨w.heap.size, 0, none⟩ = some (.int .i64 (i : Int)) ∧ u.cell? ⟨w.heap.size, 1, none⟩ = some (.int .i64 (k : Int)) ∧ (Instr.lookup 97 (.map (some x.gm)) (.agg #[.int .i64 (i : Int), .int .i64 (k : Int)]) false).run Try.prog u = .ok (.slice la ln lc) u)) (by kernel_rfl) (⟨c4, pq0, pq1, hlk⟩) fun O => ?_
 refine tk 0 ?_
 refine tk 1 ?_
 refine tk 2 ?_
 refine tk 3 ?_
 refine tk 4 ?_
 refine tk 5 ?_
 refine tk 6 ?_
 refine tk 7 ?_
 refine td ?_
 clear O hlk c4 pq0 pq1
 go_wp2
 go_loopw [34] (fun s34 wr => ∃ (m : Nat) (D Z : List Int), m ≤ ln ∧ s34 = .int .i64 m ∧ Hid (PgV y wr bx n1 n2 D Z d1 e1 d2 e2) ∧ Hid (Below y.heap.size y wr) ∧ Hid (D ++ Z = flipsL q.bits (fl.take m) ∧ D.length = n1 ∧ Z.length = n2))
  (fun s34 _ => ln - (intOf s34).toNat)
 case atStart => exact ⟨0, _, _, Nat.zero_le _, rfl, pgv_drew HPG.out, below_trans HBX.out (drew_below wc), by
   have hql := ((HC.out.bok b (List.mem_of_getElem? hi)).pg q (List.mem_of_getElem? hk)).len
   rw [HL.out] at hql
   have h12 := HL12.out
   exact ⟨by rw [List.take_append_drop]; rfl, by simp; omega, by simp; omega⟩⟩
 case round =>
  obtain ⟨m, D, Z, hm, rfl, HP, HB, HD⟩ := hrel
  by_cases hlt : m < ln
  ·have d1' : decide ((m : Int) < (ln : Int)) = true := decide_eq_true (by omega)
   obtain ⟨gl, cl, hle, _, hgl⟩ := HLO.out.form (by omega)
   cases hle
   have hflm : m < fl.length := by have := HLLn.out; omega
   obtain ⟨z, hz⟩ : ∃ z, fl[m] = z := ⟨_, rfl⟩
   have hzb : z < 8 * L := HFB.out z (by rw [← hz]; exact List.getElem_mem hflm)
   have hcz : wr.cell? ⟨gl, m, none⟩ = some (.int .i64 (z : Int)) := by
    have hfw : gl < w.heap.size := HC.out.fin _ (HLF.out gl rfl)
    have h1 := World.ownsRow.cellAt HLO.out m (by have := HLLn.out; simp; omega)
    rw [List.getElem?_map, List.getElem?_eq_getElem hflm, hz] at h1
    have hBw : Below w.heap.size w wr := below_trans HYB.out HB.out
    have hBc : Below w.heap.size w wc.drew := below_trans HBXw.out (drew_below wc)
    rw [hBc.cell hfw] at h1
    rw [hBw.cell hfw]
    exact h1
   have HTK : Hid (fl.take (m + 1) = fl.take m ++ [z]) := by unfold Hid; rw [List.take_succ_eq_append_getElem hflm, hz]
   obtain ⟨hDZ, hDl, hZl⟩ := HD.out
   have HDZ := J hDZ
   obtain ⟨b0, b1⟩ := cells2 HP.out.box
   have m1 : (m : Int) < (ln : Int) := by omega
   have hn1i : (n1 : Int) ≤ 2126 := by have := HL12.out; omega
   by_cases hc : z < 8 * n1
   ·have dd2 : decide ((z : Int) < 8 * (n1 : Int)) = true := decide_eq_true (by omega)
    clear hDZ hz HD
    go_wp2_with (first | (go_at_call 94; refine (flip_ok _ d1 n1 e1 n1 z D _ (by omega) hc (Nat.le_refl _) HP.out.o1).mono ?_; rintro e t1 ⟨rfl, o1, g1⟩; have HO1 := J o1; have HG1 := J g1; clear o1 g1 b0 b1))
    go_roundw
    case rel =>
     refine ⟨m + 1, flipL D z, Z, by omega, by go_num, pgv_one HP.out HO1.out HG1.out, pgv_below HB.out HG1.out HP.out.o1.lt.1, ?_⟩
     refine ⟨?_, by rw [flipL_length]; exact hDl, hZl⟩
     rw [HTK.out, flipsL_snoc, ← HDZ.out, flipL_left (by omega)]
    case measure => simp [intOf]; omega
   ·have dd2 : decide ((z : Int) < 8 * (n1 : Int)) = false := decide_eq_false (by omega)
    have hsub : (z : Int) - 8 * (n1 : Int) = ((z - 8 * n1 : Nat) : Int) := by omega
    have hz2 : z - 8 * n1 < 8 * n2 := by have := HL12.out; omega
    obtain ⟨z2, hz2e⟩ : ∃ y, y = z - 8 * n1 := ⟨_, rfl⟩
    rw [← hz2e] at hsub hz2
    have HZ2 := J hz2e
    clear hDZ hz HD hz2e
    go_wp2_with (first | (go_at_call 94; refine (flip_ok _ d2 n2 e2 n2 z2 Z _ (by omega) hz2 (Nat.le_refl _) HP.out.o2).mono ?_; rintro e t1 ⟨rfl, o1, g1⟩; have HO1 := J o1; have HG1 := J g1; clear o1 g1 b0 b1))
    go_roundw
    case rel =>
     refine ⟨m + 1, D, flipL Z z2, by omega, by go_num, pgv_two HP.out HO1.out HG1.out, pgv_below HB.out HG1.out HP.out.o2.lt.1, ?_⟩
     refine ⟨?_, hDl, by rw [flipL_length]; exact hZl⟩
     rw [HTK.out, flipsL_snoc, ← HDZ.out, flipL_right (by omega), hDl, ← HZ2.out]
    case measure => simp [intOf]; omega
  ·have hml : m = ln := by omega
   subst hml
   obtain ⟨b0, b1⟩ := cells2 HP.out.box
   have hr1 := (HB.out.block _ (lt_of_block HY1.out)).trans HY1.out
   obtain ⟨r0, r1⟩ := cells2 hr1
   have fzr := fun j => frozen_of_row wr (w.heap.size + 1) j _ 36 hr1
   have HR1x := J hr1
   have hne : bx ≠ w.heap.size + 1 := by have h1 := HBXL.out; have h2 := HY.out; omega
   clear hr1
   go_wp2
   have hs2 := heap_setCell_same _ (w.heap.size + 1) 1 #[.slice (some ⟨d1, 0, none⟩) n1 e1, .slice none 0 0] 36 (.slice (some ⟨d2, 0, none⟩) n2 e2) (heap_setCell_same wr (w.heap.size + 1) 0 _ 36 (.slice (some ⟨d1, 0, none⟩) n1 e1) HR1x.out)
   have hO : Only (· = w.heap.size + 1) wr _ := (Only.setCell (· = w.heap.size + 1) wr (w.heap.size + 1) 0 (.slice (some ⟨d1, 0, none⟩) n1 e1) rfl).trans' (Only.setCell _ _ (w.heap.size + 1) 1 (.slice (some ⟨d2, 0, none⟩) n2 e2) rfl)
   generalize hv9 : World.setCell _ ⟨w.heap.size + 1, 1, none⟩ _ = v9 at hs2 hO ⊢
   obtain ⟨y0, y1⟩ := cells2 hs2
   have hk5 : ∀ {d e n : Nat} {Y : List Int}, Own wr y.heap.size d n e Y → Own v9 w.heap.size d n e Y := fun hd => by
    have h9 := owns_keep (w' := v9) hd (fun g hg => by
     obtain ⟨cs, hcs⟩ := own_tag hd hg
     exact hO.block g (lt_of_block hcs) (tag_ne hcs HR1x.out (t := 5) (u := 36) rfl rfl (by decide)))
    exact own_base h9 (by have := HY.out; omega)
   have hfb2 : Below w.heap.size w v9 := by
    have h9 : Below w.heap.size w wr := below_trans HYB.out HB.out
    exact ⟨hO.os.trans h9.os, hO.tape.trans h9.tape, hO.output.trans h9.output, Nat.le_trans h9.size hO.size, fun j hj => (hO.block j (Nat.lt_of_lt_of_le hj h9.size) (fun e => by omega)).trans (h9.block j hj)⟩
   refine bodyPost_ret (v := .agg #[.slice (some ⟨d1, 0, none⟩) n1 e1, .slice (some ⟨d2, 0, none⟩) n2 e2]) (by simp [results, Try.results58, go_sem, y0, y1]) rfl ?_
   have hfin : D ++ Z = flipsL q.bits (C.fl (i : Int) (k : Int)) := by
    rw [HD.out.1, HFL.out, List.take_of_length_le (by have := HLLn.out; omega)]
   exact ⟨d1, e1, d2, e2, D, Z, rfl, hk5 HP.out.o1, hk5 HP.out.o2, HP.out.ne, hfin, hfb2⟩
end Go.Proofs.Ytadlkikjfonkgaa
