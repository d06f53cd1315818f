/-
  SEAT YtnjcjaaciphcgaaDoor: Show.
-/
import Derived.Test.YtnjcjaaciphcgaaDoorUb
import Derived.Deep.DeepCutAuto
import Derived.Deep.QuietTactic
namespace Go.Proofs.YtnjcjaaciphcgaaDoor
open Go.RowKit Go.Sort Go.Lib
set_option linter.unusedVariables false

def KW (w : World) : Prop := ∀ i, i < 10 → w.cell? ⟨0, i, none⟩ = some (.string ⟨(kw i).toArray⟩)
theorem KW.below {w u : World} (h : KW w) (hb : Below w.heap.size w u) : KW u := fun i hi => by
  rw [hb.cell (block_lt_of_cell (h i hi))]
  exact h i hi
theorem p10_below {w u : World} (h : P10 w) (hb : Below w.heap.size w u) : P10 u := by
  unfold P10 TabIs World.var? at *
  cases hg : Tryd.prog.globalNamed "internal/strconv.uint64pow10" with
  | none => simp [hg] at h
  | some g =>
    simp only [hg, Option.bind_some] at h ⊢
    have hlt : g < w.heap.size := by
      rcases Nat.lt_or_ge g w.heap.size with h' | h'
      · exact h'
      · rw [Array.getElem?_eq_none h'] at h; simp at h
    rw [hb.block g hlt]
    exact h

theorem said_any (s : Bool) (w : World) : Calls Tryd.prog 19 #[.bool s] w fun e w' => e = .returned (.string ⟨(savedB s).toArray⟩) ∧ w' = w := by
  cases s
  · go_enter Tryd.func19, Tryd.ntmps19
    go_wp2
    go_ret
    exact ⟨rfl, rfl⟩
  · go_enter Tryd.func19, Tryd.ntmps19
    go_wp2
    go_ret
    exact ⟨rfl, rfl⟩

set_option maxRecDepth 100000 in
theorem kind_any (k : Int) (hk : In k) (w : World) (ht : P10 w) (hw : KW w) : Calls Tryd.prog 20 #[.int .i64 k] w fun e w' => e = .returned (.string ⟨(kindB k).toArray⟩) ∧ Below w.heap.size w w' := by
  by_cases h1 : k < 1
  · have HK : Hid (kindB k = Lib.itoa k) := by unfold Hid kindB; rw [if_neg (by omega)]
    go_enter Tryd.func20, Tryd.ntmps20
    go_wp2_with (go_at_call 18; refine (itoa_any k hk.1 hk.2 _ ht).mono ?_; rintro e t1 ⟨rfl, bl⟩)
    go_ret
    exact ⟨by rw [HK.out]; rfl, bl⟩
  · by_cases h2 : 10 ≤ k
    · have HK : Hid (kindB k = Lib.itoa k) := by unfold Hid kindB; rw [if_neg (by omega)]
      go_enter Tryd.func20, Tryd.ntmps20
      go_wp2_with (go_at_call 18; refine (itoa_any k hk.1 hk.2 _ ht).mono ?_; rintro e t1 ⟨rfl, bl⟩)
      go_ret
      exact ⟨by rw [HK.out]; rfl, bl⟩
    · obtain ⟨u, rfl⟩ := Int.eq_ofNat_of_zero_le (show 0 ≤ k by omega)
      have HK : Hid (kindB (u : Int) = kw u) := by unfold Hid kindB; rw [if_pos (by omega), Int.toNat_natCast]
      have hc := hw u (by omega)
      have d1 : (u : Int) < 10 := by omega
      clear hw
      go_enter Tryd.func20, Tryd.ntmps20
      go_wp2_with fail
      go_ret
      exact ⟨by rw [HK.out]; rfl, Below.refl _ _⟩

/-- The builder beside the report's box. -/
structure Sh (w W : World) (CE : Array Value) (l : List UInt8) : Prop where
  bd : Bd (w.heap.size + 1) (w.heap.size + 1) l W
  bel : Below (w.heap.size + 1) (w.alloc (.cells CE 25)) W

theorem Sh.box {w W : World} {CE : Array Value} {l : List UInt8} (h : Sh w W CE l) : W.heap[w.heap.size]? = some (.cells CE 25 (0, 0)) :=
  (h.bel.block _ (by omega)).trans (heap_alloc_new w _)
theorem Sh.old {w W : World} {CE : Array Value} {l : List UInt8} (h : Sh w W CE l) : Below w.heap.size w W := by
  refine ⟨h.bel.os, h.bel.tape, h.bel.output, ?_, fun i hi => ?_⟩
  · have := h.bel.size
    rw [World.size_alloc] at this
    omega
  · rw [h.bel.block i (by omega), Below.heap_alloc w _ i hi]
theorem Sh.lt {w W : World} {CE : Array Value} {l : List UInt8} (h : Sh w W CE l) : w.heap.size + 1 < W.heap.size := by
  rcases h.bd with h9 | h9 <;> exact h9.lt
theorem Sh.below {w W Y : World} {CE : Array Value} {l : List UInt8} (h : Sh w W CE l) (hb : Below W.heap.size W Y) : Sh w Y CE l :=
  ⟨bd_below h.bd hb, h.bel.trans (below_low hb (by have := h.lt; omega))⟩
theorem Sh.line {w W Y : World} {CE : Array Value} {l m : List UInt8} (h : Sh w W CE l) (h2 : Bd (w.heap.size + 1) (w.heap.size + 1) (l ++ m) Y) (hb : Below (w.heap.size + 1) W Y) : Sh w Y CE (l ++ m) := ⟨h2, h.bel.trans hb⟩

theorem cells7 {w : World} {q : Nat} {x0 x1 x2 x3 x4 x5 x6 : Value} {t : TypeId} (h : w.heap[q]? = some (.cells #[x0, x1, x2, x3, x4, x5, x6] t (0, 0))) :
    w.cell? ⟨q, 0, none⟩ = some x0 ∧ w.cell? ⟨q, 1, none⟩ = some x1 ∧ w.cell? ⟨q, 2, none⟩ = some x2 ∧ w.cell? ⟨q, 3, none⟩ = some x3 ∧ w.cell? ⟨q, 4, none⟩ = some x4 ∧ w.cell? ⟨q, 5, none⟩ = some x5 ∧ w.cell? ⟨q, 6, none⟩ = some x6 := by
  simp [World.cell?, h]
theorem strs2 (u : World) (x y : ByteArray) : ∀ (j : Nat) z, [x, y][j]? = some z → (u.alloc (.cells #[.string x, .string y] 9)).cell? ⟨u.heap.size, 0 + j, none⟩ = some (.string z) := by
  intro j z hz
  match j, hz with
  | 0, hz => simp at hz; subst hz; simp
  | 1, hz => simp at hz; subst hz; simp
  | j + 2, hz => simp at hz
theorem strs4 (u : World) (x y p q : ByteArray) : ∀ (j : Nat) z, [x, y, p, q][j]? = some z → (u.alloc (.cells #[.string x, .string y, .string p, .string q] 9)).cell? ⟨u.heap.size, 0 + j, none⟩ = some (.string z) := by
  intro j z hz
  match j, hz with
  | 0, hz => simp at hz; subst hz; simp
  | 1, hz => simp at hz; subst hz; simp
  | 2, hz => simp at hz; subst hz; simp
  | 3, hz => simp at hz; subst hz; simp
  | j + 4, hz => simp at hz
theorem join_le (x : List (List UInt8)) : (Lib.join x [32]).length ≤ (lineB x).length := by simp [lineB]

theorem below_alloc' (w : World) (o : Obj) : Below w.heap.size w (w.alloc o) := (Below.refl _ w).alloc (Nat.le_refl _) o
/-- A line of two things. -/
theorem line2_any (B b : Nat) (x y l : List UInt8) (u : World) (hx : x.length ≤ 100) (hy : y.length ≤ 100) (hl : l.length ≤ 1000000000) (hb : Bd B b l u) (hB : B ≤ u.heap.size) :
    Calls Tryd.prog 14 #[.slice (some ⟨u.heap.size, 0, none⟩) 2 2, .pointer (some ⟨b, 0, none⟩)] (u.alloc (.cells #[.string ⟨x.toArray⟩, .string ⟨y.toArray⟩] 9)) fun e w' => e = .returned (.tuple #[]) ∧ Bd B b (l ++ lineB [x, y]) w' ∧ Below B u w' ∧ Lib.OthersKept 5 (some b) u w' := by
  have h9 := line_any u.heap.size 2 B b [⟨x.toArray⟩, ⟨y.toArray⟩] l (u.alloc (.cells #[.string ⟨x.toArray⟩, .string ⟨y.toArray⟩] 9)) (strs2 u _ _) (by simp) (by simp) (by simp) (by
    have := join_le [x, y]
    rw [line2] at this
    simp at this ⊢
    omega) (by omega) (bd_below hb (below_alloc' u _)) (by simp; omega)
  refine h9.mono ?_
  rintro e w' ⟨rfl, h2, h3, h4⟩
  exact ⟨rfl, by simpa using h2, (below_low (below_alloc' u _) hB).trans h3, (kept_below (below_alloc' u _)).trans h4⟩

theorem cells4 {w : World} {q : Nat} {x0 x1 x2 x3 : Value} {t : TypeId} (h : w.heap[q]? = some (.cells #[x0, x1, x2, x3] t (0, 0))) :
    w.cell? ⟨q, 0, none⟩ = some x0 ∧ w.cell? ⟨q, 1, none⟩ = some x1 ∧ w.cell? ⟨q, 2, none⟩ = some x2 ∧ w.cell? ⟨q, 3, none⟩ = some x3 := by
  simp [World.cell?, h]
theorem line4_any (B b : Nat) (x y p q l : List UInt8) (u : World) (hx : x.length ≤ 100) (hy : y.length ≤ 100) (hp : p.length ≤ 100) (hq : q.length ≤ 100) (hl : l.length ≤ 1000000000) (hb : Bd B b l u) (hB : B ≤ u.heap.size) :
    Calls Tryd.prog 14 #[.slice (some ⟨u.heap.size, 0, none⟩) 4 4, .pointer (some ⟨b, 0, none⟩)] (u.alloc (.cells #[.string ⟨x.toArray⟩, .string ⟨y.toArray⟩, .string ⟨p.toArray⟩, .string ⟨q.toArray⟩] 9)) fun e w' => e = .returned (.tuple #[]) ∧ Bd B b (l ++ lineB [x, y, p, q]) w' ∧ Below B u w' ∧ Lib.OthersKept 5 (some b) u w' := by
  have h9 := line_any u.heap.size 4 B b [⟨x.toArray⟩, ⟨y.toArray⟩, ⟨p.toArray⟩, ⟨q.toArray⟩] l (u.alloc (.cells #[.string ⟨x.toArray⟩, .string ⟨y.toArray⟩, .string ⟨p.toArray⟩, .string ⟨q.toArray⟩] 9)) (strs4 u _ _ _ _) (by simp) (by simp) (by simp) (by
    have := join_le [x, y, p, q]
    rw [line4] at this
    simp at this ⊢
    omega) (by omega) (bd_below hb (below_alloc' u _)) (by simp; omega)
  refine h9.mono ?_
  rintro e w' ⟨rfl, h2, h3, h4⟩
  exact ⟨rfl, by simpa using h2, (below_low (below_alloc' u _) hB).trans h3, (kept_below (below_alloc' u _)).trans h4⟩

theorem saved_len (s : Bool) : (savedB s).length ≤ 3 := by cases s <;> decide

set_option maxHeartbeats 8000000 in
set_option maxRecDepth 100000 in
theorem show_any (r : Rp) (a : Option Addr) (n c : Nat) (w : World) (hr : ReadsF w a n r.fs) (ho : r.Ok) (ht : P10 w) (hw : KW w) :
    Calls Tryd.prog 6 #[.agg #[.int .u64 (r.fl : Int), .int .i64 r.c, .int .i64 r.l, .int .i64 r.u, .int .i64 r.b, .bool r.s, .slice a n c]] w fun e w' => e = .returned (.string ⟨(showB r).toArray⟩) ∧ Below w.heap.size w w' := by
  have HR : Hid (ReadsF w a n r.fs) := hr
  have HO : Hid r.Ok := ho
  have HT : Hid (P10 w) := ht
  have HK : Hid (KW w) := hw
  have hn : n ≤ 1048576 := by rw [← hr.1]; exact ho.few
  have HS0 : Hid (Sh w ((w.alloc (.cells #[.int .u64 (r.fl : Int), .int .i64 r.c, .int .i64 r.l, .int .i64 r.u, .int .i64 r.b, .bool r.s, .slice a n c] 25)).alloc (.cells #[.pointer none, .slice none 0 0] 45)) #[.int .u64 (r.fl : Int), .int .i64 r.c, .int .i64 r.l, .int .i64 r.u, .int .i64 r.b, .bool r.s, .slice a n c] []) := by
    refine ⟨?_, ?_⟩
    · have h9 := Lib.IsBuilderF.of (Lib.fresh_isBuilder 45 5 (w.alloc (.cells #[.int .u64 (r.fl : Int), .int .i64 r.c, .int .i64 r.l, .int .i64 r.u, .int .i64 r.b, .bool r.s, .slice a n c] 25)))
      rw [World.size_alloc] at h9
      exact h9
    · have h9 := below_alloc' (w.alloc (.cells #[.int .u64 (r.fl : Int), .int .i64 r.c, .int .i64 r.l, .int .i64 r.u, .int .i64 r.b, .bool r.s, .slice a n c] 25)) (.cells #[.pointer none, .slice none 0 0] 45)
      rw [World.size_alloc] at h9
      exact h9
  obtain ⟨x0, x1, x2, x3, x4, x5, x6⟩ := cells7 HS0.out.box
  clear hr ho ht hw
  go_enter Tryd.func6, Tryd.ntmps6
  go_upto_region 4 with (first
    | (go_at_call 17; refine (fmtu_any r.fl HO.out.fl _ (p10_below HT.out HS0.out.old)).mono ?_; rintro e t0 ⟨rfl, bl⟩
       have HQ0 : Hid (Sh w t0 #[.int .u64 (r.fl : Int), .int .i64 r.c, .int .i64 r.l, .int .i64 r.u, .int .i64 r.b, .bool r.s, .slice a n c] []) := HS0.out.below bl
       clear bl x0 x1 x2 x3 x4 x5 x6)
    | (go_at_call 14; refine (line2_any (w.heap.size + 1) (w.heap.size + 1) [102, 108, 111, 111, 114] (Lib.decDigits r.fl) [] t0 (by decide) (Nat.le_trans (dec_len r.fl HO.out.fl) (by omega)) (by simp only [List.length_nil]; have := dec_len r.fl HO.out.fl; have := itoa_len r.c HO.out.c; have := itoa_len r.l HO.out.l; have := itoa_len r.u HO.out.u; have := itoa_len r.b HO.out.b; omega) HQ0.out.bd (by have := HQ0.out.lt; omega)).mono ?_; rintro e y0 ⟨rfl, h2, bl, _⟩
       have HS1 : Hid (Sh w y0 #[.int .u64 (r.fl : Int), .int .i64 r.c, .int .i64 r.l, .int .i64 r.u, .int .i64 r.b, .bool r.s, .slice a n c] ([] ++ lineB [[102, 108, 111, 111, 114], Lib.decDigits r.fl])) := HQ0.out.line h2 bl
       clear bl h2 HQ0
       obtain ⟨x0, x1, x2, x3, x4, x5, x6⟩ := cells7 HS1.out.box))
  go_upto_region 5 with (first
    | (go_at_call 18; refine (itoa_any r.c HO.out.c.1 HO.out.c.2 _ (p10_below HT.out HS1.out.old)).mono ?_; rintro e t1 ⟨rfl, bl⟩
       have HQ1 : Hid (Sh w t1 #[.int .u64 (r.fl : Int), .int .i64 r.c, .int .i64 r.l, .int .i64 r.u, .int .i64 r.b, .bool r.s, .slice a n c] ([] ++ lineB [[102, 108, 111, 111, 114], Lib.decDigits r.fl])) := HS1.out.below bl
       clear bl x0 x1 x2 x3 x4 x5 x6)
    | (go_at_call 14; refine (line2_any (w.heap.size + 1) (w.heap.size + 1) [99, 111, 117, 110, 116, 101, 100] (Lib.itoa r.c) ([] ++ lineB [[102, 108, 111, 111, 114], Lib.decDigits r.fl]) t1 (by decide) (Nat.le_trans (itoa_len r.c HO.out.c) (by omega)) (by simp only [line2, List.length_append, List.length_cons, List.length_nil]; have := dec_len r.fl HO.out.fl; have := itoa_len r.c HO.out.c; have := itoa_len r.l HO.out.l; have := itoa_len r.u HO.out.u; have := itoa_len r.b HO.out.b; omega) HQ1.out.bd (by have := HQ1.out.lt; omega)).mono ?_; rintro e y1 ⟨rfl, h2, bl, _⟩
       have HS2 : Hid (Sh w y1 #[.int .u64 (r.fl : Int), .int .i64 r.c, .int .i64 r.l, .int .i64 r.u, .int .i64 r.b, .bool r.s, .slice a n c] (([] ++ lineB [[102, 108, 111, 111, 114], Lib.decDigits r.fl]) ++ lineB [[99, 111, 117, 110, 116, 101, 100], Lib.itoa r.c])) := HQ1.out.line h2 bl
       clear bl h2 HQ1
       obtain ⟨x0, x1, x2, x3, x4, x5, x6⟩ := cells7 HS2.out.box))
  go_upto_region 6 with (first
    | (go_at_call 18; refine (itoa_any r.l HO.out.l.1 HO.out.l.2 _ (p10_below HT.out HS2.out.old)).mono ?_; rintro e t2 ⟨rfl, bl⟩
       have HQ2 : Hid (Sh w t2 #[.int .u64 (r.fl : Int), .int .i64 r.c, .int .i64 r.l, .int .i64 r.u, .int .i64 r.b, .bool r.s, .slice a n c] (([] ++ lineB [[102, 108, 111, 111, 114], Lib.decDigits r.fl]) ++ lineB [[99, 111, 117, 110, 116, 101, 100], Lib.itoa r.c])) := HS2.out.below bl
       clear bl x0 x1 x2 x3 x4 x5 x6)
    | (go_at_call 14; refine (line2_any (w.heap.size + 1) (w.heap.size + 1) [108, 105, 118, 101] (Lib.itoa r.l) (([] ++ lineB [[102, 108, 111, 111, 114], Lib.decDigits r.fl]) ++ lineB [[99, 111, 117, 110, 116, 101, 100], Lib.itoa r.c]) t2 (by decide) (Nat.le_trans (itoa_len r.l HO.out.l) (by omega)) (by simp only [line2, List.length_append, List.length_cons, List.length_nil]; have := dec_len r.fl HO.out.fl; have := itoa_len r.c HO.out.c; have := itoa_len r.l HO.out.l; have := itoa_len r.u HO.out.u; have := itoa_len r.b HO.out.b; omega) HQ2.out.bd (by have := HQ2.out.lt; omega)).mono ?_; rintro e y2 ⟨rfl, h2, bl, _⟩
       have HS3 : Hid (Sh w y2 #[.int .u64 (r.fl : Int), .int .i64 r.c, .int .i64 r.l, .int .i64 r.u, .int .i64 r.b, .bool r.s, .slice a n c] ((([] ++ lineB [[102, 108, 111, 111, 114], Lib.decDigits r.fl]) ++ lineB [[99, 111, 117, 110, 116, 101, 100], Lib.itoa r.c]) ++ lineB [[108, 105, 118, 101], Lib.itoa r.l])) := HQ2.out.line h2 bl
       clear bl h2 HQ2
       obtain ⟨x0, x1, x2, x3, x4, x5, x6⟩ := cells7 HS3.out.box))
  go_upto_region 7 with (first
    | (go_at_call 18; refine (itoa_any r.u HO.out.u.1 HO.out.u.2 _ (p10_below HT.out HS3.out.old)).mono ?_; rintro e t3 ⟨rfl, bl⟩
       have HQ3 : Hid (Sh w t3 #[.int .u64 (r.fl : Int), .int .i64 r.c, .int .i64 r.l, .int .i64 r.u, .int .i64 r.b, .bool r.s, .slice a n c] ((([] ++ lineB [[102, 108, 111, 111, 114], Lib.decDigits r.fl]) ++ lineB [[99, 111, 117, 110, 116, 101, 100], Lib.itoa r.c]) ++ lineB [[108, 105, 118, 101], Lib.itoa r.l])) := HS3.out.below bl
       clear bl x0 x1 x2 x3 x4 x5 x6)
    | (go_at_call 14; refine (line2_any (w.heap.size + 1) (w.heap.size + 1) [117, 115, 101, 100] (Lib.itoa r.u) ((([] ++ lineB [[102, 108, 111, 111, 114], Lib.decDigits r.fl]) ++ lineB [[99, 111, 117, 110, 116, 101, 100], Lib.itoa r.c]) ++ lineB [[108, 105, 118, 101], Lib.itoa r.l]) t3 (by decide) (Nat.le_trans (itoa_len r.u HO.out.u) (by omega)) (by simp only [line2, List.length_append, List.length_cons, List.length_nil]; have := dec_len r.fl HO.out.fl; have := itoa_len r.c HO.out.c; have := itoa_len r.l HO.out.l; have := itoa_len r.u HO.out.u; have := itoa_len r.b HO.out.b; omega) HQ3.out.bd (by have := HQ3.out.lt; omega)).mono ?_; rintro e y3 ⟨rfl, h2, bl, _⟩
       have HS4 : Hid (Sh w y3 #[.int .u64 (r.fl : Int), .int .i64 r.c, .int .i64 r.l, .int .i64 r.u, .int .i64 r.b, .bool r.s, .slice a n c] (((([] ++ lineB [[102, 108, 111, 111, 114], Lib.decDigits r.fl]) ++ lineB [[99, 111, 117, 110, 116, 101, 100], Lib.itoa r.c]) ++ lineB [[108, 105, 118, 101], Lib.itoa r.l]) ++ lineB [[117, 115, 101, 100], Lib.itoa r.u])) := HQ3.out.line h2 bl
       clear bl h2 HQ3
       obtain ⟨x0, x1, x2, x3, x4, x5, x6⟩ := cells7 HS4.out.box))
  go_upto_region 8 with (first
    | (go_at_call 18; refine (itoa_any r.b HO.out.b.1 HO.out.b.2 _ (p10_below HT.out HS4.out.old)).mono ?_; rintro e t4 ⟨rfl, bl⟩
       have HQ4 : Hid (Sh w t4 #[.int .u64 (r.fl : Int), .int .i64 r.c, .int .i64 r.l, .int .i64 r.u, .int .i64 r.b, .bool r.s, .slice a n c] (((([] ++ lineB [[102, 108, 111, 111, 114], Lib.decDigits r.fl]) ++ lineB [[99, 111, 117, 110, 116, 101, 100], Lib.itoa r.c]) ++ lineB [[108, 105, 118, 101], Lib.itoa r.l]) ++ lineB [[117, 115, 101, 100], Lib.itoa r.u])) := HS4.out.below bl
       clear bl x0 x1 x2 x3 x4 x5 x6)
    | (go_at_call 14; refine (line2_any (w.heap.size + 1) (w.heap.size + 1) [98, 97, 100] (Lib.itoa r.b) (((([] ++ lineB [[102, 108, 111, 111, 114], Lib.decDigits r.fl]) ++ lineB [[99, 111, 117, 110, 116, 101, 100], Lib.itoa r.c]) ++ lineB [[108, 105, 118, 101], Lib.itoa r.l]) ++ lineB [[117, 115, 101, 100], Lib.itoa r.u]) t4 (by decide) (Nat.le_trans (itoa_len r.b HO.out.b) (by omega)) (by simp only [line2, List.length_append, List.length_cons, List.length_nil]; have := dec_len r.fl HO.out.fl; have := itoa_len r.c HO.out.c; have := itoa_len r.l HO.out.l; have := itoa_len r.u HO.out.u; have := itoa_len r.b HO.out.b; omega) HQ4.out.bd (by have := HQ4.out.lt; omega)).mono ?_; rintro e y4 ⟨rfl, h2, bl, _⟩
       have HS5 : Hid (Sh w y4 #[.int .u64 (r.fl : Int), .int .i64 r.c, .int .i64 r.l, .int .i64 r.u, .int .i64 r.b, .bool r.s, .slice a n c] ((((([] ++ lineB [[102, 108, 111, 111, 114], Lib.decDigits r.fl]) ++ lineB [[99, 111, 117, 110, 116, 101, 100], Lib.itoa r.c]) ++ lineB [[108, 105, 118, 101], Lib.itoa r.l]) ++ lineB [[117, 115, 101, 100], Lib.itoa r.u]) ++ lineB [[98, 97, 100], Lib.itoa r.b])) := HQ4.out.line h2 bl
       clear bl h2 HQ4
       obtain ⟨x0, x1, x2, x3, x4, x5, x6⟩ := cells7 HS5.out.box))
  go_upto_region 9 with (first
    | (go_at_call 19; refine (said_any r.s _).mono ?_; rintro e t5 ⟨rfl, ht5⟩
       have HQ5 : Hid (Sh w t5 #[.int .u64 (r.fl : Int), .int .i64 r.c, .int .i64 r.l, .int .i64 r.u, .int .i64 r.b, .bool r.s, .slice a n c] ((((([] ++ lineB [[102, 108, 111, 111, 114], Lib.decDigits r.fl]) ++ lineB [[99, 111, 117, 110, 116, 101, 100], Lib.itoa r.c]) ++ lineB [[108, 105, 118, 101], Lib.itoa r.l]) ++ lineB [[117, 115, 101, 100], Lib.itoa r.u]) ++ lineB [[98, 97, 100], Lib.itoa r.b])) := by rw [ht5]; exact HS5.out
       clear ht5 x0 x1 x2 x3 x4 x5 x6)
    | (go_at_call 14; refine (line2_any (w.heap.size + 1) (w.heap.size + 1) [115, 97, 118, 101, 100] (savedB r.s) ((((([] ++ lineB [[102, 108, 111, 111, 114], Lib.decDigits r.fl]) ++ lineB [[99, 111, 117, 110, 116, 101, 100], Lib.itoa r.c]) ++ lineB [[108, 105, 118, 101], Lib.itoa r.l]) ++ lineB [[117, 115, 101, 100], Lib.itoa r.u]) ++ lineB [[98, 97, 100], Lib.itoa r.b]) t5 (by decide) (Nat.le_trans (saved_len r.s) (by omega)) (by simp only [line2, List.length_append, List.length_cons, List.length_nil]; have := dec_len r.fl HO.out.fl; have := itoa_len r.c HO.out.c; have := itoa_len r.l HO.out.l; have := itoa_len r.u HO.out.u; have := itoa_len r.b HO.out.b; omega) HQ5.out.bd (by have := HQ5.out.lt; omega)).mono ?_; rintro e y5 ⟨rfl, h2, bl, _⟩
       have HS6 : Hid (Sh w y5 #[.int .u64 (r.fl : Int), .int .i64 r.c, .int .i64 r.l, .int .i64 r.u, .int .i64 r.b, .bool r.s, .slice a n c] (((((([] ++ lineB [[102, 108, 111, 111, 114], Lib.decDigits r.fl]) ++ lineB [[99, 111, 117, 110, 116, 101, 100], Lib.itoa r.c]) ++ lineB [[108, 105, 118, 101], Lib.itoa r.l]) ++ lineB [[117, 115, 101, 100], Lib.itoa r.u]) ++ lineB [[98, 97, 100], Lib.itoa r.b]) ++ lineB [[115, 97, 118, 101, 100], savedB r.s])) := HQ5.out.line h2 bl
       clear bl h2 HQ5
       obtain ⟨x0, x1, x2, x3, x4, x5, x6⟩ := cells7 HS6.out.box))
  obtain ⟨HX, hHX⟩ : ∃ HX, (((((([] ++ lineB [[102, 108, 111, 111, 114], Lib.decDigits r.fl]) ++ lineB [[99, 111, 117, 110, 116, 101, 100], Lib.itoa r.c]) ++ lineB [[108, 105, 118, 101], Lib.itoa r.l]) ++ lineB [[117, 115, 101, 100], Lib.itoa r.u]) ++ lineB [[98, 97, 100], Lib.itoa r.b]) ++ lineB [[115, 97, 118, 101, 100], savedB r.s]) = HX := ⟨_, rfl⟩
  have HHX : Hid (headB r = HX) := by rw [← hHX]; unfold Hid headB; rw [List.nil_append]
  have HHL : Hid (HX.length ≤ 1000) := by
    unfold Hid
    rw [← hHX]
    have := saved_len r.s
    simp only [line2, List.length_append, List.length_cons, List.length_nil]
    have := dec_len r.fl HO.out.fl; have := itoa_len r.c HO.out.c; have := itoa_len r.l HO.out.l; have := itoa_len r.u HO.out.u; have := itoa_len r.b HO.out.b; omega
  rw [hHX] at HS6
  clear hHX HS0 HS1 HS2 HS3 HS4 HS5
  go_wp2_with fail
  clear x0 x1 x2 x3 x4 x5 x6
  go_loopw [47] (fun s47 wr => ∃ i : Nat, i ≤ n ∧ s47 = .int .i64 (i : Int) ∧ Hid (Sh w wr #[.int .u64 (r.fl : Int), .int .i64 r.c, .int .i64 r.l, .int .i64 r.u, .int .i64 r.b, .bool r.s, .slice a n c] (HX ++ rowsB (r.fs.take i)))) (fun i _ => n - (RowKit.intOf i).toNat)
  case atStart => exact ⟨0, Nat.zero_le _, rfl, by rw [List.take_zero, show rowsB [] = [] from rfl, List.append_nil]; exact HS6.out⟩
  case round =>
    obtain ⟨i, hi, rfl, HI⟩ := hrel
    clear HS6
    by_cases hlt : i < n
    · have di : (i : Int) < (n : Int) := by omega
      obtain ⟨bk, off, rfl, hbk, hcell⟩ := (HR.out.below HI.out.old).pos (by omega)
      obtain ⟨e0, e1, e2, e3⟩ := hcell i hlt
      have hil : i < r.fs.length := by rw [HR.out.1]; exact hlt
      have hfm : r.fs.getD i Fd.zero ∈ r.fs := by rw [List.getD_eq_getElem?_getD, List.getElem?_eq_getElem hil]; exact List.getElem_mem hil
      have hok := HO.out.fs _ hfm
      have HTK : Hid (rowsB (r.fs.take (i + 1)) = rowsB (r.fs.take i) ++ rowB (r.fs.getD i Fd.zero)) := by
        unfold Hid
        rw [List.take_succ_eq_append_getElem hil, rowsB_snoc, List.getD_eq_getElem?_getD, List.getElem?_eq_getElem hil]
        rfl
      have HLL : Hid ((HX ++ rowsB (r.fs.take i)).length ≤ 1000000000) := by
        have h8 := rows_len (r.fs.take i) (fun f hf => HO.out.fs f (List.mem_of_mem_take hf))
        rw [List.length_take] at h8
        have := HHL.out
        unfold Hid
        rw [List.length_append]
        omega
      obtain ⟨F, hF⟩ : ∃ F, r.fs.getD i Fd.zero = F := ⟨_, rfl⟩
      rw [hF] at e0 e1 e2 e3 hok HTK
      clear hfm hF hcell
      obtain ⟨k0, b0, p0, o0⟩ := F
      simp only at e0 e1 e2 e3
      obtain ⟨hk0, hb0, hp0, ho0⟩ := hok
      simp only at hk0 hb0 hp0 ho0
      have HZ0 : Hid (Sh w (wr.alloc (.cells #[.int .i64 k0, .int .i64 b0, .int .i64 p0, .int .i64 o0] 29)).drew #[.int .u64 (r.fl : Int), .int .i64 r.c, .int .i64 r.l, .int .i64 r.u, .int .i64 r.b, .bool r.s, .slice (some ⟨bk, off, none⟩) n c] (HX ++ rowsB (r.fs.take i))) := HI.out.below (below_alloc' _ _).drew
      have HF0 : Hid ((wr.alloc (.cells #[.int .i64 k0, .int .i64 b0, .int .i64 p0, .int .i64 o0] 29)).drew.heap[wr.heap.size]? = some (.cells #[.int .i64 k0, .int .i64 b0, .int .i64 p0, .int .i64 o0] 29 (0, 0))) := heap_alloc_new _ _
      have HS00 : Hid ((wr.alloc (.cells #[.int .i64 k0, .int .i64 b0, .int .i64 p0, .int .i64 o0] 29)).cell? ⟨wr.heap.size, 0, none⟩ = some (.int .i64 k0) ∧ (wr.alloc (.cells #[.int .i64 k0, .int .i64 b0, .int .i64 p0, .int .i64 o0] 29)).cell? ⟨wr.heap.size, 1, none⟩ = some (.int .i64 b0) ∧ (wr.alloc (.cells #[.int .i64 k0, .int .i64 b0, .int .i64 p0, .int .i64 o0] 29)).cell? ⟨wr.heap.size, 2, none⟩ = some (.int .i64 p0) ∧ (wr.alloc (.cells #[.int .i64 k0, .int .i64 b0, .int .i64 p0, .int .i64 o0] 29)).cell? ⟨wr.heap.size, 3, none⟩ = some (.int .i64 o0)) := cells4 HF0.out
      go_upto_region 12 with fail
      refine wp_region_held_drew (S := (fun y : World => y.cell? ⟨wr.heap.size, 0, none⟩ = some (.int .i64 k0) ∧ y.cell? ⟨wr.heap.size, 1, none⟩ = some (.int .i64 b0) ∧ y.cell? ⟨wr.heap.size, 2, none⟩ = some (.int .i64 p0) ∧ y.cell? ⟨wr.heap.size, 3, none⟩ = some (.int .i64 o0))) (by kernel_rfl) (HS00.out) (fun hHeld => ?_)
      refine wpAnyH_take (i := 0) (oi := { dst := some 51, op := Op.move (Operand.tmp 4), type := 52, pos := "text.go:51", after := #[], guard := none }) (v := ?v0s) rfl (by kernel_rfl) (by kernel_rfl) (by kernel_rfl) (fun _ _ _ h => h) (Or.inl ⟨by rfl, ?y0s⟩) (by assumption) ?r0s
      case y0s => (intro x hx; (try dsimp only at hx); go_simp; try with_reducible rfl)
      try simp only [Act.put, List.setIfInBounds_toArray, List.set_cons_zero, List.set_cons_succ]
      refine wpAnyH_take (i := 1) (oi := { dst := some 52, op := Op.fieldAddr 29 (Operand.tmp 6) 0, type := 0, pos := "text.go:51", after := #[], guard := none }) (v := ?v1s) rfl (by kernel_rfl) (by kernel_rfl) (by kernel_rfl) (fun _ _ _ h => h) (Or.inl ⟨by rfl, ?y1s⟩) (by assumption) ?r1s
      case y1s => (intro x hx; (try dsimp only at hx); go_simp; try with_reducible rfl)
      try simp only [Act.put, List.setIfInBounds_toArray, List.set_cons_zero, List.set_cons_succ]
      refine wpAnyH_take (i := 2) (oi := { dst := some 53, op := Op.load 3 (Operand.tmp 52), type := 3, pos := "text.go:51", after := #[{ on := 1, ground := Ground.data }], guard := none }) (v := ?v2s) rfl (by kernel_rfl) (by kernel_rfl) (by kernel_rfl) (fun _ _ _ h => h) (Or.inl ⟨by rfl, ?y2s⟩) (by assumption) ?r2s
      case y2s => (intro x hx; (try dsimp only at hx); go_simp; try with_reducible rfl)
      try simp only [Act.put, List.setIfInBounds_toArray, List.set_cons_zero, List.set_cons_succ]
      refine wpAnyH_take (i := 4) (oi := { dst := some 55, op := Op.fieldAddr 29 (Operand.tmp 6) 1, type := 0, pos := "text.go:51", after := #[], guard := none }) (v := ?v4s) rfl (by kernel_rfl) (by kernel_rfl) (by kernel_rfl) (fun _ _ _ h => h) (Or.inl ⟨by rfl, ?y4s⟩) (by assumption) ?r4s
      case y4s => (intro x hx; (try dsimp only at hx); go_simp; try with_reducible rfl)
      try simp only [Act.put, List.setIfInBounds_toArray, List.set_cons_zero, List.set_cons_succ]
      refine wpAnyH_take (i := 5) (oi := { dst := some 56, op := Op.fieldAddr 27 (Operand.tmp 55) 0, type := 0, pos := "text.go:51", after := #[{ on := 4, ground := Ground.data }], guard := none }) (v := ?v5s) rfl (by kernel_rfl) (by kernel_rfl) (by kernel_rfl) (fun _ _ _ h => h) (Or.inl ⟨by rfl, ?y5s⟩) (by assumption) ?r5s
      case y5s => (intro x hx; (try dsimp only at hx); go_simp; try with_reducible rfl)
      try simp only [Act.put, List.setIfInBounds_toArray, List.set_cons_zero, List.set_cons_succ]
      refine wpAnyH_take (i := 6) (oi := { dst := some 57, op := Op.load 3 (Operand.tmp 56), type := 3, pos := "text.go:51", after := #[{ on := 5, ground := Ground.data }], guard := none }) (v := ?v6s) rfl (by kernel_rfl) (by kernel_rfl) (by kernel_rfl) (fun _ _ _ h => h) (Or.inl ⟨by rfl, ?y6s⟩) (by assumption) ?r6s
      case y6s => (intro x hx; (try dsimp only at hx); go_simp; try with_reducible rfl)
      try simp only [Act.put, List.setIfInBounds_toArray, List.set_cons_zero, List.set_cons_succ]
      refine wpAnyH_take (i := 8) (oi := { dst := some 59, op := Op.fieldAddr 29 (Operand.tmp 6) 1, type := 0, pos := "text.go:51", after := #[], guard := none }) (v := ?v8s) rfl (by kernel_rfl) (by kernel_rfl) (by kernel_rfl) (fun _ _ _ h => h) (Or.inl ⟨by rfl, ?y8s⟩) (by assumption) ?r8s
      case y8s => (intro x hx; (try dsimp only at hx); go_simp; try with_reducible rfl)
      try simp only [Act.put, List.setIfInBounds_toArray, List.set_cons_zero, List.set_cons_succ]
      refine wpAnyH_take (i := 9) (oi := { dst := some 60, op := Op.fieldAddr 27 (Operand.tmp 59) 1, type := 0, pos := "text.go:51", after := #[{ on := 8, ground := Ground.data }], guard := none }) (v := ?v9s) rfl (by kernel_rfl) (by kernel_rfl) (by kernel_rfl) (fun _ _ _ h => h) (Or.inl ⟨by rfl, ?y9s⟩) (by assumption) ?r9s
      case y9s => (intro x hx; (try dsimp only at hx); go_simp; try with_reducible rfl)
      try simp only [Act.put, List.setIfInBounds_toArray, List.set_cons_zero, List.set_cons_succ]
      refine wpAnyH_take (i := 10) (oi := { dst := some 61, op := Op.load 3 (Operand.tmp 60), type := 3, pos := "text.go:51", after := #[{ on := 9, ground := Ground.data }], guard := none }) (v := ?v10s) rfl (by kernel_rfl) (by kernel_rfl) (by kernel_rfl) (fun _ _ _ h => h) (Or.inl ⟨by rfl, ?y10s⟩) (by assumption) ?r10s
      case y10s => (intro x hx; (try dsimp only at hx); go_simp; try with_reducible rfl)
      try simp only [Act.put, List.setIfInBounds_toArray, List.set_cons_zero, List.set_cons_succ]
      refine wpAnyH_take (i := 12) (oi := { dst := some 63, op := Op.fieldAddr 29 (Operand.tmp 6) 2, type := 0, pos := "text.go:51", after := #[], guard := none }) (v := ?v12s) rfl (by kernel_rfl) (by kernel_rfl) (by kernel_rfl) (fun _ _ _ h => h) (Or.inl ⟨by rfl, ?y12s⟩) (by assumption) ?r12s
      case y12s => (intro x hx; (try dsimp only at hx); go_simp; try with_reducible rfl)
      try simp only [Act.put, List.setIfInBounds_toArray, List.set_cons_zero, List.set_cons_succ]
      refine wpAnyH_take (i := 13) (oi := { dst := some 64, op := Op.load 3 (Operand.tmp 63), type := 3, pos := "text.go:51", after := #[{ on := 12, ground := Ground.data }], guard := none }) (v := ?v13s) rfl (by kernel_rfl) (by kernel_rfl) (by kernel_rfl) (fun _ _ _ h => h) (Or.inl ⟨by rfl, ?y13s⟩) (by assumption) ?r13s
      case y13s => (intro x hx; (try dsimp only at hx); go_simp; try with_reducible rfl)
      try simp only [Act.put, List.setIfInBounds_toArray, List.set_cons_zero, List.set_cons_succ]
      refine wpAnyH_ready (rs := [3]) (by kernel_rfl) (by simp) ?_
      refine AllReadyH.cons (o := { dst := some 54, op := Op.call { callee := Callee.value (Operand.func 20), args := #[Operand.tmp 53], argTypes := #[3] }, type := 9, pos := "text.go:51", after := #[{ on := 2, ground := Ground.data }], guard := none }) rfl (fun K hK => ?_) AllReadyH.nil
      go_simp
      refine (kind_any k0 hk0 _ (p10_below HT.out HZ0.out.old) (HK.out.below HZ0.out.old)).mono ?_; rintro e z1 ⟨rfl, bl⟩
      have HZ1 : Hid (Sh w z1 #[.int .u64 (r.fl : Int), .int .i64 r.c, .int .i64 r.l, .int .i64 r.u, .int .i64 r.b, .bool r.s, .slice (some ⟨bk, off, none⟩) n c] (HX ++ rowsB (r.fs.take i))) := HZ0.out.below bl
      have HF1 : Hid (z1.heap[wr.heap.size]? = some (.cells #[.int .i64 k0, .int .i64 b0, .int .i64 p0, .int .i64 o0] 29 (0, 0))) := (bl.block _ (Array.getElem?_eq_some_iff.1 HF0.out).1).trans HF0.out
      have hSnew := cells4 HF1.out
      clear bl
      go_wp2_with fail
      refine hK.out _ _ hSnew (fun hHeld3 => ?_)
      clear hK K hSnew
      clear hHeld
      have hHeld := hHeld3
      clear hHeld3
      try simp only [Act.put, List.setIfInBounds_toArray, List.set_cons_zero, List.set_cons_succ]
      refine wpAnyH_ready (rs := [7]) (by kernel_rfl) (by simp) ?_
      refine AllReadyH.cons (o := { dst := some 58, op := Op.call { callee := Callee.value (Operand.func 18), args := #[Operand.tmp 57], argTypes := #[3] }, type := 9, pos := "text.go:51", after := #[{ on := 6, ground := Ground.data }, { on := 3, ground := Ground.chain }], guard := none }) rfl (fun K hK => ?_) AllReadyH.nil
      go_simp
      refine (itoa_any b0 hb0.1 hb0.2 _ (p10_below HT.out HZ1.out.old)).mono ?_; rintro e z2 ⟨rfl, bl⟩
      have HZ2 : Hid (Sh w z2 #[.int .u64 (r.fl : Int), .int .i64 r.c, .int .i64 r.l, .int .i64 r.u, .int .i64 r.b, .bool r.s, .slice (some ⟨bk, off, none⟩) n c] (HX ++ rowsB (r.fs.take i))) := HZ1.out.below bl
      have HF2 : Hid (z2.heap[wr.heap.size]? = some (.cells #[.int .i64 k0, .int .i64 b0, .int .i64 p0, .int .i64 o0] 29 (0, 0))) := (bl.block _ (Array.getElem?_eq_some_iff.1 HF1.out).1).trans HF1.out
      have hSnew := cells4 HF2.out
      clear bl
      go_wp2_with fail
      refine hK.out _ _ hSnew (fun hHeld7 => ?_)
      clear hK K hSnew
      clear hHeld
      have hHeld := hHeld7
      clear hHeld7
      try simp only [Act.put, List.setIfInBounds_toArray, List.set_cons_zero, List.set_cons_succ]
      refine wpAnyH_ready (rs := [11]) (by kernel_rfl) (by simp) ?_
      refine AllReadyH.cons (o := { dst := some 62, op := Op.call { callee := Callee.value (Operand.func 18), args := #[Operand.tmp 61], argTypes := #[3] }, type := 9, pos := "text.go:51", after := #[{ on := 10, ground := Ground.data }, { on := 7, ground := Ground.chain }], guard := none }) rfl (fun K hK => ?_) AllReadyH.nil
      go_simp
      refine (itoa_any p0 hp0.1 hp0.2 _ (p10_below HT.out HZ2.out.old)).mono ?_; rintro e z3 ⟨rfl, bl⟩
      have HZ3 : Hid (Sh w z3 #[.int .u64 (r.fl : Int), .int .i64 r.c, .int .i64 r.l, .int .i64 r.u, .int .i64 r.b, .bool r.s, .slice (some ⟨bk, off, none⟩) n c] (HX ++ rowsB (r.fs.take i))) := HZ2.out.below bl
      have HF3 : Hid (z3.heap[wr.heap.size]? = some (.cells #[.int .i64 k0, .int .i64 b0, .int .i64 p0, .int .i64 o0] 29 (0, 0))) := (bl.block _ (Array.getElem?_eq_some_iff.1 HF2.out).1).trans HF2.out
      have hSnew := cells4 HF3.out
      clear bl
      go_wp2_with fail
      refine hK.out _ _ hSnew (fun hHeld11 => ?_)
      clear hK K hSnew
      clear hHeld
      have hHeld := hHeld11
      clear hHeld11
      try simp only [Act.put, List.setIfInBounds_toArray, List.set_cons_zero, List.set_cons_succ]
      refine wpAnyH_ready (rs := [14]) (by kernel_rfl) (by simp) ?_
      refine AllReadyH.cons (o := { dst := some 65, op := Op.call { callee := Callee.value (Operand.func 18), args := #[Operand.tmp 64], argTypes := #[3] }, type := 9, pos := "text.go:51", after := #[{ on := 13, ground := Ground.data }, { on := 11, ground := Ground.chain }], guard := none }) rfl (fun K hK => ?_) AllReadyH.nil
      go_simp
      refine (itoa_any o0 ho0.1 ho0.2 _ (p10_below HT.out HZ3.out.old)).mono ?_; rintro e z4 ⟨rfl, bl⟩
      have HZ4 : Hid (Sh w z4 #[.int .u64 (r.fl : Int), .int .i64 r.c, .int .i64 r.l, .int .i64 r.u, .int .i64 r.b, .bool r.s, .slice (some ⟨bk, off, none⟩) n c] (HX ++ rowsB (r.fs.take i))) := HZ3.out.below bl
      have HF4 : Hid (z4.heap[wr.heap.size]? = some (.cells #[.int .i64 k0, .int .i64 b0, .int .i64 p0, .int .i64 o0] 29 (0, 0))) := (bl.block _ (Array.getElem?_eq_some_iff.1 HF3.out).1).trans HF3.out
      have hSnew := cells4 HF4.out
      clear bl
      go_wp2_with fail
      refine hK.out _ _ hSnew (fun hHeld14 => ?_)
      clear hK K hSnew
      clear hHeld
      have hHeld := hHeld14
      clear hHeld14
      try simp only [Act.put, List.setIfInBounds_toArray, List.set_cons_zero, List.set_cons_succ]
      refine wpAnyH_ready (rs := [15]) (by kernel_rfl) (by simp) ?_
      refine AllReadyH.cons (o := { dst := some 66, op := Op.buildSlice 46 4 #[(0, Operand.tmp 54), (1, Operand.tmp 58), (2, Operand.tmp 62), (3, Operand.tmp 65)], type := 46, pos := "text.go:51", after := #[{ on := 3, ground := Ground.data }, { on := 7, ground := Ground.data }, { on := 11, ground := Ground.data }, { on := 14, ground := Ground.data }], guard := none }) rfl (fun K hK => ?_) AllReadyH.nil
      go_simp
      go_wp2_with fail
      have hSnew : (z4.alloc (.cells #[.string ⟨(kindB k0).toArray⟩, .string ⟨(Lib.itoa b0).toArray⟩, .string ⟨(Lib.itoa p0).toArray⟩, .string ⟨(Lib.itoa o0).toArray⟩] 9)).cell? ⟨wr.heap.size, 0, none⟩ = some (.int .i64 k0) ∧ (z4.alloc (.cells #[.string ⟨(kindB k0).toArray⟩, .string ⟨(Lib.itoa b0).toArray⟩, .string ⟨(Lib.itoa p0).toArray⟩, .string ⟨(Lib.itoa o0).toArray⟩] 9)).cell? ⟨wr.heap.size, 1, none⟩ = some (.int .i64 b0) ∧ (z4.alloc (.cells #[.string ⟨(kindB k0).toArray⟩, .string ⟨(Lib.itoa b0).toArray⟩, .string ⟨(Lib.itoa p0).toArray⟩, .string ⟨(Lib.itoa o0).toArray⟩] 9)).cell? ⟨wr.heap.size, 2, none⟩ = some (.int .i64 p0) ∧ (z4.alloc (.cells #[.string ⟨(kindB k0).toArray⟩, .string ⟨(Lib.itoa b0).toArray⟩, .string ⟨(Lib.itoa p0).toArray⟩, .string ⟨(Lib.itoa o0).toArray⟩] 9)).cell? ⟨wr.heap.size, 3, none⟩ = some (.int .i64 o0) := cells4 ((Below.heap_alloc z4 _ _ (Array.getElem?_eq_some_iff.1 HF4.out).1).trans HF4.out)
      refine hK.out _ _ hSnew (fun hHeld15 => ?_)
      clear hK K hSnew
      clear hHeld
      have hHeld := hHeld15
      clear hHeld15
      try simp only [Act.put, List.setIfInBounds_toArray, List.set_cons_zero, List.set_cons_succ]
      refine wpAnyH_ready (rs := [16]) (by kernel_rfl) (by simp) ?_
      refine AllReadyH.cons (o := { dst := some 67, op := Op.call { callee := Callee.value (Operand.tmp 51), args := #[Operand.tmp 66], argTypes := #[46] }, type := 0, pos := "text.go:51", after := #[{ on := 0, ground := Ground.data }, { on := 15, ground := Ground.data }, { on := 14, ground := Ground.chain }], guard := none }) rfl (fun K hK => ?_) AllReadyH.nil
      go_simp
      refine (line4_any (w.heap.size + 1) (w.heap.size + 1) (kindB k0) (Lib.itoa b0) (Lib.itoa p0) (Lib.itoa o0) (HX ++ rowsB (r.fs.take i)) z4 (Nat.le_trans (kind_len k0 hk0) (by omega)) (Nat.le_trans (itoa_len b0 hb0) (by omega)) (Nat.le_trans (itoa_len p0 hp0) (by omega)) (Nat.le_trans (itoa_len o0 ho0) (by omega)) HLL.out HZ4.out.bd (by have := HZ4.out.lt; omega)).mono ?_; rintro e z5 ⟨rfl, h2, bl, ok⟩
      have HZ5 : Hid (Sh w z5 #[.int .u64 (r.fl : Int), .int .i64 r.c, .int .i64 r.l, .int .i64 r.u, .int .i64 r.b, .bool r.s, .slice (some ⟨bk, off, none⟩) n c] (HX ++ rowsB (r.fs.take i) ++ lineB [kindB k0, Lib.itoa b0, Lib.itoa p0, Lib.itoa o0])) := HZ4.out.line h2 bl
      have hSnew := cells4 (ok wr.heap.size _ HF4.out (fun e => by have e9 := Option.some.inj e; have := HI.out.lt; omega) (fun c fz e => by cases e))
      clear bl h2 ok
      go_wp2_with fail
      refine hK.out _ _ hSnew (fun hHeld16 => ?_)
      clear hK K hSnew
      clear hHeld
      have hHeld := hHeld16
      clear hHeld16
      try simp only [Act.put, List.setIfInBounds_toArray, List.set_cons_zero, List.set_cons_succ]
      refine wpAnyH_done (by kernel_rfl) ?_ _
      clear hHeld HZ0 HF0 HS00 HZ1 HF1 HZ2 HF2 HZ3 HF3 HZ4 HF4 e0 e1 e2 e3
      go_wp2_with fail
      go_roundw
      case rel => exact ⟨i + 1, by omega, by go_num, by rw [HTK.out, ← List.append_assoc]; exact HZ5.out⟩
      case measure => simp [RowKit.intOf]; omega
    · have di : ¬ (i : Int) < (n : Int) := by omega
      have HE : Hid (HX ++ rowsB (r.fs.take i) = showB r) := by
        unfold Hid showB
        rw [HHX.out, List.take_of_length_le (by rw [HR.out.1]; omega)]
      go_wp2_with (first
        | (go_at_call 21; refine (Any.Builder_String_any_k (ρ := Tryd.lays169_ren) Tryd.lays169 Tryd.Builder_Extra_169 (w.heap.size + 1) (w.heap.size + 1) _ _ HI.out.bd (by have := HI.out.lt; omega)).mono ?_; rintro e z1 ⟨rfl, _, bl, _⟩; rw [HE.out]
           have HBL : Hid (Below w.heap.size w z1) := HI.out.old.trans ⟨bl.os, bl.tape, bl.output, bl.size, fun i hi => bl.block i (by omega)⟩
           clear bl))
      go_ret
      exact ⟨rfl, HBL.out⟩

end Go.Proofs.YtnjcjaaciphcgaaDoor
