/-
  SEAT YtdiifegljonojaaGreatDoor: the reference: a file's data.
-/
import Derived.Test.YtdiifegljonojaaGreatDoorSd
namespace Go.Proofs.YtdiifegljonojaaGreatDoor
open Go.RowKit
set_option linter.unusedVariables false

theorem make_none (u : World) : (Instr.makeSlice 25 (.int .i64 0) (.int .i64 0)).run Tryz.prog u = .ok (.slice (some ⟨u.heap.size, 0, none⟩) 0 0) (u.alloc (.cells (madeCells #[.int .u8 0] 0) 5)) := make_bytes 0 (by omega) u

/-- A number, as the reference reads it: what it is and what the row is then. -/
theorem rnum_any (B q n : Nat) (lo hi : Int) (s : Rw) (bs : List Int) (w : World) (h : RW w q s) (ho : s.Ok w bs B q) (he : s.e = 0) (hn1 : 1 ≤ n) (hn8 : n ≤ 8) :
    Calls Tryz.prog 46 #[.pointer (some ⟨q, 0, none⟩), .int .i64 (n : Int), .int .u64 lo, .int .u64 hi] w fun e w' => w.grownBy w' (some q) ∧ match wholeR n lo hi (bs.drop s.pos) with
      | .error x => e = .returned (.int .u64 0) ∧ ∃ s' : Rw, s'.e = x ∧ s'.told = s.told ∧ s'.dry = s.dry ∧ RW w' q s' ∧ s'.Ok w' bs B q
      | .ok (v, r) => e = .returned (.int .u64 v) ∧ RW w' q { s with pos := s.pos + n } ∧ ({ s with pos := s.pos + n } : Rw).Ok w' bs B q ∧ r = bs.drop (s.pos + n) := by
  have hq := (Array.getElem?_eq_some_iff.1 h).1
  have hl := ho.rd.1
  have hd : (bs.drop s.pos).length = s.m - s.pos := by rw [List.length_drop, hl]
  by_cases hn : n ≤ s.m - s.pos
  · refine (rnum_ok B q n lo hi s bs w h ho he hn1 hn8 hn).mono ?_
    rintro e u ⟨rfl, r1, g1⟩
    refine ⟨g1, ?_⟩
    unfold wholeR
    rw [hd, if_pos hn]
    by_cases hc : lo ≤ getL (bs.drop s.pos) 0 n ∧ getL (bs.drop s.pos) 0 n ≤ hi
    · rw [if_pos hc, if_pos hc]
      rw [if_pos hc] at r1
      have hs : ({ s with pos := s.pos + n, e := 0 } : Rw) = { s with pos := s.pos + n } := by rw [← he]
      rw [hs] at r1
      have h9 := ho.next g1 hq hn 0
      rw [hs] at h9
      exact ⟨rfl, r1, h9, by rw [List.drop_drop]⟩
    · rw [if_neg hc, if_neg hc]
      rw [if_neg hc] at r1
      exact ⟨rfl, { s with pos := s.pos + n, e := 191 }, rfl, rfl, rfl, r1, ho.next g1 hq hn 191⟩
  · refine (rnum_no q n lo hi s w h hn8 ho.pm ho.ml (Or.inr (by omega))).mono ?_
    rintro e u ⟨rfl, r1, g1⟩
    refine ⟨g1, ?_⟩
    unfold wholeR
    rw [hd, if_neg hn]
    have hf : failE s.e 190 = 190 := by rw [he]; rfl
    rw [hf] at r1
    exact ⟨rfl, { s with e := 190 }, rfl, rfl, rfl, r1, ho.stay g1 hq 190⟩
/-- A number where an error stands. -/
theorem rnum_dead (B q n : Nat) (lo hi : Int) (s : Rw) (bs : List Int) (w : World) (h : RW w q s) (ho : s.Ok w bs B q) (he : s.e ≠ 0) (hn8 : n ≤ 8) :
    Calls Tryz.prog 46 #[.pointer (some ⟨q, 0, none⟩), .int .i64 (n : Int), .int .u64 lo, .int .u64 hi] w fun e w' => e = .returned (.int .u64 0) ∧ RW w' q s ∧ s.Ok w' bs B q ∧ w.grownBy w' (some q) := by
  have hq := (Array.getElem?_eq_some_iff.1 h).1
  refine (rnum_no q n lo hi s w h hn8 ho.pm ho.ml (Or.inl he)).mono ?_
  rintro e u ⟨rfl, r1, g1⟩
  have hf : failE s.e 190 = s.e := by unfold failE; rw [if_neg he]
  rw [hf] at r1
  exact ⟨rfl, r1, ho.stay g1 hq s.e, g1⟩
/-- The next bytes. -/
theorem rtake_any (B q n : Nat) (s : Rw) (bs : List Int) (w : World) (h : RW w q s) (ho : s.Ok w bs B q) (he : s.e = 0) (hn : n ≤ 200000000000000) :
    Calls Tryz.prog 47 #[.pointer (some ⟨q, 0, none⟩), .int .i64 (n : Int)] w fun e w' => w.grownBy w' (some q) ∧ match takeR n (bs.drop s.pos) with
      | .error x => e = .returned (.slice none 0 0) ∧ x = 190 ∧ RW w' q { s with e := 190 } ∧ ({ s with e := 190 } : Rw).Ok w' bs B q
      | .ok (b, r) => (∃ o c, e = .returned (.slice (some ⟨s.b, o, none⟩) n c) ∧ Reads w' (some ⟨s.b, o, none⟩) n b) ∧ RW w' q { s with pos := s.pos + n } ∧ ({ s with pos := s.pos + n } : Rw).Ok w' bs B q ∧ r = bs.drop (s.pos + n) := by
  have hq := (Array.getElem?_eq_some_iff.1 h).1
  have hl := ho.rd.1
  have hd : (bs.drop s.pos).length = s.m - s.pos := by rw [List.length_drop, hl]
  by_cases hn : n ≤ s.m - s.pos
  · refine (rtake_ok B q n s bs w h ho he hn).mono ?_
    rintro e u ⟨o, c, rfl, rs, r1, g1⟩
    refine ⟨g1, ?_⟩
    unfold takeR
    rw [hd, if_pos hn]
    have h9 := ho.next g1 hq hn s.e
    exact ⟨⟨o, c, rfl, rs⟩, r1, h9, by rw [List.drop_drop]⟩
  · refine (rtake_no q n s w h (by omega) ho.pm ho.ml (Or.inr (by omega))).mono ?_
    rintro e u ⟨rfl, r1, g1⟩
    refine ⟨g1, ?_⟩
    unfold takeR
    rw [hd, if_neg hn]
    have hf : failE s.e 190 = 190 := by rw [he]; rfl
    rw [hf] at r1
    exact ⟨rfl, rfl, r1, ho.stay g1 hq 190⟩
theorem rtake_dead (B q n : Nat) (s : Rw) (bs : List Int) (w : World) (h : RW w q s) (ho : s.Ok w bs B q) (he : s.e ≠ 0) (hn : n ≤ 200000000000000) :
    Calls Tryz.prog 47 #[.pointer (some ⟨q, 0, none⟩), .int .i64 (n : Int)] w fun e w' => e = .returned (.slice none 0 0) ∧ RW w' q s ∧ s.Ok w' bs B q ∧ w.grownBy w' (some q) := by
  have hq := (Array.getElem?_eq_some_iff.1 h).1
  refine (rtake_no q n s w h hn ho.pm ho.ml (Or.inl he)).mono ?_
  rintro e u ⟨rfl, r1, g1⟩
  have hf : failE s.e 190 = s.e := by unfold failE; rw [if_neg he]
  rw [hf] at r1
  exact ⟨rfl, r1, ho.stay g1 hq s.e, g1⟩
theorem rfail_any (B q : Nat) (x : Int) (s : Rw) (bs : List Int) (w : World) (h : RW w q s) (ho : s.Ok w bs B q) (he : s.e = 0) :
    Calls Tryz.prog 49 #[.pointer (some ⟨q, 0, none⟩), .int .i64 x] w fun e w' => e = .returned (.tuple #[]) ∧ RW w' q { s with e := x } ∧ ({ s with e := x } : Rw).Ok w' bs B q ∧ w.grownBy w' (some q) := by
  have hq := (Array.getElem?_eq_some_iff.1 h).1
  refine (fail_any q s x w h).mono ?_
  rintro e u ⟨rfl, r1, g1⟩
  have hf : failE s.e x = x := by rw [he]; rfl
  rw [hf] at r1
  exact ⟨rfl, r1, ho.stay g1 hq x, g1⟩

theorem Rw.Ok.below {s : Rw} {w w' : World} {bs : List Int} {B q : Nat} (h : s.Ok w bs B q) (hb : Below w.heap.size w w') : s.Ok w' bs B q := ⟨h.rd.below hb, h.lt, h.bq, h.pm, h.mc, h.cc, h.ml, h.tl⟩
theorem RW.below {w w' : World} {q : Nat} {s : Rw} (h : RW w q s) (hb : Below w.heap.size w w') : RW w' q s := (hb.block q (Array.getElem?_eq_some_iff.1 h).1).trans h
/-- Behind what changes another row. -/
theorem Rw.Ok.other {s : Rw} {w w' : World} {bs : List Int} {B q : Nat} {r : Option Nat} (h : s.Ok w bs B q) (hg : w.grownBy w' r) (hr : ∀ k, r = some k → B ≤ k) (hB : B ≤ w.heap.size) : s.Ok w' bs B q := ⟨h.rd.low (fun x hx => by cases hx; exact h.lt) (below_grown hg hB hr), h.lt, h.bq, h.pm, h.mc, h.cc, h.ml, h.tl⟩
theorem RW.other {w w' : World} {q : Nat} {s : Rw} {r : Option Nat} (h : RW w q s) (hg : w.grownBy w' r) (hr : r ≠ some q) : RW w' q s := (hg.block q (Array.getElem?_eq_some_iff.1 h).1 (fun e => hr e.symm)).trans h
theorem RW.dt {w w' : World} {q B0 : Nat} {s : Rw} {v : Value} {xs : List Int} (h : RW w q s) (hd : DtOn w B0 v xs) (hg : w.grownBy w' (some q)) : DtOn w' B0 v xs := hd.two hg h (by decide)

/-- What a file's data leave in the reference. -/
def DrV (w : World) (B q : Nat) (bs : List Int) (s : Rw) (e : Ending) (w' : World) : Prop :=
  w.grownBy w' (some q) ∧ match dataR (bs.drop s.pos) with
    | .error x => (∃ a l c, e = .returned (.slice a l c)) ∧ ∃ s' : Rw, s'.e = x ∧ s'.dry = s.dry ∧ RW w' q s' ∧ s'.Ok w' bs B q
    | .ok (d, r) => ∃ v, e = .returned v ∧ DtOn w' w.heap.size v (if s.dry then [] else layD d.1 d.2) ∧ ∃ s' : Rw, s'.e = 0 ∧ s'.dry = s.dry ∧ RW w' q s' ∧ s'.Ok w' bs B q ∧ r = bs.drop s'.pos
end Go.Proofs.YtdiifegljonojaaGreatDoor
