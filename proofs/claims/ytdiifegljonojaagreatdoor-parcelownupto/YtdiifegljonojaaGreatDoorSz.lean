/-
  SEAT YtdiifegljonojaaGreatDoor: Sz, of several texts.
-/
import Derived.Test.YtdiifegljonojaaGreatDoorSd
namespace Go.Proofs.YtdiifegljonojaaGreatDoor
open Go.RowKit
set_option linter.unusedVariables false

theorem make_none (u : World) : (Instr.makeSlice 25 (.int .i64 0) (.int .i64 0)).run Tryz.prog u = .ok (.slice (some ⟨u.heap.size, 0, none⟩) 0 0) (u.alloc (.cells (madeCells #[.int .u8 0] 0) 5)) := make_bytes 0 (by omega) u

/-- A number, as the reference reads it: what it is and what the row is then. -/
theorem rnum_any (B q n : Nat) (lo hi : Int) (s : Rw) (bs : List Int) (w : World) (h : RW w q s) (ho : s.Ok w bs B q) (he : s.e = 0) (hn1 : 1 ≤ n) (hn8 : n ≤ 8) :
    Calls Tryz.prog 46 #[.pointer (some ⟨q, 0, none⟩), .int .i64 (n : Int), .int .u64 lo, .int .u64 hi] w fun e w' => w.grownBy w' (some q) ∧ match wholeR n lo hi (bs.drop s.pos) with
      | .error x => e = .returned (.int .u64 0) ∧ ∃ s' : Rw, s'.e = x ∧ s'.told = s.told ∧ s'.dry = s.dry ∧ RW w' q s' ∧ s'.Ok w' bs B q
      | .ok (v, r) => e = .returned (.int .u64 v) ∧ RW w' q { s with pos := s.pos + n } ∧ ({ s with pos := s.pos + n } : Rw).Ok w' bs B q ∧ r = bs.drop (s.pos + n) := by
  have hq := (Array.getElem?_eq_some_iff.1 h).1
  have hl := ho.rd.1
  have hd : (bs.drop s.pos).length = s.m - s.pos := by rw [List.length_drop, hl]
  by_cases hn : n ≤ s.m - s.pos
  · refine (rnum_ok B q n lo hi s bs w h ho he hn1 hn8 hn).mono ?_
    rintro e u ⟨rfl, r1, g1⟩
    refine ⟨g1, ?_⟩
    unfold wholeR
    rw [hd, if_pos hn]
    by_cases hc : lo ≤ getL (bs.drop s.pos) 0 n ∧ getL (bs.drop s.pos) 0 n ≤ hi
    · rw [if_pos hc, if_pos hc]
      rw [if_pos hc] at r1
      have hs : ({ s with pos := s.pos + n, e := 0 } : Rw) = { s with pos := s.pos + n } := by rw [← he]
      rw [hs] at r1
      have h9 := ho.next g1 hq hn 0
      rw [hs] at h9
      exact ⟨rfl, r1, h9, by rw [List.drop_drop]⟩
    · rw [if_neg hc, if_neg hc]
      rw [if_neg hc] at r1
      exact ⟨rfl, { s with pos := s.pos + n, e := 191 }, rfl, rfl, rfl, r1, ho.next g1 hq hn 191⟩
  · refine (rnum_no q n lo hi s w h hn8 ho.pm ho.ml (Or.inr (by omega))).mono ?_
    rintro e u ⟨rfl, r1, g1⟩
    refine ⟨g1, ?_⟩
    unfold wholeR
    rw [hd, if_neg hn]
    have hf : failE s.e 190 = 190 := by rw [he]; rfl
    rw [hf] at r1
    exact ⟨rfl, { s with e := 190 }, rfl, rfl, rfl, r1, ho.stay g1 hq 190⟩
/-- A number where an error stands. -/
theorem rnum_dead (B q n : Nat) (lo hi : Int) (s : Rw) (bs : List Int) (w : World) (h : RW w q s) (ho : s.Ok w bs B q) (he : s.e ≠ 0) (hn8 : n ≤ 8) :
    Calls Tryz.prog 46 #[.pointer (some ⟨q, 0, none⟩), .int .i64 (n : Int), .int .u64 lo, .int .u64 hi] w fun e w' => e = .returned (.int .u64 0) ∧ RW w' q s ∧ s.Ok w' bs B q ∧ w.grownBy w' (some q) := by
  have hq := (Array.getElem?_eq_some_iff.1 h).1
  refine (rnum_no q n lo hi s w h hn8 ho.pm ho.ml (Or.inl he)).mono ?_
  rintro e u ⟨rfl, r1, g1⟩
  have hf : failE s.e 190 = s.e := by unfold failE; rw [if_neg he]
  rw [hf] at r1
  exact ⟨rfl, r1, ho.stay g1 hq s.e, g1⟩
/-- The next bytes. -/
theorem rtake_any (B q n : Nat) (s : Rw) (bs : List Int) (w : World) (h : RW w q s) (ho : s.Ok w bs B q) (he : s.e = 0) (hn : n ≤ 200000000000000) :
    Calls Tryz.prog 47 #[.pointer (some ⟨q, 0, none⟩), .int .i64 (n : Int)] w fun e w' => w.grownBy w' (some q) ∧ match takeR n (bs.drop s.pos) with
      | .error x => e = .returned (.slice none 0 0) ∧ x = 190 ∧ RW w' q { s with e := 190 } ∧ ({ s with e := 190 } : Rw).Ok w' bs B q
      | .ok (b, r) => (∃ o c, e = .returned (.slice (some ⟨s.b, o, none⟩) n c) ∧ Reads w' (some ⟨s.b, o, none⟩) n b) ∧ RW w' q { s with pos := s.pos + n } ∧ ({ s with pos := s.pos + n } : Rw).Ok w' bs B q ∧ r = bs.drop (s.pos + n) := by
  have hq := (Array.getElem?_eq_some_iff.1 h).1
  have hl := ho.rd.1
  have hd : (bs.drop s.pos).length = s.m - s.pos := by rw [List.length_drop, hl]
  by_cases hn : n ≤ s.m - s.pos
  · refine (rtake_ok B q n s bs w h ho he hn).mono ?_
    rintro e u ⟨o, c, rfl, rs, r1, g1⟩
    refine ⟨g1, ?_⟩
    unfold takeR
    rw [hd, if_pos hn]
    have h9 := ho.next g1 hq hn s.e
    exact ⟨⟨o, c, rfl, rs⟩, r1, h9, by rw [List.drop_drop]⟩
  · refine (rtake_no q n s w h (by omega) ho.pm ho.ml (Or.inr (by omega))).mono ?_
    rintro e u ⟨rfl, r1, g1⟩
    refine ⟨g1, ?_⟩
    unfold takeR
    rw [hd, if_neg hn]
    have hf : failE s.e 190 = 190 := by rw [he]; rfl
    rw [hf] at r1
    exact ⟨rfl, rfl, r1, ho.stay g1 hq 190⟩
theorem rtake_dead (B q n : Nat) (s : Rw) (bs : List Int) (w : World) (h : RW w q s) (ho : s.Ok w bs B q) (he : s.e ≠ 0) (hn : n ≤ 200000000000000) :
    Calls Tryz.prog 47 #[.pointer (some ⟨q, 0, none⟩), .int .i64 (n : Int)] w fun e w' => e = .returned (.slice none 0 0) ∧ RW w' q s ∧ s.Ok w' bs B q ∧ w.grownBy w' (some q) := by
  have hq := (Array.getElem?_eq_some_iff.1 h).1
  refine (rtake_no q n s w h hn ho.pm ho.ml (Or.inl he)).mono ?_
  rintro e u ⟨rfl, r1, g1⟩
  have hf : failE s.e 190 = s.e := by unfold failE; rw [if_neg he]
  rw [hf] at r1
  exact ⟨rfl, r1, ho.stay g1 hq s.e, g1⟩
theorem rfail_any (B q : Nat) (x : Int) (s : Rw) (bs : List Int) (w : World) (h : RW w q s) (ho : s.Ok w bs B q) (he : s.e = 0) :
    Calls Tryz.prog 49 #[.pointer (some ⟨q, 0, none⟩), .int .i64 x] w fun e w' => e = .returned (.tuple #[]) ∧ RW w' q { s with e := x } ∧ ({ s with e := x } : Rw).Ok w' bs B q ∧ w.grownBy w' (some q) := by
  have hq := (Array.getElem?_eq_some_iff.1 h).1
  refine (fail_any q s x w h).mono ?_
  rintro e u ⟨rfl, r1, g1⟩
  have hf : failE s.e x = x := by rw [he]; rfl
  rw [hf] at r1
  exact ⟨rfl, r1, ho.stay g1 hq x, g1⟩

theorem Rw.Ok.below {s : Rw} {w w' : World} {bs : List Int} {B q : Nat} (h : s.Ok w bs B q) (hb : Below w.heap.size w w') : s.Ok w' bs B q := ⟨h.rd.below hb, h.lt, h.bq, h.pm, h.mc, h.cc, h.ml, h.tl⟩
theorem RW.below {w w' : World} {q : Nat} {s : Rw} (h : RW w q s) (hb : Below w.heap.size w w') : RW w' q s := (hb.block q (Array.getElem?_eq_some_iff.1 h).1).trans h
/-- Behind what changes another row. -/
theorem Rw.Ok.other {s : Rw} {w w' : World} {bs : List Int} {B q : Nat} {r : Option Nat} (h : s.Ok w bs B q) (hg : w.grownBy w' r) (hr : ∀ k, r = some k → B ≤ k) (hB : B ≤ w.heap.size) : s.Ok w' bs B q := ⟨h.rd.low (fun x hx => by cases hx; exact h.lt) (below_grown hg hB hr), h.lt, h.bq, h.pm, h.mc, h.cc, h.ml, h.tl⟩
theorem RW.other {w w' : World} {q : Nat} {s : Rw} {r : Option Nat} (h : RW w q s) (hg : w.grownBy w' r) (hr : r ≠ some q) : RW w' q s := (hg.block q (Array.getElem?_eq_some_iff.1 h).1 (fun e => hr e.symm)).trans h
theorem RW.dt {w w' : World} {q B0 : Nat} {s : Rw} {v : Value} {xs : List Int} (h : RW w q s) (hd : DtOn w B0 v xs) (hg : w.grownBy w' (some q)) : DtOn w' B0 v xs := hd.two hg h (by decide)

/-- What a file's data leave in the reference. -/
def DrV (w : World) (B q : Nat) (bs : List Int) (s : Rw) (e : Ending) (w' : World) : Prop :=
  w.grownBy w' (some q) ∧ match dataR (bs.drop s.pos) with
    | .error x => (∃ a l c, e = .returned (.slice a l c)) ∧ ∃ s' : Rw, s'.e = x ∧ s'.dry = s.dry ∧ RW w' q s' ∧ s'.Ok w' bs B q
    | .ok (d, r) => ∃ v, e = .returned v ∧ DtOn w' w.heap.size v (if s.dry then [] else layD d.1 d.2) ∧ ∃ s' : Rw, s'.e = 0 ∧ s'.dry = s.dry ∧ RW w' q s' ∧ s'.Ok w' bs B q ∧ r = bs.drop s'.pos
end Go.Proofs.YtdiifegljonojaaGreatDoor
namespace Go.Proofs.YtdiifegljonojaaGreatDoor
open Go.RowKit
set_option linter.unusedVariables false

theorem place_append {d z : List Int} {s : Sg} (h : s.pos + s.bs.length ≤ d.length) : place (d ++ z) s = place d s ++ z := by
  unfold place
  rw [List.take_append_of_le_length (by omega), List.drop_append_of_le_length h]
  simp
theorem fold_append : ∀ (l : List Sg) (d z : List Int), (∀ s ∈ l, s.pos + s.bs.length ≤ d.length) → l.foldl place (d ++ z) = l.foldl place d ++ z
  | [], d, z, _ => rfl
  | s :: r, d, z, h => by
    rw [List.foldl_cons, List.foldl_cons, place_append (h s (by simp))]
    exact fold_append r _ _ (fun t ht => by rw [place_len (h s (by simp))]; exact h t (by simp [ht]))
theorem layD_add (n k : Nat) (l : List Sg) (h : ∀ s ∈ l, s.pos + s.bs.length ≤ n) : layD (n + k) l = layD n l ++ List.replicate k 0 := by
  unfold layD
  rw [← List.replicate_append_replicate, fold_append _ _ _ (by simpa using h)]
theorem layD_put (n : Nat) (l : List Sg) (b : List Int) (h : ∀ s ∈ l, s.pos + s.bs.length ≤ n) : layD (n + b.length) (l ++ [⟨n, b⟩]) = layD n l ++ b := by
  have hl := layD_len n l h
  rw [layD_snoc, layD_add n b.length l h]
  unfold place
  simp only
  rw [List.take_append_of_le_length (by omega), List.take_of_length_le (by omega), List.drop_of_length_le (by simp; omega), List.append_nil]

theorem zeros_reads (u : World) (k : Nat) (hk : k ≤ 16777216) : Reads (u.alloc (.cells (madeCells #[.int .u8 0] k) 5)) (some ⟨u.heap.size, 0, none⟩) k (List.replicate k 0) := by
  refine ⟨by simp, fun x hx => by have := (List.mem_replicate.1 hx).2; omega, (fun h => by cases h), fun x hx i hi => ?_⟩
  cases hx
  have h9 := heap_alloc_new u (.cells (madeCells #[.int .u8 0] k) 5)
  rw [plain_add, Nat.zero_add]
  have h8 : (madeCells #[Value.int .u8 0] k)[i]? = some (.int .u8 0) := by
    rw [← Array.getElem?_toList, made_zeros]
    simp [hi]
  simp only [World.cell?, h9, h8]
  simp [List.getD_eq_getElem?_getD, hi]

def DrInv (w : World) (B q n : Nat) (bs : List Int) (dry : Bool) (r0 : List Int) (g : Nat) (s4 s5 s6 : Value) (wr : World) : Prop :=
  ∃ (pos : Nat) (last : Int) (t : Rw), (∃ a l c, s4 = .slice a l c) ∧ s5 = .int .i64 last ∧ s6 = .int .i64 (pos : Int) ∧ w.grownBy wr (some q) ∧ t.dry = dry ∧ RW wr q t ∧ t.Ok wr bs B q ∧ pos ≤ n ∧
    ((t.e = 0 ∧ n - pos ≤ g ∧ ∃ acc : List Sg, DtOn wr w.heap.size s4 (if dry then [] else layD pos acc) ∧ (∀ x ∈ acc, x.pos + x.bs.length ≤ pos) ∧ dataL n n 0 (-1) [] r0 = dataL n g pos last acc (bs.drop t.pos))
      ∨ (t.e ≠ 0 ∧ dataL n n 0 (-1) [] r0 = .error t.e))

theorem takeR_err {n : Nat} {bs : List Int} {x : Int} (h : takeR n bs = .error x) : ¬ n ≤ bs.length := by
  intro h9; unfold takeR at h; rw [if_pos h9] at h; cases h
theorem takeR_fine {n : Nat} {bs b r : List Int} (h : takeR n bs = .ok (b, r)) : n ≤ bs.length ∧ b = bs.take n ∧ r = bs.drop n := by
  unfold takeR at h
  by_cases h9 : n ≤ bs.length
  · rw [if_pos h9] at h; cases h; exact ⟨h9, rfl, rfl⟩
  · rw [if_neg h9] at h; cases h
theorem reads_none (w : World) : Reads w none 0 [] := ⟨rfl, (fun x hx => by cases hx), fun _ => rfl, fun x hx => by cases hx⟩
theorem reads_past {w w' : World} {B q b o k : Nat} {t : Rw} {fb : List Int} (h : RW w q t) (hl : b < B) (hb : B ≤ q) (hr : Reads w (some ⟨b, o, none⟩) k fb) (hg : w.grownBy w' (some q)) : Reads w' (some ⟨b, o, none⟩) k fb := by
  have hq := (Array.getElem?_eq_some_iff.1 h).1
  exact hr.low (B := B) (fun x hx => by cases hx; exact hl) (below_grown hg (by omega) (fun k hk => by have := Option.some.inj hk; omega))
theorem Rw.dry_eta (s : Rw) (x : Nat) : ({ s with pos := x } : Rw).dry = s.dry := rfl

set_option maxHeartbeats 8000000 in
set_option maxRecDepth 100000 in
theorem rdata_wet (B q : Nat) (s : Rw) (bs : List Int) (w : World) (h : RW w q s) (ho : s.Ok w bs B q) (he : s.e = 0) (hdry : s.dry = false) :
    Calls Tryz.prog 50 #[.pointer (some ⟨q, 0, none⟩)] w (DrV w B q bs s) := by
  have hq := (Array.getElem?_eq_some_iff.1 h).1
  have hbq := ho.bq
  have HRW := hide h
  have HOK := hide ho
  have htl := ho.tl
  have hpm := ho.pm
  have hml := ho.ml
  clear h ho
  cases hw : wholeR 4 0 16777216 (bs.drop s.pos) with
  | error x =>
    have HW := hide hw
    have hx := (wholeR_er hw).ne
    have HP : Hid (dataR (bs.drop s.pos) = .error x) := by unfold Hid dataR; rw [hw]
    clear hw
    go_enter Tryz.func50, Tryz.ntmps50
    go_wp2_with (first
      | (go_at_call 46; refine (rnum_any B q 4 0 16777216 s bs _ HRW.out HOK.out he (by omega) (by omega)).mono ?_; rintro e u1 ⟨g1, hm⟩; rw [HW.out] at hm; obtain ⟨rfl, s1, he1, ht1, hd1, r1, o1⟩ := hm
         obtain ⟨c0, c1, c2, c3, c4⟩ := rw_cell r1
         have f3 := rw_frozen r1 3
         rw [he1] at c2
         rw [ht1] at c3
         have e0 : (x == 0) = false := by simp [hx]
         have HR1 : Hid (RW (u1.setCell ⟨q, 3, none⟩ (.int .i64 s.told)) q s1) := (by have h9 := rw_setT r1 s.told; rw [← ht1] at h9 ⊢; exact h9)
         have HO1 : Hid (s1.Ok (u1.setCell ⟨q, 3, none⟩ (.int .i64 s.told)) bs B q) := (by have h9 := o1.stay (set_grown u1 q 3 (.int .i64 s.told)) ((Array.getElem?_eq_some_iff.1 r1).1) s1.e; exact h9)
         have HE1 := hide he1
         have HD1 := hide hd1
         have HG1 := hide g1
         clear r1 o1 he1 hd1 g1 c0 c1 c4 ht1))
    go_loop [4, 5, 6] (fun x4 x5 x6 => x4 = .slice none 0 0 ∧ x5 = .int .i64 (-1) ∧ x6 = .int .i64 0) (fun _ _ _ => 0)
    case atStart => exact ⟨rfl, rfl, rfl⟩
    case round =>
      obtain ⟨rfl, rfl, rfl⟩ := hrel
      go_wp2
      go_ret
      refine ⟨grownBy_trans HG1.out (set_grown _ _ 3 _), ?_⟩
      rw [HP.out]
      exact ⟨⟨none, 0, 0, rfl⟩, s1, HE1.out, HD1.out, HR1.out, HO1.out⟩
  | ok pr =>
    obtain ⟨ni, r0⟩ := pr
    have hnr := (wholeR_ok hw).2
    obtain ⟨n, rfl⟩ := Int.eq_ofNat_of_zero_le hnr.1
    have hn : n ≤ 16777216 := by omega
    have HW := hide hw
    have hnw : IntKind.i64.wrap (n : Int) = (n : Int) := by rw [IntKind.wrap_i64]; omega
    have hm4 : s.pos + 4 ≤ s.m := by have h9 := (wholeR_ok hw).1; rw [List.length_drop, HOK.out.rd.1] at h9; omega
    have hr0 : r0 = bs.drop (s.pos + 4) := by have h9 := (wholeR_ok hw).2.2.2.2; rw [h9, List.drop_drop]
    have HPD : Hid (∀ l r, dataL n n 0 (-1) [] r0 = .ok (l, r) → dataR (bs.drop s.pos) = .ok ((n, l), r)) := by intro l r h9; unfold dataR; rw [hw]; simp only [Int.toNat_natCast, h9]
    have HPE : Hid (∀ x, dataL n n 0 (-1) [] r0 = .error x → dataR (bs.drop s.pos) = .error x) := by intro x h9; unfold dataR; rw [hw]; simp only [Int.toNat_natCast, h9]
    have HR0 := hide hr0
    clear hw hnr hr0
    have hmk0 := make_none
    go_enter Tryz.func50, Tryz.ntmps50
    go_wp2_with (first
      | (go_at_call 46; refine (rnum_any B q 4 0 16777216 s bs _ HRW.out HOK.out he (by omega) (by omega)).mono ?_; rintro e u1 ⟨g1, hm⟩; rw [HW.out] at hm; obtain ⟨rfl, r1, o1, hr1⟩ := hm
         obtain ⟨c0, c1, c2, c3, c4⟩ := rw_cell r1
         have f3 := rw_frozen r1 3
         simp only at c2 c3
         obtain ⟨s1, hs1⟩ : ∃ s1 : Rw, ({ s with pos := s.pos + 4, told := s.told + (n : Int) } : Rw) = s1 := ⟨_, rfl⟩
         have r2 := rw_setT r1 (s.told + (n : Int))
         have o2 : s1.Ok (u1.setCell ⟨q, 3, none⟩ (.int .i64 (s.told + (n : Int)))) bs B q := (by
           have h9 := o1.stay (set_grown u1 q 3 (.int .i64 (s.told + (n : Int)))) ((Array.getElem?_eq_some_iff.1 r1).1) s.e
           rw [← hs1]
           refine ⟨h9.rd, h9.lt, h9.bq, h9.pm, h9.mc, h9.cc, h9.ml, ?_⟩
           show 0 ≤ s.told + (n : Int) ∧ s.told + (n : Int) ≤ 16777216 * ((s.pos + 4 : Nat) : Int)
           omega)
         have HR1 : Hid (RW (u1.setCell ⟨q, 3, none⟩ (.int .i64 (s.told + (n : Int)))) q s1) := (by rw [← hs1]; exact r2)
         have HO1 := hide o2
         have HG1 := hide (grownBy_trans g1 (set_grown u1 q 3 (.int .i64 (s.told + (n : Int)))))
         have HE1 : Hid (s1.e = 0) := (by rw [← hs1]; exact he)
         have HD1 : Hid (s1.dry = false) := (by rw [← hs1]; exact hdry)
         have HP1 : Hid (s1.pos = s.pos + 4) := (by have h9 := congrArg Rw.pos hs1; exact h9.symm)
         clear r1 r2 o1 o2 g1 c0 c1 c4 hr1 hs1))
    go_loopg [4, 5, 6] n (fun g s4 s5 s6 wr => Hid (DrInv w B q n bs false r0 g s4 s5 s6 wr))
    case atStart =>
      exact (show Hid _ from ⟨0, -1, s1, ⟨none, 0, 0, rfl⟩, rfl, rfl, HG1.out, HD1.out, HR1.out, HO1.out, Nat.zero_le _, Or.inl ⟨HE1.out, by omega, [], World.ownsRow_nil _ _ _ _, (fun x hx => by cases hx), by rw [HR0.out, HP1.out]⟩⟩)
    case round =>
      obtain ⟨pos, last, t, ⟨a4, l4, c4, rfl⟩, rfl, rfl, gr, htd, rw1, ok1, hpn, hcase⟩ := hrel.out
      clear hrel HR1 HO1 HG1 HE1 HD1 HP1 HRW HOK HW HR0
      obtain ⟨c0, c1, c2, c3, c4'⟩ := rw_cell rw1
      have HG := hide gr
      have HRW := hide rw1
      have HOK := hide ok1
      have HTD := hide htd
      have hqr : q < wr.heap.size := (Array.getElem?_eq_some_iff.1 rw1).1
      have hBr : B ≤ wr.heap.size := by omega
      rw [htd] at c4'
      clear gr rw1 ok1 c0 c1 c3
      rcases hcase with ⟨hte, hpg, acc, dt, hac, hpure⟩ | ⟨hte, hpure⟩
      · have HDT := hide dt
        have HAC := hide hac
        have HPU := hide hpure
        rw [hte] at c2
        clear dt hac hpure htd
        by_cases hlt : pos < n
        · have i1 : (pos : Int) < (n : Int) := by omega
          obtain ⟨f, rfl⟩ : ∃ f, gk = f + 1 := ⟨gk - 1, by omega⟩
          have hw9 : IntKind.u64.wrap ((n : Int) - (pos : Int)) = (n : Int) - (pos : Int) := by rw [IntKind.wrap_u64]; omega
          have T1 : Hid True := trivial
          cases hw1 : wholeR 1 0 1 (bs.drop t.pos) with
          | error x =>
            have HW1 := hide hw1
            have hx := (wholeR_er hw1).ne
            clear hw1
            go_wp2_with (first
              | (go_at_call 46; have zz := T1; clear T1 zz; refine (rnum_any B q 1 0 1 t bs _ HRW.out HOK.out hte (by omega) (by omega)).mono ?_; rintro e wa ⟨g1, hm⟩; rw [HW1.out] at hm; obtain ⟨rfl, s1, he1, _, hd1, r1, o1⟩ := hm
                 clear c2 c4'
                 obtain ⟨_, _, c2, _, _⟩ := rw_cell r1
                 rw [he1] at c2
                 have e0 : (x == 0) = false := by simp [hx]
                 have e1 : (x != 0) = true := by simp [hx]
                 have HR1 := hide r1
                 have HO1 := hide o1
                 have HE1 := hide he1
                 have HX1 : Hid (s1.e ≠ 0) := (by rw [he1]; exact hx)
                 have HD1 := hide (show s1.dry = false from (by rw [hd1]; exact HTD.out))
                 have HG1 := hide (grownBy_trans HG.out g1)
                 clear r1 o1 he1 hd1 g1; have T2 : Hid True := trivial)
              | (go_at_call 46; have zz := T2; clear T2 zz; refine (rnum_dead B q 4 _ _ s1 bs _ HR1.out HO1.out HX1.out (by omega)).mono ?_; rintro e wz ⟨rfl, r9, o9, g9⟩
                 clear c2
                 obtain ⟨_, _, c2, _, _⟩ := rw_cell r9
                 rw [HE1.out] at c2
                 have HR9 := hide r9
                 have HO9 := hide o9
                 have HG9 := hide (grownBy_trans HG1.out g9)
                 clear r9 o9 g9))
            go_ret
            refine ⟨HG9.out, ?_⟩
            rw [HPE.out x (by rw [HPU.out]; exact dl_e1 hlt HW1.out)]
            exact ⟨⟨none, 0, 0, rfl⟩, s1, HE1.out, by rw [HD1.out, hdry], HR9.out, HO9.out⟩
          | ok pr =>
            obtain ⟨kd, r1x⟩ := pr
            have hkd := (wholeR_ok hw1).2
            have HW1 := hide hw1
            have hkd2 : kd = 0 ∨ kd = 1 := by omega
            clear hw1 hkd
            rcases hkd2 with rfl | rfl
            · by_cases hsame : (0 : Int) = last
              · have e1 : ((0 : Int) == last) = true := by simp [hsame]
                have HSM := hide hsame
                clear hsame
                go_wp2_with (first
                  | (go_at_call 46; have zz := T1; clear T1 zz; refine (rnum_any B q 1 0 1 t bs _ HRW.out HOK.out hte (by omega) (by omega)).mono ?_; rintro e wa ⟨g1, hm⟩; rw [HW1.out] at hm; obtain ⟨rfl, r1, o1, hr1⟩ := hm
                     clear c2 c4'
                     obtain ⟨s1, hs1⟩ : ∃ s1 : Rw, ({ t with pos := t.pos + 1 } : Rw) = s1 := ⟨_, rfl⟩
                     rw [hs1] at r1 o1
                     have he1 : s1.e = 0 := (by rw [← hs1]; exact hte)
                     have hd1 : s1.dry = false := (by rw [← hs1]; exact HTD.out)
                     have hp1 : r1x = bs.drop s1.pos := (by rw [← hs1]; exact hr1)
                     obtain ⟨_, _, c2, _, c4'⟩ := rw_cell r1
                     rw [he1] at c2
                     rw [hd1] at c4'
                     have HR1 := hide r1
                     have HO1 := hide o1
                     have HE1 := hide he1
                     have HD1 := hide hd1
                     have HP1 := hide hp1
                     have HG1 := hide (grownBy_trans HG.out g1)
                     have HDT1 := hide (RW.dt HRW.out HDT.out g1)
                     clear r1 o1 he1 hd1 g1 hp1 hr1 hs1; have T2 : Hid True := trivial)
                  | (go_at_call 49; have zz := T2; clear T2 zz; refine (rfail_any B q 191 s1 bs _ HR1.out HO1.out HE1.out).mono ?_; rintro e wb ⟨rfl, r2, o2, g2⟩
                     clear c2
                     obtain ⟨s2, hs2⟩ : ∃ s2 : Rw, ({ s1 with e := 191 } : Rw) = s2 := ⟨_, rfl⟩
                     rw [hs2] at r2 o2
                     have he2 : s2.e = 191 := (by have h9 := congrArg Rw.e hs2; exact h9.symm)
                     obtain ⟨_, _, c2, _, _⟩ := rw_cell r2
                     rw [he2] at c2
                     have HR2 := hide r2
                     have HO2 := hide o2
                     have HE2 := hide he2
                     have HX2 := hide (show s2.e ≠ 0 from (by rw [he2]; decide))
                     have HD2 : Hid (s2.dry = false) := (by rw [← hs2]; exact HD1.out)
                     have HG2 := hide (grownBy_trans HG1.out g2)
                     clear r2 o2 he2 g2 hs2; have T3 : Hid True := trivial)
                  | (go_at_call 46; have zz := T3; clear T3 zz; refine (rnum_dead B q 4 _ _ s2 bs _ HR2.out HO2.out HX2.out (by omega)).mono ?_; rintro e wz ⟨rfl, r9, o9, g9⟩
                     clear c2
                     obtain ⟨_, _, c2, _, _⟩ := rw_cell r9
                     rw [HE2.out] at c2
                     have HR9 := hide r9
                     have HO9 := hide o9
                     have HG9 := hide (grownBy_trans HG2.out g9)
                     clear r9 o9 g9))
                go_ret
                refine ⟨HG9.out, ?_⟩
                rw [HPE.out 191 (by rw [HPU.out]; exact dl_same hlt HW1.out HSM.out)]
                exact ⟨⟨none, 0, 0, rfl⟩, s2, HE2.out, by rw [HD2.out, hdry], HR9.out, HO9.out⟩
              · have e1 : ((0 : Int) == last) = false := by simp [hsame]
                have HSM := hide hsame
                clear hsame
                cases hw2 : wholeR 4 16 ((n : Int) - (pos : Int)) r1x with
                | error x =>
                  have HW2 := hide hw2
                  have hx := (wholeR_er hw2).ne
                  clear hw2
                  go_wp2_with (first
                    | (go_at_call 46; have zz := T1; clear T1 zz; refine (rnum_any B q 1 0 1 t bs _ HRW.out HOK.out hte (by omega) (by omega)).mono ?_; rintro e wa ⟨g1, hm⟩; rw [HW1.out] at hm; obtain ⟨rfl, r1, o1, hr1⟩ := hm
                       clear c2 c4'
                       obtain ⟨s1, hs1⟩ : ∃ s1 : Rw, ({ t with pos := t.pos + 1 } : Rw) = s1 := ⟨_, rfl⟩
                       rw [hs1] at r1 o1
                       have he1 : s1.e = 0 := (by rw [← hs1]; exact hte)
                       have hd1 : s1.dry = false := (by rw [← hs1]; exact HTD.out)
                       have hp1 : r1x = bs.drop s1.pos := (by rw [← hs1]; exact hr1)
                       obtain ⟨_, _, c2, _, c4'⟩ := rw_cell r1
                       rw [he1] at c2
                       rw [hd1] at c4'
                       have HR1 := hide r1
                       have HO1 := hide o1
                       have HE1 := hide he1
                       have HD1 := hide hd1
                       have HP1 := hide hp1
                       have HG1 := hide (grownBy_trans HG.out g1)
                       have HDT1 := hide (RW.dt HRW.out HDT.out g1)
                       clear r1 o1 he1 hd1 g1 hp1 hr1 hs1; have T2 : Hid True := trivial)
                    | (go_at_call 46; have zz := T2; clear T2 zz; refine (rnum_any B q 4 16 ((n : Int) - (pos : Int)) s1 bs _ HR1.out HO1.out HE1.out (by omega) (by omega)).mono ?_; rintro e wb ⟨g2, hm⟩; rw [← HP1.out, HW2.out] at hm; obtain ⟨rfl, s2, he2, _, hd2, r2, o2⟩ := hm
                       clear c2 c4'
                       obtain ⟨_, _, c2, _, _⟩ := rw_cell r2
                       rw [he2] at c2
                       have e0 : (x != 0) = true := by simp [hx]
                       have HR9 := hide r2
                       have HO9 := hide o2
                       have HE2 := hide he2
                       have HD2 := hide (show s2.dry = false from (by rw [hd2]; exact HD1.out))
                       have HG9 := hide (grownBy_trans HG1.out g2)
                       clear r2 o2 he2 hd2 g2))
                  go_ret
                  refine ⟨HG9.out, ?_⟩
                  rw [HPE.out x (by rw [HPU.out]; exact dl_e2 hlt HW1.out HSM.out HW2.out)]
                  exact ⟨⟨none, 0, 0, rfl⟩, s2, HE2.out, by rw [HD2.out, hdry], HR9.out, HO9.out⟩
                | ok pr =>
                  obtain ⟨ki, r2x⟩ := pr
                  have hk2 := (wholeR_ok hw2).2
                  obtain ⟨kk, rfl⟩ := Int.eq_ofNat_of_zero_le (show 0 ≤ ki by omega)
                  have HW2 := hide hw2
                  have hkk1 : 16 ≤ kk := by omega
                  have hkk2 : pos + kk ≤ n := by omega
                  have hkw : IntKind.i64.wrap (kk : Int) = (kk : Int) := by rw [IntKind.wrap_i64]; omega
                  have hkm := make_bytes kk (by omega)
                  clear hw2 hk2
                  go_wp2_with (first
                    | (go_at_call 46; have zz := T1; clear T1 zz; refine (rnum_any B q 1 0 1 t bs _ HRW.out HOK.out hte (by omega) (by omega)).mono ?_; rintro e wa ⟨g1, hm⟩; rw [HW1.out] at hm; obtain ⟨rfl, r1, o1, hr1⟩ := hm
                       clear c2 c4'
                       obtain ⟨s1, hs1⟩ : ∃ s1 : Rw, ({ t with pos := t.pos + 1 } : Rw) = s1 := ⟨_, rfl⟩
                       rw [hs1] at r1 o1
                       have he1 : s1.e = 0 := (by rw [← hs1]; exact hte)
                       have hd1 : s1.dry = false := (by rw [← hs1]; exact HTD.out)
                       have hp1 : r1x = bs.drop s1.pos := (by rw [← hs1]; exact hr1)
                       obtain ⟨_, _, c2, _, c4'⟩ := rw_cell r1
                       rw [he1] at c2
                       rw [hd1] at c4'
                       have HR1 := hide r1
                       have HO1 := hide o1
                       have HE1 := hide he1
                       have HD1 := hide hd1
                       have HP1 := hide hp1
                       have HG1 := hide (grownBy_trans HG.out g1)
                       have HDT1 := hide (RW.dt HRW.out HDT.out g1)
                       clear r1 o1 he1 hd1 g1 hp1 hr1 hs1; have T2 : Hid True := trivial)
                    | (go_at_call 46; have zz := T2; clear T2 zz; refine (rnum_any B q 4 16 ((n : Int) - (pos : Int)) s1 bs _ HR1.out HO1.out HE1.out (by omega) (by omega)).mono ?_; rintro e wb ⟨g2, hm⟩; rw [← HP1.out, HW2.out] at hm; obtain ⟨rfl, r2, o2, hr2⟩ := hm
                       clear c2 c4'
                       have r3 := r2.below (below_alloc wb (.cells (madeCells #[.int .u8 0] 0) 5))
                       have o3 := o2.below (below_alloc wb (.cells (madeCells #[.int .u8 0] 0) 5))
                       obtain ⟨s2, hs2⟩ : ∃ s2 : Rw, ({ s1 with pos := s1.pos + 4 } : Rw) = s2 := ⟨_, rfl⟩
                       rw [hs2] at r2 o2 r3 o3
                       have he2 : s2.e = 0 := (by rw [← hs2]; exact HE1.out)
                       have hd2 : s2.dry = false := (by rw [← hs2]; exact HD1.out)
                       have hp2 : r2x = bs.drop s2.pos := (by rw [← hs2]; exact hr2)
                       obtain ⟨_, _, c2, _, c4'⟩ := rw_cell r2
                       rw [he2] at c2
                       rw [hd2] at c4'
                       obtain ⟨_, _, c2a, _, c4a⟩ := rw_cell r3
                       rw [he2] at c2a
                       rw [hd2] at c4a
                       have HR2 := hide r3
                       have HO2 := hide o3
                       have HE2 := hide he2
                       have HD2 := hide hd2
                       have HP2 := hide hp2
                       have HG2 := hide (grownBy_trans (grownBy_trans HG1.out g2) (World.grownBy_alloc wb (.cells (madeCells #[.int .u8 0] 0) 5) (some q)))
                       have HDT2 := hide (DtOn.below (RW.dt HR1.out HDT1.out g2) (below_alloc wb (.cells (madeCells #[.int .u8 0] 0) 5)))
                       have HZ2 : Hid (w.heap.size ≤ (wb.alloc (.cells (madeCells #[.int .u8 0] 0) 5)).heap.size) := HG2.out.size
                       have r4 := r3.below (below_alloc (wb.alloc (.cells (madeCells #[.int .u8 0] 0) 5)) (.cells (madeCells #[.int .u8 0] kk) 5))
                       obtain ⟨_, _, _, _, c4b⟩ := rw_cell r4
                       rw [hd2] at c4b
                       have HR4 := hide r4
                       have HO4 := hide (o3.below (below_alloc (wb.alloc (.cells (madeCells #[.int .u8 0] 0) 5)) (.cells (madeCells #[.int .u8 0] kk) 5)))
                       have HG4 := hide (grownBy_trans HG2.out (World.grownBy_alloc (wb.alloc (.cells (madeCells #[.int .u8 0] 0) 5)) (.cells (madeCells #[.int .u8 0] kk) 5) (some q)))
                       have HDT4 := hide (show DtOn _ _ _ (layD pos acc) from DtOn.below HDT2.out (below_alloc (wb.alloc (.cells (madeCells #[.int .u8 0] 0) 5)) (.cells (madeCells #[.int .u8 0] kk) 5)))
                       have HRZ : Hid (Reads ((wb.alloc (.cells (madeCells #[.int .u8 0] 0) 5)).alloc (.cells (madeCells #[.int .u8 0] kk) 5)) (some ⟨wb.heap.size + 1, 0, none⟩) kk (List.replicate kk 0)) := (by have h9 := zeros_reads (wb.alloc (.cells (madeCells #[.int .u8 0] 0) 5)) kk (by omega); rw [World.size_alloc] at h9; exact h9)
                       clear r4
                       clear r2 o2 r3 o3 he2 hd2 g2 hp2 hr2 hs2)
                    | (at_builtin; go_loud (refine wpList_append_reads rfl (.tmp 100) (.tmp 101) rfl w.heap.size _ (layD pos acc).length (layD pos acc) rfl HDT4.out (some ⟨wb.heap.size + 1, 0, none⟩) kk kk (List.replicate kk 0) rfl HRZ.out (by rw [layD_len pos acc HAC.out]; omega) (Nat.le_trans HZ2.out (by simp)) ?_); intro v8 t8 own8 grow8
                       have HO8 := hide own8
                       have HG8 := hide grow8
                       clear own8 grow8))
                  obtain ⟨a8, l8, c8, hv8⟩ : ∃ a l c, v8 = .slice a l c := by rcases HO8.out.2 with ⟨hv, _⟩ | ⟨g, cap, cur, hv, _⟩; exact ⟨_, _, _, hv⟩; exact ⟨_, _, _, hv⟩
                  subst hv8
                  go_roundg f
                  case measure => omega
                  case rel =>
                    have hob : ∀ i, (Value.slice a4 l4 c4).ownBlock = some i → w.heap.size ≤ i ∧ i ≠ q := fun i e => by have h9 := (HDT4.out.lt i e).1; exact ⟨h9, by omega⟩
                    refine (show Hid _ from ⟨pos + kk, 0, s2, ⟨a8, l8, c8, rfl⟩, rfl, by go_num, grown_past HG4.out HG8.out (fun i e => (hob i e).1), HD2.out, HR4.out.other HG8.out (fun e => (hob q e).2 rfl), HO4.out.other HG8.out (fun i e => by have := (hob i e).1; omega) (by have := HG4.out.size; omega), hkk2, Or.inl ⟨HE2.out, by omega, acc, ?_, fun x hx => by have := HAC.out x hx; omega, ?_⟩⟩)
                    · show DtOn _ _ _ (layD (pos + kk) acc)
                      unfold DtOn
                      rw [layD_add pos kk acc HAC.out]
                      have h9 := HO8.out
                      rw [List.length_append, List.length_replicate]
                      exact h9
                    · rw [HPU.out, dl_hole hlt HW1.out HSM.out HW2.out, Int.toNat_natCast, HP2.out]
            · by_cases hsame : (1 : Int) = last
              · have e1 : ((1 : Int) == last) = true := by simp [hsame]
                have HSM := hide hsame
                clear hsame
                go_wp2_with (first
                  | (go_at_call 46; have zz := T1; clear T1 zz; refine (rnum_any B q 1 0 1 t bs _ HRW.out HOK.out hte (by omega) (by omega)).mono ?_; rintro e wa ⟨g1, hm⟩; rw [HW1.out] at hm; obtain ⟨rfl, r1, o1, hr1⟩ := hm
                     clear c2 c4'
                     obtain ⟨s1, hs1⟩ : ∃ s1 : Rw, ({ t with pos := t.pos + 1 } : Rw) = s1 := ⟨_, rfl⟩
                     rw [hs1] at r1 o1
                     have he1 : s1.e = 0 := (by rw [← hs1]; exact hte)
                     have hd1 : s1.dry = false := (by rw [← hs1]; exact HTD.out)
                     have hp1 : r1x = bs.drop s1.pos := (by rw [← hs1]; exact hr1)
                     obtain ⟨_, _, c2, _, c4'⟩ := rw_cell r1
                     rw [he1] at c2
                     rw [hd1] at c4'
                     have HR1 := hide r1
                     have HO1 := hide o1
                     have HE1 := hide he1
                     have HD1 := hide hd1
                     have HP1 := hide hp1
                     have HG1 := hide (grownBy_trans HG.out g1)
                     have HDT1 := hide (RW.dt HRW.out HDT.out g1)
                     clear r1 o1 he1 hd1 g1 hp1 hr1 hs1; have T2 : Hid True := trivial)
                  | (go_at_call 49; have zz := T2; clear T2 zz; refine (rfail_any B q 191 s1 bs _ HR1.out HO1.out HE1.out).mono ?_; rintro e wb ⟨rfl, r2, o2, g2⟩
                     clear c2
                     obtain ⟨s2, hs2⟩ : ∃ s2 : Rw, ({ s1 with e := 191 } : Rw) = s2 := ⟨_, rfl⟩
                     rw [hs2] at r2 o2
                     have he2 : s2.e = 191 := (by have h9 := congrArg Rw.e hs2; exact h9.symm)
                     obtain ⟨_, _, c2, _, _⟩ := rw_cell r2
                     rw [he2] at c2
                     have HR2 := hide r2
                     have HO2 := hide o2
                     have HE2 := hide he2
                     have HX2 := hide (show s2.e ≠ 0 from (by rw [he2]; decide))
                     have HD2 : Hid (s2.dry = false) := (by rw [← hs2]; exact HD1.out)
                     have HG2 := hide (grownBy_trans HG1.out g2)
                     clear r2 o2 he2 g2 hs2; have T3 : Hid True := trivial)
                  | (go_at_call 46; have zz := T3; clear T3 zz; refine (rnum_dead B q 4 _ _ s2 bs _ HR2.out HO2.out HX2.out (by omega)).mono ?_; rintro e wz ⟨rfl, r9, o9, g9⟩
                     clear c2
                     obtain ⟨_, _, c2, _, _⟩ := rw_cell r9
                     rw [HE2.out] at c2
                     have HR9 := hide r9
                     have HO9 := hide o9
                     have HG9 := hide (grownBy_trans HG2.out g9)
                     clear r9 o9 g9))
                go_ret
                refine ⟨HG9.out, ?_⟩
                rw [HPE.out 191 (by rw [HPU.out]; exact dl_same hlt HW1.out HSM.out)]
                exact ⟨⟨none, 0, 0, rfl⟩, s2, HE2.out, by rw [HD2.out, hdry], HR9.out, HO9.out⟩
              · have e1 : ((1 : Int) == last) = false := by simp [hsame]
                have HSM := hide hsame
                clear hsame
                cases hw2 : wholeR 4 1 ((n : Int) - (pos : Int)) r1x with
                | error x =>
                  have HW2 := hide hw2
                  have hx := (wholeR_er hw2).ne
                  clear hw2
                  go_wp2_with (first
                    | (go_at_call 46; have zz := T1; clear T1 zz; refine (rnum_any B q 1 0 1 t bs _ HRW.out HOK.out hte (by omega) (by omega)).mono ?_; rintro e wa ⟨g1, hm⟩; rw [HW1.out] at hm; obtain ⟨rfl, r1, o1, hr1⟩ := hm
                       clear c2 c4'
                       obtain ⟨s1, hs1⟩ : ∃ s1 : Rw, ({ t with pos := t.pos + 1 } : Rw) = s1 := ⟨_, rfl⟩
                       rw [hs1] at r1 o1
                       have he1 : s1.e = 0 := (by rw [← hs1]; exact hte)
                       have hd1 : s1.dry = false := (by rw [← hs1]; exact HTD.out)
                       have hp1 : r1x = bs.drop s1.pos := (by rw [← hs1]; exact hr1)
                       obtain ⟨_, _, c2, _, c4'⟩ := rw_cell r1
                       rw [he1] at c2
                       rw [hd1] at c4'
                       have HR1 := hide r1
                       have HO1 := hide o1
                       have HE1 := hide he1
                       have HD1 := hide hd1
                       have HP1 := hide hp1
                       have HG1 := hide (grownBy_trans HG.out g1)
                       have HDT1 := hide (RW.dt HRW.out HDT.out g1)
                       clear r1 o1 he1 hd1 g1 hp1 hr1 hs1; have T2 : Hid True := trivial)
                    | (go_at_call 46; have zz := T2; clear T2 zz; refine (rnum_any B q 4 1 ((n : Int) - (pos : Int)) s1 bs _ HR1.out HO1.out HE1.out (by omega) (by omega)).mono ?_; rintro e wb ⟨g2, hm⟩; rw [← HP1.out, HW2.out] at hm; obtain ⟨rfl, s2, he2, _, hd2, r2, o2⟩ := hm
                       clear c2 c4'
                       obtain ⟨_, _, c2, _, _⟩ := rw_cell r2
                       rw [he2] at c2
                       have e0 : (x != 0) = true := by simp [hx]
                       have HR9 := hide r2
                       have HO9 := hide o2
                       have HE2 := hide he2
                       have HD2 := hide (show s2.dry = false from (by rw [hd2]; exact HD1.out))
                       have HG9 := hide (grownBy_trans HG1.out g2)
                       clear r2 o2 he2 hd2 g2))
                  go_ret
                  refine ⟨HG9.out, ?_⟩
                  rw [HPE.out x (by rw [HPU.out]; exact dl_e2 hlt HW1.out HSM.out HW2.out)]
                  exact ⟨⟨none, 0, 0, rfl⟩, s2, HE2.out, by rw [HD2.out, hdry], HR9.out, HO9.out⟩
                | ok pr =>
                  obtain ⟨ki, r2x⟩ := pr
                  have hk2 := (wholeR_ok hw2).2
                  obtain ⟨kk, rfl⟩ := Int.eq_ofNat_of_zero_le (show 0 ≤ ki by omega)
                  have HW2 := hide hw2
                  have hkk1 : 1 ≤ kk := by omega
                  have hkk2 : pos + kk ≤ n := by omega
                  have hkw : IntKind.i64.wrap (kk : Int) = (kk : Int) := by rw [IntKind.wrap_i64]; omega
                  have hkm := make_bytes kk (by omega)
                  clear hw2 hk2
                  have hpw : IntKind.i64.wrap ((pos : Int) + (kk : Int)) = (pos : Int) + (kk : Int) := by rw [IntKind.wrap_i64]; omega
                  obtain ⟨b1, hb1⟩ : ∃ b1 : Bool, (last == 0) = b1 := ⟨_, rfl⟩
                  obtain ⟨b2, hb2⟩ : ∃ b2 : Bool, decide ((pos : Int) + (kk : Int) < (n : Int)) = b2 := ⟨_, rfl⟩
                  have hb2' : decide (pos + kk < n) = b2 := by rw [← hb2]; exact decide_eq_decide.2 (by omega)
                  have HB1 := hide hb1
                  have HB2 := hide hb2'
                  clear hb2'
                  cases htk : takeR kk r2x with
                  | error x =>
                    have HTK := hide htk
                    have HTE := hide (takeR_err htk)
                    clear htk
                    go_wp2_with (first
                      | (go_at_call 46; have zz := T1; clear T1 zz; refine (rnum_any B q 1 0 1 t bs _ HRW.out HOK.out hte (by omega) (by omega)).mono ?_; rintro e wa ⟨g1, hm⟩; rw [HW1.out] at hm; obtain ⟨rfl, r1, o1, hr1⟩ := hm
                         clear c2 c4'
                         obtain ⟨s1, hs1⟩ : ∃ s1 : Rw, ({ t with pos := t.pos + 1 } : Rw) = s1 := ⟨_, rfl⟩
                         rw [hs1] at r1 o1
                         have he1 : s1.e = 0 := (by rw [← hs1]; exact hte)
                         have hd1 : s1.dry = false := (by rw [← hs1]; exact HTD.out)
                         have hp1 : r1x = bs.drop s1.pos := (by rw [← hs1]; exact hr1)
                         obtain ⟨_, _, c2, _, c4'⟩ := rw_cell r1
                         rw [he1] at c2
                         rw [hd1] at c4'
                         have HR1 := hide r1
                         have HO1 := hide o1
                         have HE1 := hide he1
                         have HD1 := hide hd1
                         have HP1 := hide hp1
                         have HG1 := hide (grownBy_trans HG.out g1)
                         have HDT1 := hide (RW.dt HRW.out HDT.out g1)
                         clear r1 o1 he1 hd1 g1 hp1 hr1 hs1; have T2 : Hid True := trivial)
                      | (go_at_call 46; have zz := T2; clear T2 zz; refine (rnum_any B q 4 1 ((n : Int) - (pos : Int)) s1 bs _ HR1.out HO1.out HE1.out (by omega) (by omega)).mono ?_; rintro e wb ⟨g2, hm⟩; rw [← HP1.out, HW2.out] at hm; obtain ⟨rfl, r2, o2, hr2⟩ := hm
                         clear c2 c4'
                         have r3 := r2.below (below_alloc wb (.cells (madeCells #[.int .u8 0] 0) 5))
                         have o3 := o2.below (below_alloc wb (.cells (madeCells #[.int .u8 0] 0) 5))
                         obtain ⟨s2, hs2⟩ : ∃ s2 : Rw, ({ s1 with pos := s1.pos + 4 } : Rw) = s2 := ⟨_, rfl⟩
                         rw [hs2] at r2 o2 r3 o3
                         have he2 : s2.e = 0 := (by rw [← hs2]; exact HE1.out)
                         have hd2 : s2.dry = false := (by rw [← hs2]; exact HD1.out)
                         have hp2 : r2x = bs.drop s2.pos := (by rw [← hs2]; exact hr2)
                         obtain ⟨_, _, c2, _, c4'⟩ := rw_cell r2
                         rw [he2] at c2
                         rw [hd2] at c4'
                         obtain ⟨_, _, c2a, _, c4a⟩ := rw_cell r3
                         rw [he2] at c2a
                         rw [hd2] at c4a
                         have HR2 := hide r3
                         have HO2 := hide o3
                         have HE2 := hide he2
                         have HD2 := hide hd2
                         have HP2 := hide hp2
                         have HG2 := hide (grownBy_trans (grownBy_trans HG1.out g2) (World.grownBy_alloc wb (.cells (madeCells #[.int .u8 0] 0) 5) (some q)))
                         have HDT2 := hide (DtOn.below (RW.dt HR1.out HDT1.out g2) (below_alloc wb (.cells (madeCells #[.int .u8 0] 0) 5)))
                         have HZ2 : Hid (w.heap.size ≤ (wb.alloc (.cells (madeCells #[.int .u8 0] 0) 5)).heap.size) := HG2.out.size
                         skip
                         clear r2 o2 r3 o3 he2 hd2 g2 hp2 hr2 hs2)
                      | (go_at_call 47; refine (rtake_any B q kk s2 bs _ HR2.out HO2.out HE2.out (by omega)).mono ?_; rintro e wc ⟨g3, hm⟩; rw [← HP2.out, HTK.out] at hm; obtain ⟨rfl, rfl, r3, o3⟩ := hm
                         clear c2 c4' c2a c4a
                         obtain ⟨s3, hs3⟩ : ∃ s3 : Rw, ({ s2 with e := 190 } : Rw) = s3 := ⟨_, rfl⟩
                         rw [hs3] at r3 o3
                         have he3 : s3.e = 190 := (by have h9 := congrArg Rw.e hs3; exact h9.symm)
                         have hd3 : s3.dry = false := (by have h9 := congrArg Rw.dry hs3; exact h9.symm.trans HD2.out)
                         obtain ⟨_, _, c2, _, c4'⟩ := rw_cell r3
                         rw [he3] at c2
                         rw [hd3] at c4'
                         have HR3 := hide r3
                         have HO3 := hide o3
                         have HE3 := hide he3
                         have HD3 := hide hd3
                         have HG3 := hide (grownBy_trans HG2.out g3)
                         have HDT3 := hide (show DtOn _ _ _ (layD pos acc) from RW.dt HR2.out HDT2.out g3)
                         have HZ3 : Hid (w.heap.size ≤ wc.heap.size) := HG3.out.size
                         clear r3 o3 he3 hd3 g3 hs3)
                      | (at_builtin; go_loud (refine wpList_append_reads rfl (.tmp 100) (.tmp 101) rfl w.heap.size _ (layD pos acc).length (layD pos acc) rfl HDT3.out (none) 0 _ ([]) rfl (reads_none _) (by rw [layD_len pos acc HAC.out]; omega) HZ3.out ?_); intro v8 t8 own8 grow8
                         have HO8 := hide own8
                         have HG8 := hide grow8
                         clear own8 grow8))
                    obtain ⟨a8, l8, c8, hv8⟩ : ∃ a l c, v8 = .slice a l c := by rcases HO8.out.2 with ⟨hv, _⟩ | ⟨g, cap, cur, hv, _⟩; exact ⟨_, _, _, hv⟩; exact ⟨_, _, _, hv⟩
                    subst hv8
                    go_roundg f
                    case measure => omega
                    case rel =>
                      have hob : ∀ i, (Value.slice a4 l4 c4).ownBlock = some i → w.heap.size ≤ i ∧ i ≠ q := fun i e => by have h9 := (HDT3.out.lt i e).1; exact ⟨h9, by omega⟩
                      refine (show Hid _ from ⟨pos + kk, 1, s3, ⟨a8, l8, c8, rfl⟩, rfl, by go_num, grown_past HG3.out HG8.out (fun i e => (hob i e).1), HD3.out, HR3.out.other HG8.out (fun e => (hob q e).2 rfl), HO3.out.other HG8.out (fun i e => by have := (hob i e).1; omega) (by have := HG3.out.size; omega), hkk2, ?_⟩)
                      exact Or.inr ⟨by rw [HE3.out]; decide, by rw [HPU.out, HE3.out]; exact dl_short hlt HW1.out HSM.out HW2.out (by rw [Int.toNat_natCast]; exact HTE.out)⟩
                  | ok pr =>
                    obtain ⟨fb, r3x⟩ := pr
                    have HTK := hide htk
                    obtain ⟨htl1, htl2, htl3⟩ := takeR_fine htk
                    have HT1 := hide htl1
                    have HT2 := hide htl2
                    have HT3 := hide htl3
                    clear htk htl1 htl2 htl3
                    cases hfl : filledB fb b1 b2 with
                    | false =>
                      have HF := hide hfl
                      clear hfl
                      go_wp2_with (first
                        | (go_at_call 46; have zz := T1; clear T1 zz; refine (rnum_any B q 1 0 1 t bs _ HRW.out HOK.out hte (by omega) (by omega)).mono ?_; rintro e wa ⟨g1, hm⟩; rw [HW1.out] at hm; obtain ⟨rfl, r1, o1, hr1⟩ := hm
                           clear c2 c4'
                           obtain ⟨s1, hs1⟩ : ∃ s1 : Rw, ({ t with pos := t.pos + 1 } : Rw) = s1 := ⟨_, rfl⟩
                           rw [hs1] at r1 o1
                           have he1 : s1.e = 0 := (by rw [← hs1]; exact hte)
                           have hd1 : s1.dry = false := (by rw [← hs1]; exact HTD.out)
                           have hp1 : r1x = bs.drop s1.pos := (by rw [← hs1]; exact hr1)
                           obtain ⟨_, _, c2, _, c4'⟩ := rw_cell r1
                           rw [he1] at c2
                           rw [hd1] at c4'
                           have HR1 := hide r1
                           have HO1 := hide o1
                           have HE1 := hide he1
                           have HD1 := hide hd1
                           have HP1 := hide hp1
                           have HG1 := hide (grownBy_trans HG.out g1)
                           have HDT1 := hide (RW.dt HRW.out HDT.out g1)
                           clear r1 o1 he1 hd1 g1 hp1 hr1 hs1; have T2 : Hid True := trivial)
                        | (go_at_call 46; have zz := T2; clear T2 zz; refine (rnum_any B q 4 1 ((n : Int) - (pos : Int)) s1 bs _ HR1.out HO1.out HE1.out (by omega) (by omega)).mono ?_; rintro e wb ⟨g2, hm⟩; rw [← HP1.out, HW2.out] at hm; obtain ⟨rfl, r2, o2, hr2⟩ := hm
                           clear c2 c4'
                           have r3 := r2.below (below_alloc wb (.cells (madeCells #[.int .u8 0] 0) 5))
                           have o3 := o2.below (below_alloc wb (.cells (madeCells #[.int .u8 0] 0) 5))
                           obtain ⟨s2, hs2⟩ : ∃ s2 : Rw, ({ s1 with pos := s1.pos + 4 } : Rw) = s2 := ⟨_, rfl⟩
                           rw [hs2] at r2 o2 r3 o3
                           have he2 : s2.e = 0 := (by rw [← hs2]; exact HE1.out)
                           have hd2 : s2.dry = false := (by rw [← hs2]; exact HD1.out)
                           have hp2 : r2x = bs.drop s2.pos := (by rw [← hs2]; exact hr2)
                           obtain ⟨_, _, c2, _, c4'⟩ := rw_cell r2
                           rw [he2] at c2
                           rw [hd2] at c4'
                           obtain ⟨_, _, c2a, _, c4a⟩ := rw_cell r3
                           rw [he2] at c2a
                           rw [hd2] at c4a
                           have HR2 := hide r3
                           have HO2 := hide o3
                           have HE2 := hide he2
                           have HD2 := hide hd2
                           have HP2 := hide hp2
                           have HG2 := hide (grownBy_trans (grownBy_trans HG1.out g2) (World.grownBy_alloc wb (.cells (madeCells #[.int .u8 0] 0) 5) (some q)))
                           have HDT2 := hide (DtOn.below (RW.dt HR1.out HDT1.out g2) (below_alloc wb (.cells (madeCells #[.int .u8 0] 0) 5)))
                           have HZ2 : Hid (w.heap.size ≤ (wb.alloc (.cells (madeCells #[.int .u8 0] 0) 5)).heap.size) := HG2.out.size
                           skip
                           clear r2 o2 r3 o3 he2 hd2 g2 hp2 hr2 hs2)
                        | (go_at_call 47; refine (rtake_any B q kk s2 bs _ HR2.out HO2.out HE2.out (by omega)).mono ?_; rintro e wc ⟨g3, hm⟩; rw [← HP2.out, HTK.out] at hm; obtain ⟨⟨o9, c9, rfl, rd9⟩, r3, o3, hr3⟩ := hm
                           clear c2 c4' c2a c4a
                           obtain ⟨s3, hs3⟩ : ∃ s3 : Rw, ({ s2 with pos := s2.pos + kk } : Rw) = s3 := ⟨_, rfl⟩
                           rw [hs3] at r3 o3
                           have he3 : s3.e = 0 := (by have h9 := congrArg Rw.e hs3; exact h9.symm.trans HE2.out)
                           have hd3 : s3.dry = false := (by have h9 := congrArg Rw.dry hs3; exact h9.symm.trans HD2.out)
                           have hp3 : r3x = bs.drop s3.pos := (by have h9 := congrArg Rw.pos hs3; rw [← h9]; exact hr3)
                           obtain ⟨_, _, c2, _, c4'⟩ := rw_cell r3
                           rw [he3] at c2
                           rw [hd3] at c4'
                           have HR3 := hide r3
                           have HO3 := hide o3
                           have HE3 := hide he3
                           have HD3 := hide hd3
                           have HP3 := hide hp3
                           have HRD := hide rd9
                           have HG3 := hide (grownBy_trans HG2.out g3)
                           have HDT3 := hide (show DtOn _ _ _ (layD pos acc) from RW.dt HR2.out HDT2.out g3)
                           have HZ3 : Hid (w.heap.size ≤ wc.heap.size) := HG3.out.size
                           clear r3 o3 he3 hd3 g3 hs3 hp3 hr3 rd9)
                        | (go_at_call 77; refine (filled_any _ _ kk _ fb b1 b2 _ (by omega) (by omega) HRD.out).mono ?_; rintro e wy ⟨rfl, rfl⟩; rw [HF.out])
                        | (go_at_call 49; refine (rfail_any B q 191 s3 bs _ HR3.out HO3.out HE3.out).mono ?_; rintro e wd ⟨rfl, r4, o4, g4⟩
                           clear c2 c4'
                           obtain ⟨s4, hs4⟩ : ∃ s4 : Rw, ({ s3 with e := 191 } : Rw) = s4 := ⟨_, rfl⟩
                           rw [hs4] at r4 o4
                           have he4 : s4.e = 191 := (by have h9 := congrArg Rw.e hs4; exact h9.symm)
                           have hd4 : s4.dry = false := (by have h9 := congrArg Rw.dry hs4; exact h9.symm.trans HD3.out)
                           obtain ⟨_, _, c2, _, c4'⟩ := rw_cell r4
                           rw [he4] at c2
                           rw [hd4] at c4'
                           have HR4 := hide r4
                           have HO4 := hide o4
                           have HE4 := hide he4
                           have HD4 := hide hd4
                           have HG4 := hide (grownBy_trans HG3.out g4)
                           have HDT4 := hide (show DtOn _ _ _ (layD pos acc) from RW.dt HR3.out HDT3.out g4)
                           have HRD4 := hide (reads_past HR3.out HO2.out.lt HO2.out.bq HRD.out g4)
                           have HZ4 : Hid (w.heap.size ≤ wd.heap.size) := HG4.out.size
                           clear r4 o4 he4 hd4 g4 hs4)
                        | (at_builtin; go_loud (refine wpList_append_reads rfl (.tmp 100) (.tmp 101) rfl w.heap.size _ (layD pos acc).length (layD pos acc) rfl HDT4.out (some ⟨s2.b, o9, none⟩) kk _ (fb) rfl HRD4.out (by rw [layD_len pos acc HAC.out]; omega) HZ4.out ?_); intro v8 t8 own8 grow8
                           have HO8 := hide own8
                           have HG8 := hide grow8
                           clear own8 grow8))
                      obtain ⟨a8, l8, c8, hv8⟩ : ∃ a l c, v8 = .slice a l c := by rcases HO8.out.2 with ⟨hv, _⟩ | ⟨g, cap, cur, hv, _⟩; exact ⟨_, _, _, hv⟩; exact ⟨_, _, _, hv⟩
                      subst hv8
                      go_roundg f
                      case measure => omega
                      case rel =>
                        have hob : ∀ i, (Value.slice a4 l4 c4).ownBlock = some i → w.heap.size ≤ i ∧ i ≠ q := fun i e => by have h9 := (HDT4.out.lt i e).1; exact ⟨h9, by omega⟩
                        refine (show Hid _ from ⟨pos + kk, 1, s4, ⟨a8, l8, c8, rfl⟩, rfl, by go_num, grown_past HG4.out HG8.out (fun i e => (hob i e).1), HD4.out, HR4.out.other HG8.out (fun e => (hob q e).2 rfl), HO4.out.other HG8.out (fun i e => by have := (hob i e).1; omega) (by have := HG4.out.size; omega), hkk2, ?_⟩)
                        exact Or.inr ⟨by rw [HE4.out]; decide, by rw [HPU.out, HE4.out]; exact dl_bad hlt HW1.out HSM.out HW2.out (by rw [Int.toNat_natCast]; exact HT1.out) (by rw [Int.toNat_natCast, ← HT2.out, HB1.out, HB2.out]; exact HF.out)⟩
                    | true =>
                      have HF := hide hfl
                      clear hfl
                      go_wp2_with (first
                        | (go_at_call 46; have zz := T1; clear T1 zz; refine (rnum_any B q 1 0 1 t bs _ HRW.out HOK.out hte (by omega) (by omega)).mono ?_; rintro e wa ⟨g1, hm⟩; rw [HW1.out] at hm; obtain ⟨rfl, r1, o1, hr1⟩ := hm
                           clear c2 c4'
                           obtain ⟨s1, hs1⟩ : ∃ s1 : Rw, ({ t with pos := t.pos + 1 } : Rw) = s1 := ⟨_, rfl⟩
                           rw [hs1] at r1 o1
                           have he1 : s1.e = 0 := (by rw [← hs1]; exact hte)
                           have hd1 : s1.dry = false := (by rw [← hs1]; exact HTD.out)
                           have hp1 : r1x = bs.drop s1.pos := (by rw [← hs1]; exact hr1)
                           obtain ⟨_, _, c2, _, c4'⟩ := rw_cell r1
                           rw [he1] at c2
                           rw [hd1] at c4'
                           have HR1 := hide r1
                           have HO1 := hide o1
                           have HE1 := hide he1
                           have HD1 := hide hd1
                           have HP1 := hide hp1
                           have HG1 := hide (grownBy_trans HG.out g1)
                           have HDT1 := hide (RW.dt HRW.out HDT.out g1)
                           clear r1 o1 he1 hd1 g1 hp1 hr1 hs1; have T2 : Hid True := trivial)
                        | (go_at_call 46; have zz := T2; clear T2 zz; refine (rnum_any B q 4 1 ((n : Int) - (pos : Int)) s1 bs _ HR1.out HO1.out HE1.out (by omega) (by omega)).mono ?_; rintro e wb ⟨g2, hm⟩; rw [← HP1.out, HW2.out] at hm; obtain ⟨rfl, r2, o2, hr2⟩ := hm
                           clear c2 c4'
                           have r3 := r2.below (below_alloc wb (.cells (madeCells #[.int .u8 0] 0) 5))
                           have o3 := o2.below (below_alloc wb (.cells (madeCells #[.int .u8 0] 0) 5))
                           obtain ⟨s2, hs2⟩ : ∃ s2 : Rw, ({ s1 with pos := s1.pos + 4 } : Rw) = s2 := ⟨_, rfl⟩
                           rw [hs2] at r2 o2 r3 o3
                           have he2 : s2.e = 0 := (by rw [← hs2]; exact HE1.out)
                           have hd2 : s2.dry = false := (by rw [← hs2]; exact HD1.out)
                           have hp2 : r2x = bs.drop s2.pos := (by rw [← hs2]; exact hr2)
                           obtain ⟨_, _, c2, _, c4'⟩ := rw_cell r2
                           rw [he2] at c2
                           rw [hd2] at c4'
                           obtain ⟨_, _, c2a, _, c4a⟩ := rw_cell r3
                           rw [he2] at c2a
                           rw [hd2] at c4a
                           have HR2 := hide r3
                           have HO2 := hide o3
                           have HE2 := hide he2
                           have HD2 := hide hd2
                           have HP2 := hide hp2
                           have HG2 := hide (grownBy_trans (grownBy_trans HG1.out g2) (World.grownBy_alloc wb (.cells (madeCells #[.int .u8 0] 0) 5) (some q)))
                           have HDT2 := hide (DtOn.below (RW.dt HR1.out HDT1.out g2) (below_alloc wb (.cells (madeCells #[.int .u8 0] 0) 5)))
                           have HZ2 : Hid (w.heap.size ≤ (wb.alloc (.cells (madeCells #[.int .u8 0] 0) 5)).heap.size) := HG2.out.size
                           skip
                           clear r2 o2 r3 o3 he2 hd2 g2 hp2 hr2 hs2)
                        | (go_at_call 47; refine (rtake_any B q kk s2 bs _ HR2.out HO2.out HE2.out (by omega)).mono ?_; rintro e wc ⟨g3, hm⟩; rw [← HP2.out, HTK.out] at hm; obtain ⟨⟨o9, c9, rfl, rd9⟩, r3, o3, hr3⟩ := hm
                           clear c2 c4' c2a c4a
                           obtain ⟨s3, hs3⟩ : ∃ s3 : Rw, ({ s2 with pos := s2.pos + kk } : Rw) = s3 := ⟨_, rfl⟩
                           rw [hs3] at r3 o3
                           have he3 : s3.e = 0 := (by have h9 := congrArg Rw.e hs3; exact h9.symm.trans HE2.out)
                           have hd3 : s3.dry = false := (by have h9 := congrArg Rw.dry hs3; exact h9.symm.trans HD2.out)
                           have hp3 : r3x = bs.drop s3.pos := (by have h9 := congrArg Rw.pos hs3; rw [← h9]; exact hr3)
                           obtain ⟨_, _, c2, _, c4'⟩ := rw_cell r3
                           rw [he3] at c2
                           rw [hd3] at c4'
                           have HR3 := hide r3
                           have HO3 := hide o3
                           have HE3 := hide he3
                           have HD3 := hide hd3
                           have HP3 := hide hp3
                           have HRD := hide rd9
                           have HG3 := hide (grownBy_trans HG2.out g3)
                           have HDT3 := hide (show DtOn _ _ _ (layD pos acc) from RW.dt HR2.out HDT2.out g3)
                           have HZ3 : Hid (w.heap.size ≤ wc.heap.size) := HG3.out.size
                           clear r3 o3 he3 hd3 g3 hs3 hp3 hr3 rd9)
                        | (go_at_call 77; refine (filled_any _ _ kk _ fb b1 b2 _ (by omega) (by omega) HRD.out).mono ?_; rintro e wy ⟨rfl, rfl⟩; rw [HF.out])
                        | (at_builtin; go_loud (refine wpList_append_reads rfl (.tmp 100) (.tmp 101) rfl w.heap.size _ (layD pos acc).length (layD pos acc) rfl HDT3.out (some ⟨s2.b, o9, none⟩) kk _ (fb) rfl HRD.out (by rw [layD_len pos acc HAC.out]; omega) HZ3.out ?_); intro v8 t8 own8 grow8
                           have HO8 := hide own8
                           have HG8 := hide grow8
                           clear own8 grow8))
                      obtain ⟨a8, l8, c8, hv8⟩ : ∃ a l c, v8 = .slice a l c := by rcases HO8.out.2 with ⟨hv, _⟩ | ⟨g, cap, cur, hv, _⟩; exact ⟨_, _, _, hv⟩; exact ⟨_, _, _, hv⟩
                      subst hv8
                      go_roundg f
                      case measure => omega
                      case rel =>
                        have hob : ∀ i, (Value.slice a4 l4 c4).ownBlock = some i → w.heap.size ≤ i ∧ i ≠ q := fun i e => by have h9 := (HDT3.out.lt i e).1; exact ⟨h9, by omega⟩
                        refine (show Hid _ from ⟨pos + kk, 1, s3, ⟨a8, l8, c8, rfl⟩, rfl, by go_num, grown_past HG3.out HG8.out (fun i e => (hob i e).1), HD3.out, HR3.out.other HG8.out (fun e => (hob q e).2 rfl), HO3.out.other HG8.out (fun i e => by have := (hob i e).1; omega) (by have := HG3.out.size; omega), hkk2, ?_⟩)
                        have hfl9 : fb.length = kk := HRD.out.1
                        refine Or.inl ⟨HE3.out, by omega, acc ++ [⟨pos, fb⟩], ?_, ?_, ?_⟩
                        · show DtOn _ _ _ (layD (pos + kk) (acc ++ [⟨pos, fb⟩]))
                          unfold DtOn
                          rw [← hfl9, layD_put pos acc fb HAC.out]
                          have h9 := HO8.out
                          rw [List.length_append, hfl9]
                          exact h9
                        · intro x hx
                          rcases List.mem_append.1 hx with h9 | h9
                          · have := HAC.out x h9; omega
                          · obtain rfl := List.mem_singleton.1 h9
                            simp only [hfl9]; exact Nat.le_refl _
                        · rw [HPU.out, dl_fill hlt HW1.out HSM.out HW2.out (by rw [Int.toNat_natCast]; exact HT1.out) (by rw [Int.toNat_natCast, ← HT2.out, HB1.out, HB2.out]; exact HF.out), Int.toNat_natCast, ← HT2.out, ← HT3.out, HP3.out]
        · have d1 : decide ((pos : Int) < (n : Int)) = false := decide_eq_false (by omega)
          obtain rfl : pos = n := by omega
          go_wp2
          go_ret
          refine ⟨HG.out, ?_⟩
          rw [HPD.out acc (bs.drop t.pos) (by rw [HPU.out]; exact dl_end (by omega))]
          refine ⟨_, rfl, ?_, t, hte, by rw [HTD.out, hdry], HRW.out, HOK.out, rfl⟩
          rw [hdry]; exact HDT.out
      · have HPU := hide hpure
        have e2 : (t.e == 0) = false := by simp [hte]
        clear hpure
        by_cases hlt : pos < n
        · have i1 : (pos : Int) < (n : Int) := by omega
          go_wp2
          go_ret
          refine ⟨HG.out, ?_⟩
          rw [HPE.out _ HPU.out]
          exact ⟨⟨_, _, _, rfl⟩, t, rfl, by rw [HTD.out, hdry], HRW.out, HOK.out⟩
        · have d1 : decide ((pos : Int) < (n : Int)) = false := decide_eq_false (by omega)
          go_wp2
          go_ret
          refine ⟨HG.out, ?_⟩
          rw [HPE.out _ HPU.out]
          exact ⟨⟨_, _, _, rfl⟩, t, rfl, by rw [HTD.out, hdry], HRW.out, HOK.out⟩

set_option maxHeartbeats 8000000 in
set_option maxRecDepth 100000 in
theorem rdata_dry (B q : Nat) (s : Rw) (bs : List Int) (w : World) (h : RW w q s) (ho : s.Ok w bs B q) (he : s.e = 0) (hdry : s.dry = true) :
    Calls Tryz.prog 50 #[.pointer (some ⟨q, 0, none⟩)] w (DrV w B q bs s) := by
  have hq := (Array.getElem?_eq_some_iff.1 h).1
  have hbq := ho.bq
  have HRW := hide h
  have HOK := hide ho
  have htl := ho.tl
  have hpm := ho.pm
  have hml := ho.ml
  clear h ho
  cases hw : wholeR 4 0 16777216 (bs.drop s.pos) with
  | error x =>
    have HW := hide hw
    have hx := (wholeR_er hw).ne
    have HP : Hid (dataR (bs.drop s.pos) = .error x) := by unfold Hid dataR; rw [hw]
    clear hw
    go_enter Tryz.func50, Tryz.ntmps50
    go_wp2_with (first
      | (go_at_call 46; refine (rnum_any B q 4 0 16777216 s bs _ HRW.out HOK.out he (by omega) (by omega)).mono ?_; rintro e u1 ⟨g1, hm⟩; rw [HW.out] at hm; obtain ⟨rfl, s1, he1, ht1, hd1, r1, o1⟩ := hm
         obtain ⟨c0, c1, c2, c3, c4⟩ := rw_cell r1
         have f3 := rw_frozen r1 3
         rw [he1] at c2
         rw [ht1] at c3
         have e0 : (x == 0) = false := by simp [hx]
         have HR1 : Hid (RW (u1.setCell ⟨q, 3, none⟩ (.int .i64 s.told)) q s1) := (by have h9 := rw_setT r1 s.told; rw [← ht1] at h9 ⊢; exact h9)
         have HO1 : Hid (s1.Ok (u1.setCell ⟨q, 3, none⟩ (.int .i64 s.told)) bs B q) := (by have h9 := o1.stay (set_grown u1 q 3 (.int .i64 s.told)) ((Array.getElem?_eq_some_iff.1 r1).1) s1.e; exact h9)
         have HE1 := hide he1
         have HD1 := hide hd1
         have HG1 := hide g1
         clear r1 o1 he1 hd1 g1 c0 c1 c4 ht1))
    go_loop [4, 5, 6] (fun x4 x5 x6 => x4 = .slice none 0 0 ∧ x5 = .int .i64 (-1) ∧ x6 = .int .i64 0) (fun _ _ _ => 0)
    case atStart => exact ⟨rfl, rfl, rfl⟩
    case round =>
      obtain ⟨rfl, rfl, rfl⟩ := hrel
      go_wp2
      go_ret
      refine ⟨grownBy_trans HG1.out (set_grown _ _ 3 _), ?_⟩
      rw [HP.out]
      exact ⟨⟨none, 0, 0, rfl⟩, s1, HE1.out, HD1.out, HR1.out, HO1.out⟩
  | ok pr =>
    obtain ⟨ni, r0⟩ := pr
    have hnr := (wholeR_ok hw).2
    obtain ⟨n, rfl⟩ := Int.eq_ofNat_of_zero_le hnr.1
    have hn : n ≤ 16777216 := by omega
    have HW := hide hw
    have hnw : IntKind.i64.wrap (n : Int) = (n : Int) := by rw [IntKind.wrap_i64]; omega
    have hm4 : s.pos + 4 ≤ s.m := by have h9 := (wholeR_ok hw).1; rw [List.length_drop, HOK.out.rd.1] at h9; omega
    have hr0 : r0 = bs.drop (s.pos + 4) := by have h9 := (wholeR_ok hw).2.2.2.2; rw [h9, List.drop_drop]
    have HPD : Hid (∀ l r, dataL n n 0 (-1) [] r0 = .ok (l, r) → dataR (bs.drop s.pos) = .ok ((n, l), r)) := by intro l r h9; unfold dataR; rw [hw]; simp only [Int.toNat_natCast, h9]
    have HPE : Hid (∀ x, dataL n n 0 (-1) [] r0 = .error x → dataR (bs.drop s.pos) = .error x) := by intro x h9; unfold dataR; rw [hw]; simp only [Int.toNat_natCast, h9]
    have HR0 := hide hr0
    clear hw hnr hr0
    have hmk0 := make_none
    go_enter Tryz.func50, Tryz.ntmps50
    go_wp2_with (first
      | (go_at_call 46; refine (rnum_any B q 4 0 16777216 s bs _ HRW.out HOK.out he (by omega) (by omega)).mono ?_; rintro e u1 ⟨g1, hm⟩; rw [HW.out] at hm; obtain ⟨rfl, r1, o1, hr1⟩ := hm
         obtain ⟨c0, c1, c2, c3, c4⟩ := rw_cell r1
         have f3 := rw_frozen r1 3
         simp only at c2 c3
         obtain ⟨s1, hs1⟩ : ∃ s1 : Rw, ({ s with pos := s.pos + 4, told := s.told + (n : Int) } : Rw) = s1 := ⟨_, rfl⟩
         have r2 := rw_setT r1 (s.told + (n : Int))
         have o2 : s1.Ok (u1.setCell ⟨q, 3, none⟩ (.int .i64 (s.told + (n : Int)))) bs B q := (by
           have h9 := o1.stay (set_grown u1 q 3 (.int .i64 (s.told + (n : Int)))) ((Array.getElem?_eq_some_iff.1 r1).1) s.e
           rw [← hs1]
           refine ⟨h9.rd, h9.lt, h9.bq, h9.pm, h9.mc, h9.cc, h9.ml, ?_⟩
           show 0 ≤ s.told + (n : Int) ∧ s.told + (n : Int) ≤ 16777216 * ((s.pos + 4 : Nat) : Int)
           omega)
         have HR1 : Hid (RW (u1.setCell ⟨q, 3, none⟩ (.int .i64 (s.told + (n : Int)))) q s1) := (by rw [← hs1]; exact r2)
         have HO1 := hide o2
         have HG1 := hide (grownBy_trans g1 (set_grown u1 q 3 (.int .i64 (s.told + (n : Int)))))
         have HE1 : Hid (s1.e = 0) := (by rw [← hs1]; exact he)
         have HD1 : Hid (s1.dry = true) := (by rw [← hs1]; exact hdry)
         have HP1 : Hid (s1.pos = s.pos + 4) := (by have h9 := congrArg Rw.pos hs1; exact h9.symm)
         clear r1 r2 o1 o2 g1 c0 c1 c4 hr1 hs1))
    go_loopg [4, 5, 6] n (fun g s4 s5 s6 wr => Hid (DrInv w B q n bs true r0 g s4 s5 s6 wr))
    case atStart =>
      exact (show Hid _ from ⟨0, -1, s1, ⟨none, 0, 0, rfl⟩, rfl, rfl, HG1.out, HD1.out, HR1.out, HO1.out, Nat.zero_le _, Or.inl ⟨HE1.out, by omega, [], World.ownsRow_nil _ _ _ _, (fun x hx => by cases hx), by rw [HR0.out, HP1.out]⟩⟩)
    case round =>
      obtain ⟨pos, last, t, ⟨a4, l4, c4, rfl⟩, rfl, rfl, gr, htd, rw1, ok1, hpn, hcase⟩ := hrel.out
      clear hrel HR1 HO1 HG1 HE1 HD1 HP1 HRW HOK HW HR0
      obtain ⟨c0, c1, c2, c3, c4'⟩ := rw_cell rw1
      have HG := hide gr
      have HRW := hide rw1
      have HOK := hide ok1
      have HTD := hide htd
      have hqr : q < wr.heap.size := (Array.getElem?_eq_some_iff.1 rw1).1
      have hBr : B ≤ wr.heap.size := by omega
      rw [htd] at c4'
      clear gr rw1 ok1 c0 c1 c3
      rcases hcase with ⟨hte, hpg, acc, dt, hac, hpure⟩ | ⟨hte, hpure⟩
      · have HDT := hide dt
        have HAC := hide hac
        have HPU := hide hpure
        rw [hte] at c2
        clear dt hac hpure htd
        by_cases hlt : pos < n
        · have i1 : (pos : Int) < (n : Int) := by omega
          obtain ⟨f, rfl⟩ : ∃ f, gk = f + 1 := ⟨gk - 1, by omega⟩
          have hw9 : IntKind.u64.wrap ((n : Int) - (pos : Int)) = (n : Int) - (pos : Int) := by rw [IntKind.wrap_u64]; omega
          have T1 : Hid True := trivial
          cases hw1 : wholeR 1 0 1 (bs.drop t.pos) with
          | error x =>
            have HW1 := hide hw1
            have hx := (wholeR_er hw1).ne
            clear hw1
            go_wp2_with (first
              | (go_at_call 46; have zz := T1; clear T1 zz; refine (rnum_any B q 1 0 1 t bs _ HRW.out HOK.out hte (by omega) (by omega)).mono ?_; rintro e wa ⟨g1, hm⟩; rw [HW1.out] at hm; obtain ⟨rfl, s1, he1, _, hd1, r1, o1⟩ := hm
                 clear c2 c4'
                 obtain ⟨_, _, c2, _, _⟩ := rw_cell r1
                 rw [he1] at c2
                 have e0 : (x == 0) = false := by simp [hx]
                 have e1 : (x != 0) = true := by simp [hx]
                 have HR1 := hide r1
                 have HO1 := hide o1
                 have HE1 := hide he1
                 have HX1 : Hid (s1.e ≠ 0) := (by rw [he1]; exact hx)
                 have HD1 := hide (show s1.dry = true from (by rw [hd1]; exact HTD.out))
                 have HG1 := hide (grownBy_trans HG.out g1)
                 clear r1 o1 he1 hd1 g1; have T2 : Hid True := trivial)
              | (go_at_call 46; have zz := T2; clear T2 zz; refine (rnum_dead B q 4 _ _ s1 bs _ HR1.out HO1.out HX1.out (by omega)).mono ?_; rintro e wz ⟨rfl, r9, o9, g9⟩
                 clear c2
                 obtain ⟨_, _, c2, _, _⟩ := rw_cell r9
                 rw [HE1.out] at c2
                 have HR9 := hide r9
                 have HO9 := hide o9
                 have HG9 := hide (grownBy_trans HG1.out g9)
                 clear r9 o9 g9))
            go_ret
            refine ⟨HG9.out, ?_⟩
            rw [HPE.out x (by rw [HPU.out]; exact dl_e1 hlt HW1.out)]
            exact ⟨⟨none, 0, 0, rfl⟩, s1, HE1.out, by rw [HD1.out, hdry], HR9.out, HO9.out⟩
          | ok pr =>
            obtain ⟨kd, r1x⟩ := pr
            have hkd := (wholeR_ok hw1).2
            have HW1 := hide hw1
            have hkd2 : kd = 0 ∨ kd = 1 := by omega
            clear hw1 hkd
            rcases hkd2 with rfl | rfl
            · by_cases hsame : (0 : Int) = last
              · have e1 : ((0 : Int) == last) = true := by simp [hsame]
                have HSM := hide hsame
                clear hsame
                go_wp2_with (first
                  | (go_at_call 46; have zz := T1; clear T1 zz; refine (rnum_any B q 1 0 1 t bs _ HRW.out HOK.out hte (by omega) (by omega)).mono ?_; rintro e wa ⟨g1, hm⟩; rw [HW1.out] at hm; obtain ⟨rfl, r1, o1, hr1⟩ := hm
                     clear c2 c4'
                     obtain ⟨s1, hs1⟩ : ∃ s1 : Rw, ({ t with pos := t.pos + 1 } : Rw) = s1 := ⟨_, rfl⟩
                     rw [hs1] at r1 o1
                     have he1 : s1.e = 0 := (by rw [← hs1]; exact hte)
                     have hd1 : s1.dry = true := (by rw [← hs1]; exact HTD.out)
                     have hp1 : r1x = bs.drop s1.pos := (by rw [← hs1]; exact hr1)
                     obtain ⟨_, _, c2, _, c4'⟩ := rw_cell r1
                     rw [he1] at c2
                     rw [hd1] at c4'
                     have HR1 := hide r1
                     have HO1 := hide o1
                     have HE1 := hide he1
                     have HD1 := hide hd1
                     have HP1 := hide hp1
                     have HG1 := hide (grownBy_trans HG.out g1)
                     have HDT1 := hide (RW.dt HRW.out HDT.out g1)
                     clear r1 o1 he1 hd1 g1 hp1 hr1 hs1; have T2 : Hid True := trivial)
                  | (go_at_call 49; have zz := T2; clear T2 zz; refine (rfail_any B q 191 s1 bs _ HR1.out HO1.out HE1.out).mono ?_; rintro e wb ⟨rfl, r2, o2, g2⟩
                     clear c2
                     obtain ⟨s2, hs2⟩ : ∃ s2 : Rw, ({ s1 with e := 191 } : Rw) = s2 := ⟨_, rfl⟩
                     rw [hs2] at r2 o2
                     have he2 : s2.e = 191 := (by have h9 := congrArg Rw.e hs2; exact h9.symm)
                     obtain ⟨_, _, c2, _, _⟩ := rw_cell r2
                     rw [he2] at c2
                     have HR2 := hide r2
                     have HO2 := hide o2
                     have HE2 := hide he2
                     have HX2 := hide (show s2.e ≠ 0 from (by rw [he2]; decide))
                     have HD2 : Hid (s2.dry = true) := (by rw [← hs2]; exact HD1.out)
                     have HG2 := hide (grownBy_trans HG1.out g2)
                     clear r2 o2 he2 g2 hs2; have T3 : Hid True := trivial)
                  | (go_at_call 46; have zz := T3; clear T3 zz; refine (rnum_dead B q 4 _ _ s2 bs _ HR2.out HO2.out HX2.out (by omega)).mono ?_; rintro e wz ⟨rfl, r9, o9, g9⟩
                     clear c2
                     obtain ⟨_, _, c2, _, _⟩ := rw_cell r9
                     rw [HE2.out] at c2
                     have HR9 := hide r9
                     have HO9 := hide o9
                     have HG9 := hide (grownBy_trans HG2.out g9)
                     clear r9 o9 g9))
                go_ret
                refine ⟨HG9.out, ?_⟩
                rw [HPE.out 191 (by rw [HPU.out]; exact dl_same hlt HW1.out HSM.out)]
                exact ⟨⟨none, 0, 0, rfl⟩, s2, HE2.out, by rw [HD2.out, hdry], HR9.out, HO9.out⟩
              · have e1 : ((0 : Int) == last) = false := by simp [hsame]
                have HSM := hide hsame
                clear hsame
                cases hw2 : wholeR 4 16 ((n : Int) - (pos : Int)) r1x with
                | error x =>
                  have HW2 := hide hw2
                  have hx := (wholeR_er hw2).ne
                  clear hw2
                  go_wp2_with (first
                    | (go_at_call 46; have zz := T1; clear T1 zz; refine (rnum_any B q 1 0 1 t bs _ HRW.out HOK.out hte (by omega) (by omega)).mono ?_; rintro e wa ⟨g1, hm⟩; rw [HW1.out] at hm; obtain ⟨rfl, r1, o1, hr1⟩ := hm
                       clear c2 c4'
                       obtain ⟨s1, hs1⟩ : ∃ s1 : Rw, ({ t with pos := t.pos + 1 } : Rw) = s1 := ⟨_, rfl⟩
                       rw [hs1] at r1 o1
                       have he1 : s1.e = 0 := (by rw [← hs1]; exact hte)
                       have hd1 : s1.dry = true := (by rw [← hs1]; exact HTD.out)
                       have hp1 : r1x = bs.drop s1.pos := (by rw [← hs1]; exact hr1)
                       obtain ⟨_, _, c2, _, c4'⟩ := rw_cell r1
                       rw [he1] at c2
                       rw [hd1] at c4'
                       have HR1 := hide r1
                       have HO1 := hide o1
                       have HE1 := hide he1
                       have HD1 := hide hd1
                       have HP1 := hide hp1
                       have HG1 := hide (grownBy_trans HG.out g1)
                       have HDT1 := hide (RW.dt HRW.out HDT.out g1)
                       clear r1 o1 he1 hd1 g1 hp1 hr1 hs1; have T2 : Hid True := trivial)
                    | (go_at_call 46; have zz := T2; clear T2 zz; refine (rnum_any B q 4 16 ((n : Int) - (pos : Int)) s1 bs _ HR1.out HO1.out HE1.out (by omega) (by omega)).mono ?_; rintro e wb ⟨g2, hm⟩; rw [← HP1.out, HW2.out] at hm; obtain ⟨rfl, s2, he2, _, hd2, r2, o2⟩ := hm
                       clear c2 c4'
                       obtain ⟨_, _, c2, _, _⟩ := rw_cell r2
                       rw [he2] at c2
                       have e0 : (x != 0) = true := by simp [hx]
                       have HR9 := hide r2
                       have HO9 := hide o2
                       have HE2 := hide he2
                       have HD2 := hide (show s2.dry = true from (by rw [hd2]; exact HD1.out))
                       have HG9 := hide (grownBy_trans HG1.out g2)
                       clear r2 o2 he2 hd2 g2))
                  go_ret
                  refine ⟨HG9.out, ?_⟩
                  rw [HPE.out x (by rw [HPU.out]; exact dl_e2 hlt HW1.out HSM.out HW2.out)]
                  exact ⟨⟨none, 0, 0, rfl⟩, s2, HE2.out, by rw [HD2.out, hdry], HR9.out, HO9.out⟩
                | ok pr =>
                  obtain ⟨ki, r2x⟩ := pr
                  have hk2 := (wholeR_ok hw2).2
                  obtain ⟨kk, rfl⟩ := Int.eq_ofNat_of_zero_le (show 0 ≤ ki by omega)
                  have HW2 := hide hw2
                  have hkk1 : 16 ≤ kk := by omega
                  have hkk2 : pos + kk ≤ n := by omega
                  have hkw : IntKind.i64.wrap (kk : Int) = (kk : Int) := by rw [IntKind.wrap_i64]; omega
                  have hkm := make_bytes kk (by omega)
                  clear hw2 hk2
                  go_wp2_with (first
                    | (go_at_call 46; have zz := T1; clear T1 zz; refine (rnum_any B q 1 0 1 t bs _ HRW.out HOK.out hte (by omega) (by omega)).mono ?_; rintro e wa ⟨g1, hm⟩; rw [HW1.out] at hm; obtain ⟨rfl, r1, o1, hr1⟩ := hm
                       clear c2 c4'
                       obtain ⟨s1, hs1⟩ : ∃ s1 : Rw, ({ t with pos := t.pos + 1 } : Rw) = s1 := ⟨_, rfl⟩
                       rw [hs1] at r1 o1
                       have he1 : s1.e = 0 := (by rw [← hs1]; exact hte)
                       have hd1 : s1.dry = true := (by rw [← hs1]; exact HTD.out)
                       have hp1 : r1x = bs.drop s1.pos := (by rw [← hs1]; exact hr1)
                       obtain ⟨_, _, c2, _, c4'⟩ := rw_cell r1
                       rw [he1] at c2
                       rw [hd1] at c4'
                       have HR1 := hide r1
                       have HO1 := hide o1
                       have HE1 := hide he1
                       have HD1 := hide hd1
                       have HP1 := hide hp1
                       have HG1 := hide (grownBy_trans HG.out g1)
                       have HDT1 := hide (RW.dt HRW.out HDT.out g1)
                       clear r1 o1 he1 hd1 g1 hp1 hr1 hs1; have T2 : Hid True := trivial)
                    | (go_at_call 46; have zz := T2; clear T2 zz; refine (rnum_any B q 4 16 ((n : Int) - (pos : Int)) s1 bs _ HR1.out HO1.out HE1.out (by omega) (by omega)).mono ?_; rintro e wb ⟨g2, hm⟩; rw [← HP1.out, HW2.out] at hm; obtain ⟨rfl, r2, o2, hr2⟩ := hm
                       clear c2 c4'
                       have r3 := r2.below (below_alloc wb (.cells (madeCells #[.int .u8 0] 0) 5))
                       have o3 := o2.below (below_alloc wb (.cells (madeCells #[.int .u8 0] 0) 5))
                       obtain ⟨s2, hs2⟩ : ∃ s2 : Rw, ({ s1 with pos := s1.pos + 4 } : Rw) = s2 := ⟨_, rfl⟩
                       rw [hs2] at r2 o2 r3 o3
                       have he2 : s2.e = 0 := (by rw [← hs2]; exact HE1.out)
                       have hd2 : s2.dry = true := (by rw [← hs2]; exact HD1.out)
                       have hp2 : r2x = bs.drop s2.pos := (by rw [← hs2]; exact hr2)
                       obtain ⟨_, _, c2, _, c4'⟩ := rw_cell r2
                       rw [he2] at c2
                       rw [hd2] at c4'
                       obtain ⟨_, _, c2a, _, c4a⟩ := rw_cell r3
                       rw [he2] at c2a
                       rw [hd2] at c4a
                       have HR2 := hide r3
                       have HO2 := hide o3
                       have HE2 := hide he2
                       have HD2 := hide hd2
                       have HP2 := hide hp2
                       have HG2 := hide (grownBy_trans (grownBy_trans HG1.out g2) (World.grownBy_alloc wb (.cells (madeCells #[.int .u8 0] 0) 5) (some q)))
                       have HDT2 := hide (DtOn.below (RW.dt HR1.out HDT1.out g2) (below_alloc wb (.cells (madeCells #[.int .u8 0] 0) 5)))
                       have HZ2 : Hid (w.heap.size ≤ (wb.alloc (.cells (madeCells #[.int .u8 0] 0) 5)).heap.size) := HG2.out.size
                       skip
                       clear r2 o2 r3 o3 he2 hd2 g2 hp2 hr2 hs2))
                  go_roundg f
                  case measure => omega
                  case rel =>
                    refine (show Hid _ from ⟨pos + kk, 0, s2, ⟨a4, l4, c4, rfl⟩, rfl, by go_num, HG2.out, HD2.out, HR2.out, HO2.out, hkk2, Or.inl ⟨HE2.out, by omega, acc, HDT2.out, fun x hx => by have := HAC.out x hx; omega, ?_⟩⟩)
                    rw [HPU.out, dl_hole hlt HW1.out HSM.out HW2.out, Int.toNat_natCast, HP2.out]
            · by_cases hsame : (1 : Int) = last
              · have e1 : ((1 : Int) == last) = true := by simp [hsame]
                have HSM := hide hsame
                clear hsame
                go_wp2_with (first
                  | (go_at_call 46; have zz := T1; clear T1 zz; refine (rnum_any B q 1 0 1 t bs _ HRW.out HOK.out hte (by omega) (by omega)).mono ?_; rintro e wa ⟨g1, hm⟩; rw [HW1.out] at hm; obtain ⟨rfl, r1, o1, hr1⟩ := hm
                     clear c2 c4'
                     obtain ⟨s1, hs1⟩ : ∃ s1 : Rw, ({ t with pos := t.pos + 1 } : Rw) = s1 := ⟨_, rfl⟩
                     rw [hs1] at r1 o1
                     have he1 : s1.e = 0 := (by rw [← hs1]; exact hte)
                     have hd1 : s1.dry = true := (by rw [← hs1]; exact HTD.out)
                     have hp1 : r1x = bs.drop s1.pos := (by rw [← hs1]; exact hr1)
                     obtain ⟨_, _, c2, _, c4'⟩ := rw_cell r1
                     rw [he1] at c2
                     rw [hd1] at c4'
                     have HR1 := hide r1
                     have HO1 := hide o1
                     have HE1 := hide he1
                     have HD1 := hide hd1
                     have HP1 := hide hp1
                     have HG1 := hide (grownBy_trans HG.out g1)
                     have HDT1 := hide (RW.dt HRW.out HDT.out g1)
                     clear r1 o1 he1 hd1 g1 hp1 hr1 hs1; have T2 : Hid True := trivial)
                  | (go_at_call 49; have zz := T2; clear T2 zz; refine (rfail_any B q 191 s1 bs _ HR1.out HO1.out HE1.out).mono ?_; rintro e wb ⟨rfl, r2, o2, g2⟩
                     clear c2
                     obtain ⟨s2, hs2⟩ : ∃ s2 : Rw, ({ s1 with e := 191 } : Rw) = s2 := ⟨_, rfl⟩
                     rw [hs2] at r2 o2
                     have he2 : s2.e = 191 := (by have h9 := congrArg Rw.e hs2; exact h9.symm)
                     obtain ⟨_, _, c2, _, _⟩ := rw_cell r2
                     rw [he2] at c2
                     have HR2 := hide r2
                     have HO2 := hide o2
                     have HE2 := hide he2
                     have HX2 := hide (show s2.e ≠ 0 from (by rw [he2]; decide))
                     have HD2 : Hid (s2.dry = true) := (by rw [← hs2]; exact HD1.out)
                     have HG2 := hide (grownBy_trans HG1.out g2)
                     clear r2 o2 he2 g2 hs2; have T3 : Hid True := trivial)
                  | (go_at_call 46; have zz := T3; clear T3 zz; refine (rnum_dead B q 4 _ _ s2 bs _ HR2.out HO2.out HX2.out (by omega)).mono ?_; rintro e wz ⟨rfl, r9, o9, g9⟩
                     clear c2
                     obtain ⟨_, _, c2, _, _⟩ := rw_cell r9
                     rw [HE2.out] at c2
                     have HR9 := hide r9
                     have HO9 := hide o9
                     have HG9 := hide (grownBy_trans HG2.out g9)
                     clear r9 o9 g9))
                go_ret
                refine ⟨HG9.out, ?_⟩
                rw [HPE.out 191 (by rw [HPU.out]; exact dl_same hlt HW1.out HSM.out)]
                exact ⟨⟨none, 0, 0, rfl⟩, s2, HE2.out, by rw [HD2.out, hdry], HR9.out, HO9.out⟩
              · have e1 : ((1 : Int) == last) = false := by simp [hsame]
                have HSM := hide hsame
                clear hsame
                cases hw2 : wholeR 4 1 ((n : Int) - (pos : Int)) r1x with
                | error x =>
                  have HW2 := hide hw2
                  have hx := (wholeR_er hw2).ne
                  clear hw2
                  go_wp2_with (first
                    | (go_at_call 46; have zz := T1; clear T1 zz; refine (rnum_any B q 1 0 1 t bs _ HRW.out HOK.out hte (by omega) (by omega)).mono ?_; rintro e wa ⟨g1, hm⟩; rw [HW1.out] at hm; obtain ⟨rfl, r1, o1, hr1⟩ := hm
                       clear c2 c4'
                       obtain ⟨s1, hs1⟩ : ∃ s1 : Rw, ({ t with pos := t.pos + 1 } : Rw) = s1 := ⟨_, rfl⟩
                       rw [hs1] at r1 o1
                       have he1 : s1.e = 0 := (by rw [← hs1]; exact hte)
                       have hd1 : s1.dry = true := (by rw [← hs1]; exact HTD.out)
                       have hp1 : r1x = bs.drop s1.pos := (by rw [← hs1]; exact hr1)
                       obtain ⟨_, _, c2, _, c4'⟩ := rw_cell r1
                       rw [he1] at c2
                       rw [hd1] at c4'
                       have HR1 := hide r1
                       have HO1 := hide o1
                       have HE1 := hide he1
                       have HD1 := hide hd1
                       have HP1 := hide hp1
                       have HG1 := hide (grownBy_trans HG.out g1)
                       have HDT1 := hide (RW.dt HRW.out HDT.out g1)
                       clear r1 o1 he1 hd1 g1 hp1 hr1 hs1; have T2 : Hid True := trivial)
                    | (go_at_call 46; have zz := T2; clear T2 zz; refine (rnum_any B q 4 1 ((n : Int) - (pos : Int)) s1 bs _ HR1.out HO1.out HE1.out (by omega) (by omega)).mono ?_; rintro e wb ⟨g2, hm⟩; rw [← HP1.out, HW2.out] at hm; obtain ⟨rfl, s2, he2, _, hd2, r2, o2⟩ := hm
                       clear c2 c4'
                       obtain ⟨_, _, c2, _, _⟩ := rw_cell r2
                       rw [he2] at c2
                       have e0 : (x != 0) = true := by simp [hx]
                       have HR9 := hide r2
                       have HO9 := hide o2
                       have HE2 := hide he2
                       have HD2 := hide (show s2.dry = true from (by rw [hd2]; exact HD1.out))
                       have HG9 := hide (grownBy_trans HG1.out g2)
                       clear r2 o2 he2 hd2 g2))
                  go_ret
                  refine ⟨HG9.out, ?_⟩
                  rw [HPE.out x (by rw [HPU.out]; exact dl_e2 hlt HW1.out HSM.out HW2.out)]
                  exact ⟨⟨none, 0, 0, rfl⟩, s2, HE2.out, by rw [HD2.out, hdry], HR9.out, HO9.out⟩
                | ok pr =>
                  obtain ⟨ki, r2x⟩ := pr
                  have hk2 := (wholeR_ok hw2).2
                  obtain ⟨kk, rfl⟩ := Int.eq_ofNat_of_zero_le (show 0 ≤ ki by omega)
                  have HW2 := hide hw2
                  have hkk1 : 1 ≤ kk := by omega
                  have hkk2 : pos + kk ≤ n := by omega
                  have hkw : IntKind.i64.wrap (kk : Int) = (kk : Int) := by rw [IntKind.wrap_i64]; omega
                  have hkm := make_bytes kk (by omega)
                  clear hw2 hk2
                  have hpw : IntKind.i64.wrap ((pos : Int) + (kk : Int)) = (pos : Int) + (kk : Int) := by rw [IntKind.wrap_i64]; omega
                  obtain ⟨b1, hb1⟩ : ∃ b1 : Bool, (last == 0) = b1 := ⟨_, rfl⟩
                  obtain ⟨b2, hb2⟩ : ∃ b2 : Bool, decide ((pos : Int) + (kk : Int) < (n : Int)) = b2 := ⟨_, rfl⟩
                  have hb2' : decide (pos + kk < n) = b2 := by rw [← hb2]; exact decide_eq_decide.2 (by omega)
                  have HB1 := hide hb1
                  have HB2 := hide hb2'
                  clear hb2'
                  cases htk : takeR kk r2x with
                  | error x =>
                    have HTK := hide htk
                    have HTE := hide (takeR_err htk)
                    clear htk
                    go_wp2_with (first
                      | (go_at_call 46; have zz := T1; clear T1 zz; refine (rnum_any B q 1 0 1 t bs _ HRW.out HOK.out hte (by omega) (by omega)).mono ?_; rintro e wa ⟨g1, hm⟩; rw [HW1.out] at hm; obtain ⟨rfl, r1, o1, hr1⟩ := hm
                         clear c2 c4'
                         obtain ⟨s1, hs1⟩ : ∃ s1 : Rw, ({ t with pos := t.pos + 1 } : Rw) = s1 := ⟨_, rfl⟩
                         rw [hs1] at r1 o1
                         have he1 : s1.e = 0 := (by rw [← hs1]; exact hte)
                         have hd1 : s1.dry = true := (by rw [← hs1]; exact HTD.out)
                         have hp1 : r1x = bs.drop s1.pos := (by rw [← hs1]; exact hr1)
                         obtain ⟨_, _, c2, _, c4'⟩ := rw_cell r1
                         rw [he1] at c2
                         rw [hd1] at c4'
                         have HR1 := hide r1
                         have HO1 := hide o1
                         have HE1 := hide he1
                         have HD1 := hide hd1
                         have HP1 := hide hp1
                         have HG1 := hide (grownBy_trans HG.out g1)
                         have HDT1 := hide (RW.dt HRW.out HDT.out g1)
                         clear r1 o1 he1 hd1 g1 hp1 hr1 hs1; have T2 : Hid True := trivial)
                      | (go_at_call 46; have zz := T2; clear T2 zz; refine (rnum_any B q 4 1 ((n : Int) - (pos : Int)) s1 bs _ HR1.out HO1.out HE1.out (by omega) (by omega)).mono ?_; rintro e wb ⟨g2, hm⟩; rw [← HP1.out, HW2.out] at hm; obtain ⟨rfl, r2, o2, hr2⟩ := hm
                         clear c2 c4'
                         have r3 := r2.below (below_alloc wb (.cells (madeCells #[.int .u8 0] 0) 5))
                         have o3 := o2.below (below_alloc wb (.cells (madeCells #[.int .u8 0] 0) 5))
                         obtain ⟨s2, hs2⟩ : ∃ s2 : Rw, ({ s1 with pos := s1.pos + 4 } : Rw) = s2 := ⟨_, rfl⟩
                         rw [hs2] at r2 o2 r3 o3
                         have he2 : s2.e = 0 := (by rw [← hs2]; exact HE1.out)
                         have hd2 : s2.dry = true := (by rw [← hs2]; exact HD1.out)
                         have hp2 : r2x = bs.drop s2.pos := (by rw [← hs2]; exact hr2)
                         obtain ⟨_, _, c2, _, c4'⟩ := rw_cell r2
                         rw [he2] at c2
                         rw [hd2] at c4'
                         obtain ⟨_, _, c2a, _, c4a⟩ := rw_cell r3
                         rw [he2] at c2a
                         rw [hd2] at c4a
                         have HR2 := hide r3
                         have HO2 := hide o3
                         have HE2 := hide he2
                         have HD2 := hide hd2
                         have HP2 := hide hp2
                         have HG2 := hide (grownBy_trans (grownBy_trans HG1.out g2) (World.grownBy_alloc wb (.cells (madeCells #[.int .u8 0] 0) 5) (some q)))
                         have HDT2 := hide (DtOn.below (RW.dt HR1.out HDT1.out g2) (below_alloc wb (.cells (madeCells #[.int .u8 0] 0) 5)))
                         have HZ2 : Hid (w.heap.size ≤ (wb.alloc (.cells (madeCells #[.int .u8 0] 0) 5)).heap.size) := HG2.out.size
                         skip
                         clear r2 o2 r3 o3 he2 hd2 g2 hp2 hr2 hs2)
                      | (go_at_call 47; refine (rtake_any B q kk s2 bs _ HR2.out HO2.out HE2.out (by omega)).mono ?_; rintro e wc ⟨g3, hm⟩; rw [← HP2.out, HTK.out] at hm; obtain ⟨rfl, rfl, r3, o3⟩ := hm
                         clear c2 c4' c2a c4a
                         obtain ⟨s3, hs3⟩ : ∃ s3 : Rw, ({ s2 with e := 190 } : Rw) = s3 := ⟨_, rfl⟩
                         rw [hs3] at r3 o3
                         have he3 : s3.e = 190 := (by have h9 := congrArg Rw.e hs3; exact h9.symm)
                         have hd3 : s3.dry = true := (by have h9 := congrArg Rw.dry hs3; exact h9.symm.trans HD2.out)
                         obtain ⟨_, _, c2, _, c4'⟩ := rw_cell r3
                         rw [he3] at c2
                         rw [hd3] at c4'
                         have HR3 := hide r3
                         have HO3 := hide o3
                         have HE3 := hide he3
                         have HD3 := hide hd3
                         have HG3 := hide (grownBy_trans HG2.out g3)
                         have HDT3 := hide (show DtOn _ _ _ ([]) from RW.dt HR2.out HDT2.out g3)
                         have HZ3 : Hid (w.heap.size ≤ wc.heap.size) := HG3.out.size
                         clear r3 o3 he3 hd3 g3 hs3))
                    go_roundg f
                    case measure => omega
                    case rel =>
                      refine (show Hid _ from ⟨pos + kk, 1, s3, ⟨a4, l4, c4, rfl⟩, rfl, by go_num, HG3.out, HD3.out, HR3.out, HO3.out, hkk2, ?_⟩)
                      exact Or.inr ⟨by rw [HE3.out]; decide, by rw [HPU.out, HE3.out]; exact dl_short hlt HW1.out HSM.out HW2.out (by rw [Int.toNat_natCast]; exact HTE.out)⟩
                  | ok pr =>
                    obtain ⟨fb, r3x⟩ := pr
                    have HTK := hide htk
                    obtain ⟨htl1, htl2, htl3⟩ := takeR_fine htk
                    have HT1 := hide htl1
                    have HT2 := hide htl2
                    have HT3 := hide htl3
                    clear htk htl1 htl2 htl3
                    cases hfl : filledB fb b1 b2 with
                    | false =>
                      have HF := hide hfl
                      clear hfl
                      go_wp2_with (first
                        | (go_at_call 46; have zz := T1; clear T1 zz; refine (rnum_any B q 1 0 1 t bs _ HRW.out HOK.out hte (by omega) (by omega)).mono ?_; rintro e wa ⟨g1, hm⟩; rw [HW1.out] at hm; obtain ⟨rfl, r1, o1, hr1⟩ := hm
                           clear c2 c4'
                           obtain ⟨s1, hs1⟩ : ∃ s1 : Rw, ({ t with pos := t.pos + 1 } : Rw) = s1 := ⟨_, rfl⟩
                           rw [hs1] at r1 o1
                           have he1 : s1.e = 0 := (by rw [← hs1]; exact hte)
                           have hd1 : s1.dry = true := (by rw [← hs1]; exact HTD.out)
                           have hp1 : r1x = bs.drop s1.pos := (by rw [← hs1]; exact hr1)
                           obtain ⟨_, _, c2, _, c4'⟩ := rw_cell r1
                           rw [he1] at c2
                           rw [hd1] at c4'
                           have HR1 := hide r1
                           have HO1 := hide o1
                           have HE1 := hide he1
                           have HD1 := hide hd1
                           have HP1 := hide hp1
                           have HG1 := hide (grownBy_trans HG.out g1)
                           have HDT1 := hide (RW.dt HRW.out HDT.out g1)
                           clear r1 o1 he1 hd1 g1 hp1 hr1 hs1; have T2 : Hid True := trivial)
                        | (go_at_call 46; have zz := T2; clear T2 zz; refine (rnum_any B q 4 1 ((n : Int) - (pos : Int)) s1 bs _ HR1.out HO1.out HE1.out (by omega) (by omega)).mono ?_; rintro e wb ⟨g2, hm⟩; rw [← HP1.out, HW2.out] at hm; obtain ⟨rfl, r2, o2, hr2⟩ := hm
                           clear c2 c4'
                           have r3 := r2.below (below_alloc wb (.cells (madeCells #[.int .u8 0] 0) 5))
                           have o3 := o2.below (below_alloc wb (.cells (madeCells #[.int .u8 0] 0) 5))
                           obtain ⟨s2, hs2⟩ : ∃ s2 : Rw, ({ s1 with pos := s1.pos + 4 } : Rw) = s2 := ⟨_, rfl⟩
                           rw [hs2] at r2 o2 r3 o3
                           have he2 : s2.e = 0 := (by rw [← hs2]; exact HE1.out)
                           have hd2 : s2.dry = true := (by rw [← hs2]; exact HD1.out)
                           have hp2 : r2x = bs.drop s2.pos := (by rw [← hs2]; exact hr2)
                           obtain ⟨_, _, c2, _, c4'⟩ := rw_cell r2
                           rw [he2] at c2
                           rw [hd2] at c4'
                           obtain ⟨_, _, c2a, _, c4a⟩ := rw_cell r3
                           rw [he2] at c2a
                           rw [hd2] at c4a
                           have HR2 := hide r3
                           have HO2 := hide o3
                           have HE2 := hide he2
                           have HD2 := hide hd2
                           have HP2 := hide hp2
                           have HG2 := hide (grownBy_trans (grownBy_trans HG1.out g2) (World.grownBy_alloc wb (.cells (madeCells #[.int .u8 0] 0) 5) (some q)))
                           have HDT2 := hide (DtOn.below (RW.dt HR1.out HDT1.out g2) (below_alloc wb (.cells (madeCells #[.int .u8 0] 0) 5)))
                           have HZ2 : Hid (w.heap.size ≤ (wb.alloc (.cells (madeCells #[.int .u8 0] 0) 5)).heap.size) := HG2.out.size
                           skip
                           clear r2 o2 r3 o3 he2 hd2 g2 hp2 hr2 hs2)
                        | (go_at_call 47; refine (rtake_any B q kk s2 bs _ HR2.out HO2.out HE2.out (by omega)).mono ?_; rintro e wc ⟨g3, hm⟩; rw [← HP2.out, HTK.out] at hm; obtain ⟨⟨o9, c9, rfl, rd9⟩, r3, o3, hr3⟩ := hm
                           clear c2 c4' c2a c4a
                           obtain ⟨s3, hs3⟩ : ∃ s3 : Rw, ({ s2 with pos := s2.pos + kk } : Rw) = s3 := ⟨_, rfl⟩
                           rw [hs3] at r3 o3
                           have he3 : s3.e = 0 := (by have h9 := congrArg Rw.e hs3; exact h9.symm.trans HE2.out)
                           have hd3 : s3.dry = true := (by have h9 := congrArg Rw.dry hs3; exact h9.symm.trans HD2.out)
                           have hp3 : r3x = bs.drop s3.pos := (by have h9 := congrArg Rw.pos hs3; rw [← h9]; exact hr3)
                           obtain ⟨_, _, c2, _, c4'⟩ := rw_cell r3
                           rw [he3] at c2
                           rw [hd3] at c4'
                           have HR3 := hide r3
                           have HO3 := hide o3
                           have HE3 := hide he3
                           have HD3 := hide hd3
                           have HP3 := hide hp3
                           have HRD := hide rd9
                           have HG3 := hide (grownBy_trans HG2.out g3)
                           have HDT3 := hide (show DtOn _ _ _ ([]) from RW.dt HR2.out HDT2.out g3)
                           have HZ3 : Hid (w.heap.size ≤ wc.heap.size) := HG3.out.size
                           clear r3 o3 he3 hd3 g3 hs3 hp3 hr3 rd9)
                        | (go_at_call 77; refine (filled_any _ _ kk _ fb b1 b2 _ (by omega) (by omega) HRD.out).mono ?_; rintro e wy ⟨rfl, rfl⟩; rw [HF.out])
                        | (go_at_call 49; refine (rfail_any B q 191 s3 bs _ HR3.out HO3.out HE3.out).mono ?_; rintro e wd ⟨rfl, r4, o4, g4⟩
                           clear c2 c4'
                           obtain ⟨s4, hs4⟩ : ∃ s4 : Rw, ({ s3 with e := 191 } : Rw) = s4 := ⟨_, rfl⟩
                           rw [hs4] at r4 o4
                           have he4 : s4.e = 191 := (by have h9 := congrArg Rw.e hs4; exact h9.symm)
                           have hd4 : s4.dry = true := (by have h9 := congrArg Rw.dry hs4; exact h9.symm.trans HD3.out)
                           obtain ⟨_, _, c2, _, c4'⟩ := rw_cell r4
                           rw [he4] at c2
                           rw [hd4] at c4'
                           have HR4 := hide r4
                           have HO4 := hide o4
                           have HE4 := hide he4
                           have HD4 := hide hd4
                           have HG4 := hide (grownBy_trans HG3.out g4)
                           have HDT4 := hide (show DtOn _ _ _ ([]) from RW.dt HR3.out HDT3.out g4)
                           have HRD4 := hide (reads_past HR3.out HO2.out.lt HO2.out.bq HRD.out g4)
                           have HZ4 : Hid (w.heap.size ≤ wd.heap.size) := HG4.out.size
                           clear r4 o4 he4 hd4 g4 hs4))
                      go_roundg f
                      case measure => omega
                      case rel =>
                        refine (show Hid _ from ⟨pos + kk, 1, s4, ⟨a4, l4, c4, rfl⟩, rfl, by go_num, HG4.out, HD4.out, HR4.out, HO4.out, hkk2, ?_⟩)
                        exact Or.inr ⟨by rw [HE4.out]; decide, by rw [HPU.out, HE4.out]; exact dl_bad hlt HW1.out HSM.out HW2.out (by rw [Int.toNat_natCast]; exact HT1.out) (by rw [Int.toNat_natCast, ← HT2.out, HB1.out, HB2.out]; exact HF.out)⟩
                    | true =>
                      have HF := hide hfl
                      clear hfl
                      go_wp2_with (first
                        | (go_at_call 46; have zz := T1; clear T1 zz; refine (rnum_any B q 1 0 1 t bs _ HRW.out HOK.out hte (by omega) (by omega)).mono ?_; rintro e wa ⟨g1, hm⟩; rw [HW1.out] at hm; obtain ⟨rfl, r1, o1, hr1⟩ := hm
                           clear c2 c4'
                           obtain ⟨s1, hs1⟩ : ∃ s1 : Rw, ({ t with pos := t.pos + 1 } : Rw) = s1 := ⟨_, rfl⟩
                           rw [hs1] at r1 o1
                           have he1 : s1.e = 0 := (by rw [← hs1]; exact hte)
                           have hd1 : s1.dry = true := (by rw [← hs1]; exact HTD.out)
                           have hp1 : r1x = bs.drop s1.pos := (by rw [← hs1]; exact hr1)
                           obtain ⟨_, _, c2, _, c4'⟩ := rw_cell r1
                           rw [he1] at c2
                           rw [hd1] at c4'
                           have HR1 := hide r1
                           have HO1 := hide o1
                           have HE1 := hide he1
                           have HD1 := hide hd1
                           have HP1 := hide hp1
                           have HG1 := hide (grownBy_trans HG.out g1)
                           have HDT1 := hide (RW.dt HRW.out HDT.out g1)
                           clear r1 o1 he1 hd1 g1 hp1 hr1 hs1; have T2 : Hid True := trivial)
                        | (go_at_call 46; have zz := T2; clear T2 zz; refine (rnum_any B q 4 1 ((n : Int) - (pos : Int)) s1 bs _ HR1.out HO1.out HE1.out (by omega) (by omega)).mono ?_; rintro e wb ⟨g2, hm⟩; rw [← HP1.out, HW2.out] at hm; obtain ⟨rfl, r2, o2, hr2⟩ := hm
                           clear c2 c4'
                           have r3 := r2.below (below_alloc wb (.cells (madeCells #[.int .u8 0] 0) 5))
                           have o3 := o2.below (below_alloc wb (.cells (madeCells #[.int .u8 0] 0) 5))
                           obtain ⟨s2, hs2⟩ : ∃ s2 : Rw, ({ s1 with pos := s1.pos + 4 } : Rw) = s2 := ⟨_, rfl⟩
                           rw [hs2] at r2 o2 r3 o3
                           have he2 : s2.e = 0 := (by rw [← hs2]; exact HE1.out)
                           have hd2 : s2.dry = true := (by rw [← hs2]; exact HD1.out)
                           have hp2 : r2x = bs.drop s2.pos := (by rw [← hs2]; exact hr2)
                           obtain ⟨_, _, c2, _, c4'⟩ := rw_cell r2
                           rw [he2] at c2
                           rw [hd2] at c4'
                           obtain ⟨_, _, c2a, _, c4a⟩ := rw_cell r3
                           rw [he2] at c2a
                           rw [hd2] at c4a
                           have HR2 := hide r3
                           have HO2 := hide o3
                           have HE2 := hide he2
                           have HD2 := hide hd2
                           have HP2 := hide hp2
                           have HG2 := hide (grownBy_trans (grownBy_trans HG1.out g2) (World.grownBy_alloc wb (.cells (madeCells #[.int .u8 0] 0) 5) (some q)))
                           have HDT2 := hide (DtOn.below (RW.dt HR1.out HDT1.out g2) (below_alloc wb (.cells (madeCells #[.int .u8 0] 0) 5)))
                           have HZ2 : Hid (w.heap.size ≤ (wb.alloc (.cells (madeCells #[.int .u8 0] 0) 5)).heap.size) := HG2.out.size
                           skip
                           clear r2 o2 r3 o3 he2 hd2 g2 hp2 hr2 hs2)
                        | (go_at_call 47; refine (rtake_any B q kk s2 bs _ HR2.out HO2.out HE2.out (by omega)).mono ?_; rintro e wc ⟨g3, hm⟩; rw [← HP2.out, HTK.out] at hm; obtain ⟨⟨o9, c9, rfl, rd9⟩, r3, o3, hr3⟩ := hm
                           clear c2 c4' c2a c4a
                           obtain ⟨s3, hs3⟩ : ∃ s3 : Rw, ({ s2 with pos := s2.pos + kk } : Rw) = s3 := ⟨_, rfl⟩
                           rw [hs3] at r3 o3
                           have he3 : s3.e = 0 := (by have h9 := congrArg Rw.e hs3; exact h9.symm.trans HE2.out)
                           have hd3 : s3.dry = true := (by have h9 := congrArg Rw.dry hs3; exact h9.symm.trans HD2.out)
                           have hp3 : r3x = bs.drop s3.pos := (by have h9 := congrArg Rw.pos hs3; rw [← h9]; exact hr3)
                           obtain ⟨_, _, c2, _, c4'⟩ := rw_cell r3
                           rw [he3] at c2
                           rw [hd3] at c4'
                           have HR3 := hide r3
                           have HO3 := hide o3
                           have HE3 := hide he3
                           have HD3 := hide hd3
                           have HP3 := hide hp3
                           have HRD := hide rd9
                           have HG3 := hide (grownBy_trans HG2.out g3)
                           have HDT3 := hide (show DtOn _ _ _ ([]) from RW.dt HR2.out HDT2.out g3)
                           have HZ3 : Hid (w.heap.size ≤ wc.heap.size) := HG3.out.size
                           clear r3 o3 he3 hd3 g3 hs3 hp3 hr3 rd9)
                        | (go_at_call 77; refine (filled_any _ _ kk _ fb b1 b2 _ (by omega) (by omega) HRD.out).mono ?_; rintro e wy ⟨rfl, rfl⟩; rw [HF.out]))
                      go_roundg f
                      case measure => omega
                      case rel =>
                        refine (show Hid _ from ⟨pos + kk, 1, s3, ⟨a4, l4, c4, rfl⟩, rfl, by go_num, HG3.out, HD3.out, HR3.out, HO3.out, hkk2, ?_⟩)
                        have hfl9 : fb.length = kk := HRD.out.1
                        refine Or.inl ⟨HE3.out, by omega, acc ++ [⟨pos, fb⟩], ?_, ?_, ?_⟩
                        · exact HDT3.out
                        · intro x hx
                          rcases List.mem_append.1 hx with h9 | h9
                          · have := HAC.out x h9; omega
                          · obtain rfl := List.mem_singleton.1 h9
                            simp only [hfl9]; exact Nat.le_refl _
                        · rw [HPU.out, dl_fill hlt HW1.out HSM.out HW2.out (by rw [Int.toNat_natCast]; exact HT1.out) (by rw [Int.toNat_natCast, ← HT2.out, HB1.out, HB2.out]; exact HF.out), Int.toNat_natCast, ← HT2.out, ← HT3.out, HP3.out]
        · have d1 : decide ((pos : Int) < (n : Int)) = false := decide_eq_false (by omega)
          obtain rfl : pos = n := by omega
          go_wp2
          go_ret
          refine ⟨HG.out, ?_⟩
          rw [HPD.out acc (bs.drop t.pos) (by rw [HPU.out]; exact dl_end (by omega))]
          refine ⟨_, rfl, ?_, t, hte, by rw [HTD.out, hdry], HRW.out, HOK.out, rfl⟩
          rw [hdry]; exact HDT.out
      · have HPU := hide hpure
        have e2 : (t.e == 0) = false := by simp [hte]
        clear hpure
        by_cases hlt : pos < n
        · have i1 : (pos : Int) < (n : Int) := by omega
          go_wp2
          go_ret
          refine ⟨HG.out, ?_⟩
          rw [HPE.out _ HPU.out]
          exact ⟨⟨_, _, _, rfl⟩, t, rfl, by rw [HTD.out, hdry], HRW.out, HOK.out⟩
        · have d1 : decide ((pos : Int) < (n : Int)) = false := decide_eq_false (by omega)
          go_wp2
          go_ret
          refine ⟨HG.out, ?_⟩
          rw [HPE.out _ HPU.out]
          exact ⟨⟨_, _, _, rfl⟩, t, rfl, by rw [HTD.out, hdry], HRW.out, HOK.out⟩
end Go.Proofs.YtdiifegljonojaaGreatDoor
