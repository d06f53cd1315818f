/-
  SEAT YtdiifegljonojaaGreatDoor: a file's data.
-/
import Derived.Test.YtdiifegljonojaaGreatDoorRd
import Derived.Deep.LoopGhost
import Derived.WalkMore
namespace Go.Proofs.YtdiifegljonojaaGreatDoor
open Go.RowKit
set_option linter.unusedVariables false

/-- A filled stretch and where its bytes lie. -/
structure Se where
  s : Sg
  b : Nat
  o : Nat
  c : Nat
def Se.cells (x : Se) : List Value := [.int .i64 (x.s.pos : Int), .int .i64 (x.s.bs.length : Int), .slice (some ⟨x.b, x.o, none⟩) x.s.bs.length x.c]
def flatS (es : List Se) : List Value := es.flatMap Se.cells
theorem flatS_append (es fs : List Se) : flatS (es ++ fs) = flatS es ++ flatS fs := by simp [flatS]
def Se.Ok (w : World) (B : Nat) (x : Se) : Prop := Reads w (some ⟨x.b, x.o, none⟩) x.s.bs.length x.s.bs ∧ x.b < B ∧ x.s.bs.length ≤ x.c ∧ x.c ≤ 9223372036854775807
theorem Se.Ok.low {w w' : World} {B : Nat} {x : Se} (h : x.Ok w B) (hb : Below B w w') : x.Ok w' B := ⟨h.1.low (fun y hy => by cases hy; exact h.2.1) hb, h.2⟩

/-- A list of filled stretches in memory. -/
def SgOn (w : World) (B0 B : Nat) (v : Value) (l : List Sg) : Prop := ∃ es : List Se, es.map Se.s = l ∧ w.ownsRow B0 94 3 v es.length (flatS es) ∧ ∀ x ∈ es, x.Ok w B

theorem sgOn_nil (w : World) (B0 B : Nat) : SgOn w B0 B (.slice none 0 0) [] := ⟨[], rfl, World.ownsRow_nil _ _ _ _, fun x hx => by cases hx⟩
theorem below_grown {w w' : World} {B : Nat} {r : Option Nat} (hg : w.grownBy w' r) (hB : B ≤ w.heap.size) (hr : ∀ k, r = some k → B ≤ k) : Below B w w' := (Below.refl B w).grown hg hB hr
theorem SgOn.kept {w w' : World} {B0 B : Nat} {v : Value} {l : List Sg} {r : Option Nat} (h : SgOn w B0 B v l) (hg : w.grownBy w' r) (hr : ∀ k, r = some k → v.ownBlock ≠ some k ∧ B ≤ k) (hB : B ≤ w.heap.size) : SgOn w' B0 B v l := by
  obtain ⟨es, h1, h2, h3⟩ := h
  refine ⟨es, h1, ?_, fun x hx => (h3 x hx).low (below_grown hg hB (fun k hk => (hr k hk).2))⟩
  refine h2.kept hg ?_
  cases hv : v.ownBlock with
  | none => exact Or.inl rfl
  | some k => exact Or.inr (fun e => (hr k e.symm).1 hv)
theorem SgOn.lower {w : World} {B0 B1 B : Nat} {v : Value} {l : List Sg} (h : SgOn w B0 B v l) (hb : B1 ≤ B0) : SgOn w B1 B v l := by
  obtain ⟨es, h1, h2, h3⟩ := h
  refine ⟨es, h1, ⟨h2.1, ?_⟩, h3⟩
  rcases h2.2 with h4 | ⟨g, cap, cur, hv, hg, r⟩
  · exact Or.inl h4
  · exact Or.inr ⟨g, cap, cur, hv, Nat.le_trans hb hg, r⟩
theorem SgOn.shape {w : World} {B0 B : Nat} {v : Value} {l : List Sg} (h : SgOn w B0 B v l) : ∃ a c, v = .slice a l.length c := by
  obtain ⟨es, h1, h2, _⟩ := h
  have hl : l.length = es.length := by rw [← h1, List.length_map]
  rcases h2.2 with ⟨hv, h0⟩ | ⟨g, cap, cur, hv, _⟩
  · exact ⟨none, 0, by rw [hv, hl, h0]⟩
  · exact ⟨_, _, by rw [hv, hl]⟩
theorem SgOn.lt {w : World} {B0 B : Nat} {v : Value} {l : List Sg} (h : SgOn w B0 B v l) {k : Nat} (hk : v.ownBlock = some k) : B0 ≤ k ∧ k < w.heap.size := by
  obtain ⟨es, _, h2, _⟩ := h
  exact h2.lt k hk

theorem info94 : (Tryz.prog.info? 94).map (fun i => (i.zero, i.size, i.bytes)) = some (some (.agg #[.int .i64 0, .int .i64 0, .slice none 0 0]), 3, 40) := by kernel_rfl

theorem blk3_cells {w : World} {q : Nat} {a b c : Value} {t : TypeId} (h : w.heap[q]? = some (.cells #[a, b, c] t (0, 0))) :
    w.cell? ⟨q, 0, none⟩ = some a ∧ w.cell? ⟨q, 1, none⟩ = some b ∧ w.cell? ⟨q, 2, none⟩ = some c ∧ w.frozen? ⟨q, 0, none⟩ = false ∧ w.frozen? ⟨q, 1, none⟩ = false ∧ w.frozen? ⟨q, 2, none⟩ = false := by
  refine ⟨?_, ?_, ?_, ?_, ?_, ?_⟩ <;> simp [World.cell?, World.frozen?, h]
theorem blk_set {w : World} {q i : Nat} {cs : Array Value} {t : TypeId} (h : w.heap[q]? = some (.cells cs t (0, 0))) (v : Value) : (w.setCell ⟨q, i, none⟩ v).heap[q]? = some (.cells (cs.setIfInBounds i v) t (0, 0)) := by
  obtain ⟨hlt, hk⟩ := Array.getElem?_eq_some_iff.1 h
  show (w.heap.modify q _)[q]? = _
  rw [Array.getElem?_eq_getElem (by rw [Array.size_modify]; exact hlt), Array.getElem_modify_self, hk]
  rfl
theorem grown_past {w u u' : World} {q : Nat} {r : Option Nat} (h : w.grownBy u (some q)) (k : u.grownBy u' r) (hr : ∀ i, r = some i → w.heap.size ≤ i) : w.grownBy u' (some q) :=
  ⟨k.os.trans h.os, k.tape.trans h.tape, k.output.trans h.output, Nat.le_trans h.size k.size, fun i hi hne => (k.block i (Nat.lt_of_lt_of_le hi h.size) (fun e => by have := hr i e.symm; omega)).trans (h.block i hi hne)⟩
theorem leastOf_0 (w : World) : Calls Tryz.prog 106 #[.int .i64 0] w fun e w' => e = .returned (.int .i64 16) ∧ w' = w := leastOf_any 0 w
theorem leastOf_1 (w : World) : Calls Tryz.prog 106 #[.int .i64 1] w fun e w' => e = .returned (.int .i64 1) ∧ w' = w := leastOf_any 1 w
theorem lit3_news (u : World) (x y z : Value) : ∀ j v, [x, y, z][j]? = some v → (u.alloc (.cells #[x, y, z] 94)).cell? ((⟨u.heap.size, 0, none⟩ : Addr).add j) = some v := by
  intro j v h
  match j, h with
  | 0, h => simp at h; subst h; simp [Addr.add]
  | 1, h => simp at h; subst h; rw [plain_add]; simp
  | 2, h => simp at h; subst h; rw [plain_add]; simp

section
variable {size f pos : Nat} {last kd k : Int} {acc : List Sg} {bs r1 r2 : List Int} {e : Int}
theorem dl_end (h : ¬ pos < size) : dataL size f pos last acc bs = .ok (acc, bs) := by
  cases f with
  | zero => rfl
  | succ f => rw [dataL, if_neg h]
theorem dl_e1 (h : pos < size) (h1 : wholeR 1 0 1 bs = .error e) : dataL size (f + 1) pos last acc bs = .error e := by
  rw [dataL, if_pos h, h1]
theorem dl_same (h : pos < size) (h1 : wholeR 1 0 1 bs = .ok (kd, r1)) (h2 : kd = last) : dataL size (f + 1) pos last acc bs = .error 191 := by
  rw [dataL, if_pos h, h1]; simp only [if_pos h2]
theorem dl_e2 (h : pos < size) (h1 : wholeR 1 0 1 bs = .ok (kd, r1)) (h2 : ¬ kd = last) (h3 : wholeR 4 (if kd = 0 then 16 else 1) ((size : Int) - (pos : Int)) r1 = .error e) : dataL size (f + 1) pos last acc bs = .error e := by
  rw [dataL, if_pos h, h1]; simp only [if_neg h2, h3]
theorem dl_short (h : pos < size) (h1 : wholeR 1 0 1 bs = .ok (1, r1)) (h2 : ¬ 1 = last) (h3 : wholeR 4 1 ((size : Int) - (pos : Int)) r1 = .ok (k, r2)) (h4 : ¬ k.toNat ≤ r2.length) : dataL size (f + 1) pos last acc bs = .error 190 := by
  rw [dataL, if_pos h, h1]; simp only [if_neg h2, if_neg (show ¬ (1 : Int) = 0 by decide), h3, takeR, if_neg h4, if_true]
theorem dl_bad (h : pos < size) (h1 : wholeR 1 0 1 bs = .ok (1, r1)) (h2 : ¬ 1 = last) (h3 : wholeR 4 1 ((size : Int) - (pos : Int)) r1 = .ok (k, r2)) (h4 : k.toNat ≤ r2.length) (h5 : filledB (r2.take k.toNat) (last == 0) (decide (pos + k.toNat < size)) = false) : dataL size (f + 1) pos last acc bs = .error 191 := by
  rw [dataL, if_pos h, h1]; simp only [if_neg h2, if_neg (show ¬ (1 : Int) = 0 by decide), h3, takeR, if_pos h4, if_true, h5]; rfl
theorem dl_fill (h : pos < size) (h1 : wholeR 1 0 1 bs = .ok (1, r1)) (h2 : ¬ 1 = last) (h3 : wholeR 4 1 ((size : Int) - (pos : Int)) r1 = .ok (k, r2)) (h4 : k.toNat ≤ r2.length) (h5 : filledB (r2.take k.toNat) (last == 0) (decide (pos + k.toNat < size)) = true) : dataL size (f + 1) pos last acc bs = dataL size f (pos + k.toNat) 1 (acc ++ [⟨pos, r2.take k.toNat⟩]) (r2.drop k.toNat) := by
  rw [dataL, if_pos h, h1]; simp only [if_neg h2, if_neg (show ¬ (1 : Int) = 0 by decide), h3, takeR, if_pos h4, if_true, h5]
theorem dl_hole (h : pos < size) (h1 : wholeR 1 0 1 bs = .ok (0, r1)) (h2 : ¬ 0 = last) (h3 : wholeR 4 16 ((size : Int) - (pos : Int)) r1 = .ok (k, r2)) : dataL size (f + 1) pos last acc bs = dataL size f (pos + k.toNat) 0 acc r2 := by
  rw [dataL, if_pos h, h1]; simp only [if_neg h2, if_true, h3, if_neg (show ¬ (0 : Int) = 1 by decide)]
end

def DtV (w : World) (B : Nat) (d : Nat × List Sg) (val : Value) (w' : World) : Prop := ∃ v, val = .tuple #[.int .i64 (d.1 : Int), v] ∧ SgOn w' w.heap.size B v d.2 ∧ d.1 ≤ 16777216

/-- The rounds' state. -/
def DtInv (w : World) (B q size : Nat) (r0 : List Int) (g : Nat) (s4 s6 s7 : Value) (wr : World) : Prop :=
  ∃ (pos : Nat) (last : Int) (acc : List Sg) (rest' : List Int), s6 = .int .i64 last ∧ s7 = .int .i64 (pos : Int) ∧ pos ≤ size ∧ size - pos ≤ g ∧ acc.length ≤ pos ∧ rest'.length ≤ 200000000000000 ∧
    SgOn wr w.heap.size B s4 acc ∧ RdAt wr B q rest' ∧ w.grownBy wr (some q) ∧ dataL size size 0 (-1) [] r0 = dataL size g pos last acc rest'

theorem wholeR_len {n : Nat} {lo hi v : Int} {bs r : List Int} (h : wholeR n lo hi bs = .ok (v, r)) (hb : bs.length ≤ 200000000000000) : r.length ≤ 200000000000000 := by
  have := (wholeR_ok h).2.2.2.2
  rw [this, List.length_drop]
  omega

set_option maxHeartbeats 4000000 in
set_option maxRecDepth 100000 in
theorem data_any (B q : Nat) (rest : List Int) (w : World) (hR : RdAt w B q rest) (hl : rest.length ≤ 200000000000000) :
    Calls Tryz.prog 91 #[.pointer (some ⟨q, 0, none⟩)] w (Left w B q (dataR rest) (DtV w B)) := by
  obtain ⟨i0, hi0, hz0, hz1, hz2⟩ := info_parts info94
  have HI : Hid (Tryz.prog.info? 94 = some i0 ∧ i0.zero = some (.agg #[.int .i64 0, .int .i64 0, .slice none 0 0]) ∧ i0.size = 3 ∧ i0.bytes = 40) := ⟨hi0, hz0, hz1, hz2⟩
  have hBq := hR.lt
  have HR0 := hide hR
  clear hR hi0 hz0 hz1 hz2
  cases hw : wholeR 4 0 16777216 rest with
  | error x =>
    have HW := hide hw
    have HP : Hid (dataR rest = .error x) := by unfold Hid dataR; rw [hw]
    clear hw
    go_enter Tryz.func91, Tryz.ntmps91
    go_wp2_with (first
      | (go_at_call 88; refine (whole_any B q 4 0 16777216 rest _ HR0.out hl (by omega) (by omega)).mono ?_; intro e u1 lf; rw [HW.out] at lf; obtain ⟨rfl, g1⟩ := lf; have HG1 := hide g1; clear g1))
    exact ⟨rfl, left_err HP.out HG1.out⟩
  | ok p =>
    obtain ⟨ni, r0⟩ := p
    obtain ⟨p1, p2, p3, p4, p5⟩ := wholeR_ok hw
    obtain ⟨size, rfl⟩ := Int.eq_ofNat_of_zero_le p2
    have hsz : size ≤ 16777216 := by omega
    have HW := hide hw
    have hr0 := wholeR_len hw hl
    have HPD : Hid (∀ l r, dataL size size 0 (-1) [] r0 = .ok (l, r) → dataR rest = .ok ((size, l), r)) := by intro l r h9; unfold dataR; rw [hw]; simp only [Int.toNat_natCast, h9]
    have HPE : Hid (∀ x, dataL size size 0 (-1) [] r0 = .error x → dataR rest = .error x) := by intro x h9; unfold dataR; rw [hw]; simp only [Int.toNat_natCast, h9]
    clear hw p1 p2 p3 p4 p5
    go_enter Tryz.func91, Tryz.ntmps91
    go_wp2_with (first
      | (go_at_call 88; refine (whole_any B q 4 0 16777216 rest _ HR0.out hl (by omega) (by omega)).mono ?_; intro e u1 lf; rw [HW.out] at lf; obtain ⟨val, rfl, rfl, rd1, g1⟩ := lf; have HG1 := hide g1; have HR1 := hide rd1; clear g1 rd1))
    go_loopg [4, 6, 7] size (fun g s4 s6 s7 wr => Hid (DtInv w B q size r0 g s4 s6 s7 wr))
    case atStart => exact (show Hid _ from ⟨0, -1, [], r0, rfl, rfl, Nat.zero_le _, by omega, by simp, hr0, sgOn_nil _ _ _, HR1.out, HG1.out, rfl⟩)
    case round =>
      obtain ⟨pos, last, acc, rest', rfl, rfl, hp, hpg, hal, hrl, sg, rd, gr, hpure⟩ := hrel.out
      clear hrel HR1 HG1 HW hr0 HR0
      have HS := hide sg
      have HR := hide rd
      have HG := hide gr
      have HP := hide hpure
      have hBw : B ≤ wr.heap.size := by have := gr.size; omega
      have hqw : q < wr.heap.size := by have := gr.size; omega
      clear sg rd gr hpure
      by_cases hlt : pos < size
      · have i1 : (pos : Int) < (size : Int) := by omega
        obtain ⟨f, rfl⟩ : ∃ f, gk = f + 1 := ⟨gk - 1, by omega⟩
        cases hw1 : wholeR 1 0 1 rest' with
        | error x =>
          have HW1 := hide hw1
          clear hw1
          go_wp2_with (first
            | (go_at_call 88; refine (whole_any B q 1 0 1 rest' _ HR.out hrl (by omega) (by omega)).mono ?_; intro e t1 lf; rw [HW1.out] at lf; obtain ⟨rfl, g1⟩ := lf; have HG1 := hide g1; clear g1))
          exact ⟨rfl, left_err (HPE.out x (by rw [HP.out, dl_e1 hlt HW1.out])) (grownBy_trans HG.out HG1.out)⟩
        | ok p =>
          obtain ⟨kd, r1⟩ := p
          have HW1 := hide hw1
          have hr1 := wholeR_len hw1 hrl
          have hkd := (wholeR_ok hw1).2
          have T1 : Hid True := trivial
          clear hw1
          have hkd2 : kd = 0 ∨ kd = 1 := by omega
          clear hkd
          by_cases hsame : kd = last
          · have e1 : (kd != last) = false := by simp [hsame]
            have HSM := hide hsame
            clear hsame
            go_wp2_with (first
              | (go_at_call 88; have zz := T1; clear T1 zz; refine (whole_any B q 1 0 1 rest' _ HR.out hrl (by omega) (by omega)).mono ?_; intro e t1 lf; rw [HW1.out] at lf; obtain ⟨val, rfl, rfl, rd1, g1⟩ := lf; have HG1 := hide g1; have HR1 := hide rd1
                 have HS1 := hide (HS.out.kept g1 (fun k hk => by cases hk; exact ⟨fun e9 => by have := (HS.out.lt e9).1; omega, hBq.1⟩) hBw); have HSZ1 := hide g1.size; clear g1 rd1; have T2 : Hid True := trivial)
              | (go_at_call 73; have zz := T2; clear T2 zz; refine (must_no _).mono ?_; rintro e t2 ⟨rfl, ht2⟩; rw [ht2]))
            exact ⟨rfl, left_err (HPE.out 191 (by rw [HP.out, dl_same hlt HW1.out HSM.out])) (grownBy_trans HG.out HG1.out)⟩
          · have e1 : (kd != last) = true := by simp [hsame]
            have HSM := hide hsame
            clear hsame
            rcases hkd2 with rfl | rfl
            · have HLO : Hid ((if (0 : Int) = 0 then (16 : Int) else 1) = 16) := rfl
              cases hw2 : wholeR 4 16 ((size : Int) - (pos : Int)) r1 with
              | error x =>
                have HW2 := hide hw2
                clear hw2
                go_wp2_with (first
                  | (go_at_call 88; have zz := T1; clear T1 zz; refine (whole_any B q 1 0 1 rest' _ HR.out hrl (by omega) (by omega)).mono ?_; intro e t1 lf; rw [HW1.out] at lf; obtain ⟨val, rfl, rfl, rd1, g1⟩ := lf; have HG1 := hide g1; have HR1 := hide rd1
                     have HS1 := hide (HS.out.kept g1 (fun k hk => by cases hk; exact ⟨fun e9 => by have := (HS.out.lt e9).1; omega, hBq.1⟩) hBw); have HSZ1 := hide g1.size; clear g1 rd1; have T2 : Hid True := trivial)
                  | (go_at_call 73; have zz := T2; clear T2 zz; refine (must_yes _).mono ?_; rintro e t2 ⟨rfl, ht2⟩; rw [ht2]; clear ht2; have T3 : Hid True := trivial)
                  | (go_at_call 106; refine (leastOf_0 _).mono ?_; rintro e t3 ⟨rfl, ht3⟩; rw [ht3])
                  | (go_at_call 88; have zz := T3; clear T3 zz; refine (whole_any B q 4 16 ((size : Int) - (pos : Int)) r1 _ HR1.out hr1 (by omega) (by omega)).mono ?_; intro e t4 lf; rw [HW2.out] at lf; obtain ⟨rfl, g4⟩ := lf; have HG4 := hide g4; clear g4))
                exact ⟨rfl, left_err (HPE.out x (by rw [HP.out, dl_e2 hlt HW1.out HSM.out HW2.out])) (grownBy_trans (grownBy_trans HG.out HG1.out) HG4.out)⟩
              | ok p =>
                obtain ⟨ki, r2⟩ := p
                have hk2 := (wholeR_ok hw2).2
                obtain ⟨kk, rfl⟩ := Int.eq_ofNat_of_zero_le (show 0 ≤ ki by omega)
                have hr2 := wholeR_len hw2 hr1
                have HW2 := hide hw2
                have hkk1 : 16 ≤ kk := by omega
                have hkk2 : pos + kk ≤ size := by omega
                have hkk3 : kk ≤ 16777216 := by omega
                clear hw2 hk2
                go_wp2_with (first
                  | (go_at_call 88; have zz := T1; clear T1 zz; refine (whole_any B q 1 0 1 rest' _ HR.out hrl (by omega) (by omega)).mono ?_; intro e t1 lf; rw [HW1.out] at lf; obtain ⟨val, rfl, rfl, rd1, g1⟩ := lf; have HG1 := hide g1; have HR1 := hide rd1
                     have HS1 := hide (HS.out.kept g1 (fun k hk => by cases hk; exact ⟨fun e9 => by have := (HS.out.lt e9).1; omega, hBq.1⟩) hBw); have HSZ1 := hide g1.size; clear g1 rd1; have T2 : Hid True := trivial)
                  | (go_at_call 73; have zz := T2; clear T2 zz; refine (must_yes _).mono ?_; rintro e t2 ⟨rfl, ht2⟩; rw [ht2]; clear ht2; have T3 : Hid True := trivial)
                  | (go_at_call 106; refine (leastOf_0 _).mono ?_; rintro e t3 ⟨rfl, ht3⟩; rw [ht3])
                  | (go_at_call 88; have zz := T3; clear T3 zz; refine (whole_any B q 4 16 ((size : Int) - (pos : Int)) r1 _ HR1.out hr1 (by omega) (by omega)).mono ?_; intro e t4 lf; rw [HW2.out] at lf; obtain ⟨val, rfl, rfl, rd4, g4⟩ := lf
                     have hbq4 := g4.size
                     have HS4 := hide ((HS1.out.kept g4 (fun k hk => by cases hk; exact ⟨fun e9 => by have := (HS1.out.lt e9).1; omega, hBq.1⟩) (by have := HSZ1.out; omega)).kept (World.grownBy_alloc t4 (.cells #[.int .i64 (pos : Int), .int .i64 (kk : Int), .slice none 0 0] 94) none) (fun k hk => by cases hk) (by have := HSZ1.out; omega))
                     have HR4 := hide (rd4.below (below_alloc t4 (.cells #[.int .i64 (pos : Int), .int .i64 (kk : Int), .slice none 0 0] 94)))
                     have HG4 := hide (grownBy_trans (grownBy_trans (grownBy_trans HG.out HG1.out) g4) (World.grownBy_alloc t4 (.cells #[.int .i64 (pos : Int), .int .i64 (kk : Int), .slice none 0 0] 94) (some q)))
                     have HX4 : Hid ((t4.alloc (.cells #[.int .i64 (pos : Int), .int .i64 (kk : Int), .slice none 0 0] 94)).heap[t4.heap.size]? = some (.cells #[.int .i64 (pos : Int), .int .i64 (kk : Int), .slice none 0 0] 94 (0, 0))) := heap_alloc_new _ _
                     have HZ4 : Hid (wr.heap.size ≤ t4.heap.size) := by have := HSZ1.out; unfold Hid; omega
                     clear rd4 g4 hbq4))
                go_roundg f
                case measure => omega
                case rel =>
                  refine (show Hid _ from ⟨pos + kk, 0, acc, r2, rfl, by go_num, hkk2, by omega, by omega, hr2, HS4.out, HR4.out, HG4.out, ?_⟩)
                  rw [HP.out, dl_hole hlt HW1.out HSM.out HW2.out, Int.toNat_natCast]
            · have HLO : Hid ((if (1 : Int) = 0 then (16 : Int) else 1) = 1) := rfl
              cases hw2 : wholeR 4 1 ((size : Int) - (pos : Int)) r1 with
              | error x =>
                have HW2 := hide hw2
                clear hw2
                go_wp2_with (first
                  | (go_at_call 88; have zz := T1; clear T1 zz; refine (whole_any B q 1 0 1 rest' _ HR.out hrl (by omega) (by omega)).mono ?_; intro e t1 lf; rw [HW1.out] at lf; obtain ⟨val, rfl, rfl, rd1, g1⟩ := lf; have HG1 := hide g1; have HR1 := hide rd1
                     have HS1 := hide (HS.out.kept g1 (fun k hk => by cases hk; exact ⟨fun e9 => by have := (HS.out.lt e9).1; omega, hBq.1⟩) hBw); have HSZ1 := hide g1.size; clear g1 rd1; have T2 : Hid True := trivial)
                  | (go_at_call 73; have zz := T2; clear T2 zz; refine (must_yes _).mono ?_; rintro e t2 ⟨rfl, ht2⟩; rw [ht2]; clear ht2; have T3 : Hid True := trivial)
                  | (go_at_call 106; refine (leastOf_1 _).mono ?_; rintro e t3 ⟨rfl, ht3⟩; rw [ht3])
                  | (go_at_call 88; have zz := T3; clear T3 zz; refine (whole_any B q 4 1 ((size : Int) - (pos : Int)) r1 _ HR1.out hr1 (by omega) (by omega)).mono ?_; intro e t4 lf; rw [HW2.out] at lf; obtain ⟨rfl, g4⟩ := lf; have HG4 := hide g4; clear g4))
                exact ⟨rfl, left_err (HPE.out x (by rw [HP.out, dl_e2 hlt HW1.out HSM.out HW2.out])) (grownBy_trans (grownBy_trans HG.out HG1.out) HG4.out)⟩
              | ok p =>
                obtain ⟨ki, r2⟩ := p
                have hk2 := (wholeR_ok hw2).2
                obtain ⟨kk, rfl⟩ := Int.eq_ofNat_of_zero_le (show 0 ≤ ki by omega)
                have hr2 := wholeR_len hw2 hr1
                have HW2 := hide hw2
                have hkk1 : 1 ≤ kk := by omega
                have hkk2 : pos + kk ≤ size := by omega
                have hkk3 : kk ≤ 16777216 := by omega
                clear hw2 hk2
                by_cases htk : kk ≤ r2.length
                · obtain ⟨bs, hbs⟩ : ∃ bs, r2.take kk = bs := ⟨_, rfl⟩
                  have hbl : bs.length = kk := by rw [← hbs, List.length_take]; omega
                  have HBS := hide hbs
                  have HBL := hide hbl
                  have HOB : Hid (∀ k : Nat, u4.ownBlock = some k → wr.heap.size ≤ k → False) := by intro k e9 e8; have := (HS.out.lt e9).2; omega
                  clear hbs hbl
                  have hd5 : decide ((pos : Int) + (kk : Int) < (size : Int)) = decide (pos + kk < size) := by rw [decide_eq_decide]; omega
                  cases hf : filledB bs (last == 0) (decide (pos + kk < size)) with
                  | false =>
                    have HF : Hid (filledB bs (last == 0) (decide ((pos : Int) + (kk : Int) < (size : Int))) = false) := by unfold Hid; rw [hd5]; exact hf
                    have HF2 := hide hf
                    clear hf hd5
                    go_wp2_with (first
                      | (go_at_call 88; have zz := T1; clear T1 zz; refine (whole_any B q 1 0 1 rest' _ HR.out hrl (by omega) (by omega)).mono ?_; intro e t1 lf; rw [HW1.out] at lf; obtain ⟨val, rfl, rfl, rd1, g1⟩ := lf; have HG1 := hide g1; have HR1 := hide rd1
                         have HS1 := hide (HS.out.kept g1 (fun k hk => by cases hk; exact ⟨fun e9 => by have := (HS.out.lt e9).1; omega, hBq.1⟩) hBw); have HSZ1 := hide g1.size; clear g1 rd1; have T2 : Hid True := trivial)
                      | (go_at_call 73; have zz := T2; clear T2 zz; refine (must_yes _).mono ?_; rintro e t2 ⟨rfl, ht2⟩; rw [ht2]; clear ht2; have T3 : Hid True := trivial)
                      | (go_at_call 106; refine (leastOf_1 _).mono ?_; rintro e t3 ⟨rfl, ht3⟩; rw [ht3])
                      | (go_at_call 88; have zz := T3; clear T3 zz; refine (whole_any B q 4 1 ((size : Int) - (pos : Int)) r1 _ HR1.out hr1 (by omega) (by omega)).mono ?_; intro e t4 lf; rw [HW2.out] at lf; obtain ⟨val, rfl, rfl, rd4, g4⟩ := lf
                         have hbq4 := g4.size
                         have HS4 := hide ((HS1.out.kept g4 (fun k hk => by cases hk; exact ⟨fun e9 => by have := (HS1.out.lt e9).1; omega, hBq.1⟩) (by have := HSZ1.out; omega)).kept (World.grownBy_alloc t4 (.cells #[.int .i64 (pos : Int), .int .i64 (kk : Int), .slice none 0 0] 94) none) (fun k hk => by cases hk) (by have := HSZ1.out; omega))
                         have HR4 := hide (rd4.below (below_alloc t4 (.cells #[.int .i64 (pos : Int), .int .i64 (kk : Int), .slice none 0 0] 94)))
                         have HG4 := hide (grownBy_trans (grownBy_trans (grownBy_trans HG.out HG1.out) g4) (World.grownBy_alloc t4 (.cells #[.int .i64 (pos : Int), .int .i64 (kk : Int), .slice none 0 0] 94) (some q)))
                         have HX4 : Hid ((t4.alloc (.cells #[.int .i64 (pos : Int), .int .i64 (kk : Int), .slice none 0 0] 94)).heap[t4.heap.size]? = some (.cells #[.int .i64 (pos : Int), .int .i64 (kk : Int), .slice none 0 0] 94 (0, 0))) := heap_alloc_new _ _
                         have HZ4 : Hid (wr.heap.size ≤ t4.heap.size) := by have := HSZ1.out; unfold Hid; omega
                         clear rd4 g4 hbq4)
                      | (go_at_call 70
                         refine (row_ok B q kk r2 _ HR4.out hr2 htk).mono ?_; rintro e t5 ⟨b5, o5, c5, rfl, rs5, hc5, hc5b, hb5, rd5, g5⟩
                         rw [HBS.out] at rs5
                         have hz4 := HZ4.out
                         have hz5 : t4.heap.size + 1 ≤ t5.heap.size := by have h9 := g5.size; simp at h9; omega
                         have hx5 := (g5.block _ (Array.getElem?_eq_some_iff.1 HX4.out).1 (fun e => by have e' := Option.some.inj e; omega)).trans HX4.out
                         obtain ⟨z0, z1, z2, z3, z4, z5⟩ := blk3_cells hx5
                         have hx6 : (t5.setCell ⟨t4.heap.size, 2, none⟩ (.slice (some ⟨b5, o5, none⟩) kk c5)).heap[t4.heap.size]? = some (.cells #[.int .i64 (pos : Int), .int .i64 (kk : Int), .slice (some ⟨b5, o5, none⟩) kk c5] 94 (0, 0)) := blk_set hx5 _
                         have HX6 := hide hx6
                         have hlw : Below B t5 (t5.setCell ⟨t4.heap.size, 2, none⟩ (.slice (some ⟨b5, o5, none⟩) kk c5)) := below_grown (set_grown _ _ _ _) (by omega) (fun k hk => by have e8 := Option.some.inj hk; omega)
                         have HRS := hide (rs5.low (fun y hy => by cases hy; exact hb5) hlw)
                         have HR5 := hide (rd5.set (i := t4.heap.size) (j := 2) (by omega) (by omega) (.slice (some ⟨b5, o5, none⟩) kk c5))
                         have HS5 := hide ((HS4.out.kept g5 (fun k hk => by cases hk; exact ⟨fun e9 => by have := (HS4.out.lt e9).1; omega, hBq.1⟩) (by simp; omega)).kept (set_grown t5 t4.heap.size 2 (.slice (some ⟨b5, o5, none⟩) kk c5)) (fun k hk => by have e8 := Option.some.inj hk; subst e8; exact ⟨fun e9 => HOB.out _ e9 hz4, by omega⟩) (by omega))
                         have HG5 := hide (grown_past (grownBy_trans HG4.out g5) (set_grown t5 t4.heap.size 2 (.slice (some ⟨b5, o5, none⟩) kk c5)) (fun i e => by have e8 := Option.some.inj e; have := HG.out.size; omega))
                         have HZ5 : Hid (t4.heap.size < t5.heap.size) := by unfold Hid; omega
                         have HB5 := hide (show b5 < B ∧ kk ≤ c5 ∧ c5 ≤ 9223372036854775807 from ⟨hb5, hc5, hc5b⟩)
                         clear rs5 rd5 g5 hx5 hx6 hlw hz4 hz5 hc5 hc5b hb5; have T4 : Hid True := trivial)
                      | (go_at_call 107; refine (isFilled_any (some ⟨b5, o5, none⟩) kk c5 bs _ _ _ (by omega) (by omega) HRS.out).mono ?_; rintro e t6 ⟨rfl, ht6⟩; rw [ht6, HF.out]; clear ht6)
                      | (go_at_call 73; have zz := T4; clear T4 zz; refine (must_no _).mono ?_; rintro e t7 ⟨rfl, ht7⟩; rw [ht7]))
                    exact ⟨rfl, left_err (HPE.out 191 (by rw [HP.out, dl_bad hlt HW1.out HSM.out HW2.out (by simpa using htk) (by simpa [HBS.out] using HF2.out)])) HG5.out⟩
                  | true =>
                    have HF : Hid (filledB bs (last == 0) (decide ((pos : Int) + (kk : Int) < (size : Int))) = true) := by unfold Hid; rw [hd5]; exact hf
                    have HF2 := hide hf
                    clear hf hd5
                    go_wp2_with (first
                      | (go_at_call 88; have zz := T1; clear T1 zz; refine (whole_any B q 1 0 1 rest' _ HR.out hrl (by omega) (by omega)).mono ?_; intro e t1 lf; rw [HW1.out] at lf; obtain ⟨val, rfl, rfl, rd1, g1⟩ := lf; have HG1 := hide g1; have HR1 := hide rd1
                         have HS1 := hide (HS.out.kept g1 (fun k hk => by cases hk; exact ⟨fun e9 => by have := (HS.out.lt e9).1; omega, hBq.1⟩) hBw); have HSZ1 := hide g1.size; clear g1 rd1; have T2 : Hid True := trivial)
                      | (go_at_call 73; have zz := T2; clear T2 zz; refine (must_yes _).mono ?_; rintro e t2 ⟨rfl, ht2⟩; rw [ht2]; clear ht2; have T3 : Hid True := trivial)
                      | (go_at_call 106; refine (leastOf_1 _).mono ?_; rintro e t3 ⟨rfl, ht3⟩; rw [ht3])
                      | (go_at_call 88; have zz := T3; clear T3 zz; refine (whole_any B q 4 1 ((size : Int) - (pos : Int)) r1 _ HR1.out hr1 (by omega) (by omega)).mono ?_; intro e t4 lf; rw [HW2.out] at lf; obtain ⟨val, rfl, rfl, rd4, g4⟩ := lf
                         have hbq4 := g4.size
                         have HS4 := hide ((HS1.out.kept g4 (fun k hk => by cases hk; exact ⟨fun e9 => by have := (HS1.out.lt e9).1; omega, hBq.1⟩) (by have := HSZ1.out; omega)).kept (World.grownBy_alloc t4 (.cells #[.int .i64 (pos : Int), .int .i64 (kk : Int), .slice none 0 0] 94) none) (fun k hk => by cases hk) (by have := HSZ1.out; omega))
                         have HR4 := hide (rd4.below (below_alloc t4 (.cells #[.int .i64 (pos : Int), .int .i64 (kk : Int), .slice none 0 0] 94)))
                         have HG4 := hide (grownBy_trans (grownBy_trans (grownBy_trans HG.out HG1.out) g4) (World.grownBy_alloc t4 (.cells #[.int .i64 (pos : Int), .int .i64 (kk : Int), .slice none 0 0] 94) (some q)))
                         have HX4 : Hid ((t4.alloc (.cells #[.int .i64 (pos : Int), .int .i64 (kk : Int), .slice none 0 0] 94)).heap[t4.heap.size]? = some (.cells #[.int .i64 (pos : Int), .int .i64 (kk : Int), .slice none 0 0] 94 (0, 0))) := heap_alloc_new _ _
                         have HZ4 : Hid (wr.heap.size ≤ t4.heap.size) := by have := HSZ1.out; unfold Hid; omega
                         clear rd4 g4 hbq4)
                      | (go_at_call 70
                         refine (row_ok B q kk r2 _ HR4.out hr2 htk).mono ?_; rintro e t5 ⟨b5, o5, c5, rfl, rs5, hc5, hc5b, hb5, rd5, g5⟩
                         rw [HBS.out] at rs5
                         have hz4 := HZ4.out
                         have hz5 : t4.heap.size + 1 ≤ t5.heap.size := by have h9 := g5.size; simp at h9; omega
                         have hx5 := (g5.block _ (Array.getElem?_eq_some_iff.1 HX4.out).1 (fun e => by have e' := Option.some.inj e; omega)).trans HX4.out
                         obtain ⟨z0, z1, z2, z3, z4, z5⟩ := blk3_cells hx5
                         have hx6 : (t5.setCell ⟨t4.heap.size, 2, none⟩ (.slice (some ⟨b5, o5, none⟩) kk c5)).heap[t4.heap.size]? = some (.cells #[.int .i64 (pos : Int), .int .i64 (kk : Int), .slice (some ⟨b5, o5, none⟩) kk c5] 94 (0, 0)) := blk_set hx5 _
                         have HX6 := hide hx6
                         have hlw : Below B t5 (t5.setCell ⟨t4.heap.size, 2, none⟩ (.slice (some ⟨b5, o5, none⟩) kk c5)) := below_grown (set_grown _ _ _ _) (by omega) (fun k hk => by have e8 := Option.some.inj hk; omega)
                         have HRS := hide (rs5.low (fun y hy => by cases hy; exact hb5) hlw)
                         have HR5 := hide (rd5.set (i := t4.heap.size) (j := 2) (by omega) (by omega) (.slice (some ⟨b5, o5, none⟩) kk c5))
                         have HS5 := hide ((HS4.out.kept g5 (fun k hk => by cases hk; exact ⟨fun e9 => by have := (HS4.out.lt e9).1; omega, hBq.1⟩) (by simp; omega)).kept (set_grown t5 t4.heap.size 2 (.slice (some ⟨b5, o5, none⟩) kk c5)) (fun k hk => by have e8 := Option.some.inj hk; subst e8; exact ⟨fun e9 => HOB.out _ e9 hz4, by omega⟩) (by omega))
                         have HG5 := hide (grown_past (grownBy_trans HG4.out g5) (set_grown t5 t4.heap.size 2 (.slice (some ⟨b5, o5, none⟩) kk c5)) (fun i e => by have e8 := Option.some.inj e; have := HG.out.size; omega))
                         have HZ5 : Hid (t4.heap.size < t5.heap.size) := by unfold Hid; omega
                         have HB5 := hide (show b5 < B ∧ kk ≤ c5 ∧ c5 ≤ 9223372036854775807 from ⟨hb5, hc5, hc5b⟩)
                         clear rs5 rd5 g5 hx5 hx6 hlw hz4 hz5 hc5 hc5b hb5; have T4 : Hid True := trivial)
                      | (go_at_call 107; refine (isFilled_any (some ⟨b5, o5, none⟩) kk c5 bs _ _ _ (by omega) (by omega) HRS.out).mono ?_; rintro e t6 ⟨rfl, ht6⟩; rw [ht6, HF.out]; clear ht6)
                      | (go_at_call 73; have zz := T4; clear T4 zz; refine (must_yes _).mono ?_; rintro e t7 ⟨rfl, ht7⟩; rw [ht7]; clear ht7
                         obtain ⟨es, he1, he2, he3⟩ := HS5.out
                         have hel : es.length = acc.length := (by rw [← he1, List.length_map])
                         have HE1 := hide he1
                         have HE2 := hide (he2.kept (World.grownBy_alloc _ (.cells #[.int .i64 (pos : Int), .int .i64 (kk : Int), .slice (some ⟨b5, o5, none⟩) kk c5] 94) none) (by cases u4.ownBlock <;> simp))
                         have HE3 := hide he3
                         clear he1 he2 he3)
                      | (at_builtin
                         refine wpList_append_own ((t5.setCell ⟨t4.heap.size, 2, none⟩ (.slice (some ⟨b5, o5, none⟩) kk c5)).alloc (.cells #[.int .i64 (pos : Int), .int .i64 (kk : Int), .slice (some ⟨b5, o5, none⟩) kk c5] 94)) rfl (.tmp 50) (.tmp 52) 61 rfl w.heap.size 94 i0 _ 3 40 Tryz.underlying61 HI.out.1 HI.out.2.1 HI.out.2.2.1 HI.out.2.2.2 rfl (by decide) u4 es.length (flatS es) rfl HE2.out ⟨t5.heap.size, 0, none⟩ 1 1 [.int .i64 (pos : Int), .int .i64 (kk : Int), .slice (some ⟨b5, o5, none⟩) kk c5] (by first | rfl | simp) rfl (by have h9 := lit3_news (t5.setCell ⟨t4.heap.size, 2, none⟩ (.slice (some ⟨b5, o5, none⟩) kk c5)) (.int .i64 (pos : Int)) (.int .i64 (kk : Int)) (.slice (some ⟨b5, o5, none⟩) kk c5); simpa using h9) (by simp [Value.oneCell']) (by simp only [maxLen]; omega) (by omega) (Nat.le_trans HG5.out.size (by simp)) ?_; intro v8 t8 own8 grow8 _h8
                         have HO8 := hide own8
                         have HG8 := hide grow8
                         clear own8 grow8 _h8
                         have T9 : Hid True := trivial))
                    go_roundg f
                    case measure => omega
                    case rel =>
                      have hz9 := HG5.out.size
                      have hg8 := grown_past (grownBy_trans HG5.out (World.grownBy_alloc _ (.cells #[.int .i64 (pos : Int), .int .i64 (kk : Int), .slice (some ⟨b5, o5, none⟩) kk c5] 94) (some q))) HG8.out (fun i e => (HE2.out.lt i e).1)
                      have hb0 : B ≤ (t5.setCell ⟨t4.heap.size, 2, none⟩ (.slice (some ⟨b5, o5, none⟩) kk c5)).heap.size := Nat.le_trans (by omega) hz9
                      have hb8 : Below B (t5.setCell ⟨t4.heap.size, 2, none⟩ (.slice (some ⟨b5, o5, none⟩) kk c5)) t8 := (below_grown (World.grownBy_alloc _ (.cells #[.int .i64 (pos : Int), .int .i64 (kk : Int), .slice (some ⟨b5, o5, none⟩) kk c5] 94) none) hb0 (fun k hk => by cases hk)).trans (below_grown HG8.out (Nat.le_trans hb0 (by simp)) (fun k hk => by have := (HE2.out.lt k hk).1; omega))
                      refine (show Hid _ from ⟨pos + kk, 1, acc ++ [⟨pos, bs⟩], r2.drop kk, rfl, by go_num, hkk2, by omega, by simp; omega, by rw [List.length_drop]; omega, ?_, ?_, hg8, ?_⟩)
                      · refine ⟨es ++ [⟨⟨pos, bs⟩, b5, o5, c5⟩], by simp [HE1.out], ?_, ?_⟩
                        · rw [List.length_append, List.length_singleton, flatS_append]
                          have e9 : flatS [⟨⟨pos, bs⟩, b5, o5, c5⟩] = [.int .i64 (pos : Int), .int .i64 (kk : Int), .slice (some ⟨b5, o5, none⟩) kk c5] := by simp [flatS, Se.cells, HBL.out]
                          rw [e9]
                          exact HO8.out
                        · intro x hx
                          rcases List.mem_append.1 hx with hx | hx
                          · exact (HE3.out x hx).low hb8
                          · rw [List.mem_singleton.1 hx]
                            have h9 : Se.Ok (t5.setCell ⟨t4.heap.size, 2, none⟩ (.slice (some ⟨b5, o5, none⟩) kk c5)) B ⟨⟨pos, bs⟩, b5, o5, c5⟩ := by
                              refine ⟨?_, HB5.out.1, ?_, HB5.out.2.2⟩
                              · show Reads _ _ bs.length bs
                                rw [HBL.out]; exact HRS.out
                              · show bs.length ≤ c5
                                rw [HBL.out]; exact HB5.out.2.1
                            exact h9.low hb8
                      · have h9 := HR5.out.below (below_alloc _ (.cells #[.int .i64 (pos : Int), .int .i64 (kk : Int), .slice (some ⟨b5, o5, none⟩) kk c5] 94))
                        exact h9.other HG8.out (fun e9 => by have := (HE2.out.lt _ e9).1; omega) (fun i e9 => by have := (HE2.out.lt i e9).1; omega)
                      · rw [HP.out, dl_fill hlt HW1.out HSM.out HW2.out (by simpa using htk) (by simpa [HBS.out] using HF2.out), Int.toNat_natCast, HBS.out]
                · have h5 : ¬ kk ≤ r2.length := htk
                  go_wp2_with (first
                    | (go_at_call 88; have zz := T1; clear T1 zz; refine (whole_any B q 1 0 1 rest' _ HR.out hrl (by omega) (by omega)).mono ?_; intro e t1 lf; rw [HW1.out] at lf; obtain ⟨val, rfl, rfl, rd1, g1⟩ := lf; have HG1 := hide g1; have HR1 := hide rd1
                       have HS1 := hide (HS.out.kept g1 (fun k hk => by cases hk; exact ⟨fun e9 => by have := (HS.out.lt e9).1; omega, hBq.1⟩) hBw); have HSZ1 := hide g1.size; clear g1 rd1; have T2 : Hid True := trivial)
                    | (go_at_call 73; have zz := T2; clear T2 zz; refine (must_yes _).mono ?_; rintro e t2 ⟨rfl, ht2⟩; rw [ht2]; clear ht2; have T3 : Hid True := trivial)
                    | (go_at_call 106; refine (leastOf_1 _).mono ?_; rintro e t3 ⟨rfl, ht3⟩; rw [ht3])
                    | (go_at_call 88; have zz := T3; clear T3 zz; refine (whole_any B q 4 1 ((size : Int) - (pos : Int)) r1 _ HR1.out hr1 (by omega) (by omega)).mono ?_; intro e t4 lf; rw [HW2.out] at lf; obtain ⟨val, rfl, rfl, rd4, g4⟩ := lf
                       have hbq4 := g4.size
                       have HS4 := hide ((HS1.out.kept g4 (fun k hk => by cases hk; exact ⟨fun e9 => by have := (HS1.out.lt e9).1; omega, hBq.1⟩) (by have := HSZ1.out; omega)).kept (World.grownBy_alloc t4 (.cells #[.int .i64 (pos : Int), .int .i64 (kk : Int), .slice none 0 0] 94) none) (fun k hk => by cases hk) (by have := HSZ1.out; omega))
                       have HR4 := hide (rd4.below (below_alloc t4 (.cells #[.int .i64 (pos : Int), .int .i64 (kk : Int), .slice none 0 0] 94)))
                       have HG4 := hide (grownBy_trans (grownBy_trans (grownBy_trans HG.out HG1.out) g4) (World.grownBy_alloc t4 (.cells #[.int .i64 (pos : Int), .int .i64 (kk : Int), .slice none 0 0] 94) (some q)))
                       have HX4 : Hid ((t4.alloc (.cells #[.int .i64 (pos : Int), .int .i64 (kk : Int), .slice none 0 0] 94)).heap[t4.heap.size]? = some (.cells #[.int .i64 (pos : Int), .int .i64 (kk : Int), .slice none 0 0] 94 (0, 0))) := heap_alloc_new _ _
                       have HZ4 : Hid (wr.heap.size ≤ t4.heap.size) := by have := HSZ1.out; unfold Hid; omega
                       clear rd4 g4 hbq4)
                    | (go_at_call 70; refine (row_short B q kk r2 _ HR4.out hr2 (by omega) (by omega)).mono ?_; rintro e t5 ⟨rfl, ht5⟩; rw [ht5]))
                  exact ⟨rfl, left_err (HPE.out 190 (by rw [HP.out, dl_short hlt HW1.out HSM.out HW2.out (by simpa using h5)])) HG4.out⟩
      · have i1 : ¬ (pos : Int) < (size : Int) := by omega
        have d1 : decide ((pos : Int) < (size : Int)) = false := decide_eq_false i1
        obtain ⟨a4, c4, hs4⟩ := HS.out.shape
        subst hs4
        go_wp2
        go_ret2
        refine left_ok (HPD.out acc rest' (by rw [HP.out, dl_end hlt])) ?_ HR.out HG.out
        exact ⟨_, rfl, HS.out, hsz⟩
end Go.Proofs.YtdiifegljonojaaGreatDoor
