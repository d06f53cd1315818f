/-
  SEAT YtnmnhgagnfodhaaDoor: Rh, Ri, Rk.
-/
import Derived.Test.YtnmnhgagnfodhaaDoorMbj
namespace Go.Proofs.YtnmnhgagnfodhaaDoor
open Go.RowKit
set_option linter.unusedVariables false
def PgAt (w : World) (B : Nat) (a : Option Addr) (l : Nat) (g : List Int) : Prop :=
 (a = none ∧ l = 0 ∧ g = []) ∨ ∃ b, a = some ⟨b, 0, none⟩ ∧ B ≤ b ∧ Ty5 w b ∧ Reads w a l g
theorem PgAt.reads {w : World} {B l : Nat} {a : Option Addr} {g : List Int} (h : PgAt w B a l g) : Reads w a l g := by
 rcases h with ⟨rfl, rfl, rfl⟩ | ⟨b, rfl, _, _, h⟩
 ·exact ⟨rfl, by simp, fun _ => rfl, fun x hx => by cases hx⟩
 ·exact h
theorem PgAt.base {w : World} {B B' l : Nat} {a : Option Addr} {g : List Int} (h : PgAt w B a l g) (hb : B' ≤ B) : PgAt w B' a l g := by
 rcases h with h | ⟨b, h1, h2, h3, h4⟩
 ·exact Or.inl h
 ·exact Or.inr ⟨b, h1, by omega, h3, h4⟩
theorem PgAt.kept {w w' : World} {B l : Nat} {a : Option Addr} {g : List Int} {r : Option Nat} (h : PgAt w B a l g) (hg : w.grownBy w' r) (hr : ∀ j, r = some j → ¬ Ty5 w j) : PgAt w' B a l g := by
 rcases h with h | ⟨b, rfl, h2, ⟨cs, f, h3⟩, h4⟩
 ·exact Or.inl h
 ·have hne : some b ≠ r := fun e => hr b e.symm ⟨cs, f, h3⟩
  have hlt := (Array.getElem?_eq_some_iff.1 h3).1
  have hk := hg.block b hlt hne
  refine Or.inr ⟨b, rfl, h2, ⟨cs, f, hk.trans h3⟩, h4.1, h4.2.1, h4.2.2.1, fun x hx i hi => ?_⟩
  cases hx
  have h9 := h4.2.2.2 _ rfl i hi
  rw [plain_add] at h9 ⊢
  rw [← h9]
  simp only [World.cell?, hk]
theorem PgAt.below {w w' : World} {B l : Nat} {a : Option Addr} {g : List Int} (h : PgAt w B a l g) (hg : Below w.heap.size w w') : PgAt w' B a l g := h.kept (grown_of hg none) (fun j e => by cases e)
theorem not_ty5 {w : World} {j : Nat} {cs : Array Value} {t : TypeId} {f : Nat × Nat} (h : w.heap[j]? = some (.cells cs t f)) (ht : t ≠ 5) : ¬ Ty5 w j := by
 rintro ⟨cs', f', h'⟩
 rw [h] at h'
 injection h' with h'
 injection h' with _ h'
 exact ht h'
def PcRes (w w' : World) (B q : Nat) (e : Ending) : Except Int (Pc × List Int) → Prop
 | .error x => e = .returned (.tuple #[.agg #[.int .i64 0, .int .i64 0, .slice none 0 0], .int .i64 x]) ∧ (x = 10 ∨ x = 47)
 | .ok (p, r) => ∃ a l c, e = .returned (.tuple #[.agg #[.int .i64 (p.k : Int), .int .i64 (p.n : Int), .slice a l c], .int .i64 0]) ∧ PgAt w' w.heap.size a l p.g ∧ RdAt w' B q r ∧ p.k ≤ 2 ∧ 0 < p.n ∧ p.n ≤ 65535 ∧ l ≤ 4000
theorem getL_head (k : Int) (r : List Int) : getL (k :: r) 0 1 = k := by simp [getL]
theorem getL_two (k x y : Int) (t : List Int) : getL ((k :: x :: y :: t).drop 1) 0 2 = x + 256 * y := by simp [getL]; omega
theorem piece_any (B q b p s left C S : Nat) (hC : C = 256 * s) (hS : S = 54 + 3 * s) (rest : List Int) (w : World) (hR : RdAt w B q rest) (hl : rest.length ≤ 200000000000000) (hf : Fits (b : Int) (p : Int) (s : Int) = true) (hleft : left ≤ 70000) (h0 : 0 < left) :
  Calls Tryd.prog 71 #[.pointer (some ⟨q, 0, none⟩), .agg #[.int .i64 (b : Int), .int .i64 (p : Int), .int .i64 (s : Int)], .int .i64 (left : Int)] w fun e w' => PcRes w w' B q e (rdPiece C S left rest) ∧ w.grownBy w' (some q) := by
 have hby := hR.byt
 have hs := fits_s hf
 match rest, hR, hl, hby with
 | [], hR, hl, hby =>
  exact (pc_s1 B q b p s left C S hC hS [] w hR hl hf hleft (by simp)).mono fun e w' h => ⟨⟨h.1, Or.inl rfl⟩, h.2⟩
 | k :: r, hR, hl, hby =>
  obtain ⟨kd, hk⟩ := Int.eq_ofNat_of_zero_le (hby k (by simp)).1
  have hk1 : getL (k :: r) 0 1 = (kd : Int) := by rw [getL_head, hk]
  by_cases h2 : 2 < k
  ·refine (pc_kind B q b p s left C S hC hS (k :: r) w hR hl hf hleft (by simp) kd hk1 (by omega)).mono fun e w' h => ⟨?_, h.2⟩
   simp only [rdPiece, if_pos h2]
   exact ⟨h.1, Or.inr rfl⟩
  ·match r, hR, hl, hby, hk1 with
   | [], hR, hl, hby, hk1 =>
    refine (pc_s3 B q b p s left C S hC hS [k] w hR hl hf hleft (by simp) (by simp) kd hk1 (by omega)).mono fun e w' h => ⟨?_, h.2⟩
    simp only [rdPiece, if_neg h2]
    exact ⟨h.1, Or.inl rfl⟩
   | [x], hR, hl, hby, hk1 =>
    refine (pc_s3 B q b p s left C S hC hS [k, x] w hR hl hf hleft (by simp) (by simp) kd hk1 (by omega)).mono fun e w' h => ⟨?_, h.2⟩
    simp only [rdPiece, if_neg h2]
    exact ⟨h.1, Or.inl rfl⟩
   | x :: y :: t, hR, hl, hby, hk1 =>
    have hx := hby x (by simp)
    have hy := hby y (by simp)
    obtain ⟨n, hn⟩ : ∃ n : Nat, (x + 256 * y).toNat = n := ⟨_, rfl⟩
    have hnn : getL ((k :: x :: y :: t).drop 1) 0 2 = (n : Int) := by rw [getL_two]; omega
    have hn5 : n ≤ 65535 := by omega
    have hl3 : 3 ≤ (k :: x :: y :: t).length := by simp
    have hl1 : 1 ≤ (k :: x :: y :: t).length := by simp
    have hd3 : (k :: x :: y :: t).drop 3 = t := rfl
    by_cases h1 : k = 1
    ·have hk1' : getL (k :: x :: y :: t) 0 1 = 1 := by rw [getL_head, h1]
     by_cases c1 : C < n
     ·refine (pc_tbig B q b p s left C S hC hS _ w hR hl hf hleft hl1 hl3 hk1' n hn5 hnn c1).mono fun e w' h => ⟨?_, h.2⟩
      simp only [rdPiece, if_neg h2, if_pos h1, hn, if_pos c1]
      exact ⟨h.1, Or.inr rfl⟩
     ·by_cases c2 : t.length < n + S
      ·refine (pc_tshort B q b p s left C S hC hS _ w hR hl hf hleft hl1 hl3 hk1' n hn5 hnn (by omega) (by rw [hd3]; exact c2)).mono fun e w' h => ⟨?_, h.2⟩
       simp only [rdPiece, if_neg h2, if_pos h1, hn, if_neg c1, if_pos c2]
       exact ⟨h.1, Or.inl rfl⟩
      ·by_cases c3 : wrN (t.take n) < n
       ·refine (pc_tbad B q b p s left C S hC hS _ w hR hl hf hleft hl1 hl3 hk1' n hn5 hnn (by omega) (by rw [hd3]; omega) (by rw [hd3]; exact c3)).mono fun e w' h => ⟨?_, h.2⟩
        simp only [rdPiece, if_neg h2, if_pos h1, hn, if_neg c1, if_neg c2, if_pos c3]
        exact ⟨h.1, Or.inr rfl⟩
       ·refine (pc_tok B q b p s left C S hC hS _ w hR hl hf hleft hl1 hl3 hk1' n hn5 hnn (by omega) (by rw [hd3]; omega) (by rw [hd3]; exact c3)).mono fun e w' h => ?_
        obtain ⟨g, cc, he, ho, hr, hg⟩ := h
        refine ⟨?_, hg⟩
        simp only [rdPiece, if_neg h2, if_pos h1, hn, if_neg c1, if_neg c2, if_neg c3]
        rw [hd3] at ho
        have hr' : RdAt w' B q (t.drop (n + S)) := by
         have e9 : (k :: x :: y :: t).drop (3 + (n + S)) = t.drop (n + S) := by rw [← List.drop_drop]; rfl
         rw [e9] at hr; exact hr
        have hpb : Byt (pgT C S n t) := by
         intro z hz
         unfold pgT at hz
         rcases List.mem_append.1 hz with hz | hz
         ·rcases List.mem_append.1 hz with hz | hz
          ·exact hby z (by simp [List.mem_of_mem_take hz])
          ·rw [List.eq_of_mem_replicate hz]; omega
         ·exact hby z (by have := List.mem_of_mem_drop (List.mem_of_mem_take hz); simp [this])
        obtain ⟨cur, hcur⟩ := ho.blk
        refine ⟨_, _, _, he, Or.inr ⟨g, rfl, ho.lt.1, ⟨_, _, hcur⟩, ?_⟩, hr', by simp, by simp, by simp, by omega⟩
        exact ho.all hpb
    ·have hkd : kd = 0 ∨ kd = 2 := by
      have := (hby k (by simp)).1
      omega
     by_cases c0 : n = 0
     ·refine (pc_nz B q b p s left C S hC hS _ w hR hl hf hleft hl1 hl3 kd hk1 hkd (by rw [hnn, c0]; rfl)).mono fun e w' h => ⟨?_, h.2⟩
      simp only [rdPiece, if_neg h2, if_neg h1, hn, if_pos (Or.inl c0 : n = 0 ∨ left < n)]
      exact ⟨h.1, Or.inr rfl⟩
     ·by_cases c1 : left < n
      ·refine (pc_nbig B q b p s left C S hC hS _ w hR hl hf hleft hl1 hl3 kd hk1 hkd n hn5 hnn c1).mono fun e w' h => ⟨?_, h.2⟩
       simp only [rdPiece, if_neg h2, if_neg h1, hn, if_pos (Or.inr c1 : n = 0 ∨ left < n)]
       exact ⟨h.1, Or.inr rfl⟩
      ·refine (pc_nok B q b p s left C S hC hS _ w hR hl hf hleft hl1 hl3 kd hk1 hkd n hn5 hnn (by omega) (by omega)).mono fun e w' h => ⟨?_, h.2.2⟩
       simp only [rdPiece, if_neg h2, if_neg h1, hn, if_neg (by omega : ¬ (n = 0 ∨ left < n))]
       have ek : k.toNat = kd := by omega
       refine ⟨none, 0, 0, ?_, Or.inl ⟨rfl, rfl, rfl⟩, ?_, by simp only [ek]; omega, by simp only; omega, by simp only; omega, by omega⟩
       ·rw [h.1, ek]
       ·exact h.2.1
end Go.Proofs.YtnmnhgagnfodhaaDoor
namespace Go.Proofs.YtnmnhgagnfodhaaDoor
open Go.RowKit
set_option linter.unusedVariables false
set_option maxHeartbeats 2000000 in
set_option maxRecDepth 100000 in
theorem stands_told (pn : Nat) (a : Option Addr) (l c : Nat) (g : List Int) (ak an : Nat) (a' : Option Addr) (l' c' : Nat) (g' : List Int) (w : World) (h : Reads w a l g) (h' : Reads w a' l' g') (hl : l ≤ 4000) :
  Calls Tryd.prog 72 #[.agg #[.int .i64 1, .int .i64 (pn : Int), .slice a l c], .agg #[.int .i64 (ak : Int), .int .i64 (an : Int), .slice a' l' c']] w fun e w' => e = .returned (.bool (stands ⟨1, pn, g⟩ ⟨ak, an, g'⟩)) ∧ Below w.heap.size w w' := by
 obtain ⟨W, hW⟩ : ∃ W, W = ((w.alloc (.cells #[.int .i64 1, .int .i64 (pn : Int), .slice a l c] 135)).alloc (.cells #[.int .i64 (ak : Int), .int .i64 (an : Int), .slice a' l' c'] 135)) := ⟨_, rfl⟩
 have hbel : Below w.heap.size w ((w.alloc (.cells #[.int .i64 1, .int .i64 (pn : Int), .slice a l c] 135)).alloc (.cells #[.int .i64 (ak : Int), .int .i64 (an : Int), .slice a' l' c'] 135)) := ((Below.refl _ _).alloc (Nat.le_refl _) _).alloc (by simp) _
 have r1 := h.below hbel
 have r2 := h'.below hbel
 have HB : Hid _ := hbel
 clear h h' hbel hW
 cases hb : blankB g with
 | true =>
  go_enter Tryd.func72, Tryd.ntmps72
  go_wp2_with (first
   | (go_at_call 62; refine (isBlank_any _ _ _ g _ (by omega) r1).mono ?_; rintro e u0 ⟨rfl, hu0⟩; rw [hu0, hb])
   | (go_at_call 30; refine (equal_any _ _ _ _ _ _ g g' _ r1 r2).mono ?_; rintro e u1 ⟨rfl, hu1⟩; rw [hu1]))
  go_ret
  exact ⟨by simp [stands, hb], HB.out⟩
 | false =>
  go_enter Tryd.func72, Tryd.ntmps72
  go_wp2_with (first
   | (go_at_call 62; refine (isBlank_any _ _ _ g _ (by omega) r1).mono ?_; rintro e u0 ⟨rfl, hu0⟩; rw [hu0, hb])
   | (go_at_call 30; refine (equal_any _ _ _ _ _ _ g g' _ r1 r2).mono ?_; rintro e u1 ⟨rfl, hu1⟩; rw [hu1]))
  go_ret
  refine ⟨ret_bool ?_, HB.out⟩
  by_cases hg : g = g'
  ·simp [stands, hg]
  ·simp [stands, hb, hg]
set_option maxHeartbeats 2000000 in
set_option maxRecDepth 100000 in
theorem stands_run (pk pn : Nat) (a : Option Addr) (l c : Nat) (g : List Int) (ak an : Nat) (a' : Option Addr) (l' c' : Nat) (g' : List Int) (w : World) (hp : pk = 0 ∨ pk = 2) (hak : ak ≤ 2) :
  Calls Tryd.prog 72 #[.agg #[.int .i64 (pk : Int), .int .i64 (pn : Int), .slice a l c], .agg #[.int .i64 (ak : Int), .int .i64 (an : Int), .slice a' l' c']] w fun e w' => e = .returned (.bool (stands ⟨pk, pn, g⟩ ⟨ak, an, g'⟩)) ∧ Below w.heap.size w w' := by
 by_cases h0 : an = 0
 ·subst h0
  rcases hp with rfl | rfl <;> rcases (show ak = 0 ∨ ak = 1 ∨ ak = 2 by omega) with rfl | rfl | rfl
  all_goals
   clear hak
   go_enter Tryd.func72, Tryd.ntmps72
   go_wp2
   go_ret
   exact ⟨ret_bool (by simp [stands]), ((Below.refl _ _).alloc (Nat.le_refl _) _).alloc (by simp) _⟩
 ·by_cases h6 : an = 65535
  ·subst h6
   rcases hp with rfl | rfl <;> rcases (show ak = 0 ∨ ak = 1 ∨ ak = 2 by omega) with rfl | rfl | rfl
   all_goals
    clear hak h0
    go_enter Tryd.func72, Tryd.ntmps72
    go_wp2
    go_ret
    exact ⟨ret_bool (by simp [stands]), ((Below.refl _ _).alloc (Nat.le_refl _) _).alloc (by simp) _⟩
  ·have e0 : ((an : Int) == 0) = false := by rw [beq_eq_false_iff_ne]; omega
   have e6 : ((an : Int) == 65535) = false := by rw [beq_eq_false_iff_ne]; omega
   have HA : Hid (¬ an = 0) := h0
   have HE : Hid (¬ an = 65535) := h6
   clear h0 h6
   rcases hp with rfl | rfl <;> rcases (show ak = 0 ∨ ak = 1 ∨ ak = 2 by omega) with rfl | rfl | rfl
   all_goals
    clear hak
    go_enter Tryd.func72, Tryd.ntmps72
    go_wp2
    go_ret
    exact ⟨ret_bool (by simp [stands, HA.out, HE.out]), ((Below.refl _ _).alloc (Nat.le_refl _) _).alloc (by simp) _⟩
theorem stands_any (pk pn : Nat) (a : Option Addr) (l c : Nat) (g : List Int) (ak an : Nat) (a' : Option Addr) (l' c' : Nat) (g' : List Int) (w : World) (h : Reads w a l g) (h' : Reads w a' l' g') (hl : l ≤ 4000) (hp : pk ≤ 2) (hak : ak ≤ 2) :
  Calls Tryd.prog 72 #[.agg #[.int .i64 (pk : Int), .int .i64 (pn : Int), .slice a l c], .agg #[.int .i64 (ak : Int), .int .i64 (an : Int), .slice a' l' c']] w fun e w' => e = .returned (.bool (stands ⟨pk, pn, g⟩ ⟨ak, an, g'⟩)) ∧ Below w.heap.size w w' := by
 by_cases h1 : pk = 1
 ·subst h1; exact stands_told pn a l c g ak an a' l' c' g' w h h' hl
 ·exact stands_run pk pn a l c g ak an a' l' c' g' w (by omega) hak
end Go.Proofs.YtnmnhgagnfodhaaDoor
namespace Go.Proofs.YtnmnhgagnfodhaaDoor
open Go.RowKit
set_option linter.unusedVariables false
structure En where
 p : Pc
 a : Option Addr
 l : Nat
 c : Nat
def En.cells (x : En) : List Value := [.int .i64 (x.p.k : Int), .int .i64 (x.p.n : Int), .slice x.a x.l x.c]
def flatE (es : List En) : List Value := es.flatMap En.cells
theorem flatE_append (es fs : List En) : flatE (es ++ fs) = flatE es ++ flatE fs := by simp [flatE]
def En.Ok (w : World) (B : Nat) (x : En) : Prop := PgAt w B x.a x.l x.p.g ∧ x.l ≤ 4000 ∧ x.p.k ≤ 2 ∧ x.p.n ≤ 65535
theorem En.Ok.kept {w w' : World} {B : Nat} {x : En} {r : Option Nat} (h : x.Ok w B) (hg : w.grownBy w' r) (hr : ∀ j, r = some j → ¬ Ty5 w j) : x.Ok w' B := ⟨h.1.kept hg hr, h.2⟩
structure Cx (b0 gb L : Nat) (bx : Obj) (v : Value) (es : List En) (a : En) (w : World) : Prop where
 box : w.heap[b0]? = some bx
 ah : w.heap[b0 + 1]? = some (.cells #[.int .i64 (a.p.k : Int), .int .i64 (a.p.n : Int), .slice a.a a.l a.c] 135 (0, 0))
 aok : a.Ok w b0
 own : w.ownsRow (b0 + 2) 135 3 v es.length (flatE es)
 oks : ∀ x ∈ es, x.Ok w b0
 blank : PgAt w b0 (some ⟨gb, 0, none⟩) L (List.replicate L 255)
theorem Cx.kept {b0 gb L : Nat} {bx : Obj} {v : Value} {es : List En} {a : En} {w w' : World} {r : Option Nat} (h : Cx b0 gb L bx v es a w) (hg : w.grownBy w' r)
  (hr : ∀ j, r = some j → j ≠ b0 ∧ j ≠ b0 + 1 ∧ ¬ Ty5 w j ∧ v.ownBlock ≠ some j) : Cx b0 gb L bx v es a w' := by
 have ht : ∀ j, r = some j → ¬ Ty5 w j := fun j e => (hr j e).2.2.1
 refine ⟨?_, ?_, h.aok.kept hg ht, ?_, fun x hx => (h.oks x hx).kept hg ht, h.blank.kept hg ht⟩
 ·exact (hg.block b0 (Array.getElem?_eq_some_iff.1 h.box).1 (fun e => (hr b0 e.symm).1 rfl)).trans h.box
 ·exact (hg.block (b0 + 1) (Array.getElem?_eq_some_iff.1 h.ah).1 (fun e => (hr (b0 + 1) e.symm).2.1 rfl)).trans h.ah
 ·refine h.own.kept hg ?_
  cases hv : v.ownBlock with
  | none => exact Or.inl rfl
  | some k => exact Or.inr (fun e => (hr k e.symm).2.2.2 hv)
theorem Cx.below {b0 gb L : Nat} {bx : Obj} {v : Value} {es : List En} {a : En} {w w' : World} (h : Cx b0 gb L bx v es a w) (hg : Below w.heap.size w w') : Cx b0 gb L bx v es a w' :=
 h.kept (grown_of hg none) (fun j e => by cases e)
theorem Cx.ahead {b0 gb L : Nat} {bx : Obj} {v : Value} {es : List En} {a : En} {w : World} (h : Cx b0 gb L bx v es a w) (x : En) (hx : x.Ok w b0) :
  Cx b0 gb L bx v es x (((w.setCell ⟨b0 + 1, 0, none⟩ (.int .i64 (x.p.k : Int))).setCell ⟨b0 + 1, 1, none⟩ (.int .i64 (x.p.n : Int))).setCell ⟨b0 + 1, 2, none⟩ (.slice x.a x.l x.c)) := by
 have hg := grown3 w (b0 + 1) (.int .i64 (x.p.k : Int)) (.int .i64 (x.p.n : Int)) (.slice x.a x.l x.c)
 have ht : ∀ j, some (b0 + 1) = some j → ¬ Ty5 w j := fun j e => by cases e; exact not_ty5 h.ah (by decide)
 refine ⟨?_, blk3_set h.ah _ _ _, hx.kept hg ht, ?_, fun y hy => (h.oks y hy).kept hg ht, h.blank.kept hg ht⟩
 ·exact (hg.block b0 (Array.getElem?_eq_some_iff.1 h.box).1 (fun e => by have e' := Option.some.inj e; omega)).trans h.box
 ·refine h.own.kept hg (Or.inr fun e => ?_)
  have := (h.own.lt _ e).1
  omega
theorem Cx.push {b0 gb L : Nat} {bx : Obj} {v v' : Value} {es : List En} {a : En} {w w' : World} (h : Cx b0 gb L bx v es a w) (hg : w.grownBy w' v.ownBlock) (ho : w'.ownsRow (b0 + 2) 135 3 v' (es.length + 1) (flatE es ++ a.cells)) :
  Cx b0 gb L bx v' (es ++ [a]) a w' := by
 have ht : ∀ j, v.ownBlock = some j → ¬ Ty5 w j := fun j e => by
  rcases h.own.2 with ⟨hv, _⟩ | ⟨g, cap, cur, hv, _, hg, _⟩
  ·rw [hv] at e; simp [Value.ownBlock] at e
  ·rw [hv] at e
   simp [Value.ownBlock] at e
   subst e
   exact not_ty5 hg (by decide)
 have hlow : ∀ i, i < b0 + 2 → some i ≠ v.ownBlock := fun i hi e => by have := (h.own.lt i e.symm).1; omega
 refine ⟨?_, ?_, h.aok.kept hg ht, ?_, ?_, h.blank.kept hg ht⟩
 ·exact (hg.block b0 (Array.getElem?_eq_some_iff.1 h.box).1 (hlow _ (by omega))).trans h.box
 ·exact (hg.block (b0 + 1) (Array.getElem?_eq_some_iff.1 h.ah).1 (hlow _ (by omega))).trans h.ah
 ·rw [List.length_append, List.length_singleton, flatE_append]
  have e : flatE [a] = a.cells := by simp [flatE]
  rw [e]
  exact ho
 ·intro x hx
  rcases List.mem_append.1 hx with hx | hx
  ·exact (h.oks x hx).kept hg ht
  ·rw [List.mem_singleton.1 hx]; exact h.aok.kept hg ht
def ext (ps : List Pc) : Except Int (List Pc × List Int) → Except Int (List Pc × List Int)
 | .error e => .error e
 | .ok (qs, t) => .ok (ps ++ qs, t)
theorem ext_step {C S f left : Nat} {ps : List Pc} {a p : Pc} {bs r : List Int} (hl : left ≠ 0) (h : rdPiece C S left bs = .ok (p, r)) (hs : stands p a = true) :
  ext ps (rdPs C S (f + 1) left a bs) = ext (ps ++ [fillP (C + S) a p]) (rdPs C S f (left - p.n) (fillP (C + S) a p) r) := by
 rw [rdPs, if_neg hl, h]
 simp only [hs, if_true]
 cases rdPs C S f (left - p.n) (fillP (C + S) a p) r with
 | error e => rfl
 | ok x => simp [ext]
theorem ext_bad {C S f left : Nat} {ps : List Pc} {a p : Pc} {bs r : List Int} (hl : left ≠ 0) (h : rdPiece C S left bs = .ok (p, r)) (hs : stands p a = false) :
  ext ps (rdPs C S (f + 1) left a bs) = .error 47 := by
 rw [rdPs, if_neg hl, h]
 simp [hs, ext]
theorem ext_err {C S f left : Nat} {ps : List Pc} {a : Pc} {bs : List Int} {x : Int} (hl : left ≠ 0) (h : rdPiece C S left bs = .error x) : ext ps (rdPs C S (f + 1) left a bs) = .error x := by
 rw [rdPs, if_neg hl, h]
 rfl
theorem ext_zero {C S f : Nat} {ps : List Pc} {a : Pc} {bs : List Int} : ext ps (rdPs C S f 0 a bs) = .ok (ps, bs) := by
 cases f with
 | zero => simp [rdPs, ext]
 | succ f => simp [rdPs, ext]
theorem rdPiece_left {C S left : Nat} {bs r : List Int} {p : Pc} (h : rdPiece C S left bs = .ok (p, r)) (h0 : 0 < left) : p.n ≤ left ∧ r.length ≤ bs.length ∧ p.k ≤ 2 ∧ 1 ≤ p.n := by
 unfold rdPiece at h
 split at h
 ·cases h
 ·split at h
  ·cases h
  ·split at h
   ·split at h
    ·split at h
     ·cases h
     ·split at h
      ·cases h
      ·split at h
       ·cases h
       ·cases h
        simp
        omega
    ·split at h
     ·cases h
     ·cases h
      simp
      omega
   ·cases h
theorem info135 : (Tryd.prog.info? 135).map (fun i => (i.zero, i.size, i.bytes)) = some (some (.agg #[.int .i64 0, .int .i64 0, .slice none 0 0]), 3, 40) := by kernel_rfl
def PsRes (w w' : World) (B q : Nat) (e : Ending) : Except Int (List Pc × List Int) → Prop
 | .error x => e = .returned (.tuple #[.slice none 0 0, .int .i64 x]) ∧ x ≠ 0
 | .ok (ps, t) => ∃ v es, e = .returned (.tuple #[v, .int .i64 0]) ∧ es.map En.p = ps ∧ w'.ownsRow w.heap.size 135 3 v es.length (flatE es) ∧ (∀ x ∈ es, x.Ok w' w.heap.size) ∧ RdAt w' B q t ∧ t.length ≤ 200000000000000
end Go.Proofs.YtnmnhgagnfodhaaDoor
