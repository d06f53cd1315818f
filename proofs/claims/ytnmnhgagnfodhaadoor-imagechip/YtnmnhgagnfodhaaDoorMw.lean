/-
  SEAT YtnmnhgagnfodhaaDoor: Va, Base, A.
-/
import Derived.Test.YtnmnhgagnfodhaaDoorMt
import Derived.Test.YtnmnhgagnfodhaaDoorMu
import Derived.Test.YtnmnhgagnfodhaaDoorMv
import Derived.Test.YtnmnhgagnfodhaaDoorRows
import Derived.WalkKit
import Derived.WalkSpells
import Derived.Below
import Derived.Laws.AppendOwnNone
import Derived.Deep.QuietTactic
import Derived.BigQuiet
import Derived.Laws.BytesArg
import Derived.WalkSmall
import Derived.Lib.Strings
namespace Go.Proofs.YtnmnhgagnfodhaaDoor.Cp
open Go.RowKit Go.Conc
set_option linter.unusedVariables false
def Bts (zs : List Int) : Prop := ∀ z ∈ zs, 0 ≤ z ∧ z ≤ 255
def POk (C : Ch) : Prop := ∀ (i k : Nat) b g, C.bl[i]? = some b → b.ps[k]? = some g → g.bits.length = pgB C.S ∧ Bts g.bits
theorem ChipAt.pok {w : World} {p : Nat} {F : Nat → Prop} {C : Ch} (h : ChipAt w p F C) : POk C := by
 obtain ⟨x, bs, fe, h⟩ := h
 intro i k b g hb hg
 rw [← h.bl, List.getElem?_map] at hb
 obtain ⟨c, hc, rfl⟩ := Option.map_eq_some_iff.1 hb
 have hg' : (c.ps.map Pc.v)[k]? = some g := hg
 rw [List.getElem?_map] at hg'
 obtain ⟨q, hq, rfl⟩ := Option.map_eq_some_iff.1 hg'
 have h9 := (h.bok c (List.mem_of_getElem? hc)).pg q (List.mem_of_getElem? hq)
 exact ⟨h9.len, h9.byt⟩
theorem flipsL_byt : ∀ (l : List Nat) (xs : List Int), Bts xs → Bts (flipsL xs l)
 | [], xs, h => h
 | j :: l, xs, h => flipsL_byt l (flipL xs j) (flipL_range xs j h)
theorem readL_byt {C : Ch} (h : POk C) (i k : Nat) : Bts (readL C i k) := by
 unfold readL
 split
 ·intro z hz; cases hz
 ·rename_i b hb
  split
  ·intro z hz; cases hz
  ·rename_i q hq
   exact flipsL_byt _ _ (h i k b q hb hq).2
theorem readL_len {C : Ch} (h : POk C) (hok : C.Ok) {i k : Nat} (hi : i < C.B) (hk : k < C.P) : (readL C i k).length = pgB C.S := by
 obtain ⟨b, hb⟩ : ∃ b, C.bl[i]? = some b := ⟨_, List.getElem?_eq_getElem (by rw [hok.bl]; exact hi)⟩
 have hl := hok.ps b (List.mem_of_getElem? hb)
 obtain ⟨q, hq⟩ : ∃ q, b.ps[k]? = some q := ⟨_, List.getElem?_eq_getElem (by rw [hl]; exact hk)⟩
 rw [readL_of hb hq, flipsL_len]
 exact (h i k b q hb hq).1
theorem flt_len (f : Nat → List Int) (L : Nat) : ∀ n, (∀ k, k < n → (f k).length = L) → ((List.range n).flatMap f).length = n * L
 | 0, _ => by simp
 | n + 1, h => by
  rw [List.range_succ, List.flatMap_append, List.length_append, flt_len f L n (fun k hk => h k (by omega))]
  simp only [List.flatMap_cons, List.flatMap_nil, List.append_nil]
  rw [h n (by omega), Nat.succ_mul]
theorem flt_at (f : Nat → List Int) (L : Nat) : ∀ n, (∀ k, k < n → (f k).length = L) → ∀ k, k < n → (((List.range n).flatMap f).drop (k * L)).take L = f k
 | 0, _, k, hk => by omega
 | n + 1, h, k, hk => by
  have hl := flt_len f L n (fun k hk => h k (by omega))
  rw [List.range_succ, List.flatMap_append]
  simp only [List.flatMap_cons, List.flatMap_nil, List.append_nil]
  by_cases e : k = n
  ·subst e
   rw [List.drop_append_of_le_length (by omega), List.drop_of_length_le (by omega), List.nil_append]
   exact List.take_of_length_le (by rw [h k (by omega)]; exact Nat.le_refl _)
  ·have hm : k * L + L ≤ n * L := by
    have := Nat.mul_le_mul_right L (show k + 1 ≤ n by omega)
    rw [Nat.succ_mul] at this
    exact this
   rw [List.drop_append_of_le_length (by omega), List.take_append_of_le_length (by rw [List.length_drop]; omega)]
   exact flt_at f L n (fun k hk => h k (by omega)) k (by omega)
theorem range_two {α : Type} (f : Nat → List α) (P : Nat) : ∀ B, (List.range B).flatMap (fun i => (List.range P).flatMap (fun k => f (i * P + k))) = (List.range (B * P)).flatMap f
 | 0 => by simp
 | B + 1 => by
  rw [List.range_succ, List.flatMap_append, range_two f P B, Nat.succ_mul, List.range_add, List.flatMap_append]
  simp [List.flatMap_map]
theorem fm_congr {α β : Type} {f g : α → List β} : ∀ (l : List α), (∀ x ∈ l, f x = g x) → l.flatMap f = l.flatMap g
 | [], _ => rfl
 | x :: r, h => by rw [List.flatMap_cons, List.flatMap_cons, h x (by simp), fm_congr r (fun y hy => h y (List.mem_cons_of_mem _ hy))]
theorem img_flat (C : Ch) : imgL C = (List.range (C.B * C.P)).flatMap (fun t => readL C (t / C.P) (t % C.P)) := by
 rw [← range_two (fun t => readL C (t / C.P) (t % C.P)) C.P C.B]
 unfold imgL
 refine fm_congr _ (fun i hi => ?_)
 unfold imgB
 refine fm_congr _ (fun k hk => ?_)
 have hk' := List.mem_range.1 hk
 rw [Nat.mul_comm i C.P, Nat.mul_add_div (by omega), Nat.mul_add_mod, Nat.div_eq_of_lt hk', Nat.mod_eq_of_lt hk', Nat.add_zero]
theorem row_len {C : Ch} (h : POk C) (hok : C.Ok) (t : Nat) (ht : t < C.B * C.P) : (readL C (t / C.P) (t % C.P)).length = pgB C.S :=
 readL_len h hok (Nat.div_lt_of_lt_mul (by rw [Nat.mul_comm]; exact ht)) (Nat.mod_lt _ (by have := hok.p; omega))
theorem img_len {C : Ch} (h : POk C) (hok : C.Ok) : (imgL C).length = C.B * C.P * pgB C.S := by
 rw [img_flat]
 exact flt_len _ _ _ (row_len h hok)
theorem img_page {C : Ch} (h : POk C) (hok : C.Ok) {t : Nat} (ht : t < C.B * C.P) : ((imgL C).drop (t * pgB C.S)).take (pgB C.S) = readL C (t / C.P) (t % C.P) := by
 rw [img_flat]
 exact flt_at _ _ _ (row_len h hok) t ht
theorem img_byt {C : Ch} (h : POk C) : Bts (imgL C) := by
 intro z hz
 rw [img_flat] at hz
 obtain ⟨t, _, hz⟩ := List.mem_flatMap.1 hz
 exact readL_byt h _ _ z hz
def mks (C : Ch) : List Bool := C.bl.map (fun b => b.m)
theorem set_read {C D : Ch} {j i k : Nat} {b b' : Bl} (hb : C.bl[j]? = some b) (hD : D.bl = C.bl.set j b') (hf : D.fl i k = C.fl i k) (hps : i = j → b'.ps[k]? = b.ps[k]?) : readL D i k = readL C i k := by
 have hjl : j < C.bl.length := (List.getElem?_eq_some_iff.1 hb).1
 unfold readL
 rw [hD, hf]
 by_cases e : j = i
 ·subst e
  rw [List.getElem?_set_self hjl, hb]
  simp only []
  rw [hps rfl]
 ·rw [List.getElem?_set_ne e]
theorem same_read {C D : Ch} (h1 : D.bl = C.bl) (h2 : D.fl = C.fl) (i k : Nat) : readL D i k = readL C i k := by
 unfold readL; rw [h1, h2]
theorem set_mks {C D : Ch} {j : Nat} {b b' : Bl} (hb : C.bl[j]? = some b) (hD : D.bl = C.bl.set j b') (hm : b'.m = b.m) : mks D = mks C := by
 unfold mks
 rw [hD, List.map_set, hm]
 refine List.ext_getElem? (fun n => ?_)
 by_cases e : j = n
 ·subst e
  have hjl : j < C.bl.length := (List.getElem?_eq_some_iff.1 hb).1
  rw [List.getElem?_set_self (by simpa using hjl), List.getElem?_map, hb]
  rfl
 ·rw [List.getElem?_set_ne e]
theorem prog_step (C : Ch) (pb pp : Int) (n1 n2 : Nat) (want : List Int) :
  mks (ProgramC C pb pp n1 n2 want).2 = mks C ∧ ∀ i k : Nat, ¬ ((i : Int) = pb ∧ (k : Int) = pp) → readL (ProgramC C pb pp n1 n2 want).2 i k = readL C i k := by
 have idle : ∀ D : Ch, D.bl = C.bl → D.fl = C.fl → mks D = mks C ∧ ∀ i k : Nat, ¬ ((i : Int) = pb ∧ (k : Int) = pp) → readL D i k = readL C i k :=
  fun D h1 h2 => ⟨by unfold mks; rw [h1], fun i k _ => same_read h1 h2 i k⟩
 unfold ProgramC
 split
 ·exact idle _ rfl rfl
 split
 ·exact idle _ rfl rfl
 unfold progC
 cases hp : hasP C.B C.P pb pp with
 | false => exact idle _ rfl rfl
 | true =>
  rw [if_neg (by decide)]
  obtain ⟨i, k, rfl, rfl, hi, hk⟩ := hasP_nat hp
  simp only [Int.toNat_natCast]
  cases hb : C.bl[i]? with
  | none => exact idle _ rfl rfl
  | some b =>
   simp only []
   by_cases hm : (b.m || !b.r || decide ((k : Int) < b.nx)) = true
   ·rw [if_pos hm]; exact idle _ rfl rfl
   rw [if_neg hm]
   cases hq : b.ps[k]? with
   | none => exact idle _ rfl rfl
   | some g =>
    refine ⟨set_mks (j := i) hb rfl rfl, fun i' k' hn => set_read (j := i) hb rfl rfl (fun e => ?_)⟩
    subst e
    have hne : k ≠ k' := fun e => hn ⟨rfl, by rw [e]⟩
    exact List.getElem?_set_ne hne
theorem flJ_ne (fl : Int → Int → List Nat) (bb : Int) : ∀ (P : Nat) (b p : Int), b ≠ bb → flJ fl bb P b p = fl b p
 | 0, b, p, _ => rfl
 | P + 1, b, p, h => by
  unfold flJ
  rw [if_neg (fun h9 => h h9.1)]
  exact flJ_ne fl bb P b p h
theorem hasB_nat {B : Nat} {pb : Int} (h : hasB B pb = true) : ∃ i : Nat, pb = i ∧ i < B := by
 unfold hasB at h
 have := of_decide_eq_true h
 exact ⟨pb.toNat, by omega, by omega⟩
theorem erase_step (C : Ch) (pb : Int) : mks (EraseC C pb).2 = mks C ∧ ∀ i k : Nat, (i : Int) ≠ pb → readL (EraseC C pb).2 i k = readL C i k := by
 have idle : ∀ D : Ch, D.bl = C.bl → D.fl = C.fl → mks D = mks C ∧ ∀ i k : Nat, (i : Int) ≠ pb → readL D i k = readL C i k :=
  fun D h1 h2 => ⟨by unfold mks; rw [h1], fun i k _ => same_read h1 h2 i k⟩
 unfold EraseC
 split
 ·exact idle _ rfl rfl
 unfold eraseC
 cases hp : hasB C.B pb with
 | false => exact idle _ rfl rfl
 | true =>
  rw [if_neg (by decide)]
  obtain ⟨i, rfl, hi⟩ := hasB_nat hp
  simp only [Int.toNat_natCast]
  cases hb : C.bl[i]? with
  | none => exact idle _ rfl rfl
  | some b =>
   simp only []
   by_cases hm : b.m = true
   ·rw [if_pos hm]; exact idle _ rfl rfl
   rw [if_neg hm]
   refine ⟨set_mks (j := i) hb rfl rfl, fun i' k' hn => set_read (j := i) hb rfl ?_ (fun e => absurd (by rw [e]) hn)⟩
   exact flJ_ne _ _ _ _ _ hn
theorem mark_step (C : Ch) (pb : Int) : (∀ i : Nat, (i : Int) ≠ pb → (mks (MarkC C pb).2).getD i false = (mks C).getD i false) ∧ ∀ i k : Nat, readL (MarkC C pb).2 i k = readL C i k := by
 have idle : ∀ D : Ch, D.bl = C.bl → D.fl = C.fl → (∀ i : Nat, (i : Int) ≠ pb → (mks D).getD i false = (mks C).getD i false) ∧ ∀ i k : Nat, readL D i k = readL C i k :=
  fun D h1 h2 => ⟨fun i _ => by unfold mks; rw [h1], fun i k => same_read h1 h2 i k⟩
 unfold MarkC
 split
 ·exact idle _ rfl rfl
 unfold markC
 cases hp : hasB C.B pb with
 | false => exact idle _ rfl rfl
 | true =>
  rw [if_neg (by decide)]
  obtain ⟨i, rfl, hi⟩ := hasB_nat hp
  simp only [Int.toNat_natCast]
  cases hb : C.bl[i]? with
  | none => exact idle _ rfl rfl
  | some b =>
   refine ⟨fun i' hn => ?_, fun i' k' => set_read (j := i) hb rfl rfl (fun _ => rfl)⟩
   have hne : i ≠ i' := fun e => hn (by rw [e])
   unfold mks noteC
   simp only [List.map_set, List.getD_eq_getElem?_getD, List.getElem?_set_ne hne]
theorem flip_step (C : Ch) (pb pp bit : Int) : mks (FlipC C pb pp bit).2 = mks C ∧ ∀ i k : Nat, ¬ ((i : Int) = pb ∧ (k : Int) = pp) → readL (FlipC C pb pp bit).2 i k = readL C i k := by
 have idle : mks C = mks C ∧ ∀ i k : Nat, ¬ ((i : Int) = pb ∧ (k : Int) = pp) → readL C i k = readL C i k := ⟨rfl, fun _ _ _ => rfl⟩
 unfold FlipC
 split
 ·exact idle
 split
 ·exact idle
 split
 ·exact idle
 split
 ·exact idle
 ·refine ⟨rfl, fun i k hn => ?_⟩
  unfold readL flS
  simp only [if_neg hn]
structure Sp where
 k : Int
 b : Int
 p : Int
 t : Int
 f : Int
 da : Option Addr
 dn : Nat
 dc : Nat
 d : List Int
def laidL (d : List Int) (fr n : Nat) (f : Int) : List Int := (List.range n).map (fun i => if fr + i < d.length then d.getD (fr + i) 0 else f)
def doneC (C : Ch) (s : Sp) : Ch :=
 if s.k = 1 then (ProgramC C s.b s.p 256 57 (laidL s.d 0 256 s.f ++ laidL s.d 256 57 s.f)).2
 else if s.k = 2 then (EraseC C s.b).2
 else if s.k = 3 then (MarkC C s.b).2
 else if s.k = 4 then (FlipC C s.b s.p s.t).2
 else C
def touB (s : Sp) (x y : Int) : Bool :=
 if x = s.b then (if s.k = 1 ∨ s.k = 4 then y == s.p else if s.k = 2 then decide (0 ≤ y) else if s.k = 3 then y == -1 else false) else false
theorem done_page (C : Ch) (s : Sp) (i k : Nat) (h : touB s i k = false) : readL (doneC C s) i k = readL C i k := by
 unfold touB at h
 unfold doneC
 split
 ·rename_i h1
  refine (prog_step C _ _ _ _ _).2 i k (fun ⟨e1, e2⟩ => ?_)
  rw [if_pos e1, if_pos (Or.inl h1), e2] at h
  simp at h
 split
 ·rename_i h1 h2
  refine (erase_step C _).2 i k (fun e1 => ?_)
  rw [if_pos e1, if_neg (by omega), if_pos h2] at h
  have := of_decide_eq_false h
  omega
 split
 ·exact (mark_step C _).2 i k
 split
 ·rename_i h1 h2 h3 h4
  refine (flip_step C _ _ _).2 i k (fun ⟨e1, e2⟩ => ?_)
  rw [if_pos e1, if_pos (Or.inr h4), e2] at h
  simp at h
 ·rfl
theorem done_mark (C : Ch) (s : Sp) (i : Nat) (h : touB s i (-1) = false) : (mks (doneC C s)).getD i false = (mks C).getD i false := by
 unfold touB at h
 unfold doneC
 split
 ·rw [(prog_step C _ _ _ _ _).1]
 split
 ·rw [(erase_step C _).1]
 split
 ·rename_i h1 h2 h3
  refine (mark_step C _).1 i (fun e1 => ?_)
  rw [if_pos e1, if_neg (by omega), if_neg h2, if_pos h3] at h
  simp at h
 split
 ·rw [(flip_step C _ _ _).1]
 ·rfl
theorem ProgramC_geo (C : Ch) (pb pp : Int) (n1 n2 : Nat) (want : List Int) : (ProgramC C pb pp n1 n2 want).2.B = C.B ∧ (ProgramC C pb pp n1 n2 want).2.P = C.P ∧ (ProgramC C pb pp n1 n2 want).2.S = C.S ∧ (ProgramC C pb pp n1 n2 want).2.tr.length ≤ C.tr.length + 1 := by
 unfold ProgramC
 split
 ·exact ⟨rfl, rfl, rfl, Nat.le_succ _⟩
 split
 ·exact ⟨rfl, rfl, rfl, Nat.le_succ _⟩
 unfold progC noteC
 split
 ·exact ⟨rfl, rfl, rfl, by simp⟩
 split
 ·exact ⟨rfl, rfl, rfl, by simp⟩
 split
 ·exact ⟨rfl, rfl, rfl, by simp⟩
 split
 ·exact ⟨rfl, rfl, rfl, by simp⟩
 ·exact ⟨rfl, rfl, rfl, by simp [progN]⟩
theorem EraseC_geo (C : Ch) (pb : Int) : (EraseC C pb).2.B = C.B ∧ (EraseC C pb).2.P = C.P ∧ (EraseC C pb).2.S = C.S ∧ (EraseC C pb).2.tr.length ≤ C.tr.length + 1 := by
 unfold EraseC
 split
 ·exact ⟨rfl, rfl, rfl, Nat.le_succ _⟩
 unfold eraseC noteC
 split
 ·exact ⟨rfl, rfl, rfl, by simp⟩
 split
 ·exact ⟨rfl, rfl, rfl, by simp⟩
 split
 ·exact ⟨rfl, rfl, rfl, by simp⟩
 ·exact ⟨rfl, rfl, rfl, by simp [eraseN]⟩
theorem MarkC_geo (C : Ch) (pb : Int) : (MarkC C pb).2.B = C.B ∧ (MarkC C pb).2.P = C.P ∧ (MarkC C pb).2.S = C.S ∧ (MarkC C pb).2.tr.length ≤ C.tr.length + 1 := by
 unfold MarkC
 split
 ·exact ⟨rfl, rfl, rfl, Nat.le_succ _⟩
 unfold markC noteC
 split
 ·exact ⟨rfl, rfl, rfl, by simp⟩
 split
 ·exact ⟨rfl, rfl, rfl, by simp⟩
 ·exact ⟨rfl, rfl, rfl, by simp⟩
theorem FlipC_geo (C : Ch) (pb pp bit : Int) : (FlipC C pb pp bit).2.B = C.B ∧ (FlipC C pb pp bit).2.P = C.P ∧ (FlipC C pb pp bit).2.S = C.S ∧ (FlipC C pb pp bit).2.tr.length ≤ C.tr.length + 1 := by
 unfold FlipC
 split
 ·exact ⟨rfl, rfl, rfl, Nat.le_succ _⟩
 split
 ·exact ⟨rfl, rfl, rfl, Nat.le_succ _⟩
 split
 ·exact ⟨rfl, rfl, rfl, Nat.le_succ _⟩
 split
 ·exact ⟨rfl, rfl, rfl, Nat.le_succ _⟩
 ·exact ⟨rfl, rfl, rfl, by simp⟩
structure CI (C : Ch) (n : Nat) : Prop where
 ok : C.Ok
 fl : FlN C n
 tr : C.tr.length ≤ n
 B : C.B = 8
 P : C.P = 4
 S : C.S = 1
theorem done_ci {C : Ch} {n : Nat} (h : CI C n) (s : Sp) : CI (doneC C s) (n + 1) := by
 obtain ⟨h1, h2, h3, h4, h5, h6⟩ := h
 unfold doneC
 split
 ·obtain ⟨g1, g2, g3, g4⟩ := ProgramC_geo C s.b s.p 256 57 (laidL s.d 0 256 s.f ++ laidL s.d 256 57 s.f)
  exact ⟨ProgramC_ok C h1 _ _ _ _ _, fun b p => by rw [ProgramC_fl]; exact Nat.le_trans (h2 b p) (by omega), by omega, by omega, by omega, by omega⟩
 split
 ·obtain ⟨g1, g2, g3, g4⟩ := EraseC_geo C s.b
  exact ⟨EraseC_ok C h1 _, (EraseC_fl h2 _).mono (by omega), by omega, by omega, by omega, by omega⟩
 split
 ·obtain ⟨g1, g2, g3, g4⟩ := MarkC_geo C s.b
  exact ⟨MarkC_ok C h1 _, fun b p => by rw [MarkC_fl]; exact Nat.le_trans (h2 b p) (by omega), by omega, by omega, by omega, by omega⟩
 split
 ·obtain ⟨g1, g2, g3, g4⟩ := FlipC_geo C s.b s.p s.t
  exact ⟨FlipC_ok C h1 _ _ _, FlipC_fl h2 _ _ _, by omega, by omega, by omega, by omega⟩
 ·exact ⟨h1, h2.mono (by omega), by omega, h4, h5, h6⟩
end Go.Proofs.YtnmnhgagnfodhaaDoor.Cp
namespace Go.Proofs.YtnmnhgagnfodhaaDoor
open Go.RowKit
set_option linter.unusedVariables false
theorem ret_bool {a b : Bool} (h : a = b) : Ending.returned (.bool a) = .returned (.bool b) := by rw [h]
theorem ret_int {k : IntKind} {a b : Int} (h : a = b) : Ending.returned (.int k a) = .returned (.int k b) := by rw [h]
def Reads (w : World) (a : Option Addr) (len : Nat) (zs : List Int) : Prop :=
 zs.length = len ∧ (∀ n ∈ zs, 0 ≤ n ∧ n ≤ 255) ∧ (a = none → len = 0) ∧ ∀ x, a = some x → ∀ i, i < len → w.cell? (x.add i) = some (.int .u8 (zs.getD i 0))
def Own (w : World) (B g n cap : Nat) (xs : List Int) : Prop :=
 w.ownsRow B 5 1 (.slice (some ⟨g, 0, none⟩) n cap) n (xs.map (Value.int .u8))
theorem info5 : (Tryd.prog.info? 5).map (fun i => (i.zero, i.size, i.bytes)) = some (some (.int .u8 0), 1, 1) := by kernel_rfl
theorem Reads.news {w : World} {x : Addr} {len : Nat} {zs : List Int} (h : Reads w (some x) len zs) : ∀ j u, (zs.map (Value.int .u8))[j]? = some u → w.cell? (x.add j) = some u := by
 intro j u hj
 obtain ⟨hl, _, _, hc⟩ := h
 rw [List.getElem?_map] at hj
 cases hz : zs[j]? with
 | none => rw [hz] at hj; simp at hj
 | some q =>
  rw [hz] at hj
  simp at hj
  have hlt : j < zs.length := by
   rcases Nat.lt_or_ge j zs.length with h | h
   ·exact h
   ·rw [List.getElem?_eq_none h] at hz; simp at hz
  rw [hc x rfl j (by omega), ← hj]
  simp [List.getD, hz]
theorem Reads.below {w w' : World} {a : Option Addr} {len : Nat} {zs : List Int} (h : Reads w a len zs) (hb : Below w.heap.size w w') : Reads w' a len zs := by
 obtain ⟨hl, hr, hn, hc⟩ := h
 refine ⟨hl, hr, hn, fun x hx i hi => ?_⟩
 have h1 := hc x hx i hi
 rw [hb.cell (block_lt_of_cell h1)]
 exact h1
theorem own_shape {w : World} {B n : Nat} {v : Value} {xs : List Value} (h : w.ownsRow B 5 1 v n xs) (hn : 0 < n) : ∃ g cap, v = .slice (some ⟨g, 0, none⟩) n cap ∧ n ≤ cap ∧ cap ≤ maxLen ∧ B ≤ g ∧ g < w.heap.size := by
 rcases h.2 with ⟨_, h0⟩ | ⟨g, cap, cur, hv, hb, hg, hnc, hcm, _⟩
 ·omega
 ·refine ⟨g, cap, hv, hnc, hcm, hb, ?_⟩
  rcases Nat.lt_or_ge g w.heap.size with h | h
  ·exact h
  ·simp [Array.getElem?_eq_none h] at hg
theorem plain_add (b off j : Nat) : (⟨b, off, none⟩ : Addr).add j = ⟨b, off + j, none⟩ := by unfold Addr.add; split <;> simp_all
theorem Reads.pos {w : World} {a : Option Addr} {len : Nat} {zs : List Int} (h : Reads w a len zs) (hp : 0 < len) :
  ∃ b off, a = some ⟨b, off, none⟩ ∧ b < w.heap.size ∧ ∀ i, i < len → w.cell? ⟨b, off + i, none⟩ = some (.int .u8 (zs.getD i 0)) := by
 obtain ⟨hl, _, hn, hc⟩ := h
 cases a with
 | none => have := hn rfl; omega
 | some x =>
  obtain ⟨b, off, spot⟩ := x
  have h0 := hc _ rfl 0 hp
  have hspot : spot = none := by simpa [Addr.add] using World.cell?_spot h0
  subst hspot
  refine ⟨b, off, rfl, by simpa [Addr.add] using block_lt_of_cell h0, fun i hi => ?_⟩
  have h1 := hc _ rfl i hi
  rw [plain_add] at h1
  exact h1
theorem news_one (w : World) (z : Int) : ∀ j u, [Value.int .u8 z][j]? = some u → (w.alloc (.cells #[.int .u8 z] 5)).cell? ((⟨w.heap.size, 0, none⟩ : Addr).add j) = some u := by
 intro j u hj
 match j, hj with
 | 0, hj => simp at hj; subst hj; simp [Addr.add]
theorem grownBy_trans {a b c : World} {r : Option Nat} (h : a.grownBy b r) (k : b.grownBy c r) : a.grownBy c r :=
 ⟨k.os.trans h.os, k.tape.trans h.tape, k.output.trans h.output, Nat.le_trans h.size k.size, fun i hi hr => (k.block i (Nat.lt_of_lt_of_le hi h.size) hr).trans (h.block i hi hr)⟩
theorem Own.set {w : World} {B g n cap : Nat} {xs : List Int} (h : Own w B g n cap xs) (j : Nat) (z : Int) : Own (w.setCell ⟨g, j, none⟩ (.int .u8 z)) B g n cap (xs.set j z) ∧ w.grownBy (w.setCell ⟨g, j, none⟩ (.int .u8 z)) (some g) := by
 unfold Own at *
 rw [List.map_set]
 exact World.ownsRow.stored h j (.int .u8 z)
theorem Own.len {w : World} {B g n cap : Nat} {xs : List Int} (h : Own w B g n cap xs) : xs.length = n := by
 have := h.1
 simpa using this
theorem Own.cell {w : World} {B g n cap : Nat} {xs : List Int} (h : Own w B g n cap xs) (j : Nat) (hj : j < n) : w.cell? ⟨g, j, none⟩ = some (.int .u8 (xs.getD j 0)) := by
 have hl := h.len
 have h1 := World.ownsRow.cellAt h j (by omega)
 rw [h1, List.getElem?_map, List.getElem?_eq_getElem (by omega)]
 simp [List.getD, List.getElem?_eq_getElem (show j < xs.length by omega)]
theorem conv (a : Option Addr) (n cap : Nat) (zs : List Int) (w : World) (h : Reads w a n zs) : (convert 32 9 (.slice a n cap)).run Tryd.prog w = .ok (.string (strOfNums zs)) w := by
 cases a with
 | none =>
  have h0 := h.2.2.1 rfl
  have hz : zs = [] := List.eq_nil_of_length_eq_zero (by have := h.1; omega)
  subst hz
  exact run_convert_bytes_nil w 32 5 Tryd.underlying32 Tryd.underlying5 n cap 9 Tryd.underlying9
 | some x =>
  have hl : (loadCells x n).run Tryd.prog w = .ok (zs.map (Value.int .u8)).toArray w := by
   have := run_loadCells_list (P := Tryd.prog) w x (zs.map (Value.int .u8)) h.news
   simpa [h.1] using this
  rw [run_convert_bytes_string w 32 9 5 _ n cap Tryd.underlying32 Tryd.underlying5 Tryd.underlying9, run_bytesToString w _ n cap zs hl, foldl_push_bytes]
  simp [strOfNums, ByteArray.empty, ByteArray.emptyWithCapacity]
  rfl
theorem Own.reads {w : World} {B g n cap : Nat} {xs : List Int} (h : Own w B g n cap xs) (hr : ∀ x ∈ xs, 0 ≤ x ∧ x ≤ 255) (m : Nat) (hm : m ≤ n) : Reads w (some ⟨g, 0, none⟩) m (xs.take m) := by
 have hl := h.len
 refine ⟨by simp; omega, fun x hx => hr x (List.mem_of_mem_take hx), (fun h => by cases h), fun x hx i hi => ?_⟩
 cases hx
 rw [plain_add, Nat.zero_add, h.cell i (by omega)]
 simp [List.getD, hi]
theorem Own.below {w w' : World} {B g n cap : Nat} {xs : List Int} (h : Own w B g n cap xs) (hb : Below w.heap.size w w') : Own w' B g n cap xs := by
 obtain ⟨h1, h2⟩ := h
 refine ⟨h1, ?_⟩
 rcases h2 with h2 | ⟨g', cap', cur, hv, hg, hh, r⟩
 ·exact Or.inl h2
 ·refine Or.inr ⟨g', cap', cur, hv, hg, ?_, r⟩
  rw [hb.block g' ?_]
  ·exact hh
  ·rcases Nat.lt_or_ge g' w.heap.size with h | h
   ·exact h
   ·simp [Array.getElem?_eq_none h] at hh
theorem Own.lt {w : World} {B g n cap : Nat} {xs : List Int} (h : Own w B g n cap xs) : B ≤ g ∧ g < w.heap.size :=
 World.ownsRow.lt h g rfl
theorem made0 (w : World) : (w.alloc (.cells #[] 5)).ownsRow w.heap.size 5 1 (.slice (some ⟨w.heap.size, 0, none⟩) 0 0) 0 [] := World.ownsRow_made w #[] 0 (Nat.le_refl _) (by simp [maxLen]) rfl
theorem wpList_append_reads {w : World} {ops : Array Oper} {rest : List Oper} {o : Oper} {a : Act} {Q : Exit → Act → World → Prop} (hgd : o.guard = none) (s x : Operand)
  (ho : o.op = .call { callee := .builtin .append, args := #[s, x], argTypes := #[32, 32] })
  (base : Nat) (v : Value) (n : Nat) (xs : List Int) (hs : a.eval s = v) (hown : w.ownsRow base 5 1 v n (xs.map (Value.int .u8)))
  (ad : Option Addr) (m c : Nat) (zs : List Int) (hx : a.eval x = .slice ad m c) (hrd : Reads w ad m zs)
  (hb : n + m ≤ 140737488355328) (hbase : base ≤ w.heap.size)
  (h : ∀ v' w', w'.ownsRow base 5 1 v' (n + m) ((xs ++ zs).map (Value.int .u8)) → w.grownBy w' v.ownBlock → wpList Tryd.prog ops Q rest (a.put o.dst v') w') : wpList Tryd.prog ops Q (o :: rest) a w := by
 obtain ⟨i0, hi, hz0, hz1, hz2⟩ := info_parts info5
 cases ad with
 | some ad =>
  refine wpList_append_own w hgd s x 32 ho base 5 i0 (.int .u8 0) 1 1 Tryd.underlying32 hi hz0 hz1 hz2 rfl (by decide) v n _ hs hown ad m c (zs.map (Value.int .u8)) hx (by simp [hrd.1]) hrd.news (ints_oneCell _ _) (by simp [maxLen]; omega) (by omega) hbase ?_
  intro v' w' h1 h2 _
  exact h v' w' (by rw [List.map_append]; exact h1) h2
 | none =>
  have h0 := hrd.2.2.1 rfl
  have hz : zs = [] := List.eq_nil_of_length_eq_zero (by have := hrd.1; omega)
  subst h0
  subst hz
  have hrun : (Builtin.append_ #[32, 32] o.type #[v, .slice none 0 c]).run Tryd.prog w = .ok v w := by
   rcases hown.2 with ⟨rfl, rfl⟩ | ⟨g, cap, cur, rfl, _, _, hnc, _⟩
   ·simp [Builtin.append_, run_underlying Tryd.underlying32, sizeOf, typeInfo, hi, Builtin.lenOf, Builtin.firstCells]
   ·simp [Builtin.append_, run_underlying Tryd.underlying32, sizeOf, typeInfo, hi, Builtin.lenOf, Builtin.firstCells, hnc, storeCells]
  refine wpList_plain hgd fun K hK => ?_
  unfold Oper.wp
  simp [execOp, ho, resolve, invoke, builtin, hs, hx, hrun, Result.andThen]
  exact hK _ _ (h v w (by simpa using hown) (World.grownBy.refl _ _))
theorem byteAt {zs : List Int} (h : ∀ x ∈ zs, 0 ≤ x ∧ x ≤ 255) (i : Nat) : 0 ≤ zs.getD i 0 ∧ zs.getD i 0 ≤ 255 := by
 rcases Nat.lt_or_ge i zs.length with h1 | h1
 ·rw [List.getD_eq_getElem?_getD, List.getElem?_eq_getElem h1]
  exact h _ (List.getElem_mem h1)
 ·rw [List.getD_eq_getElem?_getD, List.getElem?_eq_none h1]
  simp
theorem own_any {w : World} {B n : Nat} {v : Value} {xs : List Int} (h : w.ownsRow B 5 1 v n (xs.map (Value.int .u8))) (hr : ∀ x ∈ xs, 0 ≤ x ∧ x ≤ 255) : ∃ a c, v = .slice a n c ∧ Reads w a n xs := by
 have hl : xs.length = n := by have := h.1; simpa using this
 rcases h.2 with ⟨hv, h0⟩ | ⟨g, cap, cur, hv, _⟩
 ·subst h0
  exact ⟨none, 0, hv, hl, hr, fun _ => rfl, fun _ h => by cases h⟩
 ·subst hv
  have := Own.reads h hr n (Nat.le_refl _)
  rw [List.take_of_length_le (by omega)] at this
  exact ⟨_, _, rfl, this⟩
theorem bytes_ext {a b : ByteArray} (h : a.data.toList = b.data.toList) : a = b := by
 obtain ⟨⟨a⟩⟩ := a
 obtain ⟨⟨b⟩⟩ := b
 simpa using h
end Go.Proofs.YtnmnhgagnfodhaaDoor
namespace Go.Proofs.YtnmnhgagnfodhaaDoor
open Go.RowKit
set_option linter.unusedVariables false
def Fits (b p s : Int) : Bool := decide (8 ≤ b ∧ b ≤ 4096 ∧ 4 ≤ p ∧ p ≤ 256 ∧ 1 ≤ s ∧ s ≤ 8 ∧ b * p ≤ 65536)
theorem ways (b p s : Int) : b < 8 ∨ (8 ≤ b ∧ 4096 < b) ∨ (8 ≤ b ∧ b ≤ 4096 ∧ p < 4) ∨ (8 ≤ b ∧ b ≤ 4096 ∧ 4 ≤ p ∧ 256 < p) ∨ (8 ≤ b ∧ b ≤ 4096 ∧ 4 ≤ p ∧ p ≤ 256 ∧ s < 1) ∨ (8 ≤ b ∧ b ≤ 4096 ∧ 4 ≤ p ∧ p ≤ 256 ∧ 1 ≤ s ∧ 8 < s) ∨
  (8 ≤ b ∧ b ≤ 4096 ∧ 4 ≤ p ∧ p ≤ 256 ∧ 1 ≤ s ∧ s ≤ 8 ∧ 0 ≤ b * p ∧ b * p ≤ 1048576) := by
 by_cases h : 8 ≤ b ∧ b ≤ 4096 ∧ 4 ≤ p ∧ p ≤ 256
 ·have h1 : 0 ≤ b * p := Int.mul_nonneg (by omega) (by omega)
  have h2 : b * p ≤ 4096 * 256 := Int.mul_le_mul (by omega) (by omega) (by omega) (by omega)
  omega
 ·omega
set_option maxHeartbeats 1000000 in
theorem mayBe_any (b p s : Int) (w : World) : Calls Tryd.prog 19 #[.agg #[.int .i64 b, .int .i64 p, .int .i64 s]] w fun e w' => e = .returned (.bool (Fits b p s)) ∧ Below w.heap.size w w' := by
 rcases ways b p s with h | ⟨h1, h⟩ | ⟨h1, h2, h⟩ | ⟨h1, h2, h3, h⟩ | ⟨h1, h2, h3, h4, h⟩ | ⟨h1, h2, h3, h4, h5, h⟩ | ⟨h1, h2, h3, h4, h5, h6, h7, h8⟩
 all_goals
  go_enter Tryd.func19, Tryd.ntmps19
  go_wp2
  go_ret
  exact ⟨ret_bool (by first | exact (decide_eq_true (by omega)).symm | exact (decide_eq_false (by omega)).symm | (unfold Fits; rw [decide_eq_decide]; omega)), (Below.refl _ _).alloc (Nat.le_refl _) _⟩
theorem fits_s {b p s : Int} (h : Fits b p s = true) : 1 ≤ s ∧ s ≤ 8 := by
 have := of_decide_eq_true h
 omega
theorem spareBytes_any (b p s : Int) (w : World) (h0 : 1 ≤ s) (h1 : s ≤ 8) : Calls Tryd.prog 49 #[.agg #[.int .i64 b, .int .i64 p, .int .i64 s]] w fun e w' => e = .returned (.int .i64 (54 + 3 * s)) ∧ Below w.heap.size w w' := by
 go_enter Tryd.func49, Tryd.ntmps49
 go_wp2
 go_ret
 exact ⟨rfl, (Below.refl _ _).alloc (Nat.le_refl _) _⟩
def spN (b p s : Int) : Int := if Fits b p s then 54 + 3 * s else 0
def spE (b p s : Int) : Int := if Fits b p s then 0 else 40
theorem box3 {w u : World} {b p s : Int} (h : Below (w.alloc (.cells #[.int .i64 b, .int .i64 p, .int .i64 s] 30)).heap.size (w.alloc (.cells #[.int .i64 b, .int .i64 p, .int .i64 s] 30)) u) :
  u.cell? ⟨w.heap.size, 0, none⟩ = some (.int .i64 b) ∧ u.cell? ⟨w.heap.size, 1, none⟩ = some (.int .i64 p) ∧ u.cell? ⟨w.heap.size, 2, none⟩ = some (.int .i64 s) := by
 refine ⟨?_, ?_, ?_⟩ <;> (rw [h.cell (by simp)]; simp)
set_option maxHeartbeats 1000000 in
theorem spare_any (b p s : Int) (w : World) : Calls Tryd.prog 44 #[.agg #[.int .i64 b, .int .i64 p, .int .i64 s]] w fun e w' => e = .returned (.tuple #[.int .i64 (spN b p s), .int .i64 (spE b p s)]) ∧ Below w.heap.size w w' := by
 have hb0 : Below w.heap.size w (w.alloc (.cells #[.int .i64 b, .int .i64 p, .int .i64 s] 30)) := (Below.refl _ _).alloc (Nat.le_refl _) _
 cases hf : Fits b p s with
 | true =>
  have hs := fits_s hf
  unfold spN spE
  rw [hf]
  go_enter Tryd.func44, Tryd.ntmps44
  go_wp2_with (first
   | (go_at_call 19; refine (mayBe_any _ _ _ _).mono ?_; rintro e u1 ⟨rfl, bel1⟩; rw [hf]; obtain ⟨c0, c1, c2⟩ := box3 bel1)
   | (go_at_call 49; refine (spareBytes_any _ _ _ _ hs.1 hs.2).mono ?_; rintro e u2 ⟨rfl, bel2⟩))
  go_ret2
  have hb1 := hb0.trans (bel1.mono hb0.size)
  exact ⟨rfl, hb1.trans (bel2.mono hb1.size)⟩
 | false =>
  unfold spN spE
  rw [hf]
  go_enter Tryd.func44, Tryd.ntmps44
  go_wp2_with (first
   | (go_at_call 19; refine (mayBe_any _ _ _ _).mono ?_; rintro e u1 ⟨rfl, bel1⟩; rw [hf]))
  go_ret2
  exact ⟨rfl, hb0.trans (bel1.mono hb0.size)⟩
theorem fits_all {b p s : Int} (h : Fits b p s = true) : 8 ≤ b ∧ b ≤ 4096 ∧ 4 ≤ p ∧ p ≤ 256 ∧ 1 ≤ s ∧ s ≤ 8 ∧ 0 ≤ b * p ∧ b * p ≤ 65536 := by
 have h0 := of_decide_eq_true h
 have h1 : 0 ≤ b * p := Int.mul_nonneg (by omega) (by omega)
 omega
theorem pagesIn_any (b p s : Int) (w : World) (h0 : 0 ≤ b * p) (h1 : b * p ≤ 65536) : Calls Tryd.prog 45 #[.agg #[.int .i64 b, .int .i64 p, .int .i64 s]] w fun e w' => e = .returned (.int .i64 (b * p)) ∧ Below w.heap.size w w' := by
 go_enter Tryd.func45, Tryd.ntmps45
 go_wp2
 go_ret
 exact ⟨rfl, (Below.refl _ _).alloc (Nat.le_refl _) _⟩
theorem dataBytes_any (b p s : Int) (w : World) (h0 : 1 ≤ s) (h1 : s ≤ 8) : Calls Tryd.prog 35 #[.agg #[.int .i64 b, .int .i64 p, .int .i64 s]] w fun e w' => e = .returned (.int .i64 (256 * s)) ∧ Below w.heap.size w w' := by
 go_enter Tryd.func35, Tryd.ntmps35
 go_wp2
 go_ret
 exact ⟨rfl, (Below.refl _ _).alloc (Nat.le_refl _) _⟩
theorem pageBytes_any (b p s : Int) (w : World) (hf : Fits b p s = true) : Calls Tryd.prog 46 #[.agg #[.int .i64 b, .int .i64 p, .int .i64 s]] w fun e w' => e = .returned (.int .i64 (256 * s + (54 + 3 * s))) ∧ Below w.heap.size w w' := by
 have hb0 : Below w.heap.size w (w.alloc (.cells #[.int .i64 b, .int .i64 p, .int .i64 s] 30)) := (Below.refl _ _).alloc (Nat.le_refl _) _
 have hs := fits_s hf
 have e1 : spN b p s = 54 + 3 * s := by unfold spN; rw [hf]; rfl
 go_enter Tryd.func46, Tryd.ntmps46
 go_wp2_with (first
  | (go_at_call 44; refine (spare_any _ _ _ _).mono ?_; rintro e u1 ⟨rfl, bel1⟩; rw [e1]; obtain ⟨c0, c1, c2⟩ := box3 bel1)
  | (go_at_call 35; refine (dataBytes_any _ _ _ _ hs.1 hs.2).mono ?_; rintro e u2 ⟨rfl, bel2⟩))
 go_ret
 have hb1 := hb0.trans (bel1.mono hb0.size)
 exact ⟨rfl, hb1.trans (bel2.mono hb1.size)⟩
end Go.Proofs.YtnmnhgagnfodhaaDoor
