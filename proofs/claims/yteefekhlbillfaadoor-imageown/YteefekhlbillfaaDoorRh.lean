/-
  SEAT YteefekhlbillfaaDoor: one piece is read: all cases; where it may stand.
-/
import Derived.Test.YteefekhlbillfaaDoorRg
namespace Go.Proofs.YteefekhlbillfaaDoor
open Go.RowKit
set_option linter.unusedVariables false

/-- A piece's page: none, or a row of its own. -/
def PgAt (w : World) (B : Nat) (a : Option Addr) (l : Nat) (g : List Int) : Prop :=
  (a = none ∧ l = 0 ∧ g = []) ∨ ∃ b, a = some ⟨b, 0, none⟩ ∧ B ≤ b ∧ Ty5 w b ∧ Reads w a l g

theorem PgAt.reads {w : World} {B l : Nat} {a : Option Addr} {g : List Int} (h : PgAt w B a l g) : Reads w a l g := by
  rcases h with ⟨rfl, rfl, rfl⟩ | ⟨b, rfl, _, _, h⟩
  · exact ⟨rfl, by simp, fun _ => rfl, fun x hx => by cases hx⟩
  · exact h

theorem PgAt.base {w : World} {B B' l : Nat} {a : Option Addr} {g : List Int} (h : PgAt w B a l g) (hb : B' ≤ B) : PgAt w B' a l g := by
  rcases h with h | ⟨b, h1, h2, h3, h4⟩
  · exact Or.inl h
  · exact Or.inr ⟨b, h1, by omega, h3, h4⟩

/-- Behind what writes no row of bytes. -/
theorem PgAt.kept {w w' : World} {B l : Nat} {a : Option Addr} {g : List Int} {r : Option Nat} (h : PgAt w B a l g) (hg : w.grownBy w' r) (hr : ∀ j, r = some j → ¬ Ty5 w j) : PgAt w' B a l g := by
  rcases h with h | ⟨b, rfl, h2, ⟨cs, f, h3⟩, h4⟩
  · exact Or.inl h
  · have hne : some b ≠ r := fun e => hr b e.symm ⟨cs, f, h3⟩
    have hlt := (Array.getElem?_eq_some_iff.1 h3).1
    have hk := hg.block b hlt hne
    refine Or.inr ⟨b, rfl, h2, ⟨cs, f, hk.trans h3⟩, h4.1, h4.2.1, h4.2.2.1, fun x hx i hi => ?_⟩
    cases hx
    have h9 := h4.2.2.2 _ rfl i hi
    rw [plain_add] at h9 ⊢
    rw [← h9]
    simp only [World.cell?, hk]

theorem PgAt.below {w w' : World} {B l : Nat} {a : Option Addr} {g : List Int} (h : PgAt w B a l g) (hg : Below w.heap.size w w') : PgAt w' B a l g := h.kept (grown_of hg none) (fun j e => by cases e)

theorem not_ty5 {w : World} {j : Nat} {cs : Array Value} {t : TypeId} {f : Nat × Nat} (h : w.heap[j]? = some (.cells cs t f)) (ht : t ≠ 5) : ¬ Ty5 w j := by
  rintro ⟨cs', f', h'⟩
  rw [h] at h'
  injection h' with h'
  injection h' with _ h'
  exact ht h'

def PcRes (w w' : World) (B q : Nat) (e : Ending) : Except Int (Pc × List Int) → Prop
  | .error x => e = .returned (.tuple #[.agg #[.int .i64 0, .int .i64 0, .slice none 0 0], .int .i64 x]) ∧ (x = 10 ∨ x = 47)
  | .ok (p, r) => ∃ a l c, e = .returned (.tuple #[.agg #[.int .i64 (p.k : Int), .int .i64 (p.n : Int), .slice a l c], .int .i64 0]) ∧ PgAt w' w.heap.size a l p.g ∧ RdAt w' B q r ∧ p.k ≤ 2 ∧ 0 < p.n ∧ p.n ≤ 65535 ∧ l ≤ 4000

theorem getL_head (k : Int) (r : List Int) : getL (k :: r) 0 1 = k := by simp [getL]
theorem getL_two (k x y : Int) (t : List Int) : getL ((k :: x :: y :: t).drop 1) 0 2 = x + 256 * y := by simp [getL]; omega

theorem piece_any (B q b p s left C S : Nat) (hC : C = 256 * s) (hS : S = 54 + 3 * s) (rest : List Int) (w : World) (hR : RdAt w B q rest) (hl : rest.length ≤ 200000000000000) (hf : Fits (b : Int) (p : Int) (s : Int) = true) (hleft : left ≤ 70000) (h0 : 0 < left) :
    Calls Tryd.prog 58 #[.pointer (some ⟨q, 0, none⟩), .agg #[.int .i64 (b : Int), .int .i64 (p : Int), .int .i64 (s : Int)], .int .i64 (left : Int)] w fun e w' => PcRes w w' B q e (rdPiece C S left rest) ∧ w.grownBy w' (some q) := by
  have hby := hR.byt
  have hs := fits_s hf
  match rest, hR, hl, hby with
  | [], hR, hl, hby =>
    exact (pc_s1 B q b p s left C S hC hS [] w hR hl hf hleft (by simp)).mono fun e w' h => ⟨⟨h.1, Or.inl rfl⟩, h.2⟩
  | k :: r, hR, hl, hby =>
    obtain ⟨kd, hk⟩ := Int.eq_ofNat_of_zero_le (hby k (by simp)).1
    have hk1 : getL (k :: r) 0 1 = (kd : Int) := by rw [getL_head, hk]
    by_cases h2 : 2 < k
    · refine (pc_kind B q b p s left C S hC hS (k :: r) w hR hl hf hleft (by simp) kd hk1 (by omega)).mono fun e w' h => ⟨?_, h.2⟩
      simp only [rdPiece, if_pos h2]
      exact ⟨h.1, Or.inr rfl⟩
    · match r, hR, hl, hby, hk1 with
      | [], hR, hl, hby, hk1 =>
        refine (pc_s3 B q b p s left C S hC hS [k] w hR hl hf hleft (by simp) (by simp) kd hk1 (by omega)).mono fun e w' h => ⟨?_, h.2⟩
        simp only [rdPiece, if_neg h2]
        exact ⟨h.1, Or.inl rfl⟩
      | [x], hR, hl, hby, hk1 =>
        refine (pc_s3 B q b p s left C S hC hS [k, x] w hR hl hf hleft (by simp) (by simp) kd hk1 (by omega)).mono fun e w' h => ⟨?_, h.2⟩
        simp only [rdPiece, if_neg h2]
        exact ⟨h.1, Or.inl rfl⟩
      | x :: y :: t, hR, hl, hby, hk1 =>
        have hx := hby x (by simp)
        have hy := hby y (by simp)
        obtain ⟨n, hn⟩ : ∃ n : Nat, (x + 256 * y).toNat = n := ⟨_, rfl⟩
        have hnn : getL ((k :: x :: y :: t).drop 1) 0 2 = (n : Int) := by rw [getL_two]; omega
        have hn5 : n ≤ 65535 := by omega
        have hl3 : 3 ≤ (k :: x :: y :: t).length := by simp
        have hl1 : 1 ≤ (k :: x :: y :: t).length := by simp
        have hd3 : (k :: x :: y :: t).drop 3 = t := rfl
        by_cases h1 : k = 1
        · have hk1' : getL (k :: x :: y :: t) 0 1 = 1 := by rw [getL_head, h1]
          by_cases c1 : C < n
          · refine (pc_tbig B q b p s left C S hC hS _ w hR hl hf hleft hl1 hl3 hk1' n hn5 hnn c1).mono fun e w' h => ⟨?_, h.2⟩
            simp only [rdPiece, if_neg h2, if_pos h1, hn, if_pos c1]
            exact ⟨h.1, Or.inr rfl⟩
          · by_cases c2 : t.length < n + S
            · refine (pc_tshort B q b p s left C S hC hS _ w hR hl hf hleft hl1 hl3 hk1' n hn5 hnn (by omega) (by rw [hd3]; exact c2)).mono fun e w' h => ⟨?_, h.2⟩
              simp only [rdPiece, if_neg h2, if_pos h1, hn, if_neg c1, if_pos c2]
              exact ⟨h.1, Or.inl rfl⟩
            · by_cases c3 : wrN (t.take n) < n
              · refine (pc_tbad B q b p s left C S hC hS _ w hR hl hf hleft hl1 hl3 hk1' n hn5 hnn (by omega) (by rw [hd3]; omega) (by rw [hd3]; exact c3)).mono fun e w' h => ⟨?_, h.2⟩
                simp only [rdPiece, if_neg h2, if_pos h1, hn, if_neg c1, if_neg c2, if_pos c3]
                exact ⟨h.1, Or.inr rfl⟩
              · refine (pc_tok B q b p s left C S hC hS _ w hR hl hf hleft hl1 hl3 hk1' n hn5 hnn (by omega) (by rw [hd3]; omega) (by rw [hd3]; exact c3)).mono fun e w' h => ?_
                obtain ⟨g, cc, he, ho, hr, hg⟩ := h
                refine ⟨?_, hg⟩
                simp only [rdPiece, if_neg h2, if_pos h1, hn, if_neg c1, if_neg c2, if_neg c3]
                rw [hd3] at ho
                have hr' : RdAt w' B q (t.drop (n + S)) := by
                  have e9 : (k :: x :: y :: t).drop (3 + (n + S)) = t.drop (n + S) := by rw [← List.drop_drop]; rfl
                  rw [e9] at hr; exact hr
                have hpb : Byt (pgT C S n t) := by
                  intro z hz
                  unfold pgT at hz
                  rcases List.mem_append.1 hz with hz | hz
                  · rcases List.mem_append.1 hz with hz | hz
                    · exact hby z (by simp [List.mem_of_mem_take hz])
                    · rw [List.eq_of_mem_replicate hz]; omega
                  · exact hby z (by have := List.mem_of_mem_drop (List.mem_of_mem_take hz); simp [this])
                obtain ⟨cur, hcur⟩ := ho.blk
                refine ⟨_, _, _, he, Or.inr ⟨g, rfl, ho.lt.1, ⟨_, _, hcur⟩, ?_⟩, hr', by simp, by simp, by simp, by omega⟩
                exact ho.all hpb
        · have hkd : kd = 0 ∨ kd = 2 := by
            have := (hby k (by simp)).1
            omega
          by_cases c0 : n = 0
          · refine (pc_nz B q b p s left C S hC hS _ w hR hl hf hleft hl1 hl3 kd hk1 hkd (by rw [hnn, c0]; rfl)).mono fun e w' h => ⟨?_, h.2⟩
            simp only [rdPiece, if_neg h2, if_neg h1, hn, if_pos (Or.inl c0 : n = 0 ∨ left < n)]
            exact ⟨h.1, Or.inr rfl⟩
          · by_cases c1 : left < n
            · refine (pc_nbig B q b p s left C S hC hS _ w hR hl hf hleft hl1 hl3 kd hk1 hkd n hn5 hnn c1).mono fun e w' h => ⟨?_, h.2⟩
              simp only [rdPiece, if_neg h2, if_neg h1, hn, if_pos (Or.inr c1 : n = 0 ∨ left < n)]
              exact ⟨h.1, Or.inr rfl⟩
            · refine (pc_nok B q b p s left C S hC hS _ w hR hl hf hleft hl1 hl3 kd hk1 hkd n hn5 hnn (by omega) (by omega)).mono fun e w' h => ⟨?_, h.2.2⟩
              simp only [rdPiece, if_neg h2, if_neg h1, hn, if_neg (by omega : ¬ (n = 0 ∨ left < n))]
              have ek : k.toNat = kd := by omega
              refine ⟨none, 0, 0, ?_, Or.inl ⟨rfl, rfl, rfl⟩, ?_, by simp only [ek]; omega, by simp only; omega, by simp only; omega, by omega⟩
              · rw [h.1, ek]
              · exact h.2.1

end Go.Proofs.YteefekhlbillfaaDoor
