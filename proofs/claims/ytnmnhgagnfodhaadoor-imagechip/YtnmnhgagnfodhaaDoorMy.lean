/-
  SEAT YtnmnhgagnfodhaaDoor: Pi, Crc, Pj.
-/
import Derived.Test.YtnmnhgagnfodhaaDoorMw
import Derived.Test.YtnmnhgagnfodhaaDoorRows
namespace Go.Proofs.YtnmnhgagnfodhaaDoor
set_option linter.unusedVariables false
def blankB (p : List Int) : Bool := p.all (· == 255)
def wrN : List Int → Nat
 | [] => 0
 | x :: r => if wrN r = 0 ∧ x = 255 then 0 else wrN r + 1
theorem wrN_le (b : List Int) : wrN b ≤ b.length := by
 induction b with
 | nil => simp [wrN]
 | cons x r ih => unfold wrN; split <;> simp <;> omega
theorem wrN_zero (b : List Int) : wrN b = 0 ↔ blankB b = true := by
 induction b with
 | nil => simp [wrN, blankB]
 | cons x r ih =>
  unfold wrN
  simp only [blankB, List.all_cons, Bool.and_eq_true] at ih ⊢
  rw [← ih]
  constructor
  ·intro h
   split at h
   ·next hh => exact ⟨by simpa using hh.2, hh.1⟩
   ·omega
  ·rintro ⟨h1, h2⟩
   rw [if_pos ⟨h2, by simpa using h1⟩]
theorem wrN_take (b : List Int) : b.take (wrN b) ++ List.replicate (b.length - wrN b) 255 = b := by
 induction b with
 | nil => simp [wrN]
 | cons x r ih =>
  unfold wrN
  split
  ·next h =>
   rw [h.1] at ih
   simp at ih
   simp [h.2, List.replicate_succ, ih]
  ·next h => simp [ih]
theorem blank_rep (k : Nat) : blankB (List.replicate k 255) = true := by simp [blankB]
theorem blank_eq {p : List Int} (h : blankB p = true) : p = List.replicate p.length 255 := by
 induction p with
 | nil => rfl
 | cons x r ih =>
  simp only [blankB, List.all_cons, Bool.and_eq_true] at h ih
  rw [List.length_cons, List.replicate_succ, ← ih h.2]
  congr 1
  simpa using h.1
theorem wrN_app (t : List Int) (k : Nat) : wrN (t ++ List.replicate k 255) = wrN t := by
 induction t with
 | nil => simp [wrN, (wrN_zero _).2 (blank_rep k)]
 | cons x r ih => simp [wrN, ih]
theorem wrN_self (b : List Int) : wrN (b.take (wrN b)) = wrN b := by
 have h := wrN_app (b.take (wrN b)) (b.length - wrN b)
 rw [wrN_take] at h
 exact h.symm
theorem wrN_char (b : List Int) (n : Nat) (h1 : n ≤ b.length) (h2 : ∀ i, n ≤ i → i < b.length → b.getD i 0 = 255) (h3 : n = 0 ∨ b.getD (n - 1) 0 ≠ 255) : wrN b = n := by
 have e : b = b.take n ++ List.replicate (b.length - n) 255 := by
  apply List.ext_getElem
  ·simp; omega
  ·intro i hi _
   by_cases hin : i < n
   ·rw [List.getElem_append_left (by simp; omega)]; simp
   ·rw [List.getElem_append_right (by simp; omega)]
    have := h2 i (by omega) hi
    rw [List.getD_eq_getElem?_getD, List.getElem?_eq_getElem hi] at this
    simpa using this
 rw [e, wrN_app]
 rcases Nat.eq_zero_or_pos n with h0 | hn
 ·subst h0; simp [wrN]
 ·have h3' : b.getD (n - 1) 0 ≠ 255 := h3.resolve_left (by omega)
  have : ∀ (t : List Int), t ≠ [] → t.getD (t.length - 1) 0 ≠ 255 → wrN t = t.length := by
   intro t
   induction t with
   | nil => intro h; exact absurd rfl h
   | cons x r ih =>
    intro _ hh
    unfold wrN
    cases r with
    | nil =>
     simp at hh
     simp [wrN, hh]
    | cons y r' =>
     have := ih (by simp) (by simpa using hh)
     rw [this]
     simp
  have hl : (b.take n).length = n := by simp; omega
  have h4 := this (b.take n) (by intro h; rw [h] at hl; simp at hl; omega) (by
   rw [hl, List.getD_eq_getElem?_getD, List.getElem?_take_of_lt (by omega), ← List.getD_eq_getElem?_getD]
   exact h3')
  rw [h4, hl]
def le2 (n : Nat) : List Int := [((n % 256 : Nat) : Int), ((n / 256 : Nat) : Int)]
structure Pc where
 k : Nat
 n : Nat
 g : List Int
def Pc.z : Pc := ⟨0, 0, []⟩
def stands (p a : Pc) : Bool :=
 if p.k = 1 then !blankB p.g && !(p.g == a.g)
 else if p.k = 2 ∧ a.k = 0 then false
 else p.k != a.k || a.n == 0 || a.n == 65535
def enc (C : Nat) (p : Pc) : List Int :=
 if p.k = 1 then [1] ++ le2 (wrN (p.g.take C)) ++ (p.g.take (wrN (p.g.take C)) ++ p.g.drop C)
 else [(p.k : Int)] ++ le2 p.n
def encs (C : Nat) (ps : List Pc) : List Int := ps.flatMap (enc C)
def pgs (ps : List Pc) : List (List Int) := ps.flatMap fun p => List.replicate p.n p.g
def cnt (ps : List Pc) : Nat := (ps.map (·.n)).sum
def okP (L : Nat) (a p : Pc) : Prop :=
 stands p a = true ∧ (p.k = 0 ∧ 1 ≤ p.n ∧ p.n ≤ 65535 ∧ p.g = List.replicate L 255 ∨ p.k = 1 ∧ p.n = 1 ∧ p.g.length = L ∨ p.k = 2 ∧ 1 ≤ p.n ∧ p.n ≤ 65535 ∧ p.g = a.g)
def chain (L : Nat) : Pc → List Pc → Prop
 | _, [] => True
 | a, p :: r => okP L a p ∧ chain L p r
def lastP : Pc → List Pc → Pc
 | a, [] => a
 | _, p :: r => lastP p r
theorem lastP_snoc (a : Pc) (ps : List Pc) (p : Pc) : lastP a (ps ++ [p]) = p := by
 induction ps generalizing a with
 | nil => rfl
 | cons x r ih => exact ih x
theorem chain_snoc (L : Nat) (a : Pc) (ps : List Pc) (p : Pc) : chain L a (ps ++ [p]) ↔ chain L a ps ∧ okP L (lastP a ps) p := by
 induction ps generalizing a with
 | nil => simp [chain, lastP]
 | cons x r ih => simp [chain, lastP, ih, and_assoc]
theorem stands_n (p a : Pc) (n : Nat) : stands ⟨p.k, n, p.g⟩ a = stands p a := rfl
theorem okP_more {L : Nat} {a p : Pc} (h : okP L a p) (hk : p.k ≠ 1) (hn : p.n < 65535) : okP L a ⟨p.k, p.n + 1, p.g⟩ := by
 obtain ⟨h1, h2⟩ := h
 refine ⟨by rw [stands_n]; exact h1, ?_⟩
 rcases h2 with ⟨e1, e2, e3, e4⟩ | ⟨e1, _⟩ | ⟨e1, e2, e3, e4⟩
 ·exact Or.inl ⟨e1, by simp, Nat.succ_le_of_lt hn, e4⟩
 ·exact absurd e1 hk
 ·exact Or.inr (Or.inr ⟨e1, by simp, Nat.succ_le_of_lt hn, e4⟩)
theorem pgs_append (ps qs : List Pc) : pgs (ps ++ qs) = pgs ps ++ pgs qs := by simp [pgs]
theorem pgs_length (ps : List Pc) : (pgs ps).length = cnt ps := by
 induction ps with
 | nil => rfl
 | cons p r ih => simp [pgs, cnt] at ih ⊢
def NB (a : Pc) : Prop := a.k = 0 ∨ blankB a.g = false
theorem nb_step {L : Nat} {a p : Pc} (h : okP L a p) (hn : NB a) : NB p := by
 obtain ⟨h1, ⟨e1, _⟩ | ⟨e1, _⟩ | ⟨e1, _, _, e4⟩⟩ := h
 ·exact Or.inl e1
 ·unfold stands at h1
  rw [if_pos e1] at h1
  simp at h1
  exact Or.inr h1.1
 ·right
  rw [e4]
  rcases hn with h | h
  ·unfold stands at h1
   rw [if_neg (by omega), if_pos ⟨e1, h⟩] at h1
   cases h1
  ·exact h
theorem nb_last {L : Nat} {a : Pc} {ps : List Pc} (h : chain L a ps) (hn : NB a) : NB (lastP a ps) := by
 induction ps generalizing a with
 | nil => exact hn
 | cons p r ih => exact ih h.2 (nb_step h.1 hn)
theorem chain_exists (L : Nat) (hL : 0 < L) (P : List (List Int)) (hP : ∀ g ∈ P, g.length = L) :
  ∃ ps, chain L Pc.z ps ∧ pgs ps = P ∧ (∀ q, P.getLast? = some q → (lastP Pc.z ps).g = q) ∧ (P = [] → ps = []) := by
 have key : ∀ (R : List (List Int)), (∀ g ∈ R, g.length = L) → ∃ ps, chain L Pc.z ps ∧ pgs ps = R.reverse ∧ (∀ q, R.head? = some q → (lastP Pc.z ps).g = q) ∧ (R = [] → ps = []) := by
  intro R
  induction R with
  | nil => intro _; exact ⟨[], trivial, rfl, (fun q h => by cases h), fun _ => rfl⟩
  | cons g R ih =>
   intro hR
   obtain ⟨ps, c1, c2, c3, c4⟩ := ih (fun x hx => hR x (by simp [hx]))
   have hg : g.length = L := hR g (by simp)
   have hnb := nb_last c1 (Or.inl rfl : NB Pc.z)
   -- append a new piece
   have new : ∀ p : Pc, p.n = 1 → p.g = g → okP L (lastP Pc.z ps) p → ∃ ps, chain L Pc.z ps ∧ pgs ps = (g :: R).reverse ∧ (∀ q, (g :: R).head? = some q → (lastP Pc.z ps).g = q) ∧ (g :: R = [] → ps = []) := by
    intro p hn hg' hok
    refine ⟨ps ++ [p], (chain_snoc _ _ _ _).2 ⟨c1, hok⟩, ?_, ?_, (fun h => by cases h)⟩
    ·rw [pgs_append, c2]
     simp [pgs, hn, hg']
    ·intro q hq
     rw [lastP_snoc, hg']
     simpa using hq
   -- or make the last one longer
   have more : ∀ k : Nat, k ≠ 1 → (lastP Pc.z ps).k = k → (lastP Pc.z ps).n ≠ 0 → (lastP Pc.z ps).n ≠ 65535 → (lastP Pc.z ps).g = g → ∃ ps, chain L Pc.z ps ∧ pgs ps = (g :: R).reverse ∧ (∀ q, (g :: R).head? = some q → (lastP Pc.z ps).g = q) ∧ (g :: R = [] → ps = []) := by
    intro k hk1 hk hn0 hn1 hgg
    rcases List.eq_nil_or_concat ps with hnil | ⟨qs, p, hps⟩
    ·subst hnil; exact absurd rfl hn0
    ·rw [List.concat_eq_append] at hps
     subst hps
     rw [lastP_snoc] at hk hn0 hn1 hgg
     obtain ⟨d1, d2⟩ := (chain_snoc _ _ _ _).1 c1
     have hb : p.n ≤ 65535 := by
      obtain ⟨_, ⟨_, _, h, _⟩ | ⟨_, h, _⟩ | ⟨_, _, h, _⟩⟩ := d2 <;> omega
     refine ⟨qs ++ [⟨p.k, p.n + 1, p.g⟩], (chain_snoc _ _ _ _).2 ⟨d1, okP_more d2 (by omega) (by omega)⟩, ?_, ?_, (fun h => by cases h)⟩
     ·rw [pgs_append] at c2 ⊢
      simp only [List.reverse_cons, ← c2]
      simp [pgs, List.replicate_succ', hgg]
     ·intro q hq
      rw [lastP_snoc]
      simp at hq
      simp [hgg, hq]
   by_cases hb : blankB g = true
   ·have hge : g = List.replicate L 255 := by rw [← hg]; exact blank_eq hb
    by_cases hx : (lastP Pc.z ps).k = 0 ∧ (lastP Pc.z ps).n ≠ 0 ∧ (lastP Pc.z ps).n ≠ 65535
    ·refine more 0 (by omega) hx.1 hx.2.1 hx.2.2 ?_
     rcases List.eq_nil_or_concat ps with hnil | ⟨qs, p, hps⟩
     ·subst hnil; exact absurd rfl hx.2.1
     ·rw [List.concat_eq_append] at hps
      subst hps
      rw [lastP_snoc] at hx ⊢
      obtain ⟨_, d2⟩ := (chain_snoc _ _ _ _).1 c1
      obtain ⟨_, ⟨_, _, _, h⟩ | ⟨h, _⟩ | ⟨h, _⟩⟩ := d2
      ·rw [h, hge]
      ·omega
      ·omega
    ·refine new ⟨0, 1, g⟩ rfl rfl ⟨?_, Or.inl ⟨rfl, by simp, by simp, hge⟩⟩
     unfold stands
     rw [if_neg (by simp), if_neg (by simp)]
     simp
     omega
   ·have hb' : blankB g = false := by simpa using hb
    by_cases he : g = (lastP Pc.z ps).g
    ·have hk0 : (lastP Pc.z ps).k ≠ 0 := by
      intro h
      rcases List.eq_nil_or_concat ps with hnil | ⟨qs, p, hps⟩
      ·subst hnil
       have : g = [] := he
       subst this
       simp at hg
       omega
      ·rw [List.concat_eq_append] at hps
       subst hps
       rw [lastP_snoc] at h he
       obtain ⟨_, d2⟩ := (chain_snoc _ _ _ _).1 c1
       obtain ⟨_, ⟨_, _, _, h4⟩ | ⟨h4, _⟩ | ⟨h4, _⟩⟩ := d2
       ·rw [h4] at he
        rw [he, blank_rep] at hb'
        cases hb'
       ·omega
       ·omega
     by_cases hx : (lastP Pc.z ps).k = 2 ∧ (lastP Pc.z ps).n ≠ 0 ∧ (lastP Pc.z ps).n ≠ 65535
     ·exact more 2 (by omega) hx.1 hx.2.1 hx.2.2 he.symm
     ·refine new ⟨2, 1, g⟩ rfl rfl ⟨?_, Or.inr (Or.inr ⟨rfl, by simp, by simp, he⟩)⟩
      unfold stands
      rw [if_neg (by simp), if_neg (by simp [hk0])]
      simp
      omega
    ·refine new ⟨1, 1, g⟩ rfl rfl ⟨?_, Or.inr (Or.inl ⟨rfl, rfl, hg⟩)⟩
     unfold stands
     rw [if_pos rfl]
     simp [hb', he]
 obtain ⟨ps, c1, c2, c3, c4⟩ := key P.reverse (fun g hg => hP g (by simpa using hg))
 refine ⟨ps, c1, by simpa using c2, fun q hq => c3 q (by simpa using hq), fun h => c4 (by simp [h])⟩
structure St where
 laid : List Int
 kind : Nat
 count : Nat
def runS (st : St) (k : Nat) : St :=
 if st.kind ≠ k ∨ st.count = 0 ∨ st.count = 65535 then ⟨st.laid ++ ([(k : Int)] ++ le2 1), k, 1⟩
 else ⟨st.laid.take (st.laid.length - 2) ++ le2 (st.count + 1), k, st.count + 1⟩
def toldS (C : Nat) (st : St) (g : List Int) : St := ⟨st.laid ++ enc C ⟨1, 1, g⟩, st.kind, 0⟩
def pageS (C : Nat) (st : St) (ah g : List Int) : St :=
 if blankB g then runS st 0 else if g = ah then runS st 2 else toldS C st g
def packS (C : Nat) : St → List Int → List (List Int) → St
 | st, _, [] => st
 | st, ah, g :: r => packS C (pageS C st ah g) g r
def Rel (st : St) (a : Pc) : Prop := (a.k = 1 → st.count = 0) ∧ (a.k ≠ 1 → st.kind = a.k ∧ st.count = a.n)
theorem run_more (C : Nat) (k : Nat) (g : List Int) (hpg : ∀ st : St, pageS C st g g = runS st k) (base : List Int) (m j : Nat) (hm : 1 ≤ m) (hj : m + j ≤ 65535) (rest : List (List Int)) :
  packS C ⟨base ++ ([(k : Int)] ++ le2 m), k, m⟩ g (List.replicate j g ++ rest) = packS C ⟨base ++ ([(k : Int)] ++ le2 (m + j)), k, m + j⟩ g rest := by
 induction j generalizing m with
 | zero => rfl
 | succ j ih =>
  rw [List.replicate_succ]
  show packS C (pageS C ⟨base ++ ([(k : Int)] ++ le2 m), k, m⟩ g g) g (List.replicate j g ++ rest) = _
  rw [hpg]
  have e : runS ⟨base ++ ([(k : Int)] ++ le2 m), k, m⟩ k = ⟨base ++ ([(k : Int)] ++ le2 (m + 1)), k, m + 1⟩ := by
   unfold runS
   rw [if_neg (by simp; omega)]
   congr 1
   have : (base ++ ([(k : Int)] ++ le2 m)).length - 2 = (base ++ [(k : Int)]).length := by simp [le2]
   simp only
   rw [this, ← List.append_assoc, List.take_left, List.append_assoc]
  rw [e, ih (m + 1) (by omega) (by omega)]
  rw [show m + 1 + j = m + (j + 1) by omega]
theorem feed (C L : Nat) (st : St) (a p : Pc) (hok : okP L a p) (hrel : Rel st a) (hnb : NB a) (rest : List (List Int)) :
  ∃ st', packS C st a.g (List.replicate p.n p.g ++ rest) = packS C st' p.g rest ∧ st'.laid = st.laid ++ enc C p ∧ Rel st' p := by
 obtain ⟨h1, h2⟩ := hok
 -- a run
 have run : ∀ k : Nat, k ≠ 1 → p.k = k → 1 ≤ p.n → p.n ≤ 65535 → pageS C st a.g p.g = runS st k → (∀ st : St, pageS C st p.g p.g = runS st k) → ∃ st', packS C st a.g (List.replicate p.n p.g ++ rest) = packS C st' p.g rest ∧ st'.laid = st.laid ++ enc C p ∧ Rel st' p := by
  intro k hk1 hk hn1 hn2 e1 e2
  obtain ⟨j, hj⟩ : ∃ j, p.n = 1 + j := ⟨p.n - 1, by omega⟩
  have hnew : st.kind ≠ k ∨ st.count = 0 ∨ st.count = 65535 := by
   unfold stands at h1
   rw [if_neg (by omega)] at h1
   split at h1
   ·cases h1
   ·next hne =>
    by_cases ha : a.k = 1
    ·exact Or.inr (Or.inl (hrel.1 ha))
    ·obtain ⟨r1, r2⟩ := hrel.2 ha
     simp at h1
     omega
  refine ⟨⟨st.laid ++ ([(k : Int)] ++ le2 (1 + j)), k, 1 + j⟩, ?_, ?_, ?_⟩
  ·rw [hj, Nat.add_comm 1 j, List.replicate_succ, List.cons_append, packS, e1]
   unfold runS
   rw [if_pos hnew, run_more C k p.g e2 st.laid 1 j (by omega) (by omega), Nat.add_comm 1 j]
  ·simp only
   unfold enc
   rw [if_neg (by omega), hj, hk]
  ·exact ⟨fun h => by omega, fun _ => ⟨hk.symm, by simp [hj]⟩⟩
 rcases h2 with ⟨e1, e2, e3, e4⟩ | ⟨e1, e2, e3⟩ | ⟨e1, e2, e3, e4⟩
 ·have hb : blankB p.g = true := by rw [e4]; exact blank_rep L
  exact run 0 (by omega) e1 e2 e3 (by simp [pageS, hb]) (fun st => by simp [pageS, hb])
 ·unfold stands at h1
  rw [if_pos e1] at h1
  simp at h1
  refine ⟨toldS C st p.g, ?_, ?_, ?_⟩
  ·rw [e2]
   simp [packS, pageS, h1.1, h1.2]
  ·have : p = ⟨1, 1, p.g⟩ := by cases p; simp_all
   rw [toldS]
   conv => rhs; rw [this]
  ·exact ⟨fun _ => rfl, fun h => absurd e1 h⟩
 ·have hb : blankB p.g = false := by
   rw [e4]
   rcases hnb with h | h
   ·unfold stands at h1
    rw [if_neg (by omega), if_pos ⟨e1, h⟩] at h1
    cases h1
   ·exact h
  exact run 2 (by omega) e1 e2 e3 (by rw [pageS, if_neg (by simp [hb]), if_pos e4]) (fun st => by simp [pageS, hb])
theorem pack_chain (C L : Nat) (ps : List Pc) : ∀ (st : St) (a : Pc), chain L a ps → Rel st a → NB a → (packS C st a.g (pgs ps)).laid = st.laid ++ encs C ps := by
 induction ps with
 | nil => intro st a _ _ _; simp [pgs, encs, packS]
 | cons p r ih =>
  intro st a hc hr hn
  obtain ⟨st', h1, h2, h3⟩ := feed C L st a p hc.1 hr hn (pgs r)
  have e : pgs (p :: r) = List.replicate p.n p.g ++ pgs r := rfl
  rw [e, h1, ih st' p hc.2 h3 (nb_step hc.1 hn), h2]
  simp [encs]
end Go.Proofs.YtnmnhgagnfodhaaDoor
namespace Go.Proofs.YtnmnhgagnfodhaaDoor
def step1 (r : Nat) : Nat := if r % 2 = 1 then r / 2 ^^^ 3988292384 else r / 2
def stepN (r : Nat) : Nat → Nat
 | 0 => r
 | k + 1 => step1 (stepN r k)
def crcB (r z : Nat) : Nat := stepN (r ^^^ z) 8
def crcL (zs : List Nat) : Nat := zs.foldl crcB 4294967295
def sumL (zs : List Nat) : Nat := crcL zs ^^^ 4294967295
theorem xor_div2 (a b : Nat) : (a ^^^ b) / 2 = a / 2 ^^^ b / 2 := by
 have := Nat.shiftRight_xor_distrib (a := a) (b := b) (i := 1)
 simpa [Nat.shiftRight_eq_div_pow] using this
theorem step1_xor (a b : Nat) : step1 (a ^^^ b) = step1 a ^^^ step1 b := by
 unfold step1
 have h : (a ^^^ b) % 2 = (a % 2) ^^^ (b % 2) := Nat.xor_mod_two_pow (n := 1)
 rw [xor_div2]
 rcases Nat.mod_two_eq_zero_or_one a with ha | ha <;> rcases Nat.mod_two_eq_zero_or_one b with hb | hb
 ·rw [ha, hb] at h
  rw [if_neg (by rw [h]; decide), if_neg (by omega), if_neg (by omega)]
 ·rw [ha, hb] at h
  rw [if_pos (by rw [h]; decide), if_neg (by omega), if_pos hb, Nat.xor_assoc]
 ·rw [ha, hb] at h
  rw [if_pos (by rw [h]; decide), if_pos ha, if_neg (by omega), Nat.xor_assoc, Nat.xor_assoc, Nat.xor_comm (b / 2)]
 ·rw [ha, hb] at h
  rw [if_neg (by rw [h]; decide), if_pos ha, if_pos hb]
  have e : ∀ x y p : Nat, (x ^^^ p) ^^^ (y ^^^ p) = x ^^^ y := by
   intro x y p
   rw [Nat.xor_comm y p, Nat.xor_assoc, ← Nat.xor_assoc p p y, Nat.xor_self, Nat.zero_xor]
  rw [e]
theorem stepN_xor (a b k : Nat) : stepN (a ^^^ b) k = stepN a k ^^^ stepN b k := by
 induction k with
 | zero => rfl
 | succ k ih => rw [stepN, ih, step1_xor]; rfl
theorem stepN_add (r j k : Nat) : stepN r (j + k) = stepN (stepN r j) k := by
 induction k with
 | zero => rfl
 | succ k ih => rw [← Nat.add_assoc, stepN, ih]; rfl
def tab : List Nat := [0, 498536548, 997073096, 651767980, 1994146192, 1802195444, 1303535960, 1342533948, 3988292384, 4027552580, 3604390888, 3412177804, 2607071920, 2262029012, 2685067896, 3183342108]
theorem tab_eq : ∀ i, i < 16 → tab.getD i 0 = stepN i 4 := by decide +kernel
theorem step4_shift (q : Nat) : stepN (16 * q) 4 = q := by
 have e : ∀ x, step1 (2 * x) = x := by
  intro x
  unfold step1
  rw [if_neg (by omega)]
  omega
 have h16 : 16 * q = 2 * (2 * (2 * (2 * q))) := by omega
 simp only [stepN, h16, e]
theorem nib (r : Nat) : r / 16 ^^^ tab.getD (r % 16) 0 = stepN r 4 := by
 have h1 : r = 16 * (r / 16) ^^^ r % 16 := by
  have h := Nat.two_pow_add_eq_or_of_lt (i := 4) (b := r % 16) (by omega) (r / 16)
  have h2 : 16 * (r / 16) + r % 16 = r := by omega
  have h3 : 16 * (r / 16) &&& r % 16 = 0 := by
   apply Nat.eq_of_testBit_eq
   intro i
   rw [Nat.testBit_and, Nat.zero_testBit]
   by_cases hi : i < 4
   ·have : (2 ^ 4 * (r / 16)).testBit i = false := by rw [Nat.testBit_two_pow_mul]; simp; omega
    rw [show 16 * (r / 16) = 2 ^ 4 * (r / 16) from rfl, this]
    rfl
   ·have : (r % 16).testBit i = false := Nat.testBit_lt_two_pow (Nat.lt_of_lt_of_le (show r % 16 < 2 ^ 4 by omega) (Nat.pow_le_pow_right (by omega) (by omega)))
    rw [this]
    simp
  have h4 : 16 * (r / 16) ^^^ r % 16 = 16 * (r / 16) ||| r % 16 := by
   apply Nat.eq_of_testBit_eq
   intro i
   have := congrArg (fun x => x.testBit i) h3
   simp only [Nat.testBit_and, Nat.zero_testBit] at this
   rw [Nat.testBit_xor, Nat.testBit_or]
   generalize (16 * (r / 16)).testBit i = p at this ⊢
   generalize (r % 16).testBit i = q at this ⊢
   cases p <;> cases q <;> first | rfl | cases this
  rw [h4]
  rw [show 16 * (r / 16) = 2 ^ 4 * (r / 16) from rfl, ← h]
  omega
 conv => rhs; rw [h1]
 rw [stepN_xor, step4_shift, tab_eq (r % 16) (by omega)]
theorem step1_lt (r : Nat) (h : r < 4294967296) : step1 r < 4294967296 := by
 unfold step1
 split
 ·exact Nat.xor_lt_two_pow (n := 32) (by omega) (by omega)
 ·omega
theorem stepN_lt (r k : Nat) (h : r < 4294967296) : stepN r k < 4294967296 := by
 induction k with
 | zero => exact h
 | succ k ih => exact step1_lt _ ih
theorem xor32 (a b : Nat) (ha : a < 4294967296) (hb : b < 4294967296) : a ^^^ b < 4294967296 := Nat.xor_lt_two_pow (n := 32) ha hb
theorem crcB_lt (r z : Nat) (h : r < 4294967296) (hz : z < 256) : crcB r z < 4294967296 := stepN_lt _ _ (xor32 _ _ h (by omega))
theorem crcB_tab (r z : Nat) : (((r ^^^ z) / 16 ^^^ tab.getD ((r ^^^ z) % 16) 0) / 16 ^^^ tab.getD (((r ^^^ z) / 16 ^^^ tab.getD ((r ^^^ z) % 16) 0) % 16) 0) = crcB r z := by
 rw [nib (r ^^^ z), nib]
 exact (stepN_add _ 4 4).symm
theorem crcL_snoc (zs : List Nat) (z : Nat) : crcL (zs ++ [z]) = crcB (crcL zs) z := by simp [crcL]
theorem crcL_lt (zs : List Nat) (h : ∀ z ∈ zs, z < 256) : crcL zs < 4294967296 := by
 have : ∀ (l : List Nat) (r : Nat), r < 4294967296 → (∀ z ∈ l, z < 256) → l.foldl crcB r < 4294967296 := by
  intro l
  induction l with
  | nil => intro r hr _; exact hr
  | cons x l ih => intro r hr hl; exact ih _ (crcB_lt r x hr (hl x (by simp))) (fun z hz => hl z (by simp [hz]))
 exact this zs _ (by omega) h
end Go.Proofs.YtnmnhgagnfodhaaDoor
namespace Go.Proofs.YtnmnhgagnfodhaaDoor
set_option linter.unusedVariables false
def rdPiece (C S left : Nat) (bs : List Int) : Except Int (Pc × List Int) :=
 match bs with
 | [] => .error 10
 | k :: r =>
  if 2 < k then .error 47 else
  match r with
  | x :: y :: t =>
   if k = 1 then
    if C < (x + 256 * y).toNat then .error 47
    else if t.length < (x + 256 * y).toNat + S then .error 10
    else if wrN (t.take (x + 256 * y).toNat) < (x + 256 * y).toNat then .error 47
    else .ok (⟨1, 1, t.take (x + 256 * y).toNat ++ List.replicate (C - (x + 256 * y).toNat) 255 ++ (t.drop (x + 256 * y).toNat).take S⟩, t.drop ((x + 256 * y).toNat + S))
   else if (x + 256 * y).toNat = 0 ∨ left < (x + 256 * y).toNat then .error 47
   else .ok (⟨k.toNat, (x + 256 * y).toNat, []⟩, t)
  | _ => .error 10
def fillP (L : Nat) (a p : Pc) : Pc := if p.k = 0 then ⟨0, p.n, List.replicate L 255⟩ else if p.k = 2 then ⟨2, p.n, a.g⟩ else p
def rdPs (C S : Nat) : Nat → Nat → Pc → List Int → Except Int (List Pc × List Int)
 | 0, left, _, bs => if left = 0 then .ok ([], bs) else .error 47
 | f + 1, left, a, bs =>
  if left = 0 then .ok ([], bs) else
  match rdPiece C S left bs with
  | .error e => .error e
  | .ok (p, r) =>
   if stands p a = true then
    match rdPs C S f (left - p.n) (fillP (C + S) a p) r with
    | .error e => .error e
    | .ok (ps, t) => .ok (fillP (C + S) a p :: ps, t)
   else .error 47
def Byt (bs : List Int) : Prop := ∀ x ∈ bs, 0 ≤ x ∧ x ≤ 255
theorem le2_of {x y : Int} (hx : 0 ≤ x ∧ x ≤ 255) (hy : 0 ≤ y ∧ y ≤ 255) : le2 (x + 256 * y).toNat = [x, y] := by
 obtain ⟨x, rfl⟩ := Int.eq_ofNat_of_zero_le hx.1
 obtain ⟨y, rfl⟩ := Int.eq_ofNat_of_zero_le hy.1
 have e : ((x : Int) + 256 * (y : Int)).toNat = x + 256 * y := by omega
 rw [e]
 have e1 : (x + 256 * y) % 256 = x := by omega
 have e2 : (x + 256 * y) / 256 = y := by omega
 rw [le2, e1, e2]
theorem le2_to (n : Nat) : (((n % 256 : Nat) : Int) + 256 * ((n / 256 : Nat) : Int)).toNat = n := by omega
theorem wrN_told {t : List Int} {n C : Nat} (hn : n ≤ C) (hl : t.length = n) (hw : ¬ wrN t < n) (sp : List Int) :
  wrN ((t ++ List.replicate (C - n) 255 ++ sp).take C) = n ∧ (t ++ List.replicate (C - n) 255 ++ sp).take n = t ∧ (t ++ List.replicate (C - n) 255 ++ sp).drop C = sp := by
 have h1 : (t ++ List.replicate (C - n) 255).length = C := by simp; omega
 have hle := wrN_le t
 refine ⟨?_, ?_, ?_⟩
 ·rw [List.take_left' h1, wrN_app]; omega
 ·rw [List.append_assoc, List.take_left' hl]
 ·rw [List.drop_left' h1]
theorem rdPiece_sound {C S left : Nat} {bs r : List Int} {p : Pc} (hb : Byt bs) (h : rdPiece C S left bs = .ok (p, r)) :
  bs = enc C p ++ r ∧ (p.k = 0 ∧ 1 ≤ p.n ∧ p.n ≤ 65535 ∧ p.n ≤ left ∨ p.k = 1 ∧ p.n = 1 ∧ p.g.length = C + S ∨ p.k = 2 ∧ 1 ≤ p.n ∧ p.n ≤ 65535 ∧ p.n ≤ left) := by
 unfold rdPiece at h
 match bs, hb, h with
 | [], _, h => simp at h
 | [k], _, h => simp only at h; split at h <;> simp at h
 | [k, x], _, h => simp only at h; split at h <;> simp at h
 | k :: x :: y :: t, hb, h =>
  have hk := hb k (by simp)
  have hx := hb x (by simp)
  have hy := hb y (by simp)
  simp only at h
  split at h
  ·simp at h
  ·next hk2 =>
   split at h
   ·next hk1 =>
    split at h
    ·simp at h
    ·next hC =>
     split at h
     ·simp at h
     ·next hlen =>
      split at h
      ·simp at h
      ·next hw =>
       simp only [Except.ok.injEq, Prod.mk.injEq] at h
       obtain ⟨rfl, rfl⟩ := h
       have e2 := le2_of hx hy
       generalize (x + 256 * y).toNat = n at *
       obtain ⟨w1, w2, w3⟩ := wrN_told (t := t.take n) (n := n) (C := C) (by omega) (by simp; omega) hw ((t.drop n).take S)
       refine ⟨?_, Or.inr (Or.inl ⟨rfl, rfl, by simp; omega⟩)⟩
       unfold enc
       rw [if_pos rfl]
       simp only
       rw [w1, w2, w3, e2, hk1]
       simp only [List.cons_append, List.nil_append, List.append_assoc]
       congr 3
       conv => lhs; rw [← List.take_append_drop n t, ← List.take_append_drop S (t.drop n), List.drop_drop]
   ·next hk1 =>
    split at h
    ·simp at h
    ·next hn =>
     simp only [Except.ok.injEq, Prod.mk.injEq] at h
     obtain ⟨rfl, rfl⟩ := h
     have e2 := le2_of hx hy
     refine ⟨?_, ?_⟩
     ·unfold enc
      rw [if_neg (by simp only; omega)]
      simp only
      rw [e2, Int.toNat_of_nonneg hk.1]
      rfl
     ·simp only
      omega
theorem enc_run (C : Nat) (p : Pc) (hk : p.k ≠ 1) : enc C p = [(p.k : Int), ((p.n % 256 : Nat) : Int), ((p.n / 256 : Nat) : Int)] := by
 unfold enc
 rw [if_neg hk]
 rfl
theorem rdPiece_enc {C S left : Nat} {a p : Pc} (hok : okP (C + S) a p) (hl : p.n ≤ left) (hC : C ≤ 65535) (r : List Int) :
  ∃ q, rdPiece C S left (enc C p ++ r) = .ok (q, r) ∧ fillP (C + S) a q = p ∧ stands q a = true ∧ q.n = p.n := by
 obtain ⟨h1, h2⟩ := hok
 rcases h2 with ⟨e1, e2, e3, e4⟩ | ⟨e1, e2, e3⟩ | ⟨e1, e2, e3, e4⟩
 ·refine ⟨⟨0, p.n, []⟩, ?_, ?_, ?_, rfl⟩
  ·rw [enc_run C p (by omega), e1]
   simp only [List.cons_append, List.nil_append, rdPiece, le2_to]
   rw [if_neg (by simp), if_neg (by simp), if_neg (by omega)]
   rfl
  ·cases p; simp_all [fillP]
  ·unfold stands at h1 ⊢
   simp_all
 ·have hw := wrN_le (p.g.take C)
  have hlt : (p.g.take C).length = C := by simp; omega
  refine ⟨p, ?_, ?_, h1, rfl⟩
  ·unfold enc
   rw [if_pos e1]
   generalize hn : wrN (p.g.take C) = n at *
   have hnC : n ≤ C := by omega
   have htl : (p.g.take n).length = n := by simp; omega
   have e5 : p.g.take n = (p.g.take C).take n := by rw [List.take_take]; congr 1; omega
   have e6 : wrN (p.g.take n) = n := by rw [e5, ← hn, wrN_self]
   have e7 : p.g.take n ++ List.replicate (C - n) 255 = p.g.take C := by
    have := wrN_take (p.g.take C)
    rw [hn, hlt] at this
    rw [e5]; exact this
   have e8 : (p.g.drop C).length = S := by simp; omega
   simp only [le2, List.cons_append, List.nil_append, List.append_assoc, rdPiece]
   have f1 : p.g.take n ++ (List.replicate (C - n) 255 ++ p.g.drop C) = p.g := by rw [← List.append_assoc, e7, List.take_append_drop]
   have f2 : (p.g.take n ++ (p.g.drop C ++ r)).drop (n + S) = r := by rw [← List.append_assoc, List.drop_left' (by simp only [List.length_append, htl, e8])]
   rw [if_neg (by decide), if_pos trivial, le2_to, if_neg (by omega), if_neg (by simp only [List.length_append, htl, e8]; omega), List.take_left' htl, if_neg (by omega), List.drop_left' htl, List.take_left' e8, f1, f2]
   cases p; simp_all
  ·unfold fillP
   rw [if_neg (by omega), if_neg (by omega)]
 ·refine ⟨⟨2, p.n, []⟩, ?_, ?_, ?_, rfl⟩
  ·rw [enc_run C p (by omega), e1]
   simp only [List.cons_append, List.nil_append, rdPiece, le2_to]
   rw [if_neg (by simp), if_neg (by simp), if_neg (by omega)]
   rfl
  ·cases p; simp_all [fillP]
  ·unfold stands at h1 ⊢
   simp_all
theorem enc_fill (C L : Nat) (a p : Pc) : enc C (fillP L a p) = enc C p := by
 unfold fillP
 split
 ·next h => rw [enc_run _ _ (by simp), enc_run _ _ (by omega), h]
 ·split
  ·next h => rw [enc_run _ _ (by simp), enc_run _ _ (by omega), h]
  ·rfl
theorem fill_n (L : Nat) (a p : Pc) : (fillP L a p).n = p.n := by
 unfold fillP
 split
 ·rfl
 ·split <;> rfl
theorem fill_k (L : Nat) (a p : Pc) : (fillP L a p).k = p.k := by
 unfold fillP
 split
 ·next h => exact h.symm
 ·split
  ·next h => exact h.symm
  ·rfl
theorem fill_stands (L : Nat) (a p : Pc) : stands (fillP L a p) a = stands p a := by
 by_cases hk : p.k = 1
 ·unfold fillP
  rw [if_neg (by omega), if_neg (by omega)]
 ·unfold stands
  rw [fill_k, if_neg hk, if_neg hk]
theorem rdPs_sound {C S : Nat} : ∀ {f left : Nat} {a : Pc} {bs t : List Int} {ps : List Pc}, Byt bs → rdPs C S f left a bs = .ok (ps, t) →
  bs = encs C ps ++ t ∧ chain (C + S) a ps ∧ cnt ps = left := by
 intro f
 induction f with
 | zero =>
  intro left a bs t ps hb h
  simp only [rdPs] at h
  split at h
  ·next hl =>
   simp only [Except.ok.injEq, Prod.mk.injEq] at h
   obtain ⟨rfl, rfl⟩ := h
   exact ⟨rfl, trivial, hl.symm⟩
  ·simp at h
 | succ f ih =>
  intro left a bs t ps hb h
  simp only [rdPs] at h
  split at h
  ·next hl =>
   simp only [Except.ok.injEq, Prod.mk.injEq] at h
   obtain ⟨rfl, rfl⟩ := h
   exact ⟨rfl, trivial, hl.symm⟩
  ·next hl =>
   split at h
   ·simp at h
   ·next p r hp =>
    split at h
    ·next hs =>
     split at h
     ·simp at h
     ·next ps' t' hr =>
      simp only [Except.ok.injEq, Prod.mk.injEq] at h
      obtain ⟨rfl, rfl⟩ := h
      obtain ⟨s1, s2⟩ := rdPiece_sound hb hp
      obtain ⟨i1, i2, i3⟩ := ih (fun x hx => hb x (by rw [s1]; exact List.mem_append_right _ hx)) hr
      refine ⟨?_, ⟨⟨by rw [fill_stands]; exact hs, ?_⟩, i2⟩, ?_⟩
      ·conv => lhs; rw [s1, i1]
       simp [encs, enc_fill]
      ·rw [fill_k, fill_n]
       rcases s2 with ⟨h1, h2, h3, _⟩ | ⟨h1, h2, h3⟩ | ⟨h1, h2, h3, _⟩
       ·exact Or.inl ⟨h1, h2, h3, by unfold fillP; rw [if_pos h1]⟩
       ·exact Or.inr (Or.inl ⟨h1, h2, by unfold fillP; rw [if_neg (by omega), if_neg (by omega)]; exact h3⟩)
       ·exact Or.inr (Or.inr ⟨h1, h2, h3, by unfold fillP; rw [if_neg (by omega), if_pos h1]⟩)
      ·have : cnt (fillP (C + S) a p :: ps') = p.n + cnt ps' := by simp [cnt, fill_n]
       rw [this, i3]
       omega
    ·simp at h
theorem okP_n {L : Nat} {a p : Pc} (h : okP L a p) : 1 ≤ p.n := by
 obtain ⟨_, ⟨_, h, _⟩ | ⟨_, h, _⟩ | ⟨_, h, _⟩⟩ := h <;> omega
theorem rdPs_encs {C S : Nat} (hC : C ≤ 65535) : ∀ {ps : List Pc} {f left : Nat} {a : Pc}, chain (C + S) a ps → cnt ps = left → left ≤ f → ∀ t, rdPs C S f left a (encs C ps ++ t) = .ok (ps, t) := by
 intro ps
 induction ps with
 | nil =>
  intro f left a _ hc hf t
  have : left = 0 := by rw [← hc]; rfl
  subst this
  cases f <;> simp [rdPs, encs]
 | cons p r ih =>
  intro f left a hch hc hf t
  have hn := okP_n hch.1
  have hcp : cnt (p :: r) = p.n + cnt r := by simp [cnt]
  rw [hcp] at hc
  obtain ⟨f, rfl⟩ : ∃ g, f = g + 1 := ⟨f - 1, by omega⟩
  obtain ⟨q, q1, q2, q3, q4⟩ := rdPiece_enc (left := left) hch.1 (by omega) hC (encs C r ++ t)
  have e : encs C (p :: r) ++ t = enc C p ++ (encs C r ++ t) := by simp [encs]
  rw [e, rdPs, if_neg (by omega), q1]
  simp only
  rw [if_pos q3, q2, q4, ih hch.2 (by omega) (by omega) t]
def chunks (L n : Nat) (cs : List Int) : List (List Int) := (List.range n).map fun k => (cs.drop (k * L)).take L
theorem chunks_succ (L n : Nat) (cs : List Int) : chunks L (n + 1) cs = cs.take L :: chunks L n (cs.drop L) := by
 unfold chunks
 rw [List.range_succ_eq_map, List.map_cons, List.map_map]
 congr 1
 ·simp
 ·apply List.map_congr_left
  intro k _
  simp only [Function.comp, List.drop_drop]
  congr 2
  rw [Nat.succ_mul]; omega
theorem chunks_flat (L : Nat) : ∀ (n : Nat) (cs : List Int), cs.length = n * L → (chunks L n cs).flatten = cs := by
 intro n
 induction n with
 | zero => intro cs h; simp at h; subst h; rfl
 | succ n ih =>
  intro cs h
  rw [chunks_succ, List.flatten_cons, ih _ (by rw [List.length_drop, h, Nat.succ_mul]; omega), List.take_append_drop]
theorem chunks_len (L : Nat) : ∀ (n : Nat) (cs : List Int), cs.length = n * L → ∀ g ∈ chunks L n cs, g.length = L := by
 intro n
 induction n with
 | zero => intro cs h g hg; simp [chunks] at hg
 | succ n ih =>
  intro cs h g hg
  rw [chunks_succ] at hg
  rcases List.mem_cons.1 hg with h1 | h1
  ·rw [h1, List.length_take, h, Nat.succ_mul]; omega
  ·exact ih _ (by rw [List.length_drop, h, Nat.succ_mul]; omega) g h1
theorem chunks_of (L : Nat) : ∀ (P : List (List Int)), (∀ g ∈ P, g.length = L) → chunks L P.length P.flatten = P := by
 intro P
 induction P with
 | nil => intro _; rfl
 | cons g P ih =>
  intro h
  have hg := h g (by simp)
  rw [List.length_cons, chunks_succ, List.flatten_cons, List.take_left' hg, List.drop_left' hg, ih (fun x hx => h x (by simp [hx]))]
theorem chain_len {L : Nat} {a : Pc} {ps : List Pc} (h : chain L a ps) (ha : a.n = 0 ∧ a.k = 0 ∨ a.g.length = L) : ∀ g ∈ pgs ps, g.length = L := by
 induction ps generalizing a with
 | nil => intro g hg; simp [pgs] at hg
 | cons p r ih =>
  intro g hg
  have hp : p.g.length = L := by
   obtain ⟨h1, ⟨e1, _, _, e4⟩ | ⟨_, _, e3⟩ | ⟨e1, e2, _, e4⟩⟩ := h.1
   ·rw [e4]; simp
   ·exact e3
   ·rcases ha with ⟨_, h0⟩ | h0
    ·unfold stands at h1
     rw [if_neg (by omega), if_pos ⟨e1, h0⟩] at h1
     cases h1
    ·rw [e4]; exact h0
  have e : pgs (p :: r) = List.replicate p.n p.g ++ pgs r := rfl
  rw [e] at hg
  rcases List.mem_append.1 hg with h1 | h1
  ·rw [(List.mem_replicate.1 h1).2]; exact hp
  ·exact ih h.2 (Or.inr hp) g h1
end Go.Proofs.YtnmnhgagnfodhaaDoor
