/-
  SEAT YteefekhlbillfaaDoor: rows of images, plainly.
-/
import Derived.Test.YteefekhlbillfaaDoorA
namespace Go.Proofs.YteefekhlbillfaaDoor
set_option linter.unusedVariables false

/-- Is every byte one of ones? -/
def blankB (p : List Int) : Bool := p.all (· == 255)

/-- The least number from which on all bytes are ones. -/
def wrN : List Int → Nat
  | [] => 0
  | x :: r => if wrN r = 0 ∧ x = 255 then 0 else wrN r + 1

theorem wrN_le (b : List Int) : wrN b ≤ b.length := by
  induction b with
  | nil => simp [wrN]
  | cons x r ih => unfold wrN; split <;> simp <;> omega

theorem wrN_zero (b : List Int) : wrN b = 0 ↔ blankB b = true := by
  induction b with
  | nil => simp [wrN, blankB]
  | cons x r ih =>
    unfold wrN
    simp only [blankB, List.all_cons, Bool.and_eq_true] at ih ⊢
    rw [← ih]
    constructor
    · intro h
      split at h
      · next hh => exact ⟨by simpa using hh.2, hh.1⟩
      · omega
    · rintro ⟨h1, h2⟩
      rw [if_pos ⟨h2, by simpa using h1⟩]

theorem wrN_take (b : List Int) : b.take (wrN b) ++ List.replicate (b.length - wrN b) 255 = b := by
  induction b with
  | nil => simp [wrN]
  | cons x r ih =>
    unfold wrN
    split
    · next h =>
      rw [h.1] at ih
      simp at ih
      simp [h.2, List.replicate_succ, ih]
    · next h => simp [ih]

theorem blank_rep (k : Nat) : blankB (List.replicate k 255) = true := by simp [blankB]

theorem blank_eq {p : List Int} (h : blankB p = true) : p = List.replicate p.length 255 := by
  induction p with
  | nil => rfl
  | cons x r ih =>
    simp only [blankB, List.all_cons, Bool.and_eq_true] at h ih
    rw [List.length_cons, List.replicate_succ, ← ih h.2]
    congr 1
    simpa using h.1

theorem wrN_app (t : List Int) (k : Nat) : wrN (t ++ List.replicate k 255) = wrN t := by
  induction t with
  | nil => simp [wrN, (wrN_zero _).2 (blank_rep k)]
  | cons x r ih => simp [wrN, ih]

theorem wrN_self (b : List Int) : wrN (b.take (wrN b)) = wrN b := by
  have h := wrN_app (b.take (wrN b)) (b.length - wrN b)
  rw [wrN_take] at h
  exact h.symm

/-- What a loop from behind comes to. -/
theorem wrN_char (b : List Int) (n : Nat) (h1 : n ≤ b.length) (h2 : ∀ i, n ≤ i → i < b.length → b.getD i 0 = 255) (h3 : n = 0 ∨ b.getD (n - 1) 0 ≠ 255) : wrN b = n := by
  have e : b = b.take n ++ List.replicate (b.length - n) 255 := by
    apply List.ext_getElem
    · simp; omega
    · intro i hi _
      by_cases hin : i < n
      · rw [List.getElem_append_left (by simp; omega)]; simp
      · rw [List.getElem_append_right (by simp; omega)]
        have := h2 i (by omega) hi
        rw [List.getD_eq_getElem?_getD, List.getElem?_eq_getElem hi] at this
        simpa using this
  rw [e, wrN_app]
  rcases Nat.eq_zero_or_pos n with h0 | hn
  · subst h0; simp [wrN]
  · have h3' : b.getD (n - 1) 0 ≠ 255 := h3.resolve_left (by omega)
    have : ∀ (t : List Int), t ≠ [] → t.getD (t.length - 1) 0 ≠ 255 → wrN t = t.length := by
      intro t
      induction t with
      | nil => intro h; exact absurd rfl h
      | cons x r ih =>
        intro _ hh
        unfold wrN
        cases r with
        | nil =>
          simp at hh
          simp [wrN, hh]
        | cons y r' =>
          have := ih (by simp) (by simpa using hh)
          rw [this]
          simp
    have hl : (b.take n).length = n := by simp; omega
    have h4 := this (b.take n) (by intro h; rw [h] at hl; simp at hl; omega) (by
      rw [hl, List.getD_eq_getElem?_getD, List.getElem?_take_of_lt (by omega), ← List.getD_eq_getElem?_getD]
      exact h3')
    rw [h4, hl]

/-- Numbers of two bytes. -/
def le2 (n : Nat) : List Int := [((n % 256 : Nat) : Int), ((n / 256 : Nat) : Int)]

/-- A piece: 0 blank pages, 1 a page that is told, 2 twins; how many; their bytes. -/
structure Pc where
  k : Nat
  n : Nat
  g : List Int

/-- Ahead of all. -/
def Pc.z : Pc := ⟨0, 0, []⟩

/-- Would it be laid down behind that one? -/
def stands (p a : Pc) : Bool :=
  if p.k = 1 then !blankB p.g && !(p.g == a.g)
  else if p.k = 2 ∧ a.k = 0 then false
  else p.k != a.k || a.n == 0 || a.n == 65535

def enc (C : Nat) (p : Pc) : List Int :=
  if p.k = 1 then [1] ++ le2 (wrN (p.g.take C)) ++ (p.g.take (wrN (p.g.take C)) ++ p.g.drop C)
  else [(p.k : Int)] ++ le2 p.n

def encs (C : Nat) (ps : List Pc) : List Int := ps.flatMap (enc C)
def pgs (ps : List Pc) : List (List Int) := ps.flatMap fun p => List.replicate p.n p.g
def cnt (ps : List Pc) : Nat := (ps.map (·.n)).sum

def okP (L : Nat) (a p : Pc) : Prop :=
  stands p a = true ∧ (p.k = 0 ∧ 1 ≤ p.n ∧ p.n ≤ 65535 ∧ p.g = List.replicate L 255 ∨ p.k = 1 ∧ p.n = 1 ∧ p.g.length = L ∨ p.k = 2 ∧ 1 ≤ p.n ∧ p.n ≤ 65535 ∧ p.g = a.g)

def chain (L : Nat) : Pc → List Pc → Prop
  | _, [] => True
  | a, p :: r => okP L a p ∧ chain L p r

def lastP : Pc → List Pc → Pc
  | a, [] => a
  | _, p :: r => lastP p r

theorem lastP_snoc (a : Pc) (ps : List Pc) (p : Pc) : lastP a (ps ++ [p]) = p := by
  induction ps generalizing a with
  | nil => rfl
  | cons x r ih => exact ih x

theorem chain_snoc (L : Nat) (a : Pc) (ps : List Pc) (p : Pc) : chain L a (ps ++ [p]) ↔ chain L a ps ∧ okP L (lastP a ps) p := by
  induction ps generalizing a with
  | nil => simp [chain, lastP]
  | cons x r ih => simp [chain, lastP, ih, and_assoc]

theorem stands_n (p a : Pc) (n : Nat) : stands ⟨p.k, n, p.g⟩ a = stands p a := rfl

theorem okP_more {L : Nat} {a p : Pc} (h : okP L a p) (hk : p.k ≠ 1) (hn : p.n < 65535) : okP L a ⟨p.k, p.n + 1, p.g⟩ := by
  obtain ⟨h1, h2⟩ := h
  refine ⟨by rw [stands_n]; exact h1, ?_⟩
  rcases h2 with ⟨e1, e2, e3, e4⟩ | ⟨e1, _⟩ | ⟨e1, e2, e3, e4⟩
  · exact Or.inl ⟨e1, by simp, Nat.succ_le_of_lt hn, e4⟩
  · exact absurd e1 hk
  · exact Or.inr (Or.inr ⟨e1, by simp, Nat.succ_le_of_lt hn, e4⟩)

theorem pgs_append (ps qs : List Pc) : pgs (ps ++ qs) = pgs ps ++ pgs qs := by simp [pgs]
theorem encs_append (C : Nat) (ps qs : List Pc) : encs C (ps ++ qs) = encs C ps ++ encs C qs := by simp [encs]
theorem pgs_length (ps : List Pc) : (pgs ps).length = cnt ps := by
  induction ps with
  | nil => rfl
  | cons p r ih => simp [pgs, cnt] at ih ⊢

/-- Not blank, or of the kind of blank ones. -/
def NB (a : Pc) : Prop := a.k = 0 ∨ blankB a.g = false

theorem nb_step {L : Nat} {a p : Pc} (h : okP L a p) (hn : NB a) : NB p := by
  obtain ⟨h1, ⟨e1, _⟩ | ⟨e1, _⟩ | ⟨e1, _, _, e4⟩⟩ := h
  · exact Or.inl e1
  · unfold stands at h1
    rw [if_pos e1] at h1
    simp at h1
    exact Or.inr h1.1
  · right
    rw [e4]
    rcases hn with h | h
    · unfold stands at h1
      rw [if_neg (by omega), if_pos ⟨e1, h⟩] at h1
      cases h1
    · exact h

theorem nb_last {L : Nat} {a : Pc} {ps : List Pc} (h : chain L a ps) (hn : NB a) : NB (lastP a ps) := by
  induction ps generalizing a with
  | nil => exact hn
  | cons p r ih => exact ih h.2 (nb_step h.1 hn)

/-- Any pages are told by some pieces. -/
theorem chain_exists (L : Nat) (hL : 0 < L) (P : List (List Int)) (hP : ∀ g ∈ P, g.length = L) :
    ∃ ps, chain L Pc.z ps ∧ pgs ps = P ∧ (∀ q, P.getLast? = some q → (lastP Pc.z ps).g = q) ∧ (P = [] → ps = []) := by
  have key : ∀ (R : List (List Int)), (∀ g ∈ R, g.length = L) → ∃ ps, chain L Pc.z ps ∧ pgs ps = R.reverse ∧ (∀ q, R.head? = some q → (lastP Pc.z ps).g = q) ∧ (R = [] → ps = []) := by
    intro R
    induction R with
    | nil => intro _; exact ⟨[], trivial, rfl, (fun q h => by cases h), fun _ => rfl⟩
    | cons g R ih =>
      intro hR
      obtain ⟨ps, c1, c2, c3, c4⟩ := ih (fun x hx => hR x (by simp [hx]))
      have hg : g.length = L := hR g (by simp)
      have hnb := nb_last c1 (Or.inl rfl : NB Pc.z)
      -- append a new piece
      have new : ∀ p : Pc, p.n = 1 → p.g = g → okP L (lastP Pc.z ps) p → ∃ ps, chain L Pc.z ps ∧ pgs ps = (g :: R).reverse ∧ (∀ q, (g :: R).head? = some q → (lastP Pc.z ps).g = q) ∧ (g :: R = [] → ps = []) := by
        intro p hn hg' hok
        refine ⟨ps ++ [p], (chain_snoc _ _ _ _).2 ⟨c1, hok⟩, ?_, ?_, (fun h => by cases h)⟩
        · rw [pgs_append, c2]
          simp [pgs, hn, hg']
        · intro q hq
          rw [lastP_snoc, hg']
          simpa using hq
      -- or make the last one longer
      have more : ∀ k : Nat, k ≠ 1 → (lastP Pc.z ps).k = k → (lastP Pc.z ps).n ≠ 0 → (lastP Pc.z ps).n ≠ 65535 → (lastP Pc.z ps).g = g → ∃ ps, chain L Pc.z ps ∧ pgs ps = (g :: R).reverse ∧ (∀ q, (g :: R).head? = some q → (lastP Pc.z ps).g = q) ∧ (g :: R = [] → ps = []) := by
        intro k hk1 hk hn0 hn1 hgg
        rcases List.eq_nil_or_concat ps with hnil | ⟨qs, p, hps⟩
        · subst hnil; exact absurd rfl hn0
        · rw [List.concat_eq_append] at hps
          subst hps
          rw [lastP_snoc] at hk hn0 hn1 hgg
          obtain ⟨d1, d2⟩ := (chain_snoc _ _ _ _).1 c1
          have hb : p.n ≤ 65535 := by
            obtain ⟨_, ⟨_, _, h, _⟩ | ⟨_, h, _⟩ | ⟨_, _, h, _⟩⟩ := d2 <;> omega
          refine ⟨qs ++ [⟨p.k, p.n + 1, p.g⟩], (chain_snoc _ _ _ _).2 ⟨d1, okP_more d2 (by omega) (by omega)⟩, ?_, ?_, (fun h => by cases h)⟩
          · rw [pgs_append] at c2 ⊢
            simp only [List.reverse_cons, ← c2]
            simp [pgs, List.replicate_succ', hgg]
          · intro q hq
            rw [lastP_snoc]
            simp at hq
            simp [hgg, hq]
      by_cases hb : blankB g = true
      · have hge : g = List.replicate L 255 := by rw [← hg]; exact blank_eq hb
        by_cases hx : (lastP Pc.z ps).k = 0 ∧ (lastP Pc.z ps).n ≠ 0 ∧ (lastP Pc.z ps).n ≠ 65535
        · refine more 0 (by omega) hx.1 hx.2.1 hx.2.2 ?_
          rcases List.eq_nil_or_concat ps with hnil | ⟨qs, p, hps⟩
          · subst hnil; exact absurd rfl hx.2.1
          · rw [List.concat_eq_append] at hps
            subst hps
            rw [lastP_snoc] at hx ⊢
            obtain ⟨_, d2⟩ := (chain_snoc _ _ _ _).1 c1
            obtain ⟨_, ⟨_, _, _, h⟩ | ⟨h, _⟩ | ⟨h, _⟩⟩ := d2
            · rw [h, hge]
            · omega
            · omega
        · refine new ⟨0, 1, g⟩ rfl rfl ⟨?_, Or.inl ⟨rfl, by simp, by simp, hge⟩⟩
          unfold stands
          rw [if_neg (by simp), if_neg (by simp)]
          simp
          omega
      · have hb' : blankB g = false := by simpa using hb
        by_cases he : g = (lastP Pc.z ps).g
        · have hk0 : (lastP Pc.z ps).k ≠ 0 := by
            intro h
            rcases List.eq_nil_or_concat ps with hnil | ⟨qs, p, hps⟩
            · subst hnil
              have : g = [] := he
              subst this
              simp at hg
              omega
            · rw [List.concat_eq_append] at hps
              subst hps
              rw [lastP_snoc] at h he
              obtain ⟨_, d2⟩ := (chain_snoc _ _ _ _).1 c1
              obtain ⟨_, ⟨_, _, _, h4⟩ | ⟨h4, _⟩ | ⟨h4, _⟩⟩ := d2
              · rw [h4] at he
                rw [he, blank_rep] at hb'
                cases hb'
              · omega
              · omega
          by_cases hx : (lastP Pc.z ps).k = 2 ∧ (lastP Pc.z ps).n ≠ 0 ∧ (lastP Pc.z ps).n ≠ 65535
          · exact more 2 (by omega) hx.1 hx.2.1 hx.2.2 he.symm
          · refine new ⟨2, 1, g⟩ rfl rfl ⟨?_, Or.inr (Or.inr ⟨rfl, by simp, by simp, he⟩)⟩
            unfold stands
            rw [if_neg (by simp), if_neg (by simp [hk0])]
            simp
            omega
        · refine new ⟨1, 1, g⟩ rfl rfl ⟨?_, Or.inr (Or.inl ⟨rfl, rfl, hg⟩)⟩
          unfold stands
          rw [if_pos rfl]
          simp [hb', he]
  obtain ⟨ps, c1, c2, c3, c4⟩ := key P.reverse (fun g hg => hP g (by simpa using hg))
  refine ⟨ps, c1, by simpa using c2, fun q hq => c3 q (by simpa using hq), fun h => c4 (by simp [h])⟩

/-- The writer of the program. -/
structure St where
  laid : List Int
  kind : Nat
  count : Nat

def runS (st : St) (k : Nat) : St :=
  if st.kind ≠ k ∨ st.count = 0 ∨ st.count = 65535 then ⟨st.laid ++ ([(k : Int)] ++ le2 1), k, 1⟩
  else ⟨st.laid.take (st.laid.length - 2) ++ le2 (st.count + 1), k, st.count + 1⟩

def toldS (C : Nat) (st : St) (g : List Int) : St := ⟨st.laid ++ enc C ⟨1, 1, g⟩, st.kind, 0⟩

def pageS (C : Nat) (st : St) (ah g : List Int) : St :=
  if blankB g then runS st 0 else if g = ah then runS st 2 else toldS C st g

def packS (C : Nat) : St → List Int → List (List Int) → St
  | st, _, [] => st
  | st, ah, g :: r => packS C (pageS C st ah g) g r

def Rel (st : St) (a : Pc) : Prop := (a.k = 1 → st.count = 0) ∧ (a.k ≠ 1 → st.kind = a.k ∧ st.count = a.n)

theorem le2_length (n : Nat) : (le2 n).length = 2 := rfl

theorem run_more (C : Nat) (k : Nat) (g : List Int) (hpg : ∀ st : St, pageS C st g g = runS st k) (base : List Int) (m j : Nat) (hm : 1 ≤ m) (hj : m + j ≤ 65535) (rest : List (List Int)) :
    packS C ⟨base ++ ([(k : Int)] ++ le2 m), k, m⟩ g (List.replicate j g ++ rest) = packS C ⟨base ++ ([(k : Int)] ++ le2 (m + j)), k, m + j⟩ g rest := by
  induction j generalizing m with
  | zero => rfl
  | succ j ih =>
    rw [List.replicate_succ]
    show packS C (pageS C ⟨base ++ ([(k : Int)] ++ le2 m), k, m⟩ g g) g (List.replicate j g ++ rest) = _
    rw [hpg]
    have e : runS ⟨base ++ ([(k : Int)] ++ le2 m), k, m⟩ k = ⟨base ++ ([(k : Int)] ++ le2 (m + 1)), k, m + 1⟩ := by
      unfold runS
      rw [if_neg (by simp; omega)]
      congr 1
      have : (base ++ ([(k : Int)] ++ le2 m)).length - 2 = (base ++ [(k : Int)]).length := by simp [le2]
      simp only
      rw [this, ← List.append_assoc, List.take_left, List.append_assoc]
    rw [e, ih (m + 1) (by omega) (by omega)]
    rw [show m + 1 + j = m + (j + 1) by omega]

/-- One piece's pages. -/
theorem feed (C L : Nat) (st : St) (a p : Pc) (hok : okP L a p) (hrel : Rel st a) (hnb : NB a) (rest : List (List Int)) :
    ∃ st', packS C st a.g (List.replicate p.n p.g ++ rest) = packS C st' p.g rest ∧ st'.laid = st.laid ++ enc C p ∧ Rel st' p := by
  obtain ⟨h1, h2⟩ := hok
  -- a run
  have run : ∀ k : Nat, k ≠ 1 → p.k = k → 1 ≤ p.n → p.n ≤ 65535 → pageS C st a.g p.g = runS st k → (∀ st : St, pageS C st p.g p.g = runS st k) → ∃ st', packS C st a.g (List.replicate p.n p.g ++ rest) = packS C st' p.g rest ∧ st'.laid = st.laid ++ enc C p ∧ Rel st' p := by
    intro k hk1 hk hn1 hn2 e1 e2
    obtain ⟨j, hj⟩ : ∃ j, p.n = 1 + j := ⟨p.n - 1, by omega⟩
    have hnew : st.kind ≠ k ∨ st.count = 0 ∨ st.count = 65535 := by
      unfold stands at h1
      rw [if_neg (by omega)] at h1
      split at h1
      · cases h1
      · next hne =>
        by_cases ha : a.k = 1
        · exact Or.inr (Or.inl (hrel.1 ha))
        · obtain ⟨r1, r2⟩ := hrel.2 ha
          simp at h1
          omega
    refine ⟨⟨st.laid ++ ([(k : Int)] ++ le2 (1 + j)), k, 1 + j⟩, ?_, ?_, ?_⟩
    · rw [hj, Nat.add_comm 1 j, List.replicate_succ, List.cons_append, packS, e1]
      unfold runS
      rw [if_pos hnew, run_more C k p.g e2 st.laid 1 j (by omega) (by omega), Nat.add_comm 1 j]
    · simp only
      unfold enc
      rw [if_neg (by omega), hj, hk]
    · exact ⟨fun h => by omega, fun _ => ⟨hk.symm, by simp [hj]⟩⟩
  rcases h2 with ⟨e1, e2, e3, e4⟩ | ⟨e1, e2, e3⟩ | ⟨e1, e2, e3, e4⟩
  · have hb : blankB p.g = true := by rw [e4]; exact blank_rep L
    exact run 0 (by omega) e1 e2 e3 (by simp [pageS, hb]) (fun st => by simp [pageS, hb])
  · unfold stands at h1
    rw [if_pos e1] at h1
    simp at h1
    refine ⟨toldS C st p.g, ?_, ?_, ?_⟩
    · rw [e2]
      simp [packS, pageS, h1.1, h1.2]
    · have : p = ⟨1, 1, p.g⟩ := by cases p; simp_all
      rw [toldS]
      conv => rhs; rw [this]
    · exact ⟨fun _ => rfl, fun h => absurd e1 h⟩
  · have hb : blankB p.g = false := by
      rw [e4]
      rcases hnb with h | h
      · unfold stands at h1
        rw [if_neg (by omega), if_pos ⟨e1, h⟩] at h1
        cases h1
      · exact h
    exact run 2 (by omega) e1 e2 e3 (by rw [pageS, if_neg (by simp [hb]), if_pos e4]) (fun st => by simp [pageS, hb])

/-- What is laid of the pages of pieces is the pieces' bytes. -/
theorem pack_chain (C L : Nat) (ps : List Pc) : ∀ (st : St) (a : Pc), chain L a ps → Rel st a → NB a → (packS C st a.g (pgs ps)).laid = st.laid ++ encs C ps := by
  induction ps with
  | nil => intro st a _ _ _; simp [pgs, encs, packS]
  | cons p r ih =>
    intro st a hc hr hn
    obtain ⟨st', h1, h2, h3⟩ := feed C L st a p hc.1 hr hn (pgs r)
    have e : pgs (p :: r) = List.replicate p.n p.g ++ pgs r := rfl
    rw [e, h1, ih st' p hc.2 h3 (nb_step hc.1 hn), h2]
    simp [encs]

end Go.Proofs.YteefekhlbillfaaDoor
