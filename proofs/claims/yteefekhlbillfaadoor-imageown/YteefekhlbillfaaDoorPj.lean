/-
  SEAT YteefekhlbillfaaDoor: rows of images, plainly.
-/
import Derived.Test.YteefekhlbillfaaDoorPi
import Derived.Test.YteefekhlbillfaaDoorCrc
namespace Go.Proofs.YteefekhlbillfaaDoor
set_option linter.unusedVariables false

/-- One piece out of bytes. -/
def rdPiece (C S left : Nat) (bs : List Int) : Except Int (Pc × List Int) :=
  match bs with
  | [] => .error 10
  | k :: r =>
    if 2 < k then .error 47 else
    match r with
    | x :: y :: t =>
      if k = 1 then
        if C < (x + 256 * y).toNat then .error 47
        else if t.length < (x + 256 * y).toNat + S then .error 10
        else if wrN (t.take (x + 256 * y).toNat) < (x + 256 * y).toNat then .error 47
        else .ok (⟨1, 1, t.take (x + 256 * y).toNat ++ List.replicate (C - (x + 256 * y).toNat) 255 ++ (t.drop (x + 256 * y).toNat).take S⟩, t.drop ((x + 256 * y).toNat + S))
      else if (x + 256 * y).toNat = 0 ∨ left < (x + 256 * y).toNat then .error 47
      else .ok (⟨k.toNat, (x + 256 * y).toNat, []⟩, t)
    | _ => .error 10

def fillP (L : Nat) (a p : Pc) : Pc := if p.k = 0 then ⟨0, p.n, List.replicate L 255⟩ else if p.k = 2 then ⟨2, p.n, a.g⟩ else p

/-- All pieces that tell so many pages. -/
def rdPs (C S : Nat) : Nat → Nat → Pc → List Int → Except Int (List Pc × List Int)
  | 0, left, _, bs => if left = 0 then .ok ([], bs) else .error 47
  | f + 1, left, a, bs =>
    if left = 0 then .ok ([], bs) else
    match rdPiece C S left bs with
    | .error e => .error e
    | .ok (p, r) =>
      if stands p a = true then
        match rdPs C S f (left - p.n) (fillP (C + S) a p) r with
        | .error e => .error e
        | .ok (ps, t) => .ok (fillP (C + S) a p :: ps, t)
      else .error 47

def Byt (bs : List Int) : Prop := ∀ x ∈ bs, 0 ≤ x ∧ x ≤ 255

theorem le2_of {x y : Int} (hx : 0 ≤ x ∧ x ≤ 255) (hy : 0 ≤ y ∧ y ≤ 255) : le2 (x + 256 * y).toNat = [x, y] := by
  obtain ⟨x, rfl⟩ := Int.eq_ofNat_of_zero_le hx.1
  obtain ⟨y, rfl⟩ := Int.eq_ofNat_of_zero_le hy.1
  have e : ((x : Int) + 256 * (y : Int)).toNat = x + 256 * y := by omega
  rw [e]
  have e1 : (x + 256 * y) % 256 = x := by omega
  have e2 : (x + 256 * y) / 256 = y := by omega
  rw [le2, e1, e2]
theorem le2_to (n : Nat) : (((n % 256 : Nat) : Int) + 256 * ((n / 256 : Nat) : Int)).toNat = n := by omega

theorem wrN_told {t : List Int} {n C : Nat} (hn : n ≤ C) (hl : t.length = n) (hw : ¬ wrN t < n) (sp : List Int) :
    wrN ((t ++ List.replicate (C - n) 255 ++ sp).take C) = n ∧ (t ++ List.replicate (C - n) 255 ++ sp).take n = t ∧ (t ++ List.replicate (C - n) 255 ++ sp).drop C = sp := by
  have h1 : (t ++ List.replicate (C - n) 255).length = C := by simp; omega
  have hle := wrN_le t
  refine ⟨?_, ?_, ?_⟩
  · rw [List.take_left' h1, wrN_app]; omega
  · rw [List.append_assoc, List.take_left' hl]
  · rw [List.drop_left' h1]

/-- What a piece that is read has consumed. -/
theorem rdPiece_sound {C S left : Nat} {bs r : List Int} {p : Pc} (hb : Byt bs) (h : rdPiece C S left bs = .ok (p, r)) :
    bs = enc C p ++ r ∧ (p.k = 0 ∧ 1 ≤ p.n ∧ p.n ≤ 65535 ∧ p.n ≤ left ∨ p.k = 1 ∧ p.n = 1 ∧ p.g.length = C + S ∨ p.k = 2 ∧ 1 ≤ p.n ∧ p.n ≤ 65535 ∧ p.n ≤ left) := by
  unfold rdPiece at h
  match bs, hb, h with
  | [], _, h => simp at h
  | [k], _, h => simp only at h; split at h <;> simp at h
  | [k, x], _, h => simp only at h; split at h <;> simp at h
  | k :: x :: y :: t, hb, h =>
    have hk := hb k (by simp)
    have hx := hb x (by simp)
    have hy := hb y (by simp)
    simp only at h
    split at h
    · simp at h
    · next hk2 =>
      split at h
      · next hk1 =>
        split at h
        · simp at h
        · next hC =>
          split at h
          · simp at h
          · next hlen =>
            split at h
            · simp at h
            · next hw =>
              simp only [Except.ok.injEq, Prod.mk.injEq] at h
              obtain ⟨rfl, rfl⟩ := h
              have e2 := le2_of hx hy
              generalize (x + 256 * y).toNat = n at *
              obtain ⟨w1, w2, w3⟩ := wrN_told (t := t.take n) (n := n) (C := C) (by omega) (by simp; omega) hw ((t.drop n).take S)
              refine ⟨?_, Or.inr (Or.inl ⟨rfl, rfl, by simp; omega⟩)⟩
              unfold enc
              rw [if_pos rfl]
              simp only
              rw [w1, w2, w3, e2, hk1]
              simp only [List.cons_append, List.nil_append, List.append_assoc]
              congr 3
              conv => lhs; rw [← List.take_append_drop n t, ← List.take_append_drop S (t.drop n), List.drop_drop]
      · next hk1 =>
        split at h
        · simp at h
        · next hn =>
          simp only [Except.ok.injEq, Prod.mk.injEq] at h
          obtain ⟨rfl, rfl⟩ := h
          have e2 := le2_of hx hy
          refine ⟨?_, ?_⟩
          · unfold enc
            rw [if_neg (by simp only; omega)]
            simp only
            rw [e2, Int.toNat_of_nonneg hk.1]
            rfl
          · simp only
            omega

theorem enc_run (C : Nat) (p : Pc) (hk : p.k ≠ 1) : enc C p = [(p.k : Int), ((p.n % 256 : Nat) : Int), ((p.n / 256 : Nat) : Int)] := by
  unfold enc
  rw [if_neg hk]
  rfl

/-- A piece's bytes are read as that. -/
theorem rdPiece_enc {C S left : Nat} {a p : Pc} (hok : okP (C + S) a p) (hl : p.n ≤ left) (hC : C ≤ 65535) (r : List Int) :
    ∃ q, rdPiece C S left (enc C p ++ r) = .ok (q, r) ∧ fillP (C + S) a q = p ∧ stands q a = true ∧ q.n = p.n := by
  obtain ⟨h1, h2⟩ := hok
  rcases h2 with ⟨e1, e2, e3, e4⟩ | ⟨e1, e2, e3⟩ | ⟨e1, e2, e3, e4⟩
  · refine ⟨⟨0, p.n, []⟩, ?_, ?_, ?_, rfl⟩
    · rw [enc_run C p (by omega), e1]
      simp only [List.cons_append, List.nil_append, rdPiece, le2_to]
      rw [if_neg (by simp), if_neg (by simp), if_neg (by omega)]
      rfl
    · cases p; simp_all [fillP]
    · unfold stands at h1 ⊢
      simp_all
  · have hw := wrN_le (p.g.take C)
    have hlt : (p.g.take C).length = C := by simp; omega
    refine ⟨p, ?_, ?_, h1, rfl⟩
    · unfold enc
      rw [if_pos e1]
      generalize hn : wrN (p.g.take C) = n at *
      have hnC : n ≤ C := by omega
      have htl : (p.g.take n).length = n := by simp; omega
      have e5 : p.g.take n = (p.g.take C).take n := by rw [List.take_take]; congr 1; omega
      have e6 : wrN (p.g.take n) = n := by rw [e5, ← hn, wrN_self]
      have e7 : p.g.take n ++ List.replicate (C - n) 255 = p.g.take C := by
        have := wrN_take (p.g.take C)
        rw [hn, hlt] at this
        rw [e5]; exact this
      have e8 : (p.g.drop C).length = S := by simp; omega
      simp only [le2, List.cons_append, List.nil_append, List.append_assoc, rdPiece]
      have f1 : p.g.take n ++ (List.replicate (C - n) 255 ++ p.g.drop C) = p.g := by rw [← List.append_assoc, e7, List.take_append_drop]
      have f2 : (p.g.take n ++ (p.g.drop C ++ r)).drop (n + S) = r := by rw [← List.append_assoc, List.drop_left' (by simp only [List.length_append, htl, e8])]
      rw [if_neg (by decide), if_pos trivial, le2_to, if_neg (by omega), if_neg (by simp only [List.length_append, htl, e8]; omega), List.take_left' htl, if_neg (by omega), List.drop_left' htl, List.take_left' e8, f1, f2]
      cases p; simp_all
    · unfold fillP
      rw [if_neg (by omega), if_neg (by omega)]
  · refine ⟨⟨2, p.n, []⟩, ?_, ?_, ?_, rfl⟩
    · rw [enc_run C p (by omega), e1]
      simp only [List.cons_append, List.nil_append, rdPiece, le2_to]
      rw [if_neg (by simp), if_neg (by simp), if_neg (by omega)]
      rfl
    · cases p; simp_all [fillP]
    · unfold stands at h1 ⊢
      simp_all

theorem enc_fill (C L : Nat) (a p : Pc) : enc C (fillP L a p) = enc C p := by
  unfold fillP
  split
  · next h => rw [enc_run _ _ (by simp), enc_run _ _ (by omega), h]
  · split
    · next h => rw [enc_run _ _ (by simp), enc_run _ _ (by omega), h]
    · rfl

theorem fill_n (L : Nat) (a p : Pc) : (fillP L a p).n = p.n := by
  unfold fillP
  split
  · rfl
  · split <;> rfl

theorem fill_k (L : Nat) (a p : Pc) : (fillP L a p).k = p.k := by
  unfold fillP
  split
  · next h => exact h.symm
  · split
    · next h => exact h.symm
    · rfl

theorem fill_stands (L : Nat) (a p : Pc) : stands (fillP L a p) a = stands p a := by
  by_cases hk : p.k = 1
  · unfold fillP
    rw [if_neg (by omega), if_neg (by omega)]
  · unfold stands
    rw [fill_k, if_neg hk, if_neg hk]

theorem rdPs_sound {C S : Nat} : ∀ {f left : Nat} {a : Pc} {bs t : List Int} {ps : List Pc}, Byt bs → rdPs C S f left a bs = .ok (ps, t) →
    bs = encs C ps ++ t ∧ chain (C + S) a ps ∧ cnt ps = left := by
  intro f
  induction f with
  | zero =>
    intro left a bs t ps hb h
    simp only [rdPs] at h
    split at h
    · next hl =>
      simp only [Except.ok.injEq, Prod.mk.injEq] at h
      obtain ⟨rfl, rfl⟩ := h
      exact ⟨rfl, trivial, hl.symm⟩
    · simp at h
  | succ f ih =>
    intro left a bs t ps hb h
    simp only [rdPs] at h
    split at h
    · next hl =>
      simp only [Except.ok.injEq, Prod.mk.injEq] at h
      obtain ⟨rfl, rfl⟩ := h
      exact ⟨rfl, trivial, hl.symm⟩
    · next hl =>
      split at h
      · simp at h
      · next p r hp =>
        split at h
        · next hs =>
          split at h
          · simp at h
          · next ps' t' hr =>
            simp only [Except.ok.injEq, Prod.mk.injEq] at h
            obtain ⟨rfl, rfl⟩ := h
            obtain ⟨s1, s2⟩ := rdPiece_sound hb hp
            obtain ⟨i1, i2, i3⟩ := ih (fun x hx => hb x (by rw [s1]; exact List.mem_append_right _ hx)) hr
            refine ⟨?_, ⟨⟨by rw [fill_stands]; exact hs, ?_⟩, i2⟩, ?_⟩
            · conv => lhs; rw [s1, i1]
              simp [encs, enc_fill]
            · rw [fill_k, fill_n]
              rcases s2 with ⟨h1, h2, h3, _⟩ | ⟨h1, h2, h3⟩ | ⟨h1, h2, h3, _⟩
              · exact Or.inl ⟨h1, h2, h3, by unfold fillP; rw [if_pos h1]⟩
              · exact Or.inr (Or.inl ⟨h1, h2, by unfold fillP; rw [if_neg (by omega), if_neg (by omega)]; exact h3⟩)
              · exact Or.inr (Or.inr ⟨h1, h2, h3, by unfold fillP; rw [if_neg (by omega), if_pos h1]⟩)
            · have : cnt (fillP (C + S) a p :: ps') = p.n + cnt ps' := by simp [cnt, fill_n]
              rw [this, i3]
              omega
        · simp at h

theorem okP_n {L : Nat} {a p : Pc} (h : okP L a p) : 1 ≤ p.n := by
  obtain ⟨_, ⟨_, h, _⟩ | ⟨_, h, _⟩ | ⟨_, h, _⟩⟩ := h <;> omega

theorem rdPs_encs {C S : Nat} (hC : C ≤ 65535) : ∀ {ps : List Pc} {f left : Nat} {a : Pc}, chain (C + S) a ps → cnt ps = left → left ≤ f → ∀ t, rdPs C S f left a (encs C ps ++ t) = .ok (ps, t) := by
  intro ps
  induction ps with
  | nil =>
    intro f left a _ hc hf t
    have : left = 0 := by rw [← hc]; rfl
    subst this
    cases f <;> simp [rdPs, encs]
  | cons p r ih =>
    intro f left a hch hc hf t
    have hn := okP_n hch.1
    have hcp : cnt (p :: r) = p.n + cnt r := by simp [cnt]
    rw [hcp] at hc
    obtain ⟨f, rfl⟩ : ∃ g, f = g + 1 := ⟨f - 1, by omega⟩
    obtain ⟨q, q1, q2, q3, q4⟩ := rdPiece_enc (left := left) hch.1 (by omega) hC (encs C r ++ t)
    have e : encs C (p :: r) ++ t = enc C p ++ (encs C r ++ t) := by simp [encs]
    rw [e, rdPs, if_neg (by omega), q1]
    simp only
    rw [if_pos q3, q2, q4, ih hch.2 (by omega) (by omega) t]

/-- Pages, one behind the other. -/
def chunks (L n : Nat) (cs : List Int) : List (List Int) := (List.range n).map fun k => (cs.drop (k * L)).take L

theorem chunks_succ (L n : Nat) (cs : List Int) : chunks L (n + 1) cs = cs.take L :: chunks L n (cs.drop L) := by
  unfold chunks
  rw [List.range_succ_eq_map, List.map_cons, List.map_map]
  congr 1
  · simp
  · apply List.map_congr_left
    intro k _
    simp only [Function.comp, List.drop_drop]
    congr 2
    rw [Nat.succ_mul]; omega

theorem chunks_flat (L : Nat) : ∀ (n : Nat) (cs : List Int), cs.length = n * L → (chunks L n cs).flatten = cs := by
  intro n
  induction n with
  | zero => intro cs h; simp at h; subst h; rfl
  | succ n ih =>
    intro cs h
    rw [chunks_succ, List.flatten_cons, ih _ (by rw [List.length_drop, h, Nat.succ_mul]; omega), List.take_append_drop]

theorem chunks_len (L : Nat) : ∀ (n : Nat) (cs : List Int), cs.length = n * L → ∀ g ∈ chunks L n cs, g.length = L := by
  intro n
  induction n with
  | zero => intro cs h g hg; simp [chunks] at hg
  | succ n ih =>
    intro cs h g hg
    rw [chunks_succ] at hg
    rcases List.mem_cons.1 hg with h1 | h1
    · rw [h1, List.length_take, h, Nat.succ_mul]; omega
    · exact ih _ (by rw [List.length_drop, h, Nat.succ_mul]; omega) g h1

theorem chunks_of (L : Nat) : ∀ (P : List (List Int)), (∀ g ∈ P, g.length = L) → chunks L P.length P.flatten = P := by
  intro P
  induction P with
  | nil => intro _; rfl
  | cons g P ih =>
    intro h
    have hg := h g (by simp)
    rw [List.length_cons, chunks_succ, List.flatten_cons, List.take_left' hg, List.drop_left' hg, ih (fun x hx => h x (by simp [hx]))]

theorem chain_len {L : Nat} {a : Pc} {ps : List Pc} (h : chain L a ps) (ha : a.n = 0 ∧ a.k = 0 ∨ a.g.length = L) : ∀ g ∈ pgs ps, g.length = L := by
  induction ps generalizing a with
  | nil => intro g hg; simp [pgs] at hg
  | cons p r ih =>
    intro g hg
    have hp : p.g.length = L := by
      obtain ⟨h1, ⟨e1, _, _, e4⟩ | ⟨_, _, e3⟩ | ⟨e1, e2, _, e4⟩⟩ := h.1
      · rw [e4]; simp
      · exact e3
      · rcases ha with ⟨_, h0⟩ | h0
        · unfold stands at h1
          rw [if_neg (by omega), if_pos ⟨e1, h0⟩] at h1
          cases h1
        · rw [e4]; exact h0
    have e : pgs (p :: r) = List.replicate p.n p.g ++ pgs r := rfl
    rw [e] at hg
    rcases List.mem_append.1 hg with h1 | h1
    · rw [(List.mem_replicate.1 h1).2]; exact hp
    · exact ih h.2 (Or.inr hp) g h1

end Go.Proofs.YteefekhlbillfaaDoor
