/-
  SEAT YteefekhlbillfaaDoor: rows of images, plainly.
-/
import Derived.Test.YteefekhlbillfaaDoorPj
import Derived.Test.YteefekhlbillfaaDoorSum
namespace Go.Proofs.YteefekhlbillfaaDoor
set_option linter.unusedVariables false

/-- The first c bits of the byte number i of marks. -/
def bitsTo (mk : List Bool) (i : Nat) : Nat → Nat
  | 0 => 0
  | c + 1 => bitsTo mk i c + if mk.getD (8 * i + c) false then 2 ^ c else 0

def bitsOf (mk : List Bool) : List Int := (List.range ((mk.length + 7) / 8)).map fun i => ((bitsTo mk i 8 : Nat) : Int)
def unbits (n : Nat) (bs : List Int) : List Bool := (List.range n).map fun i => (bs.getD (i / 8) 0).toNat / 2 ^ (i % 8) % 2 == 1

theorem bitsTo_lt (mk : List Bool) (i c : Nat) : bitsTo mk i c < 2 ^ c := by
  induction c with
  | zero => simp [bitsTo]
  | succ c ih => rw [bitsTo, Nat.pow_succ]; split <;> omega

theorem bitsTo_bit (mk : List Bool) (i c j : Nat) (h : j < c) : bitsTo mk i c / 2 ^ j % 2 = if mk.getD (8 * i + j) false then 1 else 0 := by
  induction c with
  | zero => omega
  | succ c ih =>
    rw [bitsTo]
    rcases Nat.lt_or_ge j c with h1 | h1
    · obtain ⟨d, rfl⟩ : ∃ d, c = j + 1 + d := ⟨c - j - 1, by omega⟩
      split
      · rw [← ih h1]
        have e : 2 ^ (j + 1 + d) = 2 ^ j * (2 * 2 ^ d) := by rw [Nat.pow_add, Nat.pow_succ, Nat.mul_assoc]
        rw [e, Nat.add_mul_div_left _ _ (Nat.two_pow_pos j), Nat.add_mul_mod_self_left]
      · simpa using ih h1
    · obtain rfl : j = c := by omega
      have hl := bitsTo_lt mk i j
      split
      · rw [show bitsTo mk i j + 2 ^ j = bitsTo mk i j + 2 ^ j * 1 by omega, Nat.add_mul_div_left _ _ (Nat.two_pow_pos j), Nat.div_eq_of_lt hl]
      · rw [Nat.add_zero, Nat.div_eq_of_lt hl]

theorem bitsOf_length (mk : List Bool) : (bitsOf mk).length = (mk.length + 7) / 8 := by simp [bitsOf]
theorem bitsOf_getD (mk : List Bool) (i : Nat) (h : i < (mk.length + 7) / 8) : (bitsOf mk).getD i 0 = ((bitsTo mk i 8 : Nat) : Int) := by
  rw [List.getD_eq_getElem?_getD, List.getElem?_eq_getElem (by rw [bitsOf_length]; exact h)]
  simp [bitsOf]
theorem bitsOf_byt (mk : List Bool) : Byt (bitsOf mk) := by
  intro x hx
  obtain ⟨i, _, rfl⟩ := List.mem_map.1 hx
  have := bitsTo_lt mk i 8
  omega

theorem unbits_length (n : Nat) (bs : List Int) : (unbits n bs).length = n := by simp [unbits]
theorem unbits_bitsOf (mk : List Bool) : unbits mk.length (bitsOf mk) = mk := by
  apply List.ext_getElem
  · simp [unbits]
  · intro i h1 h2
    simp only [unbits, List.getElem_map, List.getElem_range]
    rw [bitsOf_getD mk (i / 8) (by omega), Int.toNat_natCast, bitsTo_bit mk (i / 8) 8 (i % 8) (by omega), show 8 * (i / 8) + i % 8 = i by omega, List.getD_eq_getElem?_getD, List.getElem?_eq_getElem h2]
    simp
    cases mk[i] <;> simp

/-- The bytes ahead of the pieces. -/
def headL (b p s : Nat) (mk : List Bool) : List Int := [83, 72, 65, 76, 1] ++ (le2 b ++ (le2 p ++ ([(s : Int)] ++ bitsOf mk)))

structure Img where
  b : Nat
  p : Nat
  s : Nat
  cs : List Int
  ms : List Bool

def Img.C (m : Img) : Nat := 256 * m.s
def Img.S (m : Img) : Nat := 54 + 3 * m.s
def Img.Ok (m : Img) : Prop := Fits m.b m.p m.s = true ∧ m.cs.length = m.b * m.p * (m.C + m.S) ∧ m.ms.length = m.b ∧ Byt m.cs

def le4 (n : Nat) : List Int := [((n % 256 : Nat) : Int), ((n / 256 % 256 : Nat) : Int), ((n / 65536 % 256 : Nat) : Int), ((n / 16777216 % 256 : Nat) : Int)]
def sealL (bs : List Int) : List Int := bs ++ le4 (sumL (nats bs))

/-- What Pack lays down ahead of the sum. -/
def bodyL (m : Img) : List Int := (packS m.C ⟨headL m.b m.p m.s m.ms, 0, 0⟩ [] (chunks (m.C + m.S) (m.b * m.p) m.cs)).laid
def packL (m : Img) : List Int := sealL (bodyL m)

def rdHead (bs : List Int) : Except Int (Nat × Nat × Nat × List Bool × List Int) :=
  if bs.take 4 ≠ [83, 72, 65, 76] then .error 210
  else if bs.length < 5 then .error 10
  else if bs.getD 4 0 ≠ 1 then .error 211
  else if bs.length < 10 then .error 10
  else if Fits (bs.getD 5 0 + 256 * bs.getD 6 0) (bs.getD 7 0 + 256 * bs.getD 8 0) (bs.getD 9 0) = false then .error 40
  else if bs.length < 10 + ((bs.getD 5 0 + 256 * bs.getD 6 0).toNat + 7) / 8 then .error 10
  else if bitsOf (unbits (bs.getD 5 0 + 256 * bs.getD 6 0).toNat ((bs.drop 10).take (((bs.getD 5 0 + 256 * bs.getD 6 0).toNat + 7) / 8))) ≠ (bs.drop 10).take (((bs.getD 5 0 + 256 * bs.getD 6 0).toNat + 7) / 8) then .error 47
  else .ok ((bs.getD 5 0 + 256 * bs.getD 6 0).toNat, (bs.getD 7 0 + 256 * bs.getD 8 0).toNat, (bs.getD 9 0).toNat,
    unbits (bs.getD 5 0 + 256 * bs.getD 6 0).toNat ((bs.drop 10).take (((bs.getD 5 0 + 256 * bs.getD 6 0).toNat + 7) / 8)), bs.drop (10 + ((bs.getD 5 0 + 256 * bs.getD 6 0).toNat + 7) / 8))

def val4 (t : List Int) : Int := t.getD 0 0 + 256 * t.getD 1 0 + 65536 * t.getD 2 0 + 16777216 * t.getD 3 0

def rdEnd (bs t : List Int) : Int :=
  if t.length < 4 then 10
  else if val4 t ≠ ((sumL (nats (bs.take (bs.length - t.length))) : Nat) : Int) then 192
  else if 4 < t.length then 212
  else 0

def readR (bs : List Int) : Except Int Img :=
  match rdHead bs with
  | .error e => .error e
  | .ok (b, p, s, mk, r) =>
    match rdPs (256 * s) (54 + 3 * s) (b * p) (b * p) Pc.z r with
    | .error e => .error e
    | .ok (ps, t) => if rdEnd bs t ≠ 0 then .error (rdEnd bs t) else .ok ⟨b, p, s, (pgs ps).flatten, mk⟩

theorem fits_nat {b p s : Nat} (h : Fits b p s = true) : 8 ≤ b ∧ b ≤ 4096 ∧ 4 ≤ p ∧ p ≤ 256 ∧ 1 ≤ s ∧ s ≤ 8 ∧ b * p ≤ 65536 := by
  have h0 := of_decide_eq_true h
  refine ⟨by omega, by omega, by omega, by omega, by omega, by omega, ?_⟩
  have := h0.2.2.2.2.2.2
  rw [← Int.natCast_mul] at this
  omega

theorem head_len (b p s : Nat) (mk : List Bool) : (headL b p s mk).length = 10 + (mk.length + 7) / 8 := by
  simp [headL, le2, bitsOf_length]
  omega

/-- A head is read as what it is. -/
theorem rdHead_head {b p s : Nat} {mk : List Bool} (hf : Fits b p s = true) (hm : mk.length = b) (r : List Int) : rdHead (headL b p s mk ++ r) = .ok (b, p, s, mk, r) := by
  obtain ⟨q1, q2, q3, q4, q5, q6, q7⟩ := fits_nat hf
  have hl := head_len b p s mk
  rw [hm] at hl
  have ex : headL b p s mk ++ r = 83 :: 72 :: 65 :: 76 :: 1 :: ((b % 256 : Nat) : Int) :: ((b / 256 : Nat) : Int) :: ((p % 256 : Nat) : Int) :: ((p / 256 : Nat) : Int) :: (s : Int) :: (bitsOf mk ++ r) := by
    simp [headL, le2]
  have hbl : (bitsOf mk).length = (b + 7) / 8 := by rw [bitsOf_length, hm]
  have e5 : (headL b p s mk ++ r).getD 5 0 + 256 * (headL b p s mk ++ r).getD 6 0 = (b : Int) := by rw [ex]; simp; omega
  have e7 : (headL b p s mk ++ r).getD 7 0 + 256 * (headL b p s mk ++ r).getD 8 0 = (p : Int) := by rw [ex]; simp; omega
  have e9 : (headL b p s mk ++ r).getD 9 0 = (s : Int) := by rw [ex]; simp
  have e10 : (headL b p s mk ++ r).drop 10 = bitsOf mk ++ r := by rw [ex]; simp
  have e11 : (headL b p s mk ++ r).drop (10 + (b + 7) / 8) = r := by rw [← hl, List.drop_left]
  have el : (headL b p s mk ++ r).length = 10 + (b + 7) / 8 + r.length := by rw [List.length_append, hl]
  unfold rdHead
  rw [e5, e7, e9, e10, el, Int.toNat_natCast, Int.toNat_natCast, Int.toNat_natCast, List.take_left' hbl, e11]
  rw [if_neg (by rw [ex]; simp), if_neg (by omega), if_neg (by rw [ex]; simp), if_neg (by omega), if_neg (by rw [hf]; simp), if_neg (by omega)]
  have e12 : unbits b (bitsOf mk) = mk := by rw [← hm]; exact unbits_bitsOf mk
  rw [e12, if_neg (by simp)]

theorem getD_cons5 (bs : List Int) (h : 10 ≤ bs.length) : bs = [bs.getD 0 0, bs.getD 1 0, bs.getD 2 0, bs.getD 3 0, bs.getD 4 0, bs.getD 5 0, bs.getD 6 0, bs.getD 7 0, bs.getD 8 0, bs.getD 9 0] ++ bs.drop 10 := by
  match bs, h with
  | x0 :: x1 :: x2 :: x3 :: x4 :: x5 :: x6 :: x7 :: x8 :: x9 :: r, _ => simp

/-- What is read as a head is that head. -/
theorem rdHead_sound {bs r : List Int} {b p s : Nat} {mk : List Bool} (hb : Byt bs) (h : rdHead bs = .ok (b, p, s, mk, r)) :
    bs = headL b p s mk ++ r ∧ Fits b p s = true ∧ mk.length = b := by
  have hx : ∀ i, 0 ≤ bs.getD i 0 ∧ bs.getD i 0 ≤ 255 := by
    intro i
    rcases Nat.lt_or_ge i bs.length with h1 | h1
    · rw [List.getD_eq_getElem?_getD, List.getElem?_eq_getElem h1]
      exact hb _ (List.getElem_mem h1)
    · rw [List.getD_eq_getElem?_getD, List.getElem?_eq_none h1]
      simp
  unfold rdHead at h
  split at h
  · simp at h
  split at h
  · simp at h
  split at h
  · simp at h
  split at h
  · simp at h
  split at h
  · simp at h
  split at h
  · simp at h
  split at h
  · simp at h
  next h4 h5 h6 h7 h8 h9 h10 =>
  simp only [Except.ok.injEq, Prod.mk.injEq] at h
  obtain ⟨rfl, rfl, rfl, rfl, rfl⟩ := h
  have e5 := le2_of (hx 5) (hx 6)
  have e7 := le2_of (hx 7) (hx 8)
  have t5 : 0 ≤ bs.getD 5 0 + 256 * bs.getD 6 0 := by have := hx 5; have := hx 6; omega
  have t7 : 0 ≤ bs.getD 7 0 + 256 * bs.getD 8 0 := by have := hx 7; have := hx 8; omega
  refine ⟨?_, ?_, unbits_length _ _⟩
  · have h10' := Classical.not_not.1 h10
    have h4' := Classical.not_not.1 h4
    have h6' := Classical.not_not.1 h6
    have hc := getD_cons5 bs (by omega)
    have h4'' : [bs.getD 0 0, bs.getD 1 0, bs.getD 2 0, bs.getD 3 0] = [83, 72, 65, 76] := by
      rw [← h4']
      conv => rhs; rw [hc]
      simp
    simp only [List.cons.injEq, and_true] at h4''
    unfold headL
    rw [e5, e7, h10', Int.toNat_of_nonneg (hx 9).1]
    conv => lhs; rw [hc]
    obtain ⟨f0, f1, f2, f3⟩ := h4''
    rw [f0, f1, f2, f3, h6']
    simp only [List.cons_append, List.nil_append]
    congr 10
    conv => lhs; rw [← List.take_append_drop (((bs.getD 5 0 + 256 * bs.getD 6 0).toNat + 7) / 8) (bs.drop 10), List.drop_drop]
  · rw [Int.toNat_of_nonneg t5, Int.toNat_of_nonneg t7, Int.toNat_of_nonneg (hx 9).1]
    simpa using h8

theorem rel0 (h : List Int) : Rel ⟨h, 0, 0⟩ Pc.z := ⟨(fun h => by cases h), fun _ => ⟨rfl, rfl⟩⟩

/-- What is laid down of an image of pieces. -/
theorem body_chain (m : Img) (ps : List Pc) (hc : chain (m.C + m.S) Pc.z ps) (hp : pgs ps = chunks (m.C + m.S) (m.b * m.p) m.cs) : bodyL m = headL m.b m.p m.s m.ms ++ encs m.C ps := by
  unfold bodyL
  rw [← hp]
  exact pack_chain m.C (m.C + m.S) ps ⟨headL m.b m.p m.s m.ms, 0, 0⟩ Pc.z hc (rel0 _) (Or.inl rfl)

theorem body_pieces (m : Img) (h : m.Ok) : ∃ ps, chain (m.C + m.S) Pc.z ps ∧ pgs ps = chunks (m.C + m.S) (m.b * m.p) m.cs ∧ bodyL m = headL m.b m.p m.s m.ms ++ encs m.C ps := by
  obtain ⟨h1, h2, h3, h4⟩ := h
  obtain ⟨q1, q2, q3, q4, q5, q6, q7⟩ := fits_nat h1
  obtain ⟨ps, c1, c2, _⟩ := chain_exists (m.C + m.S) (by unfold Img.C Img.S; omega) (chunks (m.C + m.S) (m.b * m.p) m.cs) (chunks_len _ _ _ h2)
  exact ⟨ps, c1, c2, body_chain m ps c1 c2⟩

theorem chunks_count (L n : Nat) (cs : List Int) : (chunks L n cs).length = n := by simp [chunks]

theorem step1_bound (r : Nat) (h : r < 4294967296) : step1 r < 4294967296 := step1_lt r h

theorem sumL_lt {bs : List Int} (h : Byt bs) : sumL (nats bs) < 4294967296 := by
  unfold sumL
  exact xor32 _ _ (crcL_lt _ (nats_lt h)) (by omega)

theorem val4_le4 (n : Nat) (h : n < 4294967296) (t : List Int) : val4 (le4 n ++ t) = (n : Int) := by
  simp [val4, le4]
  omega

theorem le4_val {t : List Int} (hb : Byt t) (hl : t.length = 4) {n : Nat} (h : val4 t = (n : Int)) : t = le4 n := by
  match t, hl with
  | [x0, x1, x2, x3], _ =>
    have h0 := hb x0 (by simp)
    have h1 := hb x1 (by simp)
    have h2 := hb x2 (by simp)
    have h3 := hb x3 (by simp)
    simp [val4] at h
    simp only [le4, List.cons.injEq, and_true]
    omega

theorem encs_byt {C L : Nat} {a : Pc} {ps : List Pc} (hC : C ≤ 65535) (h : chain L a ps) (hp : ∀ g ∈ pgs ps, Byt g) : Byt (encs C ps) := by
  induction ps generalizing a with
  | nil => intro x hx; simp [encs] at hx
  | cons p r ih =>
    intro x hx
    have e : encs C (p :: r) = enc C p ++ encs C r := by simp [encs]
    rw [e] at hx
    have hn := okP_n h.1
    have hg : Byt p.g := hp p.g (by simp [pgs]; exact Or.inl (by omega))
    rcases List.mem_append.1 hx with h1 | h1
    · have hk : p.k ≤ 2 := by obtain ⟨_, ⟨h, _⟩ | ⟨h, _⟩ | ⟨h, _⟩⟩ := h.1 <;> omega
      have hnn : p.n ≤ 65535 := by obtain ⟨_, ⟨_, _, h, _⟩ | ⟨_, h, _⟩ | ⟨_, _, h, _⟩⟩ := h.1 <;> omega
      unfold enc at h1
      split at h1
      · have hw := wrN_le (p.g.take C)
        have hw2 : (p.g.take C).length ≤ C := by simp; omega
        simp only [le2, List.cons_append, List.nil_append, List.mem_cons, List.mem_append] at h1
        rcases h1 with rfl | rfl | rfl | h1 | h1
        · omega
        · omega
        · omega
        · exact hg x (List.mem_of_mem_take h1)
        · exact hg x (List.mem_of_mem_drop h1)
      · simp only [le2, List.cons_append, List.nil_append, List.mem_cons, List.not_mem_nil, or_false] at h1
        rcases h1 with rfl | rfl | rfl <;> omega
    · exact ih h.2 (fun g hg => hp g (by
        have e : pgs (p :: r) = List.replicate p.n p.g ++ pgs r := rfl
        rw [e]; exact List.mem_append_right _ hg)) x h1

theorem head_byt {b p s : Nat} {mk : List Bool} (hf : Fits b p s = true) : Byt (headL b p s mk) := by
  obtain ⟨q1, q2, q3, q4, q5, q6, q7⟩ := fits_nat hf
  intro x hx
  simp only [headL, le2, List.cons_append, List.nil_append, List.mem_cons] at hx
  rcases hx with rfl | rfl | rfl | rfl | rfl | rfl | rfl | rfl | rfl | rfl | hx
  all_goals first | omega | exact bitsOf_byt mk x hx

theorem chunks_byt {L n : Nat} {cs : List Int} (h : Byt cs) : ∀ g ∈ chunks L n cs, Byt g := by
  intro g hg x hx
  obtain ⟨k, _, rfl⟩ := List.mem_map.1 hg
  exact h x (List.mem_of_mem_drop (List.mem_of_mem_take hx))

theorem body_byt (m : Img) (h : m.Ok) : Byt (bodyL m) := by
  obtain ⟨ps, c1, c2, c3⟩ := body_pieces m h
  obtain ⟨q1, q2, q3, q4, q5, q6, q7⟩ := fits_nat h.1
  rw [c3]
  intro x hx
  rcases List.mem_append.1 hx with h1 | h1
  · exact head_byt h.1 x h1
  · exact encs_byt (by unfold Img.C; omega) c1 (by rw [c2]; exact chunks_byt h.2.2.2) x h1

theorem le4_byt (n : Nat) : Byt (le4 n) := by
  intro x hx
  simp only [le4, List.mem_cons, List.not_mem_nil, or_false] at hx
  rcases hx with rfl | rfl | rfl | rfl <;> omega

theorem pack_byt (m : Img) (h : m.Ok) : Byt (packL m) := by
  intro x hx
  rcases List.mem_append.1 hx with h1 | h1
  · exact body_byt m h x h1
  · exact le4_byt _ x h1

/-- What is read of a row and of what stands behind it. -/
theorem read_pack (m : Img) (h : m.Ok) (more : List Int) : readR (packL m ++ more) = if more = [] then .ok m else .error 212 := by
  obtain ⟨ps, c1, c2, c3⟩ := body_pieces m h
  obtain ⟨q1, q2, q3, q4, q5, q6, q7⟩ := fits_nat h.1
  have hcnt : cnt ps = m.b * m.p := by rw [← pgs_length, c2, chunks_count]
  have e1 : packL m ++ more = headL m.b m.p m.s m.ms ++ (encs m.C ps ++ (le4 (sumL (nats (bodyL m))) ++ more)) := by
    rw [packL, sealL, c3]; simp only [List.append_assoc]
  have e2 : rdHead (packL m ++ more) = .ok (m.b, m.p, m.s, m.ms, encs m.C ps ++ (le4 (sumL (nats (bodyL m))) ++ more)) := by
    rw [e1]; exact rdHead_head h.1 h.2.2.1 _
  have e3 := rdPs_encs (C := m.C) (S := m.S) (by unfold Img.C; omega) c1 hcnt (Nat.le_refl _) (le4 (sumL (nats (bodyL m))) ++ more)
  have e3' : rdPs (256 * m.s) (54 + 3 * m.s) (m.b * m.p) (m.b * m.p) Pc.z (encs m.C ps ++ (le4 (sumL (nats (bodyL m))) ++ more)) = .ok (ps, le4 (sumL (nats (bodyL m))) ++ more) := e3
  unfold readR
  rw [e2]
  simp only
  rw [e3']
  simp only
  have hl : (le4 (sumL (nats (bodyL m))) ++ more).length = 4 + more.length := by simp [le4]; omega
  have htk : (packL m ++ more).take ((packL m ++ more).length - (le4 (sumL (nats (bodyL m))) ++ more).length) = bodyL m := by
    have : packL m ++ more = bodyL m ++ (le4 (sumL (nats (bodyL m))) ++ more) := by rw [packL, sealL, List.append_assoc]
    have e9 : (bodyL m ++ (le4 (sumL (nats (bodyL m))) ++ more)).length - (le4 (sumL (nats (bodyL m))) ++ more).length = (bodyL m).length := by rw [@List.length_append _ (bodyL m)]; omega
    rw [this, e9, List.take_left]
  have he : rdEnd (packL m ++ more) (le4 (sumL (nats (bodyL m))) ++ more) = if more = [] then 0 else 212 := by
    unfold rdEnd
    rw [htk, val4_le4 _ (sumL_lt (body_byt m h)), hl, if_neg (by omega), if_neg (by simp)]
    by_cases hm : more = []
    · subst hm; simp
    · have : 0 < more.length := List.length_pos_iff.2 hm
      rw [if_pos (by omega), if_neg hm]
  rw [he]
  by_cases hm : more = []
  · rw [if_pos hm, if_neg (by simp), if_pos hm, c2, chunks_flat _ _ _ h.2.1]
  · rw [if_neg hm, if_pos (by decide), if_neg hm]

theorem back (m : Img) (h : m.Ok) : readR (packL m) = .ok m := by
  have := read_pack m h []
  simpa using this

theorem encs_g {C L : Nat} : ∀ {ps : List Pc} {a : Pc}, chain L a ps → C ≤ L → Byt a.g → Byt (encs C ps) → ∀ g ∈ pgs ps, Byt g := by
  intro ps
  induction ps with
  | nil => intro a _ _ _ _ g hg; simp [pgs] at hg
  | cons p r ih =>
    intro a hc hCL ha hb g hg
    have e : encs C (p :: r) = enc C p ++ encs C r := by simp [encs]
    rw [e] at hb
    have hp : Byt p.g := by
      obtain ⟨h1, ⟨e1, _, _, e4⟩ | ⟨e1, _, e3⟩ | ⟨e1, e2, _, e4⟩⟩ := hc.1
      · rw [e4]; intro x hx; have := (List.mem_replicate.1 hx).2; omega
      · intro x hx
        have h2 := wrN_take (p.g.take C)
        have e5 : p.g.take (wrN (p.g.take C)) = (p.g.take C).take (wrN (p.g.take C)) := by
          rw [List.take_take]; congr 1; have := wrN_le (p.g.take C); simp at this; omega
        have hx2 : x ∈ p.g.take C ++ p.g.drop C := by rw [List.take_append_drop]; exact hx
        have hin : ∀ y, y ∈ p.g.take (wrN (p.g.take C)) ++ p.g.drop C → 0 ≤ y ∧ y ≤ 255 := fun y hy => hb y (by
          refine List.mem_append_left _ ?_
          unfold enc
          rw [if_pos e1]
          exact List.mem_append_right _ hy)
        rcases List.mem_append.1 hx2 with h3 | h3
        · rw [← h2] at h3
          rcases List.mem_append.1 h3 with h4 | h4
          · exact hin x (List.mem_append_left _ (by rw [e5]; exact h4))
          · have := (List.mem_replicate.1 h4).2; omega
        · exact hin x (List.mem_append_right _ h3)
      · rw [e4]; exact ha
    have e2 : pgs (p :: r) = List.replicate p.n p.g ++ pgs r := rfl
    rw [e2] at hg
    rcases List.mem_append.1 hg with h1 | h1
    · rw [(List.mem_replicate.1 h1).2]; exact hp
    · exact ih hc.2 hCL hp (fun x hx => hb x (List.mem_append_right _ hx)) g h1

/-- What is read is packed as it was. -/
theorem canon {bs : List Int} {m : Img} (hb : Byt bs) (h : readR bs = .ok m) : m.Ok ∧ packL m = bs := by
  unfold readR at h
  split at h
  · simp at h
  · next b p s mk r hh =>
    split at h
    · simp at h
    · next ps t hp =>
      split at h
      · simp at h
      · next he =>
        simp only [Except.ok.injEq] at h
        subst h
        obtain ⟨s1, s2, s3⟩ := rdHead_sound hb hh
        obtain ⟨q1, q2, q3, q4, q5, q6, q7⟩ := fits_nat s2
        have hbr : Byt r := fun x hx => hb x (by rw [s1]; exact List.mem_append_right _ hx)
        obtain ⟨p1, p2, p3⟩ := rdPs_sound hbr hp
        have hlen := chain_len p2 (Or.inl ⟨rfl, rfl⟩)
        have hcnt : (pgs ps).length = b * p := by rw [pgs_length, p3]
        have hbt : Byt t := fun x hx => hbr x (by rw [p1]; exact List.mem_append_right _ hx)
        have hbe : Byt (encs (256 * s) ps) := fun x hx => hbr x (by rw [p1]; exact List.mem_append_left _ hx)
        have hgb := encs_g p2 (by omega) (fun x hx => by simp [Pc.z] at hx) hbe
        have hch : chunks (256 * s + (54 + 3 * s)) (b * p) (pgs ps).flatten = pgs ps := by rw [← hcnt]; exact chunks_of _ _ hlen
        have hfl : (pgs ps).flatten.length = b * p * (256 * s + (54 + 3 * s)) := by
          have : ∀ (P : List (List Int)) (L : Nat), (∀ g ∈ P, g.length = L) → P.flatten.length = P.length * L := by
            intro P L
            induction P with
            | nil => intro _; simp
            | cons g P ih => intro hg; rw [List.flatten_cons, List.length_append, ih (fun x hx => hg x (by simp [hx])), hg g (by simp), List.length_cons, Nat.succ_mul]; omega
          rw [this _ _ hlen, hcnt]
        have hok : Img.Ok ⟨b, p, s, (pgs ps).flatten, mk⟩ := by
          refine ⟨s2, hfl, s3, ?_⟩
          intro x hx
          obtain ⟨g, hg, hxg⟩ := List.mem_flatten.1 hx
          exact hgb g hg x hxg
        refine ⟨hok, ?_⟩
        have hbody : bodyL ⟨b, p, s, (pgs ps).flatten, mk⟩ = headL b p s mk ++ encs (256 * s) ps := body_chain ⟨b, p, s, (pgs ps).flatten, mk⟩ ps p2 hch.symm
        have hbs : bs = bodyL ⟨b, p, s, (pgs ps).flatten, mk⟩ ++ t := by rw [hbody, List.append_assoc, ← p1, ← s1]
        have htk : bs.take (bs.length - t.length) = bodyL ⟨b, p, s, (pgs ps).flatten, mk⟩ := by
          rw [hbs, List.length_append, Nat.add_sub_cancel, List.take_left]
        unfold rdEnd at he
        rw [htk] at he
        split at he
        · simp at he
        split at he
        · simp at he
        split at he
        · simp at he
        next g1 g2 g3 =>
        rw [packL, sealL, ← le4_val hbt (by omega) (Classical.not_not.1 g2), ← hbs]

/-- What is a row is none with something behind it, nor cut. -/
theorem tail {bs : List Int} {m : Img} (hb : Byt bs) (h : readR bs = .ok m) (more : List Int) (hm : more ≠ []) : readR (bs ++ more) = .error 212 := by
  obtain ⟨h1, h2⟩ := canon hb h
  have := read_pack m h1 more
  rw [h2, if_neg hm] at this
  exact this

theorem cut_bad {bs : List Int} {m m' : Img} (hb : Byt bs) (h : readR bs = .ok m) (k : Nat) (hk : k < bs.length) : readR (bs.take k) ≠ .ok m' := by
  intro h'
  have := tail (fun x hx => hb x (List.mem_of_mem_take hx)) h' (bs.drop k) (by intro e; have := congrArg List.length e; simp at this; omega)
  rw [List.take_append_drop, h] at this
  cases this

end Go.Proofs.YteefekhlbillfaaDoor
