/-
  SEAT YteefekhlbillfaaDoor: rows of images, plainly.
-/
import Derived.Test.YteefekhlbillfaaDoorPk
namespace Go.Proofs.YteefekhlbillfaaDoor
set_option linter.unusedVariables false

/-- A row of bytes as one number, the first byte lowest. -/
def bigN : List Nat → Nat
  | [] => 0
  | x :: r => x + 256 * bigN r

theorem stepN_zero (k : Nat) : stepN 0 k = 0 := by
  induction k with
  | zero => rfl
  | succ k ih => rw [stepN, ih]; rfl

theorem step_even2 (q : Nat) : step1 (2 * q) = q := by
  unfold step1
  rw [if_neg (by omega)]
  omega

theorem stepN_shift (q k : Nat) : stepN (2 ^ k * q) k = q := by
  induction k generalizing q with
  | zero => simp [stepN]
  | succ k ih =>
    rw [stepN, Nat.pow_succ, Nat.mul_assoc, ih, step_even2]

theorem byte_xor (x q : Nat) (h : x < 256) : x + 256 * q = x ^^^ (256 * q) := by
  have h1 := Nat.two_pow_add_eq_or_of_lt (i := 8) (b := x) (by omega) q
  have h3 : 2 ^ 8 * q &&& x = 0 := by
    apply Nat.eq_of_testBit_eq
    intro i
    rw [Nat.testBit_and, Nat.zero_testBit]
    by_cases hi : i < 8
    · have : (2 ^ 8 * q).testBit i = false := by rw [Nat.testBit_two_pow_mul]; simp; omega
      rw [this]; rfl
    · have : x.testBit i = false := Nat.testBit_lt_two_pow (Nat.lt_of_lt_of_le (show x < 2 ^ 8 by omega) (Nat.pow_le_pow_right (by omega) (by omega)))
      rw [this]; simp
  have h4 : x ^^^ (2 ^ 8 * q) = 2 ^ 8 * q ||| x := by
    apply Nat.eq_of_testBit_eq
    intro i
    have := congrArg (fun x => x.testBit i) h3
    simp only [Nat.testBit_and, Nat.zero_testBit] at this
    rw [Nat.testBit_xor, Nat.testBit_or]
    generalize (2 ^ 8 * q).testBit i = p at this ⊢
    generalize x.testBit i = q at this ⊢
    cases p <;> cases q <;> first | rfl | cases this
  rw [show 256 * q = 2 ^ 8 * q from rfl, h4, ← h1]
  omega

/-- The register behind a row, as one number goes through it. -/
theorem crc_big : ∀ (zs : List Nat) (r : Nat), (∀ z ∈ zs, z < 256) → zs.foldl crcB r = stepN (r ^^^ bigN zs) (8 * zs.length) := by
  intro zs
  induction zs with
  | nil => intro r _; simp [bigN, stepN]
  | cons x l ih =>
    intro r h
    rw [List.foldl_cons, ih _ (fun z hz => h z (by simp [hz])), bigN, byte_xor x _ (h x (by simp)), List.length_cons, show 8 * (l.length + 1) = 8 + 8 * l.length by omega, stepN_add]
    congr 1
    rw [← Nat.xor_assoc, stepN_xor]
    have : stepN (256 * bigN l) 8 = bigN l := stepN_shift (bigN l) 8
    rw [this]
    rfl

theorem step1_zero {r : Nat} (h : r < 4294967296) (h0 : step1 r = 0) : r = 0 := by
  unfold step1 at h0
  split at h0
  · next hr =>
    exfalso
    have h1 : r / 2 = 3988292384 := by
      have := congrArg (fun x => x ^^^ 3988292384) h0
      simpa [Nat.xor_assoc] using this
    omega
  · omega

theorem stepN_ne {r : Nat} (h : r < 4294967296) (h0 : r ≠ 0) (k : Nat) : stepN r k ≠ 0 := by
  induction k with
  | zero => exact h0
  | succ k ih => rw [stepN]; exact fun e => ih (step1_zero (stepN_lt _ _ h) e)

/-- A burst is seen. -/
theorem burst_ne {n a X : Nat} (ha : a ≤ n) (hX : X < 4294967296) (hX0 : X ≠ 0) : stepN (2 ^ a * X) n ≠ 0 := by
  obtain ⟨d, rfl⟩ : ∃ d, n = a + d := ⟨n - a, by omega⟩
  rw [stepN_add, stepN_shift]
  exact stepN_ne hX hX0 d

theorem le4_nats (n : Nat) : nats (le4 n) = [n % 256, n / 256 % 256, n / 65536 % 256, n / 16777216 % 256] := by
  simp [nats, le4]
  omega

theorem big_le4 (n : Nat) (h : n < 4294967296) : bigN (nats (le4 n)) = n := by
  rw [le4_nats]
  simp only [bigN]
  omega

/-- Behind a row with its sum the register holds one number. -/
theorem seal_crc (bs : List Int) (h : Byt bs) : crcL (nats (sealL bs)) = stepN 4294967295 32 := by
  have hl := crcL_lt _ (nats_lt h)
  have e : nats (sealL bs) = nats bs ++ nats (le4 (sumL (nats bs))) := by simp [nats, sealL]
  rw [e, crcL, List.foldl_append, crc_big _ _ (nats_lt (le4_byt _)), big_le4 _ (sumL_lt h)]
  have e2 : crcL (nats bs) ^^^ sumL (nats bs) = 4294967295 := by
    rw [sumL, ← Nat.xor_assoc, Nat.xor_self, Nat.zero_xor]
  have e3 : List.foldl crcB 4294967295 (nats bs) ^^^ sumL (nats bs) = 4294967295 := e2
  rw [e3]
  congr 1

theorem xor_cancel4 (r x y : Nat) : (r ^^^ x) ^^^ (r ^^^ y) = x ^^^ y := by
  rw [Nat.xor_comm r x, Nat.xor_assoc, ← Nat.xor_assoc r r y, Nat.xor_self, Nat.zero_xor]

/-- Two rows with their sums are no burst apart. -/
theorem seal_burst (x y : List Int) (hx : Byt x) (hy : Byt y) (hl : (sealL x).length = (sealL y).length) (a X : Nat) (ha : a ≤ 8 * (sealL x).length) (hX : X < 4294967296)
    (hd : bigN (nats (sealL x)) ^^^ bigN (nats (sealL y)) = 2 ^ a * X) : X = 0 := by
  by_cases h0 : X = 0
  · exact h0
  exfalso
  have bx : Byt (sealL x) := fun z hz => (List.mem_append.1 hz).elim (hx z) (le4_byt _ z)
  have by' : Byt (sealL y) := fun z hz => (List.mem_append.1 hz).elim (hy z) (le4_byt _ z)
  have e1 := seal_crc x hx
  have e2 := seal_crc y hy
  have nl : ∀ z : List Int, (nats z).length = z.length := fun z => by simp [nats]
  rw [crcL, crc_big _ _ (nats_lt bx), nl] at e1
  rw [crcL, crc_big _ _ (nats_lt by'), nl, ← hl] at e2
  have e3 : stepN ((4294967295 ^^^ bigN (nats (sealL x))) ^^^ (4294967295 ^^^ bigN (nats (sealL y)))) (8 * (sealL x).length) = 0 := by
    rw [stepN_xor, e1, e2, Nat.xor_self]
  rw [xor_cancel4, hd] at e3
  exact burst_ne ha hX h0 e3

/-- The row with bits turned round. -/
def turned (bs : List Int) (a : Nat) (x : Nat) : Nat → List Int
  | 0 => bs
  | i + 1 =>
    if a + i < 8 * bs.length ∧ x / 2 ^ i % 2 = 1 then (turned bs a x i).set ((a + i) / 8) ((((turned bs a x i).getD ((a + i) / 8) 0).toNat ^^^ 2 ^ ((a + i) % 8) : Nat) : Int)
    else turned bs a x i

theorem turned_len (bs : List Int) (a x i : Nat) : (turned bs a x i).length = bs.length := by
  induction i with
  | zero => rfl
  | succ i ih => unfold turned; split <;> simp [ih]

theorem turned_byt {bs : List Int} (h : Byt bs) (a x i : Nat) : Byt (turned bs a x i) := by
  induction i with
  | zero => exact h
  | succ i ih =>
    unfold turned
    split
    · intro z hz
      rcases List.mem_or_eq_of_mem_set hz with h1 | h1
      · exact ih z h1
      · rw [h1]
        have hb : ((turned bs a x i).getD ((a + i) / 8) 0).toNat < 2 ^ 8 := by
          rcases Nat.lt_or_ge ((a + i) / 8) (turned bs a x i).length with h2 | h2
          · rw [List.getD_eq_getElem?_getD, List.getElem?_eq_getElem h2]
            have := ih _ (List.getElem_mem h2)
            simp only [Option.getD_some]
            omega
          · rw [List.getD_eq_getElem?_getD, List.getElem?_eq_none h2]
            simp
        have := Nat.xor_lt_two_pow hb (Nat.pow_lt_pow_right (show 1 < 2 by decide) (show (a + i) % 8 < 8 by omega))
        omega
    · exact ih

theorem big_set (zs : List Nat) (j c : Nat) (hj : j < zs.length) (hz : ∀ z ∈ zs, z < 256) (hc : c < 8) : bigN (zs.set j (zs.getD j 0 ^^^ 2 ^ c)) = bigN zs ^^^ 2 ^ (8 * j + c) := by
  induction zs generalizing j with
  | nil => simp at hj
  | cons x r ih =>
    have hx := hz x (by simp)
    have hp : 2 ^ c < 256 := Nat.pow_lt_pow_right (show 1 < 2 by decide) hc
    cases j with
    | zero =>
      have hx2 : x ^^^ 2 ^ c < 256 := Nat.xor_lt_two_pow (n := 8) hx hp
      simp only [List.set_cons_zero, List.getD_cons_zero, bigN, Nat.mul_zero, Nat.zero_add]
      rw [byte_xor _ _ hx2, byte_xor x _ hx, Nat.xor_assoc, Nat.xor_comm (2 ^ c), ← Nat.xor_assoc]
    | succ j =>
      simp only [List.set_cons_succ, List.getD_cons_succ, bigN]
      rw [ih j (by simpa using hj) (fun z h => hz z (by simp [h])), byte_xor x _ hx, byte_xor x _ hx, Nat.xor_assoc]
      congr 1
      have e : (256 : Nat) = 2 ^ 8 := rfl
      rw [show 8 * (j + 1) + c = 8 + (8 * j + c) by omega, Nat.pow_add 2 8, e]
      apply Nat.eq_of_testBit_eq
      intro i
      simp only [Nat.testBit_two_pow_mul, Nat.testBit_xor]
      by_cases h : 8 ≤ i <;> simp [h]

theorem nats_set (zs : List Int) (j : Nat) (v : Nat) : nats (zs.set j (v : Int)) = (nats zs).set j v := by
  simp [nats, List.map_set]
theorem nats_getD (zs : List Int) (j : Nat) : (nats zs).getD j 0 = (zs.getD j 0).toNat := by
  simp only [nats, List.getD_eq_getElem?_getD, List.getElem?_map]
  cases zs[j]? <;> simp

/-- What is turned round is a burst. -/
theorem turned_big {bs : List Int} (h : Byt bs) (a x : Nat) : ∀ i, ∃ X, X < 2 ^ i ∧ bigN (nats (turned bs a x i)) ^^^ bigN (nats bs) = 2 ^ a * X := by
  intro i
  induction i with
  | zero => exact ⟨0, by simp, by simp [turned]⟩
  | succ i ih =>
    obtain ⟨X, h1, h2⟩ := ih
    unfold turned
    split
    · next hh =>
      refine ⟨X + 2 ^ i, by rw [Nat.pow_succ]; omega, ?_⟩
      rw [nats_set, ← nats_getD, big_set _ _ _ (by rw [nats, List.length_map, turned_len]; omega) (nats_lt (turned_byt h a x i)) (by omega), show 8 * ((a + i) / 8) + (a + i) % 8 = a + i by omega, Nat.xor_assoc, Nat.xor_comm (2 ^ (a + i)), ← Nat.xor_assoc, h2, Nat.pow_add]
      have e : X + 2 ^ i = X ^^^ 2 ^ i := by
        have h4 := Nat.two_pow_add_eq_or_of_lt (i := i) (b := X) h1 1
        rw [Nat.mul_one] at h4
        rw [Nat.add_comm, h4]
        apply Nat.eq_of_testBit_eq
        intro j
        rw [Nat.testBit_xor, Nat.testBit_or, Nat.testBit_two_pow]
        by_cases hj : i = j
        · subst hj
          rw [Nat.testBit_lt_two_pow h1]; simp
        · simp [hj]
      rw [e]
      apply Nat.eq_of_testBit_eq
      intro j
      rw [Nat.testBit_xor, Nat.testBit_two_pow_mul, Nat.testBit_two_pow_mul, Nat.testBit_two_pow_mul, Nat.testBit_xor]
      by_cases h : a ≤ j <;> simp [h]
    · exact ⟨X, by rw [Nat.pow_succ]; omega, h2⟩

theorem big_inj : ∀ (xs ys : List Nat), xs.length = ys.length → (∀ z ∈ xs, z < 256) → (∀ z ∈ ys, z < 256) → bigN xs = bigN ys → xs = ys := by
  intro xs
  induction xs with
  | nil => intro ys h _ _ _; cases ys with | nil => rfl | cons _ _ => simp at h
  | cons x r ih =>
    intro ys h hx hy he
    cases ys with
    | nil => simp at h
    | cons y l =>
      have h1 := hx x (by simp)
      have h2 := hy y (by simp)
      simp only [bigN] at he
      obtain rfl : x = y := by omega
      rw [ih l (by simpa using h) (fun z hz => hx z (by simp [hz])) (fun z hz => hy z (by simp [hz])) (by omega)]

theorem nats_inj {xs ys : List Int} (hx : Byt xs) (hy : Byt ys) (h : nats xs = nats ys) : xs = ys := by
  have h1 : ∀ zs : List Int, Byt zs → (nats zs).map Int.ofNat = zs := by
    intro zs hz
    rw [nats, List.map_map]
    conv => rhs; rw [← List.map_id zs]
    apply List.map_congr_left
    intro x hx
    have := hz x hx
    simp only [Function.comp, id]
    show ((x.toNat : Nat) : Int) = x
    omega
  rw [← h1 xs hx, ← h1 ys hy, h]

/-- A row with bits turned round within 32 neighbours is none. -/
theorem burst_bad {m : Img} (hm : m.Ok) (a x : Nat) (ha : a < 8 * (packL m).length) {m' : Img} (h : readR (turned (packL m) a x 32) = .ok m') : turned (packL m) a x 32 = packL m := by
  have hb := pack_byt m hm
  obtain ⟨h1, h2⟩ := canon (turned_byt hb a x 32) h
  obtain ⟨X, hX, hd⟩ := turned_big hb a x 32
  have hl : (turned (packL m) a x 32).length = (packL m).length := turned_len _ _ _ _
  rw [← h2] at hd hl ⊢
  have hX0 := seal_burst (bodyL m') (bodyL m) (body_byt m' h1) (body_byt m hm) hl a X (by rw [show (sealL (bodyL m')).length = (packL m).length from hl]; omega) hX hd
  subst hX0
  have he : bigN (nats (packL m')) = bigN (nats (packL m)) := by
    rw [Nat.mul_zero] at hd
    have := congrArg (fun z => z ^^^ bigN (nats (packL m))) hd
    simpa [Nat.xor_assoc] using this
  exact nats_inj (pack_byt m' h1) hb (big_inj _ _ (by simpa [nats] using hl) (nats_lt (pack_byt m' h1)) (nats_lt hb) he)

end Go.Proofs.YteefekhlbillfaaDoor
