/-
  SEAT YtdiifegljonojaaDoor: Xm, of several texts.
-/
import Derived.Test.YtdiifegljonojaaDoorXc
import Derived.Test.YtdiifegljonojaaDoorXh
import Derived.Test.YtdiifegljonojaaDoorXi
namespace Go.Proofs.YtdiifegljonojaaDoor
open Go.RowKit
set_option linter.unusedVariables false

theorem cut_cases {a b : List Int} {k : Nat} (h : k < (a ++ b).length) : (k < a.length ∧ (a ++ b).take k = a.take k) ∨ (∃ j, j < b.length ∧ (a ++ b).take k = a ++ b.take j) := by
  rw [List.length_append] at h
  by_cases h1 : k < a.length
  · exact .inl ⟨h1, List.take_append_of_le_length (by omega)⟩
  · refine .inr ⟨k - a.length, by omega, ?_⟩
    rw [List.take_append, List.take_of_length_le (by omega)]
theorem whole_short {n : Nat} {lo hi : Int} {p : List Int} (h : p.length < n) : wholeR n lo hi p = .error 190 := by
  unfold wholeR
  rw [if_neg (by omega)]
theorem numR_short {n : Nat} {p : List Int} (h : p.length < n) : numR n p = .error 190 := by
  unfold numR
  rw [if_neg (by omega)]
theorem take_short {n : Nat} {p : List Int} (h : p.length < n) : takeR n p = .error 190 := by
  unfold takeR
  rw [if_neg (by omega)]
theorem numL_cut {n k : Nat} {v : Int} (h : k < (numL n v).length) : ((numL n v).take k).length < n := by
  rw [numL_length] at h
  rw [List.length_take, numL_length]; omega

theorem namesR_dry (ahead : List ByteArray) (d : Nat) (nm : ByteArray) (h1 : 1 ≤ nm.size) (h2 : nm.size ≤ 63) (k : Nat) (hk : k < (numL 1 (nm.size : Int) ++ numsS nm).length) : namesR ahead d ((numL 1 (nm.size : Int) ++ numsS nm).take k) = .error 190 := by
  rcases cut_cases hk with ⟨hk, e⟩ | ⟨j, hj, e⟩
  · rw [e]
    unfold namesR
    rw [whole_short (numL_cut hk)]
  · rw [e]
    have a1 : wholeR 1 1 63 (numL 1 (nm.size : Int) ++ (numsS nm).take j) = .ok ((nm.size : Int), (numsS nm).take j) := whole_numL 1 1 63 _ _ (by omega) (c1 (by omega)) (by omega) (by omega)
    have a2 : takeR nm.size ((numsS nm).take j) = .error 190 := take_short (by rw [numsS_len] at hj; rw [List.length_take, numsS_len]; omega)
    unfold namesR
    rw [a1]
    simp only [Int.toNat_natCast]
    rw [a2]
theorem targetR_dry (tg : ByteArray) (h1 : 1 ≤ tg.size) (h2 : tg.size ≤ 127) (k : Nat) (hk : k < (numL 1 (tg.size : Int) ++ numsS tg).length) : targetR ((numL 1 (tg.size : Int) ++ numsS tg).take k) = .error 190 := by
  rcases cut_cases hk with ⟨hk, e⟩ | ⟨j, hj, e⟩
  · rw [e]
    unfold targetR
    rw [whole_short (numL_cut hk)]
  · rw [e]
    have a1 : wholeR 1 1 127 (numL 1 (tg.size : Int) ++ (numsS tg).take j) = .ok ((tg.size : Int), (numsS tg).take j) := whole_numL 1 1 127 _ _ (by omega) (c1 (by omega)) (by omega) (by omega)
    have a2 : takeR tg.size ((numsS tg).take j) = .error 190 := take_short (by rw [numsS_len] at hj; rw [List.length_take, numsS_len]; omega)
    unfold targetR
    rw [a1]
    simp only [Int.toNat_natCast]
    rw [a2]
theorem modeR_dry (m s : Int) (h0 : 0 ≤ m) (h1 : m ≤ 4095) (k : Nat) (hk : k < (numL 2 m ++ numL 8 s).length) : modeR ((numL 2 m ++ numL 8 s).take k) = .error 190 := by
  rcases cut_cases hk with ⟨hk, e⟩ | ⟨j, hj, e⟩
  · rw [e]
    unfold modeR
    rw [whole_short (numL_cut hk)]
  · rw [e]
    have a1 : wholeR 2 0 4095 (numL 2 m ++ (numL 8 s).take j) = .ok (m, (numL 8 s).take j) := whole_numL 2 0 4095 _ _ h0 (by rw [p2]; omega) h0 h1
    unfold modeR
    rw [a1]
    simp only
    rw [numR_short (numL_cut hj)]

/-- Stretches. -/
theorem dataL_e1 (size f pos : Nat) (last : Int) (acc : List Sg) (bs : List Int) (h : pos < size) (h1 : wholeR 1 0 1 bs = .error 190) : dataL size (f + 1) pos last acc bs = .error 190 := by
  rw [dataL, if_pos h, h1]
theorem dataL_e2 (size f pos : Nat) (last : Int) (acc : List Sg) (bs r1 : List Int) (kd : Int) (h : pos < size) (h1 : wholeR 1 0 1 bs = .ok (kd, r1)) (h2 : ¬ kd = last) (h3 : wholeR 4 (if kd = 0 then 16 else 1) ((size : Int) - (pos : Int)) r1 = .error 190) : dataL size (f + 1) pos last acc bs = .error 190 := by
  rw [dataL, if_pos h, h1]
  show (if kd = last then Except.error 191 else _) = _
  rw [if_neg h2, h3]
theorem hole_dry (size f pos n : Nat) (last : Int) (acc : List Sg) (zs : List Int) (p k : Nat) (hs : size ≤ 16777216) (h : pos < size) (h2 : last ≠ 0) (h3 : 16 ≤ n) (h4 : pos + n ≤ size) (hk : k < (encR zs ⟨p, n, true⟩).length) :
    dataL size (f + 1) pos last acc ((encR zs ⟨p, n, true⟩).take k) = .error 190 := by
  have he : encR zs ⟨p, n, true⟩ = numL 1 0 ++ numL 4 (n : Int) := by
    have := encR_hole zs p n []
    rw [List.append_nil, List.append_nil] at this
    exact this
  rw [he] at hk ⊢
  rcases cut_cases hk with ⟨hk, e⟩ | ⟨j, hj, e⟩
  · rw [e]
    exact dataL_e1 size f pos last acc _ h (whole_short (numL_cut hk))
  · rw [e]
    have a1 : wholeR 1 0 1 (numL 1 0 ++ (numL 4 (n : Int)).take j) = .ok (0, (numL 4 (n : Int)).take j) := whole_numL 1 0 1 0 _ (by decide) (by decide) (by decide) (by decide)
    exact dataL_e2 size f pos last acc _ _ 0 h a1 (fun e => h2 e.symm) (whole_short (numL_cut hj))
theorem fill_dry (size f pos n : Nat) (last : Int) (acc : List Sg) (zs : List Int) (p k : Nat) (hs : size ≤ 16777216) (h : pos < size) (h2 : last ≠ 1) (h3 : 1 ≤ n) (h4 : pos + n ≤ size) (hl : ((zs.drop p).take n).length = n) (hk : k < (encR zs ⟨p, n, false⟩).length) :
    dataL size (f + 1) pos last acc ((encR zs ⟨p, n, false⟩).take k) = .error 190 := by
  have he : encR zs ⟨p, n, false⟩ = numL 1 1 ++ (numL 4 (n : Int) ++ (zs.drop p).take n) := by
    have := encR_fill zs p n []
    rw [List.append_nil, List.append_nil] at this
    exact this
  rw [he] at hk ⊢
  rcases cut_cases hk with ⟨hk, e⟩ | ⟨j, hj, e⟩
  · rw [e]
    exact dataL_e1 size f pos last acc _ h (whole_short (numL_cut hk))
  · rw [e]
    rcases cut_cases hj with ⟨hj, e2⟩ | ⟨i, hi, e2⟩
    · rw [e2]
      have a1 : wholeR 1 0 1 (numL 1 1 ++ (numL 4 (n : Int)).take j) = .ok (1, (numL 4 (n : Int)).take j) := whole_numL 1 0 1 1 _ (by decide) (by decide) (by decide) (by decide)
      exact dataL_e2 size f pos last acc _ _ 1 h a1 (fun e => h2 e.symm) (whole_short (numL_cut hj))
    · rw [e2]
      have a1 : wholeR 1 0 1 (numL 1 1 ++ (numL 4 (n : Int) ++ ((zs.drop p).take n).take i)) = .ok (1, numL 4 (n : Int) ++ ((zs.drop p).take n).take i) := whole_numL 1 0 1 1 _ (by decide) (by decide) (by decide) (by decide)
      have a2 : wholeR 4 (if (1 : Int) = 0 then 16 else 1) ((size : Int) - (pos : Int)) (numL 4 (n : Int) ++ ((zs.drop p).take n).take i) = .ok ((n : Int), ((zs.drop p).take n).take i) := by
        rw [if_neg (by decide)]
        exact whole_numL 4 1 _ (n : Int) _ (by omega) (c4 (by omega)) (by omega) (by omega)
      have a3 : takeR n (((zs.drop p).take n).take i) = .error 190 := take_short (by rw [List.length_take, hl]; rw [hl] at hi; omega)
      rw [dataL_at size f pos last acc _ _ _ 1 (n : Int) h a1 (fun e => h2 e.symm) a2, if_pos rfl, Int.toNat_natCast, a3]
theorem dataL_dry (zs : List Int) (hn : zs.length ≤ 16777216) : ∀ (f k : Nat) (last : Int) (acc : List Sg), zs.length - k ≤ f → k ≤ zs.length → (last = -1 ∨ last = 0) → (last = 0 → k < zs.length → zs.getD k 0 ≠ 0) →
    ∀ g, zs.length - k ≤ g → ∀ c, c < ((cutF zs f k).flatMap (encR zs)).length → dataL zs.length g k last acc (((cutF zs f k).flatMap (encR zs)).take c) = .error 190 := by
  intro f
  induction f with
  | zero =>
    intro k last acc h1 h2 h3 h4 g h7 c hc
    exact absurd hc (Nat.not_lt_zero _)
  | succ f ih =>
    intro k last acc h1 h2 h3 h4 g h7 c hc
    by_cases hk : k < zs.length
    · obtain ⟨g, rfl⟩ : ∃ g', g = g' + 1 := ⟨g - 1, by omega⟩
      have hle := Nat.le_of_lt hk
      have a1 := fhAt_ge hle
      have a2 := fhAt_le zs k
      have a3 := enAt_le zs k
      have a4 := enAt_gt hk
      have a5 : fhAt zs k ≤ enAt zs k := by unfold enAt; omega
      have hol : fhAt zs k < zs.length → fhAt zs k + 16 ≤ enAt zs k := fun h => by have := at_hole hle h; unfold enAt; omega
      rw [cutF, if_pos hk] at hc ⊢
      by_cases hA : k < fhAt zs k
      · rw [if_pos hA] at hc ⊢
        have hbl : ((zs.drop k).take (fhAt zs k - k)).length = fhAt zs k - k := by rw [List.length_take, List.length_drop]; omega
        have hl1 : last ≠ 1 := by rcases h3 with h | h <;> omega
        have hfill : ∀ X : List Int, dataL zs.length (g + 1) k last acc (encR zs ⟨k, fhAt zs k - k, false⟩ ++ X) = dataL zs.length g (fhAt zs k) 1 (acc ++ [⟨k, (zs.drop k).take (fhAt zs k - k)⟩]) X := by
          intro X
          have hfb := filled_cut hk (Or.inr trivial) (last == 0) (fun h => h4 (by simpa using h) hk) hA
          have h8 := dataL_fill zs.length g k (fhAt zs k - k) last acc zs X k hn hk hl1 (by omega) (by omega) hbl hfb
          rw [show k + (fhAt zs k - k) = fhAt zs k by omega] at h8
          exact h8
        by_cases hB : fhAt zs k < enAt zs k
        · rw [if_pos hB] at hc ⊢
          simp only [List.flatMap_append, List.flatMap_cons, List.flatMap_nil, List.append_nil, List.append_assoc] at hc ⊢
          have hAn : fhAt zs k < zs.length := by omega
          have hol2 := hol hAn
          rcases cut_cases hc with ⟨hc, e⟩ | ⟨j, hj, e⟩
          · rw [e]
            exact fill_dry zs.length g k (fhAt zs k - k) last acc zs k c hn hk hl1 (by omega) (by omega) hbl hc
          · rw [e, hfill]
            obtain ⟨g, rfl⟩ : ∃ g', g = g' + 1 := ⟨g - 1, by omega⟩
            rcases cut_cases hj with ⟨hj, e2⟩ | ⟨i, hi, e2⟩
            · rw [e2]
              exact hole_dry zs.length g (fhAt zs k) (enAt zs k - fhAt zs k) 1 _ zs (fhAt zs k) j hn hAn (by decide) (by omega) (by omega) hj
            · rw [e2]
              have h8 := dataL_hole zs.length g (fhAt zs k) (enAt zs k - fhAt zs k) 1 (acc ++ [⟨k, (zs.drop k).take (fhAt zs k - k)⟩]) zs (((cutF zs f (enAt zs k)).flatMap (encR zs)).take i) (fhAt zs k) hn hAn (by decide) (by omega) (by omega)
              rw [show fhAt zs k + (enAt zs k - fhAt zs k) = enAt zs k by omega] at h8
              rw [h8]
              exact ih (enAt zs k) 0 _ (by omega) a3 (Or.inr rfl) (fun _ h => enAt_ne h) g (by omega) i hi
        · rw [if_neg hB] at hc ⊢
          simp only [List.flatMap_append, List.flatMap_cons, List.flatMap_nil, List.append_nil] at hc ⊢
          have hend : fhAt zs k = zs.length := by
            apply Decidable.byContradiction
            intro h9
            have := hol (by omega)
            omega
          have hen : enAt zs k = zs.length := by omega
          have hcn : cutF zs f (enAt zs k) = [] := by
            rw [hen]
            cases f with
            | zero => rfl
            | succ f => rw [cutF, if_neg (by omega)]
          rw [hcn, List.flatMap_nil, List.append_nil] at hc ⊢
          exact fill_dry zs.length g k (fhAt zs k - k) last acc zs k c hn hk hl1 (by omega) (by omega) hbl hc
      · rw [if_neg hA] at hc ⊢
        have hAk : fhAt zs k = k := by omega
        have hB : fhAt zs k < enAt zs k := by omega
        rw [if_pos hB] at hc ⊢
        have hol2 := hol (by omega)
        have hl1 : last = -1 := by
          rcases h3 with h | h
          · exact h
          · have h8 := h4 h hk
            have h9 := at_hole hle (by omega)
            rw [hAk, zrs_stop hk h8] at h9
            omega
        subst hl1
        simp only [List.flatMap_append, List.flatMap_cons, List.flatMap_nil, List.append_nil, List.nil_append] at hc ⊢
        rcases cut_cases hc with ⟨hc, e⟩ | ⟨j, hj, e⟩
        · rw [e]
          exact hole_dry zs.length g k (enAt zs k - fhAt zs k) (-1) acc zs (fhAt zs k) c hn hk (by decide) (by omega) (by omega) hc
        · rw [e]
          have h8 := dataL_hole zs.length g k (enAt zs k - fhAt zs k) (-1) acc zs (((cutF zs f (enAt zs k)).flatMap (encR zs)).take j) (fhAt zs k) hn hk (by decide) (by omega) (by omega)
          rw [show k + (enAt zs k - fhAt zs k) = enAt zs k by omega] at h8
          rw [h8]
          exact ih (enAt zs k) 0 acc (by omega) a3 (Or.inr rfl) (fun _ h => enAt_ne h) g (by omega) j hj
    · rw [cutF, if_neg hk] at hc
      exact absurd hc (Nat.not_lt_zero _)
theorem dataR_e1 (bs : List Int) (h : wholeR 4 0 16777216 bs = .error 190) : dataR bs = .error 190 := by
  unfold dataR
  rw [h]
theorem dataR_e2 (bs r1 : List Int) (n : Nat) (h1 : wholeR 4 0 16777216 bs = .ok ((n : Int), r1)) (h2 : dataL n n 0 (-1) [] r1 = .error 190) : dataR bs = .error 190 := by
  unfold dataR
  rw [h1]
  simp only [Int.toNat_natCast]
  rw [h2]
theorem dataR_dry (zs : List Int) (hn : zs.length ≤ 16777216) (k : Nat) (hk : k < (encD zs).length) : dataR ((encD zs).take k) = .error 190 := by
  unfold encD at hk ⊢
  rcases cut_cases hk with ⟨hk, e⟩ | ⟨j, hj, e⟩
  · rw [e]
    exact dataR_e1 _ (whole_short (numL_cut hk))
  · rw [e]
    have hm : ((-1 : Int) = 0) → False := by decide
    refine dataR_e2 _ (((cuts zs).flatMap (encR zs)).take j) zs.length ?_ ?_
    · exact whole_numL 4 0 16777216 (zs.length : Int) _ (by omega) (c4 hn) (by omega) (by omega)
    · unfold cuts at hj ⊢
      exact dataL_dry zs hn zs.length 0 (-1) [] (Nat.sub_le _ _) (Nat.zero_le _) (Or.inl rfl) (fun h => (hm h).elim) zs.length (Nat.sub_le _ _) j hj

/-- A piece behind its first number. -/
def bodP (t m s : Int) (nm : ByteArray) (zs : List Int) (tg : ByteArray) : List Int := numL 1 t ++ ((numL 2 m ++ numL 8 s) ++ ((numL 1 (nm.size : Int) ++ numsS nm) ++ encB t zs tg))
theorem encP_bod (d : Nat) (t m s : Int) (nm : ByteArray) (zs : List Int) (tg : ByteArray) : encP d t m s nm zs tg = numL 1 (d : Int) ++ bodP t m s nm zs tg := by
  unfold encP bodP
  simp only [List.append_assoc]
theorem pieceR_e1 (ahead : List ByteArray) (depth : Nat) (bs : List Int) (h1 : wholeR 1 1 3 bs = .error 190) : pieceR ahead depth bs = .error 190 := by
  unfold pieceR
  rw [h1]
theorem pieceR_e2 (ahead : List ByteArray) (depth : Nat) (bs r1 : List Int) (ty : Int) (h1 : wholeR 1 1 3 bs = .ok (ty, r1)) (h2 : modeR r1 = .error 190) : pieceR ahead depth bs = .error 190 := by
  unfold pieceR
  rw [h1]
  simp only
  rw [h2]
theorem pieceR_e3 (ahead : List ByteArray) (depth : Nat) (bs r1 r2 : List Int) (ty : Int) (ms : Int × Int) (h1 : wholeR 1 1 3 bs = .ok (ty, r1)) (h2 : modeR r1 = .ok (ms, r2)) (h3 : namesR ahead depth r2 = .error 190) : pieceR ahead depth bs = .error 190 := by
  unfold pieceR
  rw [h1]
  simp only
  rw [h2]
  simp only
  rw [h3]
theorem piece_dry (ahead : List ByteArray) (d : Nat) (t m s : Int) (nm : ByteArray) (zs : List Int) (tg : ByteArray) (hb : bodB t m zs.length tg = true) (h2 : 0 ≤ s) (h3 : s < 18446744073709551616) (n1 : 1 ≤ nm.size) (n2 : nm.size ≤ 63) (hu : Pt.upB nm = false) (hj : Pt.joE (ahead.take d ++ [nm]) = 0) (ha : aheadB ahead d nm = true) (k : Nat) (hk : k < (bodP t m s nm zs tg).length) :
    pieceR ahead d ((bodP t m s nm zs tg).take k) = .error 190 := by
  have hf := bod_facts hb
  unfold bodP at hk ⊢
  have a1 : ∀ X, wholeR 1 1 3 (numL 1 t ++ X) = .ok (t, X) := fun X => whole_numL 1 1 3 _ _ (by omega) (by rw [p1]; omega) hf.1 hf.2.1
  have a2 : ∀ X, modeR ((numL 2 m ++ numL 8 s) ++ X) = .ok ((m, s), X) := fun X => by rw [List.append_assoc]; exact modeR_enc m s X hf.2.2.1 hf.2.2.2.1 h2 h3
  have a3 : ∀ X, namesR ahead d ((numL 1 (nm.size : Int) ++ numsS nm) ++ X) = .ok (ahead.take d ++ [nm], X) := fun X => by rw [List.append_assoc]; exact namesR_enc ahead d nm X n1 n2 hu hj ha
  rcases cut_cases hk with ⟨hk, e⟩ | ⟨k2, hk2, e⟩
  · rw [e]
    exact pieceR_e1 _ _ _ (whole_short (numL_cut hk))
  · rw [e]
    rcases cut_cases hk2 with ⟨hk2, e2⟩ | ⟨k3, hk3, e2⟩
    · rw [e2]
      exact pieceR_e2 _ _ _ _ t (a1 _) (modeR_dry m s hf.2.2.1 hf.2.2.2.1 k2 hk2)
    · rw [e2]
      rcases cut_cases hk3 with ⟨hk3, e3⟩ | ⟨k4, hk4, e3⟩
      · rw [e3]
        exact pieceR_e3 _ _ _ _ _ t (m, s) (a1 _) (a2 _) (namesR_dry ahead d nm n1 n2 k3 hk3)
      · rw [e3, pieceR_of ahead d _ _ _ _ t (m, s) _ (a1 _) (a2 _) (a3 _)]
        unfold bodB at hb
        rw [Bool.and_eq_true] at hb
        have ht := hb.2
        unfold tarB at ht
        by_cases t1 : t = 1
        · rw [if_pos t1]
          have g3 : encB t zs tg = encD zs := by unfold encB; rw [if_pos t1]
          rw [g3] at hk4 ⊢
          rw [dataR_dry zs hf.2.2.2.2.2.2 k4 hk4]
        · rw [if_neg t1]
          by_cases t3 : t = 3
          · rw [if_pos t3]
            rw [if_pos t3, Bool.and_eq_true, Bool.and_eq_true] at ht
            have g3 : encB t zs tg = numL 1 (tg.size : Int) ++ numsS tg := by unfold encB; rw [if_neg t1, if_pos t3]
            rw [g3] at hk4 ⊢
            rw [targetR_dry tg (of_decide_eq_true ht.1.1) (of_decide_eq_true ht.1.2) k4 hk4]
          · have g3 : encB t zs tg = [] := by unfold encB; rw [if_neg t1, if_neg t3]
            rw [g3] at hk4
            exact absurd hk4 (Nat.not_lt_zero _)
theorem goL_flat : ∀ (es : List Lf) (ns0 : List ByteArray) (d0 : Bool) (laid x : List Int), goL ns0 d0 laid es = .ok x → x = laid ++ es.flatMap encL
  | [], ns0, d0, laid, x, h => by
    rw [goL] at h
    injection h with h
    rw [← h, List.flatMap_nil, List.append_nil]
  | l :: es, ns0, d0, laid, x, h => by
    rw [goL] at h
    split at h
    · rw [goL_flat es _ _ _ x h, List.flatMap_cons, List.append_assoc]
    · cases h
theorem pl_dry1 {f : Nat} {a : Pc} {acc : List Pc} {bs : List Int} (h : numR 1 bs = .error 190) : piecesL (f + 1) a acc bs = .error 190 := by rw [piecesL, h]
/-- A leaf cut short. -/
theorem leaf_dry (a : Pc) (ns0 : List ByteArray) (d0 : Bool) (l : Lf) (h : okL ns0 d0 l = true) (hl : Lok l) (ha : a.names = ns0) (hd : (a.ty == 2) = d0) (f : Nat) (acc : List Pc) (c : Nat) (hc : c < (encL l).length) :
    piecesL (f + 1) a acc ((encL l).take c) = .error 190 := by
  unfold okL at h
  rw [Bool.and_eq_true, Bool.and_eq_true] at h
  obtain ⟨⟨h1, h2⟩, h3⟩ := h
  obtain ⟨q1, q2, q3, q4⟩ := nms_more h1
  unfold folB at h3
  rw [Bool.and_eq_true, Bool.and_eq_true, Bool.and_eq_true] at h3
  obtain ⟨⟨⟨h4, h5⟩, h6⟩, h7⟩ := h3
  have h4 := of_decide_eq_true h4
  have h5 := of_decide_eq_true h5
  have h6 := of_decide_eq_true h6
  have hm := q3 _ (getD_mem _ h4)
  have hsp : ns0.take ((Pt.spN l.path).length - 1) ++ [(Pt.spN l.path).getD ((Pt.spN l.path).length - 1) ByteArray.empty] = Pt.spN l.path := by rw [← h6]; exact last_split _ h4
  unfold encL at hc ⊢
  rw [encP_bod] at hc ⊢
  rcases cut_cases hc with ⟨hc, e⟩ | ⟨j, hj, e⟩
  · rw [e]
    exact pl_dry1 (numR_short (numL_cut hc))
  · rw [e]
    have g1 := piece_dry ns0 ((Pt.spN l.path).length - 1) l.ty l.mode l.stamp ((Pt.spN l.path).getD ((Pt.spN l.path).length - 1) ByteArray.empty) l.data l.target h2 hl.s0 hl.s1 hm.2.1 hm.2.2 hm.1 (by rw [hsp]; exact q2) h7 j hj
    have a1 := num_numL 1 (((Pt.spN l.path).length - 1 : Nat) : Int) ((bodP l.ty l.mode l.stamp ((Pt.spN l.path).getD ((Pt.spN l.path).length - 1) ByteArray.empty) l.data l.target).take j) (by omega) (c1 (by omega))
    have hde : (((Pt.spN l.path).length - 1 : Nat) : Int) ≤ a.deep := by
      have : a.deep = deepB ns0.length d0 := by
        unfold Pc.deep deepB
        rw [ha, ← hd]
        by_cases h9 : a.ty = 2
        · rw [if_pos h9, if_pos (by rw [h9]; rfl)]
        · rw [if_neg h9, if_neg (by rw [beq_eq_false_iff_ne.2 h9]; decide)]
      rw [this]
      omega
    refine pl_err a1 (by omega) ⟨by omega, hde⟩ ?_
    rw [Int.toNat_natCast, ha]
    exact g1
theorem pieces_dry : ∀ (es : List Lf) (ns0 : List ByteArray) (d0 : Bool) (laid x : List Int), goL ns0 d0 laid es = .ok x → (∀ l ∈ es, Lok l) →
    ∀ (a : Pc) (acc : List Pc) (f c : Nat), a.names = ns0 → (a.ty == 2) = d0 → c ≤ f → c < (es.flatMap encL ++ numL 1 255).length → piecesL (f + 1) a acc ((es.flatMap encL ++ numL 1 255).take c) = .error 190
  | [], ns0, d0, laid, x, h, hl => by
    intro a acc f c ha hd hf hc
    rw [List.flatMap_nil, List.nil_append] at hc ⊢
    exact pl_dry1 (numR_short (numL_cut hc))
  | l :: es, ns0, d0, laid, x, h, hl => by
    intro a acc f c ha hd hf hc
    rw [goL] at h
    split at h
    · rename_i ho
      rw [List.flatMap_cons, List.append_assoc] at hc ⊢
      rcases cut_cases hc with ⟨hc, e⟩ | ⟨j, hj, e⟩
      · rw [e]
        exact leaf_dry a ns0 d0 l ho (hl l List.mem_cons_self) ha hd f acc c hc
      · have hcl : c = (encL l).length + j := by
          have h9 := congrArg List.length e
          rw [List.length_append, List.length_take, List.length_take] at h9
          omega
        rw [e]
        obtain ⟨p, k1, k2, k3, k4⟩ := leaf_enc a ns0 d0 l ho (hl l List.mem_cons_self) ha hd f acc ((es.flatMap encL ++ numL 1 255).take j)
        rw [k1]
        have hp := encL_pos l
        obtain ⟨f, rfl⟩ : ∃ f', f = f' + 1 := ⟨f - 1, by omega⟩
        exact pieces_dry es (Pt.spN l.path) (l.ty == 2) (laid ++ encL l) x h (fun y hy => hl y (List.mem_cons_of_mem _ hy)) p (acc ++ [p]) f j k3 (by rw [k4]) (by omega) hj
    · cases h

theorem openR_e1 (bs : List Int) (h : piecesR bs = .error 190) : openR bs = .error 190 := by
  unfold openR
  rw [h]
theorem openR_e2 (bs r : List Int) (l : List Pc) (h1 : piecesR bs = .ok (l, r)) (h2 : numR 4 r = .error 190) : openR bs = .error 190 := by
  unfold openR
  rw [h1]
  simp only
  rw [h2]
theorem openR_e3 (bs r r2 : List Int) (l : List Pc) (s : Int) (h1 : piecesR bs = .ok (l, r)) (h2 : numR 4 r = .ok (s, r2)) (h3 : s = ((sumL (nats (bs.take (bs.length - r.length))) : Nat) : Int)) (h4 : ¬ r2 = []) : openR bs = .error 190 := by
  unfold openR
  rw [h1]
  simp only
  rw [h2]
  simp only
  rw [if_pos h3, if_neg h4]
theorem piecesR_e1 (bs : List Int) (h1 : ¬ bs.take 5 = [80, 82, 67, 76, 1]) : piecesR bs = .error 190 := by
  unfold piecesR
  rw [if_neg h1]
theorem piecesR_e2 (bs : List Int) (h1 : bs.take 5 = [80, 82, 67, 76, 1]) (h2 : modeR (bs.drop 5) = .error 190) : piecesR bs = .error 190 := by
  unfold piecesR
  rw [if_pos h1, h2]
def hdr : List Int := [80, 82, 67, 76, 1]
theorem hdr_take (X : List Int) : (hdr ++ X).take 5 = [80, 82, 67, 76, 1] := rfl
theorem hdr_drop (X : List Int) : (hdr ++ X).drop 5 = X := rfl
theorem pack_shape (es : List Lf) (row : List Int) (h : packM es = .ok row) (hl : ∀ l ∈ es, Lok l) :
    ∃ l r x S, es = l :: r ∧ goL [] true (headW l) r = .ok x ∧ (0 ≤ l.mode ∧ l.mode ≤ 4095) ∧ S = sumL (nats (x ++ numL 1 255)) ∧ (S : Int) < 256 ^ 4 ∧ hdr ++ ((numL 2 l.mode ++ numL 8 l.stamp) ++ (r.flatMap encL ++ numL 1 255)) = x ++ numL 1 255 ∧ row = hdr ++ ((numL 2 l.mode ++ numL 8 l.stamp) ++ ((r.flatMap encL ++ numL 1 255) ++ numL 4 (S : Int))) := by
  cases es with
  | nil => cases h
  | cons l r =>
    rw [packM] at h
    split at h
    · split at h
      · rename_i hb
        split at h
        · cases h
        · rename_i x hx
          injection h with h
          have hr' : ∀ y ∈ r, Lok y := fun y hy => hl y (List.mem_cons_of_mem _ hy)
          have hbx := goL_byt r _ _ _ x hx hr' (headW_byt l)
          have hbs : Byt (x ++ numL 1 255) := byt_app hbx (numL_byt _ _)
          have hf := bod_facts hb
          have hsum : ((sumL (nats (x ++ numL 1 255)) : Nat) : Int) < 256 ^ 4 := by
            rw [p4]
            have := sumL_lt hbs
            omega
          have hxe := goL_flat r _ _ _ x hx
          have hh : headW l = hdr ++ (numL 2 l.mode ++ numL 8 l.stamp) := by
            unfold headW hdr
            rw [show numL 1 1 = [1] from rfl]
            simp only [List.cons_append, List.nil_append]
          have he : hdr ++ ((numL 2 l.mode ++ numL 8 l.stamp) ++ (r.flatMap encL ++ numL 1 255)) = x ++ numL 1 255 := by
            rw [hxe, hh]
            simp only [List.append_assoc]
          refine ⟨l, r, x, _, rfl, hx, ⟨hf.2.2.1, hf.2.2.2.1⟩, rfl, hsum, he, ?_⟩
          rw [← h]
          unfold sealW
          rw [← he]
          simp only [List.append_assoc]
      · cases h
    · cases h
/-- A beginning of a row is no parcel. -/
theorem open_dry (es : List Lf) (row : List Int) (h : packM es = .ok row) (hl : ∀ l ∈ es, Lok l) (c : Nat) (hc : c < row.length) : openR (row.take c) = .error 190 := by
  obtain ⟨l, r, x, S, rfl, hx, hm, hS, hS4, he, hrow⟩ := pack_shape es row h hl
  have h0 := hl l List.mem_cons_self
  have hr' : ∀ y ∈ r, Lok y := fun y hy => hl y (List.mem_cons_of_mem _ hy)
  have a2 : ∀ X, modeR ((numL 2 l.mode ++ numL 8 l.stamp) ++ X) = .ok ((l.mode, l.stamp), X) := fun X => by rw [List.append_assoc]; exact modeR_enc l.mode l.stamp X hm.1 hm.2 h0.s0 h0.s1
  rw [hrow] at hc ⊢
  rcases cut_cases hc with ⟨hc, e⟩ | ⟨c2, hc2, e⟩
  · rw [e]
    refine openR_e1 _ (piecesR_e1 _ (fun h9 => ?_))
    have h8 := congrArg List.length h9
    have h7 : hdr.length = 5 := rfl
    rw [List.length_take, List.length_take] at h8
    simp only [List.length_cons, List.length_nil] at h8
    omega
  · rw [e]
    rcases cut_cases hc2 with ⟨hc2, e2⟩ | ⟨c3, hc3, e2⟩
    · rw [e2]
      exact openR_e1 _ (piecesR_e2 _ (hdr_take _) (by rw [hdr_drop]; exact modeR_dry l.mode l.stamp hm.1 hm.2 c2 hc2))
    · rw [e2]
      rcases cut_cases hc3 with ⟨hc3, e3⟩ | ⟨c4, hc4, e3⟩
      · rw [e3]
        refine openR_e1 _ ?_
        rw [piecesR_of _ _ (l.mode, l.stamp) (hdr_take _) (by rw [hdr_drop]; exact a2 _)]
        exact pieces_dry r [] true (headW l) x hx hr' _ _ _ c3 rfl rfl (by rw [List.length_take]; omega) hc3
      · rw [e3]
        obtain ⟨tl, g1, g2, g3⟩ := pieces_enc r [] true (headW l) x hx hr'
        have htl : tl = r.flatMap encL := by
          have h9 := goL_flat r _ _ _ x hx
          rw [g1] at h9
          exact List.append_cancel_left h9
        subst htl
        obtain ⟨ps, k1, k2⟩ := g3 (rootP l.mode l.stamp) [rootP l.mode l.stamp] ((r.flatMap encL ++ numL 1 255) ++ (numL 4 (S : Int)).take c4).length ((numL 4 (S : Int)).take c4) rfl rfl (by rw [List.length_append, List.length_append]; omega)
        refine openR_e2 _ ((numL 4 (S : Int)).take c4) ([rootP l.mode l.stamp] ++ ps) ?_ (numR_short (numL_cut hc4))
        rw [piecesR_of _ _ (l.mode, l.stamp) (hdr_take _) (by rw [hdr_drop]; exact a2 _)]
        rw [← List.append_assoc] at k1
        exact k1
theorem take_back (A B : List Int) : (A ++ B).take ((A ++ B).length - B.length) = A := by
  rw [List.length_append, Nat.add_sub_cancel, List.take_left' rfl]
/-- Something behind a row: no parcel. -/
theorem open_more (es : List Lf) (row more : List Int) (h : packM es = .ok row) (hl : ∀ l ∈ es, Lok l) (hmore : ¬ more = []) : openR (row ++ more) = .error 190 := by
  obtain ⟨l, r, x, S, rfl, hx, hm, hS, hS4, he, hrow⟩ := pack_shape es row h hl
  have h0 := hl l List.mem_cons_self
  have hr' : ∀ y ∈ r, Lok y := fun y hy => hl y (List.mem_cons_of_mem _ hy)
  have a2 : ∀ X, modeR ((numL 2 l.mode ++ numL 8 l.stamp) ++ X) = .ok ((l.mode, l.stamp), X) := fun X => by rw [List.append_assoc]; exact modeR_enc l.mode l.stamp X hm.1 hm.2 h0.s0 h0.s1
  obtain ⟨tl, g1, g2, g3⟩ := pieces_enc r [] true (headW l) x hx hr'
  have htl : tl = r.flatMap encL := by
    have h9 := goL_flat r _ _ _ x hx
    rw [g1] at h9
    exact List.append_cancel_left h9
  subst htl
  have hrm : row ++ more = hdr ++ ((numL 2 l.mode ++ numL 8 l.stamp) ++ (r.flatMap encL ++ (numL 1 255 ++ (numL 4 (S : Int) ++ more)))) := by
    rw [hrow]
    simp only [List.append_assoc]
  have hrm2 : row ++ more = (x ++ numL 1 255) ++ (numL 4 (S : Int) ++ more) := by
    rw [hrm, ← he]
    simp only [List.append_assoc]
  obtain ⟨ps, k1, k2⟩ := g3 (rootP l.mode l.stamp) [rootP l.mode l.stamp] (r.flatMap encL ++ (numL 1 255 ++ (numL 4 (S : Int) ++ more))).length (numL 4 (S : Int) ++ more) rfl rfl (by rw [List.length_append]; omega)
  refine openR_e3 _ (numL 4 (S : Int) ++ more) more ([rootP l.mode l.stamp] ++ ps) (S : Int) ?_ (num_numL 4 (S : Int) more (by omega) hS4) ?_ hmore
  · rw [hrm, piecesR_of _ _ (l.mode, l.stamp) (hdr_take _) (by rw [hdr_drop]; exact a2 _)]
    exact k1
  · have : (row ++ more).take ((row ++ more).length - (numL 4 (S : Int) ++ more).length) = x ++ numL 1 255 := by
      rw [hrm2]; exact take_back _ _
    rw [this, hS]
set_option maxHeartbeats 2000000 in
set_option maxRecDepth 100000 in
theorem whole_err (v : Value) (es : List Le) (cut x : Int) (a2 : Option Addr) (n2 c2 : Nat) (w : World) (h : RdL w w.heap.size v es) (hT : Tab w) (hsz : szL (es.map Le.l) ≤ 100000000000) (hp : packM (es.map Le.l) = .error x) :
    Calls Tryd.prog 5 #[v, .int .i64 cut, .slice a2 n2 c2] w fun e w' => e = .returned (.bool true) ∧ Below w.heap.size w w' := by
  have hx := packM_err _ _ hp
  have HT := hide hT
  have HP := hide hp
  have HR := hide h
  have HZ := hide hsz
  obtain ⟨a, c, rfl, _⟩ := h.shape
  clear hT hp h hsz
  go_enter Tryd.func5, Tryd.ntmps5
  go_wp2_with (first
    | (go_at_call 15; refine (heads_any _ HT.out).mono ?_; rintro e u0 ⟨rfl, hb0⟩; have HB0 := hide hb0; clear hb0)
    | (go_at_call 12; refine (lno_any _ _).mono ?_; rintro e u9 ⟨rfl, rfl⟩)
    | (go_at_call 16; refine (pack_any _ es _ (HR.out.up HB0.out) HZ.out (HT.out.below HB0.out)).mono ?_; rintro e u1 ⟨hv, hb1⟩
       rw [HP.out] at hv
       have hv2 : e = .returned (.tuple #[.slice none 0 0, .int .i64 x]) := hv
       subst hv2
       have HB1 := hide (bel_up HB0.out hb1 HB0.out.size)
       clear hv hb1))
  go_ret
  exact ⟨rfl, HB1.out⟩
/-- A row of which a beginning is read. -/
theorem wh_cut (w u : World) (v : Value) (es : List Le) (row : List Int) (g m cap : Nat) (h : BkS w u v es row g m cap) (hm : m ≤ 4194304) (hml : row.length = m) (hl : ∀ l ∈ es.map Le.l, Lok l) (hp : packM (es.map Le.l) = .ok row) (c : Nat) (hc : c < m) :
    Calls Tryd.prog 11 #[.slice (some ⟨g, 0, none⟩) c cap] u fun e u' => e = .returned (.tuple #[.slice none 0 0, .int .i64 190]) ∧ BkS w u' v es row g m cap := by
  have hr : Reads u (some ⟨g, 0, none⟩) c (row.take c) := h.row.front c (by omega)
  refine (read_any g 0 c cap (row.take c) u hr h.lt (by omega) (by have := h.c1; omega) h.c2 h.tab).mono ?_
  rintro e u' ⟨hv, hb⟩
  rw [open_dry _ row hp hl c (by omega)] at hv
  exact ⟨hv, h.up hb⟩
theorem wh_more (w u : World) (row more : List Int) (g2 n cap2 : Nat) (es : List Le) (ho : Own u w.heap.size g2 n cap2 (row ++ more)) (hn : n ≤ 4194304) (hby : Byt (row ++ more)) (hb : Below w.heap.size w u) (ht : Tab u) (hl : ∀ l ∈ es.map Le.l, Lok l) (hp : packM (es.map Le.l) = .ok row) (hmo : ¬ more = []) (hpos : 0 < n) :
    Calls Tryd.prog 11 #[.slice (some ⟨g2, 0, none⟩) n cap2] u fun e u' => e = .returned (.tuple #[.slice none 0 0, .int .i64 190]) ∧ Below w.heap.size w u' := by
  have hlen : (row ++ more).length = n := by have := ho.len; exact this
  have hr := Own.reads ho hby n (Nat.le_refl _)
  rw [List.take_of_length_le (by rw [hlen]; exact Nat.le_refl _)] at hr
  obtain ⟨g', cap', he', q1, q2, q3, q4⟩ := own_shape ho hpos
  cases he'
  refine (read_any g2 0 n cap2 (row ++ more) u hr q4 hn q1 q2 ht).mono ?_
  rintro e u' ⟨hv, hb2⟩
  rw [open_more _ row more hp hl hmo] at hv
  exact ⟨hv, bel_up hb hb2 hb.size⟩
set_option maxHeartbeats 2000000 in
set_option maxRecDepth 100000 in
theorem whole_in (v : Value) (es : List Le) (row more : List Int) (cut : Nat) (a2 : Option Addr) (n2 c2 : Nat) (w : World) (h : RdL w w.heap.size v es) (hT : Tab w) (hsz : szL (es.map Le.l) ≤ 100000000000) (hp : packM (es.map Le.l) = .ok row) (hms : row.length + n2 ≤ 4194304) (hr : Reads w a2 n2 more) (hlow : ∀ x, a2 = some x → 0 < n2 → x.block < w.heap.size) (hcut : cut < row.length) :
    Calls Tryd.prog 5 #[v, .int .i64 (cut : Int), .slice a2 n2 c2] w fun e w' => e = .returned (.bool true) ∧ Below w.heap.size w w' := by
  obtain ⟨m, hm⟩ : ∃ m, row.length = m := ⟨_, rfl⟩
  have hlok := hide h.lok
  have HT := hide hT
  have HP := hide hp
  have HR := hide hr
  have hr0 := hr
  have HM := hide hm
  have HLW := hide hlow
  rw [hm] at hms hcut
  have HN : Hid (m ≤ 4194304) := by unfold Hid; omega
  have HN2 := hide hms
  have HBY := hide (pack_open _ _ hp h.lok).1
  obtain ⟨a, c, hv, -⟩ := h.shape
  obtain ⟨n, hn⟩ : ∃ n, es.length = n := ⟨_, rfl⟩
  have HNL := hide hn
  have HPK := fun (u : World) (hb : Below w.heap.size w u) => bk_packed w u v es row h hT hb hp hsz
  rw [hv, hn, hm] at HPK
  rw [hv, hn]
  have HPK := hide HPK
  have k0 : (0 : Int) ≤ (cut : Int) := by omega
  have k1 : (cut : Int) < (m : Int) := by omega
  have TC : Hid True := trivial
  clear hT hp h hsz hm hn hv hr hlow
  go_enter Tryd.func5, Tryd.ntmps5
  by_cases h2 : n2 = 0
  · subst h2
    go_wp2_with (first
      | (go_at_call 15; refine (heads_any _ HT.out).mono ?_; rintro e u0 ⟨rfl, hb0⟩; have HB0 := hide hb0; clear hb0)
      | (go_at_call 12; refine (lno_any _ _).mono ?_; rintro e u9 ⟨rfl, rfl⟩)
      | (go_at_call 16; refine (HPK.out _ HB0.out).mono ?_; rintro e u1 ⟨g, cap, rfl, hs⟩
         have kc : cut ≤ cap := by have := hs.c1; omega
         have kc2 : (cut : Int) ≤ (cap : Int) := by omega
         have HS := hide hs
         clear hs HPK HB0)
      | (go_at_call 11; have zz := TC; clear TC zz; refine (wh_cut _ _ _ _ _ _ _ _ HS.out HN.out HM.out hlok.out HP.out cut hcut).mono ?_; rintro e u2 ⟨rfl, hs2⟩
         have HS2 := hide hs2
         clear hs2 HS))
    go_ret
    exact ⟨rfl, HS2.out.below⟩
  · have k2 : ((n2 : Int) == 0) = false := by rw [beq_eq_false_iff_ne]; omega
    have TA : Hid True := trivial
    have HMO : Hid (¬ more = []) := by
      intro e9
      have := hr0.1
      rw [e9] at this
      exact h2 this.symm
    clear hr0
    go_wp2_with (first
      | (go_at_call 15; refine (heads_any _ HT.out).mono ?_; rintro e u0 ⟨rfl, hb0⟩; have HB0 := hide hb0; clear hb0)
      | (go_at_call 12; refine (lno_any _ _).mono ?_; rintro e u9 ⟨rfl, rfl⟩)
      | (go_at_call 16; refine (HPK.out _ HB0.out).mono ?_; rintro e u1 ⟨g, cap, rfl, hs⟩
         have kc : cut ≤ cap := by have := hs.c1; omega
         have kc2 : (cut : Int) ≤ (cap : Int) := by omega
         have HS := hide hs
         clear hs HPK HB0)
      | (go_at_call 11; have zz := TC; clear TC zz; refine (wh_cut _ _ _ _ _ _ _ _ HS.out HN.out HM.out hlok.out HP.out cut hcut).mono ?_; rintro e u2 ⟨rfl, hs2⟩
         have HS2 := hide hs2
         clear hs2 HS)
      | (at_builtin; have zz := TA; clear TA zz; refine wpList_append_reads rfl (.tmp 50) (.tmp 51) rfl u9.heap.size (.slice (some ⟨u9.heap.size, 0, none⟩) 0 0) 0 [] rfl (own_nought u9 u9.heap.size rfl) (some ⟨g, 0, none⟩) m cap row rfl (HS2.out.row.below (below_alloc _ _)) (by have := HN.out; omega) (by simp) ?_; intro v1 w1 own1 grow1; simp only [Nat.zero_add, List.nil_append] at own1
         have TB : Hid True := trivial
         have HB6 : Hid (Below w.heap.size w w1) := (HS2.out.below.alloc HS2.out.below.size _).grown grow1 (by have := HS2.out.below.size; simp; omega) (fun q hq => Nat.le_trans HS2.out.below.size ((own_nought u9 u9.heap.size rfl).lt q hq).1)
         have HO6 : Hid (w1.ownsRow w.heap.size 5 1 v1 m (row.map (Value.int .u8))) := row_lower own1 HS2.out.below.size
         clear own1 grow1)
      | (at_builtin; have zz := TB; clear TB zz; refine wpList_append_reads rfl (.tmp 52) (.tmp 53) rfl w.heap.size v1 m row rfl HO6.out a2 n2 c2 more rfl (HR.out.lowP HLW.out HB6.out) (by have := HN2.out; omega) (by have := HB6.out.size; omega) ?_; intro v2 w2 own2 grow2; obtain ⟨g2, cc2, rfl, hc21, hc22, hg21, hg22⟩ := own_shape own2 (by omega)
         have HB7 : Hid (Below w.heap.size w w2) := HB6.out.grown grow2 (by have := HB6.out.size; omega) (fun q hq => (HO6.out.lt q hq).1)
         have HO7 : Hid (Own w2 w.heap.size g2 (m + n2) cc2 (row ++ more)) := own2
         clear own2 grow2 hc21 hc22 hg21 hg22)
      | (go_at_call 11; refine (wh_more w _ row more g2 (m + n2) cc2 es HO7.out HN2.out (byt_app HBY.out HR.out.2.1) HB7.out (HT.out.below HB7.out) hlok.out HP.out HMO.out (by omega)).mono ?_; rintro e u3 ⟨rfl, hb3⟩
         have HB8 := hide hb3
         clear hb3))
    go_ret
    exact ⟨rfl, HB8.out⟩
set_option maxHeartbeats 2000000 in
set_option maxRecDepth 100000 in
theorem whole_neg (v : Value) (es : List Le) (row more : List Int) (cut : Int) (a2 : Option Addr) (n2 c2 : Nat) (w : World) (h : RdL w w.heap.size v es) (hT : Tab w) (hsz : szL (es.map Le.l) ≤ 100000000000) (hp : packM (es.map Le.l) = .ok row) (hms : row.length + n2 ≤ 4194304) (hr : Reads w a2 n2 more) (hlow : ∀ x, a2 = some x → 0 < n2 → x.block < w.heap.size) (hcut : cut < 0) :
    Calls Tryd.prog 5 #[v, .int .i64 cut, .slice a2 n2 c2] w fun e w' => e = .returned (.bool true) ∧ Below w.heap.size w w' := by
  obtain ⟨m, hm⟩ : ∃ m, row.length = m := ⟨_, rfl⟩
  have hlok := hide h.lok
  have HT := hide hT
  have HP := hide hp
  have HR := hide hr
  have hr0 := hr
  have HM := hide hm
  have HLW := hide hlow
  rw [hm] at hms
  have HN : Hid (m ≤ 4194304) := by unfold Hid; omega
  have HN2 := hide hms
  have HBY := hide (pack_open _ _ hp h.lok).1
  obtain ⟨a, c, hv, -⟩ := h.shape
  obtain ⟨n, hn⟩ : ∃ n, es.length = n := ⟨_, rfl⟩
  have HNL := hide hn
  have HPK := fun (u : World) (hb : Below w.heap.size w u) => bk_packed w u v es row h hT hb hp hsz
  rw [hv, hn, hm] at HPK
  rw [hv, hn]
  have HPK := hide HPK
  have k0 : ¬ (0 : Int) ≤ cut := by omega
  have TC : Hid True := trivial
  clear hT hp h hsz hm hn hv hr hlow
  go_enter Tryd.func5, Tryd.ntmps5
  by_cases h2 : n2 = 0
  · subst h2
    go_wp2_with (first
      | (go_at_call 15; refine (heads_any _ HT.out).mono ?_; rintro e u0 ⟨rfl, hb0⟩; have HB0 := hide hb0; clear hb0)
      | (go_at_call 12; refine (lno_any _ _).mono ?_; rintro e u9 ⟨rfl, rfl⟩)
      | (go_at_call 16; refine (HPK.out _ HB0.out).mono ?_; rintro e u1 ⟨g, cap, rfl, hs⟩
         have HS := hide hs
         clear hs HPK HB0))
    go_ret
    exact ⟨rfl, HS.out.below⟩
  · have k2 : ((n2 : Int) == 0) = false := by rw [beq_eq_false_iff_ne]; omega
    have TA : Hid True := trivial
    have HMO : Hid (¬ more = []) := by
      intro e9
      have := hr0.1
      rw [e9] at this
      exact h2 this.symm
    clear hr0
    go_wp2_with (first
      | (go_at_call 15; refine (heads_any _ HT.out).mono ?_; rintro e u0 ⟨rfl, hb0⟩; have HB0 := hide hb0; clear hb0)
      | (go_at_call 12; refine (lno_any _ _).mono ?_; rintro e u9 ⟨rfl, rfl⟩)
      | (go_at_call 16; refine (HPK.out _ HB0.out).mono ?_; rintro e u1 ⟨g, cap, rfl, hs⟩
         have HS := hide hs
         clear hs HPK HB0)
      | (at_builtin; have zz := TA; clear TA zz; refine wpList_append_reads rfl (.tmp 50) (.tmp 51) rfl u9.heap.size (.slice (some ⟨u9.heap.size, 0, none⟩) 0 0) 0 [] rfl (own_nought u9 u9.heap.size rfl) (some ⟨g, 0, none⟩) m cap row rfl (HS.out.row.below (below_alloc _ _)) (by have := HN.out; omega) (by simp) ?_; intro v1 w1 own1 grow1; simp only [Nat.zero_add, List.nil_append] at own1
         have TB : Hid True := trivial
         have HB6 : Hid (Below w.heap.size w w1) := (HS.out.below.alloc HS.out.below.size _).grown grow1 (by have := HS.out.below.size; simp; omega) (fun q hq => Nat.le_trans HS.out.below.size ((own_nought u9 u9.heap.size rfl).lt q hq).1)
         have HO6 : Hid (w1.ownsRow w.heap.size 5 1 v1 m (row.map (Value.int .u8))) := row_lower own1 HS.out.below.size
         clear own1 grow1)
      | (at_builtin; have zz := TB; clear TB zz; refine wpList_append_reads rfl (.tmp 52) (.tmp 53) rfl w.heap.size v1 m row rfl HO6.out a2 n2 c2 more rfl (HR.out.lowP HLW.out HB6.out) (by have := HN2.out; omega) (by have := HB6.out.size; omega) ?_; intro v2 w2 own2 grow2; obtain ⟨g2, cc2, rfl, hc21, hc22, hg21, hg22⟩ := own_shape own2 (by omega)
         have HB7 : Hid (Below w.heap.size w w2) := HB6.out.grown grow2 (by have := HB6.out.size; omega) (fun q hq => (HO6.out.lt q hq).1)
         have HO7 : Hid (Own w2 w.heap.size g2 (m + n2) cc2 (row ++ more)) := own2
         clear own2 grow2 hc21 hc22 hg21 hg22)
      | (go_at_call 11; refine (wh_more w _ row more g2 (m + n2) cc2 es HO7.out HN2.out (byt_app HBY.out HR.out.2.1) HB7.out (HT.out.below HB7.out) hlok.out HP.out HMO.out (by omega)).mono ?_; rintro e u3 ⟨rfl, hb3⟩
         have HB8 := hide hb3
         clear hb3))
    go_ret
    exact ⟨rfl, HB8.out⟩
set_option maxHeartbeats 2000000 in
set_option maxRecDepth 100000 in
theorem whole_far (v : Value) (es : List Le) (row more : List Int) (cut : Int) (a2 : Option Addr) (n2 c2 : Nat) (w : World) (h : RdL w w.heap.size v es) (hT : Tab w) (hsz : szL (es.map Le.l) ≤ 100000000000) (hp : packM (es.map Le.l) = .ok row) (hms : row.length + n2 ≤ 4194304) (hr : Reads w a2 n2 more) (hlow : ∀ x, a2 = some x → 0 < n2 → x.block < w.heap.size) (hcut : (row.length : Int) ≤ cut) :
    Calls Tryd.prog 5 #[v, .int .i64 cut, .slice a2 n2 c2] w fun e w' => e = .returned (.bool true) ∧ Below w.heap.size w w' := by
  obtain ⟨m, hm⟩ : ∃ m, row.length = m := ⟨_, rfl⟩
  have hlok := hide h.lok
  have HT := hide hT
  have HP := hide hp
  have HR := hide hr
  have hr0 := hr
  have HM := hide hm
  have HLW := hide hlow
  rw [hm] at hms hcut
  have HN : Hid (m ≤ 4194304) := by unfold Hid; omega
  have HN2 := hide hms
  have HBY := hide (pack_open _ _ hp h.lok).1
  obtain ⟨a, c, hv, -⟩ := h.shape
  obtain ⟨n, hn⟩ : ∃ n, es.length = n := ⟨_, rfl⟩
  have HNL := hide hn
  have HPK := fun (u : World) (hb : Below w.heap.size w u) => bk_packed w u v es row h hT hb hp hsz
  rw [hv, hn, hm] at HPK
  rw [hv, hn]
  have HPK := hide HPK
  have k0 : (0 : Int) ≤ cut := by omega
  have k1 : ¬ cut < (m : Int) := by omega
  have TC : Hid True := trivial
  clear hT hp h hsz hm hn hv hr hlow
  go_enter Tryd.func5, Tryd.ntmps5
  by_cases h2 : n2 = 0
  · subst h2
    go_wp2_with (first
      | (go_at_call 15; refine (heads_any _ HT.out).mono ?_; rintro e u0 ⟨rfl, hb0⟩; have HB0 := hide hb0; clear hb0)
      | (go_at_call 12; refine (lno_any _ _).mono ?_; rintro e u9 ⟨rfl, rfl⟩)
      | (go_at_call 16; refine (HPK.out _ HB0.out).mono ?_; rintro e u1 ⟨g, cap, rfl, hs⟩
         have HS := hide hs
         clear hs HPK HB0))
    go_ret
    exact ⟨rfl, HS.out.below⟩
  · have k2 : ((n2 : Int) == 0) = false := by rw [beq_eq_false_iff_ne]; omega
    have TA : Hid True := trivial
    have HMO : Hid (¬ more = []) := by
      intro e9
      have := hr0.1
      rw [e9] at this
      exact h2 this.symm
    clear hr0
    go_wp2_with (first
      | (go_at_call 15; refine (heads_any _ HT.out).mono ?_; rintro e u0 ⟨rfl, hb0⟩; have HB0 := hide hb0; clear hb0)
      | (go_at_call 12; refine (lno_any _ _).mono ?_; rintro e u9 ⟨rfl, rfl⟩)
      | (go_at_call 16; refine (HPK.out _ HB0.out).mono ?_; rintro e u1 ⟨g, cap, rfl, hs⟩
         have HS := hide hs
         clear hs HPK HB0)
      | (at_builtin; have zz := TA; clear TA zz; refine wpList_append_reads rfl (.tmp 50) (.tmp 51) rfl u9.heap.size (.slice (some ⟨u9.heap.size, 0, none⟩) 0 0) 0 [] rfl (own_nought u9 u9.heap.size rfl) (some ⟨g, 0, none⟩) m cap row rfl (HS.out.row.below (below_alloc _ _)) (by have := HN.out; omega) (by simp) ?_; intro v1 w1 own1 grow1; simp only [Nat.zero_add, List.nil_append] at own1
         have TB : Hid True := trivial
         have HB6 : Hid (Below w.heap.size w w1) := (HS.out.below.alloc HS.out.below.size _).grown grow1 (by have := HS.out.below.size; simp; omega) (fun q hq => Nat.le_trans HS.out.below.size ((own_nought u9 u9.heap.size rfl).lt q hq).1)
         have HO6 : Hid (w1.ownsRow w.heap.size 5 1 v1 m (row.map (Value.int .u8))) := row_lower own1 HS.out.below.size
         clear own1 grow1)
      | (at_builtin; have zz := TB; clear TB zz; refine wpList_append_reads rfl (.tmp 52) (.tmp 53) rfl w.heap.size v1 m row rfl HO6.out a2 n2 c2 more rfl (HR.out.lowP HLW.out HB6.out) (by have := HN2.out; omega) (by have := HB6.out.size; omega) ?_; intro v2 w2 own2 grow2; obtain ⟨g2, cc2, rfl, hc21, hc22, hg21, hg22⟩ := own_shape own2 (by omega)
         have HB7 : Hid (Below w.heap.size w w2) := HB6.out.grown grow2 (by have := HB6.out.size; omega) (fun q hq => (HO6.out.lt q hq).1)
         have HO7 : Hid (Own w2 w.heap.size g2 (m + n2) cc2 (row ++ more)) := own2
         clear own2 grow2 hc21 hc22 hg21 hg22)
      | (go_at_call 11; refine (wh_more w _ row more g2 (m + n2) cc2 es HO7.out HN2.out (byt_app HBY.out HR.out.2.1) HB7.out (HT.out.below HB7.out) hlok.out HP.out HMO.out (by omega)).mono ?_; rintro e u3 ⟨rfl, hb3⟩
         have HB8 := hide hb3
         clear hb3))
    go_ret
    exact ⟨rfl, HB8.out⟩
theorem wholeWalk (v : Value) (es : List Le) (z : Int) (a2 : Option Addr) (n2 c2 : Nat) (more : List Int) (w : World) (h : RdL w w.heap.size v es) (hsum : 22 * ((es.map Le.l).map wt).sum + 7 * n2 ≤ 23068672) (hr : Reads w a2 n2 more) (hlow : ∀ x, a2 = some x → 0 < n2 → x.block < w.heap.size) (hT : Tab w) :
    Calls Tryd.prog 5 #[v, .int .i64 z, .slice a2 n2 c2] w fun e w' => e = .returned (.bool true) ∧ Below w.heap.size w w' := by
  have h1 := sz_wt (es.map Le.l)
  have hsz : szL (es.map Le.l) ≤ 100000000000 := by omega
  cases hp : packM (es.map Le.l) with
  | error x => exact whole_err v es z x a2 n2 c2 w h hT hsz hp
  | ok row =>
    have h2 := pack_most _ _ hp
    have h3 := most_wt (es.map Le.l)
    have h4 : mostS (es.map Le.l).tail ≤ mostS (es.map Le.l) := by
      cases es.map Le.l with
      | nil => exact Nat.le_refl _
      | cons l r => rw [List.tail_cons, mostS]; omega
    have hms : row.length + n2 ≤ 4194304 := by omega
    by_cases k0 : z < 0
    · exact whole_neg v es row more z a2 n2 c2 w h hT hsz hp hms hr hlow k0
    · by_cases k1 : z < (row.length : Int)
      · obtain ⟨cut, rfl⟩ : ∃ cut : Nat, z = (cut : Int) := ⟨z.toNat, by omega⟩
        exact whole_in v es row more cut a2 n2 c2 w h hT hsz hp hms hr hlow (by omega)
      · exact whole_far v es row more z a2 n2 c2 w h hT hsz hp hms hr hlow (by omega)
end Go.Proofs.YtdiifegljonojaaDoor
