/-
  SEAT Ytoaahellfflooaa.
-/
import Derived.Test.YtoaahellfflooaaVEb
namespace Go.Proofs.Ytoaahellfflooaa
open Go.RowKit
set_option linter.unusedVariables false

/-- A slice whose cells are these. -/
def ReadsL (w : World) (a : Option Addr) (n st : Nat) (cs : List Value) : Prop := cs.length = n * st ∧ (a = none → n = 0) ∧ ∀ x, a = some x → ∀ j u, cs[j]? = some u → w.cell? (x.add j) = some u
section
variable {α : Type} {f : α → List Value} {st : Nat}
theorem flat_len (hf : ∀ x, (f x).length = st) : ∀ l : List α, (l.flatMap f).length = l.length * st
  | [] => by simp
  | x :: r => by rw [List.flatMap_cons, List.length_append, hf, flat_len hf r, List.length_cons, Nat.succ_mul]; omega
theorem flat_get (hf : ∀ x, (f x).length = st) : ∀ (l : List α) (i j : Nat) (hi : i < l.length), j < st → (l.flatMap f)[i * st + j]? = (f l[i])[j]?
  | [], i, j, hi, _ => by simp at hi
  | x :: r, 0, j, hi, hj => by rw [List.flatMap_cons, List.getElem?_append_left (by rw [hf]; omega)]; simp
  | x :: r, i + 1, j, hi, hj => by
    have hx := hf x
    rw [List.flatMap_cons, List.getElem?_append_right (by rw [hx, Nat.succ_mul]; omega), hx, show (i + 1) * st + j - st = i * st + j by rw [Nat.succ_mul]; omega, flat_get hf r i j (by simpa using hi) hj]
    simp
end
theorem ReadsL.below {w w' : World} {a : Option Addr} {n st : Nat} {cs : List Value} (h : ReadsL w a n st cs) (hb : Below w.heap.size w w') : ReadsL w' a n st cs := by
  obtain ⟨h1, h2, h3⟩ := h
  refine ⟨h1, h2, fun x hx j u hj => ?_⟩
  have h4 := h3 x hx j u hj
  rw [hb.cell (block_lt_of_cell h4)]
  exact h4
theorem ReadsL.pos {α : Type} {f : α → List Value} {st : Nat} {w : World} {a : Option Addr} {n : Nat} {l : List α} (h : ReadsL w a n st (l.flatMap f)) (hf : ∀ x, (f x).length = st) (hst : 0 < st) (hp : 0 < n) :
    ∃ b off, a = some ⟨b, off, none⟩ ∧ b < w.heap.size ∧ ∀ i (hi : i < l.length) j u, (f l[i])[j]? = some u → w.cell? ⟨b, off + (i * st + j), none⟩ = some u := by
  obtain ⟨h1, h2, h3⟩ := h
  rw [flat_len hf] at h1
  have hln : l.length = n := Nat.eq_of_mul_eq_mul_right hst h1
  cases a with
  | none => have := h2 rfl; omega
  | some x =>
    obtain ⟨b, off, spot⟩ := x
    have key : ∀ i (hi : i < l.length) j u, (f l[i])[j]? = some u → w.cell? (Addr.add ⟨b, off, spot⟩ (i * st + j)) = some u := by
      intro i hi j u hj
      refine h3 _ rfl _ _ ?_
      rw [flat_get hf l i j hi (by rw [← hf l[i]]; exact (List.getElem?_eq_some_iff.1 hj).1)]
      exact hj
    have hl0 : 0 < l.length := by omega
    have hf0 : 0 < (f l[0]).length := by rw [hf]; exact hst
    have k0 := key 0 hl0 0 _ (List.getElem?_eq_getElem hf0)
    have hspot : spot = none := by simpa [Addr.add] using World.cell?_spot k0
    subst hspot
    refine ⟨b, off, rfl, by simpa [Addr.add] using block_lt_of_cell k0, fun i hi j u hj => ?_⟩
    have := key i hi j u hj
    rwa [plain_add] at this
theorem own_reads {w : World} {B e st n : Nat} {v : Value} {cs : List Value} (h : w.ownsRow B e st v n cs) : ∃ a c, v = .slice a n c ∧ ReadsL w a n st cs := by
  have h' := h
  rcases h.2 with ⟨hv, h0⟩ | ⟨g, cap, cur, hv, _⟩
  · subst h0
    exact ⟨none, 0, hv, h.1, fun _ => rfl, fun x hx => by cases hx⟩
  · subst hv
    refine ⟨_, _, rfl, h.1, (fun h => by cases h), fun x hx j u hj => ?_⟩
    cases hx
    exact World.ownsRow.cells h' (g := g) rfl j _ hj

theorem chk_len (x : Chk) : x.cells.length = 4 := rfl
theorem blk_len (x : Blk) : x.cells.length = 4 := rfl
theorem ob_len (x : Ob × Value) : (x.1.cells x.2).length = 13 := rfl
abbrev ReadsC (w : World) (a : Option Addr) (n : Nat) (l : List Chk) : Prop := ReadsL w a n 4 (flatChk l)
abbrev ReadsK (w : World) (a : Option Addr) (n : Nat) (l : List Blk) : Prop := ReadsL w a n 4 (flatBlk l)
theorem ReadsC.cells {w : World} {a : Option Addr} {n : Nat} {l : List Chk} (h : ReadsC w a n l) (hp : 0 < n) :
    ∃ b off, a = some ⟨b, off, none⟩ ∧ b < w.heap.size ∧ ∀ i (hi : i < l.length), w.cell? ⟨b, off + i * 4, none⟩ = some (.int .i64 l[i].no) ∧ w.cell? ⟨b, off + i * 4 + 1, none⟩ = some (.int .i64 l[i].at_.1) ∧ w.cell? ⟨b, off + i * 4 + 2, none⟩ = some (.int .i64 l[i].at_.2) ∧ w.cell? ⟨b, off + i * 4 + 3, none⟩ = some (.int .i64 l[i].n) := by
  obtain ⟨b, off, rfl, hb, hc⟩ := ReadsL.pos h chk_len (by decide) hp
  exact ⟨b, off, rfl, hb, fun i hi => ⟨hc i hi 0 _ rfl, hc i hi 1 _ rfl, hc i hi 2 _ rfl, hc i hi 3 _ rfl⟩⟩
theorem ReadsK.cells {w : World} {a : Option Addr} {n : Nat} {l : List Blk} (h : ReadsK w a n l) (hp : 0 < n) :
    ∃ b off, a = some ⟨b, off, none⟩ ∧ b < w.heap.size ∧ ∀ i (hi : i < l.length), w.cell? ⟨b, off + i * 4, none⟩ = some (.int .i64 l[i].st) ∧ w.cell? ⟨b, off + i * 4 + 1, none⟩ = some (.int .u64 l[i].hd) ∧ w.cell? ⟨b, off + i * 4 + 2, none⟩ = some (.bool l[i].re) ∧ w.cell? ⟨b, off + i * 4 + 3, none⟩ = some (.int .i64 l[i].lv) := by
  obtain ⟨b, off, rfl, hb, hc⟩ := ReadsL.pos h blk_len (by decide) hp
  exact ⟨b, off, rfl, hb, fun i hi => ⟨hc i hi 0 _ rfl, hc i hi 1 _ rfl, hc i hi 2 _ rfl, hc i hi 3 _ rfl⟩⟩
theorem ReadsL.len {α : Type} {f : α → List Value} {st : Nat} {w : World} {a : Option Addr} {n : Nat} {l : List α} (h : ReadsL w a n st (l.flatMap f)) (hf : ∀ x, (f x).length = st) (hst : 0 < st) : l.length = n := by
  have h1 := h.1
  rw [flat_len hf] at h1
  exact Nat.eq_of_mul_eq_mul_right hst h1

def chL : Int → List Chk → Bool
  | _, [] => true
  | a, c :: r => rg c.no (a + 1) 1048575 && (plOk c.at_ && (rg c.n 0 2048 && chL c.no r))
def chsOk (l : List Chk) : Bool := chL (-1) l && decide (l.length ≤ 65536)
theorem chL_stop {a : Int} {c : Chk} {r : List Chk} (h : rg c.no (a + 1) 1048575 = false ∨ plOk c.at_ = false ∨ rg c.n 0 2048 = false) : chL a (c :: r) = false := by
  rcases h with h | h | h <;> simp [chL, h]
theorem chL_go {a : Int} {c : Chk} {r : List Chk} (h1 : rg c.no (a + 1) 1048575 = true) (h2 : plOk c.at_ = true) (h3 : rg c.n 0 2048 = true) : chL a (c :: r) = chL c.no r := by
  simp [chL, h1, h2, h3]

set_option maxHeartbeats 4000000 in
set_option maxRecDepth 100000 in
theorem chunks59 (a0 : Option Addr) (len cap : Nat) (l : List Chk) (w : World) (hr : ReadsC w a0 len l) (hl : len ≤ 140737488355000) : Calls Try.prog 59 #[.slice a0 len cap] w fun e w' => e = .returned (.bool (chsOk l)) ∧ Below w.heap.size w w' := by
  have HR := hide hr
  have HLN := hide (hr.len chk_len (by decide))
  obtain ⟨R, hR⟩ : ∃ R, chsOk l = R := ⟨_, rfl⟩
  rw [hR]
  have HQ := hide hR
  clear hr hR
  go_enter Try.func59, Try.ntmps59
  go_wp2
  go_loopw [3, 8] (fun s3 s8 wr => ∃ (k : Nat) (a : Int), k ≤ len ∧ s3 = .int .i64 a ∧ s8 = .int .i64 k ∧ -1 ≤ a ∧ a ≤ 1048575 ∧ Hid (chL (-1) l = chL a (l.drop k)) ∧ Hid (Below w.heap.size w wr))
    (fun _ s8 _ => len - (intOf s8).toNat)
  case atStart => exact ⟨0, -1, Nat.zero_le _, rfl, rfl, by omega, by omega, rfl, Below.refl _ _⟩
  case round =>
    obtain ⟨k, a, hk, rfl, rfl, ha0, ha1, HA, HB⟩ := hrel
    by_cases hlt : k < len
    · have hkl : k < l.length := by rw [HLN.out]; exact hlt
      obtain ⟨b, off, rfl, hbs, hc⟩ := ReadsC.cells (HR.out.below HB.out) (by omega)
      have hd : l.drop k = l[k] :: l.drop (k + 1) := List.drop_eq_getElem_cons hkl
      obtain ⟨c0, c1, c2, c3⟩ := hc k hkl
      obtain ⟨⟨no, ⟨p1, p2⟩, n⟩, hX⟩ : ∃ X, l[k] = X := ⟨_, rfl⟩
      rw [hX] at c0 c1 c2 c3 hd
      simp only at c0 c1 c2 c3
      have HD := hide hd
      have d1 : (k : Int) < len := by omega
      have HB2 := hide (HB.out.trans ((below_alloc wr (.cells #[.int .i64 no, .int .i64 p1, .int .i64 p2, .int .i64 n] 71)).mono HB.out.size))
      clear hc hd hX hkl
      cases h1 : rg no (a + 1) 1048575 with
      | false =>
        have HF := hide (chL_stop (c := ⟨no, (p1, p2), n⟩) (r := l.drop (k + 1)) (Or.inl h1))
        go_wp2_with (go_at_call 40; refine (pw_any _ _ _ _).mono ?_; rintro e u ⟨rfl, rfl⟩; rw [h1])
        go_ret
        exact ⟨ret_bool (by rw [← HQ.out]; unfold chsOk; rw [HA.out, HD.out, HF.out]; rfl), HB2.out⟩
      | true =>
        cases h2 : plOk (p1, p2) with
        | false =>
          have HF := hide (chL_stop (a := a) (c := ⟨no, (p1, p2), n⟩) (r := l.drop (k + 1)) (Or.inr (Or.inl h2)))
          go_wp2_with (first
            | (go_at_call 40; refine (pw_any _ _ _ _).mono ?_; rintro e u ⟨rfl, rfl⟩; rw [h1])
            | (go_at_call 70; refine (place70 (p1, p2) _).mono ?_; rintro e x9 ⟨rfl, b9⟩; rw [h2]; have HB9 := hide (HB2.out.trans (b9.mono HB2.out.size)); clear b9))
          go_ret
          exact ⟨ret_bool (by rw [← HQ.out]; unfold chsOk; rw [HA.out, HD.out, HF.out]; rfl), HB9.out⟩
        | true =>
          cases h3 : rg n 0 2048 with
          | false =>
            have HF := hide (chL_stop (a := a) (c := ⟨no, (p1, p2), n⟩) (r := l.drop (k + 1)) (Or.inr (Or.inr h3)))
            go_wp2_with (first
              | (go_at_call 40; refine (pw_any _ _ _ _).mono ?_; rintro e u ⟨rfl, rfl⟩; first | rw [h1] | rw [h3])
              | (go_at_call 70; refine (place70 (p1, p2) _).mono ?_; rintro e x9 ⟨rfl, b9⟩; rw [h2]; have hbx := (b9.block wr.heap.size (by simp)).trans (heap_alloc_new wr _); have c9 : x9.cell? ⟨wr.heap.size, 3, none⟩ = some (.int .i64 n) := blk_cell hbx 3 rfl; have HB9 := hide (HB2.out.trans (b9.mono HB2.out.size)); clear b9 hbx))
            go_ret
            exact ⟨ret_bool (by rw [← HQ.out]; unfold chsOk; rw [HA.out, HD.out, HF.out]; rfl), HB9.out⟩
          | true =>
            have HF := hide (chL_go (a := a) (c := ⟨no, (p1, p2), n⟩) (r := l.drop (k + 1)) h1 h2 h3)
            have hno := rg_iff.1 h1
            go_wp2_with (first
              | (go_at_call 40; refine (pw_any _ _ _ _).mono ?_; rintro e u ⟨rfl, rfl⟩; first | rw [h1] | rw [h3])
              | (go_at_call 70; refine (place70 (p1, p2) _).mono ?_; rintro e x9 ⟨rfl, b9⟩; rw [h2]; have hbx := (b9.block wr.heap.size (by simp)).trans (heap_alloc_new wr _); have c9 : x9.cell? ⟨wr.heap.size, 3, none⟩ = some (.int .i64 n) := blk_cell hbx 3 rfl; have c90 : x9.cell? ⟨wr.heap.size, 0, none⟩ = some (.int .i64 no) := blk_cell hbx 0 rfl; have HB9 := hide (HB2.out.trans (b9.mono HB2.out.size)); clear b9 hbx))
            go_roundw
            case rel => exact ⟨k + 1, no, by omega, rfl, by go_num, by omega, by omega, by show _ = _; rw [HA.out, HD.out, HF.out], HB9⟩
            case measure => simp [intOf]; omega
    · have hkn : k = len := by omega
      subst hkn
      have HE := hide (show chL (-1) l = true by rw [HA.out, List.drop_of_length_le (by rw [HLN.out]; exact Nat.le_refl _)]; rfl)
      go_wp2
      go_ret
      exact ⟨ret_bool (by rw [← HQ.out]; unfold chsOk; rw [HE.out, HLN.out, Bool.true_and]; rw [decide_eq_decide]; omega), HB.out⟩
end Go.Proofs.Ytoaahellfflooaa
