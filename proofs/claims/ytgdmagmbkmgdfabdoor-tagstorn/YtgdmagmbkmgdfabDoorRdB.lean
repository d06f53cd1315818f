/-
  SEAT YtgdmagmbkmgdfabDoor: rail.mend, rail.Read.
-/
import Derived.Test.YtgdmagmbkmgdfabDoorRdA
namespace Go.Proofs.YtgdmagmbkmgdfabDoor
open Go.RowKit
set_option linter.unusedVariables false

theorem col_cst (ns : List Nat) (h : ∀ x ∈ ns, x < 256) : colF (cst ns) = ((colN ns : Nat) : Int) := by
  have key : ∀ (ns : List Nat) (s : Nat), s < 256 → (∀ x ∈ ns, x < 256) → (cst ns).foldl (fun s z => bits .xor .u8 s z) (s : Int) = ((ns.foldl (fun s z => s ^^^ z) s : Nat) : Int) := by
    intro ns
    induction ns with
    | nil => intro s _ _; rfl
    | cons x r ih =>
      intro s hs hr
      simp only [cst, List.map_cons, List.foldl_cons]
      rw [u8_xor_nat s x hs (hr x (by simp))]
      exact ih (s ^^^ x) (Nat.xor_lt_two_pow (n := 8) hs (hr x (by simp))) (fun y hy => hr y (by simp [hy]))
  exact key ns 0 (by omega) h

theorem mend_eq (o c C : Nat) (ho : o < 256) (hc : c < 256) (hC : C < 8) : bits .or .u8 (o : Int) (bits .and .u8 (c : Int) (2 ^ C % 256)) = ((o ||| (c &&& 2 ^ C) : Nat) : Int) := by
  have h2 : 2 ^ C ≤ 2 ^ 7 := Nat.pow_le_pow_right (by omega) (by omega)
  have e : (2 : Int) ^ C % 256 = ((2 ^ C : Nat) : Int) := by
    obtain ⟨t, ht⟩ : ∃ t, t = 2 ^ C := ⟨_, rfl⟩
    have : ((2 : Int) ^ C) = ((2 ^ C : Nat) : Int) := by simp
    rw [this, ← ht]
    rw [← ht] at h2
    omega
  have h3 : c &&& 2 ^ C < 256 := Nat.lt_of_le_of_lt Nat.and_le_left hc
  rw [e, u8_and_nat c (2 ^ C) hc (by omega), u8_or_nat o _ ho h3]

theorem cst_range (ns : List Nat) (h : ∀ x ∈ ns, x < 256) : ∀ x ∈ cst ns, 0 ≤ x ∧ x ≤ 255 := by
  intro x hx
  obtain ⟨n, hn, rfl⟩ := List.mem_map.1 hx
  have := h n hn
  omega

set_option maxHeartbeats 1000000 in
set_option maxRecDepth 100000 in
theorem mend_any (B g m c p : Nat) (rows : List Nat) (w : World) (hm : m ≤ 4096) (hp : p / 8 < m) (hr : ∀ x ∈ rows, x < 256) (own : Own w B g m c (cst rows)) :
    Calls Tryd.prog 31 #[.slice (some ⟨g, 0, none⟩) m c, .int .i64 (p : Int)] w fun e w' => e = .returned (.tuple #[]) ∧ Own w' B g m c (cst (mendN rows p)) ∧ w.grownBy w' (some g) := by
  obtain ⟨R, hR⟩ : ∃ R, R = p / 8 := ⟨_, rfl⟩
  obtain ⟨C, hC⟩ : ∃ C, C = p % 8 := ⟨_, rfl⟩
  have hRm : R < m := by omega
  have hC8 : C < 8 := by omega
  have rm : (R : Int) < (m : Int) := by omega
  have hlen : rows.length = m := by have := own.len; simpa [cst] using this
  obtain ⟨o, ho⟩ : ∃ o, o = rows.getD R 0 := ⟨_, rfl⟩
  have ho256 : o < 256 := by
    rw [ho, List.getD_eq_getElem?_getD, List.getElem?_eq_getElem (by omega)]
    exact hr _ (List.getElem_mem _)
  have hoc := own.cell R hRm
  rw [cst_getD, ← ho] at hoc
  have hfz : w.frozen? ⟨g, R, none⟩ = false := World.ownsRow.frozenAt own R
  have hrd := own.all (cst_range rows hr)
  have hcol := col_cst rows hr
  obtain ⟨s, hs⟩ : ∃ s, s = colN rows := ⟨_, rfl⟩
  rw [← hs] at hcol
  have hs256 : s < 256 := by rw [hs]; exact col_lt rows hr
  have HR : Hid (R = p / 8) := hR
  have HC : Hid (C = p % 8) := hC
  have HO : Hid (o = rows.getD R 0) := ho
  have HSS : Hid (s = colN rows) := hs
  have hcd := column_any (some ⟨g, 0, none⟩) m c (cst rows) w.drew (by omega) (by exact hrd.drewN 1)
  rw [hcol] at hcd
  have HCD : Hid (Calls Tryd.prog 27 #[.slice (some ⟨g, 0, none⟩) m c] w.drew fun e w' => e = .returned (.int .u8 (s : Int)) ∧ w.drew = w') := hcd
  clear hcd
  have HCOL : Hid _ := hcol
  have HRD : Hid _ := hrd
  have HOWN : Hid (Own w B g m c (cst rows)) := own
  clear hR hC ho hs own hcol hrd
  go_enter Tryd.func31, Tryd.ntmps31
  go_wp2_with (first | (go_at_call 38; refine (place_any _ p R C _ rfl HR.out HC.out (by omega)).mono ?_; rintro e u ⟨rfl, rfl⟩))
  go_region_with (go_at_call 27; refine HCD.out.mono ?_; rintro e u ⟨rfl, rfl⟩)
  all_goals go_wp2
  all_goals
    have own : Own w B g m c (cst rows) := HOWN.out
    have hset := own.set R (bits .or .u8 (o : Int) (bits .and .u8 (s : Int) (IntKind.u8.wrap (2 ^ C))))
    have hw : IntKind.u8.wrap ((2 : Int) ^ C) = (2 : Int) ^ C % 256 := by first | rfl | simp [IntKind.wrap]
    have hrows : mendN rows p = rows.set R (o ||| (s &&& 2 ^ C)) := by unfold mendN; rw [← HR.out, ← HC.out, ← HO.out, ← HSS.out]
    refine bodyPost_end (v := .tuple #[]) (by simp [results, Tryd.results31, go_sem]) rfl ⟨rfl, ?_, ?_⟩
    · have h1 := hset.1.drewN 1
      rw [hw, mend_eq o s C ho256 hs256 hC8, cst_set, ← hrows] at h1
      rw [hw, mend_eq o s C ho256 hs256 hC8]
      exact h1
    · exact grownBy_trans hset.2 ⟨rfl, rfl, rfl, Nat.le_refl _, fun _ _ _ => rfl⟩

theorem mendN_length (rows : List Nat) (p : Nat) : (mendN rows p).length = rows.length := by simp [mendN]
theorem mendN_lt (rows : List Nat) (p : Nat) (h : ∀ x ∈ rows, x < 256) : ∀ x ∈ mendN rows p, x < 256 := by
  intro x hx
  rcases List.mem_or_eq_of_mem_set hx with h1 | h1
  · exact h x h1
  · subst h1
    have ho : rows.getD (p / 8) 0 < 2 ^ 8 := by
      rcases Nat.lt_or_ge (p / 8) rows.length with h2 | h2
      · rw [List.getD_eq_getElem?_getD, List.getElem?_eq_getElem h2]; exact h _ (List.getElem_mem _)
      · rw [List.getD_eq_getElem?_getD, List.getElem?_eq_none h2]; simp
    have hc : colN rows &&& 2 ^ (p % 8) < 2 ^ 8 := Nat.lt_of_le_of_lt Nat.and_le_left (col_lt rows h)
    exact Nat.or_lt_two_pow ho hc

theorem read_bad (a : Option Addr) (l cap : Nat) (w : World) (hl : l ≤ 140737488355000) (h : l % 2 = 1 ∨ l < 2 ∨ 8192 < l) :
    Calls Tryd.prog 19 #[.slice a l cap] w fun e w' => e = .returned (.tuple #[.slice none 0 0, .int .i64 0, .int .i64 31]) ∧ w = w' := by
  by_cases h1 : l % 2 = 1
  · have e1 : (l : Int) % 2 = 1 := by omega
    go_enter Tryd.func19, Tryd.ntmps19
    go_wp2
    go_ret3
    exact ⟨rfl, rfl⟩
  · have e1 : (l : Int) % 2 = 0 := by omega
    by_cases h2 : l < 2
    · go_enter Tryd.func19, Tryd.ntmps19
      go_wp2
      go_ret3
      exact ⟨rfl, rfl⟩
    · have h3 : 8192 < l := by omega
      go_enter Tryd.func19, Tryd.ntmps19
      go_wp2
      go_ret3
      exact ⟨rfl, rfl⟩

/-- What Read answers. -/
def readR (w : World) (m : Nat) (o : Option (List Nat × Int)) (e : Ending) (w' : World) : Prop :=
  match o with
  | none => e = .returned (.tuple #[.slice none 0 0, .int .i64 0, .int .i64 30])
  | some (zs, n) => e = .returned (.tuple #[.slice (some ⟨w.heap.size, 0, none⟩) (m - 1) m, .int .i64 n, .int .i64 0]) ∧ ∃ rows, rows.take (m - 1) = zs ∧ (∀ x ∈ rows, x < 256) ∧ Own w' w.heap.size w.heap.size m m (cst rows)

theorem lift_nil (a : Option Addr) (l cap m : Nat) (xs : List Nat) (w : World) (hl : l = 2 * m) (hm : 1 ≤ m ∧ m ≤ 4096) (hx : ∀ x ∈ xs, x < 256) (h : Reads w a l (cst xs)) (hL : brkL xs (4 * l) = []) :
    Calls Tryd.prog 30 #[.slice a l cap] w fun e w' => e = .returned (.tuple #[.slice (some ⟨w.heap.size, 0, none⟩) m m, .pointer none, .bool true]) ∧ Own w' w.heap.size w.heap.size m m (cst (rowsOf xs)) ∧ Below w.heap.size w w' := by
  refine (lift_any a l cap m xs w hl hm hx h).mono fun e w' hp => ?_
  obtain ⟨bel, ⟨h2, _⟩ | ⟨v, rfl, own, brk⟩⟩ := hp
  · rw [hL] at h2; simp at h2
  · rcases brk with ⟨rfl, _⟩ | ⟨gb, q, _, hq, _⟩
    · exact ⟨rfl, own, bel⟩
    · rw [hL] at hq; cases hq

theorem lift_one (a : Option Addr) (l cap m q : Nat) (xs : List Nat) (w : World) (hl : l = 2 * m) (hm : 1 ≤ m ∧ m ≤ 4096) (hx : ∀ x ∈ xs, x < 256) (h : Reads w a l (cst xs)) (hL : brkL xs (4 * l) = [q]) :
    Calls Tryd.prog 30 #[.slice a l cap] w fun e w' => ∃ gb, e = .returned (.tuple #[.slice (some ⟨w.heap.size, 0, none⟩) m m, .pointer (some ⟨gb, 0, none⟩), .bool true]) ∧ w'.cell? ⟨gb, 0, none⟩ = some (.int .i64 (q : Int)) ∧ Own w' w.heap.size w.heap.size m m (cst (rowsOf xs)) ∧ Below w.heap.size w w' := by
  refine (lift_any a l cap m xs w hl hm hx h).mono fun e w' hp => ?_
  obtain ⟨bel, ⟨h2, _⟩ | ⟨v, rfl, own, brk⟩⟩ := hp
  · rw [hL] at h2; simp at h2
  · rcases brk with ⟨_, h0⟩ | ⟨gb, q', rfl, hq, hc, _⟩
    · rw [hL] at h0; cases h0
    · rw [hL] at hq; cases hq
      exact ⟨gb, rfl, hc, own, bel⟩

theorem lift_two (a : Option Addr) (l cap m : Nat) (xs : List Nat) (w : World) (hl : l = 2 * m) (hm : 1 ≤ m ∧ m ≤ 4096) (hx : ∀ x ∈ xs, x < 256) (h : Reads w a l (cst xs)) (hL : 2 ≤ (brkL xs (4 * l)).length) :
    Calls Tryd.prog 30 #[.slice a l cap] w fun e w' => e = .returned (.tuple #[.slice none 0 0, .pointer none, .bool false]) ∧ Below w.heap.size w w' := by
  refine (lift_any a l cap m xs w hl hm hx h).mono fun e w' hp => ?_
  obtain ⟨bel, ⟨_, rfl⟩ | ⟨v, rfl, own, brk⟩⟩ := hp
  · exact ⟨rfl, bel⟩
  · rcases brk with ⟨_, h0⟩ | ⟨gb, q', _, hq, _⟩
    · rw [h0] at hL; simp at hL
    · rw [hq] at hL; simp at hL

set_option maxHeartbeats 1000000 in
set_option maxRecDepth 100000 in
theorem read_ok (a : Option Addr) (l cap m : Nat) (xs : List Nat) (w : World) (hl : l = 2 * m) (hm : 1 ≤ m ∧ m ≤ 4096) (hx : ∀ x ∈ xs, x < 256) (h : Reads w a l (cst xs)) :
    Calls Tryd.prog 19 #[.slice a l cap] w fun e w' => readR w m (readN xs) e w' ∧ Below w.heap.size w w' := by
  have hlen : xs.length = 2 * m := by have := h.1; simp [cst] at this; omega
  have hrl : (rowsOf xs).length = m := rowsOf_length xs m hlen
  have hr256 : ∀ x ∈ rowsOf xs, x < 256 := rows_lt xs m hlen
  have e1 : (l : Int) % 2 = 0 := by omega
  have e2 : (2 : Int) ≤ (l : Int) := by omega
  have e3 : (l : Int) ≤ 8192 := by omega
  have hmi : (1 : Int) ≤ (m : Int) := by omega
  have h4 : 4 * xs.length = 4 * l := by omega
  match hL : brkL xs (4 * l) with
  | [] =>
    have hlift := lift_nil a l cap m xs w hl hm hx h hL
    have hrd : readN xs = sealN (rowsOf xs) (-1) := by unfold readN; rw [h4, hL]
    rw [hrd]
    unfold sealN
    have hcol := col_cst (rowsOf xs) hr256
    have HR : Hid (∀ x ∈ rowsOf xs, x < 256) := hr256
    obtain ⟨s, hs⟩ : ∃ s, colN (rowsOf xs) = s := ⟨_, rfl⟩
    rw [hs] at hcol ⊢
    have HCOL : Hid (colF (cst (rowsOf xs)) = (s : Int)) := hcol
    have HRL : Hid ((rowsOf xs).length = m) := hrl
    clear hl h hL hrd hcol hr256 hlen h4 hrl hs
    by_cases hz : s = 0
    · subst hz
      rw [if_pos rfl]
      go_enter Tryd.func19, Tryd.ntmps19
      go_wp2_with (first
        | (go_at_call 30; refine hlift.mono ?_; rintro e u ⟨rfl, own, bel⟩)
        | (go_at_call 27; refine (column_any _ _ _ (cst (rowsOf xs)) _ ?_ ?_).mono ?_; omega; exact own.all (cst_range _ HR.out); rintro e u2 ⟨rfl, rfl⟩; rw [HCOL.out]))
      go_ret3
      exact ⟨⟨rfl, _, by rw [HRL.out], HR.out, own⟩, bel⟩
    · rw [if_neg hz]
      have hz2 : ((s : Int) == 0) = false := by simpa using hz
      go_enter Tryd.func19, Tryd.ntmps19
      go_wp2_with (first
        | (go_at_call 30; refine hlift.mono ?_; rintro e u ⟨rfl, own, bel⟩)
        | (go_at_call 27; refine (column_any _ _ _ (cst (rowsOf xs)) _ ?_ ?_).mono ?_; omega; exact own.all (cst_range _ HR.out); rintro e u2 ⟨rfl, rfl⟩; rw [HCOL.out]))
      go_ret3
      exact ⟨rfl, bel⟩
  | [q] =>
    have hlift := lift_one a l cap m q xs w hl hm hx h hL
    have hrd : readN xs = sealN (mendN (rowsOf xs) q) q := by unfold readN; rw [h4, hL]
    have hq8 : q / 8 < m := by
      have := (brkL_one_inv hL).1
      omega
    rw [hrd]
    unfold sealN
    have hm256 := mendN_lt (rowsOf xs) q hr256
    have hcol := col_cst (mendN (rowsOf xs) q) hm256
    have HR0 : Hid (∀ x ∈ rowsOf xs, x < 256) := hr256
    have HR : Hid (∀ x ∈ mendN (rowsOf xs) q, x < 256) := hm256
    obtain ⟨s, hs⟩ : ∃ s, colN (mendN (rowsOf xs) q) = s := ⟨_, rfl⟩
    rw [hs] at hcol ⊢
    have HCOL : Hid (colF (cst (mendN (rowsOf xs) q)) = (s : Int)) := hcol
    have HRL : Hid ((mendN (rowsOf xs) q).length = m) := (mendN_length _ _).trans hrl
    clear hl h hL hrd hcol hr256 hm256 hlen h4 hrl hs
    by_cases hz : s = 0
    · subst hz
      rw [if_pos rfl]
      go_enter Tryd.func19, Tryd.ntmps19
      go_wp2_with (first
        | (go_at_call 30; refine hlift.mono ?_; rintro e u ⟨gb, rfl, hgb, own, bel⟩)
        | (go_at_call 31; refine (mend_any w.heap.size w.heap.size m m q (rowsOf xs) _ ?_ hq8 HR0.out own).mono ?_; omega; rintro e u3 ⟨rfl, own3, g3⟩; have bel3 := bel.grown g3 bel.size (fun j hj => by cases hj; exact Nat.le_refl _))
        | (go_at_call 27; refine (column_any _ _ _ (cst (mendN (rowsOf xs) q)) _ ?_ ?_).mono ?_; omega; exact own3.all (cst_range _ HR.out); rintro e u2 ⟨rfl, rfl⟩; rw [HCOL.out]))
      go_ret3
      exact ⟨⟨rfl, _, by rw [HRL.out], HR.out, own3⟩, bel3⟩
    · rw [if_neg hz]
      have hz2 : ((s : Int) == 0) = false := by simpa using hz
      go_enter Tryd.func19, Tryd.ntmps19
      go_wp2_with (first
        | (go_at_call 30; refine hlift.mono ?_; rintro e u ⟨gb, rfl, hgb, own, bel⟩)
        | (go_at_call 31; refine (mend_any w.heap.size w.heap.size m m q (rowsOf xs) _ ?_ hq8 HR0.out own).mono ?_; omega; rintro e u3 ⟨rfl, own3, g3⟩; have bel3 := bel.grown g3 bel.size (fun j hj => by cases hj; exact Nat.le_refl _))
        | (go_at_call 27; refine (column_any _ _ _ (cst (mendN (rowsOf xs) q)) _ ?_ ?_).mono ?_; omega; exact own3.all (cst_range _ HR.out); rintro e u2 ⟨rfl, rfl⟩; rw [HCOL.out]))
      go_ret3
      exact ⟨rfl, bel3⟩
  | x :: y :: r =>
    have hlift := lift_two a l cap m xs w hl hm hx h (by rw [hL]; simp)
    have hrd : readN xs = none := by unfold readN; rw [h4, hL]
    rw [hrd]
    clear hl h hL hrd
    go_enter Tryd.func19, Tryd.ntmps19
    go_wp2_with (first | (go_at_call 30; refine hlift.mono ?_; rintro e u ⟨rfl, bel⟩))
    go_ret3
    exact ⟨rfl, bel⟩
end Go.Proofs.YtgdmagmbkmgdfabDoor
