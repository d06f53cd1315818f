/-
  SEAT Ytadlkikjfonkgaa: Gh, Oa, Gk.
-/
import Derived.Test.YtadlkikjfonkgaaZd
import Derived.Test.YtadlkikjfonkgaaZe
namespace Go.Proofs.Ytadlkikjfonkgaa
open Go.RowKit Go.Conc
set_option linter.unusedVariables false

theorem info24 : (Try.prog.info? 24).map (fun i => (i.zero, i.size, i.bytes)) = some (some (.slice none 0 0), 1, 24) := by kernel_rfl
theorem fmb_k : ∀ (fs : List Fc) (l : Int), fmb l fs = true → ∀ f ∈ fs, f.k = 1 ∨ f.k = 2
  | [], _, _, f, hf => by cases hf
  | c :: r, l, h, f, hf => by
    obtain ⟨h1, h2⟩ := fmb_cons h
    rcases List.mem_cons.1 hf with rfl | hf
    · simp at h1
      rcases Classical.em (f.k = 1) with h9 | h9
      · exact Or.inl h9
      · exact Or.inr (h1.2 h9)
    · exact fmb_k r c.a h2 f hf
theorem fmb_kinds {fs : List Fc} (h : faultsB fs = true) : ∀ f ∈ fs.map Fc.t, f.k = 1 ∨ f.k = 2 := by
  unfold faultsB at h
  rw [Bool.and_eq_true] at h
  intro f hf
  obtain ⟨c, hc, rfl⟩ := List.mem_map.1 hf
  exact fmb_k fs (-1) h.2 c hc
theorem does_geo (C : Ch) (o : Opc) : (doesC C o).2.B = C.B ∧ (doesC C o).2.P = C.P ∧ (doesC C o).2.S = C.S := by
  unfold doesC
  split
  · unfold ProgramC
    split
    · exact ⟨rfl, rfl, rfl⟩
    split
    · exact ⟨rfl, rfl, rfl⟩
    unfold progC
    split
    · exact ⟨rfl, rfl, rfl⟩
    split
    · exact ⟨rfl, rfl, rfl⟩
    split
    · exact ⟨rfl, rfl, rfl⟩
    split <;> exact ⟨rfl, rfl, rfl⟩
  split
  · unfold EraseC
    split
    · exact ⟨rfl, rfl, rfl⟩
    unfold eraseC
    split
    · exact ⟨rfl, rfl, rfl⟩
    split
    · exact ⟨rfl, rfl, rfl⟩
    split <;> exact ⟨rfl, rfl, rfl⟩
  split
  · unfold MarkC
    split
    · exact ⟨rfl, rfl, rfl⟩
    unfold markC
    split
    · exact ⟨rfl, rfl, rfl⟩
    split <;> exact ⟨rfl, rfl, rfl⟩
  split
  · unfold FlipC
    split
    · exact ⟨rfl, rfl, rfl⟩
    split
    · exact ⟨rfl, rfl, rfl⟩
    split
    · exact ⟨rfl, rfl, rfl⟩
    split <;> exact ⟨rfl, rfl, rfl⟩
  split <;> exact ⟨rfl, rfl, rfl⟩
/-- What stands of the chip and the tables between two calls. -/
structure HFin (C : Ch) (W : Nat → Nat → Option (List Int)) (K : Nat → Nat → Bool) (n : Nat) : Prop where
  inv : HInv C W K
  dark : C.dark = false
  life : Life C n
  B : C.B = 8
  P : C.P = 4
  S : C.S = 1
def w0row : Array Value := (List.replicate 32 (.slice none 0 0)).toArray
def k0row : Array Value := (List.replicate 32 (.bool false)).toArray
theorem mk61 (w : World) : (Instr.makeSlice 61 (.int .i64 32) (.int .i64 32)).run Try.prog w = .ok (.slice (some ⟨w.heap.size, 0, none⟩) 32 32) (w.alloc (.cells w0row 24)) := by
  obtain ⟨i, hi, hz0, hz1, hb⟩ := info_parts info24
  have h := run_make (P := Try.prog) w 61 24 i _ Try.underlying61 hi hz0 .i64 .i64 (32 : Int) (32 : Int) (by omega) (by omega) (by rw [hb]; omega) (by omega)
  rw [hz1] at h
  rw [h]
  have e9 : madeCells #[Value.slice none 0 0] (32 * 1) = w0row := (made_eq [.slice none 0 0] 1 rfl (by omega) 32).trans rfl
  show Result.ok (Value.slice (some ⟨w.heap.size, 0, none⟩) 32 32) (w.alloc (.cells (madeCells #[Value.slice none 0 0] (32 * 1)) 24)) = _
  rw [e9]
theorem mk25b (w : World) : (Instr.makeSlice 25 (.int .i64 32) (.int .i64 32)).run Try.prog w = .ok (.slice (some ⟨w.heap.size, 0, none⟩) 32 32) (w.alloc (.cells k0row 4)) := by
  obtain ⟨i, hi, hz0, hz1, hb⟩ := info_parts info4
  have h := run_make (P := Try.prog) w 25 4 i _ Try.underlying25 hi hz0 .i64 .i64 (32 : Int) (32 : Int) (by omega) (by omega) (by rw [hb]; omega) (by omega)
  rw [hz1] at h
  rw [h]
  have e9 : madeCells #[Value.bool false] (32 * 1) = k0row := (made_eq [.bool false] 1 rfl (by omega) 32).trans rfl
  show Result.ok (Value.slice (some ⟨w.heap.size, 0, none⟩) 32 32) (w.alloc (.cells (madeCells #[Value.bool false] (32 * 1)) 4)) = _
  rw [e9]
def ws0 : List Wc := List.replicate 32 ⟨.slice none 0 0, none⟩
def ksM (m : Nat) : List Bool := List.replicate m true ++ List.replicate (32 - m) false
theorem ksM_set {m : Nat} (h : m < 32) : (ksM m).set m true = ksM (m + 1) := by
  unfold ksM
  rw [show 32 - m = (32 - (m + 1)) + 1 by omega, List.replicate_succ, List.set_append_right _ _ (by simp), List.replicate_succ']
  simp
theorem kcell {w : World} {g : Nat} {ks : List Bool} (h : w.heap[g]? = some (kobj ks)) {t : Nat} {b : Bool} (hb : ks[t]? = some b) : w.cell? ⟨g, t, none⟩ = some (.bool b) := by
  have h' : w.heap[g]? = some (.cells (ks.map Value.bool).toArray 4 (0, 0)) := h
  simp only [World.cell?, h', List.getElem?_toArray, List.getElem?_map, hb]
  rfl
theorem wcell {w : World} {g : Nat} {ws : List Wc} (h : w.heap[g]? = some (wobj ws)) {t : Nat} {c : Wc} (hb : ws[t]? = some c) : w.cell? ⟨g, t, none⟩ = some c.v := by
  have h' : w.heap[g]? = some (.cells (ws.map Wc.v).toArray 24 (0, 0)) := h
  simp only [World.cell?, h', List.getElem?_toArray, List.getElem?_map, hb]
  rfl
theorem hm_start {w u : World} {p b7 : Nat} {F : Nat → Prop} {C : Ch} (h : HD w u p F [(b7, box8)] C) : HM w ((u.alloc (.cells w0row 24)).alloc (.cells k0row 4)) p b7 u.heap.size (u.heap.size + 1) F C ws0 (ksM 0) := by
  have h1 := h.below (below_alloc u (.cells w0row 24))
  have h2 := h1.hold (g := u.heap.size) (o := wobj ws0) ((alloc_new u (.cells w0row 24)).trans (by rfl)) (fun hf => by have := h.ch.fin _ hf; omega) h.bel.size
  have h3 := h2.below (below_alloc _ (.cells k0row 4))
  have h4 := h3.hold (g := u.heap.size + 1) (o := kobj (ksM 0)) (by
    have h9 := alloc_new (u.alloc (.cells w0row 24)) (.cells k0row 4)
    rw [alloc_size] at h9
    exact h9.trans (by rfl)) (fun hf => by have := h.ch.fin _ hf; omega) (by have := h.bel.size; omega)
  refine ⟨h4.less (by intro x hx; simp at hx ⊢; rcases hx with rfl | rfl | rfl <;> simp), by simp [ws0], by simp [ksM], fun c hc => Or.inl ?_⟩
  rw [(List.mem_replicate.1 hc).2]
  exact ⟨rfl, rfl⟩
end Go.Proofs.Ytadlkikjfonkgaa
namespace Go.Proofs.Ytadlkikjfonkgaa
open Go.RowKit Go.Conc
set_option linter.unusedVariables false

theorem compl_and {o : Nat} (ho : o < 256) (y : Nat) : (o &&& y) &&& (255 - o) = 0 := by
  apply Nat.eq_of_testBit_eq
  intro i
  rw [show 255 - o = 2 ^ 8 - (o + 1) by omega]
  simp only [Nat.testBit_and, Nat.testBit_two_pow_sub_succ (show o < 2 ^ 8 by omega), Nat.zero_testBit]
  cases o.testBit i <;> simp
theorem or_compl {o : Nat} (ho : o < 256) {y : Nat} (hy : y < 256) : o &&& (255 - (o ||| y)) = 0 := by
  apply Nat.eq_of_testBit_eq
  intro i
  have h : o ||| y < 2 ^ 8 := Nat.or_lt_two_pow (n := 8) ho hy
  rw [show 255 - (o ||| y) = 2 ^ 8 - ((o ||| y) + 1) by omega]
  simp only [Nat.testBit_and, Nat.testBit_two_pow_sub_succ h, Nat.testBit_or, Nat.zero_testBit]
  cases o.testBit i <;> simp
theorem fb_down {o x m : Int} (ho : 0 ≤ o ∧ o ≤ 255) (hx : 0 ≤ x ∧ x ≤ 255) (hm : 0 ≤ m ∧ m ≤ 255) : bits .andNot .u8 (fb o x m) o = 0 := by
  obtain ⟨o, rfl, ho'⟩ := nat_of ho
  obtain ⟨x, rfl, hx'⟩ := nat_of hx
  obtain ⟨m, rfl, hm'⟩ := nat_of hm
  have h3 : o &&& (x ||| (255 ^^^ m)) < 256 := Nat.lt_of_le_of_lt Nat.and_le_left ho'
  rw [fb_nat o x m ho' hx' hm', u8_andNot_nat _ o h3 ho', compl_and ho']
  rfl
theorem or_up {o m : Int} (ho : 0 ≤ o ∧ o ≤ 255) (hm : 0 ≤ m ∧ m ≤ 255) : bits .andNot .u8 o (bits .or .u8 o m) = 0 := by
  obtain ⟨o, rfl, ho'⟩ := nat_of ho
  obtain ⟨m, rfl, hm'⟩ := nat_of hm
  rw [u8_or_nat o m ho' hm', u8_andNot_nat o _ ho' (Nat.or_lt_two_pow (n := 8) ho' hm'), or_compl ho' hm']
  rfl
theorem ones_up {o : Int} (ho : 0 ≤ o ∧ o ≤ 255) : bits .andNot .u8 o 255 = 0 := by
  obtain ⟨o, rfl, ho'⟩ := nat_of ho
  rw [show (255 : Int) = ((255 : Nat) : Int) from rfl, u8_andNot_nat o 255 ho' (by omega)]
  simp
theorem fallL_at (old want mask : List Int) (fill : Int) : ∀ (n j : Nat), j < n → (fallL old want mask fill n).getD j 0 = fb (old.getD j 0) (want.getD j 0) (mk mask fill j)
  | 0, j, h => by omega
  | n + 1, j, h => by
    rw [fallL, List.getD_eq_getElem?_getD]
    by_cases e : j < n
    · rw [List.getElem?_append_left (by rw [fallL_length]; exact e), ← List.getD_eq_getElem?_getD]
      exact fallL_at old want mask fill n j e
    · have e2 : j = n := by omega
      subst e2
      rw [List.getElem?_append_right (by rw [fallL_length]; omega), fallL_length]
      simp
theorem riseL_at (old mask : List Int) (fill : Int) : ∀ (n j : Nat), j < n → (riseL old mask fill n).getD j 0 = bits .or .u8 (old.getD j 0) (mk mask fill j)
  | 0, j, h => by omega
  | n + 1, j, h => by
    rw [riseL, List.getD_eq_getElem?_getD]
    by_cases e : j < n
    · rw [List.getElem?_append_left (by rw [riseL_length]; exact e), ← List.getD_eq_getElem?_getD]
      exact riseL_at old mask fill n j e
    · have e2 : j = n := by omega
      subst e2
      rw [List.getElem?_append_right (by rw [riseL_length]; omega), riseL_length]
      simp
/-- What a chip in memory has: bytes. -/
structure POk (C : Ch) : Prop where
  qm : ∀ f ∈ C.q, Byt f.m ∧ 0 ≤ f.f ∧ f.f ≤ 255
  pg : ∀ (i k : Nat) b g, C.bl[i]? = some b → b.ps[k]? = some g → g.bits.length = pgB C.S ∧ Byt g.bits
theorem ChipAt.pok {w : World} {p : Nat} {F : Nat → Prop} {C : Ch} (h : ChipAt w p F C) : POk C := by
  obtain ⟨x, bs, fe, h⟩ := h
  refine ⟨?_, ?_⟩
  · obtain ⟨cap, s, r, vs, _, hq⟩ := h.q.ex
    intro f hf
    cases hC : C.q with
    | nil => rw [hC] at hf; cases hf
    | cons f0 rest =>
      rw [hC] at hf hq
      obtain ⟨h1, h2, h3, h4, h5, h6, h7, h8, h9⟩ := hq
      rcases List.mem_cons.1 hf with e | hf
      · rw [e]; exact ⟨h6.rd.2.1, h5⟩
      · obtain ⟨n, hn⟩ := List.mem_iff_getElem?.1 hf
        have hl : n < rest.length := (List.getElem?_eq_some_iff.1 hn).1
        have h10 := h9 n _ f (List.getElem?_eq_getElem (by omega)) hn
        obtain ⟨a, l, c, _, hm, _⟩ := h10.ex
        exact ⟨hm.rd.2.1, h10.fill⟩
  · intro i k b g hb hg
    rw [← h.bl, List.getElem?_map] at hb
    obtain ⟨c, hc, rfl⟩ := Option.map_eq_some_iff.1 hb
    have hg' : (c.ps.map Pc.v)[k]? = some g := hg
    rw [List.getElem?_map] at hg'
    obtain ⟨q, hq, rfl⟩ := Option.map_eq_some_iff.1 hg'
    have h9 := (h.bok c (List.mem_of_getElem? hc)).pg q (List.mem_of_getElem? hq)
    exact ⟨h9.len, h9.byt⟩
theorem flipsL_byt : ∀ (l : List Nat) (xs : List Int), Byt xs → Byt (flipsL xs l)
  | [], xs, h => h
  | j :: l, xs, h => flipsL_byt l (flipL xs j) (flipL_range xs j h)
theorem readL_byt {C : Ch} (h : POk C) (i k : Nat) : ∀ z ∈ readL C i k, 0 ≤ z ∧ z ≤ 255 := by
  unfold readL
  split
  · intro z hz; cases hz
  · rename_i b hb
    split
    · intro z hz; cases hz
    · rename_i q hq
      exact flipsL_byt _ _ (h.pg i k b q hb hq).2
theorem POk.take {C : Ch} (h : POk C) (n : Int) : Byt (takeF n C.q).m ∧ 0 ≤ (takeF n C.q).f ∧ (takeF n C.q).f ≤ 255 := by
  cases hq : C.q with
  | nil => exact ⟨(fun z hz => by cases hz), (by show (0 : Int) ≤ 255; decide), (by show (255 : Int) ≤ 255; decide)⟩
  | cons f r =>
    by_cases e : f.a = n
    · rw [show takeF n (f :: r) = f from if_pos e]; exact h.qm f (by rw [hq]; simp)
    · rw [show takeF n (f :: r) = Ft.no from if_neg e]; exact ⟨(fun z hz => by cases hz), by decide, by decide⟩
/-- What stands of a chip between two calls; fp: the blocks in which a bit was flipped. -/
structure OInv (C : Ch) (fp : Nat → Bool) : Prop where
  q : ∀ f ∈ C.q, f.k = 1 ∨ f.k = 2
  nx : ∀ (i k : Nat) b g, C.bl[i]? = some b → b.ps[k]? = some g → (g.h = true ∨ C.fl i k ≠ []) → (k : Int) < b.nx
  fp : ∀ i k : Nat, k < C.P → fp i = false → C.fl i k = []
def stepP (C : Ch) (o : Opc) (fp : Nat → Bool) : Nat → Bool := fun i =>
  if o.k = 4 ∧ (doesC C o).1 = 0 ∧ (i : Int) = o.b then true
  else if o.k = 2 ∧ triedE (doesC C o).1 (doesC C o).2.dark = true ∧ (i : Int) = o.b then false else fp i
/-- May a page go from xs to ys at a call? -/
def GoA (o : Opc) (done : Bool) (i k : Int) : Prop := done = false ∨ 4 < o.k ∨ o.k < 1 ∨ o.k = 3 ∨ (o.k = 2 ∧ o.b ≠ i) ∨ (o.k ≠ 2 ∧ ¬ (o.b = i ∧ o.p = k))
structure Goes (o : Opc) (done : Bool) (i k : Int) (xs ys : List Int) (fl : Bool) : Prop where
  same : GoA o done i k → ys = xs
  one : ¬ GoA o done i k → o.k = 1 → ∀ j, j < xs.length → bits .andNot .u8 (ys.getD j 0) (xs.getD j 0) = 0
  two : ¬ GoA o done i k → o.k = 2 → fl = false → ∀ j, j < xs.length → bits .andNot .u8 (xs.getD j 0) (ys.getD j 0) = 0
  four : ¬ GoA o done i k → o.k = 4 → ∃ j : Nat, o.bit = j ∧ j < 8 * xs.length ∧ ys = flipL xs j
theorem Goes.eq {o : Opc} {done : Bool} {i k : Int} {xs ys : List Int} {fl : Bool} (h : ys = xs) (hg : GoA o done i k) : Goes o done i k xs ys fl :=
  ⟨fun _ => h, fun h9 => absurd hg h9, fun h9 => absurd hg h9, fun h9 => absurd hg h9⟩
theorem readL_same {C D : Ch} (e1 : D.bl = C.bl) (e2 : D.fl = C.fl) (i k : Nat) : readL D i k = readL C i k := by
  unfold readL; rw [e1, e2]
theorem prog_cases2 (C : Ch) (hd : C.dark = false) (pb pp : Int) (n1 n2 : Nat) (want : List Int) :
    (∃ e, (e = 41 ∨ e = 42 ∨ e = 43) ∧ (ProgramC C pb pp n1 n2 want).1 = e ∧ Idle C (ProgramC C pb pp n1 n2 want)) ∨
    (∃ (i k : Nat) (b : Bl) (g : Pg), pb = i ∧ pp = k ∧ C.bl[i]? = some b ∧ b.ps[k]? = some g ∧ b.nx ≤ (k : Int) ∧ n1 = 256 * C.S ∧ n2 = 54 + 3 * C.S ∧ ProgramC C pb pp n1 n2 want = noteC 1 pb pp (endE (takeF C.cnt C.q).k, progN C pb pp b g want)) := by
  unfold ProgramC
  rw [if_neg (by rw [hd]; decide)]
  by_cases hn : n1 ≠ 256 * C.S ∨ n2 ≠ 54 + 3 * C.S
  · rw [if_pos hn]; exact Or.inl ⟨42, by omega, rfl, ⟨rfl, rfl, rfl, rfl, rfl⟩⟩
  rw [if_neg hn]
  unfold progC
  cases hp : hasP C.B C.P pb pp with
  | false => exact Or.inl ⟨41, by omega, rfl, ⟨rfl, rfl, rfl, rfl, rfl⟩⟩
  | true =>
    rw [if_neg (by decide)]
    obtain ⟨i, k, rfl, rfl, hi, hk⟩ := hasP_nat hp
    simp only [Int.toNat_natCast]
    cases hb : C.bl[i]? with
    | none => exact Or.inl ⟨41, by omega, rfl, ⟨rfl, rfl, rfl, rfl, rfl⟩⟩
    | some b =>
      simp only []
      by_cases hm : (b.m || !b.r || decide ((k : Int) < b.nx)) = true
      · rw [if_pos hm]; exact Or.inl ⟨43, by omega, rfl, ⟨rfl, rfl, rfl, rfl, rfl⟩⟩
      rw [if_neg hm]
      cases hq : b.ps[k]? with
      | none => exact Or.inl ⟨41, by omega, rfl, ⟨rfl, rfl, rfl, rfl, rfl⟩⟩
      | some g =>
        have hnx : b.nx ≤ (k : Int) := by
          simp only [Bool.or_eq_true, not_or, decide_eq_true_eq] at hm
          have := hm.2
          omega
        exact Or.inr ⟨i, k, b, g, rfl, rfl, hb, hq, hnx, by omega, by omega, rfl⟩
theorem erJ_at (L : Nat) (k : Int) (m : List Int) (f : Int) (ps : List Pg) : ∀ (P n : Nat), n < P → n < ps.length → (erJ L k m f ps P)[n]? = some ⟨rsP L k m f n ((ps.getD n ⟨[], false⟩).bits), false⟩
  | 0, n, h, _ => by omega
  | P + 1, n, h, hl => by
    rw [erJ]
    by_cases e : P = n
    · subst e
      rw [List.getElem?_set_self (by rw [erJ_len]; exact hl)]
    · rw [List.getElem?_set_ne e]
      exact erJ_at L k m f ps P n (by omega) hl
theorem flJ_ne (fl : Int → Int → List Nat) (bb : Int) : ∀ (P : Nat) (b p : Int), b ≠ bb → flJ fl bb P b p = fl b p
  | 0, b, p, _ => rfl
  | P + 1, b, p, h => by
    unfold flJ
    rw [if_neg (fun h9 => h h9.1)]
    exact flJ_ne fl bb P b p h
section
variable {C : Ch} {fp : Nat → Bool} {o : Opc}
theorem one_prog (h : OInv C fp) (hp : POk C) (hok : C.Ok) (hd : C.dark = false) (h1 : o.k = 1) (hbd : Byt o.d) (hbz : Byt o.z) : OInv (doesC C o).2 (stepP C o fp) ∧ ∀ i k : Nat, i < C.B → k < C.P → Goes o (triedE (doesC C o).1 (doesC C o).2.dark) i k (readL C i k) (readL (doesC C o).2 i k) (fp i) := by
  have hdc : doesC C o = ProgramC C o.b o.p (o.n1 C.S) (o.n2 C.S) (o.want C.S) := if_pos h1
  have hsp : stepP C o fp = fp := by
    funext i
    unfold stepP
    rw [if_neg (fun h9 => by rw [h1] at h9; exact absurd h9.1 (by decide)), if_neg (fun h9 => by rw [h1] at h9; exact absurd h9.1 (by decide))]
  rw [hsp]
  rcases prog_cases2 C hd o.b o.p (o.n1 C.S) (o.n2 C.S) (o.want C.S) with ⟨e, he, h2, h3⟩ | ⟨i, k, b, g, e1, e2, hb, hg, hnx, l1, l2, he⟩
  · have ht : triedE (doesC C o).1 (doesC C o).2.dark = false := by rw [hdc]; exact tried_no (by rw [h2]; omega)
    have hP : (doesC C o).2.P = C.P := by rw [hdc]; unfold ProgramC; split <;> (try rfl); split <;> (try rfl); unfold progC; split <;> (try rfl); split <;> (try rfl); split <;> (try rfl); split <;> rfl
    rw [ht]
    refine ⟨⟨by rw [hdc, h3.q]; exact h.q, by rw [hdc, h3.bl, h3.fl]; exact h.nx, by rw [hP, hdc, h3.fl]; exact h.fp⟩, fun i k _ _ => Goes.eq ?_ (Or.inl rfl)⟩
    rw [hdc]
    exact readL_same h3.bl h3.fl i k
  · have ht := takeF_k h.q (C.cnt : Int)
    have htr : triedE (doesC C o).1 (doesC C o).2.dark = true := by rw [hdc, he]; exact taken_tried ht
    have hbl : (doesC C o).2.bl = C.bl.set i { b with nx := o.p + 1, ps := b.ps.set k ⟨fallL g.bits (o.want C.S) (takeF C.cnt C.q).m (takeF C.cnt C.q).f (pgB C.S), (takeF C.cnt C.q).k == 0⟩ } := by
      rw [hdc, he, e1, e2]
      simp [noteC, progN]
    have hfl : (doesC C o).2.fl = C.fl := by rw [hdc, he]; rfl
    have hq : (doesC C o).2.q = takeR C.cnt C.q := by rw [hdc, he]; rfl
    have hP : (doesC C o).2.P = C.P := by rw [hdc, he]; rfl
    have hkl : k < b.ps.length := (List.getElem?_eq_some_iff.1 hg).1
    have hil : i < C.bl.length := (List.getElem?_eq_some_iff.1 hb).1
    have hempty : C.fl i k = [] := by
      rcases Classical.em (C.fl i k = []) with h9 | h9
      · exact h9
      · have := h.nx i k b g hb hg (Or.inr h9); omega
    rw [htr]
    refine ⟨⟨by rw [hq]; exact takeR_k h.q _, ?_, by rw [hP, hfl]; exact h.fp⟩, ?_⟩
    · intro i' k' b' g' hb' hg' hh
      rw [hfl] at hh
      rw [hbl] at hb'
      rcases set_pages hb hb' with ⟨rfl, rfl⟩ | ⟨hne, hb2⟩
      · simp only at hg' ⊢
        by_cases e : k = k'
        · subst e; omega
        · rw [List.getElem?_set_ne e] at hg'
          have := h.nx i' k' b g' hb hg' hh
          omega
      · exact h.nx i' k' b' g' hb2 hg' hh
    · intro i' k' hi' hk'
      by_cases hh : i' = i ∧ k' = k
      · obtain ⟨rfl, rfl⟩ := hh
        have hng : ¬ GoA o true (i' : Int) (k' : Int) := by
          unfold GoA
          rw [h1]
          rintro (h9 | h9 | h9 | h9 | h9 | h9)
          · cases h9
          · omega
          · omega
          · omega
          · exact absurd h9.1 (by decide)
          · exact h9.2 ⟨e1, e2⟩
        have r1 : readL C i' k' = g.bits := by rw [readL_of hb hg, hempty]; rfl
        have r2 : readL (doesC C o).2 i' k' = fallL g.bits (o.want C.S) (takeF C.cnt C.q).m (takeF C.cnt C.q).f (pgB C.S) := by
          rw [readL_of (b := { b with nx := o.p + 1, ps := b.ps.set k' ⟨fallL g.bits (o.want C.S) (takeF C.cnt C.q).m (takeF C.cnt C.q).f (pgB C.S), (takeF C.cnt C.q).k == 0⟩ }) (q := ⟨fallL g.bits (o.want C.S) (takeF C.cnt C.q).m (takeF C.cnt C.q).f (pgB C.S), (takeF C.cnt C.q).k == 0⟩) (by rw [hbl, List.getElem?_set_self hil]) (by simp only; rw [List.getElem?_set_self hkl]), hfl, hempty]
          rfl
        have hgl := hp.pg i' k' b g hb hg
        have hm := hp.take (C.cnt : Int)
        rw [r1, r2]
        refine ⟨fun h9 => absurd h9 hng, fun _ _ j hj => ?_, fun _ h9 => (by rw [h1] at h9; exact absurd h9 (by decide)), fun _ h9 => (by rw [h1] at h9; exact absurd h9 (by decide))⟩
        rw [fallL_at _ _ _ _ _ j (by omega)]
        exact fb_down (getD_range hgl.2 _) (getD_range (want_byt hbd hbz _) _) (mk_range hm.1 hm.2 j)
      · refine Goes.eq ?_ (Or.inr (Or.inr (Or.inr (Or.inr (Or.inr ⟨by rw [h1]; decide, fun h9 => hh ⟨by omega, by omega⟩⟩)))))
        unfold readL
        rw [hbl, hfl]
        by_cases e : i' = i
        · subst e
          rw [List.getElem?_set_self hil, hb]
          simp only
          rw [List.getElem?_set_ne (fun h9 => hh ⟨rfl, h9.symm⟩)]
        · rw [List.getElem?_set_ne (fun h9 => e h9.symm)]
theorem one_erase (h : OInv C fp) (hp : POk C) (hok : C.Ok) (hd : C.dark = false) (h2 : o.k = 2) : OInv (doesC C o).2 (stepP C o fp) ∧ ∀ i k : Nat, i < C.B → k < C.P → Goes o (triedE (doesC C o).1 (doesC C o).2.dark) i k (readL C i k) (readL (doesC C o).2 i k) (fp i) := by
  have hdc : doesC C o = EraseC C o.b := by unfold doesC; rw [if_neg (by rw [h2]; decide), if_pos h2]
  rcases erase_cases C hd o.b with ⟨e, he, h3, h4⟩ | ⟨i, b, e1, hb, he⟩
  · have ht : triedE (doesC C o).1 (doesC C o).2.dark = false := by rw [hdc]; exact tried_no (by rw [h3]; omega)
    have hP : (doesC C o).2.P = C.P := by rw [hdc]; unfold EraseC; split <;> (try rfl); unfold eraseC; split <;> (try rfl); split <;> (try rfl); split <;> rfl
    have hsp : stepP C o fp = fp := by
      funext i
      unfold stepP
      rw [if_neg (fun h9 => by rw [h2] at h9; exact absurd h9.1 (by decide)), if_neg (fun h9 => by rw [ht] at h9; exact absurd h9.2.1 (by decide))]
    rw [ht, hsp]
    refine ⟨⟨by rw [hdc, h4.q]; exact h.q, by rw [hdc, h4.bl, h4.fl]; exact h.nx, by rw [hP, hdc, h4.fl]; exact h.fp⟩, fun i k _ _ => Goes.eq ?_ (Or.inl rfl)⟩
    rw [hdc]
    exact readL_same h4.bl h4.fl i k
  · have ht := takeF_k h.q (C.cnt : Int)
    have htr : triedE (doesC C o).1 (doesC C o).2.dark = true := by rw [hdc, he]; exact taken_tried ht
    have hbl : (doesC C o).2.bl = C.bl.set i { b with r := (takeF C.cnt C.q).k == 0, nx := 0, ps := erJ (pgB C.S) (takeF C.cnt C.q).k (takeF C.cnt C.q).m (takeF C.cnt C.q).f b.ps C.P } := by
      rw [hdc, he, e1]
      simp [noteC, eraseN]
    have hfl : (doesC C o).2.fl = flJ C.fl o.b C.P := by rw [hdc, he]; rfl
    have hq : (doesC C o).2.q = takeR C.cnt C.q := by rw [hdc, he]; rfl
    have hP : (doesC C o).2.P = C.P := by rw [hdc, he]; rfl
    have hPl : b.ps.length = C.P := hok.ps b (List.mem_of_getElem? hb)
    have hil : i < C.bl.length := (List.getElem?_eq_some_iff.1 hb).1
    have hsp : ∀ j : Nat, stepP C o fp j = if j = i then false else fp j := by
      intro j
      unfold stepP
      rw [if_neg (fun h9 => by rw [h2] at h9; exact absurd h9.1 (by decide))]
      by_cases e : j = i
      · rw [if_pos e, if_pos ⟨h2, htr, by omega⟩]
      · rw [if_neg e, if_neg (fun h9 => e (by omega))]
    rw [htr]
    refine ⟨⟨by rw [hq]; exact takeR_k h.q _, ?_, ?_⟩, ?_⟩
    · intro i' k' b' g' hb' hg' hh
      rw [hfl] at hh
      rw [hbl] at hb'
      rcases set_pages hb hb' with ⟨rfl, rfl⟩ | ⟨hne, hb2⟩
      · simp only at hg'
        have hkP : k' < C.P := by
          have := (List.getElem?_eq_some_iff.1 hg').1
          rw [erJ_len, hPl] at this
          exact this
        rw [erJ_at _ _ _ _ _ _ _ hkP (by omega)] at hg'
        cases hg'
        rw [e1, flJ_in C.fl _ C.P k' hkP] at hh
        rcases hh with h9 | h9
        · cases h9
        · exact absurd rfl h9
      · rw [flJ_ne _ _ _ _ _ (by omega)] at hh
        exact h.nx i' k' b' g' hb2 hg' hh
    · intro i' k' hk' hs
      rw [hP] at hk'
      rw [hsp] at hs
      rw [hfl]
      by_cases e : i' = i
      · rw [e, e1]; exact flJ_in C.fl _ C.P k' hk'
      · rw [if_neg e] at hs
        rw [flJ_ne _ _ _ _ _ (by omega)]
        exact h.fp i' k' hk' hs
    · intro i' k' hi' hk'
      by_cases e : i' = i
      · subst e
        have hng : ¬ GoA o true (i' : Int) (k' : Int) := by
          unfold GoA
          rw [h2]
          rintro (h9 | h9 | h9 | h9 | h9 | h9)
          · cases h9
          · omega
          · omega
          · omega
          · exact h9.2 e1
          · exact h9.1 rfl
        refine ⟨fun h9 => absurd h9 hng, fun _ h9 => (by rw [h2] at h9; exact absurd h9 (by decide)), fun _ _ hf j hj => ?_, fun _ h9 => (by rw [h2] at h9; exact absurd h9 (by decide))⟩
        obtain ⟨g, hg⟩ : ∃ g, b.ps[k']? = some g := ⟨_, List.getElem?_eq_getElem (by omega)⟩
        have r1 : readL C i' k' = g.bits := by rw [readL_of hb hg, h.fp i' k' hk' hf]; rfl
        have hgd : b.ps.getD k' ⟨[], false⟩ = g := by rw [List.getD_eq_getElem?_getD, hg]; rfl
        have r2 : readL (doesC C o).2 i' k' = rsP (pgB C.S) (takeF C.cnt C.q).k (takeF C.cnt C.q).m (takeF C.cnt C.q).f k' g.bits := by
          rw [readL_of (b := { b with r := (takeF C.cnt C.q).k == 0, nx := 0, ps := erJ (pgB C.S) (takeF C.cnt C.q).k (takeF C.cnt C.q).m (takeF C.cnt C.q).f b.ps C.P }) (q := ⟨rsP (pgB C.S) (takeF C.cnt C.q).k (takeF C.cnt C.q).m (takeF C.cnt C.q).f k' g.bits, false⟩) (by rw [hbl, List.getElem?_set_self hil]) (by simp only; rw [erJ_at _ _ _ _ _ _ _ hk' (by omega), hgd]), hfl, e1, flJ_in C.fl _ C.P k' hk']
          rfl
        have hgl := hp.pg i' k' b g hb hg
        have hm := hp.take (C.cnt : Int)
        rw [r1] at hj ⊢
        rw [r2]
        unfold rsP
        split
        · rw [show (List.replicate (pgB C.S) (255 : Int)).getD j 0 = 255 by rw [List.getD_eq_getElem?_getD, List.getElem?_replicate, if_pos (by omega)]; rfl]
          exact ones_up (getD_range hgl.2 _)
        · rw [riseL_at _ _ _ _ j (by omega)]
          exact or_up (getD_range hgl.2 _) (mk_range (fun y hy => hm.1 y (List.mem_of_mem_drop hy)) hm.2 j)
      · refine Goes.eq ?_ (Or.inr (Or.inr (Or.inr (Or.inr (Or.inl ⟨h2, fun h9 => e (by omega)⟩)))))
        unfold readL
        rw [hbl, hfl, List.getElem?_set_ne (fun h9 => e h9.symm)]
        rw [flJ_ne _ _ _ _ _ (show (i' : Int) ≠ o.b by omega)]
theorem one_flip (h : OInv C fp) (hp : POk C) (hok : C.Ok) (h4 : o.k = 4) : OInv (doesC C o).2 (stepP C o fp) ∧ ∀ i k : Nat, i < C.B → k < C.P → Goes o (triedE (doesC C o).1 (doesC C o).2.dark) i k (readL C i k) (readL (doesC C o).2 i k) (fp i) := by
  have hdc : doesC C o = FlipC C o.b o.p o.bit := by unfold doesC; rw [if_neg (by rw [h4]; decide), if_neg (by rw [h4]; decide), if_neg (by rw [h4]; decide), if_pos h4]
  have bad : ∀ e : Int, (e = 41 ∨ e = 46) → doesC C o = (e, C) → OInv (doesC C o).2 (stepP C o fp) ∧ ∀ i k : Nat, i < C.B → k < C.P → Goes o (triedE (doesC C o).1 (doesC C o).2.dark) i k (readL C i k) (readL (doesC C o).2 i k) (fp i) := by
    intro e he hE
    have hsp : stepP C o fp = fp := by
      funext i
      unfold stepP
      rw [if_neg (fun h9 => by rw [hE] at h9; have := h9.2.1; simp only at this; omega), if_neg (fun h9 => by rw [h4] at h9; exact absurd h9.1 (by decide))]
    rw [hsp, hE]
    exact ⟨h, fun i k _ _ => Goes.eq rfl (Or.inl (tried_no (by simp only; omega)))⟩
  rw [hdc] at bad ⊢
  unfold FlipC at bad ⊢
  cases hpp : hasP C.B C.P o.b o.p with
  | false => rw [hpp] at bad; exact bad 41 (Or.inl rfl) rfl
  | true =>
    rw [hpp, if_neg (by decide)] at bad
    rw [if_neg (by decide)]
    obtain ⟨i, k, e1, e2, hi, hk⟩ := hasP_nat hpp
    have et1 : o.b.toNat = i := by omega
    have et2 : o.p.toNat = k := by omega
    rw [et1] at bad ⊢
    cases hb : C.bl[i]? with
    | none => rw [hb] at bad; exact bad 41 (Or.inl rfl) rfl
    | some b =>
      rw [hb] at bad
      simp only [et2] at bad ⊢
      cases hq : b.ps[k]? with
      | none => rw [hq] at bad; exact bad 41 (Or.inl rfl) rfl
      | some g =>
        rw [hq] at bad
        simp only at bad ⊢
        by_cases hm : (decide (o.bit < 0) || decide (8 * (pgB C.S : Int) ≤ o.bit) || !g.h || flHas C o.b o.p o.bit.toNat) = true
        · rw [if_pos hm] at bad ⊢; exact bad 46 (Or.inr rfl) rfl
        rw [if_neg hm]
        have hE : doesC C o = (0, { C with fl := flS C.fl o.b o.p o.bit.toNat }) := by
          rw [hdc]
          unfold FlipC
          rw [hpp, if_neg (by decide), et1, hb]
          simp only [et2]
          rw [hq]
          simp only
          rw [if_neg hm]
        simp only [Bool.or_eq_true, not_or, Bool.not_eq_true, decide_eq_false_iff_not] at hm
        obtain ⟨⟨⟨hb0, hb1⟩, hgh⟩, hfh⟩ := hm
        have hgh' : g.h = true := by cases hx : g.h <;> simp_all
        have hsp : ∀ j : Nat, stepP C o fp j = if j = i then true else fp j := by
          intro j
          unfold stepP
          by_cases e : j = i
          · rw [if_pos e, if_pos ⟨h4, by rw [hE], by omega⟩]
          · rw [if_neg e, if_neg (fun h9 => e (by omega)), if_neg (fun h9 => by rw [h4] at h9; exact absurd h9.1 (by decide))]
        refine ⟨⟨h.q, ?_, ?_⟩, ?_⟩
        · intro i' k' b' g' hb' hg' hh
          by_cases e : i' = i ∧ k' = k
          · obtain ⟨rfl, rfl⟩ := e
            have hb2 : C.bl[i']? = some b' := hb'
            rw [hb] at hb2
            cases hb2
            rw [hq] at hg'
            cases hg'
            exact h.nx i' k' b g hb hq (Or.inl hgh')
          · refine h.nx i' k' b' g' hb' hg' (hh.imp (fun h => h) (fun h9 => ?_))
            have e9 : flS C.fl o.b o.p o.bit.toNat (i' : Int) (k' : Int) = C.fl i' k' := if_neg (fun h8 => e ⟨by omega, by omega⟩)
            exact fun h8 => h9 (e9.trans h8)
        · intro i' k' hk' hs
          rw [hsp] at hs
          by_cases e : i' = i
          · rw [if_pos e] at hs; cases hs
          · rw [if_neg e] at hs
            show flS C.fl o.b o.p o.bit.toNat (i' : Int) (k' : Int) = []
            rw [show flS C.fl o.b o.p o.bit.toNat (i' : Int) (k' : Int) = C.fl i' k' from if_neg (fun h8 => e (by omega))]
            exact h.fp i' k' hk' hs
        · intro i' k' hi' hk'
          by_cases e : i' = i ∧ k' = k
          · obtain ⟨rfl, rfl⟩ := e
            have hng : ¬ GoA o (triedE 0 C.dark) (i' : Int) (k' : Int) := by
              unfold GoA
              rw [h4]
              rintro (h9 | h9 | h9 | h9 | h9 | h9)
              · cases h9
              · omega
              · omega
              · omega
              · exact absurd h9.1 (by decide)
              · exact h9.2 ⟨e1, e2⟩
            refine ⟨fun h9 => absurd h9 hng, fun _ h9 => (by rw [h4] at h9; exact absurd h9 (by decide)), fun _ h9 => (by rw [h4] at h9; exact absurd h9 (by decide)), fun _ _ => ⟨o.bit.toNat, by omega, ?_, ?_⟩⟩
            · have hgl := hp.pg i' k' b g hb hq
              rw [readL_of hb hq]
              rw [flipsL_len, hgl.1]
              omega
            · rw [readL_of hb hq]
              rw [readL_of (C := { C with fl := flS C.fl o.b o.p o.bit.toNat }) (b := b) (q := g) hb hq]
              show flipsL g.bits (flS C.fl o.b o.p o.bit.toNat (i' : Int) (k' : Int)) = _
              rw [show flS C.fl o.b o.p o.bit.toNat (i' : Int) (k' : Int) = C.fl o.b o.p ++ [o.bit.toNat] from if_pos ⟨e1.symm, e2.symm⟩, flipsL_snoc, e1, e2]
          · refine Goes.eq ?_ (Or.inr (Or.inr (Or.inr (Or.inr (Or.inr ⟨by rw [h4]; decide, fun h9 => e ⟨by omega, by omega⟩⟩)))))
            unfold readL
            simp only
            rw [show flS C.fl o.b o.p o.bit.toNat (i' : Int) (k' : Int) = C.fl i' k' from if_neg (fun h8 => e ⟨by omega, by omega⟩)]
theorem one_step (h : OInv C fp) (hp : POk C) (hok : C.Ok) (hd : C.dark = false) (hbd : Byt o.d) (hbz : Byt o.z) : OInv { (doesC C o).2 with dark := false } (stepP C o fp) ∧ ∀ i k : Nat, i < C.B → k < C.P → Goes o (triedE (doesC C o).1 (doesC C o).2.dark) i k (readL C i k) (readL (doesC C o).2 i k) (fp i) := by
  have key : OInv (doesC C o).2 (stepP C o fp) ∧ ∀ i k : Nat, i < C.B → k < C.P → Goes o (triedE (doesC C o).1 (doesC C o).2.dark) i k (readL C i k) (readL (doesC C o).2 i k) (fp i) := by
    by_cases h1 : o.k = 1
    · exact one_prog h hp hok hd h1 hbd hbz
    by_cases h2 : o.k = 2
    · exact one_erase h hp hok hd h2
    by_cases h4 : o.k = 4
    · exact one_flip h hp hok h4
    have hsp : stepP C o fp = fp := by
      funext i
      unfold stepP
      rw [if_neg (fun h9 => h4 h9.1), if_neg (fun h9 => h2 h9.1)]
    have hga : ∀ (d : Bool) (i k : Int), GoA o d i k := fun d i k => by unfold GoA; omega
    rw [hsp]
    unfold doesC
    rw [if_neg h1, if_neg h2]
    by_cases h3 : o.k = 3
    · rw [if_pos h3]
      unfold MarkC
      rw [if_neg (by rw [hd]; decide)]
      unfold markC
      split
      · exact ⟨⟨h.q, h.nx, h.fp⟩, fun i k _ _ => Goes.eq rfl (hga _ _ _)⟩
      split
      · exact ⟨⟨h.q, h.nx, h.fp⟩, fun i k _ _ => Goes.eq rfl (hga _ _ _)⟩
      · rename_i b hb
        refine ⟨⟨takeR_k h.q _, ?_, h.fp⟩, fun i k _ _ => Goes.eq ?_ (hga _ _ _)⟩
        · intro i' k' b' g' hb' hg' hh
          rcases set_pages hb hb' with ⟨rfl, rfl⟩ | ⟨hne, hb2⟩
          · exact h.nx _ k' b g' hb hg' hh
          · exact h.nx i' k' b' g' hb2 hg' hh
        · unfold readL
          simp only [noteC]
          by_cases e : o.b.toNat = i
          · subst e
            rw [List.getElem?_set_self (List.getElem?_eq_some_iff.1 hb).1, hb]
          · rw [List.getElem?_set_ne e]
    · rw [if_neg h3, if_neg h4]
      split
      · exact ⟨⟨h.q, h.nx, h.fp⟩, fun i k _ _ => Goes.eq rfl (hga _ _ _)⟩
      · exact ⟨h, fun i k _ _ => Goes.eq rfl (hga _ _ _)⟩
  exact ⟨⟨key.1.q, key.1.nx, key.1.fp⟩, key.2⟩
end
end Go.Proofs.Ytadlkikjfonkgaa
namespace Go.Proofs.Ytadlkikjfonkgaa
open Go.RowKit Go.Conc
set_option linter.unusedVariables false

/-- The loops of a code, from the front. -/
def loopsOf : Code → List Code
  | .loop c => c :: loopsOf c
  | .seq a b => loopsOf a ++ loopsOf b
  | .block _ c => loopsOf c
  | .scope c => loopsOf c
  | .cond _ a b => loopsOf a ++ loopsOf b
  | _ => []
theorem wrap_i64_div {m : Nat} (h : m < 32) : IntKind.i64.wrap ((m : Int) / 4) = (m : Int) / 4 := by
  have h1 : ∀ n : Nat, n < 32 → IntKind.i64.wrap ((n : Int) / 4) = (n : Int) / 4 := by decide +kernel
  exact h1 m h
end Go.Proofs.Ytadlkikjfonkgaa
