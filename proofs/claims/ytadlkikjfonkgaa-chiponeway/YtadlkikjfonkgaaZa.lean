/-
  SEAT Ytadlkikjfonkgaa: Ha, Hb, Fa.
-/
import Derived.Test.YtadlkikjfonkgaaLd
namespace Go.Proofs.Ytadlkikjfonkgaa
open Go.RowKit Go.Conc
set_option linter.unusedVariables false

def zer : List Int := List.replicate 256 0 ++ List.replicate 57 0
def hc0 : Ch := newC 8 4 1 [2] []
def hc1 : Ch := (EraseC hc0 2).2
def hc2 : Ch := (MarkC hc1 8).2
def hc3 : Ch := (ProgramC hc2 0 1 256 57 zer).2
def hc4 : Ch := (ProgramC hc3 0 0 256 57 zer).2
def hc5 : Ch := (FlipC hc4 0 1 5).2
def hc6 : Ch := (FlipC hc5 0 1 2047).2
def hc7 : Ch := (FlipC hc6 0 1 2048).2
def hc8 : Ch := (FlipC hc7 0 1 2500).2
def hc9 : Ch := (FlipC hc8 0 0 1).2
def hc10 : Ch := (EraseC hc9 0).2
theorem hm0 : MarkedE hc0 2 = 0 ∧ MarkedB hc0 2 = true := ⟨by kernel_rfl, by kernel_rfl⟩
theorem he1 : (EraseC hc0 2).1 = 43 := by kernel_rfl
theorem he2 : (MarkC hc1 8).1 = 41 := by kernel_rfl
theorem he3 : (ProgramC hc2 0 1 256 57 zer).1 = 0 := by kernel_rfl
theorem he4 : (ProgramC hc3 0 0 256 57 zer).1 = 43 := by kernel_rfl
theorem hr4 : ReadE hc4 0 1 = 0 ∧ readL hc4 0 1 = zer := ⟨by kernel_rfl, by kernel_rfl⟩
theorem he5 : (FlipC hc4 0 1 5).1 = 0 := by kernel_rfl
theorem he6 : (FlipC hc5 0 1 2047).1 = 46 := by kernel_rfl
theorem he7 : (FlipC hc6 0 1 2048).1 = 0 := by kernel_rfl
theorem he8 : (FlipC hc7 0 1 2500).1 = 46 := by kernel_rfl
theorem he9 : (FlipC hc8 0 0 1).1 = 46 := by kernel_rfl
theorem hr9 : ReadE hc9 0 1 = 0 ∧ readL hc9 0 1 = (32 :: List.replicate 255 0) ++ (1 :: List.replicate 56 0) := ⟨by kernel_rfl, by kernel_rfl⟩
theorem he10 : (EraseC hc9 0).1 = 0 := by kernel_rfl
theorem hr10 : ReadE hc10 0 1 = 0 ∧ readL hc10 0 1 = List.replicate 256 255 ++ List.replicate 57 255 := ⟨by kernel_rfl, by kernel_rfl⟩
theorem hn10 : hc10.cnt = 2 ∧ hc10.tr.length = 5 := ⟨by kernel_rfl, by kernel_rfl⟩
theorem htl : hc0.tr.length ≤ 5 ∧ hc1.tr.length ≤ 5 ∧ hc2.tr.length ≤ 5 ∧ hc3.tr.length ≤ 5 ∧ hc9.tr.length ≤ 5 := ⟨by decide, by decide, by decide, by decide, by decide⟩
theorem hk0 : hc0.Ok := newC_ok 8 4 1 [2] [] (by decide)
theorem hk1 : hc1.Ok := EraseC_ok _ hk0 _
theorem hk2 : hc2.Ok := MarkC_ok _ hk1 _
theorem hk3 : hc3.Ok := ProgramC_ok _ hk2 _ _ _ _ _
theorem hk4 : hc4.Ok := ProgramC_ok _ hk3 _ _ _ _ _
theorem hk5 : hc5.Ok := FlipC_ok _ hk4 _ _ _
theorem hk6 : hc6.Ok := FlipC_ok _ hk5 _ _ _
theorem hk7 : hc7.Ok := FlipC_ok _ hk6 _ _ _
theorem hk8 : hc8.Ok := FlipC_ok _ hk7 _ _ _
theorem hk9 : hc9.Ok := FlipC_ok _ hk8 _ _ _
theorem hk10 : hc10.Ok := EraseC_ok _ hk9 _
end Go.Proofs.Ytadlkikjfonkgaa
namespace Go.Proofs.Ytadlkikjfonkgaa
open Go.RowKit Go.Conc
set_option linter.unusedVariables false

/-- No list of flips is longer. -/
def FlN (C : Ch) (n : Nat) : Prop := ∀ b p, (C.fl b p).length ≤ n
theorem FlN.mono {C : Ch} {n m : Nat} (h : FlN C n) (hm : n ≤ m) : FlN C m := fun b p => Nat.le_trans (h b p) hm
theorem newC_fl (B P S : Nat) (bad : List Int) (q : List Ft) : FlN (newC B P S bad q) 0 := fun _ _ => Nat.le_refl _
theorem ProgramC_fl (C : Ch) (pb pp : Int) (n1 n2 : Nat) (want : List Int) : (ProgramC C pb pp n1 n2 want).2.fl = C.fl := by
  unfold ProgramC
  split
  · rfl
  split
  · rfl
  unfold progC
  split
  · rfl
  split
  · rfl
  split
  · rfl
  split <;> rfl
theorem MarkC_fl (C : Ch) (pb : Int) : (MarkC C pb).2.fl = C.fl := by
  unfold MarkC
  split
  · rfl
  unfold markC
  split
  · rfl
  split <;> rfl
theorem flJ_len (f : Int → Int → List Nat) (b : Int) : ∀ (j : Nat) (x p : Int), (flJ f b j x p).length ≤ (f x p).length
  | 0, _, _ => Nat.le_refl _
  | j + 1, x, p => by
    unfold flJ
    split
    · exact Nat.zero_le _
    · exact flJ_len f b j x p
theorem EraseC_fl {C : Ch} {n : Nat} (h : FlN C n) (pb : Int) : FlN (EraseC C pb).2 n := by
  unfold EraseC
  split
  · exact h
  unfold eraseC
  split
  · exact h
  split
  · exact h
  split
  · exact h
  exact fun b p => Nat.le_trans (flJ_len _ _ _ b p) (h b p)
theorem FlipC_fl {C : Ch} {n : Nat} (h : FlN C n) (pb pp bit : Int) : FlN (FlipC C pb pp bit).2 (n + 1) := by
  have h' : FlN C (n + 1) := h.mono (Nat.le_succ _)
  unfold FlipC
  split
  · exact h'
  split
  · exact h'
  split
  · exact h'
  split
  · exact h'
  intro b p
  show (flS C.fl pb pp bit.toNat b p).length ≤ _
  unfold flS
  split
  · have := h pb pp
    simp
    exact h _ _
  · exact h' b p

/-- A chip that is held beside other blocks: what is in the way of a call is kept. -/
structure HD (w u : World) (p : Nat) (F : Nat → Prop) (K : List (Nat × Obj)) (C : Ch) : Prop where
  bel : Below w.heap.size w u
  ch : ChipAt u p F C
  lo : ∀ k, F k → w.heap.size ≤ k
  kp : ∀ x ∈ K, u.heap[x.1]? = some x.2 ∧ ¬ F x.1 ∧ w.heap.size ≤ x.1
theorem HD.blk {w u : World} {p : Nat} {F : Nat → Prop} {K : List (Nat × Obj)} {C : Ch} (h : HD w u p F K C) {g : Nat} {o : Obj} (hm : (g, o) ∈ K) : u.heap[g]? = some o := (h.kp _ hm).1
theorem HD.below {w u v : World} {p : Nat} {F : Nat → Prop} {K : List (Nat × Obj)} {C : Ch} (h : HD w u p F K C) (hb : Below u.heap.size u v) : HD w v p F K C :=
  ⟨below_trans h.bel hb, h.ch.below hb, h.lo, fun x hx => ⟨(hb.block _ (lt_of_block (h.kp x hx).1)).trans (h.kp x hx).1, (h.kp x hx).2⟩⟩
theorem HD.step {w u v : World} {p : Nat} {F : Nat → Prop} {K : List (Nat × Obj)} {C C' : Ch} (h : HD w u p F K C) (hc : ChipAt v p (Fx F u v) C') (ho : Only F u v) : HD w v p (Fx F u v) K C' := by
  refine ⟨h.bel.trans (ho.below h.lo h.bel.size), hc, fun k hk => ?_, fun x hx => ?_⟩
  · rcases hk with hk | hk
    · exact h.lo k hk
    · exact Nat.le_trans h.bel.size hk.1
  · obtain ⟨h1, h2, h3⟩ := h.kp x hx
    have hl := lt_of_block h1
    exact ⟨(ho.block _ hl h2).trans h1, fun hf => hf.elim h2 (fun h9 => by omega), h3⟩
theorem HD.step0 {w u v : World} {p : Nat} {F : Nat → Prop} {K : List (Nat × Obj)} {C C' : Ch} (h : HD w u p F K C) (hc : ChipAt v p F C') (ho : Only F u v) : HD w v p F K C' := by
  refine ⟨h.bel.trans (ho.below h.lo h.bel.size), hc, h.lo, fun x hx => ?_⟩
  obtain ⟨h1, h2, h3⟩ := h.kp x hx
  exact ⟨(ho.block _ (lt_of_block h1) h2).trans h1, h2, h3⟩
/-- A new block is held too. -/
theorem HD.hold {w u : World} {p : Nat} {F : Nat → Prop} {K : List (Nat × Obj)} {C : Ch} (h : HD w u p F K C) {g : Nat} {o : Obj} (hg : u.heap[g]? = some o) (hf : ¬ F g) (hw : w.heap.size ≤ g) : HD w u p F ((g, o) :: K) C :=
  ⟨h.bel, h.ch, h.lo, fun x hx => by
    rcases List.mem_cons.1 hx with h1 | h1
    · rw [h1]; exact ⟨hg, hf, hw⟩
    · exact h.kp x h1⟩
theorem HD.less {w u : World} {p : Nat} {F : Nat → Prop} {K K' : List (Nat × Obj)} {C : Ch} (h : HD w u p F K C) (hs : ∀ x ∈ K', x ∈ K) : HD w u p F K' C := ⟨h.bel, h.ch, h.lo, fun x hx => h.kp x (hs x hx)⟩
/-- A held block is written over. -/
theorem HD.over {w u v : World} {p : Nat} {F : Nat → Prop} {K : List (Nat × Obj)} {C : Ch} {g : Nat} {o : Obj} (h : HD w u p F ((g, o) :: K) C) {o' : Obj} (ho : Only (· = g) u v) (hv : v.heap[g]? = some o') (hK : ∀ x ∈ K, x.1 ≠ g) : HD w v p F ((g, o') :: K) C := by
  obtain ⟨h1, h2, h3⟩ := h.kp _ (List.mem_cons_self)
  refine ⟨h.bel.trans (ho.below (fun j hj => by rw [hj]; exact h3) h.bel.size), h.ch.only ho (fun k hk e => h2 (by rw [← e]; exact hk)), h.lo, fun x hx => ?_⟩
  rcases List.mem_cons.1 hx with h4 | h4
  · rw [h4]; exact ⟨hv, h2, h3⟩
  · obtain ⟨k1, k2, k3⟩ := h.kp x (List.mem_cons_of_mem _ h4)
    exact ⟨(ho.block _ (lt_of_block k1) (hK x h4)).trans k1, k2, k3⟩

section
variable {w u : World} {p : Nat} {F : Nat → Prop} {K : List (Nat × Obj)} {C : Ch}
theorem hd_erase (h : HD w u p F K C) (hok : C.Ok) (htr : C.tr.length ≤ 3000000000000) (pb : Int) : Calls Try.prog 51 #[.pointer (some ⟨p, 0, none⟩), .int .i64 pb] u fun e u' => e = .returned (.int .i64 (EraseC C pb).1) ∧ ∃ F', HD w u' p F' K (EraseC C pb).2 := by
  refine (Erase_any u p F C h.ch hok htr pb).mono ?_
  rintro e v ⟨rfl, hc, ho⟩
  exact ⟨rfl, _, h.step hc ho⟩
theorem hd_mark (h : HD w u p F K C) (hok : C.Ok) (htr : C.tr.length ≤ 3000000000000) (pb : Int) : Calls Try.prog 52 #[.pointer (some ⟨p, 0, none⟩), .int .i64 pb] u fun e u' => e = .returned (.int .i64 (MarkC C pb).1) ∧ ∃ F', HD w u' p F' K (MarkC C pb).2 := by
  refine (Mark_any u p F C h.ch hok htr pb).mono ?_
  rintro e v ⟨rfl, hc, ho⟩
  exact ⟨rfl, _, h.step hc ho⟩
theorem hd_flip (h : HD w u p F K C) (hok : C.Ok) (hln : FlN C 4000000000000) (pb pp bit : Int) (hbit : bit ≤ 9223372036854775807) : Calls Try.prog 56 #[.pointer (some ⟨p, 0, none⟩), .agg #[.int .i64 pb, .int .i64 pp], .int .i64 bit] u fun e u' => e = .returned (.int .i64 (FlipC C pb pp bit).1) ∧ ∃ F', HD w u' p F' K (FlipC C pb pp bit).2 := by
  refine (Flip_any u p F C h.ch hok hln pb pp bit hbit).mono ?_
  rintro e v ⟨rfl, hc, ho⟩
  exact ⟨rfl, _, h.step hc ho⟩
theorem hd_on (h : HD w u p F K C) : Calls Try.prog 25 #[.pointer (some ⟨p, 0, none⟩)] u fun e u' => e = .returned (.tuple #[]) ∧ HD w u' p F K { C with dark := false } := by
  refine (On_any u p F C h.ch).mono ?_
  rintro e v ⟨rfl, hc, ho⟩
  exact ⟨rfl, h.step0 hc ho⟩
theorem hd_prog (h : HD w u p F K C) (hok : C.Ok) (pb pp : Int) (da sa : Option Addr) (n1 dc n2 sc : Nat) (hl1 : n1 ≤ 140737488355000) (hl2 : n2 ≤ 140737488355000) (htr : C.tr.length ≤ 3000000000000) (zd zp : List Int) (hD : Reads u da n1 zd) (hZ : Reads u sa n2 zp) (hdF : ∀ y, da = some y → ¬ F y.block) (hzF : ∀ y, sa = some y → ¬ F y.block) :
    Calls Try.prog 53 #[.pointer (some ⟨p, 0, none⟩), .agg #[.int .i64 pb, .int .i64 pp], .agg #[.slice da n1 dc, .slice sa n2 sc]] u fun e u' => e = .returned (.int .i64 (ProgramC C pb pp n1 n2 (zd ++ zp)).1) ∧ ∃ F', HD w u' p F' K (ProgramC C pb pp n1 n2 (zd ++ zp)).2 := by
  refine (Program_any u p F C h.ch hok pb pp da sa n1 dc n2 sc hl1 hl2 htr zd zp hD hZ hdF hzF).mono ?_
  rintro e v ⟨rfl, hc, ho⟩
  exact ⟨rfl, _, h.step hc ho⟩
/-- A page of one byte is programmed, as it was made. -/
theorem hd_progE {u0 : World} (h : HD w u0 p F K C) (hok : C.Ok) (hb : Below u0.heap.size u0 u) (pb pp : Int) (S : Nat) (hS : S ≤ 8) (v : Int) (hv : 0 ≤ v ∧ v ≤ 255) (g1 c1 g2 c2 : Nat) (o1 : Own u u0.heap.size g1 (256 * S) c1 (List.replicate (256 * S) v)) (o2 : Own u u0.heap.size g2 (54 + 3 * S) c2 (List.replicate (54 + 3 * S) v)) (htr : C.tr.length ≤ 3000000000000) :
    Calls Try.prog 53 #[.pointer (some ⟨p, 0, none⟩), .agg #[.int .i64 pb, .int .i64 pp], .agg #[.slice (some ⟨g1, 0, none⟩) (256 * S) c1, .slice (some ⟨g2, 0, none⟩) (54 + 3 * S) c2]] u fun e u' => e = .returned (.int .i64 (ProgramC C pb pp (256 * S) (54 + 3 * S) (List.replicate (256 * S) v ++ List.replicate (54 + 3 * S) v)).1) ∧ ∃ F', HD w u' p F' K (ProgramC C pb pp (256 * S) (54 + 3 * S) (List.replicate (256 * S) v ++ List.replicate (54 + 3 * S) v)).2 := by
  have hr : ∀ n : Nat, ∀ x ∈ List.replicate n v, 0 ≤ x ∧ x ≤ 255 := fun n x hx => by rw [(List.mem_replicate.1 hx).2]; exact hv
  have r1 := o1.reads (hr _) _ (Nat.le_refl _)
  have r2 := o2.reads (hr _) _ (Nat.le_refl _)
  rw [List.take_of_length_le (by simp)] at r1 r2
  exact hd_prog (h.below hb) hok pb pp _ _ _ _ _ _ (by omega) (by omega) htr _ _ r1 r2 (fun y hy hf => by cases hy; have h1 := h.ch.fin _ hf; have h2 := o1.lt.1; exact absurd h1 (Nat.not_lt.2 h2)) (fun y hy hf => by cases hy; have h1 := h.ch.fin _ hf; have h2 := o2.lt.1; exact absurd h1 (Nat.not_lt.2 h2))
end
end Go.Proofs.Ytadlkikjfonkgaa
namespace Go.Proofs.Ytadlkikjfonkgaa
open Go.RowKit Go.Conc
set_option linter.unusedVariables false

/-- A call. -/
structure Opc where
  k : Int
  b : Int
  p : Int
  bit : Int
  fit : Bool
  d : List Int
  z : List Int
def Opc.n1 (o : Opc) (S : Nat) : Nat := if o.fit then 256 * S else o.d.length
def Opc.n2 (o : Opc) (S : Nat) : Nat := if o.fit then 54 + 3 * S else o.z.length
def Opc.want (o : Opc) (S : Nat) : List Int := if o.fit then fitL o.d (256 * S) ++ fitL o.z (54 + 3 * S) else o.d ++ o.z
def doesC (C : Ch) (o : Opc) : Int × Ch :=
  if o.k = 1 then ProgramC C o.b o.p (o.n1 C.S) (o.n2 C.S) (o.want C.S) else if o.k = 2 then EraseC C o.b else if o.k = 3 then MarkC C o.b else if o.k = 4 then FlipC C o.b o.p o.bit else if o.k = 5 then (0, { C with dark := false }) else (0, C)
def playC (C : Ch) (ops : List Opc) : Ch := ops.foldl (fun C o => (doesC C o).2) C
theorem playC_snoc (C : Ch) (ops : List Opc) (o : Opc) : playC C (ops ++ [o]) = (doesC (playC C ops) o).2 := by simp [playC]

def setQ (C : Ch) (q : List Ft) : Ch := { C with q := q }
/-- What a call does with the script. -/
def TakesQ (C : Ch) (q' : List Ft) (r s : Int × Ch) : Prop :=
  (r.2.cnt = C.cnt ∧ r.2.q = C.q ∧ s = (r.1, setQ r.2 q')) ∨
  (r.2.cnt = C.cnt + 1 ∧ r.2.q = takeR C.cnt C.q ∧ (takeF C.cnt q' = takeF C.cnt C.q → s = (r.1, setQ r.2 (takeR C.cnt q'))))
theorem prog_q (C : Ch) (q' : List Ft) (pb pp : Int) (n1 n2 : Nat) (want : List Int) : TakesQ C q' (ProgramC C pb pp n1 n2 want) (ProgramC (setQ C q') pb pp n1 n2 want) := by
  unfold ProgramC
  show TakesQ C q' _ (if C.dark = true then _ else if n1 ≠ 256 * C.S ∨ n2 ≠ 54 + 3 * C.S then _ else _)
  by_cases hd : C.dark = true
  · rw [if_pos hd, if_pos hd]; exact Or.inl ⟨rfl, rfl, rfl⟩
  rw [if_neg hd, if_neg hd]
  by_cases hn : n1 ≠ 256 * C.S ∨ n2 ≠ 54 + 3 * C.S
  · rw [if_pos hn, if_pos hn]; exact Or.inl ⟨rfl, rfl, rfl⟩
  rw [if_neg hn, if_neg hn]
  unfold progC
  show TakesQ C q' _ (noteC 1 pb pp (if hasP C.B C.P pb pp = false then _ else match C.bl[pb.toNat]? with | none => _ | some b => if (b.m || !b.r || decide (pp < b.nx)) = true then _ else match b.ps[pp.toNat]? with | none => _ | some q => _))
  by_cases hp : hasP C.B C.P pb pp = false
  · rw [if_pos hp, if_pos hp]; exact Or.inl ⟨rfl, rfl, rfl⟩
  rw [if_neg hp, if_neg hp]
  cases hb : C.bl[pb.toNat]? with
  | none => exact Or.inl ⟨rfl, rfl, rfl⟩
  | some b =>
    simp only []
    by_cases hm : (b.m || !b.r || decide (pp < b.nx)) = true
    · rw [if_pos hm, if_pos hm]; exact Or.inl ⟨rfl, rfl, rfl⟩
    rw [if_neg hm, if_neg hm]
    cases hq : b.ps[pp.toNat]? with
    | none => exact Or.inl ⟨rfl, rfl, rfl⟩
    | some q =>
      refine Or.inr ⟨rfl, rfl, fun ht => ?_⟩
      simp only [noteC, progN, setQ]
      rw [ht]
theorem erase_q (C : Ch) (q' : List Ft) (pb : Int) : TakesQ C q' (EraseC C pb) (EraseC (setQ C q') pb) := by
  unfold EraseC
  show TakesQ C q' _ (if C.dark = true then _ else _)
  by_cases hd : C.dark = true
  · rw [if_pos hd, if_pos hd]; exact Or.inl ⟨rfl, rfl, rfl⟩
  rw [if_neg hd, if_neg hd]
  unfold eraseC
  show TakesQ C q' _ (noteC 2 pb 0 (if hasB C.B pb = false then _ else match C.bl[pb.toNat]? with | none => _ | some b => if b.m = true then _ else _))
  by_cases hp : hasB C.B pb = false
  · rw [if_pos hp, if_pos hp]; exact Or.inl ⟨rfl, rfl, rfl⟩
  rw [if_neg hp, if_neg hp]
  cases hb : C.bl[pb.toNat]? with
  | none => exact Or.inl ⟨rfl, rfl, rfl⟩
  | some b =>
    simp only []
    by_cases hm : b.m = true
    · rw [if_pos hm, if_pos hm]; exact Or.inl ⟨rfl, rfl, rfl⟩
    rw [if_neg hm, if_neg hm]
    refine Or.inr ⟨rfl, rfl, fun ht => ?_⟩
    simp only [noteC, eraseN, setQ]
    rw [ht]
theorem mark_q (C : Ch) (q' : List Ft) (pb : Int) : TakesQ C q' (MarkC C pb) (MarkC (setQ C q') pb) := by
  unfold MarkC
  show TakesQ C q' _ (if C.dark = true then _ else _)
  by_cases hd : C.dark = true
  · rw [if_pos hd, if_pos hd]; exact Or.inl ⟨rfl, rfl, rfl⟩
  rw [if_neg hd, if_neg hd]
  unfold markC
  show TakesQ C q' _ (noteC 3 pb 0 (if hasB C.B pb = false then _ else match C.bl[pb.toNat]? with | none => _ | some b => _))
  by_cases hp : hasB C.B pb = false
  · rw [if_pos hp, if_pos hp]; exact Or.inl ⟨rfl, rfl, rfl⟩
  rw [if_neg hp, if_neg hp]
  cases hb : C.bl[pb.toNat]? with
  | none => exact Or.inl ⟨rfl, rfl, rfl⟩
  | some b =>
    refine Or.inr ⟨rfl, rfl, fun ht => ?_⟩
    simp only [noteC, setQ]
    rw [ht]
theorem flip_q (C : Ch) (q' : List Ft) (pb pp bit : Int) : TakesQ C q' (FlipC C pb pp bit) (FlipC (setQ C q') pb pp bit) := by
  unfold FlipC
  show TakesQ C q' _ (if hasP C.B C.P pb pp = false then _ else match C.bl[pb.toNat]? with | none => _ | some b => match b.ps[pp.toNat]? with | none => _ | some q => if (decide (bit < 0) || decide (8 * (pgB C.S : Int) ≤ bit) || !q.h || flHas C pb pp bit.toNat) = true then _ else _)
  by_cases hp : hasP C.B C.P pb pp = false
  · rw [if_pos hp, if_pos hp]; exact Or.inl ⟨rfl, rfl, rfl⟩
  rw [if_neg hp, if_neg hp]
  cases hb : C.bl[pb.toNat]? with
  | none => exact Or.inl ⟨rfl, rfl, rfl⟩
  | some b =>
    simp only []
    cases hq : b.ps[pp.toNat]? with
    | none => exact Or.inl ⟨rfl, rfl, rfl⟩
    | some q =>
      simp only []
      by_cases hm : (decide (bit < 0) || decide (8 * (pgB C.S : Int) ≤ bit) || !q.h || flHas C pb pp bit.toNat) = true
      · rw [if_pos hm, if_pos hm]; exact Or.inl ⟨rfl, rfl, rfl⟩
      · rw [if_neg hm, if_neg hm]; exact Or.inl ⟨rfl, rfl, rfl⟩
theorem does_q (C : Ch) (q' : List Ft) (o : Opc) : TakesQ C q' (doesC C o) (doesC (setQ C q') o) := by
  unfold doesC
  by_cases h1 : o.k = 1
  · rw [if_pos h1, if_pos h1]; exact prog_q _ _ _ _ _ _ _
  rw [if_neg h1, if_neg h1]
  by_cases h2 : o.k = 2
  · rw [if_pos h2, if_pos h2]; exact erase_q _ _ _
  rw [if_neg h2, if_neg h2]
  by_cases h3 : o.k = 3
  · rw [if_pos h3, if_pos h3]; exact mark_q _ _ _
  rw [if_neg h3, if_neg h3]
  by_cases h4 : o.k = 4
  · rw [if_pos h4, if_pos h4]; exact flip_q _ _ _ _ _
  rw [if_neg h4, if_neg h4]
  by_cases h5 : o.k = 5
  · rw [if_pos h5, if_pos h5]; exact Or.inl ⟨rfl, rfl, rfl⟩
  · rw [if_neg h5, if_neg h5]; exact Or.inl ⟨rfl, rfl, rfl⟩

/-- A script in order, from a number on. -/
def Rises (n : Int) (q : List Ft) : Prop := (∀ f ∈ q, n ≤ f.a) ∧ q.Pairwise (fun f g => f.a < g.a)
def cutQ (n : Nat) (q : List Ft) : List Ft := q.filter (fun f => decide (f.a < (n : Int)))
theorem rises_take {n : Nat} {q : List Ft} (h : Rises n q) : Rises ((n + 1 : Nat) : Int) (takeR n q) := by
  cases q with
  | nil => exact ⟨(fun f hf => by cases hf), List.Pairwise.nil⟩
  | cons f r =>
    have h1 := h.1 f (by simp)
    have h2 := List.pairwise_cons.1 h.2
    by_cases e : f.a = (n : Int)
    · rw [show takeR n (f :: r) = r from if_pos e]
      exact ⟨fun g hg => by have := h2.1 g hg; omega, h2.2⟩
    · rw [show takeR n (f :: r) = f :: r from if_neg e]
      refine ⟨fun g hg => ?_, h.2⟩
      rcases List.mem_cons.1 hg with rfl | hg
      · omega
      · have := h2.1 g hg; omega
theorem cut_take {c n : Nat} {q : List Ft} (h : Rises c q) (hn : c < n) : takeF c (cutQ n q) = takeF c q ∧ takeR c (cutQ n q) = cutQ n (takeR c q) := by
  cases q with
  | nil => exact ⟨rfl, rfl⟩
  | cons f r =>
    have h1 := h.1 f (by simp)
    have h2 := List.pairwise_cons.1 h.2
    by_cases e : f.a = (c : Int)
    · have hk : decide (f.a < (n : Int)) = true := decide_eq_true (by omega)
      have c1 : cutQ n (f :: r) = f :: cutQ n r := List.filter_cons_of_pos hk
      rw [c1]
      exact ⟨(show takeF c (f :: cutQ n r) = f from if_pos e).trans (show takeF c (f :: r) = f from if_pos e).symm, (show takeR c (f :: cutQ n r) = cutQ n r from if_pos e).trans (by rw [show takeR c (f :: r) = r from if_pos e])⟩
    · have hr : ∀ g ∈ cutQ n (f :: r), g.a ≠ (c : Int) := fun g hg => by
        have hg' := (List.mem_filter.1 hg).1
        rcases List.mem_cons.1 hg' with rfl | hg'
        · exact e
        · have := h2.1 g hg'; omega
      have e1 : takeF c (f :: r) = Ft.no ∧ takeR c (f :: r) = f :: r := ⟨if_neg e, if_neg e⟩
      have e2 : ∀ l : List Ft, (∀ g ∈ l, g.a ≠ (c : Int)) → takeF c l = Ft.no ∧ takeR c l = l := fun l hl => by
        cases l with
        | nil => exact ⟨rfl, rfl⟩
        | cons g s => exact ⟨if_neg (hl g (by simp)), if_neg (hl g (by simp))⟩
      rw [e1.1, e1.2]
      exact e2 _ hr
theorem does_cnt (C : Ch) (o : Opc) : C.cnt ≤ (doesC C o).2.cnt := by
  rcases does_q C C.q o with ⟨h, _⟩ | ⟨h, _⟩ <;> omega
theorem play_cnt (ops : List Opc) : ∀ C : Ch, C.cnt ≤ (playC C ops).cnt := by
  induction ops with
  | nil => intro C; exact Nat.le_refl _
  | cons o r ih => intro C; exact Nat.le_trans (does_cnt C o) (ih (doesC C o).2)
/-- What is told of calls, in their order. -/
def toldC (C : Ch) : List Opc → List Int
  | [] => []
  | o :: r => (doesC C o).1 :: toldC (doesC C o).2 r
theorem play_cut (n : Nat) (ops : List Opc) : ∀ (C : Ch), Rises C.cnt C.q → (playC C ops).cnt ≤ n → toldC (setQ C (cutQ n C.q)) ops = toldC C ops ∧ ∃ q, playC (setQ C (cutQ n C.q)) ops = setQ (playC C ops) q := by
  induction ops with
  | nil => intro C _ _; exact ⟨rfl, _, rfl⟩
  | cons o r ih =>
    intro C hr hn
    have hle : (doesC C o).2.cnt ≤ n := Nat.le_trans (play_cnt r _) hn
    rcases does_q C (cutQ n C.q) o with ⟨h1, h2, h3⟩ | ⟨h1, h2, h3⟩
    · have ih1 := ih (doesC C o).2 (by rw [h1, h2]; exact hr) hn
      rw [h2] at ih1
      show (doesC (setQ C (cutQ n C.q)) o).1 :: toldC (doesC (setQ C (cutQ n C.q)) o).2 r = _ ∧ ∃ q, playC (doesC (setQ C (cutQ n C.q)) o).2 r = _
      rw [h3]
      exact ⟨congrArg _ ih1.1, ih1.2⟩
    · obtain ⟨t1, t2⟩ := cut_take hr (show C.cnt < n by omega)
      have h4 := h3 t1
      have ih1 := ih (doesC C o).2 (by rw [h1, h2]; exact rises_take hr) hn
      rw [h2] at ih1
      show (doesC (setQ C (cutQ n C.q)) o).1 :: toldC (doesC (setQ C (cutQ n C.q)) o).2 r = _ ∧ ∃ q, playC (doesC (setQ C (cutQ n C.q)) o).2 r = _
      rw [h4, t2]
      exact ⟨congrArg _ ih1.1, ih1.2⟩
end Go.Proofs.Ytadlkikjfonkgaa
