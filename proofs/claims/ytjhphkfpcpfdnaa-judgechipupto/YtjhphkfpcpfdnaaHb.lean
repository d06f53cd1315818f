/-
  SEAT Ytjhphkfpcpfdnaa: a chip beside other boxes; bounds of the flips.
-/
import Derived.Test.YtjhphkfpcpfdnaaHa
namespace Go.Proofs.Ytjhphkfpcpfdnaa
open Go.RowKit Go.Conc
set_option linter.unusedVariables false

/-- No list of flips is longer. -/
def FlN (C : Ch) (n : Nat) : Prop := ∀ b p, (C.fl b p).length ≤ n
theorem FlN.mono {C : Ch} {n m : Nat} (h : FlN C n) (hm : n ≤ m) : FlN C m := fun b p => Nat.le_trans (h b p) hm
theorem newC_fl (B P S : Nat) (bad : List Int) (q : List Ft) : FlN (newC B P S bad q) 0 := fun _ _ => Nat.le_refl _
theorem ProgramC_fl (C : Ch) (pb pp : Int) (n1 n2 : Nat) (want : List Int) : (ProgramC C pb pp n1 n2 want).2.fl = C.fl := by
  unfold ProgramC
  split
  · rfl
  split
  · rfl
  unfold progC
  split
  · rfl
  split
  · rfl
  split
  · rfl
  split <;> rfl
theorem MarkC_fl (C : Ch) (pb : Int) : (MarkC C pb).2.fl = C.fl := by
  unfold MarkC
  split
  · rfl
  unfold markC
  split
  · rfl
  split <;> rfl
theorem flJ_len (f : Int → Int → List Nat) (b : Int) : ∀ (j : Nat) (x p : Int), (flJ f b j x p).length ≤ (f x p).length
  | 0, _, _ => Nat.le_refl _
  | j + 1, x, p => by
    unfold flJ
    split
    · exact Nat.zero_le _
    · exact flJ_len f b j x p
theorem EraseC_fl {C : Ch} {n : Nat} (h : FlN C n) (pb : Int) : FlN (EraseC C pb).2 n := by
  unfold EraseC
  split
  · exact h
  unfold eraseC
  split
  · exact h
  split
  · exact h
  split
  · exact h
  exact fun b p => Nat.le_trans (flJ_len _ _ _ b p) (h b p)
theorem FlipC_fl {C : Ch} {n : Nat} (h : FlN C n) (pb pp bit : Int) : FlN (FlipC C pb pp bit).2 (n + 1) := by
  have h' : FlN C (n + 1) := h.mono (Nat.le_succ _)
  unfold FlipC
  split
  · exact h'
  split
  · exact h'
  split
  · exact h'
  split
  · exact h'
  intro b p
  show (flS C.fl pb pp bit.toNat b p).length ≤ _
  unfold flS
  split
  · have := h pb pp
    simp
    exact h _ _
  · exact h' b p

/-- A chip that is held beside other blocks: what is in the way of a call is kept. -/
structure HD (w u : World) (p : Nat) (F : Nat → Prop) (K : List (Nat × Obj)) (C : Ch) : Prop where
  bel : Below w.heap.size w u
  ch : ChipAt u p F C
  lo : ∀ k, F k → w.heap.size ≤ k
  kp : ∀ x ∈ K, u.heap[x.1]? = some x.2 ∧ ¬ F x.1 ∧ w.heap.size ≤ x.1
theorem HD.blk {w u : World} {p : Nat} {F : Nat → Prop} {K : List (Nat × Obj)} {C : Ch} (h : HD w u p F K C) {g : Nat} {o : Obj} (hm : (g, o) ∈ K) : u.heap[g]? = some o := (h.kp _ hm).1
theorem HD.below {w u v : World} {p : Nat} {F : Nat → Prop} {K : List (Nat × Obj)} {C : Ch} (h : HD w u p F K C) (hb : Below u.heap.size u v) : HD w v p F K C :=
  ⟨below_trans h.bel hb, h.ch.below hb, h.lo, fun x hx => ⟨(hb.block _ (lt_of_block (h.kp x hx).1)).trans (h.kp x hx).1, (h.kp x hx).2⟩⟩
theorem HD.step {w u v : World} {p : Nat} {F : Nat → Prop} {K : List (Nat × Obj)} {C C' : Ch} (h : HD w u p F K C) (hc : ChipAt v p (Fx F u v) C') (ho : Only F u v) : HD w v p (Fx F u v) K C' := by
  refine ⟨h.bel.trans (ho.below h.lo h.bel.size), hc, fun k hk => ?_, fun x hx => ?_⟩
  · rcases hk with hk | hk
    · exact h.lo k hk
    · exact Nat.le_trans h.bel.size hk.1
  · obtain ⟨h1, h2, h3⟩ := h.kp x hx
    have hl := lt_of_block h1
    exact ⟨(ho.block _ hl h2).trans h1, fun hf => hf.elim h2 (fun h9 => by omega), h3⟩
theorem HD.step0 {w u v : World} {p : Nat} {F : Nat → Prop} {K : List (Nat × Obj)} {C C' : Ch} (h : HD w u p F K C) (hc : ChipAt v p F C') (ho : Only F u v) : HD w v p F K C' := by
  refine ⟨h.bel.trans (ho.below h.lo h.bel.size), hc, h.lo, fun x hx => ?_⟩
  obtain ⟨h1, h2, h3⟩ := h.kp x hx
  exact ⟨(ho.block _ (lt_of_block h1) h2).trans h1, h2, h3⟩
/-- A new block is held too. -/
theorem HD.hold {w u : World} {p : Nat} {F : Nat → Prop} {K : List (Nat × Obj)} {C : Ch} (h : HD w u p F K C) {g : Nat} {o : Obj} (hg : u.heap[g]? = some o) (hf : ¬ F g) (hw : w.heap.size ≤ g) : HD w u p F ((g, o) :: K) C :=
  ⟨h.bel, h.ch, h.lo, fun x hx => by
    rcases List.mem_cons.1 hx with h1 | h1
    · rw [h1]; exact ⟨hg, hf, hw⟩
    · exact h.kp x h1⟩
theorem HD.less {w u : World} {p : Nat} {F : Nat → Prop} {K K' : List (Nat × Obj)} {C : Ch} (h : HD w u p F K C) (hs : ∀ x ∈ K', x ∈ K) : HD w u p F K' C := ⟨h.bel, h.ch, h.lo, fun x hx => h.kp x (hs x hx)⟩
/-- A held block is written over. -/
theorem HD.over {w u v : World} {p : Nat} {F : Nat → Prop} {K : List (Nat × Obj)} {C : Ch} {g : Nat} {o : Obj} (h : HD w u p F ((g, o) :: K) C) {o' : Obj} (ho : Only (· = g) u v) (hv : v.heap[g]? = some o') (hK : ∀ x ∈ K, x.1 ≠ g) : HD w v p F ((g, o') :: K) C := by
  obtain ⟨h1, h2, h3⟩ := h.kp _ (List.mem_cons_self)
  refine ⟨h.bel.trans (ho.below (fun j hj => by rw [hj]; exact h3) h.bel.size), h.ch.only ho (fun k hk e => h2 (by rw [← e]; exact hk)), h.lo, fun x hx => ?_⟩
  rcases List.mem_cons.1 hx with h4 | h4
  · rw [h4]; exact ⟨hv, h2, h3⟩
  · obtain ⟨k1, k2, k3⟩ := h.kp x (List.mem_cons_of_mem _ h4)
    exact ⟨(ho.block _ (lt_of_block k1) (hK x h4)).trans k1, k2, k3⟩

section
variable {w u : World} {p : Nat} {F : Nat → Prop} {K : List (Nat × Obj)} {C : Ch}
theorem hd_erase (h : HD w u p F K C) (hok : C.Ok) (htr : C.tr.length ≤ 3000000000000) (pb : Int) : Calls Try.prog 13 #[.pointer (some ⟨p, 0, none⟩), .int .i64 pb] u fun e u' => e = .returned (.int .i64 (EraseC C pb).1) ∧ ∃ F', HD w u' p F' K (EraseC C pb).2 := by
  refine (Erase_any u p F C h.ch hok htr pb).mono ?_
  rintro e v ⟨rfl, hc, ho⟩
  exact ⟨rfl, _, h.step hc ho⟩
theorem hd_mark (h : HD w u p F K C) (hok : C.Ok) (htr : C.tr.length ≤ 3000000000000) (pb : Int) : Calls Try.prog 14 #[.pointer (some ⟨p, 0, none⟩), .int .i64 pb] u fun e u' => e = .returned (.int .i64 (MarkC C pb).1) ∧ ∃ F', HD w u' p F' K (MarkC C pb).2 := by
  refine (Mark_any u p F C h.ch hok htr pb).mono ?_
  rintro e v ⟨rfl, hc, ho⟩
  exact ⟨rfl, _, h.step hc ho⟩
theorem hd_on (h : HD w u p F K C) : Calls Try.prog 11 #[.pointer (some ⟨p, 0, none⟩)] u fun e u' => e = .returned (.tuple #[]) ∧ HD w u' p F K { C with dark := false } := by
  refine (On_any u p F C h.ch).mono ?_
  rintro e v ⟨rfl, hc, ho⟩
  exact ⟨rfl, h.step0 hc ho⟩
theorem hd_prog (h : HD w u p F K C) (hok : C.Ok) (pb pp : Int) (da sa : Option Addr) (n1 dc n2 sc : Nat) (hl1 : n1 ≤ 140737488355000) (hl2 : n2 ≤ 140737488355000) (htr : C.tr.length ≤ 3000000000000) (zd zp : List Int) (hD : Reads u da n1 zd) (hZ : Reads u sa n2 zp) (hdF : ∀ y, da = some y → ¬ F y.block) (hzF : ∀ y, sa = some y → ¬ F y.block) :
    Calls Try.prog 12 #[.pointer (some ⟨p, 0, none⟩), .agg #[.int .i64 pb, .int .i64 pp], .agg #[.slice da n1 dc, .slice sa n2 sc]] u fun e u' => e = .returned (.int .i64 (ProgramC C pb pp n1 n2 (zd ++ zp)).1) ∧ ∃ F', HD w u' p F' K (ProgramC C pb pp n1 n2 (zd ++ zp)).2 := by
  refine (Program_any u p F C h.ch hok pb pp da sa n1 dc n2 sc hl1 hl2 htr zd zp hD hZ hdF hzF).mono ?_
  rintro e v ⟨rfl, hc, ho⟩
  exact ⟨rfl, _, h.step hc ho⟩
/-- A page of one byte is programmed, as it was made. -/
theorem hd_progE {u0 : World} (h : HD w u0 p F K C) (hok : C.Ok) (hb : Below u0.heap.size u0 u) (pb pp : Int) (S : Nat) (hS : S ≤ 8) (v : Int) (hv : 0 ≤ v ∧ v ≤ 255) (g1 c1 g2 c2 : Nat) (o1 : Own u u0.heap.size g1 (256 * S) c1 (List.replicate (256 * S) v)) (o2 : Own u u0.heap.size g2 (54 + 3 * S) c2 (List.replicate (54 + 3 * S) v)) (htr : C.tr.length ≤ 3000000000000) :
    Calls Try.prog 12 #[.pointer (some ⟨p, 0, none⟩), .agg #[.int .i64 pb, .int .i64 pp], .agg #[.slice (some ⟨g1, 0, none⟩) (256 * S) c1, .slice (some ⟨g2, 0, none⟩) (54 + 3 * S) c2]] u fun e u' => e = .returned (.int .i64 (ProgramC C pb pp (256 * S) (54 + 3 * S) (List.replicate (256 * S) v ++ List.replicate (54 + 3 * S) v)).1) ∧ ∃ F', HD w u' p F' K (ProgramC C pb pp (256 * S) (54 + 3 * S) (List.replicate (256 * S) v ++ List.replicate (54 + 3 * S) v)).2 := by
  have hr : ∀ n : Nat, ∀ x ∈ List.replicate n v, 0 ≤ x ∧ x ≤ 255 := fun n x hx => by rw [(List.mem_replicate.1 hx).2]; exact hv
  have r1 := o1.reads (hr _) _ (Nat.le_refl _)
  have r2 := o2.reads (hr _) _ (Nat.le_refl _)
  rw [List.take_of_length_le (by simp)] at r1 r2
  exact hd_prog (h.below hb) hok pb pp _ _ _ _ _ _ (by omega) (by omega) htr _ _ r1 r2 (fun y hy hf => by cases hy; have h1 := h.ch.fin _ hf; have h2 := o1.lt.1; exact absurd h1 (Nat.not_lt.2 h2)) (fun y hy hf => by cases hy; have h1 := h.ch.fin _ hf; have h2 := o2.lt.1; exact absurd h1 (Nat.not_lt.2 h2))
end
end Go.Proofs.Ytjhphkfpcpfdnaa
