/-
  SEAT Ytadlkikjfonkgaa: Ha, Hb, Fa, Fb, Fd, Fe, Ff, Ga.
-/
import Derived.Test.YtadlkikjfonkgaaQq
import Derived.Test.YtadlkikjfonkgaaQa
import Derived.Test.YtadlkikjfonkgaaQr
namespace Go.Proofs.Ytadlkikjfonkgaa
open Go.RowKit Go.Conc
set_option linter.unusedVariables false
set_option maxRecDepth 100000
set_option maxHeartbeats 4000000
variable {C : Ch} {n g B c l : Nat} {w u w' : World} {F : Nat → Prop} {K : List (Nat × Obj)} {a : Option Addr} {zs : List Int}
def zer : List Int := List.replicate 256 0 ++ List.replicate 57 0
def hc0 : Ch := newC 8 4 1 [2] []
def hc1 : Ch := (EraseC hc0 2).2
def hc2 : Ch := (MarkC hc1 8).2
def hc3 : Ch := (ProgramC hc2 0 1 256 57 zer).2
def hc4 : Ch := (ProgramC hc3 0 0 256 57 zer).2
def hc5 : Ch := (FlipC hc4 0 1 5).2
def hc6 : Ch := (FlipC hc5 0 1 2047).2
def hc7 : Ch := (FlipC hc6 0 1 2048).2
def hc8 : Ch := (FlipC hc7 0 1 2500).2
def hc9 : Ch := (FlipC hc8 0 0 1).2
def hc10 : Ch := (EraseC hc9 0).2
theorem hm0 : MarkedE hc0 2 = 0 ∧ MarkedB hc0 2 = true := ⟨by kernel_rfl, by kernel_rfl⟩
theorem he1 : (EraseC hc0 2).1 = 43 := by kernel_rfl
theorem he2 : (MarkC hc1 8).1 = 41 := by kernel_rfl
theorem he3 : (ProgramC hc2 0 1 256 57 zer).1 = 0 := by kernel_rfl
theorem he4 : (ProgramC hc3 0 0 256 57 zer).1 = 43 := by kernel_rfl
theorem hr4 : ReadE hc4 0 1 = 0 ∧ readL hc4 0 1 = zer := ⟨by kernel_rfl, by kernel_rfl⟩
theorem he5 : (FlipC hc4 0 1 5).1 = 0 := by kernel_rfl
theorem he6 : (FlipC hc5 0 1 2047).1 = 46 := by kernel_rfl
theorem he7 : (FlipC hc6 0 1 2048).1 = 0 := by kernel_rfl
theorem he8 : (FlipC hc7 0 1 2500).1 = 46 := by kernel_rfl
theorem he9 : (FlipC hc8 0 0 1).1 = 46 := by kernel_rfl
theorem hr9 : ReadE hc9 0 1 = 0 ∧ readL hc9 0 1 = (32 :: List.replicate 255 0) ++ (1 :: List.replicate 56 0) := ⟨by kernel_rfl, by kernel_rfl⟩
theorem he10 : (EraseC hc9 0).1 = 0 := by kernel_rfl
theorem hr10 : ReadE hc10 0 1 = 0 ∧ readL hc10 0 1 = List.replicate 256 255 ++ List.replicate 57 255 := ⟨by kernel_rfl, by kernel_rfl⟩
theorem hn10 : hc10.cnt = 2 ∧ hc10.tr.length = 5 := ⟨by kernel_rfl, by kernel_rfl⟩
theorem htl : hc0.tr.length ≤ 5 ∧ hc1.tr.length ≤ 5 ∧ hc2.tr.length ≤ 5 ∧ hc3.tr.length ≤ 5 ∧ hc9.tr.length ≤ 5 := ⟨by decide, by decide, by decide, by decide, by decide⟩
theorem hk0 : hc0.Ok := newC_ok 8 4 1 [2] [] (by decide)
theorem hk1 : hc1.Ok := EraseC_ok _ hk0 _
theorem hk2 : hc2.Ok := MarkC_ok _ hk1 _
theorem hk3 : hc3.Ok := ProgramC_ok _ hk2 _ _ _ _ _
theorem hk4 : hc4.Ok := ProgramC_ok _ hk3 _ _ _ _ _
theorem hk5 : hc5.Ok := FlipC_ok _ hk4 _ _ _
theorem hk6 : hc6.Ok := FlipC_ok _ hk5 _ _ _
theorem hk7 : hc7.Ok := FlipC_ok _ hk6 _ _ _
theorem hk8 : hc8.Ok := FlipC_ok _ hk7 _ _ _
theorem hk9 : hc9.Ok := FlipC_ok _ hk8 _ _ _
theorem hk10 : hc10.Ok := EraseC_ok _ hk9 _
def FlN (C : Ch) (n : Nat) : Prop := ∀ b p, (C.fl b p).length ≤ n
theorem FlN.mono {m : Nat} (h : FlN C n) (hm : n ≤ m) : FlN C m := fun b p => Nat.le_trans (h b p) hm
theorem newC_fl (B P S : Nat) (bad : List Int) (q : List Ft) : FlN (newC B P S bad q) 0 := fun _ _ => Nat.le_refl _
theorem ProgramC_fl (C : Ch) (pb pp : Int) (n1 n2 : Nat) (want : List Int) : (ProgramC C pb pp n1 n2 want).2.fl = C.fl := by
 unfold ProgramC
 split
 ·rfl
 split
 ·rfl
 unfold progC
 split
 ·rfl
 split
 ·rfl
 split
 ·rfl
 split <;> rfl
theorem MarkC_fl (C : Ch) (pb : Int) : (MarkC C pb).2.fl = C.fl := by
 unfold MarkC
 split
 ·rfl
 unfold markC
 split
 ·rfl
 split <;> rfl
theorem flJ_len (f : Int → Int → List Nat) (b : Int) : ∀ (j : Nat) (x p : Int), (flJ f b j x p).length ≤ (f x p).length
 | 0, _, _ => Nat.le_refl _
 | j + 1, x, p => by
  unfold flJ
  split
  ·exact Nat.zero_le _
  ·exact flJ_len f b j x p
theorem EraseC_fl (h : FlN C n) (pb : Int) : FlN (EraseC C pb).2 n := by
 unfold EraseC
 split
 ·exact h
 unfold eraseC
 split
 ·exact h
 split
 ·exact h
 split
 ·exact h
 exact fun b p => Nat.le_trans (flJ_len _ _ _ b p) (h b p)
theorem FlipC_fl (h : FlN C n) (pb pp bit : Int) : FlN (FlipC C pb pp bit).2 (n + 1) := by
 have h' : FlN C (n + 1) := h.mono (Nat.le_succ _)
 unfold FlipC
 split
 ·exact h'
 split
 ·exact h'
 split
 ·exact h'
 split
 ·exact h'
 intro b p
 show (flS C.fl pb pp bit.toNat b p).length ≤ _
 unfold flS
 split
 ·have := h pb pp
  simp
  exact h _ _
 ·exact h' b p
structure HD (w u : World) (p : Nat) (F : Nat → Prop) (K : List (Nat × Obj)) (C : Ch) : Prop where
 bel : Below w.heap.size w u
 ch : ChipAt u p F C
 lo : ∀ k, F k → w.heap.size ≤ k
 kp : ∀ x ∈ K, u.heap[x.1]? = some x.2 ∧ ¬ F x.1 ∧ w.heap.size ≤ x.1
theorem HD.blk {p : Nat} (h : HD w u p F K C) {g : Nat} {o : Obj} (hm : (g, o) ∈ K) : u.heap[g]? = some o := (h.kp _ hm).1
theorem HD.below {v : World} {p : Nat} (h : HD w u p F K C) (hb : Below u.heap.size u v) : HD w v p F K C :=
 ⟨below_trans h.bel hb, h.ch.below hb, h.lo, fun x hx => ⟨(hb.block _ (lt_of_block (h.kp x hx).1)).trans (h.kp x hx).1, (h.kp x hx).2⟩⟩
theorem HD.step {v : World} {p : Nat} {C' : Ch} (h : HD w u p F K C) (hc : ChipAt v p (Fx F u v) C') (ho : Only F u v) : HD w v p (Fx F u v) K C' := by
 refine ⟨h.bel.trans (ho.below h.lo h.bel.size), hc, fun k hk => ?_, fun x hx => ?_⟩
 ·rcases hk with hk | hk
  ·exact h.lo k hk
  ·exact Nat.le_trans h.bel.size hk.1
 ·obtain ⟨h1, h2, h3⟩ := h.kp x hx
  have hl := lt_of_block h1
  exact ⟨(ho.block _ hl h2).trans h1, fun hf => hf.elim h2 (fun h9 => by omega), h3⟩
theorem HD.hold {p : Nat} (h : HD w u p F K C) {g : Nat} {o : Obj} (hg : u.heap[g]? = some o) (hf : ¬ F g) (hw : w.heap.size ≤ g) : HD w u p F ((g, o) :: K) C :=
 ⟨h.bel, h.ch, h.lo, fun x hx => by
  rcases List.mem_cons.1 hx with h1 | h1
  ·rw [h1]; exact ⟨hg, hf, hw⟩
  ·exact h.kp x h1⟩
theorem HD.over {v : World} {p : Nat} {o : Obj} (h : HD w u p F ((g, o) :: K) C) {o' : Obj} (ho : Only (· = g) u v) (hv : v.heap[g]? = some o') (N : ∀ x ∈ K, x.1 ≠ g) : HD w v p F ((g, o') :: K) C := by
 obtain ⟨h1, h2, h3⟩ := h.kp _ (List.mem_cons_self)
 refine ⟨h.bel.trans (ho.below (fun j hj => by rw [hj]; exact h3) h.bel.size), h.ch.only ho (fun k hk e => h2 (by rw [← e]; exact hk)), h.lo, fun x hx => ?_⟩
 rcases List.mem_cons.1 hx with h4 | h4
 ·rw [h4]; exact ⟨hv, h2, h3⟩
 ·obtain ⟨k1, k2, k3⟩ := h.kp x (List.mem_cons_of_mem _ h4)
  exact ⟨(ho.block _ (lt_of_block k1) (N x h4)).trans k1, k2, k3⟩
section
variable {w u : World} {p : Nat} {F : Nat → Prop} {K : List (Nat × Obj)} {C : Ch}
theorem hd_erase (h : HD w u p F K C) (hok : C.Ok) (htr : C.tr.length ≤ 3000000000000) (pb : Int) : Calls Try.prog 51 #[.pointer (some ⟨p, 0, none⟩), .int .i64 pb] u fun e u' => e = .returned (.int .i64 (EraseC C pb).1) ∧ ∃ F', HD w u' p F' K (EraseC C pb).2 := by
 refine (Erase_any u p F C h.ch hok htr pb).mono ?_
 rintro e v ⟨rfl, hc, ho⟩
 exact ⟨rfl, _, h.step hc ho⟩
theorem hd_mark (h : HD w u p F K C) (hok : C.Ok) (htr : C.tr.length ≤ 3000000000000) (pb : Int) : Calls Try.prog 52 #[.pointer (some ⟨p, 0, none⟩), .int .i64 pb] u fun e u' => e = .returned (.int .i64 (MarkC C pb).1) ∧ ∃ F', HD w u' p F' K (MarkC C pb).2 := by
 refine (Mark_any u p F C h.ch hok htr pb).mono ?_
 rintro e v ⟨rfl, hc, ho⟩
 exact ⟨rfl, _, h.step hc ho⟩
theorem hd_flip (h : HD w u p F K C) (hok : C.Ok) (hln : FlN C 4000000000000) (pb pp bit : Int) (hbit : bit ≤ 9223372036854775807) : Calls Try.prog 56 #[.pointer (some ⟨p, 0, none⟩), .agg #[.int .i64 pb, .int .i64 pp], .int .i64 bit] u fun e u' => e = .returned (.int .i64 (FlipC C pb pp bit).1) ∧ ∃ F', HD w u' p F' K (FlipC C pb pp bit).2 := by
 refine (Flip_any u p F C h.ch hok hln pb pp bit hbit).mono ?_
 rintro e v ⟨rfl, hc, ho⟩
 exact ⟨rfl, _, h.step hc ho⟩
theorem hd_prog (h : HD w u p F K C) (hok : C.Ok) (pb pp : Int) (da sa : Option Addr) (n1 dc n2 sc : Nat) (hl1 : n1 ≤ 140737488355000) (hl2 : n2 ≤ 140737488355000) (htr : C.tr.length ≤ 3000000000000) (zd zp : List Int) (hD : Reads u da n1 zd) (hZ : Reads u sa n2 zp) (hdF : ∀ y, da = some y → ¬ F y.block) (hzF : ∀ y, sa = some y → ¬ F y.block) :
  Calls Try.prog 53 #[.pointer (some ⟨p, 0, none⟩), .agg #[.int .i64 pb, .int .i64 pp], .agg #[.slice da n1 dc, .slice sa n2 sc]] u fun e u' => e = .returned (.int .i64 (ProgramC C pb pp n1 n2 (zd ++ zp)).1) ∧ ∃ F', HD w u' p F' K (ProgramC C pb pp n1 n2 (zd ++ zp)).2 := by
 refine (Program_any u p F C h.ch hok pb pp da sa n1 dc n2 sc hl1 hl2 htr zd zp hD hZ hdF hzF).mono ?_
 rintro e v ⟨rfl, hc, ho⟩
 exact ⟨rfl, _, h.step hc ho⟩
theorem hd_progE {u0 : World} (h : HD w u0 p F K C) (hok : C.Ok) (hb : Below u0.heap.size u0 u) (pb pp : Int) (S : Nat) (hS : S ≤ 8) (v : Int) (hv : 0 ≤ v ∧ v ≤ 255) (g1 c1 g2 c2 : Nat) (o1 : Own u u0.heap.size g1 (256 * S) c1 (List.replicate (256 * S) v)) (o2 : Own u u0.heap.size g2 (54 + 3 * S) c2 (List.replicate (54 + 3 * S) v)) (htr : C.tr.length ≤ 3000000000000) :
  Calls Try.prog 53 #[.pointer (some ⟨p, 0, none⟩), .agg #[.int .i64 pb, .int .i64 pp], .agg #[.slice (some ⟨g1, 0, none⟩) (256 * S) c1, .slice (some ⟨g2, 0, none⟩) (54 + 3 * S) c2]] u fun e u' => e = .returned (.int .i64 (ProgramC C pb pp (256 * S) (54 + 3 * S) (List.replicate (256 * S) v ++ List.replicate (54 + 3 * S) v)).1) ∧ ∃ F', HD w u' p F' K (ProgramC C pb pp (256 * S) (54 + 3 * S) (List.replicate (256 * S) v ++ List.replicate (54 + 3 * S) v)).2 := by
 have hr : ∀ n : Nat, ∀ x ∈ List.replicate n v, 0 ≤ x ∧ x ≤ 255 := fun n x hx => by rw [(List.mem_replicate.1 hx).2]; exact hv
 have r1 := o1.reads (hr _) _ (Nat.le_refl _)
 have r2 := o2.reads (hr _) _ (Nat.le_refl _)
 rw [List.take_of_length_le (by simp)] at r1 r2
 exact hd_prog (h.below hb) hok pb pp _ _ _ _ _ _ (by omega) (by omega) htr _ _ r1 r2 (fun y hy hf => by cases hy; have h1 := h.ch.fin _ hf; have h2 := o1.lt.1; exact absurd h1 (Nat.not_lt.2 h2)) (fun y hy hf => by cases hy; have h1 := h.ch.fin _ hf; have h2 := o2.lt.1; exact absurd h1 (Nat.not_lt.2 h2))
end
structure Opc where
 k : Int
 b : Int
 p : Int
 bit : Int
 fit : Bool
 d : List Int
 z : List Int
def Opc.n1 (o : Opc) (S : Nat) : Nat := if o.fit then 256 * S else o.d.length
def Opc.n2 (o : Opc) (S : Nat) : Nat := if o.fit then 54 + 3 * S else o.z.length
def Opc.want (o : Opc) (S : Nat) : List Int := if o.fit then fitL o.d (256 * S) ++ fitL o.z (54 + 3 * S) else o.d ++ o.z
def doesC (C : Ch) (o : Opc) : Int × Ch :=
 if o.k = 1 then ProgramC C o.b o.p (o.n1 C.S) (o.n2 C.S) (o.want C.S) else if o.k = 2 then EraseC C o.b else if o.k = 3 then MarkC C o.b else if o.k = 4 then FlipC C o.b o.p o.bit else if o.k = 5 then (0, { C with dark := false }) else (0, C)
theorem cells7 {c0 c1 c2 c3 c4 c5 c6 : Value} {T : TypeId} (h : w.heap[g]? = some (.cells #[c0, c1, c2, c3, c4, c5, c6] T (0, 0))) : w.cell? ⟨g, 0, none⟩ = some c0 ∧ w.cell? ⟨g, 1, none⟩ = some c1 ∧ w.cell? ⟨g, 2, none⟩ = some c2 ∧ w.cell? ⟨g, 3, none⟩ = some c3 ∧ w.cell? ⟨g, 4, none⟩ = some c4 ∧ w.cell? ⟨g, 5, none⟩ = some c5 ∧ w.cell? ⟨g, 6, none⟩ = some c6 := by
 refine ⟨?_, ?_, ?_, ?_, ?_, ?_, ?_⟩ <;> simp [World.cell?, h]
structure PgA (w w' : World) (da : Option Addr) (dn : Nat) (za : Option Addr) (zn : Nat) (S : Nat) (o : Opc) (e : Ending) : Prop where
 ex : ∃ a1 n1 c1 a2 n2 c2 D Z, e = .returned (.agg #[.slice a1 n1 c1, .slice a2 n2 c2]) ∧ n1 = o.n1 S ∧ n2 = o.n2 S ∧ D ++ Z = o.want S ∧ Reads w' a1 n1 D ∧ Reads w' a2 n2 Z ∧ (∀ y, a1 = some y → (da = some y ∧ n1 = dn) ∨ w.heap.size ≤ y.block) ∧ (∀ y, a2 = some y → (za = some y ∧ n2 = zn) ∨ w.heap.size ≤ y.block)
 bel : Below w.heap.size w w'
theorem own_reads' {X : List Int} (h : Own w B g n c X) (hr : ∀ z ∈ X, 0 ≤ z ∧ z ≤ 255) : Reads w (some ⟨g, 0, none⟩) n X := by
 have h1 := h.reads hr n (Nat.le_refl _)
 rw [List.take_of_length_le (by rw [h.len]; exact Nat.le_refl _)] at h1
 exact h1
theorem fitL_range' {b : List Int} (h : ∀ z ∈ b, 0 ≤ z ∧ z ≤ 255) (n : Nat) : ∀ z ∈ fitL b n, 0 ≤ z ∧ z ≤ 255 := by
 intro z hz
 unfold fitL at hz
 obtain ⟨i, _, rfl⟩ := List.mem_map.1 hz
 rw [List.getD_eq_getElem?_getD]
 cases h1 : b[i % b.length]? with
 | none => simp
 | some y => exact h y (List.mem_of_getElem? h1)
structure PB (w u : World) (B P S : Nat) (o : Opc) (da : Option Addr) (dn dc : Nat) (za : Option Addr) (zn zc : Nat) : Prop where
 bel : Below w.heap.size w u
 bo : u.heap[w.heap.size]? = some (.cells #[.int .i64 o.k, .int .i64 o.b, .int .i64 o.p, .int .i64 o.bit, .bool o.fit, .slice da dn dc, .slice za zn zc] 56 (0, 0))
 bg : u.heap[w.heap.size + 1]? = some (.cells #[.int .i64 (B : Int), .int .i64 (P : Int), .int .i64 (S : Int)] 23 (0, 0))
 br : u.heap[w.heap.size + 1 + 1]? = some (.cells #[.slice none 0 0, .slice none 0 0] 36 (0, 0))
section
variable {w u v : World} {B P S : Nat} {o : Opc} {da : Option Addr} {dn dc : Nat} {za : Option Addr} {zn zc : Nat}
theorem PB.keep (h : PB w u B P S o da dn dc za zn zc) (hb : Below u.heap.size u v) : PB w v B P S o da dn dc za zn zc :=
 ⟨below_trans h.bel hb, (hb.block _ (lt_of_block h.bo)).trans h.bo, (hb.block _ (lt_of_block h.bg)).trans h.bg, (hb.block _ (lt_of_block h.br)).trans h.br⟩
theorem PB.start (w : World) (B P S : Nat) (o : Opc) (da : Option Addr) (dn dc : Nat) (za : Option Addr) (zn zc : Nat) : PB w (((w.alloc (.cells #[.int .i64 o.k, .int .i64 o.b, .int .i64 o.p, .int .i64 o.bit, .bool o.fit, .slice da dn dc, .slice za zn zc] 56)).alloc (.cells #[.int .i64 (B : Int), .int .i64 (P : Int), .int .i64 (S : Int)] 23)).alloc (.cells #[.slice none 0 0, .slice none 0 0] 36)) B P S o da dn dc za zn zc := by
 refine ⟨below_trans (below_trans (below_alloc _ _) (below_alloc _ _)) (below_alloc _ _), ?_, ?_, ?_⟩
 ·exact (alloc_old _ _ (by simp; omega)).trans ((alloc_old _ _ (by simp)).trans (alloc_new w _))
 ·refine (alloc_old _ _ (by simp)).trans ?_
  have h9 := alloc_new (w.alloc (.cells #[.int .i64 o.k, .int .i64 o.b, .int .i64 o.p, .int .i64 o.bit, .bool o.fit, .slice da dn dc, .slice za zn zc] 56)) (.cells #[.int .i64 (B : Int), .int .i64 (P : Int), .int .i64 (S : Int)] 23)
  rw [alloc_size] at h9
  exact h9
 ·have h9 := alloc_new ((w.alloc (.cells #[.int .i64 o.k, .int .i64 o.b, .int .i64 o.p, .int .i64 o.bit, .bool o.fit, .slice da dn dc, .slice za zn zc] 56)).alloc (.cells #[.int .i64 (B : Int), .int .i64 (P : Int), .int .i64 (S : Int)] 23)) (.cells #[.slice none 0 0, .slice none 0 0] 36)
  rw [alloc_size, alloc_size] at h9
  exact h9
theorem PB.s (h : PB w u B P S o da dn dc za zn zc) : u.cell? ⟨w.heap.size, 5, none⟩ = some (.slice da dn dc) ∧ u.cell? ⟨w.heap.size, 6, none⟩ = some (.slice za zn zc) ∧ u.cell? ⟨w.heap.size + 1, 0, none⟩ = some (.int .i64 (B : Int)) ∧ u.cell? ⟨w.heap.size + 1, 1, none⟩ = some (.int .i64 (P : Int)) ∧ u.cell? ⟨w.heap.size + 1, 2, none⟩ = some (.int .i64 (S : Int)) := by
 obtain ⟨_, _, _, _, _, h5, h6⟩ := cells7 h.bo
 obtain ⟨g0, g1, g2⟩ := cells3 h.bg
 exact ⟨h5, h6, g0, g1, g2⟩
theorem PB.store (h : PB w u B P S o da dn dc za zn zc) (v0 v1 : Value) : Below w.heap.size w ((u.setCell ⟨w.heap.size + 1 + 1, 0, none⟩ v0).setCell ⟨w.heap.size + 1 + 1, 1, none⟩ v1) ∧ ((u.setCell ⟨w.heap.size + 1 + 1, 0, none⟩ v0).setCell ⟨w.heap.size + 1 + 1, 1, none⟩ v1).heap[w.heap.size + 1 + 1]? = some (.cells #[v0, v1] 36 (0, 0)) ∧ Only (· = w.heap.size + 1 + 1) u ((u.setCell ⟨w.heap.size + 1 + 1, 0, none⟩ v0).setCell ⟨w.heap.size + 1 + 1, 1, none⟩ v1) := by
 have ho : Only (· = w.heap.size + 1 + 1) u ((u.setCell ⟨w.heap.size + 1 + 1, 0, none⟩ v0).setCell ⟨w.heap.size + 1 + 1, 1, none⟩ v1) := (Only.setCell (· = w.heap.size + 1 + 1) u (w.heap.size + 1 + 1) 0 v0 rfl).trans' (Only.setCell _ _ (w.heap.size + 1 + 1) 1 v1 rfl)
 exact ⟨h.bel.trans (ho.below (fun j hj => by omega) h.bel.size), heap_setCell_same _ _ 1 #[v0, .slice none 0 0] 36 v1 (heap_setCell_same u _ 0 _ 36 v0 h.br), ho⟩
end
theorem reads_only (h : Reads w a l zs) (ho : Only (· = g) w w') {c0 c1 : Value} (hg : w.heap[g]? = some (.cells #[c0, c1] 36 (0, 0))) (hne : ∀ y, a = some y → 0 < l → y.block ≠ g) : Reads w' a l zs :=
 reads_keep h (fun x hx h0 => by
  obtain ⟨b, off, e, hb, _⟩ := h.pos h0
  rw [e] at hx
  cases hx
  exact ho.block _ hb (hne _ e h0))
theorem pb_s {v : World} {P S : Nat} {o : Opc} {da : Option Addr} {dn dc : Nat} {za : Option Addr} {zn zc : Nat} (h : PB w u B P S o da dn dc za zn zc) (ho : Only (· = w.heap.size + 1 + 1) u v) : v.cell? ⟨w.heap.size, 5, none⟩ = some (.slice da dn dc) ∧ v.cell? ⟨w.heap.size, 6, none⟩ = some (.slice za zn zc) ∧ v.cell? ⟨w.heap.size + 1, 0, none⟩ = some (.int .i64 (B : Int)) ∧ v.cell? ⟨w.heap.size + 1, 1, none⟩ = some (.int .i64 (P : Int)) ∧ v.cell? ⟨w.heap.size + 1, 2, none⟩ = some (.int .i64 (S : Int)) := by
 obtain ⟨a, b, c, d, e⟩ := h.s
 exact ⟨ho.cell a (by omega), ho.cell b (by omega), ho.cell c (by omega), ho.cell d (by omega), ho.cell e (by omega)⟩
theorem page_any (w : World) (B P S : Nat) (hf : Fits B P S = true) (o : Opc) (da : Option Addr) (dn dc : Nat) (za : Option Addr) (zn zc : Nat) (hD : Reads w da dn o.d) (hZ : Reads w za zn o.z) (hdl : dn ≤ 9223372036854775807) (hzl : zn ≤ 9223372036854775807) :
  Calls Try.prog 27 #[.agg #[.int .i64 o.k, .int .i64 o.b, .int .i64 o.p, .int .i64 o.bit, .bool o.fit, .slice da dn dc, .slice za zn zc], .agg #[.int .i64 (B : Int), .int .i64 (P : Int), .int .i64 (S : Int)]] w fun e w' => PgA w w' da dn za zn S o e := by
 have hFB := of_decide_eq_true hf
 have hS : 1 ≤ S ∧ S ≤ 8 := by omega
 have H0 := J (PB.start w B P S o da dn dc za zn zc)
 have HDL := J hD.1
 have HZL := J hZ.1
 have HDr := J hD
 have HZ := J hZ
 clear hFB hD hZ
 cases hfit : o.fit with
 | false =>
  have HFI := J hfit
  go_enter Try.func27, Try.ntmps27
  go_wp2
  have hb := below_trans (below_trans (below_alloc w (.cells #[.int .i64 o.k, .int .i64 o.b, .int .i64 o.p, .int .i64 o.bit, .bool false, .slice da dn dc, .slice za zn zc] 56)) (below_alloc _ (.cells #[.int .i64 (B : Int), .int .i64 (P : Int), .int .i64 (S : Int)] 23))) (below_alloc _ (.cells #[.slice da dn dc, .slice za zn zc] 36))
  refine bodyPost_ret (v := .agg #[.slice da dn dc, .slice za zn zc]) (by simp [results, Try.results27, go_sem]) rfl ?_
  have h1 := HDL.out
  have h2 := HZL.out
  exact ⟨⟨da, dn, dc, za, zn, zc, o.d, o.z, rfl, by simp [Opc.n1, hfit, h1], by simp [Opc.n2, hfit, h2], by simp [Opc.want, hfit], HDr.out.below hb, HZ.out.below hb, fun y hy => Or.inl ⟨hy, rfl⟩, fun y hy => Or.inl ⟨hy, rfl⟩⟩, hb⟩
 | true =>
  have HFI := J hfit
  obtain ⟨n1, hn1⟩ : ∃ n1, n1 = 256 * S := ⟨_, rfl⟩
  obtain ⟨n2, hn2⟩ : ∃ n2, n2 = 54 + 3 * S := ⟨_, rfl⟩
  have HN1 : Hid ((256 : Int) * (S : Int) = (n1 : Int)) := by unfold Hid; omega
  have HN2 : Hid ((54 : Int) + 3 * (S : Int) = (n2 : Int)) := by unfold Hid; omega
  have HE := J (And.intro hn1 hn2)
  have p1 : 0 < n1 := by omega
  have p2 : 0 < n2 := by omega
  have l1 : n1 ≤ 1000000 := by omega
  have l2 : n2 ≤ 1000000 := by omega
  have hSi : (1 : Int) ≤ (S : Int) ∧ (S : Int) ≤ 8 := by omega
  clear hn1 hn2
  have H0 : Hid (PB w (((w.alloc (.cells #[.int .i64 o.k, .int .i64 o.b, .int .i64 o.p, .int .i64 o.bit, .bool true, .slice da dn dc, .slice za zn zc] 56)).alloc (.cells #[.int .i64 (B : Int), .int .i64 (P : Int), .int .i64 (S : Int)] 23)).alloc (.cells #[.slice none 0 0, .slice none 0 0] 36)) B P S o da dn dc za zn zc) := by rw [← hfit]; exact H0
  go_enter Try.func27, Try.ntmps27
  go_upto_region 4 with (first | (go_at_call 42; refine (rSpare_any _ B P S hf).mono ?_; rintro e u0 ⟨rfl, b0⟩; rw [HN2.out]; have H1 := J (H0.out.keep b0); clear b0))
  have H2 := J (H1.out.keep (drew_below _))
  refine wp_region_held_drew (S := (fun u => u.cell? ⟨w.heap.size, 5, none⟩ = some (.slice da dn dc) ∧ u.cell? ⟨w.heap.size, 6, none⟩ = some (.slice za zn zc) ∧ u.cell? ⟨w.heap.size + 1, 0, none⟩ = some (.int .i64 (B : Int)) ∧ u.cell? ⟨w.heap.size + 1, 1, none⟩ = some (.int .i64 (P : Int)) ∧ u.cell? ⟨w.heap.size + 1, 2, none⟩ = some (.int .i64 (S : Int)))) (by kernel_rfl) (H2.out.s) fun O => ?_
  refine tk 0 ?_
  refine tk 1 ?_
  refine tk 2 ?_
  refine tk 3 ?_
  refine tk 6 ?_
  refine tk 7 ?_
  refine tk 8 ?_
  refine tk 9 ?_
  refine rd 4 fun K N => ?_
  go_simp
  go_at_call 44
  refine (rdata_any _ _ _ _ (by omega) (by omega)).mono ?_
  rintro e u3 ⟨rfl, b3⟩
  rw [HN1.out]
  have H3 := J (H2.out.keep b3)
  have hZ := H3.out.s
  clear b3
  go_wp2_with fail
  clear O
  refine N.out _ _ hZ fun O => ?_
  clear N K hZ
  try simp only [zz]
  refine rd 5 fun K N => ?_
  go_simp
  go_at_call 43
  refine (fit_any da dn dc o.d _ (HDr.out.below H3.out.bel) hdl n1 (by omega)).mono ?_
  rintro e u4 ⟨v4, rfl, ow4, b4⟩
  obtain ⟨g1, c1, rfl, _⟩ := own_shape ow4 (by omega)
  have H4 := J (H3.out.keep b4)
  have HO1 := J ow4
  have HLO1 := J (Own.lt ow4).1
  have hZ := H4.out.s
  clear b4 ow4
  go_wp2_with fail
  clear O
  refine N.out _ _ hZ fun O => ?_
  clear N K hZ
  try simp only [zz]
  refine rd 10 fun K N => ?_
  go_simp
  go_at_call 43
  refine (fit_any za zn zc o.z _ (HZ.out.below H4.out.bel) hzl n2 (by omega)).mono ?_
  rintro e u5 ⟨v5, rfl, ow5, b5⟩
  obtain ⟨g2, c2, rfl, _⟩ := own_shape ow5 (by omega)
  have H5 := J (H4.out.keep b5)
  have HO2 := J ow5
  have HO1b := J (Own.below HO1.out b5)
  have hZ := H5.out.s
  obtain ⟨x0, x1⟩ := cells2 H5.out.br
  have fx := fun j => frozen_of_row u5 (w.heap.size + 1 + 1) j _ 36 H5.out.br
  clear b5 ow5
  go_wp2_with fail
  clear O
  refine N.out _ _ hZ fun O => ?_
  clear N K hZ
  try simp only [zz]
  refine tk 11 ?_
  refine rd 12 fun K N => ?_
  go_simp
  go_wp2_with fail
  have HST := H5.out.store (.slice (some ⟨g1, 0, none⟩) n1 c1) (.slice (some ⟨g2, 0, none⟩) n2 c2)
  have HS1 := J HST
  have hZ := pb_s H5.out HST.2.2
  clear HST
  clear O
  refine N.out _ _ hZ fun O => ?_
  clear N K hZ
  try simp only [zz]
  refine td ?_
  clear O x0 x1 fx
  obtain ⟨st1, st2, st3⟩ := HS1.out
  generalize hU : World.setCell _ ⟨w.heap.size + 1 + 1, 1, none⟩ _ = U9 at st1 st2 st3 ⊢
  obtain ⟨y0, y1⟩ := cells2 st2
  go_wp2
  refine bodyPost_ret (v := .agg #[.slice (some ⟨g1, 0, none⟩) n1 c1, .slice (some ⟨g2, 0, none⟩) n2 c2]) (by simp [results, Try.results27, go_sem, y0, y1]) rfl ?_
  have e1 := HE.out.1
  have e2 := HE.out.2
  have q1 : Reads u5 (some ⟨g1, 0, none⟩) n1 (fitL o.d n1) := own_reads' HO1b.out (fitL_range' HDr.out.2.1 _)
  have q2 : Reads u5 (some ⟨g2, 0, none⟩) n2 (fitL o.z n2) := own_reads' HO2.out (fitL_range' HZ.out.2.1 _)
  have hw3 := lt_of_block H3.out.br
  have hw4 := lt_of_block H4.out.br
  have hg1 : u3.heap.size ≤ g1 := HO1b.out.lt.1
  have hg2 : u4.heap.size ≤ g2 := (HO2.out.lt g2 rfl).1
  refine ⟨⟨_, _, _, _, _, _, fitL o.d n1, fitL o.z n2, rfl, by simp [Opc.n1, HFI.out, e1], by simp [Opc.n2, HFI.out, e2], by simp [Opc.want, HFI.out, e1, e2], reads_only q1 st3 H5.out.br (fun y hy _ => by cases hy; show g1 ≠ _; omega), reads_only q2 st3 H5.out.br (fun y hy _ => by cases hy; show g2 ≠ _; omega), fun y hy => ?_, fun y hy => ?_⟩, st1⟩
  ·cases hy; exact Or.inr (show w.heap.size ≤ g1 by omega)
  ·cases hy; exact Or.inr (show w.heap.size ≤ g2 by omega)
theorem Program_any0 (w : World) (p : Nat) (F : Nat → Prop) (C : Ch) (h : ChipAt w p F C) (hok : C.Ok) (pb pp : Int) (da sa : Option Addr) (n1 dc n2 sc : Nat) (hl1 : n1 ≤ 140737488355000) (hl2 : n2 ≤ 140737488355000) (htr : C.tr.length ≤ 3000000000000) (zd zp : List Int) (hD : Reads w da n1 zd) (hZ : Reads w sa n2 zp) (hdF : ∀ y, da = some y → 0 < n1 → ¬ F y.block) (hzF : ∀ y, sa = some y → 0 < n2 → ¬ F y.block) :
  Calls Try.prog 53 #[.pointer (some ⟨p, 0, none⟩), .agg #[.int .i64 pb, .int .i64 pp], .agg #[.slice da n1 dc, .slice sa n2 sc]] w fun e w' => e = .returned (.int .i64 (ProgramC C pb pp n1 n2 (zd ++ zp)).1) ∧ ChipAt w' p (Fx F w w') (ProgramC C pb pp n1 n2 (zd ++ zp)).2 ∧ Only F w w' := by
 unfold ProgramC
 cases hd : C.dark with
 | true =>
  refine (Program_dark w p F C h hok pb pp da sa n1 dc n2 sc hd).mono ?_
  rintro e w' ⟨rfl, hb⟩
  exact ⟨rfl, h.fx hb, Only.ofB hb⟩
 | false =>
  simp only [Bool.false_eq_true, if_false]
  by_cases e1 : n1 = 256 * C.S
  ·have d1 : ((n1 : Int) != 256 * (C.S : Int)) = false := by have : (n1 : Int) = 256 * C.S := by omega
                                                             simpa using this
   by_cases e2 : n2 = 54 + 3 * C.S
   ·have d2 : ((n2 : Int) != 54 + 3 * (C.S : Int)) = false := by have : (n2 : Int) = 54 + 3 * C.S := by omega
                                                                 simpa using this
    rw [if_neg (by omega)]
    exact Program_ok w p F C h hok pb pp da sa n1 dc n2 sc hl1 hl2 htr hd d1 d2 zd zp hD hZ (fun y hy => hdF y hy (by have := hok.s; omega)) (fun y hy => hzF y hy (by omega))
   ·have d2 : ((n2 : Int) != 54 + 3 * (C.S : Int)) = true := by have : ¬ (n2 : Int) = 54 + 3 * C.S := by omega
                                                                simpa using this
    rw [if_pos (Or.inr e2)]
    refine (Program_n2 w p F C h hok pb pp da sa n1 dc n2 sc hl1 hl2 hd d1 d2).mono ?_
    rintro e w' ⟨rfl, hb⟩
    exact ⟨rfl, h.fx hb, Only.ofB hb⟩
  ·have d1 : ((n1 : Int) != 256 * (C.S : Int)) = true := by have : ¬ (n1 : Int) = 256 * C.S := by omega
                                                            simpa using this
   rw [if_pos (Or.inl e1)]
   refine (Program_n1 w p F C h hok pb pp da sa n1 dc n2 sc hl1 hd d1).mono ?_
   rintro e w' ⟨rfl, hb⟩
   exact ⟨rfl, h.fx hb, Only.ofB hb⟩
theorem tr_cells {tr : List Cmd} (h : w.ownsRow B 120 4 (.slice (some ⟨g, 0, none⟩) n c) n (tr.flatMap Cmd.cells)) {m : Nat} {x : Cmd} (hx : tr[m]? = some x) : w.cell? ⟨g, m * 4, none⟩ = some (.int .i64 x.k) ∧ w.cell? ⟨g, m * 4 + 1, none⟩ = some (.int .i64 x.b) ∧ w.cell? ⟨g, m * 4 + 2, none⟩ = some (.int .i64 x.p) ∧ w.cell? ⟨g, m * 4 + 3, none⟩ = some (.int .i64 x.s) := by
 have hm : m < tr.length := (List.getElem?_eq_some_iff.1 hx).1
 have hl := flat_len Cmd.cells 4 Cmd.cells_len tr
 have c : ∀ j, j < 4 → w.cell? ⟨g, m * 4 + j, none⟩ = x.cells[j]? := fun j hj => by
  rw [World.ownsRow.cellAt h (m * 4 + j) (by have := h.1; omega)]
  exact flat_get Cmd.cells 4 Cmd.cells_len j hj tr m x hx
 exact ⟨c 0 (by omega), c 1 (by omega), c 2 (by omega), c 3 (by omega)⟩
theorem sameTrace_eq (w : World) (a1 a2 : Option Addr) (n c1 c2 B1 B2 : Nat) (tr : List Cmd) (h1 : w.ownsRow B1 120 4 (.slice a1 n c1) n (tr.flatMap Cmd.cells)) (h2 : w.ownsRow B2 120 4 (.slice a2 n c2) n (tr.flatMap Cmd.cells)) (hn : n ≤ 9223372036854775806) :
  Calls Try.prog 23 #[.slice a1 n c1, .slice a2 n c2] w fun e w' => e = .returned (.bool true) ∧ Below w.heap.size w w' := by
 have HL : Hid (tr.length = n) := by
  unfold Hid
  have h3 := h1.1
  rw [flat_len Cmd.cells 4 Cmd.cells_len] at h3
  omega
 have HH1 := J h1
 have HH2 := J h2
 clear h1 h2
 go_enter Try.func23, Try.ntmps23
 go_wp2
 go_loopw [5] (fun i wr => ∃ m : Nat, m ≤ n ∧ i = .int .i64 m ∧ Hid (Below w.heap.size w wr)) (fun i _ => n - (intOf i).toNat)
 case atStart => exact ⟨0, Nat.zero_le _, rfl, Below.refl _ _⟩
 case round =>
  obtain ⟨m, hm, rfl, HBr⟩ := hrel
  by_cases hlt : m < n
  ·have dm : decide ((m : Int) < (n : Int)) = true := decide_eq_true (by omega)
   have m1 : (m : Int) < (n : Int) := by omega
   have hml : m < tr.length := by rw [HL.out]; exact hlt
   obtain ⟨x, hx⟩ : ∃ x, tr[m]? = some x := ⟨_, List.getElem?_eq_getElem hml⟩
   obtain ⟨g1, d1, q1, _⟩ := HH1.out.form (by omega)
   obtain ⟨g2, d2, q2, _⟩ := HH2.out.form (by omega)
   cases q1
   cases q2
   obtain ⟨a0, a1, a2, a3⟩ := tr_cells HH1.out hx
   obtain ⟨e0, e1, e2, e3⟩ := tr_cells HH2.out hx
   have a0 := (HBr.out.cell (block_lt_of_cell a0)).trans a0
   have a1 := (HBr.out.cell (block_lt_of_cell a1)).trans a1
   have a2 := (HBr.out.cell (block_lt_of_cell a2)).trans a2
   have a3 := (HBr.out.cell (block_lt_of_cell a3)).trans a3
   have e0 := (HBr.out.cell (block_lt_of_cell e0)).trans e0
   have e1 := (HBr.out.cell (block_lt_of_cell e1)).trans e1
   have e2 := (HBr.out.cell (block_lt_of_cell e2)).trans e2
   have e3 := (HBr.out.cell (block_lt_of_cell e3)).trans e3
   clear hx hml
   go_wp2
   refine wp_region_held_drew (S := (fun u => u.cell? ⟨g1, m * 4, none⟩ = some (.int .i64 x.k) ∧ u.cell? ⟨g1, m * 4 + 1, none⟩ = some (.int .i64 x.b) ∧ u.cell? ⟨g1, m * 4 + 2, none⟩ = some (.int .i64 x.p) ∧ u.cell? ⟨g1, m * 4 + 3, none⟩ = some (.int .i64 x.s) ∧ u.cell? ⟨g2, m * 4, none⟩ = some (.int .i64 x.k) ∧ u.cell? ⟨g2, m * 4 + 1, none⟩ = some (.int .i64 x.b) ∧ u.cell? ⟨g2, m * 4 + 2, none⟩ = some (.int .i64 x.p) ∧ u.cell? ⟨g2, m * 4 + 3, none⟩ = some (.int .i64 x.s))) (by kernel_rfl) (⟨a0, a1, a2, a3, e0, e1, e2, e3⟩) fun O => ?_
   refine tk 0 ?_
   refine tk 1 ?_
   refine tk 2 ?_
   refine tk 3 ?_
   refine tk 4 ?_
   refine tk 5 ?_
   refine tk 6 ?_
   refine tk 7 ?_
   refine tk 8 ?_
   refine td ?_
   clear O
   go_wp2
   go_roundw
   case rel => exact ⟨m + 1, by omega, by go_num, below_trans HBr.out (drew_below _)⟩
   case measure => simp [intOf]; omega
  ·have dm : decide ((m : Int) < (n : Int)) = false := decide_eq_false (by omega)
   go_wp2
   go_ret
   exact ⟨rfl, HBr.out⟩
structure Ox where
 o : Opc
 da : Option Addr
 dn : Nat
 dc : Nat
 za : Option Addr
 zn : Nat
 zc : Nat
def Ox.zero : Ox := ⟨⟨0, 0, 0, 0, false, [], []⟩, none, 0, 0, none, 0, 0⟩
def Ox.cell (x : Ox) : Nat → Value
 | 0 => .int .i64 x.o.k
 | 1 => .int .i64 x.o.b
 | 2 => .int .i64 x.o.p
 | 3 => .int .i64 x.o.bit
 | 4 => .bool x.o.fit
 | 5 => .slice x.da x.dn x.dc
 | _ => .slice x.za x.zn x.zc
structure OxOk (w : World) (x : Ox) : Prop where
 d : Reads w x.da x.dn x.o.d
 z : Reads w x.za x.zn x.o.z
 dl : x.dn ≤ 140737488351232
 zl : x.zn ≤ 140737488351232
 bit : x.o.bit ≤ 9223372036854775807
def ReadsO (w : World) (a : Option Addr) (len : Nat) (xs : List Ox) : Prop :=
 xs.length = len ∧ (∀ x ∈ xs, OxOk w x) ∧ (a = none → len = 0) ∧ ∀ y, a = some y → ∀ i, i < len → ∀ j, j < 7 → w.cell? (y.add (i * 7 + j)) = some ((xs.getD i Ox.zero).cell j)
theorem OxOk.below {x : Ox} (h : OxOk w x) (hb : Below w.heap.size w w') : OxOk w' x := ⟨h.d.below hb, h.z.below hb, h.dl, h.zl, h.bit⟩
theorem reads_low (h : Reads w a l zs) {y : Addr} (hy : a = some y) (h0 : 0 < l) : y.block < w.heap.size := by
 obtain ⟨b, off, e, hb, _⟩ := h.pos h0
 rw [hy] at e
 cases e
 exact hb
theorem ReadsO.pos {len : Nat} {xs : List Ox} (h : ReadsO w a len xs) {i : Nat} (hi : i < len) : ∃ b off x, a = some ⟨b, off, none⟩ ∧ b < w.heap.size ∧ xs[i]? = some x ∧ OxOk w x ∧ w.cell? ⟨b, off + i * 7, none⟩ = some (.int .i64 x.o.k) ∧ w.cell? ⟨b, off + i * 7 + 1, none⟩ = some (.int .i64 x.o.b) ∧ w.cell? ⟨b, off + i * 7 + 2, none⟩ = some (.int .i64 x.o.p) ∧ w.cell? ⟨b, off + i * 7 + 3, none⟩ = some (.int .i64 x.o.bit) ∧ w.cell? ⟨b, off + i * 7 + 4, none⟩ = some (.bool x.o.fit) ∧ w.cell? ⟨b, off + i * 7 + 5, none⟩ = some (.slice x.da x.dn x.dc) ∧ w.cell? ⟨b, off + i * 7 + 6, none⟩ = some (.slice x.za x.zn x.zc) := by
 obtain ⟨hl, hok, hn, hc⟩ := h
 cases a with
 | none => have := hn rfl; omega
 | some y =>
  obtain ⟨b, off, spot⟩ := y
  have h0 := hc _ rfl 0 (by omega) 0 (by omega)
  have hspot : spot = none := by simpa [Addr.add] using World.cell?_spot h0
  subst hspot
  have hil : i < xs.length := by omega
  have e : xs.getD i Ox.zero = xs[i] := by rw [List.getD_eq_getElem?_getD, List.getElem?_eq_getElem hil]; rfl
  have k : ∀ j, j < 7 → w.cell? ⟨b, off + i * 7 + j, none⟩ = some (xs[i].cell j) := fun j hj => by
   have h1 := hc _ rfl i hi j hj
   rw [plain_add, e] at h1
   rw [Nat.add_assoc]
   exact h1
  refine ⟨b, off, xs[i], rfl, by simpa [Addr.add] using block_lt_of_cell h0, List.getElem?_eq_getElem hil, hok _ (List.getElem_mem hil), k 0 (by omega), k 1 (by omega), k 2 (by omega), k 3 (by omega), k 4 (by omega), k 5 (by omega), k 6 (by omega)⟩
theorem noteC_len (k a b : Int) (r : Int × Ch) : (noteC k a b r).2.tr.length = r.2.tr.length + 1 := by simp [noteC]
theorem ProgramC_tr (C : Ch) (pb pp : Int) (n1 n2 : Nat) (want : List Int) : (ProgramC C pb pp n1 n2 want).2.tr.length ≤ C.tr.length + 1 := by
 unfold ProgramC
 split
 ·exact Nat.le_succ _
 split
 ·exact Nat.le_succ _
 rw [noteC_len]
 unfold progC
 split
 ·exact Nat.le_refl _
 split
 ·exact Nat.le_refl _
 split
 ·exact Nat.le_refl _
 split <;> exact Nat.le_refl _
theorem EraseC_tr (C : Ch) (pb : Int) : (EraseC C pb).2.tr.length ≤ C.tr.length + 1 := by
 unfold EraseC
 split
 ·exact Nat.le_succ _
 rw [noteC_len, eraseC_tr]
 exact Nat.le_refl _
theorem MarkC_tr (C : Ch) (pb : Int) : (MarkC C pb).2.tr.length ≤ C.tr.length + 1 := by
 unfold MarkC
 split
 ·exact Nat.le_succ _
 rw [noteC_len, markC_tr]
 exact Nat.le_refl _
theorem FlipC_tr (C : Ch) (pb pp bit : Int) : (FlipC C pb pp bit).2.tr = C.tr := by
 unfold FlipC
 split
 ·rfl
 split
 ·rfl
 split
 ·rfl
 split <;> rfl
structure Life (C : Ch) (n : Nat) : Prop where
 ok : C.Ok
 tr : C.tr.length ≤ n
 fl : FlN C n
theorem Life.does (h : Life C n) (o : Opc) : Life (doesC C o).2 (n + 1) := by
 have hl : Life C (n + 1) := ⟨h.ok, Nat.le_succ_of_le h.tr, h.fl.mono (Nat.le_succ _)⟩
 have htr := h.tr
 unfold doesC
 split
 ·exact ⟨ProgramC_ok _ h.ok _ _ _ _ _, Nat.le_trans (ProgramC_tr _ _ _ _ _ _) (by omega), fun b p => by rw [ProgramC_fl]; exact hl.fl b p⟩
 split
 ·exact ⟨EraseC_ok _ h.ok _, Nat.le_trans (EraseC_tr _ _) (by omega), EraseC_fl hl.fl _⟩
 split
 ·exact ⟨MarkC_ok _ h.ok _, Nat.le_trans (MarkC_tr _ _) (by omega), fun b p => by rw [MarkC_fl]; exact hl.fl b p⟩
 split
 ·exact ⟨FlipC_ok _ h.ok _ _ _, by rw [FlipC_tr]; omega, FlipC_fl h.fl _ _ _⟩
 split
 ·exact ⟨On_ok _ h.ok, hl.tr, hl.fl⟩
 ·exact hl
theorem newC_life (B P S : Nat) (bad : List Int) (q : List Ft) (hf : Fits B P S = true) : Life (newC B P S bad q) 0 := ⟨newC_ok B P S bad q hf, Nat.le_refl _, newC_fl B P S bad q⟩
theorem fmb_cons {l : Int} {c : Fc} {r : List Fc} (h : fmb l (c :: r) = true) : (decide (c.a ≤ l) || (c.k != 1 && c.k != 2)) = false ∧ fmb c.a r = true := by
 unfold fmb at h
 split at h
 ·cases h
 ·rename_i h1
  exact ⟨by simpa using h1, h⟩
theorem fmb_mono {l l' : Int} (hl : l' ≤ l) : ∀ {fs : List Fc}, fmb l fs = true → fmb l' fs = true
 | [], _ => rfl
 | c :: r, h => by
  obtain ⟨h1, h2⟩ := fmb_cons h
  have h3 : (decide (c.a ≤ l') || (c.k != 1 && c.k != 2)) = false := by
   rw [Bool.or_eq_false_iff] at h1 ⊢
   refine ⟨decide_eq_false (fun h9 => ?_), h1.2⟩
   have := of_decide_eq_false h1.1
   omega
  unfold fmb
  rw [if_neg (by rw [h3]; decide)]
  exact h2
theorem fmb_rises : ∀ (fs : List Fc) (last : Int), fmb last fs = true → (∀ f ∈ fs, last < f.a) ∧ fs.Pairwise (fun f g => f.a < g.a) ∧ ∀ n : Int, fmb last (fs.filter (fun f => decide (f.a < n))) = true
 | [], last, _ => ⟨(fun f hf => by cases hf), List.Pairwise.nil, fun _ => rfl⟩
 | c :: r, last, h => by
  obtain ⟨h1, h2⟩ := fmb_cons h
  obtain ⟨i1, i2, i3⟩ := fmb_rises r c.a h2
  have hc : last < c.a := by
   rw [Bool.or_eq_false_iff] at h1
   have := of_decide_eq_false h1.1
   omega
  refine ⟨fun f hf => ?_, List.pairwise_cons.2 ⟨i1, i2⟩, fun n => ?_⟩
  ·rcases List.mem_cons.1 hf with rfl | hf
   ·exact hc
   ·have := i1 f hf; omega
  ·by_cases hn : c.a < n
   ·rw [List.filter_cons_of_pos (by simpa using hn)]
    unfold fmb
    rw [if_neg (by rw [h1]; decide)]
    exact i3 n
   ·rw [List.filter_cons_of_neg (by simpa using hn)]
    exact fmb_mono (by omega) (i3 n)
def Fc.row (c : Fc) : List Value := [.int .i64 c.a, .int .i64 c.k, .slice c.ma c.ml c.mc, .int .u8 c.f]
theorem Fc.row_len (c : Fc) : c.row.length = 4 := rfl
theorem readsF_own {xs : List Fc} (h : u.ownsRow B 58 4 (.slice a n c) n (xs.flatMap Fc.row)) (hok : ∀ x ∈ xs, FcOk u x) : ReadsF u a n xs := by
 have hl := flat_len Fc.row 4 Fc.row_len xs
 have hn : xs.length = n := by have := h.1; omega
 refine ⟨hn, hok, ?_, fun y hy i hi j hj => ?_⟩
 ·intro ha
  rcases h.2 with ⟨_, h0⟩ | ⟨g, cap, cur, hv, _⟩
  ·exact h0
  ·rw [ha] at hv; cases hv
 ·obtain ⟨g, c', hv, _⟩ := h.form (by omega)
  cases hv
  cases hy
  rw [plain_add, Nat.zero_add]
  have hil : i < xs.length := by omega
  rw [World.ownsRow.cellAt h (i * 4 + j) (by omega), flat_get Fc.row 4 Fc.row_len j hj xs i xs[i] (List.getElem?_eq_getElem hil)]
  rw [List.getD_eq_getElem?_getD, List.getElem?_eq_getElem hil]
  simp only [Option.getD_some]
  rcases j with _ | _ | _ | _ | j
  ·rfl
  ·rfl
  ·rfl
  ·rfl
  ·omega
theorem owns_bel {v' : World} {e size : Nat} {v : Value} {xs : List Value} (h : u.ownsRow B e size v n xs) (hb : Below u.heap.size u v') : v'.ownsRow B e size v n xs := owns_keep h (fun g hg => by obtain ⟨cs, hcs⟩ := own_tag h hg; exact hb.block g (lt_of_block hcs))
end Go.Proofs.Ytadlkikjfonkgaa
