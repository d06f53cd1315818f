/-
  SEAT YtnmnhgagnfodhaaDoor: KHa, KHb, KLu, KLo, KLp.
-/
import Derived.Test.YtnmnhgagnfodhaaDoorMs
import Derived.Test.YtnmnhgagnfodhaaDoorMt
import Derived.Test.YtnmnhgagnfodhaaDoorMa
namespace Go.Proofs.YtnmnhgagnfodhaaDoor.Cp
open Go.RowKit Go.Conc
set_option linter.unusedVariables false
end Go.Proofs.YtnmnhgagnfodhaaDoor.Cp
namespace Go.Proofs.YtnmnhgagnfodhaaDoor.Cp
open Go.RowKit Go.Conc
set_option linter.unusedVariables false
def FlN (C : Ch) (n : Nat) : Prop := ∀ b p, (C.fl b p).length ≤ n
theorem FlN.mono {C : Ch} {n m : Nat} (h : FlN C n) (hm : n ≤ m) : FlN C m := fun b p => Nat.le_trans (h b p) hm
theorem newC_fl (B P S : Nat) (bad : List Int) (q : List Ft) : FlN (newC B P S bad q) 0 := fun _ _ => Nat.le_refl _
theorem ProgramC_fl (C : Ch) (pb pp : Int) (n1 n2 : Nat) (want : List Int) : (ProgramC C pb pp n1 n2 want).2.fl = C.fl := by
 unfold ProgramC
 split
 ·rfl
 split
 ·rfl
 unfold progC
 split
 ·rfl
 split
 ·rfl
 split
 ·rfl
 split <;> rfl
theorem MarkC_fl (C : Ch) (pb : Int) : (MarkC C pb).2.fl = C.fl := by
 unfold MarkC
 split
 ·rfl
 unfold markC
 split
 ·rfl
 split <;> rfl
theorem flJ_len (f : Int → Int → List Nat) (b : Int) : ∀ (j : Nat) (x p : Int), (flJ f b j x p).length ≤ (f x p).length
 | 0, _, _ => Nat.le_refl _
 | j + 1, x, p => by
  unfold flJ
  split
  ·exact Nat.zero_le _
  ·exact flJ_len f b j x p
theorem EraseC_fl {C : Ch} {n : Nat} (h : FlN C n) (pb : Int) : FlN (EraseC C pb).2 n := by
 unfold EraseC
 split
 ·exact h
 unfold eraseC
 split
 ·exact h
 split
 ·exact h
 split
 ·exact h
 exact fun b p => Nat.le_trans (flJ_len _ _ _ b p) (h b p)
theorem FlipC_fl {C : Ch} {n : Nat} (h : FlN C n) (pb pp bit : Int) : FlN (FlipC C pb pp bit).2 (n + 1) := by
 have h' : FlN C (n + 1) := h.mono (Nat.le_succ _)
 unfold FlipC
 split
 ·exact h'
 split
 ·exact h'
 split
 ·exact h'
 split
 ·exact h'
 intro b p
 show (flS C.fl pb pp bit.toNat b p).length ≤ _
 unfold flS
 split
 ·have := h pb pp
  simp
  exact h _ _
 ·exact h' b p
structure HD (w u : World) (p : Nat) (F : Nat → Prop) (K : List (Nat × Obj)) (C : Ch) : Prop where
 bel : Below w.heap.size w u
 ch : ChipAt u p F C
 lo : ∀ k, F k → w.heap.size ≤ k
 kp : ∀ x ∈ K, u.heap[x.1]? = some x.2 ∧ ¬ F x.1 ∧ w.heap.size ≤ x.1
theorem HD.blk {w u : World} {p : Nat} {F : Nat → Prop} {K : List (Nat × Obj)} {C : Ch} (h : HD w u p F K C) {g : Nat} {o : Obj} (hm : (g, o) ∈ K) : u.heap[g]? = some o := (h.kp _ hm).1
theorem HD.below {w u v : World} {p : Nat} {F : Nat → Prop} {K : List (Nat × Obj)} {C : Ch} (h : HD w u p F K C) (hb : Below u.heap.size u v) : HD w v p F K C :=
 ⟨below_trans h.bel hb, h.ch.below hb, h.lo, fun x hx => ⟨(hb.block _ (lt_of_block (h.kp x hx).1)).trans (h.kp x hx).1, (h.kp x hx).2⟩⟩
theorem HD.step {w u v : World} {p : Nat} {F : Nat → Prop} {K : List (Nat × Obj)} {C C' : Ch} (h : HD w u p F K C) (hc : ChipAt v p (Fx F u v) C') (ho : Only F u v) : HD w v p (Fx F u v) K C' := by
 refine ⟨h.bel.trans (ho.below h.lo h.bel.size), hc, fun k hk => ?_, fun x hx => ?_⟩
 ·rcases hk with hk | hk
  ·exact h.lo k hk
  ·exact Nat.le_trans h.bel.size hk.1
 ·obtain ⟨h1, h2, h3⟩ := h.kp x hx
  have hl := lt_of_block h1
  exact ⟨(ho.block _ hl h2).trans h1, fun hf => hf.elim h2 (fun h9 => by omega), h3⟩
theorem HD.hold {w u : World} {p : Nat} {F : Nat → Prop} {K : List (Nat × Obj)} {C : Ch} (h : HD w u p F K C) {g : Nat} {o : Obj} (hg : u.heap[g]? = some o) (hf : ¬ F g) (hw : w.heap.size ≤ g) : HD w u p F ((g, o) :: K) C :=
 ⟨h.bel, h.ch, h.lo, fun x hx => by
  rcases List.mem_cons.1 hx with h1 | h1
  ·rw [h1]; exact ⟨hg, hf, hw⟩
  ·exact h.kp x h1⟩
theorem HD.less {w u : World} {p : Nat} {F : Nat → Prop} {K K' : List (Nat × Obj)} {C : Ch} (h : HD w u p F K C) (hs : ∀ x ∈ K', x ∈ K) : HD w u p F K' C := ⟨h.bel, h.ch, h.lo, fun x hx => h.kp x (hs x hx)⟩
section
variable {w u : World} {p : Nat} {F : Nat → Prop} {K : List (Nat × Obj)} {C : Ch}
theorem hd_erase (h : HD w u p F K C) (hok : C.Ok) (htr : C.tr.length ≤ 3000000000000) (pb : Int) : Calls Tryd.prog 26 #[.pointer (some ⟨p, 0, none⟩), .int .i64 pb] u fun e u' => e = .returned (.int .i64 (EraseC C pb).1) ∧ ∃ F', HD w u' p F' K (EraseC C pb).2 := by
 refine (Erase_any u p F C h.ch hok htr pb).mono ?_
 rintro e v ⟨rfl, hc, ho⟩
 exact ⟨rfl, _, h.step hc ho⟩
theorem hd_mark (h : HD w u p F K C) (hok : C.Ok) (htr : C.tr.length ≤ 3000000000000) (pb : Int) : Calls Tryd.prog 27 #[.pointer (some ⟨p, 0, none⟩), .int .i64 pb] u fun e u' => e = .returned (.int .i64 (MarkC C pb).1) ∧ ∃ F', HD w u' p F' K (MarkC C pb).2 := by
 refine (Mark_any u p F C h.ch hok htr pb).mono ?_
 rintro e v ⟨rfl, hc, ho⟩
 exact ⟨rfl, _, h.step hc ho⟩
theorem hd_flip (h : HD w u p F K C) (hok : C.Ok) (hln : FlN C 4000000000000) (pb pp bit : Int) (hbit : bit ≤ 9223372036854775807) : Calls Tryd.prog 28 #[.pointer (some ⟨p, 0, none⟩), .agg #[.int .i64 pb, .int .i64 pp], .int .i64 bit] u fun e u' => e = .returned (.int .i64 (FlipC C pb pp bit).1) ∧ ∃ F', HD w u' p F' K (FlipC C pb pp bit).2 := by
 refine (Flip_any u p F C h.ch hok hln pb pp bit hbit).mono ?_
 rintro e v ⟨rfl, hc, ho⟩
 exact ⟨rfl, _, h.step hc ho⟩
theorem hd_prog (h : HD w u p F K C) (hok : C.Ok) (pb pp : Int) (da sa : Option Addr) (n1 dc n2 sc : Nat) (hl1 : n1 ≤ 140737488355000) (hl2 : n2 ≤ 140737488355000) (htr : C.tr.length ≤ 3000000000000) (zd zp : List Int) (hD : Reads u da n1 zd) (hZ : Reads u sa n2 zp) (hdF : ∀ y, da = some y → ¬ F y.block) (hzF : ∀ y, sa = some y → ¬ F y.block) :
  Calls Tryd.prog 24 #[.pointer (some ⟨p, 0, none⟩), .agg #[.int .i64 pb, .int .i64 pp], .agg #[.slice da n1 dc, .slice sa n2 sc]] u fun e u' => e = .returned (.int .i64 (ProgramC C pb pp n1 n2 (zd ++ zp)).1) ∧ ∃ F', HD w u' p F' K (ProgramC C pb pp n1 n2 (zd ++ zp)).2 := by
 refine (Program_any u p F C h.ch hok pb pp da sa n1 dc n2 sc hl1 hl2 htr zd zp hD hZ hdF hzF).mono ?_
 rintro e v ⟨rfl, hc, ho⟩
 exact ⟨rfl, _, h.step hc ho⟩
end
end Go.Proofs.YtnmnhgagnfodhaaDoor.Cp
namespace Go.Proofs.YtnmnhgagnfodhaaDoor.Cp
open Go.RowKit Go.Conc
set_option linter.unusedVariables false
def ReadsB (w : World) (a : Option Addr) (len : Nat) (ms : List Bool) : Prop :=
 ms.length = len ∧ (a = none → len = 0) ∧ ∀ x, a = some x → ∀ i, i < len → w.cell? (x.add i) = some (.bool (ms.getD i false))
theorem ReadsB.below {w w' : World} {a : Option Addr} {len : Nat} {ms : List Bool} (h : ReadsB w a len ms) (hb : Below w.heap.size w w') : ReadsB w' a len ms :=
 ⟨h.1, h.2.1, fun x hx i hi => (hb.cell (block_lt_of_cell (h.2.2 x hx i hi))).trans (h.2.2 x hx i hi)⟩
theorem ReadsB.pos {w : World} {a : Option Addr} {len : Nat} {ms : List Bool} (h : ReadsB w a len ms) (hp : 0 < len) :
  ∃ b off, a = some ⟨b, off, none⟩ ∧ b < w.heap.size ∧ ∀ i, i < len → w.cell? ⟨b, off + i, none⟩ = some (.bool (ms.getD i false)) := by
 obtain ⟨hl, hn, hc⟩ := h
 cases a with
 | none => have := hn rfl; omega
 | some x =>
  obtain ⟨b, off, spot⟩ := x
  have h0 := hc _ rfl 0 hp
  have hspot : spot = none := by simpa [Addr.add] using World.cell?_spot h0
  subst hspot
  refine ⟨b, off, rfl, by simpa [Addr.add] using block_lt_of_cell h0, fun i hi => ?_⟩
  have h1 := hc _ rfl i hi
  rw [plain_add] at h1
  exact h1
end Go.Proofs.YtnmnhgagnfodhaaDoor.Cp
namespace Go.Proofs.YtnmnhgagnfodhaaDoor.Cp
open Go.RowKit Go.Conc
set_option linter.unusedVariables false
theorem CAt.setP1 {w : World} {p : Nat} {F G : Nat → Prop} {C : Ch} {x : Bx} {bs : List Bc} {fe : List Fe} (h : CAt w p F C x bs fe) {i k : Nat} {b : Bc} {q q' : Pc} (hi : bs[i]? = some b) (hk : b.ps[k]? = some q) (hh : q'.h = q.h) (hF : ∀ k, F k → G k) (hG : ∀ k, G k → k < w.heap.size) (hq' : PcOk w G (pgB C.S) q') :
  CAt (w.setCell ⟨b.g, k * 2, none⟩ (.slice q'.a q'.n q'.c)) p G { C with bl := C.bl.set i { b.v with ps := b.v.ps.set k q'.v } } x (bs.set i { b with ps := b.ps.set k q' }) fe := by
 obtain ⟨h1, h2⟩ := h.setP (w0 := w) hi hk hF hG hq'
 have hb := h.bok b (List.mem_of_getElem? hi)
 have r1 := heap_setCell_same w b.g (k * 2) _ 107 (.slice q'.a q'.n q'.c) hb.row
 have r2 := heap_setCell_same _ b.g (k * 2 + 1) _ 107 (.bool q'.h) r1
 have s1 := flat_set Pc.cells 2 Pc.cells_len 0 (by omega) (.slice q'.a q'.n q'.c) { q with a := q'.a, n := q'.n, c := q'.c } b.ps k q hk rfl
 have hk1 : (b.ps.set k { q with a := q'.a, n := q'.n, c := q'.c })[k]? = some { q with a := q'.a, n := q'.n, c := q'.c } := by
  rw [List.getElem?_set_self (List.getElem?_eq_some_iff.1 hk).1]
 have s2 := flat_set Pc.cells 2 Pc.cells_len 1 (by omega) (.bool q'.h) { q with a := q'.a, n := q'.n, c := q'.c } (b.ps.set k { q with a := q'.a, n := q'.n, c := q'.c }) k _ hk1 (by rw [hh]; rfl)
 rw [List.set_set] at s2
 have e1 : ((b.ps.flatMap Pc.cells).toArray.setIfInBounds (k * 2) (.slice q'.a q'.n q'.c)).setIfInBounds (k * 2 + 1) (.bool q'.h) = (b.ps.flatMap Pc.cells).toArray.setIfInBounds (k * 2) (.slice q'.a q'.n q'.c) := by
  simp only [List.setIfInBounds_toArray]
  rw [Nat.add_zero] at s1
  rw [s1, s2]
 rw [e1, ← r1] at r2
 refine h1.keep (fun j hj => ?_) (fun _ h => h) (fun j hj => Nat.lt_of_lt_of_le (hG j hj) (by simp))
 by_cases hjb : j = b.g
 ·rw [hjb, r2]
 ·exact (heap_setCell_other _ ⟨b.g, k * 2 + 1, none⟩ j _ hjb).symm
def ldP (L P : Nat) (zs : List Int) (t j k : Nat) : Pg := if j * P + k < t then ⟨(zs.drop ((j * P + k) * L)).take L, false⟩ else ⟨List.replicate L 255, false⟩
def ldB (L P : Nat) (zs : List Int) (ms : List Bool) (m t j : Nat) : Bl := ⟨if j < m then ms.getD j false else false, false, 0, (List.range P).map (ldP L P zs t j)⟩
def ldL (L B P : Nat) (zs : List Int) (ms : List Bool) (m t : Nat) : List Bl := (List.range B).map (ldB L P zs ms m t)
def loadC (B P S : Nat) (zs : List Int) (ms : List Bool) (q : List Ft) : Ch := { emptyC B P S q with bl := ldL (pgB S) B P zs ms B (B * P) }
theorem ldL_0 (L B P : Nat) (zs : List Int) (ms : List Bool) : ldL L B P zs ms 0 0 = List.replicate B (bl0 P L) := by
 refine List.ext_getElem? (fun i => ?_)
 unfold ldL
 rw [List.getElem?_map, List.getElem?_replicate]
 by_cases h : i < B
 ·rw [List.getElem?_range h, if_pos h]
  simp only [Option.map_some, ldB, bl0, Nat.not_lt_zero, if_false]
  congr 2
  refine List.ext_getElem? (fun k => ?_)
  rw [List.getElem?_map, List.getElem?_replicate]
  by_cases h2 : k < P
  ·rw [List.getElem?_range h2, if_pos h2]; simp [ldP]
  ·rw [if_neg h2, List.getElem?_eq_none (by simp; omega)]; rfl
 ·rw [if_neg h, List.getElem?_eq_none (by simp; omega)]; rfl
theorem ldL_get {L B P : Nat} {zs : List Int} {ms : List Bool} {m t i : Nat} (h : i < B) : (ldL L B P zs ms m t)[i]? = some (ldB L P zs ms m t i) := by
 unfold ldL
 rw [List.getElem?_map, List.getElem?_range h]
 rfl
theorem ldL_mark {L B P : Nat} {zs : List Int} {ms : List Bool} {m t : Nat} (h : m < B) : (ldL L B P zs ms m t).set m { ldB L P zs ms m t m with m := ms.getD m false } = ldL L B P zs ms (m + 1) t := by
 refine List.ext_getElem? (fun i => ?_)
 by_cases hi : i < B
 ·rw [ldL_get hi]
  by_cases e : m = i
  ·subst e
   rw [List.getElem?_set_self (by simp [ldL]; exact h)]
   simp [ldB]
  ·rw [List.getElem?_set_ne e, ldL_get hi]
   have h3 : (i < m) = (i < m + 1) := by apply propext; omega
   simp only [ldB, h3]
 ·rw [List.getElem?_eq_none (by simp [ldL]; omega), List.getElem?_eq_none (by simp [ldL]; omega)]
theorem ldL_page {L B P : Nat} {zs : List Int} {ms : List Bool} {m i k : Nat} (h : i < B) (hk : k < P) : (ldL L B P zs ms m (i * P + k)).set i { ldB L P zs ms m (i * P + k) i with ps := (ldB L P zs ms m (i * P + k) i).ps.set k ⟨(zs.drop ((i * P + k) * L)).take L, false⟩ } = ldL L B P zs ms m (i * P + k + 1) := by
 refine List.ext_getElem? (fun j => ?_)
 by_cases hj : j < B
 ·rw [ldL_get hj]
  by_cases e : i = j
  ·subst e
   rw [List.getElem?_set_self (by simp [ldL]; exact h)]
   simp only [ldB]
   congr 2
   refine List.ext_getElem? (fun n => ?_)
   by_cases hn : n < P
   ·rw [List.getElem?_map, List.getElem?_range hn]
    by_cases e2 : k = n
    ·subst e2
     rw [List.getElem?_set_self (by simp; exact hk)]
     simp [ldP]
    ·rw [List.getElem?_set_ne e2, List.getElem?_map, List.getElem?_range hn]
     have h3 : (i * P + n < i * P + k) = (i * P + n < i * P + k + 1) := by apply propext; omega
     simp only [Option.map_some, ldP, h3]
   ·rw [List.getElem?_eq_none (by simp; omega), List.getElem?_eq_none (by simp; omega)]
  ·rw [List.getElem?_set_ne e, ldL_get hj]
   simp only [ldB]
   congr 2
   refine List.map_congr_left (fun n hn => ?_)
   have hn' : n < P := List.mem_range.1 hn
   have h3 : (j * P + n < i * P + k) = (j * P + n < i * P + k + 1) := by
    apply propext
    rcases Nat.lt_or_gt_of_ne e with h4 | h4
    ·have : i * P + P ≤ j * P := by rw [← Nat.succ_mul]; exact Nat.mul_le_mul_right _ h4
     omega
    ·have : j * P + P ≤ i * P := by rw [← Nat.succ_mul]; exact Nat.mul_le_mul_right _ h4
     omega
   simp only [ldP, h3]
 ·rw [List.getElem?_eq_none (by simp [ldL]; omega), List.getElem?_eq_none (by simp [ldL]; omega)]
end Go.Proofs.YtnmnhgagnfodhaaDoor.Cp
namespace Go.Proofs.YtnmnhgagnfodhaaDoor.Cp
open Go.RowKit Go.Conc
set_option linter.unusedVariables false
def LB (w u : World) (B P S : Int) (ca : Option Addr) (cn cc : Nat) (ma : Option Addr) (mn mc : Nat) : Prop := u.heap[w.heap.size]? = some (.cells #[.int .i64 B, .int .i64 P, .int .i64 S, .slice ca cn cc, .slice ma mn mc] 35 (0, 0))
theorem LB.keep {w u v : World} {B P S : Int} {ca : Option Addr} {cn cc : Nat} {ma : Option Addr} {mn mc : Nat} (h : LB w u B P S ca cn cc ma mn mc) (hb : Below u.heap.size u v) : LB w v B P S ca cn cc ma mn mc := (hb.block _ (lt_of_block h)).trans h
def LS (w : World) (B P S : Int) (ca : Option Addr) (cn cc : Nat) (ma : Option Addr) (mn mc : Nat) (u : World) : Prop := u.cell? ⟨w.heap.size, 0, none⟩ = some (.int .i64 B) ∧ u.cell? ⟨w.heap.size, 1, none⟩ = some (.int .i64 P) ∧ u.cell? ⟨w.heap.size, 2, none⟩ = some (.int .i64 S) ∧ u.cell? ⟨w.heap.size, 3, none⟩ = some (.slice ca cn cc) ∧ u.cell? ⟨w.heap.size, 4, none⟩ = some (.slice ma mn mc)
theorem LB.s {w u : World} {B P S : Int} {ca : Option Addr} {cn cc : Nat} {ma : Option Addr} {mn mc : Nat} (h : LB w u B P S ca cn cc ma mn mc) : LS w B P S ca cn cc ma mn mc u := by
 obtain ⟨a, b, c, d, e⟩ := cells5 h
 exact ⟨a, b, c, d, e⟩
theorem LB.start (w : World) (B P S : Int) (ca : Option Addr) (cn cc : Nat) (ma : Option Addr) (mn mc : Nat) : LB w (w.alloc (.cells #[.int .i64 B, .int .i64 P, .int .i64 S, .slice ca cn cc, .slice ma mn mc] 35)) B P S ca cn cc ma mn mc := alloc_new _ _
set_option maxHeartbeats 4000000 in
set_option maxRecDepth 100000 in
theorem load_fit (w : World) (B P S : Int) (hf : Fits B P S = false) (ca : Option Addr) (cn cc : Nat) (ma : Option Addr) (mn mc : Nat) (sa : Option Addr) (n c : Nat) :
  Calls Tryd.prog 14 #[.agg #[.int .i64 B, .int .i64 P, .int .i64 S, .slice ca cn cc, .slice ma mn mc], .slice sa n c] w fun e w' => e = .returned (.tuple #[.pointer none, .int .i64 47]) ∧ Below w.heap.size w w' := by
 have H0 : Hid (LB w (w.alloc (.cells #[.int .i64 B, .int .i64 P, .int .i64 S, .slice ca cn cc, .slice ma mn mc] 35)).drew B P S ca cn cc ma mn mc) := LB.start w _ _ _ _ _ _ _ _ _
 have HBd : Hid (Below w.heap.size w (w.alloc (.cells #[.int .i64 B, .int .i64 P, .int .i64 S, .slice ca cn cc, .slice ma mn mc] 35)).drew) := below_trans (below_alloc _ _) (drew_below _)
 go_enter Tryd.func14, Tryd.ntmps14
 go_wp2
 refine wp_region_held_drew (S := (fun u => u.cell? ⟨w.heap.size, 0, none⟩ = some (.int .i64 B) ∧ u.cell? ⟨w.heap.size, 1, none⟩ = some (.int .i64 P) ∧ u.cell? ⟨w.heap.size, 2, none⟩ = some (.int .i64 S) ∧ u.cell? ⟨w.heap.size, 3, none⟩ = some (.slice ca cn cc) ∧ u.cell? ⟨w.heap.size, 4, none⟩ = some (.slice ma mn mc))) (by kernel_rfl) (H0.out.s) (fun hHeld => ?_)
 refine tk 0 ?_
 refine tk 1 ?_
 refine rd 2 (fun K hK => ?_)
 go_simp
 go_at_call 19
 refine (mayBe_any B P S _).mono ?_
 rintro e u1 ⟨rfl, b1⟩
 rw [hf]
 have HB1 := hide (below_trans HBd.out b1)
 have H1 := hide (H0.out.keep b1)
 have hSnew := H1.out.s
 clear b1
 go_wp2_with fail
 clear hHeld
 refine hK.out _ _ hSnew (fun hHeld => ?_)
 clear hK K hSnew
 try simp only [Act.put, zSt, zS0, zS1]
 refine tk 3 ?_
 refine tk 4 ?_
 refine tu 5 ?_
 refine tu 6 ?_
 refine tu 7 ?_
 refine tu 8 ?_
 refine tu 9 ?_
 refine tu 10 ?_
 refine tu 11 ?_
 refine tu 12 ?_
 refine tu 13 ?_
 refine tu 14 ?_
 refine tu 15 ?_
 refine tu 16 ?_
 refine tu 17 ?_
 refine tu 18 ?_
 refine tu 19 ?_
 refine tk 20 ?_
 refine tk 21 ?_
 refine tu 22 ?_
 refine tu 23 ?_
 refine tu 24 ?_
 refine tu 25 ?_
 refine tu 26 ?_
 refine tu 27 ?_
 refine tu 28 ?_
 refine tk 29 ?_
 refine wpAnyH_done (by kernel_rfl) ?_ _
 clear hHeld
 go_wp2
 refine bodyPost_ret (v := .tuple #[.pointer none, .int .i64 47]) (by simp [results, Tryd.results14, go_sem]) rfl ?_
 exact ⟨rfl, HB1.out⟩
set_option maxHeartbeats 4000000 in
set_option maxRecDepth 100000 in
theorem load_cells (w : World) (B P S : Nat) (hf : Fits B P S = true) (ca : Option Addr) (cn cc : Nat) (ma : Option Addr) (mn mc : Nat) (sa : Option Addr) (n c : Nat) (hcn : cn ≠ B * P * pgB S) :
  Calls Tryd.prog 14 #[.agg #[.int .i64 (B : Int), .int .i64 (P : Int), .int .i64 (S : Int), .slice ca cn cc, .slice ma mn mc], .slice sa n c] w fun e w' => e = .returned (.tuple #[.pointer none, .int .i64 47]) ∧ Below w.heap.size w w' := by
 have hFB := of_decide_eq_true hf
 have hS : 1 ≤ S ∧ S ≤ 8 := by omega
 have hB4 : B ≤ 4096 := by omega
 have hP4 : P ≤ 4096 := by omega
 have hP2 : P ≤ 256 := by omega
 obtain ⟨n0, hn0e⟩ : ∃ n, n = B * P * pgB S := ⟨_, rfl⟩
 obtain ⟨m0, hm0e⟩ : ∃ m, m = B * P := ⟨_, rfl⟩
 obtain ⟨l0, hl0e⟩ : ∃ m, m = pgB S := ⟨_, rfl⟩
 have hm0 : m0 ≤ 65536 := by rw [hm0e]; omega
 have hl0 : l0 ≤ 2126 := by rw [hl0e]; exact pgB_le hS.2
 have hn0 : n0 ≤ 139329536 := by rw [hn0e, ← hm0e, ← hl0e]; exact Nat.le_trans (Nat.mul_le_mul hm0 hl0) (by decide)
 have HM0 : Hid (IntKind.i64.wrap ((B : Int) * (P : Int)) = (m0 : Int)) := by unfold Hid; rw [hm0e] at *; rw [← Int.natCast_mul]; simp only [IntKind.wrap_i64]; omega
 have HN0 : Hid (IntKind.i64.wrap ((m0 : Int) * (l0 : Int)) = (n0 : Int)) := by unfold Hid; rw [← Int.natCast_mul, hn0e, ← hm0e, ← hl0e]; rw [← hm0e, ← hl0e] at hn0e; simp only [IntKind.wrap_i64]; omega
 have HL0 := hide hl0e
 have HNE := hide hn0e
 have dcn : ((cn : Int) != (n0 : Int)) = true := by simp; omega
 clear hcn
 have H0 : Hid (LB w (w.alloc (.cells #[.int .i64 (B : Int), .int .i64 (P : Int), .int .i64 (S : Int), .slice ca cn cc, .slice ma mn mc] 35)).drew B P S ca cn cc ma mn mc) := LB.start w _ _ _ _ _ _ _ _ _
 have HBd : Hid (Below w.heap.size w (w.alloc (.cells #[.int .i64 (B : Int), .int .i64 (P : Int), .int .i64 (S : Int), .slice ca cn cc, .slice ma mn mc] 35)).drew) := below_trans (below_alloc _ _) (drew_below _)
 clear hFB hn0e hm0e hl0e
 go_enter Tryd.func14, Tryd.ntmps14
 go_wp2
 refine wp_region_held_drew (S := (fun u => u.cell? ⟨w.heap.size, 0, none⟩ = some (.int .i64 (B : Int)) ∧ u.cell? ⟨w.heap.size, 1, none⟩ = some (.int .i64 (P : Int)) ∧ u.cell? ⟨w.heap.size, 2, none⟩ = some (.int .i64 (S : Int)) ∧ u.cell? ⟨w.heap.size, 3, none⟩ = some (.slice ca cn cc) ∧ u.cell? ⟨w.heap.size, 4, none⟩ = some (.slice ma mn mc))) (by kernel_rfl) (H0.out.s) (fun hHeld => ?_)
 refine tk 0 ?_
 refine tk 1 ?_
 refine rd 2 (fun K hK => ?_)
 go_simp
 go_at_call 19
 refine (mayBe_any B P S _).mono ?_
 rintro e u1 ⟨rfl, b1⟩
 rw [hf]
 have HB1 := hide (below_trans HBd.out b1)
 have H1 := hide (H0.out.keep b1)
 have hSnew := H1.out.s
 clear b1
 go_wp2_with fail
 clear hHeld
 refine hK.out _ _ hSnew (fun hHeld => ?_)
 clear hK K hSnew
 try simp only [Act.put, zSt, zS0, zS1]
 refine tk 3 ?_
 refine tk 4 ?_
 refine tk 5 ?_
 refine tk 6 ?_
 refine tk 7 ?_
 refine tk 8 ?_
 refine tk 9 ?_
 refine tk 10 ?_
 refine tk 11 ?_
 refine tk 12 ?_
 refine tk 13 ?_
 refine tk 14 ?_
 rw [HM0.out]
 refine tk 15 ?_
 refine tk 16 ?_
 refine rd 17 (fun K hK => ?_)
 go_simp
 go_at_call 22
 refine (pageB_any _ _ S _ hS.1 hS.2).mono ?_
 rintro e u2 ⟨rfl, b2⟩
 rw [← HL0.out]
 have HB2 := hide (below_trans HB1.out b2)
 have H2 := hide (H1.out.keep b2)
 have hSnew := H2.out.s
 clear b2
 go_wp2_with fail
 clear hHeld
 refine hK.out _ _ hSnew (fun hHeld => ?_)
 clear hK K hSnew
 try simp only [Act.put, zSt, zS0, zS1]
 refine tk 18 ?_
 rw [HN0.out]
 refine tk 19 ?_
 refine tk 20 ?_
 refine tk 21 ?_
 refine tu 22 ?_
 refine tu 23 ?_
 refine tu 24 ?_
 refine tu 25 ?_
 refine tu 26 ?_
 refine tu 27 ?_
 refine tu 28 ?_
 refine tk 29 ?_
 refine wpAnyH_done (by kernel_rfl) ?_ _
 clear hHeld
 go_wp2
 refine bodyPost_ret (v := .tuple #[.pointer none, .int .i64 47]) (by simp [results, Tryd.results14, go_sem]) rfl ?_
 exact ⟨rfl, HB2.out⟩
set_option maxHeartbeats 4000000 in
set_option maxRecDepth 100000 in
theorem load_marks (w : World) (B P S : Nat) (hf : Fits B P S = true) (ca : Option Addr) (cn cc : Nat) (ma : Option Addr) (mn mc : Nat) (sa : Option Addr) (n c : Nat) (hcn : cn = B * P * pgB S) (hmn : mn ≠ B) :
  Calls Tryd.prog 14 #[.agg #[.int .i64 (B : Int), .int .i64 (P : Int), .int .i64 (S : Int), .slice ca cn cc, .slice ma mn mc], .slice sa n c] w fun e w' => e = .returned (.tuple #[.pointer none, .int .i64 47]) ∧ Below w.heap.size w w' := by
 have hFB := of_decide_eq_true hf
 have hS : 1 ≤ S ∧ S ≤ 8 := by omega
 have hB4 : B ≤ 4096 := by omega
 have hP4 : P ≤ 4096 := by omega
 have hP2 : P ≤ 256 := by omega
 obtain ⟨n0, hn0e⟩ : ∃ n, n = B * P * pgB S := ⟨_, rfl⟩
 obtain ⟨m0, hm0e⟩ : ∃ m, m = B * P := ⟨_, rfl⟩
 obtain ⟨l0, hl0e⟩ : ∃ m, m = pgB S := ⟨_, rfl⟩
 have hm0 : m0 ≤ 65536 := by rw [hm0e]; omega
 have hl0 : l0 ≤ 2126 := by rw [hl0e]; exact pgB_le hS.2
 have hn0 : n0 ≤ 139329536 := by rw [hn0e, ← hm0e, ← hl0e]; exact Nat.le_trans (Nat.mul_le_mul hm0 hl0) (by decide)
 have HM0 : Hid (IntKind.i64.wrap ((B : Int) * (P : Int)) = (m0 : Int)) := by unfold Hid; rw [hm0e] at *; rw [← Int.natCast_mul]; simp only [IntKind.wrap_i64]; omega
 have HN0 : Hid (IntKind.i64.wrap ((m0 : Int) * (l0 : Int)) = (n0 : Int)) := by unfold Hid; rw [← Int.natCast_mul, hn0e, ← hm0e, ← hl0e]; rw [← hm0e, ← hl0e] at hn0e; simp only [IntKind.wrap_i64]; omega
 have HL0 := hide hl0e
 have HNE := hide hn0e
 have dcn : ((cn : Int) != (n0 : Int)) = false := by simp; omega
 have dmn : ((mn : Int) != (B : Int)) = true := by simp; omega
 clear hcn hmn
 have H0 : Hid (LB w (w.alloc (.cells #[.int .i64 (B : Int), .int .i64 (P : Int), .int .i64 (S : Int), .slice ca cn cc, .slice ma mn mc] 35)).drew B P S ca cn cc ma mn mc) := LB.start w _ _ _ _ _ _ _ _ _
 have HBd : Hid (Below w.heap.size w (w.alloc (.cells #[.int .i64 (B : Int), .int .i64 (P : Int), .int .i64 (S : Int), .slice ca cn cc, .slice ma mn mc] 35)).drew) := below_trans (below_alloc _ _) (drew_below _)
 clear hFB hn0e hm0e hl0e
 go_enter Tryd.func14, Tryd.ntmps14
 go_wp2
 refine wp_region_held_drew (S := (fun u => u.cell? ⟨w.heap.size, 0, none⟩ = some (.int .i64 (B : Int)) ∧ u.cell? ⟨w.heap.size, 1, none⟩ = some (.int .i64 (P : Int)) ∧ u.cell? ⟨w.heap.size, 2, none⟩ = some (.int .i64 (S : Int)) ∧ u.cell? ⟨w.heap.size, 3, none⟩ = some (.slice ca cn cc) ∧ u.cell? ⟨w.heap.size, 4, none⟩ = some (.slice ma mn mc))) (by kernel_rfl) (H0.out.s) (fun hHeld => ?_)
 refine tk 0 ?_
 refine tk 1 ?_
 refine rd 2 (fun K hK => ?_)
 go_simp
 go_at_call 19
 refine (mayBe_any B P S _).mono ?_
 rintro e u1 ⟨rfl, b1⟩
 rw [hf]
 have HB1 := hide (below_trans HBd.out b1)
 have H1 := hide (H0.out.keep b1)
 have hSnew := H1.out.s
 clear b1
 go_wp2_with fail
 clear hHeld
 refine hK.out _ _ hSnew (fun hHeld => ?_)
 clear hK K hSnew
 try simp only [Act.put, zSt, zS0, zS1]
 refine tk 3 ?_
 refine tk 4 ?_
 refine tk 5 ?_
 refine tk 6 ?_
 refine tk 7 ?_
 refine tk 8 ?_
 refine tk 9 ?_
 refine tk 10 ?_
 refine tk 11 ?_
 refine tk 12 ?_
 refine tk 13 ?_
 refine tk 14 ?_
 rw [HM0.out]
 refine tk 15 ?_
 refine tk 16 ?_
 refine rd 17 (fun K hK => ?_)
 go_simp
 go_at_call 22
 refine (pageB_any _ _ S _ hS.1 hS.2).mono ?_
 rintro e u2 ⟨rfl, b2⟩
 rw [← HL0.out]
 have HB2 := hide (below_trans HB1.out b2)
 have H2 := hide (H1.out.keep b2)
 have hSnew := H2.out.s
 clear b2
 go_wp2_with fail
 clear hHeld
 refine hK.out _ _ hSnew (fun hHeld => ?_)
 clear hK K hSnew
 try simp only [Act.put, zSt, zS0, zS1]
 refine tk 18 ?_
 rw [HN0.out]
 refine tk 19 ?_
 refine tk 20 ?_
 refine tk 21 ?_
 refine tk 22 ?_
 refine tk 23 ?_
 refine tk 24 ?_
 refine tk 25 ?_
 refine tk 26 ?_
 refine tk 27 ?_
 refine tk 28 ?_
 refine tk 29 ?_
 refine wpAnyH_done (by kernel_rfl) ?_ _
 clear hHeld
 go_wp2
 refine bodyPost_ret (v := .tuple #[.pointer none, .int .i64 47]) (by simp [results, Tryd.results14, go_sem]) rfl ?_
 exact ⟨rfl, HB2.out⟩
set_option maxHeartbeats 4000000 in
set_option maxRecDepth 100000 in
theorem load_flt (w : World) (B P S : Nat) (hf : Fits B P S = true) (ca : Option Addr) (cn cc : Nat) (ma : Option Addr) (mn mc : Nat) (sa : Option Addr) (n c : Nat) (hcn : cn = B * P * pgB S) (hmn : mn = B) (fs : List Fc) (hF : ReadsF w sa n fs) (hn : n ≤ 9223372036854775807) (hs : faultsB fs = false) :
  Calls Tryd.prog 14 #[.agg #[.int .i64 (B : Int), .int .i64 (P : Int), .int .i64 (S : Int), .slice ca cn cc, .slice ma mn mc], .slice sa n c] w fun e w' => e = .returned (.tuple #[.pointer none, .int .i64 48]) ∧ Below w.heap.size w w' := by
 have hFB := of_decide_eq_true hf
 have hS : 1 ≤ S ∧ S ≤ 8 := by omega
 have hB4 : B ≤ 4096 := by omega
 have hP4 : P ≤ 4096 := by omega
 have hP2 : P ≤ 256 := by omega
 obtain ⟨n0, hn0e⟩ : ∃ n, n = B * P * pgB S := ⟨_, rfl⟩
 obtain ⟨m0, hm0e⟩ : ∃ m, m = B * P := ⟨_, rfl⟩
 obtain ⟨l0, hl0e⟩ : ∃ m, m = pgB S := ⟨_, rfl⟩
 have hm0 : m0 ≤ 65536 := by rw [hm0e]; omega
 have hl0 : l0 ≤ 2126 := by rw [hl0e]; exact pgB_le hS.2
 have hn0 : n0 ≤ 139329536 := by rw [hn0e, ← hm0e, ← hl0e]; exact Nat.le_trans (Nat.mul_le_mul hm0 hl0) (by decide)
 have HM0 : Hid (IntKind.i64.wrap ((B : Int) * (P : Int)) = (m0 : Int)) := by unfold Hid; rw [hm0e] at *; rw [← Int.natCast_mul]; simp only [IntKind.wrap_i64]; omega
 have HN0 : Hid (IntKind.i64.wrap ((m0 : Int) * (l0 : Int)) = (n0 : Int)) := by unfold Hid; rw [← Int.natCast_mul, hn0e, ← hm0e, ← hl0e]; rw [← hm0e, ← hl0e] at hn0e; simp only [IntKind.wrap_i64]; omega
 have HL0 := hide hl0e
 have HNE := hide hn0e
 have dcn : ((cn : Int) != (n0 : Int)) = false := by simp; omega
 have dmn : ((mn : Int) != (B : Int)) = false := by simp; omega
 clear hcn hmn
 have HRF := hide hF
 clear hF
 have H0 : Hid (LB w (w.alloc (.cells #[.int .i64 (B : Int), .int .i64 (P : Int), .int .i64 (S : Int), .slice ca cn cc, .slice ma mn mc] 35)).drew B P S ca cn cc ma mn mc) := LB.start w _ _ _ _ _ _ _ _ _
 have HBd : Hid (Below w.heap.size w (w.alloc (.cells #[.int .i64 (B : Int), .int .i64 (P : Int), .int .i64 (S : Int), .slice ca cn cc, .slice ma mn mc] 35)).drew) := below_trans (below_alloc _ _) (drew_below _)
 clear hFB hn0e hm0e hl0e
 go_enter Tryd.func14, Tryd.ntmps14
 go_wp2
 refine wp_region_held_drew (S := (fun u => u.cell? ⟨w.heap.size, 0, none⟩ = some (.int .i64 (B : Int)) ∧ u.cell? ⟨w.heap.size, 1, none⟩ = some (.int .i64 (P : Int)) ∧ u.cell? ⟨w.heap.size, 2, none⟩ = some (.int .i64 (S : Int)) ∧ u.cell? ⟨w.heap.size, 3, none⟩ = some (.slice ca cn cc) ∧ u.cell? ⟨w.heap.size, 4, none⟩ = some (.slice ma mn mc))) (by kernel_rfl) (H0.out.s) (fun hHeld => ?_)
 refine tk 0 ?_
 refine tk 1 ?_
 refine rd 2 (fun K hK => ?_)
 go_simp
 go_at_call 19
 refine (mayBe_any B P S _).mono ?_
 rintro e u1 ⟨rfl, b1⟩
 rw [hf]
 have HB1 := hide (below_trans HBd.out b1)
 have H1 := hide (H0.out.keep b1)
 have hSnew := H1.out.s
 clear b1
 go_wp2_with fail
 clear hHeld
 refine hK.out _ _ hSnew (fun hHeld => ?_)
 clear hK K hSnew
 try simp only [Act.put, zSt, zS0, zS1]
 refine tk 3 ?_
 refine tk 4 ?_
 refine tk 5 ?_
 refine tk 6 ?_
 refine tk 7 ?_
 refine tk 8 ?_
 refine tk 9 ?_
 refine tk 10 ?_
 refine tk 11 ?_
 refine tk 12 ?_
 refine tk 13 ?_
 refine tk 14 ?_
 rw [HM0.out]
 refine tk 15 ?_
 refine tk 16 ?_
 refine rd 17 (fun K hK => ?_)
 go_simp
 go_at_call 22
 refine (pageB_any _ _ S _ hS.1 hS.2).mono ?_
 rintro e u2 ⟨rfl, b2⟩
 rw [← HL0.out]
 have HB2 := hide (below_trans HB1.out b2)
 have H2 := hide (H1.out.keep b2)
 have hSnew := H2.out.s
 clear b2
 go_wp2_with fail
 clear hHeld
 refine hK.out _ _ hSnew (fun hHeld => ?_)
 clear hK K hSnew
 try simp only [Act.put, zSt, zS0, zS1]
 refine tk 18 ?_
 rw [HN0.out]
 refine tk 19 ?_
 refine tk 20 ?_
 refine tk 21 ?_
 refine tk 22 ?_
 refine tk 23 ?_
 refine tk 24 ?_
 refine tk 25 ?_
 refine tk 26 ?_
 refine tk 27 ?_
 refine tk 28 ?_
 refine tk 29 ?_
 refine wpAnyH_done (by kernel_rfl) ?_ _
 clear hHeld
 go_wp2_with (first | (go_at_call 20; refine (faults_any _ sa n c fs (HRF.out.below HB2.out) hn).mono ?_; rintro e u3 ⟨rfl, b3⟩; rw [hs]; have HB3 := hide (below_trans HB2.out b3); clear b3))
 refine bodyPost_ret (v := .tuple #[.pointer none, .int .i64 48]) (by simp [results, Tryd.results14, go_sem]) rfl ?_
 exact ⟨rfl, HB3.out⟩
end Go.Proofs.YtnmnhgagnfodhaaDoor.Cp
