/-
  SEAT Ytadlkikjfonkgaa: Xi.
-/
import Derived.Test.YtadlkikjfonkgaaQa
import Derived.Test.YtadlkikjfonkgaaQu
import Derived.Test.YtadlkikjfonkgaaQv
import Derived.Test.YtadlkikjfonkgaaQh
namespace Go.Proofs.Ytadlkikjfonkgaa
open Go.RowKit Go.Conc
set_option linter.unusedVariables false
set_option maxRecDepth 100000
set_option maxHeartbeats 4000000
variable {w0 u w : World} {F : Nat → Prop} {C : Ch} {x : Rx} {rs : List Rc}
def Lc.withB (l : Lc) (g L c : Nat) (bits : List Int) : Lc := { l with a := some ⟨g, 0, none⟩, n := L, c := c, bits := bits }
theorem RAt.newBits {p : Nat} {fs : List Fc} (h : RAt w0 u p F C fs x rs) {i k B g c : Nat} {r : Rc} {l : Lc} {bits : List Int} (hi : rs[i]? = some r) (hk : r.ls[k]? = some l) (ho : Own u B g (pgB C.S) c bits) (hr : ∀ z ∈ bits, (0 : Int) ≤ z ∧ z ≤ 255) (hB : w0.heap.size ≤ B) :
  RAt w0 (u.setCell ⟨r.g, k * 3, none⟩ (.slice (some ⟨g, 0, none⟩) (pgB C.S) c)) p (fun j => F j ∨ (B ≤ j ∧ j < u.heap.size)) { C with bl := C.bl.set i (r.v.setP k ⟨bits, l.h⟩) } fs x (rs.set i (r.setL k (l.withB g (pgB C.S) c bits))) ∧ Only F u (u.setCell ⟨r.g, k * 3, none⟩ (.slice (some ⟨g, 0, none⟩) (pgB C.S) c)) := by
 have hl := (h.rok r (List.mem_of_getElem? hi)).lf l (List.mem_of_getElem? hk)
 obtain ⟨cs, hcs⟩ := own_tag ho rfl
 refine h.setL hi hk 0 (by omega) _ (l' := l.withB g (pgB C.S) c bits) rfl (fun _ h => Or.inl h) (fun j hj => hj.elim (h.fin j) (fun h => h.2)) (fun j hj => hj.elim (h.lo j) (fun h => Nat.le_trans hB h.1)) ?_ (fun g hg => Or.inl hg) C.fl (h.fl i k r l hi hk) (fun _ _ _ => rfl)
 exact ⟨ho.len, hr, ⟨g, rfl, Or.inr ⟨ho.lt.1, ho.lt.2⟩, rfl, own_cap ho, own_reads'' ho hr, ⟨cs, (0, 0), hcs⟩⟩, hl.row, fun g hg => Or.inl (hl.fg g hg)⟩
theorem RAt.setH {p : Nat} {fs : List Fc} (h : RAt w0 u p F C fs x rs) {i k : Nat} {r : Rc} {l : Lc} (b : Bool) (hi : rs[i]? = some r) (hk : r.ls[k]? = some l) :
  RAt w0 (u.setCell ⟨r.g, k * 3 + 2, none⟩ (.bool b)) p F { C with bl := C.bl.set i (r.v.setP k ⟨l.bits, b⟩) } fs x (rs.set i (r.setL k { l with h := b })) ∧ Only F u (u.setCell ⟨r.g, k * 3 + 2, none⟩ (.bool b)) := by
 have hl := (h.rok r (List.mem_of_getElem? hi)).lf l (List.mem_of_getElem? hk)
 exact h.setL hi hk 2 (by omega) _ (l' := { l with h := b }) rfl (fun _ h => h) h.fin h.lo ⟨hl.len, hl.byt, hl.sl, hl.row, hl.fg⟩ (fun g hg => Or.inl hg) C.fl (h.fl i k r l hi hk) (fun _ _ _ => rfl)
theorem RefAt.eqC {p : Nat} {C' : Ch} {fs : List Fc} (h : RefAt w0 w p F C fs) (e : C = C') : RefAt w0 w p F C' fs := e ▸ h
theorem findF_k {n : Int} : ∀ {fs : List Fc}, (∀ c ∈ fs, c.k = 1 ∨ c.k = 2) → (findF n fs).k = 0 ∨ (findF n fs).k = 1 ∨ (findF n fs).k = 2
 | [], _ => Or.inl rfl
 | c :: r, h => by
  unfold findF
  split
  ·exact Or.inr (h c (List.mem_cons_self))
  ·exact findF_k (fun d hd => h d (List.mem_cons_of_mem _ hd))
theorem RAt.takeK {p : Nat} {fs : List Fc} (h : RAt w0 u p F C fs x rs) (hfb : faultsB fs = true) : (endE (takeF C.cnt C.q).k == 0) = ((takeF C.cnt C.q).k == 0) := by
 unfold faultsB at hfb
 rw [Bool.and_eq_true] at hfb
 have h8 : C.q = _ := h.q
 have h9 : takeF C.cnt C.q = findF C.cnt fs := by rw [h8]; exact (take_find fs (-1) hfb.2 C.cnt).1
 rw [h9]
 rcases findF_k (n := C.cnt) (fun c hc => (fmb_low fs (-1) hfb.2 c hc).2) with e | e | e <;> rw [e] <;> rfl
theorem RAt.lfz {p : Nat} {fs : List Fc} (h : RAt w0 u p F C fs x rs) {i : Nat} {r : Rc} (hi : rs[i]? = some r) (j : Nat) : u.frozen? ⟨r.g, j, none⟩ = false := by
 obtain ⟨cs, hcs⟩ := own_tag (h.rok r (List.mem_of_getElem? hi)).row rfl
 simp [World.frozen?, hcs]
theorem RefAt.lo9 {p : Nat} {fs : List Fc} (h : RefAt w0 w p F C fs) : ∀ k, F k → w0.heap.size ≤ k := by
 obtain ⟨x, rs, h1⟩ := h
 exact h1.lo
theorem rProgram_n1 (w0 w : World) (p : Nat) (F : Nat → Prop) (C : Ch) (fs : List Fc) (h : RefAt w0 w p F C fs) (hok : C.Ok) (pb pp : Int) (da sa : Option Addr) (n1 dc n2 sc : Nat) (hl1 : n1 ≤ 140737488355000) (hd : C.dark = false) (hn1 : ((n1 : Int) != 256 * (C.S : Int)) = true) : Calls Try.prog 96 #[.pointer (some ⟨p, 0, none⟩), .agg #[.int .i64 pb, .int .i64 pp], .agg #[.slice da n1 dc, .slice sa n2 sc]] w fun e w' => e = .returned (.int .i64 42) ∧ Below w.heap.size w w' := by
 have HR := J h
 obtain ⟨x, rs, hc⟩ := h
 have hs := hok.s
 have g0 : (1 : Int) ≤ C.S := by omega
 have g1 : (C.S : Int) ≤ 8 := by omega
 have N := (hc.below (below_alloc _ (.cells #[.int .i64 pb, .int .i64 pp] 41))).below (below_alloc _ (.cells #[.slice da n1 dc, .slice sa n2 sc] 36))
 have c5 := N.box.c5
 rw [hc.dark, hd] at c5
 have HS3 : Hid (S3 (w.heap.size + 1) p da sa n1 dc n2 sc C ((w.alloc (.cells #[.int .i64 pb, .int .i64 pp] 41)).alloc (.cells #[.slice da n1 dc, .slice sa n2 sc] 36))) := by
  have e := alloc_new (w.alloc (.cells #[.int .i64 pb, .int .i64 pp] 41)) (.cells #[.slice da n1 dc, .slice sa n2 sc] 36)
  rw [alloc_size] at e
  obtain ⟨e0, e1⟩ := cells2 e
  have b0 := N.box.c0
  have b1 := N.box.c1
  have b2 := N.box.c2
  rw [N.B] at b0
  rw [N.P] at b1
  rw [N.S] at b2
  exact ⟨e0, e1, b0, b1, b2⟩
 clear N hc
 go_enter Try.func96, Try.ntmps96
 go_wp2
 refine wp_region_held_drew (S := (fun u => u.cell? ⟨w.heap.size + 1, 0, none⟩ = some (.slice da n1 dc) ∧ u.cell? ⟨w.heap.size + 1, 1, none⟩ = some (.slice sa n2 sc) ∧ u.cell? ⟨p, 0, none⟩ = some (.int .i64 (C.B : Int)) ∧ u.cell? ⟨p, 1, none⟩ = some (.int .i64 (C.P : Int)) ∧ u.cell? ⟨p, 2, none⟩ = some (.int .i64 (C.S : Int)))) (by kernel_rfl) (pg_drew HS3.out) fun O => ?_
 refine tk 0 ?_
 refine tk 1 ?_
 refine tk 2 ?_
 refine tk 3 ?_
 refine tk 4 ?_
 refine tk 5 ?_
 refine tk 6 ?_
 refine rd 7 fun K N => ?_
 go_simp
 go_at_call 44
 refine (rdata_any _ _ _ _ g0 g1).mono ?_
 rintro e u1 ⟨rfl, b1⟩
 have HB1 := J (below_trans (drew_below _) b1)
 have hZ := pg_keep HS3.out HB1.out
 clear b1
 go_wp2_with fail
 clear O
 refine N.out _ _ hZ fun O => ?_
 clear N K hZ
 try simp only [zz]
 refine tk 8 ?_
 refine tk 9 ?_
 refine tu 10 ?_
 refine tu 11 ?_
 refine tu 12 ?_
 refine tu 13 ?_
 refine tu 14 ?_
 refine tu 15 ?_
 refine tu 16 ?_
 refine tu 17 ?_
 refine tu 18 ?_
 refine tk 19 ?_
 refine td ?_
 clear O
 go_wp2
 go_ret
 exact ⟨rfl, below_trans (below_trans (below_alloc _ _) (below_alloc _ _)) HB1.out⟩
theorem rProgram_n2 (w0 w : World) (p : Nat) (F : Nat → Prop) (C : Ch) (fs : List Fc) (h : RefAt w0 w p F C fs) (hok : C.Ok) (pb pp : Int) (da sa : Option Addr) (n1 dc n2 sc : Nat) (hl1 : n1 ≤ 140737488355000) (hl2 : n2 ≤ 140737488355000) (hd : C.dark = false) (hn1 : ((n1 : Int) != 256 * (C.S : Int)) = false) (hn2 : ((n2 : Int) != 54 + 3 * (C.S : Int)) = true) : Calls Try.prog 96 #[.pointer (some ⟨p, 0, none⟩), .agg #[.int .i64 pb, .int .i64 pp], .agg #[.slice da n1 dc, .slice sa n2 sc]] w fun e w' => e = .returned (.int .i64 42) ∧ Below w.heap.size w w' := by
 have HR := J h
 obtain ⟨x, rs, hc⟩ := h
 have hs := hok.s
 have g0 : (1 : Int) ≤ C.S := by omega
 have g1 : (C.S : Int) ≤ 8 := by omega
 have N := (hc.below (below_alloc _ (.cells #[.int .i64 pb, .int .i64 pp] 41))).below (below_alloc _ (.cells #[.slice da n1 dc, .slice sa n2 sc] 36))
 have c5 := N.box.c5
 rw [hc.dark, hd] at c5
 have HS3 : Hid (S3 (w.heap.size + 1) p da sa n1 dc n2 sc C ((w.alloc (.cells #[.int .i64 pb, .int .i64 pp] 41)).alloc (.cells #[.slice da n1 dc, .slice sa n2 sc] 36))) := by
  have e := alloc_new (w.alloc (.cells #[.int .i64 pb, .int .i64 pp] 41)) (.cells #[.slice da n1 dc, .slice sa n2 sc] 36)
  rw [alloc_size] at e
  obtain ⟨e0, e1⟩ := cells2 e
  have b0 := N.box.c0
  have b1 := N.box.c1
  have b2 := N.box.c2
  rw [N.B] at b0
  rw [N.P] at b1
  rw [N.S] at b2
  exact ⟨e0, e1, b0, b1, b2⟩
 clear N hc
 go_enter Try.func96, Try.ntmps96
 go_wp2
 refine wp_region_held_drew (S := (fun u => u.cell? ⟨w.heap.size + 1, 0, none⟩ = some (.slice da n1 dc) ∧ u.cell? ⟨w.heap.size + 1, 1, none⟩ = some (.slice sa n2 sc) ∧ u.cell? ⟨p, 0, none⟩ = some (.int .i64 (C.B : Int)) ∧ u.cell? ⟨p, 1, none⟩ = some (.int .i64 (C.P : Int)) ∧ u.cell? ⟨p, 2, none⟩ = some (.int .i64 (C.S : Int)))) (by kernel_rfl) (pg_drew HS3.out) fun O => ?_
 refine tk 0 ?_
 refine tk 1 ?_
 refine tk 2 ?_
 refine tk 3 ?_
 refine tk 4 ?_
 refine tk 5 ?_
 refine tk 6 ?_
 refine rd 7 fun K N => ?_
 go_simp
 go_at_call 44
 refine (rdata_any _ _ _ _ g0 g1).mono ?_
 rintro e u1 ⟨rfl, b1⟩
 have HB1 := J (below_trans (drew_below _) b1)
 have hZ := pg_keep HS3.out HB1.out
 clear b1
 go_wp2_with fail
 clear O
 refine N.out _ _ hZ fun O => ?_
 clear N K hZ
 try simp only [zz]
 refine tk 8 ?_
 refine tk 9 ?_
 refine tk 10 ?_
 refine tk 11 ?_
 refine tk 12 ?_
 refine tk 13 ?_
 refine tk 14 ?_
 refine tk 15 ?_
 refine tk 16 ?_
 refine rd 17 fun K N => ?_
 go_simp
 go_at_call 81
 refine (rspareB_any _ _ _ _ g0 g1).mono ?_
 rintro e u2 ⟨rfl, b2⟩
 have HB2 := J (below_trans HB1.out b2)
 have hZ := pg_keep HS3.out HB2.out
 clear b2
 go_wp2_with fail
 clear O
 refine N.out _ _ hZ fun O => ?_
 clear N K hZ
 try simp only [zz]
 refine tk 18 ?_
 refine tk 19 ?_
 refine td ?_
 clear O
 go_wp2
 go_ret
 exact ⟨rfl, below_trans (below_trans (below_alloc _ _) (below_alloc _ _)) HB2.out⟩
theorem rProgram_dark (w0 w : World) (p : Nat) (F : Nat → Prop) (C : Ch) (fs : List Fc) (h : RefAt w0 w p F C fs) (hok : C.Ok) (pb pp : Int) (da sa : Option Addr) (n1 dc n2 sc : Nat) (hd : C.dark = true) : Calls Try.prog 96 #[.pointer (some ⟨p, 0, none⟩), .agg #[.int .i64 pb, .int .i64 pp], .agg #[.slice da n1 dc, .slice sa n2 sc]] w fun e w' => e = .returned (.int .i64 45) ∧ Below w.heap.size w w' := by
 have HR := J h
 obtain ⟨x, rs, hc⟩ := h
 have hs := hok.s
 have g0 : (1 : Int) ≤ C.S := by omega
 have g1 : (C.S : Int) ≤ 8 := by omega
 have N := (hc.below (below_alloc _ (.cells #[.int .i64 pb, .int .i64 pp] 41))).below (below_alloc _ (.cells #[.slice da n1 dc, .slice sa n2 sc] 36))
 have c5 := N.box.c5
 rw [hc.dark, hd] at c5
 have HS3 : Hid (S3 (w.heap.size + 1) p da sa n1 dc n2 sc C ((w.alloc (.cells #[.int .i64 pb, .int .i64 pp] 41)).alloc (.cells #[.slice da n1 dc, .slice sa n2 sc] 36))) := by
  have e := alloc_new (w.alloc (.cells #[.int .i64 pb, .int .i64 pp] 41)) (.cells #[.slice da n1 dc, .slice sa n2 sc] 36)
  rw [alloc_size] at e
  obtain ⟨e0, e1⟩ := cells2 e
  have b0 := N.box.c0
  have b1 := N.box.c1
  have b2 := N.box.c2
  rw [N.B] at b0
  rw [N.P] at b1
  rw [N.S] at b2
  exact ⟨e0, e1, b0, b1, b2⟩
 clear HS3
 clear N hc
 go_enter Try.func96, Try.ntmps96
 go_wp2
 go_ret
 exact ⟨rfl, below_trans (below_alloc _ _) (below_alloc _ _)⟩
theorem tr_fin {v : World} {p : Nat} {fs : List Fc} (hb : Below w.heap.size w u) (hw0 : w0.heap.size ≤ w.heap.size) (h : RefAt w0 v p (Fx F u v) C fs) (ho : Only F u v) : RefAt w0 v p (Fx F w v) C fs ∧ Only F w v :=
 ⟨h.more (fx_mono hb.size) (fun k hk => hk.elim (fun h1 => h.fin k (Or.inl h1)) (fun h1 => h1.2)) (fun k hk => hk.elim (fun h1 => h.lo9 k (Or.inl h1)) (fun h1 => Nat.le_trans hw0 h1.1)), (Only.ofB hb).trans ho (fun _ _ h => h)⟩
theorem rProgram_ok (w0 w : World) (p : Nat) (F : Nat → Prop) (C : Ch) (fs : List Fc) (h : RefAt w0 w p F C fs) (hok : C.Ok) (pb pp : Int) (da sa : Option Addr) (n1 dc n2 sc : Nat) (hfb : faultsB fs = true) (hl1 : n1 ≤ 140737488355000) (hl2 : n2 ≤ 140737488355000) (htr : C.tr.length ≤ 3000000000000) (hd : C.dark = false) (hn1 : ((n1 : Int) != 256 * (C.S : Int)) = false) (hn2 : ((n2 : Int) != 54 + 3 * (C.S : Int)) = false)
  (zd zp : List Int) (hD : Reads w da n1 zd) (hZ : Reads w sa n2 zp) (hdF : ∀ y, da = some y → ¬ F y.block) (hzF : ∀ y, sa = some y → ¬ F y.block) :
  Calls Try.prog 96 #[.pointer (some ⟨p, 0, none⟩), .agg #[.int .i64 pb, .int .i64 pp], .agg #[.slice da n1 dc, .slice sa n2 sc]] w fun e w' => e = .returned (.int .i64 (noteC 1 pb pp (progC C pb pp (zd ++ zp))).1) ∧ RefAt w0 w' p (Fx F w w') (noteC 1 pb pp (progC C pb pp (zd ++ zp))).2 fs ∧ Only F w w' := by
 have HR := J h
 obtain ⟨x, rs, hc⟩ := h
 have hs := hok.s
 have g0 : (1 : Int) ≤ C.S := by omega
 have g1 : (C.S : Int) ≤ 8 := by omega
 have N := (hc.below (below_alloc _ (.cells #[.int .i64 pb, .int .i64 pp] 41))).below (below_alloc _ (.cells #[.slice da n1 dc, .slice sa n2 sc] 36))
 have c5 := N.box.c5
 rw [hc.dark, hd] at c5
 have HS3 : Hid (S3 (w.heap.size + 1) p da sa n1 dc n2 sc C ((w.alloc (.cells #[.int .i64 pb, .int .i64 pp] 41)).alloc (.cells #[.slice da n1 dc, .slice sa n2 sc] 36))) := by
  have e := alloc_new (w.alloc (.cells #[.int .i64 pb, .int .i64 pp] 41)) (.cells #[.slice da n1 dc, .slice sa n2 sc] 36)
  rw [alloc_size] at e
  obtain ⟨e0, e1⟩ := cells2 e
  have b0 := N.box.c0
  have b1 := N.box.c1
  have b2 := N.box.c2
  rw [N.B] at b0
  rw [N.P] at b1
  rw [N.S] at b2
  exact ⟨e0, e1, b0, b1, b2⟩
 have HFW : Hid (∀ k, F k → k < w.heap.size) := hc.fin
 have HW0 : Hid (w0.heap.size ≤ w.heap.size) := hc.old.size
 have HN : Hid (n1 = 256 * C.S ∧ n2 = 54 + 3 * C.S) := by
  have e1 : (n1 : Int) = 256 * C.S := by simpa using hn1
  have e2 : (n2 : Int) = 54 + 3 * C.S := by simpa using hn2
  constructor <;> omega
 have hcn := hok.cnt
 have HD := J hD
 have HZ := J hZ
 have HDF := J hdF
 have HZF := J hzF
 have HPL : Hid (((w.alloc (.cells #[.int .i64 pb, .int .i64 pp] 41)).alloc (.cells #[.slice da n1 dc, .slice sa n2 sc] 36)).heap[w.heap.size]? = some (.cells #[.int .i64 pb, .int .i64 pp] 41 (0, 0))) := (alloc_old (w.alloc (.cells #[.int .i64 pb, .int .i64 pp] 41)) (.cells #[.slice da n1 dc, .slice sa n2 sc] 36) (by simp)).trans (alloc_new w (.cells #[.int .i64 pb, .int .i64 pp] 41))
 have HPG : Hid (((w.alloc (.cells #[.int .i64 pb, .int .i64 pp] 41)).alloc (.cells #[.slice da n1 dc, .slice sa n2 sc] 36)).heap[w.heap.size + 1]? = some (.cells #[.slice da n1 dc, .slice sa n2 sc] 36 (0, 0))) := by have e := alloc_new (w.alloc (.cells #[.int .i64 pb, .int .i64 pp] 41)) (.cells #[.slice da n1 dc, .slice sa n2 sc] 36); rw [alloc_size] at e; exact e
 have HKK := J N
 have HRK := J ((HR.out.below (below_alloc _ (.cells #[.int .i64 pb, .int .i64 pp] 41))).below (below_alloc _ (.cells #[.slice da n1 dc, .slice sa n2 sc] 36)))
 have HBW := J (below_trans (below_alloc w (.cells #[.int .i64 pb, .int .i64 pp] 41)) (below_alloc _ (.cells #[.slice da n1 dc, .slice sa n2 sc] 36)))
 clear N hc hD hZ hdF hzF
 cases hp : hasP C.B C.P pb pp with
 | false =>
  have ep : progC C pb pp (zd ++ zp) = (41, C) := by unfold progC; rw [if_pos hp]
  rw [ep]
  go_enter Try.func96, Try.ntmps96
  go_wp2
  refine wp_region_held_drew (S := (fun u => u.cell? ⟨w.heap.size + 1, 0, none⟩ = some (.slice da n1 dc) ∧ u.cell? ⟨w.heap.size + 1, 1, none⟩ = some (.slice sa n2 sc) ∧ u.cell? ⟨p, 0, none⟩ = some (.int .i64 (C.B : Int)) ∧ u.cell? ⟨p, 1, none⟩ = some (.int .i64 (C.P : Int)) ∧ u.cell? ⟨p, 2, none⟩ = some (.int .i64 (C.S : Int)))) (by kernel_rfl) (pg_drew HS3.out) fun O => ?_
  refine tk 0 ?_
  refine tk 1 ?_
  refine tk 2 ?_
  refine tk 3 ?_
  refine tk 4 ?_
  refine tk 5 ?_
  refine tk 6 ?_
  refine rd 7 fun K N => ?_
  go_simp
  go_at_call 44
  refine (rdata_any _ _ _ _ g0 g1).mono ?_
  rintro e u1 ⟨rfl, b1⟩
  have HB1 := J (below_trans (drew_below _) b1)
  have hZ := pg_keep HS3.out HB1.out
  clear b1
  go_wp2_with fail
  clear O
  refine N.out _ _ hZ fun O => ?_
  clear N K hZ
  try simp only [zz]
  refine tk 8 ?_
  refine tk 9 ?_
  refine tk 10 ?_
  refine tk 11 ?_
  refine tk 12 ?_
  refine tk 13 ?_
  refine tk 14 ?_
  refine tk 15 ?_
  refine tk 16 ?_
  refine rd 17 fun K N => ?_
  go_simp
  go_at_call 81
  refine (rspareB_any _ _ _ _ g0 g1).mono ?_
  rintro e u2 ⟨rfl, b2⟩
  have HB2 := J (below_trans HB1.out b2)
  have hZ := pg_keep HS3.out HB2.out
  clear b2
  go_wp2_with fail
  clear O
  refine N.out _ _ hZ fun O => ?_
  clear N K hZ
  try simp only [zz]
  refine tk 18 ?_
  refine tk 19 ?_
  refine td ?_
  clear O
  have HBU := J (below_trans HBW.out HB2.out)
  have HK2 := J (HKK.out.below HB2.out)
  obtain ⟨q0, q1⟩ := cells2 ((HB2.out.block _ (lt_of_block HPL.out)).trans HPL.out)
  have HPL2 := J ((HB2.out.block _ (lt_of_block HPL.out)).trans HPL.out)
  clear HS3 c5
  go_wp2_with (first
   | (go_at_call 101; refine (place_any x p C.B C.P pb pp _ HK2.out.box HK2.out.B HK2.out.P).mono ?_; rintro e u3 ⟨rfl, b1⟩; rw [hp]; have HB3 := J b1; have HK3 := J (HK2.out.below b1); obtain ⟨y0, y1⟩ := cells2 ((b1.block _ (lt_of_block HPL2.out)).trans HPL2.out); clear b1 q0 q1)
   | (go_at_call 98; refine (traced_any _ p F C w0 fs x rs HK3.out (by omega) 1 pb pp 41).mono ?_; rintro e9 u9 ⟨rfl, hr9, ho9⟩; have HE := J (tr_fin (below_trans HBU.out HB3.out) HW0.out hr9.ref ho9); clear hr9 ho9))
  go_ret
  exact ⟨rfl, HE.out.1, HE.out.2⟩
 | true =>
  obtain ⟨i, k, rfl, rfl, hi, hk⟩ := hasP_nat hp
  have hil : i < rs.length := by rw [HKK.out.len, hok.bl]; exact hi
  obtain ⟨r, hr⟩ : ∃ r, rs[i]? = some r := ⟨_, List.getElem?_eq_getElem hil⟩
  have hrok := HKK.out.rok r (List.mem_of_getElem? hr)
  obtain ⟨l, hl⟩ : ∃ l, r.ls[k]? = some l := ⟨_, List.getElem?_eq_getElem (by rw [hrok.np]; exact hk)⟩
  have hbl : C.bl[i]? = some r.v := by rw [← HKK.out.bl, List.getElem?_map, hr]; rfl
  have hps : r.v.ps[k]? = some l.v := by show (r.ls.map Lc.v)[k]? = _; rw [List.getElem?_map, hl]; rfl
  have HEP : Hid (progC C (i : Int) (k : Int) (zd ++ zp) = if r.m || !r.r || decide ((k : Int) < r.nx) then (43, C) else (endE (takeF C.cnt C.q).k, progN C (i : Int) (k : Int) r.v l.v (zd ++ zp))) := by
   unfold Hid progC
   rw [if_neg (by rw [hp]; decide)]
   simp only [Int.toNat_natCast, hbl]
   simp only [hps]
   rfl
  have hk256 : k ≤ 256 := by have := hok.p; omega
  have HRI := J hr
  have HLI := J hl
  have HBLI := J hbl
  have i1 : (i : Int) < (x.nr : Int) := by rw [HKK.out.nr]; omega
  clear hil hrok hbl hps hr hl
  go_enter Try.func96, Try.ntmps96
  go_wp2
  refine wp_region_held_drew (S := (fun u => u.cell? ⟨w.heap.size + 1, 0, none⟩ = some (.slice da n1 dc) ∧ u.cell? ⟨w.heap.size + 1, 1, none⟩ = some (.slice sa n2 sc) ∧ u.cell? ⟨p, 0, none⟩ = some (.int .i64 (C.B : Int)) ∧ u.cell? ⟨p, 1, none⟩ = some (.int .i64 (C.P : Int)) ∧ u.cell? ⟨p, 2, none⟩ = some (.int .i64 (C.S : Int)))) (by kernel_rfl) (pg_drew HS3.out) fun O => ?_
  refine tk 0 ?_
  refine tk 1 ?_
  refine tk 2 ?_
  refine tk 3 ?_
  refine tk 4 ?_
  refine tk 5 ?_
  refine tk 6 ?_
  refine rd 7 fun K N => ?_
  go_simp
  go_at_call 44
  refine (rdata_any _ _ _ _ g0 g1).mono ?_
  rintro e u1 ⟨rfl, b1⟩
  have HB1 := J (below_trans (drew_below _) b1)
  have hZ := pg_keep HS3.out HB1.out
  clear b1
  go_wp2_with fail
  clear O
  refine N.out _ _ hZ fun O => ?_
  clear N K hZ
  try simp only [zz]
  refine tk 8 ?_
  refine tk 9 ?_
  refine tk 10 ?_
  refine tk 11 ?_
  refine tk 12 ?_
  refine tk 13 ?_
  refine tk 14 ?_
  refine tk 15 ?_
  refine tk 16 ?_
  refine rd 17 fun K N => ?_
  go_simp
  go_at_call 81
  refine (rspareB_any _ _ _ _ g0 g1).mono ?_
  rintro e u2 ⟨rfl, b2⟩
  have HB2 := J (below_trans HB1.out b2)
  have hZ := pg_keep HS3.out HB2.out
  clear b2
  go_wp2_with fail
  clear O
  refine N.out _ _ hZ fun O => ?_
  clear N K hZ
  try simp only [zz]
  refine tk 18 ?_
  refine tk 19 ?_
  refine td ?_
  clear O
  have HBU := J (below_trans HBW.out HB2.out)
  have HK2 := J (HKK.out.below HB2.out)
  obtain ⟨q0, q1⟩ := cells2 ((HB2.out.block _ (lt_of_block HPL.out)).trans HPL.out)
  have HPL2 := J ((HB2.out.block _ (lt_of_block HPL.out)).trans HPL.out)
  have HPG2 := J ((HB2.out.block _ (lt_of_block HPG.out)).trans HPG.out)
  clear HS3 c5
  go_upto_region 7 with (first
   | (go_at_call 101; refine (place_any x p C.B C.P (i : Int) (k : Int) _ HK2.out.box HK2.out.B HK2.out.P).mono ?_; rintro e u3 ⟨rfl, b1⟩; rw [hp]; have HB3 := J b1; have HK3 := J (HK2.out.below b1); have HPD : Hid (u3.drew.cell? ⟨w.heap.size, 0, none⟩ = some (.int .i64 (i : Int)) ∧ u3.drew.cell? ⟨w.heap.size, 1, none⟩ = some (.int .i64 (k : Int))) := cells2 ((b1.block _ (lt_of_block HPL2.out)).trans HPL2.out); clear b1 q0 q1))
  have HK1 := J (And.intro HK3.out.box.c3 (HK3.out.blk HRI.out).2)
  refine wp_region_held_drew (S := (fun u => (u.cell? ⟨w.heap.size, 0, none⟩ = some (.int .i64 (i : Int)) ∧ u.cell? ⟨w.heap.size, 1, none⟩ = some (.int .i64 (k : Int))) ∧ u.cell? ⟨p, 3, none⟩ = some (.slice (some ⟨x.gr, 0, none⟩) x.nr x.cr))) (by kernel_rfl) (⟨HPD.out, HK1.out.1⟩) fun O => ?_
  refine tk 0 ?_
  refine tk 1 ?_
  refine tk 2 ?_
  refine tk 3 ?_
  refine tk 4 ?_
  refine tk 5 ?_
  refine tk 6 ?_
  refine tk 7 ?_
  refine td ?_
  clear O
  go_upto_region 8 with fail
  have HB3D := J (below_trans (below_trans HBU.out HB3.out) (drew_below u3))
  have HKD := J (HK3.out.below (drew_below u3))
  have HPD9 : Hid (u3.drew.heap[w.heap.size]? = some (.cells #[.int .i64 (i : Int), .int .i64 (k : Int)] 41 (0, 0))) := (HB3.out.block _ (lt_of_block HPL2.out)).trans HPL2.out
  have HPG9 : Hid (u3.drew.heap[w.heap.size + 1]? = some (.cells #[.slice da n1 dc, .slice sa n2 sc] 36 (0, 0))) := (HB3.out.block _ (lt_of_block HPG2.out)).trans HPG2.out
  have HDDB := J (below_trans (drew_below u3) (drew_below u3.drew))
  generalize hU3 : u3.drew = U3 at HPD HB3D HKD HPD9 HPG9 HDDB ⊢
  have HK4 := J (And.intro HKD.out.box.c3 (HKD.out.blk HRI.out).2)
  clear HK1
  have HK1 := HK4
  clear HK4 hU3 HK3 HB3 HK2 HPL2 HPG2 HBU HB2 HB1
  have fin43 : Hid ((r.m || !r.r || decide ((k : Int) < r.nx)) = true → progC C (i : Int) (k : Int) (zd ++ zp) = (43, C)) := fun e => by rw [HEP.out, if_pos e]
  cases hm : r.m with
  | true =>
   rw [hm] at HK1 HEP
   refine wp_region_held_drew (S := (fun u => (u.cell? ⟨w.heap.size, 0, none⟩ = some (.int .i64 (i : Int)) ∧ u.cell? ⟨w.heap.size, 1, none⟩ = some (.int .i64 (k : Int))) ∧ u.cell? ⟨x.gr, i * 4 + 1, none⟩ = some (.bool true) ∧ u.cell? ⟨x.gr, i * 4 + 2, none⟩ = some (.bool r.r) ∧ u.cell? ⟨x.gr, i * 4 + 3, none⟩ = some (.int .i64 r.nx))) (by kernel_rfl) (⟨HPD.out, HK1.out.2⟩) fun O => ?_
   refine tk 0 ?_
   refine tk 1 ?_
   refine tk 2 ?_
   refine tk 3 ?_
   refine tk 4 ?_
   refine tu 5 ?_
   refine tu 6 ?_
   refine tu 7 ?_
   refine tu 8 ?_
   refine tu 9 ?_
   refine tk 10 ?_
   refine tk 11 ?_
   refine tu 12 ?_
   refine tu 13 ?_
   refine tu 14 ?_
   refine tu 15 ?_
   refine tu 16 ?_
   refine tu 17 ?_
   refine tu 18 ?_
   refine tk 19 ?_
   refine td ?_
   clear O
   obtain ⟨y0, y1⟩ := HPD.out
   go_wp2_with (first | (go_at_call 98; refine (traced_any _ p F C w0 fs x rs (HKD.out.below (drew_below U3)) (by omega) 1 (i : Int) (k : Int) 43).mono ?_; rintro e9 u9 ⟨rfl, hr9, ho9⟩; have HE := J (tr_fin (below_trans HB3D.out (drew_below U3)) HW0.out hr9.ref ho9); clear hr9 ho9))
   go_ret
   rw [fin43.out (by rw [hm]; rfl)]
   exact ⟨rfl, HE.out.1, HE.out.2⟩
  | false =>
   rw [hm] at HK1 HEP
   cases hrr : r.r with
   | false =>
    rw [hrr] at HK1
    refine wp_region_held_drew (S := (fun u => (u.cell? ⟨w.heap.size, 0, none⟩ = some (.int .i64 (i : Int)) ∧ u.cell? ⟨w.heap.size, 1, none⟩ = some (.int .i64 (k : Int))) ∧ u.cell? ⟨x.gr, i * 4 + 1, none⟩ = some (.bool false) ∧ u.cell? ⟨x.gr, i * 4 + 2, none⟩ = some (.bool false) ∧ u.cell? ⟨x.gr, i * 4 + 3, none⟩ = some (.int .i64 r.nx))) (by kernel_rfl) (⟨HPD.out, HK1.out.2⟩) fun O => ?_
    refine tk 0 ?_
    refine tk 1 ?_
    refine tk 2 ?_
    refine tk 3 ?_
    refine tk 4 ?_
    refine tk 5 ?_
    refine tk 6 ?_
    refine tk 7 ?_
    refine tk 8 ?_
    refine tk 9 ?_
    refine tk 10 ?_
    refine tk 11 ?_
    refine tu 12 ?_
    refine tu 13 ?_
    refine tu 14 ?_
    refine tu 15 ?_
    refine tu 16 ?_
    refine tu 17 ?_
    refine tu 18 ?_
    refine tk 19 ?_
    refine td ?_
    clear O
    obtain ⟨y0, y1⟩ := HPD.out
    go_wp2_with (first | (go_at_call 98; refine (traced_any _ p F C w0 fs x rs (HKD.out.below (drew_below U3)) (by omega) 1 (i : Int) (k : Int) 43).mono ?_; rintro e9 u9 ⟨rfl, hr9, ho9⟩; have HE := J (tr_fin (below_trans HB3D.out (drew_below U3)) HW0.out hr9.ref ho9); clear hr9 ho9))
    go_ret
    rw [fin43.out (by rw [hrr, hm]; rfl)]
    exact ⟨rfl, HE.out.1, HE.out.2⟩
   | true =>
    rw [hrr] at HK1
    cases hx : decide ((k : Int) < r.nx) with
    | true =>
     refine wp_region_held_drew (S := (fun u => (u.cell? ⟨w.heap.size, 0, none⟩ = some (.int .i64 (i : Int)) ∧ u.cell? ⟨w.heap.size, 1, none⟩ = some (.int .i64 (k : Int))) ∧ u.cell? ⟨x.gr, i * 4 + 1, none⟩ = some (.bool false) ∧ u.cell? ⟨x.gr, i * 4 + 2, none⟩ = some (.bool true) ∧ u.cell? ⟨x.gr, i * 4 + 3, none⟩ = some (.int .i64 r.nx))) (by kernel_rfl) (⟨HPD.out, HK1.out.2⟩) fun O => ?_
     refine tk 0 ?_
     refine tk 1 ?_
     refine tk 2 ?_
     refine tk 3 ?_
     refine tk 4 ?_
     refine tk 5 ?_
     refine tk 6 ?_
     refine tk 7 ?_
     refine tk 8 ?_
     refine tk 9 ?_
     refine tk 10 ?_
     refine tk 11 ?_
     refine tk 12 ?_
     refine tk 13 ?_
     refine tk 14 ?_
     refine tk 15 ?_
     refine tk 16 ?_
     refine tk 17 ?_
     refine tk 18 ?_
     refine tk 19 ?_
     refine td ?_
     clear O
     obtain ⟨y0, y1⟩ := HPD.out
     go_wp2_with (first | (go_at_call 98; refine (traced_any _ p F C w0 fs x rs (HKD.out.below (drew_below U3)) (by omega) 1 (i : Int) (k : Int) 43).mono ?_; rintro e9 u9 ⟨rfl, hr9, ho9⟩; have HE := J (tr_fin (below_trans HB3D.out (drew_below U3)) HW0.out hr9.ref ho9); clear hr9 ho9))
     go_ret
     rw [fin43.out (by rw [hrr, hm, hx]; rfl)]
     exact ⟨rfl, HE.out.1, HE.out.2⟩
    | false =>
     have HEQ : Hid (progC C (i : Int) (k : Int) (zd ++ zp) = (endE (takeF C.cnt C.q).k, progN C (i : Int) (k : Int) r.v l.v (zd ++ zp))) := by unfold Hid; rw [HEP.out, hrr, hx, if_neg (by decide)]
     clear fin43 HEP
     refine wp_region_held_drew (S := (fun u => (u.cell? ⟨w.heap.size, 0, none⟩ = some (.int .i64 (i : Int)) ∧ u.cell? ⟨w.heap.size, 1, none⟩ = some (.int .i64 (k : Int))) ∧ u.cell? ⟨x.gr, i * 4 + 1, none⟩ = some (.bool false) ∧ u.cell? ⟨x.gr, i * 4 + 2, none⟩ = some (.bool true) ∧ u.cell? ⟨x.gr, i * 4 + 3, none⟩ = some (.int .i64 r.nx))) (by kernel_rfl) (⟨HPD.out, HK1.out.2⟩) fun O => ?_
     refine tk 0 ?_
     refine tk 1 ?_
     refine tk 2 ?_
     refine tk 3 ?_
     refine tk 4 ?_
     refine tk 5 ?_
     refine tk 6 ?_
     refine tk 7 ?_
     refine tk 8 ?_
     refine tk 9 ?_
     refine tk 10 ?_
     refine tk 11 ?_
     refine tk 12 ?_
     refine tk 13 ?_
     refine tk 14 ?_
     refine tk 15 ?_
     refine tk 16 ?_
     refine tk 17 ?_
     refine tk 18 ?_
     refine tk 19 ?_
     refine td ?_
     clear O
     obtain ⟨y0, y1⟩ := HPD.out
     have HTK := J (HKD.out.takeK hfb)
     go_upto_region 11 with (first
      | (go_at_call 99; refine (taken_any w0 _ p F C fs x rs (HKD.out.below (drew_below U3)) hfb (by omega) (by omega) 1 (i : Int) (k : Int)).mono ?_; rintro e9 u9 hv; obtain ⟨ma, ml, mc, rfl, hrd, hml, hmc⟩ := hv.ex; have HRD := J hrd; have HA := J hv.at'; have HO := J hv.only; have hfill := hv.fill; clear hrd hv))
     obtain ⟨C9, hC9⟩ : ∃ c : Ch, c = { C with q := takeR C.cnt C.q, cnt := C.cnt + 1, dark := C.dark || (takeF C.cnt C.q).k == 2, tr := C.tr ++ [⟨1, (i : Int), (k : Int), endE (takeF C.cnt C.q).k⟩] } := ⟨_, rfl⟩
     rw [← hC9] at HA
     have HC9 := J hC9
     obtain ⟨x9, hxg, ha9⟩ := HA.out
     have HXG := J hxg
     obtain ⟨k0, k1, k2, k3⟩ := ha9.blk HRI.out
     have hfz := ha9.rfz (i * 4 + 3)
     have hsr := ha9.setR HRI.out (r' := { r with nx := (k : Int) + 1 }) ⟨rfl, rfl, rfl⟩ 3 (by omega) (.int .i64 ((k : Int) + 1)) rfl
     rw [hxg] at k0 k1 k2 k3 hfz hsr
     have HS10 := J hsr
     have HSZ9 := J ha9.old.size
     have HLT : Hid (w.heap.size + 1 < U3.heap.size) := lt_of_block HPG9.out
     have HPL9 : Hid (u9.heap[w.heap.size]? = some (.cells #[.int .i64 (i : Int), .int .i64 (k : Int)] 41 (0, 0))) := (HO.out.block _ (by have := HLT.out; show w.heap.size < U3.heap.size; omega) (fun e => by have := HFW.out _ e; omega)).trans HPD9.out
     obtain ⟨z0, z1⟩ := cells2 HPL9.out
     clear hxg ha9 hsr hC9 HA y0 y1 HBLI HPL HPG HKK HRK HPD
     go_upto_region 12 with fail
     generalize hU10 : u9.setCell ⟨x.gr, i * 4 + 3, none⟩ (.int .i64 ((k : Int) + 1)) = U10 at HS10 ⊢
     have HF9 : Hid (∀ j, j < U3.heap.size → ¬ F j → ¬ Fx F U3.drew u9 j) := fun j hj hn => fun e => e.elim hn (fun e => by have : U3.heap.size ≤ j := e.1; omega)
     have HR10 : Hid (∀ (a : Option Addr) (n : Nat) (zs : List Int), Reads w a n zs → (∀ y, a = some y → 0 < n → ¬ F y.block) → Reads U10 a n zs) := fun a n zs hr hn => by
      have h3 : Reads U3.drew a n zs := (hr.below HB3D.out).below (drew_below U3)
      refine reads_keep h3 (fun y hy h0 => ?_)
      have hyl := reads_low' hr hy h0
      have hs3 := HB3D.out.size
      have hyn := hn y hy h0
      exact (HS10.out.2.block y.block (by have := HO.out.size; have e : U3.drew.heap.size = U3.heap.size := rfl; omega) (HF9.out _ (by omega) hyn)).trans (HO.out.block y.block (by have e : U3.drew.heap.size = U3.heap.size := rfl; omega) hyn)
     have HPG10 : Hid (U10.heap[w.heap.size + 1]? = some (.cells #[.slice da n1 dc, .slice sa n2 sc] 36 (0, 0))) := by
      have hn : ¬ F (w.heap.size + 1) := fun e => by have := HFW.out _ e; omega
      have h1 := (HO.out.block _ (show w.heap.size + 1 < U3.drew.heap.size from HLT.out) hn).trans HPG9.out
      exact (HS10.out.2.block _ (lt_of_block h1) (HF9.out _ HLT.out hn)).trans h1
     obtain ⟨p0, p1⟩ := cells2 HPG10.out
     have HD10 := J (HR10.out da n1 zd HD.out (fun y hy _ => HDF.out y hy))
     have HZ10 := J (HR10.out sa n2 zp HZ.out (fun y hy _ => HZF.out y hy))
     clear hU10 k0 k1 k2 k3 hfz z0 z1 HR10
     go_upto_region 14 with (first
      | (go_at_call 80; refine (join_any da n1 dc zd _ HD10.out hl1).mono ?_; rintro e u12 ⟨gj, cj, rfl, oj, bj⟩; have HOJ := J oj; have HBJ := J bj; obtain ⟨p0', p1'⟩ := cells2 ((bj.block _ (lt_of_block HPG10.out)).trans HPG10.out); clear oj bj)
      | (at_builtin; refine (wpList_append_reads rfl (.tmp 90) (.tmp 92) rfl U10.heap.size _ n1 zd rfl HOJ.out sa n2 sc zp rfl (HZ10.out.below HBJ.out) (by have := HN.out; omega) HBJ.out.size ?_); (intro v2 w2 own2 grow2; have HO2 := J own2; have HB2 := J (HBJ.out.grown grow2 HBJ.out.size (fun k hk => by have e : gj = k := Option.some.inj hk; rw [← e]; exact HOJ.out.lt.1))); clear own2 grow2))
     obtain ⟨L, hLe⟩ : ∃ L, L = pgB C.S := ⟨_, rfl⟩
     have HLE := J hLe
     have hL12 : n1 + n2 = L := by rw [hLe, HN.out.1, HN.out.2]; rfl
     have hL0 : 0 < L := by have := HN.out.2; omega
     have hLb : L ≤ 2126 := by rw [hLe]; exact pgB_le hs.2
     rw [hL12] at HO2
     obtain ⟨g2, c2, rfl, hc2, _⟩ := own_shape HO2.out hL0
     have hwant : ∀ z ∈ zd ++ zp, (0 : Int) ≤ z ∧ z ≤ 255 := fun z hz => by
      rcases List.mem_append.1 hz with h1 | h1
      ·exact HD.out.2.1 z h1
      ·exact HZ.out.2.1 z h1
     have HWT : Hid (Reads w2 (some ⟨g2, 0, none⟩) L (zd ++ zp)) := own_reads'' HO2.out hwant
     have HWR := J hwant
     have hi1 : (rs.set i { r with nx := (k : Int) + 1 })[i]? = some { r with nx := (k : Int) + 1 } := List.getElem?_set_self (List.getElem?_eq_some_iff.1 HRI.out).1
     have HI1 := J hi1
     have HA2 := J (HS10.out.1.below HB2.out)
     have HSX := J (And.intro ((HA2.out.blk hi1).1) HA2.out.nr)
     have hblk0 : w2.drew.cell? ⟨x.gr, i * 4, none⟩ = some (.slice (some ⟨r.g, 0, none⟩) r.ls.length r.cap) := by have h9 := (HA2.out.blk hi1).1; rw [HXG.out] at h9; exact h9
     have HPL2 : Hid (w2.drew.cell? ⟨w.heap.size, 0, none⟩ = some (.int .i64 (i : Int)) ∧ w2.drew.cell? ⟨w.heap.size, 1, none⟩ = some (.int .i64 (k : Int))) := by
      have h1 := (HS10.out.2.block _ (lt_of_block HPL9.out) (HF9.out _ (by have := HLT.out; omega) (fun e => by have := HFW.out _ e; omega))).trans HPL9.out
      exact cells2 ((HB2.out.block _ (lt_of_block h1)).trans h1)
     have HBK := J hblk0
     have hkl : (k : Int) < (r.ls.length : Int) := by have := (List.getElem?_eq_some_iff.1 HLI.out).1; omega
     clear hLe hwant hi1 hblk0 p0 p1 HSX HOJ HBJ HD10 HZ10
     refine wp_region_held_drew (S := (fun u => (u.cell? ⟨w.heap.size, 0, none⟩ = some (.int .i64 (i : Int)) ∧ u.cell? ⟨w.heap.size, 1, none⟩ = some (.int .i64 (k : Int))) ∧ u.cell? ⟨x.gr, i * 4, none⟩ = some (.slice (some ⟨r.g, 0, none⟩) r.ls.length r.cap))) (by kernel_rfl) (⟨HPL2.out, HBK.out⟩) fun O => ?_
     refine tk 0 ?_
     refine tk 1 ?_
     refine tk 2 ?_
     refine tk 3 ?_
     refine tk 4 ?_
     refine tk 5 ?_
     refine tk 6 ?_
     refine tk 7 ?_
     refine td ?_
     clear O
     have HA3 := J (HA2.out.below (drew_below w2))
     have HB3 := J (below_trans HB2.out (drew_below w2))
     have HWT3 : Hid (Reads w2.drew (some ⟨g2, 0, none⟩) L (zd ++ zp)) := HWT.out
     generalize hW3 : w2.drew = W3 at HA3 HB3 HWT3 HBK HPL2 ⊢
     have hr3 := HA3.out.rok _ (List.mem_of_getElem? HI1.out)
     have hl3 := hr3.lf l (List.mem_of_getElem? HLI.out)
     obtain ⟨ga, hla, _, hln, hlc, hrd, _⟩ := hl3.sl
     have eS : C9.S = C.S := by rw [HC9.out]
     have hln' : l.n = L := by rw [hln, HLE.out]; show pgB C9.S = _; rw [eS]
     have hrd3 : Reads W3 l.a L l.bits := by rw [HLE.out, ← eS]; exact hrd
     have hlf := hr3.leaf HLI.out
     have HLF : Hid (W3.cell? ⟨r.g, k * 3, none⟩ = some (.slice l.a L l.c)) := by have h9 := hlf.1; rw [hln'] at h9; exact h9
     have HRD3 := J hrd3
     have HBY := J hl3.byt
     have lf0 := HLF.out
     have HMK : Hid (Reads W3 ma ml (takeF C.cnt C.q).m) := HRD.out.below HA3.out.old
     clear hr3 hl3 hla hln hlc hrd hlf hrd3 hln' hW3 HA2 HB2 HO2 HWT
     go_upto_region 16 with (first
      | (go_at_call 110; refine (rfall_ok l.a L l.c l.bits (some ⟨g2, 0, none⟩) c2 (zd ++ zp) ma ml mc (takeF C.cnt C.q).m (takeF C.cnt C.q).f _ (by omega) hml HRD3.out HWT3.out HMK.out HRD.out.2.1 hfill).mono ?_; rintro e u15 ⟨g3, c3, rfl, o3, b3⟩; have HO3 := J o3; have HB15 := J (below_trans HB3.out b3); have HA15 := J (HA3.out.below b3); have lf15 : u15.cell? ⟨r.g, k * 3, none⟩ = some (.slice l.a L l.c) := (b3.cell (block_lt_of_cell HLF.out)).trans HLF.out; have hfz15 : u15.frozen? ⟨r.g, k * 3, none⟩ = false := HA15.out.lfz HI1.out (k * 3); have HW3S := J b3.size; clear o3 b3))
     have HSB := J (HA15.out.newBits (k := k) (l := l) (bits := fallL l.bits (zd ++ zp) (takeF C.cnt C.q).m (takeF C.cnt C.q).f L) (B := W3.heap.size) (g := g3) (c := c3) HI1.out HLI.out (by show Own _ _ _ (pgB C9.S) _ _; rw [eS, ← HLE.out]; exact HO3.out) (fallL_range _ _ _ _ HBY.out HWR.out HRD.out.2.1 hfill L) HA3.out.old.size)
     have eSL : pgB C9.S = L := by rw [eS, HLE.out]
     have HSB2 : Hid (RAt w0 (u15.setCell ⟨r.g, k * 3, none⟩ (.slice (some ⟨g3, 0, none⟩) L c3)) p (fun j => Fx F U3.drew u9 j ∨ (W3.heap.size ≤ j ∧ j < u15.heap.size)) { C9 with bl := (C9.bl.set i ({ r with nx := (k : Int) + 1 } : Rc).v).set i (({ r with nx := (k : Int) + 1 } : Rc).v.setP k ⟨fallL l.bits (zd ++ zp) (takeF C.cnt C.q).m (takeF C.cnt C.q).f L, l.h⟩) } fs x9 ((rs.set i { r with nx := (k : Int) + 1 }).set i (({ r with nx := (k : Int) + 1 } : Rc).setL k (l.withB g3 L c3 (fallL l.bits (zd ++ zp) (takeF C.cnt C.q).m (takeF C.cnt C.q).f L)))) ∧ Only (Fx F U3.drew u9) u15 (u15.setCell ⟨r.g, k * 3, none⟩ (.slice (some ⟨g3, 0, none⟩) L c3))) := by
      have h9 := HSB.out
      have e9 : pgB ({ C9 with bl := C9.bl.set i ({ r with nx := (k : Int) + 1 } : Rc).v } : Ch).S = L := eSL
      rw [e9] at h9
      exact h9
     clear HSB
     have HU15 := J HB15.out.size
     generalize hU16 : u15.setCell ⟨r.g, k * 3, none⟩ (.slice (some ⟨g3, 0, none⟩) L c3) = U16 at HSB2 ⊢
     have hi2 : ((rs.set i { r with nx := (k : Int) + 1 }).set i (({ r with nx := (k : Int) + 1 } : Rc).setL k (l.withB g3 L c3 (fallL l.bits (zd ++ zp) (takeF C.cnt C.q).m (takeF C.cnt C.q).f L))))[i]? = some (({ r with nx := (k : Int) + 1 } : Rc).setL k (l.withB g3 L c3 (fallL l.bits (zd ++ zp) (takeF C.cnt C.q).m (takeF C.cnt C.q).f L))) := List.getElem?_set_self (by rw [List.length_set]; exact (List.getElem?_eq_some_iff.1 HRI.out).1)
     have hk2 : (({ r with nx := (k : Int) + 1 } : Rc).setL k (l.withB g3 L c3 (fallL l.bits (zd ++ zp) (takeF C.cnt C.q).m (takeF C.cnt C.q).f L))).ls[k]? = some (l.withB g3 L c3 (fallL l.bits (zd ++ zp) (takeF C.cnt C.q).m (takeF C.cnt C.q).f L)) := List.getElem?_set_self (List.getElem?_eq_some_iff.1 HLI.out).1
     have hfz16 : U16.frozen? ⟨r.g, k * 3 + 2, none⟩ = false := HSB2.out.1.lfz hi2 (k * 3 + 2)
     have lf16 : U16.cell? ⟨r.g, k * 3 + 2, none⟩ = some (.bool l.h) := ((HSB2.out.1.rok _ (List.mem_of_getElem? hi2)).leaf hk2).2.2
     have HSH := J (HSB2.out.1.setH (endE (takeF C.cnt C.q).k == 0) hi2 hk2)
     clear hi2 hk2 hU16 lf15 hfz15 lf0
     go_wp2
     go_ret
     have hset : Only F w (U16.setCell ⟨r.g, k * 3 + 2, none⟩ (.bool (endE (takeF C.cnt C.q).k == 0))) := by
      have h1 : Only F w u9 := (Only.ofB (F := F) (below_trans HB3D.out (drew_below U3))).trans HO.out (fun _ _ h => h)
      have h2 : Only F w U10 := h1.trans HS10.out.2 (fun j hj e => e.elim (fun e => e) (fun e => by have := HB3D.out.size; have h8 : U3.heap.size ≤ j := e.1; omega))
      have h3 : Only F w u15 := h2.trans (Only.ofB (F := F) HB15.out) (fun _ _ h => h)
      have h4 : Only F w U16 := h3.trans HSB2.out.2 (fun j hj e => e.elim (fun e => e) (fun e => by have := HB3D.out.size; have h8 : U3.heap.size ≤ j := e.1; omega))
      refine h4.trans HSH.out.2 (fun j hj e => ?_)
      rcases e with e | e
      ·exact e.elim (fun e => e) (fun e => by have := HB3D.out.size; have h8 : U3.heap.size ≤ j := e.1; omega)
      ·have h7 := HU15.out
       have h5 := h2.size
       have h6 := HB3.out.size
       exact absurd e.1 (by omega)
     rw [HEQ.out]
     refine ⟨rfl, ?_, hset⟩
     have hV9 := hset.size
     have hV16 := HSH.out.2.size
     have hV15 := HSB2.out.2.size
     have hb3 := HB3D.out.size
     have hu9 : U3.heap.size ≤ u9.heap.size := HO.out.size
     have hu10 := HS10.out.2.size
     have hb15 := HB15.out.size
     refine RefAt.eqC (RefAt.more (G := Fx F w _) ⟨x9, _, HSH.out.1⟩ (fun j hj => ?_) (fun j hj => ?_) (fun j hj => ?_)) ?_
     ·rcases hj with (h1 | h1) | h1
      ·exact Or.inl h1
      ·exact Or.inr ⟨by have e : U3.heap.size ≤ j := h1.1; omega, Nat.lt_of_lt_of_le h1.2 (Nat.le_trans hu10 (Nat.le_trans hb15 (Nat.le_trans hV15 hV16)))⟩
      ·exact Or.inr ⟨by have := h1.1; have := HB3.out.size; omega, Nat.lt_of_lt_of_le h1.2 (Nat.le_trans hV15 hV16)⟩
     ·rcases hj with h1 | h1
      ·exact Nat.lt_of_lt_of_le (HFW.out j h1) hV9
      ·exact h1.2
     ·rcases hj with h1 | h1
      ·exact HS10.out.1.lo j (Or.inl h1)
      ·exact Nat.le_trans HW0.out h1.1
     ·rw [HC9.out]
      simp [noteC, progN, Bl.setP, Rc.v, Rc.setL, Lc.v, Lc.withB, List.set_set, HTK.out, HLE.out]
end Go.Proofs.Ytadlkikjfonkgaa
