/-
  SEAT Ytadlkikjfonkgaa: Er.
-/
import Derived.Test.YtadlkikjfonkgaaQa
import Derived.Test.YtadlkikjfonkgaaQi
namespace Go.Proofs.Ytadlkikjfonkgaa
open Go.RowKit Go.Conc
set_option linter.unusedVariables false
set_option maxRecDepth 100000
set_option maxHeartbeats 4000000
variable {w u u' : World} {F : Nat → Prop} {C : Ch} {gb i bg n ml mc : Nat} {fa fk ff : Int} {ma : Option Addr}
theorem CAt.flips {w' : World} {p : Nat} {x : Bx} {bs : List Bc} {fe fe' : List Fe} {fl' : Int → Int → List Nat} (h : CAt w p F C x bs fe) (hO : Only (· = x.gm) w w') (hf : FlAt w' F x.gm fe') (hs : ∀ b p, look fe' b p = fl' b p) : CAt w' p F { C with fl := fl' } x bs fe' := by
 obtain ⟨es, clock, hm, _⟩ := h.fl.map
 have hT : KeepT F (· = 1001) w w' := hO.keepT (fun k o t hk ho ht => by
  rw [hk, hm] at ho
  cases ho
  exact ht)
 exact ⟨hT _ _ 102 h.fp h.box rfl (by decide), h.fp, h.B, h.P, h.S, h.nb, h.dark, h.cnt, hT _ _ 106 h.fb h.row rfl (by decide), h.fb, h.bl, fun b hb => (h.bok b hb).keep hT (by decide) (fun _ h => h) ((hT _ _ 108 (h.bok b hb).fg (h.bok b hb).row rfl (by decide)).trans (h.bok b hb).row.symm), h.gs, hf, hs, h.q.keep hT (by decide) (by decide) (fun _ h => h) ⟨rfl, rfl, rfl, rfl, rfl, rfl, rfl⟩ rfl, h.tr.keep hT (by decide) (fun _ h => h) ⟨rfl, rfl, rfl⟩, fun k hk => Nat.lt_of_lt_of_le (h.fin k hk) hO.size⟩
def erJ (L : Nat) (k : Int) (m : List Int) (f : Int) (ps : List Pg) : Nat → List Pg
 | 0 => ps
 | j + 1 => (erJ L k m f ps j).set j ⟨rsP L k m f j ((ps.getD j ⟨[], false⟩).bits), false⟩
def flJ (fl : Int → Int → List Nat) (bb : Int) : Nat → Int → Int → List Nat
 | 0 => fl
 | j + 1 => fun b p => if b = bb ∧ p = (j : Int) then [] else flJ fl bb j b p
theorem erJ_len (L : Nat) (k : Int) (m : List Int) (f : Int) (ps : List Pg) (j : Nat) : (erJ L k m f ps j).length = ps.length := by
 induction j with
 | zero => rfl
 | succ j ih => simp [erJ, ih]
theorem erJ_ge (L : Nat) (k : Int) (m : List Int) (f : Int) (ps : List Pg) (j : Nat) : ∀ n, j ≤ n → (erJ L k m f ps j)[n]? = ps[n]? := by
 induction j with
 | zero => intro n _; rfl
 | succ j ih => intro n hn; rw [erJ, List.getElem?_set_ne (by omega)]; exact ih n (by omega)
theorem risen_p (w : World) (p : Nat) (F : Nat → Prop) (C : Ch) (x : Bx) (bs : List Bc) (fe : List Fe) (h : CAt w p F C x bs fe) (hS : 1 ≤ C.S ∧ C.S ≤ 8) (i : Nat) (hi : i ≤ 256) (q : Pc) (hq : PcOk w F (pgB C.S) q) (fa fk : Int) (ma : Option Addr) (ml mc : Nat) (ff : Int) (fm : List Int) (hm : MaskOk w F ma ml fm) (hmc : ml ≤ mc) (hff : 0 ≤ ff ∧ ff ≤ 255) :
  Calls Try.prog 104 #[.pointer (some ⟨p, 0, none⟩), .slice q.a q.n q.c, .int .i64 (i : Int), .agg #[.int .i64 fa, .int .i64 fk, .slice ma ml mc, .int .u8 ff]] w fun e w' => ∃ a' n' c', e = .returned (.slice a' n' c') ∧ PcOk w' (Fx F w w') (pgB C.S) ⟨a', n', c', rsP (pgB C.S) fk fm ff i q.bits, false⟩ ∧ Below w.heap.size w w' := by
 have hbyt := hm.rd.2.1
 have onesOk : ∀ w', PcOk w' (Fx F w w') (pgB C.S) ⟨none, 0, 0, List.replicate (pgB C.S) 255, false⟩ := fun w' => ⟨by simp, fun y hy => by have := (List.mem_replicate.1 hy).2; omega, Or.inl ⟨rfl, rfl, rfl, rfl⟩⟩
 have hdrop : ∀ y ∈ fm.drop (min (i * pgB C.S) fm.length), (0 : Int) ≤ y ∧ y ≤ 255 := fun y hy => hbyt y (List.mem_of_mem_drop hy)
 rcases hq.sl with ⟨h1, h2, h3, h4⟩ | ⟨g, h1, h2, h3, h4, h5, h6⟩
 ·rw [h1, h2, h3]
  refine (risen_nil p w 0 0 i fa fk ma ml mc ff).mono ?_
  rintro e w' ⟨rfl, hb⟩
  refine ⟨_, _, _, rfl, ?_, hb⟩
  have e1 : rsP (pgB C.S) fk fm ff i q.bits = List.replicate (pgB C.S) 255 := by
   unfold rsP
   split
   ·rfl
   ·rw [h4]; exact rise_ones _ _ _ hdrop hff _ (Nat.le_refl _)
  rw [e1]
  exact onesOk w'
 ·rw [h1, h3]
  by_cases hk : fk = 0
  ·subst hk
   refine (risen_ok p w ⟨g, 0, none⟩ _ q.c i fa ma ml mc ff).mono ?_
   rintro e w' ⟨rfl, hb⟩
   exact ⟨_, _, _, rfl, onesOk w', hb⟩
  ·rw [h1] at h5
   refine (risen_any w p F C x bs fe h hS ⟨g, 0, none⟩ q.c i hi q.bits h5 fa fk ma ml mc ff fm (by simpa using hk) hm hmc).mono ?_
   rintro e w' ⟨gr, cr, rfl, o, hb⟩
   have hr : ∀ y ∈ riseL q.bits (fm.drop (min (i * pgB C.S) fm.length)) ff (pgB C.S), (0 : Int) ≤ y ∧ y ≤ 255 := riseL_range _ _ _ hq.byt hdrop hff _
   have e1 : rsP (pgB C.S) fk fm ff i q.bits = riseL q.bits (fm.drop (min (i * pgB C.S) fm.length)) ff (pgB C.S) := if_neg hk
   have hpos : 0 < pgB C.S := by unfold pgB; omega
   obtain ⟨g', c', e2, e3, _⟩ := own_shape o hpos
   cases e2
   have hl := o.len
   have hrd := o.reads hr (pgB C.S) (Nat.le_refl _)
   rw [List.take_of_length_le (by omega)] at hrd
   obtain ⟨cs, hcs⟩ := own_tag (g := gr) o rfl
   refine ⟨_, _, _, rfl, ?_, hb⟩
   rw [e1]
   exact ⟨hl, hr, Or.inr ⟨gr, rfl, Or.inr o.lt, rfl, e3, hrd, ⟨cs, (0, 0), hcs⟩⟩⟩
def eraseN (C : Ch) (pb : Int) (b : Bl) : Ch :=
 { C with q := takeR C.cnt C.q, cnt := C.cnt + 1, dark := C.dark || (takeF C.cnt C.q).k == 2, fl := flJ C.fl pb C.P, bl := C.bl.set pb.toNat { b with r := (takeF C.cnt C.q).k == 0, nx := 0, ps := erJ (pgB C.S) (takeF C.cnt C.q).k (takeF C.cnt C.q).m (takeF C.cnt C.q).f b.ps C.P } }
def eraseC (C : Ch) (pb : Int) : Int × Ch :=
 if hasB C.B pb = false then (41, C) else
  match C.bl[pb.toNat]? with
  | none => (41, C)
  | some b => if b.m then (43, C) else (endE (takeF C.cnt C.q).k, eraseN C pb b)
theorem erase_a (w : World) (p : Nat) (F : Nat → Prop) (C : Ch) (x : Bx) (bs : List Bc) (fe : List Fe) (h : CAt w p F C x bs fe) (pb : Int) (hP : hasB C.B pb = false) :
  Calls Try.prog 87 #[.pointer (some ⟨p, 0, none⟩), .int .i64 pb] w fun e w' => e = .returned (.int .i64 41) ∧ Below w.heap.size w w' := by
 have HC := J h
 clear h
 go_enter Try.func87, Try.ntmps87
 go_wp2_with (first | (go_at_call 85; refine (hasBlock_any HC.out.box pb C.B HC.out.B).mono ?_; rintro e u1 ⟨rfl, h1⟩; rw [h1, hP]; clear h1))
 go_ret
 exact ⟨rfl, Below.refl _ _⟩
theorem erase_m (w : World) (p : Nat) (F : Nat → Prop) (C : Ch) (x : Bx) (bs : List Bc) (fe : List Fe) (h : CAt w p F C x bs fe) (i : Nat) (b : Bc) (hi : bs[i]? = some b) (hBl : C.bl.length = C.B) (hm : b.m = true) :
  Calls Try.prog 87 #[.pointer (some ⟨p, 0, none⟩), .int .i64 (i : Int)] w fun e w' => e = .returned (.int .i64 43) ∧ Below w.heap.size w w' := by
 have hil : i < bs.length := (List.getElem?_eq_some_iff.1 hi).1
 have hP : hasB C.B (i : Int) = true := by
  have e1 : bs.length = C.B := by have h1 := h.len; rw [hBl] at h1; exact h1
  exact decide_eq_true (by omega)
 have i1 : (i : Int) < (x.nb : Int) := by rw [h.nb]; omega
 have HFW : Hid (∀ k, F k → k < w.heap.size) := h.fin
 have HC := J h
 have c3 := h.box.c3
 obtain ⟨m0, m1, m2, m3⟩ := h.blk hi
 rw [hm] at m0
 clear h m1 m2 m3
 go_enter Try.func87, Try.ntmps87
 go_wp2_with (first | (go_at_call 85; refine (hasBlock_any HC.out.box (i : Int) C.B HC.out.B).mono ?_; rintro e u1 ⟨rfl, h1⟩; rw [h1, hP]; clear h1))
 go_ret
 exact ⟨rfl, Below.refl _ _⟩
theorem er_keep {fb : Nat} (h : u.cell? ⟨gb, i * 4 + 3, none⟩ = some (.slice (some ⟨bg, 0, none⟩) n n) ∧ u.cell? ⟨fb, 0, none⟩ = some (.int .i64 fa) ∧ u.cell? ⟨fb, 1, none⟩ = some (.int .i64 fk) ∧ u.cell? ⟨fb, 2, none⟩ = some (.slice ma ml mc) ∧ u.cell? ⟨fb, 3, none⟩ = some (.int .u8 ff)) (hb : Below u.heap.size u u') :
  u'.cell? ⟨gb, i * 4 + 3, none⟩ = some (.slice (some ⟨bg, 0, none⟩) n n) ∧ u'.cell? ⟨fb, 0, none⟩ = some (.int .i64 fa) ∧ u'.cell? ⟨fb, 1, none⟩ = some (.int .i64 fk) ∧ u'.cell? ⟨fb, 2, none⟩ = some (.slice ma ml mc) ∧ u'.cell? ⟨fb, 3, none⟩ = some (.int .u8 ff) := by
 obtain ⟨h0, h1, h2, h3, h4⟩ := h
 exact ⟨(hb.cell (block_lt_of_cell h0)).trans h0, (hb.cell (block_lt_of_cell h1)).trans h1, (hb.cell (block_lt_of_cell h2)).trans h2, (hb.cell (block_lt_of_cell h3)).trans h3, (hb.cell (block_lt_of_cell h4)).trans h4⟩
theorem er_only {fb : Nat} (h : u.cell? ⟨gb, i * 4 + 3, none⟩ = some (.slice (some ⟨bg, 0, none⟩) n n) ∧ u.cell? ⟨fb, 0, none⟩ = some (.int .i64 fa) ∧ u.cell? ⟨fb, 1, none⟩ = some (.int .i64 fk) ∧ u.cell? ⟨fb, 2, none⟩ = some (.slice ma ml mc) ∧ u.cell? ⟨fb, 3, none⟩ = some (.int .u8 ff)) (hb : Only F u u') (hg : ¬ F gb) (hf : ¬ F fb) :
  u'.cell? ⟨gb, i * 4 + 3, none⟩ = some (.slice (some ⟨bg, 0, none⟩) n n) ∧ u'.cell? ⟨fb, 0, none⟩ = some (.int .i64 fa) ∧ u'.cell? ⟨fb, 1, none⟩ = some (.int .i64 fk) ∧ u'.cell? ⟨fb, 2, none⟩ = some (.slice ma ml mc) ∧ u'.cell? ⟨fb, 3, none⟩ = some (.int .u8 ff) := by
 obtain ⟨h0, h1, h2, h3, h4⟩ := h
 exact ⟨hb.cell h0 hg, hb.cell h1 hf, hb.cell h2 hf, hb.cell h3 hf, hb.cell h4 hf⟩
structure ErS (w wr : World) (p : Nat) (F : Nat → Prop) (C : Ch) (x2 : Bx) (i fb j : Nat) (b : Bl) (fa fk : Int) (ma : Option Addr) (ml mc : Nat) (ff : Int) (fm : List Int) (bsr : List Bc) (fer : List Fe) : Prop where
 c : CAt wr p (Fx F w wr) { C with q := takeR C.cnt C.q, cnt := C.cnt + 1, bl := C.bl.set i { b with ps := erJ (pgB C.S) fk fm ff b.ps j }, fl := flJ C.fl (i : Int) j } x2 bsr fer
 o : Only F w wr
 v : wr.heap[fb]? = some (.cells #[.int .i64 fa, .int .i64 fk, .slice ma ml mc, .int .u8 ff] 58 (0, 0))
 m : MaskOk wr (Fx F w wr) ma ml fm
theorem er_next {wr w1 u4 u9 : World} {p : Nat} {x2 : Bx} {fb j : Nat} {b : Bl} {fm : List Int} {bsr : List Bc} {fer fer' : List Fe} {br : Bc} {qr : Pc} {bsx : List Bc} 
  (hr : ErS w wr p F C x2 i fb j b fa fk ma ml mc ff fm bsr fer) (ho1 : Only (· = x2.gm) wr w1) (hT1 : KeepT (Fx F w wr) (· = 1001) wr w1) (hv1 : w1.heap[fb]? = some (.cells #[.int .i64 fa, .int .i64 fk, .slice ma ml mc, .int .u8 ff] 58 (0, 0))) (hb4 : Below w1.drew.heap.size w1.drew u4)
  (hx : CAt u9 p (Fx (Fx F w wr) w1.drew u4) { C with q := takeR C.cnt C.q, cnt := C.cnt + 1, fl := flJ C.fl (i : Int) (j + 1), bl := (C.bl.set i { b with ps := erJ (pgB C.S) fk fm ff b.ps j }).set i { br.v with ps := br.v.ps.set j ⟨rsP (pgB C.S) fk fm ff j qr.bits, false⟩ } } x2 bsx fer' ∧ Only (· = br.g) u4 u9)
  (hbv : br.v = { b with ps := erJ (pgB C.S) fk fm ff b.ps j }) (hqv : b.ps[j]? = some qr.v) (hfg : fb ≠ br.g) (hbg : br ∈ bsr) (hFW : ∀ k, F k → k < w.heap.size) :
  ErS w u9 p F C x2 i fb (j + 1) b fa fk ma ml mc ff fm bsx fer' := by
 have hsz1 := ho1.size
 have hsz2 : w1.heap.size ≤ u4.heap.size := hb4.size
 have hsz3 := hx.2.size
 have hszr := hr.o.size
 have hG : ∀ k, Fx (Fx F w wr) w1.drew u4 k → Fx F w u9 k := fun k hk => by
  rcases hk with (h1 | h1) | h1
  ·exact Or.inl h1
  ·exact Or.inr ⟨h1.1, by show k < u9.heap.size; omega⟩
  ·have h2 : w1.heap.size ≤ k := h1.1
   exact Or.inr ⟨by omega, by show k < u9.heap.size; omega⟩
 have hlim : ∀ k, Fx F w u9 k → k < u9.heap.size := fun k hk => Or.elim hk (fun h1 => by have := hFW k h1; show k < u9.heap.size; omega) (fun h1 => h1.2)
 refine ⟨?_, ?_, ?_, ?_⟩
 ·have h1 := hx.1.keep (w' := u9) (G := Fx F w u9) (fun _ _ => rfl) hG hlim
  rw [List.set_set] at h1
  have e1 : ({ br.v with ps := br.v.ps.set j ⟨rsP (pgB C.S) fk fm ff j qr.bits, false⟩ } : Bl) = { b with ps := erJ (pgB C.S) fk fm ff b.ps (j + 1) } := by
   rw [hbv]
   have e2 : (b.ps.getD j ⟨[], false⟩).bits = qr.bits := by rw [List.getD_eq_getElem?_getD, hqv]; rfl
   simp only [erJ, e2]
  rw [e1] at h1
  exact h1
 ·have o1 : Only F w w1 := hr.o.trans ho1 (fun k hk e => by
   have h1 := hr.c.fl.fg
   rw [← e] at h1
   exact Or.elim h1 (fun h => h) (fun h => absurd h.1 (by omega)))
  have o2 : Only F w u4 := o1.trans (Only.ofB (F := fun _ => False) (below_trans (drew_below w1) hb4)) (fun _ _ h => h.elim)
  have o3 : Only F w u9 := o2.trans hx.2 (fun k hk e => by
   have h1 := (hr.c.bok br hbg).fg
   rw [← e] at h1
   exact Or.elim h1 (fun h => h) (fun h => absurd h.1 (by omega)))
  exact o3
 ·show u9.heap[fb]? = _
  rw [hx.2.block fb (by have := lt_of_block hv1; omega) hfg]
  exact (hb4.block fb (lt_of_block hv1)).trans hv1
 ·have m1 := hr.m.keep hT1 (by decide) (fun _ h => h)
  have m2 := m1.keep (w' := u4) (T := fun _ => False) (G := Fx F w wr) (fun k o t hk ho _ _ => (hb4.block k (lt_of_block ho)).trans ho) (fun h => h) (fun _ h => h)
  have hbr0 := (hr.c.bok br hbg).row
  have hb1 := hT1 _ _ 108 (hr.c.bok br hbg).fg hbr0 rfl (by decide)
  have hb2 := (hb4.block br.g (lt_of_block hb1)).trans hb1
  have hT9 : KeepT (Fx F w wr) (· = 108) u4 u9 := hx.2.keepT (fun k o t hk ho ht => by
   rw [hk, hb2] at ho
   cases ho
   exact ht.symm)
  have m3 := m2.keep hT9 (by decide) (fun _ h => h)
  exact m3.keep (KeepT.of (fun k hk => rfl) (fun _ => False)) (fun h => h) (fun k hk => by
   rcases hk with h1 | h1
   ·exact Or.inl h1
   ·exact Or.inr ⟨h1.1, by show k < u9.heap.size; omega⟩)
theorem erase_ok (w : World) (p : Nat) (F : Nat → Prop) (C : Ch) (x : Bx) (bs : List Bc) (fe : List Fe) (h : CAt w p F C x bs fe) (i : Nat) (b : Bc) (hi : bs[i]? = some b) (hBl : C.bl.length = C.B) (hS : 1 ≤ C.S ∧ C.S ≤ 8) (hP2 : C.P ≤ 256) (hcn : C.cnt ≤ 4000000000000) (hm : b.m = false) :
  Calls Try.prog 87 #[.pointer (some ⟨p, 0, none⟩), .int .i64 (i : Int)] w fun e w' => e = .returned (.int .i64 (endE (takeF C.cnt C.q).k)) ∧ ChipAt w' p (Fx F w w') (eraseN C (i : Int) b.v) ∧ Only F w w' := by
 have hil : i < bs.length := (List.getElem?_eq_some_iff.1 hi).1
 have hP : hasB C.B (i : Int) = true := by
  have e1 : bs.length = C.B := by have h1 := h.len; rw [hBl] at h1; exact h1
  exact decide_eq_true (by omega)
 have i1 : (i : Int) < (x.nb : Int) := by rw [h.nb]; omega
 have HFW : Hid (∀ k, F k → k < w.heap.size) := h.fin
 have HC := J h
 have c3 := h.box.c3
 obtain ⟨m0, m1, m2, m3⟩ := h.blk hi
 rw [hm] at m0
 have hbp : b.ps.length = C.P := (h.bok b (List.mem_of_getElem? hi)).np
 clear h
 go_enter Try.func87, Try.ntmps87
 go_upto_region 7 with (first | (go_at_call 85; refine (hasBlock_any HC.out.box (i : Int) C.B HC.out.B).mono ?_; rintro e u1 ⟨rfl, h1⟩; rw [h1, hP]; clear h1) | (go_at_call 103; refine (take_any _ p F C x bs fe HC.out hcn).mono ?_; rintro e u2 ⟨v, x2, rfl, vk, k1, k2, k3⟩; obtain ⟨ma, ml, mc, hve, mok, mle⟩ := vk.ex; have hvf := vk.fill; obtain ⟨fa, hfa⟩ : ∃ z, (takeF (C.cnt : Int) C.q).a = z := ⟨_, rfl⟩; obtain ⟨fk, hfk⟩ : ∃ z, (takeF (C.cnt : Int) C.q).k = z := ⟨_, rfl⟩; obtain ⟨ff, hff⟩ : ∃ z, (takeF (C.cnt : Int) C.q).f = z := ⟨_, rfl⟩; obtain ⟨fm, hfm⟩ : ∃ z, (takeF (C.cnt : Int) C.q).m = z := ⟨_, rfl⟩; rw [hfa, hfk, hff] at hve; rw [hfm] at mok; rw [hff] at hvf; subst hve; have HC2 := J k1; have O2 := J k3; have HG2 := J k2; have HM2 := J mok; have HE := J (And.intro hfa (And.intro hfk (And.intro hff hfm))); have HFF := J hvf; have HMLE := J mle; clear vk mok mle hvf k1 k2 k3 hfa hfk hff hfm))
 have HW2 := J O2.out.size
 obtain ⟨u3, hu3⟩ : ∃ u, u = u2.alloc (.cells #[.int .i64 fa, .int .i64 fk, .slice ma ml mc, .int .u8 ff] 58) := ⟨_, rfl⟩
 have HB3 : Hid (Below u2.heap.size u2 u3) := by rw [hu3]; exact below_alloc _ _
 have HV3 : Hid (u3.heap[u2.heap.size]? = some (.cells #[.int .i64 fa, .int .i64 fk, .slice ma ml mc, .int .u8 ff] 58 (0, 0))) := by rw [hu3]; exact alloc_new _ _
 rw [← hu3]
 clear hu3
 obtain ⟨fb, hfb⟩ : ∃ g, g = u2.heap.size := ⟨_, rfl⟩
 rw [← hfb] at HV3 HW2 HB3 ⊢
 have HFB2 := J hfb
 clear hfb
 have HC3 := J (HC2.out.below (by rw [← HFB2.out]; exact HB3.out))
 have HM3 := J (HM2.out.keep (KeepT.of (fun k hk => HB3.out.block k (by rw [HFB2.out]; exact HC2.out.fin k hk)) (fun _ => False)) (fun h => h) (fun k h => (Or.inl h : Fx F w u3 k)))
 have HOW3 : Hid (Only F w u3) := (O2.out.trans (Only.ofB (F := fun _ => False) (by rw [← HFB2.out]; exact HB3.out)) (fun _ _ h => h.elim)).mono (fun j _ e => by rcases e with e | e <;> rw [e]; exact HC.out.fp; exact HC.out.q.fc)
 have HE0 : Hid (ErS w u3 p F C x2 i fb 0 b.v fa fk ma ml mc ff fm bs fe) := by
  have hset : C.bl.set i { b.v with ps := b.v.ps } = C.bl := by
   have e6 : C.bl[i]? = some b.v := by rw [← HC.out.bl, List.getElem?_map, hi]; rfl
   obtain ⟨hlt, e7⟩ := List.getElem?_eq_some_iff.1 e6
   have e8 : ({ b.v with ps := b.v.ps } : Bl) = b.v := rfl
   rw [e8, ← e7]
   exact List.set_getElem_self hlt
  refine ⟨?_, HOW3.out, HV3.out, HM3.out⟩
  have h9 := HC3.out.keep (w' := u3) (G := Fx F w u3) (fun _ _ => rfl) (fun _ h => Or.inl h) (fun k hk => Or.elim hk (fun h1 => HC3.out.fin k h1) (fun h1 => h1.2))
  show CAt u3 p (Fx F w u3) { C with q := takeR C.cnt C.q, cnt := C.cnt + 1, bl := C.bl.set i { b.v with ps := b.v.ps }, fl := C.fl } x2 bs fe
  rw [hset]
  exact h9
 obtain ⟨n0, n1, n2, n3⟩ := HC3.out.blk hi
 rw [HG2.out, hbp] at n3
 have hfw : w.heap.size ≤ fb := HW2.out
 clear c3 m0 m1 m2 m3 n0 n1 n2 HB3 HM2
 go_wp2
 go_loopw [29] (fun s29 wr => ∃ (j : Nat) (bsr : List Bc) (fer : List Fe), j ≤ C.P ∧ s29 = .int .i64 j ∧ Hid (ErS w wr p F C x2 i fb j b.v fa fk ma ml mc ff fm bsr fer))
  (fun s29 _ => C.P - (intOf s29).toNat)
 case atStart => exact ⟨0, bs, fe, Nat.zero_le _, rfl, HE0⟩
 case round =>
  obtain ⟨j, bsr, fer, hj, rfl, HR⟩ := hrel
  have hCr := HR.out.c
  have hlr : i < bsr.length := by rw [hCr.len]; simp; rw [hBl]; have := of_decide_eq_true hP; omega
  obtain ⟨br, hbr⟩ : ∃ br, bsr[i]? = some br := ⟨_, List.getElem?_eq_getElem hlr⟩
  have hbv : br.v = { b.v with ps := erJ (pgB C.S) fk fm ff b.v.ps j } := by
   have e1 : (bsr.map Bc.v)[i]? = some br.v := by rw [List.getElem?_map, hbr]; rfl
   rw [hCr.bl] at e1
   have e2 : i < C.bl.length := by rw [hBl]; have := of_decide_eq_true hP; omega
   rw [List.getElem?_set_self e2] at e1
   exact (Option.some.inj e1).symm
  have hbrp : br.ps.length = C.P := (hCr.bok br (List.mem_of_getElem? hbr)).np
  by_cases hlt : j < C.P
  ·have hjl : j < br.ps.length := by omega
   obtain ⟨qr, hqr⟩ : ∃ q, br.ps[j]? = some q := ⟨_, List.getElem?_eq_getElem hjl⟩
   have hqv : b.v.ps[j]? = some qr.v := by
    have e1 : (br.ps.map Pc.v)[j]? = some qr.v := by rw [List.getElem?_map, hqr]; rfl
    have e2 : br.ps.map Pc.v = br.v.ps := rfl
    rw [e2, hbv] at e1
    rw [← erJ_ge (pgB C.S) fk fm ff b.v.ps j j (Nat.le_refl _)]
    exact e1
   have d1 : decide ((j : Int) < (C.P : Int)) = true := decide_eq_true (by omega)
   obtain ⟨w1, hdel, hfl1, ho1⟩ := hCr.fl.del (i : Int) (j : Int) 0
   have hC1 := hCr.flips ho1 hfl1 (fl' := flJ C.fl (i : Int) (j + 1)) (fun b' p' => by rw [look_delE _ _ _ _ hCr.fl.keys, hCr.fs]; rfl)
   have hdel2 : (Builtin.delete_ #[97, 41] 0 #[.map (some x2.gm), .agg #[.int .i64 (i : Int), .int .i64 (j : Int)]]).run Try.prog wr = .ok (.tuple #[]) w1 := hdel
   have cm4 := hCr.box.c4
   obtain ⟨_, _, _, r3⟩ := hC1.blk hbr
   rw [HG2.out] at r3
   have hgm : fb ≠ x2.gm := by
    obtain ⟨es, clock, hmp, _⟩ := hCr.fl.map
    exact tag_ne HR.out.v hmp (t := 58) (u := 1001) rfl rfl (by decide)
   have hv1 := (ho1.block fb (lt_of_block HR.out.v) hgm).trans HR.out.v
   obtain ⟨f0, f1, f2, f3⟩ := cells4 hv1
   have HS11 : Hid (w1.drew.cell? ⟨x.gb, i * 4 + 3, none⟩ = some (.slice (some ⟨br.g, 0, none⟩) br.ps.length br.ps.length) ∧ w1.drew.cell? ⟨fb, 0, none⟩ = some (.int .i64 fa) ∧ w1.drew.cell? ⟨fb, 1, none⟩ = some (.int .i64 fk) ∧ w1.drew.cell? ⟨fb, 2, none⟩ = some (.slice ma ml mc) ∧ w1.drew.cell? ⟨fb, 3, none⟩ = some (.int .u8 ff)) := ⟨r3, f0, f1, f2, f3⟩
   have HT1 : Hid (KeepT (Fx F w wr) (· = 1001) wr w1) := ho1.keepT (fun k o t hk' ho' ht => by
    obtain ⟨es, clock, hmp, _⟩ := hCr.fl.map
    rw [hk', hmp] at ho'
    cases ho'
    exact ht)
   have HMr : Hid (MaskOk w1.drew (Fx F w wr) ma ml fm) := (HR.out.m.keep HT1.out (by decide) (fun _ h => h)).keep (KeepT.of (fun k hk => rfl) (fun _ => False)) (fun h => h) (fun _ h => h)
   have HCd := J (hC1.below (drew_below w1))
   have HQR := J ((HCd.out.bok br (List.mem_of_getElem? hbr)).pg qr (List.mem_of_getElem? hqr))
   have zz := ((hC1.bok br (List.mem_of_getElem? hbr)).page hqr).1
   have HFBG : Hid (fb ≠ br.g) := tag_ne hv1 (hC1.bok br (List.mem_of_getElem? hbr)).row (t := 58) (u := 108) rfl rfl (by decide)
   have HV1 := J hv1
   have HO1 := J ho1
   have HBV := J hbv
   have HQV := J hqv
   have k1 : (j : Int) < (br.ps.length : Int) := by omega
   have i2 : (j : Int) ≤ 256 := by omega
   clear hCr hC1 hfl1 ho1 hdel hv1 f0 f1 f2 f3 r3 hbv hqv hgm hjl
   go_upto_region 11 with fail
   refine wp_region_held_drew (S := (fun u => u.cell? ⟨x.gb, i * 4 + 3, none⟩ = some (.slice (some ⟨br.g, 0, none⟩) br.ps.length br.ps.length) ∧ u.cell? ⟨fb, 0, none⟩ = some (.int .i64 fa) ∧ u.cell? ⟨fb, 1, none⟩ = some (.int .i64 fk) ∧ u.cell? ⟨fb, 2, none⟩ = some (.slice ma ml mc) ∧ u.cell? ⟨fb, 3, none⟩ = some (.int .u8 ff))) (by kernel_rfl) (HS11.out) fun O => ?_
   refine tk 0 ?_
   refine tk 1 ?_
   refine tk 2 ?_
   refine tk 3 ?_
   refine tk 4 ?_
   refine tk 5 ?_
   refine tk 6 ?_
   refine tk 7 ?_
   refine tk 8 ?_
   refine tk 9 ?_
   refine tk 10 ?_
   refine tk 11 ?_
   refine tk 12 ?_
   refine tk 14 ?_
   refine tk 15 ?_
   refine rd 13 fun K N => ?_
   go_simp
   go_wp2_with fail
   refine N.out _ _ O (fun hHeld13 => ?_)
   clear N K
   clear hHeld13
   try simp only [zz]
   refine rd 16 fun K N => ?_
   go_simp
   go_at_call 104
   refine (risen_p _ p _ _ x2 bsr _ HCd.out hS j (by omega) qr HQR.out fa fk ma ml mc ff fm HMr.out HMLE.out HFF.out).mono ?_
   rintro e u4 ⟨a4, n4, c4, rfl, p4, b4⟩
   have HP4 := J p4
   have HB4 := J b4
   have hZ := er_keep HS11.out b4
   clear p4 b4
   go_wp2_with fail
   clear O
   refine N.out _ _ hZ fun O => ?_
   clear N K hZ
   try simp only [zz]
   have HC4 := J (HCd.out.below HB4.out)
   obtain ⟨z0, z1⟩ := (HC4.out.bok br (List.mem_of_getElem? hbr)).page hqr
   have fzp := fun j => frozen_of_row u4 br.g j _ 108 (HC4.out.bok br (List.mem_of_getElem? hbr)).row
   refine tk 17 ?_
   refine tk 18 ?_
   refine rd 19 fun K N => ?_
   go_simp
   go_wp2_with fail
   have HX := J (HC4.out.setP (w0 := w) (G := Fx (Fx F w wr) w1.drew u4) hbr hqr (fun k hk => Or.inl hk) (fun k hk => Or.elim hk (fun h1 => Nat.lt_of_lt_of_le (HCd.out.fin k h1) HB4.out.size) (fun h1 => h1.2)) HP4.out)
   have hZ := er_only (er_keep HS11.out HB4.out) HX.out.2 (fun e => prog_gb HC4.out hbr (by rw [HG2.out]; exact e)) HFBG.out
   clear O
   refine N.out _ _ hZ fun O => ?_
   clear N K hZ
   try simp only [zz]
   refine td ?_
   clear O zz k1 cm4 hdel2
   generalize hu9 : World.setCell _ ⟨br.g, j * 2 + 1, none⟩ _ = u9 at HX ⊢
   clear hu9
   have HNX : Hid (ErS w u9 p F C x2 i fb (j + 1) b.v fa fk ma ml mc ff fm _ _) := er_next HR.out HO1.out HT1.out HV1.out HB4.out HX.out HBV.out HQV.out HFBG.out (List.mem_of_getElem? hbr) HFW.out
   go_wp2
   go_roundw
   case rel => exact ⟨j + 1, _, _, by omega, by go_num, HNX⟩
   case measure => simp [intOf]; omega
  ·have hjP : j = C.P := by omega
   subst hjP
   obtain ⟨r0, r1, r2, r3⟩ := hCr.blk hbr
   have fzb := fun j => frozen_of_row wr x2.gb j _ 106 hCr.row
   rw [HG2.out] at r0 r1 r2 r3 fzb
   obtain ⟨f0, f1, f2, f3⟩ := cells4 HR.out.v
   have HCr := J hCr
   have HBV := J hbv
   clear hCr hbv
   go_upto_region 14 with fail
   have HC5 := J (HCr.out.setB hbr 1 (by omega) (.bool (fk == 0)) { br with r := fk == 0 } rfl rfl rfl)
   have hb5 : (bsr.set i { br with r := fk == 0 })[i]? = some { br with r := fk == 0 } := List.getElem?_set_self hlr
   have HC6 := J (HC5.out.setB hb5 2 (by omega) (.int .i64 0) { br with r := fk == 0, nx := 0 } rfl rfl rfl)
   rw [HG2.out] at HC6
   have HO6 := J ((Only.setCell (· = x.gb) wr x.gb (i * 4 + 1) (.bool (fk == 0)) rfl).trans' (Only.setCell (· = x.gb) _ x.gb (i * 4 + 2) (.int .i64 0) rfl))
   clear HC5
   generalize hu6 : World.setCell _ ⟨x.gb, i * 4 + 2, none⟩ _ = u6 at HC6 HO6 ⊢
   clear hu6 r0 r1 r2 r3 fzb
   have hgb : x.gb < w.heap.size := HFW.out _ HC.out.fb
   have w0 := HO6.out.cell f0 (by omega)
   have w1 := HO6.out.cell f1 (by omega)
   have w2 := HO6.out.cell f2 (by omega)
   have w3 := HO6.out.cell f3 (by omega)
   clear f0 f1 f2 f3
   go_wp2_with (first | (go_at_call 105; refine (end_c _ p _ _ _ _ fer HC6.out fa fk ma ml mc ff).mono ?_; rintro e v9 ⟨rfl, ⟨x9, k9⟩, o9⟩; have HK9 := J k9; have HO9 := J o9; clear k9 o9))
   go_ret
   have hOW9 : Only F w v9 := (HR.out.o.trans HO6.out (fun j _ e => by rw [e]; exact HC.out.fb)).trans HO9.out (fun j _ e => by rw [e]; exact HC.out.fp)
   obtain ⟨ea, ek, ef, em⟩ := HE.out
   have h10 := HK9.out.keep (w' := v9) (G := Fx F w v9) (fun _ _ => rfl) (fun j hj => by
    rcases hj with h1 | h1
    ·exact Or.inl h1
    ·exact Or.inr ⟨h1.1, Nat.lt_of_lt_of_le h1.2 (Nat.le_trans HO6.out.size HO9.out.size)⟩) (fun j hj => Or.elim hj (fun h1 => Nat.lt_of_lt_of_le (HFW.out j h1) hOW9.size) (fun h1 => h1.2))
   simp only [List.set_set] at h10
   have e11 : ({ br with r := fk == 0, nx := 0 } : Bc).v = { b.v with r := fk == 0, nx := 0, ps := erJ (pgB C.S) fk fm ff b.v.ps C.P } := by
    have e12 : ({ br with r := fk == 0, nx := 0 } : Bc).v = { br.v with r := fk == 0, nx := 0 } := rfl
    rw [e12, HBV.out]
   rw [e11] at h10
   unfold eraseN
   rw [ek, ef, em]
   exact ⟨rfl, ⟨x9, _, fer, h10⟩, hOW9⟩
theorem erase_any (w : World) (p : Nat) (F : Nat → Prop) (C : Ch) (h : ChipAt w p F C) (hok : C.Ok) (hcn : C.cnt ≤ 4000000000000) (pb : Int) :
  Calls Try.prog 87 #[.pointer (some ⟨p, 0, none⟩), .int .i64 pb] w fun e w' => e = .returned (.int .i64 (eraseC C pb).1) ∧ ChipAt w' p (Fx F w w') (eraseC C pb).2 ∧ Only F w w' := by
 obtain ⟨x, bs, fe, hc⟩ := h
 have h : ChipAt w p F C := ⟨x, bs, fe, hc⟩
 unfold eraseC
 cases hp : hasB C.B pb with
 | false =>
  refine (erase_a w p F C x bs fe hc pb hp).mono ?_
  rintro e w' ⟨rfl, hb⟩
  exact ⟨rfl, h.fx hb, Only.ofB hb⟩
 | true =>
  obtain ⟨i, rfl, hi⟩ : ∃ i : Nat, pb = i ∧ i < C.B := ⟨pb.toNat, by have := of_decide_eq_true hp; omega, by have := of_decide_eq_true hp; omega⟩
  have hbl : i < bs.length := by rw [hc.len, hok.bl]; exact hi
  have hib : bs[i]? = some bs[i] := List.getElem?_eq_getElem hbl
  obtain ⟨b, hb⟩ : ∃ b, bs[i] = b := ⟨_, rfl⟩
  rw [hb] at hib
  have e1 : C.bl[i]? = some b.v := by rw [← hc.bl, List.getElem?_map, hib]; rfl
  simp only [Int.toNat_natCast, e1, Bool.true_eq_false, if_false]
  cases hm : b.m with
  | true =>
   have hv : b.v.m = true := hm
   rw [hv, if_pos rfl]
   refine (erase_m w p F C x bs fe hc i b hib hok.bl hm).mono ?_
   rintro e w' ⟨rfl, hb⟩
   exact ⟨rfl, h.fx hb, Only.ofB hb⟩
  | false =>
   have hv : b.v.m = false := hm
   rw [hv, if_neg (by decide)]
   exact erase_ok w p F C x bs fe hc i b hib hok.bl hok.s hok.p.2 hcn hm
def EraseC (C : Ch) (pb : Int) : Int × Ch := if C.dark then (45, C) else noteC 2 pb 0 (eraseC C pb)
theorem eraseC_tr (C : Ch) (pb : Int) : (eraseC C pb).2.tr = C.tr := by
 unfold eraseC
 split
 ·rfl
 ·split
  ·rfl
  ·split <;> rfl
theorem Erase_any (w : World) (p : Nat) (F : Nat → Prop) (C : Ch) (h : ChipAt w p F C) (hok : C.Ok) (htr : C.tr.length ≤ 3000000000000) (pb : Int) :
  Calls Try.prog 51 #[.pointer (some ⟨p, 0, none⟩), .int .i64 pb] w fun e w' => e = .returned (.int .i64 (EraseC C pb).1) ∧ ChipAt w' p (Fx F w w') (EraseC C pb).2 ∧ Only F w w' := by
 obtain ⟨x, bs, fe, hc⟩ := h
 have h : ChipAt w p F C := ⟨x, bs, fe, hc⟩
 have c11 := hc.box.c11
 rw [hc.dark] at c11
 have hcn := hok.cnt
 have HH := J h
 have HFW := J hc.fin
 clear h hc
 unfold EraseC
 cases hd : C.dark with
 | true =>
  rw [hd] at c11
  go_enter Try.func51, Try.ntmps51
  go_wp2
  go_ret
  exact ⟨rfl, ChipAt.fx HH.out (Below.refl _ _), Only.refl _ _⟩
 | false =>
  rw [hd] at c11
  simp only [Bool.false_eq_true, if_false]
  go_enter Try.func51, Try.ntmps51
  go_wp2_with (first
   | (go_at_call 87; refine (erase_any _ p F C HH.out hok (by omega) pb).mono ?_; rintro e u1 ⟨rfl, k1, k2⟩; have HC1 := J k1; have HO1 := J k2; clear k1 k2 c11)
   | (go_at_call 86; obtain ⟨x3, bs3, fe3, hc3⟩ := HC1.out; refine (note_any _ p _ _ x3 bs3 fe3 hc3 (by rw [eraseC_tr]; omega) 2 pb 0 _).mono ?_; rintro e u2 ⟨rfl, k1, k2⟩; have HC2 := J k1; have HO2 := J k2; clear k1 k2 hc3))
  go_ret
  exact ⟨rfl, noted HFW.out HO1.out HO2.out HC2.out⟩
end Go.Proofs.Ytadlkikjfonkgaa
