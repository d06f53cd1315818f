/-
  SEAT Ytadlkikjfonkgaa: Xd, Xe.
-/
import Derived.Test.YtadlkikjfonkgaaQa
import Derived.Test.YtadlkikjfonkgaaQs
import Derived.Test.YtadlkikjfonkgaaQo
import Derived.Test.YtadlkikjfonkgaaQg
import Derived.Test.YtadlkikjfonkgaaQe
import Derived.Test.YtadlkikjfonkgaaQh
namespace Go.Proofs.Ytadlkikjfonkgaa
open Go.RowKit Go.Conc
set_option linter.unusedVariables false
set_option maxRecDepth 100000
set_option maxHeartbeats 4000000
variable {c : Fc} {n pb pp : Int} {w w0 u : World} {F : Nat → Prop} {C : Ch} {x : Rx} {rs : List Rc} {q11 : Nat}
theorem fmb_step {l : Int} {r : List Fc} (h : fmb l (c :: r) = true) : (decide (c.a ≤ l) || (c.k != 1 && c.k != 2)) = false ∧ fmb c.a r = true := by
 unfold fmb at h
 split at h
 ·cases h
 ·rename_i h1
  exact ⟨by simpa using h1, h⟩
def findF (n : Int) : List Fc → Ft
 | [] => Ft.no
 | c :: r => if c.a = n then c.t else findF n r
theorem fmb_low : ∀ (fs : List Fc) (l : Int), fmb l fs = true → ∀ c ∈ fs, l < c.a ∧ (c.k = 1 ∨ c.k = 2)
 | [], _, _, c, hc => by cases hc
 | c :: r, l, h, d, hd => by
  obtain ⟨h1, h2⟩ := fmb_step h
  rw [Bool.or_eq_false_iff] at h1
  have h3 := of_decide_eq_false h1.1
  rcases List.mem_cons.1 hd with rfl | hd
  ·refine ⟨by omega, ?_⟩
   have h4 := h1.2
   simp at h4
   rcases Classical.em (d.k = 1) with h9 | h9
   ·exact Or.inl h9
   ·exact Or.inr (h4 h9)
  ·have := fmb_low r c.a h2 d hd
   exact ⟨by omega, this.2⟩
theorem findF_none {n : Int} : ∀ {fs : List Fc}, (∀ c ∈ fs, c.a ≠ n) → findF n fs = Ft.no
 | [], _ => rfl
 | c :: r, h => by
  unfold findF
  rw [if_neg (h c (by simp))]
  exact findF_none (fun d hd => h d (List.mem_cons_of_mem _ hd))
theorem filter_all {n : Nat} {fs : List Fc} (h : ∀ c ∈ fs, (n : Int) < c.a) : (fs.map Fc.t).filter (fun f => decide ((n : Int) ≤ f.a)) = fs.map Fc.t ∧ (fs.map Fc.t).filter (fun f => decide (((n + 1 : Nat) : Int) ≤ f.a)) = fs.map Fc.t := by
 constructor
 ·refine List.filter_eq_self.2 (fun f hf => ?_)
  obtain ⟨c, hc, rfl⟩ := List.mem_map.1 hf
  have := h c hc
  exact decide_eq_true (show (n : Int) ≤ c.a by omega)
 ·refine List.filter_eq_self.2 (fun f hf => ?_)
  obtain ⟨c, hc, rfl⟩ := List.mem_map.1 hf
  have := h c hc
  exact decide_eq_true (show ((n + 1 : Nat) : Int) ≤ c.a by omega)
theorem take_find : ∀ (fs : List Fc) (l : Int), fmb l fs = true → ∀ n : Nat, takeF n ((fs.map Fc.t).filter (fun f => decide ((n : Int) ≤ f.a))) = findF n fs ∧ takeR n ((fs.map Fc.t).filter (fun f => decide ((n : Int) ≤ f.a))) = (fs.map Fc.t).filter (fun f => decide (((n + 1 : Nat) : Int) ≤ f.a))
 | [], _, _, n => ⟨rfl, rfl⟩
 | c :: r, l, h, n => by
  obtain ⟨h1, h2⟩ := fmb_step h
  have hlow := fmb_low r c.a h2
  have ih := take_find r c.a h2 n
  have ea : c.t.a = c.a := rfl
  rw [List.map_cons, List.filter_cons, List.filter_cons]
  by_cases hn : (n : Int) ≤ c.a
  ·have hall : ∀ d ∈ r, (n : Int) < d.a := fun d hd => by have := (hlow d hd).1; omega
   obtain ⟨f1, f2⟩ := filter_all hall
   rw [if_pos (by rw [ea]; exact decide_eq_true hn), f1, f2]
   by_cases he : c.a = (n : Int)
   ·rw [if_neg (by rw [ea]; simp; omega)]
    refine ⟨?_, ?_⟩
    ·simp only [takeF, findF, ea, he, if_true]
    ·simp only [takeR, ea, he, if_true]
   ·rw [if_pos (by rw [ea]; exact decide_eq_true (by omega))]
    refine ⟨?_, ?_⟩
    ·simp only [takeF, findF, ea, if_neg he]
     exact (findF_none (fun d hd => by have := hall d hd; omega)).symm
    ·simp only [takeR, ea, if_neg he]
  ·rw [if_neg (by rw [ea]; simpa using hn), if_neg (by rw [ea]; simp; omega)]
   refine ⟨?_, ih.2⟩
   rw [ih.1]
   simp only [findF]
   rw [if_neg (by omega)]
theorem findF_at {n : Int} : ∀ {fs : List Fc} {i : Nat} {c : Fc}, fs[i]? = some c → c.a = n → (∀ j d, j < i → fs[j]? = some d → d.a ≠ n) → findF n fs = c.t
 | [], i, c, h, _, _ => by simp at h
 | d :: r, 0, c, h, ha, _ => by
  simp at h
  subst h
  unfold findF
  rw [if_pos ha]
 | d :: r, i + 1, c, h, ha, hb => by
  unfold findF
  rw [if_neg (hb 0 d (by omega) rfl)]
  exact findF_at (by simpa using h) ha (fun j e hj he => hb (j + 1) e (by omega) (by simpa using he))
theorem ReadsF.at {a : Option Addr} {len : Nat} {fs : List Fc} (h : ReadsF w a len fs) {i : Nat} (hi : i < len) : ∃ g o c, a = some ⟨g, o, none⟩ ∧ fs[i]? = some c ∧ FcOk w c ∧ w.cell? ⟨g, o + i * 4, none⟩ = some (.int .i64 c.a) ∧ w.cell? ⟨g, o + i * 4 + 1, none⟩ = some (.int .i64 c.k) ∧ w.cell? ⟨g, o + i * 4 + 2, none⟩ = some (.slice c.ma c.ml c.mc) ∧ w.cell? ⟨g, o + i * 4 + 3, none⟩ = some (.int .u8 c.f) := by
 obtain ⟨b, off, ha, _, hc⟩ := h.pos (by omega)
 obtain ⟨k0, k1, k2, k3⟩ := hc i hi
 refine ⟨b, off, fs.getD i Fc.zero, ha, ?_, h.ok i hi, k0, k1, k2, k3⟩
 have hl := h.1
 rw [List.getD_eq_getElem?_getD, List.getElem?_eq_getElem (by omega)]
 rfl
def cntC (C : Ch) : Ch := { C with q := takeR C.cnt C.q, cnt := C.cnt + 1 }
structure TK (w0 w u : World) (p : Nat) (F : Nat → Prop) (C : Ch) (fs : List Fc) (x : Rx) (rs : List Rc) (q5 : Nat) (pb pp : Int) : Prop where
 r : RAt w0 u p F C fs x rs
 o : Only F w u
 b : u.heap[q5]? = some (.cells #[.int .i64 pb, .int .i64 pp] 41 (0, 0))
 q : w.heap.size ≤ q5
theorem TK.below {v : World} {p : Nat} {fs : List Fc} {q5 : Nat} (h : TK w0 w u p F C fs x rs q5 pb pp) (hb : Below u.heap.size u v) : TK w0 w v p F C fs x rs q5 pb pp :=
 ⟨h.r.below hb, h.o.trans (Only.ofB (F := F) hb) (fun _ _ h => h), (hb.block _ (lt_of_block h.b)).trans h.b, h.q⟩
theorem tk_start {p : Nat} {fs : List Fc} (h : RAt w0 w p F C fs x rs) (hfb : faultsB fs = true) (pb pp : Int) :
  TK w0 w ((w.setCell ⟨p, 6, none⟩ (.int .i64 ((C.cnt + 1 : Nat) : Int))).alloc (.cells #[.int .i64 pb, .int .i64 pp] 41)) p F (cntC C) fs { x with cnt := C.cnt + 1 } rs w.heap.size pb pp := by
 have hp := h.box.lt
 have ho := Only.setCell (· = p) w p 6 (.int .i64 ((C.cnt + 1 : Nat) : Int)) rfl
 have hF : ∀ k, k = p → F k := fun k e => e ▸ h.fp
 have hT : KeepT F (· = 135) w (w.setCell ⟨p, 6, none⟩ (.int .i64 ((C.cnt + 1 : Nat) : Int))) := ho.keepT (fun k o t hg hk ht => by
  rw [hg, show w.heap[p]? = _ from h.box] at hk
  cases hk
  exact ht.symm)
 have hq : QRel (cntC C).q (cntC C).cnt fs := by
  unfold faultsB at hfb
  rw [Bool.and_eq_true] at hfb
  have h9 := (take_find fs (-1) hfb.2 C.cnt).2
  have h8 : C.q = _ := h.q
  show takeR C.cnt C.q = _
  rw [h8]
  exact h9
 have hs : (w.setCell ⟨p, 6, none⟩ (.int .i64 ((C.cnt + 1 : Nat) : Int))).heap.size = w.heap.size := by simp
 have h1 : RAt w0 (w.setCell ⟨p, 6, none⟩ (.int .i64 ((C.cnt + 1 : Nat) : Int))) p F (cntC C) fs { x with cnt := C.cnt + 1 } rs := by
  refine h.frame hT (by decide) (by decide) (by decide) (by decide) (h.old.trans (ho.below (fun k e => h.lo k (hF k e)) h.old.size)) (fun _ h => h) (fun k hk => Nat.lt_of_lt_of_le (h.fin k hk) ho.size) h.lo (h.box.setCnt (C.cnt + 1)) ⟨rfl, rfl, rfl, rfl, rfl, rfl, rfl, rfl⟩ ⟨rfl, rfl, rfl, rfl, rfl⟩ h.dark rfl hq ?_ h.tl h.ft
  exact owns_keep h.tr (fun g hg => by obtain ⟨cs, hc⟩ := own_tag h.tr hg; exact (hT g _ 120 (h.ft g hg) hc rfl (by decide)).trans hc.symm)
 refine ⟨h1.below (below_alloc _ (.cells #[.int .i64 pb, .int .i64 pp] 41)), ?_, ?_, Nat.le_refl _⟩
 ·exact (ho.mono (fun k _ e => hF k e)).trans (Only.ofB (F := F) (below_alloc _ (.cells #[.int .i64 pb, .int .i64 pp] 41))) (fun _ _ h => h)
 ·have h9 := alloc_new (w.setCell ⟨p, 6, none⟩ (.int .i64 ((C.cnt + 1 : Nat) : Int))) (.cells #[.int .i64 pb, .int .i64 pp] 41)
  rw [hs] at h9
  exact h9
theorem tk_dark {p : Nat} {fs : List Fc} {q5 : Nat} (h : TK w0 w u p F C fs x rs q5 pb pp) (hw : ∀ k, F k → k < w.heap.size) :
  TK w0 w (u.setCell ⟨p, 5, none⟩ (.bool true)) p F { C with dark := true } fs { x with dark := true } rs q5 pb pp := by
 have ho := Only.setCell (· = p) u p 5 (.bool true) rfl
 have hF : ∀ k, k = p → F k := fun k e => e ▸ h.r.fp
 have hT : KeepT F (· = 135) u (u.setCell ⟨p, 5, none⟩ (.bool true)) := ho.keepT (fun k o t hg hk ht => by
  rw [hg, show u.heap[p]? = _ from h.r.box] at hk
  cases hk
  exact ht.symm)
 have hpw := hw p h.r.fp
 have hq5 := h.q
 refine ⟨h.r.frame hT (by decide) (by decide) (by decide) (by decide) (h.r.old.trans (ho.below (fun k e => h.r.lo k (hF k e)) h.r.old.size)) (fun _ h => h) (fun k hk => Nat.lt_of_lt_of_le (h.r.fin k hk) ho.size) h.r.lo (h.r.box.setDark true) ⟨rfl, rfl, rfl, rfl, rfl, rfl, rfl, rfl⟩ ⟨rfl, rfl, rfl, rfl, rfl⟩ rfl h.r.cnt h.r.q ?_ h.r.tl h.r.ft, h.o.trans ho (fun k _ e => hF k e), (ho.block _ (lt_of_block h.b) (fun e => by omega)).trans h.b, h.q⟩
 exact owns_keep h.r.tr (fun g hg => by obtain ⟨cs, hc⟩ := own_tag h.r.tr hg; exact (hT g _ 120 (h.r.ft g hg) hc rfl (by decide)).trans hc.symm)
theorem fx_mono {v : World} (hs : w.heap.size ≤ u.heap.size) : ∀ k, Fx F u v k → Fx F w v k := fun k hk => hk.elim Or.inl (fun h => Or.inr ⟨by omega, h.2⟩)
theorem RefAt.more {p : Nat} {G : Nat → Prop} {fs : List Fc} (h : RefAt w0 w p F C fs) (hF : ∀ k, F k → G k) (hG : ∀ k, G k → k < w.heap.size) (hl : ∀ k, G k → w0.heap.size ≤ k) : RefAt w0 w p G C fs := by
 obtain ⟨x, rs, h1⟩ := h
 exact ⟨x, rs, h1.keep (fun _ _ => rfl) h1.old hF hG hl⟩
structure TkV (w0 w w' : World) (p : Nat) (F : Nat → Prop) (C : Ch) (fs : List Fc) (k pb pp : Int) (e : Ending) (gr : Nat) (rs : List Rc) : Prop where
 ex : ∃ ma ml mc, e = .returned (.tuple #[.slice ma ml mc, .int .u8 (takeF C.cnt C.q).f, .int .i64 (endE (takeF C.cnt C.q).k)]) ∧ Reads w0 ma ml (takeF C.cnt C.q).m ∧ ml ≤ 140737488351232 ∧ ml ≤ mc
 fill : 0 ≤ (takeF C.cnt C.q).f ∧ (takeF C.cnt C.q).f ≤ 255
 at' : RefG w0 w' p (Fx F w w') { C with q := takeR C.cnt C.q, cnt := C.cnt + 1, dark := C.dark || (takeF C.cnt C.q).k == 2, tr := C.tr ++ [⟨k, pb, pp, endE (takeF C.cnt C.q).k⟩] } fs gr rs
 only : Only F w w'
theorem tk_end {v : World} {p : Nat} {D : Ch} {fs : List Fc} {q5 : Nat} (h : TK w0 w u p F D fs x rs q5 pb pp) (hw0 : w0.heap.size ≤ w.heap.size) {g : Nat} {rs9 : List Rc} (hr : RefG w0 v p (Fx F u v) C fs g rs9) (ho : Only F u v) : RefG w0 v p (Fx F w v) C fs g rs9 ∧ Only F w v := by
 have hs := h.o.size
 have hs2 := ho.size
 refine ⟨hr.more (fx_mono hs) (fun k hk => ?_) (fun k hk => ?_), h.o.trans ho (fun _ _ h => h)⟩
 ·rcases hk with h1 | h1
  ·exact Nat.lt_of_lt_of_le (h.r.fin k h1) hs2
  ·exact h1.2
 ·rcases hk with h1 | h1
  ·exact h.r.lo k h1
  ·exact Nat.le_trans hw0 h1.1
theorem sk8_of {q5 : Nat} (h1 : u.heap[q11]? = some (.cells #[.int .i64 c.a, .int .i64 c.k, .slice c.ma c.ml c.mc, .int .u8 c.f] 58 (0, 0))) (h2 : u.heap[q5]? = some (.cells #[.int .i64 pb, .int .i64 pp] 41 (0, 0))) : u.cell? ⟨q11, 2, none⟩ = some (.slice c.ma c.ml c.mc) ∧ u.cell? ⟨q11, 3, none⟩ = some (.int .u8 c.f) ∧ u.cell? ⟨q5, 0, none⟩ = some (.int .i64 pb) ∧ u.cell? ⟨q5, 1, none⟩ = some (.int .i64 pp) :=
 ⟨by simp only [World.cell?, h1]; rfl, by simp only [World.cell?, h1]; rfl, by simp only [World.cell?, h2]; rfl, by simp only [World.cell?, h2]; rfl⟩
theorem sk8_keep {v : World} {q5 : Nat} (ho : Only F u v) (hn : ¬ F q5 ∧ ¬ F q11) (h : u.cell? ⟨q11, 2, none⟩ = some (.slice c.ma c.ml c.mc) ∧ u.cell? ⟨q11, 3, none⟩ = some (.int .u8 c.f) ∧ u.cell? ⟨q5, 0, none⟩ = some (.int .i64 pb) ∧ u.cell? ⟨q5, 1, none⟩ = some (.int .i64 pp)) : v.cell? ⟨q11, 2, none⟩ = some (.slice c.ma c.ml c.mc) ∧ v.cell? ⟨q11, 3, none⟩ = some (.int .u8 c.f) ∧ v.cell? ⟨q5, 0, none⟩ = some (.int .i64 pb) ∧ v.cell? ⟨q5, 1, none⟩ = some (.int .i64 pp) :=
 ⟨ho.cell h.1 hn.2, ho.cell h.2.1 hn.2, ho.cell h.2.2.1 hn.1, ho.cell h.2.2.2 hn.1⟩
theorem taken_any (w0 w : World) (p : Nat) (F : Nat → Prop) (C : Ch) (fs : List Fc) (x : Rx) (rs : List Rc) (h : RAt w0 w p F C fs x rs) (hfb : faultsB fs = true) (hcn : C.cnt ≤ 4000000000000) (htr : C.tr.length ≤ 4000000000000) (k pb pp : Int) :
  Calls Try.prog 99 #[.pointer (some ⟨p, 0, none⟩), .int .i64 k, .agg #[.int .i64 pb, .int .i64 pp]] w fun e w' => TkV w0 w w' p F C fs k pb pp e x.gr rs := by
 have hft : takeF C.cnt C.q = findF C.cnt fs := by
  have h9 := hfb
  unfold faultsB at h9
  rw [Bool.and_eq_true] at h9
  have h8 : C.q = _ := h.q
  rw [h8]
  exact (take_find fs (-1) h9.2 C.cnt).1
 have hlow : ∀ c ∈ fs, c.k = 1 ∨ c.k = 2 := by
  have h9 := hfb
  unfold faultsB at h9
  rw [Bool.and_eq_true] at h9
  exact fun c hc => (fmb_low fs (-1) h9.2 c hc).2
 have hlen : x.fn ≤ 4096 := by
  have h9 := hfb
  unfold faultsB at h9
  rw [Bool.and_eq_true] at h9
  have := of_decide_eq_true h9.1
  rw [← h.flt.1]
  exact this
 have HFT := J hft
 have HLOW := J hlow
 have HFW : Hid (∀ k, F k → k < w.heap.size) := h.fin
 have HW0 : Hid (w0.heap.size ≤ w.heap.size) := h.old.size
 have HFL := J h.flt
 have hp := h.box.lt
 have g6 := h.box.c6
 rw [h.cnt] at g6
 have g7 := h.box.fz 6
 obtain ⟨n1, hn1⟩ : ∃ m, m = C.cnt + 1 := ⟨_, rfl⟩
 have hw1 : wrap64 ((C.cnt : Int) + 1) = (n1 : Int) := by unfold wrap64; omega
 have hw2 : (C.cnt : Int) + 1 = (n1 : Int) := by omega
 have HK0 := J (tk_start h hfb pb pp)
 rw [← hn1] at HK0
 have HN1 := J hn1
 clear h hft hlow hfb hn1
 go_enter Try.func99, Try.ntmps99
 go_upto_region 3 with fail
 generalize hU : (w.setCell ⟨p, 6, none⟩ (.int .i64 (n1 : Int))).alloc (.cells #[.int .i64 pb, .int .i64 pp] 41) = U at HK0 ⊢
 generalize hq5 : w.heap.size = q5 at HK0 ⊢
 clear hU hw1 hw2 g6 g7 hp
 rw [HN1.out] at HK0
 have HQ5 := J hq5
 clear hq5 HN1
 go_wp2
 go_loopw [10] (fun s10 wr => ∃ i : Nat, i ≤ x.fn ∧ s10 = .int .i64 i ∧ Hid (TK w0 w wr p F (cntC C) fs { x with cnt := C.cnt + 1 } rs q5 pb pp) ∧ Hid (∀ j d, j < i → fs[j]? = some d → d.a ≠ (C.cnt : Int))) (fun s10 _ => x.fn - (intOf s10).toNat)
 case atStart => exact ⟨0, Nat.zero_le _, rfl, HK0, fun j d hj => by omega⟩
 case round =>
  clear HK0
  obtain ⟨i, hi, rfl, HKr, HNO⟩ := hrel
  have c4 := HKr.out.r.box.c4
  by_cases hlt : i < x.fn
  ·have d0 : decide ((i : Int) < (x.fn : Int)) = true := decide_eq_true (by omega)
   have d1 : (i : Int) < (x.fn : Int) := by omega
   obtain ⟨gf, of, c, hfa, hci, hok, k0, k1, k2, k3⟩ := HFL.out.at hlt
   have k0 := (HKr.out.r.old.cell (block_lt_of_cell k0)).trans k0
   have k1 := (HKr.out.r.old.cell (block_lt_of_cell k1)).trans k1
   have k2 := (HKr.out.r.old.cell (block_lt_of_cell k2)).trans k2
   have k3 := (HKr.out.r.old.cell (block_lt_of_cell k3)).trans k3
   have HCI := J hci
   have HOK := J hok
   have hck := HLOW.out c (List.mem_of_getElem? hci)
   have HCK := J hck
   simp only [hfa] at c4
   clear hci hok hck hfa
   go_upto_region 7 with fail
   have HFB := J (alloc_new wr (.cells #[.int .i64 c.a, .int .i64 c.k, .slice c.ma c.ml c.mc, .int .u8 c.f] 58))
   have HK1 := J (HKr.out.below (below_alloc wr (.cells #[.int .i64 c.a, .int .i64 c.k, .slice c.ma c.ml c.mc, .int .u8 c.f] 58)))
   have HNF : Hid (¬ F q5 ∧ ¬ F wr.heap.size) := ⟨fun hz => by have := HFW.out _ hz; have := HKr.out.q; omega, fun hz => by have := HFW.out _ hz; have := HKr.out.o.size; omega⟩
   generalize hU : wr.alloc (.cells #[.int .i64 c.a, .int .i64 c.k, .slice c.ma c.ml c.mc, .int .u8 c.f] 58) = U1 at HFB HK1 ⊢
   generalize hq11 : wr.heap.size = q11 at HFB HNF ⊢
   clear hU hq11 HKr k0 k1 k2 k3 c4
   obtain ⟨y0, y1, y2, y3⟩ := cells4 HFB.out
   by_cases ha : c.a = (C.cnt : Int)
   ·have HTF : Hid (takeF C.cnt C.q = c.t) := by unfold Hid; rw [HFT.out]; exact findF_at HCI.out ha HNO.out
    have da : (c.a == (C.cnt : Int)) = true := by rw [ha]; simp
    by_cases hk : c.k = 1
    ·have dk : (c.k == 1) = true := by rw [hk]; rfl
     have HTE : Hid (endE c.t.k = 44 ∧ (c.t.k == 2) = false) := by unfold Hid; show endE c.k = 44 ∧ (c.k == 2) = false; rw [hk]; exact ⟨rfl, rfl⟩
     have HFBa : Hid (U1.drew.heap[q11]? = some (.cells #[.int .i64 c.a, .int .i64 c.k, .slice c.ma c.ml c.mc, .int .u8 c.f] 58 (0, 0))) := HFB.out
     clear ha hk
     go_upto_region 8 with fail
     refine wp_region_held_drew (S := (fun u : World => u.cell? ⟨q11, 2, none⟩ = some (.slice c.ma c.ml c.mc) ∧ u.cell? ⟨q11, 3, none⟩ = some (.int .u8 c.f) ∧ u.cell? ⟨q5, 0, none⟩ = some (.int .i64 pb) ∧ u.cell? ⟨q5, 1, none⟩ = some (.int .i64 pp))) (by kernel_rfl) (sk8_of HFBa.out (HK1.out.below (drew_below _)).b) fun O => ?_
     refine tk 0 ?_
     refine tk 1 ?_
     refine tk 2 ?_
     refine tk 3 ?_
     refine tk 4 ?_
     refine tk 5 ?_
     refine tk 6 ?_
     refine rd 7 fun K N => ?_
     go_simp
     go_at_call 98
     refine (traced_any _ p F (cntC C) w0 fs { x with cnt := C.cnt + 1 } rs (HK1.out.below (drew_below _)).r (by exact htr) k pb pp 44).mono ?_
     rintro e9 u9 ⟨rfl, hr9, ho9⟩
     have HE := J (tk_end (HK1.out.below (drew_below _)) HW0.out hr9 ho9)
     have hZ : (fun u : World => u.cell? ⟨q11, 2, none⟩ = some (.slice c.ma c.ml c.mc) ∧ u.cell? ⟨q11, 3, none⟩ = some (.int .u8 c.f) ∧ u.cell? ⟨q5, 0, none⟩ = some (.int .i64 pb) ∧ u.cell? ⟨q5, 1, none⟩ = some (.int .i64 pp)) u9 := sk8_keep ho9 HNF.out O
     clear hr9 ho9
     go_wp2_with fail
     clear O
     refine N.out _ _ hZ fun O => ?_
     clear N K hZ
     try simp only [zz]
     refine tk 8 ?_
     refine tk 9 ?_
     refine tk 10 ?_
     refine td ?_
     go_wp2
     go_ret3
     refine ⟨⟨c.ma, c.ml, c.mc, by rw [HTF.out, HTE.out.1]; rfl, by rw [HTF.out]; exact HOK.out.rd, HOK.out.le, HOK.out.cap⟩, by rw [HTF.out]; exact HOK.out.fill, ?_, HE.out.2⟩
     rw [HTF.out, HTE.out.1, HTE.out.2, Bool.or_false]
     exact HE.out.1
    ·have dk : (c.k == 1) = false := by simp [hk]
     have hk2 : c.k = 2 := HCK.out.resolve_left hk
     have HTE : Hid (endE c.t.k = 45 ∧ (c.t.k == 2) = true) := by unfold Hid; show endE c.k = 45 ∧ (c.k == 2) = true; rw [hk2]; exact ⟨rfl, rfl⟩
     have f5 := HK1.out.r.box.fz 5
     have e5 := HK1.out.r.box.c5
     clear ha hk hk2
     go_upto_region 11 with fail
     have HK2 := J (tk_dark HK1.out HFW.out)
     have HFB2 : Hid ((U1.setCell ⟨p, 5, none⟩ (.bool true)).heap[q11]? = some (.cells #[.int .i64 c.a, .int .i64 c.k, .slice c.ma c.ml c.mc, .int .u8 c.f] 58 (0, 0))) := ((Only.setCell (· = p) U1 p 5 (.bool true) rfl).block _ (lt_of_block HFB.out) (fun e => HNF.out.2 (e ▸ HK1.out.r.fp))).trans HFB.out
     generalize hU2 : U1.setCell ⟨p, 5, none⟩ (.bool true) = U2 at HK2 HFB2 ⊢
     have HFBb : Hid (U2.drew.heap[q11]? = some (.cells #[.int .i64 c.a, .int .i64 c.k, .slice c.ma c.ml c.mc, .int .u8 c.f] 58 (0, 0))) := HFB2.out
     clear hU2 f5 e5 HK1 HFB HFB2 y0 y1 y2 y3
     refine wp_region_held_drew (S := (fun u : World => u.cell? ⟨q11, 2, none⟩ = some (.slice c.ma c.ml c.mc) ∧ u.cell? ⟨q11, 3, none⟩ = some (.int .u8 c.f) ∧ u.cell? ⟨q5, 0, none⟩ = some (.int .i64 pb) ∧ u.cell? ⟨q5, 1, none⟩ = some (.int .i64 pp))) (by kernel_rfl) (sk8_of HFBb.out (HK2.out.below (drew_below _)).b) fun O => ?_
     refine tk 0 ?_
     refine tk 1 ?_
     refine tk 2 ?_
     refine tk 3 ?_
     refine tk 4 ?_
     refine tk 5 ?_
     refine tk 6 ?_
     refine rd 7 fun K N => ?_
     go_simp
     go_at_call 98
     refine (traced_any _ p F { cntC C with dark := true } w0 fs { x with cnt := C.cnt + 1, dark := true } rs (HK2.out.below (drew_below _)).r (by exact htr) k pb pp 45).mono ?_
     rintro e9 u9 ⟨rfl, hr9, ho9⟩
     have HE := J (tk_end (HK2.out.below (drew_below _)) HW0.out hr9 ho9)
     have hZ : (fun u : World => u.cell? ⟨q11, 2, none⟩ = some (.slice c.ma c.ml c.mc) ∧ u.cell? ⟨q11, 3, none⟩ = some (.int .u8 c.f) ∧ u.cell? ⟨q5, 0, none⟩ = some (.int .i64 pb) ∧ u.cell? ⟨q5, 1, none⟩ = some (.int .i64 pp)) u9 := sk8_keep ho9 HNF.out O
     clear hr9 ho9
     go_wp2_with fail
     clear O
     refine N.out _ _ hZ fun O => ?_
     clear N K hZ
     try simp only [zz]
     refine tk 8 ?_
     refine tk 9 ?_
     refine tk 10 ?_
     refine td ?_
     go_wp2
     go_ret3
     refine ⟨⟨c.ma, c.ml, c.mc, by rw [HTF.out, HTE.out.1]; rfl, by rw [HTF.out]; exact HOK.out.rd, HOK.out.le, HOK.out.cap⟩, by rw [HTF.out]; exact HOK.out.fill, ?_, HE.out.2⟩
     rw [HTF.out, HTE.out.1, HTE.out.2, Bool.or_true]
     exact HE.out.1
   ·have da : (c.a == (C.cnt : Int)) = false := by simp [ha]
    have HNO1 : Hid (∀ j d, j < i + 1 → fs[j]? = some d → d.a ≠ (C.cnt : Int)) := fun j d hj hd => by
     by_cases e : j = i
     ·subst e
      rw [HCI.out] at hd
      cases hd
      exact ha
     ·exact HNO.out j d (by omega) hd
    clear ha
    go_wp2
    go_roundw
    case rel => exact ⟨i + 1, by omega, by go_num, HK1, HNO1⟩
    case measure => simp [intOf]; omega
  ·have d0 : decide ((i : Int) < (x.fn : Int)) = false := decide_eq_false (by omega)
   obtain rfl : i = x.fn := by omega
   have HTF : Hid (takeF C.cnt C.q = Ft.no) := by
    unfold Hid
    rw [HFT.out]
    refine findF_none (fun d hd => ?_)
    obtain ⟨j, hj⟩ := List.mem_iff_getElem?.1 hd
    exact HNO.out j d (by have := (List.getElem?_eq_some_iff.1 hj).1; rw [HFL.out.1] at this; exact this) hj
   obtain ⟨b0, b1⟩ := cells2 HKr.out.b
   go_wp2_with (first | (go_at_call 98; refine (traced_any _ p F (cntC C) w0 fs { x with cnt := C.cnt + 1 } rs HKr.out.r (by exact htr) k pb pp 0).mono ?_; rintro e9 u9 ⟨rfl, hr9, ho9⟩; have HE := J (tk_end HKr.out HW0.out hr9 ho9); clear hr9 ho9))
   go_ret3
   refine ⟨⟨none, 0, 0, by rw [HTF.out]; rfl, by rw [HTF.out]; exact ⟨rfl, (fun _ h => by cases h), fun _ => rfl, fun _ h => by cases h⟩, by omega, by omega⟩, by rw [HTF.out]; decide, ?_, HE.out.2⟩
   rw [HTF.out]
   have h9 := HE.out.1
   have e9 : (C.dark || (Ft.no.k == 2)) = C.dark := Bool.or_false _
   rw [e9]
   exact h9
theorem set_same {α β : Type} {f : α → β} : ∀ {rs : List α} {i : Nat} {r r' : α}, rs[i]? = some r → f r' = f r → (rs.set i r').map f = rs.map f := by
 intro rs i r r' hi hf
 rw [List.map_set, hf]
 refine List.ext_getElem? (fun n => ?_)
 by_cases e : i = n
 ·subst e
  have hl : i < rs.length := (List.getElem?_eq_some_iff.1 hi).1
  rw [List.getElem?_set_self (by simpa using hl), List.getElem?_map, hi]
  rfl
 ·rw [List.getElem?_set_ne e]
theorem fm_map {α β : Type} (f : α → List β) (l : List α) : l.flatMap f = (l.map f).flatMap (fun x => x) := by
 induction l with
 | nil => rfl
 | cons x r ih => rw [List.flatMap_cons, List.map_cons, List.flatMap_cons, ih]
section
variable {w0 w : World} {p : Nat} {F : Nat → Prop} {C : Ch} {fs : List Fc} {x : Rx} {rs : List Rc}
theorem RAt.setR (h : RAt w0 w p F C fs x rs) {i : Nat} {r r' : Rc} (hi : rs[i]? = some r) (hg : r'.g = r.g ∧ r'.cap = r.cap ∧ r'.ls = r.ls) (j : Nat) (hj : j < 4) (v : Value) (hs : r'.cells = r.cells.set j v) :
  RAt w0 (w.setCell ⟨x.gr, i * 4 + j, none⟩ v) p F { C with bl := C.bl.set i r'.v } fs x (rs.set i r') ∧ Only F w (w.setCell ⟨x.gr, i * 4 + j, none⟩ v) := by
 have ho := Only.setCell (· = x.gr) w x.gr (i * 4 + j) v rfl
 have hF : ∀ k, k = x.gr → F k := fun k e => e ▸ h.fb
 obtain ⟨cg, hcg⟩ := own_tag h.row rfl
 have hT : KeepT F (· = 142) w (w.setCell ⟨x.gr, i * 4 + j, none⟩ v) := ho.keepT (fun k o t hg hk ht => by
  rw [hg, hcg] at hk
  cases hk
  exact ht.symm)
 have hst := World.ownsRow.stored h.row (i * 4 + j) v
 have hkeep : ∀ {k t o}, F k → w.heap[k]? = some o → TagIs t o → t ≠ 142 → (w.setCell ⟨x.gr, i * 4 + j, none⟩ v).heap[k]? = w.heap[k]? := fun hk ho' ht hn => (hT _ _ _ hk ho' ht hn).trans ho'.symm
 have hrk : ∀ q ∈ rs, RcOk (w.setCell ⟨x.gr, i * 4 + j, none⟩ v) F (pgB C.S) C.P q := fun q hq => by
  have h9 := h.rok q hq
  obtain ⟨cs, hcs⟩ := own_tag h9.row rfl
  exact h9.keep hT (by decide) (by decide) (fun _ h => h) (hkeep h9.fg hcs rfl (by decide))
 refine ⟨⟨h.old.trans (ho.below (fun k e => h.lo k (hF k e)) h.old.size), h.lo, h.flt, h.box.keep (hkeep h.fp h.box rfl (by decide)), h.fp, h.B, h.P, h.S, by rw [List.length_set]; exact h.nr, h.dark, h.cnt, ?_, h.fb, ?_, ?_, ?_, ?_, ?_, h.q, ?_, h.tl, h.ft, fun k hk => Nat.lt_of_lt_of_le (h.fin k hk) ho.size⟩, ho.mono (fun k _ e => hF k e)⟩
 ·rw [← flat_set Rc.cells 4 Rc.cells_len j hj v r' rs i r hi hs.symm]
  exact hst.1
 ·rw [List.map_set, h.bl]
 ·intro q hq
  rcases List.mem_or_eq_of_mem_set hq with h1 | h1
  ·exact hrk q h1
  ·rw [h1]
   have h9 := hrk r (List.mem_of_getElem? hi)
   obtain ⟨e1, e2, e3⟩ := hg
   exact ⟨by rw [e1, e2, e3]; exact h9.row, by rw [e1]; exact h9.fg, by rw [e3]; exact h9.np, by rw [e3]; exact h9.lf⟩
 ·have h9 := h.gs
  rw [← List.pairwise_map (f := Rc.g) (R := fun a b => a ≠ b)] at h9 ⊢
  rw [set_same hi hg.1]
  exact h9
 ·rw [fm_map Rc.ls, set_same hi hg.2.2, ← fm_map Rc.ls]
  exact h.far
 ·intro i' k' q l h1 h2
  by_cases e : i = i'
  ·subst e
   rw [List.getElem?_set_self (List.getElem?_eq_some_iff.1 hi).1] at h1
   cases h1
   rw [hg.2.2] at h2
   exact h.fl i k' r l hi h2
  ·rw [List.getElem?_set_ne e] at h1
   exact h.fl i' k' q l h1 h2
 ·exact owns_keep h.tr (fun g hg' => by obtain ⟨cs, hc⟩ := own_tag h.tr hg'; exact hkeep (h.ft g hg') hc rfl (by decide))
end
theorem RAt.rfz {p : Nat} {fs : List Fc} (h : RAt w0 w p F C fs x rs) (j : Nat) : w.frozen? ⟨x.gr, j, none⟩ = false := by
 obtain ⟨cs, hcs⟩ := own_tag h.row rfl
 simp [World.frozen?, hcs]
theorem set_self9 {α : Type} {l : List α} {i : Nat} {b : α} (h : l[i]? = some b) : l.set i b = l := by
 refine List.ext_getElem? (fun n => ?_)
 by_cases e : i = n
 ·subst e
  rw [List.getElem?_set_self (List.getElem?_eq_some_iff.1 h).1, h]
 ·rw [List.getElem?_set_ne e]
theorem mark_bit : ∀ z : Nat, z < 256 → (bits .and .u8 (bits .or .u8 0 (z : Int)) 1 == 1) = ((z : Int) % 2 == 1) := by decide +kernel
theorem mark_bitI {z : Int} (h : 0 ≤ z ∧ z ≤ 255) : (bits .and .u8 (bits .or .u8 0 z) 1 == 1) = (z % 2 == 1) := by
 obtain ⟨n, rfl⟩ : ∃ n : Nat, z = n := ⟨z.toNat, by omega⟩
 exact mark_bit n (by omega)
theorem Only.two {v : World} (h1 : Only F w u) (h2 : Only (Fx F w u) u v) : Only F w v := h1.trans h2 (fun k hk h => h.elim (fun h => h) (fun h => by omega))
theorem RefAt.two {v : World} {p : Nat} {fs : List Fc} (h1 : Only F w u) (h : RefAt w0 v p (Fx F w u) C fs) (hs : u.heap.size ≤ v.heap.size) (hw : w0.heap.size ≤ w.heap.size) : RefAt w0 v p (Fx F w v) C fs := by
 obtain ⟨x, rs, h9⟩ := h
 refine RefAt.more ⟨x, rs, h9⟩ (fun k hk => hk.elim Or.inl (fun h => Or.inr ⟨h.1, by omega⟩)) (fun k hk => ?_) (fun k hk => ?_)
 ·rcases hk with h2 | h2
  ·exact h9.fin k (Or.inl h2)
  ·exact h2.2
 ·rcases hk with h2 | h2
  ·exact h9.lo k (Or.inl h2)
  ·exact Nat.le_trans hw h2.1
theorem rMark_any (w0 w : World) (p : Nat) (F : Nat → Prop) (C : Ch) (fs : List Fc) (h : RefAt w0 w p F C fs) (hok : C.Ok) (hfb : faultsB fs = true) (hcn : C.cnt ≤ 4000000000000) (htr : C.tr.length ≤ 4000000000000) (pb : Int) :
  Calls Try.prog 67 #[.pointer (some ⟨p, 0, none⟩), .int .i64 pb] w fun e w' => e = .returned (.int .i64 (MarkC C pb).1) ∧ RefAt w0 w' p (Fx F w w') (MarkC C pb).2 fs ∧ Only F w w' := by
 have hR := h
 obtain ⟨x, rs, h⟩ := h
 have HR := J hR
 have HC := J h
 have c5 := h.box.c5
 rw [h.dark] at c5
 have HW0 : Hid (w0.heap.size ≤ w.heap.size) := h.old.size
 clear h hR
 unfold MarkC
 cases hd : C.dark with
 | true =>
  rw [hd] at c5
  rw [if_pos rfl]
  go_enter Try.func67, Try.ntmps67
  go_wp2
  go_ret
  exact ⟨rfl, HR.out.fx (Below.refl _ _), Only.ofB (Below.refl _ _)⟩
 | false =>
  rw [hd] at c5
  rw [if_neg (by decide)]
  unfold markC
  cases hb : hasB C.B pb with
  | false =>
   rw [if_pos rfl]
   go_enter Try.func67, Try.ntmps67
   go_wp2_with (first
    | (go_at_call 97; refine (rblock_any HC.out.box pb C.B HC.out.B).mono ?_; rintro e u1 ⟨rfl, hu⟩; subst u1; rw [hb])
    | (go_at_call 98; refine (traced_any _ p F C w0 fs x rs HC.out htr 3 pb 0 41).mono ?_; rintro e9 u9 ⟨rfl, hr9, ho9⟩; have hr9 := hr9.ref; have HE := J (And.intro hr9 ho9); clear hr9 ho9))
   go_ret
   exact ⟨rfl, HE.out.1, HE.out.2⟩
  | true =>
   rw [if_neg (by decide)]
   have hx := of_decide_eq_true hb
   obtain ⟨i, rfl⟩ : ∃ i : Nat, pb = i := ⟨pb.toNat, by omega⟩
   have hil : i < C.bl.length := by rw [hok.bl]; omega
   obtain ⟨b, hbl⟩ : ∃ b, C.bl[i]? = some b := ⟨_, List.getElem?_eq_getElem hil⟩
   simp only [Int.toNat_natCast, hbl]
   have HBL := J hbl
   clear hx hil hbl
   go_enter Try.func67, Try.ntmps67
   go_upto_region 6 with (first
    | (go_at_call 97; refine (rblock_any HC.out.box (i : Int) C.B HC.out.B).mono ?_; rintro e u1 ⟨rfl, hu⟩; subst u1; rw [hb])
    | (go_at_call 99; refine (taken_any w0 _ p F C fs x rs HC.out hfb hcn htr 3 (i : Int) 0).mono ?_; rintro e9 u9 hv; obtain ⟨ma, ml, mc, rfl, hrd, hml, hmc⟩ := hv.ex; have HRD := J hrd; have HA := J hv.at'.ref; have HO := J hv.only; have hfill := hv.fill; clear hrd hv))
   have HBY : Hid (∀ z ∈ (takeF C.cnt C.q).m, 0 ≤ z ∧ z ≤ 255) := HRD.out.2.1
   have fin : Hid (∀ (z : Int), 0 ≤ z ∧ z ≤ 255 → mk (takeF C.cnt C.q).m (takeF C.cnt C.q).f 0 = z → markB (takeF C.cnt C.q).m (takeF C.cnt C.q).f = (z % 2 == 1)) := fun z hz e => by unfold markB; rw [e]; exact mark_bitI hz
   have f1 : Hid (∀ (z : Int), 0 ≤ z ∧ z ≤ 255 → Int.tmod z 2 = z % 2) := fun z hz => Int.tmod_eq_emod_of_nonneg hz.1
   obtain ⟨x9, rs9, ha9⟩ := HA.out
   have hil9 : i < rs9.length := by
    have h8 := (List.getElem?_eq_some_iff.1 HBL.out).1
    rw [← ha9.bl, List.length_map] at h8
    exact h8
   obtain ⟨r9, hr9⟩ : ∃ r, rs9[i]? = some r := ⟨_, List.getElem?_eq_getElem hil9⟩
   have hrb : r9.v = b := by
    have h8 := HBL.out
    have h7 := ha9.bl
    rw [← h7, List.getElem?_map, hr9] at h8
    exact Option.some.inj h8
   by_cases hm0 : ml = 0
   ·have dm : decide ((ml : Int) > 0) = false := decide_eq_false (by omega)
    have hme : (takeF C.cnt C.q).m = [] := List.eq_nil_of_length_eq_zero (by rw [HRD.out.1]; exact hm0)
    have hmk : mk (takeF C.cnt C.q).m (takeF C.cnt C.q).f 0 = (takeF C.cnt C.q).f := by rw [hme]; rfl
    have dmn : ¬ 0 < ml := by omega
    clear hme hm0
    have t1 := f1.out (takeF C.cnt C.q).f hfill
    by_cases hbit : (takeF C.cnt C.q).f % 2 = 1
    ·have db : ((takeF C.cnt C.q).f % 2 == 1) = true := by rw [hbit]; rfl
     have HMB : Hid (markB (takeF C.cnt C.q).m (takeF C.cnt C.q).f = true) := by unfold Hid; rw [fin.out (takeF C.cnt C.q).f hfill hmk, db]
     clear hbit
     have hsr := ha9.setR hr9 (r' := { r9 with m := true }) ⟨rfl, rfl, rfl⟩ 1 (by omega) (.bool true) rfl
     have HS := J hsr
     clear hsr
     have hfz := ha9.rfz (i * 4 + 1)
     obtain ⟨k0, k1, k2, k3⟩ := ha9.blk hr9
     have c3 := ha9.box.c3
     have i1 : (i : Int) < (x9.nr : Int) := by rw [ha9.nr]; omega
     have HA9 := J ha9
     clear ha9
     go_wp2
     go_ret
     refine ⟨rfl, ?_, Only.two HO.out HS.out.2⟩
     refine RefAt.two HO.out ?_ HS.out.2.size HW0.out
     have h9 := HS.out.1
     rw [hd, Bool.false_or] at h9
     rw [HMB.out, Bool.or_true]
     have e9 : ({ r9 with m := true } : Rc).v = { b with m := true } := by rw [← hrb]; rfl
     rw [e9] at h9
     exact ⟨x9, _, h9⟩
    ·have db : ((takeF C.cnt C.q).f % 2 == 1) = false := by simpa using hbit
     have HMB : Hid (markB (takeF C.cnt C.q).m (takeF C.cnt C.q).f = false) := by unfold Hid; rw [fin.out (takeF C.cnt C.q).f hfill hmk, db]
     clear hbit
     clear ha9 hr9 hil9
     go_wp2
     go_ret
     refine ⟨rfl, ?_, HO.out⟩
     rw [HMB.out, Bool.or_false]
     have e9 : C.bl.set i { b with m := b.m } = C.bl := by rw [show ({ b with m := b.m } : Bl) = b from rfl]; exact set_self9 HBL.out
     rw [e9]
     exact HA.out
   ·have dm : decide ((ml : Int) > 0) = true := decide_eq_true (by omega)
    have dm0 : (0 : Int) < (ml : Int) := by omega
    obtain ⟨gm, om, rfl, hgm, hcm⟩ := HRD.out.pos (by omega)
    obtain ⟨z, hz⟩ : ∃ z, z = (takeF C.cnt C.q).m.getD 0 0 := ⟨_, rfl⟩
    have hc0 := hcm 0 (by omega)
    rw [← hz] at hc0
    have hc1 : u9.cell? ⟨gm, om, none⟩ = some (.int .u8 z) := by
     obtain ⟨xa, ra, hra⟩ := HA.out
     exact (hra.old.cell (show (⟨gm, om, none⟩ : Addr).block < w0.heap.size from hgm)).trans (by simpa using hc0)
    have hzb : 0 ≤ z ∧ z ≤ 255 := by rw [hz]; exact byteAt HBY.out 0
    have hmk : mk (takeF C.cnt C.q).m (takeF C.cnt C.q).f 0 = z := by
     rw [hz]
     unfold mk
     rw [if_pos (by rw [HRD.out.1]; omega)]
    clear hz hc0 hcm hm0
    have t1 := f1.out z hzb
    by_cases hbit : z % 2 = 1
    ·have db : (z % 2 == 1) = true := by rw [hbit]; rfl
     have HMB : Hid (markB (takeF C.cnt C.q).m (takeF C.cnt C.q).f = true) := by unfold Hid; rw [fin.out z hzb hmk, db]
     clear hbit
     have hsr := ha9.setR hr9 (r' := { r9 with m := true }) ⟨rfl, rfl, rfl⟩ 1 (by omega) (.bool true) rfl
     have HS := J hsr
     clear hsr
     have hfz := ha9.rfz (i * 4 + 1)
     obtain ⟨k0, k1, k2, k3⟩ := ha9.blk hr9
     have c3 := ha9.box.c3
     have i1 : (i : Int) < (x9.nr : Int) := by rw [ha9.nr]; omega
     have HA9 := J ha9
     clear ha9
     go_wp2
     go_ret
     refine ⟨rfl, ?_, Only.two HO.out HS.out.2⟩
     refine RefAt.two HO.out ?_ HS.out.2.size HW0.out
     have h9 := HS.out.1
     rw [hd, Bool.false_or] at h9
     rw [HMB.out, Bool.or_true]
     have e9 : ({ r9 with m := true } : Rc).v = { b with m := true } := by rw [← hrb]; rfl
     rw [e9] at h9
     exact ⟨x9, _, h9⟩
    ·have db : (z % 2 == 1) = false := by simpa using hbit
     have HMB : Hid (markB (takeF C.cnt C.q).m (takeF C.cnt C.q).f = false) := by unfold Hid; rw [fin.out z hzb hmk, db]
     clear hbit
     clear ha9 hr9 hil9
     go_wp2
     go_ret
     refine ⟨rfl, ?_, HO.out⟩
     rw [HMB.out, Bool.or_false]
     have e9 : C.bl.set i { b with m := b.m } = C.bl := by rw [show ({ b with m := b.m } : Bl) = b from rfl]; exact set_self9 HBL.out
     rw [e9]
     exact HA.out
end Go.Proofs.Ytadlkikjfonkgaa
