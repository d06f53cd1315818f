/-
  SEAT Ytadlkikjfonkgaa: Gb, Xj.
-/
import Derived.Test.YtadlkikjfonkgaaQa
import Derived.Test.YtadlkikjfonkgaaQx
import Derived.Test.YtadlkikjfonkgaaQw
import Derived.Test.YtadlkikjfonkgaaQj
namespace Go.Proofs.Ytadlkikjfonkgaa
open Go.RowKit Go.Conc
set_option linter.unusedVariables false
set_option maxRecDepth 100000
set_option maxHeartbeats 4000000
variable {n gr i g cap m : Nat} {w0 u : World} {F : Nat → Prop} {C : Ch} {x : Rx} {rs : List Rc} {K f : Int} {M : List Int}
theorem rlong_any (b p : Int) (s : Nat) (w : World) (h0 : 1 ≤ s) (h1 : s ≤ 8) : Calls Try.prog 78 #[.agg #[.int .i64 b, .int .i64 p, .int .i64 (s : Int)]] w fun e w' => e = .returned (.int .i64 (pgB s : Nat)) ∧ Below w.heap.size w w' := by
 have g0 : (1 : Int) ≤ s := by omega
 have g1 : (s : Int) ≤ 8 := by omega
 have HB0 : Hid (Below w.heap.size w (w.alloc (.cells #[.int .i64 b, .int .i64 p, .int .i64 (s : Int)] 23)).drew) := below_trans (below_alloc _ _) (drew_below _)
 have HX0 : Hid ((w.alloc (.cells #[.int .i64 b, .int .i64 p, .int .i64 (s : Int)] 23)).drew.heap[w.heap.size]? = some (.cells #[.int .i64 b, .int .i64 p, .int .i64 (s : Int)] 23 (0, 0))) := alloc_new w _
 go_enter Try.func78, Try.ntmps78
 go_wp2
 refine wp_region_held_drew (S := (fun u => u.cell? ⟨w.heap.size, 0, none⟩ = some (.int .i64 b) ∧ u.cell? ⟨w.heap.size, 1, none⟩ = some (.int .i64 p) ∧ u.cell? ⟨w.heap.size, 2, none⟩ = some (.int .i64 (s : Int)))) (by kernel_rfl) (cells3 HX0.out) fun O => ?_
 refine tk 0 ?_
 refine tk 2 ?_
 refine rd 1 fun K N => ?_
 go_simp
 go_at_call 44
 refine (rdata_any _ _ _ _ g0 g1).mono ?_
 rintro e u1 ⟨rfl, b1⟩
 have HB1 := J (below_trans HB0.out b1)
 have HX1 := J ((b1.block _ (lt_of_block HX0.out)).trans HX0.out)
 have hZ := cells3 HX1.out
 clear b1
 go_wp2_with fail
 clear O
 refine N.out _ _ hZ fun O => ?_
 clear N K hZ
 try simp only [zz]
 refine rd 3 fun K N => ?_
 go_simp
 go_at_call 81
 refine (rspareB_any _ _ _ _ g0 g1).mono ?_
 rintro e u2 ⟨rfl, b2⟩
 have HB2 := J (below_trans HB1.out b2)
 have HX2 := J ((b2.block _ (lt_of_block HX1.out)).trans HX1.out)
 have hZ := cells3 HX2.out
 clear b2
 go_wp2_with fail
 clear O
 refine N.out _ _ hZ fun O => ?_
 clear N K hZ
 try simp only [zz]
 refine tk 4 ?_
 refine tk 5 ?_
 refine td ?_
 clear O
 go_wp2
 go_ret
 refine ⟨ret_int ?_, HB2.out⟩
 first | rfl | (unfold pgB; try simp only [IntKind.wrap_i64]; omega)
def unitI (s bit : Nat) : Int := if bit / 8 < 256 * s then ((bit / 8 / 256 : Nat) : Int) else if bit / 8 < 256 * s + 54 then -1 else (((bit / 8 - (256 * s + 54)) / 3 : Nat) : Int)
theorem unitI_in {s bit : Nat} (h : bit < 8 * pgB s) : -1 ≤ unitI s bit ∧ unitI s bit < s := by
 unfold unitI pgB at *
 split
 ·omega
 split
 ·omega
 ·omega
theorem unitN_I (s a : Nat) : unitN s a = if unitI s a = -1 then s else (unitI s a).toNat := by
 unfold unitN unitI
 by_cases c1 : a / 8 < 256 * s
 ·rw [if_pos c1, if_pos c1, if_neg (by omega)]
  rfl
 ·rw [if_neg c1, if_neg c1]
  by_cases c2 : a / 8 < 256 * s + 54
  ·rw [if_pos c2, if_pos c2, if_pos rfl]
  ·rw [if_neg c2, if_neg c2, if_neg (by omega)]
   rfl
theorem unitI_N {s a b : Nat} (h : unitI s a = unitI s b) : unitN s a = unitN s b := by rw [unitN_I, unitN_I, h]
theorem runit_any (b p : Int) (s bit : Nat) (w : World) (h0 : 1 ≤ s) (h1 : s ≤ 8) (hb : bit < 8 * pgB s) : Calls Try.prog 62 #[.agg #[.int .i64 b, .int .i64 p, .int .i64 (s : Int)], .int .i64 (bit : Int)] w fun e w' => e = .returned (.int .i64 (unitI s bit)) ∧ Below w.heap.size w w' := by
 have g0 : (1 : Int) ≤ s := by omega
 have g1 : (s : Int) ≤ 8 := by omega
 have HB0 := J (below_alloc w (.cells #[.int .i64 b, .int .i64 p, .int .i64 (s : Int)] 23))
 have HX0 := J (alloc_new w (.cells #[.int .i64 b, .int .i64 p, .int .i64 (s : Int)] 23))
 obtain ⟨L, hL⟩ : ∃ L, L = pgB s := ⟨_, rfl⟩
 have hL2 : L ≤ 2126 := by rw [hL]; exact pgB_le h1
 have dn : decide ((bit : Int) < 0) = false := decide_eq_false (by omega)
 have dg : decide ((bit : Int) ≥ 8 * (L : Int)) = false := decide_eq_false (by omega)
 have hq : (bit : Int).tdiv 8 = ((bit / 8 : Nat) : Int) := rfl
 obtain ⟨t, ht⟩ : ∃ t, bit / 8 = t := ⟨_, rfl⟩
 have htb : t ≤ 2500 := by omega
 have HT := J ht
 have HL := J hL
 rw [ht] at hq
 by_cases c1 : t < 256 * s
 ·have d1 : decide ((t : Int) < 256 * (s : Int)) = true := decide_eq_true (by omega)
  have hu : unitI s bit = (t : Int).tdiv 256 := by unfold unitI; rw [HT.out, if_pos c1]; rfl
  rw [hu]
  clear hu ht hL hb
  go_enter Try.func62, Try.ntmps62
  go_wp2_with (first | (go_at_call 78; refine (rlong_any b p s _ h0 h1).mono ?_; rintro e u1 ⟨rfl, b1⟩; rw [← HL.out]; have HB1 := J (below_trans HB0.out b1); have HX1 := J ((b1.block _ (lt_of_block HX0.out)).trans HX0.out); obtain ⟨x0, x1, x2⟩ := cells3 HX1.out; clear b1) | (go_at_call 44; refine (rdata_any _ _ _ _ g0 g1).mono ?_; rintro e u2 ⟨rfl, b2⟩; have HB2 := J (below_trans HB1.out b2); clear b2))
  go_ret
  exact ⟨rfl, HB2.out⟩
 ·have d1 : decide ((t : Int) < 256 * (s : Int)) = false := decide_eq_false (by omega)
  obtain ⟨r, hr⟩ : ∃ r : Int, r = (t : Int) - 256 * (s : Int) - 54 := ⟨_, rfl⟩
  have HRr := J hr
  by_cases c2 : t < 256 * s + 54
  ·have d2 : decide ((t : Int) - 256 * (s : Int) - 54 < 0) = true := decide_eq_true (by omega)
   have hu : unitI s bit = -1 := by unfold unitI; rw [HT.out, if_neg c1, if_pos c2]
   rw [hu]
   clear hu ht hL hb hr
   go_enter Try.func62, Try.ntmps62
   go_wp2_with (first | (go_at_call 78; refine (rlong_any b p s _ h0 h1).mono ?_; rintro e u1 ⟨rfl, b1⟩; rw [← HL.out]; have HB1 := J (below_trans HB0.out b1); have HX1 := J ((b1.block _ (lt_of_block HX0.out)).trans HX0.out); obtain ⟨x0, x1, x2⟩ := cells3 HX1.out; clear b1) | (go_at_call 44; have HB2' := HB2; refine (rdata_any _ _ _ _ g0 g1).mono ?_; rintro e u3 ⟨rfl, b3⟩; have HB3 := J (below_trans HB2.out b3); clear b3 HB2') | (go_at_call 44; refine (rdata_any _ _ _ _ g0 g1).mono ?_; rintro e u2 ⟨rfl, b2⟩; have HB2 := J (below_trans HB1.out b2); have HX2 := J ((b2.block _ (lt_of_block HX1.out)).trans HX1.out); clear x0 x1 x2; obtain ⟨x0, x1, x2⟩ := cells3 HX2.out; clear b2))
   go_ret
   exact ⟨rfl, HB3.out⟩
  ·have d2 : decide ((t : Int) - 256 * (s : Int) - 54 < 0) = false := decide_eq_false (by omega)
   have hu : unitI s bit = ((t : Int) - 256 * (s : Int) - 54) / 3 := by
    unfold unitI
    rw [HT.out, if_neg c1, if_neg c2]
    omega
   rw [hu]
   clear hu ht hL hb hr
   go_enter Try.func62, Try.ntmps62
   go_wp2_with (first | (go_at_call 78; refine (rlong_any b p s _ h0 h1).mono ?_; rintro e u1 ⟨rfl, b1⟩; rw [← HL.out]; have HB1 := J (below_trans HB0.out b1); have HX1 := J ((b1.block _ (lt_of_block HX0.out)).trans HX0.out); obtain ⟨x0, x1, x2⟩ := cells3 HX1.out; clear b1) | (go_at_call 44; have HB2' := HB2; refine (rdata_any _ _ _ _ g0 g1).mono ?_; rintro e u3 ⟨rfl, b3⟩; have HB3 := J (below_trans HB2.out b3); clear b3 HB2') | (go_at_call 44; refine (rdata_any _ _ _ _ g0 g1).mono ?_; rintro e u2 ⟨rfl, b2⟩; have HB2 := J (below_trans HB1.out b2); have HX2 := J ((b2.block _ (lt_of_block HX1.out)).trans HX1.out); clear x0 x1 x2; obtain ⟨x0, x1, x2⟩ := cells3 HX2.out; clear b2))
   go_ret
   exact ⟨rfl, HB3.out⟩
theorem or_255 : ∀ z : Nat, z < 256 → bits .or .u8 (z : Int) 255 = 255 := by decide +kernel
theorem rise_255 (zs : List Int) (hz : ∀ x ∈ zs, (0 : Int) ≤ x ∧ x ≤ 255) : ∀ k, riseL zs [] 255 k = List.replicate k 255
 | 0 => rfl
 | k + 1 => by
  rw [riseL, rise_255 zs hz k, List.replicate_succ']
  congr 1
  obtain ⟨n, e, hn⟩ := nat_of (byteAt hz k)
  rw [e]
  have e2 : mk [] 255 k = 255 := rfl
  rw [e2, or_255 n hn]
theorem findF_no {n : Int} : ∀ {fs : List Fc}, (∀ c ∈ fs, c.k = 1 ∨ c.k = 2) → (findF n fs).k = 0 → findF n fs = Ft.no
 | [], _, _ => rfl
 | c :: r, h, h0 => by
  unfold findF at h0 ⊢
  split at h0
  ·have h1 : c.k = 0 := h0
   rcases h c (List.mem_cons_self) with h2 | h2 <;> omega
  ·rename_i hn
   rw [if_neg hn]
   exact findF_no (fun d hd => h d (List.mem_cons_of_mem _ hd)) h0
theorem RAt.rsp {p : Nat} {fs : List Fc} (h : RAt w0 u p F C fs x rs) (hfb : faultsB fs = true) (L j : Nat) (zs : List Int) (hz : ∀ x ∈ zs, (0 : Int) ≤ x ∧ x ≤ 255) : riseL zs ((takeF C.cnt C.q).m.drop (min (j * L) (takeF C.cnt C.q).m.length)) (takeF C.cnt C.q).f L = rsP L (takeF C.cnt C.q).k (takeF C.cnt C.q).m (takeF C.cnt C.q).f j zs := by
 unfold faultsB at hfb
 rw [Bool.and_eq_true] at hfb
 have h8 : C.q = _ := h.q
 have h9 : takeF C.cnt C.q = findF C.cnt fs := by rw [h8]; exact (take_find fs (-1) hfb.2 C.cnt).1
 unfold rsP
 by_cases h0 : (takeF C.cnt C.q).k = 0
 ·rw [if_pos h0]
  rw [h9] at h0 ⊢
  rw [findF_no (fun c hc => (fmb_low fs (-1) hfb.2 c hc).2) h0]
  show riseL zs (List.drop _ []) 255 L = _
  rw [List.drop_nil]
  exact rise_255 zs hz L
 ·rw [if_neg h0]
def fl1 (fl : Int → Int → List Nat) (i k : Int) : Int → Int → List Nat := fun b p => if b = i ∧ p = k then [] else fl b p
theorem RAt.newLeaf {p : Nat} {fs : List Fc} (h : RAt w0 u p F C fs x rs) {i k B g c : Nat} {r : Rc} {l : Lc} {bits : List Int} (hi : rs[i]? = some r) (hk : r.ls[k]? = some l) (ho : Own u B g (pgB C.S) c bits) (hr : ∀ z ∈ bits, (0 : Int) ≤ z ∧ z ≤ 255) (hB : w0.heap.size ≤ B) :
  ∃ rs' r', RAt w0 (((u.setCell ⟨r.g, k * 3, none⟩ (.slice (some ⟨g, 0, none⟩) (pgB C.S) c)).setCell ⟨r.g, k * 3 + 1, none⟩ (.slice none 0 0)).setCell ⟨r.g, k * 3 + 2, none⟩ (.bool false)) p (fun j => F j ∨ (B ≤ j ∧ j < u.heap.size)) { C with bl := C.bl.set i (r.v.setP k ⟨bits, false⟩), fl := fl1 C.fl i k } fs x rs' ∧ rs'[i]? = some r' ∧ r'.g = r.g ∧ r'.cap = r.cap ∧ r'.ls.length = r.ls.length ∧ r'.nx = r.nx ∧ Only F u (((u.setCell ⟨r.g, k * 3, none⟩ (.slice (some ⟨g, 0, none⟩) (pgB C.S) c)).setCell ⟨r.g, k * 3 + 1, none⟩ (.slice none 0 0)).setCell ⟨r.g, k * 3 + 2, none⟩ (.bool false)) := by
 obtain ⟨h1, o1⟩ := h.newBits hi hk ho hr hB
 have hil := (List.getElem?_eq_some_iff.1 hi).1
 have hkl := (List.getElem?_eq_some_iff.1 hk).1
 have i1 : (rs.set i (r.setL k (l.withB g (pgB C.S) c bits)))[i]? = some (r.setL k (l.withB g (pgB C.S) c bits)) := List.getElem?_set_self hil
 have k1 : (r.setL k (l.withB g (pgB C.S) c bits)).ls[k]? = some (l.withB g (pgB C.S) c bits) := List.getElem?_set_self hkl
 have hl1 := (h1.rok _ (List.mem_of_getElem? i1)).lf _ (List.mem_of_getElem? k1)
 obtain ⟨h2, o2⟩ := h1.setL i1 k1 1 (by omega) (.slice none 0 0) (l' := { l.withB g (pgB C.S) c bits with fa := none, fn := 0, fc := 0, xs := [] }) rfl (fun _ h => h) h1.fin h1.lo ⟨hl1.len, hl1.byt, hl1.sl, World.ownsRow_nil _ _ _ _, fun g hg => by cases hg⟩ (fun g hg => by cases hg) (fl1 C.fl i k) (by unfold fl1; rw [if_pos ⟨rfl, rfl⟩]) (fun a b hn => by unfold fl1; rw [if_neg (fun e => hn ⟨by omega, by omega⟩)])
 have i2 : ((rs.set i (r.setL k (l.withB g (pgB C.S) c bits))).set i ((r.setL k (l.withB g (pgB C.S) c bits)).setL k { l.withB g (pgB C.S) c bits with fa := none, fn := 0, fc := 0, xs := [] }))[i]? = some ((r.setL k (l.withB g (pgB C.S) c bits)).setL k { l.withB g (pgB C.S) c bits with fa := none, fn := 0, fc := 0, xs := [] }) := List.getElem?_set_self (by rw [List.length_set]; exact hil)
 have k2 : ((r.setL k (l.withB g (pgB C.S) c bits)).setL k { l.withB g (pgB C.S) c bits with fa := none, fn := 0, fc := 0, xs := [] }).ls[k]? = some { l.withB g (pgB C.S) c bits with fa := none, fn := 0, fc := 0, xs := [] } := List.getElem?_set_self (by show k < ((r.ls.set k _)).length; rw [List.length_set]; exact hkl)
 obtain ⟨h3, o3⟩ := h2.setH false i2 k2
 have hsub : ∀ j, j < u.heap.size → (F j ∨ (B ≤ j ∧ j < u.heap.size)) → True := fun _ _ _ => trivial
 have e9 : ∀ {C1 C2 : Ch} {rs9 : List Rc} {v : World} {G : Nat → Prop}, RAt w0 v p G C1 fs x rs9 → C1 = C2 → RAt w0 v p G C2 fs x rs9 := fun h e => e ▸ h
 refine ⟨_, _, e9 h3 ?_, List.getElem?_set_self (by rw [List.length_set, List.length_set]; exact hil), rfl, rfl, ?_, rfl, ?_⟩
 ·simp [Bl.setP, Rc.v, Rc.setL, Lc.v, Lc.withB, List.set_set]
 ·simp [Rc.setL]
 ·have hg1 : ∀ j, j = r.g → F j := fun j e => e ▸ (h.rok r (List.mem_of_getElem? hi)).fg
  have a1 := Only.setCell F u r.g (k * 3) (.slice (some ⟨g, 0, none⟩) (pgB C.S) c) (hg1 _ rfl)
  have a2 := Only.setCell F (u.setCell ⟨r.g, k * 3, none⟩ (.slice (some ⟨g, 0, none⟩) (pgB C.S) c)) r.g (k * 3 + 1) (.slice none 0 0) (hg1 _ rfl)
  have a3 := Only.setCell F ((u.setCell ⟨r.g, k * 3, none⟩ (.slice (some ⟨g, 0, none⟩) (pgB C.S) c)).setCell ⟨r.g, k * 3 + 1, none⟩ (.slice none 0 0)) r.g (k * 3 + 2) (.bool false) (hg1 _ rfl)
  exact (a1.trans' a2).trans' a3
structure REr (w0 u v : World) (p : Nat) (F : Nat → Prop) (C : Ch) (fs : List Fc) (gr i g cap n : Nat) (b : Bl) (K : Int) (M : List Int) (f : Int) (m : Nat) : Prop where
 ex : ∃ x rs r, x.gr = gr ∧ RAt w0 v p (Fx F u v) { C with bl := C.bl.set i { b with ps := erJ (pgB C.S) K M f b.ps m }, fl := flJ C.fl i m } fs x rs ∧ rs[i]? = some r ∧ r.g = g ∧ r.cap = cap ∧ r.ls.length = n
 only : Only F u v
theorem REr.below {v v' : World} {p : Nat} {fs : List Fc} {b : Bl} (h : REr w0 u v p F C fs gr i g cap n b K M f m) (hb : Below v.heap.size v v') : REr w0 u v' p F C fs gr i g cap n b K M f m := by
 obtain ⟨⟨x, rs, r, e, ha, h1, h2, h3, h4⟩, ho⟩ := h
 have hs := hb.size
 refine ⟨⟨x, rs, r, e, ha.keep (fun k hk => hb.block k (ha.fin k hk)) (ha.old.trans (hb.mono ha.old.size)) (fun k hk => hk.elim Or.inl (fun h => Or.inr ⟨h.1, Nat.lt_of_lt_of_le h.2 hs⟩)) (fun k hk => ?_) (fun k hk => ?_), h1, h2, h3, h4⟩, ho.trans' (Only.ofB hb)⟩
 ·rcases hk with h5 | h5
  ·exact Nat.lt_of_lt_of_le (ha.fin k (Or.inl h5)) hs
  ·exact h5.2
 ·rcases hk with h5 | h5
  ·exact ha.lo k (Or.inl h5)
  ·have h6 := ha.old.size
   by_cases h7 : k < v.heap.size
   ·exact ha.lo k (Or.inr ⟨h5.1, h7⟩)
   ·omega
theorem REr.step {v : World} {p : Nat} {fs : List Fc} {b : Bl} {B ga ca L : Nat} {bits : List Int} (h : REr w0 u v p F C fs gr i g cap n b K M f m) (hL : L = pgB C.S) (hm : m < n) (hps : b.ps.length = n) (ho : Own v B ga L ca bits) (hr : ∀ z ∈ bits, (0 : Int) ≤ z ∧ z ≤ 255) (hB : u.heap.size ≤ B) (hw : w0.heap.size ≤ u.heap.size) (hb : bits = rsP L K M f m ((b.ps.getD m ⟨[], false⟩).bits)) :
  REr w0 u (((v.setCell ⟨g, m * 3, none⟩ (.slice (some ⟨ga, 0, none⟩) L ca)).setCell ⟨g, m * 3 + 1, none⟩ (.slice none 0 0)).setCell ⟨g, m * 3 + 2, none⟩ (.bool false)) p F C fs gr i g cap n b K M f (m + 1) := by
 obtain ⟨⟨x, rs, r, e, ha, h1, h2, h3, h4⟩, hon⟩ := h
 obtain ⟨l, hl⟩ : ∃ l, r.ls[m]? = some l := ⟨_, List.getElem?_eq_getElem (by omega)⟩
 subst hL
 obtain ⟨rs', r', k1, k2, k3, k4, k5, _, k6⟩ := ha.newLeaf h1 hl ho hr (Nat.le_trans hw hB)
 rw [h2] at k1 k6
 have hsz := k6.size
 have hrv : r.v = { b with ps := erJ (pgB C.S) K M f b.ps m } := by
  have h9 := ha.bl
  have h8 : (rs.map Rc.v)[i]? = some r.v := by rw [List.getElem?_map, h1]; rfl
  rw [h9] at h8
  have hil : i < C.bl.length := by have := (List.getElem?_eq_some_iff.1 h8).1; simpa using this
  rw [List.getElem?_set_self hil] at h8
  exact (Option.some.inj h8).symm
 refine ⟨⟨x, rs', r', e, ?_, k2, k3.trans h2, k4.trans h3, k5.trans h4⟩, hon.trans k6 (fun j hj hf => hf.elim (fun h => h) (fun h => by omega))⟩
 have e9 : ∀ {C1 C2 : Ch} {rs9 : List Rc} {y : World} {G : Nat → Prop}, RAt w0 y p G C1 fs x rs9 → C1 = C2 → RAt w0 y p G C2 fs x rs9 := fun h e => e ▸ h
 refine e9 (k1.keep (fun _ _ => rfl) k1.old (G := Fx F u _) (fun j hj => ?_) (fun j hj => ?_) (fun j hj => ?_)) ?_
 ·rcases hj with (h5 | h5) | h5
  ·exact Or.inl h5
  ·exact Or.inr ⟨h5.1, Nat.lt_of_lt_of_le h5.2 hsz⟩
  ·exact Or.inr ⟨Nat.le_trans hB h5.1, Nat.lt_of_lt_of_le h5.2 hsz⟩
 ·rcases hj with h5 | h5
  ·exact k1.fin j (Or.inl (Or.inl h5))
  ·exact h5.2
 ·rcases hj with h5 | h5
  ·exact ha.lo j (Or.inl h5)
  ·exact Nat.le_trans hw h5.1
 ·rw [hrv, hb]
  simp only [Bl.setP, List.set_set]
  congr 1
theorem REr.blk {v : World} {p : Nat} {fs : List Fc} {b : Bl} (h : REr w0 u v p F C fs gr i g cap n b K M f m) : v.cell? ⟨gr, i * 4, none⟩ = some (.slice (some ⟨g, 0, none⟩) n cap) := by
 obtain ⟨⟨x, rs, r, e, ha, h1, h2, h3, h4⟩, ho⟩ := h
 have h9 := (ha.blk h1).1
 rw [e, h2, h3, h4] at h9
 exact h9
theorem REr.geo {v : World} {p : Nat} {fs : List Fc} {b : Bl} (h : REr w0 u v p F C fs gr i g cap n b K M f m) : v.cell? ⟨p, 0, none⟩ = some (.int .i64 (C.B : Int)) ∧ v.cell? ⟨p, 1, none⟩ = some (.int .i64 (C.P : Int)) ∧ v.cell? ⟨p, 2, none⟩ = some (.int .i64 (C.S : Int)) := by
 obtain ⟨⟨x, rs, r, e, ha, h1, h2, h3, h4⟩, ho⟩ := h
 have b0 := ha.box.c0
 have b1 := ha.box.c1
 have b2 := ha.box.c2
 rw [ha.B] at b0
 rw [ha.P] at b1
 rw [ha.S] at b2
 exact ⟨b0, b1, b2⟩
theorem REr.old {v : World} {p : Nat} {fs : List Fc} {b : Bl} (h : REr w0 u v p F C fs gr i g cap n b K M f m) : Below w0.heap.size w0 v := by
 obtain ⟨⟨x, rs, r, e, ha, h1, h2, h3, h4⟩, ho⟩ := h
 exact ha.old
theorem REr.leaf {v : World} {p : Nat} {fs : List Fc} {b : Bl} (h : REr w0 u v p F C fs gr i g cap n b K M f m) (hm : m < n) (hps : b.ps.length = n) (hil : i < C.bl.length) :
  ∃ (a : Option Addr) (c : Nat) (bits : List Int) (v1 v2 : Value), v.cell? ⟨g, m * 3, none⟩ = some (.slice a (pgB C.S) c) ∧ v.cell? ⟨g, m * 3 + 1, none⟩ = some v1 ∧ v.cell? ⟨g, m * 3 + 2, none⟩ = some v2 ∧ (∀ j, v.frozen? ⟨g, j, none⟩ = false) ∧ Reads v a (pgB C.S) bits ∧ bits = (b.ps.getD m ⟨[], false⟩).bits := by
 obtain ⟨⟨x, rs, r, e, ha, h1, h2, h3, h4⟩, ho⟩ := h
 have hr := ha.rok r (List.mem_of_getElem? h1)
 obtain ⟨l, hl⟩ : ∃ l, r.ls[m]? = some l := ⟨_, List.getElem?_eq_getElem (by omega)⟩
 obtain ⟨k0, k1, k2⟩ := hr.leaf hl
 obtain ⟨ga, hla, _, hln, _, hrd, _⟩ := (hr.lf l (List.mem_of_getElem? hl)).sl
 rw [h2] at k0 k1 k2
 have hln2 : l.n = pgB C.S := hln
 rw [hln2] at k0
 refine ⟨l.a, l.c, l.bits, _, _, k0, k1, k2, fun j => by have h9 := ha.lfz h1 j; rw [h2] at h9; exact h9, hrd, ?_⟩
 have h9 := ha.bl
 have h8 : (rs.map Rc.v)[i]? = some r.v := by rw [List.getElem?_map, h1]; rfl
 rw [h9] at h8
 rw [List.getElem?_set_self hil] at h8
 have h7 : r.v = { b with ps := erJ (pgB C.S) K M f b.ps m } := (Option.some.inj h8).symm
 have h6 : r.v.ps[m]? = some l.v := by show (r.ls.map Lc.v)[m]? = _; rw [List.getElem?_map, hl]; rfl
 rw [h7] at h6
 have h5 : (erJ (pgB C.S) K M f b.ps m)[m]? = some l.v := h6
 rw [erJ_ge _ _ _ _ _ _ _ (Nat.le_refl _)] at h5
 rw [List.getD_eq_getElem?_getD, h5]
 rfl
theorem REr.start {p : Nat} {F0 : Nat → Prop} {fs : List Fc} {w : World} {r : Rc} (h : RAt w0 u p (Fx F w u) C fs x rs) (ho : Only F w u) (hi : rs[i]? = some r) (K : Int) (M : List Int) (f : Int) : REr w0 w u p F C fs x.gr i r.g r.cap r.ls.length r.v K M f 0 := by
 refine ⟨⟨x, rs, r, rfl, ?_, hi, rfl, rfl, rfl⟩, ho⟩
 have hb : C.bl[i]? = some r.v := by rw [← h.bl, List.getElem?_map, hi]; rfl
 have e : C.bl.set i { r.v with ps := erJ (pgB C.S) K M f r.v.ps 0 } = C.bl := set_self9 hb
 rw [e]
 exact h
theorem REr.stop {v : World} {p : Nat} {fs : List Fc} {b : Bl} (h : REr w0 u v p F C fs gr i g cap n b K M f m) (q : Bool) :
  (∃ v2, v.cell? ⟨gr, i * 4 + 2, none⟩ = some v2) ∧ (∃ v3, v.cell? ⟨gr, i * 4 + 3, none⟩ = some v3) ∧ (∀ j, v.frozen? ⟨gr, j, none⟩ = false) ∧
  RefAt w0 ((v.setCell ⟨gr, i * 4 + 2, none⟩ (.bool q)).setCell ⟨gr, i * 4 + 3, none⟩ (.int .i64 0)) p (Fx F u ((v.setCell ⟨gr, i * 4 + 2, none⟩ (.bool q)).setCell ⟨gr, i * 4 + 3, none⟩ (.int .i64 0))) { C with bl := C.bl.set i { b with r := q, nx := 0, ps := erJ (pgB C.S) K M f b.ps m }, fl := flJ C.fl i m } fs ∧ Only F u ((v.setCell ⟨gr, i * 4 + 2, none⟩ (.bool q)).setCell ⟨gr, i * 4 + 3, none⟩ (.int .i64 0)) := by
 obtain ⟨⟨x, rs, r, e, ha, h1, h2, h3, h4⟩, ho⟩ := h
 subst e
 obtain ⟨k0, k1, k2, k3⟩ := ha.blk h1
 obtain ⟨a1, o1⟩ := ha.setR h1 (r' := { r with r := q }) ⟨rfl, rfl, rfl⟩ 2 (by omega) (.bool q) rfl
 have i1 : (rs.set i { r with r := q })[i]? = some { r with r := q } := List.getElem?_set_self (List.getElem?_eq_some_iff.1 h1).1
 obtain ⟨a2, o2⟩ := a1.setR i1 (r' := { r with r := q, nx := 0 }) ⟨rfl, rfl, rfl⟩ 3 (by omega) (.int .i64 0) rfl
 have hrv : r.v = { b with ps := erJ (pgB C.S) K M f b.ps m } := by
  have h8 : (rs.map Rc.v)[i]? = some r.v := by rw [List.getElem?_map, h1]; rfl
  rw [ha.bl] at h8
  have hil : i < C.bl.length := by have := (List.getElem?_eq_some_iff.1 h8).1; simpa using this
  rw [List.getElem?_set_self hil] at h8
  exact (Option.some.inj h8).symm
 have hs1 := o1.size
 have hs2 := o2.size
 refine ⟨⟨_, k2⟩, ⟨_, k3⟩, fun j => ha.rfz j, ?_, ?_⟩
 ·refine RefAt.eqC (RefAt.more (G := Fx F u _) ⟨x, _, a2⟩ (fun j hj => hj.elim Or.inl (fun h5 => Or.inr ⟨h5.1, Nat.lt_of_lt_of_le h5.2 (Nat.le_trans hs1 hs2)⟩)) (fun j hj => ?_) (fun j hj => ?_)) ?_
  ·rcases hj with h5 | h5
   ·exact a2.fin j (Or.inl h5)
   ·exact h5.2
  ·rcases hj with h5 | h5
   ·exact ha.lo j (Or.inl h5)
   ·by_cases h7 : j < v.heap.size
    ·exact ha.lo j (Or.inr ⟨h5.1, h7⟩)
    ·have := ha.old.size
     omega
  ·have e1 : ({ r with r := q } : Rc).v = { b with r := q, ps := erJ (pgB C.S) K M f b.ps m } := by show ({ r.v with r := q } : Bl) = _; rw [hrv]
   have e2 : ({ r with r := q, nx := 0 } : Rc).v = { b with r := q, nx := 0, ps := erJ (pgB C.S) K M f b.ps m } := by show ({ r.v with r := q, nx := 0 } : Bl) = _; rw [hrv]
   rw [e1, e2]
   simp only [List.set_set]
 ·have h9 : ∀ j, j < u.heap.size → Fx F u v j → F j := fun j hj hf => hf.elim (fun h => h) (fun h => by omega)
  exact (ho.trans o1 h9).trans o2 h9
theorem rErase_any (w0 w : World) (p : Nat) (F : Nat → Prop) (C : Ch) (fs : List Fc) (h : RefAt w0 w p F C fs) (hok : C.Ok) (hfb : faultsB fs = true) (htr : C.tr.length ≤ 3000000000000) (pb : Int) :
  Calls Try.prog 66 #[.pointer (some ⟨p, 0, none⟩), .int .i64 pb] w fun e w' => e = .returned (.int .i64 (EraseC C pb).1) ∧ RefAt w0 w' p (Fx F w w') (EraseC C pb).2 fs ∧ Only F w w' := by
 have hR := h
 obtain ⟨x, rs, h⟩ := h
 have HR := J hR
 have HC := J h
 have c5 := h.box.c5
 rw [h.dark] at c5
 have HW0 : Hid (w0.heap.size ≤ w.heap.size) := h.old.size
 have hcn := hok.cnt
 clear h hR
 unfold EraseC
 cases hd : C.dark with
 | true =>
  rw [hd] at c5
  rw [if_pos rfl]
  go_enter Try.func66, Try.ntmps66
  go_wp2
  go_ret
  exact ⟨rfl, HR.out.fx (Below.refl _ _), Only.ofB (Below.refl _ _)⟩
 | false =>
  rw [hd] at c5
  rw [if_neg (by decide)]
  unfold eraseC
  cases hb : hasB C.B pb with
  | false =>
   rw [if_pos rfl]
   go_enter Try.func66, Try.ntmps66
   go_wp2_with (first
    | (go_at_call 97; refine (rblock_any HC.out.box pb C.B HC.out.B).mono ?_; rintro e u1 ⟨rfl, hu⟩; subst u1; rw [hb])
    | (go_at_call 98; refine (traced_any _ p F C w0 fs x rs HC.out (by omega) 2 pb 0 41).mono ?_; rintro e9 u9 ⟨rfl, hr9, ho9⟩; have HE := J (And.intro hr9.ref ho9); clear hr9 ho9))
   go_ret
   exact ⟨rfl, HE.out.1, HE.out.2⟩
  | true =>
   rw [if_neg (by decide)]
   have hx := of_decide_eq_true hb
   obtain ⟨i, rfl⟩ : ∃ i : Nat, pb = i := ⟨pb.toNat, by omega⟩
   have hil : i < rs.length := by rw [HC.out.len, hok.bl]; omega
   obtain ⟨r, hr⟩ : ∃ r, rs[i]? = some r := ⟨_, List.getElem?_eq_getElem hil⟩
   have hbl : C.bl[i]? = some r.v := by rw [← HC.out.bl, List.getElem?_map, hr]; rfl
   simp only [Int.toNat_natCast, hbl]
   obtain ⟨k0, k1, k2, k3⟩ := HC.out.blk hr
   have c3 := HC.out.box.c3
   have i1 : (i : Int) < (x.nr : Int) := by rw [HC.out.nr]; omega
   have HRI := J hr
   have HIL : Hid (i < C.bl.length) := (List.getElem?_eq_some_iff.1 hbl).1
   clear hx hil hbl hr
   cases hm : r.m with
   | true =>
    have e1 : r.v.m = true := hm
    rw [if_pos e1]
    rw [hm] at k1
    go_enter Try.func66, Try.ntmps66
    go_wp2_with (first
     | (go_at_call 97; refine (rblock_any HC.out.box (i : Int) C.B HC.out.B).mono ?_; rintro e u1 ⟨rfl, hu⟩; subst u1; rw [hb])
     | (go_at_call 98; refine (traced_any _ p F C w0 fs x rs HC.out (by omega) 2 (i : Int) 0 43).mono ?_; rintro e9 u9 ⟨rfl, hr9, ho9⟩; have HE := J (And.intro hr9.ref ho9); clear hr9 ho9))
    go_ret
    exact ⟨rfl, HE.out.1, HE.out.2⟩
   | false =>
    have e1 : ¬ r.v.m = true := by show ¬ r.m = true; rw [hm]; decide
    rw [if_neg e1]
    rw [hm] at k1
    have hs := hok.s
    have hP := hok.p
    have g0 : (1 : Int) ≤ C.S := by omega
    have g1 : (C.S : Int) ≤ 8 := by omega
    have HTK := J (HC.out.takeK hfb)
    have HRSP : Hid (∀ j zs, (∀ x ∈ zs, (0 : Int) ≤ x ∧ x ≤ 255) → riseL zs ((takeF C.cnt C.q).m.drop (min (j * pgB C.S) (takeF C.cnt C.q).m.length)) (takeF C.cnt C.q).f (pgB C.S) = rsP (pgB C.S) (takeF C.cnt C.q).k (takeF C.cnt C.q).m (takeF C.cnt C.q).f j zs) := fun j zs hz => HC.out.rsp hfb (pgB C.S) j zs hz
    clear e1
    go_enter Try.func66, Try.ntmps66
    go_upto_region 9 with (first
     | (go_at_call 97; refine (rblock_any HC.out.box (i : Int) C.B HC.out.B).mono ?_; rintro e u1 ⟨rfl, hu⟩; subst u1; rw [hb])
     | (go_at_call 99; refine (taken_any w0 _ p F C fs x rs HC.out hfb (by omega) (by omega) 2 (i : Int) 0).mono ?_; rintro e9 u9 hv; obtain ⟨ma, ml, mc, rfl, hrd, hml, hmc⟩ := hv.ex; have HRD := J hrd; have HA := J hv.at'; have HO := J hv.only; have hfill := hv.fill; clear hrd hv))
    obtain ⟨C9, hC9⟩ : ∃ c : Ch, c = { C with q := takeR C.cnt C.q, cnt := C.cnt + 1, dark := C.dark || (takeF C.cnt C.q).k == 2, tr := C.tr ++ [⟨2, (i : Int), 0, endE (takeF C.cnt C.q).k⟩] } := ⟨_, rfl⟩
    rw [← hC9] at HA
    have HC9 := J hC9
    obtain ⟨x9, hxg, ha9⟩ := HA.out
    have hrl : r.ls.length = C9.P := (ha9.rok r (List.mem_of_getElem? HRI.out)).np
    have HES : Hid (REr w0 w u9 p F C9 fs x.gr i r.g r.cap r.ls.length r.v (takeF C.cnt C.q).k (takeF C.cnt C.q).m (takeF C.cnt C.q).f 0) := by rw [← hxg]; exact REr.start (F0 := F) ha9 HO.out HRI.out _ _ _
    have eS : C9.S = C.S := by rw [hC9]
    have eP : C9.P = C.P := by rw [hC9]
    have HIL9 : Hid (i < C9.bl.length) := by rw [hC9]; exact HIL.out
    have HBP : Hid (r.v.ps.length = C9.P) := by unfold Hid; rw [← hrl]; show (r.ls.map Lc.v).length = _; rw [List.length_map]
    have HMB : Hid (∀ z ∈ (takeF C.cnt C.q).m, (0 : Int) ≤ z ∧ z ≤ 255) := HRD.out.2.1
    have HML : Hid ((takeF C.cnt C.q).m.length = ml) := HRD.out.1
    have HRB := J (show ∃ b, b = r.v from ⟨_, rfl⟩)
    rw [hrl] at HES
    clear hrl hC9 HIL
    have HIL := HIL9
    clear HIL9
    generalize hgr : x.gr = gr at HES k0 k1 k2 k3 c3 ⊢
    generalize hgg : r.g = g at HES k0 ⊢
    generalize hcap : r.cap = cap at HES k0 ⊢
    obtain ⟨n, hn⟩ : ∃ n, n = C9.P := ⟨_, rfl⟩
    rw [← hn] at HES HBP
    have HN9 := J hn
    have hnP : n = C.P := hn.trans eP
    have hn256 : n ≤ 256 := by omega
    have HUW := J HO.out.size
    have HMW := J ha9.old
    have geo := HES.out.geo
    obtain ⟨b0, b1, b2⟩ := geo
    rw [eS] at b2
    rw [← hn] at b1
    have HPS : Hid (pgB C9.S = pgB C.S) := by rw [eS]; rfl
    clear ha9 hxg HA hgr hgg hcap hn eP k0 k1 k2 k3 c3 hm
    go_upto_region 10 with (first | (go_at_call 78; refine (rlong_any _ _ C.S _ hs.1 hs.2).mono ?_; rintro e u10 ⟨rfl, bl10⟩; have HES1 := J (HES.out.below bl10); have HB10 := J bl10; clear bl10))
    obtain ⟨L, hLe⟩ : ∃ L, L = pgB C.S := ⟨_, rfl⟩
    have HL9 : Hid (pgB C9.S = L) := by unfold Hid; rw [HPS.out, hLe]
    rw [← hLe] at HRSP ⊢
    have hLb : L ≤ 2126 := by rw [hLe]; exact pgB_le hs.2
    clear HES b0 b1 b2 hLe HPS
    go_wp2
    go_loopw [10] (fun s10 wr => ∃ m : Nat, m ≤ n ∧ s10 = .int .i64 m ∧ Hid (REr w0 w wr p F C9 fs gr i g cap n r.v (takeF C.cnt C.q).k (takeF C.cnt C.q).m (takeF C.cnt C.q).f m)) (fun s10 _ => n - (intOf s10).toNat)
    case atStart => exact ⟨0, Nat.zero_le _, rfl, HES1⟩
    case round =>
     clear HES1 HB10
     obtain ⟨m, hmn, rfl, HEr⟩ := hrel
     obtain ⟨b0, b1, b2⟩ := HEr.out.geo
     rw [← HN9.out] at b1
     by_cases hlt : m < n
     ·have d0 : decide ((m : Int) < (n : Int)) = true := decide_eq_true (by omega)
      have d1 : (m : Int) < (n : Int) := by omega
      obtain ⟨q, hq⟩ : ∃ q, q = m * L := ⟨_, rfl⟩
      have hqb : q ≤ 600000 := by rw [hq]; exact Nat.le_trans (Nat.mul_le_mul (show m ≤ 256 by omega) hLb) (by decide)
      have hqi : (m : Int) * (L : Int) = (q : Int) := by rw [hq, Int.natCast_mul]
      have HQE := J hq
      clear hq
      by_cases hql : q < ml
      ·have dq : decide ((q : Int) < (ml : Int)) = true := decide_eq_true (by omega)
       have htl : ∀ u : World, (Instr.sliceAt 24 (.slice ma ml mc) (some (.int .i64 (q : Int))) none none).run Try.prog u = .ok (.slice (tailA ma mc q) (ml - q) (mc - q)) u := fun u => tail_run u ma ml mc q (by omega) hmc
       go_upto_region 16 with fail
       have HEB := J (HEr.out.below (below_trans (below_alloc wr (.cells #[] 5)) (drew_below _)))
       obtain ⟨la, lc, lb, v1, v2, hq1, _, _, _, hrd, hlb⟩ := HEB.out.leaf hlt HBP.out HIL.out
       rw [HL9.out] at hq1 hrd
       have HRL := J hrd
       have HLB := J hlb
       have HUS := J HEB.out.only.size
       have HMK := J (HRD.out.below HEB.out.old)
       have HPR : Hid (Reads (wr.alloc (.cells #[] 5)).drew (tailA ma mc q) (ml - q) ((takeF C.cnt C.q).m.drop (min (m * L) (takeF C.cnt C.q).m.length))) := by
        have e : min (m * L) (takeF C.cnt C.q).m.length = q := by rw [HML.out, ← HQE.out]; omega
        unfold Hid
        rw [e]
        exact tail_reads HMK.out (by omega) hmc
       clear hrd hlb b0 b1 b2 htl
       refine wp_region_held_drew (S := (fun y => y.cell? ⟨gr, i * 4, none⟩ = some (.slice (some ⟨g, 0, none⟩) n cap))) (by kernel_rfl) (HEB.out.blk) fun O => ?_
       refine tk 0 ?_
       refine tk 1 ?_
       refine tk 2 ?_
       refine tk 3 ?_
       refine tk 4 ?_
       refine tk 5 ?_
       refine tk 6 ?_
       refine tk 7 ?_
       refine tk 8 ?_
       refine tk 9 ?_
       refine tk 10 ?_
       refine tk 11 ?_
       refine tk 13 ?_
       refine tk 14 ?_
       refine rd 12 fun K N => ?_
       go_simp
       go_wp2_with fail
       refine N.out _ _ O (fun hHeld12 => ?_)
       clear N K
       clear hHeld12
       try simp only [zz]
       refine rd 15 fun K N => ?_
       go_simp
       go_at_call 100
       refine (rrise_any la L lc lb (tailA ma mc q) (ml - q) (mc - q) ((takeF C.cnt C.q).m.drop (min (m * L) (takeF C.cnt C.q).m.length)) _ _ (by omega) (by omega) HRL.out HPR.out).mono ?_
       rintro e u16 ⟨g3, c3, rfl, o3, b3⟩
       have HO3 := J o3
       have HB16 := J b3
       have hZ : (fun y => y.cell? ⟨gr, i * 4, none⟩ = some (.slice (some ⟨g, 0, none⟩) n cap)) u16 := (b3.cell (block_lt_of_cell O)).trans O
       clear o3 b3
       go_wp2_with fail
       clear O
       refine N.out _ _ hZ fun O => ?_
       clear N K hZ
       try simp only [zz]
       refine tk 16 ?_
       refine tk 17 ?_
       have HE16 := J (HEB.out.below HB16.out)
       obtain ⟨_, _, _, _, _, f0, f1, f2, fz, _, _⟩ := HE16.out.leaf hlt HBP.out HIL.out
       rw [HL9.out] at f0
       refine rd 18 fun K N => ?_
       go_simp
       go_wp2_with fail
       have HST := J (HE16.out.step (ca := c3) (ga := g3) HL9.out.symm hlt HBP.out HO3.out (riseL_range _ _ _ HRL.out.2.1 (fun z hz => HMB.out z (List.mem_of_mem_drop hz)) hfill L) (Nat.le_trans HUS.out (Nat.le_of_eq rfl)) HW0.out (by rw [← HLB.out]; exact HRSP.out m lb HRL.out.2.1))
       clear HEB HE16 f0 f1 f2 fz
       generalize hU17 : World.setCell _ ⟨g, m * 3 + 2, none⟩ _ = U17 at HST ⊢
       have hZ : (fun y => y.cell? ⟨gr, i * 4, none⟩ = some (.slice (some ⟨g, 0, none⟩) n cap)) U17 := HST.out.blk
       refine N.out _ _ hZ (fun hHeld18 => ?_)
       clear N K hZ
       try simp only [zz]
       refine td ?_
       clear O hHeld18 hU17
       go_wp2
       go_roundw
       case rel => exact ⟨m + 1, by omega, by go_num, HST⟩
       case measure => simp [intOf]; omega
      ·have dq : decide ((q : Int) < (ml : Int)) = false := decide_eq_false (by omega)
       go_upto_region 16 with fail
       have HEB := J (HEr.out.below (below_trans (below_alloc wr (.cells #[] 5)) (drew_below _)))
       obtain ⟨la, lc, lb, v1, v2, hq1, _, _, _, hrd, hlb⟩ := HEB.out.leaf hlt HBP.out HIL.out
       rw [HL9.out] at hq1 hrd
       have HRL := J hrd
       have HLB := J hlb
       have HUS := J HEB.out.only.size
       have HMK := J (HRD.out.below HEB.out.old)
       have HPR : Hid (Reads (wr.alloc (.cells #[] 5)).drew (some ⟨wr.heap.size, 0, none⟩) 0 ((takeF C.cnt C.q).m.drop (min (m * L) (takeF C.cnt C.q).m.length))) := by
        have e : min (m * L) (takeF C.cnt C.q).m.length = (takeF C.cnt C.q).m.length := by rw [HML.out, ← HQE.out]; omega
        unfold Hid
        rw [e, List.drop_length]
        exact ⟨rfl, (fun _ h => by cases h), (fun h => by cases h), fun _ _ i hi => absurd hi (Nat.not_lt_zero _)⟩
       clear hrd hlb b0 b1 b2
       refine wp_region_held_drew (S := (fun y => y.cell? ⟨gr, i * 4, none⟩ = some (.slice (some ⟨g, 0, none⟩) n cap))) (by kernel_rfl) (HEB.out.blk) fun O => ?_
       refine tk 0 ?_
       refine tk 1 ?_
       refine tk 2 ?_
       refine tk 3 ?_
       refine tk 4 ?_
       refine tk 5 ?_
       refine tk 6 ?_
       refine tk 7 ?_
       refine tk 8 ?_
       refine tk 9 ?_
       refine tk 10 ?_
       refine tk 11 ?_
       refine tk 13 ?_
       refine tk 14 ?_
       refine rd 12 fun K N => ?_
       go_simp
       go_wp2_with fail
       refine N.out _ _ O (fun hHeld12 => ?_)
       clear N K
       clear hHeld12
       try simp only [zz]
       refine rd 15 fun K N => ?_
       go_simp
       go_at_call 100
       refine (rrise_any la L lc lb (some ⟨wr.heap.size, 0, none⟩) 0 0 ((takeF C.cnt C.q).m.drop (min (m * L) (takeF C.cnt C.q).m.length)) _ _ (by omega) (by omega) HRL.out HPR.out).mono ?_
       rintro e u16 ⟨g3, c3, rfl, o3, b3⟩
       have HO3 := J o3
       have HB16 := J b3
       have hZ : (fun y => y.cell? ⟨gr, i * 4, none⟩ = some (.slice (some ⟨g, 0, none⟩) n cap)) u16 := (b3.cell (block_lt_of_cell O)).trans O
       clear o3 b3
       go_wp2_with fail
       clear O
       refine N.out _ _ hZ fun O => ?_
       clear N K hZ
       try simp only [zz]
       refine tk 16 ?_
       refine tk 17 ?_
       have HE16 := J (HEB.out.below HB16.out)
       obtain ⟨_, _, _, _, _, f0, f1, f2, fz, _, _⟩ := HE16.out.leaf hlt HBP.out HIL.out
       rw [HL9.out] at f0
       refine rd 18 fun K N => ?_
       go_simp
       go_wp2_with fail
       have HST := J (HE16.out.step (ca := c3) (ga := g3) HL9.out.symm hlt HBP.out HO3.out (riseL_range _ _ _ HRL.out.2.1 (fun z hz => HMB.out z (List.mem_of_mem_drop hz)) hfill L) (Nat.le_trans HUS.out (Nat.le_of_eq rfl)) HW0.out (by rw [← HLB.out]; exact HRSP.out m lb HRL.out.2.1))
       clear HEB HE16 f0 f1 f2 fz
       generalize hU17 : World.setCell _ ⟨g, m * 3 + 2, none⟩ _ = U17 at HST ⊢
       have hZ : (fun y => y.cell? ⟨gr, i * 4, none⟩ = some (.slice (some ⟨g, 0, none⟩) n cap)) U17 := HST.out.blk
       refine N.out _ _ hZ (fun hHeld18 => ?_)
       clear N K hZ
       try simp only [zz]
       refine td ?_
       clear O hHeld18 hU17
       go_wp2
       go_roundw
       case rel => exact ⟨m + 1, by omega, by go_num, HST⟩
       case measure => simp [intOf]; omega
     ·have d0 : decide ((m : Int) < (n : Int)) = false := decide_eq_false (by omega)
      obtain rfl : m = n := by omega
      obtain ⟨⟨v2, w2⟩, ⟨v3, w3⟩, wz, hst⟩ := HEr.out.stop ((endE (takeF C.cnt C.q).k) == 0)
      have HST := J hst
      clear hst
      go_wp2
      go_ret
      refine ⟨rfl, RefAt.eqC HST.out.1 ?_, HST.out.2⟩
      rw [HC9.out, HTK.out]
      simp [noteC, eraseN, hnP]
end Go.Proofs.Ytadlkikjfonkgaa
