/-
  SEAT Ytadlkikjfonkgaa: Xf, Xg, Xh.
-/
import Derived.Test.YtadlkikjfonkgaaQa
import Derived.Test.YtadlkikjfonkgaaQt
import Derived.Test.YtadlkikjfonkgaaQl
namespace Go.Proofs.Ytadlkikjfonkgaa
open Go.RowKit Go.Conc
set_option linter.unusedVariables false
set_option maxRecDepth 100000
set_option maxHeartbeats 4000000
variable {w u w' w0 : World} {g B n c l : Nat} {a : Option Addr} {zs X : List Int} {G F : Nat → Prop} {C : Ch} {x : Rx}
theorem cells3x {c0 c1 c2 : Value} {T : TypeId} {fr : Nat × Nat} (h : w.heap[g]? = some (.cells #[c0, c1, c2] T fr)) : w.cell? ⟨g, 0, none⟩ = some c0 ∧ w.cell? ⟨g, 1, none⟩ = some c1 ∧ w.cell? ⟨g, 2, none⟩ = some c2 := by
 simp only [World.cell?, h]
 exact ⟨rfl, rfl, rfl⟩
theorem own_max {e size : Nat} {xs : List Value} (h : w.ownsRow B e size (.slice a n c) n xs) : n ≤ 9223372036854775807 := by
 rcases h.2 with ⟨_, h0⟩ | ⟨g, cap, cur, hv, _, _, h1, h2, _⟩
 ·omega
 ·simp [maxLen] at h2
  omega
theorem own_mono {B' : Nat} {xs : List Int} (h : Own w B g n c xs) (hB : B' ≤ B) : Own w B' g n c xs := by
 have h9 : w.ownsRow B 5 1 (.slice (some ⟨g, 0, none⟩) n c) n (xs.map (Value.int .u8)) := h
 refine ⟨h9.1, ?_⟩
 rcases h9.2 with hn | ⟨gg, cap, cu, hv, hb2, rest⟩
 ·exact Or.inl hn
 ·exact Or.inr ⟨gg, cap, cu, hv, Nat.le_trans hB hb2, rest⟩
section
variable {w0 w u v : World} {p : Nat} {F : Nat → Prop} {C : Ch} {fs : List Fc} {x : Rx} {rs : List Rc} {i k q3 : Nat} {r : Rc} {l : Lc}
theorem xf_of (h : RAt w0 u p F C fs x rs) (hi : rs[i]? = some r) (hk : r.ls[k]? = some l) (hq : u.heap[q3]? = some (.cells #[.int .i64 (i : Int), .int .i64 (k : Int)] 41 (0, 0))) : (u.cell? ⟨q3, 0, none⟩ = some (.int .i64 (i : Int)) ∧ u.cell? ⟨q3, 1, none⟩ = some (.int .i64 (k : Int))) ∧ (u.cell? ⟨p, 3, none⟩ = some (.slice (some ⟨x.gr, 0, none⟩) x.nr x.cr) ∧ u.cell? ⟨x.gr, i * 4, none⟩ = some (.slice (some ⟨r.g, 0, none⟩) r.ls.length r.cap)) ∧ u.cell? ⟨r.g, k * 3, none⟩ = some (.slice l.a l.n l.c) ∧ u.cell? ⟨r.g, k * 3 + 1, none⟩ = some (.slice l.fa l.fn l.fc) ∧ u.cell? ⟨r.g, k * 3 + 2, none⟩ = some (.bool l.h) := by
 have h9 := (h.rok r (List.mem_of_getElem? hi)).leaf hk
 exact ⟨⟨by simp only [World.cell?, hq]; rfl, by simp only [World.cell?, hq]; rfl⟩, ⟨h.box.c3, (h.blk hi).1⟩, h9.1, h9.2.1, h9.2.2⟩
end
theorem flips_step (bits : List Int) (xs : List Nat) (m : Nat) (z : Nat) (h : xs[m]? = some z) : flipsL bits (xs.take (m + 1)) = flipL (flipsL bits (xs.take m)) z := by
 unfold flipsL
 rw [List.take_add_one, h, List.foldl_append]
 rfl
theorem flips_byt9 {bits : List Int} (h : ∀ x ∈ bits, 0 ≤ x ∧ x ≤ 255) : ∀ l : List Nat, ∀ x ∈ flipsL bits l, 0 ≤ x ∧ x ≤ 255 := by
 intro l
 induction l generalizing bits with
 | nil => exact h
 | cons j r ih => exact ih (flipL_range bits j h)
theorem ints_at {m : Nat} {xs : List Nat} (h : u.ownsRow B 3 1 (.slice a n c) n (xs.map fun (i : Nat) => Value.int .i64 (i : Int))) (hm : m < n) : ∃ g z, a = some ⟨g, 0, none⟩ ∧ xs[m]? = some z ∧ u.cell? ⟨g, m, none⟩ = some (.int .i64 (z : Int)) := by
 have hl : xs.length = n := by have := h.1; simpa using this
 rcases h.2 with ⟨hv, h0⟩ | ⟨g, cap, cur, hv, _⟩
 ·omega
 ·injection hv with h1 h2 h3
  subst h1
  obtain ⟨z, hz⟩ : ∃ z, xs[m]? = some z := ⟨_, List.getElem?_eq_getElem (by omega)⟩
  refine ⟨g, z, rfl, hz, ?_⟩
  rw [World.ownsRow.cellAt h m (by omega), List.getElem?_map, hz]
  rfl
theorem rreads_any (w0 w : World) (p : Nat) (F : Nat → Prop) (C : Ch) (fs : List Fc) (h : RefAt w0 w p F C fs) (hok : C.Ok) (i k : Nat) (hi : i < C.B) (hk : k < C.P) :
  Calls Try.prog 102 #[.pointer (some ⟨p, 0, none⟩), .agg #[.int .i64 (i : Int), .int .i64 (k : Int)]] w fun e w' => ∃ g c, e = .returned (.slice (some ⟨g, 0, none⟩) (pgB C.S) c) ∧ Own w' w.heap.size g (pgB C.S) c (readL C i k) ∧ Below w.heap.size w w' := by
 obtain ⟨x, rs, h⟩ := h
 have hil : i < rs.length := by rw [h.len, hok.bl]; exact hi
 obtain ⟨r, hr⟩ : ∃ r, rs[i]? = some r := ⟨_, List.getElem?_eq_getElem hil⟩
 have hrok := h.rok r (List.mem_of_getElem? hr)
 obtain ⟨l, hl⟩ : ∃ l, r.ls[k]? = some l := ⟨_, List.getElem?_eq_getElem (by rw [hrok.np]; exact hk)⟩
 have hbl : C.bl[i]? = some r.v := by rw [← h.bl, List.getElem?_map, hr]; rfl
 have hps : r.v.ps[k]? = some l.v := by show (r.ls.map Lc.v)[k]? = _; rw [List.getElem?_map, hl]; rfl
 have HRL : Hid (readL C i k = flipsL l.bits l.xs) := by unfold Hid readL; rw [hbl]; simp only [hps]; rw [← h.fl i k r l hr hl]; rfl
 have HZ : Hid (∀ z ∈ l.xs, z < 8 * pgB C.S) := by unfold Hid; rw [h.fl i k r l hr hl]; exact hok.fl i k
 have HLM := J (List.mem_of_getElem? hl)
 have HRM := J (List.mem_of_getElem? hr)
 have hnr := h.nr
 have i1 : (i : Int) < (x.nr : Int) := by omega
 have k1 : (k : Int) < (r.ls.length : Int) := by rw [hrok.np]; omega
 have hs8 := hok.s
 have hpg : pgB C.S ≤ 2200 := by unfold pgB; omega
 obtain ⟨L, hLe⟩ : ∃ L, L = pgB C.S := ⟨_, rfl⟩
 have HA := J (h.below (below_alloc w (.cells #[.int .i64 (i : Int), .int .i64 (k : Int)] 41)))
 have HAN : Hid ((w.alloc (.cells #[.int .i64 (i : Int), .int .i64 (k : Int)] 41)).heap[w.heap.size]? = some (.cells #[.int .i64 (i : Int), .int .i64 (k : Int)] 41 (0, 0))) := alloc_new w (.cells #[.int .i64 (i : Int), .int .i64 (k : Int)] 41)
 have HBW := J (below_alloc w (.cells #[.int .i64 (i : Int), .int .i64 (k : Int)] 41))
 have HRI := J hr
 have HLI := J hl
 have HLE := J hLe
 rw [← hLe] at hpg HZ ⊢
 have HSZ : Hid ((w.alloc (.cells #[.int .i64 (i : Int), .int .i64 (k : Int)] 41)).heap.size = w.heap.size + 1) := by unfold Hid; simp
 clear h hil hrok hbl hps hr hl hnr hLe hs8 hi hk
 go_enter Try.func102, Try.ntmps102
 go_upto_region 1 with fail
 generalize hU : w.alloc (.cells #[.int .i64 (i : Int), .int .i64 (k : Int)] 41) = W1 at HA HAN HSZ HBW ⊢
 generalize hq3 : w.heap.size = q3 at HAN HSZ ⊢
 refine wp_region_held_drew (S := (fun u : World => (u.cell? ⟨q3, 0, none⟩ = some (.int .i64 (i : Int)) ∧ u.cell? ⟨q3, 1, none⟩ = some (.int .i64 (k : Int))) ∧ (u.cell? ⟨p, 3, none⟩ = some (.slice (some ⟨x.gr, 0, none⟩) x.nr x.cr) ∧ u.cell? ⟨x.gr, i * 4, none⟩ = some (.slice (some ⟨r.g, 0, none⟩) r.ls.length r.cap)) ∧ u.cell? ⟨r.g, k * 3, none⟩ = some (.slice l.a l.n l.c) ∧ u.cell? ⟨r.g, k * 3 + 1, none⟩ = some (.slice l.fa l.fn l.fc) ∧ u.cell? ⟨r.g, k * 3 + 2, none⟩ = some (.bool l.h))) (by kernel_rfl) (xf_of (HA.out.below (drew_below _)) HRI.out HLI.out HAN.out) fun O => ?_
 refine tk 0 ?_
 refine tk 1 ?_
 refine tk 2 ?_
 refine tk 3 ?_
 refine tk 4 ?_
 refine tk 5 ?_
 refine tk 6 ?_
 refine tk 7 ?_
 refine tk 8 ?_
 refine tk 9 ?_
 refine tk 10 ?_
 refine tk 11 ?_
 refine tk 12 ?_
 refine rd 13 fun K N => ?_
 go_simp
 go_wp2_with fail
 have hZ : (fun u : World => (u.cell? ⟨q3, 0, none⟩ = some (.int .i64 (i : Int)) ∧ u.cell? ⟨q3, 1, none⟩ = some (.int .i64 (k : Int))) ∧ (u.cell? ⟨p, 3, none⟩ = some (.slice (some ⟨x.gr, 0, none⟩) x.nr x.cr) ∧ u.cell? ⟨x.gr, i * 4, none⟩ = some (.slice (some ⟨r.g, 0, none⟩) r.ls.length r.cap)) ∧ u.cell? ⟨r.g, k * 3, none⟩ = some (.slice l.a l.n l.c) ∧ u.cell? ⟨r.g, k * 3 + 1, none⟩ = some (.slice l.fa l.fn l.fc) ∧ u.cell? ⟨r.g, k * 3 + 2, none⟩ = some (.bool l.h)) _ := xf_of ((HA.out.below (drew_below _)).below (below_alloc W1.drew (.cells #[.slice none 0 0, .slice none 0 0, .bool false] 144))) HRI.out HLI.out (((below_alloc W1.drew (.cells #[.slice none 0 0, .slice none 0 0, .bool false] 144)).block _ (lt_of_block HAN.out)).trans HAN.out)
 clear O
 refine N.out _ _ hZ fun O => ?_
 clear N K hZ
 try simp only [zz]
 refine rd 14 fun K N => ?_
 go_simp
 go_wp2_with fail
 have hZ : (fun u : World => (u.cell? ⟨q3, 0, none⟩ = some (.int .i64 (i : Int)) ∧ u.cell? ⟨q3, 1, none⟩ = some (.int .i64 (k : Int))) ∧ (u.cell? ⟨p, 3, none⟩ = some (.slice (some ⟨x.gr, 0, none⟩) x.nr x.cr) ∧ u.cell? ⟨x.gr, i * 4, none⟩ = some (.slice (some ⟨r.g, 0, none⟩) r.ls.length r.cap)) ∧ u.cell? ⟨r.g, k * 3, none⟩ = some (.slice l.a l.n l.c) ∧ u.cell? ⟨r.g, k * 3 + 1, none⟩ = some (.slice l.fa l.fn l.fc) ∧ u.cell? ⟨r.g, k * 3 + 2, none⟩ = some (.bool l.h)) _ := xf_of ((HA.out.below (below_alloc W1 (.cells #[.slice l.a l.n l.c, .slice l.fa l.fn l.fc, .bool l.h] 144))).below (drew_below _)) HRI.out HLI.out (((below_alloc W1 (.cells #[.slice l.a l.n l.c, .slice l.fa l.fn l.fc, .bool l.h] 144)).block _ (lt_of_block HAN.out)).trans HAN.out)
 clear O
 refine N.out _ _ hZ fun O => ?_
 clear N K hZ
 try simp only [zz]
 refine td ?_
 clear O
 have HQ3 := J hq3
 have HV : Hid ((W1.alloc (.cells #[.slice l.a l.n l.c, .slice l.fa l.fn l.fc, .bool l.h] 144)).drew.heap[W1.heap.size]? = some (.cells #[.slice l.a l.n l.c, .slice l.fa l.fn l.fc, .bool l.h] 144 (0, 0))) := alloc_new W1 (.cells #[.slice l.a l.n l.c, .slice l.fa l.fn l.fc, .bool l.h] 144)
 have HB : Hid (Below w.heap.size w (W1.alloc (.cells #[.slice l.a l.n l.c, .slice l.fa l.fn l.fc, .bool l.h] 144)).drew) := below_trans HBW.out (below_trans (below_alloc W1 (.cells #[.slice l.a l.n l.c, .slice l.fa l.fn l.fc, .bool l.h] 144)) (drew_below _))
 have HRV := J ((HA.out.below (below_alloc W1 (.cells #[.slice l.a l.n l.c, .slice l.fa l.fn l.fc, .bool l.h] 144))).below (drew_below _))
 generalize hV : (W1.alloc (.cells #[.slice l.a l.n l.c, .slice l.fa l.fn l.fc, .bool l.h] 144)).drew = V at HV HB HRV ⊢
 generalize hq5 : W1.heap.size = q5 at HV ⊢
 have hlok := (HRV.out.rok r HRM.out).lf l HLM.out
 obtain ⟨gb, hla, _, hln, hlc, hrd, _⟩ := hlok.sl
 rw [← HLE.out] at hln hlc hrd
 have HFR := J hlok.row
 have HRD := J hrd
 have HBY := J hlok.byt
 have HBL : Hid (l.bits.length = L) := by rw [HLE.out]; exact hlok.len
 clear hV hq5 hU hq3 HAN HSZ HA HRV HBW hlok hrd hla hlc i1 k1
 obtain ⟨y0, y1, y2⟩ := cells3x HV.out
 rw [hln] at y0
 go_upto_region 3 with (first | (go_at_call 80; refine (join_any l.a L l.c l.bits _ HRD.out (by omega)).mono ?_; rintro e u1 ⟨g1, c1, rfl, ho1, hb1⟩; have HO1 : Hid (Own u1 w.heap.size g1 L c1 (flipsL l.bits (l.xs.take 0))) := own_mono ho1 HB.out.size; have HB1 := J (below_trans HB.out hb1); have HV1 := J ((hb1.block _ (lt_of_block HV.out)).trans HV.out); have HF1 : Hid (u1.ownsRow 0 3 1 (.slice l.fa l.fn l.fc) l.fn (l.xs.map fun (i : Nat) => Value.int .i64 (i : Int))) := owns_keep HFR.out (fun g hg => hb1.block g (HFR.out.lt g hg).2); clear ho1 hb1))
 clear y0 y1 y2 HV HB HFR HRD hln
 have HXL : Hid (l.xs.length = l.fn) := by unfold Hid; have h9 := HF1.out.1; simpa using h9
 have hfn : l.fn ≤ 9223372036854775807 := own_max HF1.out
 go_wp2
 go_loopw [6, 7] (fun s6 s7 wr => ∃ m g c : Nat, m ≤ l.fn ∧ s7 = .int .i64 m ∧ s6 = .slice (some ⟨g, 0, none⟩) L c ∧ Hid (Own wr w.heap.size g L c (flipsL l.bits (l.xs.take m))) ∧ Hid (Below w.heap.size w wr) ∧ Hid (wr.heap[q5]? = some (.cells #[.slice l.a l.n l.c, .slice l.fa l.fn l.fc, .bool l.h] 144 (0, 0))) ∧ Hid (wr.ownsRow 0 3 1 (.slice l.fa l.fn l.fc) l.fn (l.xs.map fun (i : Nat) => Value.int .i64 (i : Int)))) (fun _ s7 _ => l.fn - (intOf s7).toNat)
 case atStart => exact ⟨0, g1, c1, Nat.zero_le _, rfl, rfl, HO1, HB1, HV1, HF1⟩
 case round =>
  clear HO1 HB1 HV1 HF1
  obtain ⟨m, g, c, hm, rfl, rfl, HOr, HBr, HVr, HFr⟩ := hrel
  obtain ⟨y0, y1, y2⟩ := cells3x HVr.out
  by_cases hlt : m < l.fn
  ·have d0 : decide ((m : Int) < (l.fn : Int)) = true := decide_eq_true (by omega)
   have d1 : (m : Int) < (l.fn : Int) := by omega
   obtain ⟨gf, z, hfa, hz, hcz⟩ := ints_at HFr.out hlt
   have HZZ := J (HZ.out z (List.mem_of_getElem? hz))
   have HST := J (flips_step l.bits l.xs m z hz)
   rw [hfa] at y1
   clear hfa
   clear hz
   go_wp2_with (first | (go_at_call 112; refine (rflip_ok (some ⟨g, 0, none⟩) c L z _ _ (by omega) HZZ.out (by have h9 := HOr.out.reads (flips_byt9 HBY.out _) L (Nat.le_refl _); rw [List.take_of_length_le (by rw [HOr.out.len]; exact Nat.le_refl _)] at h9; exact h9)).mono ?_; rintro e u2 ⟨g2, c2, rfl, ho2, hb2⟩; have HO2 : Hid (Own u2 w.heap.size g2 L c2 (flipsL l.bits (l.xs.take (m + 1)))) := (by unfold Hid; rw [HST.out]; exact own_mono ho2 HBr.out.size); have HB2 := J (below_trans HBr.out hb2); have HV2 := J ((hb2.block _ (lt_of_block HVr.out)).trans HVr.out); have HF2 : Hid (u2.ownsRow 0 3 1 (.slice l.fa l.fn l.fc) l.fn (l.xs.map fun (i : Nat) => Value.int .i64 (i : Int))) := owns_keep HFr.out (fun g hg => hb2.block g (HFr.out.lt g hg).2); clear ho2 hb2))
   go_roundw
   case rel => exact ⟨m + 1, g2, c2, by omega, by go_num, rfl, HO2, HB2, HV2, HF2⟩
   case measure => simp [intOf]; omega
  ·have d0 : decide ((m : Int) < (l.fn : Int)) = false := decide_eq_false (by omega)
   obtain rfl : m = l.fn := by omega
   go_wp2
   go_ret
   refine ⟨g, c, rfl, ?_, HBr.out⟩
   have h9 := HOr.out
   rw [List.take_of_length_le (by rw [HXL.out]; exact Nat.le_refl _)] at h9
   rw [HRL.out]
   exact h9
theorem reads_low' (h : Reads w a l zs) {y : Addr} (hy : a = some y) (h0 : 0 < l) : y.block < w.heap.size := by
 obtain ⟨b, off, e, hb, _⟩ := h.pos h0
 rw [hy] at e
 cases e
 exact hb
theorem own_cap (h : Own w B g n c X) : n ≤ c := by
 rcases h.2 with ⟨_, h0⟩ | ⟨gg, cap, cur, hv, _, _, h1, _⟩
 ·omega
 ·injection hv with h3 h4 h5
  omega
theorem own_reads'' (h : Own w B g n c X) (hr : ∀ z ∈ X, 0 ≤ z ∧ z ≤ 255) : Reads w (some ⟨g, 0, none⟩) n X := by
 have h9 := h.reads hr n (Nat.le_refl _)
 rwa [List.take_of_length_le (by rw [h.len]; exact Nat.le_refl _)] at h9
theorem Reads.only (h : Reads w a l zs) (ho : Only G w w') (hn : ∀ y, a = some y → ¬ G y.block) : Reads w' a l zs :=
 reads_keep h (fun y hy h0 => ho.block _ (reads_low' h hy h0) (hn y hy))
theorem readL_byt {p : Nat} {fs : List Fc} {rs : List Rc} (h : RAt w0 w p F C fs x rs) (i k : Nat) : ∀ z ∈ readL C i k, 0 ≤ z ∧ z ≤ 255 := by
 intro z hz
 unfold readL at hz
 rw [← h.bl, List.getElem?_map] at hz
 cases hr : rs[i]? with
 | none => rw [hr] at hz; cases hz
 | some r =>
  rw [hr] at hz
  simp only [Option.map_some] at hz
  have e : (Rc.v r).ps = r.ls.map Lc.v := rfl
  rw [e, List.getElem?_map] at hz
  cases hl : r.ls[k]? with
  | none => rw [hl] at hz; cases hz
  | some l =>
   rw [hl] at hz
   simp only [Option.map_some] at hz
   exact flipsL_range _ _ ((h.rok r (List.mem_of_getElem? hr)).lf l (List.mem_of_getElem? hl)).byt z hz
structure RRd (w w' : World) (C : Ch) (pb pp : Int) (e : Ending) : Prop where
 ex : ∃ a1 m1 c1 a2 m2 c2 D Z, e = .returned (.tuple #[.agg #[.slice a1 m1 c1, .slice a2 m2 c2], .int .i64 (ReadE C pb pp)]) ∧ Reads w' a1 m1 D ∧ Reads w' a2 m2 Z ∧ (∀ y, (a1 = some y ∨ a2 = some y) → w.heap.size ≤ y.block) ∧
  (if ReadE C pb pp = 0 then m1 = 256 * C.S ∧ m2 = 54 + 3 * C.S ∧ D ++ Z = readL C pb.toNat pp.toNat else m1 = 0 ∧ m2 = 0 ∧ D = [] ∧ Z = [])
 bel : Below w.heap.size w w'
theorem reads_nil (w : World) : Reads w none 0 [] := ⟨rfl, (fun _ h => by cases h), fun _ => rfl, fun _ h => by cases h⟩
theorem rrd_none {pb pp : Int} {z : Int} (hz : ReadE C pb pp = z) (h0 : z ≠ 0) (hb : Below w.heap.size w w') : RRd w w' C pb pp (.returned (.tuple #[.agg #[.slice none 0 0, .slice none 0 0], .int .i64 z])) :=
 ⟨⟨none, 0, 0, none, 0, 0, [], [], by rw [hz], reads_nil _, reads_nil _, (fun y hy => by rcases hy with hy | hy <;> cases hy), by rw [hz, if_neg h0]; exact ⟨rfl, rfl, rfl, rfl⟩⟩, hb⟩
theorem g_keep {V u' : World} {p bx : Nat} (h : (u.cell? ⟨p, 0, none⟩ = some (.int .i64 (C.B : Int)) ∧ u.cell? ⟨p, 1, none⟩ = some (.int .i64 (C.P : Int)) ∧ u.cell? ⟨p, 2, none⟩ = some (.int .i64 (C.S : Int))) ∧ (∃ c0 c1, u.heap[bx]? = some (.cells #[c0, c1] 36 (0, 0))) ∧ Only (· = bx) V u) (hb : Below u.heap.size u u') : (u'.cell? ⟨p, 0, none⟩ = some (.int .i64 (C.B : Int)) ∧ u'.cell? ⟨p, 1, none⟩ = some (.int .i64 (C.P : Int)) ∧ u'.cell? ⟨p, 2, none⟩ = some (.int .i64 (C.S : Int))) ∧ (∃ c0 c1, u'.heap[bx]? = some (.cells #[c0, c1] 36 (0, 0))) ∧ Only (· = bx) V u' := by
 obtain ⟨⟨h0, h1, h2⟩, ⟨c0, c1, h3⟩, h4⟩ := h
 exact ⟨⟨(hb.cell (block_lt_of_cell h0)).trans h0, (hb.cell (block_lt_of_cell h1)).trans h1, (hb.cell (block_lt_of_cell h2)).trans h2⟩, ⟨c0, c1, (hb.block _ (lt_of_block h3)).trans h3⟩, h4.trans' (Only.ofB hb)⟩
theorem rRead_any (w0 w : World) (p : Nat) (F : Nat → Prop) (C : Ch) (fs : List Fc) (h : RefAt w0 w p F C fs) (hok : C.Ok) (pb pp : Int) :
  Calls Try.prog 70 #[.pointer (some ⟨p, 0, none⟩), .agg #[.int .i64 pb, .int .i64 pp]] w fun e w' => RRd w w' C pb pp e := by
 have HR := J h
 obtain ⟨x, rs, hc⟩ := h
 have N := (hc.below (below_alloc _ (.cells #[.int .i64 pb, .int .i64 pp] 41))).below (below_alloc _ (.cells #[.slice none 0 0, .slice none 0 0] 36))
 have c5 := N.box.c5
 rw [N.dark] at c5
 have HBB := J (below_trans (below_alloc w (.cells #[.int .i64 pb, .int .i64 pp] 41)) (below_alloc _ (.cells #[.slice none 0 0, .slice none 0 0] 36)))
 have HK := J N
 have HPL0 : Hid (((w.alloc (.cells #[.int .i64 pb, .int .i64 pp] 41)).alloc (.cells #[.slice none 0 0, .slice none 0 0] 36)).heap[w.heap.size]? = some (.cells #[.int .i64 pb, .int .i64 pp] 41 (0, 0))) := (alloc_old _ _ (by simp)).trans (alloc_new w (.cells #[.int .i64 pb, .int .i64 pp] 41))
 have HZ0 : Hid (((w.alloc (.cells #[.int .i64 pb, .int .i64 pp] 41)).alloc (.cells #[.slice none 0 0, .slice none 0 0] 36)).heap[w.heap.size + 1]? = some (.cells #[.slice none 0 0, .slice none 0 0] 36 (0, 0))) := by have h2 := alloc_new (w.alloc (.cells #[.int .i64 pb, .int .i64 pp] 41)) (.cells #[.slice none 0 0, .slice none 0 0] 36); rw [alloc_size] at h2; exact h2
 have HH := J hc
 have hpl : p < w.heap.size := lt_of_block hc.box
 clear hc N
 cases hd : C.dark with
 | true =>
  rw [hd] at c5
  go_enter Try.func70, Try.ntmps70
  go_wp2
  have e1 : ReadE C pb pp = 45 := by unfold ReadE; rw [hd]; rfl
  exact bodyPost_ret (v := .tuple #[.agg #[.slice none 0 0, .slice none 0 0], .int .i64 45]) (by simp [results, Try.results70, go_sem]) rfl (rrd_none e1 (by decide) HBB.out)
 | false =>
  rw [hd] at c5
  cases hp : hasP C.B C.P pb pp with
  | false =>
   go_enter Try.func70, Try.ntmps70
   go_wp2_with (first | (go_at_call 101; refine (place_any x p C.B C.P pb pp _ HK.out.box HK.out.B HK.out.P).mono ?_; rintro e u1 ⟨rfl, b1⟩; rw [hp]; have HB1 := J b1; have hz := (b1.block _ (lt_of_block HZ0.out)).trans HZ0.out; obtain ⟨z0, z1⟩ := cells2 hz; have fz := (fun j => frozen_of_row u1 (w.heap.size + 1) j _ 36 hz); have HZ := J hz; clear b1 hz c5))
   have e1 : ReadE C pb pp = 41 := by unfold ReadE; rw [hd, hp]; rfl
   have hs2 := heap_setCell_same _ (w.heap.size + 1) 1 #[.slice none 0 0, .slice none 0 0] 36 (.slice none 0 0) (heap_setCell_same u1 (w.heap.size + 1) 0 _ 36 (.slice none 0 0) HZ.out)
   have hbl : Below w.heap.size w ((u1.setCell ⟨w.heap.size + 1, 0, none⟩ (.slice none 0 0)).setCell ⟨w.heap.size + 1, 1, none⟩ (.slice none 0 0)) := ((below_trans HBB.out HB1.out).setCell (p := ⟨w.heap.size + 1, 0, none⟩) (by show w.heap.size ≤ w.heap.size + 1; omega) _).setCell (p := ⟨w.heap.size + 1, 1, none⟩) (by show w.heap.size ≤ w.heap.size + 1; omega) _
   generalize hv9 : World.setCell _ ⟨w.heap.size + 1, 1, none⟩ _ = v9 at hs2 hbl ⊢
   obtain ⟨y0, y1⟩ := cells2 hs2
   exact bodyPost_ret (v := .tuple #[.agg #[.slice none 0 0, .slice none 0 0], .int .i64 41]) (by simp [results, Try.results70, go_sem, y0, y1]) rfl (rrd_none e1 (by decide) hbl)
  | true =>
   obtain ⟨i, k, rfl, rfl, hi, hk⟩ := hasP_nat hp
   have hS := hok.s
   obtain ⟨n1, hn1⟩ : ∃ n, n = 256 * C.S := ⟨_, rfl⟩
   obtain ⟨n2, hn2⟩ : ∃ n, n = 54 + 3 * C.S := ⟨_, rfl⟩
   obtain ⟨L, hLe⟩ : ∃ L, L = pgB C.S := ⟨_, rfl⟩
   have HL : Hid (L = n1 + n2) := by unfold Hid; rw [hLe, hn1, hn2]; rfl
   have HRE : Hid (ReadE C (i : Int) (k : Int) = 0) := by unfold Hid ReadE; rw [hd, hp]; rfl
   have HE : Hid ((256 * (C.S : Int)) = (n1 : Int)) := by unfold Hid; omega
   have HN := J (And.intro hn1 hn2)
   have HLE := J hLe
   have hL2 : L ≤ 2126 := by rw [hLe]; exact pgB_le hS.2
   have g0 : (1 : Int) ≤ C.S := by omega
   have g1 : (C.S : Int) ≤ 8 := by omega
   clear hn1 hn2 hLe hS
   go_enter Try.func70, Try.ntmps70
   go_upto_region 6 with (first
    | (go_at_call 101; refine (place_any x p C.B C.P (i : Int) (k : Int) _ HK.out.box HK.out.B HK.out.P).mono ?_; rintro e u1 ⟨rfl, b1⟩; rw [hp]; have HB1 := J b1; have HR1 := J (HR.out.below (below_trans HBB.out b1)); obtain ⟨q0, q1⟩ := cells2 ((b1.block _ (lt_of_block HPL0.out)).trans HPL0.out); clear b1 c5)
    | (go_at_call 102; refine (rreads_any w0 _ p F C fs HR1.out hok i k hi hk).mono ?_; rintro e V ⟨g, cp, rfl, o1, b2⟩; rw [← HLE.out]; rw [← HLE.out] at o1; have HO1 := J o1; have HB2 := J b2; clear o1 b2))
   obtain ⟨bx, hbx⟩ : ∃ b, b = w.heap.size + 1 := ⟨_, rfl⟩
   have HBV := J (below_trans HBB.out (below_trans HB1.out HB2.out))
   have HZV : Hid (V.heap[bx]? = some (.cells #[.slice none 0 0, .slice none 0 0] 36 (0, 0))) := by unfold Hid; rw [hbx]; have h1 := (HB1.out.block _ (lt_of_block HZ0.out)).trans HZ0.out; exact (HB2.out.block _ (lt_of_block h1)).trans h1
   have HP3 : Hid (V.cell? ⟨p, 0, none⟩ = some (.int .i64 (C.B : Int)) ∧ V.cell? ⟨p, 1, none⟩ = some (.int .i64 (C.P : Int)) ∧ V.cell? ⟨p, 2, none⟩ = some (.int .i64 (C.S : Int))) := by
    have h9 := HH.out.below HBV.out
    have b0 := h9.box.c0
    have b1 := h9.box.c1
    have b2 := h9.box.c2
    rw [h9.B] at b0
    rw [h9.P] at b1
    rw [h9.S] at b2
    exact ⟨b0, b1, b2⟩
   rw [← hbx]
   have HBX := J hbx
   have hrg : ∀ z ∈ readL C i k, 0 ≤ z ∧ z ≤ 255 := readL_byt HH.out i k
   have HRV : Hid (Reads V (some ⟨g, 0, none⟩) L (readL C i k)) := own_reads'' HO1.out hrg
   have hcp : L ≤ cp := own_cap HO1.out
   have hne : ¬ g = bx := fun e => by rw [e] at HO1; obtain ⟨cs, hcs⟩ := own_tag HO1.out rfl; rw [HZV.out] at hcs; cases hcs
   clear hbx hrg
   have hlc2 : n1 ≤ cp := by have := HL.out; omega
   have hfr := fun u : World => front_run u (some ⟨g, 0, none⟩) L cp n1 hlc2
   have hnL : n1 ≤ L := by have := HL.out; omega
   have HLN : Hid (L - n1 = n2) := by have := HL.out; unfold Hid; omega
   have htl : ∀ u : World, (Instr.sliceAt 24 (.slice (some ⟨g, 0, none⟩) L cp) (some (.int .i64 (n1 : Int))) none none).run Try.prog u = .ok (.slice (tailA (some ⟨g, 0, none⟩) cp n1) n2 (cp - n1)) u := fun u => by
    have h9 := tail_run u (some ⟨g, 0, none⟩) L cp n1 hnL hcp
    rw [HLN.out] at h9
    exact h9
   have hn2b : n2 ≤ 140737488355000 := by have := HL.out; omega
   refine wp_region_held_drew (S := (fun u : World => (u.cell? ⟨p, 0, none⟩ = some (.int .i64 (C.B : Int)) ∧ u.cell? ⟨p, 1, none⟩ = some (.int .i64 (C.P : Int)) ∧ u.cell? ⟨p, 2, none⟩ = some (.int .i64 (C.S : Int))) ∧ (∃ c0 c1, u.heap[bx]? = some (.cells #[c0, c1] 36 (0, 0))) ∧ Only (· = bx) V u)) (by kernel_rfl) (⟨HP3.out, ⟨_, _, HZV.out⟩, Only.ofB (drew_below V)⟩) fun O => ?_
   refine tk 0 ?_
   refine tk 1 ?_
   refine tk 2 ?_
   refine tk 3 ?_
   refine tk 4 ?_
   refine tk 7 ?_
   refine tk 8 ?_
   refine tk 9 ?_
   refine tk 10 ?_
   refine tk 11 ?_
   refine rd 5 fun K N => ?_
   go_simp
   go_at_call 44
   refine (rdata_any _ _ _ _ g0 g1).mono ?_
   rintro e u5 ⟨rfl, b9⟩
   rw [HE.out]
   have hZ := g_keep O b9
   clear b9
   go_wp2_with fail
   clear O
   refine N.out _ _ hZ fun O => ?_
   clear N K hZ
   try simp only [zz]
   refine tk 6 ?_
   refine rd 12 fun K N => ?_
   go_simp
   go_at_call 44
   refine (rdata_any _ _ _ _ g0 g1).mono ?_
   rintro e u6 ⟨rfl, b9⟩
   rw [HE.out]
   have hZ := g_keep O b9
   clear b9
   go_wp2_with fail
   clear O
   refine N.out _ _ hZ fun O => ?_
   clear N K hZ
   try simp only [zz]
   refine tk 13 ?_
   refine rd 14 fun K N => ?_
   go_simp
   have HSZ := J O.2.2.size
   go_at_call 80
   refine (join_any _ n2 _ ((readL C i k).drop n1) _ (by have h9 := tail_reads (HRV.out.only O.2.2 (fun y hy => by cases hy; exact hne)) hnL hcp; rw [HLN.out] at h9; exact h9) hn2b).mono ?_
   rintro e u7 ⟨g2, c2, rfl, o2, b2⟩
   have HO2 := J o2
   have hZ := g_keep O b2
   clear o2 b2
   go_wp2_with fail
   clear O
   refine N.out _ _ hZ fun O => ?_
   clear N K hZ
   try simp only [zz]
   refine tk 15 ?_
   obtain ⟨hp3, ⟨z0, z1, hzz⟩, hoo⟩ := O
   obtain ⟨t0, t1⟩ := cells2 hzz
   have fz := fun j => frozen_of_row _ bx j _ 36 hzz
   have HZZ := J hzz
   have HOO := J hoo
   have HP := J hp3
   clear hzz hoo hp3
   refine rd 16 fun K N => ?_
   go_simp
   go_wp2_with fail
   have hs2 := heap_setCell_same _ bx 1 #[.slice (some ⟨g, 0, none⟩) n1 cp, z1] 36 (.slice (some ⟨g2, 0, none⟩) n2 c2) (heap_setCell_same _ bx 0 #[z0, z1] 36 (.slice (some ⟨g, 0, none⟩) n1 cp) HZZ.out)
   have hO : Only (· = bx) u7 _ := (Only.setCell (· = bx) u7 bx 0 (.slice (some ⟨g, 0, none⟩) n1 cp) rfl).trans' (Only.setCell _ _ bx 1 (.slice (some ⟨g2, 0, none⟩) n2 c2) rfl)
   generalize hv9 : World.setCell _ ⟨bx, 1, none⟩ _ = v9 at hs2 hO ⊢
   have HS2 := J hs2
   have HO9 := J hO
   have HOV := J (HOO.out.trans' hO)
   obtain ⟨y0, y1⟩ := cells2 hs2
   clear hs2 hO hv9 t0 t1 fz
   have hpb : ¬ p = bx := fun e => by have h9 := HBX.out; omega
   have hZ : (fun u : World => (u.cell? ⟨p, 0, none⟩ = some (.int .i64 (C.B : Int)) ∧ u.cell? ⟨p, 1, none⟩ = some (.int .i64 (C.P : Int)) ∧ u.cell? ⟨p, 2, none⟩ = some (.int .i64 (C.S : Int))) ∧ (∃ c0 c1, u.heap[bx]? = some (.cells #[c0, c1] 36 (0, 0))) ∧ Only (· = bx) V u) v9 := ⟨⟨HO9.out.cell HP.out.1 hpb, HO9.out.cell HP.out.2.1 hpb, HO9.out.cell HP.out.2.2 hpb⟩, ⟨_, _, HS2.out⟩, HOV.out⟩
   refine N.out _ _ hZ (fun hHeld16 => ?_)
   clear N K hZ
   have O := hHeld16
   clear hHeld16
   try simp only [zz]
   refine tk 17 ?_
   refine td ?_
   clear O
   go_wp2
   have hR1 : Reads v9 (some ⟨g, 0, none⟩) n1 ((readL C i k).take n1) := front_reads (HRV.out.only HOV.out (fun y hy => by cases hy; exact hne)) hnL
   have hR2 : Reads v9 (some ⟨g2, 0, none⟩) n2 ((readL C i k).drop n1) := by
    have h8 : ∀ z ∈ (readL C i k).drop n1, 0 ≤ z ∧ z ≤ 255 := fun z hz => readL_byt HH.out i k z (List.mem_of_mem_drop hz)
    refine Reads.only (own_reads'' HO2.out h8) HO9.out (fun y hy => ?_)
    cases hy
    intro e
    have h9 := HO2.out.lt.1
    have h7 := lt_of_block HZV.out
    have h6 := HSZ.out
    have e9 : g2 = bx := e
    omega
   refine bodyPost_ret (v := .tuple #[.agg #[.slice (some ⟨g, 0, none⟩) n1 cp, .slice (some ⟨g2, 0, none⟩) n2 c2], .int .i64 0]) (by simp [results, Try.results70, go_sem, y0, y1]) rfl ?_
   refine ⟨⟨_, _, _, _, _, _, _, _, by rw [HRE.out], hR1, hR2, (fun y hy => by
    have q1 := HO1.out.lt.1
    have q2 := HO2.out.lt.1
    have q3 := HSZ.out
    have q4 := HBV.out.size
    have q5 := HB1.out.size
    have q6 := HBB.out.size
    rcases hy with hy | hy <;> cases hy
    ·show w.heap.size ≤ g
     omega
    ·show w.heap.size ≤ g2
     omega), ?_⟩, ?_⟩
   ·rw [HRE.out, if_pos rfl]
    exact ⟨HN.out.1, HN.out.2, List.take_append_drop _ _⟩
   ·exact HBV.out.trans (HOV.out.below (fun j e => by rw [e, HBX.out]; omega) HBV.out.size)
theorem pw_swap {α : Type} {R : α → α → Prop} {X Y : List α} {l l' : α} (h : (X ++ l :: Y).Pairwise R) (h1 : ∀ z ∈ X, R z l → R z l') (h2 : ∀ z ∈ Y, R l z → R l' z) : (X ++ l' :: Y).Pairwise R := by
 rw [List.pairwise_append] at h ⊢
 obtain ⟨a, b, c⟩ := h
 rw [List.pairwise_cons] at b ⊢
 refine ⟨a, ⟨fun z hz => h2 z hz (b.1 z hz), b.2⟩, fun z hz y hy => ?_⟩
 rcases List.mem_cons.1 hy with e | hy
 ·rw [e]; exact h1 z hz (c z hz l (List.mem_cons_self))
 ·exact c z hz y (List.mem_cons_of_mem _ hy)
theorem set_mid {α : Type} : ∀ {l : List α} {i : Nat} {x y : α}, l[i]? = some x → l = l.take i ++ x :: l.drop (i + 1) ∧ l.set i y = l.take i ++ y :: l.drop (i + 1)
 | [], _, _, _, h => by cases h
 | a :: l, 0, x, y, h => by
  injection h with h
  subst h
  exact ⟨rfl, rfl⟩
 | a :: l, i + 1, x, y, h => by
  obtain ⟨h1, h2⟩ := set_mid (l := l) (i := i) (x := x) (y := y) (by simpa using h)
  refine ⟨?_, ?_⟩
  ·show a :: l = a :: (l.take i ++ x :: l.drop (i + 1))
   rw [← h1]
  ·show a :: l.set i y = a :: (l.take i ++ y :: l.drop (i + 1))
   rw [h2]
def Rc.setL (r : Rc) (k : Nat) (l : Lc) : Rc := { r with ls := r.ls.set k l }
def Bl.setP (b : Bl) (k : Nat) (q : Pg) : Bl := { b with ps := b.ps.set k q }
theorem RAt.setL {p : Nat} {fs : List Fc} {rs : List Rc} (h : RAt w0 w p F C fs x rs) {i k : Nat} {r : Rc} {l l' : Lc} (hi : rs[i]? = some r) (hk : r.ls[k]? = some l) (j : Nat) (hj : j < 3) (v : Value) (hs : l.cells.set j v = l'.cells)
  (hF : ∀ k, F k → G k) (hG : ∀ k, G k → k < w.heap.size) (hlo : ∀ k, G k → w0.heap.size ≤ k) (hl : LcOk w G (pgB C.S) l') (hf : ∀ g, l'.fs.ownBlock = some g → l.fs.ownBlock = some g ∨ ¬ F g) (fl' : Int → Int → List Nat) (hfl : l'.xs = fl' i k) (hfo : ∀ a b : Nat, ¬ (a = i ∧ b = k) → fl' a b = C.fl a b) :
  RAt w0 (w.setCell ⟨r.g, k * 3 + j, none⟩ v) p G { C with bl := C.bl.set i (r.v.setP k l'.v), fl := fl' } fs x (rs.set i (r.setL k l')) ∧ Only F w (w.setCell ⟨r.g, k * 3 + j, none⟩ v) := by
 have hr := h.rok r (List.mem_of_getElem? hi)
 have ho := Only.setCell (· = r.g) w r.g (k * 3 + j) v rfl
 have hgF : ∀ a, a = r.g → F a := fun a e => e ▸ hr.fg
 obtain ⟨cg, hcg⟩ := own_tag hr.row rfl
 have hT : ∀ H : Nat → Prop, KeepT H (· = 144) w (w.setCell ⟨r.g, k * 3 + j, none⟩ v) := fun H => ho.keepT (fun a o t hg hk ht => by
  rw [hg, hcg] at hk
  cases hk
  exact ht.symm)
 have hst := World.ownsRow.stored hr.row (k * 3 + j) v
 have hkeep : ∀ {a t o}, w.heap[a]? = some o → TagIs t o → t ≠ 144 → (w.setCell ⟨r.g, k * 3 + j, none⟩ v).heap[a]? = w.heap[a]? := fun ho' ht hn => (hT (fun _ => True) _ _ _ trivial ho' ht hn).trans ho'.symm
 have hlk : ∀ {m : Lc}, LcOk w F (pgB C.S) m → LcOk (w.setCell ⟨r.g, k * 3 + j, none⟩ v) G (pgB C.S) m := fun hm => hm.keep (hT F) (by decide) (by decide) hF
 have hle : (r.setL k l').ls.length = r.ls.length := by show (r.ls.set k l').length = _; rw [List.length_set]
 have hcell : Rc.cells (r.setL k l') = Rc.cells r := by unfold Rc.cells; rw [hle]; rfl
 refine ⟨⟨h.old.trans (ho.below (fun a e => h.lo a (hgF a e)) h.old.size), hlo, h.flt, h.box.keep (hkeep h.box rfl (by decide)), hF _ h.fp, h.B, h.P, h.S, by rw [List.length_set]; exact h.nr, h.dark, h.cnt, ?_, hF _ h.fb, ?_, ?_, ?_, ?_, ?_, h.q, ?_, h.tl, fun g hg => hF g (h.ft g hg), fun a ha => Nat.lt_of_lt_of_le (hG a ha) ho.size⟩, ho.mono (fun a _ e => hgF a e)⟩
 ·rw [fm_map Rc.cells, set_same hi hcell, ← fm_map Rc.cells]
  exact owns_keep h.row (fun g hg => by obtain ⟨cs, hc⟩ := own_tag h.row hg; exact hkeep hc rfl (by decide))
 ·rw [List.map_set, h.bl]
  congr 1
  show ({ r.v with ps := (r.ls.set k l').map Lc.v } : Bl) = _
  rw [List.map_set]
  rfl
 ·intro q hq
  obtain ⟨n, hn⟩ := List.mem_iff_getElem?.1 hq
  by_cases e : i = n
  ·subst e
   rw [List.getElem?_set_self (List.getElem?_eq_some_iff.1 hi).1] at hn
   cases hn
   refine ⟨?_, hF _ hr.fg, hle.trans hr.np, fun m hm => ?_⟩
   ·show World.ownsRow _ 0 144 3 (.slice (some ⟨r.g, 0, none⟩) (r.setL k l').ls.length r.cap) (r.setL k l').ls.length ((r.ls.set k l').flatMap Lc.cells)
    rw [hle, ← flat_set Lc.cells 3 Lc.cells_len j hj v l' r.ls k l hk hs]
    exact hst.1
   ·rcases List.mem_or_eq_of_mem_set (show m ∈ r.ls.set k l' from hm) with h1 | h1
    ·exact hlk (hr.lf m h1)
    ·rw [h1]
     exact hl.keep (hT G) (by decide) (by decide) (fun _ h => h)
  ·rw [List.getElem?_set_ne e] at hn
   have hq9 := h.rok q (List.mem_of_getElem? hn)
   have hgne : q.g ≠ r.g := by
    have h9 := h.gs
    rcases Nat.lt_or_gt_of_ne e with h1 | h1
    ·have h8 := List.pairwise_iff_getElem.1 h9 i n (List.getElem?_eq_some_iff.1 hi).1 (List.getElem?_eq_some_iff.1 hn).1 h1
     rw [(List.getElem?_eq_some_iff.1 hi).2, (List.getElem?_eq_some_iff.1 hn).2] at h8
     exact fun e9 => h8 e9.symm
    ·have h8 := List.pairwise_iff_getElem.1 h9 n i (List.getElem?_eq_some_iff.1 hn).1 (List.getElem?_eq_some_iff.1 hi).1 h1
     rw [(List.getElem?_eq_some_iff.1 hi).2, (List.getElem?_eq_some_iff.1 hn).2] at h8
     exact h8
   exact hq9.keep (hT F) (by decide) (by decide) hF (ho.block _ (by obtain ⟨cs, hcs⟩ := own_tag hq9.row rfl; exact lt_of_block hcs) hgne)
 ·have h9 := h.gs
  rw [← List.pairwise_map (f := Rc.g) (R := fun a b => a ≠ b)] at h9 ⊢
  rw [set_same hi (show (r.setL k l').g = r.g from rfl)]
  exact h9
 ·have h9 := h.far
  have hmem : ∀ z ∈ rs.flatMap Rc.ls, ∀ g, z.fs.ownBlock = some g → F g := fun z hz g hg => by
   obtain ⟨q, hq, hzq⟩ := List.mem_flatMap.1 hz
   exact ((h.rok q hq).lf z hzq).fg g hg
  obtain ⟨e1, e2⟩ := set_mid (y := r.setL k l') hi
  obtain ⟨e3, e4⟩ := set_mid (y := l') hk
  have f1 : rs.flatMap Rc.ls = ((rs.take i).flatMap Rc.ls ++ r.ls.take k) ++ l :: (r.ls.drop (k + 1) ++ (rs.drop (i + 1)).flatMap Rc.ls) := by
   conv => lhs; rw [e1]
   rw [List.flatMap_append, List.flatMap_cons]
   conv => lhs; rw [e3]
   simp
  have f2 : (rs.set i (r.setL k l')).flatMap Rc.ls = ((rs.take i).flatMap Rc.ls ++ r.ls.take k) ++ l' :: (r.ls.drop (k + 1) ++ (rs.drop (i + 1)).flatMap Rc.ls) := by
   rw [e2, List.flatMap_append, List.flatMap_cons]
   have e5 : (r.setL k l').ls = r.ls.take k ++ l' :: r.ls.drop (k + 1) := e4
   rw [e5]
   simp
  rw [f1] at h9 hmem
  rw [f2]
  refine pw_swap h9 (fun z hz hR g hg hg' => ?_) (fun z hz hR g hg hg' => ?_)
  ·rcases hf g hg' with h1 | h1
   ·exact hR g hg h1
   ·exact h1 (hmem z (List.mem_append_left _ hz) g hg)
  ·rcases hf g hg with h1 | h1
   ·exact hR g h1 hg'
   ·exact h1 (hmem z (List.mem_append_right _ (List.mem_cons_of_mem _ hz)) g hg')
 ·intro i' k' q m h1 h2
  by_cases e : i = i'
  ·subst e
   rw [List.getElem?_set_self (List.getElem?_eq_some_iff.1 hi).1] at h1
   cases h1
   by_cases e' : k = k'
   ·subst e'
    have h3 : (r.ls.set k l')[k]? = some m := h2
    rw [List.getElem?_set_self (List.getElem?_eq_some_iff.1 hk).1] at h3
    cases h3
    exact hfl
   ·have h3 : (r.ls.set k l')[k']? = some m := h2
    rw [List.getElem?_set_ne e'] at h3
    rw [h.fl i k' r m hi h3]
    exact (hfo i k' (fun e9 => e' e9.2.symm)).symm
  ·rw [List.getElem?_set_ne e] at h1
   rw [h.fl i' k' q m h1 h2]
   exact (hfo i' k' (fun e9 => e e9.1.symm)).symm
 ·exact owns_keep h.tr (fun g hg' => by obtain ⟨cs, hc⟩ := own_tag h.tr hg'; exact hkeep hc rfl (by decide))
end Go.Proofs.Ytadlkikjfonkgaa
