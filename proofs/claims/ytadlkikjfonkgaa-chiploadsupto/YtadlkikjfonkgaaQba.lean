/-
  SEAT Ytadlkikjfonkgaa: Xl.
-/
import Derived.Test.YtadlkikjfonkgaaQa
import Derived.Test.YtadlkikjfonkgaaQz
import Derived.Test.YtadlkikjfonkgaaQx
namespace Go.Proofs.Ytadlkikjfonkgaa
open Go.RowKit Go.Conc
set_option linter.unusedVariables false
set_option maxRecDepth 100000
set_option maxHeartbeats 4000000
variable {B n g cn cc mn mc gn nc : Nat} {v1 : Value} {ys : List Value} {cs0 : Array Value} {ca ma : Option Addr} {w w0 : World} {F : Nat → Prop} {C : Ch} {x : Rx} {rs : List Rc}
structure RIs (w u : World) (C : Ch) (cs : List Int) (ms : List Bool) : Prop where
 bel : Below w.heap.size w u
 z : u.heap[w.heap.size]? = some (.cells #[.int .i64 0, .int .i64 0, .int .i64 0, .slice none 0 0, .slice none 0 0] 27 (0, 0))
 ex : ∃ ca cn cc ma mn mc, u.heap[w.heap.size + 1]? = some (.cells #[.int .i64 (C.B : Int), .int .i64 (C.P : Int), .int .i64 (C.S : Int), .slice ca cn cc, .slice ma mn mc] 27 (0, 0)) ∧ u.ownsRow w.heap.size 5 1 (.slice ca cn cc) cn (cs.map (Value.int .u8)) ∧ u.ownsRow w.heap.size 4 1 (.slice ma mn mc) mn (ms.map Value.bool)
section
variable {w u v Y : World} {C : Ch} {cs : List Int} {ms : List Bool}
theorem RIs.below (h : RIs w u C cs ms) (hb : Below u.heap.size u v) : RIs w v C cs ms := by
 obtain ⟨ca, cn, cc, ma, mn, mc, h1, h2, h3⟩ := h.ex
 exact ⟨below_trans h.bel hb, (hb.block _ (lt_of_block h.z)).trans h.z, ca, cn, cc, ma, mn, mc, (hb.block _ (lt_of_block h1)).trans h1, owns_keep h2 (fun g hg => by obtain ⟨cs, hc⟩ := own_tag h2 hg; exact hb.block _ (lt_of_block hc)), owns_keep h3 (fun g hg => by obtain ⟨cs, hc⟩ := own_tag h3 hg; exact hb.block _ (lt_of_block hc))⟩
theorem own_grow {e : TypeId} {n' : Nat} {v0 : Value} {xs : List Value} {e2 : TypeId} {B2 : Nat} (h : u.ownsRow B e 1 v0 n xs) (h2 : u.ownsRow B2 e2 1 v1 n' ys) (hg : u.grownBy Y v1.ownBlock) (hne : e ≠ e2) : Y.ownsRow B e 1 v0 n xs := owns_keep h (fun g hg2 => by
 obtain ⟨c1, h1⟩ := own_tag h hg2
 refine hg.block g (lt_of_block h1) (fun e9 => ?_)
 obtain ⟨c2, h3⟩ := own_tag h2 e9.symm
 rw [h1] at h3
 cases h3
 exact hne rfl)
theorem box_grow {e : TypeId} {t : TypeId} (h : u.heap[g]? = some (.cells cs0 t (0, 0))) (h2 : u.ownsRow B e 1 v1 n ys) (hg : u.grownBy Y v1.ownBlock) (hne : t ≠ e) : Y.heap[g]? = some (.cells cs0 t (0, 0)) :=
 (hg.block g (lt_of_block h) (fun e9 => by
  obtain ⟨c2, h3⟩ := own_tag h2 e9.symm
  rw [h] at h3
  cases h3
  exact hne rfl)).trans h
theorem own_set {e : TypeId} {j : Nat} {vv : Value} {t : TypeId} (h2 : u.ownsRow B e 1 v1 n ys) (h : u.heap[g]? = some (.cells cs0 t (0, 0))) (hne : t ≠ e) : (u.setCell ⟨g, j, none⟩ vv).ownsRow B e 1 v1 n ys := owns_keep h2 (fun g2 hg2 => by
 obtain ⟨c2, h3⟩ := own_tag h2 hg2
 exact (Only.setCell (· = g) u g j vv rfl).block g2 (lt_of_block h3) (fun e9 => by rw [e9, h] at h3; cases h3; exact hne rfl))
theorem RIs.addM {b : Bool} (h : RIs w u C cs ms) (h1 : u.heap[w.heap.size + 1]? = some (.cells #[.int .i64 (C.B : Int), .int .i64 (C.P : Int), .int .i64 (C.S : Int), .slice ca cn cc, .slice ma mn mc] 27 (0, 0))) (h2 : u.ownsRow w.heap.size 5 1 (.slice ca cn cc) cn (cs.map (Value.int .u8))) (h3 : u.ownsRow w.heap.size 4 1 (.slice ma mn mc) mn (ms.map Value.bool))
  (own : Y.ownsRow w.heap.size 4 1 (.slice (some ⟨gn, 0, none⟩) (mn + 1) nc) (mn + 1) (ms.map Value.bool ++ [.bool b])) (grow : u.grownBy Y (Value.slice ma mn mc).ownBlock) :
  RIs w (Y.setCell ⟨w.heap.size + 1, 4, none⟩ (.slice (some ⟨gn, 0, none⟩) (mn + 1) nc)) C cs (ms ++ [b]) ∧ Y.cell? ⟨w.heap.size + 1, 4, none⟩ = some (.slice ma mn mc) ∧ ∀ j, Y.frozen? ⟨w.heap.size + 1, j, none⟩ = false := by
 have O := box_grow h1 h3 grow (by decide)
 have hz := box_grow h.z h3 grow (by decide)
 have hb : Below w.heap.size w Y := h.bel.grown grow h.bel.size (fun g hg => (h3.lt g hg).1)
 refine ⟨⟨hb.setCell (p := ⟨w.heap.size + 1, 4, none⟩) (by show w.heap.size ≤ w.heap.size + 1; omega) _, ((Only.setCell (· = w.heap.size + 1) Y (w.heap.size + 1) 4 _ rfl).block _ (lt_of_block hz) (by omega)).trans hz, ca, cn, cc, _, _, _, heap_setCell_same Y (w.heap.size + 1) 4 _ 27 _ O, own_set (own_grow h2 h3 grow (by decide)) O (by decide), ?_⟩, by simp [World.cell?, O], fun j => frozen_of_row _ _ j _ 27 O⟩
 rw [List.map_append]
 exact own_set own O (by decide)
theorem RIs.addC {L : Nat} {ds : List Int} (h : RIs w u C cs ms) (h1 : u.heap[w.heap.size + 1]? = some (.cells #[.int .i64 (C.B : Int), .int .i64 (C.P : Int), .int .i64 (C.S : Int), .slice ca cn cc, .slice ma mn mc] 27 (0, 0))) (h2 : u.ownsRow w.heap.size 5 1 (.slice ca cn cc) cn (cs.map (Value.int .u8))) (h3 : u.ownsRow w.heap.size 4 1 (.slice ma mn mc) mn (ms.map Value.bool))
  (own : Y.ownsRow w.heap.size 5 1 (.slice (some ⟨gn, 0, none⟩) (cn + L) nc) (cn + L) ((cs ++ ds).map (Value.int .u8))) (grow : u.grownBy Y (Value.slice ca cn cc).ownBlock) :
  RIs w (Y.setCell ⟨w.heap.size + 1, 3, none⟩ (.slice (some ⟨gn, 0, none⟩) (cn + L) nc)) C (cs ++ ds) ms ∧ Y.cell? ⟨w.heap.size + 1, 3, none⟩ = some (.slice ca cn cc) ∧ ∀ j, Y.frozen? ⟨w.heap.size + 1, j, none⟩ = false := by
 have O := box_grow h1 h2 grow (by decide)
 have hz := box_grow h.z h2 grow (by decide)
 have hb : Below w.heap.size w Y := h.bel.grown grow h.bel.size (fun g hg => (h2.lt g hg).1)
 refine ⟨⟨hb.setCell (p := ⟨w.heap.size + 1, 3, none⟩) (by show w.heap.size ≤ w.heap.size + 1; omega) _, ((Only.setCell (· = w.heap.size + 1) Y (w.heap.size + 1) 3 _ rfl).block _ (lt_of_block hz) (by omega)).trans hz, _, _, _, ma, mn, mc, heap_setCell_same Y (w.heap.size + 1) 3 _ 27 _ O, own_set own O (by decide), own_set (own_grow h3 h2 grow (by decide)) O (by decide)⟩, by simp [World.cell?, O], fun j => frozen_of_row _ _ j _ 27 O⟩
end
theorem readsB_own {c : Nat} {a : Option Addr} {ms : List Bool} (h : w.ownsRow B 4 1 (.slice a n c) n (ms.map Value.bool)) : ReadsB w a n ms := by
 have hl : ms.length = n := by have := h.1; simpa using this
 rcases h.2 with ⟨hv, h0⟩ | ⟨g, cap, cu, hv, _⟩
 ·injection hv with h1 h2 h3
  subst h1
  exact ⟨hl, fun _ => h0, fun x hx => by cases hx⟩
 ·injection hv with h1 h2 h3
  subst h1
  refine ⟨hl, (fun e => by cases e), fun x hx i hi => ?_⟩
  cases hx
  rw [plain_add, Nat.zero_add, World.ownsRow.cellAt h i (by omega), List.getElem?_map, List.getD_eq_getElem?_getD, List.getElem?_eq_getElem (by omega)]
  rfl
theorem imgL_byt {p : Nat} {fs : List Fc} (h : RAt w0 w p F C fs x rs) : ∀ z ∈ imgL C, 0 ≤ z ∧ z ≤ 255 := by
 intro z hz
 obtain ⟨i, _, hz⟩ := List.mem_flatMap.1 hz
 obtain ⟨k, _, hz⟩ := List.mem_flatMap.1 hz
 exact readL_byt h i k z hz
theorem readL_len {p : Nat} {fs : List Fc} (h : RAt w0 w p F C fs x rs) (hok : C.Ok) {i k : Nat} (hi : i < C.B) (hk : k < C.P) : (readL C i k).length = pgB C.S := by
 have hil : i < rs.length := by rw [h.len, hok.bl]; exact hi
 obtain ⟨r, hr⟩ : ∃ r, rs[i]? = some r := ⟨_, List.getElem?_eq_getElem hil⟩
 have hrok := h.rok r (List.mem_of_getElem? hr)
 obtain ⟨l, hl⟩ : ∃ l, r.ls[k]? = some l := ⟨_, List.getElem?_eq_getElem (by rw [hrok.np]; exact hk)⟩
 have hbl : C.bl[i]? = some r.v := by rw [← h.bl, List.getElem?_map, hr]; rfl
 have hps : r.v.ps[k]? = some l.v := by show (r.ls.map Lc.v)[k]? = _; rw [List.getElem?_map, hl]; rfl
 rw [readL_of hbl hps, flipsL_len]
 exact (hrok.lf l (List.mem_of_getElem? hl)).len
structure RIm (w w' : World) (C : Ch) (e : Ending) : Prop where
 ex : ∃ ca cn cc ma mn mc, e = .returned (.agg #[.int .i64 (C.B : Int), .int .i64 (C.P : Int), .int .i64 (C.S : Int), .slice ca cn cc, .slice ma mn mc]) ∧ Reads w' ca cn (imgL C) ∧ ReadsB w' ma mn (C.bl.map Bl.m)
 bel : Below w.heap.size w w'
theorem s5_of {u : World} {p : Nat} {fs : List Fc} {i : Nat} {r : Rc} (h : RAt w0 w p F C fs x rs) (hb : Below w.heap.size w u) (hi : rs[i]? = some r) : u.cell? ⟨p, 3, none⟩ = some (.slice (some ⟨x.gr, 0, none⟩) x.nr x.cr) ∧ u.cell? ⟨x.gr, i * 4 + 1, none⟩ = some (.bool r.m) := ⟨(h.below hb).box.c3, ((h.below hb).blk hi).2.1⟩
theorem rImage_any (w0 w : World) (p : Nat) (F : Nat → Prop) (C : Ch) (fs : List Fc) (h : RefAt w0 w p F C fs) (hok : C.Ok) :
  Calls Try.prog 74 #[.pointer (some ⟨p, 0, none⟩)] w fun e w' => RIm w w' C e := by
 have HR := J h
 obtain ⟨x, rs, h⟩ := h
 have HC := J h
 obtain ⟨i0, hI, hz0, hz1, hz2⟩ := info_parts info4
 obtain ⟨i5, hI5, hw0, hw1, hw2⟩ := info_parts info5
 obtain ⟨b0, b1, b2⟩ := (h.below (below_alloc w (.cells #[.int .i64 0, .int .i64 0, .int .i64 0, .slice none 0 0, .slice none 0 0] 27))).geo
 have hB := hok.b
 have hP := hok.p
 have hBP := img_le hok
 obtain ⟨L, hLe⟩ : ∃ L, L = pgB C.S := ⟨_, rfl⟩
 have HLE := J hLe
 have hL0 : 0 < L := by rw [hLe]; unfold pgB; omega
 have hL2 : L ≤ 2126 := by rw [hLe]; exact pgB_le hok.s.2
 rw [← hLe] at hBP
 clear h hLe
 go_enter Try.func74, Try.ntmps74
 go_upto_region 2 with fail
 have HST : Hid (RIs w ((w.alloc (.cells #[.int .i64 0, .int .i64 0, .int .i64 0, .slice none 0 0, .slice none 0 0] 27)).alloc (.cells #[.int .i64 (C.B : Int), .int .i64 (C.P : Int), .int .i64 (C.S : Int), .slice none 0 0, .slice none 0 0] 27)) C [] []) := ⟨below_trans (below_alloc _ _) (below_alloc _ _), (alloc_old _ _ (by simp)).trans (alloc_new w _), none, 0, 0, none, 0, 0, by have h9 := alloc_new (w.alloc (.cells #[.int .i64 0, .int .i64 0, .int .i64 0, .slice none 0 0, .slice none 0 0] 27)) (.cells #[.int .i64 (C.B : Int), .int .i64 (C.P : Int), .int .i64 (C.S : Int), .slice none 0 0, .slice none 0 0] 27); rw [alloc_size] at h9; exact h9, World.ownsRow_nil _ _ _ _, World.ownsRow_nil _ _ _ _⟩
 clear b0 b1 b2
 go_wp2
 go_loopw [4, 5] (fun s4 s5 wr => ∃ i : Nat, i ≤ C.B ∧ s4 = .int .i64 i ∧ Hid (RIs w wr C (preL C i 0) ((C.bl.take i).map Bl.m)) ∧ Hid ((preL C i 0).length = i * C.P * L)) (fun s4 _ _ => C.B - (intOf s4).toNat)
 case atStart => exact ⟨0, Nat.zero_le _, rfl, HST, by unfold Hid preL; simp⟩
 case round =>
  clear HST
  obtain ⟨i, hiB, rfl, HIr, HLr⟩ := hrel
  obtain ⟨b0, b1, b2⟩ := (HC.out.below HIr.out.bel).geo
  by_cases hlt : i < C.B
  ·have d0 : decide ((i : Int) < (C.B : Int)) = true := decide_eq_true (by omega)
   have d1 : (i : Int) < (C.B : Int) := by omega
   have hil : i < rs.length := by rw [HC.out.len, hok.bl]; exact hlt
   obtain ⟨r, hr⟩ : ∃ r, rs[i]? = some r := ⟨_, List.getElem?_eq_getElem hil⟩
   have i1 : (i : Int) < (x.nr : Int) := by rw [HC.out.nr]; omega
   have HRI := J hr
   have hbl : C.bl[i]? = some r.v := by rw [← HC.out.bl, List.getElem?_map, hr]; rfl
   have HBM : Hid ((C.bl.take i).map Bl.m ++ [r.m] = (C.bl.take (i + 1)).map Bl.m) := by unfold Hid; rw [List.take_add_one, hbl, List.map_append]; rfl
   clear hil hr hbl
   go_upto_region 5 with fail
   go_cut [5] from 20 to 31 (fun s5 wx => True ∧ Hid (RIs w wx C (preL C i 0) ((C.bl.take i).map Bl.m ++ [r.m])))
   case first =>
      clear b0 b1 b2
      obtain ⟨ca, cn, cc, ma, mn, mc, hx1, ho2, ho3⟩ := HIr.out.ex
      have hmn : mn ≤ 4096 := by have h9 := ho3.1; simp at h9; omega
      have e4 : wr.cell? ⟨w.heap.size + 1, 4, none⟩ = some (.slice ma mn mc) := by simp [World.cell?, hx1]
      have HBD := J (below_trans HIr.out.bel (drew_below wr))
      have HBL := J (below_trans (below_alloc wr (.cells #[.bool r.m] 4)) (drew_below _))
      have HBA := J (below_trans HIr.out.bel HBL.out)
      have HIA := J (HIr.out.below HBL.out)
      have HX1 := J ((HBL.out.block _ (lt_of_block hx1)).trans hx1)
      have HO2 := J (owns_bel ho2 HBL.out)
      have HO3 := J (owns_bel ho3 HBL.out)
      have HNW : Hid ((wr.alloc (.cells #[.bool r.m] 4)).drew.heap[wr.heap.size]? = some (.cells #[.bool r.m] 4 (0, 0))) := alloc_new wr (.cells #[.bool r.m] 4)
      have HSA := J (s5_of HC.out HBA.out HRI.out)
      have e4a : (wr.alloc (.cells #[.bool r.m] 4)).drew.cell? ⟨w.heap.size + 1, 4, none⟩ = some (.slice ma mn mc) := by have h9 := HX1.out; simp only [World.cell?, h9]; rfl
      clear hx1 ho2 ho3
      refine wp_region_held_drew (S := (fun u => u.cell? ⟨p, 3, none⟩ = some (.slice (some ⟨x.gr, 0, none⟩) x.nr x.cr) ∧ u.cell? ⟨x.gr, i * 4 + 1, none⟩ = some (.bool r.m))) (by kernel_rfl) (s5_of HC.out HBD.out HRI.out) fun O => ?_
      refine tk 0 ?_
      refine tk 2 ?_
      refine tk 3 ?_
      refine tk 4 ?_
      refine tk 5 ?_
      refine tk 6 ?_
      refine tk 7 ?_
      refine tk 8 ?_
      refine tk 9 ?_
      refine wpAnyH_ready (rs := [1, 10]) (by kernel_rfl) (by simp) ?_
      refine AllReadyH.cons (o := { dst := some 21, op := Op.load 25 (Operand.tmp 20), type := 25, pos := "ref.go:321", after := #[{ on := 0, ground := Ground.data }], guard := none }) rfl (fun K N => ?_) (AllReadyH.cons (o := { dst := some 30, op := Op.buildSlice 25 1 #[(0, Operand.tmp 29)], type := 25, pos := "ref.go:321", after := #[{ on := 9, ground := Ground.data }], guard := none }) rfl (fun K N => ?_) AllReadyH.nil)
      ·go_simp
       go_wp2_with fail
       have hZ := O
       clear O
       refine N.out _ _ hZ fun O => ?_
       clear N K hZ
       try simp only [zz]
       refine rd 10 fun K N => ?_
       go_simp
       go_wp2_with fail
       have hZ := HSA.out
       clear O
       refine N.out _ _ hZ fun O => ?_
       clear N K hZ
       try simp only [zz]
       refine rd 11 fun K N => ?_
       refine wp_append_lies _ (.tmp 21) (.tmp 30) 25 rfl w.heap.size 4 i0 (.bool false) 1 1 Try.underlying25 hI hz0 hz1 hz2 rfl (by decide) _ mn (((C.bl.take i).map Bl.m).map Value.bool) rfl HO3.out ⟨wr.heap.size, 0, none⟩ 1 1 [.bool r.m] rfl rfl (news1 HNW.out) (by intro u hu; simp at hu; rw [hu]; rfl) (by decide) (by simp [maxLen]; omega) (by omega) (Nat.le_trans HBA.out.size (Nat.le_refl _)) _ rfl ?_
       intro gn nc Y own grow _ _
       obtain ⟨q1, q2, q3⟩ := HIA.out.addM HX1.out HO2.out HO3.out own grow
       have HI2 := J q1
       have HBY : Hid (Below w.heap.size w Y) := HIA.out.bel.grown grow HIA.out.bel.size (fun g hg => (HO3.out.lt g hg).1)
       have hZ := s5_of HC.out HBY.out HRI.out
       clear own grow q1
       clear O
       refine N.out _ _ hZ fun O => ?_
       clear N K hZ
       try simp only [zz]
       refine tk 12 ?_
       refine rd 13 fun K N => ?_
       go_simp
       go_wp2_with fail
       have hZ := s5_of HC.out HI2.out.bel HRI.out
       refine N.out _ _ hZ (fun hHeld13 => ?_)
       clear N K hZ O
       clear hHeld13
       try simp only [zz]
       refine td ?_
       clear q2 q3
       go_wp2
       go_meet
       exact ⟨trivial, HI2⟩
      ·go_simp
       go_wp2_with fail
       have hZ := HSA.out
       clear O
       refine N.out _ _ hZ fun O => ?_
       clear N K hZ
       try simp only [zz]
       refine rd 1 fun K N => ?_
       go_simp
       go_wp2_with fail
       have hZ := O
       clear O
       refine N.out _ _ hZ fun O => ?_
       clear N K hZ
       try simp only [zz]
       refine rd 11 fun K N => ?_
       refine wp_append_lies _ (.tmp 21) (.tmp 30) 25 rfl w.heap.size 4 i0 (.bool false) 1 1 Try.underlying25 hI hz0 hz1 hz2 rfl (by decide) _ mn (((C.bl.take i).map Bl.m).map Value.bool) rfl HO3.out ⟨wr.heap.size, 0, none⟩ 1 1 [.bool r.m] rfl rfl (news1 HNW.out) (by intro u hu; simp at hu; rw [hu]; rfl) (by decide) (by simp [maxLen]; omega) (by omega) (Nat.le_trans HBA.out.size (Nat.le_refl _)) _ rfl ?_
       intro gn nc Y own grow _ _
       obtain ⟨q1, q2, q3⟩ := HIA.out.addM HX1.out HO2.out HO3.out own grow
       have HI2 := J q1
       have HBY : Hid (Below w.heap.size w Y) := HIA.out.bel.grown grow HIA.out.bel.size (fun g hg => (HO3.out.lt g hg).1)
       have hZ := s5_of HC.out HBY.out HRI.out
       clear own grow q1
       clear O
       refine N.out _ _ hZ fun O => ?_
       clear N K hZ
       try simp only [zz]
       refine tk 12 ?_
       refine rd 13 fun K N => ?_
       go_simp
       go_wp2_with fail
       have hZ := s5_of HC.out HI2.out.bel HRI.out
       refine N.out _ _ hZ (fun hHeld13 => ?_)
       clear N K hZ O
       clear hHeld13
       try simp only [zz]
       refine td ?_
       clear q2 q3
       go_wp2
       go_meet
       exact ⟨trivial, HI2⟩
   case rest =>
    obtain ⟨_, HI1⟩ := hcut
    rw [HBM.out] at HI1
    clear HIr b0 b1 b2
    go_wp2
    go_loopw [5] (fun s5 wr => ∃ k : Nat, k ≤ C.P ∧ s5 = .int .i64 k ∧ Hid (RIs w wr C (preL C i k) ((C.bl.take (i + 1)).map Bl.m)) ∧ Hid ((preL C i k).length = (i * C.P + k) * L)) (fun s5 _ => C.P - (intOf s5).toNat)
    case atStart => exact ⟨0, Nat.zero_le _, rfl, HI1, by unfold Hid; rw [HLr.out, Nat.add_zero]⟩
    case round =>
       clear HI1
       obtain ⟨k, hkP, rfl, HIk, HLk⟩ := hrel
       obtain ⟨b0, b1, b2⟩ := (HC.out.below HIk.out.bel).geo
       by_cases hkl : k < C.P
       ·have f0 : decide ((k : Int) < (C.P : Int)) = true := decide_eq_true (by omega)
        have hi : i < C.B := hlt
        have hk : k < C.P := hkl
        have HRL : Hid ((readL C i k).length = L) := by unfold Hid; rw [HLE.out]; exact readL_len HC.out hok hi hk
        have HPB : Hid ((i * C.P + k + 1) * L ≤ 1000000000) := by
         have h1 : i * C.P + k + 1 ≤ C.B * C.P := by
          have h2 : (i + 1) * C.P ≤ C.B * C.P := Nat.mul_le_mul_right _ hi
          rw [Nat.add_mul, Nat.one_mul] at h2
          omega
         exact Nat.le_trans (Nat.mul_le_mul_right _ h1) hBP
        go_upto_region 9 with fail
        have HL9 : Hid ((preL C i (k + 1)).length = (i * C.P + (k + 1)) * L) := by unfold Hid; rw [preL_page, List.length_append, HLk.out, HRL.out]; rw [← Nat.add_assoc, Nat.add_mul (i * C.P + k), Nat.one_mul]
        clear b0 b1 b2
        obtain ⟨ca, cn, cc, ma, mn, mc, hx1, ho2, ho3⟩ := HIk.out.ex
        have hcl : cn = (i * C.P + k) * L := by rw [← HLk.out]; have h9 := ho2.1; simp at h9; exact h9.symm
        have hcn : cn + L ≤ 1000000000 := by have h9 := HPB.out; rw [Nat.add_mul, Nat.one_mul, ← hcl] at h9; exact h9
        clear hcl
        have e3 : wr.cell? ⟨w.heap.size + 1, 3, none⟩ = some (.slice ca cn cc) := by simp [World.cell?, hx1]
        have HBD := J (below_trans HIk.out.bel (drew_below wr))
        have HID := J (HIk.out.below (drew_below wr))
        have HX1 : Hid (wr.drew.heap[w.heap.size + 1]? = some (.cells #[.int .i64 (C.B : Int), .int .i64 (C.P : Int), .int .i64 (C.S : Int), .slice ca cn cc, .slice ma mn mc] 27 (0, 0))) := hx1
        have HO2 := J (owns_bel ho2 (drew_below wr))
        have HO3 := J (owns_bel ho3 (drew_below wr))
        clear hx1 ho2 ho3
        refine wp_region_held_drew (S := (fun _ => True)) (by kernel_rfl) (trivial) fun O => ?_
        refine tk 0 ?_
        refine tk 2 ?_
        refine tk 3 ?_
        refine tk 4 ?_
        refine tk 5 ?_
        refine wpAnyH_ready (rs := [1, 6]) (by kernel_rfl) (by simp) ?_
        refine AllReadyH.cons (o := { dst := some 43, op := Op.load 24 (Operand.tmp 42), type := 24, pos := "ref.go:323", after := #[{ on := 0, ground := Ground.data }], guard := none }) rfl (fun K N => ?_) (AllReadyH.cons (o := { dst := some 48, op := Op.call { callee := Callee.value (Operand.func 102), args := #[Operand.tmp 44, Operand.tmp 47], argTypes := #[82, 41] }, type := 24, pos := "ref.go:323", after := #[{ on := 2, ground := Ground.data }, { on := 5, ground := Ground.data }], guard := none }) rfl (fun K N => ?_) AllReadyH.nil)
        ·go_simp
         go_wp2_with fail
         have hZ := trivial
         clear O
         refine N.out _ _ hZ fun O => ?_
         clear N K hZ
         try simp only [zz]
         refine rd 6 fun K N => ?_
         go_simp
         go_at_call 102
         refine (rreads_any w0 _ p F C fs (HR.out.below HBD.out) hok i k hi hk).mono ?_
         rintro e u7 ⟨g7, c7, rfl, o7, b7⟩
         rw [← HLE.out] at o7 ⊢
         have HO7 := J o7
         have HB7 := J b7
         clear o7 b7
         have HI7 := J (HID.out.below HB7.out)
         have HX7 := J ((HB7.out.block _ (lt_of_block HX1.out)).trans HX1.out)
         have HO27 := J (owns_bel HO2.out HB7.out)
         have HO37 := J (owns_bel HO3.out HB7.out)
         have hZ := trivial
         go_wp2_with fail
         clear O
         refine N.out _ _ hZ fun O => ?_
         clear N K hZ
         try simp only [zz]
         refine rd 7 fun K N => ?_
         refine wp_append_lies _ (.tmp 43) (.tmp 48) 24 rfl w.heap.size 5 i5 (.int .u8 0) 1 1 Try.underlying24 hI5 hw0 hw1 hw2 rfl (by decide) _ cn ((preL C i k).map (Value.int .u8)) rfl HO27.out ⟨g7, 0, none⟩ L c7 ((readL C i k).map (Value.int .u8)) rfl (by simp [HRL.out]) (own_news HO7.out) (by intro u hu; obtain ⟨z, _, rfl⟩ := List.mem_map.1 hu; rfl) hL0 (by simp [maxLen]; omega) (by omega) HI7.out.bel.size _ rfl ?_
         intro gn nc Y own grow _ _
         rw [← List.map_append] at own
         obtain ⟨q1, q2, q3⟩ := HI7.out.addC HX7.out HO27.out HO37.out own grow
         have HI2 := J q1
         have hZ := trivial
         clear own grow q1
         clear O
         refine N.out _ _ hZ fun O => ?_
         clear N K hZ
         try simp only [zz]
         refine tk 8 ?_
         refine rd 9 fun K N => ?_
         go_simp
         go_wp2_with fail
         have hZ := trivial
         clear O
         refine N.out _ _ hZ fun O => ?_
         clear N K hZ
         try simp only [zz]
         refine td ?_
         clear q2 q3
         rw [← preL_page] at HI2
         go_wp2
         go_roundw
         case rel => exact ⟨k + 1, by omega, by go_num, HI2, HL9⟩
         case measure => simp [intOf]; omega
        ·go_simp
         go_at_call 102
         refine (rreads_any w0 _ p F C fs (HR.out.below HBD.out) hok i k hi hk).mono ?_
         rintro e u7 ⟨g7, c7, rfl, o7, b7⟩
         rw [← HLE.out] at o7 ⊢
         have HO7 := J o7
         have HB7 := J b7
         clear o7 b7
         have HI7 := J (HID.out.below HB7.out)
         have HX7 := J ((HB7.out.block _ (lt_of_block HX1.out)).trans HX1.out)
         have HO27 := J (owns_bel HO2.out HB7.out)
         have HO37 := J (owns_bel HO3.out HB7.out)
         have hZ := trivial
         go_wp2_with fail
         clear O
         refine N.out _ _ hZ fun O => ?_
         clear N K hZ
         try simp only [zz]
         have e7 : u7.cell? ⟨w.heap.size + 1, 3, none⟩ = some (.slice ca cn cc) := by simp [World.cell?, HX7.out]
         refine rd 1 fun K N => ?_
         go_simp
         go_wp2_with fail
         have hZ := trivial
         clear O
         refine N.out _ _ hZ fun O => ?_
         clear N K hZ
         try simp only [zz]
         refine rd 7 fun K N => ?_
         refine wp_append_lies _ (.tmp 43) (.tmp 48) 24 rfl w.heap.size 5 i5 (.int .u8 0) 1 1 Try.underlying24 hI5 hw0 hw1 hw2 rfl (by decide) _ cn ((preL C i k).map (Value.int .u8)) rfl HO27.out ⟨g7, 0, none⟩ L c7 ((readL C i k).map (Value.int .u8)) rfl (by simp [HRL.out]) (own_news HO7.out) (by intro u hu; obtain ⟨z, _, rfl⟩ := List.mem_map.1 hu; rfl) hL0 (by simp [maxLen]; omega) (by omega) HI7.out.bel.size _ rfl ?_
         intro gn nc Y own grow _ _
         rw [← List.map_append] at own
         obtain ⟨q1, q2, q3⟩ := HI7.out.addC HX7.out HO27.out HO37.out own grow
         have HI2 := J q1
         have hZ := trivial
         clear own grow q1
         clear O
         refine N.out _ _ hZ fun O => ?_
         clear N K hZ
         try simp only [zz]
         refine tk 8 ?_
         refine rd 9 fun K N => ?_
         go_simp
         go_wp2_with fail
         have hZ := trivial
         clear O
         refine N.out _ _ hZ fun O => ?_
         clear N K hZ
         try simp only [zz]
         refine td ?_
         clear q2 q3
         rw [← preL_page] at HI2
         go_wp2
         go_roundw
         case rel => exact ⟨k + 1, by omega, by go_num, HI2, HL9⟩
         case measure => simp [intOf]; omega
       ·have f0 : decide ((k : Int) < (C.P : Int)) = false := decide_eq_false (by omega)
        obtain rfl : k = C.P := by omega
        have HI9 : Hid (RIs w wr C (preL C (i + 1) 0) ((C.bl.take (i + 1)).map Bl.m)) := by unfold Hid; rw [← preL_block]; exact HIk.out
        have HL9 : Hid ((preL C (i + 1) 0).length = (i + 1) * C.P * L) := by unfold Hid; rw [← preL_block, HLk.out, Nat.add_mul i, Nat.one_mul]
        clear HIk
        go_wp2
        go_roundw
        case rel => exact ⟨i + 1, by omega, by go_num, HI9, HL9⟩
        case measure => simp [intOf]; omega
  ·have d0 : decide ((i : Int) < (C.B : Int)) = false := decide_eq_false (by omega)
   obtain rfl : i = C.B := by omega
   obtain ⟨ca, cn, cc, ma, mn, mc, hx1, ho2, ho3⟩ := HIr.out.ex
   obtain ⟨e0, e1, e2, e3, e4⟩ := cells5 hx1
   obtain ⟨y0, y1, y2, y3, y4⟩ := cells5 HIr.out.z
   have fz := fun j => frozen_of_row wr w.heap.size j _ 27 HIr.out.z
   have HX1 := J hx1
   have HO2 := J ho2
   have HO3 := J ho3
   clear hx1 ho2 ho3
   go_wp2
   have hz := set50 HIr.out.z (.int .i64 (C.B : Int)) (.int .i64 (C.P : Int)) (.int .i64 (C.S : Int)) (.slice ca cn cc) (.slice ma mn mc)
   have ho := only50 wr w.heap.size (.int .i64 (C.B : Int)) (.int .i64 (C.P : Int)) (.int .i64 (C.S : Int)) (.slice ca cn cc) (.slice ma mn mc)
   generalize hv9 : World.setCell _ ⟨w.heap.size, 4, none⟩ _ = v9 at hz ho ⊢
   obtain ⟨z0, z1, z2, z3, z4⟩ := cells5 hz
   refine bodyPost_ret (v := .agg #[.int .i64 (C.B : Int), .int .i64 (C.P : Int), .int .i64 (C.S : Int), .slice ca cn cc, .slice ma mn mc]) (by simp [results, Try.results74, go_sem, z0, z1, z2, z3, z4]) rfl ?_
   have k5 : v9.ownsRow w.heap.size 5 1 (.slice ca cn cc) cn ((preL C C.B 0).map (Value.int .u8)) := owns_keep HO2.out (fun g hg => by obtain ⟨cs, hc⟩ := own_tag HO2.out hg; exact ho.block g (lt_of_block hc) (fun e => by rw [e, HIr.out.z] at hc; cases hc))
   have k4 : v9.ownsRow w.heap.size 4 1 (.slice ma mn mc) mn (((C.bl.take C.B).map Bl.m).map Value.bool) := owns_keep HO3.out (fun g hg => by obtain ⟨cs, hc⟩ := own_tag HO3.out hg; exact ho.block g (lt_of_block hc) (fun e => by rw [e, HIr.out.z] at hc; cases hc))
   rw [preL_all] at k5
   rw [List.take_of_length_le (by rw [hok.bl]; exact Nat.le_refl _)] at k4
   exact ⟨⟨ca, cn, cc, ma, mn, mc, rfl, reads_of k5 (imgL_byt HC.out), readsB_own k4⟩, HIr.out.bel.trans (ho.below (fun j e => by rw [e]; exact Nat.le_refl _) HIr.out.bel.size)⟩
end Go.Proofs.Ytadlkikjfonkgaa
