/-
  SEAT Ytadlkikjfonkgaa: Xp, Xq, Xs.
-/
import Derived.Test.YtadlkikjfonkgaaPbc
import Derived.Test.YtadlkikjfonkgaaPa
import Derived.Test.YtadlkikjfonkgaaPx
namespace Go.Proofs.Ytadlkikjfonkgaa
open Go.RowKit
set_option linter.unusedVariables false
set_option maxHeartbeats 2000000 in
set_option maxRecDepth 100000 in
theorem marks_news (w : World) : ∀ j u, [Value.int .u8 161, Value.int .u8 178, Value.int .u8 195][j]? = some u →
  (w.alloc (.cells #[.int .u8 161, .int .u8 178, .int .u8 195] 5)).cell? ((⟨w.heap.size, 0, none⟩ : Addr).add j) = some u := by
 intro j u hj
 match j, hj with
 | 0, hj => simp at hj; subst hj; simp [Addr.add]
 | 1, hj => simp at hj; subst hj; simp [Addr.add]
 | 2, hj => simp at hj; subst hj; simp [Addr.add]
set_option maxHeartbeats 2000000 in
set_option maxRecDepth 100000 in
theorem marks_one : ∀ u ∈ [Value.int .u8 161, Value.int .u8 178, Value.int .u8 195], u.oneCell' = true := by
 intro u hu
 simp at hu
 rcases hu with rfl | rfl | rfl <;> rfl
set_option maxHeartbeats 2000000 in
set_option maxRecDepth 100000 in
theorem marked_any (a : Option Addr) (len cap : Nat) (zs : List Int) (w : World) (h : Reads w a len zs) (hr : len ≤ 140737488355000) :
  Calls Try.prog 38 #[.slice a len cap] w fun e w' => ∃ g cap', e = .returned (.slice (some ⟨g, 0, none⟩) len cap') ∧ Own w' w.heap.size g (len + 3) cap' (zs ++ [161, 178, 195]) ∧ Below w.heap.size w w' := by
 obtain ⟨i0, hi, hz0, hz1, hz2⟩ := info_parts info5
 have hlen := h.1
 cases a with
 | none =>
  have hl0 : len = 0 := h.2.2.1 rfl
  subst hl0
  have hz : zs = [] := List.eq_nil_of_length_eq_zero hlen
  subst hz
  have hmade : (w.alloc (.cells #[] 5)).ownsRow w.heap.size 5 1 (.slice (some ⟨w.heap.size, 0, none⟩) 0 0) 0 [] := World.ownsRow_made w #[] 0 (Nat.le_refl _) (by simp [maxLen]) rfl
  go_enter Try.func38, Try.ntmps38
  go_wp2_with (
   (at_builtin; refine wpList_append_own _ rfl (.tmp 6) (.tmp 7) 24 rfl w.heap.size 5 i0 (.int .u8 0) 1 1 Try.underlying24 hi hz0 hz1 hz2 rfl (by decide) _ _ _ rfl (hmade.alloc _) ⟨w.heap.size + 1, 0, none⟩ 3 3 [.int .u8 161, .int .u8 178, .int .u8 195] rfl rfl (by simpa using marks_news (w.alloc (.cells #[] 5))) marks_one (by simp [maxLen]) (by omega) (by simp; omega) ?_; intro v2 w2 hown2 hgrow2 _; obtain ⟨g, c2, rfl, hc2, hm2, hbg, hgl⟩ := own_shape hown2 (by omega)))
  go_ret
  refine ⟨g, c2, rfl, by simpa [Own] using hown2, ?_⟩
  exact (((Below.refl w.heap.size w).alloc (Nat.le_refl _) _).alloc (by simp) _).grown hgrow2 (by simp; omega) (fun k hk => (hmade.lt k hk).1)
 | some x =>
  have hnews : ∀ j u, (zs.map (Value.int .u8))[j]? = some u → (w.alloc (.cells #[] 5)).cell? (x.add j) = some u := fun j u hj => by
   have h1 := h.news j u hj
   rw [((Below.refl w.heap.size w).alloc (Nat.le_refl _) _).cell (block_lt_of_cell h1)]
   exact h1
  have hmade : (w.alloc (.cells #[] 5)).ownsRow w.heap.size 5 1 (.slice (some ⟨w.heap.size, 0, none⟩) 0 0) 0 [] := World.ownsRow_made w #[] 0 (Nat.le_refl _) (by simp [maxLen]) rfl
  go_enter Try.func38, Try.ntmps38
  go_wp2_with (first
   | (at_builtin; refine wpList_append_own _ rfl (.tmp 4) (.tmp 5) 24 rfl w.heap.size 5 i0 (.int .u8 0) 1 1 Try.underlying24 hi hz0 hz1 hz2 rfl (by decide) _ _ _ rfl hmade x len cap (zs.map (Value.int .u8)) rfl (by simp [hlen]) hnews (ints_oneCell _ _) (by simp [maxLen]; omega) (by omega) (by simp) ?_; intro v1 w1 hown1 hgrow1 _)
   | (at_builtin; refine wpList_append_own _ rfl (.tmp 6) (.tmp 7) 24 rfl w.heap.size 5 i0 (.int .u8 0) 1 1 Try.underlying24 hi hz0 hz1 hz2 rfl (by decide) _ _ _ rfl (hown1.alloc _) ⟨w1.heap.size, 0, none⟩ 3 3 [.int .u8 161, .int .u8 178, .int .u8 195] rfl rfl (marks_news w1) marks_one (by simp [maxLen]; omega) (by omega) (by have := hgrow1.size; simp at this ⊢; omega) ?_; intro v2 w2 hown2 hgrow2 _; obtain ⟨g, c2, rfl, hc2, hm2, hbg, hgl⟩ := own_shape hown2 (by omega)))
  go_ret
  refine ⟨g, c2, rfl, by simpa [Own] using hown2, ?_⟩
  have b1 : Below w.heap.size w w1 := ((Below.refl w.heap.size w).alloc (Nat.le_refl _) _).grown hgrow1 (by simp) (fun k hk => (hmade.lt k hk).1)
  exact (b1.alloc b1.size _).grown hgrow2 (by have := b1.size; simp; omega) (fun k hk => (hown1.lt k hk).1)
set_option maxHeartbeats 2000000 in
set_option maxRecDepth 100000 in
theorem kept_any (B g l c n cap : Nat) (a : Option Addr) (zs : List Int) (w : World) (hr : n ≤ 140737488355000) (h : Reads w a n zs) (hown : Own w B g (n + 3) c (zs ++ [161, 178, 195])) :
  Calls Try.prog 41 #[.slice (some ⟨g, 0, none⟩) l c, .slice a n cap] w fun e w' => e = .returned (.bool true) ∧ ∃ k, w' = w.drewN k := by
 have hlen := h.1
 have c1 : ∀ k, (convert 24 9 (.slice a n cap)).run Try.prog (w.drewN k) = .ok (.string (strOfNums zs)) (w.drewN k) := fun k => conv a n cap zs _ (h.drewN k)
 have c2 : ∀ k, (convert 24 9 (.slice (some ⟨g, 0, none⟩) n c)).run Try.prog (w.drewN k) = .ok (.string (strOfNums zs)) (w.drewN k) := by
  intro k
  refine conv _ n c zs _ (Reads.drewN ?_ k)
  have := hown.reads (fun x hx => by rcases List.mem_append.1 hx with h1 | h1; exact h.2.1 x h1; simp at h1; rcases h1 with rfl | rfl | rfl <;> decide) n (by omega)
  rwa [List.take_left' hlen] at this
 have hc : n + 3 ≤ c := by obtain ⟨_, _, e, h3, _⟩ := own_shape hown (by omega); simp at e; omega
 have hcm : c ≤ 9223372036854775807 := by obtain ⟨_, _, e, _, h3, _⟩ := own_shape hown (by omega); simp [maxLen] at e h3; omega
 have m0 : w.cell? ⟨g, n, none⟩ = some (.int .u8 161) := by rw [hown.cell n (by omega)]; simp [List.getD, hlen]
 have m1 : w.cell? ⟨g, n + 1, none⟩ = some (.int .u8 178) := by rw [hown.cell (n + 1) (by omega)]; simp [List.getD, hlen]
 have m2 : w.cell? ⟨g, n + 2, none⟩ = some (.int .u8 195) := by rw [hown.cell (n + 2) (by omega)]; simp [List.getD, hlen]
 clear hown h
 have i1 : (n : Int) ≤ (c : Int) := by omega
 have i2 : (n : Int) < (n : Int) + 3 := by omega
 have i3 : (n : Int) + 1 < (n : Int) + 3 := by omega
 have i4 : (n : Int) + 2 < (n : Int) + 3 := by omega
 have i5 : n ≤ c := by omega
 go_enter Try.func41, Try.ntmps41
 go_wp2
 go_quiet (fail)
 go_wp2
 go_ret
 exact ⟨rfl, nq, rfl⟩
end Go.Proofs.Ytadlkikjfonkgaa
namespace Go.Proofs.Ytadlkikjfonkgaa
open Go.RowKit Go.Conc
set_option linter.unusedVariables false
theorem own_capG {w : World} {B e size g n c : Nat} {X : List Value} (h : w.ownsRow B e size (.slice (some ⟨g, 0, none⟩) n c) n X) : n ≤ c := by
 rcases h.2 with ⟨hv, _⟩ | ⟨gg, cap, cur, hv, _, _, h1, _⟩
 ·cases hv
 ·injection hv with h3 h4 h5
  omega
structure Cpy (w u : World) (fs xs : List Fc) : Prop where
 len : xs.length = fs.length
 ok : ∀ (i : Nat) (c d : Fc), fs[i]? = some c → xs[i]? = some d → ∃ g k, d = { c with ma := some ⟨g, 0, none⟩, mc := k } ∧ Own u w.heap.size g (c.ml + 3) k (c.m ++ [161, 178, 195])
 far : xs.Pairwise (fun c d => c.ma ≠ d.ma)
theorem Cpy.keep {w u v : World} {fs xs : List Fc} (h : Cpy w u fs xs) (hk : ∀ (g : Nat) (cs : Array Value), u.heap[g]? = some (Obj.cells cs 5 (0, 0)) → v.heap[g]? = u.heap[g]?) : Cpy w v fs xs := by
 refine ⟨h.len, fun i c d h1 h2 => ?_, h.far⟩
 obtain ⟨g, k, e, ho⟩ := h.ok i c d h1 h2
 obtain ⟨cs, hcs⟩ := own_tag ho rfl
 exact ⟨g, k, e, owns_keep ho (fun a ha => by cases ha; exact hk g cs hcs)⟩
theorem Cpy.below {w u v : World} {fs xs : List Fc} (h : Cpy w u fs xs) (hb : Below u.heap.size u v) : Cpy w v fs xs := h.keep (fun g cs hc => hb.block g (lt_of_block hc))
theorem Cpy.t {w u : World} {fs xs : List Fc} (h : Cpy w u fs xs) : xs.map Fc.t = fs.map Fc.t := by
 refine List.ext_getElem? (fun i => ?_)
 rw [List.getElem?_map, List.getElem?_map]
 by_cases hi : i < fs.length
 ·obtain ⟨c, hc⟩ : ∃ c, fs[i]? = some c := ⟨_, List.getElem?_eq_getElem hi⟩
  obtain ⟨d, hd⟩ : ∃ d, xs[i]? = some d := ⟨_, List.getElem?_eq_getElem (by rw [h.len]; exact hi)⟩
  obtain ⟨g, k, e, _⟩ := h.ok i c d hc hd
  rw [hc, hd, e]
  rfl
 ·rw [List.getElem?_eq_none (by rw [h.len]; omega), List.getElem?_eq_none (by omega)]
theorem marks_front {u : World} {B g n k : Nat} {m : List Int} (h : Own u B g (n + 3) k (m ++ [161, 178, 195])) (hl : m.length = n) (hr : ∀ z ∈ m, (0 : Int) ≤ z ∧ z ≤ 255) : Reads u (some ⟨g, 0, none⟩) n m := by
 have h9 := h.reads (marks_range m hr) n (by omega)
 rwa [← hl, List.take_left' rfl, hl] at h9
theorem Cpy.fok {w u : World} {fs xs : List Fc} (h : Cpy w u fs xs) (hf : ∀ c ∈ fs, FcOk w c) : ∀ d ∈ xs, FcOk u d := by
 intro d hd
 obtain ⟨i, hi⟩ := List.mem_iff_getElem?.1 hd
 obtain ⟨c, hc⟩ : ∃ c, fs[i]? = some c := ⟨_, List.getElem?_eq_getElem (by have := (List.getElem?_eq_some_iff.1 hi).1; rw [h.len] at this; exact this)⟩
 obtain ⟨g, k, e, ho⟩ := h.ok i c d hc hi
 have h1 := hf c (List.mem_of_getElem? hc)
 subst e
 exact ⟨marks_front ho h1.rd.1 h1.rd.2.1, h1.le, by have := own_cap ho; show c.ml ≤ k; omega, h1.fill, h1.a, h1.k⟩
theorem Cpy.snoc {w u v : World} {fs xs : List Fc} {i g k : Nat} {c : Fc} (h : Cpy w u (fs.take i) xs) (hc : fs[i]? = some c) (hv : ∀ (g : Nat) (cs : Array Value), u.heap[g]? = some (Obj.cells cs 5 (0, 0)) → v.heap[g]? = u.heap[g]?) (ho : Own v w.heap.size g (c.ml + 3) k (c.m ++ [161, 178, 195])) (hg : u.heap.size ≤ g) : Cpy w v (fs.take (i + 1)) (xs ++ [{ c with ma := some ⟨g, 0, none⟩, mc := k }]) := by
 have h' := h.keep hv
 have hil : i < fs.length := (List.getElem?_eq_some_iff.1 hc).1
 have hxl : xs.length = i := by rw [h.len, List.length_take]; omega
 refine ⟨by rw [List.length_append, h.len, List.length_take, List.length_take]; simp; omega, fun j a d h1 h2 => ?_, ?_⟩
 ·by_cases hj : j < i
  ·rw [List.getElem?_take_of_lt (by omega)] at h1
   rw [List.getElem?_append_left (by omega)] at h2
   exact h'.ok j a d (by rw [List.getElem?_take_of_lt hj]; exact h1) h2
  ·have hj2 : j < i + 1 := by have := (List.getElem?_eq_some_iff.1 h1).1; rw [List.length_take] at this; omega
   have e : j = i := by omega
   subst e
   rw [List.getElem?_take_of_lt (by omega), hc] at h1
   cases h1
   rw [List.getElem?_append_right (by omega), hxl, Nat.sub_self] at h2
   have e2 : d = { c with ma := some ⟨g, 0, none⟩, mc := k } := by simpa using h2.symm
   exact ⟨g, k, e2, ho⟩
 ·rw [List.pairwise_append]
  refine ⟨h.far, List.pairwise_singleton _ _, fun a ha d hd => ?_⟩
  have e2 : d = { c with ma := some ⟨g, 0, none⟩, mc := k } := by simpa using hd
  obtain ⟨j, hj⟩ := List.mem_iff_getElem?.1 ha
  have hjl := (List.getElem?_eq_some_iff.1 hj).1
  obtain ⟨b, hb⟩ : ∃ b, (fs.take i)[j]? = some b := ⟨_, List.getElem?_eq_getElem (by rw [← h.len]; exact hjl)⟩
  obtain ⟨g2, k2, e3, ho2⟩ := h.ok j b a hb hj
  rw [e2, e3]
  intro e4
  injection e4 with e4
  injection e4 with e4
  have := ho2.lt.2
  omega
structure FtsV (w w' : World) (n : Nat) (fs : List Fc) (e : Ending) : Prop where
 ex : ∃ g c xs, e = .returned (.slice (some ⟨g, 0, none⟩) n c) ∧ w'.ownsRow w.heap.size 58 4 (.slice (some ⟨g, 0, none⟩) (n + 1) c) (n + 1) (xs.flatMap Fc.row ++ [.int .i64 (-77), .int .i64 0, .slice none 0 0, .int .u8 0]) ∧ Cpy w w' fs xs
 bel : Below w.heap.size w w'
theorem front58 (u : World) (g n c : Nat) (hc : n + 1 ≤ c) : (Instr.sliceAt 49 (.slice (some ⟨g, 0, none⟩) (n + 1) c) none (some (.int .i64 (n : Int))) none).run Try.prog u = .ok (.slice (some ⟨g, 0, none⟩) n c) u := by
 have h1 : (n : Int) ≤ c := by omega
 have h3 : (0 : Int) ≤ n := by omega
 simp [go_sem]
 omega
set_option maxHeartbeats 4000000 in
set_option maxRecDepth 100000 in
theorem faultsL_any (w : World) (a : Option Addr) (n cp : Nat) (fs : List Fc) (hF : ReadsF w a n fs) (hn : n ≤ 2900000000000) :
  Calls Try.prog 37 #[.slice a n cp] w fun e w' => FtsV w w' n fs e := by
 obtain ⟨i0, hI, hz0, hz1, hz2⟩ := info_parts info58
 have HF := hide hF
 have HL : Hid (fs.length = n) := hF.1
 clear hF
 go_enter Try.func37, Try.ntmps37
 go_wp2
 go_loopw [3, 4, 5] (fun s3 s4 s5 wr => ∃ (i : Nat) (xs : List Fc), i ≤ n ∧ s4 = .int .i64 i ∧ (∃ va vl vc, s3 = .slice va vl vc) ∧ Hid (Below w.heap.size w wr) ∧ Hid (wr.ownsRow w.heap.size 58 4 s3 i (xs.flatMap Fc.row)) ∧ Hid (Cpy w wr (fs.take i) xs)) (fun _ s4 _ _ => n - (intOf s4).toNat)
 case atStart => exact ⟨0, [], Nat.zero_le _, rfl, ⟨none, 0, 0, rfl⟩, hide (Below.refl _ _), hide (World.ownsRow_nil _ _ _ _), hide ⟨rfl, (fun i c d h => by simp at h), List.Pairwise.nil⟩⟩
 case round =>
  obtain ⟨i, xs, hi, rfl, ⟨va, vl, vc, rfl⟩, HBr, HRr, HCr⟩ := hrel
  by_cases hlt : i < n
  ·have d0 : decide ((i : Int) < (n : Int)) = true := decide_eq_true (by omega)
   have d1 : (i : Int) < (n : Int) := by omega
   obtain ⟨g, o, c, rfl, hci, hok, k0, k1, k2, k3⟩ := HF.out.at hlt
   have k0 := (HBr.out.cell (block_lt_of_cell k0)).trans k0
   have k1 := (HBr.out.cell (block_lt_of_cell k1)).trans k1
   have k2 := (HBr.out.cell (block_lt_of_cell k2)).trans k2
   have k3 := (HBr.out.cell (block_lt_of_cell k3)).trans k3
   have HCI := hide hci
   have HOK := hide hok
   have hml := hok.le
   clear hci hok
   go_upto_region 6 with fail
   have HB1 := hide (below_alloc wr (.cells #[.int .i64 c.a, .int .i64 c.k, .slice c.ma c.ml c.mc, .int .u8 c.f] 58))
   have HX1 := hide (alloc_new wr (.cells #[.int .i64 c.a, .int .i64 c.k, .slice c.ma c.ml c.mc, .int .u8 c.f] 58))
   generalize hU1 : wr.alloc (.cells #[.int .i64 c.a, .int .i64 c.k, .slice c.ma c.ml c.mc, .int .u8 c.f] 58) = U1 at HB1 HX1 ⊢
   generalize hq : wr.heap.size = q at HX1 ⊢
   have HQ := hide hq
   obtain ⟨x0, x1, x2, x3⟩ := cells4 HX1.out
   clear hU1 hq k0 k1 k2 k3
   go_upto_region 7 with (first | (go_at_call 38; refine (marked_any c.ma c.ml c.mc c.m _ (HOK.out.rd.below (below_trans HBr.out HB1.out)) (by omega)).mono ?_; rintro e u2 ⟨g2, c2, rfl, o2, b2⟩; have HO2 := hide o2; have HB2 := hide b2; have hx2 := (b2.block _ (lt_of_block HX1.out)).trans HX1.out; obtain ⟨y0, y1, y2, y3⟩ := cells4 hx2; have fz2 := fun j => frozen_of_row u2 q j _ 58 hx2; have HX2 := hide hx2; clear o2 b2 hx2))
   clear x0 x1 x2 x3 y0 y1 y2 y3 fz2
   have HX3 := hide (heap_setCell_same u2 q 2 _ 58 (.slice (some ⟨g2, 0, none⟩) c.ml c2) HX2.out)
   have HQS := hide (Only.setCell (· = q) u2 q 2 (.slice (some ⟨g2, 0, none⟩) c.ml c2) rfl)
   have HB3 : Hid (Below wr.heap.size wr (u2.setCell ⟨q, 2, none⟩ (.slice (some ⟨g2, 0, none⟩) c.ml c2))) := (below_trans HB1.out HB2.out).setCell (p := ⟨q, 2, none⟩) (by show wr.heap.size ≤ q; exact Nat.le_of_eq HQ.out) _
   have HO3 : Hid (Own (u2.setCell ⟨q, 2, none⟩ (.slice (some ⟨g2, 0, none⟩) c.ml c2)) U1.heap.size g2 (c.ml + 3) c2 (c.m ++ [161, 178, 195])) := owns_keep HO2.out (fun b hb => by cases hb; obtain ⟨cs, hcs⟩ := own_tag HO2.out rfl; exact HQS.out.block _ (lt_of_block hcs) (fun e => by rw [e, HX2.out] at hcs; cases hcs))
   generalize hU3 : u2.setCell ⟨q, 2, none⟩ (.slice (some ⟨g2, 0, none⟩) c.ml c2) = U3 at HX3 HB3 HO3 HQS ⊢
   obtain ⟨z0, z1, z2, z3⟩ := cells4 HX3.out
   have HBA := hide (below_alloc U3 (.cells #[.int .i64 c.a, .int .i64 c.k, .slice (some ⟨g2, 0, none⟩) c.ml c2, .int .u8 c.f] 58))
   have HXA := hide (alloc_new U3 (.cells #[.int .i64 c.a, .int .i64 c.k, .slice (some ⟨g2, 0, none⟩) c.ml c2, .int .u8 c.f] 58))
   have HRA : Hid ((U3.alloc (.cells #[.int .i64 c.a, .int .i64 c.k, .slice (some ⟨g2, 0, none⟩) c.ml c2, .int .u8 c.f] 58)).ownsRow w.heap.size 58 4 (.slice va vl vc) i (xs.flatMap Fc.row)) := owns_bel HRr.out (below_trans HB3.out HBA.out)
   have HBW := hide (below_trans HBr.out (below_trans HB3.out HBA.out))
   clear hU3 HX1 HX2
   go_wp2_with (first | (at_builtin; refine wpList_append_lies _ rfl (.tmp 20) (.tmp 22) 49 rfl w.heap.size 58 i0 (.agg #[.int .i64 0, .int .i64 0, .slice none 0 0, .int .u8 0]) 4 48 Try.underlying49 hI hz0 hz1 hz2 rfl (by decide) (.slice va vl vc) i (xs.flatMap Fc.row) rfl HRA.out ⟨U3.heap.size, 0, none⟩ 1 1 [.int .i64 c.a, .int .i64 c.k, .slice (some ⟨g2, 0, none⟩) c.ml c2, .int .u8 c.f] rfl rfl (news4 HXA.out) (by intro u hu; simp at hu; rcases hu with rfl | rfl | rfl | rfl <;> rfl) (by decide) (by simp [maxLen]; omega) (by omega) HBW.out.size _ rfl ?_; intro gn cn Y own grow _ _; have HOY := hide own; have HGY := hide grow; clear own grow))
   have kY : ∀ (b : Nat) (cs : Array Value), wr.heap[b]? = some (Obj.cells cs 5 (0, 0)) → Y.heap[b]? = wr.heap[b]? := fun b cs hb => by
    have h1 := (below_trans HB3.out HBA.out).block b (lt_of_block hb)
    refine (HGY.out.block b (Nat.lt_of_lt_of_le (lt_of_block hb) (below_trans HB3.out HBA.out).size) (fun e => ?_)).trans h1
    obtain ⟨c9, h9⟩ := own_tag HRA.out e.symm
    rw [h1, hb] at h9
    cases h9
   have HOC : Hid (Own Y w.heap.size g2 (c.ml + 3) c2 (c.m ++ [161, 178, 195])) := by
    have h9 : Own (U3.alloc (.cells #[.int .i64 c.a, .int .i64 c.k, .slice (some ⟨g2, 0, none⟩) c.ml c2, .int .u8 c.f] 58)) U1.heap.size g2 (c.ml + 3) c2 (c.m ++ [161, 178, 195]) := owns_bel HO3.out HBA.out
    have h8 : Own Y U1.heap.size g2 (c.ml + 3) c2 (c.m ++ [161, 178, 195]) := owns_keep h9 (fun b hb => by
     cases hb
     obtain ⟨cs, hcs⟩ := own_tag h9 rfl
     refine HGY.out.block _ (lt_of_block hcs) (fun e => ?_)
     obtain ⟨c9, h9⟩ := own_tag HRA.out e.symm
     rw [hcs] at h9
     cases h9)
    exact own_mono h8 (Nat.le_trans HBr.out.size HB1.out.size)
   have HCY := hide (HCr.out.snoc HCI.out kY HOC.out (Nat.le_trans HB1.out.size HO3.out.lt.1))
   have HBY := hide (HBW.out.grown HGY.out HBW.out.size (fun b hb => (HRA.out.lt b hb).1))
   have HRY : Hid (Y.ownsRow w.heap.size 58 4 (.slice (some ⟨gn, 0, none⟩) (i + 1) cn) (i + 1) ((xs ++ [{ c with ma := some ⟨g2, 0, none⟩, mc := c2 }]).flatMap Fc.row)) := by
    unfold Hid
    rw [List.flatMap_append]
    exact HOY.out
   clear kY z0 z1 z2 z3
   go_roundw
   case rel => exact ⟨i + 1, _, by omega, by go_num, ⟨_, _, _, rfl⟩, HBY, HRY, HCY⟩
   case measure => simp [intOf]; omega
  ·have d0 : decide ((i : Int) < (n : Int)) = false := decide_eq_false (by omega)
   obtain rfl : i = n := by omega
   have HBA := hide (below_alloc wr (.cells #[.int .i64 (-77), .int .i64 0, .slice none 0 0, .int .u8 0] 58))
   have HXA := hide (alloc_new wr (.cells #[.int .i64 (-77), .int .i64 0, .slice none 0 0, .int .u8 0] 58))
   have HRA : Hid ((wr.alloc (.cells #[.int .i64 (-77), .int .i64 0, .slice none 0 0, .int .u8 0] 58)).ownsRow w.heap.size 58 4 (.slice va vl vc) i (xs.flatMap Fc.row)) := owns_bel HRr.out HBA.out
   have HBW := hide (below_trans HBr.out HBA.out)
   go_wp2_with (first | (at_builtin; refine wpList_append_lies _ rfl (.tmp 24) (.tmp 26) 49 rfl w.heap.size 58 i0 (.agg #[.int .i64 0, .int .i64 0, .slice none 0 0, .int .u8 0]) 4 48 Try.underlying49 hI hz0 hz1 hz2 rfl (by decide) (.slice va vl vc) i (xs.flatMap Fc.row) rfl HRA.out ⟨wr.heap.size, 0, none⟩ 1 1 [.int .i64 (-77), .int .i64 0, .slice none 0 0, .int .u8 0] rfl rfl (news4 HXA.out) (by intro u hu; simp at hu; rcases hu with rfl | rfl | rfl | rfl <;> rfl) (by decide) (by simp [maxLen]; omega) (by omega) HBW.out.size _ rfl ?_; intro gn cn Y own grow _ _; have HOY := hide own; have HGY := hide grow; have hcn := own_capG own; have hfr := front58 Y gn i cn hcn; clear own grow))
   go_ret
   have kY : ∀ (b : Nat) (cs : Array Value), wr.heap[b]? = some (Obj.cells cs 5 (0, 0)) → Y.heap[b]? = wr.heap[b]? := fun b cs hb => by
    have h1 := HBA.out.block b (lt_of_block hb)
    refine (HGY.out.block b (Nat.lt_of_lt_of_le (lt_of_block hb) HBA.out.size) (fun e => ?_)).trans h1
    obtain ⟨c9, h9⟩ := own_tag HRA.out e.symm
    rw [h1, hb] at h9
    cases h9
   refine ⟨⟨gn, cn, xs, rfl, HOY.out, ?_⟩, HBW.out.grown HGY.out HBW.out.size (fun b hb => (HRA.out.lt b hb).1)⟩
   have h9 := HCr.out.keep kY
   rwa [List.take_of_length_le (by rw [HL.out]; exact Nat.le_refl _)] at h9
end Go.Proofs.Ytadlkikjfonkgaa
namespace Go.Proofs.Ytadlkikjfonkgaa
open Go.RowKit Go.Conc
set_option linter.unusedVariables false
theorem drewN_below (w : World) (n : Nat) : Below w.heap.size w (w.drewN n) := ⟨rfl, rfl, rfl, Nat.le_refl _, fun _ _ => rfl⟩
structure UnS (wb w u : World) (H g cp n : Nat) (fs xs : List Fc) (i : Nat) : Prop where
 only : Only (fun j => wb.heap.size ≤ j ∧ j < H) w u
 row : ∃ vals, u.ownsRow wb.heap.size 58 4 (.slice (some ⟨g, 0, none⟩) (n + 1) cp) (n + 1) vals ∧ ∀ j d, i ≤ j → xs[j]? = some d → vals[j * 4]? = some (.int .i64 d.a) ∧ vals[j * 4 + 1]? = some (.int .i64 d.k) ∧ vals[j * 4 + 2]? = some (.slice d.ma d.ml d.mc) ∧ vals[j * 4 + 3]? = some (.int .u8 d.f)
 msk : ∀ (j : Nat) (c d : Fc), i ≤ j → fs[j]? = some c → xs[j]? = some d → ∃ gj kj, d = { c with ma := some ⟨gj, 0, none⟩, mc := kj } ∧ Own u wb.heap.size gj (c.ml + 3) kj (c.m ++ [161, 178, 195]) ∧ gj < H
theorem Cpy.un {wb w : World} {H g cp n : Nat} {fs xs : List Fc} (h : Cpy wb w fs xs) (hl : fs.length = n) (hrow : w.ownsRow wb.heap.size 58 4 (.slice (some ⟨g, 0, none⟩) (n + 1) cp) (n + 1) (xs.flatMap Fc.row ++ [.int .i64 (-77), .int .i64 0, .slice none 0 0, .int .u8 0])) (hH : ∀ (j : Nat) (c d : Fc), fs[j]? = some c → xs[j]? = some d → ∀ y, d.ma = some y → y.block < H) : UnS wb w w H g cp n fs xs 0 := by
 refine ⟨Only.refl _ _, ⟨_, hrow, fun j d _ hd => ?_⟩, fun j c d _ hc hd => ?_⟩
 ·have hjl := (List.getElem?_eq_some_iff.1 hd).1
  have hfl := flat_len Fc.row 4 Fc.row_len xs
  have e : ∀ t, t < 4 → (xs.flatMap Fc.row ++ [.int .i64 (-77), .int .i64 0, .slice none 0 0, .int .u8 0])[j * 4 + t]? = d.row[t]? := fun t ht => by
   rw [List.getElem?_append_left (by omega)]
   exact flat_get Fc.row 4 Fc.row_len t ht xs j d hd
  exact ⟨e 0 (by omega), e 1 (by omega), e 2 (by omega), e 3 (by omega)⟩
 ·obtain ⟨gj, kj, e, ho⟩ := h.ok j c d hc hd
  exact ⟨gj, kj, e, ho, hH j c d hc hd ⟨gj, 0, none⟩ (by rw [e])⟩
theorem UnS.keep {wb w u v : World} {H g cp n : Nat} {fs xs : List Fc} {i : Nat} (h : UnS wb w u H g cp n fs xs i) (hb : Below u.heap.size u v) : UnS wb w v H g cp n fs xs i := by
 obtain ⟨vals, h1, h2⟩ := h.row
 refine ⟨h.only.trans' (Only.ofB hb), ⟨vals, owns_bel h1 hb, h2⟩, fun j c d hj hc hd => ?_⟩
 obtain ⟨gj, kj, e, ho, hg⟩ := h.msk j c d hj hc hd
 exact ⟨gj, kj, e, owns_bel ho hb, hg⟩
structure UnM (wb w u : World) (H g cp n : Nat) (fs xs : List Fc) (i gi ki L : Nat) (c : Fc) : Prop where
 s : UnS wb w u H g cp n fs xs (i + 1)
 mr : ∃ zs, Own u wb.heap.size gi (L + 3) ki zs
 me : u.cell? ⟨g, i * 4, none⟩ = some (.int .i64 c.a) ∧ u.cell? ⟨g, i * 4 + 1, none⟩ = some (.int .i64 c.k) ∧ u.cell? ⟨g, i * 4 + 2, none⟩ = some (.slice (some ⟨gi, 0, none⟩) L ki) ∧ u.cell? ⟨g, i * 4 + 3, none⟩ = some (.int .u8 c.f)
theorem UnS.cells {wb w u : World} {H g cp n : Nat} {fs xs : List Fc} {i : Nat} {d : Fc} (h : UnS wb w u H g cp n fs xs i) (hd : xs[i]? = some d) (hn : i < n) : u.cell? ⟨g, i * 4, none⟩ = some (.int .i64 d.a) ∧ u.cell? ⟨g, i * 4 + 1, none⟩ = some (.int .i64 d.k) ∧ u.cell? ⟨g, i * 4 + 2, none⟩ = some (.slice d.ma d.ml d.mc) ∧ u.cell? ⟨g, i * 4 + 3, none⟩ = some (.int .u8 d.f) := by
 obtain ⟨vals, h1, h2⟩ := h.row
 obtain ⟨k0, k1, k2, k3⟩ := h2 i d (Nat.le_refl _) hd
 exact ⟨(World.ownsRow.cellAt h1 _ (by omega)).trans k0, (World.ownsRow.cellAt h1 _ (by omega)).trans k1, (World.ownsRow.cellAt h1 _ (by omega)).trans k2, (World.ownsRow.cellAt h1 _ (by omega)).trans k3⟩
theorem UnS.later {wb w u : World} {H g cp n : Nat} {fs xs : List Fc} {i : Nat} (h : UnS wb w u H g cp n fs xs i) : UnS wb w u H g cp n fs xs (i + 1) := by
 obtain ⟨vals, h1, h2⟩ := h.row
 exact ⟨h.only, ⟨vals, h1, fun j d hj hd => h2 j d (by omega) hd⟩, fun j c d hj hc hd => h.msk j c d (by omega) hc hd⟩
theorem UnM.turn {wb w u : World} {H g cp n : Nat} {fs xs : List Fc} {i gi ki L : Nat} {c d : Fc} (h : UnM wb w u H g cp n fs xs i gi ki L c) (hd : xs[i]? = some d) (hda : d.ma = some ⟨gi, 0, none⟩) (hfar : xs.Pairwise (fun c d => c.ma ≠ d.ma)) (hgi : gi < H) (j : Nat) (z : Int) : UnM wb w (u.setCell ⟨gi, j, none⟩ (.int .u8 z)) H g cp n fs xs i gi ki L c := by
 obtain ⟨vals, h1, h2⟩ := h.s.row
 obtain ⟨zs, hz⟩ := h.mr
 obtain ⟨cg, hcg⟩ := own_tag h1 rfl
 obtain ⟨ci, hci⟩ := own_tag hz rfl
 have hne : g ≠ gi := fun e => by rw [e, hci] at hcg; cases hcg
 have ho := Only.setCell (· = gi) u gi j (.int .u8 z) rfl
 have hst := Own.set hz j z
 obtain ⟨m0, m1, m2, m3⟩ := h.me
 refine ⟨⟨h.s.only.trans ho (fun a ha e => by rw [e]; exact ⟨hz.lt.1, hgi⟩), ⟨vals, owns_keep h1 (fun a ha => by cases ha; exact ho.block _ (lt_of_block hcg) hne), h2⟩, fun q a b hq ha hb => ?_⟩, ⟨_, hst.1⟩, ?_⟩
 ·obtain ⟨gj, kj, e, hj, hg⟩ := h.s.msk q a b hq ha hb
  refine ⟨gj, kj, e, ?_, hg⟩
  obtain ⟨cj, hcj⟩ := own_tag hj rfl
  refine owns_keep hj (fun a ha => ?_)
  cases ha
  refine ho.block _ (lt_of_block hcj) (fun e9 => ?_)
  have h8 := List.pairwise_iff_getElem.1 hfar i q (List.getElem?_eq_some_iff.1 hd).1 (List.getElem?_eq_some_iff.1 hb).1 (by omega)
  rw [(List.getElem?_eq_some_iff.1 hd).2, (List.getElem?_eq_some_iff.1 hb).2, hda, e] at h8
  have e8 : gj = gi := e9
  exact h8 (by rw [e8])
 ·exact ⟨ho.cell m0 hne, ho.cell m1 hne, ho.cell m2 hne, ho.cell m3 hne⟩
theorem UnM.over {wb w u : World} {H g cp n : Nat} {fs xs : List Fc} {i gi ki L : Nat} {c : Fc} (h : UnM wb w u H g cp n fs xs i gi ki L c) (hg : g < H) (v0 v1 v2 v3 : Value) : UnS wb w ((((u.setCell ⟨g, i * 4, none⟩ v0).setCell ⟨g, i * 4 + 1, none⟩ v1).setCell ⟨g, i * 4 + 2, none⟩ v2).setCell ⟨g, i * 4 + 3, none⟩ v3) H g cp n fs xs (i + 1) := by
 obtain ⟨vals, h1, h2⟩ := h.s.row
 obtain ⟨cg, hcg⟩ := own_tag h1 rfl
 have ho : Only (· = g) u ((((u.setCell ⟨g, i * 4, none⟩ v0).setCell ⟨g, i * 4 + 1, none⟩ v1).setCell ⟨g, i * 4 + 2, none⟩ v2).setCell ⟨g, i * 4 + 3, none⟩ v3) := (((Only.setCell (· = g) u g (i * 4) v0 rfl).trans' (Only.setCell _ _ g (i * 4 + 1) v1 rfl)).trans' (Only.setCell _ _ g (i * 4 + 2) v2 rfl)).trans' (Only.setCell _ _ g (i * 4 + 3) v3 rfl)
 have hB := (h1.lt g rfl).1
 refine ⟨h.s.only.trans ho (fun a ha e => by rw [e]; exact ⟨hB, hg⟩), ⟨_, (World.ownsRow.stored (World.ownsRow.stored (World.ownsRow.stored (World.ownsRow.stored h1 (i * 4) v0).1 (i * 4 + 1) v1).1 (i * 4 + 2) v2).1 (i * 4 + 3) v3).1, fun j d hj hd => ?_⟩, fun q a b hq ha hb => ?_⟩
 ·obtain ⟨k0, k1, k2, k3⟩ := h2 j d hj hd
  refine ⟨?_, ?_, ?_, ?_⟩
  all_goals rw [List.getElem?_set_ne (by omega), List.getElem?_set_ne (by omega), List.getElem?_set_ne (by omega), List.getElem?_set_ne (by omega)]; assumption
 ·obtain ⟨gj, kj, e, hj, hg9⟩ := h.s.msk q a b hq ha hb
  refine ⟨gj, kj, e, ?_, hg9⟩
  obtain ⟨cj, hcj⟩ := own_tag hj rfl
  exact owns_keep hj (fun a ha => by cases ha; exact ho.block _ (lt_of_block hcj) (fun e9 => by rw [e9, hcg] at hcj; cases hcj))
theorem UnM.drewB {wb w u v : World} {H g cp n : Nat} {fs xs : List Fc} {i gi ki L : Nat} {c : Fc} (h : UnM wb w u H g cp n fs xs i gi ki L c) (hb : Below u.heap.size u v) : UnM wb w v H g cp n fs xs i gi ki L c := by
 obtain ⟨zs, hz⟩ := h.mr
 obtain ⟨m0, m1, m2, m3⟩ := h.me
 exact ⟨h.s.keep hb, ⟨zs, owns_bel hz hb⟩, (hb.cell (block_lt_of_cell m0)).trans m0, (hb.cell (block_lt_of_cell m1)).trans m1, (hb.cell (block_lt_of_cell m2)).trans m2, (hb.cell (block_lt_of_cell m3)).trans m3⟩
theorem front58b (u : World) (g n c : Nat) (hc : n + 1 ≤ c) : (Instr.sliceAt 49 (.slice (some ⟨g, 0, none⟩) n c) none (some (.int .i64 ((n + 1 : Nat) : Int))) none).run Try.prog u = .ok (.slice (some ⟨g, 0, none⟩) (n + 1) c) u := by
 have h1 : ((n + 1 : Nat) : Int) ≤ c := by omega
 have h3 : (0 : Int) ≤ ((n + 1 : Nat) : Int) := by omega
 simp [go_sem]
 omega
set_option maxHeartbeats 4000000 in
set_option maxRecDepth 100000 in
theorem unspoilt_any (wb w : World) (H g cp n : Nat) (a : Option Addr) (ac : Nat) (fs xs : List Fc) (hF : ReadsF wb a n fs) (hn : n ≤ 2900000000000) (hb : Below wb.heap.size wb w) (hc : Cpy wb w fs xs) (hrow : w.ownsRow wb.heap.size 58 4 (.slice (some ⟨g, 0, none⟩) (n + 1) cp) (n + 1) (xs.flatMap Fc.row ++ [.int .i64 (-77), .int .i64 0, .slice none 0 0, .int .u8 0])) (hH : ∀ (j : Nat) (c d : Fc), fs[j]? = some c → xs[j]? = some d → ∀ y, d.ma = some y → y.block < H) (hg : g < H) :
  Calls Try.prog 40 #[.slice (some ⟨g, 0, none⟩) n cp, .slice a n ac] w fun e w' => e = .returned (.bool true) ∧ Only (fun j => wb.heap.size ≤ j ∧ j < H) w w' := by
 have HF := hide hF
 have HL : Hid (fs.length = n) := hF.1
 have HB := hide hb
 have HU0 := hide (hc.un hF.1 hrow hH)
 have HXL : Hid (xs.length = n) := hc.len.trans hF.1
 have HFAR := hide hc.far
 have HFOK := hide hF.2.1
 have hcp := own_capG hrow
 have hfr := fun u : World => front58b u g n cp hcp
 obtain ⟨n1, hn1⟩ : ∃ m, m = n + 1 := ⟨_, rfl⟩
 have hw1 : wrap64 ((n : Int) + 1) = (n1 : Int) := by unfold wrap64; omega
 have hw2 : (n : Int) + 1 = (n1 : Int) := by omega
 rw [← hn1] at hfr
 have hmk : w.cell? ⟨g, n * 4, none⟩ = some (.int .i64 (-77)) := by
  rw [World.ownsRow.cellAt hrow (n * 4) (by omega)]
  have hfl := flat_len Fc.row 4 Fc.row_len xs
  rw [List.getElem?_append_right (by rw [hfl, HXL.out]; exact Nat.le_refl _), hfl, HXL.out, Nat.sub_self]
  rfl
 have nn1 : (n : Int) < (n1 : Int) := by omega
 clear hF hb hc hrow hH hn1
 go_enter Try.func40, Try.ntmps40
 go_upto_region 3 with fail
 clear hmk hfr nn1 hw1 hw2
 go_wp2
 go_loopw [6, 7, 8] (fun s6 s7 s8 wr => ∃ i : Nat, i ≤ n ∧ s7 = .int .i64 i ∧ s6 = .bool true ∧ Hid (UnS wb w wr H g cp n fs xs i)) (fun _ s7 _ _ => n - (intOf s7).toNat)
 case atStart => exact ⟨0, Nat.zero_le _, rfl, rfl, HU0⟩
 case round =>
  clear HU0
  obtain ⟨i, hi, rfl, rfl, HUr⟩ := hrel
  by_cases hlt : i < n
  ·have d0 : decide ((i : Int) < (n : Int)) = true := decide_eq_true (by omega)
   have d1 : (i : Int) < (n : Int) := by omega
   obtain ⟨gw, ow, c, rfl, hci, hok, k0, k1, k2, k3⟩ := HF.out.at hlt
   obtain ⟨d, hdi⟩ : ∃ d, xs[i]? = some d := ⟨_, List.getElem?_eq_getElem (by rw [HXL.out]; exact hlt)⟩
   obtain ⟨gi, ki, hde, hoi, hgH⟩ := HUr.out.msk i c d (Nat.le_refl _) hci hdi
   obtain ⟨q0, q1, q2, q3⟩ := HUr.out.cells hdi hlt
   rw [hde] at q0 q1 q2 q3
   have kw : ∀ {q : Nat} {v : Value}, wb.cell? ⟨gw, q, none⟩ = some v → wr.cell? ⟨gw, q, none⟩ = some v := fun {q} {v} hq => by
    have hlt9 : gw < wb.heap.size := block_lt_of_cell hq
    exact HUr.out.only.cell ((HB.out.cell (show (⟨gw, q, none⟩ : Addr).block < wb.heap.size from hlt9)).trans hq) (fun e => by have : wb.heap.size ≤ gw := e.1; omega)
   have HQ := hide (And.intro (And.intro q0 (And.intro q1 (And.intro q3 q2))) (And.intro (kw k0) (And.intro (kw k1) (And.intro (kw k3) (kw k2)))))
   have HUM : Hid (UnM wb w wr H g cp n fs xs i gi ki c.ml c) := ⟨HUr.out.later, ⟨_, hoi⟩, ⟨q0, q1, q2, q3⟩⟩
   have HOI := hide hoi
   have HRD : Hid (Reads wr c.ma c.ml c.m) := by
    refine reads_keep (hok.rd.below HB.out) (fun y hy h0 => HUr.out.only.block y.block ?_ (fun e => ?_))
    ·exact Nat.lt_of_lt_of_le (reads_low' hok.rd hy h0) HB.out.size
    ·have := reads_low' hok.rd hy h0
     have h9 : wb.heap.size ≤ y.block := e.1
     omega
   have hml : c.ml ≤ 140737488351232 := hok.le
   have HDI := hide hdi
   have hdm : d.ma = some ⟨gi, 0, none⟩ := by rw [hde]
   have HDM := hide hdm
   have HGH := hide hgH
   clear hci hok k0 k1 k2 k3 hdi hde hoi q0 q1 q2 q3 HUr hdm hgH
   go_upto_region 6 with fail
   refine wp_region_held_drew (S := (fun u => (u.cell? ⟨g, i * 4, none⟩ = some (.int .i64 c.a) ∧ u.cell? ⟨g, i * 4 + 1, none⟩ = some (.int .i64 c.k) ∧ u.cell? ⟨g, i * 4 + 3, none⟩ = some (.int .u8 c.f) ∧ u.cell? ⟨g, i * 4 + 2, none⟩ = some (.slice (some ⟨gi, 0, none⟩) c.ml ki)) ∧ u.cell? ⟨gw, ow + i * 4, none⟩ = some (.int .i64 c.a) ∧ u.cell? ⟨gw, ow + i * 4 + 1, none⟩ = some (.int .i64 c.k) ∧ u.cell? ⟨gw, ow + i * 4 + 3, none⟩ = some (.int .u8 c.f) ∧ u.cell? ⟨gw, ow + i * 4 + 2, none⟩ = some (.slice c.ma c.ml c.mc))) (by kernel_rfl) (HQ.out) (fun hHeld => ?_)
   refine tk 0 ?_
   refine tk 1 ?_
   refine tk 2 ?_
   refine tk 3 ?_
   refine tk 4 ?_
   refine tk 5 ?_
   refine tk 6 ?_
   refine tk 7 ?_
   refine tk 8 ?_
   refine tk 9 ?_
   refine tk 10 ?_
   refine tk 11 ?_
   refine rd 12 (fun K hK => ?_)
   go_simp
   go_at_call 41
   refine (kept_any wb.heap.size gi c.ml ki c.ml c.mc c.ma c.m _ (by omega) (HRD.out.below (drew_below wr)) (owns_bel HOI.out (drew_below wr))).mono ?_
   rintro e u6 ⟨rfl, hk6⟩
   have HKK := hide hk6
   have hb6 : Below wr.heap.size wr u6 := by obtain ⟨um, e6⟩ := hk6; rw [e6]; exact below_trans (drew_below wr) (drewN_below _ um)
   have hSnew : (fun u => (u.cell? ⟨g, i * 4, none⟩ = some (.int .i64 c.a) ∧ u.cell? ⟨g, i * 4 + 1, none⟩ = some (.int .i64 c.k) ∧ u.cell? ⟨g, i * 4 + 3, none⟩ = some (.int .u8 c.f) ∧ u.cell? ⟨g, i * 4 + 2, none⟩ = some (.slice (some ⟨gi, 0, none⟩) c.ml ki)) ∧ u.cell? ⟨gw, ow + i * 4, none⟩ = some (.int .i64 c.a) ∧ u.cell? ⟨gw, ow + i * 4 + 1, none⟩ = some (.int .i64 c.k) ∧ u.cell? ⟨gw, ow + i * 4 + 3, none⟩ = some (.int .u8 c.f) ∧ u.cell? ⟨gw, ow + i * 4 + 2, none⟩ = some (.slice c.ma c.ml c.mc)) u6 := by obtain ⟨⟨p0, p1, p2, p3⟩, r0, r1, r2, r3⟩ := HQ.out; exact ⟨⟨(hb6.cell (block_lt_of_cell p0)).trans p0, (hb6.cell (block_lt_of_cell p1)).trans p1, (hb6.cell (block_lt_of_cell p2)).trans p2, (hb6.cell (block_lt_of_cell p3)).trans p3⟩, (hb6.cell (block_lt_of_cell r0)).trans r0, (hb6.cell (block_lt_of_cell r1)).trans r1, (hb6.cell (block_lt_of_cell r2)).trans r2, (hb6.cell (block_lt_of_cell r3)).trans r3⟩
   clear hk6 hb6
   go_wp2_with fail
   clear hHeld
   refine hK.out _ _ hSnew (fun hHeld => ?_)
   clear hK K hSnew
   try simp only [Act.put, zSt, zS0, zS1]
   refine tk 13 ?_
   refine tk 14 ?_
   refine tk 15 ?_
   refine tk 16 ?_
   refine tk 17 ?_
   refine tk 18 ?_
   refine tk 19 ?_
   refine tk 20 ?_
   refine tk 21 ?_
   refine tk 22 ?_
   refine tk 23 ?_
   refine tk 24 ?_
   refine tk 25 ?_
   refine tk 26 ?_
   refine tk 27 ?_
   refine tk 28 ?_
   refine tk 29 ?_
   refine tk 30 ?_
   refine tk 31 ?_
   refine tk 32 ?_
   refine tk 33 ?_
   refine tk 34 ?_
   refine tk 35 ?_
   refine tk 36 ?_
   refine tk 37 ?_
   refine tk 38 ?_
   refine tk 39 ?_
   refine tk 40 ?_
   refine tk 41 ?_
   refine tk 42 ?_
   refine tk 43 ?_
   refine tk 44 ?_
   refine tk 45 ?_
   refine tk 46 ?_
   refine tk 47 ?_
   refine tk 48 ?_
   refine tk 49 ?_
   refine tk 50 ?_
   refine tk 51 ?_
   refine tk 52 ?_
   refine tk 53 ?_
   refine wpAnyH_done (by kernel_rfl) ?_ _
   clear hHeld HQ
   obtain ⟨um, hum⟩ := HKK.out
   subst hum
   have HU6 : Hid (UnM wb w (wr.drew.drewN um) H g cp n fs xs i gi ki c.ml c) := UnM.drewB HUM.out (below_trans (drew_below wr) (drewN_below _ um))
   clear HUM HRD HOI
   generalize hV6 : wr.drew.drewN um = V6 at HU6 ⊢
   clear hV6
   go_wp2
   go_loopw [8] (fun s8 wr => ∃ k : Nat, k ≤ c.ml ∧ s8 = .int .i64 k ∧ Hid (UnM wb w wr H g cp n fs xs i gi ki c.ml c)) (fun s8 _ => c.ml - (intOf s8).toNat)
   case atStart => exact ⟨0, Nat.zero_le _, rfl, HU6⟩
   case round =>
    clear HU6
    obtain ⟨k, hk, rfl, HUk⟩ := hrel
    obtain ⟨q0, q1, q2, q3⟩ := HUk.out.me
    by_cases hkl : k < c.ml
    ·have f0 : decide ((k : Int) < (c.ml : Int)) = true := decide_eq_true (by omega)
     have f1 : (k : Int) < (c.ml : Int) := by omega
     go_upto_region 10 with fail
     obtain ⟨zs, hzs⟩ := HUk.out.mr
     have hzk : wr.drew.cell? ⟨gi, k, none⟩ = some (.int .u8 (zs.getD k 0)) := hzs.cell k (by omega)
     have hq2 : wr.drew.cell? ⟨g, i * 4 + 2, none⟩ = some (.slice (some ⟨gi, 0, none⟩) c.ml ki) := q2
     have hfz : wr.drew.frozen? ⟨gi, k, none⟩ = false := by obtain ⟨cs, hcs⟩ := own_tag hzs rfl; exact frozen_of_row wr.drew gi k _ 5 hcs
     obtain ⟨z, hz⟩ : ∃ z, z = zs.getD k 0 := ⟨_, rfl⟩
     rw [← hz] at hzk
     clear q0 q1 q2 q3 hzs hz
     refine wp_region_held_drew (S := (fun u => u.cell? ⟨g, i * 4 + 2, none⟩ = some (.slice (some ⟨gi, 0, none⟩) c.ml ki))) (by kernel_rfl) (hq2) (fun hHeld => ?_)
     refine tk 0 ?_
     refine tk 1 ?_
     refine tk 2 ?_
     refine tk 3 ?_
     refine tk 4 ?_
     refine tk 5 ?_
     refine tk 6 ?_
     refine tk 7 ?_
     refine tk 8 ?_
     refine tk 9 ?_
     refine tk 10 ?_
     refine tk 11 ?_
     refine tk 12 ?_
     refine rd 13 (fun K hK => ?_)
     go_simp
     go_wp2_with fail
     refine hK.out _ _ hHeld (fun hHeld13 => ?_)
     clear hK K
     clear hHeld13
     try simp only [Act.put, zSt, zS0, zS1]
     refine tk 14 ?_
     refine tk 15 ?_
     refine rd 16 (fun K hK => ?_)
     go_simp
     go_wp2_with fail
     clear hzk hfz
     have HUN := hide ((UnM.drewB HUk.out (drew_below wr)).turn HDI.out HDM.out HFAR.out HGH.out k (bits .xor .u8 z 90))
     have hSnew : (fun u => u.cell? ⟨g, i * 4 + 2, none⟩ = some (.slice (some ⟨gi, 0, none⟩) c.ml ki)) (wr.drew.setCell ⟨gi, k, none⟩ (.int .u8 (bits .xor .u8 z 90))) := HUN.out.me.2.2.1
     refine hK.out _ _ hSnew (fun hHeld16 => ?_)
     clear hK K hSnew hHeld hHeld16 hq2
     try simp only [Act.put, zSt, zS0, zS1]
     refine wpAnyH_done (by kernel_rfl) ?_ _
     go_wp2
     go_roundw
     case rel => exact ⟨k + 1, by omega, by go_num, HUN⟩
     case measure => simp [intOf]; omega
    ·have f0 : decide ((k : Int) < (c.ml : Int)) = false := decide_eq_false (by omega)
     obtain ⟨vals, hv1, _⟩ := HUk.out.s.row
     obtain ⟨cg, hcg⟩ := own_tag hv1 rfl
     have fz := fun j => frozen_of_row wr g j _ 58 hcg
     have HUO := hide (HUk.out.over hg (.int .i64 (i : Int)) (.int .i64 2) (.slice none 0 0) (.int .u8 0))
     clear hv1 hcg
     go_wp2
     go_roundw
     case rel => exact ⟨i + 1, by omega, by go_num, rfl, HUO⟩
     case measure => simp [intOf]; omega
  ·have d0 : decide ((i : Int) < (n : Int)) = false := decide_eq_false (by omega)
   go_wp2
   go_ret
   exact ⟨rfl, HUr.out.only⟩
end Go.Proofs.Ytadlkikjfonkgaa
