/-
  SEAT Ytoaahellfflooaa.
-/
import Derived.Test.YtoaahellfflooaaVWn
import Derived.Test.YtoaahellfflooaaVTh
namespace Go.Proofs.Ytoaahellfflooaa
open Go.RowKit
set_option linter.unusedVariables false

theorem CopS.on {w : World} {B : Nat} {s : St} {vb vo : Value} {n m : Nat} {ms ls : List (Ob × Value)} {ba oa : Option Addr} (h : CopS w B s vb vo n m ms) (hS : StOn w s ba oa n m ls) :
    ∃ gb cb go co, vb = .slice (some ⟨gb, 0, none⟩) n cb ∧ vo = .slice (some ⟨go, 0, none⟩) m co ∧ (n + 2 ≤ cb ∧ cb ≤ maxLen) ∧ (m + 2 ≤ co ∧ co ≤ maxLen) ∧ StOn w s (some ⟨gb, 0, none⟩) (some ⟨go, 0, none⟩) n m ms ∧
      (w.cell? ⟨gb, n * 4, none⟩ = some (.int .i64 77) ∧ w.cell? ⟨gb, (n + 1) * 4, none⟩ = some (.int .i64 78)) ∧ (w.cell? ⟨go, m * 13, none⟩ = some (.int .i64 81) ∧ w.cell? ⟨go, (m + 1) * 13, none⟩ = some (.int .i64 82)) := by
  have hbn := ReadsL.len hS.b blk_len (by decide)
  have hbl : (flatBlk s.bs).length = n * 4 := by rw [← hbn]; exact flat_len blk_len _
  have hml : ms.length = m := by
    have h1 := congrArg List.length h.os
    have h2 := congrArg List.length hS.os
    have h3 := hS.o.len
    simp only [List.length_map] at h1 h2
    omega
  have hol : (flatO ms).length = m * 13 := by rw [← hml]; exact flat_len (f := fun x : Ob × Value => x.1.cells x.2) ob_len _
  obtain ⟨gb, cb, rfl, hb1, hb2, hb3, hb4⟩ := h.mb.reads hbl
  obtain ⟨go, co, rfl, ho1, ho2, ho3, ho4⟩ := h.mo.reads hol
  have hin : ∀ x ∈ ms, ∃ y ∈ ls, y.1 = x.1 := fun x hx => by
    have h1 : x.1 ∈ ls.map Prod.fst := by rw [hS.os, ← h.os]; exact List.mem_map_of_mem hx
    obtain ⟨y, hy, e⟩ := List.mem_map.1 h1
    exact ⟨y, hy, e⟩
  refine ⟨gb, cb, go, co, rfl, rfl, ⟨hb1, hb2⟩, ⟨ho1, ho2⟩, ⟨hb3, ho3, fun x hx => ?_, fun x hx => ?_, h.os, hS.nl, hS.ml⟩, ⟨hb4 0 _ rfl, ?_⟩, ho4 0 _ rfl, ?_⟩
  · obtain ⟨g, c, h1, _, _, h4, _⟩ := (h.mc x hx).reads (flat_len chk_len _)
    obtain ⟨y, hy, e⟩ := hin x hx
    obtain ⟨_, _, _, _, h5⟩ := hS.c y hy
    rw [e] at h5
    exact ⟨_, _, h1, h4, h5⟩
  · obtain ⟨y, hy, e⟩ := hin x hx
    rw [← e]
    exact hS.sz y hy
  · rw [show (n + 1) * 4 = n * 4 + 4 by omega]
    exact hb4 4 _ rfl
  · rw [show (m + 1) * 13 = m * 13 + 13 by omega]
    exact ho4 13 _ rfl

theorem mk_nums {n c : Nat} (h : n + 2 ≤ c) (hc : c ≤ maxLen) : ∃ n1 n2 : Nat, n + 1 = n1 ∧ n + 2 = n2 ∧ wrap64 ((n : Int) + 2) = n2 ∧ wrap64 ((n : Int) + 1) = n1 ∧ (n2 : Int) ≤ c ∧ (n : Int) < n2 ∧ (n1 : Int) < n2 := by
  have hm : maxLen = 9223372036854775807 := rfl
  rw [hm] at hc
  refine ⟨_, _, rfl, rfl, ?_, ?_, by omega, by omega, by omega⟩ <;> (unfold wrap64; omega)
set_option maxHeartbeats 8000000 in
set_option maxRecDepth 100000 in
theorem kept13 (B : Nat) (fl nx cu la : Int) (bs : List Blk) (os : List Ob) (ba oa : Option Addr) (n m bc oc : Nat) (vb vo : Value) (ls ms : List (Ob × Value)) (w : World) (hC : CopS w B ⟨fl, nx, cu, la, bs, os⟩ vb vo n m ms) (hS : StOn w ⟨fl, nx, cu, la, bs, os⟩ ba oa n m ls) :
    Calls Try.prog 13 #[.agg #[.int .u64 fl, .int .u64 nx, .int .i64 cu, .int .i64 la, vb, vo], .agg #[.int .u64 fl, .int .u64 nx, .int .i64 cu, .int .i64 la, .slice ba n bc, .slice oa m oc]] w fun e w' => e = .returned (.bool true) ∧ Below w.heap.size w w' := by
  obtain ⟨gb, cb, go, co, rfl, rfl, ⟨hb1, hb2⟩, ⟨ho1, ho2⟩, hS2, ⟨hm1, hm2⟩, hm3, hm4⟩ := hC.on hS
  have hml := hS2.o.len
  have HML := hide hml
  have hb0 := below_alloc w (.cells #[.int .u64 fl, .int .u64 nx, .int .i64 cu, .int .i64 la, .slice (some ⟨gb, 0, none⟩) n cb, .slice (some ⟨go, 0, none⟩) m co] 27)
  have hb9 : Below w.heap.size w ((w.alloc (.cells #[.int .u64 fl, .int .u64 nx, .int .i64 cu, .int .i64 la, .slice (some ⟨gb, 0, none⟩) n cb, .slice (some ⟨go, 0, none⟩) m co] 27)).alloc (.cells #[.int .u64 fl, .int .u64 nx, .int .i64 cu, .int .i64 la, .slice ba n bc, .slice oa m oc] 27)) := hb0.trans ((below_alloc _ _).mono (by simp))
  have HX1 : Hid (((w.alloc (.cells #[.int .u64 fl, .int .u64 nx, .int .i64 cu, .int .i64 la, .slice (some ⟨gb, 0, none⟩) n cb, .slice (some ⟨go, 0, none⟩) m co] 27)).alloc (.cells #[.int .u64 fl, .int .u64 nx, .int .i64 cu, .int .i64 la, .slice ba n bc, .slice oa m oc] 27)).heap[w.heap.size]? = some (.cells #[.int .u64 fl, .int .u64 nx, .int .i64 cu, .int .i64 la, .slice (some ⟨gb, 0, none⟩) n cb, .slice (some ⟨go, 0, none⟩) m co] 27 (0, 0))) := ((below_alloc _ _).block _ (by simp)).trans (heap_alloc_new w _)
  have HSM := hide (same8 ⟨fl, nx, cu, la, bs, os⟩ (some ⟨gb, 0, none⟩) (some ⟨go, 0, none⟩) ba oa n m cb co bc oc ms ls _ (hS2.below hb9) (hS.below hb9))
  have HB9 := hide hb9
  have hbl : gb < w.heap.size := World.block_lt_of_cell? w ⟨gb, n * 4, none⟩ hm1
  have hol : go < w.heap.size := World.block_lt_of_cell? w ⟨go, m * 13, none⟩ hm3
  have HM : Hid (∀ u, Below w.heap.size w u → u.cell? ⟨gb, n * 4, none⟩ = some (.int .i64 77) ∧ u.cell? ⟨gb, (n + 1) * 4, none⟩ = some (.int .i64 78) ∧ u.cell? ⟨go, m * 13, none⟩ = some (.int .i64 81) ∧ u.cell? ⟨go, (m + 1) * 13, none⟩ = some (.int .i64 82)) := fun u hu =>
    ⟨(hu.cell (p := ⟨gb, n * 4, none⟩) hbl).trans hm1, (hu.cell (p := ⟨gb, (n + 1) * 4, none⟩) hbl).trans hm2, (hu.cell (p := ⟨go, m * 13, none⟩) hol).trans hm3, (hu.cell (p := ⟨go, (m + 1) * 13, none⟩) hol).trans hm4⟩
  have HC := hide hC
  have HS2 := hide hS2
  obtain ⟨n1, n2, hn1, hn2, ew1, ew3, l1, l3, l5⟩ := mk_nums hb1 hb2
  obtain ⟨k1, k2, hk1, hk2, ew2, ew4, l2, l4, l6⟩ := mk_nums ho1 ho2
  rw [hn1, hk1] at HM
  clear hm1 hm2 hm3 hm4 hb0 hb9 hC hS hS2 hml hbl hol
  clear hn1 hn2 hk1 hk2 hb1 hb2 ho1 ho2
  go_enter Try.func13, Try.ntmps13
  go_upto_region 3 with (go_at_call 8; refine HSM.out.mono ?_; rintro e u1 ⟨rfl, b1⟩; have HU1 := hide (HB9.out.trans (b1.mono HB9.out.size)); have HX2 := hide ((b1.block w.heap.size (lt_of_block HX1.out)).trans HX1.out); clear b1 HSM HX1)
  obtain ⟨q0, q1, q2, q3⟩ := HM.out u1 HU1.out
  obtain ⟨e0, e1, e2, e3, e4, e5⟩ := bx6 HX2.out
  clear HM HB9
  go_wp2
  clear q0 q1 q2 q3 e0 e1 e2 e3 e4
  go_loopw [7] (fun s7 wr => ∃ (k : Nat), k ≤ m ∧ s7 = .int .i64 k ∧ wr = u1)
    (fun s7 _ => m - (intOf s7).toNat)
  case atStart => exact ⟨0, Nat.zero_le _, rfl, rfl⟩
  case round =>
    obtain ⟨k, hk, rfl, rfl⟩ := hrel
    by_cases hlt : k < m
    · have hkl : k < ms.length := by rw [HML.out]; exact hlt
      obtain ⟨b, off, ha, hbs, hc⟩ := ReadsO.cells (ReadsL.below HS2.out.o HU1.out) (by omega)
      obtain ⟨rfl, rfl⟩ : go = b ∧ 0 = off := by
        injection ha with ha
        injection ha with h1 h2
        exact ⟨h1, h2⟩
      have hcc := hc k hkl
      obtain ⟨gc, cc, hv, hr1, hr2, -, hr4⟩ := ((HC.out.mc ms[k] (List.getElem_mem hkl)).below HU1.out).reads (flat_len chk_len _)
      obtain ⟨vn, hvn⟩ : ∃ vn, ms[k].1.ch.length = vn := ⟨_, rfl⟩
      rw [hvn] at hv hr1 hr4
      have g12 : wr.cell? ⟨go, k * 13 + 12, none⟩ = some (.slice (some ⟨gc, 0, none⟩) vn cc) := by
        have h9 := hcc 12 _ rfl
        rw [hv] at h9
        rw [Nat.zero_add] at h9
        exact h9
      have g79 : wr.cell? ⟨gc, vn * 4, none⟩ = some (.int .i64 79) := hr4 0 _ rfl
      have g80 : wr.cell? ⟨gc, (vn + 1) * 4, none⟩ = some (.int .i64 80) := by
        rw [show (vn + 1) * 4 = vn * 4 + 4 by omega]
        exact hr4 4 _ rfl
      obtain ⟨v1, v2, hv1, hv2, ev2, ev1, p1, p2, p3⟩ := mk_nums hr1 hr2
      rw [hv1] at g80
      have d1 : (k : Int) < m := Int.ofNat_lt.2 hlt
      have HKM := hide hlt
      have hmm := HS2.out.ml
      clear hc hcc hv hr1 hr2 hr4 hvn hv1 hv2 hkl ha hbs
      go_wp2
      have hkm := HKM.out
      go_roundw
      case rel => exact ⟨k + 1, by omega, by go_num, trivial⟩
      case measure => simp [intOf]; omega
    · have hkm : k = m := by omega
      subst hkm
      go_wp2
      go_ret
      exact ⟨rfl, HU1.out⟩
end Go.Proofs.Ytoaahellfflooaa
