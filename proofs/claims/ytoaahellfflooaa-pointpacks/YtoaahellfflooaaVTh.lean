/-
  SEAT Ytoaahellfflooaa.
-/
import Derived.Test.YtoaahellfflooaaVEg
namespace Go.Proofs.Ytoaahellfflooaa
open Go.RowKit
set_option linter.unusedVariables false

theorem sne50 (w : World) (k p : Int) (N : ByteArray) (z m st h : Int) (T : ByteArray) : (binOp .neq 50 (.agg #[.int .i64 k, .int .i64 p, .string N, .int .i64 z, .int .i64 m, .int .u64 st, .int .i64 h, .string T]) (.agg #[.int .i64 k, .int .i64 p, .string N, .int .i64 z, .int .i64 m, .int .u64 st, .int .i64 h, .string T])).run Try.prog w = .ok (.bool false) w := by rw [ne50]; simp
theorem sne52 (w : World) (a b : Int) : (binOp .neq 52 (.agg #[.int .i64 a, .int .i64 b]) (.agg #[.int .i64 a, .int .i64 b])).run Try.prog w = .ok (.bool false) w := by rw [ne52]; simp
theorem sne48 (w : World) (a b : Int) (c : Bool) (d : Int) : (binOp .neq 48 (.agg #[.int .i64 a, .int .u64 b, .bool c, .int .i64 d]) (.agg #[.int .i64 a, .int .u64 b, .bool c, .int .i64 d])).run Try.prog w = .ok (.bool false) w := by rw [ne48]; simp

set_option maxHeartbeats 4000000 in
set_option maxRecDepth 100000 in
theorem same20 (a0 b0 : Option Addr) (len cap cap2 : Nat) (ls ms : List (Ob × Value)) (w : World) (hr : ReadsO w a0 len ls) (hr2 : ReadsO w b0 len ms) (hc : ChksOn w ls) (hc2 : ChksOn w ms) (he : ls.map Prod.fst = ms.map Prod.fst) (hl : len ≤ 140737488355000) :
    Calls Try.prog 20 #[.slice a0 len cap, .slice b0 len cap2] w fun e w' => e = .returned (.bool true) ∧ Below w.heap.size w w' := by
  have HR := hide hr
  have HR2 := hide hr2
  have HC := hide hc
  have HC2 := hide hc2
  have HE := hide he
  have HLN := hide hr.len
  have HLM := hide hr2.len
  have d0 : ((len : Int) != len) = false := by simp
  have q50 := sne50
  have q52 := sne52
  have q71 := ne71
  have g50 := gd50
  have g52 := gd52
  have g71 := gd71
  clear hr hr2 hc hc2 he
  go_enter Try.func20, Try.ntmps20
  go_wp2
  go_loopw [5] (fun s5 wr => ∃ (k : Nat), k ≤ len ∧ s5 = .int .i64 k ∧ Hid (Below w.heap.size w wr))
    (fun s5 _ => len - (intOf s5).toNat)
  case atStart => exact ⟨0, Nat.zero_le _, rfl, Below.refl _ _⟩
  case round =>
    obtain ⟨k, hk, rfl, HB⟩ := hrel
    by_cases hlt : k < len
    · have hkl : k < ls.length := by rw [HLN.out]; exact hlt
      have hkm : k < ms.length := by rw [HLM.out]; exact hlt
      obtain ⟨b, off, rfl, hbs, hcc⟩ := ReadsO.cells (ReadsL.below HR.out HB.out) (by omega)
      obtain ⟨b2, off2, rfl, hbs2, hcc2⟩ := ReadsO.cells (ReadsL.below HR2.out HB.out) (by omega)
      have hcc := hcc k hkl
      have hcc2 := hcc2 k hkm
      obtain ⟨va, vc, hv, hcr, hcl⟩ := HC.out.below HB.out ls[k] (List.getElem_mem hkl)
      obtain ⟨va2, vc2, hv2, hcr2, hcl2⟩ := HC2.out.below HB.out ms[k] (List.getElem_mem hkm)
      have hsm : ms[k].1 = ls[k].1 := by
        have h1 : (ls.map Prod.fst)[k]? = (ms.map Prod.fst)[k]? := by rw [HE.out]
        rw [List.getElem?_map, List.getElem?_map, List.getElem?_eq_getElem hkl, List.getElem?_eq_getElem hkm] at h1
        simpa using h1.symm
      rw [hsm] at hcc2 hv2 hcr2 hcl2
      obtain ⟨⟨⟨id, hd0, ⟨xk, xp, xN, xz, xm, xs, xh, xT⟩, ⟨p1, p2⟩, ch⟩, vv⟩, hX⟩ : ∃ X, ls[k] = X := ⟨_, rfl⟩
      rw [hX] at hcc hv hcr hcl hcc2 hv2 hcr2 hcl2
      obtain ⟨vv2, hv9⟩ : ∃ x, ms[k].2 = x := ⟨_, rfl⟩
      rw [hv9] at hcc2 hv2
      simp only at hcc hv hcr hcl hcc2 hv2 hcr2 hcl2
      subst hv
      subst hv2
      obtain ⟨vn, hvn⟩ : ∃ vn, ch.length = vn := ⟨_, rfl⟩
      rw [hvn] at hcc hcl hcr hcc2 hcl2 hcr2
      have c0 : wr.cell? ⟨b, off + k * 13, none⟩ = some (.int .i64 id) := hcc 0 _ rfl
      have c1 : wr.cell? ⟨b, off + k * 13 + 1, none⟩ = some (.bool hd0) := hcc 1 _ rfl
      have c2 : wr.cell? ⟨b, off + k * 13 + 2, none⟩ = some (.int .i64 xk) := hcc 2 _ rfl
      have c3 : wr.cell? ⟨b, off + k * 13 + 3, none⟩ = some (.int .i64 xp) := hcc 3 _ rfl
      have c4 : wr.cell? ⟨b, off + k * 13 + 4, none⟩ = some (.string xN) := hcc 4 _ rfl
      have c5 : wr.cell? ⟨b, off + k * 13 + 5, none⟩ = some (.int .i64 xz) := hcc 5 _ rfl
      have c6 : wr.cell? ⟨b, off + k * 13 + 6, none⟩ = some (.int .i64 xm) := hcc 6 _ rfl
      have c7 : wr.cell? ⟨b, off + k * 13 + 7, none⟩ = some (.int .u64 xs) := hcc 7 _ rfl
      have c8 : wr.cell? ⟨b, off + k * 13 + 8, none⟩ = some (.int .i64 xh) := hcc 8 _ rfl
      have c9 : wr.cell? ⟨b, off + k * 13 + 9, none⟩ = some (.string xT) := hcc 9 _ rfl
      have c10 : wr.cell? ⟨b, off + k * 13 + 10, none⟩ = some (.int .i64 p1) := hcc 10 _ rfl
      have c11 : wr.cell? ⟨b, off + k * 13 + 11, none⟩ = some (.int .i64 p2) := hcc 11 _ rfl
      have c12 : wr.cell? ⟨b, off + k * 13 + 12, none⟩ = some (.slice va vn vc) := hcc 12 _ rfl
      have e0 : wr.cell? ⟨b2, off2 + k * 13, none⟩ = some (.int .i64 id) := hcc2 0 _ rfl
      have e1 : wr.cell? ⟨b2, off2 + k * 13 + 1, none⟩ = some (.bool hd0) := hcc2 1 _ rfl
      have e2 : wr.cell? ⟨b2, off2 + k * 13 + 2, none⟩ = some (.int .i64 xk) := hcc2 2 _ rfl
      have e3 : wr.cell? ⟨b2, off2 + k * 13 + 3, none⟩ = some (.int .i64 xp) := hcc2 3 _ rfl
      have e4 : wr.cell? ⟨b2, off2 + k * 13 + 4, none⟩ = some (.string xN) := hcc2 4 _ rfl
      have e5 : wr.cell? ⟨b2, off2 + k * 13 + 5, none⟩ = some (.int .i64 xz) := hcc2 5 _ rfl
      have e6 : wr.cell? ⟨b2, off2 + k * 13 + 6, none⟩ = some (.int .i64 xm) := hcc2 6 _ rfl
      have e7 : wr.cell? ⟨b2, off2 + k * 13 + 7, none⟩ = some (.int .u64 xs) := hcc2 7 _ rfl
      have e8 : wr.cell? ⟨b2, off2 + k * 13 + 8, none⟩ = some (.int .i64 xh) := hcc2 8 _ rfl
      have e9 : wr.cell? ⟨b2, off2 + k * 13 + 9, none⟩ = some (.string xT) := hcc2 9 _ rfl
      have e10 : wr.cell? ⟨b2, off2 + k * 13 + 10, none⟩ = some (.int .i64 p1) := hcc2 10 _ rfl
      have e11 : wr.cell? ⟨b2, off2 + k * 13 + 11, none⟩ = some (.int .i64 p2) := hcc2 11 _ rfl
      have e12 : wr.cell? ⟨b2, off2 + k * 13 + 12, none⟩ = some (.slice va2 vn vc2) := hcc2 12 _ rfl
      have hb1 := below_alloc wr (.cells #[.int .i64 id, .bool hd0, .int .i64 xk, .int .i64 xp, .string xN, .int .i64 xz, .int .i64 xm, .int .u64 xs, .int .i64 xh, .string xT, .int .i64 p1, .int .i64 p2, .slice va vn vc] 55)
      have hb2 := below_alloc (wr.alloc (.cells #[.int .i64 id, .bool hd0, .int .i64 xk, .int .i64 xp, .string xN, .int .i64 xz, .int .i64 xm, .int .u64 xs, .int .i64 xh, .string xT, .int .i64 p1, .int .i64 p2, .slice va vn vc] 55)) (.cells #[.int .i64 id, .bool hd0, .int .i64 xk, .int .i64 xp, .string xN, .int .i64 xz, .int .i64 xm, .int .u64 xs, .int .i64 xh, .string xT, .int .i64 p1, .int .i64 p2, .slice va2 vn vc2] 55)
      have hb3 : Below wr.heap.size wr ((wr.alloc (.cells #[.int .i64 id, .bool hd0, .int .i64 xk, .int .i64 xp, .string xN, .int .i64 xz, .int .i64 xm, .int .u64 xs, .int .i64 xh, .string xT, .int .i64 p1, .int .i64 p2, .slice va vn vc] 55)).alloc (.cells #[.int .i64 id, .bool hd0, .int .i64 xk, .int .i64 xp, .string xN, .int .i64 xz, .int .i64 xm, .int .u64 xs, .int .i64 xh, .string xT, .int .i64 p1, .int .i64 p2, .slice va2 vn vc2] 55)) := hb1.trans (hb2.mono hb1.size)
      have HX1 := hide (show ((wr.alloc (.cells #[.int .i64 id, .bool hd0, .int .i64 xk, .int .i64 xp, .string xN, .int .i64 xz, .int .i64 xm, .int .u64 xs, .int .i64 xh, .string xT, .int .i64 p1, .int .i64 p2, .slice va vn vc] 55)).alloc (.cells #[.int .i64 id, .bool hd0, .int .i64 xk, .int .i64 xp, .string xN, .int .i64 xz, .int .i64 xm, .int .u64 xs, .int .i64 xh, .string xT, .int .i64 p1, .int .i64 p2, .slice va2 vn vc2] 55)).heap[wr.heap.size]? = some (.cells #[.int .i64 id, .bool hd0, .int .i64 xk, .int .i64 xp, .string xN, .int .i64 xz, .int .i64 xm, .int .u64 xs, .int .i64 xh, .string xT, .int .i64 p1, .int .i64 p2, .slice va vn vc] 55 (0, 0)) from (hb2.block _ (by simp)).trans (heap_alloc_new wr _))
      have HX2 := hide (show ((wr.alloc (.cells #[.int .i64 id, .bool hd0, .int .i64 xk, .int .i64 xp, .string xN, .int .i64 xz, .int .i64 xm, .int .u64 xs, .int .i64 xh, .string xT, .int .i64 p1, .int .i64 p2, .slice va vn vc] 55)).alloc (.cells #[.int .i64 id, .bool hd0, .int .i64 xk, .int .i64 xp, .string xN, .int .i64 xz, .int .i64 xm, .int .u64 xs, .int .i64 xh, .string xT, .int .i64 p1, .int .i64 p2, .slice va2 vn vc2] 55)).heap[wr.heap.size + 1]? = some (.cells #[.int .i64 id, .bool hd0, .int .i64 xk, .int .i64 xp, .string xN, .int .i64 xz, .int .i64 xm, .int .u64 xs, .int .i64 xh, .string xT, .int .i64 p1, .int .i64 p2, .slice va2 vn vc2] 55 (0, 0)) from by have h9 := heap_alloc_new (wr.alloc (.cells #[.int .i64 id, .bool hd0, .int .i64 xk, .int .i64 xp, .string xN, .int .i64 xz, .int .i64 xm, .int .u64 xs, .int .i64 xh, .string xT, .int .i64 p1, .int .i64 p2, .slice va vn vc] 55)) (.cells #[.int .i64 id, .bool hd0, .int .i64 xk, .int .i64 xp, .string xN, .int .i64 xz, .int .i64 xm, .int .u64 xs, .int .i64 xh, .string xT, .int .i64 p1, .int .i64 p2, .slice va2 vn vc2] 55); rw [World.size_alloc] at h9; exact h9)
      have HBC := hide (HB.out.trans (hb3.mono HB.out.size))
      have HCR := hide (ReadsL.below hcr hb3)
      have HCR2 := hide (ReadsL.below hcr2 hb3)
      have HVN := hide hvn
      have dv : ((vn : Int) != vn) = false := by simp
      have e9a : (k : Int) < len := by omega
      have f1 : (((wr.alloc (.cells #[.int .i64 id, .bool hd0, .int .i64 xk, .int .i64 xp, .string xN, .int .i64 xz, .int .i64 xm, .int .u64 xs, .int .i64 xh, .string xT, .int .i64 p1, .int .i64 p2, .slice va vn vc] 55)).alloc (.cells #[.int .i64 id, .bool hd0, .int .i64 xk, .int .i64 xp, .string xN, .int .i64 xz, .int .i64 xm, .int .u64 xs, .int .i64 xh, .string xT, .int .i64 p1, .int .i64 p2, .slice va2 vn vc2] 55))).cell? ⟨b2, off2 + k * 13, none⟩ = some (.int .i64 id) := (hb3.cell (block_lt_of_cell e0)).trans e0
      clear hcc hcc2 hX hv9 hkl hkm hsm hcr hcr2 hvn hb1 hb2 hb3 f1
      go_wp2
      generalize ((wr.alloc (.cells #[.int .i64 id, .bool hd0, .int .i64 xk, .int .i64 xp, .string xN, .int .i64 xz, .int .i64 xm, .int .u64 xs, .int .i64 xh, .string xT, .int .i64 p1, .int .i64 p2, .slice va vn vc] 55)).alloc (.cells #[.int .i64 id, .bool hd0, .int .i64 xk, .int .i64 xp, .string xN, .int .i64 xz, .int .i64 xm, .int .u64 xs, .int .i64 xh, .string xT, .int .i64 p1, .int .i64 p2, .slice va2 vn vc2] 55)) = W at HX1 HX2 HBC HCR HCR2 ⊢
      clear c0 c1 c2 c3 c4 c5 c6 c7 c8 c9 c10 c11 c12 e0 e1 e2 e3 e4 e5 e6 e7 e8 e9 e10 e11 e12
      go_loopw [8] (fun s8 wr2 => ∃ (j q : Nat), j ≤ vn ∧ s8 = .int .i64 j ∧ wr2 = W.drewN q)
        (fun s8 _ => vn - (intOf s8).toNat)
      case atStart => exact ⟨0, 0, Nat.zero_le _, rfl, rfl⟩
      case round =>
        obtain ⟨j, q, hj, rfl, rfl⟩ := hrel
        have HXA : (W.drewN q).heap[wr.heap.size]? = some (.cells #[.int .i64 id, .bool hd0, .int .i64 xk, .int .i64 xp, .string xN, .int .i64 xz, .int .i64 xm, .int .u64 xs, .int .i64 xh, .string xT, .int .i64 p1, .int .i64 p2, .slice va vn vc] 55 (0, 0)) := HX1.out
        have HXB : (W.drewN q).heap[wr.heap.size + 1]? = some (.cells #[.int .i64 id, .bool hd0, .int .i64 xk, .int .i64 xp, .string xN, .int .i64 xz, .int .i64 xm, .int .u64 xs, .int .i64 xh, .string xT, .int .i64 p1, .int .i64 p2, .slice va2 vn vc2] 55 (0, 0)) := HX2.out
        have k12 : W.cell? ⟨wr.heap.size, 12, none⟩ = some (.slice va vn vc) := blk_cell HX1.out 12 rfl
        have l12 : W.cell? ⟨wr.heap.size + 1, 12, none⟩ = some (.slice va2 vn vc2) := blk_cell HX2.out 12 rfl
        clear HXA HXB
        by_cases hjl : j < vn
        · have hjc : j < ch.length := by rw [HVN.out]; exact hjl
          obtain ⟨g, o1, rfl, _, hg⟩ := ReadsC.cells HCR.out (by omega)
          obtain ⟨g2, o2, rfl, _, hg2⟩ := ReadsC.cells HCR2.out (by omega)
          obtain ⟨m0, m1, m2, m3⟩ := hg j hjc
          obtain ⟨n0, n1, n2, n3⟩ := hg2 j hjc
          obtain ⟨⟨y0, ⟨y1, y2⟩, y3⟩, hY⟩ : ∃ X, ch[j] = X := ⟨_, rfl⟩
          rw [hY] at m0 m1 m2 m3 n0 n1 n2 n3
          simp only at m0 m1 m2 m3 n0 n1 n2 n3
          have d9 : (j : Int) < vn := by omega
          clear hg hg2 hY hjc
          go_wp2
          go_quiet (fail)
          go_wp2
          go_roundw
          case rel => exact ⟨j + 1, _, by omega, by go_num, rfl⟩
          case measure => simp [intOf]; omega
        · have hjn : j = vn := by omega
          subst hjn
          go_wp2
          go_roundw
          case rel => exact ⟨k + 1, by omega, by go_num, below_drew _ HBC.out⟩
          case measure => simp [intOf]; omega
    · have hkn : k = len := by omega
      subst hkn
      go_wp2
      go_ret
      exact ⟨rfl, HB.out⟩

set_option maxHeartbeats 4000000 in
set_option maxRecDepth 100000 in
theorem same8 (s : St) (ba oa ba2 oa2 : Option Addr) (n m bc oc bc2 oc2 : Nat) (ls ms : List (Ob × Value)) (w : World) (h1 : StOn w s ba oa n m ls) (h2 : StOn w s ba2 oa2 n m ms) :
    Calls Try.prog 8 #[.agg #[.int .u64 s.fl, .int .u64 s.nx, .int .i64 s.cu, .int .i64 s.la, .slice ba n bc, .slice oa m oc], .agg #[.int .u64 s.fl, .int .u64 s.nx, .int .i64 s.cu, .int .i64 s.la, .slice ba2 n bc2, .slice oa2 m oc2]] w fun e w' => e = .returned (.bool true) ∧ Below w.heap.size w w' := by
  obtain ⟨fl, nx, cu, la, bs, os⟩ := s
  simp only
  have hbn := ReadsL.len h1.b blk_len (by decide)
  simp only at hbn
  have HBN := hide hbn
  have hb1 := below_alloc w (.cells #[.int .u64 fl, .int .u64 nx, .int .i64 cu, .int .i64 la, .slice ba n bc, .slice oa m oc] 27)
  have hb2 := below_alloc (w.alloc (.cells #[.int .u64 fl, .int .u64 nx, .int .i64 cu, .int .i64 la, .slice ba n bc, .slice oa m oc] 27)) (.cells #[.int .u64 fl, .int .u64 nx, .int .i64 cu, .int .i64 la, .slice ba2 n bc2, .slice oa2 m oc2] 27)
  have hb3 : Below w.heap.size w ((w.alloc (.cells #[.int .u64 fl, .int .u64 nx, .int .i64 cu, .int .i64 la, .slice ba n bc, .slice oa m oc] 27)).alloc (.cells #[.int .u64 fl, .int .u64 nx, .int .i64 cu, .int .i64 la, .slice ba2 n bc2, .slice oa2 m oc2] 27)) := hb1.trans (hb2.mono hb1.size)
  have HX1 := hide (show ((w.alloc (.cells #[.int .u64 fl, .int .u64 nx, .int .i64 cu, .int .i64 la, .slice ba n bc, .slice oa m oc] 27)).alloc (.cells #[.int .u64 fl, .int .u64 nx, .int .i64 cu, .int .i64 la, .slice ba2 n bc2, .slice oa2 m oc2] 27)).heap[w.heap.size]? = some (.cells #[.int .u64 fl, .int .u64 nx, .int .i64 cu, .int .i64 la, .slice ba n bc, .slice oa m oc] 27 (0, 0)) from (hb2.block _ (by simp)).trans (heap_alloc_new w _))
  have HX2 := hide (show ((w.alloc (.cells #[.int .u64 fl, .int .u64 nx, .int .i64 cu, .int .i64 la, .slice ba n bc, .slice oa m oc] 27)).alloc (.cells #[.int .u64 fl, .int .u64 nx, .int .i64 cu, .int .i64 la, .slice ba2 n bc2, .slice oa2 m oc2] 27)).heap[w.heap.size + 1]? = some (.cells #[.int .u64 fl, .int .u64 nx, .int .i64 cu, .int .i64 la, .slice ba2 n bc2, .slice oa2 m oc2] 27 (0, 0)) from by have h9 := heap_alloc_new (w.alloc (.cells #[.int .u64 fl, .int .u64 nx, .int .i64 cu, .int .i64 la, .slice ba n bc, .slice oa m oc] 27)) (.cells #[.int .u64 fl, .int .u64 nx, .int .i64 cu, .int .i64 la, .slice ba2 n bc2, .slice oa2 m oc2] 27); rw [World.size_alloc] at h9; exact h9)
  have HBC := hide hb3
  have HA := hide (h1.below hb3)
  have HB := hide (h2.below hb3)
  have hnl := h1.nl
  have HE := hide (show ls.map Prod.fst = ms.map Prod.fst by rw [h1.os, h2.os])
  have HML := hide h1.ml
  have d1 : (fl != fl) = false := by simp
  have d2 : (nx != nx) = false := by simp
  have d3 : (cu != cu) = false := by simp
  have d4 : (la != la) = false := by simp
  have d5 : ((n : Int) != n) = false := by simp
  have q48 := sne48
  have g48 := gd48
  clear h1 h2 hb1 hb2 hb3 hbn
  go_enter Try.func8, Try.ntmps8
  go_wp2
  generalize ((w.alloc (.cells #[.int .u64 fl, .int .u64 nx, .int .i64 cu, .int .i64 la, .slice ba n bc, .slice oa m oc] 27)).alloc (.cells #[.int .u64 fl, .int .u64 nx, .int .i64 cu, .int .i64 la, .slice ba2 n bc2, .slice oa2 m oc2] 27)) = W at HX1 HX2 HBC HA HB ⊢
  go_loopw [5] (fun s5 wr2 => ∃ (j q : Nat), j ≤ n ∧ s5 = .int .i64 j ∧ wr2 = W.drewN q)
    (fun s5 _ => n - (intOf s5).toNat)
  case atStart => exact ⟨0, 0, Nat.zero_le _, rfl, rfl⟩
  case round =>
    obtain ⟨j, q, hj, rfl, rfl⟩ := hrel
    have k4 : W.cell? ⟨w.heap.size, 4, none⟩ = some (.slice ba n bc) := blk_cell HX1.out 4 rfl
    have l4 : W.cell? ⟨w.heap.size + 1, 4, none⟩ = some (.slice ba2 n bc2) := blk_cell HX2.out 4 rfl
    have k5 : W.cell? ⟨w.heap.size, 5, none⟩ = some (.slice oa m oc) := blk_cell HX1.out 5 rfl
    have l5 : W.cell? ⟨w.heap.size + 1, 5, none⟩ = some (.slice oa2 m oc2) := blk_cell HX2.out 5 rfl
    by_cases hjl : j < n
    · have hjc : j < bs.length := by rw [HBN.out]; exact hjl
      obtain ⟨g, o1, rfl, _, hg⟩ := ReadsK.cells HA.out.b (by omega)
      obtain ⟨g2, o2, rfl, _, hg2⟩ := ReadsK.cells HB.out.b (by omega)
      obtain ⟨m0, m1, m2, m3⟩ := hg j hjc
      obtain ⟨n0, n1, n2, n3⟩ := hg2 j hjc
      simp only at m0 m1 m2 m3 n0 n1 n2 n3
      obtain ⟨⟨y0, y1, y2, y3⟩, hY⟩ : ∃ X, bs[j] = X := ⟨_, rfl⟩
      rw [hY] at m0 m1 m2 m3 n0 n1 n2 n3
      simp only at m0 m1 m2 m3 n0 n1 n2 n3
      have d9 : (j : Int) < n := by omega
      clear hg hg2 hY hjc k5 l5
      go_wp2
      go_quiet (fail)
      go_wp2
      go_roundw
      case rel => exact ⟨j + 1, _, by omega, by go_num, rfl⟩
      case measure => simp [intOf]; omega
    · have hjn : j = n := by omega
      subst hjn
      have HBq := hide (below_drew q HBC.out)
      have hdq : Below W.heap.size W (W.drewN q) := ⟨rfl, rfl, rfl, Nat.le_refl _, fun _ _ => rfl⟩
      have HA2 := hide (HA.out.below hdq)
      have HB2 := hide (HB.out.below hdq)
      clear hdq
      go_wp2_with (go_at_call 20; refine (same20 oa oa2 m oc oc2 ls ms _ HA2.out.o HB2.out.o HA2.out.c HB2.out.c HE.out HML.out).mono ?_; rintro e u9 ⟨rfl, b9⟩; have HB9 := hide (HBq.out.trans (b9.mono HBq.out.size)); clear b9)
      go_ret
      exact ⟨rfl, HB9.out⟩
end Go.Proofs.Ytoaahellfflooaa
