/-
  SEAT Ytoaahellfflooaa.
-/
import Derived.Deep.RegionHeld3
import Derived.Deep.Cut
import Derived.Test.YtoaahellfflooaaVEf
import Derived.Test.YtoaahellfflooaaVKz
namespace Go.Proofs.Ytoaahellfflooaa
open Go.RowKit
set_option linter.unusedVariables false

theorem drewB (w : World) : Below w.heap.size w w.drew := ⟨rfl, rfl, rfl, Nat.le_refl _, fun _ _ => rfl⟩
theorem blk_no {x : Blk} (h : x.st < 0 ∨ 6 < x.st ∨ 281474976710655 < x.hd ∨ x.lv < 0 ∨ 256 < x.lv) : blkOk x = false := by
  unfold blkOk
  rcases h with h | h | h | h | h
  · rw [rg_not.2 (Or.inl h)]; rfl
  · rw [rg_not.2 (Or.inr h)]; rfl
  · rw [decide_eq_false (show ¬ x.hd ≤ 281474976710655 by omega)]; simp
  · rw [rg_not.2 (show x.lv < 0 ∨ 256 < x.lv from Or.inl h)]; simp
  · rw [rg_not.2 (show x.lv < 0 ∨ 256 < x.lv from Or.inr h)]; simp
theorem blk_yes {x : Blk} (h : 0 ≤ x.st ∧ x.st ≤ 6 ∧ x.hd ≤ 281474976710655 ∧ 0 ≤ x.lv ∧ x.lv ≤ 256) : blkOk x = true := by
  unfold blkOk
  rw [rg_iff.2 ⟨h.1, h.2.1⟩, decide_eq_true h.2.2.1, rg_iff.2 h.2.2.2]; rfl
theorem may_no {s : St} (h : 281474976710655 < s.fl ∨ 281474976710656 < s.nx ∨ 4096 < s.bs.length ∨ s.cu < -1 ∨ (s.bs.length : Int) ≤ s.cu ∨ s.la < -1 ∨ (s.bs.length : Int) ≤ s.la ∨ s.bs.all blkOk = false ∨ obL 1 s.os = false) : mayS s = false := by
  unfold mayS
  rcases h with h | h | h | h | h | h | h | h | h
  · rw [decide_eq_false (show ¬ s.fl ≤ 281474976710655 by omega)]; rfl
  · rw [decide_eq_false (show ¬ s.nx ≤ 281474976710656 by omega)]; simp
  · rw [decide_eq_false (show ¬ s.bs.length ≤ 4096 by omega)]; simp
  · rw [rg_not.2 (show s.cu < -1 ∨ (s.bs.length : Int) - 1 < s.cu by omega)]; simp
  · rw [rg_not.2 (show s.cu < -1 ∨ (s.bs.length : Int) - 1 < s.cu by omega)]; simp
  · rw [rg_not.2 (show s.la < -1 ∨ (s.bs.length : Int) - 1 < s.la by omega)]; simp
  · rw [rg_not.2 (show s.la < -1 ∨ (s.bs.length : Int) - 1 < s.la by omega)]; simp
  · rw [h]; simp
  · rw [h]; simp
theorem may_yes {s : St} (h : s.fl ≤ 281474976710655 ∧ s.nx ≤ 281474976710656 ∧ s.bs.length ≤ 4096 ∧ -1 ≤ s.cu ∧ s.cu < s.bs.length ∧ -1 ≤ s.la ∧ s.la < s.bs.length) (h1 : s.bs.all blkOk = true) (h2 : obL 1 s.os = true) : mayS s = true := by
  unfold mayS
  rw [h1, h2, decide_eq_true h.1, decide_eq_true h.2.1, decide_eq_true h.2.2.1, rg_iff.2 (by omega), rg_iff.2 (by omega)]; rfl

set_option maxHeartbeats 4000000 in
set_option maxRecDepth 100000 in
theorem rmay16 (s : St) (ba oa : Option Addr) (n m bc oc : Nat) (ls : List (Ob × Value)) (w : World) (hs : StOn w s ba oa n m ls) : Calls Try.prog 16 #[.agg #[.int .u64 s.fl, .int .u64 s.nx, .int .i64 s.cu, .int .i64 s.la, .slice ba n bc, .slice oa m oc]] w fun e w' => e = .returned (.bool (mayS s)) ∧ Below w.heap.size w w' := by
  obtain ⟨fl, nx, cu, la, bs, os⟩ := s
  have hbn := ReadsL.len hs.b blk_len (by decide)
  have hon : os.length = m := by have h1 := ReadsO.len hs.o; have h2 := hs.os; simp only at h2; rw [← h2, List.length_map]; exact h1
  simp only at hbn
  have HBN := hide hbn
  have HON := hide hon
  have NO := hide (fun h => may_no (s := ⟨fl, nx, cu, la, bs, os⟩) h)
  have YES := hide (fun h => may_yes (s := ⟨fl, nx, cu, la, bs, os⟩) h)
  simp only [hbn] at NO YES
  obtain ⟨R, hR⟩ : ∃ R, mayS ⟨fl, nx, cu, la, bs, os⟩ = R := ⟨_, rfl⟩
  rw [hR] at NO YES ⊢
  simp only
  have HS := hide hs
  have HB := hide (below_alloc w (.cells #[.int .u64 fl, .int .u64 nx, .int .i64 cu, .int .i64 la, .slice ba n bc, .slice oa m oc] 27))
  have hnl := hs.nl
  have hml := hs.ml
  clear hs hR hbn hon
  by_cases g0 : (281474976710655 : Int) < fl
  · have HF := hide (NO.out (Or.inl g0))
    clear NO YES
    go_enter Try.func16, Try.ntmps16
    go_wp2
    go_ret
    exact ⟨ret_bool HF.out.symm, HB.out⟩
  have d0 : decide ((281474976710655 : Int) < fl) = false := decide_eq_false g0
  have HG0 := hide g0
  clear g0
  by_cases g1 : (281474976710656 : Int) < nx
  · have HF := hide (NO.out (Or.inr (Or.inl g1)))
    clear NO YES
    go_enter Try.func16, Try.ntmps16
    go_wp2
    go_ret
    exact ⟨ret_bool HF.out.symm, HB.out⟩
  have d1 : decide ((281474976710656 : Int) < nx) = false := decide_eq_false g1
  have HG1 := hide g1
  clear g1
  by_cases g2 : (4096 : Int) < n
  · have HF := hide (NO.out (Or.inr (Or.inr (Or.inl (by omega)))))
    clear NO YES
    go_enter Try.func16, Try.ntmps16
    go_wp2
    go_ret
    exact ⟨ret_bool HF.out.symm, HB.out⟩
  have d2 : decide ((4096 : Int) < n) = false := decide_eq_false g2
  have HG2 := hide g2
  clear g2
  by_cases g3 : cu < -1
  · have HF := hide (NO.out (Or.inr (Or.inr (Or.inr (Or.inl g3)))))
    clear NO YES
    go_enter Try.func16, Try.ntmps16
    go_wp2
    go_ret
    exact ⟨ret_bool HF.out.symm, HB.out⟩
  have d3 : decide (cu < -1) = false := decide_eq_false g3
  have HG3 := hide g3
  clear g3
  by_cases g4 : (n : Int) ≤ cu
  · have HF := hide (NO.out (Or.inr (Or.inr (Or.inr (Or.inr (Or.inl g4))))))
    clear NO YES
    go_enter Try.func16, Try.ntmps16
    go_wp2
    go_ret
    exact ⟨ret_bool HF.out.symm, HB.out⟩
  have d4 : decide ((n : Int) ≤ cu) = false := decide_eq_false g4
  have HG4 := hide g4
  clear g4
  by_cases g5 : la < -1
  · have HF := hide (NO.out (Or.inr (Or.inr (Or.inr (Or.inr (Or.inr (Or.inl g5)))))))
    clear NO YES
    go_enter Try.func16, Try.ntmps16
    go_wp2
    go_ret
    exact ⟨ret_bool HF.out.symm, HB.out⟩
  have d5 : decide (la < -1) = false := decide_eq_false g5
  have HG5 := hide g5
  clear g5
  by_cases g6 : (n : Int) ≤ la
  · have HF := hide (NO.out (Or.inr (Or.inr (Or.inr (Or.inr (Or.inr (Or.inr (Or.inl g6))))))))
    clear NO YES
    go_enter Try.func16, Try.ntmps16
    go_wp2
    go_ret
    exact ⟨ret_bool HF.out.symm, HB.out⟩
  have d6 : decide ((n : Int) ≤ la) = false := decide_eq_false g6
  have HG6 := hide g6
  clear g6
  by_cases g7 : (1048575 : Int) < m
  · have HF := hide (NO.out (Or.inr (Or.inr (Or.inr (Or.inr (Or.inr (Or.inr (Or.inr (Or.inr ((by cases h : obL 1 os with | false => rfl | true => exact absurd (obL_cap os 1 (by omega) h) (by rw [HON.out]; omega))))))))))))
    clear NO YES
    go_enter Try.func16, Try.ntmps16
    go_wp2
    go_ret
    exact ⟨ret_bool HF.out.symm, HB.out⟩
  have d7 : decide ((1048575 : Int) < m) = false := decide_eq_false g7
  clear g7
  go_enter Try.func16, Try.ntmps16
  go_wp2
  go_loopw [4] (fun s4 wr => ∃ (k : Nat), k ≤ n ∧ s4 = .int .i64 k ∧ Hid (bs.all blkOk = (bs.drop k).all blkOk) ∧ Hid (Below w.heap.size w wr) ∧ wr.heap[w.heap.size]? = some (.cells #[.int .u64 fl, .int .u64 nx, .int .i64 cu, .int .i64 la, .slice ba n bc, .slice oa m oc] 27 (0, 0)))
    (fun s4 _ => n - (intOf s4).toNat)
  case atStart => exact ⟨0, Nat.zero_le _, rfl, rfl, HB, heap_alloc_new w _⟩
  case round =>
    obtain ⟨k, hk, rfl, HA, HBr, hbox⟩ := hrel
    have HBX := hide hbox
    have cb4 : wr.cell? ⟨w.heap.size, 4, none⟩ = some (.slice ba n bc) := blk_cell hbox 4 rfl
    clear hbox
    by_cases hlt : k < n
    · have hkl : k < bs.length := by rw [HBN.out]; exact hlt
      obtain ⟨b, off, rfl, hbs, hc⟩ := ReadsK.cells (ReadsL.below HS.out.b HBr.out) (by omega)
      have hd : bs.drop k = bs[k] :: bs.drop (k + 1) := List.drop_eq_getElem_cons hkl
      obtain ⟨c0, c1, c2, c3⟩ := hc k hkl
      obtain ⟨⟨x0, x1, x2, x3⟩, hX⟩ : ∃ X, bs[k] = X := ⟨_, rfl⟩
      rw [hX] at c0 c1 c2 c3 hd
      simp only at c0 c1 c2 c3
      have HD := hide hd
      have e9 : (k : Int) < n := by omega
      have HB2 := hide (HBr.out.trans ((below_alloc wr (.cells #[.int .i64 x0, .int .u64 x1, .bool x2, .int .i64 x3] 48)).mono HBr.out.size))
      have HBY := hide (((below_alloc wr (.cells #[.int .i64 x0, .int .u64 x1, .bool x2, .int .i64 x3] 48)).block _ (lt_of_block HBX.out)).trans HBX.out)
      clear hc hd hX hkl
      have stop : ∀ (h : x0 < 0 ∨ 6 < x0 ∨ 281474976710655 < x1 ∨ x3 < 0 ∨ 256 < x3), R = false := fun h =>
        NO.out (Or.inr (Or.inr (Or.inr (Or.inr (Or.inr (Or.inr (Or.inr (Or.inl (by (try simp only); rw [HA.out, HD.out, List.all_cons, blk_no (x := ⟨x0, x1, x2, x3⟩) h]; rfl)))))))))
      have HST := hide stop
      clear stop
      by_cases f0 : x0 < 0
      · have HF := hide (HST.out (Or.inl f0))
        go_wp2
        go_ret
        exact ⟨ret_bool HF.out.symm, HB2.out⟩
      have e0 : decide (x0 < 0) = false := decide_eq_false f0
      have HF0 := hide f0
      clear f0
      by_cases f1 : 6 < x0
      · have HF := hide (HST.out (Or.inr (Or.inl f1)))
        go_wp2
        go_ret
        exact ⟨ret_bool HF.out.symm, HB2.out⟩
      have e1 : decide (6 < x0) = false := decide_eq_false f1
      have HF1 := hide f1
      clear f1
      by_cases f2 : (281474976710655 : Int) < x1
      · have HF := hide (HST.out (Or.inr (Or.inr (Or.inl f2))))
        go_wp2
        go_ret
        exact ⟨ret_bool HF.out.symm, HB2.out⟩
      have e2 : decide ((281474976710655 : Int) < x1) = false := decide_eq_false f2
      have HF2 := hide f2
      clear f2
      by_cases f3 : x3 < 0
      · have HF := hide (HST.out (Or.inr (Or.inr (Or.inr (Or.inl f3)))))
        go_wp2
        go_ret
        exact ⟨ret_bool HF.out.symm, HB2.out⟩
      have e3 : decide (x3 < 0) = false := decide_eq_false f3
      have HF3 := hide f3
      clear f3
      by_cases f4 : 256 < x3
      · have HF := hide (HST.out (Or.inr (Or.inr (Or.inr (Or.inr f4)))))
        go_wp2
        go_ret
        exact ⟨ret_bool HF.out.symm, HB2.out⟩
      have e4 : decide (256 < x3) = false := decide_eq_false f4
      have HF4 := hide f4
      clear f4
      have HGO := hide (blk_yes (x := ⟨x0, x1, x2, x3⟩) (by have := HF0.out; have := HF1.out; have := HF2.out; have := HF3.out; have := HF4.out; simp only; omega))
      go_wp2
      go_roundw
      case rel => exact ⟨k + 1, by omega, by go_num, by show _ = _; rw [HA.out, HD.out, List.all_cons, HGO.out, Bool.true_and], HB2, HBY.out⟩
      case measure => simp [intOf]; omega
    · have e9n : decide ((k : Int) < n) = false := decide_eq_false (by omega)
      have HE := hide (show bs.all blkOk = true by rw [HA.out, List.drop_of_length_le (by rw [HBN.out]; omega)]; rfl)
      have HBr0 := HBr
      have HBX0 := HBX
      clear HA HBr HBX cb4
      go_wp2
      clear e9n hlt hk
      go_loopw [6] (fun s6 wr => ∃ (k : Nat) (a : Int), k ≤ m ∧ s6 = .int .i64 k ∧ 1 ≤ a ∧ a ≤ 1048575 ∧ (0 < k → ∃ h : k - 1 < ls.length, ls[k - 1].1.id = a) ∧ (k = 0 → a = 1) ∧ Hid (obL 1 os = obL a ((ls.drop k).map Prod.fst)) ∧ Hid (Below w.heap.size w wr) ∧ wr.heap[w.heap.size]? = some (.cells #[.int .u64 fl, .int .u64 nx, .int .i64 cu, .int .i64 la, .slice ba n bc, .slice oa m oc] 27 (0, 0)))
        (fun s6 _ => m - (intOf s6).toNat)
      case atStart => exact ⟨0, 1, Nat.zero_le _, rfl, by omega, by omega, (fun h => absurd h (by omega)), (fun _ => rfl), by show _ = _; have := HS.out.os; simp only at this; rw [← this]; rfl, HBr0, HBX0.out⟩
      case round =>
        clear HBr0 HBX0
        obtain ⟨k, a, hk, rfl, ha0, ha1, hprev, hz, HA, HBr, hbox⟩ := hrel
        have HBX := hide hbox
        have HPV := hide hprev
        have HZ := hide hz
        have cb5 : wr.cell? ⟨w.heap.size, 5, none⟩ = some (.slice oa m oc) := blk_cell hbox 5 rfl
        clear hbox hprev hz
        by_cases hlt : k < m
        · have hln := HS.out.o.len
          have hkl : k < ls.length := by rw [hln]; exact hlt
          obtain ⟨b, off, rfl, hbs, hc⟩ := ReadsO.cells (ReadsL.below HS.out.o HBr.out) (by omega)
          have HCC := hide hc
          have hd : ls.drop k = ls[k] :: ls.drop (k + 1) := List.drop_eq_getElem_cons hkl
          have hcc := hc k hkl
          obtain ⟨va, vc, hv, hcr, hcl⟩ := HS.out.c.below HBr.out ls[k] (List.getElem_mem hkl)
          have hsz := HS.out.sz ls[k] (List.getElem_mem hkl)
          obtain ⟨⟨⟨id, hd0, ⟨xk, xp, xN, xz, xm, xs, xh, xT⟩, ⟨p1, p2⟩, ch⟩, vv⟩, hX⟩ : ∃ X, ls[k] = X := ⟨_, rfl⟩
          have HX : Hid (∃ h : k < ls.length, ls[k].1.id = id) := ⟨hkl, by rw [hX]⟩
          rw [hX] at hcc hd hv hcr hcl hsz
          simp only at hcc hv hcr hcl hsz
          subst hv
          obtain ⟨vn, hvn⟩ : ∃ vn, ch.length = vn := ⟨_, rfl⟩
          rw [hvn] at hcc hcl hcr hd
          have HD := hide (show (ls.drop k).map Prod.fst = (⟨id, hd0, ⟨xk, xp, xN, xz, xm, xs, xh, xT⟩, (p1, p2), ch⟩ : Ob) :: (ls.drop (k + 1)).map Prod.fst by rw [hd]; rfl)
          have hcells : wr.cell? ⟨b, off + k * 13, none⟩ = some (.int .i64 id) ∧ wr.cell? ⟨b, off + k * 13 + 1, none⟩ = some (.bool hd0) ∧ wr.cell? ⟨b, off + k * 13 + 2, none⟩ = some (.int .i64 xk) ∧ wr.cell? ⟨b, off + k * 13 + 3, none⟩ = some (.int .i64 xp) ∧ wr.cell? ⟨b, off + k * 13 + 4, none⟩ = some (.string xN) ∧ wr.cell? ⟨b, off + k * 13 + 5, none⟩ = some (.int .i64 xz) ∧ wr.cell? ⟨b, off + k * 13 + 6, none⟩ = some (.int .i64 xm) ∧ wr.cell? ⟨b, off + k * 13 + 7, none⟩ = some (.int .u64 xs) ∧ wr.cell? ⟨b, off + k * 13 + 8, none⟩ = some (.int .i64 xh) ∧ wr.cell? ⟨b, off + k * 13 + 9, none⟩ = some (.string xT) ∧ wr.cell? ⟨b, off + k * 13 + 10, none⟩ = some (.int .i64 p1) ∧ wr.cell? ⟨b, off + k * 13 + 11, none⟩ = some (.int .i64 p2) ∧ wr.cell? ⟨b, off + k * 13 + 12, none⟩ = some (.slice va vn vc) := ⟨hcc 0 _ rfl, hcc 1 _ rfl, hcc 2 _ rfl, hcc 3 _ rfl, hcc 4 _ rfl, hcc 5 _ rfl, hcc 6 _ rfl, hcc 7 _ rfl, hcc 8 _ rfl, hcc 9 _ rfl, hcc 10 _ rfl, hcc 11 _ rfl, hcc 12 _ rfl⟩
          have HCL13 := hide hcells
          have hob := robj33 (⟨id, hd0, ⟨xk, xp, xN, xz, xm, xs, xh, xT⟩, (p1, p2), ch⟩ : Ob) va vn vc (wr.drew) hsz (ReadsL.below hcr (drewB wr)) hcl
          obtain ⟨Q1, hQ1⟩ : ∃ Q1, obOk ⟨id, hd0, ⟨xk, xp, xN, xz, xm, xs, xh, xT⟩, (p1, p2), ch⟩ = Q1 := ⟨_, rfl⟩
          rw [hQ1] at hob
          have HOB := hide hob
          have HQ1 := hide hQ1
          have e9 : (k : Int) < m := by omega
          clear hc hd hX hkl hcc hsz hcr hcl hvn hln hob hQ1
          have HLL := hide (obL_ob (a := a) (o := ⟨id, hd0, ⟨xk, xp, xN, xz, xm, xs, xh, xT⟩, (p1, p2), ch⟩) (r := (ls.drop (k + 1)).map Prod.fst) ha0)
          have stop : Q1 = false ∨ id ≤ a → R = false := fun h => NO.out (Or.inr (Or.inr (Or.inr (Or.inr (Or.inr (Or.inr (Or.inr (Or.inr (by
            (try simp only); rw [HA.out, HD.out, HLL.out, HQ1.out]
            rcases h with h | h
            · rw [h]; rfl
            · rw [decide_eq_false (show ¬ a < id by omega)]; simp)))))))))
          have HST := hide stop
          clear stop
          cases Q1 with
          | false =>
            have HF := hide (HST.out (Or.inl rfl))
            go_upto_region 13 with fail
            refine wp_region_held_drew (S := (fun u => u.cell? ⟨w.heap.size, 5, none⟩ = some (.slice (some ⟨b, off, none⟩) m oc) ∧ u.cell? ⟨b, off + k * 13, none⟩ = some (.int .i64 id) ∧ u.cell? ⟨b, off + k * 13 + 1, none⟩ = some (.bool hd0) ∧ u.cell? ⟨b, off + k * 13 + 2, none⟩ = some (.int .i64 xk) ∧ u.cell? ⟨b, off + k * 13 + 3, none⟩ = some (.int .i64 xp) ∧ u.cell? ⟨b, off + k * 13 + 4, none⟩ = some (.string xN) ∧ u.cell? ⟨b, off + k * 13 + 5, none⟩ = some (.int .i64 xz) ∧ u.cell? ⟨b, off + k * 13 + 6, none⟩ = some (.int .i64 xm) ∧ u.cell? ⟨b, off + k * 13 + 7, none⟩ = some (.int .u64 xs) ∧ u.cell? ⟨b, off + k * 13 + 8, none⟩ = some (.int .i64 xh) ∧ u.cell? ⟨b, off + k * 13 + 9, none⟩ = some (.string xT) ∧ u.cell? ⟨b, off + k * 13 + 10, none⟩ = some (.int .i64 p1) ∧ u.cell? ⟨b, off + k * 13 + 11, none⟩ = some (.int .i64 p2) ∧ u.cell? ⟨b, off + k * 13 + 12, none⟩ = some (.slice va vn vc))) (by kernel_rfl) (⟨cb5, HCL13.out⟩) (fun hHeld => ?_)
            refine tk 0 ?_
            refine tk 1 ?_
            refine tk 2 ?_
            refine tk 3 ?_
            refine tk 4 ?_
            refine rd 5 (fun K hK => ?_)
            go_simp
            go_at_call 33
            refine HOB.out.mono ?_
            rintro e x9 ⟨rfl, b9⟩
            have hSnew : (fun u => u.cell? ⟨w.heap.size, 5, none⟩ = some (.slice (some ⟨b, off, none⟩) m oc) ∧ u.cell? ⟨b, off + k * 13, none⟩ = some (.int .i64 id) ∧ u.cell? ⟨b, off + k * 13 + 1, none⟩ = some (.bool hd0) ∧ u.cell? ⟨b, off + k * 13 + 2, none⟩ = some (.int .i64 xk) ∧ u.cell? ⟨b, off + k * 13 + 3, none⟩ = some (.int .i64 xp) ∧ u.cell? ⟨b, off + k * 13 + 4, none⟩ = some (.string xN) ∧ u.cell? ⟨b, off + k * 13 + 5, none⟩ = some (.int .i64 xz) ∧ u.cell? ⟨b, off + k * 13 + 6, none⟩ = some (.int .i64 xm) ∧ u.cell? ⟨b, off + k * 13 + 7, none⟩ = some (.int .u64 xs) ∧ u.cell? ⟨b, off + k * 13 + 8, none⟩ = some (.int .i64 xh) ∧ u.cell? ⟨b, off + k * 13 + 9, none⟩ = some (.string xT) ∧ u.cell? ⟨b, off + k * 13 + 10, none⟩ = some (.int .i64 p1) ∧ u.cell? ⟨b, off + k * 13 + 11, none⟩ = some (.int .i64 p2) ∧ u.cell? ⟨b, off + k * 13 + 12, none⟩ = some (.slice va vn vc)) x9 := ⟨(b9.cell (block_lt_of_cell hHeld.1)).trans hHeld.1, (b9.cell (block_lt_of_cell hHeld.2.1)).trans hHeld.2.1, (b9.cell (block_lt_of_cell hHeld.2.2.1)).trans hHeld.2.2.1, (b9.cell (block_lt_of_cell hHeld.2.2.2.1)).trans hHeld.2.2.2.1, (b9.cell (block_lt_of_cell hHeld.2.2.2.2.1)).trans hHeld.2.2.2.2.1, (b9.cell (block_lt_of_cell hHeld.2.2.2.2.2.1)).trans hHeld.2.2.2.2.2.1, (b9.cell (block_lt_of_cell hHeld.2.2.2.2.2.2.1)).trans hHeld.2.2.2.2.2.2.1, (b9.cell (block_lt_of_cell hHeld.2.2.2.2.2.2.2.1)).trans hHeld.2.2.2.2.2.2.2.1, (b9.cell (block_lt_of_cell hHeld.2.2.2.2.2.2.2.2.1)).trans hHeld.2.2.2.2.2.2.2.2.1, (b9.cell (block_lt_of_cell hHeld.2.2.2.2.2.2.2.2.2.1)).trans hHeld.2.2.2.2.2.2.2.2.2.1, (b9.cell (block_lt_of_cell hHeld.2.2.2.2.2.2.2.2.2.2.1)).trans hHeld.2.2.2.2.2.2.2.2.2.2.1, (b9.cell (block_lt_of_cell hHeld.2.2.2.2.2.2.2.2.2.2.2.1)).trans hHeld.2.2.2.2.2.2.2.2.2.2.2.1, (b9.cell (block_lt_of_cell hHeld.2.2.2.2.2.2.2.2.2.2.2.2.1)).trans hHeld.2.2.2.2.2.2.2.2.2.2.2.2.1, (b9.cell (block_lt_of_cell hHeld.2.2.2.2.2.2.2.2.2.2.2.2.2)).trans hHeld.2.2.2.2.2.2.2.2.2.2.2.2.2⟩
            have HB9 := hide (HBr.out.trans ((drewB wr).trans b9 |>.mono HBr.out.size))
            have HBX9 := hide ((b9.block _ (lt_of_block HBX.out)).trans HBX.out)
            clear b9
            go_wp2_with fail
            refine hK.out _ _ hSnew (fun hHeldN => ?_)
            clear hK K hSnew
            clear hHeld
            have hHeld := hHeldN
            clear hHeldN
            try simp only [Act.put, List.setIfInBounds_toArray, List.set_cons_zero, List.set_cons_succ]
            refine tk 6 ?_
            refine tk 7 ?_
            refine tu 8 ?_
            refine tu 9 ?_
            refine tu 10 ?_
            refine tu 11 ?_
            refine tu 12 ?_
            refine tu 13 ?_
            refine tu 14 ?_
            refine tu 15 ?_
            refine tu 16 ?_
            refine tu 17 ?_
            refine tu 18 ?_
            refine tu 19 ?_
            refine tu 20 ?_
            refine tu 21 ?_
            refine tu 22 ?_
            refine tu 23 ?_
            refine tu 24 ?_
            refine tu 25 ?_
            refine tk 26 ?_
            refine wpAnyH_done (by kernel_rfl) ?_ _
            clear hHeld
            go_wp2
            go_ret
            exact ⟨ret_bool HF.out.symm, HB9.out⟩
          | true =>
            have hid2 := HQ1.out
            simp only [obOk, Bool.and_eq_true] at hid2
            have hid3 := rg_iff.1 hid2.1
            (try simp only at hid3)
            have HNO := hide (show 1 ≤ id ∧ id ≤ 1048575 by omega)
            have HI2 := hide hid3
            clear hid2 hid3
            by_cases g6 : k = 0
            · have HAI := hide (show a < id by have := HZ.out g6; have := HI2.out; omega)
              have f0 : decide ((0 : Int) < (k : Int)) = false := decide_eq_false (by omega)
              have f0n : decide (0 < k) = false := decide_eq_false (by omega)
              clear g6
              go_upto_region 13 with fail
              refine wp_region_held_drew (S := (fun u => u.cell? ⟨w.heap.size, 5, none⟩ = some (.slice (some ⟨b, off, none⟩) m oc) ∧ u.cell? ⟨b, off + k * 13, none⟩ = some (.int .i64 id) ∧ u.cell? ⟨b, off + k * 13 + 1, none⟩ = some (.bool hd0) ∧ u.cell? ⟨b, off + k * 13 + 2, none⟩ = some (.int .i64 xk) ∧ u.cell? ⟨b, off + k * 13 + 3, none⟩ = some (.int .i64 xp) ∧ u.cell? ⟨b, off + k * 13 + 4, none⟩ = some (.string xN) ∧ u.cell? ⟨b, off + k * 13 + 5, none⟩ = some (.int .i64 xz) ∧ u.cell? ⟨b, off + k * 13 + 6, none⟩ = some (.int .i64 xm) ∧ u.cell? ⟨b, off + k * 13 + 7, none⟩ = some (.int .u64 xs) ∧ u.cell? ⟨b, off + k * 13 + 8, none⟩ = some (.int .i64 xh) ∧ u.cell? ⟨b, off + k * 13 + 9, none⟩ = some (.string xT) ∧ u.cell? ⟨b, off + k * 13 + 10, none⟩ = some (.int .i64 p1) ∧ u.cell? ⟨b, off + k * 13 + 11, none⟩ = some (.int .i64 p2) ∧ u.cell? ⟨b, off + k * 13 + 12, none⟩ = some (.slice va vn vc))) (by kernel_rfl) (⟨cb5, HCL13.out⟩) (fun hHeld => ?_)
              refine tk 0 ?_
              refine tk 1 ?_
              refine tk 2 ?_
              refine tk 3 ?_
              refine tk 4 ?_
              refine rd 5 (fun K hK => ?_)
              go_simp
              go_at_call 33
              refine HOB.out.mono ?_
              rintro e x9 ⟨rfl, b9⟩
              have hSnew : (fun u => u.cell? ⟨w.heap.size, 5, none⟩ = some (.slice (some ⟨b, off, none⟩) m oc) ∧ u.cell? ⟨b, off + k * 13, none⟩ = some (.int .i64 id) ∧ u.cell? ⟨b, off + k * 13 + 1, none⟩ = some (.bool hd0) ∧ u.cell? ⟨b, off + k * 13 + 2, none⟩ = some (.int .i64 xk) ∧ u.cell? ⟨b, off + k * 13 + 3, none⟩ = some (.int .i64 xp) ∧ u.cell? ⟨b, off + k * 13 + 4, none⟩ = some (.string xN) ∧ u.cell? ⟨b, off + k * 13 + 5, none⟩ = some (.int .i64 xz) ∧ u.cell? ⟨b, off + k * 13 + 6, none⟩ = some (.int .i64 xm) ∧ u.cell? ⟨b, off + k * 13 + 7, none⟩ = some (.int .u64 xs) ∧ u.cell? ⟨b, off + k * 13 + 8, none⟩ = some (.int .i64 xh) ∧ u.cell? ⟨b, off + k * 13 + 9, none⟩ = some (.string xT) ∧ u.cell? ⟨b, off + k * 13 + 10, none⟩ = some (.int .i64 p1) ∧ u.cell? ⟨b, off + k * 13 + 11, none⟩ = some (.int .i64 p2) ∧ u.cell? ⟨b, off + k * 13 + 12, none⟩ = some (.slice va vn vc)) x9 := ⟨(b9.cell (block_lt_of_cell hHeld.1)).trans hHeld.1, (b9.cell (block_lt_of_cell hHeld.2.1)).trans hHeld.2.1, (b9.cell (block_lt_of_cell hHeld.2.2.1)).trans hHeld.2.2.1, (b9.cell (block_lt_of_cell hHeld.2.2.2.1)).trans hHeld.2.2.2.1, (b9.cell (block_lt_of_cell hHeld.2.2.2.2.1)).trans hHeld.2.2.2.2.1, (b9.cell (block_lt_of_cell hHeld.2.2.2.2.2.1)).trans hHeld.2.2.2.2.2.1, (b9.cell (block_lt_of_cell hHeld.2.2.2.2.2.2.1)).trans hHeld.2.2.2.2.2.2.1, (b9.cell (block_lt_of_cell hHeld.2.2.2.2.2.2.2.1)).trans hHeld.2.2.2.2.2.2.2.1, (b9.cell (block_lt_of_cell hHeld.2.2.2.2.2.2.2.2.1)).trans hHeld.2.2.2.2.2.2.2.2.1, (b9.cell (block_lt_of_cell hHeld.2.2.2.2.2.2.2.2.2.1)).trans hHeld.2.2.2.2.2.2.2.2.2.1, (b9.cell (block_lt_of_cell hHeld.2.2.2.2.2.2.2.2.2.2.1)).trans hHeld.2.2.2.2.2.2.2.2.2.2.1, (b9.cell (block_lt_of_cell hHeld.2.2.2.2.2.2.2.2.2.2.2.1)).trans hHeld.2.2.2.2.2.2.2.2.2.2.2.1, (b9.cell (block_lt_of_cell hHeld.2.2.2.2.2.2.2.2.2.2.2.2.1)).trans hHeld.2.2.2.2.2.2.2.2.2.2.2.2.1, (b9.cell (block_lt_of_cell hHeld.2.2.2.2.2.2.2.2.2.2.2.2.2)).trans hHeld.2.2.2.2.2.2.2.2.2.2.2.2.2⟩
              have HB9 := hide (HBr.out.trans ((drewB wr).trans b9 |>.mono HBr.out.size))
              have HBX9 := hide ((b9.block _ (lt_of_block HBX.out)).trans HBX.out)
              clear b9
              go_wp2_with fail
              refine hK.out _ _ hSnew (fun hHeldN => ?_)
              clear hK K hSnew
              clear hHeld
              have hHeld := hHeldN
              clear hHeldN
              try simp only [Act.put, List.setIfInBounds_toArray, List.set_cons_zero, List.set_cons_succ]
              refine tk 6 ?_
              refine tk 7 ?_
              refine tk 8 ?_
              refine tk 9 ?_
              refine tk 10 ?_
              refine tu 11 ?_
              refine tu 12 ?_
              refine tu 13 ?_
              refine tu 14 ?_
              refine tu 15 ?_
              refine tu 16 ?_
              refine tu 17 ?_
              refine tu 18 ?_
              refine tu 19 ?_
              refine tu 20 ?_
              refine tu 21 ?_
              refine tu 22 ?_
              refine tu 23 ?_
              refine tu 24 ?_
              refine tk 25 ?_
              refine tk 26 ?_
              refine wpAnyH_done (by kernel_rfl) ?_ _
              clear hHeld
              go_wp2
              go_roundw
              case rel => exact ⟨k + 1, id, by omega, by go_num, HNO.out.1, HNO.out.2, (fun _ => HX.out.elim fun h9 e9 => ⟨h9, by simp only [Nat.add_sub_cancel, e9]⟩), (fun h => absurd h (by omega)), by show _ = _; rw [HA.out, HD.out, HLL.out, HQ1.out, decide_eq_true HAI.out]; rfl, HB9, HBX9.out⟩
              case measure => simp [intOf]; omega
            · obtain ⟨hpl, hpa⟩ := HPV.out (by omega)
              have hcp := HCC.out (k - 1) hpl 0 _ rfl
              rw [hpa] at hcp
              obtain ⟨k1, hk1⟩ : ∃ k1, k - 1 = k1 := ⟨_, rfl⟩
              have hkk : k = k1 + 1 := by omega
              rw [hk1] at hcp
              have HCP : Hid (wr.cell? ⟨b, off + k1 * 13, none⟩ = some (.int .i64 a)) := hcp
              have HKK := hide hkk
              have f1 : (0 : Int) < (k : Int) := by omega
              have f1n : decide (0 < k) = true := decide_eq_true (by omega)
              have f2 : (k : Int) - 1 = (k1 : Int) := by omega
              have f3 : (k1 : Int) < m := by omega
              have f4 : IntKind.i64.wrap (k1 : Int) = (k1 : Int) := by rw [IntKind.wrap_i64]; omega
              clear hpl hpa hk1 hcp hkk g6
              by_cases g7 : id ≤ a
              · have HF := hide (HST.out (Or.inr g7))
                go_upto_region 13 with fail
                refine wp_region_held_drew (S := (fun u => u.cell? ⟨w.heap.size, 5, none⟩ = some (.slice (some ⟨b, off, none⟩) m oc) ∧ u.cell? ⟨b, off + k * 13, none⟩ = some (.int .i64 id) ∧ u.cell? ⟨b, off + k * 13 + 1, none⟩ = some (.bool hd0) ∧ u.cell? ⟨b, off + k * 13 + 2, none⟩ = some (.int .i64 xk) ∧ u.cell? ⟨b, off + k * 13 + 3, none⟩ = some (.int .i64 xp) ∧ u.cell? ⟨b, off + k * 13 + 4, none⟩ = some (.string xN) ∧ u.cell? ⟨b, off + k * 13 + 5, none⟩ = some (.int .i64 xz) ∧ u.cell? ⟨b, off + k * 13 + 6, none⟩ = some (.int .i64 xm) ∧ u.cell? ⟨b, off + k * 13 + 7, none⟩ = some (.int .u64 xs) ∧ u.cell? ⟨b, off + k * 13 + 8, none⟩ = some (.int .i64 xh) ∧ u.cell? ⟨b, off + k * 13 + 9, none⟩ = some (.string xT) ∧ u.cell? ⟨b, off + k * 13 + 10, none⟩ = some (.int .i64 p1) ∧ u.cell? ⟨b, off + k * 13 + 11, none⟩ = some (.int .i64 p2) ∧ u.cell? ⟨b, off + k * 13 + 12, none⟩ = some (.slice va vn vc) ∧ u.cell? ⟨b, off + k1 * 13, none⟩ = some (.int .i64 a))) (by kernel_rfl) (⟨cb5, HCL13.out.1, HCL13.out.2.1, HCL13.out.2.2.1, HCL13.out.2.2.2.1, HCL13.out.2.2.2.2.1, HCL13.out.2.2.2.2.2.1, HCL13.out.2.2.2.2.2.2.1, HCL13.out.2.2.2.2.2.2.2.1, HCL13.out.2.2.2.2.2.2.2.2.1, HCL13.out.2.2.2.2.2.2.2.2.2.1, HCL13.out.2.2.2.2.2.2.2.2.2.2.1, HCL13.out.2.2.2.2.2.2.2.2.2.2.2.1, HCL13.out.2.2.2.2.2.2.2.2.2.2.2.2, HCP.out⟩) (fun hHeld => ?_)
                refine tk 0 ?_
                refine tk 1 ?_
                refine tk 2 ?_
                refine tk 3 ?_
                refine tk 4 ?_
                refine rd 5 (fun K hK => ?_)
                go_simp
                go_at_call 33
                refine HOB.out.mono ?_
                rintro e x9 ⟨rfl, b9⟩
                have hSnew : (fun u => u.cell? ⟨w.heap.size, 5, none⟩ = some (.slice (some ⟨b, off, none⟩) m oc) ∧ u.cell? ⟨b, off + k * 13, none⟩ = some (.int .i64 id) ∧ u.cell? ⟨b, off + k * 13 + 1, none⟩ = some (.bool hd0) ∧ u.cell? ⟨b, off + k * 13 + 2, none⟩ = some (.int .i64 xk) ∧ u.cell? ⟨b, off + k * 13 + 3, none⟩ = some (.int .i64 xp) ∧ u.cell? ⟨b, off + k * 13 + 4, none⟩ = some (.string xN) ∧ u.cell? ⟨b, off + k * 13 + 5, none⟩ = some (.int .i64 xz) ∧ u.cell? ⟨b, off + k * 13 + 6, none⟩ = some (.int .i64 xm) ∧ u.cell? ⟨b, off + k * 13 + 7, none⟩ = some (.int .u64 xs) ∧ u.cell? ⟨b, off + k * 13 + 8, none⟩ = some (.int .i64 xh) ∧ u.cell? ⟨b, off + k * 13 + 9, none⟩ = some (.string xT) ∧ u.cell? ⟨b, off + k * 13 + 10, none⟩ = some (.int .i64 p1) ∧ u.cell? ⟨b, off + k * 13 + 11, none⟩ = some (.int .i64 p2) ∧ u.cell? ⟨b, off + k * 13 + 12, none⟩ = some (.slice va vn vc) ∧ u.cell? ⟨b, off + k1 * 13, none⟩ = some (.int .i64 a)) x9 := ⟨(b9.cell (block_lt_of_cell hHeld.1)).trans hHeld.1, (b9.cell (block_lt_of_cell hHeld.2.1)).trans hHeld.2.1, (b9.cell (block_lt_of_cell hHeld.2.2.1)).trans hHeld.2.2.1, (b9.cell (block_lt_of_cell hHeld.2.2.2.1)).trans hHeld.2.2.2.1, (b9.cell (block_lt_of_cell hHeld.2.2.2.2.1)).trans hHeld.2.2.2.2.1, (b9.cell (block_lt_of_cell hHeld.2.2.2.2.2.1)).trans hHeld.2.2.2.2.2.1, (b9.cell (block_lt_of_cell hHeld.2.2.2.2.2.2.1)).trans hHeld.2.2.2.2.2.2.1, (b9.cell (block_lt_of_cell hHeld.2.2.2.2.2.2.2.1)).trans hHeld.2.2.2.2.2.2.2.1, (b9.cell (block_lt_of_cell hHeld.2.2.2.2.2.2.2.2.1)).trans hHeld.2.2.2.2.2.2.2.2.1, (b9.cell (block_lt_of_cell hHeld.2.2.2.2.2.2.2.2.2.1)).trans hHeld.2.2.2.2.2.2.2.2.2.1, (b9.cell (block_lt_of_cell hHeld.2.2.2.2.2.2.2.2.2.2.1)).trans hHeld.2.2.2.2.2.2.2.2.2.2.1, (b9.cell (block_lt_of_cell hHeld.2.2.2.2.2.2.2.2.2.2.2.1)).trans hHeld.2.2.2.2.2.2.2.2.2.2.2.1, (b9.cell (block_lt_of_cell hHeld.2.2.2.2.2.2.2.2.2.2.2.2.1)).trans hHeld.2.2.2.2.2.2.2.2.2.2.2.2.1, (b9.cell (block_lt_of_cell hHeld.2.2.2.2.2.2.2.2.2.2.2.2.2.1)).trans hHeld.2.2.2.2.2.2.2.2.2.2.2.2.2.1, (b9.cell (block_lt_of_cell hHeld.2.2.2.2.2.2.2.2.2.2.2.2.2.2)).trans hHeld.2.2.2.2.2.2.2.2.2.2.2.2.2.2⟩
                have HB9 := hide (HBr.out.trans ((drewB wr).trans b9 |>.mono HBr.out.size))
                have HBX9 := hide ((b9.block _ (lt_of_block HBX.out)).trans HBX.out)
                clear b9
                go_wp2_with fail
                refine hK.out _ _ hSnew (fun hHeldN => ?_)
                clear hK K hSnew
                clear hHeld
                have hHeld := hHeldN
                clear hHeldN
                try simp only [Act.put, List.setIfInBounds_toArray, List.set_cons_zero, List.set_cons_succ]
                refine tk 6 ?_
                refine tk 7 ?_
                refine tk 8 ?_
                refine tk 9 ?_
                refine tk 10 ?_
                refine tk 11 ?_
                refine tk 12 ?_
                refine tk 13 ?_
                refine tk 14 ?_
                refine tk 15 ?_
                refine tk 16 ?_
                refine tk 17 ?_
                refine tk 18 ?_
                refine tk 19 ?_
                refine tk 20 ?_
                refine tk 21 ?_
                refine tk 22 ?_
                refine tk 23 ?_
                refine tk 24 ?_
                refine tk 25 ?_
                refine tk 26 ?_
                refine wpAnyH_done (by kernel_rfl) ?_ _
                clear hHeld
                go_wp2
                go_ret
                exact ⟨ret_bool HF.out.symm, HB9.out⟩
              · have e7 : decide (id ≤ a) = false := decide_eq_false g7
                have HAI := hide (show a < id by omega)
                clear g7
                go_upto_region 13 with fail
                refine wp_region_held_drew (S := (fun u => u.cell? ⟨w.heap.size, 5, none⟩ = some (.slice (some ⟨b, off, none⟩) m oc) ∧ u.cell? ⟨b, off + k * 13, none⟩ = some (.int .i64 id) ∧ u.cell? ⟨b, off + k * 13 + 1, none⟩ = some (.bool hd0) ∧ u.cell? ⟨b, off + k * 13 + 2, none⟩ = some (.int .i64 xk) ∧ u.cell? ⟨b, off + k * 13 + 3, none⟩ = some (.int .i64 xp) ∧ u.cell? ⟨b, off + k * 13 + 4, none⟩ = some (.string xN) ∧ u.cell? ⟨b, off + k * 13 + 5, none⟩ = some (.int .i64 xz) ∧ u.cell? ⟨b, off + k * 13 + 6, none⟩ = some (.int .i64 xm) ∧ u.cell? ⟨b, off + k * 13 + 7, none⟩ = some (.int .u64 xs) ∧ u.cell? ⟨b, off + k * 13 + 8, none⟩ = some (.int .i64 xh) ∧ u.cell? ⟨b, off + k * 13 + 9, none⟩ = some (.string xT) ∧ u.cell? ⟨b, off + k * 13 + 10, none⟩ = some (.int .i64 p1) ∧ u.cell? ⟨b, off + k * 13 + 11, none⟩ = some (.int .i64 p2) ∧ u.cell? ⟨b, off + k * 13 + 12, none⟩ = some (.slice va vn vc) ∧ u.cell? ⟨b, off + k1 * 13, none⟩ = some (.int .i64 a))) (by kernel_rfl) (⟨cb5, HCL13.out.1, HCL13.out.2.1, HCL13.out.2.2.1, HCL13.out.2.2.2.1, HCL13.out.2.2.2.2.1, HCL13.out.2.2.2.2.2.1, HCL13.out.2.2.2.2.2.2.1, HCL13.out.2.2.2.2.2.2.2.1, HCL13.out.2.2.2.2.2.2.2.2.1, HCL13.out.2.2.2.2.2.2.2.2.2.1, HCL13.out.2.2.2.2.2.2.2.2.2.2.1, HCL13.out.2.2.2.2.2.2.2.2.2.2.2.1, HCL13.out.2.2.2.2.2.2.2.2.2.2.2.2, HCP.out⟩) (fun hHeld => ?_)
                refine tk 0 ?_
                refine tk 1 ?_
                refine tk 2 ?_
                refine tk 3 ?_
                refine tk 4 ?_
                refine rd 5 (fun K hK => ?_)
                go_simp
                go_at_call 33
                refine HOB.out.mono ?_
                rintro e x9 ⟨rfl, b9⟩
                have hSnew : (fun u => u.cell? ⟨w.heap.size, 5, none⟩ = some (.slice (some ⟨b, off, none⟩) m oc) ∧ u.cell? ⟨b, off + k * 13, none⟩ = some (.int .i64 id) ∧ u.cell? ⟨b, off + k * 13 + 1, none⟩ = some (.bool hd0) ∧ u.cell? ⟨b, off + k * 13 + 2, none⟩ = some (.int .i64 xk) ∧ u.cell? ⟨b, off + k * 13 + 3, none⟩ = some (.int .i64 xp) ∧ u.cell? ⟨b, off + k * 13 + 4, none⟩ = some (.string xN) ∧ u.cell? ⟨b, off + k * 13 + 5, none⟩ = some (.int .i64 xz) ∧ u.cell? ⟨b, off + k * 13 + 6, none⟩ = some (.int .i64 xm) ∧ u.cell? ⟨b, off + k * 13 + 7, none⟩ = some (.int .u64 xs) ∧ u.cell? ⟨b, off + k * 13 + 8, none⟩ = some (.int .i64 xh) ∧ u.cell? ⟨b, off + k * 13 + 9, none⟩ = some (.string xT) ∧ u.cell? ⟨b, off + k * 13 + 10, none⟩ = some (.int .i64 p1) ∧ u.cell? ⟨b, off + k * 13 + 11, none⟩ = some (.int .i64 p2) ∧ u.cell? ⟨b, off + k * 13 + 12, none⟩ = some (.slice va vn vc) ∧ u.cell? ⟨b, off + k1 * 13, none⟩ = some (.int .i64 a)) x9 := ⟨(b9.cell (block_lt_of_cell hHeld.1)).trans hHeld.1, (b9.cell (block_lt_of_cell hHeld.2.1)).trans hHeld.2.1, (b9.cell (block_lt_of_cell hHeld.2.2.1)).trans hHeld.2.2.1, (b9.cell (block_lt_of_cell hHeld.2.2.2.1)).trans hHeld.2.2.2.1, (b9.cell (block_lt_of_cell hHeld.2.2.2.2.1)).trans hHeld.2.2.2.2.1, (b9.cell (block_lt_of_cell hHeld.2.2.2.2.2.1)).trans hHeld.2.2.2.2.2.1, (b9.cell (block_lt_of_cell hHeld.2.2.2.2.2.2.1)).trans hHeld.2.2.2.2.2.2.1, (b9.cell (block_lt_of_cell hHeld.2.2.2.2.2.2.2.1)).trans hHeld.2.2.2.2.2.2.2.1, (b9.cell (block_lt_of_cell hHeld.2.2.2.2.2.2.2.2.1)).trans hHeld.2.2.2.2.2.2.2.2.1, (b9.cell (block_lt_of_cell hHeld.2.2.2.2.2.2.2.2.2.1)).trans hHeld.2.2.2.2.2.2.2.2.2.1, (b9.cell (block_lt_of_cell hHeld.2.2.2.2.2.2.2.2.2.2.1)).trans hHeld.2.2.2.2.2.2.2.2.2.2.1, (b9.cell (block_lt_of_cell hHeld.2.2.2.2.2.2.2.2.2.2.2.1)).trans hHeld.2.2.2.2.2.2.2.2.2.2.2.1, (b9.cell (block_lt_of_cell hHeld.2.2.2.2.2.2.2.2.2.2.2.2.1)).trans hHeld.2.2.2.2.2.2.2.2.2.2.2.2.1, (b9.cell (block_lt_of_cell hHeld.2.2.2.2.2.2.2.2.2.2.2.2.2.1)).trans hHeld.2.2.2.2.2.2.2.2.2.2.2.2.2.1, (b9.cell (block_lt_of_cell hHeld.2.2.2.2.2.2.2.2.2.2.2.2.2.2)).trans hHeld.2.2.2.2.2.2.2.2.2.2.2.2.2.2⟩
                have HB9 := hide (HBr.out.trans ((drewB wr).trans b9 |>.mono HBr.out.size))
                have HBX9 := hide ((b9.block _ (lt_of_block HBX.out)).trans HBX.out)
                clear b9
                go_wp2_with fail
                refine hK.out _ _ hSnew (fun hHeldN => ?_)
                clear hK K hSnew
                clear hHeld
                have hHeld := hHeldN
                clear hHeldN
                try simp only [Act.put, List.setIfInBounds_toArray, List.set_cons_zero, List.set_cons_succ]
                refine tk 6 ?_
                refine tk 7 ?_
                refine tk 8 ?_
                refine tk 9 ?_
                refine tk 10 ?_
                refine tk 11 ?_
                refine tk 12 ?_
                refine tk 13 ?_
                refine tk 14 ?_
                refine tk 15 ?_
                refine tk 16 ?_
                refine tk 17 ?_
                refine tk 18 ?_
                refine tk 19 ?_
                refine tk 20 ?_
                refine tk 21 ?_
                refine tk 22 ?_
                refine tk 23 ?_
                refine tk 24 ?_
                refine tk 25 ?_
                refine tk 26 ?_
                refine wpAnyH_done (by kernel_rfl) ?_ _
                clear hHeld
                go_wp2
                go_roundw
                case rel => exact ⟨k + 1, id, by omega, by go_num, HNO.out.1, HNO.out.2, (fun _ => HX.out.elim fun h9 e9 => ⟨h9, by simp only [Nat.add_sub_cancel, e9]⟩), (fun h => absurd h (by omega)), by show _ = _; rw [HA.out, HD.out, HLL.out, HQ1.out, decide_eq_true HAI.out]; rfl, HB9, HBX9.out⟩
                case measure => simp [intOf]; omega
        · have hkn : k = m := by omega
          subst hkn
          have HE2 := hide (show obL 1 os = true by rw [HA.out, List.drop_of_length_le (by rw [HS.out.o.len]; exact Nat.le_refl _)]; rfl)
          have HY := hide (YES.out (by have := HG0.out; have := HG1.out; have := HG2.out; have := HG3.out; have := HG4.out; have := HG5.out; have := HG6.out; omega) HE.out HE2.out)
          go_wp2
          go_ret
          exact ⟨ret_bool HY.out.symm, HBr.out⟩
end Go.Proofs.Ytoaahellfflooaa
