/-
  SEAT Ytoaahellfflooaa.
-/
import Derived.Test.YtoaahellfflooaaVWb
namespace Go.Proofs.Ytoaahellfflooaa
open Go.RowKit
set_option linter.unusedVariables false

def chkW (c : Chk) : List Int := dg c.no 4 ++ (plW c.at_ ++ dg c.n 2)
theorem chkW_len (c : Chk) : (chkW c).length = 10 := by simp only [chkW, List.length_append, dg_length, plW_len]
theorem flatW_len {α : Type} {f : α → List Int} {st : Nat} (hf : ∀ x, (f x).length = st) : ∀ l : List α, (l.flatMap f).length = l.length * st
  | [] => by simp
  | x :: r => by rw [List.flatMap_cons, List.length_append, hf, flatW_len hf r, List.length_cons, Nat.succ_mul]; omega
theorem take_flat {α : Type} (f : α → List Int) {l : List α} {k : Nat} (hk : k < l.length) : (l.take (k + 1)).flatMap f = (l.take k).flatMap f ++ f l[k] := by
  rw [List.take_add_one, List.getElem?_eq_getElem hk, List.flatMap_append]
  simp
theorem chL_get : ∀ {a : Int} {l : List Chk}, -1 ≤ a → chL a l = true → ∀ c ∈ l, (0 ≤ c.no ∧ c.no ≤ 1048575) ∧ plOk c.at_ = true ∧ (0 ≤ c.n ∧ c.n ≤ 2048)
  | _, [], _, _, c, hc => by cases hc
  | a, x :: r, ha, h, c, hc => by
    rw [chL] at h
    simp only [Bool.and_eq_true] at h
    have h1 := rg_iff.1 h.1
    rcases List.mem_cons.1 hc with rfl | hc
    · exact ⟨by omega, h.2.1, rg_iff.1 h.2.2.1⟩
    · exact chL_get (by omega) h.2.2.2 c hc
def chsW (l : List Chk) : List Int := dg l.length 4 ++ l.flatMap chkW
theorem chsW_len (l : List Chk) : (chsW l).length = 4 + l.length * 10 := by rw [chsW, List.length_append, dg_length, flatW_len chkW_len]
set_option maxHeartbeats 4000000 in
set_option maxRecDepth 100000 in
theorem wchunks_any (B q : Nat) (laid : List Int) (l : List Chk) (va : Option Addr) (n vc : Nat) (w0 w : World) (hW : WrA w B q laid []) (hl : laid.length ≤ 70000000000000) (hB : w0.heap.size = B) (hb0 : Below B w0 w) (hr : ReadsC w0 va n l) (hn : n ≤ 65536) (hc : chL (-1) l = true) :
    Calls Try.prog 29 #[.pointer (some ⟨q, 0, none⟩), .slice va n vc] w (WV w B q (laid ++ chsW l) []) := by
  have hBw := hW.size
  have hln := hr.len chk_len (by decide)
  have HLN := hide hln
  have HR : Hid (∀ u, Kw B [] w u → ReadsC u va n l) := fun u hk => ReadsL.below hr (by rw [hB]; exact hb0.trans hk.bel)
  have HC := hide (chL_get (by omega) hc)
  have HL := hide hl
  have HBW := hide hBw
  have HN := hide (wwhole_any B q laid [] 4 n w hW (by omega) (by omega) (by omega) (by omega) (by omega))
  obtain ⟨lay, hlay⟩ : ∃ lay : Nat → List Int, ∀ k, lay k = laid ++ dg n 4 ++ (l.take k).flatMap chkW := ⟨_, fun _ => rfl⟩
  have hll : ∀ k, k ≤ n → (lay k).length ≤ 70000001000000 := fun k hk => by
    rw [hlay, List.length_append, List.length_append, flatW_len chkW_len, dg_length, List.length_take]
    omega
  have HLL := hide hll
  have HLAY := hide hlay
  clear hW hB hb0 hr hc hl hln hBw hll hlay
  go_enter Try.func29, Try.ntmps29
  go_wp2_with (go_at_call 26; refine HN.out.mono ?_; rintro e u1 ⟨rfl, h1, h2⟩; have HW1 := hide h1; have HK1 := hide h2; clear h1 h2)
  go_loopw [13] (fun s13 wr => ∃ (k : Nat), k ≤ n ∧ s13 = .int .i64 k ∧ Hid (WrA wr B q (lay k) []) ∧ Hid (Kw B [] w wr))
    (fun s13 _ => n - (intOf s13).toNat)
  case atStart => exact ⟨0, Nat.zero_le _, rfl, (by have := HW1.out; show WrA _ _ _ _ _; rw [HLAY.out]; simpa using this), HK1⟩
  case round =>
    obtain ⟨k, hk, rfl, HWr, HKr⟩ := hrel
    by_cases hlt : k < n
    · have hkl : k < l.length := by rw [HLN.out]; exact hlt
      obtain ⟨b, off, rfl, hbs, hc⟩ := ReadsC.cells (HR.out _ HKr.out) (by omega)
      obtain ⟨c0, c1, c2, c3⟩ := hc k hkl
      have hck := HC.out l[k] (List.getElem_mem hkl)
      have hfl := take_flat chkW hkl
      have hnx := HLAY.out (k + 1)
      obtain ⟨⟨no, ⟨p1, p2⟩, m⟩, hX⟩ : ∃ X, l[k] = X := ⟨_, rfl⟩
      rw [hX] at c0 c1 c2 c3 hck hfl
      simp only at c0 c1 c2 c3 hck
      obtain ⟨⟨hn0, hn1⟩, hp, hm0, hm1⟩ := hck
      rw [hfl, ← List.append_assoc, ← HLAY.out k] at hnx
      obtain ⟨LK, hLK⟩ : ∃ LK, lay k = LK := ⟨_, rfl⟩
      have hlk := HLL.out k hk
      rw [hLK] at hnx hlk HWr
      have d1 : (k : Int) < n := by omega
      have e4 : (256 : Int) ^ 4 = 4294967296 := by decide
      have e2 : (256 : Int) ^ 2 = 65536 := by decide
      have hb := below_alloc wr (.cells #[.int .i64 no, .int .i64 p1, .int .i64 p2, .int .i64 m] 71)
      have hbd : Below wr.heap.size wr (wr.alloc (.cells #[.int .i64 no, .int .i64 p1, .int .i64 p2, .int .i64 m] 71)).drew := hb.trans ((drewB _).mono (by simp))
      have HK0 := hide (HKr.out.trans (Kw.of_below HWr.out.size hbd))
      have HX : Hid ((wr.alloc (.cells #[.int .i64 no, .int .i64 p1, .int .i64 p2, .int .i64 m] 71)).drew.heap[wr.heap.size]? = some (.cells #[.int .i64 no, .int .i64 p1, .int .i64 p2, .int .i64 m] 71 (0, 0))) := heap_alloc_new wr _
      have HA := hide (wwhole_any B q LK [] 4 no (wr.alloc (.cells #[.int .i64 no, .int .i64 p1, .int .i64 p2, .int .i64 m] 71)).drew (HWr.out.below hbd) (by omega) (by omega) (by omega) hn0 (by omega))
      have HP := hide (fun u (h : WrA u B q (LK ++ dg no 4) []) => wplace_any B q _ [] (p1, p2) u h (by simp only [List.length_append, dg_length]; omega) hp)
      have HM := hide (fun u (h : WrA u B q (LK ++ dg no 4 ++ plW (p1, p2)) []) => wwhole_any B q _ [] 2 m u h (by simp only [List.length_append, dg_length, plW_len]; omega) (by omega) (by omega) hm0 (by omega))
      have HNX := hide hnx
      have hx0 : (wr.alloc (.cells #[.int .i64 no, .int .i64 p1, .int .i64 p2, .int .i64 m] 71)).cell? ⟨wr.heap.size, 0, none⟩ = some (.int .i64 no) := blk_cell HX.out 0 rfl
      have hx1 : (wr.alloc (.cells #[.int .i64 no, .int .i64 p1, .int .i64 p2, .int .i64 m] 71)).cell? ⟨wr.heap.size, 1, none⟩ = some (.int .i64 p1) := blk_cell HX.out 1 rfl
      have hx2 : (wr.alloc (.cells #[.int .i64 no, .int .i64 p1, .int .i64 p2, .int .i64 m] 71)).cell? ⟨wr.heap.size, 2, none⟩ = some (.int .i64 p2) := blk_cell HX.out 2 rfl
      have hx3 : (wr.alloc (.cells #[.int .i64 no, .int .i64 p1, .int .i64 p2, .int .i64 m] 71)).cell? ⟨wr.heap.size, 3, none⟩ = some (.int .i64 m) := blk_cell HX.out 3 rfl
      clear hb hbd hfl hnx hX hc hkl hlk hn0 hn1 hp hm0 hm1 HWr hLK
      go_upto_region 5 with fail
      refine wp_region_held_drew (S := (fun u => u.cell? ⟨wr.heap.size, 0, none⟩ = some (.int .i64 no) ∧ u.cell? ⟨wr.heap.size, 1, none⟩ = some (.int .i64 p1) ∧ u.cell? ⟨wr.heap.size, 2, none⟩ = some (.int .i64 p2) ∧ u.cell? ⟨wr.heap.size, 3, none⟩ = some (.int .i64 m))) (by kernel_rfl) (⟨hx0, hx1, hx2, hx3⟩) (fun hHeld => ?_)
      refine tk 0 ?_
      refine tk 1 ?_
      refine tk 2 ?_
      refine tk 4 ?_
      refine tk 5 ?_
      refine tk 6 ?_
      refine tk 8 ?_
      refine tk 9 ?_
      refine tk 10 ?_
      refine rd 3 (fun K hK => ?_)
      go_simp
      go_at_call 26
      refine (HA.out).mono ?_
      rintro e y1 ⟨rfl, hw1, hk1⟩
      have hx := hk1.oth wr.heap.size _ 71 HX.out (by decide) (by decide)
      have HXx1 := hide hx
      have HWx1 := hide hw1
      have HKx1 := hide (HK0.out.trans hk1)
      have hSnew : (fun u => u.cell? ⟨wr.heap.size, 0, none⟩ = some (.int .i64 no) ∧ u.cell? ⟨wr.heap.size, 1, none⟩ = some (.int .i64 p1) ∧ u.cell? ⟨wr.heap.size, 2, none⟩ = some (.int .i64 p2) ∧ u.cell? ⟨wr.heap.size, 3, none⟩ = some (.int .i64 m)) y1 := ⟨blk_cell hx 0 rfl, blk_cell hx 1 rfl, blk_cell hx 2 rfl, blk_cell hx 3 rfl⟩
      clear hx hw1 hk1
      go_wp2_with fail
      refine hK.out _ _ hSnew (fun hHeldN => ?_)
      clear hK K hSnew
      clear hHeld
      have hHeld := hHeldN
      clear hHeldN
      try simp only [Act.put, List.setIfInBounds_toArray, List.set_cons_zero, List.set_cons_succ]
      refine rd 7 (fun K hK => ?_)
      go_simp
      go_at_call 48
      refine (HP.out _ HWx1.out).mono ?_
      rintro e y2 ⟨rfl, hw1, hk1⟩
      have hx := hk1.oth wr.heap.size _ 71 HXx1.out (by decide) (by decide)
      have HXx2 := hide hx
      have HWx2 := hide hw1
      have HKx2 := hide (HKx1.out.trans hk1)
      have hSnew : (fun u => u.cell? ⟨wr.heap.size, 0, none⟩ = some (.int .i64 no) ∧ u.cell? ⟨wr.heap.size, 1, none⟩ = some (.int .i64 p1) ∧ u.cell? ⟨wr.heap.size, 2, none⟩ = some (.int .i64 p2) ∧ u.cell? ⟨wr.heap.size, 3, none⟩ = some (.int .i64 m)) y2 := ⟨blk_cell hx 0 rfl, blk_cell hx 1 rfl, blk_cell hx 2 rfl, blk_cell hx 3 rfl⟩
      clear hx hw1 hk1
      go_wp2_with fail
      refine hK.out _ _ hSnew (fun hHeldN => ?_)
      clear hK K hSnew
      clear hHeld
      have hHeld := hHeldN
      clear hHeldN
      try simp only [Act.put, List.setIfInBounds_toArray, List.set_cons_zero, List.set_cons_succ]
      refine rd 11 (fun K hK => ?_)
      go_simp
      go_at_call 26
      refine (HM.out _ HWx2.out).mono ?_
      rintro e y3 ⟨rfl, hw1, hk1⟩
      have hx := hk1.oth wr.heap.size _ 71 HXx2.out (by decide) (by decide)
      have HXx3 := hide hx
      have HWx3 := hide hw1
      have HKx3 := hide (HKx2.out.trans hk1)
      have hSnew : (fun u => u.cell? ⟨wr.heap.size, 0, none⟩ = some (.int .i64 no) ∧ u.cell? ⟨wr.heap.size, 1, none⟩ = some (.int .i64 p1) ∧ u.cell? ⟨wr.heap.size, 2, none⟩ = some (.int .i64 p2) ∧ u.cell? ⟨wr.heap.size, 3, none⟩ = some (.int .i64 m)) y3 := ⟨blk_cell hx 0 rfl, blk_cell hx 1 rfl, blk_cell hx 2 rfl, blk_cell hx 3 rfl⟩
      clear hx hw1 hk1
      go_wp2_with fail
      refine hK.out _ _ hSnew (fun hHeldN => ?_)
      clear hK K hSnew
      clear hHeld
      have hHeld := hHeldN
      clear hHeldN
      try simp only [Act.put, List.setIfInBounds_toArray, List.set_cons_zero, List.set_cons_succ]
      refine wpAnyH_done (by kernel_rfl) ?_ _
      clear hHeld
      go_wp2
      go_roundw
      case rel => exact ⟨k + 1, by omega, by go_num, (by have h := HWx3.out; show WrA _ _ _ _ _; rw [HNX.out]; simp only [List.append_assoc] at h; exact h), HKx3⟩
      case measure => simp [intOf]; omega
    · have hkn : k = n := by omega
      subst hkn
      have hz := HWr.out
      rw [HLAY.out, List.take_of_length_le (by rw [HLN.out]; exact Nat.le_refl _), List.append_assoc] at hz
      rw [← HLN.out] at hz
      have HZ := hide hz
      clear hz
      go_wp2
      go_ret
      exact ⟨rfl, HZ.out, HKr.out⟩
end Go.Proofs.Ytoaahellfflooaa
