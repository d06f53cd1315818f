/-
  SEAT Ytoaahellfflooaa.
-/
import Derived.Test.YtoaahellfflooaaVEd
namespace Go.Proofs.Ytoaahellfflooaa
open Go.RowKit
set_option linter.unusedVariables false

structure St where
  fl : Int
  nx : Int
  cu : Int
  la : Int
  bs : List Blk
  os : List Ob
/-- A state's cells; its lists lie elsewhere. -/
abbrev St.cells (s : St) (vb vo : Value) : List Value := [.int .u64 s.fl, .int .u64 s.nx, .int .i64 s.cu, .int .i64 s.la, vb, vo]
def mayS (s : St) : Bool := (decide (s.fl ≤ 281474976710655) && (decide (s.nx ≤ 281474976710656) && (decide (s.bs.length ≤ 4096) && (rg s.cu (-1) (s.bs.length - 1) && rg s.la (-1) (s.bs.length - 1))))) && (s.bs.all blkOk && obL 1 s.os)
/-- A state in memory that is read. -/
structure StOn (w : World) (s : St) (ba oa : Option Addr) (n m : Nat) (ls : List (Ob × Value)) : Prop where
  b : ReadsK w ba n s.bs
  o : ReadsO w oa m ls
  c : ChksOn w ls
  sz : ∀ x ∈ ls, x.1.Sz
  os : ls.map Prod.fst = s.os
  nl : n ≤ 140737488355000
  ml : m ≤ 140737488355000
theorem StOn.below {w w' : World} {s : St} {ba oa : Option Addr} {n m : Nat} {ls : List (Ob × Value)} (h : StOn w s ba oa n m ls) (hb : Below w.heap.size w w') : StOn w' s ba oa n m ls :=
  ⟨ReadsL.below h.b hb, ReadsL.below h.o hb, h.c.below hb, h.sz, h.os, h.nl, h.ml⟩

set_option maxHeartbeats 4000000 in
set_option maxRecDepth 100000 in
theorem may19 (s : St) (ba oa : Option Addr) (n m bc oc : Nat) (ls : List (Ob × Value)) (w : World) (hs : StOn w s ba oa n m ls) : Calls Try.prog 19 #[.agg #[.int .u64 s.fl, .int .u64 s.nx, .int .i64 s.cu, .int .i64 s.la, .slice ba n bc, .slice oa m oc]] w fun e w' => e = .returned (.bool (mayS s)) ∧ Below w.heap.size w w' := by
  obtain ⟨fl, nx, cu, la, bs, os⟩ := s
  have hbn := ReadsL.len hs.b blk_len (by decide)
  obtain ⟨R, hR⟩ : ∃ R, mayS ⟨fl, nx, cu, la, bs, os⟩ = R := ⟨_, rfl⟩
  rw [hR]
  simp only at hbn ⊢
  have HBN := hide hbn
  have HQ := hide hR
  have HS := hide hs
  have HB := hide (below_alloc w (.cells #[.int .u64 fl, .int .u64 nx, .int .i64 cu, .int .i64 la, .slice ba n bc, .slice oa m oc] 27))
  have hnl := hs.nl
  clear hs hR hbn
  by_cases g1 : fl ≤ 281474976710655
  rotate_left
  · have d1 : (281474976710655 : Int) < fl := by omega
    go_enter Try.func19, Try.ntmps19
    go_wp2
    go_ret
    exact ⟨ret_bool (by rw [← HQ.out]; unfold mayS; simp only; rw [HBN.out, decide_eq_false (show ¬ fl ≤ 281474976710655 by omega)]; simp), HB.out⟩
  have HG1 := hide g1
  have d1 : decide ((281474976710655 : Int) < fl) = false := decide_eq_false (by omega)
  clear g1
  by_cases g2 : nx ≤ 281474976710656
  rotate_left
  · have d2 : (281474976710656 : Int) < nx := by omega
    go_enter Try.func19, Try.ntmps19
    go_wp2
    go_ret
    exact ⟨ret_bool (by rw [← HQ.out]; unfold mayS; simp only; rw [HBN.out, decide_eq_false (show ¬ nx ≤ 281474976710656 by omega)]; simp), HB.out⟩
  have HG2 := hide g2
  have d2 : decide ((281474976710656 : Int) < nx) = false := decide_eq_false (by omega)
  clear g2
  by_cases g3 : n ≤ 4096
  rotate_left
  · have d3 : (4096 : Int) < n := by omega
    go_enter Try.func19, Try.ntmps19
    go_wp2
    go_ret
    exact ⟨ret_bool (by rw [← HQ.out]; unfold mayS; simp only; rw [HBN.out, decide_eq_false (show ¬ n ≤ 4096 by omega)]; simp), HB.out⟩
  have HG3 := hide g3
  have d3 : decide ((4096 : Int) < n) = false := decide_eq_false (by omega)
  cases h4 : rg cu (-1) (n - 1) with
  | false =>
    go_enter Try.func19, Try.ntmps19
    go_wp2_with (go_at_call 40; refine (pw_any _ _ _ _).mono ?_; rintro e u ⟨rfl, rfl⟩; first | rw [h4] | rw [h5])
    go_ret
    exact ⟨ret_bool (by rw [← HQ.out]; unfold mayS; simp only; rw [HBN.out, h4]; simp), HB.out⟩
  | true =>
  cases h5 : rg la (-1) (n - 1) with
  | false =>
    go_enter Try.func19, Try.ntmps19
    go_wp2_with (go_at_call 40; refine (pw_any _ _ _ _).mono ?_; rintro e u ⟨rfl, rfl⟩; first | rw [h4] | rw [h5])
    go_ret
    exact ⟨ret_bool (by rw [← HQ.out]; unfold mayS; simp only; rw [HBN.out, h5]; simp), HB.out⟩
  | true =>
  have HH4 := hide h4
  have HH5 := hide h5
  go_enter Try.func19, Try.ntmps19
  go_wp2_with (go_at_call 40; refine (pw_any _ _ _ _).mono ?_; rintro e u ⟨rfl, rfl⟩; first | rw [h4] | rw [h5])
  clear h4 h5
  go_loopw [41] (fun s41 wr => ∃ (k : Nat), k ≤ n ∧ s41 = .int .i64 k ∧ Hid (bs.all blkOk = (bs.drop k).all blkOk) ∧ Hid (Below w.heap.size w wr) ∧ wr.cell? ⟨w.heap.size, 5, none⟩ = some (.slice oa m oc))
    (fun s41 _ => n - (intOf s41).toNat)
  case atStart => exact ⟨0, Nat.zero_le _, rfl, rfl, HB, by simp⟩
  case round =>
    obtain ⟨k, hk, rfl, HA, HBr, hc5⟩ := hrel
    by_cases hlt : k < n
    · have hkl : k < bs.length := by rw [HBN.out]; exact hlt
      obtain ⟨b, off, rfl, hbs, hc⟩ := ReadsK.cells (ReadsL.below HS.out.b HBr.out) (by omega)
      have hd : bs.drop k = bs[k] :: bs.drop (k + 1) := List.drop_eq_getElem_cons hkl
      obtain ⟨c0, c1, c2, c3⟩ := hc k hkl
      obtain ⟨⟨x0, x1, x2, x3⟩, hX⟩ : ∃ X, bs[k] = X := ⟨_, rfl⟩
      rw [hX] at c0 c1 c2 c3 hd
      simp only at c0 c1 c2 c3
      have HD := hide hd
      have d1 : (k : Int) < n := by omega
      have hsz := (block_lt_of_cell hc5 : w.heap.size < wr.heap.size)
      have HB2 := hide (HBr.out.trans ((below_alloc wr (.cells #[.int .i64 x0, .int .u64 x1, .bool x2, .int .i64 x3] 48)).mono HBr.out.size))
      have hc6 := (Below.cell (below_alloc wr (.cells #[.int .i64 x0, .int .u64 x1, .bool x2, .int .i64 x3] 48)) (p := ⟨w.heap.size, 5, none⟩) hsz).trans hc5
      have HC5 := hide hc6
      have HSZ := hide (show w.heap.size < (wr.alloc (.cells #[.int .i64 x0, .int .u64 x1, .bool x2, .int .i64 x3] 48)).heap.size from Nat.lt_of_lt_of_le hsz (below_alloc wr _).size)
      clear hc hd hX hkl hc5 hc6 hsz
      cases h6 : blkOk ⟨x0, x1, x2, x3⟩ with
      | false =>
        go_wp2_with (go_at_call 41; refine (block41 ⟨x0, x1, x2, x3⟩ _).mono ?_; rintro e x9 ⟨rfl, b9⟩; rw [h6]; have HB9 := hide (HB2.out.trans (b9.mono HB2.out.size)); clear b9)
        go_ret
        exact ⟨ret_bool (by rw [← HQ.out]; unfold mayS; simp only; rw [HA.out, HD.out, List.all_cons, h6]; simp), HB9.out⟩
      | true =>
        go_wp2_with (go_at_call 41; refine (block41 ⟨x0, x1, x2, x3⟩ _).mono ?_; rintro e x9 ⟨rfl, b9⟩; rw [h6]; have HC9 := hide ((b9.cell (p := ⟨w.heap.size, 5, none⟩) HSZ.out).trans HC5.out); have HB9 := hide (HB2.out.trans (b9.mono HB2.out.size)); clear b9)
        go_roundw
        case rel => exact ⟨k + 1, by omega, by go_num, by show _ = _; rw [HA.out, HD.out, List.all_cons, h6, Bool.true_and], HB9, HC9.out⟩
        case measure => simp [intOf]; omega
    · have hkn : k = n := by omega
      subst hkn
      have HE := hide (show bs.all blkOk = true by rw [HA.out, List.drop_of_length_le (by rw [HBN.out]; exact Nat.le_refl _)]; rfl)
      go_wp2_with (go_at_call 42; refine (objects42 oa m oc ls _ (ReadsL.below HS.out.o HBr.out) (HS.out.c.below HBr.out) HS.out.sz HS.out.ml).mono ?_; rintro e x9 ⟨rfl, b9⟩; have HB9 := hide (HBr.out.trans (b9.mono HBr.out.size)); clear b9)
      go_ret
      exact ⟨ret_bool (by rw [← HQ.out]; unfold mayS; simp only; rw [HE.out, HBN.out, HS.out.os]; simp [HG1.out, HG2.out, HG3.out, HH4.out, HH5.out]), HB9.out⟩
end Go.Proofs.Ytoaahellfflooaa
