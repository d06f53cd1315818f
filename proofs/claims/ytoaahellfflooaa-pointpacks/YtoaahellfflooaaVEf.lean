/-
  SEAT Ytoaahellfflooaa.
-/
import Derived.Test.YtoaahellfflooaaVEe
namespace Go.Proofs.Ytoaahellfflooaa
open Go.RowKit
set_option linter.unusedVariables false

theorem below_drew {B : Nat} {w w' : World} (k : Nat) (h : Below B w w') : Below B w (w'.drewN k) := ⟨h.os, h.tape, h.output, h.size, h.block⟩
theorem rplace50 (p : Int × Int) (w : World) : Calls Try.prog 50 #[.agg #[.int .i64 p.1, .int .i64 p.2]] w fun e w' => e = .returned (.bool (plOk p)) ∧ Below w.heap.size w w' := by
  obtain ⟨a, b⟩ := p
  have hb := below_alloc w (.cells #[.int .i64 a, .int .i64 b] 52)
  simp only
  by_cases g1 : 0 ≤ a
  rotate_left
  · have HF := hide (show plOk (a, b) = false by simp only [plOk]; rw [rg_not.2 (by omega)]; rfl)
    have d1 : decide ((0 : Int) ≤ a) = false := decide_eq_false g1
    clear g1
    go_enter Try.func50, Try.ntmps50
    go_wp2
    go_ret
    exact ⟨ret_bool (by rw [HF.out]), hb⟩
  by_cases g2 : a < 4096
  rotate_left
  · have HF := hide (show plOk (a, b) = false by simp only [plOk]; rw [rg_not.2 (by omega)]; rfl)
    have d2 : decide (a < 4096) = false := decide_eq_false g2
    clear g2
    go_enter Try.func50, Try.ntmps50
    go_wp2
    go_ret
    exact ⟨ret_bool (by rw [HF.out]), hb⟩
  by_cases g3 : 0 ≤ b
  rotate_left
  · have HF := hide (show plOk (a, b) = false by simp only [plOk]; rw [rg_not.2 (show b < 0 ∨ 255 < b by omega), Bool.and_false])
    have d3 : decide ((0 : Int) ≤ b) = false := decide_eq_false g3
    clear g3
    go_enter Try.func50, Try.ntmps50
    go_wp2
    go_ret
    exact ⟨ret_bool (by rw [HF.out]), hb⟩
  by_cases g4 : b < 256
  rotate_left
  · have HF := hide (show plOk (a, b) = false by simp only [plOk]; rw [rg_not.2 (show b < 0 ∨ 255 < b by omega), Bool.and_false])
    have d4 : decide (b < 256) = false := decide_eq_false g4
    clear g4
    go_enter Try.func50, Try.ntmps50
    go_wp2
    go_ret
    exact ⟨ret_bool (by rw [HF.out]), hb⟩
  have HF := hide (show plOk (a, b) = true by simp only [plOk]; rw [rg_iff.2 (by omega), rg_iff.2 (show 0 ≤ b ∧ b ≤ 255 by omega)]; rfl)
  go_enter Try.func50, Try.ntmps50
  go_wp2
  go_ret
  exact ⟨ret_bool (by rw [HF.out]), hb⟩

/-- One object alone. -/
def obOk (o : Ob) : Bool := rg o.id 2 1048575 && (decide (o.ch.length ≤ 65536) && (hdOk o && chL (-1) o.ch))
theorem obL_ob {a : Int} {o : Ob} {r : List Ob} (ha : 1 ≤ a) : obL a (o :: r) = (obOk o && (decide (a < o.id) && obL o.id r)) := by
  have h : rg o.id (a + 1) 1048575 = (rg o.id 2 1048575 && decide (a < o.id)) := by
    rw [Bool.eq_iff_iff]; simp only [rg, Bool.and_eq_true, decide_eq_true_eq]; omega
  rw [obL, h]; unfold obOk chsOk
  cases rg o.id 2 1048575 <;> cases decide (a < o.id) <;> cases hdOk o <;> cases chL (-1) o.ch <;> cases decide (o.ch.length ≤ 65536) <;> simp
theorem obL_cap : ∀ (l : List Ob) (a : Int), a ≤ 1048575 → obL a l = true → a + l.length ≤ 1048575
  | [], a, ha, _ => by simpa using ha
  | o :: r, a, ha, h => by
    simp only [obL, Bool.and_eq_true] at h
    obtain ⟨h1, _, _, h2⟩ := h
    have h3 := rg_iff.1 h1
    have := obL_cap r o.id h3.2 h2
    simp only [List.length_cons]
    omega

set_option maxHeartbeats 4000000 in
set_option maxRecDepth 100000 in
theorem robj_out (id : Int) (hd0 : Bool) (xk xp : Int) (xN : ByteArray) (xz xm xs xh : Int) (xT : ByteArray) (p1 p2 : Int) (ch : List Chk) (va : Option Addr) (vn vc : Nat) (w : World) (hN : xN.size ≤ 9223372036854775807) (hT : xT.size ≤ 9223372036854775807) (hr : ReadsC w va vn ch) (hl : vn ≤ 140737488355000) (hbad : rg id 2 1048575 = false ∨ 65536 < vn) : Calls Try.prog 33 #[.agg #[.int .i64 id, .bool hd0, .int .i64 xk, .int .i64 xp, .string xN, .int .i64 xz, .int .i64 xm, .int .u64 xs, .int .i64 xh, .string xT, .int .i64 p1, .int .i64 p2, .slice va vn vc]] w fun e w' => e = .returned (.bool (obOk ⟨id, hd0, ⟨xk, xp, xN, xz, xm, xs, xh, xT⟩, (p1, p2), ch⟩)) ∧ Below w.heap.size w w' := by
  have HLN := hide (ReadsL.len hr chk_len (by decide))
  have HR := hide hr
  have HB := hide (below_alloc w (.cells #[.int .i64 id, .bool hd0, .int .i64 xk, .int .i64 xp, .string xN, .int .i64 xz, .int .i64 xm, .int .u64 xs, .int .i64 xh, .string xT, .int .i64 p1, .int .i64 p2, .slice va vn vc] 55))
  obtain ⟨R, hR⟩ : ∃ R, obOk ⟨id, hd0, ⟨xk, xp, xN, xz, xm, xs, xh, xT⟩, (p1, p2), ch⟩ = R := ⟨_, rfl⟩
  rw [hR]
  have HQ := hide hR
  clear hr hR
  have HF : Hid (obOk ⟨id, hd0, ⟨xk, xp, xN, xz, xm, xs, xh, xT⟩, (p1, p2), ch⟩ = false) := by
    show _ = _
    unfold obOk
    simp only
    rw [HLN.out]
    rcases hbad with h | h
    · rw [h]; rfl
    · rw [decide_eq_false (show ¬ vn ≤ 65536 by omega)]; simp
  have HBAD := hide hbad
  clear hbad
  by_cases g1 : id < 2
  · go_enter Try.func33, Try.ntmps33
    go_wp2
    go_ret
    exact ⟨ret_bool (by rw [← HQ.out, HF.out]), HB.out⟩
  have d1 : decide (id < 2) = false := decide_eq_false g1
  by_cases g2 : 1048575 < id
  · clear g1
    go_enter Try.func33, Try.ntmps33
    go_wp2
    go_ret
    exact ⟨ret_bool (by rw [← HQ.out, HF.out]), HB.out⟩
  have d2 : decide (1048575 < id) = false := decide_eq_false g2
  have d3 : (65536 : Int) < vn := by
    rcases HBAD.out with h | h
    · have := rg_not.1 h; omega
    · omega
  clear g1 g2
  go_enter Try.func33, Try.ntmps33
  go_wp2
  go_ret
  exact ⟨ret_bool (by rw [← HQ.out, HF.out]), HB.out⟩

set_option maxHeartbeats 4000000 in
set_option maxRecDepth 100000 in
theorem robj_f1 (id : Int) (xk xp : Int) (xN : ByteArray) (xz xm xs xh : Int) (xT : ByteArray) (p1 p2 : Int) (ch : List Chk) (va : Option Addr) (vn vc : Nat) (w : World) (hN : xN.size ≤ 9223372036854775807) (hT : xT.size ≤ 9223372036854775807) (hr : ReadsC w va vn ch) (hl : vn ≤ 140737488355000) (hi : rg id 2 1048575 = true) (hv : vn ≤ 65536) (h1 : (ndZ ⟨xk, xp, xN, xz, xm, xs, xh, xT⟩ && plZ (p1, p2)) = false) : Calls Try.prog 33 #[.agg #[.int .i64 id, .bool false, .int .i64 xk, .int .i64 xp, .string xN, .int .i64 xz, .int .i64 xm, .int .u64 xs, .int .i64 xh, .string xT, .int .i64 p1, .int .i64 p2, .slice va vn vc]] w fun e w' => e = .returned (.bool (obOk ⟨id, false, ⟨xk, xp, xN, xz, xm, xs, xh, xT⟩, (p1, p2), ch⟩)) ∧ Below w.heap.size w w' := by
  have HLN := hide (ReadsL.len hr chk_len (by decide))
  have HR := hide hr
  have HB := hide (below_alloc w (.cells #[.int .i64 id, .bool false, .int .i64 xk, .int .i64 xp, .string xN, .int .i64 xz, .int .i64 xm, .int .u64 xs, .int .i64 xh, .string xT, .int .i64 p1, .int .i64 p2, .slice va vn vc] 55))
  obtain ⟨R, hR⟩ : ∃ R, obOk ⟨id, false, ⟨xk, xp, xN, xz, xm, xs, xh, xT⟩, (p1, p2), ch⟩ = R := ⟨_, rfl⟩
  rw [hR]
  have HQ := hide hR
  clear hr hR
  have hi2 := rg_iff.1 hi
  have d1 : decide (id < 2) = false := decide_eq_false (by omega)
  have d2 : decide (1048575 < id) = false := decide_eq_false (by omega)
  have d3 : decide ((65536 : Int) < vn) = false := decide_eq_false (by omega)
  have HI := hide hi
  have HV := hide hv
  clear hi hi2 hv
  have q50 := zne50
  have q52 := zne52
  have g50 := gd50
  have g52 := gd52
  have HF : Hid (obOk ⟨id, false, ⟨xk, xp, xN, xz, xm, xs, xh, xT⟩, (p1, p2), ch⟩ = false) := by
    show _ = _
    unfold obOk hdOk
    simp only
    rw [if_neg (by simp), h1]
    simp
  cases h2 : ndZ ⟨xk, xp, xN, xz, xm, xs, xh, xT⟩ with
  | false =>
    clear h1
    go_enter Try.func33, Try.ntmps33
    go_wp2
    go_ret
    exact ⟨ret_bool (by rw [← HQ.out, HF.out]), HB.out⟩
  | true =>
    rw [h2, Bool.true_and] at h1
    go_enter Try.func33, Try.ntmps33
    go_wp2
    go_ret
    exact ⟨ret_bool (by rw [← HQ.out, HF.out]), HB.out⟩

set_option maxHeartbeats 4000000 in
set_option maxRecDepth 100000 in
theorem robj_f2 (id : Int) (xk xp : Int) (xN : ByteArray) (xz xm xs xh : Int) (xT : ByteArray) (p1 p2 : Int) (ch : List Chk) (va : Option Addr) (vn vc : Nat) (w : World) (hN : xN.size ≤ 9223372036854775807) (hT : xT.size ≤ 9223372036854775807) (hr : ReadsC w va vn ch) (hl : vn ≤ 140737488355000) (hi : rg id 2 1048575 = true) (hv : vn ≤ 65536) (h1 : ndZ ⟨xk, xp, xN, xz, xm, xs, xh, xT⟩ = true) (h2 : plZ (p1, p2) = true) : Calls Try.prog 33 #[.agg #[.int .i64 id, .bool false, .int .i64 xk, .int .i64 xp, .string xN, .int .i64 xz, .int .i64 xm, .int .u64 xs, .int .i64 xh, .string xT, .int .i64 p1, .int .i64 p2, .slice va vn vc]] w fun e w' => e = .returned (.bool (obOk ⟨id, false, ⟨xk, xp, xN, xz, xm, xs, xh, xT⟩, (p1, p2), ch⟩)) ∧ Below w.heap.size w w' := by
  have HLN := hide (ReadsL.len hr chk_len (by decide))
  have HR := hide hr
  have HB := hide (below_alloc w (.cells #[.int .i64 id, .bool false, .int .i64 xk, .int .i64 xp, .string xN, .int .i64 xz, .int .i64 xm, .int .u64 xs, .int .i64 xh, .string xT, .int .i64 p1, .int .i64 p2, .slice va vn vc] 55))
  obtain ⟨R, hR⟩ : ∃ R, obOk ⟨id, false, ⟨xk, xp, xN, xz, xm, xs, xh, xT⟩, (p1, p2), ch⟩ = R := ⟨_, rfl⟩
  rw [hR]
  have HQ := hide hR
  clear hr hR
  have hi2 := rg_iff.1 hi
  have d1 : decide (id < 2) = false := decide_eq_false (by omega)
  have d2 : decide (1048575 < id) = false := decide_eq_false (by omega)
  have d3 : decide ((65536 : Int) < vn) = false := decide_eq_false (by omega)
  have HI := hide hi
  have HV := hide hv
  clear hi hi2 hv
  have q50 := zne50
  have q52 := zne52
  have g50 := gd50
  have g52 := gd52
  have HBX := hide (heap_alloc_new w (.cells #[.int .i64 id, .bool false, .int .i64 xk, .int .i64 xp, .string xN, .int .i64 xz, .int .i64 xm, .int .u64 xs, .int .i64 xh, .string xT, .int .i64 p1, .int .i64 p2, .slice va vn vc] 55))
  have HH1 := hide h1
  have HH2 := hide h2
  go_enter Try.func33, Try.ntmps33
  go_wp2
  clear h1 h2 q50 q52 g50 g52
  go_loopw [3] (fun s3 wr => ∃ (k : Nat) (a : Int), k ≤ vn ∧ s3 = .int .i64 k ∧ -1 ≤ a ∧ a ≤ 1048575 ∧ (0 < k → ∃ h : k - 1 < ch.length, ch[k - 1].no = a) ∧ (k = 0 → a = -1) ∧ Hid (chL (-1) ch = chL a (ch.drop k)) ∧ Hid (Below w.heap.size w wr) ∧ wr.heap[w.heap.size]? = some (.cells #[.int .i64 id, .bool false, .int .i64 xk, .int .i64 xp, .string xN, .int .i64 xz, .int .i64 xm, .int .u64 xs, .int .i64 xh, .string xT, .int .i64 p1, .int .i64 p2, .slice va vn vc] 55 (0, 0)))
    (fun s3 _ => vn - (intOf s3).toNat)
  case atStart => exact ⟨0, -1, Nat.zero_le _, rfl, by omega, by omega, (fun h => absurd h (by omega)), (fun _ => rfl), rfl, HB, HBX.out⟩
  case round =>
    obtain ⟨k, a, hk, rfl, ha0, ha1, hprev, hz, HA, HBr, hbox⟩ := hrel
    have HBX := hide hbox
    have HPV := hide hprev
    have HZ := hide hz
    have cb12 : wr.cell? ⟨w.heap.size, 12, none⟩ = some (.slice va vn vc) := blk_cell hbox 12 rfl
    clear hbox hprev hz
    by_cases hlt : k < vn
    · have hkl : k < ch.length := by rw [HLN.out]; exact hlt
      obtain ⟨b, off, rfl, hbs, hc⟩ := ReadsC.cells (ReadsL.below HR.out HBr.out) (by omega)
      have HCC := hide hc
      have hd : ch.drop k = ch[k] :: ch.drop (k + 1) := List.drop_eq_getElem_cons hkl
      obtain ⟨c0, c1, c2, c3⟩ := hc k hkl
      obtain ⟨⟨no, ⟨q1, q2⟩, n⟩, hX⟩ : ∃ X, ch[k] = X := ⟨_, rfl⟩
      rw [hX] at c0 c1 c2 c3 hd
      simp only at c0 c1 c2 c3
      have HD := hide hd
      have HX : Hid (∃ h : k < ch.length, ch[k] = ⟨no, (q1, q2), n⟩) := ⟨hkl, hX⟩
      have d4 : (k : Int) < vn := by omega
      have HB2 := hide (HBr.out.trans ((below_alloc wr (.cells #[.int .i64 no, .int .i64 q1, .int .i64 q2, .int .i64 n] 71)).mono HBr.out.size))
      have hsz := lt_of_block HBX.out
      have HBY : Hid ((wr.alloc (.cells #[.int .i64 no, .int .i64 q1, .int .i64 q2, .int .i64 n] 71)).heap[w.heap.size]? = some (.cells #[.int .i64 id, .bool false, .int .i64 xk, .int .i64 xp, .string xN, .int .i64 xz, .int .i64 xm, .int .u64 xs, .int .i64 xh, .string xT, .int .i64 p1, .int .i64 p2, .slice (some ⟨b, off, none⟩) vn vc] 55 (0, 0))) := ((below_alloc wr _).block _ hsz).trans HBX.out
      have HKL := hide hkl
      clear hc hd hX hkl hsz
      have stop : ∀ (h : rg no (a + 1) 1048575 = false ∨ plOk (q1, q2) = false ∨ rg n 0 2048 = false), obOk ⟨id, false, ⟨xk, xp, xN, xz, xm, xs, xh, xT⟩, (p1, p2), ch⟩ = false := by
        intro h
        have h2 := chL_stop (c := ⟨no, (q1, q2), n⟩) (r := ch.drop (k + 1)) h
        unfold obOk
        simp only
        rw [HA.out, HD.out, h2]
        simp
      have HST := hide stop
      clear stop
      by_cases g1 : no < 0
      · have HF := hide (HST.out (Or.inl (rg_not.2 (by omega))))
        go_wp2
        go_ret
        exact ⟨ret_bool (by rw [← HQ.out, HF.out]), HB2.out⟩
      have e1 : decide (no < 0) = false := decide_eq_false g1
      by_cases g2 : 1048575 < no
      · have HF := hide (HST.out (Or.inl (rg_not.2 (by omega))))
        clear g1
        go_wp2
        go_ret
        exact ⟨ret_bool (by rw [← HQ.out, HF.out]), HB2.out⟩
      have e2 : decide (1048575 < no) = false := decide_eq_false g2
      cases g3 : plOk (q1, q2) with
      | false =>
        have HF := hide (HST.out (Or.inr (Or.inl g3)))
        clear g1 g2
        go_wp2_with (go_at_call 50; refine (rplace50 (q1, q2) _).mono ?_; rintro e x9 ⟨rfl, b9⟩; rw [g3]; have HB9 := hide (HB2.out.trans (b9.mono HB2.out.size)); clear b9)
        go_ret
        exact ⟨ret_bool (by rw [← HQ.out, HF.out]), HB9.out⟩
      | true =>
      have HG1 := hide g1
      have HG2 := hide g2
      have HG3 := hide g3
      by_cases g4 : n < 0
      · have HF := hide (HST.out (Or.inr (Or.inr (rg_not.2 (by omega)))))
        clear g1 g2
        go_wp2_with (go_at_call 50; refine (rplace50 (q1, q2) _).mono ?_; rintro e x9 ⟨rfl, b9⟩; rw [g3]; have hbx := (b9.block wr.heap.size (by simp)).trans (heap_alloc_new wr _); have c9 : x9.cell? ⟨wr.heap.size, 3, none⟩ = some (.int .i64 n) := blk_cell hbx 3 rfl; have HB9 := hide (HB2.out.trans (b9.mono HB2.out.size)); clear b9 hbx)
        go_ret
        exact ⟨ret_bool (by rw [← HQ.out, HF.out]), HB9.out⟩
      have e4 : decide (n < 0) = false := decide_eq_false g4
      by_cases g5 : 2048 < n
      · have HF := hide (HST.out (Or.inr (Or.inr (rg_not.2 (by omega)))))
        clear g1 g2 g4
        go_wp2_with (go_at_call 50; refine (rplace50 (q1, q2) _).mono ?_; rintro e x9 ⟨rfl, b9⟩; rw [g3]; have hbx := (b9.block wr.heap.size (by simp)).trans (heap_alloc_new wr _); have c9 : x9.cell? ⟨wr.heap.size, 3, none⟩ = some (.int .i64 n) := blk_cell hbx 3 rfl; have HB9 := hide (HB2.out.trans (b9.mono HB2.out.size)); clear b9 hbx)
        go_ret
        exact ⟨ret_bool (by rw [← HQ.out, HF.out]), HB9.out⟩
      have e5 : decide (2048 < n) = false := decide_eq_false g5
      have HG4 := hide g4
      have HG5 := hide g5
      clear g1 g2 g4 g5
      by_cases g6 : k = 0
      · have ea := HZ.out g6
        have HGO := hide (chL_go (a := a) (c := ⟨no, (q1, q2), n⟩) (r := ch.drop (k + 1)) (rg_iff.2 (by have := HG1.out; have := HG2.out; simp only; omega)) HG3.out (rg_iff.2 (by have := HG4.out; have := HG5.out; simp only; omega)))
        have HNO := hide (show -1 ≤ no ∧ no ≤ 1048575 by have := HG1.out; have := HG2.out; omega)
        have HEA := hide ea
        have f0 : decide ((0 : Int) < (k : Int)) = false := decide_eq_false (by omega)
        have f0n : decide (0 < k) = false := decide_eq_false (by omega)
        have HG6 := hide g6
        clear ea g6
        go_wp2_with (go_at_call 50; refine (rplace50 (q1, q2) _).mono ?_; rintro e x9 ⟨rfl, b9⟩; rw [g3]; have hbx := (b9.block wr.heap.size (by simp)).trans (heap_alloc_new wr _); have c9 : x9.cell? ⟨wr.heap.size, 3, none⟩ = some (.int .i64 n) := blk_cell hbx 3 rfl; have c90 : x9.cell? ⟨wr.heap.size, 0, none⟩ = some (.int .i64 no) := blk_cell hbx 0 rfl; have HBZ := hide ((b9.block _ (lt_of_block HBY.out)).trans HBY.out); have HB9 := hide (HB2.out.trans (b9.mono HB2.out.size)); clear b9 hbx)
        go_quiet (fail)
        go_wp2
        go_roundw
        case rel => exact ⟨k + 1, no, by omega, by go_num, HNO.out.1, HNO.out.2, (fun _ => HX.out.elim fun h9 e9 => ⟨h9, by simp only [Nat.add_sub_cancel, e9]⟩), (fun h => absurd h (by omega)), by show _ = _; rw [HA.out, HD.out, HGO.out], below_drew _ HB9.out, HBZ.out⟩
        case measure => simp [intOf]; omega
      · obtain ⟨hpl, hpa⟩ := HPV.out (by omega)
        have hcp := (HCC.out (k - 1) hpl).1
        rw [hpa] at hcp
        have HCP := hide hcp
        obtain ⟨k1, hk1⟩ : ∃ k1, k - 1 = k1 := ⟨_, rfl⟩
        have hkk : k = k1 + 1 := by omega
        rw [hk1] at hcp HCP
        clear hpl hpa hk1 hcp
        subst hkk
        have f1 : (0 : Int) < ((k1 + 1 : Nat) : Int) := by omega
        have f2 : ((k1 + 1 : Nat) : Int) - 1 = (k1 : Int) := by omega
        by_cases g7 : no ≤ a
        · have HF := hide (HST.out (Or.inl (rg_not.2 (by omega))))
          go_wp2_with (go_at_call 50; refine (rplace50 (q1, q2) _).mono ?_; rintro e x9 ⟨rfl, b9⟩; rw [g3]; have hbx := (b9.block wr.heap.size (by simp)).trans (heap_alloc_new wr _); have c9 : x9.cell? ⟨wr.heap.size, 3, none⟩ = some (.int .i64 n) := blk_cell hbx 3 rfl; have c90 : x9.cell? ⟨wr.heap.size, 0, none⟩ = some (.int .i64 no) := blk_cell hbx 0 rfl; have hbz := (b9.block _ (lt_of_block HBY.out)).trans HBY.out; have c9b : x9.cell? ⟨w.heap.size, 12, none⟩ = some (.slice (some ⟨b, off, none⟩) vn vc) := blk_cell hbz 12 rfl; have c9p := (b9.cell (p := ⟨b, off + k1 * 4, none⟩) (Nat.lt_of_lt_of_le hbs (by simp))).trans (((below_alloc wr _).cell (p := ⟨b, off + k1 * 4, none⟩) hbs).trans HCP.out); have HB9 := hide (HB2.out.trans (b9.mono HB2.out.size)); clear b9 hbx hbz)
          go_quiet (fail)
          go_wp2
          go_ret
          exact ⟨ret_bool (by rw [← HQ.out, HF.out]), below_drew _ HB9.out⟩
        · have e7 : decide (no ≤ a) = false := decide_eq_false g7
          have HGO := hide (chL_go (a := a) (c := ⟨no, (q1, q2), n⟩) (r := ch.drop (k1 + 1 + 1)) (rg_iff.2 (by have := HG1.out; have := HG2.out; simp only; omega)) HG3.out (rg_iff.2 (by have := HG4.out; have := HG5.out; simp only; omega)))
          have HNO := hide (show -1 ≤ no ∧ no ≤ 1048575 by have := HG1.out; have := HG2.out; omega)
          clear g7
          go_wp2_with (go_at_call 50; refine (rplace50 (q1, q2) _).mono ?_; rintro e x9 ⟨rfl, b9⟩; rw [g3]; have hbx := (b9.block wr.heap.size (by simp)).trans (heap_alloc_new wr _); have c9 : x9.cell? ⟨wr.heap.size, 3, none⟩ = some (.int .i64 n) := blk_cell hbx 3 rfl; have c90 : x9.cell? ⟨wr.heap.size, 0, none⟩ = some (.int .i64 no) := blk_cell hbx 0 rfl; have hbz := (b9.block _ (lt_of_block HBY.out)).trans HBY.out; have c9b : x9.cell? ⟨w.heap.size, 12, none⟩ = some (.slice (some ⟨b, off, none⟩) vn vc) := blk_cell hbz 12 rfl; have c9p := (b9.cell (p := ⟨b, off + k1 * 4, none⟩) (Nat.lt_of_lt_of_le hbs (by simp))).trans (((below_alloc wr _).cell (p := ⟨b, off + k1 * 4, none⟩) hbs).trans HCP.out); have HBZ := hide hbz; have HB9 := hide (HB2.out.trans (b9.mono HB2.out.size)); clear b9 hbx hbz)
          go_quiet (fail)
          go_wp2
          go_roundw
          case rel => exact ⟨k1 + 1 + 1, no, by omega, by go_num, HNO.out.1, HNO.out.2, (fun _ => HX.out.elim fun h9 e9 => ⟨h9, by simp only [Nat.add_sub_cancel, e9]⟩), (fun h => absurd h (by omega)), by show _ = _; rw [HA.out, HD.out, HGO.out], below_drew _ HB9.out, HBZ.out⟩
          case measure => simp [intOf]; omega
    · have hkn : k = vn := by omega
      subst hkn
      have HE := hide (show chL (-1) ch = true by rw [HA.out, List.drop_of_length_le (by rw [HLN.out]; exact Nat.le_refl _)]; rfl)
      go_wp2
      go_ret
      exact ⟨ret_bool (by rw [← HQ.out]; unfold obOk hdOk; simp only; rw [HE.out, HLN.out, decide_eq_true HV.out, HI.out, HH1.out, HH2.out]; simp), HBr.out⟩

set_option maxHeartbeats 4000000 in
set_option maxRecDepth 100000 in
theorem robj_t1 (id : Int) (xk xp : Int) (xN : ByteArray) (xz xm xs xh : Int) (xT : ByteArray) (p1 p2 : Int) (ch : List Chk) (va : Option Addr) (vn vc : Nat) (w : World) (hN : xN.size ≤ 9223372036854775807) (hT : xT.size ≤ 9223372036854775807) (hr : ReadsC w va vn ch) (hl : vn ≤ 140737488355000) (hi : rg id 2 1048575 = true) (hv : vn ≤ 65536) (hbad : (nodeE xk xp xN xz xm xs xh xT == 0) = false ∨ (xh == 0) = false ∨ plOk (p1, p2) = false) : Calls Try.prog 33 #[.agg #[.int .i64 id, .bool true, .int .i64 xk, .int .i64 xp, .string xN, .int .i64 xz, .int .i64 xm, .int .u64 xs, .int .i64 xh, .string xT, .int .i64 p1, .int .i64 p2, .slice va vn vc]] w fun e w' => e = .returned (.bool (obOk ⟨id, true, ⟨xk, xp, xN, xz, xm, xs, xh, xT⟩, (p1, p2), ch⟩)) ∧ Below w.heap.size w w' := by
  have HLN := hide (ReadsL.len hr chk_len (by decide))
  have HR := hide hr
  have HB := hide (below_alloc w (.cells #[.int .i64 id, .bool true, .int .i64 xk, .int .i64 xp, .string xN, .int .i64 xz, .int .i64 xm, .int .u64 xs, .int .i64 xh, .string xT, .int .i64 p1, .int .i64 p2, .slice va vn vc] 55))
  obtain ⟨R, hR⟩ : ∃ R, obOk ⟨id, true, ⟨xk, xp, xN, xz, xm, xs, xh, xT⟩, (p1, p2), ch⟩ = R := ⟨_, rfl⟩
  rw [hR]
  have HQ := hide hR
  clear hr hR
  have hi2 := rg_iff.1 hi
  have d1 : decide (id < 2) = false := decide_eq_false (by omega)
  have d2 : decide (1048575 < id) = false := decide_eq_false (by omega)
  have d3 : decide ((65536 : Int) < vn) = false := decide_eq_false (by omega)
  have HI := hide hi
  have HV := hide hv
  clear hi hi2 hv
  obtain ⟨E, hE⟩ : ∃ E, nodeE xk xp xN xz xm xs xh xT = E := ⟨_, rfl⟩
  have HE2 : Hid (Nd.err ⟨xk, xp, xN, xz, xm, xs, xh, xT⟩ = E) := hE
  have HC := hide (fun w => (rcheck_any xk xp xN xz xm xs xh xT w hN hT))
  rw [hE] at HC hbad
  clear hE
  have HF : Hid (obOk ⟨id, true, ⟨xk, xp, xN, xz, xm, xs, xh, xT⟩, (p1, p2), ch⟩ = false) := by
    show _ = _
    unfold obOk hdOk
    simp only
    simp only [HE2.out, if_true]
    rcases hbad with h | h | h <;> rw [h] <;> simp
  by_cases h1 : (E == 0) = false
  · have h1n : (E != 0) = true := by simp only [bne, h1]; rfl
    clear hbad
    go_enter Try.func33, Try.ntmps33
    go_wp2_with (go_at_call 43; refine (HC.out _).mono ?_; rintro e x1 ⟨rfl, b1⟩; have hbx : x1.heap[w.heap.size]? = _ := (b1.block w.heap.size (by simp)).trans (heap_alloc_new _ _); have c1_1 : x1.cell? ⟨w.heap.size, 1, none⟩ = some (.bool true) := blk_cell hbx 1 rfl; have c1_8 : x1.cell? ⟨w.heap.size, 8, none⟩ = some (.int .i64 xh) := blk_cell hbx 8 rfl; have c1_10 : x1.cell? ⟨w.heap.size, 10, none⟩ = some (.int .i64 p1) := blk_cell hbx 10 rfl; have c1_11 : x1.cell? ⟨w.heap.size, 11, none⟩ = some (.int .i64 p2) := blk_cell hbx 11 rfl; have HBX1 := hide hbx; have HB1 := hide (HB.out.trans (b1.mono HB.out.size)); clear b1 hbx)
    go_ret
    exact ⟨ret_bool (by rw [← HQ.out, HF.out]), HB1.out⟩
  have h1n : (E != 0) = false := by simp only [bne, Bool.not_eq_false'] ; simpa using h1
  by_cases h2 : (xh == 0) = false
  · have h2n : (xh != 0) = true := by simp only [bne, h2]; rfl
    clear hbad h1
    go_enter Try.func33, Try.ntmps33
    go_wp2_with (go_at_call 43; refine (HC.out _).mono ?_; rintro e x1 ⟨rfl, b1⟩; have hbx : x1.heap[w.heap.size]? = _ := (b1.block w.heap.size (by simp)).trans (heap_alloc_new _ _); have c1_1 : x1.cell? ⟨w.heap.size, 1, none⟩ = some (.bool true) := blk_cell hbx 1 rfl; have c1_8 : x1.cell? ⟨w.heap.size, 8, none⟩ = some (.int .i64 xh) := blk_cell hbx 8 rfl; have c1_10 : x1.cell? ⟨w.heap.size, 10, none⟩ = some (.int .i64 p1) := blk_cell hbx 10 rfl; have c1_11 : x1.cell? ⟨w.heap.size, 11, none⟩ = some (.int .i64 p2) := blk_cell hbx 11 rfl; have HBX1 := hide hbx; have HB1 := hide (HB.out.trans (b1.mono HB.out.size)); clear b1 hbx)
    go_ret
    exact ⟨ret_bool (by rw [← HQ.out, HF.out]), HB1.out⟩
  have h2n : (xh != 0) = false := by simp only [bne, Bool.not_eq_false'] ; simpa using h2
  have h3 : plOk (p1, p2) = false := by
    rcases hbad with h | h | h
    · exact absurd h h1
    · exact absurd h h2
    · exact h
  clear hbad h1 h2
  go_enter Try.func33, Try.ntmps33
  go_wp2_with (first
    | (go_at_call 43; refine (HC.out _).mono ?_; rintro e x1 ⟨rfl, b1⟩; have hbx : x1.heap[w.heap.size]? = _ := (b1.block w.heap.size (by simp)).trans (heap_alloc_new _ _); have c1_1 : x1.cell? ⟨w.heap.size, 1, none⟩ = some (.bool true) := blk_cell hbx 1 rfl; have c1_8 : x1.cell? ⟨w.heap.size, 8, none⟩ = some (.int .i64 xh) := blk_cell hbx 8 rfl; have c1_10 : x1.cell? ⟨w.heap.size, 10, none⟩ = some (.int .i64 p1) := blk_cell hbx 10 rfl; have c1_11 : x1.cell? ⟨w.heap.size, 11, none⟩ = some (.int .i64 p2) := blk_cell hbx 11 rfl; have HBX1 := hide hbx; have HB1 := hide (HB.out.trans (b1.mono HB.out.size)); clear b1 hbx)
    | (go_at_call 50; refine (rplace50 (p1, p2) _).mono ?_; rintro e x2 ⟨rfl, b2⟩; rw [h3]; have hbx : x2.heap[w.heap.size]? = _ := (b2.block w.heap.size (lt_of_block HBX1.out)).trans HBX1.out; have c2_1 : x2.cell? ⟨w.heap.size, 1, none⟩ = some (.bool true) := blk_cell hbx 1 rfl; have HBX2 := hide hbx; have HB2 := hide (HB1.out.trans (b2.mono HB1.out.size)); clear b2 hbx))
  go_ret
  exact ⟨ret_bool (by rw [← HQ.out, HF.out]), HB2.out⟩

set_option maxHeartbeats 4000000 in
set_option maxRecDepth 100000 in
theorem robj_t2 (id : Int) (xk xp : Int) (xN : ByteArray) (xz xm xs xh : Int) (xT : ByteArray) (p1 p2 : Int) (ch : List Chk) (va : Option Addr) (vn vc : Nat) (w : World) (hN : xN.size ≤ 9223372036854775807) (hT : xT.size ≤ 9223372036854775807) (hr : ReadsC w va vn ch) (hl : vn ≤ 140737488355000) (hi : rg id 2 1048575 = true) (hv : vn ≤ 65536) (hbad : nodeE xk xp xN xz xm xs xh xT = 0) (h2 : (xh == 0) = true) (h3 : plOk (p1, p2) = true) : Calls Try.prog 33 #[.agg #[.int .i64 id, .bool true, .int .i64 xk, .int .i64 xp, .string xN, .int .i64 xz, .int .i64 xm, .int .u64 xs, .int .i64 xh, .string xT, .int .i64 p1, .int .i64 p2, .slice va vn vc]] w fun e w' => e = .returned (.bool (obOk ⟨id, true, ⟨xk, xp, xN, xz, xm, xs, xh, xT⟩, (p1, p2), ch⟩)) ∧ Below w.heap.size w w' := by
  have HLN := hide (ReadsL.len hr chk_len (by decide))
  have HR := hide hr
  have HB := hide (below_alloc w (.cells #[.int .i64 id, .bool true, .int .i64 xk, .int .i64 xp, .string xN, .int .i64 xz, .int .i64 xm, .int .u64 xs, .int .i64 xh, .string xT, .int .i64 p1, .int .i64 p2, .slice va vn vc] 55))
  obtain ⟨R, hR⟩ : ∃ R, obOk ⟨id, true, ⟨xk, xp, xN, xz, xm, xs, xh, xT⟩, (p1, p2), ch⟩ = R := ⟨_, rfl⟩
  rw [hR]
  have HQ := hide hR
  clear hr hR
  have hi2 := rg_iff.1 hi
  have d1 : decide (id < 2) = false := decide_eq_false (by omega)
  have d2 : decide (1048575 < id) = false := decide_eq_false (by omega)
  have d3 : decide ((65536 : Int) < vn) = false := decide_eq_false (by omega)
  have HI := hide hi
  have HV := hide hv
  clear hi hi2 hv
  obtain ⟨E, hE⟩ : ∃ E, nodeE xk xp xN xz xm xs xh xT = E := ⟨_, rfl⟩
  have HE2 : Hid (Nd.err ⟨xk, xp, xN, xz, xm, xs, xh, xT⟩ = E) := hE
  have HC := hide (fun w => (rcheck_any xk xp xN xz xm xs xh xT w hN hT))
  rw [hE] at HC hbad
  clear hE
  subst hbad
  have h1n : ((0 : Int) != 0) = false := rfl
  have h2n : (xh != 0) = false := by simp only [bne, h2]; rfl
  have HH2 := hide h2
  have HH3 := hide h3
  clear h2
  go_enter Try.func33, Try.ntmps33
  go_wp2_with (first
    | (go_at_call 43; refine (HC.out _).mono ?_; rintro e x1 ⟨rfl, b1⟩; have hbx : x1.heap[w.heap.size]? = _ := (b1.block w.heap.size (by simp)).trans (heap_alloc_new _ _); have c1_1 : x1.cell? ⟨w.heap.size, 1, none⟩ = some (.bool true) := blk_cell hbx 1 rfl; have c1_8 : x1.cell? ⟨w.heap.size, 8, none⟩ = some (.int .i64 xh) := blk_cell hbx 8 rfl; have c1_10 : x1.cell? ⟨w.heap.size, 10, none⟩ = some (.int .i64 p1) := blk_cell hbx 10 rfl; have c1_11 : x1.cell? ⟨w.heap.size, 11, none⟩ = some (.int .i64 p2) := blk_cell hbx 11 rfl; have HBX1 := hide hbx; have HB1 := hide (HB.out.trans (b1.mono HB.out.size)); clear b1 hbx)
    | (go_at_call 50; refine (rplace50 (p1, p2) _).mono ?_; rintro e x2 ⟨rfl, b2⟩; rw [h3]; have hbx : x2.heap[w.heap.size]? = _ := (b2.block w.heap.size (lt_of_block HBX1.out)).trans HBX1.out; have c2_1 : x2.cell? ⟨w.heap.size, 1, none⟩ = some (.bool true) := blk_cell hbx 1 rfl; have HBX2 := hide hbx; have HB2 := hide (HB1.out.trans (b2.mono HB1.out.size)); clear b2 hbx))
  clear h3
  go_loopw [3] (fun s3 wr => ∃ (k : Nat) (a : Int), k ≤ vn ∧ s3 = .int .i64 k ∧ -1 ≤ a ∧ a ≤ 1048575 ∧ (0 < k → ∃ h : k - 1 < ch.length, ch[k - 1].no = a) ∧ (k = 0 → a = -1) ∧ Hid (chL (-1) ch = chL a (ch.drop k)) ∧ Hid (Below w.heap.size w wr) ∧ wr.heap[w.heap.size]? = some (.cells #[.int .i64 id, .bool true, .int .i64 xk, .int .i64 xp, .string xN, .int .i64 xz, .int .i64 xm, .int .u64 xs, .int .i64 xh, .string xT, .int .i64 p1, .int .i64 p2, .slice va vn vc] 55 (0, 0)))
    (fun s3 _ => vn - (intOf s3).toNat)
  case atStart => exact ⟨0, -1, Nat.zero_le _, rfl, by omega, by omega, (fun h => absurd h (by omega)), (fun _ => rfl), rfl, HB2, HBX2.out⟩
  case round =>
    obtain ⟨k, a, hk, rfl, ha0, ha1, hprev, hz, HA, HBr, hbox⟩ := hrel
    have HBX := hide hbox
    have HPV := hide hprev
    have HZ := hide hz
    have cb12 : wr.cell? ⟨w.heap.size, 12, none⟩ = some (.slice va vn vc) := blk_cell hbox 12 rfl
    clear hbox hprev hz
    by_cases hlt : k < vn
    · have hkl : k < ch.length := by rw [HLN.out]; exact hlt
      obtain ⟨b, off, rfl, hbs, hc⟩ := ReadsC.cells (ReadsL.below HR.out HBr.out) (by omega)
      have HCC := hide hc
      have hd : ch.drop k = ch[k] :: ch.drop (k + 1) := List.drop_eq_getElem_cons hkl
      obtain ⟨c0, c1, c2, c3⟩ := hc k hkl
      obtain ⟨⟨no, ⟨q1, q2⟩, n⟩, hX⟩ : ∃ X, ch[k] = X := ⟨_, rfl⟩
      rw [hX] at c0 c1 c2 c3 hd
      simp only at c0 c1 c2 c3
      have HD := hide hd
      have HX : Hid (∃ h : k < ch.length, ch[k] = ⟨no, (q1, q2), n⟩) := ⟨hkl, hX⟩
      have d4 : (k : Int) < vn := by omega
      have HB2 := hide (HBr.out.trans ((below_alloc wr (.cells #[.int .i64 no, .int .i64 q1, .int .i64 q2, .int .i64 n] 71)).mono HBr.out.size))
      have hsz := lt_of_block HBX.out
      have HBY : Hid ((wr.alloc (.cells #[.int .i64 no, .int .i64 q1, .int .i64 q2, .int .i64 n] 71)).heap[w.heap.size]? = some (.cells #[.int .i64 id, .bool true, .int .i64 xk, .int .i64 xp, .string xN, .int .i64 xz, .int .i64 xm, .int .u64 xs, .int .i64 xh, .string xT, .int .i64 p1, .int .i64 p2, .slice (some ⟨b, off, none⟩) vn vc] 55 (0, 0))) := ((below_alloc wr _).block _ hsz).trans HBX.out
      have HKL := hide hkl
      clear hc hd hX hkl hsz
      have stop : ∀ (h : rg no (a + 1) 1048575 = false ∨ plOk (q1, q2) = false ∨ rg n 0 2048 = false), obOk ⟨id, true, ⟨xk, xp, xN, xz, xm, xs, xh, xT⟩, (p1, p2), ch⟩ = false := by
        intro h
        have h2 := chL_stop (c := ⟨no, (q1, q2), n⟩) (r := ch.drop (k + 1)) h
        unfold obOk
        simp only
        rw [HA.out, HD.out, h2]
        simp
      have HST := hide stop
      clear stop
      by_cases g1 : no < 0
      · have HF := hide (HST.out (Or.inl (rg_not.2 (by omega))))
        go_wp2
        go_ret
        exact ⟨ret_bool (by rw [← HQ.out, HF.out]), HB2.out⟩
      have e1 : decide (no < 0) = false := decide_eq_false g1
      by_cases g2 : 1048575 < no
      · have HF := hide (HST.out (Or.inl (rg_not.2 (by omega))))
        clear g1
        go_wp2
        go_ret
        exact ⟨ret_bool (by rw [← HQ.out, HF.out]), HB2.out⟩
      have e2 : decide (1048575 < no) = false := decide_eq_false g2
      cases g3 : plOk (q1, q2) with
      | false =>
        have HF := hide (HST.out (Or.inr (Or.inl g3)))
        clear g1 g2
        go_wp2_with (go_at_call 50; refine (rplace50 (q1, q2) _).mono ?_; rintro e x9 ⟨rfl, b9⟩; rw [g3]; have HB9 := hide (HB2.out.trans (b9.mono HB2.out.size)); clear b9)
        go_ret
        exact ⟨ret_bool (by rw [← HQ.out, HF.out]), HB9.out⟩
      | true =>
      have HG1 := hide g1
      have HG2 := hide g2
      have HG3 := hide g3
      by_cases g4 : n < 0
      · have HF := hide (HST.out (Or.inr (Or.inr (rg_not.2 (by omega)))))
        clear g1 g2
        go_wp2_with (go_at_call 50; refine (rplace50 (q1, q2) _).mono ?_; rintro e x9 ⟨rfl, b9⟩; rw [g3]; have hbx := (b9.block wr.heap.size (by simp)).trans (heap_alloc_new wr _); have c9 : x9.cell? ⟨wr.heap.size, 3, none⟩ = some (.int .i64 n) := blk_cell hbx 3 rfl; have HB9 := hide (HB2.out.trans (b9.mono HB2.out.size)); clear b9 hbx)
        go_ret
        exact ⟨ret_bool (by rw [← HQ.out, HF.out]), HB9.out⟩
      have e4 : decide (n < 0) = false := decide_eq_false g4
      by_cases g5 : 2048 < n
      · have HF := hide (HST.out (Or.inr (Or.inr (rg_not.2 (by omega)))))
        clear g1 g2 g4
        go_wp2_with (go_at_call 50; refine (rplace50 (q1, q2) _).mono ?_; rintro e x9 ⟨rfl, b9⟩; rw [g3]; have hbx := (b9.block wr.heap.size (by simp)).trans (heap_alloc_new wr _); have c9 : x9.cell? ⟨wr.heap.size, 3, none⟩ = some (.int .i64 n) := blk_cell hbx 3 rfl; have HB9 := hide (HB2.out.trans (b9.mono HB2.out.size)); clear b9 hbx)
        go_ret
        exact ⟨ret_bool (by rw [← HQ.out, HF.out]), HB9.out⟩
      have e5 : decide (2048 < n) = false := decide_eq_false g5
      have HG4 := hide g4
      have HG5 := hide g5
      clear g1 g2 g4 g5
      by_cases g6 : k = 0
      · have ea := HZ.out g6
        have HGO := hide (chL_go (a := a) (c := ⟨no, (q1, q2), n⟩) (r := ch.drop (k + 1)) (rg_iff.2 (by have := HG1.out; have := HG2.out; simp only; omega)) HG3.out (rg_iff.2 (by have := HG4.out; have := HG5.out; simp only; omega)))
        have HNO := hide (show -1 ≤ no ∧ no ≤ 1048575 by have := HG1.out; have := HG2.out; omega)
        have HEA := hide ea
        have f0 : decide ((0 : Int) < (k : Int)) = false := decide_eq_false (by omega)
        have f0n : decide (0 < k) = false := decide_eq_false (by omega)
        have HG6 := hide g6
        clear ea g6
        go_wp2_with (go_at_call 50; refine (rplace50 (q1, q2) _).mono ?_; rintro e x9 ⟨rfl, b9⟩; rw [g3]; have hbx := (b9.block wr.heap.size (by simp)).trans (heap_alloc_new wr _); have c9 : x9.cell? ⟨wr.heap.size, 3, none⟩ = some (.int .i64 n) := blk_cell hbx 3 rfl; have c90 : x9.cell? ⟨wr.heap.size, 0, none⟩ = some (.int .i64 no) := blk_cell hbx 0 rfl; have HBZ := hide ((b9.block _ (lt_of_block HBY.out)).trans HBY.out); have HB9 := hide (HB2.out.trans (b9.mono HB2.out.size)); clear b9 hbx)
        go_quiet (fail)
        go_wp2
        go_roundw
        case rel => exact ⟨k + 1, no, by omega, by go_num, HNO.out.1, HNO.out.2, (fun _ => HX.out.elim fun h9 e9 => ⟨h9, by simp only [Nat.add_sub_cancel, e9]⟩), (fun h => absurd h (by omega)), by show _ = _; rw [HA.out, HD.out, HGO.out], below_drew _ HB9.out, HBZ.out⟩
        case measure => simp [intOf]; omega
      · obtain ⟨hpl, hpa⟩ := HPV.out (by omega)
        have hcp := (HCC.out (k - 1) hpl).1
        rw [hpa] at hcp
        have HCP := hide hcp
        obtain ⟨k1, hk1⟩ : ∃ k1, k - 1 = k1 := ⟨_, rfl⟩
        have hkk : k = k1 + 1 := by omega
        rw [hk1] at hcp HCP
        clear hpl hpa hk1 hcp
        subst hkk
        have f1 : (0 : Int) < ((k1 + 1 : Nat) : Int) := by omega
        have f2 : ((k1 + 1 : Nat) : Int) - 1 = (k1 : Int) := by omega
        by_cases g7 : no ≤ a
        · have HF := hide (HST.out (Or.inl (rg_not.2 (by omega))))
          go_wp2_with (go_at_call 50; refine (rplace50 (q1, q2) _).mono ?_; rintro e x9 ⟨rfl, b9⟩; rw [g3]; have hbx := (b9.block wr.heap.size (by simp)).trans (heap_alloc_new wr _); have c9 : x9.cell? ⟨wr.heap.size, 3, none⟩ = some (.int .i64 n) := blk_cell hbx 3 rfl; have c90 : x9.cell? ⟨wr.heap.size, 0, none⟩ = some (.int .i64 no) := blk_cell hbx 0 rfl; have hbz := (b9.block _ (lt_of_block HBY.out)).trans HBY.out; have c9b : x9.cell? ⟨w.heap.size, 12, none⟩ = some (.slice (some ⟨b, off, none⟩) vn vc) := blk_cell hbz 12 rfl; have c9p := (b9.cell (p := ⟨b, off + k1 * 4, none⟩) (Nat.lt_of_lt_of_le hbs (by simp))).trans (((below_alloc wr _).cell (p := ⟨b, off + k1 * 4, none⟩) hbs).trans HCP.out); have HB9 := hide (HB2.out.trans (b9.mono HB2.out.size)); clear b9 hbx hbz)
          go_quiet (fail)
          go_wp2
          go_ret
          exact ⟨ret_bool (by rw [← HQ.out, HF.out]), below_drew _ HB9.out⟩
        · have e7 : decide (no ≤ a) = false := decide_eq_false g7
          have HGO := hide (chL_go (a := a) (c := ⟨no, (q1, q2), n⟩) (r := ch.drop (k1 + 1 + 1)) (rg_iff.2 (by have := HG1.out; have := HG2.out; simp only; omega)) HG3.out (rg_iff.2 (by have := HG4.out; have := HG5.out; simp only; omega)))
          have HNO := hide (show -1 ≤ no ∧ no ≤ 1048575 by have := HG1.out; have := HG2.out; omega)
          clear g7
          go_wp2_with (go_at_call 50; refine (rplace50 (q1, q2) _).mono ?_; rintro e x9 ⟨rfl, b9⟩; rw [g3]; have hbx := (b9.block wr.heap.size (by simp)).trans (heap_alloc_new wr _); have c9 : x9.cell? ⟨wr.heap.size, 3, none⟩ = some (.int .i64 n) := blk_cell hbx 3 rfl; have c90 : x9.cell? ⟨wr.heap.size, 0, none⟩ = some (.int .i64 no) := blk_cell hbx 0 rfl; have hbz := (b9.block _ (lt_of_block HBY.out)).trans HBY.out; have c9b : x9.cell? ⟨w.heap.size, 12, none⟩ = some (.slice (some ⟨b, off, none⟩) vn vc) := blk_cell hbz 12 rfl; have c9p := (b9.cell (p := ⟨b, off + k1 * 4, none⟩) (Nat.lt_of_lt_of_le hbs (by simp))).trans (((below_alloc wr _).cell (p := ⟨b, off + k1 * 4, none⟩) hbs).trans HCP.out); have HBZ := hide hbz; have HB9 := hide (HB2.out.trans (b9.mono HB2.out.size)); clear b9 hbx hbz)
          go_quiet (fail)
          go_wp2
          go_roundw
          case rel => exact ⟨k1 + 1 + 1, no, by omega, by go_num, HNO.out.1, HNO.out.2, (fun _ => HX.out.elim fun h9 e9 => ⟨h9, by simp only [Nat.add_sub_cancel, e9]⟩), (fun h => absurd h (by omega)), by show _ = _; rw [HA.out, HD.out, HGO.out], below_drew _ HB9.out, HBZ.out⟩
          case measure => simp [intOf]; omega
    · have hkn : k = vn := by omega
      subst hkn
      have HE := hide (show chL (-1) ch = true by rw [HA.out, List.drop_of_length_le (by rw [HLN.out]; exact Nat.le_refl _)]; rfl)
      go_wp2
      go_ret
      exact ⟨ret_bool (by rw [← HQ.out]; unfold obOk hdOk; simp only; rw [HE.out, HLN.out, decide_eq_true HV.out, HI.out, HE2.out, HH2.out, HH3.out]; simp), HBr.out⟩

theorem robj33 (o : Ob) (va : Option Addr) (vn vc : Nat) (w : World) (hsz : o.Sz) (hr : ReadsC w va vn o.ch) (hl : vn ≤ 140737488355000) : Calls Try.prog 33 #[.agg #[.int .i64 o.id, .bool o.hd, .int .i64 o.nd.k, .int .i64 o.nd.p, .string o.nd.N, .int .i64 o.nd.z, .int .i64 o.nd.m, .int .u64 o.nd.st, .int .i64 o.nd.h, .string o.nd.T, .int .i64 o.pl.1, .int .i64 o.pl.2, .slice va vn vc]] w fun e w' => e = .returned (.bool (obOk o)) ∧ Below w.heap.size w w' := by
  obtain ⟨id, hd, ⟨xk, xp, xN, xz, xm, xs, xh, xT⟩, ⟨p1, p2⟩, ch⟩ := o
  by_cases hi : rg id 2 1048575 = true
  rotate_left
  · exact robj_out _ _ _ _ _ _ _ _ _ _ _ _ _ _ _ _ _ hsz.1 hsz.2 hr hl (Or.inl (by simpa using hi))
  by_cases hv : vn ≤ 65536
  rotate_left
  · exact robj_out _ _ _ _ _ _ _ _ _ _ _ _ _ _ _ _ _ hsz.1 hsz.2 hr hl (Or.inr (by omega))
  cases hd with
  | false =>
    cases h1 : (ndZ ⟨xk, xp, xN, xz, xm, xs, xh, xT⟩ && plZ (p1, p2)) with
    | false => exact robj_f1 _ _ _ _ _ _ _ _ _ _ _ _ _ _ _ _ hsz.1 hsz.2 hr hl hi hv h1
    | true =>
      rw [Bool.and_eq_true] at h1
      exact robj_f2 _ _ _ _ _ _ _ _ _ _ _ _ _ _ _ _ hsz.1 hsz.2 hr hl hi hv h1.1 h1.2
  | true =>
    by_cases h1 : nodeE xk xp xN xz xm xs xh xT = 0
    rotate_left
    · exact robj_t1 _ _ _ _ _ _ _ _ _ _ _ _ _ _ _ _ hsz.1 hsz.2 hr hl hi hv (Or.inl (by simpa using h1))
    cases h2 : (xh == 0) with
    | false => exact robj_t1 _ _ _ _ _ _ _ _ _ _ _ _ _ _ _ _ hsz.1 hsz.2 hr hl hi hv (Or.inr (Or.inl h2))
    | true =>
      cases h3 : plOk (p1, p2) with
      | false => exact robj_t1 _ _ _ _ _ _ _ _ _ _ _ _ _ _ _ _ hsz.1 hsz.2 hr hl hi hv (Or.inr (Or.inr h3))
      | true => exact robj_t2 _ _ _ _ _ _ _ _ _ _ _ _ _ _ _ _ hsz.1 hsz.2 hr hl hi hv h1 h2 h3
end Go.Proofs.Ytoaahellfflooaa
