/-
  SEAT YtnopljjngbgpdabDoor: Diff, whatever the images are.
-/
import Derived.Test.YtnopljjngbgpdabDoorDi
import Derived.Test.YtnopljjngbgpdabDoorJ
import Derived.Test.YtnopljjngbgpdabDoorPk
import Derived.Handy
namespace Go.Proofs.YtnopljjngbgpdabDoor
open Go.RowKit
set_option linter.unusedVariables false

theorem box2i {w u : World} {b q s b' q' s' : Int} {vc vm vc' vm' : Value} (h : ((w.alloc (.cells #[.int .i64 b, .int .i64 q, .int .i64 s, vc, vm] 27)).alloc (.cells #[.int .i64 b', .int .i64 q', .int .i64 s', vc', vm'] 27)).grownBy u none) :
    (u.cell? ⟨w.heap.size, 0, none⟩ = some (.int .i64 b) ∧ u.cell? ⟨w.heap.size, 1, none⟩ = some (.int .i64 q) ∧ u.cell? ⟨w.heap.size, 2, none⟩ = some (.int .i64 s) ∧ u.cell? ⟨w.heap.size, 3, none⟩ = some vc ∧ u.cell? ⟨w.heap.size, 4, none⟩ = some vm) ∧
    (u.cell? ⟨w.heap.size + 1, 0, none⟩ = some (.int .i64 b') ∧ u.cell? ⟨w.heap.size + 1, 1, none⟩ = some (.int .i64 q') ∧ u.cell? ⟨w.heap.size + 1, 2, none⟩ = some (.int .i64 s') ∧ u.cell? ⟨w.heap.size + 1, 3, none⟩ = some vc' ∧ u.cell? ⟨w.heap.size + 1, 4, none⟩ = some vm') := by
  have e1 : (w.alloc (.cells #[.int .i64 b, .int .i64 q, .int .i64 s, vc, vm] 27)).heap.size = w.heap.size + 1 := by simp
  have a0 : ((w.alloc (.cells #[.int .i64 b, .int .i64 q, .int .i64 s, vc, vm] 27)).alloc (.cells #[.int .i64 b', .int .i64 q', .int .i64 s', vc', vm'] 27)).heap[w.heap.size]? = some (.cells #[.int .i64 b, .int .i64 q, .int .i64 s, vc, vm] 27) := by
    rw [Below.heap_alloc _ _ _ (by simp)]; exact heap_alloc_new _ _
  have a1 : ((w.alloc (.cells #[.int .i64 b, .int .i64 q, .int .i64 s, vc, vm] 27)).alloc (.cells #[.int .i64 b', .int .i64 q', .int .i64 s', vc', vm'] 27)).heap[w.heap.size + 1]? = some (.cells #[.int .i64 b', .int .i64 q', .int .i64 s', vc', vm'] 27) := by
    rw [← e1]; exact heap_alloc_new _ _
  have c0 := (h.block w.heap.size (by simp; omega) (by simp)).trans a0
  have c1 := (h.block (w.heap.size + 1) (by simp) (by simp)).trans a1
  clear h a0 a1 e1
  refine ⟨⟨?_, ?_, ?_, ?_, ?_⟩, ⟨?_, ?_, ?_, ?_, ?_⟩⟩
  all_goals first | (simp [World.cell?, c0]; done) | (simp [World.cell?, c1]; done)


/-- What Diff answers as its error. -/
def difE (b q s b' q' s' E1 E2 : Int) : Int := if E1 = 0 then (if E2 = 0 then (if b = b' ∧ q = q' ∧ s = s' then 0 else 40) else E2) else E1


set_option maxHeartbeats 2000000 in
set_option maxRecDepth 100000 in
theorem diff_err (b q s b' q' s' : Int) (a1 a2 a3 a4 : Option Addr) (n1 c1 n2 c2 n3 c3 n4 c4 : Nat) (w : World) (h1 : n1 ≤ 140737488355000) (h2 : n2 ≤ 140737488355000) (h3 : n3 ≤ 140737488355000) (h4 : n4 ≤ 140737488355000)
    (hE : difE b q s b' q' s' (chkE b q s n1 n2) (chkE b' q' s' n3 n4) ≠ 0) :
    Calls Tryd.prog 18 #[.agg #[.int .i64 b, .int .i64 q, .int .i64 s, .slice a1 n1 c1, .slice a2 n2 c2], .agg #[.int .i64 b', .int .i64 q', .int .i64 s', .slice a3 n3 c3, .slice a4 n4 c4]] w fun e w' =>
      e = .returned (.tuple #[.slice none 0 0, .int .i64 (difE b q s b' q' s' (chkE b q s n1 n2) (chkE b' q' s' n3 n4))]) ∧ Below w.heap.size w w' := by
  obtain ⟨E1, hE1⟩ : ∃ E, chkE b q s n1 n2 = E := ⟨_, rfl⟩
  obtain ⟨E2, hE2⟩ : ∃ E, chkE b' q' s' n3 n4 = E := ⟨_, rfl⟩
  rw [hE1, hE2] at hE ⊢
  have HE1 : Hid _ := hE1
  have HE2 : Hid _ := hE2
  have HN : Hid (n1 ≤ 140737488355000 ∧ n2 ≤ 140737488355000 ∧ n3 ≤ 140737488355000 ∧ n4 ≤ 140737488355000) := ⟨h1, h2, h3, h4⟩
  have HB0 : Hid (Below w.heap.size w ((w.alloc (.cells #[.int .i64 b, .int .i64 q, .int .i64 s, .slice a1 n1 c1, .slice a2 n2 c2] 27)).alloc (.cells #[.int .i64 b', .int .i64 q', .int .i64 s', .slice a3 n3 c3, .slice a4 n4 c4] 27))) := (below_alloc w _).alloc (below_alloc w _).size _
  clear hE1 hE2 h1 h2 h3 h4
  cases k1 : (E1 == 0) with
  | false =>
    have k1' : ¬ E1 = 0 := by simpa using k1
    have k2 : (E1 != 0) = true := by simpa using k1'
    have hd : difE b q s b' q' s' E1 E2 = E1 := by unfold difE; rw [if_neg k1']
    rw [hd]
    clear hE hd k1'
    go_enter Tryd.func18, Tryd.ntmps18
    go_wp2_with (go_at_call 10; refine (check_any b q s a1 a2 n1 c1 n2 c2 _ HN.out.1 HN.out.2.1).mono ?_; rintro e u1 ⟨rfl, b1⟩; rw [HE1.out]; obtain ⟨⟨x0, x1, x2, x3, x4⟩, y0, y1, y2, y3, y4⟩ := box2i (grown_of b1 none))
    go_ret2
    exact ⟨rfl, below_trans HB0.out b1⟩
  | true =>
    have k1' : E1 = 0 := by simpa using k1
    subst k1'
    cases k3 : (E2 == 0) with
    | false =>
      have k3' : ¬ E2 = 0 := by simpa using k3
      have k4 : (E2 != 0) = true := by simpa using k3'
      have hd : difE b q s b' q' s' 0 E2 = E2 := by unfold difE; rw [if_pos rfl, if_neg k3']
      rw [hd]
      clear hE hd k3'
      go_enter Tryd.func18, Tryd.ntmps18
      go_wp2_with (first
        | (go_at_call 10; have zz := M1; refine (check_any b' q' s' a3 a4 n3 c3 n4 c4 _ HN.out.2.2.1 HN.out.2.2.2).mono ?_; rintro e u2 ⟨rfl, b2⟩; rw [HE2.out]; clear x0 x1 x2 x3 x4 y0 y1 y2 y3 y4; obtain ⟨⟨x0, x1, x2, x3, x4⟩, y0, y1, y2, y3, y4⟩ := box2i (grownBy_trans (grown_of b1 none) (grown_of b2 none)))
        | (go_at_call 10; refine (check_any b q s a1 a2 n1 c1 n2 c2 _ HN.out.1 HN.out.2.1).mono ?_; rintro e u1 ⟨rfl, b1⟩; rw [HE1.out]; obtain ⟨⟨x0, x1, x2, x3, x4⟩, y0, y1, y2, y3, y4⟩ := box2i (grown_of b1 none); have M1 : Hid True := trivial))
      go_ret2
      exact ⟨rfl, below_trans HB0.out (below_trans b1 b2)⟩
    | true =>
      have k3' : E2 = 0 := by simpa using k3
      subst k3'
      have hne : ¬ (b = b' ∧ q = q' ∧ s = s') := fun e => hE (by unfold difE; rw [if_pos rfl, if_pos rfl, if_pos e])
      have hd : difE b q s b' q' s' 0 0 = 40 := by unfold difE; rw [if_pos rfl, if_pos rfl, if_neg hne]
      rw [hd]
      clear hE hd
      go_enter Tryd.func18, Tryd.ntmps18
      go_wp2_with (first
        | (go_at_call 10; have zz := M1; refine (check_any b' q' s' a3 a4 n3 c3 n4 c4 _ HN.out.2.2.1 HN.out.2.2.2).mono ?_; rintro e u2 ⟨rfl, b2⟩; rw [HE2.out]; clear x0 x1 x2 x3 x4 y0 y1 y2 y3 y4; obtain ⟨⟨x0, x1, x2, x3, x4⟩, y0, y1, y2, y3, y4⟩ := box2i (grownBy_trans (grown_of b1 none) (grown_of b2 none)))
        | (go_at_call 10; refine (check_any b q s a1 a2 n1 c1 n2 c2 _ HN.out.1 HN.out.2.1).mono ?_; rintro e u1 ⟨rfl, b1⟩; rw [HE1.out]; obtain ⟨⟨x0, x1, x2, x3, x4⟩, y0, y1, y2, y3, y4⟩ := box2i (grown_of b1 none); have M1 : Hid True := trivial))
      all_goals
        go_ret2
        exact ⟨rfl, below_trans HB0.out (below_trans b1 b2)⟩



theorem chk_nat {b p s : Int} {n m : Nat} (hE : chkE b p s n m = 0) : ∃ b' p' s' : Nat, b = (b' : Int) ∧ p = (p' : Int) ∧ s = (s' : Int) ∧ Fits (b' : Int) (p' : Int) (s' : Int) = true ∧ n = b' * p' * (256 * s' + (54 + 3 * s')) ∧ m = b' := by
  unfold chkE at hE
  split at hE
  · rename_i hf
    split at hE
    · rename_i h2
      have h0 := of_decide_eq_true hf
      obtain ⟨b', rfl⟩ := Int.eq_ofNat_of_zero_le (show 0 ≤ b by omega)
      obtain ⟨p', rfl⟩ := Int.eq_ofNat_of_zero_le (show 0 ≤ p by omega)
      obtain ⟨s', rfl⟩ := Int.eq_ofNat_of_zero_le (show 0 ≤ s by omega)
      refine ⟨b', p', s', rfl, rfl, rfl, hf, ?_, by omega⟩
      have h3 := h2.1
      unfold pgL at h3
      have e : (b' : Int) * (p' : Int) * (256 * (s' : Int) + (54 + 3 * (s' : Int))) = ((b' * p' * (256 * s' + (54 + 3 * s')) : Nat) : Int) := by
        have e2 : (256 * (s' : Int) + (54 + 3 * (s' : Int))) = ((256 * s' + (54 + 3 * s') : Nat) : Int) := by omega
        rw [e2, ← Int.natCast_mul, ← Int.natCast_mul]
      rw [e] at h3
      exact Int.ofNat.inj h3
    · cases hE
  · cases hE
theorem difE_zero {b q s b' q' s' E1 E2 : Int} (h : difE b q s b' q' s' E1 E2 = 0) : E1 = 0 ∧ E2 = 0 ∧ b = b' ∧ q = q' ∧ s = s' := by
  unfold difE at h
  split at h
  · rename_i h1
    split at h
    · rename_i h2
      split at h
      · rename_i h3
        exact ⟨h1, h2, h3.1, h3.2.1, h3.2.2⟩
      · cases h
    · rename_i h2
      exact absurd h h2
  · rename_i h1
    exact absurd h h1
/-- The places that Diff tells. -/
def difD (b q s E : Int) (xs ys : List Int) (ms ns : List Bool) : List Pl := if E = 0 then dfL xs ys ms ns (256 * s.toNat + (54 + 3 * s.toNat)) q.toNat (b.toNat * q.toNat) else []
theorem dfL_len (xs ys : List Int) (ms ns : List Bool) (L p : Nat) : ∀ N, (dfL xs ys ms ns L p N).length ≤ 2 * N
  | 0 => by simp [dfL]
  | N + 1 => by
    have h1 := dfL_len xs ys ms ns L p N
    have h2 := dfN_len xs ys ms ns L p N
    have e : dfL xs ys ms ns L p (N + 1) = dfL xs ys ms ns L p N ++ dfN xs ys ms ns L p N := by unfold dfL; rw [List.range_succ, List.flatMap_append, List.flatMap_singleton]
    rw [e, List.length_append]
    omega
theorem difD_len {b q s b' q' s' : Int} {n1 n2 n3 n4 : Nat} (xs ys : List Int) (ms ns : List Bool) : (difD b q s (difE b q s b' q' s' (chkE b q s n1 n2) (chkE b' q' s' n3 n4)) xs ys ms ns).length ≤ 131072 := by
  unfold difD
  by_cases h : difE b q s b' q' s' (chkE b q s n1 n2) (chkE b' q' s' n3 n4) = 0
  · rw [if_pos h]
    obtain ⟨e1, _⟩ := difE_zero h
    obtain ⟨b0, p0, s0, rfl, rfl, rfl, hf, _, _⟩ := chk_nat e1
    obtain ⟨q1, q2, q3, q4, q5, q6, q7⟩ := fits_nat hf
    simp only [Int.toNat_natCast]
    have := dfL_len xs ys ms ns (256 * s0 + (54 + 3 * s0)) p0 (b0 * p0)
    omega
  · rw [if_neg h]
    simp


theorem diff_any (b q s b' q' s' : Int) (a1 a2 a3 a4 : Option Addr) (n1 c1 n2 c2 n3 c3 n4 c4 : Nat) (xs ys : List Int) (ms ns : List Bool) (w : World) (h1 : n1 ≤ 140737488355000) (h2 : n2 ≤ 140737488355000) (h3 : n3 ≤ 140737488355000) (h4 : n4 ≤ 140737488355000) (r1 : Reads w a1 n1 xs) (r2 : ReadsB w a2 n2 ms) (r3 : Reads w a3 n3 ys) (r4 : ReadsB w a4 n4 ns) (k1 : n1 ≤ c1 ∧ c1 ≤ 9223372036854775807) (k3 : n3 ≤ c3 ∧ c3 ≤ 9223372036854775807) :
    Calls Tryd.prog 18 #[.agg #[.int .i64 b, .int .i64 q, .int .i64 s, .slice a1 n1 c1, .slice a2 n2 c2], .agg #[.int .i64 b', .int .i64 q', .int .i64 s', .slice a3 n3 c3, .slice a4 n4 c4]] w fun e w' => ∃ v, e = .returned (.tuple #[v, .int .i64 (difE b q s b' q' s' (chkE b q s n1 n2) (chkE b' q' s' n3 n4))]) ∧ w'.ownsRow w.heap.size 50 2 v (difD b q s (difE b q s b' q' s' (chkE b q s n1 n2) (chkE b' q' s' n3 n4)) xs ys ms ns).length (flatP (difD b q s (difE b q s b' q' s' (chkE b q s n1 n2) (chkE b' q' s' n3 n4)) xs ys ms ns)) ∧ Below w.heap.size w w' := by
  by_cases hE : difE b q s b' q' s' (chkE b q s n1 n2) (chkE b' q' s' n3 n4) = 0
  · rw [hE]
    obtain ⟨e1, e2, e3, e4, e5⟩ := difE_zero hE
    subst e3 e4 e5
    obtain ⟨b0, p0, s0, rfl, rfl, rfl, hf, hn, hm⟩ := chk_nat e1
    obtain ⟨b9, p9, s9, i1, i2, i3, _, hn', hm'⟩ := chk_nat e2
    have j1 := Int.ofNat.inj i1
    have j2 := Int.ofNat.inj i2
    have j3 := Int.ofNat.inj i3
    subst j1 j2 j3
    obtain rfl : n3 = n1 := by rw [hn, hn']
    obtain rfl : n4 = n2 := by rw [hm, hm']
    obtain ⟨q1, q2, q3, q4, q5, q6, q7⟩ := fits_nat hf
    have hp : 0 < n3 := by rw [hn]; exact Nat.mul_pos (Nat.mul_pos (by omega) (by omega)) (by omega)
    obtain ⟨bk, off, rfl, _⟩ := r1.pos hp
    obtain ⟨bk2, off2, rfl, _⟩ := r3.pos hp
    have hd : difD (b0 : Int) (p0 : Int) (s0 : Int) 0 xs ys ms ns = dfL xs ys ms ns (256 * s0 + (54 + 3 * s0)) p0 (b0 * p0) := by
      unfold difD
      rw [if_pos rfl]
      simp only [Int.toNat_natCast]
    rw [hd]
    exact diff_ok b0 p0 s0 bk off n3 c1 a2 n4 c2 bk2 off2 c3 a4 c4 xs ys ms ns (b0 * p0) (256 * s0 + (54 + 3 * s0)) w hf e1 rfl rfl hn hm r1 r3 r2 r4 k1.1 k1.2 k3.1 k3.2
  · refine (diff_err b q s b' q' s' a1 a2 a3 a4 n1 c1 n2 c2 n3 c3 n4 c4 w h1 h2 h3 h4 hE).mono ?_
    rintro e w' ⟨rfl, hb⟩
    refine ⟨_, rfl, ?_, hb⟩
    unfold difD
    rw [if_neg hE]
    exact World.ownsRow_nil _ _ _ _


end Go.Proofs.YtnopljjngbgpdabDoor
