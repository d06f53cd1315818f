/-
  SEAT Ytjginocbbnmgaaa: TnodeHeight, its walk.
-/
import Derived.Test.YtjginocbbnmgaaaToE
namespace Go.Proofs.Ytjginocbbnmgaaa
open Go.RowKit
set_option linter.unusedVariables false

/-- The last pair of a slice of pairs. -/
theorem Rd.last {W : World} {v : Value} {pre : List (Int × Int)} {p : Int × Int} (h : Rd W v (pre ++ [p])) : ∃ g cap, v = .slice (some ⟨g, 0, none⟩) (pre.length + 1) cap ∧ pre.length + 1 ≤ maxLen ∧ g < W.heap.size ∧ W.cell? ⟨g, pre.length * 2, none⟩ = some (.int .i64 p.1) := by
  rcases Rd.reads h with ⟨_, h2⟩ | ⟨g, cap, rfl, hl, hc⟩
  · simp at h2
  · obtain ⟨h1, _⟩ := hc pre.length p (by simp)
    refine ⟨g, cap, by simp, by simpa using hl, ?_, h1⟩
    unfold World.cell? at h1
    rcases Nat.lt_or_ge g W.heap.size with q | q
    · exact q
    · simp [Array.getElem?_eq_none q] at h1
theorem Rd.empty {W : World} {v : Value} (h : Rd W v []) : ∃ p cap, v = .slice p 0 cap := by
  rcases Rd.reads h with ⟨rfl, _⟩ | ⟨g, cap, rfl, _⟩
  · exact ⟨_, _, rfl⟩
  · exact ⟨_, _, rfl⟩
set_option maxHeartbeats 4000000 in
set_option maxRecDepth 100000 in
theorem height_walk (a : Option Addr) (len cap : Nat) (ks : List Int) (fr : Int) (w : World) (hr : ReadsI w a len ks) (hs : len * 8 ≤ 140737488351232) (hf : Wf fr) :
    Calls Try.prog 3 #[.slice a len cap, .int .i64 fr] w fun e w' => e = .returned (.bool true) ∧ Below w.heap.size w w' := by
  have HR : Hid _ := hr
  have HHS : Hid _ := hs
  have HF : Hid _ := hf
  clear hr hs hf
  go_enter Try.func3, Try.ntmps3
  go_upto_region 3 with (first | (go_at_call 9; refine (heads_any _).mono ?_; rintro e u0 ⟨rfl, b0⟩; have B0 : Hid _ := b0; clear b0))
  have hr0 : ReadsI u0 a len ks := by
    obtain ⟨q1, q2, q3, q4⟩ := HR.out
    refine ⟨q1, q2, q3, fun x hx i hi => ?_⟩
    obtain ⟨b, off, hb, hbl, _⟩ := ReadsI.pos HR.out (by omega)
    rw [hx] at hb
    injection hb with hb
    subst hb
    rw [plain_add]
    have h9 := q4 _ hx i hi
    rw [plain_add] at h9
    exact (B0.out.cell (p := ⟨b, off + i, none⟩) hbl).trans h9
  have HR0 : Hid _ := hr0
  clear hr0
  obtain ⟨M, hM⟩ : ∃ M, fillM ks len = M := ⟨_, rfl⟩
  have HFI : Hid _ := filled_any a len cap ks u0 HR0.out HHS.out
  obtain ⟨gt, hgt⟩ : ∃ gt, u0.heap.size = gt := ⟨_, rfl⟩
  have HGT : Hid (w.heap.size ≤ gt) := by unfold Hid; rw [← hgt]; exact B0.out.size
  rw [hM, hgt] at HFI
  clear hM
  go_upto_region 4 with (first | (go_at_call 10; refine Calls.mono HFI.out ?_; rintro e u1 ⟨h1, rfl, t1, b1⟩; have T1 : Hid _ := t1; have B1 : Hid (Below w.heap.size w u1) := B0.out.trans (Below.mono (by rw [hgt]; exact b1) B0.out.size); clear t1 b1))
  have HCU : Hid _ := cut_any gt h1 fr M u1 T1.out HF.out
  obtain ⟨M', hM'⟩ : ∃ M', cutFrom M fr = M' := ⟨_, rfl⟩
  obtain ⟨C, hC⟩ : ∃ C, cnt (hit M (max fr 0) 1048576) 1048576 = C := ⟨_, rfl⟩
  rw [hM', hC] at HCU
  clear hM' hC hgt
  go_upto_region 5 with (first | (go_at_call 11; refine Calls.mono HCU.out ?_; rintro e u2 ⟨h2, rfl, t2, g2⟩; have T2 : Hid _ := t2; have B2 : Hid _ := keep_new B1.out HGT.out g2; clear t2 g2))
  rcases all_last M' with ⟨hA, hz⟩ | ⟨K, v, pre, hK, hKv, hKm, hA⟩
  · have hh : h2 = 0 := T2.out.low0 (fun k => by
      rcases Nat.lt_or_ge k 1048576 with q | q
      · exact hz k q
      · exact T2.out.out q)
    subst hh
    have hnum : num M' = 0 := by rw [← all_count, hA]; rfl
    have HA : Hid _ := And.intro hA hnum
    clear hz hA hnum
    go_wp2_with (first
      | (go_at_call 12; refine (pairs_t gt 0 M' _ T2.out).mono ?_; rintro e u3 ⟨vl, rfl, r3, t3, b3⟩; rw [HA.out.1] at r3; obtain ⟨p3, c3, rfl⟩ := Rd.empty r3; have T3 : Hid _ := t3; have B3 : Hid _ := B2.out.trans (b3.mono B2.out.size); clear r3 t3 b3)
      | (go_at_call 13; refine (height_t gt 0 M' _ T3.out).mono ?_; rintro e u ⟨rfl, rfl⟩)
      | (go_at_call 14; refine (len_t gt 0 M' _ T3.out).mono ?_; rintro e u ⟨rfl, rfl⟩; rw [HA.out.2]))
    go_ret
    exact ⟨rfl, B3.out⟩
  · have h5 := T2.out.on.h5
    have hmx : ∀ k, K < k → M' k = none := fun k hk => by
      rcases Nat.lt_or_ge k 1048576 with q | q
      · exact hKm k hk q
      · exact T2.out.out q
    have hhi := T2.out.high (K := K) (by rw [hKv]; rfl) hmx
    have HHI : Hid _ := hhi
    have HA : Hid _ := hA
    obtain ⟨n, hn⟩ : ∃ n, pre.length = n := ⟨_, rfl⟩
    have HNN : Hid _ := hn
    have hn6 : (n : Int) ≤ 1048576 := by
      have := all_count M'
      rw [hA] at this
      simp at this
      have := num_le M'
      omega
    have HN6 : Hid _ := hn6
    have HK : Hid _ := hK
    have hh1 : 0 < h2 := hhi.1
    clear hA hKv hKm hmx hhi hn hK hn6
    have hne : ((n : Int) + 1 == 0) = false := by simp; omega
    have hne2 : (((n + 1 : Nat) : Int) == 0) = false := by simp; omega
    have hne3 : ¬ ((n : Int) + 1 = 0) := by omega
    go_upto_region 8 with (first
      | (go_at_call 12; refine (pairs_t gt h2 M' _ T2.out).mono ?_; rintro e u3 ⟨vl, rfl, r3, t3, b3⟩; rw [HA.out] at r3; obtain ⟨g, c3, rfl, hml, hgl, hcl⟩ := Rd.last r3; rw [HNN.out] at hcl ⊢; have T3 : Hid _ := t3; have HCL : Hid _ := And.intro hgl hcl; have B3 : Hid _ := B2.out.trans (b3.mono B2.out.size); clear r3 t3 b3 hgl hcl hml))
    clear hne hne2 hne3
    obtain ⟨gu, hgu⟩ : ∃ gu, u3.heap.size = gu := ⟨_, rfl⟩
    have HGU : Hid _ := hgu
    clear hgu
    go_upto_region 9 with (first
      | (go_at_call 15; refine (new_t _).mono ?_; rintro e u4 ⟨rfl, t4, b4⟩; rw [HGU.out] at t4 ⊢; have x4 : u4.cell? ⟨g, n * 2, none⟩ = some (.int .i64 (K : Int)) := ((b4.cell (p := ⟨g, n * 2, none⟩) HCL.out.1).trans HCL.out.2); have T4 : Hid _ := t4; have B4 : Hid _ := b4; clear t4 b4))
    have HPU : Hid _ := put_any gu 0 K 0 M0 u4 T4.out HK.out
    have wn : IntKind.i64.wrap (n : Int) = (n : Int) := by have := HN6.out; rw [IntKind.wrap_i64]; omega
    go_upto_region 10 with (first
      | (go_at_call 16; refine Calls.mono HPU.out ?_; rintro e u5 ⟨hu, rfl, t5, g5⟩; have T5 : Hid _ := t5; have B35 : Hid _ := keep_new B4.out (Nat.le_of_eq HGU.out) g5; clear t5 g5 x4))
    obtain rfl : hu = h2 := high_one (T5.out.high (K := K) (by unfold upd; rw [if_pos rfl]; rfl) (fun k hk => by unfold upd; rw [if_neg (by omega)]; rfl)) HHI.out
    have HTT : Hid _ := T3.out.below B35.out
    have x5 : u5.cell? ⟨g, n * 2, none⟩ = some (.int .i64 (K : Int)) := ((B35.out.cell (p := ⟨g, n * 2, none⟩) HCL.out.1).trans HCL.out.2)
    have HBB : Hid (Below w.heap.size w u5) := B3.out.trans (B35.out.mono B3.out.size)
    go_wp2_with (first
      | (go_at_call 13; refine (height_t gt hu M' _ HTT.out).mono ?_; rintro e u ⟨rfl, rfl⟩))
    go_loopw [10, 11] (fun s10 s11 wr => ∃ i : Nat, 1 ≤ i ∧ i ≤ hu ∧ s11 = .int .i64 (i : Int) ∧ s10 = .int .i64 ((spn (i - 1) : Nat) : Int) ∧ wr = u5) (fun _ i _ => hu - (intOf i).toNat)
    case atStart => exact ⟨1, by omega, by omega, rfl, rfl, rfl⟩
    case round =>
      obtain ⟨i, hi1, hi2, rfl, rfl, rfl⟩ := hrel
      obtain ⟨S, hS⟩ : ∃ S, spn (i - 1) = S := ⟨_, rfl⟩
      have hS6 : S ≤ 65536 := by rw [← hS]; exact spn_le (show i - 1 ≤ 4 by omega)
      have hnx : spn i = 16 * S := by
        have e := spn_succ (i - 1)
        rw [hS, show i - 1 + 1 = i from Nat.sub_add_cancel hi1] at e
        exact e
      have HNX : Hid _ := And.intro hS hnx
      rw [hS]
      have wS : IntKind.i64.wrap ((S : Int) * 16) = (S : Int) * 16 := by rw [IntKind.wrap_i64]; omega
      have wi : IntKind.i64.wrap ((i : Int) + 1) = (i : Int) + 1 := by rw [IntKind.wrap_i64]; omega
      by_cases hc : i < hu
      · have dc : (i : Int) < (hu : Int) := by omega
        clear hS hnx
        go_wp2_with fail
        go_roundw
        case rel => exact ⟨i + 1, by omega, by omega, by first | rfl | simp, by rw [Nat.add_sub_cancel, HNX.out.2, Int.natCast_mul, Int.mul_comm]; first | rfl | simp, by first | rfl | trivial⟩
        case measure => (simp [intOf]; omega)
      · have dc : ¬ ((i : Int) < (hu : Int)) := by omega
        obtain rfl : i = hu := by omega
        have q := HHI.out
        have d1 : (1 : Int) ≤ (i : Int) := by omega
        have d2 : (i : Int) ≤ 5 := by omega
        have d3 : (K : Int) < (S : Int) * 16 := by
          have := q.2.1
          rw [hnx] at this
          omega
        have d4 : ((i : Int) == 1) = true ∨ ((i : Int) == 1) = false ∧ (S : Int) ≤ (K : Int) := by
          by_cases e : i = 1
          · exact Or.inl (by simp [e])
          · refine Or.inr ⟨by simp; omega, ?_⟩
            rcases q.2.2 with h | h
            · omega
            · rw [hS] at h
              omega
        clear hS hnx q hc
        rcases d4 with d4 | ⟨d4, d5⟩
        all_goals
          go_wp2_with (first
            | (go_at_call 13; refine (height_t gu i _ _ T5.out).mono ?_; rintro e u ⟨rfl, rfl⟩))
          go_ret
          exact ⟨rfl, HBB.out⟩
end Go.Proofs.Ytjginocbbnmgaaa
