/-
  SEAT YtnjcjaaciphcgaaDoor: own: each list of findings has memory of its own.
-/
import Derived.Test.YtnjcjaaciphcgaaDoorXa
namespace Go.Proofs.YtnjcjaaciphcgaaDoor
open Go.RowKit Go.Sort
set_option linter.unusedVariables false

theorem set4 (G : Fd) (xs : List Fd) : ∀ k, k < xs.length → ((((flatF xs).set (k * 4) (.int .i64 G.k)).set (k * 4 + 1) (.int .i64 G.b)).set (k * 4 + 2) (.int .i64 G.p)).set (k * 4 + 3) (.int .i64 G.o) = flatF (xs.set k G) := by
  induction xs with
  | nil => intro k hk; exact absurd hk (Nat.not_lt_zero _)
  | cons x r ih =>
    intro k hk
    have e : ∀ (y : Fd) (t : List Fd), flatF (y :: t) = .int .i64 y.k :: .int .i64 y.b :: .int .i64 y.p :: .int .i64 y.o :: flatF t := fun y t => rfl
    match k, hk with
    | 0, _ => rw [List.set_cons_zero, e, e]; rfl
    | k + 1, hk =>
      rw [List.set_cons_succ, e, e, ← ih k (by simpa using hk), show (k + 1) * 4 = k * 4 + 4 by omega]
      rfl
theorem ownF_set {w : World} {B g n cap : Nat} {xs : List Fd} (h : w.ownsRow B 29 4 (.slice (some ⟨g, 0, none⟩) n cap) n (flatF xs)) (k : Nat) (hk : k < xs.length) (G : Fd) :
    ((((w.setCell ⟨g, k * 4, none⟩ (.int .i64 G.k)).setCell ⟨g, k * 4 + 1, none⟩ (.int .i64 G.b)).setCell ⟨g, k * 4 + 2, none⟩ (.int .i64 G.p)).setCell ⟨g, k * 4 + 3, none⟩ (.int .i64 G.o)).ownsRow B 29 4 (.slice (some ⟨g, 0, none⟩) n cap) n (flatF (xs.set k G))
      ∧ w.grownBy ((((w.setCell ⟨g, k * 4, none⟩ (.int .i64 G.k)).setCell ⟨g, k * 4 + 1, none⟩ (.int .i64 G.b)).setCell ⟨g, k * 4 + 2, none⟩ (.int .i64 G.p)).setCell ⟨g, k * 4 + 3, none⟩ (.int .i64 G.o)) (some g) := by
  obtain ⟨a1, b1⟩ := h.stored (k * 4) (.int .i64 G.k)
  obtain ⟨a2, b2⟩ := a1.stored (k * 4 + 1) (.int .i64 G.b)
  obtain ⟨a3, b3⟩ := a2.stored (k * 4 + 2) (.int .i64 G.p)
  obtain ⟨a4, b4⟩ := a3.stored (k * 4 + 3) (.int .i64 G.o)
  rw [set4 G xs k hk] at a4
  exact ⟨a4, grown_tr' (grown_tr' (grown_tr' b1 b2) b3) b4⟩
theorem ownF_cell {w : World} {B g n cap : Nat} {xs : List Fd} (h : w.ownsRow B 29 4 (.slice (some ⟨g, 0, none⟩) n cap) n (flatF xs)) (k : Nat) (hk : k < n) :
    w.cell? ⟨g, k * 4, none⟩ = some (.int .i64 (xs.getD k Fd.zero).k) ∧ w.cell? ⟨g, k * 4 + 1, none⟩ = some (.int .i64 (xs.getD k Fd.zero).b) ∧ w.cell? ⟨g, k * 4 + 2, none⟩ = some (.int .i64 (xs.getD k Fd.zero).p) ∧ w.cell? ⟨g, k * 4 + 3, none⟩ = some (.int .i64 (xs.getD k Fd.zero).o) := by
  have hl : xs.length = n := by have := h.1; rw [flatF_length] at this; omega
  have c : ∀ j, j < 4 → w.cell? ⟨g, k * 4 + j, none⟩ = some ((xs.getD k Fd.zero).cell j) := fun j hj => by
    rw [h.cellAt (k * 4 + j) (by omega)]
    exact flatF_cell xs k j (by omega) hj
  exact ⟨c 0 (by omega), c 1 (by omega), c 2 (by omega), c 3 (by omega)⟩

set_option maxHeartbeats 4000000 in
set_option maxRecDepth 100000 in
theorem own_any (w : World) (B G m cm : Nat) (vs : Nat → Value) (ns : Nat → Nat) (X : Nat → List Fd) (hA : Apart w B G m vs ns X) (hm : m ≤ 100) (hB : B ≤ w.heap.size) :
    Calls Tryd.prog 11 #[.slice (some ⟨G, 0, none⟩) m cm] w fun e w' => e = .returned (.bool true) ∧ Below B w w' := by
  have HA : Hid (Apart w B G m vs ns X) := hA
  clear hA
  go_enter Tryd.func11, Tryd.ntmps11
  go_wp2
  go_loopw [3] (fun i wr => ∃ k : Nat, k ≤ m ∧ i = .int .i64 k ∧ Hid (Apart wr B G m vs ns (part1 ns X k)) ∧ Below B w wr)
    (fun i _ => m - (intOf i).toNat)
  case atStart =>
    refine ⟨0, Nat.zero_le _, rfl, ?_, Below.refl _ _⟩
    have e : part1 ns X 0 = X := by funext j; simp [part1]
    rw [e]
    exact HA
  case round =>
    obtain ⟨i, hi, rfl, HA1, bel1⟩ := hrel
    by_cases hlt : i < m
    · have hrow := HA1.out.rows i hlt
      have e0 : part1 ns X i i = X i := by simp [part1]
      rw [e0] at hrow
      obtain ⟨n, hn⟩ : ∃ n, n = ns i := ⟨_, rfl⟩
      obtain ⟨v, hv⟩ : ∃ v, v = vs i := ⟨_, rfl⟩
      rw [← hn, ← hv] at hrow
      have hxl : (X i).length = n := by have := hrow.1; rw [flatF_length] at this; omega
      obtain ⟨a, c, rfl⟩ := own_formF hrow
      have hc := HA1.out.outer i hlt
      rw [← hv] at hc
      have hGs := HA1.out.hG
      have hGn : (Value.slice a n c).ownBlock ≠ some G := by rw [hv]; exact HA1.out.neG i hlt
      have hns : n ≤ 100000000000 := by rw [hn]; exact HA1.out.small i hlt
      have HN : Hid (n = ns i) := hn
      have HV : Hid (Value.slice a n c = vs i) := hv
      have m1 : (i : Int) < (m : Int) := by omega
      have hd1 : decide ((i : Int) < (m : Int)) = true := decide_eq_true m1
      have HROW : Hid (wr.ownsRow B 29 4 (.slice a n c) n (flatF (X i))) := hrow
      have HXL : Hid ((X i).length = n) := hxl
      clear hn hv hrow hxl
      go_wp2
      go_loopw [4] (fun kk wq => ∃ k : Nat, k ≤ n ∧ kk = .int .i64 k ∧ Hid (wq.ownsRow B 29 4 (.slice a n c) n (flatF (fillT i k (X i)))) ∧ Hid (wr.grownBy wq (Value.slice a n c).ownBlock) ∧ Hid (Below B w wq))
        (fun kk _ => n - (intOf kk).toNat)
      case atStart => exact ⟨0, Nat.zero_le _, rfl, by simpa [fillT] using HROW, World.grownBy.refl _ _, bel1⟩
      case round =>
        obtain ⟨k, hk, rfl, HROW2, HG2, BEL2⟩ := hrel
        clear HROW
        have hc2 := (World.cell?_of_block (a := ⟨G, i * 7 + 6, none⟩) (HG2.out.block G hGs (fun e => hGn e.symm))).trans hc
        by_cases hlt2 : k < n
        · obtain ⟨g, cap, hsh, hcap, _, hBg, hgl⟩ := own_shapeF HROW2.out (by omega)
          cases hsh
          obtain ⟨q0, q1, q2, q3⟩ := ownF_cell HROW2.out k hlt2
          obtain ⟨z0, hz0⟩ : ∃ z0, ((fillT i k (X i)).getD k Fd.zero).k = z0 := ⟨_, rfl⟩
          obtain ⟨z1, hz1⟩ : ∃ z1, ((fillT i k (X i)).getD k Fd.zero).b = z1 := ⟨_, rfl⟩
          obtain ⟨z2, hz2⟩ : ∃ z2, ((fillT i k (X i)).getD k Fd.zero).p = z2 := ⟨_, rfl⟩
          obtain ⟨z3, hz3⟩ : ∃ z3, ((fillT i k (X i)).getD k Fd.zero).o = z3 := ⟨_, rfl⟩
          rw [hz0] at q0
          rw [hz1] at q1
          rw [hz2] at q2
          rw [hz3] at q3
          clear hz0 hz1 hz2 hz3
          have f0 := World.ownsRow.frozenAt HROW2.out (k * 4)
          have f1 := World.ownsRow.frozenAt HROW2.out (k * 4 + 1)
          have f2 := World.ownsRow.frozenAt HROW2.out (k * 4 + 2)
          have f3 := World.ownsRow.frozenAt HROW2.out (k * 4 + 3)
          have hset := ownF_set HROW2.out k (by rw [fillT_length i k (X i) (by rw [HXL.out]; omega), HXL.out]; exact hlt2) (mk i)
          rw [fillT_step i k (X i) (by rw [HXL.out]; exact hlt2)] at hset
          have HS : Hid _ := hset.1
          have HG : Hid _ := grown_tr' HG2.out hset.2
          have HBS : Hid _ := BEL2.out.grown hset.2 (by have := BEL2.out.size; omega) (fun q hq => by cases hq; exact hBg)
          have m2 : (k : Int) < (n : Int) := by omega
          have hd2 : decide ((k : Int) < (n : Int)) = true := decide_eq_true m2
          clear hset HROW2 HG2 BEL2
          go_wp2
          go_roundw
          case rel => exact ⟨k + 1, by omega, by go_num, HS, HG, HBS⟩
          case measure => simp [intOf]; omega
        · have hkn : k = n := by omega
          have hr2 := HROW2.out
          rw [hkn, fillT_all i n (X i) HXL.out] at hr2
          have hA2 : Apart wr B G m vs ns (part1 ns X (i + 1)) := by
            refine HA1.out.move i hlt (by rw [← HV.out]; exact HG2.out) ?_ ?_
            · have e1 : part1 ns X (i + 1) i = markT i n := by simp [part1, HN.out]
              rw [e1, ← HV.out, ← HN.out]
              exact hr2
            · intro j hj hne
              unfold part1
              by_cases h1 : j < i
              · rw [if_pos h1, if_pos (by omega)]
              · rw [if_neg h1, if_neg (by omega)]
          have HA2 : Hid (Apart _ _ _ _ _ _ _) := hA2
          clear hA2 hr2 hkn
          go_wp2
          go_roundw
          case rel => exact ⟨i + 1, by omega, by go_num, HA2, BEL2.out⟩
          case measure => simp [intOf]; omega
    · have him : m = i := by omega
      subst him
      have H0 : Hid (Apart wr B G m vs ns (fun j => markT j (ns j))) := by
        obtain ⟨a1, a2, a3, a4, a5, a6⟩ := HA1.out
        refine ⟨a1, a2, fun j hj => ?_, a4, a5, a6⟩
        have := a3 j hj
        rwa [part1, if_pos (by omega)] at this
      have hBw : B ≤ wr.heap.size := by have := bel1.size; omega
      clear HA1 HA
      go_wp2
      go_loopw [5] (fun ii wq => ∃ (k : Nat), k ≤ m ∧ ii = .int .i64 k ∧ Hid (Apart wq B G m vs ns (fun j => markT j (ns j))) ∧ Below B w wq)
        (fun ii _ => m - (intOf ii).toNat)
      case atStart => exact ⟨0, Nat.zero_le _, rfl, H0, bel1⟩
      case round =>
        obtain ⟨k, hk, rfl, HS2, bel2⟩ := hrel
        clear H0 bel1
        by_cases hlt2 : k < m
        · have hrow := HS2.out.rows k hlt2
          obtain ⟨n, hn⟩ : ∃ n, n = ns k := ⟨_, rfl⟩
          obtain ⟨v, hv⟩ : ∃ v, v = vs k := ⟨_, rfl⟩
          rw [← hn, ← hv] at hrow
          obtain ⟨a, c, rfl⟩ := own_formF hrow
          have hc := HS2.out.outer k hlt2
          rw [← hv] at hc
          have hns : n ≤ 100000000000 := by rw [hn]; exact HS2.out.small k hlt2
          have HN : Hid (n = ns k) := hn
          have HV : Hid (Value.slice a n c = vs k) := hv
          have HG0 : Hid (Grown wr wr B (.slice a n c) (.slice a n c) n 0 (markT k n) []) := grown_start hrow
          have hBw2 : B ≤ wr.heap.size := by have := bel2.size; omega
          have m1 : (k : Int) < (m : Int) := by omega
          have hd1 : decide ((k : Int) < (m : Int)) = true := decide_eq_true m1
          clear hn hv hrow
          go_wp2
          go_loopw [6, 7] (fun v tt wq => ∃ (t : Nat) (Y : List Fd), t ≤ 64 ∧ tt = .int .i64 t ∧ Hid (Grown wr wq B (.slice a n c) v n t (markT k n) Y) ∧ Below B w wq)
            (fun _ tt _ => 64 - (intOf tt).toNat)
          case atStart => exact ⟨0, [], by omega, rfl, HG0, bel2⟩
          case round =>
            obtain ⟨t, Y, ht, rfl, HGr, bel3⟩ := hrel
            clear HG0
            by_cases hlt3 : t < 64
            · have hGr := HGr.out
              have m2 : (t : Int) < 64 := by omega
              have hd2 : decide ((t : Int) < 64) = true := decide_eq_true m2
              clear HGr
              go_wp2_with (first
                | (at_builtin; refine wpList_grow rfl (.tmp 51) (.tmp 53) rfl hGr hBw2 ⟨77, 0, 0, 0⟩ (by omega) rfl rfl ?_; intro v5 w5 hg5 bel5; have HG5 : Hid (Grown _ _ _ _ _ _ _ _ _) := hg5; have bel6 := bel3.trans bel5; clear hGr hg5 bel5))
              go_roundw
              case rel => exact ⟨t + 1, _, by omega, by go_num, HG5, bel6⟩
              case measure => simp [intOf]; omega
            · have ht9 : t = 64 := by omega
              subst ht9
              have HA2 : Hid (Apart wr B G m vs ns (fun j => markT j (ns j))) := by
                refine HS2.out.move k hlt2 (by rw [← HV.out]; exact HGr.out.grow) ?_ (fun _ _ _ => rfl)
                have h8 := HGr.out.old
                rw [HV.out, HN.out] at h8
                exact h8
              clear HGr HS2
              go_wp2
              go_roundw
              case rel => exact ⟨k + 1, by omega, by go_num, HA2, bel3⟩
              case measure => simp [intOf]; omega
        · have hkm : m = k := by omega
          subst hkm
          go_wp2
          go_loopw [8] (fun ii wq => ∃ (i : Nat), i ≤ m ∧ ii = .int .i64 i ∧ wq = wr)
            (fun ii _ => m - (intOf ii).toNat)
          case atStart => exact ⟨0, Nat.zero_le _, rfl, rfl⟩
          case round =>
            obtain ⟨i, hi, rfl, rfl⟩ := hrel
            by_cases hlt3 : i < m
            · have hrow := HS2.out.rows i hlt3
              obtain ⟨n, hn⟩ : ∃ n, n = ns i := ⟨_, rfl⟩
              obtain ⟨v, hv⟩ : ∃ v, v = vs i := ⟨_, rfl⟩
              rw [← hn, ← hv] at hrow
              obtain ⟨a, c, rfl⟩ := own_formF hrow
              have hc := HS2.out.outer i hlt3
              rw [← hv] at hc
              have hns : n ≤ 100000000000 := by rw [hn]; exact HS2.out.small i hlt3
              have HROW : Hid (wr.ownsRow B 29 4 (.slice a n c) n (flatF (markT i n))) := hrow
              have m1 : (i : Int) < (m : Int) := by omega
              have hd1 : decide ((i : Int) < (m : Int)) = true := decide_eq_true m1
              clear hv hn hrow
              go_wp2
              go_loopw [9] (fun tt wq => ∃ (t : Nat), t ≤ n ∧ tt = .int .i64 t ∧ wq = wr)
                (fun tt _ => n - (intOf tt).toNat)
              case atStart => exact ⟨0, Nat.zero_le _, rfl, rfl⟩
              case round =>
                obtain ⟨t, ht, rfl, rfl⟩ := hrel
                by_cases hlt4 : t < n
                · obtain ⟨g, cap, hsh, hcap, _, hBg, hgl⟩ := own_shapeF HROW.out (by omega)
                  cases hsh
                  obtain ⟨q0, _, _, _⟩ := ownF_cell HROW.out t hlt4
                  have e9 : ((markT i n).getD t Fd.zero).k = 1000 + (i : Int) := by
                    unfold markT
                    rw [List.getD_eq_getElem?_getD, List.getElem?_replicate, if_pos hlt4]
                    rfl
                  rw [e9] at q0
                  have m2 : (t : Int) < (n : Int) := by omega
                  have hd2 : decide ((t : Int) < (n : Int)) = true := decide_eq_true m2
                  clear e9
                  go_wp2
                  go_roundw
                  case rel => exact ⟨t + 1, by omega, by go_num, by first | rfl | trivial⟩
                  case measure => simp [intOf]; omega
                · have htn : n = t := by omega
                  subst htn
                  go_wp2
                  go_roundw
                  case rel => exact ⟨i + 1, by omega, by go_num, by first | rfl | trivial⟩
                  case measure => simp [intOf]; omega
            · have him2 : m = i := by omega
              subst him2
              go_wp2
              go_ret
              exact ⟨rfl, bel2⟩
end Go.Proofs.YtnjcjaaciphcgaaDoor
