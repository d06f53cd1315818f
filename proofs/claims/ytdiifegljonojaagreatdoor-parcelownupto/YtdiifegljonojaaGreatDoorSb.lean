/-
  SEAT YtdiifegljonojaaGreatDoor: the reference's row: fail, take, number.
-/
import Derived.Test.YtdiifegljonojaaGreatDoorSa
import Derived.BigQuiet
namespace Go.Proofs.YtdiifegljonojaaGreatDoor
open Go.RowKit
set_option linter.unusedVariables false

/-- The row that the reference reads: where it lies, how far it is read, the error, what it has told of, whether it is dry. -/
structure Rw where
  b : Nat
  off : Nat
  m : Nat
  c : Nat
  pos : Nat
  e : Int
  told : Int
  dry : Bool
abbrev RW (w : World) (q : Nat) (s : Rw) : Prop := w.heap[q]? = some (.cells #[.slice (some ⟨s.b, s.off, none⟩) s.m s.c, .int .i64 (s.pos : Int), .int .i64 s.e, .int .i64 s.told, .bool s.dry] 72 (0, 0))
/-- What a row may be. -/
structure Rw.Ok (s : Rw) (w : World) (bs : List Int) (B q : Nat) : Prop where
  rd : Reads w (some ⟨s.b, s.off, none⟩) s.m bs
  lt : s.b < B
  bq : B ≤ q
  pm : s.pos ≤ s.m
  mc : s.m ≤ s.c
  cc : s.c ≤ 9223372036854775807
  ml : s.m ≤ 4194304
  tl : 0 ≤ s.told ∧ s.told ≤ 16777216 * (s.pos : Int)

section
variable {w : World} {q : Nat} {s : Rw}
theorem rw_cell (h : RW w q s) : w.cell? ⟨q, 0, none⟩ = some (.slice (some ⟨s.b, s.off, none⟩) s.m s.c) ∧ w.cell? ⟨q, 1, none⟩ = some (.int .i64 (s.pos : Int)) ∧ w.cell? ⟨q, 2, none⟩ = some (.int .i64 s.e) ∧ w.cell? ⟨q, 3, none⟩ = some (.int .i64 s.told) ∧ w.cell? ⟨q, 4, none⟩ = some (.bool s.dry) := by
  refine ⟨?_, ?_, ?_, ?_, ?_⟩ <;> simp [World.cell?, h]
theorem rw_frozen (h : RW w q s) (i : Nat) : w.frozen? ⟨q, i, none⟩ = false := by simp [World.frozen?, h]
theorem rw_setE (h : RW w q s) (x : Int) : RW (w.setCell ⟨q, 2, none⟩ (.int .i64 x)) q { s with e := x } := blk_set h _
theorem rw_setP (h : RW w q s) (x : Nat) : RW (w.setCell ⟨q, 1, none⟩ (.int .i64 (x : Int))) q { s with pos := x } := blk_set h _
theorem rw_setT (h : RW w q s) (x : Int) : RW (w.setCell ⟨q, 3, none⟩ (.int .i64 x)) q { s with told := x } := blk_set h _
end

theorem drewN_grown (w : World) (k : Nat) (r : Option Nat) : w.grownBy (w.drewN k) r := ⟨rfl, rfl, rfl, Nat.le_refl _, fun _ _ _ => rfl⟩
def failE (e x : Int) : Int := if e = 0 then x else e

set_option maxHeartbeats 1000000 in
theorem fail_any (q : Nat) (s : Rw) (x : Int) (w : World) (h : RW w q s) : Calls Tryz.prog 49 #[.pointer (some ⟨q, 0, none⟩), .int .i64 x] w fun e w' => e = .returned (.tuple #[]) ∧ RW w' q { s with e := failE s.e x } ∧ w.grownBy w' (some q) := by
  obtain ⟨c0, c1, c2, c3, c4⟩ := rw_cell h
  have f2 := rw_frozen h 2
  have HR := hide h
  clear h c0 c1 c3 c4
  by_cases he : s.e = 0
  · have HS := hide (rw_setE HR.out x)
    have HE : Hid (failE s.e x = x) := by unfold Hid failE; rw [if_pos he]
    rw [HE.out]
    rw [he] at c2
    go_enter Tryz.func49, Tryz.ntmps49
    go_wp2
    go_end0
    exact ⟨rfl, HS.out, set_grown w q 2 _⟩
  · have HE : Hid (failE s.e x = s.e) := by unfold Hid failE; rw [if_neg he]
    rw [HE.out]
    have e1 : (s.e == 0) = false := by simp [he]
    go_enter Tryz.func49, Tryz.ntmps49
    go_wp2
    go_end0
    exact ⟨rfl, HR.out, World.grownBy.refl _ _⟩

set_option maxHeartbeats 2000000 in
set_option maxRecDepth 100000 in
theorem rtake_no (q n : Nat) (s : Rw) (w : World) (h : RW w q s) (hn : n ≤ 200000000000000) (hm : s.pos ≤ s.m) (hm2 : s.m ≤ 4194304) (hno : s.e ≠ 0 ∨ s.m - s.pos < n) :
    Calls Tryz.prog 47 #[.pointer (some ⟨q, 0, none⟩), .int .i64 (n : Int)] w fun e w' => e = .returned (.slice none 0 0) ∧ RW w' q { s with e := failE s.e 190 } ∧ w.grownBy w' (some q) := by
  obtain ⟨c0, c1, c2, c3, c4⟩ := rw_cell h
  have HR := hide h
  clear h c3 c4
  by_cases he : s.e = 0
  · have d1 : (s.m : Int) - (s.pos : Int) < (n : Int) := by omega
    have d2 : decide ((s.m : Int) - (s.pos : Int) < (n : Int)) = true := decide_eq_true d1
    rw [he] at c2
    go_enter Tryz.func47, Tryz.ntmps47
    go_wp2
    go_quiet (fail)
    go_wp2_with (go_at_call 49; refine (fail_any q s 190 _ (by first | exact HR.out | simpa using HR.out)).mono ?_; rintro e u1 ⟨rfl, r1, g1⟩; have HR1 := hide r1; have HG1 := hide g1; clear r1 g1)
    go_ret
    exact ⟨rfl, HR1.out, grownBy_trans (drewN_grown _ _ _) HG1.out⟩
  · have e1 : (s.e != 0) = true := by simp [he]
    go_enter Tryz.func47, Tryz.ntmps47
    go_wp2
    go_quiet (fail)
    go_wp2_with (go_at_call 49; refine (fail_any q s 190 _ (by first | exact HR.out | simpa using HR.out)).mono ?_; rintro e u1 ⟨rfl, r1, g1⟩; have HR1 := hide r1; have HG1 := hide g1; clear r1 g1)
    go_ret
    exact ⟨rfl, HR1.out, grownBy_trans (drewN_grown _ _ _) HG1.out⟩

set_option maxHeartbeats 2000000 in
set_option maxRecDepth 100000 in
theorem rtake_ok (B q n : Nat) (s : Rw) (bs : List Int) (w : World) (h : RW w q s) (ho : s.Ok w bs B q) (he : s.e = 0) (hn : n ≤ s.m - s.pos) :
    Calls Tryz.prog 47 #[.pointer (some ⟨q, 0, none⟩), .int .i64 (n : Int)] w fun e w' => ∃ o c, e = .returned (.slice (some ⟨s.b, o, none⟩) n c) ∧ Reads w' (some ⟨s.b, o, none⟩) n ((bs.drop s.pos).take n) ∧ RW w' q { s with pos := s.pos + n } ∧ w.grownBy w' (some q) := by
  obtain ⟨c0, c1, c2, c3, c4⟩ := rw_cell h
  have f1 := rw_frozen h 1
  have hpm := ho.pm
  have hmc := ho.mc
  have hcc := ho.cc
  have hml := ho.ml
  have hlt := (Array.getElem?_eq_some_iff.1 h).1
  have hbq := ho.bq
  have HW := hide (rw_setP h (s.pos + n))
  have hgr : Reads w (some ⟨s.b, s.off + s.pos, none⟩) n ((bs.drop s.pos).take n) := ((ho.rd.drop s.pos hpm).front n (by omega))
  have hlow : ∀ v, Reads (w.setCell ⟨q, 1, none⟩ v) (some ⟨s.b, s.off + s.pos, none⟩) n ((bs.drop s.pos).take n) := fun v => hgr.low (fun x hx => by cases hx; exact ho.lt) (below_grown (set_grown w q 1 v) (by omega) (fun k hk => by have := Option.some.inj hk; omega))
  have HL := hide hlow
  have HG := hide (set_grown w q 1 (.int .i64 ((s.pos + n : Nat) : Int)))
  clear h ho c3 c4 hgr hlow
  obtain ⟨b, off, m, c, pos, e, told, dry⟩ := s
  simp only at c0 c1 c2 hpm hmc hcc hml hn he HW HL ⊢
  subst he
  have d1 : ¬ (m : Int) - (pos : Int) < (n : Int) := by omega
  have d2 : decide ((m : Int) - (pos : Int) < (n : Int)) = false := decide_eq_false d1
  have e1 : (pos : Int) + (n : Int) - (n : Int) = (pos : Int) := by omega
  have i1 : (pos : Int) ≤ (pos : Int) + (n : Int) := by omega
  have i2 : (pos : Int) + (n : Int) ≤ (c : Int) := by omega
  obtain ⟨o, ho⟩ : ∃ o, (if c = pos then off else off + pos) = o := ⟨_, rfl⟩
  have hq : (if c = pos then some (⟨b, off, none⟩ : Addr) else some ⟨b, off + pos, none⟩) = some ⟨b, o, none⟩ := by rw [← ho]; split <;> rfl
  have hpn : pos + n - pos = n := by omega
  have HLO : Hid (∀ v, Reads (w.setCell ⟨q, 1, none⟩ v) (some ⟨b, o, none⟩) n ((bs.drop pos).take n)) := by
    intro v
    have h9 := HL.out v
    by_cases hc : c = pos
    · have hn0 : n = 0 := by omega
      subst hn0
      exact ⟨h9.1, h9.2.1, (fun h => by cases h), fun x hx i hi => by omega⟩
    · rw [if_neg hc] at ho
      rw [← ho]
      exact h9
  clear ho HL
  go_enter Tryz.func47, Tryz.ntmps47
  go_wp2
  go_quiet (fail)
  go_wp2
  go_quiet (fail)
  go_wp2
  go_ret
  have e9 : (pos : Int) + (n : Int) = ((pos + n : Nat) : Int) := by omega
  rw [e9]
  refine ⟨o, c - pos, (by show Ending.returned (.slice (some ⟨b, o, none⟩) (pos + n - pos) (c - pos)) = _; rw [hpn]), ?_, HW.out, ⟨HG.out.os, HG.out.tape, HG.out.output, HG.out.size, HG.out.block⟩⟩
  have h9 := HLO.out (.int .i64 ((pos + n : Nat) : Int))
  exact ⟨h9.1, h9.2.1, h9.2.2.1, h9.2.2.2⟩

theorem getL_cons (zs : List Int) (t : Nat) : ∀ n, getL zs t (n + 1) = zs.getD t 0 + 256 * getL zs (t + 1) n
  | 0 => by simp [getL]
  | n + 1 => by
    rw [getL, getL_cons zs t n, getL]
    have e : zs.getD (t + (n + 1)) 0 = zs.getD (t + 1 + n) 0 := by rw [show t + (n + 1) = t + 1 + n by omega]
    rw [e, Int.pow_succ]
    have : zs.getD (t + 1 + n) 0 * (256 ^ n * 256) = 256 * (zs.getD (t + 1 + n) 0 * 256 ^ n) := by rw [← Int.mul_assoc]; exact Int.mul_comm _ _
    rw [this]
    omega

/-- The next state where n bytes are there. -/
theorem Rw.Ok.next {s : Rw} {w w' : World} {bs : List Int} {B q n : Nat} (h : s.Ok w bs B q) (hg : w.grownBy w' (some q)) (hq : q < w.heap.size) (hn : n ≤ s.m - s.pos) (e : Int) : ({ s with pos := s.pos + n, e := e } : Rw).Ok w' bs B q := by
  have hb := h.bq
  have hp := h.pm
  have ht := h.tl
  refine ⟨h.rd.low (fun x hx => by cases hx; exact h.lt) (below_grown hg (by omega) (fun k hk => by have := Option.some.inj hk; omega)), h.lt, h.bq, ?_, h.mc, h.cc, h.ml, ?_⟩
  · show s.pos + n ≤ s.m
    omega
  · show 0 ≤ s.told ∧ s.told ≤ 16777216 * ((s.pos + n : Nat) : Int)
    omega
theorem Rw.Ok.stay {s : Rw} {w w' : World} {bs : List Int} {B q : Nat} (h : s.Ok w bs B q) (hg : w.grownBy w' (some q)) (hq : q < w.heap.size) (e : Int) : ({ s with e := e } : Rw).Ok w' bs B q := by
  have := h.next hg hq (Nat.zero_le (s.m - s.pos)) e
  simpa using this

set_option maxHeartbeats 2000000 in
set_option maxRecDepth 100000 in
theorem rnum_no (q n : Nat) (lo hi : Int) (s : Rw) (w : World) (h : RW w q s) (hn : n ≤ 8) (hm : s.pos ≤ s.m) (hm2 : s.m ≤ 4194304) (hno : s.e ≠ 0 ∨ s.m - s.pos < n) :
    Calls Tryz.prog 46 #[.pointer (some ⟨q, 0, none⟩), .int .i64 (n : Int), .int .u64 lo, .int .u64 hi] w fun e w' => e = .returned (.int .u64 0) ∧ RW w' q { s with e := failE s.e 190 } ∧ w.grownBy w' (some q) := by
  have HR := hide h
  obtain ⟨E, hE⟩ : ∃ E, failE s.e 190 = E := ⟨_, rfl⟩
  have hE0 : E ≠ 0 := by rw [← hE]; unfold failE; split <;> omega
  have e1 : (E == 0) = false := by simp [hE0]
  have e2 : (E != 0) = true := by simp [hE0]
  have HT := hide (rtake_no q n s w h (by omega) hm hm2 hno)
  rw [hE] at HT ⊢
  clear h hE
  go_enter Tryz.func46, Tryz.ntmps46
  go_wp2_with (go_at_call 47; refine HT.out.mono ?_; rintro e u1 ⟨rfl, r1, g1⟩; obtain ⟨c0, c1, c2, c3, c4⟩ := rw_cell r1; have HR1 := hide r1; have HG1 := hide g1; clear r1 g1 c0 c1 c3 c4; simp only at c2)
  go_loop [10, 11] (fun x i => x = .int .u64 0 ∧ i = .int .i64 (-1)) (fun _ _ => 0)
  case atStart => exact ⟨rfl, rfl⟩
  case round =>
    obtain ⟨rfl, rfl⟩ := hrel
    go_wp2
    go_ret
    exact ⟨rfl, HR1.out, HG1.out⟩

set_option maxHeartbeats 2000000 in
set_option maxRecDepth 100000 in
theorem rnum_ok (B q n : Nat) (lo hi : Int) (s : Rw) (bs : List Int) (w : World) (h : RW w q s) (ho : s.Ok w bs B q) (he : s.e = 0) (hn1 : 1 ≤ n) (hn8 : n ≤ 8) (hn : n ≤ s.m - s.pos) :
    Calls Tryz.prog 46 #[.pointer (some ⟨q, 0, none⟩), .int .i64 (n : Int), .int .u64 lo, .int .u64 hi] w fun e w' => e = .returned (.int .u64 (if lo ≤ getL (bs.drop s.pos) 0 n ∧ getL (bs.drop s.pos) 0 n ≤ hi then getL (bs.drop s.pos) 0 n else 0)) ∧ RW w' q { s with pos := s.pos + n, e := if lo ≤ getL (bs.drop s.pos) 0 n ∧ getL (bs.drop s.pos) 0 n ≤ hi then 0 else 191 } ∧ w.grownBy w' (some q) := by
  obtain ⟨zs, hzs⟩ : ∃ zs, (bs.drop s.pos).take n = zs := ⟨_, rfl⟩
  have hg : getL (bs.drop s.pos) 0 n = getL zs 0 n := by rw [← hzs]; exact (getL_take _ n n (Nat.le_refl _)).symm
  have hby : ∀ x ∈ zs, 0 ≤ x ∧ x ≤ 255 := by rw [← hzs]; exact fun x hx => ho.rd.2.1 x (List.mem_of_mem_drop (List.mem_of_mem_take hx))
  rw [hg]
  obtain ⟨V, hV⟩ : ∃ V, getL zs 0 n = V := ⟨_, rfl⟩
  rw [hV]
  have HVV := hide hV
  clear hV
  have HT := hide (rtake_ok B q n s bs w h ho he hn)
  rw [hzs] at HT
  have HBY := hide hby
  have hes : s.e = 0 := he
  clear h ho hzs hg hby
  have hp8 : (256 : Int) ^ n ≤ 256 ^ 8 := pow256_le hn8
  have e8 : (256 : Int) ^ 8 = 18446744073709551616 := by decide
  go_enter Tryz.func46, Tryz.ntmps46
  go_wp2_with (go_at_call 47; refine HT.out.mono ?_; rintro e u1 ⟨o, c, rfl, rs1, r1, g1⟩; obtain ⟨c0, c1, c2, c3, c4⟩ := rw_cell r1; have HR1 := hide r1; have HG1 := hide g1; have HRS := hide rs1; clear r1 g1 c0 c1 c3 c4 rs1; simp only at c2; rw [hes] at c2)
  go_loop [10, 11] (fun x i => ∃ (k : Nat) (v : Int), k ≤ n ∧ i = .int .i64 ((k : Int) - 1) ∧ x = .int .u64 v ∧ Hid (v = getL zs k (n - k))) (fun _ i => ((intOf i) + 1).toNat)
  case atStart => exact ⟨n, 0, Nat.le_refl _, rfl, rfl, by unfold Hid; rw [Nat.sub_self]; rfl⟩
  case round =>
    obtain ⟨k, v, hk, rfl, rfl, HV⟩ := hrel
    by_cases hk0 : k = 0
    · subst hk0
      obtain rfl : v = V := by rw [← HVV.out]; have := HV.out; simpa using this
      clear HV HVV
      by_cases h1 : lo ≤ v
      · by_cases h2 : v ≤ hi
        · have d1 : decide (v < lo) = false := decide_eq_false (by omega)
          have d2 : decide (hi < v) = false := decide_eq_false (by omega)
          have hcn : lo ≤ v ∧ v ≤ hi := ⟨h1, h2⟩
          have HCN := hide hcn
          clear hcn
          go_wp2
          go_ret
          try rw [if_pos HCN.out]
          try rw [if_pos HCN.out]
          refine ⟨rfl, ?_, HG1.out⟩
          have h9 := HR1.out
          simpa [hes] using h9
        · have d1 : decide (v < lo) = false := decide_eq_false (by omega)
          have d2 : decide (hi < v) = true := decide_eq_true (by omega)
          have hcn : ¬ (lo ≤ v ∧ v ≤ hi) := fun h => h2 h.2
          have HCN := hide hcn
          clear hcn
          go_wp2_with (go_at_call 49; refine (fail_any q _ 191 _ HR1.out).mono ?_; rintro e u2 ⟨rfl, r2, g2⟩; obtain ⟨c0, c1, c2', c3, c4⟩ := rw_cell r2; have HR2 := hide r2; have HG2 := hide g2; clear r2 g2 c0 c1 c3 c4; simp only [failE, hes, if_true] at c2')
          go_ret
          try rw [if_neg HCN.out]
          try rw [if_neg HCN.out]
          refine ⟨rfl, ?_, grownBy_trans HG1.out HG2.out⟩
          have h9 := HR2.out
          simpa [hes, failE] using h9
      · have d1 : decide (v < lo) = true := decide_eq_true (by omega)
        have hcn : ¬ (lo ≤ v ∧ v ≤ hi) := fun h => h1 h.1
        have HCN := hide hcn
        clear hcn
        go_wp2_with (go_at_call 49; refine (fail_any q _ 191 _ HR1.out).mono ?_; rintro e u2 ⟨rfl, r2, g2⟩; obtain ⟨c0, c1, c2', c3, c4⟩ := rw_cell r2; have HR2 := hide r2; have HG2 := hide g2; clear r2 g2 c0 c1 c3 c4; simp only [failE, hes, if_true] at c2')
        go_ret
        try rw [if_neg HCN.out]
        try rw [if_neg HCN.out]
        refine ⟨rfl, ?_, grownBy_trans HG1.out HG2.out⟩
        have h9 := HR2.out
        simpa [hes, failE] using h9
    · obtain ⟨j, rfl⟩ : ∃ j, k = j + 1 := ⟨k - 1, by omega⟩
      have hz := byteAt HBY.out j
      obtain ⟨z, hzj⟩ : ∃ z, zs.getD j 0 = z := ⟨_, rfl⟩
      rw [hzj] at hz
      have hcx : u1.cell? ⟨s.b, o + j, none⟩ = some (.int .u8 z) := by rw [← hzj, ← plain_add]; exact HRS.out.2.2.2 _ rfl j (by omega)
      have hvr : 0 ≤ v ∧ v < 256 ^ (n - (j + 1)) := by rw [HV.out]; exact getL_range HBY.out _ _
      have hpp : (256 : Int) ^ (n - (j + 1)) * 256 = 256 ^ (n - j) := by rw [← Int.pow_succ]; congr 1; omega
      have hp3 : (256 : Int) ^ (n - j) ≤ 256 ^ 8 := pow256_le (by omega)
      have hw1 : IntKind.u64.wrap (256 * v) = 256 * v := by rw [IntKind.wrap_u64]; omega
      have hw2 : IntKind.u64.wrap (256 * v + z) = 256 * v + z := by rw [IntKind.wrap_u64]; omega
      have HV2 : Hid (256 * v + z = getL zs j (n - j)) := by
        unfold Hid
        rw [show n - j = (n - (j + 1)) + 1 by omega, getL_cons, hzj, ← HV.out]; omega
      have ej : ((j + 1 : Nat) : Int) - 1 = (j : Int) := by omega
      rw [ej]
      have i0 : (0 : Int) ≤ (j : Int) := by omega
      have i1 : (j : Int) < (n : Int) := by omega
      obtain ⟨hz0, hz1⟩ := hz
      clear hvr hpp hp3 HV ej hzj
      go_wp2
      go_round
      case rel => exact ⟨j, _, by omega, by go_num, rfl, HV2⟩
      case measure => simp [intOf]
end Go.Proofs.YtdiifegljonojaaGreatDoor
