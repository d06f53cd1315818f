/-
  SEAT YteefekhlbillfaaDoor: the marks of a row.
-/
import Derived.Test.YteefekhlbillfaaDoorRb
namespace Go.Proofs.YteefekhlbillfaaDoor
open Go.RowKit
set_option linter.unusedVariables false

theorem OwnB.set {w : World} {B g n cap : Nat} {xs : List Bool} (h : OwnB w B g n cap xs) (j : Nat) (z : Bool) : OwnB (w.setCell ⟨g, j, none⟩ (.bool z)) B g n cap (xs.set j z) ∧ w.grownBy (w.setCell ⟨g, j, none⟩ (.bool z)) (some g) := by
  unfold OwnB at *
  rw [List.map_set]
  exact World.ownsRow.stored h j (.bool z)

theorem made_rowB (w : World) (n : Nat) (hn : n ≤ 9223372036854775807) : OwnB (w.alloc (.cells (madeCells #[.bool false] n) 4)) w.heap.size w.heap.size n n (List.replicate n false) := by
  have hc : (madeCells #[.bool false] n) = ((List.replicate n false).map Value.bool).toArray := by
    apply Array.ext'
    simp [madeCells]
    apply List.ext_getElem
    · simp
    · intro i h1 h2
      simp [Nat.mod_one]
  refine ⟨by simp, Or.inr ⟨w.heap.size, n, _, rfl, Nat.le_refl _, heap_alloc_new w _, Nat.le_refl _, by simp only [maxLen]; omega, by simp [madeCells], ?_⟩⟩
  rw [hc]
  simp

/-- The marks so far. -/
def mkTo (n : Nat) (mb : List Int) (k : Nat) : List Bool := (unbits n mb).take k ++ List.replicate (n - k) false
theorem mkTo_zero (n : Nat) (mb : List Int) : mkTo n mb 0 = List.replicate n false := by simp [mkTo]
theorem mkTo_all (n : Nat) (mb : List Int) : mkTo n mb n = unbits n mb := by simp [mkTo, List.take_of_length_le (Nat.le_of_eq (unbits_length n mb))]
theorem mkTo_step (n : Nat) (mb : List Int) (k : Nat) (h : k < n) : (mkTo n mb k).set k ((mb.getD (k / 8) 0).toNat / 2 ^ (k % 8) % 2 == 1) = mkTo n mb (k + 1) := by
  unfold mkTo
  have hl : ((unbits n mb).take k).length = k := by simp [unbits_length]; omega
  rw [List.set_append_right _ _ (by omega), hl, Nat.sub_self, List.take_succ_eq_append_getElem (by rw [unbits_length]; exact h), show n - k = (n - (k + 1)) + 1 by omega, List.replicate_succ, List.set_cons_zero, List.append_assoc]
  simp [unbits]

theorem bit_eq (z j : Nat) (hz : z ≤ 255) : (bits .and .u8 ((z : Int) / 2 ^ j) 1 == 1) = (z / 2 ^ j % 2 == 1) := by
  have e1 : ((z : Int) / 2 ^ j) = ((z / 2 ^ j : Nat) : Int) := by
    rw [Int.natCast_ediv, Int.natCast_pow]
    rfl
  have h1 : z / 2 ^ j ≤ z := Nat.div_le_self _ _
  have h2 := u8_and_nat (z / 2 ^ j) 1 (by omega) (by omega)
  rw [e1]
  rw [show ((1 : Nat) : Int) = 1 from rfl] at h2
  rw [h2, Nat.and_one_is_mod]
  rcases Nat.mod_two_eq_zero_or_one (z / 2 ^ j) with h | h <;> rw [h] <;> rfl

theorem marks_short (B q n : Nat) (rest : List Int) (w : World) (hR : RdAt w B q rest) (hl : rest.length ≤ 200000000000000) (hn : rest.length < (n + 7) / 8) (hn2 : n ≤ 1000000) :
    Calls Tryd.prog 56 #[.pointer (some ⟨q, 0, none⟩), .int .i64 (n : Int)] w fun e w' => e = .returned (.tuple #[.slice none 0 0, .int .i64 10]) ∧ w' = w := by
  go_enter Tryd.func56, Tryd.ntmps56
  go_wp2_with (first
    | (go_at_call 63; refine (markBytes_any n _ (by omega)).mono ?_; rintro e u0 ⟨rfl, hu0⟩; rw [hu0])
    | (go_at_call 53; refine (take_short B q ((n + 7) / 8) rest _ hR hl hn (by omega)).mono ?_; rintro e u1 ⟨rfl, hu1⟩; rw [hu1]))
  go_ret2
  exact ⟨rfl, rfl⟩

set_option maxHeartbeats 2000000 in
set_option maxRecDepth 100000 in
theorem marks_ok (B q n : Nat) (rest : List Int) (w : World) (hR : RdAt w B q rest) (hl : rest.length ≤ 200000000000000) (hn : (n + 7) / 8 ≤ rest.length) (hn2 : n ≤ 1000000) (hn3 : 1 ≤ n) :
    Calls Tryd.prog 56 #[.pointer (some ⟨q, 0, none⟩), .int .i64 (n : Int)] w fun e w' => RdAt w' B q (rest.drop ((n + 7) / 8)) ∧ w.grownBy w' (some q) ∧
      ((bitsOf (unbits n (rest.take ((n + 7) / 8))) = rest.take ((n + 7) / 8) ∧ ∃ g, e = .returned (.tuple #[.slice (some ⟨g, 0, none⟩) n n, .int .i64 0]) ∧ OwnB w' w.heap.size g n n (unbits n (rest.take ((n + 7) / 8)))) ∨
       (bitsOf (unbits n (rest.take ((n + 7) / 8))) ≠ rest.take ((n + 7) / 8) ∧ e = .returned (.tuple #[.slice none 0 0, .int .i64 47]))) := by
  obtain ⟨i0, hi, hz0, hz1, hz2⟩ := info_parts info4
  obtain ⟨K, hK⟩ : ∃ K, (n + 7) / 8 = K := ⟨_, rfl⟩
  obtain ⟨mb, hmb⟩ : ∃ mb, rest.take K = mb := ⟨_, rfl⟩
  have hmk : ∀ u : World, (Instr.makeSlice 28 (.int .i64 (n : Int)) (.int .i64 (n : Int))).run Tryd.prog u =
      .ok (.slice (some ⟨u.heap.size, 0, none⟩) n n) (u.alloc (.cells (madeCells #[.bool false] n) 4)) := fun u => by
    have h := run_make (P := Tryd.prog) u 28 4 i0 (.bool false) Tryd.underlying28 hi hz0 .i64 .i64 (n : Int) (n : Int) (by omega) (by omega) (by rw [hz2]; omega) (by omega)
    simpa [hz1, Value.cells] using h
  rw [hK] at hn ⊢
  rw [hmb]
  have hqlt := hR.lt
  have HR : Hid (RdAt w B q rest) := hR
  have HK : Hid ((n + 7) / 8 = K) := hK
  have HMB : Hid (rest.take K = mb) := hmb
  clear hR hK hmb
  go_enter Tryd.func56, Tryd.ntmps56
  go_wp2_with (first
    | (go_at_call 63; refine (markBytes_any n _ (by omega)).mono ?_; rintro e u0 ⟨rfl, hu0⟩; rw [hu0, HK.out])
    | (go_at_call 53; refine (take_ok B q K rest _ HR.out hl hn).mono ?_; rintro e u1 ⟨bb, off, c, rfl, r1, hc1, hc2, hbB, rd1, g1⟩; rw [HMB.out] at r1
       have HR1 : Hid (Reads u1 (some ⟨bb, off, none⟩) K mb) := r1
       have HRD1 : Hid (RdAt u1 B q (rest.drop K)) := rd1
       have HG1 : Hid (w.grownBy u1 (some q)) := g1
       clear r1 rd1 g1))
  have hs1 := HG1.out.size
  have hbb : bb < u1.heap.size := by omega
  go_loopw [24] (fun i wr => ∃ k : Nat, k ≤ n ∧ i = .int .i64 k ∧ OwnB wr u1.heap.size u1.heap.size n n (mkTo n mb k) ∧ Below u1.heap.size u1 wr)
    (fun i _ => n - (intOf i).toNat)
  case atStart => exact ⟨0, Nat.zero_le _, rfl, by rw [mkTo_zero]; exact made_rowB u1 n (by omega), below_alloc u1 _⟩
  case round =>
    obtain ⟨k, hk, rfl, hown, hbel⟩ := hrel
    by_cases hlt : k < n
    · have hk8 : k / 8 < K := by have := HK.out; omega
      obtain ⟨b', off', he, hb, hcell⟩ := HR1.out.pos (by omega)
      cases he
      have hz0' := byteAt HR1.out.2.1 (k / 8)
      obtain ⟨z, hz⟩ := Int.eq_ofNat_of_zero_le hz0'.1
      have hcx : wr.cell? ⟨bb, off + k / 8, none⟩ = some (.int .u8 (z : Int)) := by
        rw [hbel.cell (show (⟨bb, off + k / 8, none⟩ : Addr).block < u1.heap.size from hb), ← hz]; exact hcell (k / 8) hk8
      have hzl : z ≤ 255 := by omega
      have hst := mkTo_step n mb k hlt
      rw [hz, Int.toNat_natCast] at hst
      have hc5 := hown.cell k hlt
      have hf5 : wr.frozen? ⟨u1.heap.size, k, none⟩ = false := World.ownsRow.frozenAt hown k
      clear hcell hz hz0'
      have hbe := bit_eq z (k % 8) hzl
      obtain ⟨hs1', hs2'⟩ := hown.set k (z / 2 ^ (k % 8) % 2 == 1)
      rw [hst] at hs1'
      rw [← hbe] at hs1' hs2'
      have HS1 : Hid _ := hs1'
      have HS2 : Hid _ := hs2'
      clear hs1' hs2' hbe hst
      go_wp2
      go_roundw
      case rel => exact ⟨k + 1, by omega, by go_num, HS1.out, hbel.grown HS2.out hbel.size (fun j hj => by have e' := Option.some.inj hj; omega)⟩
      case measure => simp [intOf]; omega
    · have hkn : k = n := by omega
      subst hkn
      rw [mkTo_all] at hown
      have hml : (unbits k mb).length = k := unbits_length _ _
      have hrdB : ReadsB wr (some ⟨u1.heap.size, 0, none⟩) k (unbits k mb) := by
        have h9 := hown.reads k (Nat.le_refl _)
        rwa [List.take_of_length_le (by omega)] at h9
      have HOW : Hid (OwnB wr u1.heap.size u1.heap.size k k (unbits k mb)) := hown
      have HRB : Hid _ := hrdB
      have hw1 : w.grownBy wr (some q) := grownBy_trans HG1.out (grown_of hbel _)
      have HW1 : Hid (w.grownBy wr (some q)) := hw1
      have HRDr : Hid (RdAt wr B q (rest.drop K)) := HRD1.out.below hbel
      have HR1r : Hid (Reads wr (some ⟨bb, off, none⟩) K mb) := HR1.out.below hbel
      have hszr : u1.heap.size ≤ wr.heap.size := hbel.size
      clear hown hrdB hw1 hml
      by_cases heq : bitsOf (unbits k mb) = mb
      · have hd : decide (bitsOf (unbits k mb) = mb) = true := decide_eq_true heq
        have HEQ : Hid (bitsOf (unbits k mb) = mb) := heq
        clear heq
        go_wp2_with (first
          | (go_at_call 39; refine (bits_any _ k k (unbits k mb) _ (by omega) HRB.out).mono ?_; rintro e u2 ⟨g2, rfl, own2, b2⟩; rw [HK.out] at own2 ⊢
             have HO2 : Hid (Own u2 wr.heap.size g2 K K (bitsOf (unbits k mb))) := own2
             have HB2 : Hid (Below wr.heap.size wr u2) := b2
             clear own2 b2)
          | (go_at_call 46; refine (equal_any _ _ _ _ _ _ (bitsOf (unbits k mb)) mb _ (Own.all HO2.out (bitsOf_byt _)) (HR1r.out.below HB2.out)).mono ?_; rintro e u3 ⟨rfl, rfl⟩; rw [hd]))
        go_ret2
        refine ⟨HRDr.out.below HB2.out, grownBy_trans HW1.out (grown_of HB2.out _), Or.inl ⟨HEQ.out, u1.heap.size, rfl, ?_⟩⟩
        have h9 := OwnB.below HOW.out HB2.out
        exact ⟨h9.1, h9.2.elim Or.inl (fun ⟨g, cap, cur, hv, hg, r⟩ => Or.inr ⟨g, cap, cur, hv, Nat.le_trans HG1.out.size hg, r⟩)⟩
      · have hd : decide (bitsOf (unbits k mb) = mb) = false := decide_eq_false heq
        have HEQ : Hid (bitsOf (unbits k mb) ≠ mb) := heq
        clear heq
        go_wp2_with (first
          | (go_at_call 39; refine (bits_any _ k k (unbits k mb) _ (by omega) HRB.out).mono ?_; rintro e u2 ⟨g2, rfl, own2, b2⟩; rw [HK.out] at own2 ⊢
             have HO2 : Hid (Own u2 wr.heap.size g2 K K (bitsOf (unbits k mb))) := own2
             have HB2 : Hid (Below wr.heap.size wr u2) := b2
             clear own2 b2)
          | (go_at_call 46; refine (equal_any _ _ _ _ _ _ (bitsOf (unbits k mb)) mb _ (Own.all HO2.out (bitsOf_byt _)) (HR1r.out.below HB2.out)).mono ?_; rintro e u3 ⟨rfl, rfl⟩; rw [hd]))
        go_ret2
        exact ⟨HRDr.out.below HB2.out, grownBy_trans HW1.out (grown_of HB2.out _), Or.inr ⟨HEQ.out, rfl⟩⟩

end Go.Proofs.YteefekhlbillfaaDoor
