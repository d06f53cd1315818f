/-
  SEAT YteefekhlbillfaaDoor: the end of a row; pages laid out.
-/
import Derived.Test.YteefekhlbillfaaDoorRl
namespace Go.Proofs.YteefekhlbillfaaDoor
open Go.RowKit
set_option linter.unusedVariables false

theorem Tab.other {w w' : World} {q : Nat} (h : Tab w) (hg : w.grownBy w' (some q)) (hq : q ≠ 0) : Tab w' := fun i hi => by
  have h0 := h i hi
  have hlt : 0 < w.heap.size := block_lt_of_cell h0
  have hb := hg.block 0 hlt (fun e => hq (by have := Option.some.inj e; omega))
  rw [← h0]
  simp only [World.cell?, hb]

theorem val4_getL (t : List Int) : getL t 0 4 = val4 t := by
  simp [getL, val4]
  omega

set_option maxHeartbeats 2000000 in
set_option maxRecDepth 100000 in
theorem end_short (B q bk off n c : Nat) (bs t : List Int) (w : World) (hR : RdAt w B q t) (hr : Reads w (some ⟨bk, off, none⟩) n bs) (hn : n ≤ 200000000000000) (hnc : n ≤ c) (hc : c ≤ 9223372036854775807) (htn : t.length ≤ n) (h4 : t.length < 4) :
    Calls Tryd.prog 33 #[.pointer (some ⟨q, 0, none⟩), .slice (some ⟨bk, off, none⟩) n c] w fun e w' => e = .returned (.int .i64 10) ∧ w' = w := by
  obtain ⟨m, hm⟩ : ∃ m, t.length = m := ⟨_, rfl⟩
  have HR : Hid (RdAt w B q t) := hR
  obtain ⟨b0, o0, c0, h0, _⟩ := hR
  rw [hm] at h0
  have c0' : w.cell? ⟨q, 0, none⟩ = some (.slice (some ⟨b0, o0, none⟩) m c0) := by simp [World.cell?, h0]
  have HM : Hid (t.length = m) := hm
  rw [hm] at htn h4
  have e1 : (n : Int) - (m : Int) = ((n - m : Nat) : Int) := by omega
  have d1 : ((n - m : Nat) : Int) ≤ (c : Int) := by omega
  have d2 : n - m ≤ c := by omega
  clear h0 hm hr
  go_enter Tryd.func33, Tryd.ntmps33
  go_wp2_with (go_at_call 54; refine (num_short B q 4 t _ HR.out (by rw [HM.out]; omega) (by rw [HM.out]; omega) (by omega)).mono ?_; rintro e t1 ⟨rfl, hu1⟩; rw [hu1])
  go_ret
  exact ⟨rfl, rfl⟩

set_option maxHeartbeats 2000000 in
set_option maxRecDepth 100000 in
theorem end_long (B q bk off n c : Nat) (bs t : List Int) (w : World) (hR : RdAt w B q t) (hr : Reads w (some ⟨bk, off, none⟩) n bs) (hn : n ≤ 200000000000000) (hnc : n ≤ c) (hc : c ≤ 9223372036854775807) (htn : t.length ≤ n) (h4 : 4 ≤ t.length) (hbB : bk < B) (ht : Tab w) :
    Calls Tryd.prog 33 #[.pointer (some ⟨q, 0, none⟩), .slice (some ⟨bk, off, none⟩) n c] w fun e w' => e = .returned (.int .i64 (rdEnd bs t)) ∧ w.grownBy w' (some q) := by
  have hqlt := hR.lt
  have hby := hr.2.1
  have hbl := hr.1
  obtain ⟨m, hm⟩ : ∃ m, t.length = m := ⟨_, rfl⟩
  have HR : Hid (RdAt w B q t) := hR
  obtain ⟨b0, o0, c0, h0, _⟩ := hR
  rw [hm] at h0
  have c0' : w.cell? ⟨q, 0, none⟩ = some (.slice (some ⟨b0, o0, none⟩) m c0) := by simp [World.cell?, h0]
  have HM : Hid (t.length = m) := hm
  rw [hm] at htn h4
  have e1 : (n : Int) - (m : Int) = ((n - m : Nat) : Int) := by omega
  have d1 : ((n - m : Nat) : Int) ≤ (c : Int) := by omega
  have d2 : n - m ≤ c := by omega
  obtain ⟨V, hV⟩ : ∃ V, val4 t = V := ⟨_, rfl⟩
  obtain ⟨s, hs⟩ : ∃ s, sumL (nats (bs.take (n - m))) = s := ⟨_, rfl⟩
  have hs4 : s < 4294967296 := by rw [← hs]; exact sumL_lt (fun x hx => hby x (List.mem_of_mem_take hx))
  have HV : Hid (getL t 0 4 = V) := by unfold Hid; rw [val4_getL]; exact hV
  have HSU : Hid (sumL (nats (bs.take (n - m))) = s) := hs
  have HE : Hid (rdEnd bs t = if V ≠ (s : Int) then 192 else if 4 < m then 212 else 0) := by
    unfold Hid rdEnd
    rw [hm, if_neg (by omega), hV, hbl, hs]
  have HRD : Hid (Reads w (some ⟨bk, off, none⟩) n bs) := hr
  have HTB : Hid (Tab w) := ht
  clear h0 hm hr hV hs hby hbl ht
  by_cases hv : V = (s : Int)
  · subst hv
    by_cases hm4 : 4 < m
    · have HF : Hid (rdEnd bs t = 212) := by unfold Hid; rw [HE.out, if_neg (by simp), if_pos hm4]
      have d3 : (0 : Int) < ((m - 4 : Nat) : Int) := by omega
      clear HE
      go_enter Tryd.func33, Tryd.ntmps33
      go_wp2_with (first
        | (go_at_call 54; refine (num_ok B q 4 t _ HR.out (by rw [HM.out]; omega) (by rw [HM.out]; omega) (by omega) (by omega)).mono ?_; rintro e t1 ⟨rfl, rd1, g1⟩; rw [HV.out]
           have HG1 : Hid (w.grownBy t1 (some q)) := g1
           have HR1 : Hid (Reads t1 (some ⟨bk, off, none⟩) (n - m) (bs.take (n - m))) := (HRD.out.front (n - m) (by omega)).low (fun x hx => by cases hx; exact hbB) ((Below.refl B w).grown g1 (by omega) (fun k hk => by cases hk; exact hqlt.1))
           have HT1 : Hid (Tab t1) := HTB.out.other g1 (by omega)
           obtain ⟨b1, o1, k1, x1, _⟩ := rd1
           rw [List.length_drop, HM.out] at x1
           have x1' : t1.cell? ⟨q, 0, none⟩ = some (.slice (some ⟨b1, o1, none⟩) (m - 4) k1) := by simp [World.cell?, x1]
           clear g1 x1)
        | (go_at_call 43; refine (sum_any _ _ _ (bs.take (n - m)) _ (by omega) HR1.out HT1.out).mono ?_; rintro e t2 ⟨rfl, hu2⟩; rw [← hu2, HSU.out]; clear hu2))
      go_ret
      exact ⟨by (rw [HF.out]; first | rfl | skip), HG1.out⟩
    · have HF : Hid (rdEnd bs t = 0) := by unfold Hid; rw [HE.out, if_neg (by simp), if_neg hm4]
      obtain rfl : m = 4 := by omega
      clear HE
      go_enter Tryd.func33, Tryd.ntmps33
      go_wp2_with (first
        | (go_at_call 54; refine (num_ok B q 4 t _ HR.out (by rw [HM.out]; omega) (by rw [HM.out]; omega) (by omega) (by omega)).mono ?_; rintro e t1 ⟨rfl, rd1, g1⟩; rw [HV.out]
           have HG1 : Hid (w.grownBy t1 (some q)) := g1
           have HR1 : Hid (Reads t1 (some ⟨bk, off, none⟩) (n - 4) (bs.take (n - 4))) := (HRD.out.front (n - 4) (by omega)).low (fun x hx => by cases hx; exact hbB) ((Below.refl B w).grown g1 (by omega) (fun k hk => by cases hk; exact hqlt.1))
           have HT1 : Hid (Tab t1) := HTB.out.other g1 (by omega)
           obtain ⟨b1, o1, k1, x1, _⟩ := rd1
           rw [List.length_drop, HM.out] at x1
           have x1' : t1.cell? ⟨q, 0, none⟩ = some (.slice (some ⟨b1, o1, none⟩) 0 k1) := by simp [World.cell?, x1]
           clear g1 x1)
        | (go_at_call 43; refine (sum_any _ _ _ (bs.take (n - 4)) _ (by omega) HR1.out HT1.out).mono ?_; rintro e t2 ⟨rfl, hu2⟩; rw [← hu2, HSU.out]; clear hu2))
      go_ret
      exact ⟨by (rw [HF.out]; first | rfl | skip), HG1.out⟩
  · have HF : Hid (rdEnd bs t = 192) := by unfold Hid; rw [HE.out, if_pos hv]
    have d3 : (V == (s : Int)) = false := by rw [beq_eq_false_iff_ne]; exact hv
    clear HE
    go_enter Tryd.func33, Tryd.ntmps33
    go_wp2_with (first
      | (go_at_call 54; refine (num_ok B q 4 t _ HR.out (by rw [HM.out]; omega) (by rw [HM.out]; omega) (by omega) (by omega)).mono ?_; rintro e t1 ⟨rfl, rd1, g1⟩; rw [HV.out]
         have HG1 : Hid (w.grownBy t1 (some q)) := g1
         have HR1 : Hid (Reads t1 (some ⟨bk, off, none⟩) (n - m) (bs.take (n - m))) := (HRD.out.front (n - m) (by omega)).low (fun x hx => by cases hx; exact hbB) ((Below.refl B w).grown g1 (by omega) (fun k hk => by cases hk; exact hqlt.1))
         have HT1 : Hid (Tab t1) := HTB.out.other g1 (by omega)
         clear g1 rd1)
      | (go_at_call 43; refine (sum_any _ _ _ (bs.take (n - m)) _ (by omega) HR1.out HT1.out).mono ?_; rintro e t2 ⟨rfl, hu2⟩; rw [← hu2, HSU.out]; clear hu2))
    go_ret
    exact ⟨by (rw [HF.out]; first | rfl | skip), HG1.out⟩

theorem end_any (B q bk off n c : Nat) (bs t : List Int) (w : World) (hR : RdAt w B q t) (hr : Reads w (some ⟨bk, off, none⟩) n bs) (hn : n ≤ 200000000000000) (hnc : n ≤ c) (hc : c ≤ 9223372036854775807) (htn : t.length ≤ n) (hbB : bk < B) (ht : Tab w) :
    Calls Tryd.prog 33 #[.pointer (some ⟨q, 0, none⟩), .slice (some ⟨bk, off, none⟩) n c] w fun e w' => e = .returned (.int .i64 (rdEnd bs t)) ∧ w.grownBy w' (some q) := by
  by_cases h4 : t.length < 4
  · refine (end_short B q bk off n c bs t w hR hr hn hnc hc htn h4).mono ?_
    rintro e w' ⟨rfl, rfl⟩
    exact ⟨by unfold rdEnd; rw [if_pos h4], grown_of (Below.refl _ _) _⟩
  · exact end_long B q bk off n c bs t w hR hr hn hnc hc htn (by omega) hbB ht

end Go.Proofs.YteefekhlbillfaaDoor
