/-
  SEAT YtdiifegljonojaaGreatDoor: the end of a row.
-/
import Derived.Test.YtdiifegljonojaaGreatDoorRj
namespace Go.Proofs.YtdiifegljonojaaGreatDoor
open Go.RowKit
set_option linter.unusedVariables false

/-- What stands behind the pieces. -/
def endR (bs r : List Int) : Except Int (Unit × List Int) :=
  match numR 4 r with
  | .error e => .error e
  | .ok (s, r2) => if s = ((sumL (nats (bs.take (bs.length - r.length))) : Nat) : Int) then (if r2 = [] then .ok ((), r2) else .error 190) else .error 192

theorem sumL_lt {zs : List Int} (h : ∀ x ∈ zs, 0 ≤ x ∧ x ≤ 255) : sumL (nats zs) < 4294967296 := by
  unfold sumL
  exact xor32 _ _ (crcL_lt _ (nats_lt h)) (by decide)

set_option maxHeartbeats 1000000 in
set_option maxRecDepth 100000 in
theorem end_any (B q b off n c : Nat) (bs r : List Int) (w : World) (hR : RdAt w B q r) (hrow : Reads w (some ⟨b, off, none⟩) n bs) (hn : n ≤ 200000000000000) (hnc : n ≤ c) (hc : c ≤ 9223372036854775807) (hrn : r.length ≤ n) (ht : Tab w) :
    Calls Tryz.prog 44 #[.pointer (some ⟨q, 0, none⟩), .slice (some ⟨b, off, none⟩) n c] w (Left w B q (endR bs r) fun _ val _ => val = .tuple #[]) := by
  have hl := hrow.1
  have hlt := hR.lt
  have HR := hide hR
  have HF := hide (hrow.front (n - r.length) (by omega))
  have HT := hide ht
  obtain ⟨b1, o1, c1, h0, _⟩ := hR
  obtain ⟨m, hm⟩ : ∃ m, r.length = m := ⟨_, rfl⟩
  rw [hm] at h0 HF hrn
  have c0 : w.cell? ⟨q, 0, none⟩ = some (.slice (some ⟨b1, o1, none⟩) m c1) := by simp [World.cell?, h0]
  obtain ⟨L, hL⟩ : ∃ L, n - m = L := ⟨_, rfl⟩
  rw [hL] at HF
  obtain ⟨s, hs⟩ : ∃ s, sumL (nats (bs.take L)) = s := ⟨_, rfl⟩
  have hsl : s < 4294967296 := by rw [← hs]; exact sumL_lt (fun x hx => hrow.2.1 x (List.mem_of_mem_take hx))
  have HSM := hide hs
  have HE : Hid (endR bs r = match numR 4 r with
    | .error e => .error e
    | .ok (x, r2) => if x = (s : Int) then (if r2 = [] then .ok ((), r2) else .error 190) else .error 192) := by unfold Hid endR; rw [hl, hm, hL, hs]
  have e1 : (n : Int) - (m : Int) = (L : Int) := by omega
  have e2 : (L : Int) ≤ (c : Int) := by omega
  have e3 : L ≤ c := by omega
  have e4 : L ≤ 200000000000000 := by omega
  have HM := hide hm
  clear h0 hrow hs hl hL hm
  by_cases h4 : 4 ≤ m
  · obtain ⟨V, hV⟩ : ∃ V, getL r 0 4 = V := ⟨_, rfl⟩
    have HV := hide hV
    have HNR : Hid (numR 4 r = .ok (V, r.drop 4)) := by unfold Hid numR; rw [if_pos (by have := HM.out; omega), hV]
    have HEE : Hid (endR bs r = if V = (s : Int) then (if r.drop 4 = [] then .ok ((), r.drop 4) else .error 190) else .error 192) := by unfold Hid; rw [HE.out, HNR.out]
    clear hV HE
    by_cases hVs : V = (s : Int)
    · subst hVs
      by_cases hd : r.drop 4 = []
      · have HP : Hid (endR bs r = .ok ((), r.drop 4)) := by unfold Hid; rw [HEE.out, if_pos rfl, if_pos hd]
        have HD0 : Hid ((r.drop 4).length = 0) := by unfold Hid; rw [hd]; rfl
        clear hd HEE
        go_enter Tryz.func44, Tryz.ntmps44
        go_wp2_with (first
          | (go_at_call 27; refine (sum_any (some ⟨b, off, none⟩) L c (bs.take L) _ e4 HF.out HT.out).mono ?_; rintro e u1 ⟨rfl, rfl⟩; rw [HSM.out])
          | (go_at_call 72; refine (num_ok B q 4 r _ HR.out (by have := HM.out; omega) (by have := HM.out; omega) (by omega) (by omega)).mono ?_; rintro e u2 ⟨rfl, rd2, g2⟩; rw [HV.out]
             have HR2 := hide rd2
             have HG2 := hide g2
             obtain ⟨b3, o3, c3, k0, _⟩ := rd2
             rw [HD0.out] at k0
             have k1 : u2.cell? ⟨q, 0, none⟩ = some (.slice (some ⟨b3, o3, none⟩) 0 c3) := by simp [World.cell?, k0]
             clear k0 g2 c0))
        go_end0
        exact left_ok HP.out rfl HR2.out HG2.out
      · have HP : Hid (endR bs r = .error 190) := by unfold Hid; rw [HEE.out, if_pos rfl, if_neg hd]
        obtain ⟨k, hk⟩ : ∃ k, (r.drop 4).length = k := ⟨_, rfl⟩
        have hk0 : 0 < k := by rw [← hk]; exact List.length_pos_iff.2 hd
        have HK := hide hk
        have i0 : (0 : Int) < (k : Int) := by omega
        clear hd HEE hk
        go_enter Tryz.func44, Tryz.ntmps44
        go_wp2_with (first
          | (go_at_call 27; refine (sum_any (some ⟨b, off, none⟩) L c (bs.take L) _ e4 HF.out HT.out).mono ?_; rintro e u1 ⟨rfl, rfl⟩; rw [HSM.out])
          | (go_at_call 72; refine (num_ok B q 4 r _ HR.out (by have := HM.out; omega) (by have := HM.out; omega) (by omega) (by omega)).mono ?_; rintro e u2 ⟨rfl, rd2, g2⟩; rw [HV.out]
             have HG2 := hide g2
             obtain ⟨b3, o3, c3, k0, _⟩ := rd2
             rw [HK.out] at k0
             have k1 : u2.cell? ⟨q, 0, none⟩ = some (.slice (some ⟨b3, o3, none⟩) k c3) := by simp [World.cell?, k0]
             clear k0 g2 c0))
        exact ⟨rfl, left_err HP.out HG2.out⟩
    · have HP : Hid (endR bs r = .error 192) := by unfold Hid; rw [HEE.out, if_neg hVs]
      have b1 : (V != (s : Int)) = true := by simp [hVs]
      clear HEE
      go_enter Tryz.func44, Tryz.ntmps44
      go_wp2_with (first
        | (go_at_call 27; refine (sum_any (some ⟨b, off, none⟩) L c (bs.take L) _ e4 HF.out HT.out).mono ?_; rintro e u1 ⟨rfl, rfl⟩; rw [HSM.out])
        | (go_at_call 72; refine (num_ok B q 4 r _ HR.out (by have := HM.out; omega) (by have := HM.out; omega) (by omega) (by omega)).mono ?_; rintro e u2 ⟨rfl, rd2, g2⟩; rw [HV.out]
           have HG2 := hide g2
           clear g2 c0 rd2))
      exact ⟨rfl, left_err HP.out HG2.out⟩
  · have HP : Hid (endR bs r = .error 190) := by unfold Hid; rw [HE.out]; unfold numR; rw [if_neg (by have := HM.out; omega)]
    go_enter Tryz.func44, Tryz.ntmps44
    go_wp2_with (first
      | (go_at_call 27; refine (sum_any (some ⟨b, off, none⟩) L c (bs.take L) _ e4 HF.out HT.out).mono ?_; rintro e u1 ⟨rfl, rfl⟩; rw [HSM.out])
      | (go_at_call 72; refine (num_short B q 4 r _ HR.out (by have := HM.out; omega) (by have := HM.out; omega) (by omega)).mono ?_; rintro e u2 ⟨rfl, hu2⟩; rw [hu2]))
    exact ⟨rfl, left_err HP.out (World.grownBy.refl _ _)⟩
end Go.Proofs.YtdiifegljonojaaGreatDoor
