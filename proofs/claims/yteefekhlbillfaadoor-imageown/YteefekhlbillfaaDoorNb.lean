/-
  SEAT YteefekhlbillfaaDoor: a number behind a row; how many bytes are written.
-/
import Derived.Test.YteefekhlbillfaaDoorNa
namespace Go.Proofs.YteefekhlbillfaaDoor
open Go.RowKit
set_option linter.unusedVariables false

theorem fits_pow (v : Int) (size : Nat) (h0 : 0 ≤ v) (h : v < 256 ^ size) : (v / 2 ^ (8 * (size : Int)).toNat == 0) = true := by
  have e : (8 * (size : Int)).toNat = 8 * size := by omega
  rw [e, ← p256]
  simp only [beq_iff_eq]
  exact Int.ediv_eq_zero_of_lt h0 h

set_option maxHeartbeats 1000000 in
set_option maxRecDepth 100000 in
theorem number_any (B q : Nat) (st : St) (size : Nat) (v : Int) (w : World) (hW : WrAt w B q st) (hl : st.laid.length ≤ 1000000000) (h1 : 1 ≤ size) (h2 : size ≤ 4) (hv0 : 0 ≤ v) (hv : v < 256 ^ size) :
    Calls Tryd.prog 38 #[.pointer (some ⟨q, 0, none⟩), .int .i64 (size : Int), .int .i64 v] w fun e w' => e = .returned (.tuple #[]) ∧ WrAt w' B q ⟨st.laid ++ leN size v, st.kind, st.count⟩ ∧ Kw B w w' := by
  have hBw := hW.size
  obtain ⟨g, cap, hq, hown, hBq, hby⟩ := hW
  obtain ⟨laid, kind, count⟩ := st
  simp only at *
  obtain ⟨n, hn⟩ : ∃ n, laid.length = n := ⟨_, rfl⟩
  have hp4 : (256 : Int) ^ size ≤ 256 ^ 4 := pow256_le h2
  have hv4 : v < 4294967296 := by have : (256 : Int) ^ 4 = 4294967296 := by decide
                                  omega
  have hfit := fits_pow v size hv0 hv
  have hcv : IntKind.u64.wrap v = v := by rw [IntKind.wrap_u64]; omega
  rw [hn] at hq hown hl
  obtain ⟨c0, c1, c2, f0, f1, f2⟩ := blk3_cells hq
  have HQ : Hid _ := hq
  have HO : Hid (Own w B g n cap laid) := hown
  have HF : Hid ((v / 2 ^ (8 * (size : Int)).toNat == 0) = true) := hfit
  have HN : Hid (laid.length = n) := hn
  have HV : Hid (v < 256 ^ size) := hv
  clear hq hown hfit hn hv hp4
  go_enter Tryd.func38, Tryd.ntmps38
  go_wp2_with (first
    | (at_builtin; refine wpList_append_zeros rfl (.tmp 16) (.tmp 17) rfl B g n cap laid rfl HO.out size rfl h1 (by omega) hBw ?_; intro g' cap' w1 own1 grow1
       have hqg := Own.ne HO.out HQ.out (by decide)
       have hq1 : w1.heap[q]? = some (.cells #[.slice (some ⟨g, 0, none⟩) n cap, .int .i64 (kind : Int), .int .i64 (count : Int)] 82 (0, 0)) := (grow1.block q (Array.getElem?_eq_some_iff.1 HQ.out).1 (fun e => hqg (by cases e; rfl))).trans HQ.out
       have HG : Hid _ := grow1
       have HQ1 : Hid _ := hq1
       have HO1 : Hid (Own w1 B g' (n + size) cap' (laid ++ List.replicate size 0)) := own1
       have HQ2 : Hid _ := blk3_0 hq1 (.slice (some ⟨g', 0, none⟩) (n + size) cap')
       have HO2 : Hid (Own (w1.setCell ⟨q, 0, none⟩ (.slice (some ⟨g', 0, none⟩) (n + size) cap')) B g' (n + size) cap' (laid ++ List.replicate size 0)) := Own.apart own1 (grownBy_setCell' w1 q (.slice (some ⟨g', 0, none⟩) (n + size) cap')) (Own.ne own1 hq1 (by decide)).symm
       obtain ⟨d0, d1, d2, e0, e1, e2⟩ := blk3_cells hq1
       clear grow1 hq1 own1 hqg c0 c1 c2 f0 f1 f2)
    | (go_at_call 62; refine (put_ok B g' (n + size) cap' (n + size) n size v (laid ++ List.replicate size 0) _ (by omega) h1 (by omega) HF.out (Nat.le_refl _) (Nat.le_refl _) hv0 HO2.out).mono ?_; rintro e w2 ⟨rfl, own3, grow3⟩; have HO3 : Hid (Own w2 B g' (n + size) cap' (putL (laid ++ List.replicate size 0) n v size)) := own3; have HG3 : Hid _ := grow3; clear own3 grow3))
  go_end0
  have e1 : putL (laid ++ List.replicate size 0) n v size = laid ++ leN size v := by rw [← HN.out]; exact putL_tail _ _ _ _
  have o3 := HO3.out
  rw [e1] at o3
  have hlen : (laid ++ leN size v).length = n + size := by rw [List.length_append, leN_length, HN.out]
  refine ⟨rfl, ⟨g', cap', ?_, ?_, hBq, ?_⟩, ?_⟩
  · simp only [hlen]
    exact (HG3.out.block q (by have := (Array.getElem?_eq_some_iff.1 HQ2.out).1; exact this) (fun e => (Own.ne HO2.out HQ2.out (by decide)) (by cases e; rfl))).trans HQ2.out
  · simp only [hlen]; exact o3
  · intro x hx
    rcases List.mem_append.1 hx with h | h
    · exact hby x h
    · exact leN_byt _ _ x h
  · have k1 : Kw B w w1 := Kw.of_own HO.out hBw HG.out
    have k2 : Kw B w1 (w1.setCell ⟨q, 0, none⟩ (.slice (some ⟨g', 0, none⟩) (n + size) cap')) := Kw.of_box HQ1.out hBq (Nat.le_trans hBw HG.out.size) (grownBy_setCell' w1 q _)
    have k3 : Kw B (w1.setCell ⟨q, 0, none⟩ (.slice (some ⟨g', 0, none⟩) (n + size) cap')) w2 := Kw.of_own HO2.out (Nat.le_trans (Nat.le_trans hBw HG.out.size) (grownBy_setCell' w1 q _).size) HG3.out
    exact (k1.trans k2).trans k3

set_option maxHeartbeats 1000000 in
set_option maxRecDepth 100000 in
theorem written_any (a : Option Addr) (n cap : Nat) (zs : List Int) (w : World) (hl : n ≤ 200000000000000) (h : Reads w a n zs) :
    Calls Tryd.prog 77 #[.slice a n cap] w fun e w' => e = .returned (.int .i64 (wrN zs : Int)) ∧ w' = w := by
  have hlen := h.1
  go_enter Tryd.func77, Tryd.ntmps77
  go_wp2
  go_loop [3] (fun x => ∃ k : Nat, k ≤ n ∧ x = .int .i64 k ∧ Hid (∀ i, k ≤ i → i < zs.length → zs.getD i 0 = 255))
    (fun x => (intOf x).toNat)
  case atStart => exact ⟨n, Nat.le_refl _, rfl, fun i h1 h2 => by omega⟩
  case round =>
    obtain ⟨k, hk, rfl, HA⟩ := hrel
    cases k with
    | zero =>
      have HE : Hid (wrN zs = 0) := wrN_char zs 0 (by omega) HA.out (Or.inl rfl)
      go_wp2
      go_ret
      rw [HE.out]
      exact ⟨rfl, rfl⟩
    | succ k =>
      obtain ⟨b, off, rfl, hb, hcell⟩ := h.pos (by omega)
      obtain ⟨z, hz⟩ : ∃ z, z = zs.getD k 0 := ⟨_, rfl⟩
      have hcx : w.cell? ⟨b, off + k, none⟩ = some (.int .u8 z) := by rw [hz]; exact hcell k (by omega)
      have i1 : (k : Int) < (n : Int) := by omega
      by_cases he : z = 255
      · subst he
        have HB : Hid (∀ i, k ≤ i → i < zs.length → zs.getD i 0 = 255) := fun i h1 h2 => by
          rcases Nat.eq_or_lt_of_le h1 with h3 | h3
          · rw [← h3]; exact hz.symm
          · exact HA.out i h3 h2
        clear hz hcell h hlen HA
        go_wp2
        go_round
        case rel => exact ⟨k, by omega, by go_num, HB⟩
        case measure => simp [intOf]
      · have HE : Hid (wrN zs = k + 1) := wrN_char zs (k + 1) (by omega) HA.out (Or.inr (by rw [Nat.add_sub_cancel, ← hz]; exact he))
        have he2 : (z == 255) = false := by simpa using he
        clear hz hcell h hlen HA he
        go_wp2
        go_ret
        rw [HE.out]
        exact ⟨by simp, rfl⟩

theorem isBlank_any (a : Option Addr) (n cap : Nat) (zs : List Int) (w : World) (hl : n ≤ 200000000000000) (h : Reads w a n zs) :
    Calls Tryd.prog 66 #[.slice a n cap] w fun e w' => e = .returned (.bool (blankB zs)) ∧ w' = w := by
  cases hb : blankB zs with
  | true =>
    have h0 := (wrN_zero zs).2 hb
    go_enter Tryd.func66, Tryd.ntmps66
    go_wp2_with (go_at_call 77; refine (written_any _ _ _ zs _ hl h).mono ?_; rintro e u1 ⟨rfl, hu⟩; rw [hu, h0])
    go_ret
    exact ⟨rfl, rfl⟩
  | false =>
    have h0 : ((wrN zs : Int) == 0) = false := by
      have : wrN zs ≠ 0 := fun e => by rw [(wrN_zero zs).1 e] at hb; cases hb
      simp; omega
    go_enter Tryd.func66, Tryd.ntmps66
    go_wp2_with (go_at_call 77; refine (written_any _ _ _ zs _ hl h).mono ?_; rintro e u1 ⟨rfl, hu⟩; rw [hu])
    go_ret
    exact ⟨rfl, rfl⟩

end Go.Proofs.YteefekhlbillfaaDoor
