/-
  SEAT Ytoaahellfflooaa: the reference's Read: the bytes fit.
-/
import Derived.Test.YtoaahellfflooaaRJ
namespace Go.Proofs.Ytoaahellfflooaa
open Go.RowKit
set_option linter.unusedVariables false


set_option maxHeartbeats 4000000 in
set_option maxRecDepth 100000 in
theorem rread_t2 (b off len cap kn tn : Nat) (zs : List Int) (k p : Int) (N : ByteArray) (z m st h : Int) (T : ByteArray) (w : World) (hN : N.size ≤ 9223372036854775807) (hT : T.size ≤ 9223372036854775807) (hf : Fld w (some ⟨b, off, none⟩) len cap kn tn zs k p N z m st h T) (hcp : cap = 25 + kn) (hE : nodeE k p N z m st h T = 0) :
    Calls Try.prog 31 #[.slice (some ⟨b, off, none⟩) len cap] w fun e w' => e = .returned (.tuple #[N8 k p N z m st h T, .int .i64 0]) ∧ Below w.heap.size w w' := by
  have hr := hf.hr
  have HF : Hid _ := hf
  have HHR : Hid (∀ x, (w.alloc (.cells #[.int .i64 0, .int .i64 0, .string ⟨#[]⟩, .int .i64 0, .int .i64 0, .int .u64 0, .int .i64 0, .string ⟨#[]⟩] 50)).grownBy x none → Reads x (some ⟨b, off, none⟩) len zs) := fun x hx => hr.below (below1 (below_of hx))
  have HHS : Hid (∀ x, (w.alloc (.cells #[.int .i64 0, .int .i64 0, .string ⟨#[]⟩, .int .i64 0, .int .i64 0, .int .u64 0, .int .i64 0, .string ⟨#[]⟩] 50)).grownBy x none → (fun x : World => x.cell? ⟨b, off, none⟩ = some (.int .u8 k) ∧ (convert 22 9 (.slice (some ⟨b, off + 24, none⟩) kn (cap - 24))).run Try.prog x = .ok (.string N) x ∧ (convert 22 9 (.slice (some ⟨b, off, none⟩) 0 0)).run Try.prog x = .ok (.string T) x) x) := fun x hx => by
    have hx1 := hr.below (below1 (below_of hx))
    have hl := hf.hl
    have hc := hf.hc
    refine ⟨?_, ?_, ?_⟩
    · obtain ⟨b', off', e, _, hcell⟩ := hx1.pos (by omega)
      have h0 := hcell 0 (by omega)
      cases e
      rw [hf.e0] at h0
      exact h0
    · rw [← hf.eN]
      exact conv_name hx1 (by omega)
    · rw [← hf.eT]
      exact conv_none len hr.1 (by omega)
  obtain ⟨cv0, cv1, cv2⟩ := HHS.out _ (World.grownBy.refl _ _)
  have hA := HHR.out _ (World.grownBy.refl _ _)
  obtain ⟨b', off', he, hb, hcell⟩ := hA.pos (by have := hf.hl; omega)
  cases he
  have hl24 : 24 ≤ len := by have := hf.hl; omega
  have hl25 : 24 + kn + 1 ≤ len := by have := hf.hl; omega
  have h4 := hf.h4
  have hk23 := hcell 23 (by omega)
  rw [hf.hkn] at hk23
  have hkr : (kn : Int) ≤ 255 := by rw [← hf.hkn]; exact (byteAt hr.2.1 23).2
  have ht := hcell (24 + kn) (by omega)
  rw [hf.htn] at ht
  have htr : (tn : Int) ≤ 255 := by rw [← hf.htn]; exact (byteAt hr.2.1 _).2
  have d1 : decide ((len : Int) < 24) = false := decide_eq_false (by omega)
  have d2 : decide ((len : Int) < 24 + (kn : Int) + 1) = false := decide_eq_false (by omega)
  have d3 : ¬ ((len : Int) < 24 + (kn : Int) + 1) := by omega
  have d4 : ((len : Int) != 24 + (kn : Int) + 1 + (tn : Int)) = false := by have := hf.hl; simp; omega
  have d5 : 24 + (kn : Int) < len := by omega
  have hc := hf.hc
  have hcm := hf.hcm
  have d6 : 24 + (kn : Int) ≤ cap := by omega
  have d7 : 25 + (kn : Int) ≤ len := by omega
  have d8 : 24 + kn - 24 = kn := by omega
  have d9 : (0 : Int) < len := by omega
  have d9b : 0 < len := by omega
  have d9c : ¬ len = 0 := by omega
  have d10 : (24 : Int) ≤ 24 + (kn : Int) := by omega
  have d11 : ¬ cap = 24 := by omega
  have d12 : (len : Int) ≤ cap := by omega
  have d13 : IntKind.i64.wrap (24 + (kn : Int)) = 24 + kn := by rw [IntKind.wrap_i64]; omega
  have d14 : IntKind.i64.wrap (25 + (kn : Int)) = 25 + kn := by rw [IntKind.wrap_i64]; omega
  have d15 : (24 + (kn : Int)).toNat = 24 + kn := by omega
  have d16 : (25 + (kn : Int)).toNat = 25 + kn := by omega
  have d17 : (0 : Int) ≤ 25 + (kn : Int) := by omega
  have d18 : 24 + kn ≤ cap := by omega
  have d19 : 25 + kn ≤ len := by omega
  have hk0 : 0 ≤ k ∧ k ≤ 255 := by rw [← hf.e0]; exact byteAt hr.2.1 0
  obtain ⟨hk0, hk1⟩ := hk0
  have hwk : IntKind.i64.wrap k = k := by rw [IntKind.wrap_i64]; omega
  have HMK : Hid (Nox ((w.alloc (.cells #[.int .i64 0, .int .i64 0, .string ⟨#[]⟩, .int .i64 0, .int .i64 0, .int .u64 0, .int .i64 0, .string ⟨#[]⟩] 50)).alloc (.cells #[.int .i64 k, .int .i64 p, .string N, .int .i64 z, .int .i64 m, .int .u64 st, .int .i64 h, .string T] 50)).drew (w.heap.size + 1) k p N z m st h T) := by have h9 := nox_made (w.alloc (.cells #[.int .i64 0, .int .i64 0, .string ⟨#[]⟩, .int .i64 0, .int .i64 0, .int .u64 0, .int .i64 0, .string ⟨#[]⟩] 50)) k p N z m st h T; rw [show (w.alloc (.cells #[.int .i64 0, .int .i64 0, .string ⟨#[]⟩, .int .i64 0, .int .i64 0, .int .u64 0, .int .i64 0, .string ⟨#[]⟩] 50)).heap.size = w.heap.size + 1 by simp] at h9; exact h9
  have hwp : IntKind.i64.wrap p = p := by rw [← hf.e1]; exact get_wrap zs _ 4 hr.2.1 (by omega)
  have hwz : IntKind.i64.wrap z = z := by rw [← hf.e2]; exact get_wrap zs _ 4 hr.2.1 (by omega)
  have hwm : IntKind.i64.wrap m = m := by rw [← hf.e3]; exact get_wrap zs _ 2 hr.2.1 (by omega)
  have hwh : IntKind.i64.wrap h = h := by rw [← hf.e5]; exact get_wrap zs _ 4 hr.2.1 (by omega)
  have hcp2 : 25 + kn = cap := hcp.symm
  have hl0 : len - cap = 0 := by have := hf.hl; omega
  have hl1 : len = cap := by omega
  have HL1 : Hid _ := hl1
  clear hl1 hcp
  have HGp : Hid (∀ x, (w.alloc (.cells #[.int .i64 0, .int .i64 0, .string ⟨#[]⟩, .int .i64 0, .int .i64 0, .int .u64 0, .int .i64 0, .string ⟨#[]⟩] 50)).grownBy x none → Calls Try.prog 49 #[.slice (some ⟨b, off, none⟩) len cap, .int .i64 1, .int .i64 4] x fun e w' => e = .returned (.int .u64 p) ∧ x = w') := fun x hx => by have := rget_ok (some ⟨b, off, none⟩) len cap 1 4 zs x (by omega) (by omega) (by omega) (by omega) (HHR.out x hx); rw [HF.out.e1] at this; exact this
  have HGz : Hid (∀ x, (w.alloc (.cells #[.int .i64 0, .int .i64 0, .string ⟨#[]⟩, .int .i64 0, .int .i64 0, .int .u64 0, .int .i64 0, .string ⟨#[]⟩] 50)).grownBy x none → Calls Try.prog 49 #[.slice (some ⟨b, off, none⟩) len cap, .int .i64 5, .int .i64 4] x fun e w' => e = .returned (.int .u64 z) ∧ x = w') := fun x hx => by have := rget_ok (some ⟨b, off, none⟩) len cap 5 4 zs x (by omega) (by omega) (by omega) (by omega) (HHR.out x hx); rw [HF.out.e2] at this; exact this
  have HGm : Hid (∀ x, (w.alloc (.cells #[.int .i64 0, .int .i64 0, .string ⟨#[]⟩, .int .i64 0, .int .i64 0, .int .u64 0, .int .i64 0, .string ⟨#[]⟩] 50)).grownBy x none → Calls Try.prog 49 #[.slice (some ⟨b, off, none⟩) len cap, .int .i64 9, .int .i64 2] x fun e w' => e = .returned (.int .u64 m) ∧ x = w') := fun x hx => by have := rget_ok (some ⟨b, off, none⟩) len cap 9 2 zs x (by omega) (by omega) (by omega) (by omega) (HHR.out x hx); rw [HF.out.e3] at this; exact this
  have HGst : Hid (∀ x, (w.alloc (.cells #[.int .i64 0, .int .i64 0, .string ⟨#[]⟩, .int .i64 0, .int .i64 0, .int .u64 0, .int .i64 0, .string ⟨#[]⟩] 50)).grownBy x none → Calls Try.prog 49 #[.slice (some ⟨b, off, none⟩) len cap, .int .i64 11, .int .i64 8] x fun e w' => e = .returned (.int .u64 st) ∧ x = w') := fun x hx => by have := rget_ok (some ⟨b, off, none⟩) len cap 11 8 zs x (by omega) (by omega) (by omega) (by omega) (HHR.out x hx); rw [HF.out.e4] at this; exact this
  have HGh : Hid (∀ x, (w.alloc (.cells #[.int .i64 0, .int .i64 0, .string ⟨#[]⟩, .int .i64 0, .int .i64 0, .int .u64 0, .int .i64 0, .string ⟨#[]⟩] 50)).grownBy x none → Calls Try.prog 49 #[.slice (some ⟨b, off, none⟩) len cap, .int .i64 19, .int .i64 4] x fun e w' => e = .returned (.int .u64 h) ∧ x = w') := fun x hx => by have := rget_ok (some ⟨b, off, none⟩) len cap 19 4 zs x (by omega) (by omega) (by omega) (by omega) (HHR.out x hx); rw [HF.out.e5] at this; exact this
  clear hf hr hA hcell
  go_enter Try.func31, Try.ntmps31
  go_wp2
  go_region_held3 (fun x => x.cell? ⟨b, off, none⟩ = some (.int .u8 k) ∧ (convert 22 9 (.slice (some ⟨b, off + 24, none⟩) kn (cap - 24))).run Try.prog x = .ok (.string N) x ∧ (convert 22 9 (.slice (some ⟨b, off, none⟩) 0 0)).run Try.prog x = .ok (.string T) x) ((first | exact HHS.out _ (World.grownBy.refl _ _) | exact HHS.out _ (drew_grown _ _) | exact HHS.out _ (grownBy_trans (drew_grown _ none) (alloc_grown _ _)) | exact HHS.out _ (alloc_grown _ _) | exact HHS.out _ (grownBy_trans (alloc_grown _ _) (drew_grown _ none))))
    ((first
      | (go_at_call 49; with_reducible refine Calls.mono (HGp.out _ ?_) ?_; (first | exact drew_grown _ _ | exact World.grownBy.refl _ _ | exact grownBy_trans (drew_grown _ none) (alloc_grown _ _)); rintro e u ⟨rfl, rfl⟩)
      | (go_at_call 49; with_reducible refine Calls.mono (HGz.out _ ?_) ?_; (first | exact drew_grown _ _ | exact World.grownBy.refl _ _ | exact grownBy_trans (drew_grown _ none) (alloc_grown _ _)); rintro e u ⟨rfl, rfl⟩)
      | (go_at_call 49; with_reducible refine Calls.mono (HGm.out _ ?_) ?_; (first | exact drew_grown _ _ | exact World.grownBy.refl _ _ | exact grownBy_trans (drew_grown _ none) (alloc_grown _ _)); rintro e u ⟨rfl, rfl⟩)
      | (go_at_call 49; with_reducible refine Calls.mono (HGst.out _ ?_) ?_; (first | exact drew_grown _ _ | exact World.grownBy.refl _ _ | exact grownBy_trans (drew_grown _ none) (alloc_grown _ _)); rintro e u ⟨rfl, rfl⟩)
      | (go_at_call 49; with_reducible refine Calls.mono (HGh.out _ ?_) ?_; (first | exact drew_grown _ _ | exact World.grownBy.refl _ _ | exact grownBy_trans (drew_grown _ none) (alloc_grown _ _)); rintro e u ⟨rfl, rfl⟩)))
  all_goals (go_wp2_with (first | (go_at_call 43; refine (rcheck_any _ _ _ _ _ _ _ _ _ hN hT).mono ?_; rintro e u2 ⟨rfl, b2⟩; rw [hE]; have q2 : Below _ (w.alloc (.cells #[.int .i64 0, .int .i64 0, .string ⟨#[]⟩, .int .i64 0, .int .i64 0, .int .u64 0, .int .i64 0, .string ⟨#[]⟩] 50)) u2 := below_of (grownBy_trans (grownBy_trans (alloc_grown _ _) (drew_grown _ none)) (grown_of b2 none)); have bx2 := (nox_made w 0 0 ⟨#[]⟩ 0 0 0 0 ⟨#[]⟩).below q2 (lt_of_block (nox_made w 0 0 ⟨#[]⟩ 0 0 0 0 ⟨#[]⟩)); have bw2 := ((Below.refl w.heap.size w).alloc (Nat.le_refl _) (.cells #[.int .i64 0, .int .i64 0, .string ⟨#[]⟩, .int .i64 0, .int .i64 0, .int .u64 0, .int .i64 0, .string ⟨#[]⟩] 50)).trans (q2.mono (by simp)); have by2 := HMK.out.below b2 (lt_of_block HMK.out); obtain ⟨⟨g0, g1, g2, g3, g4, g5, g6, g7⟩, gz⟩ := n8_cells by2; clear gz by2; clear b2; obtain ⟨⟨x0, x1, x2, x3, x4, x5, x6, x7⟩, fz⟩ := n8_cells bx2; have f0 := fz 0; have f1 := fz 1; have f2 := fz 2; have f3 := fz 3; have f4 := fz 4; have f5 := fz 5; have f6 := fz 6; have f7 := fz 7; have HB2 : Hid _ := bw2; have HX2 : Hid _ := bx2; clear fz bw2 bx2 q2)))
  all_goals (refine bodyPost_ret (v := .tuple #[N8 k p N z m st h T, .int .i64 0]) (res12 (over8 k p N z m st h T HX2.out) rfl rfl) rfl ⟨rfl, ?_⟩)
  all_goals exact bov8 k p N z m st h T HB2.out (Nat.le_refl _)

end Go.Proofs.Ytoaahellfflooaa
