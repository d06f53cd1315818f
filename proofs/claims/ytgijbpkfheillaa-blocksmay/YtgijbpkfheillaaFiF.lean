/-
  SEAT Ytgijbpkfheillaa: List, Clean.
-/
import Derived.Test.YtgijbpkfheillaaFiE
namespace Go.Proofs.Ytgijbpkfheillaa
open Go.RowKit
set_option linter.unusedVariables false

set_option maxHeartbeats 2000000 in
theorem list_any (gb gk : Nat) (P : Int) (es : List Ent) (cur last vic : Int) (w : World) (h : BookAt w gb gk P es cur last vic) (hn : es.length ≤ 5000) :
    Calls Try.prog 16 #[.pointer (some ⟨gb, 0, none⟩)] w fun e w' => e = .returned (.slice (some ⟨w.heap.size, 0, none⟩) es.length es.length) ∧ RowAt w' w.heap.size (es.map Ent.bk) ∧ Below w.heap.size w w' := by
  obtain ⟨c0, c1, c2, c3, c4⟩ := h.cells
  have HB : Hid (BookAt w gb gk P es cur last vic) := h
  have hmk := make_list es.length hn
  have hA : Below w.heap.size w (w.alloc (.cells (flatK (List.replicate es.length Bk.zero)).toArray 34)) := ba (Below.refl _ _)
  have HR0 : Hid (RowAt (w.alloc (.cells (flatK (List.replicate es.length Bk.zero)).toArray 34)) w.heap.size (laidB es es.length 0)) := by
    have el : laidB es es.length 0 = List.replicate es.length Bk.zero := by simp [laidB]
    unfold Hid
    rw [el]
    exact heap_alloc_new w _
  have HA : Hid _ := hA
  obtain ⟨k0, k1, k2, k3, k4⟩ := (h.below hA).cells
  clear h hA
  go_enter Try.func16, Try.ntmps16
  go_wp2
  go_loopw [4, 5, 17] (fun s4 s5 s17 wr => ∃ k : Nat, k ≤ es.length ∧ s17 = .int .i64 k ∧ Hid (RowAt wr w.heap.size (laidB es es.length k)) ∧ Below w.heap.size w wr)
    (fun _ _ i _ => es.length - (intOf i).toNat)
  case atStart => exact ⟨0, Nat.zero_le _, rfl, HR0.out, HA.out⟩
  case round =>
    obtain ⟨k, hk, rfl, HR, hb⟩ := hrel
    by_cases hlt : k < es.length
    · obtain ⟨e0, e1, e2, e3, e4⟩ := (HB.out.below hb).entry k hlt
      obtain ⟨X, hX⟩ : ∃ X, es.getD k Ent.zero = X := ⟨_, rfl⟩
      have HX : Hid _ := hX
      rw [hX] at e0 e1 e2 e3 e4
      obtain ⟨s, h, r, l, lf⟩ := X
      simp only at e0 e1 e2 e3 e4
      have d1 : (k : Int) < es.length := by omega
      have hll := laidB_length es es.length k rfl hk
      have hgl : w.heap.size < wr.heap.size := lt_of_block HR.out
      have hne1 : ¬ (w.heap.size = wr.heap.size) := by omega
      have hne2 : ¬ (wr.heap.size = w.heap.size) := by omega
      have n0 := HR.out.cell k 0 (by omega) (by omega)
      have n1 := HR.out.cell k 1 (by omega) (by omega)
      have n2 := HR.out.cell k 2 (by omega) (by omega)
      have n3 := HR.out.cell k 3 (by omega) (by omega)
      have m0 := HR.out.free (k * 4)
      have m1 := HR.out.free (k * 4 + 1)
      have m2 := HR.out.free (k * 4 + 2)
      have m3 := HR.out.free (k * 4 + 3)
      rw [Nat.add_zero] at n0
      obtain ⟨y0, hy0⟩ : ∃ y, ((laidB es es.length k).getD k Bk.zero).cell 0 = y := ⟨_, rfl⟩
      obtain ⟨y1, hy1⟩ : ∃ y, ((laidB es es.length k).getD k Bk.zero).cell 1 = y := ⟨_, rfl⟩
      obtain ⟨y2, hy2⟩ : ∃ y, ((laidB es es.length k).getD k Bk.zero).cell 2 = y := ⟨_, rfl⟩
      obtain ⟨y3, hy3⟩ : ∃ y, ((laidB es es.length k).getD k Bk.zero).cell 3 = y := ⟨_, rfl⟩
      rw [hy0] at n0
      rw [hy1] at n1
      rw [hy2] at n2
      rw [hy3] at n3
      have hp := HR.out.put k (by omega) ⟨s, h, r, l⟩
      have h8 := laidB_step es es.length k rfl hlt
      rw [HX.out] at h8
      rw [show (⟨s, h, r, l⟩ : Bk) = (⟨s, h, r, l, lf⟩ : Ent).bk from rfl, h8] at hp
      have HP : Hid (RowAt (((((wr.setCell ⟨w.heap.size, k * 4, none⟩ (.int .i64 s)).setCell ⟨w.heap.size, k * 4 + 1, none⟩ (.int .u64 h)).setCell ⟨w.heap.size, k * 4 + 2, none⟩ (.bool r)).setCell ⟨w.heap.size, k * 4 + 3, none⟩ (.int .i64 l)).alloc (.cells #[.int .i64 s, .int .u64 h, .bool r, .int .i64 l, .bool lf] 71)) w.heap.size (laidB es es.length (k + 1))) := RowAt.below hp (ba (Below.refl _ _))
      have HBB : Hid (Below w.heap.size w (((((wr.setCell ⟨w.heap.size, k * 4, none⟩ (.int .i64 s)).setCell ⟨w.heap.size, k * 4 + 1, none⟩ (.int .u64 h)).setCell ⟨w.heap.size, k * 4 + 2, none⟩ (.bool r)).setCell ⟨w.heap.size, k * 4 + 3, none⟩ (.int .i64 l)).alloc (.cells #[.int .i64 s, .int .u64 h, .bool r, .int .i64 l, .bool lf] 71))) := ba ((((hb.setCell (p := ⟨w.heap.size, k * 4, none⟩) (Nat.le_refl _) _).setCell (p := ⟨w.heap.size, k * 4 + 1, none⟩) (Nat.le_refl _) _).setCell (p := ⟨w.heap.size, k * 4 + 2, none⟩) (Nat.le_refl _) _).setCell (p := ⟨w.heap.size, k * 4 + 3, none⟩) (Nat.le_refl _) _)
      clear hX hy0 hy1 hy2 hy3 hp h8
      go_wp2
      go_roundw
      case rel => exact ⟨k + 1, by omega, by go_num, HP, HBB.out⟩
      case measure => simp [intOf]; omega
    · have hkn : k = es.length := by omega
      have hR := HR.out
      rw [hkn, laidB_all es es.length rfl] at hR
      have HRR : Hid _ := hR
      clear hR HR
      subst hkn
      go_wp2
      go_ret
      exact ⟨rfl, HRR.out, hb⟩

/-- The victim behind a Clean. -/
def cleanV (es : List Ent) : Int := match oldE es with
  | none => -1
  | some (v, _) => (v : Int)
def settleO (es : List Ent) (last vic : Int) : Option Nat → List Ent
  | none => es
  | some a => settleE es last vic a
theorem old_lt {es : List Ent} {v : Nat} {h : Int} (ho : oldE es = some (v, h)) : v < es.length := by
  unfold oldE at ho
  cases h1 : lowest es candE es.length with
  | none => rw [h1] at ho; cases ho
  | some a =>
    rw [h1] at ho
    simp only at ho
    cases h2 : lowest es (aboveE (es.getD a Ent.zero).h) es.length with
    | none => rw [h2] at ho; cases ho
    | some b =>
      rw [h2] at ho
      simp only [Option.some.injEq, Prod.mk.injEq] at ho
      rw [← ho.1]
      exact (lowest_lt h1).1
set_option maxHeartbeats 2000000 in
theorem clean_any (gb gk : Nat) (P : Int) (es : List Ent) (cur last : Int) (vo : Option Nat) (w : World) (h : BookAt w gb gk P es cur last (optI vo)) (hn : es.length ≤ 5000) (hv : ∀ a, vo = some a → a < es.length) :
    Calls Try.prog 15 #[.pointer (some ⟨gb, 0, none⟩)] w fun e w' => e = .returned (oldV (oldE es)) ∧ BookAt w' gb gk P (settleO es last (cleanV es) vo) cur last (cleanV es) ∧ Grew w w' gb gk := by
  have HB : Hid (BookAt w gb gk P es cur last (optI vo)) := h
  clear h
  cases ho : oldE es with
  | none =>
    have HC : Hid (cleanV es = -1) := by unfold Hid cleanV; rw [ho]
    cases vo with
    | none =>
      have oI : optI none = -1 := rfl
      rw [oI] at HB
      go_enter Try.func15, Try.ntmps15
      go_wp2_with (first | (go_at_call 28; refine (oldest_any gb gk P es cur last _ _ HB.out hn).mono ?_; rintro e u1 ⟨rfl, q1⟩; rw [ho]; simp only [oldV]; have hB1 := HB.out.below q1; obtain ⟨c0, c1, c2, c3, c4⟩ := hB1.cells; have f4 := hB1.free2 4; have HS : Hid (BookAt (u1.setCell ⟨gb, 4, none⟩ (.int .i64 (-1))) gb gk P es cur last (-1)) := hB1.setV (-1); have Q1 : Hid _ := q1; clear q1 hB1))
      go_ret3
      exact ⟨rfl, by rw [HC.out]; exact HS.out, (Grew.ofB Q1.out).trans (Grew.ofb (grown_set _ _ _ _))⟩
    | some a =>
      have oI : optI (some a) = (a : Int) := rfl
      rw [oI] at HB
      have dv : ((a : Int) != -1) = true := by simp
      have hal := hv a rfl
      go_enter Try.func15, Try.ntmps15
      go_wp2_with (first | (go_at_call 28; refine (oldest_any gb gk P es cur last _ _ HB.out hn).mono ?_; rintro e u1 ⟨rfl, q1⟩; rw [ho]; simp only [oldV]; have hB1 := HB.out.below q1; obtain ⟨c0, c1, c2, c3, c4⟩ := hB1.cells; have f4 := hB1.free2 4; have HS : Hid (BookAt (u1.setCell ⟨gb, 4, none⟩ (.int .i64 (-1))) gb gk P es cur last (-1)) := hB1.setV (-1); have Q1 : Hid _ := q1; clear q1 hB1) | (go_at_call 41; refine (settle_any gb gk P es cur last (-1) a _ HS.out hal hn).mono ?_; rintro e u2 ⟨rfl, b2, g2⟩; have B2 : Hid _ := b2; have G2 : Hid _ := g2; clear b2 g2))
      go_ret3
      exact ⟨rfl, by rw [HC.out]; exact B2.out, ((Grew.ofB Q1.out).trans (Grew.ofb (grown_set _ _ _ _))).trans (Grew.ofk G2.out)⟩
  | some p =>
    obtain ⟨v, hd⟩ := p
    have HC : Hid (cleanV es = (v : Int)) := by unfold Hid cleanV; rw [ho]
    cases vo with
    | none =>
      have oI : optI none = -1 := rfl
      rw [oI] at HB
      go_enter Try.func15, Try.ntmps15
      go_wp2_with (first | (go_at_call 28; refine (oldest_any gb gk P es cur last _ _ HB.out hn).mono ?_; rintro e u1 ⟨rfl, q1⟩; rw [ho]; simp only [oldV]; have hB1 := HB.out.below q1; obtain ⟨c0, c1, c2, c3, c4⟩ := hB1.cells; have f4 := hB1.free2 4; have HS : Hid (BookAt ((u1.setCell ⟨gb, 4, none⟩ (.int .i64 (-1))).setCell ⟨gb, 4, none⟩ (.int .i64 v)) gb gk P es cur last v) := (hB1.setV (-1)).setV v; have Q1 : Hid _ := q1; clear q1 hB1))
      go_ret3
      exact ⟨rfl, by rw [HC.out]; exact HS.out, ((Grew.ofB Q1.out).trans (Grew.ofb (grown_set _ _ _ _))).trans (Grew.ofb (grown_set _ _ _ _))⟩
    | some a =>
      have oI : optI (some a) = (a : Int) := rfl
      rw [oI] at HB
      have dv : ((a : Int) != -1) = true := by simp
      have hal := hv a rfl
      go_enter Try.func15, Try.ntmps15
      go_wp2_with (first | (go_at_call 28; refine (oldest_any gb gk P es cur last _ _ HB.out hn).mono ?_; rintro e u1 ⟨rfl, q1⟩; rw [ho]; simp only [oldV]; have hB1 := HB.out.below q1; obtain ⟨c0, c1, c2, c3, c4⟩ := hB1.cells; have f4 := hB1.free2 4; have HS : Hid (BookAt ((u1.setCell ⟨gb, 4, none⟩ (.int .i64 (-1))).setCell ⟨gb, 4, none⟩ (.int .i64 v)) gb gk P es cur last v) := (hB1.setV (-1)).setV v; have Q1 : Hid _ := q1; clear q1 hB1) | (go_at_call 41; refine (settle_any gb gk P es cur last v a _ HS.out hal hn).mono ?_; rintro e u2 ⟨rfl, b2, g2⟩; have B2 : Hid _ := b2; have G2 : Hid _ := g2; clear b2 g2))
      go_ret3
      exact ⟨rfl, by rw [HC.out]; exact B2.out, (((Grew.ofB Q1.out).trans (Grew.ofb (grown_set _ _ _ _))).trans (Grew.ofb (grown_set _ _ _ _))).trans (Grew.ofk G2.out)⟩
end Go.Proofs.Ytgijbpkfheillaa
