/-
  SEAT Ytgijbpkfheillaa: BlocksPlays' walk.
-/
import Derived.Test.YtgijbpkfheillaaPlQ
import Derived.Test.YtgijbpkfheillaaOpenO
namespace Go.Proofs.Ytgijbpkfheillaa
open Go.RowKit
set_option linter.unusedVariables false

theorem ent_bk (bs : List Bk) : (bs.map Bk.ent).map Ent.bk = bs := by
  rw [List.map_map]
  have : Ent.bk ∘ Bk.ent = id := by funext b; rfl
  rw [this, List.map_id]
theorem ent_left (bs : List Bk) : (bs.map Bk.ent).map Ent.left = List.replicate bs.length false := by
  rw [List.map_map]
  have : Ent.left ∘ Bk.ent = fun _ => false := by funext b; rfl
  rw [this, List.map_const']
theorem first_ok {P : Int} {bs : List Bk} (hp : 4 ≤ P ∧ P ≤ 256) (hm : MayF P bs) : EOks P (bs.map Bk.ent) := by
  intro i hi
  rw [List.length_map] at hi
  rw [entD bs i hi]
  have hr := hm.row i hi
  obtain ⟨B, hB⟩ : ∃ B, bs.getD i Bk.zero = B := ⟨_, rfl⟩
  rw [hB] at hr ⊢
  obtain ⟨s, h, r, l⟩ := B
  simp only at hr
  have h1 := row_states hr
  have h2 : (s = 1 ∨ s = 2 ∨ s = 4) → 1 ≤ h ∧ h ≤ 281474976710655 ∧ 0 ≤ l ∧ l ≤ P - 1 := fun q => row_log hr q
  have h3 : (s = 0 ∨ s = 5 ∨ s = 6) → h = 0 ∧ l = 0 := fun q => by
    unfold rowOk at hr
    rw [if_pos q] at hr
    have := of_decide_eq_true hr
    exact ⟨this.1, this.2.2⟩
  have h4 : s = 3 → 1 ≤ h ∧ h ≤ 281474976710655 ∧ l = 0 := fun q => by
    unfold rowOk at hr
    rw [if_neg (by omega), if_pos q] at hr
    simp only [Bool.and_eq_true, beq_iff_eq] at hr
    have := of_decide_eq_true hr.1
    exact ⟨this.1, this.2, hr.2⟩
  have hc : (s = 1 ∨ s = 2 ∨ s = 4) ∨ (s = 0 ∨ s = 5 ∨ s = 6) ∨ s = 3 := by omega
  have hhl : (0 ≤ h ∧ h ≤ 281474976710655) ∧ (0 ≤ l ∧ l ≤ P - 1) := by
    rcases hc with q | q | q
    · have := h2 q; omega
    · have := h3 q; omega
    · have := h4 q; omega
  exact ⟨h1, hhl.1, hhl.2, (fun q => by cases q), (fun q => (h2 q).1)⟩
/-- The two books at first. -/
theorem two_first {w w1 : World} {gb gk gr gl : Nat} {P : Int} {v : Value} {bs : List Bk} {cur last : Int} {len B0 : Nat} (hp : 4 ≤ P ∧ P ≤ 256) (hm : MayF P bs) (hl : bs.length = len) (hln : 8 ≤ len ∧ len ≤ 4096) (hc : -1 ≤ cur ∧ cur < len) (K : BookAt w1 gb gk P (bs.map Bk.ent) cur last (-1)) (R : RefAt w1 B0 gr gl P v bs (List.replicate len false) cur last (-1)) (hB : w.heap.size ≤ B0) (h1 : w.heap.size ≤ gb) (h2 : w.heap.size ≤ gk) : ∃ g c, Two w1 w.heap.size gb gk gr gl g c P (bs.map Bk.ent) cur last none := by
  have R2 : RefAt w1 B0 gr gl P v ((bs.map Bk.ent).map Ent.bk) ((bs.map Bk.ent).map Ent.left) cur last (-1) := by
    rw [ent_bk, ent_left, hl]
    exact R
  obtain ⟨g, c, hr, hg⟩ := R2.refB (by rw [List.length_map]; omega)
  have hb := R.base
  exact ⟨g, c, K, hr, first_ok hp hm, by rw [List.length_map]; omega, by rw [List.length_map]; omega, (fun a ha => by cases ha), (fun a ha => by cases ha), by omega, by omega, by omega, by omega, by omega⟩

set_option maxRecDepth 100000 in
theorem playsBad (b P s3 : Int) (a : Option Addr) (len cap : Nat) (bs : List Bk) (cur last : Int) (ao : Option Addr) (lo co : Nat) (os : List Opn) (w : World) (hr : ReadsK w a len bs) (hl : len * 32 ≤ 140737488351232) (h : newE b P s3 len cur last bs ≠ 0) :
    Calls Try.prog 6 #[.agg #[.int .i64 b, .int .i64 P, .int .i64 s3], .slice a len cap, .int .i64 cur, .int .i64 last, .slice ao lo co] w fun e w' => e = .returned (.bool true) ∧ Below w.heap.size w w' := by
  have HR : Hid (ReadsK w a len bs) := hr
  have HE : Hid (newE b P s3 len cur last bs ≠ 0) := h
  clear hr h
  go_enter Try.func6, Try.ntmps6
  go_wp2_with (first | (go_at_call 8; refine (begun_bad b P s3 a len cap cur last bs _ (HR.out.below (ba (Below.refl _ _))) hl HE.out).mono ?_; rintro e u1 ⟨rfl, q1⟩; have Q1 : Hid (Below w.heap.size w u1) := (ba (Below.refl _ _)).trans (q1.mono (by simp)); clear q1))
  go_ret
  exact ⟨rfl, Q1.out⟩

set_option maxHeartbeats 8000000 in
set_option maxRecDepth 100000 in
theorem playsOk (b P s3 : Int) (a : Option Addr) (len cap : Nat) (bs : List Bk) (cur last : Int) (ao : Option Addr) (lo co : Nat) (os : List Opn) (w : World) (hr : ReadsK w a len bs) (hl : len * 32 ≤ 140737488351232) (hro : ReadsO w ao lo os) (hlo : lo * 32 ≤ 140737488351232) (h : newE b P s3 len cur last bs = 0) :
    Calls Try.prog 6 #[.agg #[.int .i64 b, .int .i64 P, .int .i64 s3], .slice a len cap, .int .i64 cur, .int .i64 last, .slice ao lo co] w fun e w' => e = .returned (.bool true) ∧ Below w.heap.size w w' := by
  obtain ⟨f1, f2, f3, f4, f5⟩ := newE_ok h
  subst f2
  have q3 := of_decide_eq_true f3
  have hb9 := fits_b f1
  have hp : 4 ≤ P ∧ P ≤ 256 := by omega
  have hbl := hr.1
  have hln : 8 ≤ len ∧ len ≤ 4096 := by omega
  have HM : Hid (MayF P bs) := may_facts f5
  have HR : Hid (ReadsK w a len bs) := hr
  have HRO : Hid (ReadsO w ao lo os) := hro
  have HE : Hid (newE len P s3 len cur last bs = 0) := h
  clear hr h f1 f3 f4 f5 hb9 hro
  go_enter Try.func6, Try.ntmps6
  go_wp2_with (first
    | (go_at_call 8; refine (begun_ok len P s3 a len cap cur last bs _ (HR.out.below (ba (Below.refl _ _))) hl HE.out).mono ?_; rintro e u1 ⟨gb, gk, gr, gl, v, rfl, K1, R1, q1, k1, k2⟩; obtain ⟨g, c, T1⟩ := two_first (w := w) hp HM.out hbl hln q3 K1 R1 (by simp) (by simp at k1; omega) (by simp at k2; omega); have HT1 : Hid (Two u1 w.heap.size gb gk gr gl g c P (bs.map Bk.ent) cur last none) := T1; have Q1 : Hid (Below w.heap.size w u1) := (ba (Below.refl _ _)).trans (q1.mono (by simp)); clear q1 k1 k2 K1 R1 T1)
    | (go_at_call 29; refine (alike_any _ gb gk gr gl g c P _ cur last none _ HT1.out hp).mono ?_; rintro e u2 ⟨rfl, q2⟩; have N2 : Hid (NextT w u2 w.heap.size gb gk gr gl g c P) := next_below HT1.out Q1.out Q1.out.size q2; clear q2))
  go_loopw [14] (fun s14 wr => ∃ k : Nat, k ≤ lo ∧ s14 = .int .i64 k ∧ Hid (NextT w wr w.heap.size gb gk gr gl g c P))
    (fun i _ => lo - (intOf i).toNat)
  case atStart => exact ⟨0, Nat.zero_le _, rfl, N2⟩
  case round =>
    obtain ⟨k, hk, rfl, HN⟩ := hrel
    obtain ⟨hB, hbw, es, cu, la, vo, hT⟩ := HN.out
    have HT : Hid _ := hT
    have HBW : Hid _ := hbw
    by_cases hlt : k < lo
    · obtain ⟨go, off, rfl, hg, hcell⟩ := HRO.out.pos (by omega)
      have hok := okAtO HRO.out.2.1 k (by have := HRO.out.1; omega)
      have hc9 := hcell k hlt
      obtain ⟨X, hX⟩ : ∃ X, os.getD k Opn.zero = X := ⟨_, rfl⟩
      rw [hX] at hc9 hok
      obtain ⟨kd, ob, om, oh⟩ := X
      obtain ⟨c0, c1, c2, c3⟩ := hc9
      rw [← hbw.cell hg] at c0 c1 c2 c3
      simp only at c0 c1 c2 c3
      have HMO : Hid (Wf om) := hok.m
      have HHO : Hid (0 ≤ oh) := hok.h.1
      have dk : (k : Int) < lo := by omega
      clear hcell hX hok hT hbw
      go_wp2_with (first
        | (go_at_call 30; refine (do_any w _ gb gk gr gl g c P es cu la vo _ HT.out HBW.out hB hp kd ob om oh HMO.out HHO.out).mono ?_; rintro e t1 ⟨rfl, n1⟩; obtain ⟨hB1, hb1, es1, cu1, la1, vo1, hT1⟩ := n1; have HT9 : Hid (Two t1 w.heap.size gb gk gr gl g c P es1 cu1 la1 vo1) := hT1; have HB9 : Hid (Below w.heap.size w t1) := hb1; clear hb1 hT1)
        | (go_at_call 29; refine (alike_any _ gb gk gr gl g c P es1 cu1 la1 vo1 _ HT9.out hp).mono ?_; rintro e t2 ⟨rfl, q2⟩; have N9 : Hid (NextT w t2 w.heap.size gb gk gr gl g c P) := next_below HT9.out HB9.out HB9.out.size q2; clear q2))
      go_roundw
      case rel => exact ⟨k + 1, by omega, by go_num, N9⟩
      case measure => simp [intOf]; omega
    · have hkn : k = lo := by omega
      subst hkn
      go_wp2
      go_ret
      exact ⟨rfl, hbw⟩
end Go.Proofs.Ytgijbpkfheillaa
