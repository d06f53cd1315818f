/-
  SEAT Ytgijbpkfheillaa: the reference's calls that write.
-/
import Derived.Test.YtgijbpkfheillaaPlC
namespace Go.Proofs.Ytgijbpkfheillaa
open Go.RowKit
set_option linter.unusedVariables false

theorem flatK1 (v : Value) (j : Nat) (hj : j < 4) (f : Bk → Bk) (hf : ∀ b, ([Value.int .i64 b.s, .int .u64 b.h, .bool b.r, .int .i64 b.l] : List Value).set j v = [.int .i64 (f b).s, .int .u64 (f b).h, .bool (f b).r, .int .i64 (f b).l]) : ∀ (bs : List Bk) (i : Nat), i < bs.length → (flatK bs).set (i * 4 + j) v = flatK (bs.set i (f (bs.getD i Bk.zero)))
  | [], i, h => absurd h (Nat.not_lt_zero _)
  | e :: es, 0, _ => by
    have h1 := hf e
    have e2 : flatK (e :: es) = ([Value.int .i64 e.s, .int .u64 e.h, .bool e.r, .int .i64 e.l] : List Value) ++ flatK es := by simp [flatK, Bk.cells]
    have e3 : flatK ((e :: es).set 0 (f ((e :: es).getD 0 Bk.zero))) = ([Value.int .i64 (f e).s, .int .u64 (f e).h, .bool (f e).r, .int .i64 (f e).l] : List Value) ++ flatK es := by simp [flatK, Bk.cells]
    rw [e2, e3, Nat.zero_mul, Nat.zero_add, List.set_append_left _ _ (by simpa using hj), h1]
  | e :: es, i + 1, h => by
    have := flatK1 v j hj f hf es i (by simpa using h)
    have e1 : (i + 1) * 4 + j = i * 4 + j + 4 := by omega
    have e2 : flatK (e :: es) = .int .i64 e.s :: .int .u64 e.h :: .bool e.r :: .int .i64 e.l :: flatK es := by simp [flatK, Bk.cells]
    have e3 : flatK ((e :: es).set (i + 1) (f ((e :: es).getD (i + 1) Bk.zero))) = .int .i64 e.s :: .int .u64 e.h :: .bool e.r :: .int .i64 e.l :: flatK (es.set i (f (es.getD i Bk.zero))) := by simp [flatK, Bk.cells]
    rw [e1, e2, e3]
    simp only [List.set_cons_succ]
    rw [this]
theorem flatK_ent (es : List Ent) (i : Nat) (hi : i < es.length) (v : Value) (j : Nat) (hj : j < 4) (f : Bk → Bk) (hf : ∀ b, ([Value.int .i64 b.s, .int .u64 b.h, .bool b.r, .int .i64 b.l] : List Value).set j v = [.int .i64 (f b).s, .int .u64 (f b).h, .bool (f b).r, .int .i64 (f b).l]) (x : Ent) (hx : x.bk = f (es.getD i Ent.zero).bk) : (flatK (es.map Ent.bk)).set (i * 4 + j) v = flatK ((es.set i x).map Ent.bk) := by
  rw [flatK1 v j hj f hf _ i (by simpa using hi), List.map_set, hx, bkD' es i hi]
section
variable {w : World} {gr gl g c : Nat} {P : Int} {es : List Ent} {cur last vic : Int}
theorem RefB.setS (h : RefB w gr gl g c P es cur last vic) (i : Nat) (hi : i < es.length) (s : Int) : RefB (w.setCell ⟨g, i * 4, none⟩ (.int .i64 s)) gr gl g c P (es.set i { es.getD i Ent.zero with s := s }) cur last vic :=
  h.set1 i 0 hi (by omega) _ _ rfl (flatK_ent es i hi _ 0 (by omega) (fun b => { b with s := s }) (fun b => rfl) _ rfl)
theorem RefB.setR (h : RefB w gr gl g c P es cur last vic) (i : Nat) (hi : i < es.length) (r : Bool) : RefB (w.setCell ⟨g, i * 4 + 2, none⟩ (.bool r)) gr gl g c P (es.set i { es.getD i Ent.zero with r := r }) cur last vic :=
  h.set1 i 2 hi (by omega) _ _ rfl (flatK_ent es i hi _ 2 (by omega) (fun b => { b with r := r }) (fun b => rfl) _ rfl)
theorem RefB.setL (h : RefB w gr gl g c P es cur last vic) (i : Nat) (hi : i < es.length) (l : Int) : RefB (w.setCell ⟨g, i * 4 + 3, none⟩ (.int .i64 l)) gr gl g c P (es.set i { es.getD i Ent.zero with l := l }) cur last vic :=
  h.set1 i 3 hi (by omega) _ _ rfl (flatK_ent es i hi _ 3 (by omega) (fun b => { b with l := l }) (fun b => rfl) _ rfl)
theorem RefB.setH (h : RefB w gr gl g c P es cur last vic) (i : Nat) (hi : i < es.length) (hd : Int) : RefB (w.setCell ⟨g, i * 4 + 1, none⟩ (.int .u64 hd)) gr gl g c P (es.set i { es.getD i Ent.zero with h := hd }) cur last vic :=
  h.set1 i 1 hi (by omega) _ _ rfl (flatK_ent es i hi _ 1 (by omega) (fun b => { b with h := hd }) (fun b => rfl) _ rfl)
theorem RefB.put4 (h : RefB w gr gl g c P es cur last vic) (i : Nat) (hi : i < es.length) (s hd : Int) (r : Bool) (l : Int) :
    RefB ((((w.setCell ⟨g, i * 4, none⟩ (.int .i64 s)).setCell ⟨g, i * 4 + 1, none⟩ (.int .u64 hd)).setCell ⟨g, i * 4 + 2, none⟩ (.bool r)).setCell ⟨g, i * 4 + 3, none⟩ (.int .i64 l)) gr gl g c P (es.set i ⟨s, hd, r, l, (es.getD i Ent.zero).left⟩) cur last vic := by
  have h1 := h.setS i hi s
  have h2 := h1.setH i (by simpa using hi) hd
  rw [List.set_set, getD_set_same _ _ _ hi] at h2
  have h3 := h2.setR i (by simpa using hi) r
  rw [List.set_set, getD_set_same _ _ _ hi] at h3
  have h4 := h3.setL i (by simpa using hi) l
  rw [List.set_set, getD_set_same _ _ _ hi] at h4
  exact h4
end
/-- Only the book's own three blocks are written. -/
structure RGrew (w w' : World) (gr gl g : Nat) : Prop where
  os : w'.os = w.os
  tape : w'.tape = w.tape
  output : w'.output = w.output
  size : w.heap.size ≤ w'.heap.size
  block : ∀ k, k < w.heap.size → k ≠ gr → k ≠ gl → k ≠ g → w'.heap[k]? = w.heap[k]?
section
variable {a b d : World} {gr gl g : Nat}
theorem RGrew.refl (a : World) (gr gl g : Nat) : RGrew a a gr gl g := ⟨rfl, rfl, rfl, Nat.le_refl _, fun _ _ _ _ _ => rfl⟩
theorem RGrew.trans (h : RGrew a b gr gl g) (k : RGrew b d gr gl g) : RGrew a d gr gl g :=
  ⟨k.os.trans h.os, k.tape.trans h.tape, k.output.trans h.output, Nat.le_trans h.size k.size, fun i hi h1 h2 h3 => (k.block i (Nat.lt_of_lt_of_le hi h.size) h1 h2 h3).trans (h.block i hi h1 h2 h3)⟩
theorem RGrew.of {row : Option Nat} (h : a.grownBy b row) (hr : row = none ∨ row = some gr ∨ row = some gl ∨ row = some g) : RGrew a b gr gl g :=
  ⟨h.os, h.tape, h.output, h.size, fun k hk h1 h2 h3 => h.block k hk (fun e => by
    rcases hr with q | q | q | q <;> rw [q] at e <;> simp at e
    · exact h1 e
    · exact h2 e
    · exact h3 e)⟩
theorem RGrew.ofB (h : Below a.heap.size a b) : RGrew a b gr gl g := RGrew.of (grown_of h none) (Or.inl rfl)
theorem RGrew.below {w : World} {B : Nat} (h : Below B w a) (hB : B ≤ a.heap.size) (k : RGrew a b gr gl g) (h1 : B ≤ gr) (h2 : B ≤ gl) (h3 : B ≤ g) : Below B w b :=
  ⟨k.os.trans h.os, k.tape.trans h.tape, k.output.trans h.output, Nat.le_trans h.size k.size, fun j hj => (k.block j (by omega) (by omega) (by omega) (by omega)).trans (h.block j hj)⟩
end

set_option maxHeartbeats 1000000 in
theorem remptied_any (gr gl g c : Nat) (P : Int) (es : List Ent) (cur last vic : Int) (i : Nat) (w : World) (h : RefB w gr gl g c P es cur last vic) (hi : i < es.length) (hn : es.length ≤ 5000) :
    Calls Try.prog 74 #[.pointer (some ⟨gr, 0, none⟩), .int .i64 i] w fun e w' => e = .returned (.tuple #[]) ∧ RefB w' gr gl g c P (es.set i ⟨if (i : Int) = last then 5 else 0, 0, false, 0, (es.getD i Ent.zero).left⟩) cur last vic ∧ RGrew w w' gr gl g := by
  obtain ⟨c0, c1, c2, c3, c4, c5⟩ := h.cells
  obtain ⟨e0, e1, e2, e3⟩ := h.entry i hi
  obtain ⟨_, _, f0⟩ := h.free (i * 4)
  obtain ⟨_, _, f1⟩ := h.free (i * 4 + 1)
  obtain ⟨_, _, f2⟩ := h.free (i * 4 + 2)
  obtain ⟨_, _, f3⟩ := h.free (i * 4 + 3)
  have d1 : (i : Int) < es.length := by omega
  have hp5 := h.put4 i hi 5 0 false 0
  have hp0 := h.put4 i hi 0 0 false 0
  obtain ⟨L, hL⟩ : ∃ L, (es.getD i Ent.zero).left = L := ⟨_, rfl⟩
  rw [hL] at hp5 hp0 ⊢
  have HP5 : Hid _ := hp5
  have HP0 : Hid _ := hp0
  clear hp5 hp0 hL
  by_cases il : (i : Int) = last
  · have ilb : ((i : Int) == last) = true := by simpa using il
    have HIL : Hid _ := il
    clear h il
    go_enter Try.func74, Try.ntmps74
    go_wp2
    go_end0
    exact ⟨rfl, by first | exact HP5.out | (rw [if_pos HIL.out]; exact HP5.out), RGrew.of (over_grown _ g _ _ _ _ _ _ _ _) (by simp)⟩
  · have ilb : ((i : Int) == last) = false := by simpa using il
    clear h
    go_enter Try.func74, Try.ntmps74
    go_wp2
    go_end0
    exact ⟨rfl, by first | exact HP0.out | (rw [if_neg il]; exact HP0.out), RGrew.of (over_grown _ g _ _ _ _ _ _ _ _) (by simp)⟩
set_option maxHeartbeats 1000000 in
theorem rdone_any (gr gl g c : Nat) (P : Int) (es : List Ent) (cur last vic : Int) (i : Nat) (w : World) (h : RefB w gr gl g c P es cur last vic) (hi : i < es.length) (hn : es.length ≤ 5000) :
    Calls Try.prog 65 #[.pointer (some ⟨gr, 0, none⟩), .int .i64 i] w fun e w' => e = .returned (.bool (doneE (es.getD i Ent.zero) && decide ((i : Int) ≠ last))) ∧ Below w.heap.size w w' := by
  obtain ⟨c0, c1, c2, c3, c4, c5⟩ := h.cells
  obtain ⟨e0, e1, e2, e3⟩ := h.entry i hi
  have y0 := h.leftC i hi
  have d1 : (i : Int) < es.length := by omega
  obtain ⟨X, hX⟩ : ∃ X, es.getD i Ent.zero = X := ⟨_, rfl⟩
  rw [hX] at e0 e1 e2 e3 y0 ⊢
  obtain ⟨s, hd, r, l, lf⟩ := X
  simp only at e0 e1 e2 e3 y0
  have HA : Hid (Below w.heap.size w (w.alloc (.cells #[.int .i64 s, .int .u64 hd, .bool r, .int .i64 l] 34))) := ba (Below.refl _ _)
  obtain ⟨k0, k1, k2, k3, k4, k5⟩ := (h.below HA.out).cells
  have z0 := (h.below HA.out).leftC i hi
  rw [hX] at z0
  simp only at z0
  unfold doneE
  simp only
  clear h hX
  by_cases s4 : s = 4
  · subst s4
    by_cases il : (i : Int) = last
    · have ilb : ((i : Int) != last) = false := by simpa using il
      have HIL : Hid _ := il
      clear il
      go_enter Try.func65, Try.ntmps65
      go_wp2
      go_ret
      exact ⟨ret_bool (by simp [HIL.out]), HA.out⟩
    · have ilb : ((i : Int) != last) = true := by simpa using il
      cases lf with
      | true =>
        go_enter Try.func65, Try.ntmps65
        go_wp2
        go_ret
        exact ⟨ret_bool (by simp [doneB, il]), HA.out⟩
      | false =>
        cases r with
        | true =>
          go_enter Try.func65, Try.ntmps65
          go_wp2
          go_ret
          exact ⟨ret_bool (by simp [doneB, hollowB]), HA.out⟩
        | false =>
          go_enter Try.func65, Try.ntmps65
          go_wp2
          go_ret
          exact ⟨ret_bool (by simp [doneB, hollowB, il]), HA.out⟩
  · have s4b : (s == 4) = false := by simpa using s4
    go_enter Try.func65, Try.ntmps65
    go_wp2
    go_ret
    exact ⟨ret_bool (by simp [doneB, s4]), HA.out⟩
set_option maxHeartbeats 1000000 in
theorem rreal_any (gr gl g c : Nat) (P : Int) (es : List Ent) (cur last vic : Int) (w : World) (h : RefB w gr gl g c P es cur last vic) (hn : es.length ≤ 5000) :
    Calls Try.prog 57 #[.pointer (some ⟨gr, 0, none⟩)] w fun e w' => match openF es es.length with
      | none => e = .returned (.int .i64 110) ∧ w = w'
      | some o => e = .returned (.int .i64 0) ∧ RefB w' gr gl g c P (es.set o { es.getD o Ent.zero with r := true }) cur last vic ∧ RGrew w w' gr gl g := by
  have HB : Hid (RefB w gr gl g c P es cur last vic) := h
  obtain ⟨c0, c1, c2, c3, c4, c5⟩ := h.cells
  clear h
  cases ho : openF es es.length with
  | none =>
    have HV : Hid _ := openV_none ho
    clear ho
    go_enter Try.func57, Try.ntmps57
    go_wp2_with (first | (go_at_call 51; refine (ropen_any gr gl g c P es cur last vic _ HB.out hn).mono ?_; rintro e t1 ⟨rfl, rfl⟩; rw [HV.out]))
    go_ret
    exact ⟨rfl, rfl⟩
  | some o =>
    have HV : Hid _ := openV_some ho
    obtain ⟨hol, _⟩ := openF_some ho
    have d1 : (o : Int) < es.length := by omega
    obtain ⟨m0, m1, m2, m3⟩ := HB.out.entry o hol
    obtain ⟨_, _, f2⟩ := HB.out.free (o * 4 + 2)
    have HP : Hid _ := HB.out.setR o hol true
    clear ho
    go_enter Try.func57, Try.ntmps57
    go_wp2_with (first | (go_at_call 51; refine (ropen_any gr gl g c P es cur last vic _ HB.out hn).mono ?_; rintro e t1 ⟨rfl, rfl⟩; rw [HV.out]))
    go_ret
    exact ⟨rfl, HP.out, RGrew.of (grown_set _ g _ _) (by simp)⟩
set_option maxHeartbeats 1000000 in
theorem rwait_any (gr gl g c : Nat) (P : Int) (es : List Ent) (cur last vic : Int) (w : World) (h : RefB w gr gl g c P es cur last vic) (hn : es.length ≤ 5000) :
    Calls Try.prog 60 #[.pointer (some ⟨gr, 0, none⟩)] w fun e w' => match openF es es.length with
      | none => e = .returned (.int .i64 110) ∧ w = w'
      | some o => e = .returned (.int .i64 0) ∧ RefB w' gr gl g c P (es.set o { es.getD o Ent.zero with s := 4 }) cur last vic ∧ RGrew w w' gr gl g := by
  have HB : Hid (RefB w gr gl g c P es cur last vic) := h
  obtain ⟨c0, c1, c2, c3, c4, c5⟩ := h.cells
  clear h
  cases ho : openF es es.length with
  | none =>
    have HV : Hid _ := openV_none ho
    clear ho
    go_enter Try.func60, Try.ntmps60
    go_wp2_with (first | (go_at_call 51; refine (ropen_any gr gl g c P es cur last vic _ HB.out hn).mono ?_; rintro e t1 ⟨rfl, rfl⟩; rw [HV.out]))
    go_ret
    exact ⟨rfl, rfl⟩
  | some o =>
    have HV : Hid _ := openV_some ho
    obtain ⟨hol, _⟩ := openF_some ho
    have d1 : (o : Int) < es.length := by omega
    obtain ⟨m0, m1, m2, m3⟩ := HB.out.entry o hol
    obtain ⟨_, _, f2⟩ := HB.out.free (o * 4)
    have HP : Hid _ := HB.out.setS o hol 4
    clear ho
    go_enter Try.func60, Try.ntmps60
    go_wp2_with (first | (go_at_call 51; refine (ropen_any gr gl g c P es cur last vic _ HB.out hn).mono ?_; rintro e t1 ⟨rfl, rfl⟩; rw [HV.out]))
    go_ret
    exact ⟨rfl, HP.out, RGrew.of (grown_set _ g _ _) (by simp)⟩
/-- Shut and Live of the reference, when nothing is left in a block. -/
def rsettleE (es : List Ent) (last : Int) (i : Nat) : List Ent :=
  if hollowB (es.getD i Ent.zero).r (es.getD i Ent.zero).l = true then es.set i ⟨if (i : Int) = last then 5 else 0, 0, false, 0, (es.getD i Ent.zero).left⟩ else es
set_option maxHeartbeats 1000000 in
theorem rshut_any (gr gl g c : Nat) (P : Int) (es : List Ent) (cur last vic : Int) (w : World) (h : RefB w gr gl g c P es cur last vic) (hn : es.length ≤ 5000) :
    Calls Try.prog 59 #[.pointer (some ⟨gr, 0, none⟩)] w fun e w' => match openF es es.length with
      | none => e = .returned (.int .i64 110) ∧ w = w'
      | some o => e = .returned (.int .i64 0) ∧ RefB w' gr gl g c P (rsettleE (es.set o { es.getD o Ent.zero with s := 1 }) last o) cur last vic ∧ RGrew w w' gr gl g := by
  have HB : Hid (RefB w gr gl g c P es cur last vic) := h
  obtain ⟨c0, c1, c2, c3, c4, c5⟩ := h.cells
  clear h
  cases ho : openF es es.length with
  | none =>
    have HV : Hid _ := openV_none ho
    clear ho
    go_enter Try.func59, Try.ntmps59
    go_wp2_with (first | (go_at_call 51; refine (ropen_any gr gl g c P es cur last vic _ HB.out hn).mono ?_; rintro e t1 ⟨rfl, rfl⟩; rw [HV.out]))
    go_ret
    exact ⟨rfl, rfl⟩
  | some o =>
    have HV : Hid _ := openV_some ho
    obtain ⟨hol, _⟩ := openF_some ho
    have d1 : (o : Int) < es.length := by omega
    obtain ⟨m0, m1, m2, m3⟩ := HB.out.entry o hol
    obtain ⟨_, _, f2⟩ := HB.out.free (o * 4)
    have hP := HB.out.setS o hol 1
    have HP : Hid _ := hP
    obtain ⟨j0, j1, j2, j3, j4, j5⟩ := hP.cells
    rw [List.length_set] at j1 j2
    have hne := HB.out.ne
    have ng : ¬ (g = gr) := fun e => hne.2.1 e.symm
    obtain ⟨r, hr⟩ : ∃ r, (es.getD o Ent.zero).r = r := ⟨_, rfl⟩
    obtain ⟨l, hl⟩ : ∃ l, (es.getD o Ent.zero).l = l := ⟨_, rfl⟩
    rw [hr] at m2
    rw [hl] at m3
    have HRS : Hid (rsettleE (es.set o { es.getD o Ent.zero with s := 1 }) last o = if hollowB r l = true then (es.set o { es.getD o Ent.zero with s := 1 }).set o ⟨if (o : Int) = last then 5 else 0, 0, false, 0, ((es.set o { es.getD o Ent.zero with s := 1 }).getD o Ent.zero).left⟩ else es.set o { es.getD o Ent.zero with s := 1 }) := by
      unfold Hid rsettleE
      rw [getD_set_same _ _ _ hol]
      simp only
      rw [hr, hl]
    clear ho hP hr hl
    cases r with
    | true =>
      go_enter Try.func59, Try.ntmps59
      go_wp2_with (first | (go_at_call 51; refine (ropen_any gr gl g c P es cur last vic _ HB.out hn).mono ?_; rintro e t1 ⟨rfl, rfl⟩; rw [HV.out]))
      go_ret
      exact ⟨rfl, by rw [HRS.out, if_neg (by simp [hollowB])]; exact HP.out, RGrew.of (grown_set _ g _ _) (by simp)⟩
    | false =>
      by_cases l0 : l = 0
      · subst l0
        go_enter Try.func59, Try.ntmps59
        go_wp2_with (first | (go_at_call 51; refine (ropen_any gr gl g c P es cur last vic _ HB.out hn).mono ?_; rintro e t1 ⟨rfl, rfl⟩; rw [HV.out]) | (go_at_call 74; refine (remptied_any gr gl g c P _ cur last vic o _ HP.out (by simpa using hol) (by simpa using hn)).mono ?_; rintro e t2 ⟨rfl, b2, g2⟩; have B2 : Hid _ := b2; have G2 : Hid _ := g2; clear b2 g2))
        go_ret
        exact ⟨rfl, by rw [HRS.out, if_pos (show hollowB false 0 = true from rfl)]; exact B2.out, (RGrew.of (grown_set _ g _ _) (by simp)).trans G2.out⟩
      · have l0b : (l == 0) = false := by simpa using l0
        go_enter Try.func59, Try.ntmps59
        go_wp2_with (first | (go_at_call 51; refine (ropen_any gr gl g c P es cur last vic _ HB.out hn).mono ?_; rintro e t1 ⟨rfl, rfl⟩; rw [HV.out]))
        go_ret
        exact ⟨rfl, by rw [HRS.out, if_neg (by simp [hollowB, l0])]; exact HP.out, RGrew.of (grown_set _ g _ _) (by simp)⟩
end Go.Proofs.Ytgijbpkfheillaa
