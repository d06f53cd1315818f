/-
  SEAT YtdiifegljonojaaGreatDoor: Join, Clean.
-/
import Derived.Test.YtdiifegljonojaaGreatDoorQE
import Derived.Test.YtdiifegljonojaaGreatDoorQPj
namespace Go.Proofs.YtdiifegljonojaaGreatDoor.Pt
open Go.RowKit
set_option linter.unusedVariables false

/-- A name that may not stand in a path. -/
def badB (x : ByteArray) : Bool := !upB x && !Good x

set_option maxHeartbeats 1000000 in
theorem mayNot_any (x : ByteArray) (w : World) (hs : x.size ≤ 9223372036854775807) : Calls Tryz.prog 79 #[.string x] w fun e w' => e = .returned (.bool (badB x)) ∧ w' = w := by
  cases hu : upB x with
  | true =>
    have hl : x.toList = [46, 46] := (up_list x).1 hu
    have hb : badB x = false := by simp [badB, hu]
    rw [hb]
    go_enter Tryz.func79, Tryz.ntmps79
    go_wp2
    go_ret
    exact ⟨rfl, rfl⟩
  | false =>
    have hl : ¬ x.toList = [46, 46] := fun e => by rw [(up_list x).2 e] at hu; cases hu
    have hl2 : (x.toList == [46, 46]) = false := by simp [hl]
    have hb : badB x = (nameE x != 0) := by simp only [badB, hu, nameE]; cases Good x <;> simp
    rw [hb]
    obtain ⟨n, hn⟩ : ∃ n, nameE x = n := ⟨_, rfl⟩
    rw [hn]
    go_enter Tryz.func79, Tryz.ntmps79
    go_wp2_with (go_at_call 97; refine (name_any _ _ hs).mono ?_; rintro e u ⟨rfl, hu⟩; rw [hu, hn]; clear hu)
    go_ret
    exact ⟨ret_bool (by simp), rfl⟩
abbrev Sized : Type := { x : ByteArray // x.size ≤ 9223372036854775807 }
instance : Inhabited Sized := ⟨⟨ByteArray.empty, Nat.zero_le _⟩⟩
theorem enter47 : ∀ args w, (callFunc 79 args).run Tryz.prog w = .ok (.enter 79 args) w := enters_of Tryz.func79 (by kernel_rfl) rfl
theorem gives47 (x : Sized) (W : World) : FnGives Tryz.prog 79 #[] #[.string x.1] (.bool (badB x.1)) W :=
  (mayNot_any x.1 W x.2).mono fun e w' ⟨he, hw⟩ => ⟨he, 0, by rw [hw]; rfl⟩

theorem bad_any (v : Value) (xs : List ByteArray) (w : World) (h : Vw w v xs) (hb : ∀ x ∈ xs, x.size ≤ 9223372036854775807) :
    Calls Tryz.prog 64 #[v, .func (.func 79) #[] #[]] w fun e w' => e = .returned (.bool (xs.any badB)) ∧ ∃ q, w' = w.drewN q := by
  obtain ⟨a, c, rfl, h1, h2, rd, hx⟩ := h
  have hm : xs.length ≤ 9223372036854775807 := by unfold maxLen at h2; omega
  cases a with
  | none =>
    have h0 := rd.nil rfl
    have : xs = [] := List.eq_nil_of_length_eq_zero h0
    subst this
    exact (Tryz.slices_ContainsFunc_empty (α := ByteArray) none c _ w).mono fun e w' ⟨he, hw⟩ => ⟨he, 0, by rw [hw]; rfl⟩
  | some x =>
    obtain ⟨b, o, rfl⟩ := hx x rfl
    obtain ⟨ys, hys⟩ : ∃ ys : List Sized, ys.map Subtype.val = xs := ⟨xs.attach.map fun x => ⟨x.1, hb x.1 x.2⟩, by rw [List.map_map]; simp [Function.comp_def]⟩
    have hl : ys.length = xs.length := by rw [← hys, List.length_map]
    have h := Tryz.slices_ContainsFunc (α := Sized) (fun y => Value.string y.1) (fun y => badB y.1) 79 #[] enter47 b o xs.length c ys w (fun W x _ => gives47 x W) (by omega) hm (fun j hj => by
      rw [← add_zero, rd.cell _ rfl j (ys[j]!).1 (by rw [← hys, List.getElem?_map, List.getElem?_eq_getElem hj, getElem!_pos ys j hj]; rfl)])
    rw [← hl, List.take_length] at h
    have e : xs.any badB = ys.any (fun y => badB y.1) := by rw [← hys, List.any_map]; rfl
    rw [e, ← hl]
    exact h

/-- What Join tells. -/
def joE (xs : List ByteArray) : Int := if xs.any badB then 81 else if 64 < xs.length then 161 else if 1023 < (tg xs).size then 161 else 0
def joS (xs : List ByteArray) : ByteArray := if joE xs = 0 then tg xs else ByteArray.empty

theorem notBad_size {x : ByteArray} (h : badB x = false) : x.size ≤ 63 := by
  unfold badB at h
  cases hu : upB x with
  | true =>
    have := of_decide_eq_true hu
    rw [Lib.size_eq, this]; decide
  | false =>
    rw [hu] at h
    have hg : Good x = true := by simpa using h
    unfold Good at hg
    simp only [Bool.and_eq_true, decide_eq_true_eq] at hg
    exact hg.1.1.1.1.2
theorem sum_le {xs : List ByteArray} (h : ∀ x ∈ xs, x.size ≤ 63) : (xs.map fun x => x.size + 1).sum ≤ 64 * xs.length := by
  induction xs with
  | nil => exact Nat.le_refl _
  | cons x r ih =>
    have h1 := h x (List.mem_cons_self ..)
    have h2 := ih (fun y hy => h y (List.mem_cons_of_mem _ hy))
    simp only [List.map_cons, List.sum_cons, List.length_cons]; omega
theorem tg_small {xs : List ByteArray} (hb : xs.any badB = false) (hl : xs.length ≤ 64) : (tg xs).size ≤ 4096 := by
  have h : ∀ x ∈ xs, x.size ≤ 63 := fun x hx => notBad_size (by
    cases hc : badB x with
    | false => rfl
    | true => rw [List.any_eq_true.2 ⟨x, hx, hc⟩] at hb; cases hb)
  have := sum_le h
  rw [tg_size]
  split
  · omega
  · omega

theorem pjoin_any (v : Value) (xs : List ByteArray) (w : World) (h : Vw w v xs) (hb : xs.any badB = false) (hl : xs.length ≤ 64) :
    Calls Tryz.prog 80 #[v, .string ⟨#[47]⟩] w fun e w' => e = .returned (.string (byteOf (Lib.join (xs.map (·.data.toList)) [47]))) ∧ Below w.heap.size w w' := by
  obtain ⟨a, c, rfl, h1, h2, rd, hx⟩ := h
  by_cases h0 : xs.length = 0
  · have : xs = [] := List.eq_nil_of_length_eq_zero h0
    subst this
    exact (Tryz.strings_Join_none a c _ w).mono fun e w' ⟨he, hw⟩ => ⟨by rw [he]; rfl, by rw [hw]; exact Below.refl _ _⟩
  · cases a with
    | none => exact absurd (rd.nil rfl) h0
    | some x =>
      obtain ⟨b, o, rfl⟩ := hx x rfl
      have hs := tg_small hb hl
      have hj : (Lib.join (xs.map (·.data.toList)) [47]).length + 1 = (tg xs).size := by
        rw [Lib.size_eq, tg_join]; rfl
      have hc0 := rd.cell _ rfl 0 xs[0] (List.getElem?_eq_getElem (by omega))
      have hblk : b < w.heap.size := by have := World.block_lt_of_cell? _ _ hc0; rw [add_zero] at this; exact this
      exact (Tryz.strings_Join b o c xs ⟨#[47]⟩ w (fun j x hj => by rw [← add_zero]; exact rd.cell _ rfl j x hj) hblk (by omega) h1 (by
        show (Lib.join (xs.map (·.data.toList)) [47]).length ≤ _
        omega)).mono fun e w' ⟨he, hw⟩ => ⟨he, hw⟩

set_option maxHeartbeats 2000000 in
set_option maxRecDepth 100000 in
theorem join_any (v : Value) (xs : List ByteArray) (w : World) (h : Vw w v xs) (hb : ∀ x ∈ xs, x.size ≤ 9223372036854775807) :
    Calls Tryz.prog 58 #[v] w fun e w' => e = .returned (.tuple #[.string (joS xs), .int .i64 (joE xs)]) ∧ Below w.heap.size w w' := by
  have HV : Hid (Vw w v xs) := h
  obtain ⟨a, c, rfl, h1, h2, rd, hx⟩ := h
  clear rd hx
  have BA := bad_any _ xs w HV.out hb
  cases hbad : xs.any badB with
  | true =>
    have hv : joE xs = 81 := by simp [joE, hbad]
    have hn : joS xs = ⟨#[]⟩ := by simp [joS, hv]; rfl
    rw [hv, hn]
    rw [hbad] at BA
    go_enter Tryz.func58, Tryz.ntmps58
    go_wp2_with (go_at_call 64; refine BA.mono ?_; rintro e u ⟨rfl, q, hu⟩; rw [hu]; clear hu)
    go_ret2
    exact ⟨rfl, below_drewN (Below.refl _ _) q⟩
  | false =>
    rw [hbad] at BA
    by_cases hl : 64 < xs.length
    · have hv : joE xs = 161 := by simp [joE, hbad, hl]
      have hn : joS xs = ⟨#[]⟩ := by simp [joS, hv]; rfl
      have d1 : (64 : Int) < (xs.length : Int) := by omega
      rw [hv, hn]
      go_enter Tryz.func58, Tryz.ntmps58
      go_wp2_with (go_at_call 64; refine BA.mono ?_; rintro e u ⟨rfl, q, hu⟩; rw [hu]; clear hu)
      go_ret2
      exact ⟨rfl, below_drewN (Below.refl _ _) q⟩
    · have d1 : ¬ (64 : Int) < (xs.length : Int) := by omega
      have hl' : xs.length ≤ 64 := by omega
      have hs := tg_small hbad hl'
      have ht : (⟨#[47]⟩ : ByteArray) ++ byteOf (Lib.join (xs.map (·.data.toList)) [47]) = tg xs := by
        rw [← byteOf_data (tg xs), tg_join]
        rfl
      obtain ⟨J, hJ⟩ : ∃ J, byteOf (Lib.join (xs.map (·.data.toList)) [47]) = J := ⟨_, rfl⟩
      rw [hJ] at ht
      have hsz : (⟨#[47]⟩ : ByteArray).size + J.size = (tg xs).size := by rw [← ht, ByteArray.size_append]
      have hq : ¬ (9223372036854775807 < (⟨#[47]⟩ : ByteArray).size + J.size) := by omega
      have hvl : joE xs = if 1023 < (tg xs).size then 161 else 0 := by simp [joE, hbad, hl]
      obtain ⟨Tg, hT⟩ : ∃ Tg, tg xs = Tg := ⟨_, rfl⟩
      rw [hT] at hvl ht hs
      have hJs : J.size ≤ 4096 := by rw [hT] at hsz; omega
      have HVd : Hid (∀ q, Vw (w.drewN q) (.slice a xs.length c) xs) := fun q => Vw.below HV.out (below_drewN (Below.refl _ _) q)
      by_cases hl2 : 1023 < Tg.size
      · have hv : joE xs = 161 := by rw [hvl, if_pos hl2]
        have hn : joS xs = ⟨#[]⟩ := by simp [joS, hv]; rfl
        have d2 : (1023 : Int) < (Tg.size : Int) := by omega
        rw [hv, hn]
        clear hvl hsz
        go_enter Tryz.func58, Tryz.ntmps58
        go_wp2_with (first
          | (go_at_call 64; refine BA.mono ?_; rintro e u ⟨rfl, q, hu⟩; rw [hu]; clear hu)
          | (go_at_call 80; refine (pjoin_any _ xs _ (HVd.out q) hbad hl').mono ?_; rintro e u2 ⟨rfl, bel⟩; rw [hJ]; have HB : Hid (Below (w.drewN q).heap.size (w.drewN q) u2) := bel; clear bel))
        go_ret2
        refine ⟨rfl, ?_⟩
        have b1 : Below w.heap.size w (w.drewN q) := below_drewN (Below.refl _ _) q
        exact b1.trans (HB.out.mono b1.size)
      · have hv : joE xs = 0 := by rw [hvl, if_neg hl2]
        have hn : joS xs = Tg := by simp [joS, hv, hT]
        have d2 : ¬ (1023 : Int) < (Tg.size : Int) := by omega
        rw [hv, hn]
        clear hvl hsz
        go_enter Tryz.func58, Tryz.ntmps58
        go_wp2_with (first
          | (go_at_call 64; refine BA.mono ?_; rintro e u ⟨rfl, q, hu⟩; rw [hu]; clear hu)
          | (go_at_call 80; refine (pjoin_any _ xs _ (HVd.out q) hbad hl').mono ?_; rintro e u2 ⟨rfl, bel⟩; rw [hJ]; have HB : Hid (Below (w.drewN q).heap.size (w.drewN q) u2) := bel; clear bel))
        go_ret2
        refine ⟨rfl, ?_⟩
        have b1 : Below w.heap.size w (w.drewN q) := below_drewN (Below.refl _ _) q
        exact b1.trans (HB.out.mono b1.size)

set_option maxHeartbeats 1000000 in
set_option maxRecDepth 100000 in
theorem together_any (v : Value) (xs : List ByteArray) (w : World) (h : Vw w v xs) (hs : (tgA xs).length ≤ 1048576) :
    Calls Tryz.prog 92 #[v] w fun e w' => e = .returned (.string (tg xs)) ∧ w' = w := by
  obtain ⟨a, c, rfl, h1, h2, rd, hx⟩ := h
  have hm : xs.length ≤ 9223372036854775807 := by unfold maxLen at h2; omega
  have HR : Hid (RdS w a xs.length xs) := rd
  clear rd hx
  by_cases h0 : xs = []
  · subst h0
    simp only [List.length_nil]
    go_enter Tryz.func92, Tryz.ntmps92
    go_wp2
    go_ret
    exact ⟨rfl, rfl⟩
  · have hT : tg xs = byteOf (tgA xs) := tg_cons h0
    have hl0 : xs.length ≠ 0 := fun e => h0 (List.eq_nil_of_length_eq_zero e)
    have d0 : ((xs.length : Int) == 0) = false := by simp; exact h0
    have d0' : ¬ (xs.length : Int) = 0 := by omega
    rw [hT]
    have H0 : Hid (xs ≠ []) := h0
    clear hT h0
    go_enter Tryz.func92, Tryz.ntmps92
    go_wp2
    go_loopw [3, 4] (fun t i wr => ∃ k : Nat, k ≤ xs.length ∧ i = .int .i64 k ∧ wr = w ∧ t = .string (byteOf (tgA (xs.take k)))) (fun _ i _ => xs.length - (intOf i).toNat)
    case atStart => exact ⟨0, Nat.zero_le _, rfl, rfl, rfl⟩
    case round =>
      obtain ⟨k, hk, rfl, rfl, rfl⟩ := hrel
      by_cases hlt : k < xs.length
      · have e1 : decide ((k : Int) < (xs.length : Int)) = true := decide_eq_true (by omega)
        cases a with
        | none => have := HR.out.nil rfl; omega
        | some x =>
          have hc := HR.out.at hlt
          obtain ⟨y, hy⟩ : ∃ y, xs[k] = y := ⟨_, rfl⟩
          rw [hy] at hc
          have htk : xs.take (k + 1) = xs.take k ++ [y] := by rw [List.take_succ_eq_append_getElem hlt, hy]
          obtain ⟨t, ht⟩ : ∃ t, byteOf (tgA (xs.take k)) = t := ⟨_, rfl⟩
          have hnext : t ++ ((⟨#[47]⟩ : ByteArray) ++ y) = byteOf (tgA (xs.take (k + 1))) := by
            rw [htk, tgA_append, ← ht]
            rw [← byteOf_data (_ ++ _)]
            congr 1
            simp [byteOf, tgA, tgL]
          have hsz1 : t.size + (y.size + 1) ≤ 1048576 := by
            have e2 : xs = xs.take (k + 1) ++ xs.drop (k + 1) := (List.take_append_drop _ _).symm
            have e3 : (tgA xs).length = (tgA (xs.take (k + 1))).length + (tgA (xs.drop (k + 1))).length := by
              conv => lhs; rw [e2]
              rw [tgA_append, List.length_append]
            have e4 : (t ++ ((⟨#[47]⟩ : ByteArray) ++ y)).size = (tgA (xs.take (k + 1))).length := by rw [hnext]; rfl
            rw [ByteArray.size_append, ByteArray.size_append] at e4
            have e5 : (⟨#[47]⟩ : ByteArray).size = 1 := rfl
            omega
          have e5 : (⟨#[47]⟩ : ByteArray).size = 1 := rfl
          have q1 : ¬ (9223372036854775807 < (⟨#[47]⟩ : ByteArray).size + y.size) := by omega
          have q2 : ¬ (9223372036854775807 < t.size + ((⟨#[47]⟩ : ByteArray) ++ y).size) := by rw [ByteArray.size_append]; omega
          have HN : Hid (t ++ ((⟨#[47]⟩ : ByteArray) ++ y) = byteOf (tgA (xs.take (k + 1)))) := hnext
          rw [ht]
          clear hnext htk hy ht e5
          go_wp2
          go_roundw
          case rel => exact ⟨k + 1, by omega, by go_num, by simp, by rw [← HN.out]⟩
          case measure => simp [intOf]; omega
      · obtain rfl : k = xs.length := by omega
        rw [List.take_length]
        go_wp2
        go_ret
        exact ⟨rfl, rfl⟩
end Go.Proofs.YtdiifegljonojaaGreatDoor.Pt
