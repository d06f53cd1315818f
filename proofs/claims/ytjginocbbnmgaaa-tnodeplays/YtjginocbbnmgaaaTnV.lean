/-
  SEAT Ytjginocbbnmgaaa: a tree as it is told; Put, Drop, Cut of it.
-/
import Derived.Test.YtjginocbbnmgaaaTnU
namespace Go.Proofs.Ytjginocbbnmgaaa
open Go.RowKit
set_option linter.unusedVariables false
variable {bx : Nat}

/-- How many things. -/
def num (M : Mp) : Nat := cnt (fun k => (M k).isSome) 1048576
/-- A tree, by what lies in it. -/
structure TreeX (bx : Nat) (w : World) (gt : Nat) (h : Nat) (M : Mp) : Prop where
  on : TreeOn bx w gt h ((num M : Nat) : Int) M
  fit : Fit h M
/-- A tree, with nothing but its own box left out. -/
abbrev Tree (w : World) (gt : Nat) (h : Nat) (M : Mp) : Prop := TreeX gt w gt h M
theorem num_le (M : Mp) : num M ≤ 1048576 := cnt_le _ _
theorem cnt_split {p q r : Nat → Bool} : ∀ {n : Nat}, (∀ k, k < n → ((if p k then 1 else 0) : Nat) = (if q k then 1 else 0) + (if r k then 1 else 0)) → cnt p n = cnt q n + cnt r n
  | 0, _ => rfl
  | n + 1, h => by
    simp only [cnt]
    rw [cnt_split (fun k hk => h k (by omega)), h n (by omega)]
    omega
theorem num_cut (M : Mp) (f t : Int) : num M = num (cutM M f t) + cnt (hit M f t) 1048576 := by
  unfold num
  refine cnt_split (fun k _ => ?_)
  unfold cutM hit
  by_cases h : f ≤ (k : Int) ∧ (k : Int) < t
  · rw [if_pos h, decide_eq_true h]
    simp
  · rw [if_neg h, decide_eq_false h]
    simp
theorem cnt_high (M : Mp) (f t : Int) {h : Nat} (h5 : h ≤ 5) (hout : ∀ k, spn h ≤ k → M k = none) : cnt (hit M f t) (spn h) = cnt (hit M f t) 1048576 := by
  obtain ⟨b, hb⟩ : ∃ b, 1048576 = spn h + b := ⟨1048576 - spn h, by have := dig_le5 h h5; omega⟩
  rw [hb, cnt_add, cnt_none (n := b)]
  · rfl
  · intro k hk
    unfold hit
    rw [hout _ (by omega)]
    simp
theorem num_upd (M : Mp) (k : Nat) (v : Int) (hk : k < 1048576) : num (upd M k v) = if (M k).isSome = true then num M else num M + 1 := by
  have key : ∀ n, cnt (fun j => (upd M k v j).isSome) n = cnt (fun j => (M j).isSome) n + if k < n ∧ (M k).isSome = false then 1 else 0 := fun n => by
    induction n with
    | zero => simp [cnt]
    | succ n ih =>
      simp only [cnt]
      rw [ih]
      by_cases e : n = k
      · subst e
        have h1 : upd M n v n = some v := by unfold upd; rw [if_pos rfl]
        simp only [h1]
        by_cases hm : (M n).isSome = true
        · simp [hm]
        · simp [Bool.eq_false_iff.2 hm]
      · have h1 : upd M k v n = M n := by unfold upd; rw [if_neg e]
        simp only [h1]
        have h2 : (k < n + 1 ∧ (M k).isSome = false) ↔ (k < n ∧ (M k).isSome = false) := by
          constructor
          · rintro ⟨a, b⟩; exact ⟨by omega, b⟩
          · rintro ⟨a, b⟩; exact ⟨by omega, b⟩
        simp only [h2]
        omega
  unfold num
  rw [key]
  cases hm : (M k).isSome <;> simp [hk]
theorem Fit.upd {h h' k : Nat} {M : Mp} {v : Int} (hf : Fit h M) (p1 : 0 < h') (p2 : h' = h ∨ h' = 1 ∨ spn (h' - 1) ≤ k) : Fit h' (upd M k v) := by
  have hk : (Go.Proofs.Ytjginocbbnmgaaa.upd M k v k).isSome = true := by unfold Go.Proofs.Ytjginocbbnmgaaa.upd; rw [if_pos rfl]; rfl
  refine ⟨fun q => by omega, fun _ => ?_⟩
  rcases p2 with rfl | p2 | p2
  · obtain ⟨j, hj, hj2⟩ := hf.more p1
    refine ⟨j, ?_, hj2⟩
    unfold Go.Proofs.Ytjginocbbnmgaaa.upd
    split
    · rfl
    · exact hj
  · exact ⟨k, hk, Or.inl p2⟩
  · exact ⟨k, hk, Or.inr p2⟩
/-- Put of a key. -/
theorem put_any (gt h k : Nat) (v : Int) (M : Mp) (w : World) (hT : TreeX bx w gt h M) (hk : k < 1048576) :
    Calls Try.prog 16 #[.pointer (some ⟨gt, 0, none⟩), .int .i64 (k : Int), .int .i64 v] w fun e w' => ∃ h', e = .returned (.int .i64 0) ∧ TreeX bx w' gt h' (upd M k v) ∧ w.grownBy w' (some gt) := by
  have hl := num_le M
  cases hm : (M k).isSome with
  | true =>
    refine (put_some gt h k v _ M w hT.on hk ⟨by omega, by omega⟩ hm).mono ?_
    rintro e w' ⟨h', rfl, t1, p1, p2, p3, p4, p5⟩
    exact ⟨h', rfl, ⟨by rw [num_upd M k v hk, if_pos hm]; exact t1, hT.fit.upd p2 p4⟩, p5⟩
  | false =>
    refine (put_none gt h k v _ M w hT.on hk ⟨by omega, by omega⟩ hm).mono ?_
    rintro e w' ⟨h', rfl, t1, p1, p2, p3, p4, p5⟩
    exact ⟨h', rfl, ⟨by rw [num_upd M k v hk, if_neg (by rw [hm]; decide), Int.natCast_add]; exact t1, hT.fit.upd p2 p4⟩, p5⟩
theorem TreeX.out {w : World} {gt h : Nat} {M : Mp} (hT : TreeX bx w gt h M) {k : Nat} (hk : 1048576 ≤ k) : M k = none := hT.on.out k (Nat.le_trans (dig_le5 h hT.on.h5) hk)
theorem TreeX.taken {w w' : World} {gt h h' : Nat} {M : Mp} {f t : Int} (hT : TreeX bx w gt h M) (h1 : TreeOn bx w' gt h' (((num M : Nat) : Int) - ((cnt (hit M f t) (spn h) : Nat) : Int)) (cutM M f t)) (h2 : Fit h' (cutM M f t)) : TreeX bx w' gt h' (cutM M f t) := by
  refine ⟨?_, h2⟩
  have q := num_cut M f t
  rw [cnt_high M f t hT.on.h5 hT.on.out] at h1
  rw [show ((num (cutM M f t) : Nat) : Int) = ((num M : Nat) : Int) - ((cnt (hit M f t) 1048576 : Nat) : Int) by omega]
  exact h1
/-- One thing less. -/
def del (M : Mp) (k : Int) : Mp := fun j => if (j : Int) = k then none else M j
theorem cut_del {M : Mp} (hout : ∀ k, 1048576 ≤ k → M k = none) {k t : Int} (h : (0 ≤ k ∧ k < 1048576 ∧ t = k + 1) ∨ (k < 0 ∧ t ≤ 0) ∨ 1048576 ≤ k) : cutM M k t = del M k := by
  funext j
  unfold cutM del
  rcases h with ⟨h1, h2, h3⟩ | h | h
  · have : (k ≤ (j : Int) ∧ (j : Int) < t) ↔ (j : Int) = k := by omega
    simp only [this]
  · rw [if_neg (by omega), if_neg (by omega)]
  · by_cases hj : 1048576 ≤ j
    · rw [hout j hj]
      split <;> split <;> rfl
    · rw [if_neg (by omega), if_neg (by omega)]
theorem hit_one {M : Mp} (hout : ∀ k, 1048576 ≤ k → M k = none) {k t : Int} (h : (0 ≤ k ∧ k < 1048576 ∧ t = k + 1) ∨ (k < 0 ∧ t ≤ 0) ∨ 1048576 ≤ k) : cnt (hit M k t) 1048576 = if (at1 M k).isSome = true then 1 else 0 := by
  rcases h with ⟨h1, h2, h3⟩ | h | h
  · obtain ⟨j, rfl⟩ := Int.eq_ofNat_of_zero_le h1
    have ha : at1 M (j : Int) = M j := by unfold at1; rw [if_pos (by omega), Int.toNat_natCast]
    rw [ha]
    have key : ∀ n, cnt (hit M (j : Int) t) n = if j < n ∧ (M j).isSome = true then 1 else 0 := fun n => by
      induction n with
      | zero => simp [cnt]
      | succ n ih =>
        simp only [cnt]
        rw [ih]
        unfold hit
        by_cases e : n = j
        · subst e
          rw [decide_eq_true ⟨by omega, by omega⟩]
          cases hm : (M n).isSome <;> simp
        · rw [decide_eq_false (by omega)]
          have h2 : (j < n + 1 ∧ (M j).isSome = true) ↔ (j < n ∧ (M j).isSome = true) := by
            constructor
            · rintro ⟨a, b⟩; exact ⟨by omega, b⟩
            · rintro ⟨a, b⟩; exact ⟨by omega, b⟩
          simp only [h2]
          simp
    rw [key]
    cases hm : (M j).isSome <;> simp
    omega
  · have ha : at1 M k = none := by unfold at1; rw [if_neg (by omega)]
    rw [ha, cnt_none (hit_idle (Or.inl h.2))]
    rfl
  · have ha : at1 M k = none := by
      unfold at1
      split
      · exact hout _ (by omega)
      · rfl
    rw [ha, cnt_none (hit_idle (Or.inr (by omega)))]
    rfl
set_option maxHeartbeats 1000000 in
/-- Drop. -/
theorem drop_any (gt h : Nat) (k : Int) (M : Mp) (w : World) (hT : TreeX bx w gt h M) (hk : -9223372036854775808 ≤ k ∧ k < 9223372036854775808) :
    Calls Try.prog 17 #[.pointer (some ⟨gt, 0, none⟩), .int .i64 k] w fun e w' => ∃ h', e = .returned (.bool (at1 M k).isSome) ∧ TreeX bx w' gt h' (del M k) ∧ w.grownBy w' (some gt) := by
  obtain ⟨t, ht⟩ : ∃ t, IntKind.i64.wrap (k + 1) = t := ⟨_, rfl⟩
  have hcs : (0 ≤ k ∧ k < 1048576 ∧ t = k + 1) ∨ (k < 0 ∧ t ≤ 0) ∨ 1048576 ≤ k := by
    rw [IntKind.wrap_i64] at ht
    omega
  have hl := num_le M
  have hcall := take_any gt h k t _ M w hT.on hT.fit ⟨by omega, by omega⟩ (by omega)
  have hcn : cnt (hit M k t) (spn h) = if (at1 M k).isSome = true then 1 else 0 := by rw [cnt_high M k t hT.on.h5 hT.on.out]; exact hit_one (fun j hj => hT.out hj) hcs
  have hde := cut_del (M := M) (fun j hj => hT.out hj) hcs
  have HDE : Hid _ := hde
  have HCALL : Hid _ := hcall
  have HT : Hid _ := hT
  cases hm : (at1 M k).isSome with
  | true =>
    rw [hm, if_pos rfl] at hcn
    have HCN : Hid _ := hcn
    clear hcall hcn hde hm hcs hT
    go_enter Try.func17, Try.ntmps17
    go_wp2_with (first
      | (go_at_call 34; refine Calls.mono HCALL.out ?_; rintro e u ⟨h', rfl, t1, t2, t3⟩; rw [HCN.out]; have T1 : Hid _ := HT.out.taken t1 t2; have T3 : Hid _ := t3; clear t1 t2 t3))
    go_ret
    exact ⟨h', rfl, by rw [← HDE.out]; exact T1.out, T3.out⟩
  | false =>
    rw [hm, if_neg (by decide)] at hcn
    have HCN : Hid _ := hcn
    clear hcall hcn hde hm hcs hT
    go_enter Try.func17, Try.ntmps17
    go_wp2_with (first
      | (go_at_call 34; refine Calls.mono HCALL.out ?_; rintro e u ⟨h', rfl, t1, t2, t3⟩; rw [HCN.out]; have T1 : Hid _ := HT.out.taken t1 t2; have T3 : Hid _ := t3; clear t1 t2 t3))
    go_ret
    exact ⟨h', rfl, by rw [← HDE.out]; exact T1.out, T3.out⟩
/-- Cut. -/
def cutFrom (M : Mp) (k : Int) : Mp := cutM M (max k 0) 1048576
set_option maxHeartbeats 1000000 in
theorem cut_any (gt h : Nat) (k : Int) (M : Mp) (w : World) (hT : TreeX bx w gt h M) (hk : -9223372036854775808 ≤ k ∧ k < 9223372036854775808) :
    Calls Try.prog 11 #[.pointer (some ⟨gt, 0, none⟩), .int .i64 k] w fun e w' => ∃ h', e = .returned (.int .i64 ((cnt (hit M (max k 0) 1048576) 1048576 : Nat) : Int)) ∧ TreeX bx w' gt h' (cutFrom M k) ∧ w.grownBy w' (some gt) := by
  have hl := num_le M
  obtain ⟨C, hC⟩ : ∃ C, cnt (hit M (max k 0) 1048576) 1048576 = C := ⟨_, rfl⟩
  have hcall := take_any gt h (max k 0) 1048576 _ M w hT.on hT.fit ⟨by omega, by omega⟩ (by omega)
  have hcn := cnt_high M (max k 0) 1048576 hT.on.h5 hT.on.out
  rw [hC] at hcn ⊢
  have HTK : Hid (∀ u h', TreeOn bx u gt h' (((num M : Nat) : Int) - (C : Int)) (cutM M (max k 0) 1048576) → Fit h' (cutM M (max k 0) 1048576) → TreeX bx u gt h' (cutFrom M k)) := fun u h' t1 t2 => hT.taken (by rw [hcn]; exact t1) t2
  rw [hcn] at hcall
  obtain ⟨N, hN⟩ : ∃ N : Int, ((num M : Nat) : Int) = N := ⟨_, rfl⟩
  obtain ⟨F, hF⟩ : ∃ F, max k 0 = F := ⟨_, rfl⟩
  obtain ⟨M', hM'⟩ : ∃ M', cutFrom M k = M' := ⟨_, rfl⟩
  obtain ⟨M2, hM2⟩ : ∃ M2, cutM M (max k 0) 1048576 = M2 := ⟨_, rfl⟩
  rw [hN, hM2, hM'] at HTK
  rw [hN, hM2, hF] at hcall
  rw [hM']
  have hq : k < 0 ∧ F = 0 ∨ (0 ≤ k ∧ k ≤ 0) ∧ F = k ∨ 0 < k ∧ F = k := by omega
  clear hcn hT hN hC hF hM2 hM'
  have HCALL : Hid _ := hcall
  clear hcall
  rcases hq with ⟨q, rfl⟩ | ⟨⟨q, q2⟩, rfl⟩ | ⟨q, rfl⟩
  all_goals
    go_enter Try.func11, Try.ntmps11
    go_wp2_with (first
      | (go_at_call 34; refine Calls.mono HCALL.out ?_; rintro e u ⟨h', rfl, t1, t2, t3⟩; have T1 : Hid _ := HTK.out _ _ t1 t2; have T3 : Hid _ := t3; clear t1 t2 t3))
    go_ret
    exact ⟨h', rfl, T1.out, T3.out⟩
end Go.Proofs.Ytjginocbbnmgaaa
