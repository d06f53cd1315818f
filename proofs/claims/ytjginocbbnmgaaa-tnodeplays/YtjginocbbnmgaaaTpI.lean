/-
  SEAT Ytjginocbbnmgaaa: the reference's Put and Drop, over what lies at the keys.
-/
import Derived.Test.YtjginocbbnmgaaaTpH
namespace Go.Proofs.Ytjginocbbnmgaaa
open Go.RowKit
set_option linter.unusedVariables false

/-- Nothing but the reference's box and its row is written. -/
structure Chg (W w' : World) (gr : Nat) (v v' : Value) : Prop where
  os : w'.os = W.os
  tape : w'.tape = W.tape
  output : w'.output = W.output
  size : W.heap.size ≤ w'.heap.size
  block : ∀ i, i < W.heap.size → i ≠ gr → v.ownBlock ≠ some i → w'.heap[i]? = W.heap[i]?
  own : ∀ q, v'.ownBlock = some q → v.ownBlock = some q ∨ W.heap.size ≤ q
theorem Chg.same (W : World) (gr : Nat) (v : Value) : Chg W W gr v v := ⟨rfl, rfl, rfl, Nat.le_refl _, fun _ _ _ _ => rfl, fun _ h => Or.inl h⟩
theorem Chg.new {W w' : World} {gr : Nat} {v v' : Value} (h : W.grownBy w' (some gr)) (ho : ∀ q, v'.ownBlock = some q → W.heap.size ≤ q) : Chg W w' gr v v' :=
  ⟨h.os, h.tape, h.output, h.size, fun i hi h1 _ => h.block i hi (fun e => h1 (by injection e)), fun q hq => Or.inr (ho q hq)⟩
theorem Chg.set {W w' : World} {gr : Nat} {v : Value} (h : W.grownBy w' v.ownBlock) : Chg W w' gr v v :=
  ⟨h.os, h.tape, h.output, h.size, fun i hi _ h2 => h.block i hi (fun e => h2 e.symm), fun _ h => Or.inl h⟩
theorem hasK_keys {L : List (Int × Int)} {k : Int} (h : ∀ p ∈ L, p.1 ≠ k) (i : Nat) : hasK L k i = false := by
  unfold hasK
  rw [decide_eq_false_iff_not]
  rintro ⟨hl, e⟩
  rw [List.getD_eq_getElem?_getD, List.getElem?_eq_getElem hl] at e
  exact h _ (List.getElem_mem hl) e
theorem all_keys {M : Mp} {p : Int × Int} (h : p ∈ allOf M) : 0 ≤ p.1 ∧ p.1 < 1048576 := by
  obtain ⟨n, hn⟩ : ∃ n, 1048576 = n := ⟨_, rfl⟩
  unfold allOf at h
  rw [hn] at h
  have := items_keys h
  omega
theorem del_far {M : Mp} (hout : ∀ k, 1048576 ≤ k → M k = none) {k : Int} (h : k < 0 ∨ 1048576 ≤ k) : del M k = M ∧ at1 M k = none := by
  constructor
  · funext j
    unfold del
    by_cases e : (j : Int) = k
    · rw [if_pos e, hout j (by omega)]
    · rw [if_neg e]
  · unfold at1
    by_cases e : 0 ≤ k
    · rw [if_pos e, hout _ (by omega)]
    · rw [if_neg e]

theorem cnt_lt_of {p : Nat → Bool} : ∀ {n k : Nat}, k < n → p k = false → cnt p n < n
  | 0, k, hk, _ => by omega
  | n + 1, k, hk, h => by
    simp only [cnt]
    by_cases e : k = n
    · subst e
      have := cnt_le p k
      rw [h]
      simp
      omega
    · have := cnt_lt_of (n := n) (k := k) (by omega) h
      split <;> omega

theorem rdrop_m (gr : Nat) (k : Int) (v : Value) (M : Mp) (W : World) (h : RefOn W gr v (allOf M)) (hout : ∀ k, 1048576 ≤ k → M k = none) :
    Calls Try.prog 47 #[.pointer (some ⟨gr, 0, none⟩), .int .i64 k] W fun e w' => e = .returned (.bool (at1 M k).isSome) ∧ ∃ v', RefOn w' gr v' (allOf (del M k)) ∧ Chg W w' gr v v' := by
  by_cases hk : k < 0 ∨ 1048576 ≤ k
  · obtain ⟨e1, e2⟩ := del_far hout hk
    rw [e1, e2]
    refine (rdrop_none gr k v _ W h fun i _ => hasK_keys (fun p hp => by have := all_keys hp; omega) i).mono ?_
    rintro e w' ⟨rfl, rfl⟩
    exact ⟨rfl, v, h, Chg.same _ _ _⟩
  · obtain ⟨n, rfl⟩ : ∃ n : Nat, k = n := ⟨k.toNat, by omega⟩
    have hn : n < 1048576 := by omega
    obtain ⟨lo, hi, hlo, hhi, hall⟩ := all_split M hn
    have ea : at1 M (n : Int) = M n := by unfold at1; rw [if_pos (by omega)]; simp
    have ed : allOf (del M (n : Int)) = lo ++ ([] ++ hi) := by
      rw [hall (del M (n : Int)) (fun j hj => by unfold del; rw [if_neg (by omega)]), ent_none (by unfold del; rw [if_pos rfl])]
    have em := hall M (fun _ _ => rfl)
    rw [ea, ed]
    rw [em] at h
    cases hm : M n with
    | none =>
      rw [ent_none hm] at h
      refine (rdrop_none gr n v _ W h fun i hp => ?_).mono ?_
      · have := place_split hlo (fun p hp => by have := hhi p (by simpa using hp); omega) hp
        rw [this]; exact hasK_not hhi
      · rintro e w' ⟨rfl, rfl⟩
        exact ⟨rfl, v, h, Chg.same _ _ _⟩
    | some y =>
      rw [ent_some hm] at h
      refine (rdrop_some gr lo.length n v _ W h (by simp) fun i hp => ?_).mono ?_
      · have := place_split hlo (fun p hp => by
          rcases List.mem_append.1 hp with q | q
          · rw [List.mem_singleton.1 q]; exact Int.le_refl _
          · have := hhi p q; omega) hp
        rw [this]; exact ⟨hasK_at, rfl⟩
      · rintro e w' ⟨rfl, v', hr, hg, ho⟩
        rw [erase_split] at hr
        exact ⟨rfl, v', hr, Chg.new hg ho⟩

theorem rput_m (gr : Nat) (k x : Int) (v : Value) (M : Mp) (W : World) (h : RefOn W gr v (allOf M)) :
    Calls Try.prog 45 #[.pointer (some ⟨gr, 0, none⟩), .int .i64 k, .int .i64 x] W fun e w' => e = .returned (.int .i64 (if k < 0 ∨ 1048575 < k then 90 else 0)) ∧ ∃ v', RefOn w' gr v' (allOf (if k < 0 ∨ 1048575 < k then M else upd M k.toNat x)) ∧ Chg W w' gr v v' := by
  by_cases hk : k < 0 ∨ 1048575 < k
  · rw [if_pos hk, if_pos hk]
    refine (rput_bad gr k x W hk).mono ?_
    rintro e w' ⟨rfl, rfl⟩
    exact ⟨rfl, v, h, Chg.same _ _ _⟩
  · rw [if_neg hk, if_neg hk]
    obtain ⟨n, rfl⟩ : ∃ n : Nat, k = n := ⟨k.toNat, by omega⟩
    have hn : n < 1048576 := by omega
    rw [Int.toNat_natCast]
    obtain ⟨lo, hi, hlo, hhi, hall⟩ := all_split M hn
    have eu : allOf (upd M n x) = lo ++ ([((n : Int), x)] ++ hi) := by
      rw [hall (upd M n x) (fun j hj => by unfold upd; rw [if_neg hj]), ent_some (show upd M n x n = some x by unfold upd; rw [if_pos rfl])]
    have em := hall M (fun _ _ => rfl)
    rw [eu]
    cases hm : M n with
    | none =>
      rw [ent_none hm] at em
      have hlen : (allOf M).length < 1048576 := by
        obtain ⟨b, hb⟩ : ∃ b, 1048576 = b := ⟨_, rfl⟩
        unfold allOf
        rw [hb] at hn ⊢
        rw [items_count]
        have := cnt_lt_of (p := fun k => (M k).isSome) hn (by simp [hm])
        exact this
      rw [em] at h hlen
      refine (rput_new gr lo.length n x v _ W h (by omega) (by omega) (by simp) hlen fun i hp => ?_).mono ?_
      · have := place_split hlo (fun p hp => by have := hhi p (by simpa using hp); omega) hp
        rw [this]; exact ⟨hasK_not hhi, rfl⟩
      · rintro e w' ⟨rfl, v', hr, hg, ho⟩
        rw [ins_split] at hr
        exact ⟨rfl, v', hr, Chg.new hg ho⟩
    | some y =>
      rw [ent_some hm] at em
      rw [em] at h
      refine (rput_set gr lo.length n x v _ W h (by omega) (by omega) (by simp) fun i hp => ?_).mono ?_
      · have := place_split hlo (fun p hp => by
          rcases List.mem_append.1 hp with q | q
          · rw [List.mem_singleton.1 q]; exact Int.le_refl _
          · have := hhi p q; omega) hp
        rw [this]; exact ⟨hasK_at, rfl⟩
      · rintro e w' ⟨rfl, hr, hg⟩
        have e2 : ((lo ++ ([((n : Int), y)] ++ hi))[lo.length]'(by simp)) = ((n : Int), y) := by
          simp
        rw [e2, set_split] at hr
        exact ⟨rfl, v, hr, Chg.set hg⟩
end Go.Proofs.Ytjginocbbnmgaaa
