/-
  SEAT Ytjginocbbnmgaaa: the reference's Get and Cut, over what lies at the keys.
-/
import Derived.Test.YtjginocbbnmgaaaTpI
namespace Go.Proofs.Ytjginocbbnmgaaa
open Go.RowKit
set_option linter.unusedVariables false

set_option maxHeartbeats 4000000 in
set_option maxRecDepth 100000 in
theorem rcut_own (gr : Nat) (k : Int) (v : Value) (L : List (Int × Int)) (W : World) (h : RefOn W gr v L) :
    Calls Try.prog 48 #[.pointer (some ⟨gr, 0, none⟩), .int .i64 k] W fun e w' => ∃ i v', e = .returned (.int .i64 ((L.length - i : Nat) : Int)) ∧ PlaceIs L k i ∧ RefOn w' gr v' (L.take i) ∧ W.grownBy w' (some gr) ∧ v'.ownBlock = v.ownBlock := by
  have HPL : Hid _ := place_any gr k v L W h
  obtain ⟨hb, hrd, hl6⟩ := h
  have HB : Hid _ := hb
  have c0 : W.cell? ⟨gr, 0, none⟩ = some v := by rw [cell_of_row _ _ 0 _ 61 (0, 0) hb]; rfl
  have f0 : W.frozen? ⟨gr, 0, none⟩ = false := by unfold World.frozen?; simp only [hb]; simp
  have hset : ∀ x, (W.setCell ⟨gr, 0, none⟩ x).heap[gr]? = some (.cells #[x] 61 (0, 0)) := fun x => by rw [heap_setCell_same W gr 0 _ 61 x hb]; rfl
  have HSET : Hid _ := hset
  have HRD : Hid (Rd W v L) := hrd
  have HL6 : Hid _ := hl6
  rcases Rd.reads hrd with ⟨rfl, rfl⟩ | ⟨g, cap, rfl, _, _⟩
  · clear hb hrd hl6 hset
    go_enter Try.func48, Try.ntmps48
    go_wp2_with (first | (go_at_call 59; refine Calls.mono HPL.out ?_; rintro e u ⟨i, rfl, hp, rfl⟩; obtain rfl : i = 0 := Nat.le_zero.1 hp.1; have HP : Hid _ := hp; clear hp))
    go_ret
    exact ⟨0, _, rfl, HP.out, ⟨HSET.out _, Rd.setBox HRD.out HB.out, by simp⟩, grown_setC _ _ _ _, rfl⟩
  · obtain ⟨N, hN⟩ : ∃ N, L.length = N := ⟨_, rfl⟩
    rw [hN] at c0 HRD hl6
    have HN : Hid _ := hN
    have hcp := (Rd.front HRD.out HN.out (Nat.zero_le _)).2
    have HCP : Hid _ := hcp
    have HN6 : Hid _ := hl6
    clear hb hrd hl6 hset hcp hN
    go_enter Try.func48, Try.ntmps48
    go_upto_region 2 with (first | (go_at_call 59; refine Calls.mono HPL.out ?_; rintro e u ⟨i, rfl, hp, rfl⟩; have HP : Hid _ := hp; clear hp))
    have hi : i ≤ N := by rw [← HN.out]; exact HP.out.1
    have d1 : (i : Int) ≤ (cap : Int) := by have := HCP.out.1; omega
    have w1 : IntKind.i64.wrap ((N : Int) - (i : Int)) = (N : Int) - (i : Int) := by have := HN6.out; rw [IntKind.wrap_i64]; omega
    go_wp2_with fail
    go_ret
    refine ⟨i, _, ?_, HP.out, ⟨HSET.out _, Rd.setBox (Rd.front HRD.out HN.out hi).1 HB.out, by rw [List.length_take]; have := HL6.out; omega⟩, grown_setC _ _ _ _, rfl⟩
    rw [HN.out, Int.natCast_sub hi]
    rfl

theorem rget_m (gr : Nat) (k : Int) (v : Value) (M : Mp) (W : World) (h : RefOn W gr v (allOf M)) (hout : ∀ k, 1048576 ≤ k → M k = none) :
    Calls Try.prog 46 #[.pointer (some ⟨gr, 0, none⟩), .int .i64 k] W fun e w' => e = .returned (got (at1 M k)) ∧ Below W.heap.size W w' := by
  by_cases hk : k < 0 ∨ 1048576 ≤ k
  · have e2 := (del_far hout hk).2
    rw [e2]
    refine (rget_any gr k v _ W h).mono ?_
    rintro e w' ⟨i, rfl, hp, hb⟩
    have := hasK_keys (L := allOf M) (k := k) (fun p hp => by have := all_keys hp; omega) i
    rw [this]
    exact ⟨rfl, hb⟩
  · obtain ⟨n, rfl⟩ : ∃ n : Nat, k = n := ⟨k.toNat, by omega⟩
    have hn : n < 1048576 := by omega
    obtain ⟨lo, hi, hlo, hhi, hall⟩ := all_split M hn
    have ea : at1 M (n : Int) = M n := by unfold at1; rw [if_pos (by omega)]; simp
    have em := hall M (fun _ _ => rfl)
    rw [ea]
    rw [em] at h
    refine (rget_any gr n v _ W h).mono ?_
    rintro e w' ⟨i, rfl, hp, hb⟩
    refine ⟨?_, hb⟩
    cases hm : M n with
    | none =>
      rw [ent_none hm] at hp ⊢
      have := place_split hlo (fun p hp => by have := hhi p (by simpa using hp); omega) hp
      rw [this, hasK_not hhi]
      rfl
    | some y =>
      rw [ent_some hm] at hp ⊢
      have := place_split hlo (fun p hp => by
        rcases List.mem_append.1 hp with q | q
        · rw [List.mem_singleton.1 q]; exact Int.le_refl _
        · have := hhi p q; omega) hp
      rw [this, hasK_at, if_pos rfl]
      have e2 : (lo ++ ([((n : Int), y)] ++ hi)).getD lo.length (0, 0) = ((n : Int), y) := by
        rw [List.getD_eq_getElem?_getD, List.getElem?_append_right (Nat.le_refl _), Nat.sub_self]; rfl
      rw [e2]
      rfl

theorem cut_items (M : Mp) (k : Int) (n : Nat) {i : Nat} (hp : PlaceIs (items M 0 n) k i) : (items M 0 n).take i = items (cutM M (max k 0) (n : Int)) 0 n ∧ (items M 0 n).length - i = cnt (hit M (max k 0) (n : Int)) n := by
  obtain ⟨m, hm⟩ : ∃ m, m = min (max k 0).toNat n := ⟨_, rfl⟩
  obtain ⟨r, hr⟩ : ∃ r, n = m + r := ⟨n - m, by omega⟩
  have es : items M 0 n = items M 0 m ++ ([] ++ items (fun j => M (m + j)) (0 + m) r) := by rw [hr, items_add]; rfl
  have hi : i = (items M 0 m).length := by
    rw [es] at hp
    refine place_split (fun p hq => ?_) (fun p hq => ?_) hp
    · have := items_keys hq; omega
    · have := items_keys (by simpa using hq : p ∈ items (fun j => M (m + j)) (0 + m) r); omega
  have ec : ∀ j, j < m → cutM M (max k 0) (n : Int) j = M j := fun j hj => by unfold cutM; rw [if_neg (by omega)]
  have ez : ∀ j, j < r → cutM M (max k 0) (n : Int) (m + j) = none := fun j hj => by unfold cutM; rw [if_pos (by omega)]
  have hv : items (fun j => cutM M (max k 0) ((m + r : Nat) : Int) (m + j)) (0 + m) r = [] := items_void _ (fun j hj => by show cutM M (max k 0) ((m + r : Nat) : Int) (m + j) = none; rw [← hr]; exact ez j hj)
  constructor
  · rw [es, hi, List.take_left]
    conv => rhs; rw [hr]
    rw [items_add, items_congr 0 m (fun j hj => (by rw [← hr]; exact ec j hj : cutM M (max k 0) ((m + r : Nat) : Int) j = M j)), hv, List.append_nil]
  · rw [es, hi, List.length_append, Nat.add_sub_cancel_left, List.nil_append, items_count]
    conv => rhs; rw [hr]
    rw [cnt_add, cnt_none (n := m) (fun j hj => by unfold hit; rw [decide_eq_false (by omega)]; rfl), Nat.zero_add]
    exact cnt_congr fun j hj => by unfold hit; rw [decide_eq_true (by omega)]; rfl
theorem rcut_m (gr : Nat) (k : Int) (v : Value) (M : Mp) (W : World) (h : RefOn W gr v (allOf M)) :
    Calls Try.prog 48 #[.pointer (some ⟨gr, 0, none⟩), .int .i64 k] W fun e w' => e = .returned (.int .i64 ((cnt (hit M (max k 0) 1048576) 1048576 : Nat) : Int)) ∧ ∃ v', RefOn w' gr v' (allOf (cutFrom M k)) ∧ Chg W w' gr v v' := by
  refine (rcut_own gr k v _ W h).mono ?_
  rintro e w' ⟨i, v', rfl, hp, hr, hg, ho⟩
  obtain ⟨n, hn⟩ : ∃ n, 1048576 = n := ⟨_, rfl⟩
  have hn' : (1048576 : Int) = (n : Int) := by omega
  unfold allOf cutFrom at *
  rw [hn] at hp hr ⊢
  rw [hn']
  obtain ⟨e1, e2⟩ := cut_items M k n hp
  rw [e1] at hr
  exact ⟨by rw [e2], v', hr, ⟨hg.os, hg.tape, hg.output, hg.size, fun q hq h1 _ => hg.block q hq (fun e => h1 (by injection e)), fun q hq => Or.inl (by rw [← ho]; exact hq)⟩⟩
end Go.Proofs.Ytjginocbbnmgaaa
