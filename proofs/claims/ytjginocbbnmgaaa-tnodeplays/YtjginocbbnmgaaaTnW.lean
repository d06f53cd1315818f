/-
  SEAT Ytjginocbbnmgaaa: each: what lies below a node, by rising keys.
-/
import Derived.Test.YtjginocbbnmgaaaTnV
import Derived.RangeFuncNested
import Derived.RangeFuncBound
import Derived.RangeFuncCalls
import Derived.RangeFuncLeaves
import Derived.RangeFuncBox
import Derived.Maps.AppendAt
import Derived.Shelf.Abstract
import Derived.OwnWalkIn
import Derived.TacticsInMore
import Derived.LoopNIn
import Derived.LoopIn
namespace Go.Proofs.Ytjginocbbnmgaaa
open Go.RowKit Go.Shelf
set_option linter.unusedVariables false

/-- What lies at the first numbers, by rising keys. -/
def items (M : Mp) (base : Nat) : Nat → List (Int × Int)
  | 0 => []
  | n + 1 => items M base n ++ (match M n with | none => [] | some v => [((base : Int) + (n : Int), v)])
theorem items_add (M : Mp) (base a : Nat) : ∀ b, items M base (a + b) = items M base a ++ items (fun j => M (a + j)) (base + a) b
  | 0 => by simp [items]
  | b + 1 => by
    rw [← Nat.add_assoc]
    simp only [items]
    rw [items_add M base a b, List.append_assoc]
    congr 2
    cases M (a + b) with
    | none => rfl
    | some v =>
      simp
      omega
theorem items_round (M : Mp) (base s a : Nat) : items M base ((a + 1) * s) = items M base (a * s) ++ items (sub M s a) (base + a * s) s := by
  rw [Nat.succ_mul, items_add]
  rfl
theorem items_void {M : Mp} {s : Nat} (base : Nat) (h : Void M s) : items M base s = [] := by
  induction s with
  | zero => rfl
  | succ s ih =>
    simp only [items]
    rw [ih (fun k hk => h k (by omega)), h s (by omega)]
    rfl
theorem items_prefix (M : Mp) (base : Nat) {a b : Nat} (h : a ≤ b) : items M base a <+: items M base b := by
  obtain ⟨c, rfl⟩ : ∃ c, b = a + c := ⟨b - a, by omega⟩
  rw [items_add]
  exact List.prefix_append _ _
/-- What an iteration leaves as it is: the blocks below n₀ but two boxes. -/
def Stay (n₀ : Nat) (gt : Nat × Nat) (A B : World) : Prop := ∀ i, i < n₀ → i ≠ gt.1 → i ≠ gt.2 → B.heap[i]? = A.heap[i]?
theorem Stay.refl (n₀ : Nat) (gt : Nat × Nat) (A : World) : Stay n₀ gt A A := fun _ _ _ _ => rfl
theorem Stay.trans {n₀ : Nat} {gt : Nat × Nat} {A B C : World} (h : Stay n₀ gt A B) (h' : Stay n₀ gt B C) : Stay n₀ gt A C := fun i h1 h2 h3 => (h' i h1 h2 h3).trans (h i h1 h2 h3)
theorem Stay.of_below {n₀ : Nat} {gt : Nat × Nat} {A B : World} (h : Below n₀ A B) : Stay n₀ gt A B := fun i h1 _ _ => h.block i h1
/-- The blocks that are left out while one goes through a tree. -/
abbrev Ex (n₀ : Nat) (gt : Nat × Nat) : Nat → Prop := fun i => i = gt.1 ∨ i = gt.2 ∨ n₀ ≤ i
theorem Stay.shows {n₀ : Nat} {gt : Nat × Nat} {A B : World} (h : Stay n₀ gt A B) : Shows (seenH A (Ex n₀ gt)) (seenH B (Ex n₀ gt)) := fun i o hi => by
  obtain ⟨h1, h2⟩ := seen_block hi
  refine seen_of h1 ((h i ?_ ?_ ?_).trans h2)
  · exact Nat.lt_of_not_le (fun q => h1 (Or.inr (Or.inr q)))
  · exact fun q => h1 (Or.inl q)
  · exact fun q => h1 (Or.inr (Or.inl q))
theorem RoundIn.anyDepth {F : Fence} (hd : F.depth = none) {m m' : Nat} {P : Program} {l : Nat} {f : FuncId} {tmps : Array Value} {assign body : Code} {w : World} {R : Ending → World → Prop}
    (h : RoundIn F m P l f tmps assign body w R) : RoundIn F m' P l f tmps assign body w R := ⟨h.1, fun c cs _ => h.2 c cs (fun d h => by rw [hd] at h; cases h)⟩
theorem YieldAt.anyDepth {F : Fence} (hd : F.depth = none) {m : Nat} (m' : Nat) {P : Program} {l : Nat} {args : Array Value} {W : World} {R : Ending → World → Prop} (h : YieldAt F m P l args W R) : YieldAt F m' P l args W R := by
  obtain ⟨fn, tmps, assign, body, hy, hR⟩ := h
  exact ⟨fn, tmps, assign, body, hy, RoundIn.anyDepth hd hR⟩
/-- What a round answers, and what it leaves. -/
def YieldOk (ll n₀ : Nat) (gt : Nat × Nat) (N : Nat) (J Jx : List (Int × Int) → World → Prop) : Prop := ∀ (m : Nat) (pre : List (Int × Int)) (x : Int × Int) (W : World), J pre W → pre.length < N → YieldAt Fence.wide m Try.prog ll #[.int .i64 x.1, .int .i64 x.2] W fun e W' =>
  (e = .returned (.bool true) ∧ J (pre ++ [x]) W' ∧ Stay n₀ gt W W') ∨ (e = .returned (.bool false) ∧ Jx (pre ++ [x]) W')
/-- each, at a level. -/
def EachAt (l : Nat) : Prop := ∀ (ll n₀ : Nat) (gt : Nat × Nat) (N : Nat) (J Jx : List (Int × Int) → World → Prop), YieldOk ll n₀ gt N J Jx → ∀ (n g base : Nat) (M : Mp) (pre : List (Int × Int)) (W : World), NodeOn (seenH W (Ex n₀ gt)) l (some g) M → base + spn (l + 1) ≤ 1048576 → J pre W → pre.length + (items M base (spn (l + 1))).length ≤ N →
  CallsIn Fence.wide n Try.prog 53 #[.pointer (some ⟨g, 0, none⟩), .int .i64 (l : Int), .int .i64 (base : Int), .func (.yield ll) #[] #[]] W fun e W' =>
    (e = .returned (.bool true) ∧ J (pre ++ items M base (spn (l + 1))) W' ∧ Stay n₀ gt W W') ∨ (e = .returned (.bool false) ∧ ∃ q, q <+: items M base (spn (l + 1)) ∧ Jx (pre ++ q) W')

attribute [local go_sem] Oper.semAt_some
set_option maxHeartbeats 4000000 in
set_option maxRecDepth 100000 in
theorem each_zero : EachAt 0 := by
  intro ll n₀ gt N J Jx hY n g base M pre W hN hB hJ hL
  obtain ⟨ts, h1, h2, h3, h4⟩ := hN
  rw [row0] at h2
  have hsp : spn 0 = 1 := rfl
  have hs1 : spn (0 + 1) = 16 := rfl
  rw [hs1] at hB hL ⊢
  have hg := seen_block h2
  have H1 : Hid _ := And.intro h1 (And.intro h2 h3)
  have HY : Hid _ := hY
  have HL : Hid _ := hL
  have hbase : base ≤ 1048576 := by omega
  clear h1 h2 h3 h4 hY hL hg
  have hfw : ∀ f, Fence.wide.fn f := fun _ => trivial
  have hdw : Fence.wide.depth.isSome = false := rfl
  refine callsIn_of_wp Try.func53 rfl trivial ?_ rfl
  simp only [Try.ntmps53, List.size_toArray, List.length_cons, List.length_nil, Nat.reduceAdd, Nat.reduceSub, Array.replicate_succ, Array.replicate_zero, List.push_toArray, List.append_toArray, List.nil_append, List.cons_append]
  gi_wp2
  gi_loopw [13] (fun s13 wr => ∃ a : Nat, a ≤ 16 ∧ s13 = .int .i64 (a : Int) ∧ Hid (J (pre ++ items M base a) wr ∧ Stay n₀ gt W wr))
    (fun i _ => 16 - (intOf i).toNat)
  case atStart => exact ⟨0, by omega, rfl, by simpa [items] using hJ, Stay.refl _ _ _⟩
  case round =>
    obtain ⟨a, ha, rfl, HJ⟩ := hrel
    by_cases hc : a < 16
    · have dc : (a : Int) < 16 := by omega
      have wa : IntKind.i64.wrap ((a : Int)) = (a : Int) := by rw [IntKind.wrap_i64]; omega
      have wa1 : IntKind.i64.wrap ((a : Int) + 1) = (a : Int) + 1 := by rw [IntKind.wrap_i64]; omega
      have wb : IntKind.i64.wrap ((base : Int) + (a : Int)) = (base : Int) + (a : Int) := by rw [IntKind.wrap_i64]; omega
      have d16 : (16 : Int) + (a : Int) < 32 := by omega
      obtain ⟨k1, k2, k3⟩ := H1.out
      have k2r := (seen_block (HJ.out.2.shows _ _ k2)).2
      have hgn := (seen_block k2).1
      have x0 : wr.cell? ⟨g, a, none⟩ = some (.pointer none) := by
        rw [cell_of_row _ _ a _ 96 (0, 0) k2r, u96_get _ _ (by rw [rowOf_len _ k1]; omega)]
        have : (rowOf 0 ts).getD a none = none := by
          unfold rowOf
          rw [if_pos rfl, List.getD_eq_getElem?_getD, List.getElem?_append_left (by simp; omega), List.getElem?_replicate]
          split <;> rfl
        rw [this]
        rfl
      have x1 : wr.cell? ⟨g, 16 + a, none⟩ = some (ptr (ts.getD a none)) := by
        rw [cell_of_row _ _ (16 + a) _ 96 (0, 0) k2r, u96_get _ _ (by rw [rowOf_len _ k1]; omega)]
        have : (rowOf 0 ts).getD (16 + a) none = ts.getD a none := by
          unfold rowOf
          rw [if_pos rfl, List.getD_eq_getElem?_getD, List.getElem?_append_right (by simp), List.length_replicate, Nat.add_sub_cancel_left, List.getD_eq_getElem?_getD]
        rw [this]
      have hth := (k3 a hc).mono HJ.out.2.shows
      cases hta : ts.getD a none with
      | none =>
        rw [hta] at hth x1
        have hma := thing_none hth
        have hit : items M base (a + 1) = items M base a := by simp only [items]; rw [hma]; simp
        have HNX : Hid (J (pre ++ items M base (a + 1)) wr ∧ Stay n₀ gt W wr) := by unfold Hid; rw [hit]; exact HJ.out
        simp only [ptr] at x1
        clear k1 k2 k3 k2r hgn hth hta hma hit
        gi_wp2_with (first
          | (gi_at_call 54; refine CallsIn.mono (callsIn_wide.2 (span_any 0 _ (by omega))) ?_; rintro e u ⟨rfl, rfl⟩; rw [show spn 0 = 1 from rfl]))
        refine ⟨?_, ?_⟩
        · (repeat apply Exists.intro)
          refine ⟨?_, rfl⟩
          exact ⟨a + 1, by omega, by first | rfl | simp, HNX⟩
        · (simp [intOf]; omega)
      | some gx =>
        rw [hta] at hth x1
        obtain ⟨v, hma⟩ : ∃ v, M a = some v := by
          cases hq : M a with
          | none => rw [hq] at hth; cases hth
          | some v => exact ⟨v, rfl⟩
        rw [hma] at hth
        have x2 : wr.cell? ⟨gx, 0, none⟩ = some (.int .i64 v) := by rw [cell_of_row _ _ 0 _ 3 (0, 0) (seen_block hth).2]; rfl
        have hit : items M base (a + 1) = items M base a ++ [((base : Int) + (a : Int), v)] := by simp only [items]; rw [hma]
        have HIT : Hid _ := hit
        have hpf := items_prefix M base (show a + 1 ≤ 16 by omega)
        have HPF : Hid _ := hpf
        have hlen : (pre ++ items M base a).length < N := by
          have h1 := hpf.length_le
          rw [hit] at h1
          have h2 := HL.out
          simp only [List.length_append, List.length_cons, List.length_nil] at h1 ⊢
          omega
        obtain ⟨fn, tmps, assign, body, hy, hR⟩ := HY.out (n - 1) (pre ++ items M base a) ((base : Int) + (a : Int), v) wr HJ.out.1 hlen
        dsimp only at hy
        have HR : Hid _ := hR
        simp only [ptr] at x1
        clear k1 k2 k3 k2r hgn hth hta hma hit hpf hlen hR
        gi_wp2_with (first
          | (gi_at_call 54; refine CallsIn.mono (callsIn_wide.2 (span_any 0 _ (by omega))) ?_; rintro e u ⟨rfl, rfl⟩; rw [show spn 0 = 1 from rfl]))
        refine RoundIn.mono HR.out ?_
        rintro e W3 (⟨rfl, hJ3, hk3⟩ | ⟨rfl, hx3⟩)
        · have HNX : Hid (J (pre ++ items M base (a + 1)) W3 ∧ Stay n₀ gt W W3) := by unfold Hid; rw [HIT.out, ← List.append_assoc]; exact ⟨hJ3, HJ.out.2.trans hk3⟩
          clear hJ3 hk3
          gi_wp2
          refine ⟨?_, ?_⟩
          · (repeat apply Exists.intro)
            refine ⟨?_, rfl⟩
            exact ⟨a + 1, by omega, by first | rfl | simp, HNX⟩
          · (simp [intOf]; omega)
        · have HX : Hid _ := hx3
          clear hx3
          gi_wp2
          go_ret
          exact .inr ⟨rfl, items M base (a + 1), HPF.out, by rw [HIT.out, ← List.append_assoc]; exact HX.out⟩
    · have dc : ¬ ((a : Int) < 16) := by omega
      obtain rfl : a = 16 := by omega
      gi_wp2
      go_ret
      exact .inl ⟨rfl, HJ.out.1, HJ.out.2⟩

set_option maxHeartbeats 4000000 in
set_option maxRecDepth 100000 in
theorem each_succ (l : Nat) (hl : l + 1 ≤ 4) (IH : EachAt l) : EachAt (l + 1) := by
  intro ll n₀ gt N J Jx hY n g base M pre W hN hB hJ hL
  obtain ⟨ts, h1, h2, h3, h4⟩ := hN
  rw [row1 l] at h2
  have hs1 : spn (l + 1 + 1) = 16 * spn (l + 1) := spn_succ (l + 1)
  rw [hs1] at hB hL ⊢
  obtain ⟨SP, hSP⟩ : ∃ SP, spn (l + 1) = SP := ⟨_, rfl⟩
  have hp := spn_pos (l + 1)
  have hp6 : spn (l + 1) ≤ 65536 := spn_le (show l + 1 ≤ 4 from hl)
  rw [hSP] at hB hL hp hp6 h3 ⊢
  have HSP : Hid _ := hSP
  have H1 : Hid _ := And.intro h1 (And.intro h2 h3)
  have HY : Hid _ := hY
  have HIH : Hid _ := IH
  have HL : Hid _ := hL
  have HB : Hid _ := hB
  have hbase : base ≤ 1048576 := by omega
  clear h1 h2 h3 h4 hY hL IH hSP hs1 hB
  have hfw : ∀ f, Fence.wide.fn f := fun _ => trivial
  have hdw : Fence.wide.depth.isSome = false := rfl
  refine callsIn_of_wp Try.func53 rfl trivial ?_ rfl
  simp only [Try.ntmps53, List.size_toArray, List.length_cons, List.length_nil, Nat.reduceAdd, Nat.reduceSub, Array.replicate_succ, Array.replicate_zero, List.push_toArray, List.append_toArray, List.nil_append, List.cons_append]
  gi_wp2
  gi_loopw [13] (fun s13 wr => ∃ a : Nat, a ≤ 16 ∧ s13 = .int .i64 (a : Int) ∧ Hid (J (pre ++ items M base (a * SP)) wr ∧ Stay n₀ gt W wr))
    (fun i _ => 16 - (intOf i).toNat)
  case atStart => exact ⟨0, by omega, rfl, by simpa [items] using hJ, Stay.refl _ _ _⟩
  case round =>
    obtain ⟨a, ha, rfl, HJ⟩ := hrel
    by_cases hc : a < 16
    · have dc : (a : Int) < 16 := by omega
      obtain ⟨P, hP⟩ : ∃ P, a * SP = P := ⟨_, rfl⟩
      have hPi : (a : Int) * (SP : Int) = (P : Int) := by rw [← hP, Int.natCast_mul]
      have hP1 : P + SP ≤ 16 * SP := by
        rw [← hP, ← Nat.succ_mul]
        exact Nat.mul_le_mul_right SP hc
      have wa1 : IntKind.i64.wrap ((a : Int) + 1) = (a : Int) + 1 := by rw [IntKind.wrap_i64]; omega
      have wP : IntKind.i64.wrap (P : Int) = (P : Int) := by rw [IntKind.wrap_i64]; omega
      have wb : IntKind.i64.wrap ((base : Int) + (P : Int)) = (base : Int) + (P : Int) := by rw [IntKind.wrap_i64]; omega
      have wl : IntKind.i64.wrap (l : Int) = (l : Int) := by rw [IntKind.wrap_i64]; omega
      have d16 : (16 : Int) + (a : Int) < 32 := by omega
      obtain ⟨k1, k2, k3⟩ := H1.out
      have k2r := (seen_block (HJ.out.2.shows _ _ k2)).2
      have hrd := items_round M base SP a
      rw [hP] at hrd
      have hpf := items_prefix M base (show (a + 1) * SP ≤ 16 * SP from Nat.mul_le_mul_right SP (by omega))
      have HRD : Hid _ := hrd
      have HPF : Hid _ := hpf
      have x0 : wr.cell? ⟨g, a, none⟩ = some (ptr (ts.getD a none)) := by
        rw [cell_of_row _ _ a _ 96 (0, 0) k2r, u96_get _ _ (by rw [rowOf_len _ k1]; omega)]
        have : (rowOf (l + 1) ts).getD a none = ts.getD a none := by
          unfold rowOf
          rw [if_neg (by omega), List.getD_eq_getElem?_getD, List.getElem?_append_left (by omega), List.getD_eq_getElem?_getD]
        rw [this]
      have hnl : ∀ u, Stay n₀ gt W u → u.cell? ⟨g, 16 + a, none⟩ = some (.pointer none) := fun u hu => by
        have k2u := (seen_block (hu.shows _ _ k2)).2
        rw [cell_of_row _ _ (16 + a) _ 96 (0, 0) k2u, u96_get _ _ (by rw [rowOf_len _ k1]; omega)]
        have : (rowOf (l + 1) ts).getD (16 + a) none = none := by
          unfold rowOf
          rw [if_neg (by omega), List.getD_eq_getElem?_getD, List.getElem?_append_right (by omega), List.getElem?_replicate]
          split <;> rfl
        rw [this]
        rfl
      have HNL : Hid _ := hnl
      have hkd := (k3 a hc).mono HJ.out.2.shows
      cases hta : ts.getD a none with
      | none =>
        rw [hta] at hkd x0
        have hv := NodeOn.isVoid hkd
        rw [HSP.out] at hv
        rw [items_void _ hv, List.append_nil] at hrd
        have HNX : Hid (J (pre ++ items M base ((a + 1) * SP)) wr ∧ Stay n₀ gt W wr) := by unfold Hid; rw [hrd, ← hP]; exact HJ.out
        have x1 := hnl wr HJ.out.2
        simp only [ptr] at x0
        clear k1 k2 k3 k2r hkd hta hv hrd hpf hnl hP
        gi_wp2_with (first
          | (gi_at_call 54; refine CallsIn.mono (callsIn_wide.2 (span_any (l + 1) _ (by omega))) ?_; rintro e u ⟨rfl, rfl⟩; rw [HSP.out]))
        refine ⟨?_, ?_⟩
        · (repeat apply Exists.intro)
          refine ⟨?_, rfl⟩
          exact ⟨a + 1, by omega, by first | rfl | simp, HNX⟩
        · (simp [intOf]; omega)
      | some gx =>
        rw [hta] at hkd x0
        have hlen : (pre ++ items M base P).length + (items (sub M SP a) (base + P) SP).length ≤ N := by
          have h1 := hpf.length_le
          rw [hrd] at h1
          have h2 := HL.out
          simp only [List.length_append] at h1 ⊢
          omega
        have hcall := HIH.out ll n₀ gt N J Jx HY.out (n - 1) gx (base + P) (sub M SP a) (pre ++ items M base P) wr hkd (by rw [HSP.out]; have := HB.out; omega) (by rw [← hP]; exact HJ.out.1) (by rw [HSP.out]; exact hlen)
        rw [HSP.out, Int.natCast_add] at hcall
        have hcall2 := CallsIn.mono (R' := fun e W3 => (e = .returned (.bool true) ∧ W3.cell? ⟨g, 16 + a, none⟩ = some (.pointer none) ∧ Hid (J (pre ++ items M base ((a + 1) * SP)) W3 ∧ Stay n₀ gt W W3)) ∨ (e = .returned (.bool false) ∧ Hid (∃ q, q <+: items M base (16 * SP) ∧ Jx (pre ++ q) W3))) hcall (fun e W3 h => h.elim
          (fun ⟨he, hj, hk⟩ => .inl ⟨he, hnl W3 (HJ.out.2.trans hk), by unfold Hid; rw [hrd, ← List.append_assoc]; exact ⟨hj, HJ.out.2.trans hk⟩⟩)
          (fun ⟨he, q, hq, hx⟩ => .inr ⟨he, items M base P ++ q, by
            refine List.IsPrefix.trans ?_ hpf
            rw [hrd]
            exact (List.prefix_append_right_inj _).2 hq, by rw [← List.append_assoc]; exact hx⟩))
        have HCALL : Hid _ := hcall2
        simp only [ptr] at x0
        clear k1 k2 k3 k2r hkd hta hrd hpf hlen hnl hcall hP hcall2
        gi_wp2_with (first
          | (gi_at_call 54; refine CallsIn.mono (callsIn_wide.2 (span_any (l + 1) _ (by omega))) ?_; rintro e u ⟨rfl, rfl⟩; rw [HSP.out])
          | (gi_at_call 53; refine CallsIn.mono HCALL.out ?_; rintro e W3 (⟨rfl, x1, HNX⟩ | ⟨rfl, HX⟩)))
        · refine ⟨?_, ?_⟩
          · (repeat apply Exists.intro)
            refine ⟨?_, rfl⟩
            exact ⟨a + 1, by omega, by first | rfl | simp, HNX⟩
          · (simp [intOf]; omega)
        · go_ret
          exact .inr ⟨rfl, HX.out⟩
    · have dc : ¬ ((a : Int) < 16) := by omega
      obtain rfl : a = 16 := by omega
      gi_wp2
      go_ret
      exact .inl ⟨rfl, HJ.out.1, HJ.out.2⟩
theorem each_any : ∀ l, l ≤ 4 → EachAt l
  | 0, _ => each_zero
  | l + 1, hl => each_succ l hl (each_any l (by omega))
end Go.Proofs.Ytjginocbbnmgaaa
