/-
  SEAT YteefekhlbillfaaDoor: what the reference's Read calls: is a page blank; bytes with their sum behind them; is a row large.
-/
import Derived.Test.YteefekhlbillfaaDoorPk
import Derived.Test.YteefekhlbillfaaDoorRq
import Derived.Laws.OwnMore
import Derived.Maps.AppendAt
import Derived.Deep.AppendLies
import Derived.Deep.QuietTactic
namespace Go.Proofs.YteefekhlbillfaaDoor
open Go.RowKit
set_option linter.unusedVariables false

theorem ownsRow_base {w : World} {B B' : Nat} {e : TypeId} {size : Nat} {v : Value} {n : Nat} {xs : List Value} (h : w.ownsRow B e size v n xs) (hb : B' ≤ B) : w.ownsRow B' e size v n xs := by
  obtain ⟨h1, h2⟩ := h
  refine ⟨h1, ?_⟩
  rcases h2 with h2 | ⟨g, cap, cur, hv, hb', r⟩
  · exact Or.inl h2
  · exact Or.inr ⟨g, cap, cur, hv, Nat.le_trans hb hb', r⟩
theorem row_below {W X : World} {B n : Nat} {e : TypeId} {size : Nat} {v : Value} {xs : List Value} (h : W.ownsRow B e size v n xs) (hb : Below W.heap.size W X) : X.ownsRow B e size v n xs :=
  ⟨h.1, h.2.imp id (fun ⟨g, cap, cur, r1, r2, r3, r4⟩ => ⟨g, cap, cur, r1, r2, (hb.block _ (Array.getElem?_eq_some_iff.1 r3).1).trans r3, r4⟩)⟩
theorem lt_of_bk {w : World} {i : Nat} {o : Obj} (h : w.heap[i]? = some o) : i < w.heap.size := (Array.getElem?_eq_some_iff.1 h).1
theorem blank_take_succ {zs : List Int} {k : Nat} (h : k < zs.length) : blankB (zs.take (k + 1)) = (blankB (zs.take k) && (zs.getD k 0 == 255)) := by
  unfold blankB
  rw [List.take_succ_eq_append_getElem h, List.all_append, List.getD_eq_getElem?_getD, List.getElem?_eq_getElem h]
  simp
theorem blank_not {zs : List Int} {k : Nat} (h : k < zs.length) (hne : zs.getD k 0 ≠ 255) : blankB zs = false := by
  unfold blankB
  rw [List.all_eq_false]
  refine ⟨zs[k], List.getElem_mem h, ?_⟩
  rw [List.getD_eq_getElem?_getD, List.getElem?_eq_getElem h] at hne
  simpa using hne
set_option maxHeartbeats 400000 in
set_option maxRecDepth 100000 in
theorem rblank_any (a : Option Addr) (n c : Nat) (xs : List Int) (w : World) (hn : n ≤ 140737488355000) (h : Reads w a n xs) :
    Calls Tryd.prog 51 #[.slice a n c] w fun e w' => e = .returned (.bool (blankB xs)) ∧ w' = w := by
  have hlx := h.1
  go_enter Tryd.func51, Tryd.ntmps51
  go_wp2
  go_loopw [3] (fun i wr => ∃ k : Nat, k ≤ n ∧ i = .int .i64 k ∧ Hid (blankB (xs.take k) = true) ∧ wr = w)
    (fun i _ => n - (intOf i).toNat)
  case atStart => exact ⟨0, Nat.zero_le _, rfl, by simp [Hid, blankB], rfl⟩
  case round =>
    obtain ⟨k, hk, rfl, HT, rfl⟩ := hrel
    by_cases hlt : k < n
    · obtain ⟨b, off, rfl, hb, hcell⟩ := h.pos (by omega)
      obtain ⟨z, hz⟩ : ∃ z, z = xs.getD k 0 := ⟨_, rfl⟩
      have hcx : wr.cell? ⟨b, off + k, none⟩ = some (.int .u8 z) := by rw [hz]; exact hcell k hlt
      have i1 : (k : Int) < (n : Int) := by omega
      have wk : IntKind.i64.wrap ((k : Int) + 1) = (k : Int) + 1 := by rw [IntKind.wrap_i64]; omega
      by_cases he : z = 255
      · have HT2 : Hid (blankB (xs.take (k + 1)) = true) := by
          unfold Hid
          rw [blank_take_succ (by omega), HT.out, ← hz, he]
          rfl
        subst he
        clear hcell hz h hlx HT
        go_wp2_with fail
        go_roundw
        case rel => exact ⟨k + 1, by omega, by go_num, HT2, by trivial⟩
        case measure => simp [intOf]; omega
      · have h1 : (z == 255) = false := by simpa using he
        have HB : Hid (blankB xs = false) := blank_not (k := k) (by omega) (by rw [← hz]; exact he)
        clear hcell hz h hlx HT he
        go_wp2_with fail
        go_ret
        exact ⟨by rw [HB.out]; rfl, rfl⟩
    · have hkl : k = n := by omega
      have ht := HT.out
      rw [List.take_of_length_le (by omega)] at ht
      have HB : Hid (blankB xs = true) := ht
      have i1 : ¬ (k : Int) < (n : Int) := by omega
      clear ht hkl
      go_wp2_with fail
      go_ret
      exact ⟨by rw [HB.out]; rfl, rfl⟩

/-- What a page is told by: 0 as blank, 1 whole, 2 as the one ahead of it. -/
theorem reads_new (u : World) (zs : List Int) (hb : Byt zs) : Reads (u.alloc (.cells (zs.map (Value.int .u8)).toArray 5)) (some ⟨u.heap.size, 0, none⟩) zs.length zs := by
  refine ⟨rfl, hb, by simp, fun x hx i hi => ?_⟩
  cases hx
  rw [plain_add, Nat.zero_add]
  have h9 := heap_alloc_new u (.cells (zs.map (Value.int .u8)).toArray 5)
  simp only [World.cell?, h9]
  simp [List.getD, List.getElem?_eq_getElem hi]
theorem le4_row (u : World) (s : Nat) : Reads (u.alloc (.cells #[.int .u8 ((s % 256 : Nat) : Int), .int .u8 ((s / 256 % 256 : Nat) : Int), .int .u8 ((s / 65536 % 256 : Nat) : Int), .int .u8 ((s / 16777216 % 256 : Nat) : Int)] 5)) (some ⟨u.heap.size, 0, none⟩) 4 (le4 s) :=
  reads_new u (le4 s) (by intro x hx; simp [le4] at hx; omega)
set_option maxHeartbeats 1000000 in
set_option maxRecDepth 100000 in
theorem rsealed_any (a : Option Addr) (n c : Nat) (bs : List Int) (w : World) (hr : Reads w a n bs) (hn : n ≤ 140737488355000) :
    Calls Tryd.prog 6 #[.slice a n c] w fun e w' => ∃ g cc, e = .returned (.slice (some ⟨g, 0, none⟩) (n + 4) cc) ∧ Own w' w.heap.size g (n + 4) cc (sealL bs) ∧ Below w.heap.size w w' := by
  obtain ⟨s, hs⟩ : ∃ s, sumL (nats bs) = s := ⟨_, rfl⟩
  have HS : Hid (sumL (nats bs) = s) := hs
  have hs4 : s < 4294967296 := by rw [← hs]; exact sumL_lt hr.2.1
  have w0 : IntKind.u8.wrap (s : Int) = ((s % 256 : Nat) : Int) := by rw [IntKind.wrap_u8]; omega
  have w1 : IntKind.u8.wrap ((s : Int) / 256) = ((s / 256 % 256 : Nat) : Int) := by rw [IntKind.wrap_u8]; omega
  have w2 : IntKind.u8.wrap ((s : Int) / 65536) = ((s / 65536 % 256 : Nat) : Int) := by rw [IntKind.wrap_u8]; omega
  have w3 : IntKind.u8.wrap ((s : Int) / 16777216) = ((s / 16777216 % 256 : Nat) : Int) := by rw [IntKind.wrap_u8]; omega
  have HR : Hid (Reads w a n bs) := hr
  have HTK : Hid ((bs.drop 0).take (n - 0) = bs) := by unfold Hid; rw [List.drop_zero, List.take_of_length_le (by have := hr.1; omega)]
  clear hs hr
  go_enter Tryd.func6, Tryd.ntmps6
  go_wp2_with (first
    | (go_at_call 25; refine (rsum_any _ _ _ bs _ (by omega) HR.out).mono ?_; rintro e t1 ⟨rfl, ht1⟩; rw [← ht1, HS.out]; clear ht1)
    | (go_at_call 26; refine (part_any a n c 0 n bs _ (by omega) (by omega) (by omega) HR.out).mono ?_; rintro e u1 ⟨v1, rfl, own1, bl⟩; rw [HTK.out, Nat.sub_zero] at own1
       have HB6 : Hid (Below w.heap.size w u1) := bl
       have HO6 : Hid (u1.ownsRow w.heap.size 5 1 v1 n (bs.map (Value.int .u8))) := own1
       clear own1 bl)
    | (at_builtin; refine wpList_append_reads rfl (.tmp 9) (.tmp 21) rfl w.heap.size v1 n bs rfl (HO6.out.alloc _) _ 4 4 (le4 s) rfl (le4_row u1 s) (by omega) (by have := HB6.out.size; simp; omega) ?_; intro v2 w2 own2 grow2; obtain ⟨g2, c2, rfl, hc21, hc22, hg21, hg22⟩ := own_shape own2 (by omega)
       have HB7 : Hid (Below w.heap.size w w2) := (HB6.out.alloc HB6.out.size _).grown grow2 (by have := HB6.out.size; simp; omega) (fun q hq => (HO6.out.lt q hq).1)
       have HO7 : Hid (Own w2 w.heap.size g2 (n + 4) c2 (bs ++ le4 s)) := own2
       clear own2 grow2 hc21 hc22 hg21 hg22))
  go_ret
  exact ⟨g2, c2, rfl, by unfold sealL; rw [HS.out]; exact HO7.out, HB7.out⟩
/-- What the laws leave out. -/
def lrg (bs : List Int) : Bool := if bs.length < 10 then false else decide ((4194304 : Int) < ((bs.getD 5 0 + 256 * bs.getD 6 0) * (bs.getD 7 0 + 256 * bs.getD 8 0)) * (259 * bs.getD 9 0 + 54))
set_option maxHeartbeats 2000000 in
set_option maxRecDepth 100000 in
theorem large_fn (bk off n c : Nat) (bs : List Int) (w : World) (hr : Reads w (some ⟨bk, off, none⟩) n bs) (hn : n ≤ 140737488355000) :
    Calls Tryd.prog 5 #[.slice (some ⟨bk, off, none⟩) n c] w fun e w' => ∃ (q : Nat), e = .returned (.bool (lrg bs)) ∧ w' = w.drewN q := by
  by_cases h : n < 10
  · have d1 : (n : Int) < 10 := by omega
    go_enter Tryd.func5, Tryd.ntmps5
    go_wp2
    go_ret
    have e9 : lrg bs = false := by unfold lrg; rw [if_pos (by have := hr.1; omega)]
    exact ⟨0, by rw [e9]; rfl, rfl⟩
  · have d1 : ¬ (n : Int) < 10 := by omega
    obtain ⟨b', o', hb, hbk, hcell⟩ := hr.pos (by omega)
    have hb2 := Option.some.inj hb
    injection hb2 with hb3 hb4
    subst hb3 hb4
    have k5 := hcell 5 (by omega)
    have k6 := hcell 6 (by omega)
    have k7 := hcell 7 (by omega)
    have k8 := hcell 8 (by omega)
    have k9 := hcell 9 (by omega)
    have j5 : (5 : Int) < (n : Int) := by omega
    have j6 : (6 : Int) < (n : Int) := by omega
    have j7 : (7 : Int) < (n : Int) := by omega
    have j8 : (8 : Int) < (n : Int) := by omega
    have j9 : (9 : Int) < (n : Int) := by omega
    have b5 := byt_getD hr.2.1 5
    have b6 := byt_getD hr.2.1 6
    have b7 := byt_getD hr.2.1 7
    have b8 := byt_getD hr.2.1 8
    have b9 := byt_getD hr.2.1 9
    have HL : Hid (lrg bs = decide ((4194304 : Int) < ((bs.getD 5 0 + 256 * bs.getD 6 0) * (bs.getD 7 0 + 256 * bs.getD 8 0)) * (259 * bs.getD 9 0 + 54))) := by unfold Hid lrg; rw [if_neg (by have := hr.1; omega)]
    generalize bs.getD 5 0 = z5 at k5 b5 HL
    generalize bs.getD 6 0 = z6 at k6 b6 HL
    generalize bs.getD 7 0 = z7 at k7 b7 HL
    generalize bs.getD 8 0 = z8 at k8 b8 HL
    generalize bs.getD 9 0 = z9 at k9 b9 HL
    obtain ⟨A, hA⟩ : ∃ A, z5 + 256 * z6 = A := ⟨_, rfl⟩
    obtain ⟨B, hB⟩ : ∃ B, z7 + 256 * z8 = B := ⟨_, rfl⟩
    obtain ⟨Q, hQ⟩ : ∃ Q, 259 * z9 + 54 = Q := ⟨_, rfl⟩
    have hA1 : 0 ≤ A ∧ A ≤ 65535 := by omega
    have hB1 : 0 ≤ B ∧ B ≤ 65535 := by omega
    have hQ1 : 0 ≤ Q ∧ Q ≤ 66099 := by omega
    obtain ⟨P, hP⟩ : ∃ P, A * B = P := ⟨_, rfl⟩
    have hP1 : 0 ≤ P ∧ P ≤ 4294836225 := by
      rw [← hP]
      exact ⟨Int.mul_nonneg hA1.1 hB1.1, by have := Int.mul_le_mul hA1.2 hB1.2 hB1.1 (by omega : (0 : Int) ≤ 65535); omega⟩
    obtain ⟨R, hR⟩ : ∃ R, P * Q = R := ⟨_, rfl⟩
    have hR1 : 0 ≤ R ∧ R ≤ 300000000000000 := by
      rw [← hR]
      exact ⟨Int.mul_nonneg hP1.1 hQ1.1, by have := Int.mul_le_mul hP1.2 hQ1.2 hQ1.1 (by omega : (0 : Int) ≤ 4294836225); omega⟩
    have HL2 : Hid (lrg bs = decide ((4194304 : Int) < R)) := by unfold Hid; rw [HL.out, hA, hB, hQ, hP, hR]
    clear hcell hr HL
    go_enter Tryd.func5, Tryd.ntmps5
    go_wp2
    go_quiet (fail)
    go_wp2
    go_ret
    refine ⟨_, ?_, rfl⟩
    rw [HL2.out]
    first | rfl | (congr 2; done) | simp
end Go.Proofs.YteefekhlbillfaaDoor
