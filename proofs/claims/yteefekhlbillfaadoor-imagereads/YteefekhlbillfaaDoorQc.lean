/-
  SEAT YteefekhlbillfaaDoor: the reference's Read: the marks that a head tells.
-/
import Derived.Test.YteefekhlbillfaaDoorQb
namespace Go.Proofs.YteefekhlbillfaaDoor
open Go.RowKit
set_option linter.unusedVariables false

/-- The bit number j of bytes. -/
def bitAt (X : List Int) (j : Nat) : Bool := (X.getD (j / 8) 0).toNat / 2 ^ (j % 8) % 2 == 1

theorem unbits_getD (b : Nat) (X : List Int) (j : Nat) : (unbits b X).getD j false = if j < b then bitAt X j else false := by
  unfold unbits
  rw [List.getD_eq_getElem?_getD]
  by_cases h : j < b
  · rw [if_pos h, List.getElem?_eq_getElem (by simpa using h)]
    simp [bitAt]
  · rw [if_neg h, List.getElem?_eq_none (by simp; omega)]
    rfl

theorem bits_sum (mk : List Bool) (i x : Nat) (c : Nat) (h : ∀ j, j < c → x / 2 ^ j % 2 = if mk.getD (8 * i + j) false then 1 else 0) : bitsTo mk i c = x % 2 ^ c := by
  induction c with
  | zero => simp [bitsTo, Nat.mod_one]
  | succ c ih =>
    rw [bitsTo, ih (fun j hj => h j (by omega)), Nat.mod_pow_succ, h c (by omega)]
    split <;> omega

theorem bitAt_dec (X : List Int) (i j : Nat) (hj : j < 8) : ((X.getD i 0).toNat / 2 ^ j % 2) = if bitAt X (8 * i + j) then 1 else 0 := by
  unfold bitAt
  rw [show (8 * i + j) / 8 = i by omega, show (8 * i + j) % 8 = j by omega]
  rcases Nat.mod_two_eq_zero_or_one ((X.getD i 0).toNat / 2 ^ j) with h | h <;> rw [h] <;> rfl

theorem unbits_ok {b : Nat} {X : List Int} (hX : Byt X) (hl : X.length = (b + 7) / 8) : bitsOf (unbits b X) = X ↔ ∀ j, b ≤ j → j < 8 * ((b + 7) / 8) → bitAt X j = false := by
  have hlen := unbits_length b X
  constructor
  · intro h j h1 h2
    have h3 := bitsOf_getD (unbits b X) (j / 8) (by rw [hlen]; omega)
    rw [h] at h3
    have h4 := bitsTo_bit (unbits b X) (j / 8) 8 (j % 8) (by omega)
    rw [show 8 * (j / 8) + j % 8 = j by omega, unbits_getD, if_neg (show ¬ j < b by omega)] at h4
    unfold bitAt
    rw [h3, Int.toNat_natCast, h4]
    rfl
  · intro h
    apply List.ext_getElem
    · rw [bitsOf_length, hlen, hl]
    · intro i h1 h2
      have h3 := bitsOf_getD (unbits b X) i (by rw [bitsOf_length] at h1; exact h1)
      rw [List.getD_eq_getElem?_getD, List.getElem?_eq_getElem h1] at h3
      have h4 := byt_getD hX i
      have h6 : X.getD i 0 = X[i] := by rw [List.getD_eq_getElem?_getD, List.getElem?_eq_getElem h2]; rfl
      have h5 : bitsTo (unbits b X) i 8 = (X.getD i 0).toNat % 2 ^ 8 := bits_sum _ _ _ 8 (fun j hj => by
        rw [bitAt_dec X i j hj, unbits_getD]
        by_cases h9 : 8 * i + j < b
        · rw [if_pos h9]
        · rw [if_neg h9, h (8 * i + j) (by omega) (by omega)])
      rw [Option.getD_some] at h3
      rw [h3, h5, ← h6]
      have : (2 : Nat) ^ 8 = 256 := rfl
      omega

theorem unbits_succ (k : Nat) (X : List Int) : unbits (k + 1) X = unbits k X ++ [bitAt X k] := by
  unfold unbits bitAt
  rw [List.range_succ, List.map_append, List.map_singleton]

theorem bitAt_drop (bs : List Int) (N j : Nat) (h : j / 8 < N) : bitAt ((bs.drop 10).take N) j = ((bs.getD (10 + j / 8) 0).toNat / 2 ^ (j % 8) % 2 == 1) := by
  unfold bitAt
  congr 4
  rw [List.getD_eq_getElem?_getD, List.getElem?_take, if_pos h, List.getElem?_drop, List.getD_eq_getElem?_getD]

theorem oneB (u : World) (x : Bool) : ReadsB (u.alloc (.cells #[.bool x] 4)) (some ⟨u.heap.size, 0, none⟩) 1 [x] := by
  refine ⟨rfl, by simp, fun y hy i hi => ?_⟩
  cases hy
  obtain rfl : i = 0 := by omega
  rw [plain_add, Nat.zero_add]
  have h9 := heap_alloc_new u (.cells #[.bool x] 4)
  simp only [World.cell?, h9]
  rfl

set_option maxHeartbeats 1000000 in
set_option maxRecDepth 100000 in
theorem rmarks_short (a : Option Addr) (n c : Nat) (bs : List Int) (b p s : Nat) (w : World) (hr : Reads w a n bs) (hn : n ≤ 200000000000000) (hb : 8 ≤ b ∧ b ≤ 4096) (N8 : Nat) (hN : (b + 7) / 8 = N8) (hs : n < 10 + N8) :
    Calls Tryd.prog 28 #[.slice a n c, .agg #[.int .i64 (b : Int), .int .i64 (p : Int), .int .i64 (s : Int)]] w fun e w' => e = .returned (.tuple #[.slice none 0 0, .int .i64 0, .int .i64 10]) ∧ Below w.heap.size w w' := by
  have e1 : ((b : Int) + 7) / 8 = (N8 : Int) := by omega
  have hN9 : N8 ≤ 600 := by omega
  have d1 : (n : Int) < 10 + (N8 : Int) := by omega
  clear hN hs hr
  go_enter Tryd.func28, Tryd.ntmps28
  go_wp2_with fail
  exact bodyPost_ret (v := .tuple #[.slice none 0 0, .int .i64 0, .int .i64 10]) (by simp [results, Tryd.results28, go_sem]) rfl ⟨rfl, below_alloc w _⟩
set_option maxHeartbeats 2000000 in
set_option maxRecDepth 100000 in
theorem rmarks_long (a : Option Addr) (n c : Nat) (bs : List Int) (b p s : Nat) (w : World) (hr : Reads w a n bs) (hn : n ≤ 200000000000000) (hb : 8 ≤ b ∧ b ≤ 4096) (N8 : Nat) (hN : (b + 7) / 8 = N8) (hs : 10 + N8 ≤ n) :
    Calls Tryd.prog 28 #[.slice a n c, .agg #[.int .i64 (b : Int), .int .i64 (p : Int), .int .i64 (s : Int)]] w fun e w' => (bitsOf (unbits b ((bs.drop 10).take N8)) = (bs.drop 10).take N8 ∧ (∃ v, e = .returned (.tuple #[v, .int .i64 (10 + (N8 : Int)), .int .i64 0]) ∧ w'.ownsRow w.heap.size 4 1 v b ((unbits b ((bs.drop 10).take N8)).map Value.bool)) ∨ bitsOf (unbits b ((bs.drop 10).take N8)) ≠ (bs.drop 10).take N8 ∧ e = .returned (.tuple #[.slice none 0 0, .int .i64 0, .int .i64 47])) ∧ Below w.heap.size w w' := by
  have e1 : ((b : Int) + 7) / 8 = (N8 : Int) := by omega
  have hN9 : N8 ≤ 600 := by omega
  have d1 : ¬ (n : Int) < 10 + (N8 : Int) := by omega
  have hlen := hr.1
  obtain ⟨X, hX⟩ : ∃ X, (bs.drop 10).take N8 = X := ⟨_, rfl⟩
  have HXL : Hid (X.length = (b + 7) / 8) := by unfold Hid; rw [← hX, List.length_take, List.length_drop]; omega
  have HXB : Hid (Byt X) := fun x hx => hr.2.1 x (List.mem_of_mem_drop (List.mem_of_mem_take (by rw [hX]; exact hx)))
  have HXA : Hid (∀ j, j < 8 * N8 → bitAt X j = ((bs.getD (10 + j / 8) 0).toNat / 2 ^ (j % 8) % 2 == 1)) := fun j hj => by rw [← hX]; exact bitAt_drop bs N8 j (by omega)
  have HN : Hid ((b + 7) / 8 = N8) := hN
  have hb8 : b ≤ 8 * N8 := by omega
  obtain ⟨bk, off, rfl, hbk, hcell⟩ := hr.pos (by omega)
  have HR : Hid (Reads w (some ⟨bk, off, none⟩) n bs) := hr
  rw [hX]
  clear hr hX hcell hN
  go_enter Tryd.func28, Tryd.ntmps28
  go_wp2_with fail
  go_loopw [8, 9] (fun s8 s9 wr => ∃ i : Nat, i ≤ 8 * N8 ∧ s9 = .int .i64 (i : Int) ∧ Hid (wr.ownsRow (w.heap.size + 1) 4 1 s8 (min i b) ((unbits (min i b) X).map Value.bool)) ∧ Hid (∀ j, b ≤ j → j < i → bitAt X j = false) ∧ Hid (Below w.heap.size w wr) ∧ Hid (wr.heap[w.heap.size]? = some (.cells #[.int .i64 (b : Int), .int .i64 (p : Int), .int .i64 (s : Int)] 27 (0, 0)))) (fun _ i _ => 8 * N8 - (intOf i).toNat)
  case atStart => exact ⟨0, Nat.zero_le _, rfl, by rw [Nat.zero_min]; exact World.ownsRow_nil _ _ _ _, fun j h1 h2 => by omega, below_alloc w _, heap_alloc_new w _⟩
  case round =>
    obtain ⟨i, hi, rfl, HO, HZ, HB, HM⟩ := hrel
    obtain ⟨x0, x1, x2, x3, x4, x5⟩ := blk3_cells HM.out
    clear x1 x2 x4 x5
    by_cases hlt : i < 8 * N8
    · have dl : (i : Int) < 8 * (N8 : Int) := by omega
      obtain ⟨q, hq⟩ : ∃ q, i / 8 = q := ⟨_, rfl⟩
      obtain ⟨r, hrr⟩ : ∃ r, i % 8 = r := ⟨_, rfl⟩
      have hq2 : q < N8 := by omega
      have hr2 : r < 8 := by omega
      have e2 : (i : Int) / 8 = (q : Int) := by omega
      have e3 : (i : Int) % 8 = (r : Int) := by omega
      have z1 : 10 + (q : Int) < (n : Int) := by omega
      have hk : wr.cell? ⟨bk, off + (10 + q), none⟩ = some (.int .u8 (bs.getD (10 + q) 0)) := (HR.out.below HB.out).at (10 + q) (by omega)
      have hxa := HXA.out i hlt
      rw [hq, hrr] at hxa
      have hby := byt_getD HR.out.2.1 (10 + q)
      obtain ⟨x, hx⟩ := Int.eq_ofNat_of_zero_le hby.1
      rw [hx] at hk hxa hby
      rw [Int.toNat_natCast] at hxa
      have hx2 : IntKind.i64.wrap (x : Int) = (x : Int) := by rw [IntKind.wrap_i64]; omega
      have wi : IntKind.i64.wrap ((i : Int) + 1) = (i : Int) + 1 := by rw [IntKind.wrap_i64]; omega
      have HXI : Hid (bitAt X i = (x / 2 ^ r % 2 == 1)) := hxa
      have rr : ¬ (r : Int) < 0 := by omega
      clear hxa hx hq hrr
      have eon : (((x : Int) / 2 ^ r).tmod 2 == 1) = bitAt X i := by
        have h1 : (x : Int) / 2 ^ r = ((x / 2 ^ r : Nat) : Int) := by rw [Int.natCast_ediv]; norm_cast
        rw [HXI.out, h1, Int.tmod_eq_emod_of_nonneg (Int.natCast_nonneg _)]
        rcases Nat.mod_two_eq_zero_or_one (x / 2 ^ r) with h | h
        · rw [show ((x / 2 ^ r : Nat) : Int) % 2 = 0 by omega, h]; rfl
        · rw [show ((x / 2 ^ r : Nat) : Int) % 2 = 1 by omega, h]; rfl
      obtain ⟨on, hon⟩ : ∃ on, bitAt X i = on := ⟨_, rfl⟩
      have HON : Hid (bitAt X i = on) := hon
      rw [hon] at eon
      clear HXI hon
      by_cases hib : i < b
      · have db : (i : Int) < (b : Int) := by omega
        have HO1 : Hid (wr.ownsRow (w.heap.size + 1) 4 1 u8 i ((unbits i X).map Value.bool)) := by have h9 := HO.out; rw [Nat.min_eq_left (by omega)] at h9; exact h9
        clear HO
        go_wp2_with (first
          | (at_builtin; refine wpList_append_readsB rfl (.tmp 42) (.tmp 44) rfl (w.heap.size + 1) u8 i (unbits i X) rfl (HO1.out.alloc _) _ 1 1 [on] rfl (oneB wr on) (by omega) (by have := lt_of_bk HM.out; simp; omega) ?_; intro v2 w2 own2 grow2
             have HB2 : Hid (Below w.heap.size w w2) := (HB.out.alloc HB.out.size _).grown grow2 (by have := HB.out.size; simp; omega) (fun q hq => by have := (HO1.out.lt q hq).1; omega)
             have HM2 : Hid (w2.heap[w.heap.size]? = some (.cells #[.int .i64 (b : Int), .int .i64 (p : Int), .int .i64 (s : Int)] 27 (0, 0))) := (grow2.block _ (by have := lt_of_bk HM.out; simp; omega) (fun e => by have := (HO1.out.lt _ e.symm).1; omega)).trans ((Below.heap_alloc wr _ _ (lt_of_bk HM.out)).trans HM.out)
             have HO2 : Hid (w2.ownsRow (w.heap.size + 1) 4 1 v2 (i + 1) ((unbits (i + 1) X).map Value.bool)) := by unfold Hid; rw [unbits_succ, HON.out]; exact own2
             clear own2 grow2))
        go_roundw
        case rel => exact ⟨i + 1, by omega, by go_num, by rw [Nat.min_eq_left (by omega)]; exact HO2.out, fun j h1 h2 => by omega, HB2.out, HM2.out⟩
        case measure => simp [intOf]; omega
      · have db : ¬ (i : Int) < (b : Int) := by omega
        cases on with
        | true =>
          go_wp2_with fail
          refine bodyPost_ret (v := .tuple #[.slice none 0 0, .int .i64 0, .int .i64 47]) (by simp [results, Tryd.results28, go_sem]) rfl ⟨Or.inr ⟨fun h => ?_, rfl⟩, HB.out⟩
          have h9 := (unbits_ok HXB.out HXL.out).1 h i (by omega) (by rw [HN.out]; exact hlt)
          rw [HON.out] at h9
          cases h9
        | false =>
          go_wp2_with fail
          go_roundw
          case rel => exact ⟨i + 1, by omega, by go_num, by have h9 := HO.out; rw [Nat.min_eq_right (by omega)] at h9 ⊢; exact h9, fun j h1 h2 => by
            rcases Nat.lt_or_ge j i with h8 | h8
            · exact HZ.out j h1 h8
            · obtain rfl : j = i := by omega
              exact HON.out, HB.out, HM.out⟩
          case measure => simp [intOf]; omega
    · have dl : ¬ (i : Int) < 8 * (N8 : Int) := by omega
      obtain rfl : i = 8 * N8 := by omega
      have HO1 : Hid (wr.ownsRow (w.heap.size + 1) 4 1 u8 b ((unbits b X).map Value.bool)) := by have h9 := HO.out; rw [Nat.min_eq_right (by omega)] at h9; exact h9
      clear HO
      go_wp2_with fail
      exact bodyPost_ret (v := .tuple #[u8, .int .i64 (10 + (N8 : Int)), .int .i64 0]) (by simp [results, Tryd.results28, go_sem]) rfl ⟨Or.inl ⟨(unbits_ok HXB.out HXL.out).2 (by rw [HN.out]; exact HZ.out), u8, rfl, ownsRow_base HO1.out (by omega)⟩, HB.out⟩

end Go.Proofs.YteefekhlbillfaaDoor
