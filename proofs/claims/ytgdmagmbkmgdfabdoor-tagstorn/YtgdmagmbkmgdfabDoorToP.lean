/-
  SEAT YtgdmagmbkmgdfabDoor: a torn laying; what is told of it.
-/
import Derived.Test.YtgdmagmbkmgdfabDoorTornP
import Derived.Test.YtgdmagmbkmgdfabDoorRdF
import Derived.Test.YtgdmagmbkmgdfabDoorHc
namespace Go.Proofs.YtgdmagmbkmgdfabDoor
open Go.RowKit
set_option linter.unusedVariables false

theorem bit8 : ∀ t : Nat, t < 8 → ∀ d : Nat, d < 256 → bits .and .u8 ((d : Int) / 2 ^ t) 1 = ((d / 2 ^ t % 2 : Nat) : Int) := by decide +kernel

theorem torn_all (up : Bool) (ns ms : List Nat) (hn : ∀ x ∈ ns, x < 256) (hm : ∀ x ∈ ms, x < 256) (L T : List Nat) (hL : L = layLN (ns ++ [colN ns])) (hT : T = tornL up L ms) (len : Nat) (hlen : L.length = len) :
    ((chgL L T (8 * len)).length ≤ 1 ∧ readN T = some (ns, lastL (chgL L T (8 * len)))) ∨ (2 ≤ (chgL L T (8 * len)).length ∧ readN T = none) := by
  have hy : ∀ y ∈ ns ++ [colN ns], y < 256 := by
    intro y hy
    rcases List.mem_append.1 hy with h1 | h1
    · exact hn y h1
    · simp at h1; subst h1; exact col_lt ns hn
  have hl := layLN_length (ns ++ [colN ns])
  subst hlen
  have hL256 : ∀ x ∈ L, x < 256 := by rw [hL]; exact layLN_lt _
  have hT256 : ∀ x ∈ T, x < 256 := by rw [hT]; exact tornL_lt up L ms hL256 hm
  have hTl : T.length = L.length := by rw [hT, tornL_length]
  match hc : chgL L T (8 * L.length) with
  | [] =>
    have e := chg_none L hL256 T hT256 hTl hc
    refine Or.inl ⟨by simp, ?_⟩
    rw [e, hL, read_lay ns hn]
    rfl
  | [i] =>
    obtain ⟨hi, e⟩ := chg_one L hL256 T hT256 hTl i hc
    refine Or.inl ⟨by simp, ?_⟩
    have hr := read_turn (ns ++ [colN ns]) hy (col_seal ns) i (by rw [hL, hl] at hi; omega)
    have ht : (ns ++ [colN ns]).take ((ns ++ [colN ns]).length - 1) = ns := by simp
    rw [ht, ← hL] at hr
    rw [e, hr]
    rfl
  | a :: b :: r =>
    refine Or.inr ⟨by simp, ?_⟩
    rw [hT, hL]
    refine chg_two up _ ms hy hm ?_
    rw [← hL, ← hT, hc]
    simp

theorem mix_getD (T L : List Nat) (k : Nat) (hk : k < L.length) (hl : T.length = L.length) : (T.take k ++ L.drop k).getD k 0 = L.getD k 0 := by
  rw [List.getD_eq_getElem?_getD, List.getElem?_append_right (by simp; omega), List.getElem?_drop, List.getD_eq_getElem?_getD]
  congr 2
  simp
  omega

theorem mix_set (T L : List Nat) (k : Nat) (hk : k < L.length) (hl : T.length = L.length) : (T.take k ++ L.drop k).set k (T.getD k 0) = T.take (k + 1) ++ L.drop (k + 1) := by
  have h1 : (T.take k).length = k := by simp; omega
  rw [List.set_append_right _ _ (by omega), h1, Nat.sub_self, List.drop_eq_getElem_cons hk, List.set_cons_zero, List.take_succ_eq_append_getElem (l := T) (by omega), List.getD_eq_getElem?_getD, List.getElem?_eq_getElem (by omega), List.append_assoc]
  rfl

theorem chg_succ1 (L T : List Nat) (k t : Nat) (ht : t < 8) (h : (L.getD k 0 ^^^ T.getD k 0) / 2 ^ t % 2 = 1) : chgL L T (8 * k + t + 1) = chgL L T (8 * k + t) ++ [8 * k + t] := by
  rw [chgL_succ]
  have : chgAt L T (8 * k + t) = true := by
    unfold chgAt
    rw [show (8 * k + t) / 8 = k by omega, show (8 * k + t) % 8 = t by omega, h]
    rfl
  rw [this, if_pos rfl]

theorem chg_succ0 (L T : List Nat) (k t : Nat) (ht : t < 8) (h : (L.getD k 0 ^^^ T.getD k 0) / 2 ^ t % 2 = 0) : chgL L T (8 * k + t + 1) = chgL L T (8 * k + t) := by
  rw [chgL_succ]
  have : chgAt L T (8 * k + t) = false := by
    unfold chgAt
    rw [show (8 * k + t) / 8 = k by omega, show (8 * k + t) % 8 = t by omega, h]
    rfl
  rw [this]
  simp


theorem and_all : ∀ z : Nat, z < 256 → z &&& (0 ^^^ 255) = z := by decide +kernel
theorem opN_zero (up : Bool) (z : Nat) (h : z < 256) : opN up z 0 = z := by
  unfold opN
  split
  · exact Nat.or_zero z
  · exact and_all z h
theorem chg_rest (L T : List Nat) (a d : Nat) (hz : ∀ p, a ≤ p → p < a + d → chgAt L T p = false) : chgL L T (a + d) = chgL L T a := by
  induction d with
  | zero => rfl
  | succ d ih =>
    rw [← Nat.add_assoc, chgL_succ, hz (a + d) (by omega) (by omega), ih fun p h1 h2 => hz p h1 (by omega)]
    simp
theorem torn_at (up : Bool) (L ms : List Nat) (hL : ∀ x ∈ L, x < 256) (q : Nat) (h1 : ms.length ≤ q) (h2 : q < L.length) : (tornL up L ms).getD q 0 = L.getD q 0 := by
  have h0 : ms.getD q 0 = 0 := by rw [List.getD_eq_getElem?_getD, List.getElem?_eq_none h1]; rfl
  rw [tornL_getD up L ms q h2, h0, opN_zero up _ (at_lt hL q)]
theorem torn_end (up : Bool) (L ms : List Nat) (hL : ∀ x ∈ L, x < 256) (k : Nat) (hk : k ≤ L.length) (h : L.length ≤ k ∨ ms.length ≤ k) :
    (tornL up L ms).take k ++ L.drop k = tornL up L ms ∧ chgL L (tornL up L ms) (8 * L.length) = chgL L (tornL up L ms) (8 * k) := by
  have hl := tornL_length up L ms
  have hat : ∀ q, k ≤ q → q < L.length → (tornL up L ms).getD q 0 = L.getD q 0 := fun q h1 h2 => torn_at up L ms hL q (by omega) h2
  constructor
  · refine ext_getD _ _ (by simp; omega) fun i hi => ?_
    have hi2 : i < L.length := by simp at hi; omega
    by_cases hlt : i < k
    · rw [List.getD_eq_getElem?_getD, List.getElem?_append_left (by simp; omega), List.getElem?_take_of_lt hlt, ← List.getD_eq_getElem?_getD]
    · rw [List.getD_eq_getElem?_getD, List.getElem?_append_right (by simp; omega), List.getElem?_drop, ← List.getD_eq_getElem?_getD]
      have e : k + (i - ((tornL up L ms).take k).length) = i := by simp; omega
      rw [e, hat i (by omega) hi2]
  · have e : 8 * L.length = 8 * k + (8 * L.length - 8 * k) := by omega
    rw [e]
    refine chg_rest _ _ _ _ fun p h1 h2 => ?_
    unfold chgAt
    rw [hat (p / 8) (by omega) (by omega), Nat.xor_self]
    simp

theorem last_neg (L : List Nat) : (lastL L == -1) = (((L.length : Nat) : Int) == 0) := by
  unfold lastL
  cases h : L.getLast? with
  | none =>
    have : L = [] := by simpa using h
    subst this
    rfl
  | some p =>
    have hne : L ≠ [] := by rintro rfl; simp at h
    have h1 : 0 < L.length := List.length_pos_iff.2 hne
    have h2 : (((p / 2 : Nat) : Int) == -1) = false := by simp; omega
    have h3 : (((L.length : Nat) : Int) == 0) = false := by simp; omega
    rw [h3]
    exact h2

/-- Of these bytes, n of whose bits are wrong, these tags are told. -/
def Good (n0 n1 n2 n3 n4 n5 n6 n7 : Int) (xs : List Nat) (n : Int) : Prop :=
  (∀ x ∈ xs, x < 256) ∧ ((∃ zs q b, readN xs = some (zs, q) ∧ tagsOf (cst zs) = T8 n0 n1 n2 n3 n4 n5 n6 n7 ∧ n ≤ 1 ∧ (q == -1) = b ∧ (n == 0) = b) ∨ (1 < n ∧ readN xs = none))

/-- A laying of these tags. -/
structure Lain (n0 n1 n2 n3 n4 n5 n6 n7 : Int) (L : List Nat) : Prop where
  eq : railL (tagL n0 n1 n2 n3 n4 n5 n6 n7) = cst L
  len : L.length = 54
  lt : ∀ x ∈ L, x < 256
  torn : ∀ (up : Bool) (ms : List Nat), (∀ x ∈ ms, x < 256) → Good n0 n1 n2 n3 n4 n5 n6 n7 (tornL up L ms) (((chgL L (tornL up L ms) (8 * 54)).length : Nat) : Int)
  one : ∀ i, i < 432 → Good n0 n1 n2 n3 n4 n5 n6 n7 (turnN L i) 1
  two : ∀ i j, i < 432 → j < 432 → i ≠ j → Good n0 n1 n2 n3 n4 n5 n6 n7 (turnN (turnN L i) j) 2
  back : ∀ i, i < 432 → Good n0 n1 n2 n3 n4 n5 n6 n7 (turnN (turnN L i) i) 0

theorem lain_of (n0 n1 n2 n3 n4 n5 n6 n7 : Int) (h2 : 0 ≤ n2) (h3 : 0 ≤ n3) (hs : Small n0 n1 n2 n3 n4 n5 n6 n7) : ∃ L, Lain n0 n1 n2 n3 n4 n5 n6 n7 L := by
  have ht := tagsOf_tagL n0 n1 n2 n3 n4 n5 n6 n7 h2 h3 hs
  obtain ⟨hc, hx⟩ := cst_of (tagL n0 n1 n2 n3 n4 n5 n6 n7) (tagL_range n0 n1 n2 n3 n4 n5 n6 n7)
  obtain ⟨ns, hns⟩ : ∃ xs, xs = (tagL n0 n1 n2 n3 n4 n5 n6 n7).map Int.toNat := ⟨_, rfl⟩
  rw [← hns] at hc hx
  have hnl : ns.length = 26 := by rw [hns, List.length_map, tagL_length]
  rw [← hc] at ht
  have e1 : railL (tagL n0 n1 n2 n3 n4 n5 n6 n7) = cst (layLN (ns ++ [colN ns])) := by
    rw [← hc, railL, col_cst ns hx, ← lay_cst]
    simp [cst]
  have hy : ∀ y ∈ ns ++ [colN ns], y < 256 := by
    intro y hy
    rcases List.mem_append.1 hy with h1 | h1
    · exact hx y h1
    · simp at h1; subst h1; exact col_lt ns hx
  have hyl : (ns ++ [colN ns]).length = 27 := by simp [hnl]
  have hl := layLN_length (ns ++ [colN ns])
  rw [hyl] at hl
  have h0 := col_seal ns
  have htk : (ns ++ [colN ns]).take ((ns ++ [colN ns]).length - 1) = ns := by simp
  have hlt : ∀ x ∈ layLN (ns ++ [colN ns]), x < 256 := layLN_lt _
  refine ⟨layLN (ns ++ [colN ns]), e1, hl, hlt, fun up ms hm => ?_, fun i hi => ?_, fun i j hi hj hne => ?_, fun i hi => ?_⟩
  · refine ⟨tornL_lt up _ ms hlt hm, ?_⟩
    rcases torn_all up ns ms hx hm _ _ rfl rfl 54 hl with ⟨h4, h5⟩ | ⟨h4, h5⟩
    · exact Or.inl ⟨ns, _, _, h5, ht, by omega, last_neg _, rfl⟩
    · exact Or.inr ⟨by omega, h5⟩
  · refine ⟨turnN_lt _ i hlt, Or.inl ⟨ns, ((i / 2 : Nat) : Int), false, ?_, ht, by omega, by simp; omega, rfl⟩⟩
    have hr := read_turn _ hy h0 i (by omega)
    rw [htk] at hr
    exact hr
  · exact ⟨turnN_lt _ j (turnN_lt _ i hlt), Or.inr ⟨by omega, read_turn2 _ hy h0 i j (by omega) (by omega) hne⟩⟩
  · rw [turn_back _ i (by omega)]
    exact ⟨hlt, Or.inl ⟨ns, -1, true, read_lay ns hx, ht, by omega, rfl, rfl⟩⟩

set_option maxHeartbeats 1000000 in
set_option maxRecDepth 100000 in
theorem told_any (n0 n1 n2 n3 n4 n5 n6 n7 : Int) (a : Option Addr) (cap : Nat) (xs : List Nat) (n : Int) (w : World) (hT : Tab w) (hg : Good n0 n1 n2 n3 n4 n5 n6 n7 xs n) (h : Reads w a 54 (cst xs)) :
    Calls Tryd.prog 8 #[T8 n0 n1 n2 n3 n4 n5 n6 n7, .slice a 54 cap, .int .i64 n] w fun e w' => e = .returned (.bool true) ∧ Below w.heap.size w w' := by
  have bA := (Below.refl w.heap.size w).alloc (Nat.le_refl _) (.cells #[.int .i64 n0, .int .i64 n1, .int .u64 n2, .int .u64 n3, .int .i64 n4, .int .i64 n5, .int .i64 n6, .int .i64 n7] 24)
  have hA := h.below bA
  have hTA := hT.below bA
  have HBX : Hid (∀ u, Below (w.heap.size + 1) (w.alloc (.cells #[.int .i64 n0, .int .i64 n1, .int .u64 n2, .int .u64 n3, .int .i64 n4, .int .i64 n5, .int .i64 n6, .int .i64 n7] 24)) u → Box u w.heap.size n0 n1 n2 n3 n4 n5 n6 n7) := fun u hu => (Box.made w n0 n1 n2 n3 n4 n5 n6 n7).below (by simpa using hu)
  obtain ⟨hx, ⟨zs, q, b, hr, ht, hn, hb1, hb2⟩ | ⟨hn, hr⟩⟩ := hg
  · have hl := lift8_some a cap xs zs q _ hTA hx hA hr
    rw [ht] at hl
    have HL : Hid _ := fun (_ : Unit) => hl
    have hd : decide (1 < n) = false := decide_eq_false (by omega)
    clear hl bA hA hTA hx hr ht h hT
    go_enter Tryd.func8, Tryd.ntmps8
    go_wp2_with (first
      | (go_at_call 12; refine Calls.mono (HL.out ()) ?_; rintro e u1 ⟨rfl, b1⟩; simp only [size_al] at b1; have b1A := b1.alloc (show w.heap.size + 1 ≤ u1.heap.size by have := b1.size; simp at this; omega) (.cells #[.int .i64 n0, .int .i64 n1, .int .u64 n2, .int .u64 n3, .int .i64 n4, .int .i64 n5, .int .i64 n6, .int .i64 n7] 24); obtain ⟨⟨x0, x1, x2, x3, x4, x5, x6, x7⟩, _⟩ := t8_cells (HBX.out _ b1A); obtain ⟨⟨y0, y1, y2, y3, y4, y5, y6, y7⟩, _⟩ := t8_cells (Box.made u1 n0 n1 n2 n3 n4 n5 n6 n7); have bw1 := ((Below.refl w.heap.size w).alloc (Nat.le_refl _) (.cells #[.int .i64 n0, .int .i64 n1, .int .u64 n2, .int .u64 n3, .int .i64 n4, .int .i64 n5, .int .i64 n6, .int .i64 n7] 24)).trans (b1A.mono (by omega)); clear HL b1 b1A)
      | (go_at_call 7; refine (no_any _ _).mono ?_; rintro e u ⟨rfl, rfl⟩)
      | (go_at_call 13; refine (same8 _ _ _ _ _ _ _ _ _).mono ?_; rintro e u2 ⟨rfl, b2⟩; have bw2 := bw1.trans (b2.mono bw1.size); clear x0 x1 x2 x3 x4 x5 x6 x7 y0 y1 y2 y3 y4 y5 y6 y7 bw1 b2))
    go_ret
    exact ⟨by simp, bw2⟩
  · have hl := lift8_none a cap xs _ hx hA hr
    have HL : Hid _ := fun (_ : Unit) => hl
    have hd : decide (1 < n) = true := decide_eq_true hn
    clear hl bA hA hTA hx hr h hT HBX
    go_enter Tryd.func8, Tryd.ntmps8
    go_wp2_with (first
      | (go_at_call 12; refine Calls.mono (HL.out ()) ?_; rintro e u1 ⟨rfl, b1⟩; simp only [size_al] at b1; have b1A := b1.alloc (show w.heap.size + 1 ≤ u1.heap.size by have := b1.size; simp at this; omega) (.cells #[.int .i64 0, .int .i64 0, .int .u64 0, .int .u64 0, .int .i64 0, .int .i64 0, .int .i64 0, .int .i64 0] 24); have bw1 := ((Below.refl w.heap.size w).alloc (Nat.le_refl _) (.cells #[.int .i64 n0, .int .i64 n1, .int .u64 n2, .int .u64 n3, .int .i64 n4, .int .i64 n5, .int .i64 n6, .int .i64 n7] 24)).trans (b1A.mono (by omega)); clear HL b1 b1A)
      | (go_at_call 7; refine (no_any _ _).mono ?_; rintro e u ⟨rfl, rfl⟩))
    go_ret
    exact ⟨by simp, bw1⟩
end Go.Proofs.YtgdmagmbkmgdfabDoor
