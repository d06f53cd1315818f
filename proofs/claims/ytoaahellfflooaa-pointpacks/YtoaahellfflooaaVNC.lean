/-
  SEAT Ytoaahellfflooaa.
-/
import Derived.Test.YtoaahellfflooaaVNB
namespace Go.Proofs.Ytoaahellfflooaa
open Go.RowKit
set_option linter.unusedVariables false

theorem node_zero (k p : Int) (N : ByteArray) (z m st h : Int) (T : ByteArray) (h0 : nodeE k p N z m st h T = 0) : (1 ≤ k ∧ k ≤ 3) ∧ (0 ≤ p ∧ p ≤ 1048575) ∧ N.size ≤ 63 ∧ (0 ≤ z ∧ z ≤ 2147483648) ∧ (0 ≤ m ∧ m ≤ 4095) ∧ (0 ≤ h ∧ h ≤ 1048575) ∧ T.size ≤ 127 := by
  unfold nodeE at h0
  split at h0
  · rename_i h1
    split at h0
    · rename_i h2
      split at h0
      · rename_i h3
        split at h0
        · rename_i h4
          have t1 := of_decide_eq_true h1.1
          have t2 := of_decide_eq_true h1.2
          have t3 := of_decide_eq_true h3.1
          have t4 := of_decide_eq_true h3.2.1
          have t5 := of_decide_eq_true h3.2.2
          have t6 : N.size ≤ 63 := by
            simp only [Good, Bool.and_eq_true, decide_eq_true_eq] at h2
            exact h2.1.1.1.1.2
          have t7 : T.size ≤ 127 := by
            unfold targOk at h4
            split at h4
            · simp only [Bool.and_eq_true, decide_eq_true_eq] at h4
              exact h4.1.2
            · have h5 : T.toList = [] := of_decide_eq_true h4
              rw [Go.ByteArray.toList_eq] at h5
              have h6 : T.data.toList.length = T.size := by rw [Array.length_toList]; rfl
              rw [h5] at h6
              have h7 : 0 = T.size := h6
              omega
          exact ⟨t1, t2, t6, by omega, t4, by omega, t7⟩
        · simp at h0
      · simp at h0
    · simp at h0
  · simp at h0

theorem fit_of (v : Int) (n : Nat) (h0 : 0 ≤ v) (h : v < 2 ^ (8 * n)) : (v / 2 ^ (8 * (n : Int)).toNat == 0) = true := by
  have e : (8 * (n : Int)).toNat = 8 * n := by omega
  rw [e, Int.ediv_eq_zero_of_lt h0 h]
  rfl

/-- A text with its count ahead. -/
def cntL (s : ByteArray) : List Int := dg s.size 1 ++ strL s
theorem cnt_length (s : ByteArray) : (dg s.size 1 ++ strL s).length = 1 + s.size := by rw [List.length_append, dg_length, strL_length]
theorem cnt_range (s : ByteArray) : ∀ x ∈ dg s.size 1 ++ strL s, 0 ≤ x ∧ x ≤ 255 := fun x hx => (List.mem_append.1 hx).elim (dg_range _ _ x) (strL_range s x)

def nodeL (k p : Int) (N : ByteArray) (z m st h : Int) (T : ByteArray) : List Int := dg k 1 ++ dg p 4 ++ dg z 4 ++ dg m 2 ++ dg st 8 ++ dg h 4 ++ (dg N.size 1 ++ strL N) ++ (dg T.size 1 ++ strL T)

theorem own_any2 {w : World} {B n : Nat} {v : Value} {xs : List Value} (h : w.ownsRow B 5 1 v n xs) : ∃ a c, v = .slice a n c := by
  rcases h.2 with ⟨rfl, h0⟩ | ⟨g, cap, cur, rfl, _⟩
  · obtain rfl : n = 0 := by omega
    exact ⟨_, _, rfl⟩
  · exact ⟨_, _, rfl⟩

structure Np (w0 u : World) (X : Obj) (R : List (Value × List Int)) : Prop where
  lv : Live u w0.heap.size R
  bel : Below (w0.alloc X).heap.size (w0.alloc X) u

section
variable {w0 u u' : World} {X : Obj} {R : List (Value × List Int)}
theorem Np.below (h : Np w0 u X R) (hb : Below u.heap.size u u') : Np w0 u' X R := ⟨h.lv.below hb, h.bel.trans (hb.mono h.bel.size)⟩
theorem Np.add {n : Nat} {v : Value} {xs : List Int} (h : Np w0 u X R) (hb : Below u.heap.size u u') (hl : xs.length = n) (hr : u'.ownsRow u.heap.size 5 1 v n (xs.map (Value.int .u8))) : Np w0 u' X ((v, xs) :: R) :=
  ⟨h.lv.add hb (by have := h.bel.size; simp at this; omega) hl hr, h.bel.trans (hb.mono h.bel.size)⟩
theorem Np.row {n c : Nat} {a : Option Addr} {xs : List Int} (h : Np w0 u X R) (hm : (.slice a n c, xs) ∈ R) (hl : xs.length = n) (hr : ∀ x ∈ xs, 0 ≤ x ∧ x ≤ 255) : Reads u a n xs := h.lv.reads hm hl hr
end

set_option maxHeartbeats 2000000 in
set_option maxRecDepth 100000 in
theorem pack_bad (k p : Int) (N : ByteArray) (z m st h : Int) (T : ByteArray) (w : World) (hN : N.size ≤ 9223372036854775807) (hT : T.size ≤ 9223372036854775807) (E : Int) (hE : nodeE k p N z m st h T = E) (h0 : E ≠ 0) :
    Calls Try.prog 46 #[.agg #[.int .i64 k, .int .i64 p, .string N, .int .i64 z, .int .i64 m, .int .u64 st, .int .i64 h, .string T]] w fun e w' => e = .returned (.tuple #[.slice none 0 0, .int .i64 E]) ∧ Below w.heap.size w w' := by
  have h1 : (E != 0) = true := by simpa using h0
  go_enter Try.func46, Try.ntmps46
  go_wp2_with (go_at_call 65; refine (check_any _ _ _ _ _ _ _ _ _ hN hT).mono ?_; rintro e u1 ⟨rfl, b1⟩; rw [hE])
  go_ret2
  exact ⟨rfl, below1 b1⟩

set_option maxHeartbeats 4000000 in
set_option maxRecDepth 100000 in
theorem pack_ok (k p : Int) (N : ByteArray) (z m st h : Int) (T : ByteArray) (w : World) (hE : nodeE k p N z m st h T = 0) (p4 : 0 ≤ st) (hst : st < 18446744073709551616) :
    Calls Try.prog 46 #[.agg #[.int .i64 k, .int .i64 p, .string N, .int .i64 z, .int .i64 m, .int .u64 st, .int .i64 h, .string T]] w fun e w' => (∃ v, e = .returned (.tuple #[v, .int .i64 0]) ∧ w'.ownsRow w.heap.size 5 1 v (1 + 4 + 4 + 2 + 8 + 4 + (1 + N.size) + (1 + T.size)) ((nodeL k p N z m st h T).map (Value.int .u8))) ∧ Below w.heap.size w w' := by
  obtain ⟨⟨p0, k3⟩, ⟨p1, u1⟩, hN, ⟨p2, u2⟩, ⟨p3, u3⟩, ⟨p5, u5⟩, hT⟩ := node_zero k p N z m st h T hE
  have p0 : 0 ≤ k := by omega
  have z8 : (2 : Int) ^ (8 * 1) = 256 := by decide
  have z16 : (2 : Int) ^ (8 * 2) = 65536 := by decide
  have z32 : (2 : Int) ^ (8 * 4) = 4294967296 := by decide
  have z64 : (2 : Int) ^ (8 * 8) = 18446744073709551616 := by decide
  have f0 : Hid ((k / 2 ^ (8 * ((1 : Nat) : Int)).toNat == 0) = true) := fit_of k 1 p0 (by omega)
  have f1 : Hid ((p / 2 ^ (8 * ((4 : Nat) : Int)).toNat == 0) = true) := fit_of p 4 p1 (by omega)
  have f2 : Hid ((z / 2 ^ (8 * ((4 : Nat) : Int)).toNat == 0) = true) := fit_of z 4 p2 (by omega)
  have f3 : Hid ((m / 2 ^ (8 * ((2 : Nat) : Int)).toNat == 0) = true) := fit_of m 2 p3 (by omega)
  have f4 : Hid ((st / 2 ^ (8 * ((8 : Nat) : Int)).toNat == 0) = true) := fit_of st 8 p4 (by omega)
  have f5 : Hid ((h / 2 ^ (8 * ((4 : Nat) : Int)).toNat == 0) = true) := fit_of h 4 p5 (by omega)
  have e0 : IntKind.u64.wrap k = k := by rw [IntKind.wrap_u64]; omega
  have e1 : IntKind.u64.wrap p = p := by rw [IntKind.wrap_u64]; omega
  have e2 : IntKind.u64.wrap z = z := by rw [IntKind.wrap_u64]; omega
  have e3 : IntKind.u64.wrap m = m := by rw [IntKind.wrap_u64]; omega
  have e5 : IntKind.u64.wrap h = h := by rw [IntKind.wrap_u64]; omega
  clear z8 z16 z32 z64
  go_enter Try.func46, Try.ntmps46
  go_wp2_with (go_at_call 65; refine (check_any _ _ _ _ _ _ _ _ _ (by omega) (by omega)).mono ?_; rintro e w1 ⟨rfl, b1⟩; rw [hE]; have s0 : Np w w1 (.cells #[.int .i64 k, .int .i64 p, .string N, .int .i64 z, .int .i64 m, .int .u64 st, .int .i64 h, .string T] 50) [] := ⟨⟨by simp, List.Pairwise.nil⟩, b1⟩; clear b1)
  have s0d : Np w w1.drew (.cells #[.int .i64 k, .int .i64 p, .string N, .int .i64 z, .int .i64 m, .int .u64 st, .int .i64 h, .string T] 50) [] := s0.below ((Below.refl _ _).drew)
  go_region_held3 (fun x => x.cell? ⟨w.heap.size, 0, none⟩ = some (.int .i64 k) ∧ x.cell? ⟨w.heap.size, 1, none⟩ = some (.int .i64 p) ∧ x.cell? ⟨w.heap.size, 2, none⟩ = some (.string N) ∧ x.cell? ⟨w.heap.size, 3, none⟩ = some (.int .i64 z) ∧ x.cell? ⟨w.heap.size, 4, none⟩ = some (.int .i64 m) ∧ x.cell? ⟨w.heap.size, 5, none⟩ = some (.int .u64 st) ∧ x.cell? ⟨w.heap.size, 6, none⟩ = some (.int .i64 h) ∧ x.cell? ⟨w.heap.size, 7, none⟩ = some (.string T))
    ((first
      | exact box8 b10
      | exact box8 (s8.bel.alloc s8.bel.size _)
      | exact box8 s8.bel
      | exact box8 s7.bel
      | exact box8 s6.bel
      | exact box8 s5.bel
      | exact box8 s4.bel
      | exact box8 s3.bel
      | exact box8 s2.bel
      | exact box8 s1.bel
      | exact box8 s0d.bel
      | exact box8 s0.bel))
    ((first
      | (go_at_call 67; have h9 := s0; clear h9; refine (asBytes_ok 1 k _ ?_ ?_ ?_ ?_).mono ?_; omega; omega; exact f0.out; exact p0; rintro e v1 ⟨rfl, o1, b1⟩; have s1 : Np w v1 (.cells #[.int .i64 k, .int .i64 p, .string N, .int .i64 z, .int .i64 m, .int .u64 st, .int .i64 h, .string T] 50) [(.slice (some ⟨w1.heap.size, 0, none⟩) 1 1, dg k 1)] := s0d.add b1 (dg_length k 1) o1; clear s0 o1 b1)
      | (go_at_call 67; have h9 := s1; clear h9; refine (asBytes_ok 4 p _ ?_ ?_ ?_ ?_).mono ?_; omega; omega; exact f1.out; exact p1; rintro e v2 ⟨rfl, o2, b2⟩; have s2 : Np w v2 (.cells #[.int .i64 k, .int .i64 p, .string N, .int .i64 z, .int .i64 m, .int .u64 st, .int .i64 h, .string T] 50) [(.slice (some ⟨v1.heap.size, 0, none⟩) 4 4, dg p 4), (.slice (some ⟨w1.heap.size, 0, none⟩) 1 1, dg k 1)] := s1.add b2 (dg_length p 4) o2; clear s1 o2 b2)
      | (go_at_call 67; have h9 := s2; clear h9; refine (asBytes_ok 4 z _ ?_ ?_ ?_ ?_).mono ?_; omega; omega; exact f2.out; exact p2; rintro e v3 ⟨rfl, o3, b3⟩; have s3 : Np w v3 (.cells #[.int .i64 k, .int .i64 p, .string N, .int .i64 z, .int .i64 m, .int .u64 st, .int .i64 h, .string T] 50) [(.slice (some ⟨v2.heap.size, 0, none⟩) 4 4, dg z 4), (.slice (some ⟨v1.heap.size, 0, none⟩) 4 4, dg p 4), (.slice (some ⟨w1.heap.size, 0, none⟩) 1 1, dg k 1)] := s2.add b3 (dg_length z 4) o3; clear s2 o3 b3)
      | (go_at_call 67; have h9 := s3; clear h9; refine (asBytes_ok 2 m _ ?_ ?_ ?_ ?_).mono ?_; omega; omega; exact f3.out; exact p3; rintro e v4 ⟨rfl, o4, b4⟩; have s4 : Np w v4 (.cells #[.int .i64 k, .int .i64 p, .string N, .int .i64 z, .int .i64 m, .int .u64 st, .int .i64 h, .string T] 50) [(.slice (some ⟨v3.heap.size, 0, none⟩) 2 2, dg m 2), (.slice (some ⟨v2.heap.size, 0, none⟩) 4 4, dg z 4), (.slice (some ⟨v1.heap.size, 0, none⟩) 4 4, dg p 4), (.slice (some ⟨w1.heap.size, 0, none⟩) 1 1, dg k 1)] := s3.add b4 (dg_length m 2) o4; clear s3 o4 b4)
      | (go_at_call 67; have h9 := s4; clear h9; refine (asBytes_ok 8 st _ ?_ ?_ ?_ ?_).mono ?_; omega; omega; exact f4.out; exact p4; rintro e v5 ⟨rfl, o5, b5⟩; have s5 : Np w v5 (.cells #[.int .i64 k, .int .i64 p, .string N, .int .i64 z, .int .i64 m, .int .u64 st, .int .i64 h, .string T] 50) [(.slice (some ⟨v4.heap.size, 0, none⟩) 8 8, dg st 8), (.slice (some ⟨v3.heap.size, 0, none⟩) 2 2, dg m 2), (.slice (some ⟨v2.heap.size, 0, none⟩) 4 4, dg z 4), (.slice (some ⟨v1.heap.size, 0, none⟩) 4 4, dg p 4), (.slice (some ⟨w1.heap.size, 0, none⟩) 1 1, dg k 1)] := s4.add b5 (dg_length st 8) o5; clear s4 o5 b5)
      | (go_at_call 67; have h9 := s5; clear h9; refine (asBytes_ok 4 h _ ?_ ?_ ?_ ?_).mono ?_; omega; omega; exact f5.out; exact p5; rintro e v6 ⟨rfl, o6, b6⟩; have s6 : Np w v6 (.cells #[.int .i64 k, .int .i64 p, .string N, .int .i64 z, .int .i64 m, .int .u64 st, .int .i64 h, .string T] 50) [(.slice (some ⟨v5.heap.size, 0, none⟩) 4 4, dg h 4), (.slice (some ⟨v4.heap.size, 0, none⟩) 8 8, dg st 8), (.slice (some ⟨v3.heap.size, 0, none⟩) 2 2, dg m 2), (.slice (some ⟨v2.heap.size, 0, none⟩) 4 4, dg z 4), (.slice (some ⟨v1.heap.size, 0, none⟩) 4 4, dg p 4), (.slice (some ⟨w1.heap.size, 0, none⟩) 1 1, dg k 1)] := s5.add b6 (dg_length h 4) o6; clear s5 o6 b6)
      | (go_at_call 68; have h9 := s6; clear h9; refine (counted_ok N _ ?_).mono ?_; omega; rintro e v7 ⟨y6, rfl, o7, b7⟩; obtain ⟨a6, c6, he6⟩ := own_any2 o7; subst he6; have s7 : Np w v7 (.cells #[.int .i64 k, .int .i64 p, .string N, .int .i64 z, .int .i64 m, .int .u64 st, .int .i64 h, .string T] 50) [(.slice a6 (1 + N.size) c6, dg N.size 1 ++ strL N), (.slice (some ⟨v5.heap.size, 0, none⟩) 4 4, dg h 4), (.slice (some ⟨v4.heap.size, 0, none⟩) 8 8, dg st 8), (.slice (some ⟨v3.heap.size, 0, none⟩) 2 2, dg m 2), (.slice (some ⟨v2.heap.size, 0, none⟩) 4 4, dg z 4), (.slice (some ⟨v1.heap.size, 0, none⟩) 4 4, dg p 4), (.slice (some ⟨w1.heap.size, 0, none⟩) 1 1, dg k 1)] := s6.add b7 (cnt_length N) o7; clear s6 o7 b7)
      | (go_at_call 68; have h9 := s7; clear h9; refine (counted_ok T _ ?_).mono ?_; omega; rintro e v8 ⟨y7, rfl, o8, b8⟩; obtain ⟨a7, c7, he7⟩ := own_any2 o8; subst he7; have s8 : Np w v8 (.cells #[.int .i64 k, .int .i64 p, .string N, .int .i64 z, .int .i64 m, .int .u64 st, .int .i64 h, .string T] 50) [(.slice a7 (1 + T.size) c7, dg T.size 1 ++ strL T), (.slice a6 (1 + N.size) c6, dg N.size 1 ++ strL N), (.slice (some ⟨v5.heap.size, 0, none⟩) 4 4, dg h 4), (.slice (some ⟨v4.heap.size, 0, none⟩) 8 8, dg st 8), (.slice (some ⟨v3.heap.size, 0, none⟩) 2 2, dg m 2), (.slice (some ⟨v2.heap.size, 0, none⟩) 4 4, dg z 4), (.slice (some ⟨v1.heap.size, 0, none⟩) 4 4, dg p 4), (.slice (some ⟨w1.heap.size, 0, none⟩) 1 1, dg k 1)] := s7.add b8 (cnt_length T) o8; clear s7 o8 b8; have cj := join8 v8 (some ⟨w1.heap.size, 0, none⟩) 1 1 (dg k 1) (some ⟨v1.heap.size, 0, none⟩) 4 4 (dg p 4) (some ⟨v2.heap.size, 0, none⟩) 4 4 (dg z 4) (some ⟨v3.heap.size, 0, none⟩) 2 2 (dg m 2) (some ⟨v4.heap.size, 0, none⟩) 8 8 (dg st 8) (some ⟨v5.heap.size, 0, none⟩) 4 4 (dg h 4) a6 (1 + N.size) c6 (dg N.size 1 ++ strL N) a7 (1 + T.size) c7 (dg T.size 1 ++ strL T) (s8.row (c := 1) (by simp) (dg_length _ _) (dg_range _ _)) (s8.row (c := 4) (by simp) (dg_length _ _) (dg_range _ _)) (s8.row (c := 4) (by simp) (dg_length _ _) (dg_range _ _)) (s8.row (c := 2) (by simp) (dg_length _ _) (dg_range _ _)) (s8.row (c := 8) (by simp) (dg_length _ _) (dg_range _ _)) (s8.row (c := 4) (by simp) (dg_length _ _) (dg_range _ _)) (s8.row (c := c6) (by simp) (cnt_length N) (cnt_range N)) (s8.row (c := c7) (by simp) (cnt_length T) (cnt_range T)) (by omega); have HJ : Hid _ := fun (_ : Unit) => cj; clear cj)
      | (go_at_call 66; have h9 := HJ; clear h9; refine Calls.mono (HJ.out ()) ?_; rintro e v9 ⟨y, rfl, o9, b9⟩; have b10 := (s8.bel.alloc s8.bel.size _).trans (b9.mono (by have := s8.bel.size; simp at this; simp; omega)); clear b9)))
  all_goals go_wp2
  all_goals go_ret2
  all_goals exact ⟨⟨_, rfl, own_base o9 (by have := s8.bel.size; simp at this; omega)⟩, below1 b10⟩
end Go.Proofs.Ytoaahellfflooaa
