/-
  SEAT Ytoaahellfflooaa: the reference's Read.
-/
import Derived.Test.YtoaahellfflooaaRI
namespace Go.Proofs.Ytoaahellfflooaa
open Go.RowKit
set_option linter.unusedVariables false

theorem alloc_grown (w : World) (X : Obj) : w.grownBy (w.alloc X) none := grown_of ((Below.refl _ _).alloc (Nat.le_refl _) _) none


set_option maxHeartbeats 1000000 in
set_option maxRecDepth 100000 in
theorem rread_a (a : Option Addr) (len cap : Nat) (w : World) (hl : len < 24) :
    Calls Try.prog 31 #[.slice a len cap] w fun e w' => e = .returned (.tuple #[N8 0 0 ⟨#[]⟩ 0 0 0 0 ⟨#[]⟩, .int .i64 80]) ∧ Below w.heap.size w w' := by
  skip
  have h1 : decide ((len : Int) < 24) = true := decide_eq_true (by omega)
  go_enter Try.func31, Try.ntmps31
  go_wp2
  refine bodyPost_ret (v := .tuple #[N8 0 0 ⟨#[]⟩ 0 0 0 0 ⟨#[]⟩, .int .i64 80]) (res12 (nox_made w 0 0 ⟨#[]⟩ 0 0 0 0 ⟨#[]⟩) rfl rfl) rfl ⟨rfl, ?_⟩
  exact (Below.refl _ _).alloc (Nat.le_refl _) _


set_option maxHeartbeats 1000000 in
set_option maxRecDepth 100000 in
theorem rread_b (a : Option Addr) (len cap kn : Nat) (zs : List Int) (w : World) (hr : Reads w a len zs) (hl : 24 ≤ len) (h4 : len ≤ 140737488351300) (hkn : zs.getD 23 0 = (kn : Int)) (hs : len < 24 + kn + 1) :
    Calls Try.prog 31 #[.slice a len cap] w fun e w' => e = .returned (.tuple #[N8 0 0 ⟨#[]⟩ 0 0 0 0 ⟨#[]⟩, .int .i64 80]) ∧ Below w.heap.size w w' := by
  have hA := hr.below ((Below.refl w.heap.size w).alloc (Nat.le_refl _) (.cells #[.int .i64 0, .int .i64 0, .string ⟨#[]⟩, .int .i64 0, .int .i64 0, .int .u64 0, .int .i64 0, .string ⟨#[]⟩] 50))
  obtain ⟨b, off, rfl, hb, hcell⟩ := hA.pos (by omega)
  have hk23 := hcell 23 (by omega)
  rw [hkn] at hk23
  have hkr : (kn : Int) ≤ 255 := by rw [← hkn]; exact (byteAt hr.2.1 23).2
  have d1 : decide ((len : Int) < 24) = false := decide_eq_false (by omega)
  have d2 : decide ((len : Int) < 24 + (kn : Int) + 1) = true := decide_eq_true (by omega)
  have d3 : (len : Int) < 24 + (kn : Int) + 1 := by omega
  skip
  clear hr hA hcell hkn
  go_enter Try.func31, Try.ntmps31
  go_wp2
  refine bodyPost_ret (v := .tuple #[N8 0 0 ⟨#[]⟩ 0 0 0 0 ⟨#[]⟩, .int .i64 80]) (res12 (nox_made w 0 0 ⟨#[]⟩ 0 0 0 0 ⟨#[]⟩) rfl rfl) rfl ⟨rfl, ?_⟩
  exact (Below.refl _ _).alloc (Nat.le_refl _) _


set_option maxHeartbeats 1000000 in
set_option maxRecDepth 100000 in
theorem rread_c (a : Option Addr) (len cap kn tn : Nat) (zs : List Int) (w : World) (hr : Reads w a len zs) (h4 : len ≤ 140737488351300) (hkn : zs.getD 23 0 = (kn : Int)) (hs : 24 + kn + 1 ≤ len) (htn : zs.getD (24 + kn) 0 = (tn : Int)) (hne : len ≠ 24 + kn + 1 + tn) :
    Calls Try.prog 31 #[.slice a len cap] w fun e w' => e = .returned (.tuple #[N8 0 0 ⟨#[]⟩ 0 0 0 0 ⟨#[]⟩, .int .i64 80]) ∧ Below w.heap.size w w' := by
  have hA := hr.below ((Below.refl w.heap.size w).alloc (Nat.le_refl _) (.cells #[.int .i64 0, .int .i64 0, .string ⟨#[]⟩, .int .i64 0, .int .i64 0, .int .u64 0, .int .i64 0, .string ⟨#[]⟩] 50))
  obtain ⟨b, off, rfl, hb, hcell⟩ := hA.pos (by omega)
  have hk23 := hcell 23 (by omega)
  rw [hkn] at hk23
  have hkr : (kn : Int) ≤ 255 := by rw [← hkn]; exact (byteAt hr.2.1 23).2
  have d1 : decide ((len : Int) < 24) = false := decide_eq_false (by omega)
  have ht := hcell (24 + kn) (by omega)
  rw [htn] at ht
  have htr : (tn : Int) ≤ 255 := by rw [← htn]; exact (byteAt hr.2.1 _).2
  have d2 : decide ((len : Int) < 24 + (kn : Int) + 1) = false := decide_eq_false (by omega)
  have d3 : ¬ ((len : Int) < 24 + (kn : Int) + 1) := by omega
  have d4 : ((len : Int) != 24 + (kn : Int) + 1 + (tn : Int)) = true := by simp; omega
  have d5 : 24 + (kn : Int) < len := by omega
  skip
  clear hr hA hcell hkn htn
  go_enter Try.func31, Try.ntmps31
  go_wp2
  refine bodyPost_ret (v := .tuple #[N8 0 0 ⟨#[]⟩ 0 0 0 0 ⟨#[]⟩, .int .i64 80]) (res12 (nox_made w 0 0 ⟨#[]⟩ 0 0 0 0 ⟨#[]⟩) rfl rfl) rfl ⟨rfl, ?_⟩
  exact (Below.refl _ _).alloc (Nat.le_refl _) _


/-- What region 8 of the reference's Read makes: the row's numbers and texts. -/
structure Fld (w : World) (a : Option Addr) (len cap kn tn : Nat) (zs : List Int) (k p : Int) (N : ByteArray) (z m st h : Int) (T : ByteArray) : Prop where
  hr : Reads w a len zs
  hc : len ≤ cap
  hcm : cap ≤ 9223372036854775807
  h4 : len ≤ 140737488351300
  hkn : zs.getD 23 0 = (kn : Int)
  htn : zs.getD (24 + kn) 0 = (tn : Int)
  hl : len = 24 + kn + 1 + tn
  e0 : zs.getD 0 0 = k
  e1 : getL zs 1 4 = p
  e2 : getL zs 5 4 = z
  e3 : getL zs 9 2 = m
  e4 : getL zs 11 8 = st
  e5 : getL zs 19 4 = h
  eN : strOfNums ((zs.drop 24).take kn) = N
  eT : strOfNums (zs.drop (25 + kn)) = T
theorem get_wrap (zs : List Int) (t size : Nat) (hz : ∀ x ∈ zs, 0 ≤ x ∧ x ≤ 255) (h : size ≤ 4) : IntKind.i64.wrap (getL zs t size) = getL zs t size := by
  have h1 := getL_range hz t size
  have h2 := pow256_le h
  have e2 : (256 : Int) ^ 4 = 4294967296 := by decide
  rw [IntKind.wrap_i64]
  omega
theorem conv_name {w : World} {b off len cap kn : Nat} {zs : List Int} (hr : Reads w (some ⟨b, off, none⟩) len zs) (h : 24 + kn ≤ len) : (convert 22 9 (.slice (some ⟨b, off + 24, none⟩) kn (cap - 24))).run Try.prog w = .ok (.string (strOfNums ((zs.drop 24).take kn))) w :=
  conv _ kn _ _ w (hr.piece 24 kn h (fun _ _ => rfl))
theorem conv_targ {w : World} {b off len cap kn : Nat} {zs : List Int} (hr : Reads w (some ⟨b, off, none⟩) len zs) (h : 25 + kn ≤ len) (h2 : len ≤ cap) : (convert 22 9 (.slice (some ⟨b, off + (25 + kn), none⟩) (len - (25 + kn)) (cap - (25 + kn)))).run Try.prog w = .ok (.string (strOfNums (zs.drop (25 + kn)))) w := by
  have h1 := hr.piece (25 + kn) (len - (25 + kn)) (by omega) (fun _ _ => rfl)
  rw [List.take_of_length_le (by have := hr.1; simp; omega)] at h1
  exact conv _ _ _ _ w h1
theorem conv_none {w : World} {b off kn : Nat} {zs : List Int} (len : Nat) (hr : zs.length = len) (h : 25 + kn = len) : (convert 22 9 (.slice (some ⟨b, off, none⟩) 0 0)).run Try.prog w = .ok (.string (strOfNums (zs.drop (25 + kn)))) w := by
  rw [List.drop_of_length_le (by omega)]
  exact conv _ _ _ _ w ⟨rfl, by simp, (fun h => by cases h), fun _ _ i hi => by omega⟩

end Go.Proofs.Ytoaahellfflooaa
