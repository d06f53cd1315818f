/-
  SEAT Ytoaahellfflooaa: what both Reads answer.
-/
import Derived.Test.YtoaahellfflooaaRKa
import Derived.Test.YtoaahellfflooaaRKb
import Derived.Test.YtoaahellfflooaaRKc
import Derived.Test.YtoaahellfflooaaRKd
namespace Go.Proofs.Ytoaahellfflooaa
open Go.RowKit
set_option linter.unusedVariables false


theorem str_size (l : List Int) : (strOfNums l).size = l.length := by simp [strOfNums, ByteArray.size]

/-- What both Reads answer to bytes. -/
structure Nr (zs : List Int) (len : Nat) (k p : Int) (N : ByteArray) (z m st h : Int) (T : ByteArray) (E : Int) : Prop where
  c12 : ∀ (w : World) (a : Option Addr) (cap : Nat), Reads w a len zs → len ≤ cap → cap ≤ 9223372036854775807 → Calls Try.prog 31 #[.slice a len cap] w fun e w' => e = .returned (.tuple #[N8 k p N z m st h T, .int .i64 E]) ∧ Below w.heap.size w w'
  c14 : ∀ (w : World) (a : Option Addr) (cap : Nat), Reads w a len zs → len ≤ cap → cap ≤ 9223372036854775807 → Calls Try.prog 54 #[.slice a len cap] w fun e w' => e = .returned (.tuple #[N8 k p N z m st h T, .int .i64 E]) ∧ Below w.heap.size w w'

/-- The fields of bytes that fit. -/
structure Flp (zs : List Int) (len : Nat) (k p : Int) (N : ByteArray) (z m st h : Int) (T : ByteArray) : Prop where
  hf : fitsN zs len
  e0 : zs.getD 0 0 = k
  e1 : getL zs 1 4 = p
  e2 : getL zs 5 4 = z
  e3 : getL zs 9 2 = m
  e4 : getL zs 11 8 = st
  e5 : getL zs 19 4 = h
  eN : strOfNums ((zs.drop 24).take (kN zs)) = N
  eT : strOfNums (zs.drop (25 + kN zs)) = T
theorem kN_int {zs : List Int} (hz : ∀ x ∈ zs, 0 ≤ x ∧ x ≤ 255) : zs.getD 23 0 = (kN zs : Int) := by have := byteAt hz 23; unfold kN; omega
theorem tN_int {zs : List Int} (hz : ∀ x ∈ zs, 0 ≤ x ∧ x ≤ 255) : zs.getD (24 + kN zs) 0 = (tN zs : Int) := by have := byteAt hz (24 + kN zs); unfold tN; omega

theorem nr_short (zs : List Int) (len : Nat) (hz : ∀ x ∈ zs, 0 ≤ x ∧ x ≤ 255) (h4 : len ≤ 140737488351300) (hf : ¬ fitsN zs len) : Nr zs len 0 0 ⟨#[]⟩ 0 0 0 0 ⟨#[]⟩ 80 := by
  refine ⟨fun w a cap hr hc hcm => ?_, fun w a cap hr hc hcm => ?_⟩
  · by_cases h1 : len < 24
    · exact rread_a a len cap w h1
    · by_cases h2 : len < 24 + kN zs + 1
      · exact rread_b a len cap (kN zs) zs w hr (by omega) h4 (kN_int hz) h2
      · exact rread_c a len cap (kN zs) (tN zs) zs w hr h4 (kN_int hz) (by omega) (tN_int hz) (fun e => hf ⟨by omega, by omega, e⟩)
  · refine read_f a len cap (numV zs len (len : Int) 1) (numV zs len ((len : Int) - 1) 4) (strOfNums (pieceV zs len ((len : Int) - 23 - 1) (kV zs len))) (numV zs len ((len : Int) - 5) 4) (numV zs len ((len : Int) - 9) 2) (numV zs len ((len : Int) - 11) 8) (numV zs len ((len : Int) - 19) 4) (strOfNums (pieceV zs len ((len : Int) - 24 - kV zs len - 1) (tV zs len))) w fun u hu => ?_
    have hb : ((len : Int) - 25 - kV zs len - tV zs len == 0) = false := by
      have := end_iff zs len
      simp only [beq_eq_false_iff_ne, ne_eq]
      exact fun e => hf (this.1 e)
    have h := lift_any a len cap zs _ _ _ _ _ _ _ _ u (hr.below hu) hc h4 hcm rfl rfl rfl rfl rfl rfl rfl rfl
    rw [hb] at h
    exact h

theorem fld_of {zs : List Int} {len : Nat} {k p : Int} {N : ByteArray} {z m st h : Int} {T : ByteArray} (f : Flp zs len k p N z m st h T) (hz : ∀ x ∈ zs, 0 ≤ x ∧ x ≤ 255) (h4 : len ≤ 140737488351300) (w : World) (a : Option Addr) (cap : Nat) (hr : Reads w a len zs) (hc : len ≤ cap) (hcm : cap ≤ 9223372036854775807) : Fld w a len cap (kN zs) (tN zs) zs k p N z m st h T :=
  ⟨hr, hc, hcm, h4, kN_int hz, tN_int hz, f.hf.2.2, f.e0, f.e1, f.e2, f.e3, f.e4, f.e5, f.eN, f.eT⟩

theorem lift_fit {zs : List Int} {len : Nat} {k p : Int} {N : ByteArray} {z m st h : Int} {T : ByteArray} (f : Flp zs len k p N z m st h T) (hlen : zs.length = len) (h4 : len ≤ 140737488351300) (w : World) (a : Option Addr) (cap : Nat) (hr : Reads w a len zs) (hc : len ≤ cap) (hcm : cap ≤ 9223372036854775807) :
    Calls Try.prog 69 #[.slice a len cap] w fun e w' => e = .returned (.tuple #[N8 k p N z m st h T, .bool true]) ∧ Below w.heap.size w w' := by
  obtain ⟨f1, f2, f3⟩ := f.hf
  have hk := kV_eq zs len f1
  have hb : ((len : Int) - 25 - kV zs len - tV zs len == 0) = true := by
    have := (end_iff zs len).2 f.hf
    simp only [beq_iff_eq]
    exact this
  have ht : tV zs len = tN zs := by
    have := (end_iff zs len).2 f.hf
    omega
  have h := lift_any a len cap zs k p N z m st h T w hr hc h4 hcm
    (by rw [num_pos zs len 0 1 _ (by omega) (by omega), getL_one]; exact f.e0)
    (by rw [num_pos zs len 1 4 _ (by omega) (by omega)]; exact f.e1)
    (by rw [num_pos zs len 5 4 _ (by omega) (by omega)]; exact f.e2)
    (by rw [num_pos zs len 9 2 _ (by omega) (by omega)]; exact f.e3)
    (by rw [num_pos zs len 11 8 _ (by omega) (by omega)]; exact f.e4)
    (by rw [num_pos zs len 19 4 _ (by omega) (by omega)]; exact f.e5)
    (by rw [hk, piece_pos zs len 24 (kN zs) _ (by omega) (by omega)]; exact f.eN)
    (by rw [hk, ht, piece_pos zs len (25 + kN zs) (tN zs) _ (by omega) (by omega), List.take_of_length_le (by simp; omega)]; exact f.eT)
  rw [hb] at h
  exact h

theorem flp_sizes {zs : List Int} {len : Nat} {k p : Int} {N : ByteArray} {z m st h : Int} {T : ByteArray} (f : Flp zs len k p N z m st h T) (hlen : zs.length = len) (h4 : len ≤ 140737488351300) : N.size ≤ 9223372036854775807 ∧ T.size ≤ 9223372036854775807 := by
  rw [← f.eN, ← f.eT, str_size, str_size]
  simp only [List.length_take, List.length_drop]
  omega

theorem nr_bad (zs : List Int) (len : Nat) (k p : Int) (N : ByteArray) (z m st h : Int) (T : ByteArray) (E : Int) (f : Flp zs len k p N z m st h T) (hz : ∀ x ∈ zs, 0 ≤ x ∧ x ≤ 255) (hlen : zs.length = len) (h4 : len ≤ 140737488351300) (hE : nodeE k p N z m st h T = E) (h0 : E ≠ 0) : Nr zs len 0 0 ⟨#[]⟩ 0 0 0 0 ⟨#[]⟩ E := by
  obtain ⟨sN, sT⟩ := flp_sizes f hlen h4
  refine ⟨fun w a cap hr hc hcm => ?_, fun w a cap hr hc hcm => ?_⟩
  · have ff := fld_of f hz h4 w a cap hr hc hcm
    obtain ⟨b, off, rfl, _, _⟩ := hr.pos (by have := f.hf.1; omega)
    by_cases hcp : cap = 25 + kN zs
    · exact rread_e2 b off len cap _ _ zs k p N z m st h T w sN sT ff hcp E hE h0
    · exact rread_e1 b off len cap _ _ zs k p N z m st h T w sN sT ff hcp E hE h0
  · exact read_e a len cap k p N z m st h T w sN sT E hE h0 fun u hu => lift_fit f hlen h4 u a cap (hr.below hu) hc hcm

theorem nr_ok (zs : List Int) (len : Nat) (k p : Int) (N : ByteArray) (z m st h : Int) (T : ByteArray) (f : Flp zs len k p N z m st h T) (hz : ∀ x ∈ zs, 0 ≤ x ∧ x ≤ 255) (hlen : zs.length = len) (h4 : len ≤ 140737488351300) (hE : nodeE k p N z m st h T = 0) : Nr zs len k p N z m st h T 0 := by
  obtain ⟨sN, sT⟩ := flp_sizes f hlen h4
  refine ⟨fun w a cap hr hc hcm => ?_, fun w a cap hr hc hcm => ?_⟩
  · have ff := fld_of f hz h4 w a cap hr hc hcm
    obtain ⟨b, off, rfl, _, _⟩ := hr.pos (by have := f.hf.1; omega)
    by_cases hcp : cap = 25 + kN zs
    · exact rread_t2 b off len cap _ _ zs k p N z m st h T w sN sT ff hcp hE
    · exact rread_t1 b off len cap _ _ zs k p N z m st h T w sN sT ff hcp hE
  · exact read_t a len cap k p N z m st h T w sN sT hE fun u hu => lift_fit f hlen h4 u a cap (hr.below hu) hc hcm

theorem nr_of (zs : List Int) (len : Nat) (hz : ∀ x ∈ zs, 0 ≤ x ∧ x ≤ 255) (hlen : zs.length = len) (h4 : len ≤ 140737488351300) : ∃ k p N z m st h T E, Nr zs len k p N z m st h T E := by
  by_cases hf : fitsN zs len
  · have f : Flp zs len _ _ _ _ _ _ _ _ := ⟨hf, rfl, rfl, rfl, rfl, rfl, rfl, rfl, rfl⟩
    by_cases hE : nodeE (zs.getD 0 0) (getL zs 1 4) (strOfNums ((zs.drop 24).take (kN zs))) (getL zs 5 4) (getL zs 9 2) (getL zs 11 8) (getL zs 19 4) (strOfNums (zs.drop (25 + kN zs))) = 0
    · exact ⟨_, _, _, _, _, _, _, _, _, nr_ok zs len _ _ _ _ _ _ _ _ f hz hlen h4 hE⟩
    · exact ⟨_, _, _, _, _, _, _, _, _, nr_bad zs len _ _ _ _ _ _ _ _ _ f hz hlen h4 rfl hE⟩
  · exact ⟨_, _, _, _, _, _, _, _, _, nr_short zs len hz h4 hf⟩

end Go.Proofs.Ytoaahellfflooaa
