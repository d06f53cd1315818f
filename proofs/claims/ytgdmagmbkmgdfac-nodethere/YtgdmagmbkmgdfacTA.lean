/-
  SEAT Ytgdmagmbkmgdfac: a header's bytes, read.
-/
import Derived.Test.YtgdmagmbkmgdfacRL
import Derived.Test.YtgdmagmbkmgdfacNP
namespace Go.Proofs.Ytgdmagmbkmgdfac
open Go.RowKit
set_option linter.unusedVariables false


theorem getL_app (A D : List Int) : ∀ n, getL (A ++ D) A.length n = getL D 0 n
  | 0 => rfl
  | n + 1 => by
    have e : (A ++ D).getD (A.length + n) 0 = D.getD (0 + n) 0 := by
      rw [Nat.zero_add, List.getD_eq_getElem?_getD, List.getD_eq_getElem?_getD, List.getElem?_append_right (by omega)]
      simp
    rw [getL, getL, getL_app A D n, e]
theorem getL_front (D C : List Int) : ∀ n, n ≤ D.length → getL (D ++ C) 0 n = getL D 0 n
  | 0, _ => rfl
  | n + 1, h => by
    have e : (D ++ C).getD (0 + n) 0 = D.getD (0 + n) 0 := by
      rw [List.getD_eq_getElem?_getD, List.getD_eq_getElem?_getD, List.getElem?_append_left (by omega)]
    rw [getL, getL, getL_front D C n (by omega), e]
theorem getL_dg (A C zs : List Int) (t n : Nat) (v : Int) (e : zs = A ++ (dg v n ++ C)) (hA : A.length = t) (h0 : 0 ≤ v) (h1 : v < 256 ^ n) : getL zs t n = v := by
  subst e hA
  rw [getL_app, getL_front _ _ _ (by rw [dg_length]; exact Nat.le_refl _)]
  unfold dg
  rw [get_put _ _ _ _ (by simp) h0 n (Nat.le_refl _)]
  exact Int.emod_eq_of_lt h0 h1
theorem str_back (s : ByteArray) : strOfNums (strL s) = s := by
  apply bytes_ext
  rw [strOfNums_data, strL, List.map_map]
  conv => rhs; rw [← List.map_id s.data.toList]
  apply List.map_congr_left
  intro b _
  simp

theorem flp_node (k p : Int) (N : ByteArray) (z m st h : Int) (T : ByteArray) (hE : nodeE k p N z m st h T = 0) (h0 : 0 ≤ st) (h1 : st < 18446744073709551616) : Flp (nodeL k p N z m st h T) (1 + 4 + 4 + 2 + 8 + 4 + (1 + N.size) + (1 + T.size)) k p N z m st h T := by
  obtain ⟨⟨a0, a1⟩, ⟨b0, b1⟩, hN, ⟨c0, c1⟩, ⟨d0, d1⟩, ⟨e0, e1⟩, hT⟩ := node_zero k p N z m st h T hE
  have p1 : (256 : Int) ^ 1 = 256 := by decide
  have p2 : (256 : Int) ^ 2 = 65536 := by decide
  have p4 : (256 : Int) ^ 4 = 4294967296 := by decide
  have p8 : (256 : Int) ^ 8 = 18446744073709551616 := by decide
  have g0 : getL (nodeL k p N z m st h T) 0 1 = k := getL_dg [] _ _ 0 1 k (by simp only [nodeL, List.append_assoc, List.nil_append]; rfl) rfl (by omega) (by omega)
  have g1 : getL (nodeL k p N z m st h T) 1 4 = p := getL_dg (dg k 1) _ _ 1 4 p (by simp only [nodeL, List.append_assoc]; rfl) (by simp [dg_length]) (by omega) (by omega)
  have g2 : getL (nodeL k p N z m st h T) 5 4 = z := getL_dg (dg k 1 ++ dg p 4) _ _ 5 4 z (by simp only [nodeL, List.append_assoc]; rfl) (by simp [dg_length]) (by omega) (by omega)
  have g3 : getL (nodeL k p N z m st h T) 9 2 = m := getL_dg (dg k 1 ++ dg p 4 ++ dg z 4) _ _ 9 2 m (by simp only [nodeL, List.append_assoc]; rfl) (by simp [dg_length]) (by omega) (by omega)
  have g4 : getL (nodeL k p N z m st h T) 11 8 = st := getL_dg (dg k 1 ++ dg p 4 ++ dg z 4 ++ dg m 2) _ _ 11 8 st (by simp only [nodeL, List.append_assoc]; rfl) (by simp [dg_length]) (by omega) (by omega)
  have g5 : getL (nodeL k p N z m st h T) 19 4 = h := getL_dg (dg k 1 ++ dg p 4 ++ dg z 4 ++ dg m 2 ++ dg st 8) _ _ 19 4 h (by simp only [nodeL, List.append_assoc]; rfl) (by simp [dg_length]) (by omega) (by omega)
  have g6 : getL (nodeL k p N z m st h T) 23 1 = (N.size : Int) := getL_dg (dg k 1 ++ dg p 4 ++ dg z 4 ++ dg m 2 ++ dg st 8 ++ dg h 4) _ _ 23 1 N.size (by simp only [nodeL, List.append_assoc]; rfl) (by simp [dg_length]) (by omega) (by omega)
  have g7 : getL (nodeL k p N z m st h T) (24 + N.size) 1 = (T.size : Int) := getL_dg (dg k 1 ++ dg p 4 ++ dg z 4 ++ dg m 2 ++ dg st 8 ++ dg h 4 ++ (dg N.size 1 ++ strL N)) _ _ (24 + N.size) 1 T.size (by simp only [nodeL, List.append_assoc]; rfl) (by simp [dg_length, strL_length]; omega) (by omega) (by omega)
  rw [getL_one] at g0 g6 g7
  have hk : kN (nodeL k p N z m st h T) = N.size := by unfold kN; rw [g6]; omega
  have ht : tN (nodeL k p N z m st h T) = T.size := by unfold tN; rw [hk, g7]; omega
  refine ⟨⟨by omega, by rw [hk]; omega, by rw [hk, ht]; omega⟩, g0, g1, g2, g3, g4, g5, ?_, ?_⟩
  · rw [hk]
    have e : nodeL k p N z m st h T = (dg k 1 ++ dg p 4 ++ dg z 4 ++ dg m 2 ++ dg st 8 ++ dg h 4 ++ dg N.size 1) ++ (strL N ++ (dg T.size 1 ++ strL T)) := by simp only [nodeL, List.append_assoc]
    rw [e, List.drop_left' (by simp [dg_length]), List.take_left' (strL_length N), str_back]
  · rw [hk]
    have e : nodeL k p N z m st h T = (dg k 1 ++ dg p 4 ++ dg z 4 ++ dg m 2 ++ dg st 8 ++ dg h 4 ++ dg N.size 1 ++ strL N ++ dg T.size 1) ++ strL T := by simp only [nodeL, List.append_assoc]
    rw [e, List.drop_left' (by simp [dg_length, strL_length]; omega), str_back]

theorem getD_take (zs : List Int) (c i : Nat) (h : i < c) : (zs.take c).getD i 0 = zs.getD i 0 := by
  rw [List.getD_eq_getElem?_getD, List.getD_eq_getElem?_getD, List.getElem?_take_of_lt h]
theorem getD_snoc (zs : List Int) (x : Int) (i : Nat) (h : i < zs.length) : (zs ++ [x]).getD i 0 = zs.getD i 0 := by
  rw [List.getD_eq_getElem?_getD, List.getD_eq_getElem?_getD, List.getElem?_append_left h]
theorem cut_short (zs : List Int) (len c : Nat) (hf : fitsN zs len) (hc : c < len) : ¬ fitsN (zs.take c) c := by
  obtain ⟨f1, f2, f3⟩ := hf
  rintro ⟨q1, q2, q3⟩
  have hk : kN (zs.take c) = kN zs := by unfold kN; rw [getD_take _ _ _ (by omega)]
  rw [hk] at q2
  have ht : tN (zs.take c) = tN zs := by unfold tN; rw [hk, getD_take _ _ _ (by omega)]
  rw [hk, ht] at q3
  omega
theorem long_short (zs : List Int) (len : Nat) (x : Int) (hlen : zs.length = len) (hf : fitsN zs len) : ¬ fitsN (zs ++ [x]) (len + 1) := by
  obtain ⟨f1, f2, f3⟩ := hf
  rintro ⟨q1, q2, q3⟩
  have hk : kN (zs ++ [x]) = kN zs := by unfold kN; rw [getD_snoc _ _ _ (by omega)]
  have ht : tN (zs ++ [x]) = tN zs := by unfold tN; rw [hk, getD_snoc _ _ _ (by omega)]
  rw [hk, ht] at q3
  omega

end Go.Proofs.Ytgdmagmbkmgdfac
