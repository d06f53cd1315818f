/-
  SEAT Ytkcpfcnpniblcab: digits there and back; Unhex whatever the text.
-/
import Derived.Test.YtkcpfcnpniblcabHz
namespace Go.Proofs.Ytkcpfcnpniblcab
open Go.RowKit
set_option linter.unusedVariables false

theorem hexD_dg (c : Int) (h : 0 ≤ dg c) : hexD (dg c) = c := by
  unfold dg at *
  split at h
  · rename_i h1
    rw [if_pos h1]
    unfold hexD
    rw [if_pos (by omega)]
    omega
  · rename_i h1
    split at h
    · rename_i h2
      rw [if_neg h1, if_pos h2]
      unfold hexD
      rw [if_neg (by omega)]
      omega
    · omega

theorem dg_hexD (n : Int) (h0 : 0 ≤ n) (h1 : n < 16) : dg (hexD n) = n := by
  unfold hexD
  split
  · unfold dg
    rw [if_pos (by omega)]
    omega
  · unfold dg
    rw [if_neg (by omega), if_pos (by omega)]
    omega

theorem hexL_uhL (s : ByteArray) (k : Nat) (h : Dig s k) : hexL (uhL s k) = (List.range (2 * k)).map (ch s) := by
  induction k with
  | zero => rfl
  | succ k ih =>
    have hk := h k (by omega)
    have r1 := dg_range (ch s (2 * k))
    have r2 := dg_range (ch s (2 * k + 1))
    have e1 : uh s k / 16 = dg (ch s (2 * k)) := by unfold uh; omega
    have e2 : uh s k % 16 = dg (ch s (2 * k + 1)) := by unfold uh; omega
    rw [uhL_succ, hexL_append, ih (fun i hi => h i (by omega)), Nat.mul_add, List.range_add, List.map_append]
    simp [hexL, e1, e2, hexD_dg _ hk.1, hexD_dg _ hk.2, List.range_succ]

theorem str_chars (s : ByteArray) (n : Nat) (h : s.size = n) : strOfNums ((List.range n).map (ch s)) = s := by
  refine bytes_ext ?_
  rw [strOfNums_data, List.map_map]
  apply List.ext_getElem
  · simp only [List.length_map, List.length_range, Array.length_toList]
    exact h.symm
  · intro i h1 h2
    simp only [List.getElem_map, List.getElem_range, Function.comp_apply, Array.getElem_toList]
    have h3 : i < s.data.size := by simpa using h2
    unfold ch
    rw [Array.getD, dif_pos h3]
    simp

theorem ch_str (xs : List Int) (i : Nat) (hr : ∀ x ∈ xs, 0 ≤ x ∧ x ≤ 255) (hi : i < xs.length) : ch (strOfNums xs) i = xs.getD i 0 := by
  have hb := byteAt hr i
  unfold ch
  have h3 : i < (strOfNums xs).data.size := by rw [← Array.length_toList, strOfNums_data, List.length_map]; exact hi
  rw [Array.getD, dif_pos h3]
  have e : (strOfNums xs).data[i] = UInt8.ofNat (xs[i]).toNat := by
    simp [strOfNums]
  have e2 : xs.getD i 0 = xs[i] := by rw [List.getD_eq_getElem?_getD, List.getElem?_eq_getElem hi]; rfl
  simp only [Array.getInternal_eq_getElem]
  rw [e, e2]
  rw [e2] at hb
  simp
  omega

theorem hexL_getD (zs : List Int) (i : Nat) (h : i < zs.length) : (hexL zs).getD (2 * i) 0 = hexD (zs.getD i 0 / 16) ∧ (hexL zs).getD (2 * i + 1) 0 = hexD (zs.getD i 0 % 16) := by
  induction zs generalizing i with
  | nil => simp at h
  | cons z zs ih =>
    cases i with
    | zero => simp [hexL]
    | succ i =>
      have h1 := ih i (by simpa using h)
      rw [show 2 * (i + 1) = 2 * i + 1 + 1 by omega, show 2 * i + 1 + 1 + 1 = (2 * i + 1) + 1 + 1 by omega]
      simp only [hexL, List.getD_cons_succ]
      exact h1

theorem dig_hex (zs : List Int) (hr : ∀ x ∈ zs, 0 ≤ x ∧ x ≤ 255) : Dig (strOfNums (hexL zs)) zs.length ∧ uhL (strOfNums (hexL zs)) zs.length = zs := by
  have key : ∀ i, i < zs.length → dg (ch (strOfNums (hexL zs)) (2 * i)) = zs.getD i 0 / 16 ∧ dg (ch (strOfNums (hexL zs)) (2 * i + 1)) = zs.getD i 0 % 16 := by
    intro i hi
    have hb := byteAt hr i
    have hl := hexL_length zs
    have h1 := hexL_getD zs i hi
    rw [ch_str _ _ (hexL_range hr) (by omega), ch_str _ _ (hexL_range hr) (by omega), h1.1, h1.2]
    exact ⟨dg_hexD _ (by omega) (by omega), dg_hexD _ (by omega) (by omega)⟩
  constructor
  · intro i hi
    have hb := byteAt hr i
    have := key i hi
    omega
  · apply List.ext_getElem
    · rw [uhL_length]
    · intro i h1 h2
      have hb := byteAt hr i
      have k := key i h2
      have e2 : zs.getD i 0 = zs[i] := by rw [List.getD_eq_getElem?_getD, List.getElem?_eq_getElem h2]; rfl
      simp only [uhL, List.getElem_map, List.getElem_range]
      unfold uh
      rw [k.1, k.2, e2]
      omega

/-- What both Unhex answer of a text. -/
theorem unhex_all (s : ByteArray) (hs : s.size ≤ 140737488351232) : ∃ (N : Nat) (C : Int) (F : List Int), N ≤ 140737488351232 ∧ F.length = N ∧ (∀ x ∈ F, 0 ≤ x ∧ x ≤ 255) ∧ ((C = 0 ∧ strOfNums (hexL F) = s) ∨ C = 12) ∧
    (∀ w : World, Calls Try.prog 20 #[.string s] w fun e w' => ∃ ar cr, e = .returned (.tuple #[.slice ar N cr, .int .i64 C]) ∧ w'.ownsRow w.heap.size 5 1 (.slice ar N cr) N (F.map (Value.int .u8)) ∧ Below w.heap.size w w') ∧
    (∀ w : World, Calls Try.prog 19 #[.string s] w fun e w' => ∃ ar cr, e = .returned (.tuple #[.slice ar N cr, .int .i64 C]) ∧ w'.ownsRow w.heap.size 5 1 (.slice ar N cr) N (F.map (Value.int .u8)) ∧ Below w.heap.size w w') := by
  rcases Nat.mod_two_eq_zero_or_one s.size with h | h
  · obtain ⟨m, hm⟩ : ∃ m, s.size = 2 * m := ⟨s.size / 2, by omega⟩
    by_cases hd : Dig s m
    · refine ⟨m, 0, uhL s m, by omega, uhL_length s m, uhL_range s m hd, Or.inl ⟨rfl, by rw [hexL_uhL s m hd]; exact str_chars s _ hm⟩, fun w => ?_, fun w => ?_⟩
      · refine (unhex_even s m w hm (by omega)).mono fun e w' ⟨h1, h2⟩ => ?_
        rcases h1 with ⟨_, g, c, he, ho⟩ | ⟨hn, _⟩
        · exact ⟨_, _, he, ho, h2⟩
        · exact absurd hd hn
      · refine (runhex_even s m w hm (by omega)).mono fun e w' ⟨h1, h2⟩ => ?_
        rcases h1 with ⟨_, g, c, he, ho⟩ | ⟨hn, _⟩
        · exact ⟨_, _, he, ho, h2⟩
        · exact absurd hd hn
    · refine ⟨0, 12, [], by omega, rfl, by simp, Or.inr rfl, fun w => ?_, fun w => ?_⟩
      · refine (unhex_even s m w hm (by omega)).mono fun e w' ⟨h1, h2⟩ => ?_
        rcases h1 with ⟨hn, _⟩ | ⟨_, he⟩
        · exact absurd hn hd
        · exact ⟨_, _, he, World.ownsRow_nil _ _ _ _, h2⟩
      · refine (runhex_even s m w hm (by omega)).mono fun e w' ⟨h1, h2⟩ => ?_
        rcases h1 with ⟨hn, _⟩ | ⟨_, he⟩
        · exact absurd hn hd
        · exact ⟨_, _, he, World.ownsRow_nil _ _ _ _, h2⟩
  · refine ⟨0, 12, [], by omega, rfl, by simp, Or.inr rfl, fun w => ?_, fun w => ?_⟩
    · exact (unhex_odd s w (by omega) h).mono fun e w' ⟨he, hw⟩ => ⟨_, _, he, by subst hw; exact World.ownsRow_nil _ _ _ _, by subst hw; exact Below.refl _ _⟩
    · exact (runhex_odd s w (by omega) h).mono fun e w' ⟨he, hw⟩ => ⟨_, _, he, by subst hw; exact World.ownsRow_nil _ _ _ _, by subst hw; exact Below.refl _ _⟩

theorem unhex_back (zs : List Int) (l : Nat) (hl : zs.length = l) (hr : ∀ x ∈ zs, 0 ≤ x ∧ x ≤ 255) (hs : l ≤ 140737488351232) (w : World) :
    Calls Try.prog 20 #[.string (strOfNums (hexL zs))] w fun e w' => ∃ g c, e = .returned (.tuple #[.slice (some ⟨g, 0, none⟩) l c, .int .i64 0]) ∧ w'.ownsRow w.heap.size 5 1 (.slice (some ⟨g, 0, none⟩) l c) l (zs.map (Value.int .u8)) ∧ Below w.heap.size w w' := by
  subst hl
  obtain ⟨hd, hu⟩ := dig_hex zs hr
  refine (unhex_even (strOfNums (hexL zs)) zs.length w (by rw [strOfNums_size, hexL_length]) hs).mono fun e w' ⟨h1, h2⟩ => ?_
  rcases h1 with ⟨_, g, c, he, ho⟩ | ⟨hn, _⟩
  · rw [hu] at ho
    exact ⟨_, _, he, ho, h2⟩
  · exact absurd hd hn

theorem unhex_lit (w : World) : Calls Try.prog 20 #[.string ⟨#[48, 48, 97, 98]⟩] w fun e w' => ∃ g c, e = .returned (.tuple #[.slice (some ⟨g, 0, none⟩) 2 c, .int .i64 0]) ∧ w'.ownsRow w.heap.size 5 1 (.slice (some ⟨g, 0, none⟩) 2 c) 2 (([0, 171] : List Int).map (Value.int .u8)) ∧ Below w.heap.size w w' := by
  have e : strOfNums (hexL [0, 171]) = ⟨#[48, 48, 97, 98]⟩ := by decide +kernel
  rw [← e]
  exact unhex_back [0, 171] 2 rfl (by decide) (by omega) w

/-- One row with marks behind it, in its block below B; above it all that was told since. -/
structure So (w0 w : World) (B gx cx : Nat) (x : List Int) (R : List (Value × List Int)) : Prop where
  ox : Own w w0.heap.size gx (x.length + 3) cx (x ++ [161, 178, 195])
  lv : Live w B R
  bel : Below w0.heap.size w0 w
  hB : B ≤ w.heap.size
  lx : gx < B

theorem marked_reads {u : World} {B g l c : Nat} {xs : List Int} (h : Own u B g (xs.length + 3) c (xs ++ [161, 178, 195])) (hl : xs.length = l) (hr : ∀ x ∈ xs, 0 ≤ x ∧ x ≤ 255) : Reads u (some ⟨g, 0, none⟩) l xs := by
  subst hl
  have h1 := h.reads (marks_range xs hr) xs.length (by omega)
  rwa [List.take_left' rfl] at h1

section
variable {w0 w w' : World} {B gx cx : Nat} {x : List Int} {R : List (Value × List Int)}
theorem So.start {u1 : World} (o1 : Own u1 w0.heap.size gx (x.length + 3) cx (x ++ [161, 178, 195])) (b1 : Below w0.heap.size w0 u1) : So w0 u1 u1.heap.size gx cx x [] :=
  ⟨o1, ⟨by simp, List.Pairwise.nil⟩, b1, Nat.le_refl _, o1.lt.2⟩
theorem So.below (h : So w0 w B gx cx x R) (hb : Below w.heap.size w w') : So w0 w' B gx cx x R :=
  ⟨h.ox.below hb, h.lv.below hb, h.bel.trans (hb.mono h.bel.size), Nat.le_trans h.hB hb.size, h.lx⟩
theorem So.add {n : Nat} {v : Value} {xs : List Int} (h : So w0 w B gx cx x R) (hb : Below w.heap.size w w') (hl : xs.length = n) (hr : w'.ownsRow w.heap.size 5 1 v n (xs.map (Value.int .u8))) : So w0 w' B gx cx x ((v, xs) :: R) :=
  ⟨h.ox.below hb, h.lv.add hb h.hB hl hr, h.bel.trans (hb.mono h.bel.size), Nat.le_trans h.hB hb.size, h.lx⟩
theorem So.drewN (h : So w0 w B gx cx x R) (k : Nat) : So w0 (w.drewN k) B gx cx x R :=
  ⟨h.ox.drewN k, h.lv.drewN k, below_drewN h.bel k, by simpa using h.hB, h.lx⟩
theorem So.rx {l : Nat} (h : So w0 w B gx cx x R) (hl : x.length = l) (hr : ∀ q ∈ x, 0 ≤ q ∧ q ≤ 255) : Reads w (some ⟨gx, 0, none⟩) l x := marked_reads h.ox hl hr
theorem So.kx {l : Nat} (h : So w0 w B gx cx x R) (hl : x.length = l) : Own w w0.heap.size gx (l + 3) cx (x ++ [161, 178, 195]) := hl ▸ h.ox
theorem So.setx {x' : List Int} (h : So w0 w B gx cx x R) (hg : w.grownBy w' (some gx)) (hl : x'.length = x.length) (ho : Own w' w0.heap.size gx (x.length + 3) cx (x' ++ [161, 178, 195])) : So w0 w' B gx cx x' R := by
  refine ⟨by rw [hl]; exact ho, ⟨fun p hp => (h.lv.rows p hp).kept hg ?_, h.lv.far⟩, h.bel.grown hg h.bel.size (fun k hk => by cases hk; exact h.ox.lt.1), Nat.le_trans h.hB hg.size, h.lx⟩
  cases hb : p.1.ownBlock with
  | none => exact Or.inl rfl
  | some q =>
    refine Or.inr fun e => ?_
    have := ((h.lv.rows p hp).lt q hb).1
    have := h.lx
    cases e
    omega
theorem So.base (h : So w0 w B gx cx x R) : w0.heap.size ≤ B := by have := h.ox.lt.1; have := h.lx; omega
theorem So.row {n c : Nat} {a : Option Addr} {xs : List Int} (h : So w0 w B gx cx x R) (hm : (.slice a n c, xs) ∈ R) (hl : xs.length = n) (hr : ∀ x ∈ xs, 0 ≤ x ∧ x ≤ 255) : Reads w a n xs := h.lv.reads hm hl hr
theorem So.str {n c : Nat} {a : Option Addr} {xs : List Int} (h : So w0 w B gx cx x R) (hm : (.slice a n c, xs) ∈ R) (hl : xs.length = n) (hr : ∀ x ∈ xs, 0 ≤ x ∧ x ≤ 255) :
    (convert 22 9 (.slice a n c)).run Try.prog w = .ok (.string (strOfNums xs)) w := conv a n c xs w (h.row hm hl hr)
end
end Go.Proofs.Ytkcpfcnpniblcab
