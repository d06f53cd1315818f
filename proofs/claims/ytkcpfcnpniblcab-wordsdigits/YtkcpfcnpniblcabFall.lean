/-
  SEAT Ytkcpfcnpniblcab: maskAt, masked, Fall, Rise.
-/
import Derived.Test.YtkcpfcnpniblcabZer
import Derived.Deep.RegionHeld3
import Derived.Deep.AppendLies
namespace Go.Proofs.Ytkcpfcnpniblcab
open Go.RowKit
set_option linter.unusedVariables false

/-- The mask's byte of a number. -/
def mk (zs : List Int) (fill : Int) (i : Nat) : Int := if i < zs.length then zs.getD i 0 else fill

theorem mk_range {zs : List Int} {fill : Int} (h : ∀ x ∈ zs, 0 ≤ x ∧ x ≤ 255) (hf : 0 ≤ fill ∧ fill ≤ 255) (i : Nat) : 0 ≤ mk zs fill i ∧ mk zs fill i ≤ 255 := by
  unfold mk
  split
  · exact byteAt h i
  · exact hf

theorem maskAt_any (a : Option Addr) (l cap : Nat) (zs : List Int) (fill : Int) (i : Nat) (w : World) (hl : l ≤ 140737488355000) (hi : i ≤ 140737488355000) (h : Reads w a l zs) :
    Calls Try.prog 25 #[.slice a l cap, .int .u8 fill, .int .i64 i] w fun e w' => e = .returned (.int .u8 (mk zs fill i)) ∧ w = w' := by
  have hlen := h.1
  by_cases hlt : i < l
  · obtain ⟨b, off, rfl, hb, hcell⟩ := h.pos (by omega)
    have hm : mk zs fill i = zs.getD i 0 := if_pos (by omega)
    obtain ⟨z, hz⟩ : ∃ z, z = zs.getD i 0 := ⟨_, rfl⟩
    have hcx : w.cell? ⟨b, off + i, none⟩ = some (.int .u8 z) := by rw [hz]; exact hcell i hlt
    rw [hm, ← hz]
    clear hcell hz h hlen hm
    go_enter Try.func25, Try.ntmps25
    go_wp2
    go_ret
    exact ⟨rfl, rfl⟩
  · have hm : mk zs fill i = fill := if_neg (by omega)
    rw [hm]
    clear hm
    go_enter Try.func25, Try.ntmps25
    go_wp2
    go_ret
    exact ⟨rfl, rfl⟩

theorem masked_any (a : Option Addr) (l cap : Nat) (zs : List Int) (fill : Int) (i : Nat) (w : World) (hl : l ≤ 140737488355000) (hi : i ≤ 140737488355000) (h : Reads w a l zs) :
    Calls Try.prog 31 #[.slice a l cap, .int .u8 fill, .int .i64 i] w fun e w' => e = .returned (.int .u8 (mk zs fill i)) ∧ w = w' := by
  have hlen := h.1
  by_cases hlt : i < l
  · obtain ⟨b, off, rfl, hb, hcell⟩ := h.pos (by omega)
    have hm : mk zs fill i = zs.getD i 0 := if_pos (by omega)
    obtain ⟨z, hz⟩ : ∃ z, z = zs.getD i 0 := ⟨_, rfl⟩
    have hcx : w.cell? ⟨b, off + i, none⟩ = some (.int .u8 z) := by rw [hz]; exact hcell i hlt
    rw [hm, ← hz]
    clear hcell hz h hlen hm
    go_enter Try.func31, Try.ntmps31
    go_wp2
    go_ret
    exact ⟨rfl, rfl⟩
  · have hm : mk zs fill i = fill := if_neg (by omega)
    rw [hm]
    clear hm
    go_enter Try.func31, Try.ntmps31
    go_wp2
    go_ret
    exact ⟨rfl, rfl⟩

/-- Rise, byte by byte. -/
def riseL (old mask : List Int) (fill : Int) : Nat → List Int
  | 0 => []
  | k + 1 => riseL old mask fill k ++ [bits .or .u8 (old.getD k 0) (mk mask fill k)]
theorem riseL_length (old mask : List Int) (fill : Int) (k : Nat) : (riseL old mask fill k).length = k := by
  induction k with
  | zero => rfl
  | succ k ih => simp [riseL, ih]

theorem made_full (w : World) (n : Nat) (hn : n ≤ 9223372036854775807) : Own (w.alloc (.cells (madeCells #[.int .u8 0] n) 5)) w.heap.size w.heap.size n n (List.replicate n 0) := by
  have h := World.ownsRow_lit (base := w.heap.size) (e := 5) (size := 1) w (madeCells #[.int .u8 0] n) n (Nat.le_refl _) (by simp [maxLen]; omega) (by simp [madeCells])
  have e : (madeCells #[Value.int .u8 0] n).toList = (List.replicate n (0 : Int)).map (Value.int .u8) := by
    refine List.ext_getElem (by simp [madeCells]) fun i h1 h2 => ?_
    simp [madeCells, Nat.mod_one]
  rw [e] at h
  exact h

theorem Reads.drew {w : World} {a : Option Addr} {len : Nat} {zs : List Int} (h : Reads w a len zs) : Reads w.drew a len zs := h

theorem grow_set (xs : List Int) {k : Nat} (hx : xs.length = k) (l : Nat) (h : k < l) (z : Int) : (xs ++ List.replicate (l - k) 0).set k z = xs ++ [z] ++ List.replicate (l - (k + 1)) 0 := by
  rw [List.set_append_right _ _ (by omega), hx, Nat.sub_self]
  have e : l - k = (l - (k + 1)) + 1 := by omega
  rw [e, List.replicate_succ, List.set_cons_zero]
  simp

set_option maxHeartbeats 1000000 in
theorem rise_any (a : Option Addr) (l cap : Nat) (zs : List Int) (am : Option Addr) (lm cm : Nat) (ms : List Int) (fill : Int) (w : World) (hl : l ≤ 140737488351232) (hlm : lm ≤ 140737488351232) (h : Reads w a l zs) (hm : Reads w am lm ms) :
    Calls Try.prog 8 #[.slice a l cap, .slice am lm cm, .int .u8 fill] w fun e w' => ∃ g c, e = .returned (.slice (some ⟨g, 0, none⟩) l c) ∧ Own w' w.heap.size g l c (riseL zs ms fill l) ∧ Below w.heap.size w w' := by
  obtain ⟨i0, hi, hz0, hz1, hz2⟩ := info_parts info5
  have hlen := h.1
  have hmk : ∀ u : World, (Instr.makeSlice 22 (.int .i64 (l : Int)) (.int .i64 (l : Int))).run Try.prog u =
      .ok (.slice (some ⟨u.heap.size, 0, none⟩) l l) (u.alloc (.cells (madeCells #[.int .u8 0] l) 5)) := fun u => by
    have h := run_make (P := Try.prog) u 22 5 i0 (.int .u8 0) Try.underlying22 hi hz0 .i64 .i64 (l : Int) (l : Int) (by omega) (Int.le_refl _) (by rw [hz2]; omega) (by omega)
    simpa [hz1, Value.cells] using h
  have hmf := made_full w l (by omega)
  go_enter Try.func8, Try.ntmps8
  go_wp2
  go_loopw [14] (fun i wr => ∃ k : Nat, k ≤ l ∧ i = .int .i64 k ∧ Own wr w.heap.size w.heap.size l l (riseL zs ms fill k ++ List.replicate (l - k) 0) ∧ Below w.heap.size w wr)
    (fun i _ => l - (intOf i).toNat)
  case atStart => exact ⟨0, Nat.zero_le _, rfl, by simpa [riseL] using hmf, (Below.refl w.heap.size w).alloc (Nat.le_refl _) _⟩
  case round =>
    obtain ⟨k, hk, rfl, hown, hbel⟩ := hrel
    by_cases hlt : k < l
    · obtain ⟨b, off, rfl, hb, hcell⟩ := h.pos (by omega)
      obtain ⟨z, hz⟩ : ∃ z, z = zs.getD k 0 := ⟨_, rfl⟩
      have hcx : wr.cell? ⟨b, off + k, none⟩ = some (.int .u8 z) := by rw [hz]; exact (hbel.cell (by exact hb)).trans (hcell k hlt)
      have hcy := hown.cell k hlt
      have hfz : wr.frozen? ⟨w.heap.size, k, none⟩ = false := World.ownsRow.frozenAt hown k
      have hmr := hm.below hbel
      have i1 : (k : Int) < (l : Int) := by omega
      have i2 : (0 : Int) ≤ (k : Int) := by omega
      have hd1 : decide ((k : Int) < (l : Int)) = true := decide_eq_true i1
      have hbn : b ≠ w.heap.size := by omega
      have hS := hown.set k (bits .or .u8 z (mk ms fill k))
      have HS : Hid (Own (wr.setCell ⟨w.heap.size, k, none⟩ (.int .u8 (bits .or .u8 z (mk ms fill k)))) w.heap.size w.heap.size l l (riseL zs ms fill (k + 1) ++ List.replicate (l - (k + 1)) 0)) := by
        have h1 := hS.1
        rw [grow_set (riseL zs ms fill k) (riseL_length _ _ _ _) l hlt] at h1
        rw [riseL, ← hz]
        exact h1
      have HB : Hid (Below w.heap.size w (wr.setCell ⟨w.heap.size, k, none⟩ (.int .u8 (bits .or .u8 z (mk ms fill k))))) := hbel.setCell (Nat.le_refl _) _
      clear hcell hz h hS hown hlen hm
      go_wp2
      go_region_held3 (fun w' => w'.cell? ⟨b, off + k, none⟩ = some (.int .u8 z))
        (first | exact hcx | exact (Below.cell ((Below.setCell (Below.refl w.heap.size wr) (p := ⟨w.heap.size, k, none⟩) (Nat.le_refl _) _).drew) (by exact hb)).trans hcx)
        (first | (go_at_call 25; refine (maskAt_any _ _ _ ms _ k _ ?_ ?_ ?_).mono ?_; omega; omega; exact hmr.drew; rintro e u ⟨rfl, rfl⟩))
      go_wp2
      go_roundw
      case rel => exact ⟨k + 1, by omega, by go_num, HS.out, HB.out.drew⟩
      case measure => simp [intOf]; omega
    · have hkl : k = l := by omega
      subst hkl
      rw [Nat.sub_self, List.replicate_zero, List.append_nil] at hown
      go_wp2
      go_ret
      exact ⟨_, _, rfl, hown, hbel⟩

/-- Fall, byte by byte. -/
def fb (o x m : Int) : Int := bits .and .u8 o (bits .or .u8 x (bits .xor .u8 IntKind.u8.max m))
def fallL (old want mask : List Int) (fill : Int) : Nat → List Int
  | 0 => []
  | k + 1 => fallL old want mask fill k ++ [fb (old.getD k 0) (want.getD k 0) (mk mask fill k)]
theorem fallL_length (old want mask : List Int) (fill : Int) (k : Nat) : (fallL old want mask fill k).length = k := by
  induction k with
  | zero => rfl
  | succ k ih => simp [fallL, ih]

set_option maxHeartbeats 1000000 in
theorem fall_ok (a : Option Addr) (l cap : Nat) (zs : List Int) (a' : Option Addr) (cap' : Nat) (xs : List Int) (am : Option Addr) (lm cm : Nat) (ms : List Int) (fill : Int) (w : World) (hl : l ≤ 140737488351232) (hlm : lm ≤ 140737488355000) (h : Reads w a l zs) (hx : Reads w a' l xs) (hm : Reads w am lm ms) :
    Calls Try.prog 7 #[.slice a l cap, .slice a' l cap', .slice am lm cm, .int .u8 fill] w fun e w' => ∃ g c, e = .returned (.tuple #[.slice (some ⟨g, 0, none⟩) l c, .int .i64 0]) ∧ Own w' w.heap.size g l c (fallL zs xs ms fill l) ∧ Below w.heap.size w w' := by
  obtain ⟨i0, hi, hz0, hz1, hz2⟩ := info_parts info5
  have hlen := h.1
  have hmk : ∀ u : World, (Instr.makeSlice 22 (.int .i64 (l : Int)) (.int .i64 (l : Int))).run Try.prog u =
      .ok (.slice (some ⟨u.heap.size, 0, none⟩) l l) (u.alloc (.cells (madeCells #[.int .u8 0] l) 5)) := fun u => by
    have h := run_make (P := Try.prog) u 22 5 i0 (.int .u8 0) Try.underlying22 hi hz0 .i64 .i64 (l : Int) (l : Int) (by omega) (Int.le_refl _) (by rw [hz2]; omega) (by omega)
    simpa [hz1, Value.cells] using h
  have hmf := made_full w l (by omega)
  go_enter Try.func7, Try.ntmps7
  go_wp2
  go_loopw [22] (fun i wr => ∃ k : Nat, k ≤ l ∧ i = .int .i64 k ∧ Own wr w.heap.size w.heap.size l l (fallL zs xs ms fill k ++ List.replicate (l - k) 0) ∧ Below w.heap.size w wr)
    (fun i _ => l - (intOf i).toNat)
  case atStart => exact ⟨0, Nat.zero_le _, rfl, by simpa [fallL] using hmf, (Below.refl w.heap.size w).alloc (Nat.le_refl _) _⟩
  case round =>
    obtain ⟨k, hk, rfl, hown, hbel⟩ := hrel
    by_cases hlt : k < l
    · obtain ⟨b, off, rfl, hb, hcell⟩ := h.pos (by omega)
      obtain ⟨b', off', rfl, hb', hcell'⟩ := hx.pos (by omega)
      obtain ⟨z, hz⟩ : ∃ z, z = zs.getD k 0 := ⟨_, rfl⟩
      obtain ⟨x, hxx⟩ : ∃ x, x = xs.getD k 0 := ⟨_, rfl⟩
      have hcx : wr.cell? ⟨b, off + k, none⟩ = some (.int .u8 z) := by rw [hz]; exact (hbel.cell (by exact hb)).trans (hcell k hlt)
      have hcx' : wr.cell? ⟨b', off' + k, none⟩ = some (.int .u8 x) := by rw [hxx]; exact (hbel.cell (by exact hb')).trans (hcell' k hlt)
      have hcy := hown.cell k hlt
      have hfz : wr.frozen? ⟨w.heap.size, k, none⟩ = false := World.ownsRow.frozenAt hown k
      have hmr := hm.below hbel
      have i1 : (k : Int) < (l : Int) := by omega
      have i2 : (0 : Int) ≤ (k : Int) := by omega
      have hd1 : decide ((k : Int) < (l : Int)) = true := decide_eq_true i1
      have hS := hown.set k (fb z x (mk ms fill k))
      have HS : Hid (Own (wr.setCell ⟨w.heap.size, k, none⟩ (.int .u8 (fb z x (mk ms fill k)))) w.heap.size w.heap.size l l (fallL zs xs ms fill (k + 1) ++ List.replicate (l - (k + 1)) 0)) := by
        have h1 := hS.1
        rw [grow_set (fallL zs xs ms fill k) (fallL_length _ _ _ _ _) l hlt] at h1
        rw [fallL, ← hz, ← hxx]
        exact h1
      have HB : Hid (Below w.heap.size w (wr.setCell ⟨w.heap.size, k, none⟩ (.int .u8 (fb z x (mk ms fill k))))) := hbel.setCell (Nat.le_refl _) _
      clear hcell hcell' hz hxx h hx hS hown hlen hm
      go_wp2
      go_region_held3 (fun w' => w'.cell? ⟨b, off + k, none⟩ = some (.int .u8 z) ∧ w'.cell? ⟨b', off' + k, none⟩ = some (.int .u8 x))
        (first | exact ⟨hcx, hcx'⟩ | exact ⟨(Below.cell ((Below.setCell (Below.refl w.heap.size wr) (p := ⟨w.heap.size, k, none⟩) (Nat.le_refl _) _).drew) (by exact hb)).trans hcx, (Below.cell ((Below.setCell (Below.refl w.heap.size wr) (p := ⟨w.heap.size, k, none⟩) (Nat.le_refl _) _).drew) (by exact hb')).trans hcx'⟩)
        (first | (go_at_call 25; refine (maskAt_any _ _ _ ms _ k _ ?_ ?_ ?_).mono ?_; omega; omega; exact hmr.drew; rintro e u ⟨rfl, rfl⟩))
      go_wp2
      go_roundw
      case rel => exact ⟨k + 1, by omega, by go_num, HS.out, HB.out.drew⟩
      case measure => simp [intOf]; omega
    · have hkl : k = l := by omega
      subst hkl
      rw [Nat.sub_self, List.replicate_zero, List.append_nil] at hown
      go_wp2
      go_ret2
      exact ⟨_, _, rfl, hown, hbel⟩

set_option maxHeartbeats 400000 in
theorem ones_of (n : Nat) (w : World) (hn : n ≤ 140737488351232) :
    Calls Try.prog 10 #[.int .i64 n] w fun e w' => ∃ a c, e = .returned (.slice a n c) ∧ Reads w' a n (List.replicate n 255) ∧ Below w.heap.size w w' := by
  obtain ⟨i0, hi, hz0, hz1, hz2⟩ := info_parts info5
  go_enter Try.func10, Try.ntmps10
  go_wp2
  go_loopw [3, 4] (fun v i wr => ∃ k : Nat, k ≤ n ∧ i = .int .i64 k ∧ wr.ownsRow w.heap.size 5 1 v k ((List.replicate k (255 : Int)).map (Value.int .u8)) ∧ Below w.heap.size w wr)
    (fun _ i _ => n - (intOf i).toNat)
  case atStart => exact ⟨0, Nat.zero_le _, rfl, World.ownsRow_nil _ _ _ _, Below.refl _ _⟩
  case round =>
    obtain ⟨k, hk, rfl, hown, hbel⟩ := hrel
    by_cases hlt : k < n
    · go_wp2_with (
        (at_builtin; refine wpList_append_own _ rfl _ _ 22 rfl w.heap.size 5 i0 (.int .u8 0) 1 1 Try.underlying22 hi hz0 hz1 hz2 rfl (by decide) _ _ _ rfl (hown.alloc _) ⟨_, 0, none⟩ 1 1 [.int .u8 255] rfl rfl (news_one _ _) (by simp [Value.oneCell']) (by simp [maxLen]; omega) (by omega) (by have := hbel.size; simp; omega) ?_; intro v2 w2 hown2 hgrow2 _))
      have hown3 : w2.ownsRow w.heap.size 5 1 v2 (k + 1) ((List.replicate (k + 1) (255 : Int)).map (Value.int .u8)) := by
        rw [List.replicate_succ', List.map_append]
        exact hown2
      have hbel3 := (hbel.alloc hbel.size _).grown hgrow2 (by have := hbel.size; simp; omega) (fun k hk => (hown.lt k hk).1)
      clear hown2 hgrow2 hown
      go_wp2
      go_roundw
      case rel => exact ⟨k + 1, by omega, by go_num, hown3, hbel3⟩
      case measure => simp [intOf]; omega
    · have hkn : k = n := by omega
      subst hkn
      obtain ⟨a, c, rfl, hrd⟩ := own_any hown (fun x hx => by have := (List.mem_replicate.1 hx).2; omega)
      go_wp2
      go_ret
      exact ⟨a, c, rfl, hrd, hbel⟩

end Go.Proofs.Ytkcpfcnpniblcab
