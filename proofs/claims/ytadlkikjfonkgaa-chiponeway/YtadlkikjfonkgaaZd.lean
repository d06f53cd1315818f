/-
  SEAT Ytadlkikjfonkgaa: Gc, Gd, Ge, Gf, Gg.
-/
import Derived.Test.YtadlkikjfonkgaaZc
namespace Go.Proofs.Ytadlkikjfonkgaa
open Go.RowKit Go.Conc
set_option linter.unusedVariables false

/-- Do two bytes differ at a bit? -/
def dB (x y : Int) (k : Nat) : Bool := x / 2 ^ k % 2 != y / 2 ^ k % 2
theorem div_cast (N k : Nat) : (N : Int) / 2 ^ k = ((N / 2 ^ k : Nat) : Int) := by
  rw [Int.natCast_ediv]
  congr 1
theorem near_bit (x y : Int) (k : Nat) (hx : 0 ≤ x ∧ x ≤ 255) (hy : 0 ≤ y ∧ y ≤ 255) (hk : k < 8) : (bits .and .u8 (bits .xor .u8 x y / 2 ^ k) 1 == 1) = dB x y k := by
  obtain ⟨X, rfl⟩ := Int.eq_ofNat_of_zero_le hx.1
  obtain ⟨Y, rfl⟩ := Int.eq_ofNat_of_zero_le hy.1
  have h : X ^^^ Y < 2 ^ 8 := Nat.xor_lt_two_pow (by omega) (by omega)
  have h2 : (X ^^^ Y) / 2 ^ k < 256 := Nat.lt_of_le_of_lt (Nat.div_le_self _ _) h
  rw [u8_xor_nat X Y (by omega) (by omega), div_cast]
  have h3 := u8_and_nat ((X ^^^ Y) / 2 ^ k) 1 (by omega) (by omega)
  rw [show ((1 : Nat) : Int) = 1 from rfl] at h3
  rw [h3, Nat.and_one_is_mod]
  unfold dB
  rw [div_cast, div_cast]
  have tb : ∀ N : Nat, N / 2 ^ k % 2 = (N.testBit k).toNat := fun N => (Nat.toNat_testBit N k).symm
  have e1 : ((X / 2 ^ k : Nat) : Int) % 2 = ((X / 2 ^ k % 2 : Nat) : Int) := by omega
  have e2 : ((Y / 2 ^ k : Nat) : Int) % 2 = ((Y / 2 ^ k % 2 : Nat) : Int) := by omega
  rw [e1, e2, tb X, tb Y, tb (X ^^^ Y), Nat.testBit_xor]
  cases X.testBit k <;> cases Y.testBit k <;> rfl
/-- How many of the first bits of a unit differ. -/
def dcnt (xs ys : List Int) (S : Nat) (u : Nat) : Nat → Nat
  | 0 => 0
  | j + 1 => dcnt xs ys S u j + if dB (xs.getD (j / 8) 0) (ys.getD (j / 8) 0) (j % 8) && unitI S j + 1 == (u : Int) then 1 else 0
def drow (xs ys : List Int) (S j : Nat) : List Nat := (List.range (S + 1)).map (fun u => dcnt xs ys S u j)
theorem dB_self (x : Int) (k : Nat) : dB x x k = false := by simp [dB]
theorem dcnt_skip {xs ys : List Int} {S u i : Nat} (h : xs.getD i 0 = ys.getD i 0) : ∀ k, k ≤ 8 → dcnt xs ys S u (8 * i + k) = dcnt xs ys S u (8 * i)
  | 0, _ => rfl
  | k + 1, hk => by
    have e1 : (8 * i + k) / 8 = i := by omega
    rw [← Nat.add_assoc, dcnt, e1, h, dB_self, dcnt_skip h k (by omega)]
    simp
theorem drow_skip {xs ys : List Int} {S i : Nat} (h : xs.getD i 0 = ys.getD i 0) {k : Nat} (hk : k ≤ 8) : drow xs ys S (8 * i + k) = drow xs ys S (8 * i) := by
  unfold drow
  exact List.map_congr_left (fun u _ => dcnt_skip h k hk)
theorem drow_same {xs ys : List Int} {S j : Nat} (h : dB (xs.getD (j / 8) 0) (ys.getD (j / 8) 0) (j % 8) = false) : drow xs ys S (j + 1) = drow xs ys S j := by
  unfold drow
  refine List.map_congr_left (fun u _ => ?_)
  rw [dcnt, h]
  simp
theorem drow_up {xs ys : List Int} {S j v : Nat} (h : dB (xs.getD (j / 8) 0) (ys.getD (j / 8) 0) (j % 8) = true) (hv : unitI S j + 1 = (v : Int)) (hl : v < S + 1) : drow xs ys S (j + 1) = (drow xs ys S j).set v (dcnt xs ys S v j + 1) := by
  refine List.ext_getElem? (fun u => ?_)
  by_cases hu : u < S + 1
  · have e1 : (drow xs ys S (j + 1))[u]? = some (dcnt xs ys S u (j + 1)) := by simp [drow, List.getElem?_range hu]
    rw [e1, dcnt, h, hv]
    by_cases e : v = u
    · subst e
      rw [List.getElem?_set_self (by simp [drow]; omega)]
      simp
    · rw [List.getElem?_set_ne e]
      have e2 : ((v : Int) == (u : Int)) = false := by simp; omega
      simp [drow, List.getElem?_range hu, e2]
  · rw [List.getElem?_eq_none (by simp [drow]; omega), List.getElem?_eq_none (by simp [drow]; omega)]
theorem drow_get {xs ys : List Int} {S j v : Nat} (hl : v < S + 1) : (drow xs ys S j)[v]? = some (dcnt xs ys S v j) := by simp [drow, List.getElem?_range hl]
theorem drow_zero (xs ys : List Int) (S : Nat) : drow xs ys S 0 = List.replicate (S + 1) 0 := by
  refine List.ext_getElem? (fun u => ?_)
  by_cases hu : u < S + 1
  · rw [drow_get hu, List.getElem?_replicate, if_pos hu]; rfl
  · rw [List.getElem?_eq_none (by simp [drow]; omega), List.getElem?_eq_none (by simp; omega)]
theorem dcnt_le (xs ys : List Int) (S u : Nat) : ∀ j, dcnt xs ys S u j ≤ j
  | 0 => Nat.le_refl _
  | j + 1 => by
    rw [dcnt]
    have := dcnt_le xs ys S u j
    split <;> omega
theorem getD_range {zs : List Int} (h : ∀ z ∈ zs, 0 ≤ z ∧ z ≤ 255) (i : Nat) : 0 ≤ zs.getD i 0 ∧ zs.getD i 0 ≤ 255 := by
  rw [List.getD_eq_getElem?_getD]
  cases h1 : zs[i]? with
  | none => simp
  | some z => exact h z (List.mem_of_getElem? h1)
def zrow (n : Nat) : Array Value := (List.replicate n (.int .i64 0)).toArray
theorem mk48 (w : World) (n : Nat) (hn : n ≤ 4096) : (Instr.makeSlice 48 (.int .i64 (n : Int)) (.int .i64 (n : Int))).run Try.prog w = .ok (.slice (some ⟨w.heap.size, 0, none⟩) n n) (w.alloc (.cells (zrow n) 3)) := by
  obtain ⟨i, hi, hz0, hz1, hb⟩ := info_parts info3
  have h := run_make (P := Try.prog) w 48 3 i _ Try.underlying48 hi hz0 .i64 .i64 (n : Int) (n : Int) (by omega) (by omega) (by rw [hb]; omega) (by omega)
  rw [hz1] at h
  simp only [Int.toNat_natCast] at h
  rw [h]
  have e := made_eq [.int .i64 0] 1 rfl (by omega) n
  have e2 : (List.replicate n [Value.int .i64 0]).flatMap id = List.replicate n (.int .i64 0) := by
    clear e h hn
    induction n with
    | zero => rfl
    | succ n ih => rw [List.replicate_succ, List.replicate_succ, List.flatMap_cons, ih]; rfl
  rw [e2] at e
  unfold zrow
  rw [← e]
  rfl
/-- What stands while near counts. -/
structure NR (w u : World) (B P S : Nat) (g : Nat) (cs : List Nat) : Prop where
  bel : Below w.heap.size w u
  bg : u.heap[w.heap.size]? = some (.cells #[.int .i64 (B : Int), .int .i64 (P : Int), .int .i64 (S : Int)] 23 (0, 0))
  row : u.heap[g]? = some (.cells (cs.map (fun (n : Nat) => Value.int .i64 (n : Int))).toArray 3 (0, 0))
  hg : w.heap.size + 1 ≤ g
theorem NR.keep {w u v : World} {B P S g : Nat} {cs : List Nat} (h : NR w u B P S g cs) (hb : Below u.heap.size u v) : NR w v B P S g cs :=
  ⟨below_trans h.bel hb, (hb.block _ (lt_of_block h.bg)).trans h.bg, (hb.block _ (lt_of_block h.row)).trans h.row, h.hg⟩
theorem nr_cell {w u : World} {B P S g : Nat} {cs : List Nat} (h : NR w u B P S g cs) {j n : Nat} (hj : cs[j]? = some n) : u.cell? ⟨g, j, none⟩ = some (.int .i64 (n : Int)) := by
  simp only [World.cell?, h.row, List.getElem?_toArray, List.getElem?_map, hj]
  rfl
theorem NR.set {w u : World} {B P S g : Nat} {cs : List Nat} (h : NR w u B P S g cs) (j n : Nat) : NR w (u.setCell ⟨g, j, none⟩ (.int .i64 (n : Int))) B P S g (cs.set j n) := by
  have ho := Only.setCell (· = g) u g j (.int .i64 (n : Int)) rfl
  have hg := h.hg
  refine ⟨h.bel.trans (ho.below (fun k hk => by omega) h.bel.size), (ho.block _ (lt_of_block h.bg) (by omega)).trans h.bg, ?_, h.hg⟩
  have h1 := heap_setCell_same u g j _ 3 (.int .i64 (n : Int)) h.row
  rw [h1]
  simp only [List.setIfInBounds_toArray]
  rw [List.map_set]
end Go.Proofs.Ytadlkikjfonkgaa
namespace Go.Proofs.Ytadlkikjfonkgaa
open Go.RowKit Go.Conc
set_option linter.unusedVariables false

/-- A bit of a row. -/
def bt (zs : List Int) (j : Nat) : Int := zs.getD (j / 8) 0 / 2 ^ (j % 8) % 2
def Byt (zs : List Int) : Prop := ∀ z ∈ zs, 0 ≤ z ∧ z ≤ 255
theorem bit_xor (x : Int) (hx : 0 ≤ x ∧ x ≤ 255) (m k : Nat) (hm : m < 8) (hk : k < 8) : bits .xor .u8 x (2 ^ m % 256) / 2 ^ k % 2 = if k = m then 1 - x / 2 ^ k % 2 else x / 2 ^ k % 2 := by
  obtain ⟨X, rfl⟩ := Int.eq_ofNat_of_zero_le hx.1
  have hp : (2 : Int) ^ m % 256 = ((2 ^ m : Nat) : Int) := by
    have h1 : (2 : Nat) ^ m < 256 := Nat.lt_of_lt_of_le (Nat.pow_lt_pow_right (by omega) hm) (by decide)
    have h2 : ((2 ^ m : Nat) : Int) = (2 : Int) ^ m := by rw [Int.natCast_pow]; rfl
    rw [← h2]
    exact Int.emod_eq_of_lt (Int.natCast_nonneg _) (Int.ofNat_lt.2 h1)
  have h1 : (2 : Nat) ^ m < 256 := Nat.lt_of_lt_of_le (Nat.pow_lt_pow_right (by omega) hm) (by decide)
  rw [hp, u8_xor_nat X (2 ^ m) (by omega) h1, div_cast, div_cast]
  have tb : ∀ N : Nat, N / 2 ^ k % 2 = (N.testBit k).toNat := fun N => (Nat.toNat_testBit N k).symm
  have e1 : ((X / 2 ^ k : Nat) : Int) % 2 = ((X / 2 ^ k % 2 : Nat) : Int) := by omega
  have e2 : (((X ^^^ 2 ^ m) / 2 ^ k : Nat) : Int) % 2 = (((X ^^^ 2 ^ m) / 2 ^ k % 2 : Nat) : Int) := by omega
  rw [e1, e2, tb X, tb (X ^^^ 2 ^ m), Nat.testBit_xor, Nat.testBit_two_pow]
  by_cases h : k = m
  · subst h
    cases X.testBit k <;> simp
  · have : ¬ m = k := fun e => h e.symm
    simp [h, this]
theorem getD_set' (xs : List Int) (i j : Nat) (v : Int) (h : i < xs.length) : (xs.set i v).getD j 0 = if i = j then v else xs.getD j 0 := by
  rw [List.getD_eq_getElem?_getD, List.getD_eq_getElem?_getD]
  by_cases e : i = j
  · subst e; rw [List.getElem?_set_self h, if_pos rfl]; rfl
  · rw [List.getElem?_set_ne e, if_neg e]
theorem bt_flip {zs : List Int} (hz : Byt zs) {j : Nat} (hj : j < 8 * zs.length) (i : Nat) : bt (flipL zs j) i = if i = j then 1 - bt zs i else bt zs i := by
  unfold bt flipL
  rw [getD_set' _ _ _ _ (by omega)]
  by_cases e : j / 8 = i / 8
  · rw [if_pos e, e, bit_xor _ (getD_range hz _) _ _ (Nat.mod_lt _ (by omega)) (Nat.mod_lt _ (by omega))]
    by_cases h : i = j
    · subst h; simp
    · rw [if_neg h, if_neg (by omega)]
  · rw [if_neg e, if_neg (by intro h; exact e (by rw [h]))]
theorem bt_flips : ∀ (fl : List Nat) (zs : List Int), Byt zs → fl.Nodup → (∀ j ∈ fl, j < 8 * zs.length) → ∀ i, bt (flipsL zs fl) i = if i ∈ fl then 1 - bt zs i else bt zs i
  | [], zs, _, _, _, i => by simp [flipsL]
  | j :: r, zs, hz, hn, hl, i => by
    have h1 := List.nodup_cons.1 hn
    show bt (flipsL (flipL zs j) r) i = _
    rw [bt_flips r (flipL zs j) (flipL_range zs j hz) h1.2 (fun x hx => by rw [flipL_length]; exact hl x (by simp [hx])) i, bt_flip hz (hl j (by simp)) i]
    by_cases e : i = j
    · subst e
      rw [if_neg h1.1, if_pos rfl, if_pos (by simp)]
    · rw [if_neg e]
      by_cases hr : i ∈ r
      · rw [if_pos hr, if_pos (by simp [hr])]
      · rw [if_neg hr, if_neg (by simp [e, hr])]
theorem dB_flips {fl : List Nat} {zs : List Int} (hz : Byt zs) (hn : fl.Nodup) (hl : ∀ j ∈ fl, j < 8 * zs.length) (i : Nat) : dB ((flipsL zs fl).getD (i / 8) 0) (zs.getD (i / 8) 0) (i % 8) = decide (i ∈ fl) := by
  have h := bt_flips fl zs hz hn hl i
  have hb : bt zs i = 0 ∨ bt zs i = 1 := by unfold bt; omega
  show (bt (flipsL zs fl) i != bt zs i) = _
  rw [h]
  by_cases hi : i ∈ fl
  · rw [if_pos hi]
    rcases hb with hb | hb <;> simp [hb, hi]
  · rw [if_neg hi]
    simp [hi]
/-- Flips of different units: no unit counts more than one. -/
theorem near_one {fl : List Nat} {zs : List Int} {S : Nat} (hz : Byt zs) (hl : ∀ j ∈ fl, j < 8 * zs.length) (hu : fl.Pairwise (fun a b => unitN S a ≠ unitN S b)) (u n : Nat) : dcnt (flipsL zs fl) zs S u n ≤ 1 := by
  have hn : fl.Nodup := hu.imp (fun h e => h (by rw [e]))
  have key : ∀ a b, a ∈ fl → b ∈ fl → unitN S a = unitN S b → a = b := by
    clear hz hl hn
    induction fl with
    | nil => intro a b ha; cases ha
    | cons x r ih =>
      obtain ⟨h1, h2⟩ := List.pairwise_cons.1 hu
      intro a b ha hb e
      rcases List.mem_cons.1 ha with e1 | ha'
      · rcases List.mem_cons.1 hb with e2 | hb'
        · rw [e1, e2]
        · exact absurd (by rw [← e1]; exact e) (h1 b hb')
      · rcases List.mem_cons.1 hb with e2 | hb'
        · exact absurd (by rw [← e2]; exact e.symm) (h1 a ha')
        · exact ih h2 a b ha' hb' e
  have main : ∀ n, dcnt (flipsL zs fl) zs S u n ≤ 1 ∧ ((∃ a, a < n ∧ a ∈ fl ∧ unitI S a + 1 = (u : Int)) ∨ dcnt (flipsL zs fl) zs S u n = 0) := by
    intro n
    induction n with
    | zero => exact ⟨Nat.zero_le _, Or.inr rfl⟩
    | succ n ih =>
      rw [dcnt, dB_flips hz hn hl n]
      by_cases h : n ∈ fl ∧ unitI S n + 1 = (u : Int)
      · have hc : (decide (n ∈ fl) && unitI S n + 1 == (u : Int)) = true := by simp [h.1, h.2]
        rw [if_pos hc]
        refine ⟨?_, Or.inl ⟨n, by omega, h⟩⟩
        rcases ih.2 with ⟨a, ha, hf, ha2⟩ | h0
        · have e : unitI S a = unitI S n := by have := h.2; omega
          have := key a n hf h.1 (unitI_N e)
          omega
        · omega
      · have hc : ¬ (decide (n ∈ fl) && unitI S n + 1 == (u : Int)) = true := by
          intro h9
          simp at h9
          exact h h9
        rw [if_neg hc]
        refine ⟨ih.1, ?_⟩
        rcases ih.2 with ⟨a, ha, hh⟩ | h0
        · exact Or.inl ⟨a, by omega, hh⟩
        · exact Or.inr (by omega)
  exact (main n).1
end Go.Proofs.Ytadlkikjfonkgaa
namespace Go.Proofs.Ytadlkikjfonkgaa
open Go.RowKit Go.Conc
set_option linter.unusedVariables false

theorem fb_ones {x : Int} (h : 0 ≤ x ∧ x ≤ 255) : fb 255 x 255 = x := by
  obtain ⟨X, rfl⟩ := Int.eq_ofNat_of_zero_le h.1
  unfold fb
  have e1 : bits .xor .u8 IntKind.u8.max 255 = ((0 : Nat) : Int) := by decide
  rw [e1, u8_or_nat X 0 (by omega) (by omega), Nat.or_zero, show (255 : Int) = ((255 : Nat) : Int) from rfl, u8_and_nat 255 X (by omega) (by omega)]
  have : 255 &&& X = X := by rw [Nat.and_comm, show (255 : Nat) = 2 ^ 8 - 1 from rfl, Nat.and_two_pow_sub_one_eq_mod]; omega
  rw [this]
theorem fall_ones {want : List Int} (hb : Byt want) {L : Nat} (hl : want.length = L) : fallL (List.replicate L 255) want [] 255 L = want := by
  have key : ∀ k, k ≤ L → fallL (List.replicate L 255) want [] 255 k = want.take k := by
    intro k
    induction k with
    | zero => intro _; rfl
    | succ k ih =>
      intro hk
      rw [fallL, ih (by omega)]
      have e1 : (List.replicate L (255 : Int)).getD k 0 = 255 := by rw [List.getD_eq_getElem?_getD, List.getElem?_replicate, if_pos (by omega)]; rfl
      have e2 : mk [] 255 k = 255 := by simp [mk]
      have hkl : k < want.length := by omega
      have e3 : want.getD k 0 = want[k] := by rw [List.getD_eq_getElem?_getD, List.getElem?_eq_getElem hkl]; rfl
      rw [e1, e2, e3, fb_ones (hb _ (List.getElem_mem hkl)), List.take_succ_eq_append_getElem hkl]
  rw [key L (Nat.le_refl _), List.take_of_length_le (by omega)]
def triedE (e : Int) (dark : Bool) : Bool := e == 0 || e == 44 || (e == 45 && dark)
def stepK (C : Ch) (o : Opc) (K : Nat → Nat → Bool) : Nat → Nat → Bool := fun i k =>
  if o.k = 1 ∧ triedE (doesC C o).1 (doesC C o).2.dark = true ∧ (i : Int) = o.b ∧ (k : Int) = o.p then false
  else if o.k = 2 ∧ triedE (doesC C o).1 (doesC C o).2.dark = true ∧ (i : Int) = o.b then (doesC C o).1 == 0 else K i k
def stepW (C : Ch) (o : Opc) (K : Nat → Nat → Bool) (W : Nat → Nat → Option (List Int)) : Nat → Nat → Option (List Int) := fun i k =>
  if o.k = 1 ∧ triedE (doesC C o).1 (doesC C o).2.dark = true ∧ (i : Int) = o.b ∧ (k : Int) = o.p then (if (doesC C o).1 = 0 ∧ K i k = true then some (o.want C.S) else none)
  else if o.k = 2 ∧ triedE (doesC C o).1 (doesC C o).2.dark = true ∧ (i : Int) = o.b then none else W i k
structure HInv (C : Ch) (W : Nat → Nat → Option (List Int)) (K : Nat → Nat → Bool) : Prop where
  q : ∀ f ∈ C.q, f.k = 1 ∨ f.k = 2
  un : ∀ b p, (C.fl b p).Pairwise (fun a c => unitN C.S a ≠ unitN C.S c)
  cl : ∀ i k b g, C.bl[i]? = some b → b.ps[k]? = some g → K i k = true → g.bits = List.replicate (pgB C.S) 255 ∧ C.fl i k = [] ∧ g.h = false
  wt : ∀ i k b g z, C.bl[i]? = some b → b.ps[k]? = some g → W i k = some z → g.bits = z ∧ z.length = pgB C.S ∧ Byt z
theorem takeF_k {q : List Ft} (h : ∀ f ∈ q, f.k = 1 ∨ f.k = 2) (n : Int) : (takeF n q).k = 1 ∨ (takeF n q).k = 2 ∨ takeF n q = Ft.no := by
  cases q with
  | nil => exact Or.inr (Or.inr rfl)
  | cons f r =>
    by_cases e : f.a = n
    · rw [show takeF n (f :: r) = f from if_pos e]
      rcases h f (by simp) with h1 | h1
      · exact Or.inl h1
      · exact Or.inr (Or.inl h1)
    · exact Or.inr (Or.inr (if_neg e))
theorem takeR_k {q : List Ft} (h : ∀ f ∈ q, f.k = 1 ∨ f.k = 2) (n : Int) : ∀ f ∈ takeR n q, f.k = 1 ∨ f.k = 2 := by
  cases q with
  | nil => exact h
  | cons f r =>
    by_cases e : f.a = n
    · rw [show takeR n (f :: r) = r from if_pos e]; exact fun g hg => h g (by simp [hg])
    · rw [show takeR n (f :: r) = f :: r from if_neg e]; exact h
/-- What leaves the tables and the chip's cells as they are. -/
theorem HInv.same {C D : Ch} {W : Nat → Nat → Option (List Int)} {K : Nat → Nat → Bool} (h : HInv C W K) (e1 : D.bl = C.bl) (e2 : D.fl = C.fl) (e3 : D.q = C.q) (e4 : D.S = C.S) : HInv D W K := by
  refine ⟨by rw [e3]; exact h.q, by rw [e2, e4]; exact h.un, ?_, ?_⟩
  · rw [e1, e2, e4]; exact h.cl
  · rw [e1, e4]; exact h.wt
theorem tried_no {e : Int} {d : Bool} (h : e = 41 ∨ e = 42 ∨ e = 43 ∨ e = 46 ∨ (e = 45 ∧ d = false)) : triedE e d = false := by
  rcases h with rfl | rfl | rfl | rfl | ⟨rfl, rfl⟩ <;> rfl
theorem step_no {C : Ch} {o : Opc} {K : Nat → Nat → Bool} {W : Nat → Nat → Option (List Int)} (h : triedE (doesC C o).1 (doesC C o).2.dark = false ∨ (o.k ≠ 1 ∧ o.k ≠ 2)) : stepK C o K = K ∧ stepW C o K W = W := by
  refine ⟨?_, ?_⟩
  · funext i k
    unfold stepK
    rw [if_neg (fun h9 => h.elim (fun h8 => by rw [h8] at h9; exact absurd h9.2.1 (by decide)) (fun h8 => h8.1 h9.1)), if_neg (fun h9 => h.elim (fun h8 => by rw [h8] at h9; exact absurd h9.2.1 (by decide)) (fun h8 => h8.2 h9.1))]
  · funext i k
    unfold stepW
    rw [if_neg (fun h9 => h.elim (fun h8 => by rw [h8] at h9; exact absurd h9.2.1 (by decide)) (fun h8 => h8.1 h9.1)), if_neg (fun h9 => h.elim (fun h8 => by rw [h8] at h9; exact absurd h9.2.1 (by decide)) (fun h8 => h8.2 h9.1))]
theorem want_len {o : Opc} {S : Nat} (h1 : o.n1 S = 256 * S) (h2 : o.n2 S = 54 + 3 * S) : (o.want S).length = pgB S := by
  unfold Opc.n1 Opc.n2 Opc.want at *
  cases hf : o.fit with
  | true => simp [fitL, pgB]
  | false =>
    rw [hf] at h1 h2
    simp at h1 h2
    simp [h1, h2, pgB]
theorem want_byt {o : Opc} (hd : Byt o.d) (hz : Byt o.z) (S : Nat) : Byt (o.want S) := by
  unfold Opc.want
  intro z hz9
  split at hz9
  · rcases List.mem_append.1 hz9 with h | h
    · exact fitL_range' hd _ z h
    · exact fitL_range' hz _ z h
  · rcases List.mem_append.1 hz9 with h | h
    · exact hd z h
    · exact hz z h
end Go.Proofs.Ytadlkikjfonkgaa
namespace Go.Proofs.Ytadlkikjfonkgaa
open Go.RowKit Go.Conc
set_option linter.unusedVariables false

/-- A call that was refused, or changed nothing that pages read as. -/
structure Idle (C : Ch) (r : Int × Ch) : Prop where
  bl : r.2.bl = C.bl
  fl : r.2.fl = C.fl
  q : r.2.q = C.q
  s : r.2.S = C.S
  d : r.2.dark = C.dark
theorem prog_cases (C : Ch) (hd : C.dark = false) (pb pp : Int) (n1 n2 : Nat) (want : List Int) :
    (∃ e, (e = 41 ∨ e = 42 ∨ e = 43) ∧ (ProgramC C pb pp n1 n2 want).1 = e ∧ Idle C (ProgramC C pb pp n1 n2 want)) ∨
    (∃ (i k : Nat) (b : Bl) (g : Pg), pb = i ∧ pp = k ∧ C.bl[i]? = some b ∧ b.ps[k]? = some g ∧ n1 = 256 * C.S ∧ n2 = 54 + 3 * C.S ∧ ProgramC C pb pp n1 n2 want = noteC 1 pb pp (endE (takeF C.cnt C.q).k, progN C pb pp b g want)) := by
  unfold ProgramC
  rw [if_neg (by rw [hd]; decide)]
  by_cases hn : n1 ≠ 256 * C.S ∨ n2 ≠ 54 + 3 * C.S
  · rw [if_pos hn]; exact Or.inl ⟨42, by omega, rfl, ⟨rfl, rfl, rfl, rfl, rfl⟩⟩
  rw [if_neg hn]
  unfold progC
  cases hp : hasP C.B C.P pb pp with
  | false => exact Or.inl ⟨41, by omega, rfl, ⟨rfl, rfl, rfl, rfl, rfl⟩⟩
  | true =>
    rw [if_neg (by decide)]
    obtain ⟨i, k, rfl, rfl, hi, hk⟩ := hasP_nat hp
    simp only [Int.toNat_natCast]
    cases hb : C.bl[i]? with
    | none => exact Or.inl ⟨41, by omega, rfl, ⟨rfl, rfl, rfl, rfl, rfl⟩⟩
    | some b =>
      simp only []
      by_cases hm : (b.m || !b.r || decide ((k : Int) < b.nx)) = true
      · rw [if_pos hm]; exact Or.inl ⟨43, by omega, rfl, ⟨rfl, rfl, rfl, rfl, rfl⟩⟩
      rw [if_neg hm]
      cases hq : b.ps[k]? with
      | none => exact Or.inl ⟨41, by omega, rfl, ⟨rfl, rfl, rfl, rfl, rfl⟩⟩
      | some g => exact Or.inr ⟨i, k, b, g, rfl, rfl, hb, hq, by omega, by omega, rfl⟩
theorem erase_cases (C : Ch) (hd : C.dark = false) (pb : Int) :
    (∃ e, (e = 41 ∨ e = 42 ∨ e = 43) ∧ (EraseC C pb).1 = e ∧ Idle C (EraseC C pb)) ∨
    (∃ (i : Nat) (b : Bl), pb = i ∧ C.bl[i]? = some b ∧ EraseC C pb = noteC 2 pb 0 (endE (takeF C.cnt C.q).k, eraseN C pb b)) := by
  unfold EraseC
  rw [if_neg (by rw [hd]; decide)]
  unfold eraseC
  cases hp : hasB C.B pb with
  | false => exact Or.inl ⟨41, by omega, rfl, ⟨rfl, rfl, rfl, rfl, rfl⟩⟩
  | true =>
    rw [if_neg (by decide)]
    obtain ⟨i, rfl⟩ : ∃ i : Nat, pb = i := ⟨pb.toNat, by have := of_decide_eq_true hp; omega⟩
    simp only [Int.toNat_natCast]
    cases hb : C.bl[i]? with
    | none => exact Or.inl ⟨41, by omega, rfl, ⟨rfl, rfl, rfl, rfl, rfl⟩⟩
    | some b =>
      simp only []
      by_cases hm : b.m = true
      · rw [if_pos hm]; exact Or.inl ⟨43, by omega, rfl, ⟨rfl, rfl, rfl, rfl, rfl⟩⟩
      rw [if_neg hm]
      exact Or.inr ⟨i, b, rfl, hb, rfl⟩
theorem end_cases {f : Ft} (h : f.k = 1 ∨ f.k = 2 ∨ f = Ft.no) : (f.k = 1 ∧ endE f.k = 44) ∨ (f.k = 2 ∧ endE f.k = 45) ∨ (f = Ft.no ∧ endE f.k = 0) := by
  rcases h with h | h | h
  · exact Or.inl ⟨h, by rw [h]; rfl⟩
  · exact Or.inr (Or.inl ⟨h, by rw [h]; rfl⟩)
  · exact Or.inr (Or.inr ⟨h, by rw [h]; rfl⟩)
theorem taken_tried {f : Ft} {d : Bool} (h : f.k = 1 ∨ f.k = 2 ∨ f = Ft.no) : triedE (endE f.k) (d || f.k == 2) = true := by
  rcases end_cases h with ⟨h1, h2⟩ | ⟨h1, h2⟩ | ⟨h1, h2⟩
  · rw [h2]; rfl
  · rw [h2, h1]; simp [triedE]
  · rw [h2]; rfl
theorem set_pages {l : List Bl} {i : Nat} {b b' : Bl} (hb : l[i]? = some b) {j : Nat} {c : Bl} (hc : (l.set i b')[j]? = some c) : (j = i ∧ c = b') ∨ (j ≠ i ∧ l[j]? = some c) := by
  have hl : i < l.length := (List.getElem?_eq_some_iff.1 hb).1
  by_cases e : i = j
  · subst e
    rw [List.getElem?_set_self hl] at hc
    exact Or.inl ⟨rfl, (Option.some.inj hc).symm⟩
  · rw [List.getElem?_set_ne e] at hc
    exact Or.inr ⟨fun h => e h.symm, hc⟩
theorem holds_prog {C : Ch} {W : Nat → Nat → Option (List Int)} {K : Nat → Nat → Bool} (h : HInv C W K) (hd : C.dark = false) (o : Opc) (h1 : o.k = 1) (hbd : Byt o.d) (hbz : Byt o.z) : HInv (doesC C o).2 (stepW C o K W) (stepK C o K) := by
  have hdc : doesC C o = ProgramC C o.b o.p (o.n1 C.S) (o.n2 C.S) (o.want C.S) := if_pos h1
  rcases prog_cases C hd o.b o.p (o.n1 C.S) (o.n2 C.S) (o.want C.S) with ⟨e, he, h2, h3⟩ | ⟨i, k, b, g, e1, e2, hb, hg, l1, l2, he⟩
  · have hs := step_no (C := C) (o := o) (K := K) (W := W) (Or.inl (by rw [hdc]; exact tried_no (by rw [h2]; omega)))
    rw [hs.1, hs.2, hdc]
    exact h.same h3.bl h3.fl h3.q h3.s
  · have ht := takeF_k h.q (C.cnt : Int)
    have hr : (doesC C o).1 = endE (takeF C.cnt C.q).k := by rw [hdc, he]; rfl
    have htr : triedE (doesC C o).1 (doesC C o).2.dark = true := by rw [hdc, he]; exact taken_tried ht
    have hbl : (doesC C o).2.bl = C.bl.set i { b with nx := o.p + 1, ps := b.ps.set k ⟨fallL g.bits (o.want C.S) (takeF C.cnt C.q).m (takeF C.cnt C.q).f (pgB C.S), (takeF C.cnt C.q).k == 0⟩ } := by
      rw [hdc, he, e1, e2]
      simp [noteC, progN]
    have hfl : (doesC C o).2.fl = C.fl := by rw [hdc, he]; rfl
    have hq : (doesC C o).2.q = takeR C.cnt C.q := by rw [hdc, he]; rfl
    have hS : (doesC C o).2.S = C.S := by rw [hdc, he]; rfl
    have hkl : k < b.ps.length := (List.getElem?_eq_some_iff.1 hg).1
    have old : ∀ i' k' : Nat, ¬ ((i' : Int) = o.b ∧ (k' : Int) = o.p) → stepK C o K i' k' = K i' k' ∧ stepW C o K W i' k' = W i' k' := fun i' k' hne => by
      unfold stepK stepW
      rw [if_neg (fun h9 => hne h9.2.2), if_neg (fun h9 => by rw [h1] at h9; exact absurd h9.1 (by decide)), if_neg (fun h9 => hne h9.2.2), if_neg (fun h9 => by rw [h1] at h9; exact absurd h9.1 (by decide))]
      exact ⟨rfl, rfl⟩
    have here : ∀ i' k' : Nat, ((i' : Int) = o.b ∧ (k' : Int) = o.p) → stepK C o K i' k' = false ∧ stepW C o K W i' k' = if (doesC C o).1 = 0 ∧ K i' k' = true then some (o.want C.S) else none := fun i' k' hh => by
      unfold stepK stepW
      rw [if_pos ⟨h1, htr, hh⟩, if_pos ⟨h1, htr, hh⟩]
      exact ⟨rfl, rfl⟩
    have pages : ∀ i' k' b' g', (doesC C o).2.bl[i']? = some b' → b'.ps[k']? = some g' → ((i' = i ∧ k' = k) ∧ g' = ⟨fallL g.bits (o.want C.S) (takeF C.cnt C.q).m (takeF C.cnt C.q).f (pgB C.S), (takeF C.cnt C.q).k == 0⟩) ∨ (¬ (i' = i ∧ k' = k) ∧ ∃ b0, C.bl[i']? = some b0 ∧ b0.ps[k']? = some g') := fun i' k' b' g' hb' hg' => by
      rw [hbl] at hb'
      rcases set_pages hb hb' with ⟨rfl, rfl⟩ | ⟨hne, hb2⟩
      · simp only at hg'
        by_cases e : k = k'
        · subst e
          rw [List.getElem?_set_self hkl] at hg'
          exact Or.inl ⟨⟨rfl, rfl⟩, (Option.some.inj hg').symm⟩
        · rw [List.getElem?_set_ne e] at hg'
          exact Or.inr ⟨fun h9 => e h9.2.symm, b, hb, hg'⟩
      · exact Or.inr ⟨fun h9 => hne h9.1, b', hb2, hg'⟩
    refine ⟨by rw [hq]; exact takeR_k h.q _, by rw [hfl, hS]; exact h.un, ?_, ?_⟩
    · intro i' k' b' g' hb' hg' hK
      rw [hfl, hS]
      rcases pages i' k' b' g' hb' hg' with ⟨⟨rfl, rfl⟩, _⟩ | ⟨hne, b0, hb0, hg0⟩
      · rw [(here i' k' ⟨e1.symm, e2.symm⟩).1] at hK
        cases hK
      · rw [(old i' k' (fun h9 => hne ⟨by omega, by omega⟩)).1] at hK
        exact h.cl i' k' b0 g' hb0 hg0 hK
    · intro i' k' b' g' z hb' hg' hW
      rw [hS]
      rcases pages i' k' b' g' hb' hg' with ⟨⟨rfl, rfl⟩, rfl⟩ | ⟨hne, b0, hb0, hg0⟩
      · rw [(here i' k' ⟨e1.symm, e2.symm⟩).2] at hW
        split at hW
        · rename_i hc
          cases hW
          rw [hr] at hc
          have hno : takeF C.cnt C.q = Ft.no := by
            rcases end_cases ht with ⟨_, h9⟩ | ⟨_, h9⟩ | ⟨h9, _⟩
            · rw [h9] at hc; exact absurd hc.1 (by decide)
            · rw [h9] at hc; exact absurd hc.1 (by decide)
            · exact h9
          have hcl := h.cl i' k' b g hb hg hc.2
          refine ⟨?_, want_len l1 l2, want_byt hbd hbz _⟩
          simp only [hno, hcl.1]
          exact fall_ones (want_byt hbd hbz _) (want_len l1 l2)
        · cases hW
      · rw [(old i' k' (fun h9 => hne ⟨by omega, by omega⟩)).2] at hW
        exact h.wt i' k' b0 g' z hb0 hg0 hW
theorem erJ_page (L : Nat) (f : Ft) (ps : List Pg) : ∀ (P n : Nat) (g : Pg), n < P → (erJ L f.k f.m f.f ps P)[n]? = some g → g.h = false ∧ (f = Ft.no → g.bits = List.replicate L 255)
  | 0, n, g, hn, _ => by omega
  | P + 1, n, g, hn, hg => by
    rw [erJ] at hg
    by_cases e : P = n
    · subst e
      have hl : P < (erJ L f.k f.m f.f ps P).length := by
        rcases Nat.lt_or_ge P (erJ L f.k f.m f.f ps P).length with h9 | h9
        · exact h9
        · rw [List.getElem?_eq_none (by rw [List.length_set]; exact h9)] at hg; cases hg
      rw [List.getElem?_set_self hl] at hg
      cases hg
      refine ⟨rfl, fun hf => ?_⟩
      rw [hf]
      rfl
    · rw [List.getElem?_set_ne e] at hg
      exact erJ_page L f ps P n g (by omega) hg
theorem flJ_at (fl : Int → Int → List Nat) (bb : Int) : ∀ (P : Nat) (b p : Int), flJ fl bb P b p = [] ∨ flJ fl bb P b p = fl b p
  | 0, b, p => Or.inr rfl
  | P + 1, b, p => by
    unfold flJ
    split
    · exact Or.inl rfl
    · exact flJ_at fl bb P b p
theorem flJ_in (fl : Int → Int → List Nat) (bb : Int) : ∀ (P k : Nat), k < P → flJ fl bb P bb (k : Int) = []
  | 0, k, h => by omega
  | P + 1, k, h => by
    unfold flJ
    by_cases e : (k : Int) = (P : Int)
    · rw [if_pos ⟨rfl, e⟩]
    · rw [if_neg (fun h9 => e h9.2)]
      exact flJ_in fl bb P k (by omega)
theorem holds_erase {C : Ch} {W : Nat → Nat → Option (List Int)} {K : Nat → Nat → Bool} (h : HInv C W K) (hok : C.Ok) (hd : C.dark = false) (o : Opc) (h2 : o.k = 2) : HInv (doesC C o).2 (stepW C o K W) (stepK C o K) := by
  have hdc : doesC C o = EraseC C o.b := (if_neg (by rw [h2]; decide)).trans (if_pos h2)
  rcases erase_cases C hd o.b with ⟨e, he, h3, h4⟩ | ⟨i, b, e1, hb, he⟩
  · have hs := step_no (C := C) (o := o) (K := K) (W := W) (Or.inl (by rw [hdc]; exact tried_no (by rw [h3]; omega)))
    rw [hs.1, hs.2, hdc]
    exact h.same h4.bl h4.fl h4.q h4.s
  · have ht := takeF_k h.q (C.cnt : Int)
    have hr : (doesC C o).1 = endE (takeF C.cnt C.q).k := by rw [hdc, he]; rfl
    have htr : triedE (doesC C o).1 (doesC C o).2.dark = true := by rw [hdc, he]; exact taken_tried ht
    have hbl : (doesC C o).2.bl = C.bl.set i { b with r := (takeF C.cnt C.q).k == 0, nx := 0, ps := erJ (pgB C.S) (takeF C.cnt C.q).k (takeF C.cnt C.q).m (takeF C.cnt C.q).f b.ps C.P } := by
      rw [hdc, he, e1]
      simp [noteC, eraseN]
    have hfl : (doesC C o).2.fl = flJ C.fl o.b C.P := by rw [hdc, he]; rfl
    have hq : (doesC C o).2.q = takeR C.cnt C.q := by rw [hdc, he]; rfl
    have hS : (doesC C o).2.S = C.S := by rw [hdc, he]; rfl
    have hPl : b.ps.length = C.P := hok.ps b (List.mem_of_getElem? hb)
    have old : ∀ i' k' : Nat, ¬ ((i' : Int) = o.b) → stepK C o K i' k' = K i' k' ∧ stepW C o K W i' k' = W i' k' := fun i' k' hne => by
      unfold stepK stepW
      rw [if_neg (fun h9 => by rw [h2] at h9; exact absurd h9.1 (by decide)), if_neg (fun h9 => hne h9.2.2), if_neg (fun h9 => by rw [h2] at h9; exact absurd h9.1 (by decide)), if_neg (fun h9 => hne h9.2.2)]
      exact ⟨rfl, rfl⟩
    have here : ∀ i' k' : Nat, (i' : Int) = o.b → stepK C o K i' k' = ((doesC C o).1 == 0) ∧ stepW C o K W i' k' = none := fun i' k' hh => by
      unfold stepK stepW
      rw [if_neg (fun h9 => by rw [h2] at h9; exact absurd h9.1 (by decide)), if_pos ⟨h2, htr, hh⟩, if_neg (fun h9 => by rw [h2] at h9; exact absurd h9.1 (by decide)), if_pos ⟨h2, htr, hh⟩]
      exact ⟨rfl, rfl⟩
    refine ⟨by rw [hq]; exact takeR_k h.q _, ?_, ?_, ?_⟩
    · intro x p
      rw [hfl, hS]
      rcases flJ_at C.fl o.b C.P x p with h9 | h9
      · rw [h9]; exact List.Pairwise.nil
      · rw [h9]; exact h.un x p
    · intro i' k' b' g' hb' hg' hK
      rw [hfl, hS]
      rw [hbl] at hb'
      rcases set_pages hb hb' with ⟨rfl, rfl⟩ | ⟨hne, hb2⟩
      · rw [(here i' k' e1.symm).1, hr] at hK
        have hno : takeF C.cnt C.q = Ft.no := by
          rcases end_cases ht with ⟨_, h9⟩ | ⟨_, h9⟩ | ⟨h9, _⟩
          · rw [h9] at hK; exact absurd hK (by decide)
          · rw [h9] at hK; exact absurd hK (by decide)
          · exact h9
        simp only at hg'
        have hkP : k' < C.P := by
          have := (List.getElem?_eq_some_iff.1 hg').1
          rw [erJ_len, hPl] at this
          exact this
        have h9 := erJ_page (pgB C.S) (takeF C.cnt C.q) b.ps C.P k' g' hkP hg'
        refine ⟨h9.2 hno, ?_, h9.1⟩
        rw [e1]
        exact flJ_in C.fl _ C.P k' hkP
      · have hne2 : ¬ ((i' : Int) = o.b) := fun h9 => hne (by omega)
        rw [(old i' k' hne2).1] at hK
        have h9 := h.cl i' k' b' g' hb2 hg' hK
        refine ⟨h9.1, ?_, h9.2.2⟩
        rcases flJ_at C.fl o.b C.P i' k' with h8 | h8
        · exact h8
        · rw [h8]; exact h9.2.1
    · intro i' k' b' g' z hb' hg' hW
      rw [hS]
      rw [hbl] at hb'
      rcases set_pages hb hb' with ⟨rfl, rfl⟩ | ⟨hne, hb2⟩
      · rw [(here i' k' e1.symm).2] at hW
        cases hW
      · rw [(old i' k' (fun h9 => hne (by omega))).2] at hW
        exact h.wt i' k' b' g' z hb2 hg' hW
theorem holds_flip {C : Ch} {W : Nat → Nat → Option (List Int)} {K : Nat → Nat → Bool} (h : HInv C W K) (pb pp bit : Int) : HInv (FlipC C pb pp bit).2 W K := by
  unfold FlipC
  cases hp : hasP C.B C.P pb pp with
  | false => exact h
  | true =>
    rw [if_neg (by decide)]
    obtain ⟨i, k, rfl, rfl, hi, hk⟩ := hasP_nat hp
    simp only [Int.toNat_natCast]
    cases hb : C.bl[i]? with
    | none => exact h
    | some b =>
      simp only []
      cases hq : b.ps[k]? with
      | none => exact h
      | some g =>
        simp only []
        by_cases hm : (decide (bit < 0) || decide (8 * (pgB C.S : Int) ≤ bit) || !g.h || flHas C i k bit.toNat) = true
        · rw [if_pos hm]; exact h
        rw [if_neg hm]
        simp only [Bool.or_eq_true, not_or, Bool.not_eq_true] at hm
        obtain ⟨⟨⟨_, _⟩, hgh⟩, hfh⟩ := hm
        have hgh' : g.h = true := by cases hx : g.h <;> simp_all
        refine ⟨h.q, ?_, ?_, h.wt⟩
        · intro x p
          show (flS C.fl i k bit.toNat x p).Pairwise _
          unfold flS
          split
          · rw [List.pairwise_append]
            refine ⟨h.un _ _, List.pairwise_singleton _ _, fun a ha c hc => ?_⟩
            simp at hc
            subst hc
            intro e
            have h9 := List.any_eq_false.1 hfh a ha
            rw [e] at h9
            simp at h9
          · exact h.un x p
        · intro i' k' b' g' hb' hg' hK
          have h9 := h.cl i' k' b' g' hb' hg' hK
          refine ⟨h9.1, ?_, h9.2.2⟩
          show flS C.fl i k bit.toNat i' k' = []
          unfold flS
          split
          · rename_i hc
            have e1 : i' = i := by have := hc.1; omega
            have e2 : k' = k := by have := hc.2; omega
            subst e1 e2
            rw [hb] at hb'
            cases hb'
            rw [hq] at hg'
            cases hg'
            rw [hgh'] at h9
            exact absurd h9.2.2 (by decide)
          · exact h9.2.1
theorem holds_mark {C : Ch} {W : Nat → Nat → Option (List Int)} {K : Nat → Nat → Bool} (h : HInv C W K) (pb : Int) : HInv (MarkC C pb).2 W K := by
  unfold MarkC
  split
  · exact h
  unfold markC
  split
  · exact h.same rfl rfl rfl rfl
  split
  · exact h.same rfl rfl rfl rfl
  · rename_i b hb
    refine ⟨takeR_k h.q _, h.un, ?_, ?_⟩
    · intro i' k' b' g' hb' hg' hK
      rcases set_pages hb hb' with ⟨rfl, rfl⟩ | ⟨hne, hb2⟩
      · exact h.cl _ k' b g' hb hg' hK
      · exact h.cl i' k' b' g' hb2 hg' hK
    · intro i' k' b' g' z hb' hg' hW
      rcases set_pages hb hb' with ⟨rfl, rfl⟩ | ⟨hne, hb2⟩
      · exact h.wt _ k' b g' z hb hg' hW
      · exact h.wt i' k' b' g' z hb2 hg' hW
/-- One call, and the power on again. -/
theorem holds_step {C : Ch} {W : Nat → Nat → Option (List Int)} {K : Nat → Nat → Bool} (h : HInv C W K) (hok : C.Ok) (hd : C.dark = false) (o : Opc) (hbd : Byt o.d) (hbz : Byt o.z) : HInv { (doesC C o).2 with dark := false } (stepW C o K W) (stepK C o K) := by
  refine HInv.same (C := (doesC C o).2) ?_ rfl rfl rfl rfl
  by_cases h1 : o.k = 1
  · exact holds_prog h hd o h1 hbd hbz
  by_cases h2 : o.k = 2
  · exact holds_erase h hok hd o h2
  have hs := step_no (C := C) (o := o) (K := K) (W := W) (Or.inr ⟨h1, h2⟩)
  rw [hs.1, hs.2]
  unfold doesC
  rw [if_neg h1, if_neg h2]
  split
  · exact holds_mark h _
  split
  · exact holds_flip h _ _ _
  split
  · exact h.same rfl rfl rfl rfl
  · exact h
theorem holds_new (B P S : Nat) (bad : List Int) (q : List Ft) (hq : ∀ f ∈ q, f.k = 1 ∨ f.k = 2) : HInv (newC B P S bad q) (fun _ _ => none) (fun _ _ => true) := by
  refine ⟨hq, fun _ _ => List.Pairwise.nil, ?_, fun _ _ _ _ _ _ _ h => by cases h⟩
  have key : ∀ (bad : List Int) (l : List Bl), (∀ b ∈ l, ∀ g ∈ b.ps, g = ⟨List.replicate (pgB S) 255, false⟩) → ∀ b ∈ marks l bad, ∀ g ∈ b.ps, g = ⟨List.replicate (pgB S) 255, false⟩ := by
    intro bad
    induction bad with
    | nil => intro l h; exact h
    | cons z r ih =>
      intro l h
      refine ih (markAt l z.toNat) ?_
      unfold markAt
      split
      · rename_i b hb
        intro c hc
        rcases List.mem_or_eq_of_mem_set hc with h1 | h1
        · exact h c h1
        · rw [h1]; exact h b (List.mem_of_getElem? hb)
      · exact h
  intro i k b g hb hg _
  have h9 := key bad _ (fun b hb g hg => by
    obtain ⟨b0, hb0, rfl⟩ := List.mem_map.1 hb
    rw [(List.mem_replicate.1 hb0).2] at hg
    exact (List.mem_replicate.1 hg).2) b (List.mem_of_getElem? hb) g (List.mem_of_getElem? hg)
  rw [h9]
  exact ⟨rfl, rfl, rfl⟩
end Go.Proofs.Ytadlkikjfonkgaa
namespace Go.Proofs.Ytadlkikjfonkgaa
open Go.RowKit Go.Conc
set_option linter.unusedVariables false

/-- A cell of want: its value, and what it holds. -/
structure Wc where
  v : Value
  z : Option (List Int)
def Wc.ok (w u : World) (F : Nat → Prop) (L : Nat) (c : Wc) : Prop := (c.z = none ∧ c.v = .slice none 0 0) ∨ (∃ g cp Z, c.z = some Z ∧ c.v = .slice (some ⟨g, 0, none⟩) L cp ∧ Own u w.heap.size g L cp Z ∧ ¬ F g)
def wobj (ws : List Wc) : Obj := .cells (ws.map Wc.v).toArray 24 (0, 0)
def kobj (ks : List Bool) : Obj := .cells (ks.map Value.bool).toArray 4 (0, 0)
/-- The tables of ChipHolds in memory, beside a chip. -/
structure HM (w u : World) (p b7 gw gk : Nat) (F : Nat → Prop) (C : Ch) (ws : List Wc) (ks : List Bool) : Prop where
  hd : HD w u p F [(gw, wobj ws), (gk, kobj ks), (b7, box8)] C
  wl : ws.length = 32
  kl : ks.length = 32
  wo : ∀ c ∈ ws, c.ok w u F 313
section
variable {w u v : World} {p b7 gw gk : Nat} {F : Nat → Prop} {C : Ch} {ws : List Wc} {ks : List Bool}
theorem HM.below (h : HM w u p b7 gw gk F C ws ks) (hb : Below u.heap.size u v) : HM w v p b7 gw gk F C ws ks :=
  ⟨h.hd.below hb, h.wl, h.kl, fun c hc => (h.wo c hc).imp (fun h => h) (fun ⟨g, cp, Z, h1, h2, h3, h4⟩ => ⟨g, cp, Z, h1, h2, h3.below hb, h4⟩)⟩
theorem HM.does {C' : Ch} (h : HM w u p b7 gw gk F C ws ks) (hc : ChipAt v p (Fx F u v) C') (ho : Only F u v) : HM w v p b7 gw gk (Fx F u v) C' ws ks :=
  ⟨h.hd.step hc ho, h.wl, h.kl, fun c hc => (h.wo c hc).imp (fun h => h) (fun ⟨g, cp, Z, h1, h2, h3, h4⟩ => ⟨g, cp, Z, h1, h2, owns_keep h3 (fun k hk => by cases hk; exact ho.block g h3.lt.2 h4), fun hf => hf.elim h4 (fun h9 => by have := h3.lt.2; omega)⟩)⟩
theorem HM.on {C' : Ch} (h : HM w u p b7 gw gk F C ws ks) (hc : ChipAt v p F C') (ho : Only F u v) : HM w v p b7 gw gk F C' ws ks :=
  ⟨h.hd.step0 hc ho, h.wl, h.kl, fun c hc => (h.wo c hc).imp (fun h => h) (fun ⟨g, cp, Z, h1, h2, h3, h4⟩ => ⟨g, cp, Z, h1, h2, owns_keep h3 (fun k hk => by cases hk; exact ho.block g h3.lt.2 h4), h4⟩)⟩
theorem HM.ne (h : HM w u p b7 gw gk F C ws ks) : gw ≠ gk ∧ gw ≠ b7 ∧ gk ≠ b7 := by
  have h1 := h.hd.blk (g := gw) (o := wobj ws) (by simp)
  have h2 := h.hd.blk (g := gk) (o := kobj ks) (by simp)
  have h3 := h.hd.blk (g := b7) (o := box8) (by simp)
  exact ⟨tag_ne h1 h2 (t := 24) (u := 4) rfl rfl (by decide), tag_ne h1 h3 (t := 24) (u := 23) rfl rfl (by decide), tag_ne h2 h3 (t := 4) (u := 23) rfl rfl (by decide)⟩
theorem HM.setK (h : HM w u p b7 gw gk F C ws ks) (t : Nat) (b : Bool) : HM w (u.setCell ⟨gk, t, none⟩ (.bool b)) p b7 gw gk F C ws (ks.set t b) := by
  have hn := h.ne
  have ho := Only.setCell (· = gk) u gk t (.bool b) rfl
  have hk := h.hd.blk (g := gk) (o := kobj ks) (by simp)
  have h1 := heap_setCell_same u gk t _ 4 (.bool b) hk
  simp only [List.setIfInBounds_toArray] at h1
  have hd1 : HD w u p F ((gk, kobj ks) :: [(gw, wobj ws), (b7, box8)]) C := h.hd.less (by intro x hx; simp at hx ⊢; rcases hx with rfl | rfl | rfl <;> simp)
  have hd2 := hd1.over (o' := kobj (ks.set t b)) ho (by rw [h1, ← List.map_set]; rfl) (by intro x hx; simp at hx; rcases hx with rfl | rfl; exact hn.1; exact fun e => hn.2.2 e.symm)
  refine ⟨hd2.less (by intro x hx; simp at hx ⊢; rcases hx with rfl | rfl | rfl <;> simp), h.wl, by simp [h.kl], fun c hc => (h.wo c hc).imp (fun h => h) (fun ⟨g, cp, Z, q1, q2, q3, q4⟩ => ⟨g, cp, Z, q1, q2, owns_keep q3 (fun k9 hk9 => ?_), q4⟩)⟩
  obtain ⟨cs, hcs⟩ := own_tag q3 hk9
  exact ho.block k9 (lt_of_block hcs) (tag_ne hcs hk (t := 5) (u := 4) rfl rfl (by decide))
theorem HM.setW (h : HM w u p b7 gw gk F C ws ks) (t : Nat) (c : Wc) (hc : c.ok w u F 313) : HM w (u.setCell ⟨gw, t, none⟩ c.v) p b7 gw gk F C (ws.set t c) ks := by
  have hn := h.ne
  have ho := Only.setCell (· = gw) u gw t c.v rfl
  have hk := h.hd.blk (g := gw) (o := wobj ws) (by simp)
  have h1 := heap_setCell_same u gw t _ 24 c.v hk
  simp only [List.setIfInBounds_toArray] at h1
  have hd2 := h.hd.over (o' := wobj (ws.set t c)) ho (by rw [h1, ← List.map_set]; rfl) (by intro x hx; simp at hx; rcases hx with rfl | rfl; exact fun e => hn.1 e.symm; exact fun e => hn.2.1 e.symm)
  refine ⟨hd2, by simp [h.wl], h.kl, fun c' hc' => ?_⟩
  have ok' : c'.ok w u F 313 := by
    rcases List.mem_or_eq_of_mem_set hc' with h9 | h9
    · exact h.wo c' h9
    · rw [h9]; exact hc
  refine ok'.imp (fun h => h) (fun ⟨g, cp, Z, q1, q2, q3, q4⟩ => ⟨g, cp, Z, q1, q2, owns_keep q3 (fun k9 hk9 => ?_), q4⟩)
  obtain ⟨cs, hcs⟩ := own_tag q3 hk9
  exact ho.block k9 (lt_of_block hcs) (tag_ne hcs hk (t := 5) (u := 24) rfl rfl (by decide))
end
/-- The tables in memory are those. -/
def Tab (ws : List Wc) (ks : List Bool) (W : Nat → Nat → Option (List Int)) (K : Nat → Nat → Bool) : Prop :=
  ∀ i k, i < 8 → k < 4 → (ws[i * 4 + k]?).map Wc.z = some (W i k) ∧ ks[i * 4 + k]? = some (K i k)
end Go.Proofs.Ytadlkikjfonkgaa
