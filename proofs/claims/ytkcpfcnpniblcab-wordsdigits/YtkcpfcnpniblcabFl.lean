/-
  SEAT Ytkcpfcnpniblcab: rows of the call's own, all at once; Fall whatever the lengths.
-/
import Derived.Test.YtkcpfcnpniblcabRg
import Derived.Test.YtkcpfcnpniblcabApD
namespace Go.Proofs.Ytkcpfcnpniblcab
open Go.RowKit
set_option linter.unusedVariables false

def Far (p q : Value × List Int) : Prop := ∀ g, p.1.ownBlock = some g → q.1.ownBlock ≠ some g
theorem Far.symm {p q : Value × List Int} (h : Far p q) : Far q p := fun g h1 h2 => h g h2 h1

/-- Rows, each in a block of its own. -/
structure Live (w : World) (B : Nat) (R : List (Value × List Int)) : Prop where
  rows : ∀ p ∈ R, w.ownsRow B 5 1 p.1 p.2.length (p.2.map (Value.int .u8))
  far : R.Pairwise Far

theorem own_of_below {w w' : World} {B n : Nat} {v : Value} {xs : List Value} {e : TypeId} (h : w.ownsRow B e 1 v n xs) (hb : Below w.heap.size w w') : w'.ownsRow B e 1 v n xs := by
  obtain ⟨h1, h2⟩ := h
  refine ⟨h1, ?_⟩
  rcases h2 with h2 | ⟨g', cap', cur, hv, hg, hh, r⟩
  · exact Or.inl h2
  · refine Or.inr ⟨g', cap', cur, hv, hg, ?_, r⟩
    rw [hb.block g' ?_]
    · exact hh
    · rcases Nat.lt_or_ge g' w.heap.size with h | h
      · exact h
      · simp [Array.getElem?_eq_none h] at hh

theorem Live.below {w w' : World} {B : Nat} {R : List (Value × List Int)} (h : Live w B R) (hb : Below w.heap.size w w') : Live w' B R :=
  ⟨fun p hp => own_of_below (h.rows p hp) hb, h.far⟩

theorem own_base {w : World} {B B' n : Nat} {v : Value} {xs : List Value} (h : w.ownsRow B 5 1 v n xs) (hb : B' ≤ B) : w.ownsRow B' 5 1 v n xs :=
  ⟨h.1, h.2.imp id fun ⟨g, c, cur, h1, h2, h3⟩ => ⟨g, c, cur, h1, Nat.le_trans hb h2, h3⟩⟩

theorem Live.add {w w' : World} {B n : Nat} {R : List (Value × List Int)} {v : Value} {xs : List Int} (h : Live w B R) (hb : Below w.heap.size w w') (hB : B ≤ w.heap.size) (hl : xs.length = n)
    (hr : w'.ownsRow w.heap.size 5 1 v n (xs.map (Value.int .u8))) : Live w' B ((v, xs) :: R) := by
  subst hl
  refine ⟨fun p hp => ?_, List.pairwise_cons.2 ⟨fun q hq g h1 h2 => ?_, h.far⟩⟩
  · rcases List.mem_cons.1 hp with rfl | hp
    · exact own_base hr hB
    · exact (h.below hb).rows p hp
  · have := (hr.lt g h1).1
    have := ((h.rows q hq).lt g h2).2
    omega

theorem Live.set {w w' : World} {B n : Nat} (R1 R2 : List (Value × List Int)) {v : Value} {xs ys : List Int} (h : Live w B (R1 ++ (v, xs) :: R2)) (hg : w.grownBy w' v.ownBlock) (hl : ys.length = n)
    (hr : w'.ownsRow B 5 1 v n (ys.map (Value.int .u8))) : Live w' B (R1 ++ (v, ys) :: R2) := by
  subst hl
  have hf := h.far
  rw [List.pairwise_append, List.pairwise_cons] at hf
  obtain ⟨f1, ⟨f2, f3⟩, f4⟩ := hf
  have sep : ∀ p ∈ R1 ++ (v, xs) :: R2, Far p (v, xs) → w'.ownsRow B 5 1 p.1 p.2.length (p.2.map (Value.int .u8)) := fun p hp hfar => by
    refine (h.rows p hp).kept hg ?_
    cases hb : p.1.ownBlock with
    | none => exact Or.inl rfl
    | some g => exact Or.inr fun e => hfar g hb e.symm
  refine ⟨fun p hp => ?_, ?_⟩
  · rcases List.mem_append.1 hp with hp | hp
    · exact sep p (by simp [hp]) (f4 p hp (v, xs) (by simp))
    · rcases List.mem_cons.1 hp with rfl | hp
      · exact hr
      · exact sep p (by simp [hp]) (f2 p hp).symm
  · rw [List.pairwise_append, List.pairwise_cons]
    exact ⟨f1, ⟨fun q hq => f2 q hq, f3⟩, fun p hp q hq => by
      rcases List.mem_cons.1 hq with rfl | hq
      · exact f4 p hp (v, xs) (by simp)
      · exact f4 p hp q (by simp [hq])⟩

theorem Live.drewN {w : World} {B : Nat} {R : List (Value × List Int)} (h : Live w B R) (k : Nat) : Live (w.drewN k) B R := ⟨fun p hp => h.rows p hp, h.far⟩

theorem Live.own {w : World} {B n : Nat} {R : List (Value × List Int)} {v : Value} {xs : List Int} (h : Live w B R) (hm : (v, xs) ∈ R) (hl : xs.length = n) : w.ownsRow B 5 1 v n (xs.map (Value.int .u8)) := by
  subst hl
  exact h.rows _ hm

theorem reads_of {w : World} {B n c : Nat} {a : Option Addr} {xs : List Int} (h : w.ownsRow B 5 1 (.slice a n c) n (xs.map (Value.int .u8))) (hr : ∀ x ∈ xs, 0 ≤ x ∧ x ≤ 255) : Reads w a n xs := by
  obtain ⟨a', c', e, hrd⟩ := own_any h hr
  cases e
  exact hrd

theorem Live.reads {w : World} {B n c : Nat} {R : List (Value × List Int)} {a : Option Addr} {xs : List Int} (h : Live w B R) (hm : (.slice a n c, xs) ∈ R) (hl : xs.length = n) (hr : ∀ x ∈ xs, 0 ≤ x ∧ x ≤ 255) : Reads w a n xs :=
  reads_of (h.own hm hl) hr


theorem rows_at {w : World} {B : Nat} {R : List (Value × List Int)} (h : Live w B R) (idx : List Nat) (hn : idx.Nodup) (hlt : ∀ i ∈ idx, i < R.length) (P : List (Value × List Int)) (hP : P = idx.map (fun i => R.getD i (.slice none 0 0, []))) (hsm : ∀ p ∈ P, p.2.length ≤ 140737488355000) (m : Nat) (hm : P.length = m) (cs : Array Value) (hcs : cs.toList = P.map (·.1)) :
    Apart (w.alloc (.cells cs 22)) B w.heap.size m (fun i => (P.getD i (.slice none 0 0, [])).1) (fun i => (P.getD i (.slice none 0 0, [])).2.length) (fun i => (P.getD i (.slice none 0 0, [])).2) := by
  subst hm
  have hget : ∀ i, (hi : i < P.length) → P.getD i (.slice none 0 0, []) = P[i] := fun i hi => by rw [List.getD_eq_getElem?_getD, List.getElem?_eq_getElem hi]; rfl
  have hRget : ∀ i, (hi : i < R.length) → R.getD i (.slice none 0 0, []) = R[i] := fun i hi => by rw [List.getD_eq_getElem?_getD, List.getElem?_eq_getElem hi]; rfl
  have hmem : ∀ i, (hi : i < P.length) → P[i] ∈ R := fun i hi => by
    have h1 : P[i] ∈ idx.map (fun i => R.getD i (.slice none 0 0, [])) := by rw [← hP]; exact List.getElem_mem hi
    obtain ⟨j, hj, e⟩ := List.mem_map.1 h1
    rw [hRget j (hlt j hj)] at e
    rw [← e]
    exact List.getElem_mem _
  have hfar := List.pairwise_iff_getElem.1 h.far
  have hpw : P.Pairwise Far := by
    rw [hP, List.pairwise_map]
    refine List.Pairwise.imp_of_mem (R := fun a b => a ≠ b) ?_ hn
    intro a b ha hb hne
    rw [hRget a (hlt a ha), hRget b (hlt b hb)]
    rcases Nat.lt_or_gt_of_ne hne with h1 | h1
    · exact hfar a b (hlt a ha) (hlt b hb) h1
    · exact (hfar b a (hlt b hb) (hlt a ha) h1).symm
  rw [List.pairwise_iff_getElem] at hpw
  refine ⟨fun i hi => ?_, fun i hi => ?_, fun i hi => ?_, fun i j hi hj hne g hb => ?_, fun i hi => ?_, by simp⟩
  · rw [hget i hi]
    have : cs[i]? = some P[i].1 := by rw [← Array.getElem?_toList, hcs, List.getElem?_map, List.getElem?_eq_getElem hi]; rfl
    have key : ∀ (u : World) (g : Nat), u.heap[g]? = some (.cells cs 22 (0, 0)) → u.cell? ⟨g, i, none⟩ = some P[i].1 := fun u g h => by simp [World.cell?, h, this]
    exact key _ _ (heap_alloc_new w (.cells cs 22))
  · rw [hget i hi]; exact hsm _ (List.getElem_mem hi)
  · rw [hget i hi]; exact (h.rows _ (hmem i hi)).alloc _
  · rw [hget i hi] at hb
    rw [hget j hj]
    rcases Nat.lt_or_gt_of_ne hne with h1 | h1
    · exact hpw i j hi hj h1 g hb
    · exact (hpw j i hj hi h1).symm g hb
  · rw [hget i hi]
    intro e
    have := ((h.rows _ (hmem i hi)).lt _ e).2
    omega

theorem max8 : IntKind.u8.max = ((255 : Nat) : Int) := by decide

theorem fb_nat (o x m : Nat) (ho : o < 256) (hx : x < 256) (hm : m < 256) : fb (o : Int) (x : Int) (m : Int) = ((o &&& (x ||| (255 ^^^ m)) : Nat) : Int) := by
  have h1 : 255 ^^^ m < 256 := Nat.xor_lt_two_pow (n := 8) (by omega) hm
  have h2 : x ||| (255 ^^^ m) < 256 := Nat.or_lt_two_pow (n := 8) hx h1
  unfold fb
  rw [max8, u8_xor_nat 255 m (by omega) hm, u8_or_nat x _ hx h1, u8_and_nat o _ ho h2]

theorem nat_of {z : Int} (h : 0 ≤ z ∧ z ≤ 255) : ∃ n : Nat, z = n ∧ n < 256 := by
  obtain ⟨n, rfl⟩ := Int.eq_ofNat_of_zero_le h.1
  exact ⟨n, rfl, by omega⟩

theorem fb_range {o x m : Int} (ho : 0 ≤ o ∧ o ≤ 255) (hx : 0 ≤ x ∧ x ≤ 255) (hm : 0 ≤ m ∧ m ≤ 255) : 0 ≤ fb o x m ∧ fb o x m ≤ 255 := by
  obtain ⟨o, rfl, ho'⟩ := nat_of ho
  replace ho := ho'
  obtain ⟨x, rfl, hx'⟩ := nat_of hx
  replace hx := hx'
  obtain ⟨m, rfl, hm'⟩ := nat_of hm
  replace hm := hm'
  have h3 : o &&& (x ||| (255 ^^^ m)) < 256 := Nat.lt_of_le_of_lt Nat.and_le_left ho
  rw [fb_nat o x m ho hx hm]
  omega

theorem fallL_range (zs xs ms : List Int) (fill : Int) (hz : ∀ x ∈ zs, 0 ≤ x ∧ x ≤ 255) (hx : ∀ x ∈ xs, 0 ≤ x ∧ x ≤ 255) (hm : ∀ x ∈ ms, 0 ≤ x ∧ x ≤ 255) (hf : 0 ≤ fill ∧ fill ≤ 255) (k : Nat) : ∀ x ∈ fallL zs xs ms fill k, 0 ≤ x ∧ x ≤ 255 := by
  induction k with
  | zero => intro x h; simp [fallL] at h
  | succ k ih =>
    intro x h
    rcases List.mem_append.1 h with h | h
    · exact ih x h
    · obtain rfl := List.mem_singleton.1 h
      exact fb_range (byteAt hz k) (byteAt hx k) (mk_range hm hf k)

theorem or_range {o m : Int} (ho : 0 ≤ o ∧ o ≤ 255) (hm : 0 ≤ m ∧ m ≤ 255) : 0 ≤ bits .or .u8 o m ∧ bits .or .u8 o m ≤ 255 := by
  obtain ⟨o, rfl, h1⟩ := nat_of ho
  obtain ⟨m, rfl, h2⟩ := nat_of hm
  rw [u8_or o m (by omega) (by omega) (by omega) (by omega)]
  have : o ||| m < 2 ^ 8 := Nat.or_lt_two_pow h1 h2
  simp
  omega

theorem riseL_range (zs ms : List Int) (fill : Int) (hz : ∀ x ∈ zs, 0 ≤ x ∧ x ≤ 255) (hm : ∀ x ∈ ms, 0 ≤ x ∧ x ≤ 255) (hf : 0 ≤ fill ∧ fill ≤ 255) (k : Nat) : ∀ x ∈ riseL zs ms fill k, 0 ≤ x ∧ x ≤ 255 := by
  induction k with
  | zero => intro x h; simp [riseL] at h
  | succ k ih =>
    intro x h
    rcases List.mem_append.1 h with h | h
    · exact ih x h
    · obtain rfl := List.mem_singleton.1 h
      exact or_range (byteAt hz k) (mk_range hm hf k)

/-- What Fall answers of rows of these lengths: a row's length, a number, the bytes. -/
theorem falls_any (l l' lm : Nat) (fill : Int) (hl : l ≤ 140737488351232) (hl' : l' ≤ 140737488351232) (hlm : lm ≤ 140737488351232) (hf : 0 ≤ fill ∧ fill ≤ 255) :
    ∃ (N : Nat) (C : Int) (F : List Int → List Int → List Int → List Int), N ≤ 140737488351232 ∧
      (∀ zs xs ms : List Int, (∀ x ∈ zs, 0 ≤ x ∧ x ≤ 255) → (∀ x ∈ xs, 0 ≤ x ∧ x ≤ 255) → (∀ x ∈ ms, 0 ≤ x ∧ x ≤ 255) → (F zs xs ms).length = N ∧ ∀ x ∈ F zs xs ms, 0 ≤ x ∧ x ≤ 255) ∧
      (∀ (w : World) (a : Option Addr) (c : Nat) (a' : Option Addr) (c' : Nat) (am : Option Addr) (cm : Nat) (zs xs ms : List Int), Reads w a l zs → Reads w a' l' xs → Reads w am lm ms →
        Calls Try.prog 7 #[.slice a l c, .slice a' l' c', .slice am lm cm, .int .u8 fill] w fun e w' => ∃ ar cr, e = .returned (.tuple #[.slice ar N cr, .int .i64 C]) ∧ w'.ownsRow w.heap.size 5 1 (.slice ar N cr) N ((F zs xs ms).map (Value.int .u8)) ∧ Below w.heap.size w w') ∧
      (∀ (w : World) (a : Option Addr) (c : Nat) (a' : Option Addr) (c' : Nat) (am : Option Addr) (cm : Nat) (zs xs ms : List Int), Reads w a l zs → Reads w a' l' xs → Reads w am lm ms →
        Calls Try.prog 23 #[.slice a l c, .slice a' l' c', .slice am lm cm, .int .u8 fill] w fun e w' => ∃ ar cr, e = .returned (.tuple #[.slice ar N cr, .int .i64 C]) ∧ w'.ownsRow w.heap.size 5 1 (.slice ar N cr) N ((F zs xs ms).map (Value.int .u8)) ∧ Below w.heap.size w w') := by
  by_cases h : l = l'
  · subst h
    refine ⟨l, 0, fun zs xs ms => fallL zs xs ms fill l, hl, fun zs xs ms hz hx hm => ⟨fallL_length _ _ _ _ _, fallL_range zs xs ms fill hz hx hm hf l⟩, ?_, ?_⟩
    · intro w a c a' c' am cm zs xs ms h1 h2 h3
      exact (fall_ok a l c zs a' c' xs am lm cm ms fill w hl (by omega) h1 h2 h3).mono fun e w' ⟨g, c, he, ho, hb⟩ => ⟨_, _, he, ho, hb⟩
    · intro w a c a' c' am cm zs xs ms h1 h2 h3
      exact (rfall_ok a l c zs a' c' xs am lm cm ms fill w hl (by omega) h1 h2 h3 h3.2.1 hf).mono fun e w' ⟨g, c, he, ho, hb⟩ => ⟨_, _, he, ho, hb⟩
  · refine ⟨0, 10, fun zs xs ms => [], by omega, fun zs xs ms hz hx hm => ⟨rfl, by simp⟩, ?_, ?_⟩
    · intro w a c a' c' am cm zs xs ms h1 h2 h3
      exact (fall_bad a l c a' l' c' am lm cm fill w (by omega) (by omega) h).mono fun e w' ⟨he, hw⟩ => ⟨_, _, he, by subst hw; exact World.ownsRow_nil _ _ _ _, by subst hw; exact Below.refl _ _⟩
    · intro w a c a' c' am cm zs xs ms h1 h2 h3
      exact (rfall_bad a l c a' l' c' am lm cm fill w (by omega) (by omega) h).mono fun e w' ⟨he, hw⟩ => ⟨_, _, he, by subst hw; exact World.ownsRow_nil _ _ _ _, by subst hw; exact Below.refl _ _⟩
end Go.Proofs.Ytkcpfcnpniblcab
