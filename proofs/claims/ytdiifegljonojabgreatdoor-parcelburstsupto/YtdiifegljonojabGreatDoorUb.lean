/-
  SEAT YtdiifegljonojabGreatDoor: Ub, of several texts.
-/
import Derived.Test.YtdiifegljonojabGreatDoorSd
import Derived.Test.YtdiifegljonojabGreatDoorXi
import Derived.Test.YtdiifegljonojabGreatDoorSp
import Derived.BigRegion
namespace Go.Proofs.YtdiifegljonojabGreatDoor
open Go.RowKit
set_option linter.unusedVariables false

namespace Fw
variable {α : Type} {lt : α → α → Prop}
/-- One list of names comes right behind another. -/
def Stp (lt : α → α → Prop) (p n : List α) : Prop := 1 ≤ n.length ∧ n.length - 1 ≤ p.length ∧ n.take (n.length - 1) = p.take (n.length - 1) ∧ (n.length - 1 = p.length ∨ ∃ x y, p[n.length - 1]? = some x ∧ n[n.length - 1]? = some y ∧ lt x y)
/-- It lies above, off the road. -/
def Gt (lt : α → α → Prop) (a n : List α) : Prop := ∃ d x y, n.take d = a.take d ∧ a[d]? = some x ∧ n[d]? = some y ∧ lt x y
/-- It lies in that place. -/
def Pr (a n : List α) : Prop := a.length < n.length ∧ n.take a.length = a
theorem some_lt {l : List α} {d : Nat} {x : α} (h : l[d]? = some x) : d < l.length := (List.getElem?_eq_some_iff.1 h).1
theorem take_less {l m : List α} {d e : Nat} (h : l.take d = m.take d) (he : e ≤ d) : l.take e = m.take e := by
  have := congrArg (List.take e) h
  rwa [List.take_take, List.take_take, Nat.min_eq_left he] at this
theorem at_eq {l m : List α} {d e : Nat} (h : l.take d = m.take d) (he : e < d) : l[e]? = m[e]? := by
  have := congrArg (·[e]?) h
  simpa [List.getElem?_take, he] using this
theorem gt_step (tr : ∀ x y z, lt x y → lt y z → lt x z) {a p n : List α} (h : Stp lt p n) (hg : Gt lt a p) : Gt lt a n := by
  obtain ⟨h1, h2, h3, h4⟩ := h
  obtain ⟨d, x, y, hd, hx, hy, hxy⟩ := hg
  rcases Nat.lt_trichotomy (n.length - 1) d with hc | hc | hc
  · have := some_lt hy
    rcases h4 with h4 | ⟨x', y', hx', hy', hxy'⟩
    · omega
    · refine ⟨n.length - 1, x', y', ?_, ?_, hy', hxy'⟩
      · rw [h3, take_less hd (by omega)]
      · rw [← at_eq hd hc, hx']
  · have := some_lt hy
    rcases h4 with h4 | ⟨x', y', hx', hy', hxy'⟩
    · omega
    · refine ⟨n.length - 1, x, y', ?_, ?_, hy', ?_⟩
      · rw [h3, hc, hd]
      · rw [hc, hx]
      · rw [hc, hy] at hx'
        cases hx'
        exact tr _ _ _ hxy hxy'
  · refine ⟨d, x, y, ?_, hx, ?_, hxy⟩
    · rw [take_less h3 (by omega), hd]
    · rw [at_eq h3 hc, hy]
theorem gt_not (ir : ∀ x, ¬ lt x x) {a n : List α} (hg : Gt lt a n) (hp : n = a ∨ Pr a n) : False := by
  obtain ⟨d, x, y, hd, hx, hy, hxy⟩ := hg
  have hpa : n.take a.length = a.take a.length := by
    rw [List.take_length]
    rcases hp with rfl | hp
    · exact List.take_length
    · exact hp.2
  have := at_eq hpa (some_lt hx)
  rw [hx, hy] at this
  cases this
  exact ir _ hxy
theorem skip (tr : ∀ x y z, lt x y → lt y z → lt x z) {q a n : List α} (h : Stp lt q a) (hn : 1 ≤ n.length) (hl : n.length - 1 < a.length) (hg : ∃ x y, n.take (n.length - 1) = a.take (n.length - 1) ∧ a[n.length - 1]? = some x ∧ n[n.length - 1]? = some y ∧ lt x y) : Stp lt q n := by
  obtain ⟨h1, h2, h3, h4⟩ := h
  obtain ⟨x, y, g1, g2, g3, g4⟩ := hg
  refine ⟨hn, by omega, by rw [g1, take_less h3 (by omega)], ?_⟩
  by_cases hd : n.length - 1 = a.length - 1
  · rcases h4 with h4 | ⟨x', y', hx', hy', hxy'⟩
    · left; omega
    · right
      rw [← hd] at hx' hy'
      rw [hy'] at g2
      cases g2
      exact ⟨x', y, hx', g3, tr _ _ _ hxy' g4⟩
  · right
    refine ⟨x, y, ?_, g3, g4⟩
    rw [← at_eq h3 (by omega), g2]
theorem in_step' {a p n : List α} (h : Stp lt p n) (hp : p = a ∨ Pr a p) : Pr a n ∨ (n.length - 1 < a.length ∧ ∃ x y, n.take (n.length - 1) = a.take (n.length - 1) ∧ a[n.length - 1]? = some x ∧ n[n.length - 1]? = some y ∧ lt x y) := by
  obtain ⟨h1, h2, h3, h4⟩ := h
  have ht : p.take a.length = a := by
    rcases hp with rfl | hp
    · exact List.take_length
    · exact hp.2
  have hl : a.length ≤ p.length := by
    rcases hp with rfl | hp
    · exact Nat.le_refl _
    · exact Nat.le_of_lt hp.1
  by_cases hd : a.length ≤ n.length - 1
  · left
    refine ⟨by omega, ?_⟩
    rw [take_less h3 hd, ht]
  · right
    refine ⟨by omega, ?_⟩
    rcases h4 with h4 | ⟨x, y, hx, hy, hxy⟩
    · omega
    · have hpa : p.take a.length = a.take a.length := by rw [ht, List.take_length]
      refine ⟨x, y, ?_, ?_, hy, hxy⟩
      · rw [h3, take_less hpa (by omega)]
      · rw [← at_eq hpa (by omega), hx]
end Fw
theorem bl_irr : ∀ a : List UInt8, Op.bytesLess a a = false
  | [] => rfl
  | a :: x => by
    rw [Op.bytesLess, bl_irr x]
    have : ¬ a < a := by rw [UInt8.lt_iff_toNat_lt]; omega
    simp [this]
theorem bl_tra : ∀ a b c : List UInt8, Op.bytesLess a b = true → Op.bytesLess b c = true → Op.bytesLess a c = true
  | _, _, [], _, h => by simp [Op.bytesLess] at h
  | _, [], _ :: _, h, _ => by simp [Op.bytesLess] at h
  | [], _ :: _, _ :: _, _, _ => rfl
  | a :: x, b :: y, c :: z, h1, h2 => by
    rw [Op.bytesLess] at h1 h2 ⊢
    rw [Bool.or_eq_true, Bool.and_eq_true, decide_eq_true_eq, beq_iff_eq] at h1 h2 ⊢
    rw [UInt8.lt_iff_toNat_lt] at h1 h2 ⊢
    rcases h1 with h1 | ⟨rfl, h1⟩
    · rcases h2 with h2 | ⟨rfl, h2⟩
      · left; omega
      · left; exact h1
    · rcases h2 with h2 | ⟨rfl, h2⟩
      · left; exact h2
      · right; exact ⟨rfl, bl_tra x y z h1 h2⟩
theorem bl_tri : ∀ a b : List UInt8, Op.bytesLess a b = false → a ≠ b → Op.bytesLess b a = true
  | [], [], _, h => absurd rfl h
  | _ :: _, [], _, _ => rfl
  | [], _ :: _, h, _ => by simp [Op.bytesLess] at h
  | a :: x, b :: y, h, hn => by
    rw [Op.bytesLess] at h ⊢
    rw [Bool.or_eq_false_iff, decide_eq_false_iff_not, UInt8.lt_iff_toNat_lt] at h
    rw [Bool.or_eq_true, Bool.and_eq_true, decide_eq_true_eq, beq_iff_eq, UInt8.lt_iff_toNat_lt]
    obtain ⟨h1, h2⟩ := h
    by_cases hab : a = b
    · subst hab
      right
      refine ⟨rfl, bl_tri x y ?_ (fun h => hn (by rw [h]))⟩
      simpa using h2
    · left
      have : a.toNat ≠ b.toNat := fun h => hab (UInt8.toNat_inj.1 h)
      omega
/-- A name lies ahead of another. -/
def ltN (x y : ByteArray) : Prop := Op.bytesLess x.toList y.toList = true
theorem ltN_irr (x : ByteArray) : ¬ ltN x x := by unfold ltN; rw [bl_irr]; decide
theorem ltN_tra (x y z : ByteArray) (h1 : ltN x y) (h2 : ltN y z) : ltN x z := bl_tra _ _ _ h1 h2
theorem ahead_iff (l : List ByteArray) (d : Nat) (nm : ByteArray) : aheadB l d nm = true ↔ d = l.length ∨ ltN (l.getD d ByteArray.empty) nm := by
  unfold aheadB ltN
  rw [Bool.or_eq_true, decide_eq_true_eq, Bool.not_eq_true', Bool.or_eq_false_iff]
  constructor
  · rintro (h | ⟨h1, h2⟩)
    · exact Or.inl h
    · exact Or.inr (bl_tri _ _ h1 (by rw [beq_eq_false_iff_ne] at h2; exact h2))
  · rintro (h | h)
    · exact Or.inl h
    · refine Or.inr ⟨?_, ?_⟩
      · rw [Bool.eq_false_iff]
        intro h9
        have := bl_tra _ _ _ h h9
        rw [bl_irr] at this
        cases this
      · rw [beq_eq_false_iff_ne]
        intro h9
        rw [h9, bl_irr] at h
        cases h
theorem getD_some {l : List ByteArray} {d : Nat} (h : d < l.length) : l[d]? = some (l.getD d ByteArray.empty) := by
  rw [List.getD_eq_getElem?_getD, List.getElem?_eq_getElem h]; rfl
theorem fol_stp {ns0 ns : List ByteArray} {d0 : Bool} (h : folB ns0 d0 ns = true) : Fw.Stp ltN ns0 ns ∧ (ns.length : Int) - 1 ≤ deepB ns0.length d0 := by
  unfold folB at h
  rw [Bool.and_eq_true, Bool.and_eq_true, Bool.and_eq_true, decide_eq_true_eq, decide_eq_true_eq, decide_eq_true_eq, ahead_iff] at h
  obtain ⟨⟨⟨h1, h2⟩, h3⟩, h4⟩ := h
  have h5 : deepB ns0.length d0 ≤ ns0.length := by unfold deepB; split <;> omega
  refine ⟨⟨h1, by omega, h3, ?_⟩, h2⟩
  by_cases hd : ns.length - 1 = ns0.length
  · exact Or.inl hd
  · right
    rcases h4 with h4 | h4
    · exact absurd h4 hd
    · exact ⟨_, _, getD_some (by omega), getD_some (by omega), h4⟩
theorem stp_fol {ns0 ns : List ByteArray} {d0 : Bool} (h : Fw.Stp ltN ns0 ns) (h2 : (ns.length : Int) - 1 ≤ deepB ns0.length d0) : folB ns0 d0 ns = true := by
  obtain ⟨h1, h5, h3, h4⟩ := h
  unfold folB
  rw [Bool.and_eq_true, Bool.and_eq_true, Bool.and_eq_true, decide_eq_true_eq, decide_eq_true_eq, decide_eq_true_eq, ahead_iff]
  refine ⟨⟨⟨h1, h2⟩, h3⟩, ?_⟩
  rcases h4 with h4 | ⟨x, y, hx, hy, hxy⟩
  · exact Or.inl h4
  · right
    rw [getD_some (Fw.some_lt hx)] at hx
    rw [getD_some (Fw.some_lt hy)] at hy
    cases hx; cases hy
    exact hxy

/-- All leaves may come one behind another. -/
def Chn : List ByteArray → Bool → List Lf → Prop
  | _, _, [] => True
  | ns0, d0, l :: r => okL ns0 d0 l = true ∧ Chn (Pt.spN l.path) (l.ty == 2) r
theorem goL_chn : ∀ (es : List Lf) (ns0 : List ByteArray) (d0 : Bool) (laid x : List Int), goL ns0 d0 laid es = .ok x ↔ Chn ns0 d0 es ∧ x = laid ++ es.flatMap encL
  | [], ns0, d0, laid, x => by
    rw [goL, Chn, List.flatMap_nil, List.append_nil]
    constructor
    · intro h; injection h with h; exact ⟨trivial, h.symm⟩
    · rintro ⟨-, rfl⟩; rfl
  | l :: r, ns0, d0, laid, x => by
    rw [goL, Chn, List.flatMap_cons, ← List.append_assoc]
    by_cases h : okL ns0 d0 l = true
    · rw [if_pos h, goL_chn r]
      constructor
      · rintro ⟨h1, h2⟩; exact ⟨⟨h, h1⟩, h2⟩
      · rintro ⟨⟨-, h1⟩, h2⟩; exact ⟨h1, h2⟩
    · rw [if_neg h]
      constructor
      · intro h1; cases h1
      · rintro ⟨⟨h1, -⟩, -⟩; exact absurd h1 h
theorem okL_fol {ns0 : List ByteArray} {d0 : Bool} {l : Lf} (h : okL ns0 d0 l = true) : nmsB l.path = true ∧ bodB l.ty l.mode l.data.length l.target = true ∧ folB ns0 d0 (Pt.spN l.path) = true := by
  unfold okL at h
  rw [Bool.and_eq_true, Bool.and_eq_true] at h
  exact ⟨h.1.1, h.1.2, h.2⟩
theorem chn_front : ∀ (A B : List Lf) (ns0 : List ByteArray) (d0 : Bool), Chn ns0 d0 (A ++ B) → Chn ns0 d0 A
  | [], _, _, _, _ => trivial
  | l :: A, B, _, _, h => ⟨h.1, chn_front A B _ _ h.2⟩
/-- Behind what lies above nothing lies in the place. -/
theorem chn_gt (a : List ByteArray) : ∀ (B : List Lf) (p : List ByteArray) (d : Bool), Chn p d B → Fw.Gt ltN a p → ∀ l ∈ B, Fw.Gt ltN a (Pt.spN l.path)
  | [], _, _, _, _ => fun _ h => by cases h
  | l :: B, p, d, h, hg => by
    have h1 := Fw.gt_step ltN_tra (fol_stp (okL_fol h.1).2.2).1 hg
    intro x hx
    rcases List.mem_cons.1 hx with rfl | hx
    · exact h1
    · exact chn_gt a B _ _ h.2 h1 x hx
theorem gt_of {a n : List ByteArray} (h : n.length - 1 < a.length ∧ ∃ x y, n.take (n.length - 1) = a.take (n.length - 1) ∧ a[n.length - 1]? = some x ∧ n[n.length - 1]? = some y ∧ ltN x y) : Fw.Gt ltN a n := by
  obtain ⟨_, x, y, h1, h2, h3, h4⟩ := h
  exact ⟨_, x, y, h1, h2, h3, h4⟩
/-- A leaf does not come again. -/
theorem chn_again (e : Lf) : ∀ (A B : List Lf) (p : List ByteArray) (d : Bool), Chn p d (A ++ e :: B) → (Fw.Pr (Pt.spN e.path) p ∨ Fw.Gt ltN (Pt.spN e.path) p) → False
  | [], B, p, d, h, hp => by
    have hs := (fol_stp (okL_fol h.1).2.2).1
    have : Fw.Pr (Pt.spN e.path) (Pt.spN e.path) ∨ Fw.Gt ltN (Pt.spN e.path) (Pt.spN e.path) := by
      rcases hp with hp | hp
      · rcases Fw.in_step' hs (Or.inr hp) with h1 | h1
        · exact Or.inl h1
        · exact Or.inr (gt_of h1)
      · exact Or.inr (Fw.gt_step ltN_tra hs hp)
    rcases this with h1 | h1
    · exact absurd h1.1 (Nat.lt_irrefl _)
    · exact Fw.gt_not ltN_irr h1 (Or.inl rfl)
  | l :: A, B, p, d, h, hp => by
    have hs := (fol_stp (okL_fol h.1).2.2).1
    refine chn_again e A B _ _ h.2 ?_
    rcases hp with hp | hp
    · rcases Fw.in_step' hs (Or.inr hp) with h1 | h1
      · exact Or.inl h1
      · exact Or.inr (gt_of h1)
    · exact Or.inr (Fw.gt_step ltN_tra hs hp)
theorem chn_before (e : Lf) : ∀ (A B : List Lf) (p : List ByteArray) (d : Bool), Chn p d (A ++ e :: B) → ∀ l ∈ A, ¬ Fw.Pr (Pt.spN e.path) (Pt.spN l.path)
  | [], _, _, _, _ => fun _ h => by cases h
  | l :: A, B, p, d, h => by
    intro x hx
    rcases List.mem_cons.1 hx with rfl | hx
    · exact fun hp => chn_again e A B _ _ h.2 (Or.inl hp)
    · exact chn_before e A B _ _ h.2 x hx
theorem chn_behind (q a : List ByteArray) (dq : Bool) (hqs : Fw.Stp ltN q a) (hqd : (a.length : Int) - 1 ≤ deepB q.length dq) (K : Lf → Bool) : ∀ (B : List Lf) (p : List ByteArray) (d : Bool), Chn p d B → (∀ l ∈ B, K l = true ↔ ¬ Fw.Pr a (Pt.spN l.path)) → (p = a ∨ Fw.Pr a p) → Chn q dq (B.filter K)
  | [], _, _, _, _, _ => trivial
  | l :: B, p, d, h, hK, hp => by
    have hl := okL_fol h.1
    have hs := (fol_stp hl.2.2).1
    rcases Fw.in_step' hs hp with h1 | h1
    · rw [List.filter_cons_of_neg (fun h9 => (hK l List.mem_cons_self).1 h9 h1)]
      exact chn_behind q a dq hqs hqd K B _ _ h.2 (fun x hx => hK x (List.mem_cons_of_mem _ hx)) (Or.inr h1)
    · have hg := gt_of h1
      have hkl : K l = true := (hK l List.mem_cons_self).2 (fun h9 => Fw.gt_not ltN_irr hg (Or.inr h9))
      have hall := chn_gt a B _ _ h.2 hg
      have hf : B.filter K = B := List.filter_eq_self.2 (fun x hx => (hK x (List.mem_cons_of_mem _ hx)).2 (fun h9 => Fw.gt_not ltN_irr (hall x hx) (Or.inr h9)))
      rw [List.filter_cons_of_pos hkl, hf]
      refine ⟨?_, h.2⟩
      unfold okL
      rw [hl.1, hl.2.1]
      have hst := Fw.skip ltN_tra hqs hs.1 h1.1 h1.2
      have := stp_fol (d0 := dq) hst (by have := h1.1; omega)
      rw [this]
      rfl
/-- A tree without a leaf and all that lies in it. -/
theorem chn_less (e : Lf) (K : Lf → Bool) : ∀ (A B : List Lf) (p : List ByteArray) (d : Bool), Chn p d (A ++ e :: B) → (∀ l ∈ B, K l = true ↔ ¬ Fw.Pr (Pt.spN e.path) (Pt.spN l.path)) → Chn p d (A ++ B.filter K)
  | [], B, p, d, h, hK => by
    have hs := fol_stp (okL_fol h.1).2.2
    exact chn_behind p _ d hs.1 hs.2 K B _ _ h.2 hK (Or.inl rfl)
  | l :: A, B, p, d, h, hK => ⟨h.1, chn_less e K A B _ _ h.2 hK⟩

/-- The texts: what lies in a place begins with the place's path and a slash. -/
theorem cut_names : ∀ (x y s t : List UInt8), (47 : UInt8) ∉ x → (47 : UInt8) ∉ y → (t = [] ∨ ∃ t', t = 47 :: t') → (x ++ 47 :: s) <+: (y ++ t) → x = y ∧ (47 :: s) <+: t
  | [], [], s, t, _, _, _, h => ⟨rfl, h⟩
  | [], b :: y, s, t, _, hy, _, h => by
    have h1 : (47 :: s) <+: b :: (y ++ t) := h
    rw [List.cons_prefix_cons] at h1
    exact absurd (by rw [h1.1]; exact List.mem_cons_self) hy
  | c :: x, [], s, t, hx, _, ht, h => by
    have h1 : (c :: (x ++ 47 :: s)) <+: t := h
    rcases ht with rfl | ⟨t', rfl⟩
    · rw [List.prefix_nil] at h1
      cases h1
    · rw [List.cons_prefix_cons] at h1
      exact absurd (by rw [h1.1]; exact List.mem_cons_self) hx
  | c :: x, b :: y, s, t, hx, hy, ht, h => by
    have h1 : (c :: (x ++ 47 :: s)) <+: b :: (y ++ t) := h
    rw [List.cons_prefix_cons] at h1
    have h2 := cut_names x y s t (fun h => hx (List.mem_cons_of_mem _ h)) (fun h => hy (List.mem_cons_of_mem _ h)) ht h1.2
    exact ⟨by rw [h1.1, h2.1], h2.2⟩
theorem tgA_cons (x : ByteArray) (r : List ByteArray) : Pt.tgA (x :: r) = 47 :: (x.data.toList ++ Pt.tgA r) := by
  unfold Pt.tgA
  rw [List.map_cons, Pt.tgL_cons]
  rfl
theorem tgA_head (n : List ByteArray) : Pt.tgA n = [] ∨ ∃ t', Pt.tgA n = 47 :: t' := by
  cases n with
  | nil => exact Or.inl rfl
  | cons x r => exact Or.inr ⟨_, tgA_cons x r⟩
theorem tgA_tail (a : List ByteArray) : ∃ s, Pt.tgA a ++ [47] = 47 :: s := by
  cases a with
  | nil => exact ⟨[], rfl⟩
  | cons x r => exact ⟨_, by rw [tgA_cons]; rfl⟩
theorem data_inj {x y : ByteArray} (h : x.data.toList = y.data.toList) : x = y := by
  obtain ⟨⟨x⟩⟩ := x
  obtain ⟨⟨y⟩⟩ := y
  exact congrArg (fun l => (⟨⟨l⟩⟩ : ByteArray)) h
theorem pre_pr : ∀ (a n : List ByteArray), (∀ x ∈ a, (47 : UInt8) ∉ x.data.toList) → (∀ x ∈ n, (47 : UInt8) ∉ x.data.toList) → (Pt.tgA a ++ [47]) <+: Pt.tgA n → Fw.Pr a n
  | [], n, _, _, h => by
    refine ⟨?_, rfl⟩
    cases n with
    | nil =>
      have h1 : [(47 : UInt8)] <+: [] := h
      rw [List.prefix_nil] at h1
      cases h1
    | cons _ _ => simp
  | x :: a, [], _, _, h => by
    rw [tgA_cons] at h
    have h1 : (47 :: (x.data.toList ++ Pt.tgA a) ++ [47]) <+: [] := h
    rw [List.prefix_nil] at h1
    cases h1
  | x :: a, y :: n, ha, hn, h => by
    rw [tgA_cons, tgA_cons, List.cons_append, List.cons_prefix_cons, List.append_assoc] at h
    obtain ⟨s, hs⟩ := tgA_tail a
    have h1 := h.2
    rw [hs] at h1
    obtain ⟨g1, g2⟩ := cut_names _ _ _ _ (ha x List.mem_cons_self) (hn y List.mem_cons_self) (tgA_head n) h1
    rw [← hs] at g2
    have h3 := pre_pr a n (fun z hz => ha z (List.mem_cons_of_mem _ hz)) (fun z hz => hn z (List.mem_cons_of_mem _ hz)) g2
    cases data_inj g1
    refine ⟨by rw [List.length_cons, List.length_cons]; have := h3.1; omega, ?_⟩
    rw [List.length_cons, List.take_succ_cons, h3.2]
theorem pr_pre {a n : List ByteArray} (h : Fw.Pr a n) : (Pt.tgA a ++ [47]) <+: Pt.tgA n := by
  have h1 : n = a ++ n.drop a.length := by
    conv => lhs; rw [← List.take_append_drop a.length n, h.2]
  have h2 : ∃ y r, n.drop a.length = y :: r := by
    cases hd : n.drop a.length with
    | nil =>
      have := congrArg List.length hd
      rw [List.length_drop] at this
      have := h.1
      simp at *
      omega
    | cons y r => exact ⟨y, r, rfl⟩
  obtain ⟨y, r, hy⟩ := h2
  rw [h1, hy, Pt.tgA_append, tgA_cons]
  exact ⟨y.data.toList ++ Pt.tgA r, by rw [List.append_assoc]; rfl⟩

/-- Is a leaf kept where those that begin so go? -/
def keepB (p : List UInt8) (l : Lf) : Bool := decide (l.path.size < p.length) || !(l.path.data.toList.take p.length == p)
theorem tg_data {n : List ByteArray} (h : n ≠ []) : (Pt.tg n).data.toList = Pt.tgA n := by
  unfold Pt.tg
  rw [if_neg h, Pt.data_byteOf]
theorem keep_iff {e l : Lf} (he : nmsB e.path = true) (hl : nmsB l.path = true) (ha : Pt.spN e.path ≠ []) :
    keepB (e.path.data.toList ++ [47]) l = true ↔ ¬ Fw.Pr (Pt.spN e.path) (Pt.spN l.path) := by
  have e1 := (nms_more he).1
  have l1 := (nms_more hl).1
  have e2 : e.path.data.toList = Pt.tgA (Pt.spN e.path) := by
    conv => lhs; rw [← e1]
    exact tg_data ha
  have hsz : l.path.size = l.path.data.toList.length := rfl
  unfold keepB
  rw [hsz]
  by_cases hn : Pt.spN l.path = []
  · have h1 : ¬ Fw.Pr (Pt.spN e.path) (Pt.spN l.path) := by
      intro h
      have := h.1
      rw [hn] at this
      cases this
    have h2 : l.path.data.toList = [47] := by
      rw [← l1, hn]
      unfold Pt.tg
      rw [if_pos rfl, Pt.data_byteOf]
    have h3 : 1 ≤ e.path.data.toList.length := by
      rw [e2]
      obtain ⟨s, hs⟩ := List.exists_cons_of_ne_nil ha
      obtain ⟨r, hs⟩ := hs
      rw [hs, tgA_cons, List.length_cons]
      omega
    have h4 : decide (l.path.data.toList.length < (e.path.data.toList ++ [47]).length) = true := by
      rw [h2, List.length_append]
      exact decide_eq_true (by simp only [List.length_cons, List.length_nil]; omega)
    rw [h4, Bool.true_or]
    exact ⟨fun _ => h1, fun _ => rfl⟩
  · have l2 : l.path.data.toList = Pt.tgA (Pt.spN l.path) := by
      conv => lhs; rw [← l1]
      exact tg_data hn
    rw [e2, l2]
    have hpr : Fw.Pr (Pt.spN e.path) (Pt.spN l.path) ↔ (Pt.tgA (Pt.spN e.path) ++ [47]) <+: Pt.tgA (Pt.spN l.path) :=
      ⟨pr_pre, pre_pr _ _ (fun x hx => (Pt.sp_mem (nms_facts he).1 hx).2.2.1) (fun x hx => (Pt.sp_mem (nms_facts hl).1 hx).2.2.1)⟩
    rw [hpr, List.prefix_iff_eq_take, Bool.or_eq_true, decide_eq_true_eq, Bool.not_eq_true', beq_eq_false_iff_ne]
    constructor
    · rintro (h | h) h9
      · have := congrArg List.length h9
        rw [List.length_take] at this
        omega
      · exact h h9.symm
    · intro h
      exact Or.inr (fun h9 => h h9.symm)
/-- What is left, as far as it has been looked at. -/
def fewF (K : Lf → Bool) (i0 : Nat) (es : List Le) (i : Nat) : List Le := ((es.take i).zipIdx.filter (fun x => decide (x.2 ≠ i0) && K x.1.l)).map Prod.fst
theorem fewF_zero (K : Lf → Bool) (i0 : Nat) (es : List Le) : fewF K i0 es 0 = [] := rfl
theorem fewF_step (K : Lf → Bool) (i0 : Nat) (es : List Le) (i : Nat) (h : i < es.length) : fewF K i0 es (i + 1) = fewF K i0 es i ++ (if (decide (i ≠ i0) && K es[i].l) = true then [es[i]] else []) := by
  unfold fewF
  rw [List.take_succ_eq_append_getElem h, List.zipIdx_append, List.filter_append, List.map_append]
  congr 1
  have h1 : (es.take i).length = i := by rw [List.length_take]; omega
  rw [List.zipIdx_cons, List.zipIdx_nil, h1, Nat.zero_add]
  by_cases hc : (decide (i ≠ i0) && K es[i].l) = true
  · rw [if_pos hc, List.filter_cons_of_pos (by exact hc)]; rfl
  · rw [if_neg hc, List.filter_cons_of_neg (by exact hc)]; rfl
theorem fewF_mem {K : Lf → Bool} {i0 : Nat} {es : List Le} {i : Nat} {x : Le} (h : x ∈ fewF K i0 es i) : x ∈ es := by
  unfold fewF at h
  obtain ⟨y, hy, rfl⟩ := List.mem_map.1 h
  have h1 := (List.mem_filter.1 hy).1
  have h2 : y.1 ∈ es.take i := by
    have := List.mem_zipIdx' (x := y.1) (i := y.2) h1
    rw [this.2]
    exact List.getElem_mem _
  exact List.mem_of_mem_take h2
theorem fewF_len (K : Lf → Bool) (i0 : Nat) (es : List Le) (i : Nat) : (fewF K i0 es i).length ≤ i := by
  unfold fewF
  rw [List.length_map]
  refine Nat.le_trans (List.length_filter_le _ _) ?_
  rw [List.length_zipIdx, List.length_take]
  omega
theorem filt_front (K : Lf → Bool) (i0 : Nat) : ∀ (A : List Le) (k : Nat), k + A.length ≤ i0 → (∀ x ∈ A, K x.l = true) → ((A.zipIdx k).filter (fun x => decide (x.2 ≠ i0) && K x.1.l)).map Prod.fst = A
  | [], _, _, _ => rfl
  | x :: A, k, h, hK => by
    rw [List.length_cons] at h
    rw [List.zipIdx_cons, List.filter_cons_of_pos (by rw [hK x List.mem_cons_self, Bool.and_true]; exact decide_eq_true (by simp only; omega)), List.map_cons, filt_front K i0 A (k + 1) (by omega) (fun y hy => hK y (List.mem_cons_of_mem _ hy))]
theorem filt_back (K : Lf → Bool) (i0 : Nat) : ∀ (B : List Le) (k : Nat), i0 < k → (((B.zipIdx k).filter (fun x => decide (x.2 ≠ i0) && K x.1.l)).map Prod.fst).map Le.l = (B.map Le.l).filter K
  | [], _, _ => rfl
  | x :: B, k, h => by
    rw [List.zipIdx_cons, List.map_cons]
    have h1 : decide (k ≠ i0) = true := decide_eq_true (by omega)
    by_cases hx : K x.l = true
    · rw [List.filter_cons_of_pos (by rw [hx, h1]; rfl), List.filter_cons_of_pos hx, List.map_cons, List.map_cons, filt_back K i0 B (k + 1) (by omega)]
    · rw [List.filter_cons_of_neg (by rw [h1, Bool.true_and]; exact hx), List.filter_cons_of_neg hx, filt_back K i0 B (k + 1) (by omega)]
theorem fewF_all (K : Lf → Bool) (A B : List Le) (e : Le) (hK : ∀ x ∈ A, K x.l = true) : (fewF K A.length (A ++ e :: B) (A ++ e :: B).length).map Le.l = A.map Le.l ++ (B.map Le.l).filter K := by
  unfold fewF
  rw [List.take_length, List.zipIdx_append, List.filter_append, List.map_append, List.map_append, filt_front K A.length A 0 (by omega) hK, Nat.zero_add, List.zipIdx_cons, List.filter_cons_of_neg (by simp), filt_back K A.length B (A.length + 1) (by omega)]
theorem pack_iff (l : Lf) (r : List Lf) (row : List Int) : packM (l :: r) = .ok row ↔ rootB l = true ∧ bodB l.ty l.mode l.data.length l.target = true ∧ Chn [] true r ∧ row = sealW (headW l ++ r.flatMap encL) := by
  rw [packM]
  by_cases h1 : rootB l = true
  · rw [if_pos h1]
    by_cases h2 : bodB l.ty l.mode l.data.length l.target = true
    · rw [if_pos h2]
      cases hg : goL [] true (headW l) r with
      | error e =>
        constructor
        · intro h; cases h
        · rintro ⟨-, -, h3, h4⟩
          have := (goL_chn r [] true (headW l) _).2 ⟨h3, rfl⟩
          rw [hg] at this
          cases this
      | ok x =>
        have h3 := (goL_chn r [] true (headW l) x).1 hg
        constructor
        · intro h
          injection h with h
          exact ⟨h1, h2, h3.1, by rw [← h3.2]; exact h.symm⟩
        · rintro ⟨-, -, -, h4⟩
          rw [h4, ← h3.2]
    · rw [if_neg h2]
      constructor
      · intro h; cases h
      · rintro ⟨-, h, -⟩; exact absurd h h2
  · rw [if_neg h1]
    constructor
    · intro h; cases h
    · rintro ⟨h, -⟩; exact absurd h h1
theorem sealW_len (x : List Int) : (sealW x).length = x.length + 5 := by
  unfold sealW
  simp only [List.length_append, numL_length]
theorem flat_filter (K : Lf → Bool) : ∀ B : List Lf, ((B.filter K).flatMap encL).length ≤ (B.flatMap encL).length
  | [] => Nat.le_refl _
  | l :: B => by
    have := flat_filter K B
    by_cases h : K l = true
    · rw [List.filter_cons_of_pos h, List.flatMap_cons, List.flatMap_cons, List.length_append, List.length_append]; omega
    · rw [List.filter_cons_of_neg h, List.flatMap_cons, List.length_append]; omega
theorem chn_oks : ∀ (A : List Lf) (p : List ByteArray) (d : Bool), Chn p d A → ∀ l ∈ A, nmsB l.path = true ∧ Pt.spN l.path ≠ []
  | [], _, _, _ => fun _ h => by cases h
  | l :: A, p, d, h => by
    intro x hx
    rcases List.mem_cons.1 hx with rfl | hx
    · have h1 := okL_fol h.1
      refine ⟨h1.1, fun h9 => ?_⟩
      have := (fol_stp h1.2.2).1.1
      rw [h9] at this
      cases this
    · exact chn_oks A _ _ h.2 x hx
theorem few_one (es : List Le) (row : List Int) (i : Nat) (h : packM (es.map Le.l) = .ok row) (h1 : 1 ≤ i) (h2 : i < es.length) :
    ∃ c, packM ((fewF (keepB (es[i].l.path.data.toList ++ [47])) i es es.length).map Le.l) = .ok c ∧ c.length < row.length := by
  obtain ⟨x, r, rfl⟩ := List.exists_cons_of_ne_nil (show es ≠ [] by intro h9; rw [h9] at h2; cases h2)
  rw [List.map_cons, pack_iff] at h
  obtain ⟨p1, p2, p3, p4⟩ := h
  obtain ⟨i, rfl⟩ : ∃ k, i = k + 1 := ⟨i - 1, by omega⟩
  rw [List.length_cons] at h2
  have h3 : i < r.length := by omega
  have hes : r = r.take i ++ r[i] :: r.drop (i + 1) := by rw [List.getElem_cons_drop h3, List.take_append_drop]
  have hge : (x :: r)[i + 1]'(by simp; omega) = r[i] := rfl
  rw [hge]
  obtain ⟨A, hA⟩ : ∃ A, r.take i = A := ⟨_, rfl⟩
  obtain ⟨B, hB⟩ : ∃ B, r.drop (i + 1) = B := ⟨_, rfl⟩
  obtain ⟨e, he⟩ : ∃ e, r[i] = e := ⟨_, rfl⟩
  have hAl : A.length = i := by rw [← hA, List.length_take]; omega
  rw [hA, hB, he] at hes
  rw [he]
  clear hge
  subst hes
  clear hA hB he
  rw [List.map_append, List.map_cons] at p3 p4
  have hoks := chn_oks _ _ _ p3
  have hin : nmsB e.l.path = true ∧ Pt.spN e.l.path ≠ [] := hoks _ (List.mem_append_right _ List.mem_cons_self)
  have hKA : ∀ l ∈ A.map Le.l, keepB (e.l.path.data.toList ++ [47]) l = true := fun l hl =>
    (keep_iff hin.1 (hoks l (List.mem_append_left _ hl)).1 hin.2).2 (chn_before e.l _ _ _ _ p3 l hl)
  have hroot : keepB (e.l.path.data.toList ++ [47]) x.l = true := by
    unfold rootB at p1
    rw [Bool.and_eq_true, decide_eq_true_eq, Lib.toList_data] at p1
    have q1 : x.l.path.size = 1 := by
      have : x.l.path.size = x.l.path.data.toList.length := rfl
      rw [this, p1.1]
      rfl
    unfold keepB
    rw [Bool.or_eq_true]
    left
    refine decide_eq_true ?_
    rw [q1, List.length_append]
    have : 1 ≤ e.l.path.data.toList.length := by
      rw [← (nms_more hin.1).1, tg_data hin.2]
      obtain ⟨s, r9, hs⟩ := List.exists_cons_of_ne_nil hin.2
      rw [hs, tgA_cons, List.length_cons]
      omega
    simp only [List.length_cons, List.length_nil]
    omega
  have hall := fewF_all (keepB (e.l.path.data.toList ++ [47])) (x :: A) B e (by
    intro y hy
    rcases List.mem_cons.1 hy with rfl | hy
    · exact hroot
    · exact hKA _ (List.mem_map_of_mem hy))
  have hAl2 : (x :: A).length = i + 1 := by rw [List.length_cons, hAl]
  rw [hAl2] at hall
  have hall2 : (fewF (keepB (e.l.path.data.toList ++ [47])) (i + 1) (x :: (A ++ e :: B)) (x :: (A ++ e :: B)).length).map Le.l = x.l :: (A.map Le.l ++ (B.map Le.l).filter (keepB (e.l.path.data.toList ++ [47]))) := hall
  rw [hall2]
  have hc := chn_less e.l (keepB (e.l.path.data.toList ++ [47])) _ _ _ _ p3 (fun l hl => keep_iff hin.1 (hoks l (List.mem_append_right _ (List.mem_cons_of_mem _ hl))).1 hin.2)
  refine ⟨_, (pack_iff _ _ _).2 ⟨p1, p2, hc, rfl⟩, ?_⟩
  rw [p4, sealW_len, sealW_len, List.length_append, List.length_append, List.flatMap_append, List.flatMap_append, List.flatMap_cons, List.length_append, List.length_append, List.length_append]
  have q1 := flat_filter (keepB (e.l.path.data.toList ++ [47])) (B.map Le.l)
  have q2 := encL_pos e.l
  omega
theorem few_two (es : List Le) (row : List Int) (h : packM (es.map Le.l) = .ok row) (h2 : 2 ≤ es.length) :
    ∃ c, packM ((es.take (es.length - 1)).map Le.l) = .ok c ∧ c.length < row.length := by
  obtain ⟨x, r, rfl⟩ := List.exists_cons_of_ne_nil (show es ≠ [] by intro h9; rw [h9] at h2; cases h2)
  rw [List.map_cons, pack_iff] at h
  obtain ⟨p1, p2, p3, p4⟩ := h
  rw [List.length_cons] at h2
  have h3 : r.length - 1 < r.length := by omega
  have ht : (x :: r).take ((x :: r).length - 1) = x :: r.take (r.length - 1) := by
    rw [List.length_cons, show r.length + 1 - 1 = (r.length - 1) + 1 by omega, List.take_succ_cons]
  have hes : r = r.take (r.length - 1) ++ [r[r.length - 1]] := by
    rw [List.take_append_getElem h3, show r.length - 1 + 1 = r.length by omega, List.take_length]
  obtain ⟨A, hA⟩ : ∃ A, r.take (r.length - 1) = A := ⟨_, rfl⟩
  obtain ⟨e, he⟩ : ∃ e, r[r.length - 1] = e := ⟨_, rfl⟩
  rw [ht, hA]
  rw [hA, he] at hes
  rw [hes, List.map_append] at p3 p4
  rw [List.map_cons]
  refine ⟨_, (pack_iff _ _ _).2 ⟨p1, p2, chn_front _ _ _ _ p3, rfl⟩, ?_⟩
  rw [p4, sealW_len, sealW_len, List.length_append, List.length_append, List.flatMap_append, List.length_append, List.map_cons, List.map_nil, List.flatMap_cons, List.flatMap_nil, List.append_nil]
  have q2 := encL_pos e.l
  omega
theorem getL_inj {a b : List Int} (ha : Byt a) (hb : Byt b) : ∀ n, getL a 0 n = getL b 0 n → ∀ i, i < n → a.getD i 0 = b.getD i 0
  | 0, _, i, hi => absurd hi (Nat.not_lt_zero i)
  | n + 1, h, i, hi => by
    have ra := getL_range ha 0 n
    have rb := getL_range hb 0 n
    have hp := pow256_pos n
    have e1 : ∀ x y : Int, 0 ≤ x → x < 256 ^ n → (x + y * 256 ^ n) / 256 ^ n = y := by
      intro x y h0 h1
      rw [Int.add_mul_ediv_right _ _ (by omega), Int.ediv_eq_zero_of_lt h0 h1, Int.zero_add]
    rw [getL, getL, Nat.zero_add] at h
    have q : a.getD n 0 = b.getD n 0 := by
      rw [← e1 (getL a 0 n) (a.getD n 0) ra.1 ra.2, h, e1 _ _ rb.1 rb.2]
    rw [q] at h
    have h2 : getL a 0 n = getL b 0 n := by omega
    by_cases hin : i = n
    · rw [hin]; exact q
    · exact getL_inj ha hb n h2 i (by omega)
theorem num_back {bs : List Int} (hb : Byt bs) {n : Nat} (hn : n ≤ bs.length) : bs = numL n (getL bs 0 n) ++ bs.drop n := by
  have hr := getL_range hb 0 n
  have h1 : numL n (getL bs 0 n) = bs.take n := by
    refine List.ext_getElem (by rw [numL_length, List.length_take]; omega) ?_
    intro i h2 h3
    have h4 : i < n := by rw [numL_length] at h2; exact h2
    have h5 := getL_inj (numL_byt n (getL bs 0 n)) hb n (by have := getL_numL n (getL bs 0 n) hr.1 hr.2 []; rw [List.append_nil] at this; exact this) i h4
    rw [List.getD_eq_getElem?_getD, List.getD_eq_getElem?_getD, List.getElem?_eq_getElem h2, List.getElem?_eq_getElem (by omega)] at h5
    rw [List.getElem_take]
    exact h5
  rw [h1, List.take_append_drop]
theorem num_inv {n : Nat} {bs r : List Int} {v : Int} (h : numR n bs = .ok (v, r)) (hb : Byt bs) : bs = numL n v ++ r ∧ 0 ≤ v ∧ v < 256 ^ n ∧ Byt r := by
  unfold numR at h
  split at h
  · rename_i hn
    cases h
    have hr := getL_range hb 0 n
    exact ⟨num_back hb hn, hr.1, hr.2, byt_drop hb n⟩
  · cases h
theorem whole_inv {n : Nat} {lo hi : Int} {bs r : List Int} {v : Int} (h : wholeR n lo hi bs = .ok (v, r)) (hb : Byt bs) : bs = numL n v ++ r ∧ lo ≤ v ∧ v ≤ hi ∧ 0 ≤ v ∧ v < 256 ^ n ∧ Byt r := by
  obtain ⟨h1, h2, h3, h4, h5⟩ := wholeR_ok h
  have hr := getL_range hb 0 n
  refine ⟨?_, h2, h3, by rw [h4]; exact hr.1, by rw [h4]; exact hr.2, by rw [h5]; exact byt_drop hb n⟩
  rw [h4, h5]
  exact num_back hb h1
theorem take_inv {n : Nat} {bs b r : List Int} (h : takeR n bs = .ok (b, r)) (hb : Byt bs) : bs = b ++ r ∧ b.length = n ∧ Byt b ∧ Byt r := by
  unfold takeR at h
  split at h
  · rename_i hn
    cases h
    exact ⟨(List.take_append_drop n bs).symm, by rw [List.length_take]; omega, byt_take hb n, byt_drop hb n⟩
  · cases h
theorem nums_str {b : List Int} (h : Byt b) : numsS (strOfNums b) = b := by
  unfold numsS
  rw [strOfNums_data, List.map_map]
  conv => rhs; rw [← List.map_id b]
  refine List.map_congr_left fun x hx => ?_
  have := h x hx
  show ((UInt8.ofNat x.toNat).toNat : Int) = x
  rw [UInt8.toNat_ofNat']
  omega

/-- Zeros ahead. -/
theorem zrs_app : ∀ (l t : List Int), (∃ x ∈ l, x ≠ 0) → zrs (l ++ t) = zrs l
  | [], _, h => by obtain ⟨x, hx, _⟩ := h; cases hx
  | a :: l, t, h => by
    rw [List.cons_append, zrs, zrs]
    by_cases ha : a = 0
    · rw [if_pos ha, if_pos ha, zrs_app l t]
      obtain ⟨x, hx, hn⟩ := h
      rcases List.mem_cons.1 hx with rfl | hx
      · exact absurd ha hn
      · exact ⟨x, hx, hn⟩
    · rw [if_neg ha, if_neg ha]
theorem zrs_rep : ∀ (k : Nat) (t : List Int), zrs (List.replicate k 0 ++ t) = k + zrs t
  | 0, t => by rw [List.replicate_zero, List.nil_append, Nat.zero_add]
  | k + 1, t => by rw [List.replicate_succ, List.cons_append, zrs, if_pos rfl, zrs_rep k t]; omega
theorem zrs_none {t : List Int} (h : t ≠ [] → t.getD 0 0 ≠ 0) : zrs t = 0 := by
  cases t with
  | nil => rfl
  | cons a r =>
    have : a ≠ 0 := h (by simp)
    rw [zrs, if_neg this]
theorem fhN_app : ∀ (b t : List Int), fhN b = b.length → (t ≠ [] → b.getD (b.length - 1) 0 ≠ 0) → (t ≠ [] → 16 ≤ zrs t) → b ≠ [] → fhN (b ++ t) = b.length
  | [], _, _, _, _, h => absurd rfl h
  | a :: b, t, h1, h2, h3, _ => by
    by_cases ht : t = []
    · rw [ht, List.append_nil]; exact h1
    have hl := h2 ht
    rw [fhN] at h1
    by_cases hz : 16 ≤ zrs (a :: b)
    · rw [if_pos hz] at h1; cases h1
    · rw [if_neg hz, List.length_cons] at h1
      have h1 : fhN b = b.length := by omega
      have hne : ∃ x ∈ a :: b, x ≠ 0 := by
        refine ⟨(a :: b).getD ((a :: b).length - 1) 0, ?_, hl⟩
        rw [List.getD_eq_getElem?_getD, List.getElem?_eq_getElem (by simp)]
        exact List.getElem_mem _
      have hz2 := zrs_app (a :: b) t hne
      rw [List.cons_append] at hz2
      rw [List.cons_append, fhN, hz2, if_neg hz, List.length_cons]
      by_cases hb : b = []
      · subst hb
        have : fhN t = 0 := fhN_hole (h3 ht)
        rw [List.nil_append, this]
        rfl
      · rw [fhN_app b t h1 ?_ h3 hb]
        intro _
        have : (a :: b).getD ((a :: b).length - 1) 0 = b.getD (b.length - 1) 0 := by
          have hlen : 0 < b.length := List.length_pos_iff.2 hb
          rw [List.length_cons, show b.length + 1 - 1 = (b.length - 1) + 1 by omega]
          rfl
        rw [← this]; exact hl
theorem cuts_fill {zs : List Int} {pos k : Nat} (h : pos < zs.length) (hf : fhAt zs pos = pos + k) (hk : 0 < k) (hn : pos + k < zs.length → 16 ≤ zrs (zs.drop (pos + k))) : cutsFrom zs pos = ⟨pos, k, false⟩ :: cutsFrom zs (pos + k) := by
  rw [cuts_step h, hf, if_pos (by omega), show pos + k - pos = k by omega]
  have he : enAt zs pos = pos + k + zrs (zs.drop (pos + k)) := by unfold enAt; rw [hf]
  by_cases hl : pos + k < zs.length
  · have h16 := hn hl
    have hf2 := fhAt_hole h16
    have he2 : enAt zs (pos + k) = pos + k + zrs (zs.drop (pos + k)) := by unfold enAt; rw [hf2]
    rw [cuts_step hl, hf2, he, he2, if_neg (Nat.lt_irrefl (pos + k))]
    rfl
  · have h0 : zrs (zs.drop (pos + k)) = 0 := by rw [List.drop_of_length_le (by omega)]; rfl
    rw [he, h0, Nat.add_zero, if_neg (Nat.lt_irrefl (pos + k))]
    rfl
theorem cuts_hole {zs : List Int} {pos k : Nat} (h : pos < zs.length) (hz : zrs (zs.drop pos) = k) (hk : 16 ≤ k) : cutsFrom zs pos = ⟨pos, k, true⟩ :: cutsFrom zs (pos + k) := by
  have hf : fhAt zs pos = pos := fhAt_hole (by omega)
  have he : enAt zs pos = pos + k := by unfold enAt; rw [hf, hz]
  rw [cuts_step h, hf, he, if_neg (Nat.lt_irrefl pos), if_pos (by omega), show pos + k - pos = k by omega]
  rfl
theorem filled_inv {b : List Int} {behind more : Bool} (h : filledB b behind more = true) : fhN b = b.length ∧ (behind = true → b.getD 0 0 ≠ 0) ∧ (more = true → b.getD (b.length - 1) 0 ≠ 0) := by
  unfold filledB at h
  simp only [Bool.and_eq_true, decide_eq_true_eq, Bool.not_eq_true', Bool.and_eq_false_iff, beq_eq_false_iff_ne] at h
  obtain ⟨⟨h1, h2⟩, h3⟩ := h
  refine ⟨h1, fun hb => ?_, fun hm => ?_⟩
  · rcases h2 with h2 | h2
    · rw [hb] at h2; cases h2
    · exact h2
  · rcases h3 with h3 | h3
    · rw [hm] at h3; cases h3
    · exact h3
theorem byt_rep (k : Nat) : Byt (List.replicate k 0) := fun x hx => by have := (List.mem_replicate.1 hx).2; omega
/-- The stretches that are read are the ones that would be laid. -/
theorem dataL_inv (size : Nat) : ∀ (f pos : Nat) (last : Int) (acc acc' : List Sg) (bs r : List Int), dataL size f pos last acc bs = .ok (acc', r) → Byt bs → size - pos ≤ f → pos ≤ size → (∀ s ∈ acc, s.pos + s.bs.length ≤ pos) →
    ∃ tl : List Int, layD size acc' = layD pos acc ++ tl ∧ tl.length = size - pos ∧ (∀ s ∈ acc', s.pos + s.bs.length ≤ size) ∧ Byt r ∧ Byt tl ∧ (last = 0 → tl ≠ [] → tl.getD 0 0 ≠ 0) ∧ (last = 1 → tl ≠ [] → 16 ≤ zrs tl) ∧
      ∀ zs : List Int, zs.length = size → zs.drop pos = tl → bs = (cutsFrom zs pos).flatMap (encR zs) ++ r := by
  have stop : ∀ (pos : Nat) (last : Int) (acc acc' : List Sg) (bs r : List Int), pos = size → (Except.ok (acc, bs) : Except Int (List Sg × List Int)) = .ok (acc', r) → Byt bs → (∀ s ∈ acc, s.pos + s.bs.length ≤ pos) →
      ∃ tl : List Int, layD size acc' = layD pos acc ++ tl ∧ tl.length = size - pos ∧ (∀ s ∈ acc', s.pos + s.bs.length ≤ size) ∧ Byt r ∧ Byt tl ∧ (last = 0 → tl ≠ [] → tl.getD 0 0 ≠ 0) ∧ (last = 1 → tl ≠ [] → 16 ≤ zrs tl) ∧
        ∀ zs : List Int, zs.length = size → zs.drop pos = tl → bs = (cutsFrom zs pos).flatMap (encR zs) ++ r := by
    intro pos last acc acc' bs r hp h hb ha
    cases h
    subst hp
    refine ⟨[], by rw [List.append_nil], by simp, ha, hb, (fun x hx => by cases hx), (fun _ h => absurd rfl h), (fun _ h => absurd rfl h), fun zs hz _ => ?_⟩
    rw [cuts_end (by omega), List.flatMap_nil, List.nil_append]
  intro f
  induction f with
  | zero =>
    intro pos last acc acc' bs r h hb hf hp ha
    rw [dataL] at h
    exact stop pos last acc acc' bs r (by omega) h hb ha
  | succ f ih =>
    intro pos last acc acc' bs r h hb hf hp ha
    rw [dataL] at h
    by_cases hlt : pos < size
    · rw [if_pos hlt] at h
      cases h1 : wholeR 1 0 1 bs with
      | error e => rw [h1] at h; cases h
      | ok x1 =>
        obtain ⟨kd, r1⟩ := x1
        rw [h1] at h
        simp only at h
        obtain ⟨a1, a2, a3, -, -, hb1⟩ := whole_inv h1 hb
        by_cases hk : kd = last
        · rw [if_pos hk] at h; cases h
        rw [if_neg hk] at h
        cases h2 : wholeR 4 (if kd = 0 then 16 else 1) ((size : Int) - (pos : Int)) r1 with
        | error e => rw [h2] at h; cases h
        | ok x2 =>
          obtain ⟨k, r2⟩ := x2
          rw [h2] at h
          simp only at h
          obtain ⟨b1, b2, b3, -, -, hb2⟩ := whole_inv h2 hb1
          by_cases hk1 : kd = 1
          · rw [if_pos hk1] at h
            rw [if_neg (by omega)] at b2
            obtain ⟨m, rfl⟩ : ∃ m : Nat, k = (m : Int) := ⟨k.toNat, by omega⟩
            rw [Int.toNat_natCast] at h
            cases h3 : takeR m r2 with
            | error e => rw [h3] at h; cases h
            | ok x3 =>
              obtain ⟨b, r3⟩ := x3
              rw [h3] at h
              simp only at h
              obtain ⟨c1, c2, cb, hb3⟩ := take_inv h3 hb2
              by_cases hfl : filledB b (last == 0) (decide (pos + m < size)) = true
              · rw [if_pos hfl] at h
                obtain ⟨f1, f2, f3⟩ := filled_inv hfl
                obtain ⟨tl, t1, t2, t3, t4, t5, t6, t7, t8⟩ := ih (pos + m) 1 (acc ++ [⟨pos, b⟩]) acc' r3 r h hb3 (by omega) (by omega) (by
                  intro s hs
                  rcases List.mem_append.1 hs with hs | hs
                  · have := ha s hs; omega
                  · rw [List.mem_singleton.1 hs]; simp only; omega)
                have hl9 := lay_put pos acc b ha
                rw [c2] at hl9
                rw [hl9, List.append_assoc] at t1
                have hbn : b ≠ [] := by intro e; rw [e] at c2; simp at c2; omega
                refine ⟨b ++ tl, t1, by rw [List.length_append]; omega, t3, t4, byt_app cb t5, ?_, ?_, ?_⟩
                · intro hl0 _
                  have := f2 (by rw [hl0]; rfl)
                  cases b with
                  | nil => exact absurd rfl hbn
                  | cons y b => exact this
                · intro hl1 _; omega
                · intro zs hz hd
                  have hd2 : zs.drop (pos + m) = tl := by
                    rw [← List.drop_drop, hd, ← c2, List.drop_left]
                  have hfh : fhAt zs pos = pos + m := by
                    rw [fhAt_eq (by omega), hd, fhN_app b tl f1 (fun ht => f3 (decide_eq_true (by have := List.length_pos_iff.2 ht; omega))) (t7 rfl) hbn, c2]
                  rw [cuts_fill (by omega) hfh (by omega) (fun hlt2 => by rw [hd2]; exact t7 rfl (fun e => by rw [e] at t2; simp at t2; omega)), List.flatMap_cons, List.append_assoc, encR_fill, hd, ← t8 zs hz hd2, ← c2, List.take_left, a1, b1, c1, hk1, c2]
              · rw [if_neg hfl] at h; cases h
          · rw [if_neg hk1] at h
            have hk0 : kd = 0 := by omega
            rw [if_pos hk0] at b2
            obtain ⟨m, rfl⟩ : ∃ m : Nat, k = (m : Int) := ⟨k.toNat, by omega⟩
            rw [Int.toNat_natCast] at h
            obtain ⟨tl, t1, t2, t3, t4, t5, t6, t7, t8⟩ := ih (pos + m) 0 acc acc' r2 r h hb2 (by omega) (by omega) (fun s hs => by have := ha s hs; omega)
            rw [lay_add pos m acc ha, List.append_assoc] at t1
            have hz0 : zrs (List.replicate m 0 ++ tl) = m := by rw [zrs_rep, zrs_none (t6 rfl)]; omega
            refine ⟨List.replicate m 0 ++ tl, t1, by rw [List.length_append, List.length_replicate]; omega, t3, t4, byt_app (byt_rep m) t5, ?_, ?_, ?_⟩
            · intro hl0 _; omega
            · intro _ _; rw [hz0]; omega
            · intro zs hz hd
              have hd2 : zs.drop (pos + m) = tl := by
                rw [← List.drop_drop, hd, List.drop_left' (by rw [List.length_replicate])]
              rw [cuts_hole (k := m) (by omega) (by rw [hd, hz0]) (by omega), List.flatMap_cons, List.append_assoc, encR_hole, ← t8 zs hz hd2, a1, b1, hk0]
    · rw [if_neg hlt] at h
      exact stop pos last acc acc' bs r (by omega) h hb ha
theorem dataR_inv {bs r : List Int} {d : Nat × List Sg} (h : dataR bs = .ok (d, r)) (hb : Byt bs) : bs = encD (layD d.1 d.2) ++ r ∧ d.1 ≤ 16777216 ∧ (layD d.1 d.2).length = d.1 ∧ Byt (layD d.1 d.2) ∧ Byt r := by
  unfold dataR at h
  cases h1 : wholeR 4 0 16777216 bs with
  | error e => rw [h1] at h; cases h
  | ok x1 =>
    obtain ⟨n, r1⟩ := x1
    rw [h1] at h
    simp only at h
    obtain ⟨a1, a2, a3, -, -, hb1⟩ := whole_inv h1 hb
    obtain ⟨m, rfl⟩ : ∃ m : Nat, n = (m : Int) := ⟨n.toNat, by omega⟩
    rw [Int.toNat_natCast] at h
    cases h2 : dataL m m 0 (-1) [] r1 with
    | error e => rw [h2] at h; cases h
    | ok x2 =>
      obtain ⟨l, r2⟩ := x2
      rw [h2] at h
      cases h
      obtain ⟨tl, t1, t2, t3, t4, t5, -, -, t8⟩ := dataL_inv m m 0 (-1) [] l r1 r h2 hb1 (by omega) (by omega) (fun s hs => by cases hs)
      have hl : layD m l = tl := t1
      have hlen : (layD m l).length = m := layD_len m l t3
      have h9 := t8 (layD m l) hlen (by rw [List.drop_zero, hl])
      refine ⟨?_, by omega, hlen, by rw [hl]; exact t5, t4⟩
      unfold encD cuts
      rw [hlen, List.append_assoc, ← h9]
      exact a1
theorem mode_inv {bs r : List Int} {ms : Int × Int} (h : modeR bs = .ok (ms, r)) (hb : Byt bs) : bs = numL 2 ms.1 ++ (numL 8 ms.2 ++ r) ∧ 0 ≤ ms.1 ∧ ms.1 ≤ 4095 ∧ 0 ≤ ms.2 ∧ ms.2 < 18446744073709551616 ∧ Byt r := by
  unfold modeR at h
  cases h1 : wholeR 2 0 4095 bs with
  | error e => rw [h1] at h; cases h
  | ok x1 =>
    obtain ⟨m, r1⟩ := x1
    rw [h1] at h
    simp only at h
    obtain ⟨a1, a2, a3, -, -, hb1⟩ := whole_inv h1 hb
    cases h2 : numR 8 r1 with
    | error e => rw [h2] at h; cases h
    | ok x2 =>
      obtain ⟨s, r2⟩ := x2
      rw [h2] at h
      cases h
      obtain ⟨b1, b2, b3, hb2⟩ := num_inv h2 hb1
      rw [p8] at b3
      exact ⟨by rw [a1, b1], a2, a3, b2, b3, hb2⟩
theorem names_inv {ahead ns : List ByteArray} {d : Nat} {bs r : List Int} (h : namesR ahead d bs = .ok (ns, r)) (hb : Byt bs) :
    ∃ nm, ns = ahead.take d ++ [nm] ∧ bs = numL 1 (nm.size : Int) ++ (numsS nm ++ r) ∧ Pt.upB nm = false ∧ Pt.joE ns = 0 ∧ aheadB ahead d nm = true ∧ Byt r := by
  unfold namesR at h
  cases h1 : wholeR 1 1 63 bs with
  | error e => rw [h1] at h; cases h
  | ok x1 =>
    obtain ⟨n, r1⟩ := x1
    rw [h1] at h
    simp only at h
    obtain ⟨a1, a2, a3, -, -, hb1⟩ := whole_inv h1 hb
    obtain ⟨m, rfl⟩ : ∃ m : Nat, n = (m : Int) := ⟨n.toNat, by omega⟩
    rw [Int.toNat_natCast] at h
    cases h2 : takeR m r1 with
    | error e => rw [h2] at h; cases h
    | ok x2 =>
      obtain ⟨b, r2⟩ := x2
      rw [h2] at h
      simp only at h
      obtain ⟨b1, b2, bb, hb2⟩ := take_inv h2 hb1
      split at h
      · rename_i hc
        cases h
        rw [Bool.and_eq_true, Bool.and_eq_true, Bool.not_eq_true', decide_eq_true_eq] at hc
        refine ⟨strOfNums b, rfl, ?_, hc.1.1, hc.1.2, hc.2, hb2⟩
        rw [nums_str bb, strOfNums_size, b2, a1, b1]
      · cases h
theorem target_inv {bs r : List Int} {t : ByteArray} (h : targetR bs = .ok (t, r)) (hb : Byt bs) : bs = numL 1 (t.size : Int) ++ (numsS t ++ r) ∧ 1 ≤ t.size ∧ t.size ≤ 127 ∧ Pt.zeroB t = false ∧ Byt r := by
  unfold targetR at h
  cases h1 : wholeR 1 1 127 bs with
  | error e => rw [h1] at h; cases h
  | ok x1 =>
    obtain ⟨n, r1⟩ := x1
    rw [h1] at h
    simp only at h
    obtain ⟨a1, a2, a3, -, -, hb1⟩ := whole_inv h1 hb
    obtain ⟨m, rfl⟩ : ∃ m : Nat, n = (m : Int) := ⟨n.toNat, by omega⟩
    rw [Int.toNat_natCast] at h
    cases h2 : takeR m r1 with
    | error e => rw [h2] at h; cases h
    | ok x2 =>
      obtain ⟨b, r2⟩ := x2
      rw [h2] at h
      simp only at h
      obtain ⟨b1, b2, bb, hb2⟩ := take_inv h2 hb1
      split at h
      · cases h
      · rename_i hc
        cases h
        have hs : (strOfNums b).size = m := by rw [strOfNums_size]; exact b2
        refine ⟨?_, by omega, by omega, by simpa using hc, hb2⟩
        rw [nums_str bb, hs, a1, b1]
theorem joE_nv {ns : List ByteArray} (h : Pt.joE ns = 0) (hu : ∀ x ∈ ns, Pt.upB x = false) : Nv ns := by
  unfold Pt.joE at h
  split at h
  · cases h
  · rename_i hb
    split at h
    · cases h
    · split at h
      · cases h
      · refine ⟨fun x hx => ?_, by omega, by omega⟩
        have h1 : Pt.badB x = false := by
          cases hc : Pt.badB x with
          | false => rfl
          | true => exact absurd (List.any_eq_true.2 ⟨x, hx, hc⟩) hb
        unfold Pt.badB at h1
        rw [hu x hx] at h1
        simpa using h1
theorem Nv.nms2 {ns : List ByteArray} (h : Nv ns) : nmsB (Pt.tg ns) = true := by
  unfold nmsB
  rw [h.sp.1, h.sp.2, h.cl]
  have : ns.any Pt.upB = false := by
    rw [List.any_eq_false]
    intro x hx
    rw [(good_facts (h.good x hx)).2.2.2.1]
    decide
  rw [this]
  simp
/-- A piece that is read is the one that would be laid. -/
theorem piece_inv {ahead : List ByteArray} {d : Nat} {bs r : List Int} {p : Pc} (h : pieceR ahead d bs = .ok (p, r)) (hb : Byt bs) (ha : Nv ahead) (hd : d ≤ ahead.length) (d0 : Bool) (hdd : (d : Int) ≤ deepB ahead.length d0) :
    numL 1 (d : Int) ++ bs = encL (leafOf p) ++ r ∧ okL ahead d0 (leafOf p) = true ∧ Pt.spN (leafOf p).path = p.names ∧ Nv p.names ∧ Byt r ∧ Lok (leafOf p) := by
  unfold pieceR at h
  cases h1 : wholeR 1 1 3 bs with
  | error e => rw [h1] at h; cases h
  | ok x1 =>
    obtain ⟨ty, r1⟩ := x1
    rw [h1] at h
    simp only at h
    obtain ⟨a1, a2, a3, -, -, hb1⟩ := whole_inv h1 hb
    cases h2 : modeR r1 with
    | error e => rw [h2] at h; cases h
    | ok x2 =>
      obtain ⟨ms, r2⟩ := x2
      rw [h2] at h
      simp only at h
      obtain ⟨b1, b2, b3, b4, b5, hb2⟩ := mode_inv h2 hb1
      cases h3 : namesR ahead d r2 with
      | error e => rw [h3] at h; cases h
      | ok x3 =>
        obtain ⟨ns, r3⟩ := x3
        rw [h3] at h
        simp only at h
        obtain ⟨nm, c1, c2, c3, c4, c5, hb3⟩ := names_inv h3 hb2
        have hnv : Nv ns := joE_nv c4 (by
          intro x hx
          rw [c1] at hx
          rcases List.mem_append.1 hx with hx | hx
          · exact (good_facts (ha.good x (List.mem_of_mem_take hx))).2.2.2.1
          · rw [List.mem_singleton.1 hx]; exact c3)
        have hlen : ns.length - 1 = d := by rw [c1, List.length_append, List.length_take, List.length_singleton]; omega
        have hlen1 : 1 ≤ ns.length := by rw [c1, List.length_append, List.length_singleton]; omega
        have hlast : ns.getD (ns.length - 1) ByteArray.empty = nm := by
          rw [hlen, c1, List.getD_eq_getElem?_getD, List.getElem?_append_right (by rw [List.length_take]; omega), List.length_take, show d - min d ahead.length = 0 by omega]
          rfl
        have htk : ns.take (ns.length - 1) = ahead.take (ns.length - 1) := by
          rw [hlen, c1, List.take_left' (by rw [List.length_take]; omega)]
        have hfol : folB ahead d0 ns = true := by
          unfold folB
          rw [hlast, htk, hlen, c5]
          have q1 : ((ns.length : Int) - 1 ≤ deepB ahead.length d0) := by omega
          simp [hlen1, q1]
        have key : ∀ (tg : ByteArray) (n : Nat) (sg : List Sg) (X : List Int), r3 = encB ty (layD n sg) tg ++ X → bodB ty ms.1 (layD n sg).length tg = true →
            numL 1 (d : Int) ++ bs = encL (leafOf ⟨ns, ty, ms.1, ms.2, tg, n, sg⟩) ++ X ∧ okL ahead d0 (leafOf ⟨ns, ty, ms.1, ms.2, tg, n, sg⟩) = true ∧ Pt.spN (leafOf ⟨ns, ty, ms.1, ms.2, tg, n, sg⟩).path = ns ∧ Nv ns := by
          intro tg n sg X e1 e2
          have hsp : Pt.spN (Pt.tg ns) = ns := hnv.sp.2
          refine ⟨?_, ?_, hsp, hnv⟩
          · unfold encL leafOf
            simp only
            rw [hsp, hlast, hlen, encP_app, a1, b1, c2, e1]
          · unfold okL leafOf
            simp only
            rw [hsp, hnv.nms2, e2, hfol]
            rfl
        by_cases ht1 : ty = 1
        · rw [if_pos ht1] at h
          cases h4 : dataR r3 with
          | error e => rw [h4] at h; cases h
          | ok x4 =>
            obtain ⟨dd, r4⟩ := x4
            rw [h4] at h
            cases h
            obtain ⟨e1, e2, e3, e4, e5⟩ := dataR_inv h4 hb3
            obtain ⟨k1, k2, k3, k4⟩ := key ⟨#[]⟩ dd.1 dd.2 r (by unfold encB; rw [if_pos ht1]; exact e1) (by
              unfold bodB typB datB tarB
              rw [if_pos ht1, if_neg (by omega), e3]
              simp [ht1, b2, b3, e2]
              rfl)
            exact ⟨k1, k2, k3, k4, e5, ⟨b4, b5, e4⟩⟩
        · rw [if_neg ht1] at h
          by_cases ht3 : ty = 3
          · rw [if_pos ht3] at h
            cases h4 : targetR r3 with
            | error e => rw [h4] at h; cases h
            | ok x4 =>
              obtain ⟨t, r4⟩ := x4
              rw [h4] at h
              cases h
              obtain ⟨e1, e2, e3, e4, e5⟩ := target_inv h4 hb3
              obtain ⟨k1, k2, k3, k4⟩ := key t 0 [] r (by unfold encB; rw [if_neg ht1, if_pos ht3, List.append_assoc]; exact e1) (by
                unfold bodB typB datB tarB
                rw [if_neg ht1, if_pos ht3, e4]
                simp [ht3, b2, b3, e2, e3, layD])
              exact ⟨k1, k2, k3, k4, e5, ⟨b4, b5, fun y hy => by cases hy⟩⟩
          · rw [if_neg ht3] at h
            cases h
            obtain ⟨k1, k2, k3, k4⟩ := key ⟨#[]⟩ 0 [] r (by unfold encB; rw [if_neg ht1, if_neg ht3]; rfl) (by
              unfold bodB typB datB tarB
              rw [if_neg ht1, if_neg ht3]
              have : ty = 2 := by omega
              simp [this, b2, b3, layD]
              rfl)
            exact ⟨k1, k2, k3, k4, hb3, ⟨b4, b5, fun y hy => by cases hy⟩⟩
theorem pieces_inv : ∀ (f : Nat) (a : Pc) (acc out : List Pc) (bs r : List Int), piecesL f a acc bs = .ok (out, r) → Byt bs → Nv a.names →
    ∃ ps, out = acc ++ ps ∧ bs = (ps.map leafOf).flatMap encL ++ (numL 1 255 ++ r) ∧ Chn a.names (a.ty == 2) (ps.map leafOf) ∧ Byt r ∧ ∀ p ∈ ps, Lok (leafOf p)
  | 0, a, acc, out, bs, r, h, _, _ => by rw [piecesL] at h; cases h
  | f + 1, a, acc, out, bs, r, h, hb, hn => by
    rw [piecesL] at h
    cases h1 : numR 1 bs with
    | error e => rw [h1] at h; cases h
    | ok x1 =>
      obtain ⟨d, r1⟩ := x1
      rw [h1] at h
      simp only at h
      obtain ⟨a1, a2, a3, hb1⟩ := num_inv h1 hb
      by_cases hd : d = 255
      · rw [if_pos hd] at h
        cases h
        exact ⟨[], by rw [List.append_nil], by rw [a1, hd]; rfl, trivial, hb1, fun _ h => by cases h⟩
      · rw [if_neg hd] at h
        by_cases hc : d < 64 ∧ d ≤ a.deep
        · rw [if_pos hc] at h
          cases h2 : pieceR a.names d.toNat r1 with
          | error e => rw [h2] at h; cases h
          | ok x2 =>
            obtain ⟨p, r2⟩ := x2
            rw [h2] at h
            simp only at h
            have hdp : a.deep = deepB a.names.length (a.ty == 2) := by
              unfold Pc.deep deepB
              by_cases h9 : a.ty = 2
              · rw [if_pos h9, if_pos (by rw [h9]; rfl)]
              · rw [if_neg h9, if_neg (by rw [beq_eq_false_iff_ne.2 h9]; decide)]
            have hle : a.deep ≤ a.names.length := by unfold Pc.deep; split <;> omega
            obtain ⟨m, rfl⟩ : ∃ m : Nat, d = (m : Int) := ⟨d.toNat, by omega⟩
            rw [Int.toNat_natCast] at h2
            obtain ⟨k1, k2, k3, k4, k5, k6⟩ := piece_inv h2 hb1 hn (by omega) (a.ty == 2) (by rw [← hdp]; exact hc.2)
            obtain ⟨ps, j1, j2, j3, j4, j5⟩ := pieces_inv f p (acc ++ [p]) out r2 r h k5 k4
            refine ⟨p :: ps, by rw [j1, List.append_assoc]; rfl, ?_, ⟨k2, ?_⟩, j4, fun y hy => by rcases List.mem_cons.1 hy with rfl | hy; exact k6; exact j5 y hy⟩
            · rw [List.map_cons, List.flatMap_cons, List.append_assoc, ← j2, a1, k1]
            · rw [k3]; exact j3
        · rw [if_neg hc] at h; cases h
theorem nv_nil2 : Nv [] := ⟨fun x hx => (by cases hx), (by simp), (by decide)⟩
/-- What is read is just what would be laid of it. -/
theorem open_pack {row : List Int} {ps : List Pc} (h : openR row = .ok ps) (hb : Byt row) : packM (ps.map leafOf) = .ok row ∧ ∀ p ∈ ps, Lok (leafOf p) := by
  unfold openR at h
  cases h1 : piecesR row with
  | error e => rw [h1] at h; cases h
  | ok x1 =>
    obtain ⟨l, r⟩ := x1
    rw [h1] at h
    simp only at h
    cases h2 : numR 4 r with
    | error e => rw [h2] at h; cases h
    | ok x2 =>
      obtain ⟨s, r2⟩ := x2
      rw [h2] at h
      simp only at h
      by_cases hs : s = ((sumL (nats (row.take (row.length - r.length))) : Nat) : Int)
      · rw [if_pos hs] at h
        by_cases hr2 : r2 = []
        · rw [if_pos hr2] at h
          cases h
          unfold piecesR at h1
          split at h1
          · rename_i h5
            cases h3 : modeR (row.drop 5) with
            | error e => rw [h3] at h1; cases h1
            | ok x3 =>
              obtain ⟨ms, r3⟩ := x3
              rw [h3] at h1
              simp only at h1
              obtain ⟨b1, b2, b3, b4, b5, hb2⟩ := mode_inv h3 (byt_drop hb 5)
              obtain ⟨qs, j1, j2, j3, j4, j5⟩ := pieces_inv _ _ _ _ _ _ h1 hb2 nv_nil2
              obtain ⟨k1, k2, k3, k4⟩ := num_inv h2 j4
              have hrow : row = headW (leafOf (rootP ms.1 ms.2)) ++ (qs.map leafOf).flatMap encL ++ numL 1 255 ++ r := by
                rw [← List.take_append_drop 5 row, h5, b1, j2]
                unfold headW leafOf rootP
                simp only
                rw [show numL 1 1 = [1] from rfl]
                simp only [List.append_assoc, List.cons_append, List.nil_append]
              have hr : r = numL 4 s := by rw [k1, hr2, List.append_nil]
              have htake : row.take (row.length - r.length) = headW (leafOf (rootP ms.1 ms.2)) ++ (qs.map leafOf).flatMap encL ++ numL 1 255 := by
                conv => lhs; rw [hrow]
                rw [List.length_append, Nat.add_sub_cancel, List.take_left' rfl]
              rw [htake] at hs
              have hlk : ∀ p ∈ ps, Lok (leafOf p) := by
                intro y hy
                rw [j1] at hy
                rcases List.mem_append.1 hy with hy | hy
                · rw [List.mem_singleton.1 hy]
                  exact ⟨b4, b5, fun y hy => by cases hy⟩
                · exact j5 y hy
              refine ⟨?_, hlk⟩
              clear hlk
              rw [j1, List.map_append, List.map_cons, List.map_nil]
              show packM (leafOf (rootP ms.1 ms.2) :: qs.map leafOf) = .ok row
              rw [pack_iff]
              refine ⟨?_, ?_, j3, ?_⟩
              · have h8 : (Pt.tg []).toList = [47] := by rw [Pt.toList_data]; rfl
                unfold rootB leafOf rootP
                simp only
                rw [h8]
                rfl
              · unfold bodB typB datB tarB leafOf rootP
                simp [b2, b3, layD]
                rfl
              · unfold sealW
                rw [← hs, ← hr]
                exact hrow
          · cases h1
        · rw [if_neg hr2] at h; cases h
      · rw [if_neg hs] at h; cases h
/-- Bytes as one number, the first lowest. -/
def wN : List Nat → Nat
  | [] => 0
  | b :: r => b + 256 * wN r
theorem lo_hi (b x : Nat) (h : b < 256) : b + 256 * x = b ^^^ 256 * x := by
  apply Nat.eq_of_testBit_eq
  intro i
  have h1 := Nat.testBit_two_pow_mul_add x (b := b) (i := 8) h i
  rw [Nat.add_comm, show 256 * x = 2 ^ 8 * x from rfl, h1, Nat.testBit_xor, Nat.testBit_two_pow_mul]
  by_cases hi : i < 8
  · rw [if_pos hi]
    have : decide (i ≥ 8) = false := decide_eq_false (by omega)
    rw [this]
    simp
  · rw [if_neg hi]
    have : decide (i ≥ 8) = true := decide_eq_true (by omega)
    rw [this]
    have hb : b.testBit i = false := Nat.testBit_lt_two_pow (Nat.lt_of_lt_of_le h (Nat.pow_le_pow_right (n := 2) (i := 8) (j := i) (by omega) (by omega)))
    rw [hb]
    simp
theorem mul_xor (k x y : Nat) : 2 ^ k * (x ^^^ y) = 2 ^ k * x ^^^ 2 ^ k * y := by
  apply Nat.eq_of_testBit_eq
  intro i
  rw [Nat.testBit_xor, Nat.testBit_two_pow_mul, Nat.testBit_two_pow_mul, Nat.testBit_two_pow_mul, Nat.testBit_xor]
  cases decide (i ≥ k) <;> rfl
theorem step8_shift (x : Nat) : stepN (256 * x) 8 = x := by
  rw [show (8 : Nat) = 4 + 4 from rfl, stepN_add, show 256 * x = 16 * (16 * x) by omega, step4_shift, step4_shift]
theorem run_w : ∀ (zs : List Nat) (r : Nat), (∀ z ∈ zs, z < 256) → zs.foldl crcB r = stepN (r ^^^ wN zs) (8 * zs.length)
  | [], r, _ => by rw [wN, Nat.xor_zero]; rfl
  | z :: zs, r, h => by
    rw [List.foldl_cons, run_w zs (crcB r z) (fun y hy => h y (List.mem_cons_of_mem _ hy)), List.length_cons, show 8 * (zs.length + 1) = 8 + 8 * zs.length by omega, stepN_add]
    congr 1
    unfold crcB
    rw [wN, lo_hi z _ (h z List.mem_cons_self), ← Nat.xor_assoc, stepN_xor (r ^^^ z), step8_shift]
theorem step1_nz (r : Nat) (h : r < 4294967296) (h0 : r ≠ 0) : step1 r ≠ 0 := by
  unfold step1
  split
  · intro e
    have h1 : r / 2 < 2 ^ 31 := by omega
    have h2 : (r / 2 ^^^ 3988292384).testBit 31 = true := by
      rw [Nat.testBit_xor, Nat.testBit_lt_two_pow h1]
      decide
    rw [e, Nat.zero_testBit] at h2
    cases h2
  · omega
theorem stepN_nz (r : Nat) (h : r < 4294967296) (h0 : r ≠ 0) : ∀ k, stepN r k ≠ 0
  | 0 => h0
  | k + 1 => step1_nz _ (stepN_lt r k h) (stepN_nz r h h0 k)
theorem step_shift (v : Nat) : ∀ a, stepN (2 ^ a * v) a = v
  | 0 => by rw [Nat.pow_zero, Nat.one_mul]; rfl
  | a + 1 => by
    rw [show a + 1 = 1 + a by omega, stepN_add]
    have : stepN (2 ^ (1 + a) * v) 1 = 2 ^ a * v := by
      have h1 : 2 ^ (1 + a) * v = 2 * (2 ^ a * v) := by rw [Nat.pow_add, Nat.pow_one, Nat.mul_assoc]
      rw [h1]
      show step1 (2 * (2 ^ a * v)) = _
      unfold step1
      rw [if_neg (by omega)]
      omega
    rw [this, step_shift v a]
theorem xor_self_left (a b : Nat) : a ^^^ (a ^^^ b) = b := by rw [← Nat.xor_assoc, Nat.xor_self, Nat.zero_xor]
/-- Bits within 32 neighbours turn the register. -/
theorem burst (zs ys : List Nat) (r v a : Nat) (hz : ∀ z ∈ zs, z < 256) (hy : ∀ z ∈ ys, z < 256) (hl : ys.length = zs.length) (hw : wN ys = wN zs ^^^ 2 ^ a * v) (hv : v < 4294967296) (h0 : v ≠ 0) (ha : a ≤ 8 * zs.length) : ys.foldl crcB r ≠ zs.foldl crcB r := by
  rw [run_w ys r hy, run_w zs r hz, hw, hl, ← Nat.xor_assoc, stepN_xor]
  intro e
  have h1 : stepN (2 ^ a * v) (8 * zs.length) = 0 := by
    have h2 := congrArg (fun x => stepN (r ^^^ wN zs) (8 * zs.length) ^^^ x) e
    rw [← xor_self_left (stepN (r ^^^ wN zs) (8 * zs.length)) (stepN (2 ^ a * v) (8 * zs.length))]
    exact h2.trans (Nat.xor_self _)
  obtain ⟨k, hk⟩ : ∃ k, 8 * zs.length = a + k := ⟨8 * zs.length - a, by omega⟩
  rw [hk, stepN_add, step_shift] at h1
  exact stepN_nz v hv h0 k h1
/-- A row with its own sum behind it leaves one register. -/
theorem sealed_run (zs : List Nat) (s : Nat) (hs : sumL zs = s) (l : List Nat) (hl : l.length = 4) (hlb : ∀ z ∈ l, z < 256) (hw : wN l = s) : (zs ++ l).foldl crcB 4294967295 = stepN 4294967295 32 := by
  rw [List.foldl_append, run_w l _ hlb, hl, hw, ← hs]
  show stepN (crcL zs ^^^ (crcL zs ^^^ 4294967295)) (8 * 4) = _
  rw [xor_self_left]
theorem wN_inj : ∀ (zs ys : List Nat), (∀ z ∈ zs, z < 256) → (∀ z ∈ ys, z < 256) → ys.length = zs.length → wN zs = wN ys → zs = ys
  | [], [], _, _, _, _ => rfl
  | z :: zs, y :: ys, hz, hy, hl, h => by
    have h1 := hz z List.mem_cons_self
    have h2 := hy y List.mem_cons_self
    rw [wN, wN] at h
    rw [List.length_cons, List.length_cons] at hl
    rw [wN_inj zs ys (fun x hx => hz x (List.mem_cons_of_mem _ hx)) (fun x hx => hy x (List.mem_cons_of_mem _ hx)) (by omega) (by omega), show z = y by omega]
theorem two_lt (s : Nat) (h : s < 8) : 2 ^ s < 256 := Nat.lt_of_lt_of_le (Nat.pow_lt_pow_right (by omega) h) (by decide)
/-- One bit turned. -/
theorem wN_flip : ∀ (zs : List Nat) (q s : Nat), (∀ z ∈ zs, z < 256) → q < zs.length → s < 8 → wN (zs.set q (zs.getD q 0 ^^^ 2 ^ s)) = wN zs ^^^ 2 ^ (8 * q + s)
  | z :: zs, 0, s, hz, _, hs => by
    have h1 := hz z List.mem_cons_self
    show wN ((z ^^^ 2 ^ s) :: zs) = _
    rw [wN, wN, lo_hi _ _ (Nat.xor_lt_two_pow (n := 8) h1 (two_lt s hs)), lo_hi z _ h1, Nat.mul_zero, Nat.zero_add, Nat.xor_assoc, Nat.xor_assoc, Nat.xor_comm (2 ^ s)]
  | z :: zs, q + 1, s, hz, hq, hs => by
    have h1 := hz z List.mem_cons_self
    have ih := wN_flip zs q s (fun x hx => hz x (List.mem_cons_of_mem _ hx)) (by simpa using hq) hs
    show wN (z :: zs.set q (zs.getD q 0 ^^^ 2 ^ s)) = _
    rw [wN, wN, ih, lo_hi z _ h1, lo_hi z _ h1, Nat.xor_assoc]
    congr 1
    rw [show 8 * (q + 1) + s = 8 + (8 * q + s) by omega, Nat.pow_add 2 8]
    exact mul_xor 8 _ _
theorem bits_step (b i : Nat) : b % 2 ^ (i + 1) = if b / 2 ^ i % 2 = 1 then (b % 2 ^ i) ^^^ 2 ^ i else b % 2 ^ i := by
  have hm := Nat.mod_pow_succ (b := 2) (k := i) (x := b)
  have hp : 0 < 2 ^ i := Nat.two_pow_pos i
  have hlt := Nat.mod_lt b hp
  rcases Nat.mod_two_eq_zero_or_one (b / 2 ^ i) with h | h
  · rw [if_neg (by omega), hm, h]; omega
  · rw [if_pos h, hm, h, Nat.mul_one]
    apply Nat.eq_of_testBit_eq
    intro j
    have h1 := Nat.testBit_two_pow_mul_add 1 (b := b % 2 ^ i) (i := i) hlt j
    rw [Nat.mul_one] at h1
    rw [Nat.add_comm, h1, Nat.testBit_xor, Nat.testBit_two_pow]
    by_cases hj : j < i
    · rw [if_pos hj]
      have : decide (i = j) = false := decide_eq_false (by omega)
      rw [this]
      simp
    · rw [if_neg hj]
      have hb : (b % 2 ^ i).testBit j = false := Nat.testBit_lt_two_pow (Nat.lt_of_lt_of_le hlt (Nat.pow_le_pow_right (by omega) (by omega)))
      rw [hb]
      by_cases hij : i = j
      · subst hij; simp
      · have : decide (i = j) = false := decide_eq_false hij
        rw [this]
        have h9 : Nat.testBit 1 (j - i) = false := Nat.testBit_lt_two_pow (Nat.lt_of_lt_of_le (by decide) (Nat.pow_le_pow_right (n := 2) (i := 1) (j := j - i) (by omega) (by omega)))
        rw [h9]
        rfl
theorem nats_app (a b : List Int) : nats (a ++ b) = nats a ++ nats b := by unfold nats; rw [List.map_append]
theorem nats_len (a : List Int) : (nats a).length = a.length := by unfold nats; rw [List.length_map]
theorem wN_le4 (n : Nat) (h : n < 4294967296) : wN (nats (le4 n)) = n := by
  show wN [(((n % 256 : Nat) : Int)).toNat, (((n / 256 % 256 : Nat) : Int)).toNat, (((n / 65536 % 256 : Nat) : Int)).toNat, (((n / 16777216 % 256 : Nat) : Int)).toNat] = n
  simp only [wN, Int.toNat_natCast]
  omega
/-- A row that Pack lays leaves one register. -/
theorem pack_run {es : List Lf} {row : List Int} (h : packM es = .ok row) (hb : Byt row) : (nats row).foldl crcB 4294967295 = stepN 4294967295 32 := by
  cases es with
  | nil => cases h
  | cons l r =>
    obtain ⟨-, -, -, h4⟩ := (pack_iff l r row).1 h
    unfold sealW at h4
    obtain ⟨Y, hY⟩ : ∃ Y, headW l ++ r.flatMap encL ++ numL 1 255 = Y := ⟨_, rfl⟩
    rw [hY] at h4
    have hby : Byt Y := fun x hx => hb x (by rw [h4]; exact List.mem_append_left _ hx)
    have hs := sumL_lt hby
    rw [h4, nats_app, le4_num]
    refine sealed_run (nats Y) (sumL (nats Y)) rfl _ rfl ?_ (wN_le4 _ hs)
    refine nats_lt ?_
    rw [← le4_num]
    exact numL_byt _ _
/-- A row with some bits turned is none. -/
theorem burst_no {es : List Lf} {row row' : List Int} (h : packM es = .ok row) (hb : Byt row) (hb' : Byt row') (hl : row'.length = row.length) (v a : Nat) (hw : wN (nats row') = wN (nats row) ^^^ 2 ^ a * v) (hv : v < 4294967296) (h0 : v ≠ 0) (ha : a ≤ 8 * row.length) (ps : List Pc) (ho : openR row' = .ok ps) : False := by
  have h1 := pack_run h hb
  have h2 := pack_run (open_pack ho hb').1 hb'
  refine burst (nats row) (nats row') 4294967295 v a (nats_lt hb) (nats_lt hb') (by rw [nats_len, nats_len, hl]) hw hv h0 (by rw [nats_len]; exact ha) ?_
  rw [h1, h2]
/-- One bit of a row turned. -/
def flI (xs : List Int) (p : Nat) : List Int := xs.set (p / 8) (((xs.getD (p / 8) 0).toNat ^^^ 2 ^ (p % 8) : Nat) : Int)
/-- Some bits turned, as far as it has been done. -/
def flF (xs : List Int) (k b : Nat) : Nat → List Int
  | 0 => xs
  | i + 1 => if b / 2 ^ i % 2 = 1 then flI (flF xs k b i) (k + i) else flF xs k b i
theorem flI_len (xs : List Int) (p : Nat) : (flI xs p).length = xs.length := by unfold flI; rw [List.length_set]
theorem flF_len (xs : List Int) (k b : Nat) : ∀ i, (flF xs k b i).length = xs.length
  | 0 => rfl
  | i + 1 => by
    rw [flF]
    split
    · rw [flI_len, flF_len xs k b i]
    · exact flF_len xs k b i
theorem get_byt {xs : List Int} (h : Byt xs) (q : Nat) : 0 ≤ xs.getD q 0 ∧ xs.getD q 0 ≤ 255 := by
  rw [List.getD_eq_getElem?_getD]
  cases hq : xs[q]? with
  | none => exact ⟨Int.le_refl _, by decide⟩
  | some y => exact h y (List.mem_of_getElem? hq)
theorem fl_byte {xs : List Int} (h : Byt xs) (q s : Nat) (hs : s < 8) : (xs.getD q 0).toNat ^^^ 2 ^ s < 256 := by
  have := get_byt h q
  exact Nat.xor_lt_two_pow (n := 8) (by omega) (two_lt s hs)
theorem flI_byt {xs : List Int} (h : Byt xs) (p : Nat) : Byt (flI xs p) := by
  intro x hx
  unfold flI at hx
  rcases List.mem_or_eq_of_mem_set hx with hx | hx
  · exact h x hx
  · have := fl_byte h (p / 8) (p % 8) (by omega)
    omega
theorem flF_byt {xs : List Int} (h : Byt xs) (k b : Nat) : ∀ i, Byt (flF xs k b i)
  | 0 => h
  | i + 1 => by
    rw [flF]
    split
    · exact flI_byt (flF_byt h k b i) _
    · exact flF_byt h k b i
theorem flI_w {xs : List Int} (h : Byt xs) (p : Nat) (hp : p < 8 * xs.length) : wN (nats (flI xs p)) = wN (nats xs) ^^^ 2 ^ p := by
  have h1 := wN_flip (nats xs) (p / 8) (p % 8) (nats_lt h) (by rw [nats_len]; omega) (by omega)
  rw [show 8 * (p / 8) + p % 8 = p by omega] at h1
  rw [← h1]
  unfold flI nats
  rw [List.map_set]
  congr 2
  rw [List.getD_eq_getElem?_getD, List.getD_eq_getElem?_getD, List.getElem?_map]
  rw [Int.toNat_natCast]
  cases xs[p / 8]? <;> rfl
theorem flF_w {xs : List Int} (h : Byt xs) (k b : Nat) : ∀ i, k + i ≤ 8 * xs.length → wN (nats (flF xs k b i)) = wN (nats xs) ^^^ 2 ^ k * (b % 2 ^ i)
  | 0, _ => by rw [flF, Nat.pow_zero, Nat.mod_one, Nat.mul_zero, Nat.xor_zero]
  | i + 1, hi => by
    have ih := flF_w h k b i (by omega)
    rw [flF, bits_step]
    by_cases hb : b / 2 ^ i % 2 = 1
    · rw [if_pos hb, if_pos hb, flI_w (flF_byt h k b i) (k + i) (by rw [flF_len]; omega), ih, Nat.xor_assoc, mul_xor, Nat.pow_add]
    · rw [if_neg hb, if_neg hb, ih]
/-- Nothing turned, or the row is another. -/
theorem flF_same {xs : List Int} (h : Byt xs) (k b i : Nat) (hi : k + i ≤ 8 * xs.length) : (b % 2 ^ i = 0 → flF xs k b i = xs) ∧ (b % 2 ^ i ≠ 0 → flF xs k b i ≠ xs) := by
  have hw := flF_w h k b i hi
  constructor
  · intro h0
    rw [h0, Nat.mul_zero, Nat.xor_zero] at hw
    have h1 := wN_inj (nats (flF xs k b i)) (nats xs) (nats_lt (flF_byt h k b i)) (nats_lt h) (by rw [nats_len, nats_len, flF_len]) hw
    refine List.ext_getElem (flF_len xs k b i) ?_
    intro j h2 h3
    have h4 := congrArg (fun l => l[j]?) h1
    unfold nats at h4
    simp only [List.getElem?_map, List.getElem?_eq_getElem h2, List.getElem?_eq_getElem h3, Option.map_some, Option.some.injEq] at h4
    have h5 := flF_byt h k b i _ (List.getElem_mem h2)
    have h6 := h _ (List.getElem_mem h3)
    omega
  · intro h0 he
    rw [he] at hw
    have h1 : 2 ^ k * (b % 2 ^ i) = 0 := by
      have h2 := congrArg (fun x => wN (nats xs) ^^^ x) hw
      rw [← xor_self_left (wN (nats xs)) (2 ^ k * (b % 2 ^ i))]
      exact h2.symm.trans (Nat.xor_self _)
    rcases Nat.mul_eq_zero.1 h1 with h2 | h2
    · have := Nat.two_pow_pos k; omega
    · exact h0 h2
theorem openR_er {bs : List Int} {x : Int} (h : openR bs = .error x) : Er x := by
  unfold openR at h
  split at h
  · rename_i h1; cases h; exact piecesR_er h1
  · split at h
    · rename_i h1; cases h; exact numR_er h1
    · split at h
      · split at h
        · cases h
        · cases h; exact er0
      · cases h; exact er2
theorem same_ne (a a' : Option Addr) (n n' c c' : Nat) (xs ys : List Int) (w : World) (h : Reads w a n xs) (h' : Reads w a' n' ys) (hne : xs ≠ ys) :
    Calls Tryz.prog 7 #[.slice a n c, .slice a' n' c'] w fun e w' => e = .returned (.bool false) ∧ w' = w := by
  have e1 := conv a n c xs w h
  have e2 := conv a' n' c' ys w h'
  have hq : ((strOfNums xs).toList == (strOfNums ys).toList) = false := by
    rw [beq_eq_false_iff_ne]
    intro h9
    have h8 := Pt.toList_inj h9
    have h7 := congrArg numsS h8
    rw [nums_str h.2.1, nums_str h'.2.1] at h7
    exact hne h7
  clear h h' hne
  go_enter Tryz.func7, Tryz.ntmps7
  go_wp2
  go_ret
  exact ⟨by simp, rfl⟩
theorem own_all_reads {u : World} {B g l cp : Nat} {xs : List Int} (h : Own u B g l cp xs) (hb : Byt xs) : Reads u (some ⟨g, 0, none⟩) l xs := by
  have hl : xs.length = l := h.len
  have hr := h.reads hb l (Nat.le_refl _)
  rw [List.take_of_length_le (by omega)] at hr
  exact hr
theorem bit32 (b i : Nat) (hb : b < 4294967296) : bits .and .u32 ((b : Int) / 2 ^ i) 1 = ((b / 2 ^ i % 2 : Nat) : Int) := by
  have h1 : (b : Int) / 2 ^ i = ((b / 2 ^ i : Nat) : Int) := by rw [Int.natCast_ediv, Int.natCast_pow]; rfl
  have h2 := u32_and_nat (b / 2 ^ i) 1 (Nat.lt_of_le_of_lt (Nat.div_le_self _ _) hb) (by decide)
  rw [h1]
  rw [Nat.and_one_is_mod] at h2
  exact h2
theorem bit_shl : ∀ s : Nat, s < 8 → IntKind.u8.wrap ((2 : Int) ^ s) = ((2 ^ s : Nat) : Int) := by decide +kernel

set_option maxHeartbeats 2000000 in
set_option maxRecDepth 100000 in
theorem burst_err (v : Value) (es : List Le) (z y x : Int) (w : World) (h : RdL w w.heap.size v es) (hT : Tab w) (hsz : szL (es.map Le.l) ≤ 38000000000000) (hp : packM (es.map Le.l) = .error x) :
    Calls Tryz.prog 3 #[v, .int .i64 z, .int .u32 y] w fun e w' => e = .returned (.bool true) ∧ Below w.heap.size w w' := by
  have hx := packM_err _ _ hp
  have HT := hide hT
  have HP := hide hp
  have HR := hide h
  have HZ := hide hsz
  obtain ⟨a, c, rfl, _⟩ := h.shape
  clear hT hp h hsz
  go_enter Tryz.func3, Tryz.ntmps3
  go_wp2_with (first
      | (go_at_call 4; refine (heads_any _ HT.out).mono ?_; rintro e u0 ⟨rfl, hb0⟩; have HB0 := hide hb0; clear hb0)
      | (go_at_call 6; refine (lno_any _ _).mono ?_; rintro e u9 ⟨rfl, rfl⟩)
      | (go_at_call 5; refine (pack_any _ es _ (HR.out.up HB0.out) HZ.out (HT.out.below HB0.out)).mono ?_; rintro e u1 ⟨hv, hb1⟩
         rw [HP.out] at hv
         have hv2 : e = .returned (.tuple #[.slice none 0 0, .int .i64 x]) := hv
         subst hv2
         have HB1 := hide (bel_up HB0.out hb1 HB0.out.size)
         clear hv hb1))
  go_ret
  exact ⟨rfl, HB1.out⟩

set_option maxHeartbeats 2000000 in
set_option maxRecDepth 100000 in
theorem burst_far (v : Value) (es : List Le) (row : List Int) (z y : Int) (w : World) (h : RdL w w.heap.size v es) (hT : Tab w) (hsz : szL (es.map Le.l) ≤ 38000000000000) (hp : packM (es.map Le.l) = .ok row) (hms : row.length ≤ 4194300) (hz : z < 0 ∨ (0 ≤ z ∧ 8 * (row.length : Int) ≤ z)) :
    Calls Tryz.prog 3 #[v, .int .i64 z, .int .u32 y] w fun e w' => e = .returned (.bool true) ∧ Below w.heap.size w w' := by
  obtain ⟨m, hm⟩ : ∃ m, row.length = m := ⟨_, rfl⟩
  have HT := hide hT
  obtain ⟨a, c, hv, -⟩ := h.shape
  obtain ⟨n, hn⟩ : ∃ n, es.length = n := ⟨_, rfl⟩
  have HPK := fun (u : World) (hb : Below w.heap.size w u) => bk_packed w u v es row h hT hb hp hsz
  rw [hv, hn, hm] at HPK
  rw [hm] at hz hms
  rw [hv, hn]
  have HPK := hide HPK
  have q2 : IntKind.i64.wrap (8 * (m : Int)) = 8 * (m : Int) := by rw [IntKind.wrap_i64]; omega
  clear hT hp h hsz hm hn hv
  go_enter Tryz.func3, Tryz.ntmps3
  rcases hz with k1 | ⟨k2, k3⟩
  · go_wp2_with (first
      | (go_at_call 4; refine (heads_any _ HT.out).mono ?_; rintro e u0 ⟨rfl, hb0⟩; have HB0 := hide hb0; clear hb0)
      | (go_at_call 6; refine (lno_any _ _).mono ?_; rintro e u9 ⟨rfl, rfl⟩)
      | (go_at_call 5; refine (HPK.out _ HB0.out).mono ?_; rintro e u1 ⟨g, cap, rfl, hs⟩
         have HS := hide hs
         clear hs HPK HB0))
    go_ret
    exact ⟨rfl, HS.out.below⟩
  · have k1 : ¬ z < 0 := by omega
    go_wp2_with (first
      | (go_at_call 4; refine (heads_any _ HT.out).mono ?_; rintro e u0 ⟨rfl, hb0⟩; have HB0 := hide hb0; clear hb0)
      | (go_at_call 6; refine (lno_any _ _).mono ?_; rintro e u9 ⟨rfl, rfl⟩)
      | (go_at_call 5; refine (HPK.out _ HB0.out).mono ?_; rintro e u1 ⟨g, cap, rfl, hs⟩
         have HS := hide hs
         clear hs HPK HB0))
    go_ret
    exact ⟨rfl, HS.out.below⟩
set_option maxHeartbeats 4000000 in
set_option maxRecDepth 100000 in
theorem burst_in (v : Value) (es : List Le) (row : List Int) (k b : Nat) (w : World) (h : RdL w w.heap.size v es) (hT : Tab w) (hsz : szL (es.map Le.l) ≤ 38000000000000) (hp : packM (es.map Le.l) = .ok row) (hms : row.length ≤ 4194300) (hk : k < 8 * row.length) (hb : b < 4294967296) :
    Calls Tryz.prog 3 #[v, .int .i64 (k : Int), .int .u32 (b : Int)] w fun e w' => e = .returned (.bool true) ∧ Below w.heap.size w w' := by
  obtain ⟨m, hm⟩ : ∃ m, row.length = m := ⟨_, rfl⟩
  have HT := hide hT
  have HP := hide hp
  have HM := hide hm
  have HBY := hide (pack_open _ _ hp h.lok).1
  obtain ⟨a, c, hv, -⟩ := h.shape
  obtain ⟨n, hn⟩ : ∃ n, es.length = n := ⟨_, rfl⟩
  have HPK := fun (u : World) (hb : Below w.heap.size w u) => bk_packed w u v es row h hT hb hp hsz
  rw [hv, hn, hm] at HPK
  rw [hm] at hms hk
  rw [hv, hn]
  have HPK := hide HPK
  have q2 : IntKind.i64.wrap (8 * (m : Int)) = ((8 * m : Nat) : Int) := by rw [IntKind.wrap_i64]; omega
  have k0 : ¬ (k : Int) < 0 := by omega
  have k1 : ¬ ((8 * m : Nat) : Int) ≤ (k : Int) := by omega
  have TA : Hid True := trivial
  clear hT hp h hsz hm hn hv
  go_enter Tryz.func3, Tryz.ntmps3
  go_wp2_with (first
      | (go_at_call 4; refine (heads_any _ HT.out).mono ?_; rintro e u0 ⟨rfl, hb0⟩; have HB0 := hide hb0; clear hb0)
      | (go_at_call 6; refine (lno_any _ _).mono ?_; rintro e u9 ⟨rfl, rfl⟩)
      | (go_at_call 5; refine (HPK.out _ HB0.out).mono ?_; rintro e u1 ⟨g, cap, rfl, hs⟩
         have HS := hide hs
         clear hs HPK HB0)
      | (at_builtin; have zz := TA; clear TA zz; refine wpList_append_reads rfl (.tmp 34) (.tmp 35) rfl u9.heap.size (.slice (some ⟨u9.heap.size, 0, none⟩) 0 0) 0 [] rfl (own_nought u9 u9.heap.size rfl) (some ⟨g, 0, none⟩) m cap row rfl (HS.out.row.below (below_alloc _ _)) (by omega) (by simp) ?_; intro v1 t1 own1 grow1; simp only [Nat.zero_add, List.nil_append] at own1; obtain ⟨g1, c1, rfl, hc11, hc12, hg11, hg12⟩ := own_shape own1 (by omega)
         have HG1 : Hid (Below u9.heap.size u9 t1) := (below_alloc u9 _).grown grow1 (by simp) (fun q hq => ((own_nought u9 u9.heap.size rfl).lt q hq).1)
         have HO1 : Hid (Own t1 u9.heap.size g1 m c1 row) := own1
         have HC1 : Hid (m ≤ c1 ∧ c1 ≤ 9223372036854775807) := ⟨hc11, hc12⟩
         have HL1 : Hid (u9.heap.size ≤ g1) := hg11
         clear own1 grow1 hc11 hc12 hg11 hg12))
  have z1 : decide (8 * (m : Int) ≤ (k : Int)) = false := decide_eq_false (by omega)
  have z2 : decide ((k : Int) < 0) = false := decide_eq_false (by omega)
  simp only [z1, z2, Bool.or_self]
  clear z1 z2
  go_loopw [10] (fun s10 wr => ∃ i : Nat, i ≤ 32 ∧ k + i ≤ 8 * m ∧ s10 = .int .i64 (i : Int) ∧ Hid (Own wr u9.heap.size g1 m c1 (flF row k b i) ∧ Below u9.heap.size u9 wr)) (fun s10 _ => 32 - (intOf s10).toNat)
  case atStart => exact ⟨0, by omega, by omega, rfl, ⟨HO1.out, HG1.out⟩⟩
  case round =>
    obtain ⟨i, hi, hki, rfl, HREL⟩ := hrel
    have HO := hide HREL.out.1
    have HG := hide HREL.out.2
    clear HREL HO1 HG1
    have q3 : IntKind.i64.wrap ((k : Int) + (i : Int)) = ((k + i : Nat) : Int) := by rw [IntKind.wrap_i64]; omega
    by_cases hlt : i < 32 ∧ k + i < 8 * m
    · have l1 : (i : Int) < 32 := by omega
      have l2 : ((k + i : Nat) : Int) < ((8 * m : Nat) : Int) := by omega
      have l3 : (0 : Int) ≤ (i : Int) := by omega
      have l4 : (i : Int) ≤ 32 := by omega
      have hbit := bit32 b i hb
      obtain ⟨t, ht⟩ : ∃ t, b / 2 ^ i % 2 = t := ⟨_, rfl⟩
      rw [ht] at hbit
      have ht2 : t = 0 ∨ t = 1 := by omega
      rcases ht2 with rfl | rfl
      · have HF : Hid (flF row k b (i + 1) = flF row k b i) := by unfold Hid; rw [flF, if_neg (by omega)]
        clear ht
        go_wp2
        go_roundw
        case rel => exact ⟨i + 1, by omega, by omega, by go_num, by rw [HF.out]; exact ⟨HO.out, HG.out⟩⟩
        case measure => simp [intOf]; omega
      · obtain ⟨P, hP⟩ : ∃ P, (k + i) / 8 = P := ⟨_, rfl⟩
        obtain ⟨s, hs⟩ : ∃ s, (k + i) % 8 = s := ⟨_, rfl⟩
        have hfb := get_byt (flF_byt HBY.out k b i) P
        obtain ⟨x, hx⟩ : ∃ x : Nat, ((flF row k b i).getD P 0).toNat = x := ⟨_, rfl⟩
        have hx2 : (flF row k b i).getD P 0 = (x : Int) := by omega
        have hs8 : s < 8 := by omega
        have hPm : P < m := by omega
        have HF : Hid (flF row k b (i + 1) = (flF row k b i).set P ((x ^^^ 2 ^ s : Nat) : Int)) := by unfold Hid; rw [flF, if_pos ht]; unfold flI; rw [hP, hs, hx]
        have hsh := bit_shl s hs8
        rw [IntKind.wrap_u8] at hsh
        have he256 := two_lt s hs8
        obtain ⟨E, hE⟩ : ∃ E : Nat, 2 ^ s = E := ⟨_, rfl⟩
        rw [hE] at hsh he256 HF
        have hxr : bits .xor .u8 (x : Int) (E : Int) = ((x ^^^ E : Nat) : Int) := u8_xor_nat x E (by omega) he256
        obtain ⟨Y, hY⟩ : ∃ Y : Nat, x ^^^ E = Y := ⟨_, rfl⟩
        rw [hY] at hxr HF
        have d1 : ((k + i : Nat) : Int).tdiv 8 = (P : Int) := by rw [Int.tdiv_eq_ediv_of_nonneg (by omega)]; omega
        have d2 : ((k + i : Nat) : Int) / 8 = (P : Int) := by omega
        have d3 : ((k + i : Nat) : Int).tmod 8 = (s : Int) := by rw [Int.tmod_eq_emod_of_nonneg (by omega)]; omega
        have d4 : ((k + i : Nat) : Int) % 8 = (s : Int) := by omega
        have d5 : IntKind.i64.wrap (P : Int) = (P : Int) := by rw [IntKind.wrap_i64]; omega
        have d6 : IntKind.i64.wrap (s : Int) = (s : Int) := by rw [IntKind.wrap_i64]; omega
        have d7 : (0 : Int) ≤ (P : Int) := by omega
        have d8 : (P : Int) < (m : Int) := by omega
        have d9 : (0 : Int) ≤ (s : Int) := by omega
        have d10 : (s : Int) ≤ 8 := by omega
        have hcl : wr.cell? ⟨g1, P, none⟩ = some (.int .u8 (x : Int)) := by
          have h9 := (own_all_reads HO.out (flF_byt HBY.out k b i)).2.2.2 _ rfl P hPm
          rw [plain_add, Nat.zero_add, hx2] at h9
          exact h9
        have hfz : wr.frozen? ⟨g1, P, none⟩ = false := World.ownsRow.frozenAt HO.out P
        have hst := HO.out.set P (Y : Int)
        have HN : Hid (Own ((wr.setCell ⟨g1, P, none⟩ (.int .u8 (Y : Int))).drew) u9.heap.size g1 m c1 (flF row k b (i + 1)) ∧ Below u9.heap.size u9 ((wr.setCell ⟨g1, P, none⟩ (.int .u8 (Y : Int))).drew)) := by
          unfold Hid
          rw [HF.out]
          exact ⟨hst.1.below ((Below.refl _ _).drew), (HG.out.grown hst.2 HG.out.size (fun q hq => by cases hq; exact HL1.out)).drew⟩
        clear ht hx hx2 hE hY hfb hst
        go_wp2
        go_region
        go_wp2
        go_roundw
        case rel => exact ⟨i + 1, by omega, by omega, by go_num, HN.out⟩
        case measure => simp [intOf]; omega
    · have hlen : row.length = m := HM.out
      have hws := flF_same HBY.out k b i (by rw [hlen]; omega)
      have hww := flF_w HBY.out k b i (by rw [hlen]; omega)
      have HRB := hide (HS.out.row.below HG.out)
      have HRN := hide (own_all_reads HO.out (flF_byt HBY.out k b i))
      have HLT : Hid (g1 < wr.heap.size) := by
        obtain ⟨g', c', he', -, -, -, h9⟩ := own_shape HO.out (by omega)
        cases he'
        exact h9
      have HTR : Hid (Tab wr) := HS.out.tab.below HG.out
      have HBW : Hid (Below w.heap.size w wr) := bel_up HS.out.below HG.out HS.out.below.size
      have hcond : ¬ (i : Int) < 32 ∨ ((i : Int) < 32 ∧ ¬ (k : Int) + (i : Int) < 8 * (m : Int)) := by omega
      by_cases hV : b % 2 ^ i = 0
      · have h9 := HRN.out
        rw [hws.1 hV] at h9
        have HRE := hide h9
        clear h9 hws hww
        rcases hcond with l1 | ⟨l1, l2⟩
        · go_wp2_with (first
            | (go_at_call 7; refine (same_eq _ _ _ _ _ _ _ HRE.out HRB.out).mono ?_; rintro e u5 ⟨rfl, rfl⟩))
          go_ret
          exact ⟨rfl, HBW.out⟩
        · go_wp2_with (first
            | (go_at_call 7; refine (same_eq _ _ _ _ _ _ _ HRE.out HRB.out).mono ?_; rintro e u5 ⟨rfl, rfl⟩))
          go_ret
          exact ⟨rfl, HBW.out⟩
      · have HNE := hide (hws.2 hV)
        obtain ⟨x, hx⟩ : ∃ x, openR (flF row k b i) = .error x := by
          cases ho : openR (flF row k b i) with
          | error x => exact ⟨x, rfl⟩
          | ok ps =>
            exact absurd (burst_no HP.out HBY.out (flF_byt HBY.out k b i) (flF_len _ _ _ _) (b % 2 ^ i) k hww (Nat.lt_of_le_of_lt (Nat.mod_le _ _) hb) hV (by rw [hlen]; omega) ps ho) id
        have hxne := (openR_er hx).ne
        have hxb : (x != 0) = true := by simp [hxne]
        have HRO := hide hx
        clear hx hws hww
        rcases hcond with l1 | ⟨l1, l2⟩
        · go_wp2_with (first
            | (go_at_call 7; refine (same_ne _ _ _ _ _ _ _ _ _ HRN.out HRB.out HNE.out).mono ?_; rintro e u5 ⟨rfl, hu5⟩; rw [hu5]; clear hu5)
            | (go_at_call 8; refine (rlarge_any g1 0 m c1 _ _ HRN.out HLT.out (by omega) HC1.out.1 HC1.out.2).mono ?_; rintro e u6 ⟨⟨z6, rfl⟩, b6⟩
               have HB6 := hide b6
               clear b6)
            | (go_at_call 9; refine (read_any g1 0 m c1 _ _ (HRN.out.below HB6.out) (Nat.lt_of_lt_of_le HLT.out HB6.out.size) (by omega) HC1.out.1 HC1.out.2 (HTR.out.below HB6.out)).mono ?_; rintro e u7 ⟨hv, b7⟩
               rw [HRO.out] at hv
               have hv2 : e = .returned (.tuple #[.slice none 0 0, .int .i64 x]) := hv
               subst hv2
               have HB7 := hide b7
               clear hv b7)
            | (go_at_call 6; refine (lno_any _ _).mono ?_; rintro e u8 ⟨rfl, rfl⟩))
          · go_ret
            exact ⟨rfl, bel_up HBW.out HB6.out HBW.out.size⟩
          · go_ret
            exact ⟨rfl, bel_up (bel_up HBW.out HB6.out HBW.out.size) HB7.out (bel_up HBW.out HB6.out HBW.out.size).size⟩
        · go_wp2_with (first
            | (go_at_call 7; refine (same_ne _ _ _ _ _ _ _ _ _ HRN.out HRB.out HNE.out).mono ?_; rintro e u5 ⟨rfl, hu5⟩; rw [hu5]; clear hu5)
            | (go_at_call 8; refine (rlarge_any g1 0 m c1 _ _ HRN.out HLT.out (by omega) HC1.out.1 HC1.out.2).mono ?_; rintro e u6 ⟨⟨z6, rfl⟩, b6⟩
               have HB6 := hide b6
               clear b6)
            | (go_at_call 9; refine (read_any g1 0 m c1 _ _ (HRN.out.below HB6.out) (Nat.lt_of_lt_of_le HLT.out HB6.out.size) (by omega) HC1.out.1 HC1.out.2 (HTR.out.below HB6.out)).mono ?_; rintro e u7 ⟨hv, b7⟩
               rw [HRO.out] at hv
               have hv2 : e = .returned (.tuple #[.slice none 0 0, .int .i64 x]) := hv
               subst hv2
               have HB7 := hide b7
               clear hv b7)
            | (go_at_call 6; refine (lno_any _ _).mono ?_; rintro e u8 ⟨rfl, rfl⟩))
          · go_ret
            exact ⟨rfl, bel_up HBW.out HB6.out HBW.out.size⟩
          · go_ret
            exact ⟨rfl, bel_up (bel_up HBW.out HB6.out HBW.out.size) HB7.out (bel_up HBW.out HB6.out HBW.out.size).size⟩
theorem burstWalk (v : Value) (es : List Le) (z y : Int) (w : World) (h : RdL w w.heap.size v es) (hsum : 22 * ((es.map Le.l).map wt).sum ≤ 23068672) (hy : 0 ≤ y ∧ y ≤ 4294967295) (hT : Tab w) :
    Calls Tryz.prog 3 #[v, .int .i64 z, .int .u32 y] w fun e w' => e = .returned (.bool true) ∧ Below w.heap.size w w' := by
  have h1 := sz_wt (es.map Le.l)
  have hsz : szL (es.map Le.l) ≤ 38000000000000 := by omega
  cases hp : packM (es.map Le.l) with
  | error x => exact burst_err v es z y x w h hT hsz hp
  | ok row =>
    have h2 := pack_most _ _ hp
    have h3 := most_wt (es.map Le.l)
    have h4 := mostS_tail (es.map Le.l)
    have hms : row.length ≤ 4194300 := by omega
    by_cases k0 : z < 0
    · exact burst_far v es row z y w h hT hsz hp hms (Or.inl k0)
    · by_cases k1 : 8 * (row.length : Int) ≤ z
      · exact burst_far v es row z y w h hT hsz hp hms (Or.inr ⟨by omega, k1⟩)
      · obtain ⟨k, rfl⟩ : ∃ k : Nat, z = (k : Int) := ⟨z.toNat, by omega⟩
        obtain ⟨b, rfl⟩ : ∃ b : Nat, y = (b : Int) := ⟨y.toNat, by omega⟩
        exact burst_in v es row k b w h hT hsz hp hms (by omega) (by omega)
end Go.Proofs.YtdiifegljonojabGreatDoor
