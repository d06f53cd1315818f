/-
  SEAT YtdiifegljonojaaGreatDoor: Zb, of several texts.
-/
import Derived.Test.YtdiifegljonojaaGreatDoorSd
import Derived.Test.YtdiifegljonojaaGreatDoorXi
import Derived.Test.YtdiifegljonojaaGreatDoorSp
namespace Go.Proofs.YtdiifegljonojaaGreatDoor
open Go.RowKit
set_option linter.unusedVariables false

namespace Fw
variable {α : Type} {lt : α → α → Prop}
/-- One list of names comes right behind another. -/
def Stp (lt : α → α → Prop) (p n : List α) : Prop := 1 ≤ n.length ∧ n.length - 1 ≤ p.length ∧ n.take (n.length - 1) = p.take (n.length - 1) ∧ (n.length - 1 = p.length ∨ ∃ x y, p[n.length - 1]? = some x ∧ n[n.length - 1]? = some y ∧ lt x y)
/-- It lies above, off the road. -/
def Gt (lt : α → α → Prop) (a n : List α) : Prop := ∃ d x y, n.take d = a.take d ∧ a[d]? = some x ∧ n[d]? = some y ∧ lt x y
/-- It lies in that place. -/
def Pr (a n : List α) : Prop := a.length < n.length ∧ n.take a.length = a
theorem some_lt {l : List α} {d : Nat} {x : α} (h : l[d]? = some x) : d < l.length := (List.getElem?_eq_some_iff.1 h).1
theorem take_less {l m : List α} {d e : Nat} (h : l.take d = m.take d) (he : e ≤ d) : l.take e = m.take e := by
  have := congrArg (List.take e) h
  rwa [List.take_take, List.take_take, Nat.min_eq_left he] at this
theorem at_eq {l m : List α} {d e : Nat} (h : l.take d = m.take d) (he : e < d) : l[e]? = m[e]? := by
  have := congrArg (·[e]?) h
  simpa [List.getElem?_take, he] using this
theorem gt_step (tr : ∀ x y z, lt x y → lt y z → lt x z) {a p n : List α} (h : Stp lt p n) (hg : Gt lt a p) : Gt lt a n := by
  obtain ⟨h1, h2, h3, h4⟩ := h
  obtain ⟨d, x, y, hd, hx, hy, hxy⟩ := hg
  rcases Nat.lt_trichotomy (n.length - 1) d with hc | hc | hc
  · have := some_lt hy
    rcases h4 with h4 | ⟨x', y', hx', hy', hxy'⟩
    · omega
    · refine ⟨n.length - 1, x', y', ?_, ?_, hy', hxy'⟩
      · rw [h3, take_less hd (by omega)]
      · rw [← at_eq hd hc, hx']
  · have := some_lt hy
    rcases h4 with h4 | ⟨x', y', hx', hy', hxy'⟩
    · omega
    · refine ⟨n.length - 1, x, y', ?_, ?_, hy', ?_⟩
      · rw [h3, hc, hd]
      · rw [hc, hx]
      · rw [hc, hy] at hx'
        cases hx'
        exact tr _ _ _ hxy hxy'
  · refine ⟨d, x, y, ?_, hx, ?_, hxy⟩
    · rw [take_less h3 (by omega), hd]
    · rw [at_eq h3 hc, hy]
theorem gt_not (ir : ∀ x, ¬ lt x x) {a n : List α} (hg : Gt lt a n) (hp : n = a ∨ Pr a n) : False := by
  obtain ⟨d, x, y, hd, hx, hy, hxy⟩ := hg
  have hpa : n.take a.length = a.take a.length := by
    rw [List.take_length]
    rcases hp with rfl | hp
    · exact List.take_length
    · exact hp.2
  have := at_eq hpa (some_lt hx)
  rw [hx, hy] at this
  cases this
  exact ir _ hxy
theorem skip (tr : ∀ x y z, lt x y → lt y z → lt x z) {q a n : List α} (h : Stp lt q a) (hn : 1 ≤ n.length) (hl : n.length - 1 < a.length) (hg : ∃ x y, n.take (n.length - 1) = a.take (n.length - 1) ∧ a[n.length - 1]? = some x ∧ n[n.length - 1]? = some y ∧ lt x y) : Stp lt q n := by
  obtain ⟨h1, h2, h3, h4⟩ := h
  obtain ⟨x, y, g1, g2, g3, g4⟩ := hg
  refine ⟨hn, by omega, by rw [g1, take_less h3 (by omega)], ?_⟩
  by_cases hd : n.length - 1 = a.length - 1
  · rcases h4 with h4 | ⟨x', y', hx', hy', hxy'⟩
    · left; omega
    · right
      rw [← hd] at hx' hy'
      rw [hy'] at g2
      cases g2
      exact ⟨x', y, hx', g3, tr _ _ _ hxy' g4⟩
  · right
    refine ⟨x, y, ?_, g3, g4⟩
    rw [← at_eq h3 (by omega), g2]
theorem in_step' {a p n : List α} (h : Stp lt p n) (hp : p = a ∨ Pr a p) : Pr a n ∨ (n.length - 1 < a.length ∧ ∃ x y, n.take (n.length - 1) = a.take (n.length - 1) ∧ a[n.length - 1]? = some x ∧ n[n.length - 1]? = some y ∧ lt x y) := by
  obtain ⟨h1, h2, h3, h4⟩ := h
  have ht : p.take a.length = a := by
    rcases hp with rfl | hp
    · exact List.take_length
    · exact hp.2
  have hl : a.length ≤ p.length := by
    rcases hp with rfl | hp
    · exact Nat.le_refl _
    · exact Nat.le_of_lt hp.1
  by_cases hd : a.length ≤ n.length - 1
  · left
    refine ⟨by omega, ?_⟩
    rw [take_less h3 hd, ht]
  · right
    refine ⟨by omega, ?_⟩
    rcases h4 with h4 | ⟨x, y, hx, hy, hxy⟩
    · omega
    · have hpa : p.take a.length = a.take a.length := by rw [ht, List.take_length]
      refine ⟨x, y, ?_, ?_, hy, hxy⟩
      · rw [h3, take_less hpa (by omega)]
      · rw [← at_eq hpa (by omega), hx]
end Fw
theorem bl_irr : ∀ a : List UInt8, Op.bytesLess a a = false
  | [] => rfl
  | a :: x => by
    rw [Op.bytesLess, bl_irr x]
    have : ¬ a < a := by rw [UInt8.lt_iff_toNat_lt]; omega
    simp [this]
theorem bl_tra : ∀ a b c : List UInt8, Op.bytesLess a b = true → Op.bytesLess b c = true → Op.bytesLess a c = true
  | _, _, [], _, h => by simp [Op.bytesLess] at h
  | _, [], _ :: _, h, _ => by simp [Op.bytesLess] at h
  | [], _ :: _, _ :: _, _, _ => rfl
  | a :: x, b :: y, c :: z, h1, h2 => by
    rw [Op.bytesLess] at h1 h2 ⊢
    rw [Bool.or_eq_true, Bool.and_eq_true, decide_eq_true_eq, beq_iff_eq] at h1 h2 ⊢
    rw [UInt8.lt_iff_toNat_lt] at h1 h2 ⊢
    rcases h1 with h1 | ⟨rfl, h1⟩
    · rcases h2 with h2 | ⟨rfl, h2⟩
      · left; omega
      · left; exact h1
    · rcases h2 with h2 | ⟨rfl, h2⟩
      · left; exact h2
      · right; exact ⟨rfl, bl_tra x y z h1 h2⟩
theorem bl_tri : ∀ a b : List UInt8, Op.bytesLess a b = false → a ≠ b → Op.bytesLess b a = true
  | [], [], _, h => absurd rfl h
  | _ :: _, [], _, _ => rfl
  | [], _ :: _, h, _ => by simp [Op.bytesLess] at h
  | a :: x, b :: y, h, hn => by
    rw [Op.bytesLess] at h ⊢
    rw [Bool.or_eq_false_iff, decide_eq_false_iff_not, UInt8.lt_iff_toNat_lt] at h
    rw [Bool.or_eq_true, Bool.and_eq_true, decide_eq_true_eq, beq_iff_eq, UInt8.lt_iff_toNat_lt]
    obtain ⟨h1, h2⟩ := h
    by_cases hab : a = b
    · subst hab
      right
      refine ⟨rfl, bl_tri x y ?_ (fun h => hn (by rw [h]))⟩
      simpa using h2
    · left
      have : a.toNat ≠ b.toNat := fun h => hab (UInt8.toNat_inj.1 h)
      omega
/-- A name lies ahead of another. -/
def ltN (x y : ByteArray) : Prop := Op.bytesLess x.toList y.toList = true
theorem ltN_irr (x : ByteArray) : ¬ ltN x x := by unfold ltN; rw [bl_irr]; decide
theorem ltN_tra (x y z : ByteArray) (h1 : ltN x y) (h2 : ltN y z) : ltN x z := bl_tra _ _ _ h1 h2
theorem ahead_iff (l : List ByteArray) (d : Nat) (nm : ByteArray) : aheadB l d nm = true ↔ d = l.length ∨ ltN (l.getD d ByteArray.empty) nm := by
  unfold aheadB ltN
  rw [Bool.or_eq_true, decide_eq_true_eq, Bool.not_eq_true', Bool.or_eq_false_iff]
  constructor
  · rintro (h | ⟨h1, h2⟩)
    · exact Or.inl h
    · exact Or.inr (bl_tri _ _ h1 (by rw [beq_eq_false_iff_ne] at h2; exact h2))
  · rintro (h | h)
    · exact Or.inl h
    · refine Or.inr ⟨?_, ?_⟩
      · rw [Bool.eq_false_iff]
        intro h9
        have := bl_tra _ _ _ h h9
        rw [bl_irr] at this
        cases this
      · rw [beq_eq_false_iff_ne]
        intro h9
        rw [h9, bl_irr] at h
        cases h
theorem getD_some {l : List ByteArray} {d : Nat} (h : d < l.length) : l[d]? = some (l.getD d ByteArray.empty) := by
  rw [List.getD_eq_getElem?_getD, List.getElem?_eq_getElem h]; rfl
theorem fol_stp {ns0 ns : List ByteArray} {d0 : Bool} (h : folB ns0 d0 ns = true) : Fw.Stp ltN ns0 ns ∧ (ns.length : Int) - 1 ≤ deepB ns0.length d0 := by
  unfold folB at h
  rw [Bool.and_eq_true, Bool.and_eq_true, Bool.and_eq_true, decide_eq_true_eq, decide_eq_true_eq, decide_eq_true_eq, ahead_iff] at h
  obtain ⟨⟨⟨h1, h2⟩, h3⟩, h4⟩ := h
  have h5 : deepB ns0.length d0 ≤ ns0.length := by unfold deepB; split <;> omega
  refine ⟨⟨h1, by omega, h3, ?_⟩, h2⟩
  by_cases hd : ns.length - 1 = ns0.length
  · exact Or.inl hd
  · right
    rcases h4 with h4 | h4
    · exact absurd h4 hd
    · exact ⟨_, _, getD_some (by omega), getD_some (by omega), h4⟩
theorem stp_fol {ns0 ns : List ByteArray} {d0 : Bool} (h : Fw.Stp ltN ns0 ns) (h2 : (ns.length : Int) - 1 ≤ deepB ns0.length d0) : folB ns0 d0 ns = true := by
  obtain ⟨h1, h5, h3, h4⟩ := h
  unfold folB
  rw [Bool.and_eq_true, Bool.and_eq_true, Bool.and_eq_true, decide_eq_true_eq, decide_eq_true_eq, decide_eq_true_eq, ahead_iff]
  refine ⟨⟨⟨h1, h2⟩, h3⟩, ?_⟩
  rcases h4 with h4 | ⟨x, y, hx, hy, hxy⟩
  · exact Or.inl h4
  · right
    rw [getD_some (Fw.some_lt hx)] at hx
    rw [getD_some (Fw.some_lt hy)] at hy
    cases hx; cases hy
    exact hxy

/-- All leaves may come one behind another. -/
def Chn : List ByteArray → Bool → List Lf → Prop
  | _, _, [] => True
  | ns0, d0, l :: r => okL ns0 d0 l = true ∧ Chn (Pt.spN l.path) (l.ty == 2) r
theorem goL_chn : ∀ (es : List Lf) (ns0 : List ByteArray) (d0 : Bool) (laid x : List Int), goL ns0 d0 laid es = .ok x ↔ Chn ns0 d0 es ∧ x = laid ++ es.flatMap encL
  | [], ns0, d0, laid, x => by
    rw [goL, Chn, List.flatMap_nil, List.append_nil]
    constructor
    · intro h; injection h with h; exact ⟨trivial, h.symm⟩
    · rintro ⟨-, rfl⟩; rfl
  | l :: r, ns0, d0, laid, x => by
    rw [goL, Chn, List.flatMap_cons, ← List.append_assoc]
    by_cases h : okL ns0 d0 l = true
    · rw [if_pos h, goL_chn r]
      constructor
      · rintro ⟨h1, h2⟩; exact ⟨⟨h, h1⟩, h2⟩
      · rintro ⟨⟨-, h1⟩, h2⟩; exact ⟨h1, h2⟩
    · rw [if_neg h]
      constructor
      · intro h1; cases h1
      · rintro ⟨⟨h1, -⟩, -⟩; exact absurd h1 h
theorem okL_fol {ns0 : List ByteArray} {d0 : Bool} {l : Lf} (h : okL ns0 d0 l = true) : nmsB l.path = true ∧ bodB l.ty l.mode l.data.length l.target = true ∧ folB ns0 d0 (Pt.spN l.path) = true := by
  unfold okL at h
  rw [Bool.and_eq_true, Bool.and_eq_true] at h
  exact ⟨h.1.1, h.1.2, h.2⟩
theorem chn_front : ∀ (A B : List Lf) (ns0 : List ByteArray) (d0 : Bool), Chn ns0 d0 (A ++ B) → Chn ns0 d0 A
  | [], _, _, _, _ => trivial
  | l :: A, B, _, _, h => ⟨h.1, chn_front A B _ _ h.2⟩
/-- Behind what lies above nothing lies in the place. -/
theorem chn_gt (a : List ByteArray) : ∀ (B : List Lf) (p : List ByteArray) (d : Bool), Chn p d B → Fw.Gt ltN a p → ∀ l ∈ B, Fw.Gt ltN a (Pt.spN l.path)
  | [], _, _, _, _ => fun _ h => by cases h
  | l :: B, p, d, h, hg => by
    have h1 := Fw.gt_step ltN_tra (fol_stp (okL_fol h.1).2.2).1 hg
    intro x hx
    rcases List.mem_cons.1 hx with rfl | hx
    · exact h1
    · exact chn_gt a B _ _ h.2 h1 x hx
theorem gt_of {a n : List ByteArray} (h : n.length - 1 < a.length ∧ ∃ x y, n.take (n.length - 1) = a.take (n.length - 1) ∧ a[n.length - 1]? = some x ∧ n[n.length - 1]? = some y ∧ ltN x y) : Fw.Gt ltN a n := by
  obtain ⟨_, x, y, h1, h2, h3, h4⟩ := h
  exact ⟨_, x, y, h1, h2, h3, h4⟩
/-- A leaf does not come again. -/
theorem chn_again (e : Lf) : ∀ (A B : List Lf) (p : List ByteArray) (d : Bool), Chn p d (A ++ e :: B) → (Fw.Pr (Pt.spN e.path) p ∨ Fw.Gt ltN (Pt.spN e.path) p) → False
  | [], B, p, d, h, hp => by
    have hs := (fol_stp (okL_fol h.1).2.2).1
    have : Fw.Pr (Pt.spN e.path) (Pt.spN e.path) ∨ Fw.Gt ltN (Pt.spN e.path) (Pt.spN e.path) := by
      rcases hp with hp | hp
      · rcases Fw.in_step' hs (Or.inr hp) with h1 | h1
        · exact Or.inl h1
        · exact Or.inr (gt_of h1)
      · exact Or.inr (Fw.gt_step ltN_tra hs hp)
    rcases this with h1 | h1
    · exact absurd h1.1 (Nat.lt_irrefl _)
    · exact Fw.gt_not ltN_irr h1 (Or.inl rfl)
  | l :: A, B, p, d, h, hp => by
    have hs := (fol_stp (okL_fol h.1).2.2).1
    refine chn_again e A B _ _ h.2 ?_
    rcases hp with hp | hp
    · rcases Fw.in_step' hs (Or.inr hp) with h1 | h1
      · exact Or.inl h1
      · exact Or.inr (gt_of h1)
    · exact Or.inr (Fw.gt_step ltN_tra hs hp)
theorem chn_before (e : Lf) : ∀ (A B : List Lf) (p : List ByteArray) (d : Bool), Chn p d (A ++ e :: B) → ∀ l ∈ A, ¬ Fw.Pr (Pt.spN e.path) (Pt.spN l.path)
  | [], _, _, _, _ => fun _ h => by cases h
  | l :: A, B, p, d, h => by
    intro x hx
    rcases List.mem_cons.1 hx with rfl | hx
    · exact fun hp => chn_again e A B _ _ h.2 (Or.inl hp)
    · exact chn_before e A B _ _ h.2 x hx
theorem chn_behind (q a : List ByteArray) (dq : Bool) (hqs : Fw.Stp ltN q a) (hqd : (a.length : Int) - 1 ≤ deepB q.length dq) (K : Lf → Bool) : ∀ (B : List Lf) (p : List ByteArray) (d : Bool), Chn p d B → (∀ l ∈ B, K l = true ↔ ¬ Fw.Pr a (Pt.spN l.path)) → (p = a ∨ Fw.Pr a p) → Chn q dq (B.filter K)
  | [], _, _, _, _, _ => trivial
  | l :: B, p, d, h, hK, hp => by
    have hl := okL_fol h.1
    have hs := (fol_stp hl.2.2).1
    rcases Fw.in_step' hs hp with h1 | h1
    · rw [List.filter_cons_of_neg (fun h9 => (hK l List.mem_cons_self).1 h9 h1)]
      exact chn_behind q a dq hqs hqd K B _ _ h.2 (fun x hx => hK x (List.mem_cons_of_mem _ hx)) (Or.inr h1)
    · have hg := gt_of h1
      have hkl : K l = true := (hK l List.mem_cons_self).2 (fun h9 => Fw.gt_not ltN_irr hg (Or.inr h9))
      have hall := chn_gt a B _ _ h.2 hg
      have hf : B.filter K = B := List.filter_eq_self.2 (fun x hx => (hK x (List.mem_cons_of_mem _ hx)).2 (fun h9 => Fw.gt_not ltN_irr (hall x hx) (Or.inr h9)))
      rw [List.filter_cons_of_pos hkl, hf]
      refine ⟨?_, h.2⟩
      unfold okL
      rw [hl.1, hl.2.1]
      have hst := Fw.skip ltN_tra hqs hs.1 h1.1 h1.2
      have := stp_fol (d0 := dq) hst (by have := h1.1; omega)
      rw [this]
      rfl
/-- A tree without a leaf and all that lies in it. -/
theorem chn_less (e : Lf) (K : Lf → Bool) : ∀ (A B : List Lf) (p : List ByteArray) (d : Bool), Chn p d (A ++ e :: B) → (∀ l ∈ B, K l = true ↔ ¬ Fw.Pr (Pt.spN e.path) (Pt.spN l.path)) → Chn p d (A ++ B.filter K)
  | [], B, p, d, h, hK => by
    have hs := fol_stp (okL_fol h.1).2.2
    exact chn_behind p _ d hs.1 hs.2 K B _ _ h.2 hK (Or.inl rfl)
  | l :: A, B, p, d, h, hK => ⟨h.1, chn_less e K A B _ _ h.2 hK⟩

/-- The texts: what lies in a place begins with the place's path and a slash. -/
theorem cut_names : ∀ (x y s t : List UInt8), (47 : UInt8) ∉ x → (47 : UInt8) ∉ y → (t = [] ∨ ∃ t', t = 47 :: t') → (x ++ 47 :: s) <+: (y ++ t) → x = y ∧ (47 :: s) <+: t
  | [], [], s, t, _, _, _, h => ⟨rfl, h⟩
  | [], b :: y, s, t, _, hy, _, h => by
    have h1 : (47 :: s) <+: b :: (y ++ t) := h
    rw [List.cons_prefix_cons] at h1
    exact absurd (by rw [h1.1]; exact List.mem_cons_self) hy
  | c :: x, [], s, t, hx, _, ht, h => by
    have h1 : (c :: (x ++ 47 :: s)) <+: t := h
    rcases ht with rfl | ⟨t', rfl⟩
    · rw [List.prefix_nil] at h1
      cases h1
    · rw [List.cons_prefix_cons] at h1
      exact absurd (by rw [h1.1]; exact List.mem_cons_self) hx
  | c :: x, b :: y, s, t, hx, hy, ht, h => by
    have h1 : (c :: (x ++ 47 :: s)) <+: b :: (y ++ t) := h
    rw [List.cons_prefix_cons] at h1
    have h2 := cut_names x y s t (fun h => hx (List.mem_cons_of_mem _ h)) (fun h => hy (List.mem_cons_of_mem _ h)) ht h1.2
    exact ⟨by rw [h1.1, h2.1], h2.2⟩
theorem tgA_cons (x : ByteArray) (r : List ByteArray) : Pt.tgA (x :: r) = 47 :: (x.data.toList ++ Pt.tgA r) := by
  unfold Pt.tgA
  rw [List.map_cons, Pt.tgL_cons]
  rfl
theorem tgA_head (n : List ByteArray) : Pt.tgA n = [] ∨ ∃ t', Pt.tgA n = 47 :: t' := by
  cases n with
  | nil => exact Or.inl rfl
  | cons x r => exact Or.inr ⟨_, tgA_cons x r⟩
theorem tgA_tail (a : List ByteArray) : ∃ s, Pt.tgA a ++ [47] = 47 :: s := by
  cases a with
  | nil => exact ⟨[], rfl⟩
  | cons x r => exact ⟨_, by rw [tgA_cons]; rfl⟩
theorem data_inj {x y : ByteArray} (h : x.data.toList = y.data.toList) : x = y := by
  obtain ⟨⟨x⟩⟩ := x
  obtain ⟨⟨y⟩⟩ := y
  exact congrArg (fun l => (⟨⟨l⟩⟩ : ByteArray)) h
theorem pre_pr : ∀ (a n : List ByteArray), (∀ x ∈ a, (47 : UInt8) ∉ x.data.toList) → (∀ x ∈ n, (47 : UInt8) ∉ x.data.toList) → (Pt.tgA a ++ [47]) <+: Pt.tgA n → Fw.Pr a n
  | [], n, _, _, h => by
    refine ⟨?_, rfl⟩
    cases n with
    | nil =>
      have h1 : [(47 : UInt8)] <+: [] := h
      rw [List.prefix_nil] at h1
      cases h1
    | cons _ _ => simp
  | x :: a, [], _, _, h => by
    rw [tgA_cons] at h
    have h1 : (47 :: (x.data.toList ++ Pt.tgA a) ++ [47]) <+: [] := h
    rw [List.prefix_nil] at h1
    cases h1
  | x :: a, y :: n, ha, hn, h => by
    rw [tgA_cons, tgA_cons, List.cons_append, List.cons_prefix_cons, List.append_assoc] at h
    obtain ⟨s, hs⟩ := tgA_tail a
    have h1 := h.2
    rw [hs] at h1
    obtain ⟨g1, g2⟩ := cut_names _ _ _ _ (ha x List.mem_cons_self) (hn y List.mem_cons_self) (tgA_head n) h1
    rw [← hs] at g2
    have h3 := pre_pr a n (fun z hz => ha z (List.mem_cons_of_mem _ hz)) (fun z hz => hn z (List.mem_cons_of_mem _ hz)) g2
    cases data_inj g1
    refine ⟨by rw [List.length_cons, List.length_cons]; have := h3.1; omega, ?_⟩
    rw [List.length_cons, List.take_succ_cons, h3.2]
theorem pr_pre {a n : List ByteArray} (h : Fw.Pr a n) : (Pt.tgA a ++ [47]) <+: Pt.tgA n := by
  have h1 : n = a ++ n.drop a.length := by
    conv => lhs; rw [← List.take_append_drop a.length n, h.2]
  have h2 : ∃ y r, n.drop a.length = y :: r := by
    cases hd : n.drop a.length with
    | nil =>
      have := congrArg List.length hd
      rw [List.length_drop] at this
      have := h.1
      simp at *
      omega
    | cons y r => exact ⟨y, r, rfl⟩
  obtain ⟨y, r, hy⟩ := h2
  rw [h1, hy, Pt.tgA_append, tgA_cons]
  exact ⟨y.data.toList ++ Pt.tgA r, by rw [List.append_assoc]; rfl⟩

/-- Is a leaf kept where those that begin so go? -/
def keepB (p : List UInt8) (l : Lf) : Bool := decide (l.path.size < p.length) || !(l.path.data.toList.take p.length == p)
theorem tg_data {n : List ByteArray} (h : n ≠ []) : (Pt.tg n).data.toList = Pt.tgA n := by
  unfold Pt.tg
  rw [if_neg h, Pt.data_byteOf]
theorem keep_iff {e l : Lf} (he : nmsB e.path = true) (hl : nmsB l.path = true) (ha : Pt.spN e.path ≠ []) :
    keepB (e.path.data.toList ++ [47]) l = true ↔ ¬ Fw.Pr (Pt.spN e.path) (Pt.spN l.path) := by
  have e1 := (nms_more he).1
  have l1 := (nms_more hl).1
  have e2 : e.path.data.toList = Pt.tgA (Pt.spN e.path) := by
    conv => lhs; rw [← e1]
    exact tg_data ha
  have hsz : l.path.size = l.path.data.toList.length := rfl
  unfold keepB
  rw [hsz]
  by_cases hn : Pt.spN l.path = []
  · have h1 : ¬ Fw.Pr (Pt.spN e.path) (Pt.spN l.path) := by
      intro h
      have := h.1
      rw [hn] at this
      cases this
    have h2 : l.path.data.toList = [47] := by
      rw [← l1, hn]
      unfold Pt.tg
      rw [if_pos rfl, Pt.data_byteOf]
    have h3 : 1 ≤ e.path.data.toList.length := by
      rw [e2]
      obtain ⟨s, hs⟩ := List.exists_cons_of_ne_nil ha
      obtain ⟨r, hs⟩ := hs
      rw [hs, tgA_cons, List.length_cons]
      omega
    have h4 : decide (l.path.data.toList.length < (e.path.data.toList ++ [47]).length) = true := by
      rw [h2, List.length_append]
      exact decide_eq_true (by simp only [List.length_cons, List.length_nil]; omega)
    rw [h4, Bool.true_or]
    exact ⟨fun _ => h1, fun _ => rfl⟩
  · have l2 : l.path.data.toList = Pt.tgA (Pt.spN l.path) := by
      conv => lhs; rw [← l1]
      exact tg_data hn
    rw [e2, l2]
    have hpr : Fw.Pr (Pt.spN e.path) (Pt.spN l.path) ↔ (Pt.tgA (Pt.spN e.path) ++ [47]) <+: Pt.tgA (Pt.spN l.path) :=
      ⟨pr_pre, pre_pr _ _ (fun x hx => (Pt.sp_mem (nms_facts he).1 hx).2.2.1) (fun x hx => (Pt.sp_mem (nms_facts hl).1 hx).2.2.1)⟩
    rw [hpr, List.prefix_iff_eq_take, Bool.or_eq_true, decide_eq_true_eq, Bool.not_eq_true', beq_eq_false_iff_ne]
    constructor
    · rintro (h | h) h9
      · have := congrArg List.length h9
        rw [List.length_take] at this
        omega
      · exact h h9.symm
    · intro h
      exact Or.inr (fun h9 => h h9.symm)
/-- What is left, as far as it has been looked at. -/
def fewF (K : Lf → Bool) (i0 : Nat) (es : List Le) (i : Nat) : List Le := ((es.take i).zipIdx.filter (fun x => decide (x.2 ≠ i0) && K x.1.l)).map Prod.fst
theorem fewF_zero (K : Lf → Bool) (i0 : Nat) (es : List Le) : fewF K i0 es 0 = [] := rfl
theorem fewF_step (K : Lf → Bool) (i0 : Nat) (es : List Le) (i : Nat) (h : i < es.length) : fewF K i0 es (i + 1) = fewF K i0 es i ++ (if (decide (i ≠ i0) && K es[i].l) = true then [es[i]] else []) := by
  unfold fewF
  rw [List.take_succ_eq_append_getElem h, List.zipIdx_append, List.filter_append, List.map_append]
  congr 1
  have h1 : (es.take i).length = i := by rw [List.length_take]; omega
  rw [List.zipIdx_cons, List.zipIdx_nil, h1, Nat.zero_add]
  by_cases hc : (decide (i ≠ i0) && K es[i].l) = true
  · rw [if_pos hc, List.filter_cons_of_pos (by exact hc)]; rfl
  · rw [if_neg hc, List.filter_cons_of_neg (by exact hc)]; rfl
theorem fewF_mem {K : Lf → Bool} {i0 : Nat} {es : List Le} {i : Nat} {x : Le} (h : x ∈ fewF K i0 es i) : x ∈ es := by
  unfold fewF at h
  obtain ⟨y, hy, rfl⟩ := List.mem_map.1 h
  have h1 := (List.mem_filter.1 hy).1
  have h2 : y.1 ∈ es.take i := by
    have := List.mem_zipIdx' (x := y.1) (i := y.2) h1
    rw [this.2]
    exact List.getElem_mem _
  exact List.mem_of_mem_take h2
theorem fewF_len (K : Lf → Bool) (i0 : Nat) (es : List Le) (i : Nat) : (fewF K i0 es i).length ≤ i := by
  unfold fewF
  rw [List.length_map]
  refine Nat.le_trans (List.length_filter_le _ _) ?_
  rw [List.length_zipIdx, List.length_take]
  omega
theorem filt_front (K : Lf → Bool) (i0 : Nat) : ∀ (A : List Le) (k : Nat), k + A.length ≤ i0 → (∀ x ∈ A, K x.l = true) → ((A.zipIdx k).filter (fun x => decide (x.2 ≠ i0) && K x.1.l)).map Prod.fst = A
  | [], _, _, _ => rfl
  | x :: A, k, h, hK => by
    rw [List.length_cons] at h
    rw [List.zipIdx_cons, List.filter_cons_of_pos (by rw [hK x List.mem_cons_self, Bool.and_true]; exact decide_eq_true (by simp only; omega)), List.map_cons, filt_front K i0 A (k + 1) (by omega) (fun y hy => hK y (List.mem_cons_of_mem _ hy))]
theorem filt_back (K : Lf → Bool) (i0 : Nat) : ∀ (B : List Le) (k : Nat), i0 < k → (((B.zipIdx k).filter (fun x => decide (x.2 ≠ i0) && K x.1.l)).map Prod.fst).map Le.l = (B.map Le.l).filter K
  | [], _, _ => rfl
  | x :: B, k, h => by
    rw [List.zipIdx_cons, List.map_cons]
    have h1 : decide (k ≠ i0) = true := decide_eq_true (by omega)
    by_cases hx : K x.l = true
    · rw [List.filter_cons_of_pos (by rw [hx, h1]; rfl), List.filter_cons_of_pos hx, List.map_cons, List.map_cons, filt_back K i0 B (k + 1) (by omega)]
    · rw [List.filter_cons_of_neg (by rw [h1, Bool.true_and]; exact hx), List.filter_cons_of_neg hx, filt_back K i0 B (k + 1) (by omega)]
theorem fewF_all (K : Lf → Bool) (A B : List Le) (e : Le) (hK : ∀ x ∈ A, K x.l = true) : (fewF K A.length (A ++ e :: B) (A ++ e :: B).length).map Le.l = A.map Le.l ++ (B.map Le.l).filter K := by
  unfold fewF
  rw [List.take_length, List.zipIdx_append, List.filter_append, List.map_append, List.map_append, filt_front K A.length A 0 (by omega) hK, Nat.zero_add, List.zipIdx_cons, List.filter_cons_of_neg (by simp), filt_back K A.length B (A.length + 1) (by omega)]
theorem pack_iff (l : Lf) (r : List Lf) (row : List Int) : packM (l :: r) = .ok row ↔ rootB l = true ∧ bodB l.ty l.mode l.data.length l.target = true ∧ Chn [] true r ∧ row = sealW (headW l ++ r.flatMap encL) := by
  rw [packM]
  by_cases h1 : rootB l = true
  · rw [if_pos h1]
    by_cases h2 : bodB l.ty l.mode l.data.length l.target = true
    · rw [if_pos h2]
      cases hg : goL [] true (headW l) r with
      | error e =>
        constructor
        · intro h; cases h
        · rintro ⟨-, -, h3, h4⟩
          have := (goL_chn r [] true (headW l) _).2 ⟨h3, rfl⟩
          rw [hg] at this
          cases this
      | ok x =>
        have h3 := (goL_chn r [] true (headW l) x).1 hg
        constructor
        · intro h
          injection h with h
          exact ⟨h1, h2, h3.1, by rw [← h3.2]; exact h.symm⟩
        · rintro ⟨-, -, -, h4⟩
          rw [h4, ← h3.2]
    · rw [if_neg h2]
      constructor
      · intro h; cases h
      · rintro ⟨-, h, -⟩; exact absurd h h2
  · rw [if_neg h1]
    constructor
    · intro h; cases h
    · rintro ⟨h, -⟩; exact absurd h h1
theorem sealW_len (x : List Int) : (sealW x).length = x.length + 5 := by
  unfold sealW
  simp only [List.length_append, numL_length]
theorem flat_filter (K : Lf → Bool) : ∀ B : List Lf, ((B.filter K).flatMap encL).length ≤ (B.flatMap encL).length
  | [] => Nat.le_refl _
  | l :: B => by
    have := flat_filter K B
    by_cases h : K l = true
    · rw [List.filter_cons_of_pos h, List.flatMap_cons, List.flatMap_cons, List.length_append, List.length_append]; omega
    · rw [List.filter_cons_of_neg h, List.flatMap_cons, List.length_append]; omega
theorem chn_oks : ∀ (A : List Lf) (p : List ByteArray) (d : Bool), Chn p d A → ∀ l ∈ A, nmsB l.path = true ∧ Pt.spN l.path ≠ []
  | [], _, _, _ => fun _ h => by cases h
  | l :: A, p, d, h => by
    intro x hx
    rcases List.mem_cons.1 hx with rfl | hx
    · have h1 := okL_fol h.1
      refine ⟨h1.1, fun h9 => ?_⟩
      have := (fol_stp h1.2.2).1.1
      rw [h9] at this
      cases this
    · exact chn_oks A _ _ h.2 x hx
theorem few_one (es : List Le) (row : List Int) (i : Nat) (h : packM (es.map Le.l) = .ok row) (h1 : 1 ≤ i) (h2 : i < es.length) :
    ∃ c, packM ((fewF (keepB (es[i].l.path.data.toList ++ [47])) i es es.length).map Le.l) = .ok c ∧ c.length < row.length := by
  obtain ⟨x, r, rfl⟩ := List.exists_cons_of_ne_nil (show es ≠ [] by intro h9; rw [h9] at h2; cases h2)
  rw [List.map_cons, pack_iff] at h
  obtain ⟨p1, p2, p3, p4⟩ := h
  obtain ⟨i, rfl⟩ : ∃ k, i = k + 1 := ⟨i - 1, by omega⟩
  rw [List.length_cons] at h2
  have h3 : i < r.length := by omega
  have hes : r = r.take i ++ r[i] :: r.drop (i + 1) := by rw [List.getElem_cons_drop h3, List.take_append_drop]
  have hge : (x :: r)[i + 1]'(by simp; omega) = r[i] := rfl
  rw [hge]
  obtain ⟨A, hA⟩ : ∃ A, r.take i = A := ⟨_, rfl⟩
  obtain ⟨B, hB⟩ : ∃ B, r.drop (i + 1) = B := ⟨_, rfl⟩
  obtain ⟨e, he⟩ : ∃ e, r[i] = e := ⟨_, rfl⟩
  have hAl : A.length = i := by rw [← hA, List.length_take]; omega
  rw [hA, hB, he] at hes
  rw [he]
  clear hge
  subst hes
  clear hA hB he
  rw [List.map_append, List.map_cons] at p3 p4
  have hoks := chn_oks _ _ _ p3
  have hin : nmsB e.l.path = true ∧ Pt.spN e.l.path ≠ [] := hoks _ (List.mem_append_right _ List.mem_cons_self)
  have hKA : ∀ l ∈ A.map Le.l, keepB (e.l.path.data.toList ++ [47]) l = true := fun l hl =>
    (keep_iff hin.1 (hoks l (List.mem_append_left _ hl)).1 hin.2).2 (chn_before e.l _ _ _ _ p3 l hl)
  have hroot : keepB (e.l.path.data.toList ++ [47]) x.l = true := by
    unfold rootB at p1
    rw [Bool.and_eq_true, decide_eq_true_eq, Lib.toList_data] at p1
    have q1 : x.l.path.size = 1 := by
      have : x.l.path.size = x.l.path.data.toList.length := rfl
      rw [this, p1.1]
      rfl
    unfold keepB
    rw [Bool.or_eq_true]
    left
    refine decide_eq_true ?_
    rw [q1, List.length_append]
    have : 1 ≤ e.l.path.data.toList.length := by
      rw [← (nms_more hin.1).1, tg_data hin.2]
      obtain ⟨s, r9, hs⟩ := List.exists_cons_of_ne_nil hin.2
      rw [hs, tgA_cons, List.length_cons]
      omega
    simp only [List.length_cons, List.length_nil]
    omega
  have hall := fewF_all (keepB (e.l.path.data.toList ++ [47])) (x :: A) B e (by
    intro y hy
    rcases List.mem_cons.1 hy with rfl | hy
    · exact hroot
    · exact hKA _ (List.mem_map_of_mem hy))
  have hAl2 : (x :: A).length = i + 1 := by rw [List.length_cons, hAl]
  rw [hAl2] at hall
  have hall2 : (fewF (keepB (e.l.path.data.toList ++ [47])) (i + 1) (x :: (A ++ e :: B)) (x :: (A ++ e :: B)).length).map Le.l = x.l :: (A.map Le.l ++ (B.map Le.l).filter (keepB (e.l.path.data.toList ++ [47]))) := hall
  rw [hall2]
  have hc := chn_less e.l (keepB (e.l.path.data.toList ++ [47])) _ _ _ _ p3 (fun l hl => keep_iff hin.1 (hoks l (List.mem_append_right _ (List.mem_cons_of_mem _ hl))).1 hin.2)
  refine ⟨_, (pack_iff _ _ _).2 ⟨p1, p2, hc, rfl⟩, ?_⟩
  rw [p4, sealW_len, sealW_len, List.length_append, List.length_append, List.flatMap_append, List.flatMap_append, List.flatMap_cons, List.length_append, List.length_append, List.length_append]
  have q1 := flat_filter (keepB (e.l.path.data.toList ++ [47])) (B.map Le.l)
  have q2 := encL_pos e.l
  omega
theorem few_two (es : List Le) (row : List Int) (h : packM (es.map Le.l) = .ok row) (h2 : 2 ≤ es.length) :
    ∃ c, packM ((es.take (es.length - 1)).map Le.l) = .ok c ∧ c.length < row.length := by
  obtain ⟨x, r, rfl⟩ := List.exists_cons_of_ne_nil (show es ≠ [] by intro h9; rw [h9] at h2; cases h2)
  rw [List.map_cons, pack_iff] at h
  obtain ⟨p1, p2, p3, p4⟩ := h
  rw [List.length_cons] at h2
  have h3 : r.length - 1 < r.length := by omega
  have ht : (x :: r).take ((x :: r).length - 1) = x :: r.take (r.length - 1) := by
    rw [List.length_cons, show r.length + 1 - 1 = (r.length - 1) + 1 by omega, List.take_succ_cons]
  have hes : r = r.take (r.length - 1) ++ [r[r.length - 1]] := by
    rw [List.take_append_getElem h3, show r.length - 1 + 1 = r.length by omega, List.take_length]
  obtain ⟨A, hA⟩ : ∃ A, r.take (r.length - 1) = A := ⟨_, rfl⟩
  obtain ⟨e, he⟩ : ∃ e, r[r.length - 1] = e := ⟨_, rfl⟩
  rw [ht, hA]
  rw [hA, he] at hes
  rw [hes, List.map_append] at p3 p4
  rw [List.map_cons]
  refine ⟨_, (pack_iff _ _ _).2 ⟨p1, p2, chn_front _ _ _ _ p3, rfl⟩, ?_⟩
  rw [p4, sealW_len, sealW_len, List.length_append, List.length_append, List.flatMap_append, List.length_append, List.map_cons, List.map_nil, List.flatMap_cons, List.flatMap_nil, List.append_nil]
  have q2 := encL_pos e.l
  omega
theorem getL_inj {a b : List Int} (ha : Byt a) (hb : Byt b) : ∀ n, getL a 0 n = getL b 0 n → ∀ i, i < n → a.getD i 0 = b.getD i 0
  | 0, _, i, hi => absurd hi (Nat.not_lt_zero i)
  | n + 1, h, i, hi => by
    have ra := getL_range ha 0 n
    have rb := getL_range hb 0 n
    have hp := pow256_pos n
    have e1 : ∀ x y : Int, 0 ≤ x → x < 256 ^ n → (x + y * 256 ^ n) / 256 ^ n = y := by
      intro x y h0 h1
      rw [Int.add_mul_ediv_right _ _ (by omega), Int.ediv_eq_zero_of_lt h0 h1, Int.zero_add]
    rw [getL, getL, Nat.zero_add] at h
    have q : a.getD n 0 = b.getD n 0 := by
      rw [← e1 (getL a 0 n) (a.getD n 0) ra.1 ra.2, h, e1 _ _ rb.1 rb.2]
    rw [q] at h
    have h2 : getL a 0 n = getL b 0 n := by omega
    by_cases hin : i = n
    · rw [hin]; exact q
    · exact getL_inj ha hb n h2 i (by omega)
theorem num_back {bs : List Int} (hb : Byt bs) {n : Nat} (hn : n ≤ bs.length) : bs = numL n (getL bs 0 n) ++ bs.drop n := by
  have hr := getL_range hb 0 n
  have h1 : numL n (getL bs 0 n) = bs.take n := by
    refine List.ext_getElem (by rw [numL_length, List.length_take]; omega) ?_
    intro i h2 h3
    have h4 : i < n := by rw [numL_length] at h2; exact h2
    have h5 := getL_inj (numL_byt n (getL bs 0 n)) hb n (by have := getL_numL n (getL bs 0 n) hr.1 hr.2 []; rw [List.append_nil] at this; exact this) i h4
    rw [List.getD_eq_getElem?_getD, List.getD_eq_getElem?_getD, List.getElem?_eq_getElem h2, List.getElem?_eq_getElem (by omega)] at h5
    rw [List.getElem_take]
    exact h5
  rw [h1, List.take_append_drop]
theorem num_inv {n : Nat} {bs r : List Int} {v : Int} (h : numR n bs = .ok (v, r)) (hb : Byt bs) : bs = numL n v ++ r ∧ 0 ≤ v ∧ v < 256 ^ n ∧ Byt r := by
  unfold numR at h
  split at h
  · rename_i hn
    cases h
    have hr := getL_range hb 0 n
    exact ⟨num_back hb hn, hr.1, hr.2, byt_drop hb n⟩
  · cases h
theorem whole_inv {n : Nat} {lo hi : Int} {bs r : List Int} {v : Int} (h : wholeR n lo hi bs = .ok (v, r)) (hb : Byt bs) : bs = numL n v ++ r ∧ lo ≤ v ∧ v ≤ hi ∧ 0 ≤ v ∧ v < 256 ^ n ∧ Byt r := by
  obtain ⟨h1, h2, h3, h4, h5⟩ := wholeR_ok h
  have hr := getL_range hb 0 n
  refine ⟨?_, h2, h3, by rw [h4]; exact hr.1, by rw [h4]; exact hr.2, by rw [h5]; exact byt_drop hb n⟩
  rw [h4, h5]
  exact num_back hb h1
theorem take_inv {n : Nat} {bs b r : List Int} (h : takeR n bs = .ok (b, r)) (hb : Byt bs) : bs = b ++ r ∧ b.length = n ∧ Byt b ∧ Byt r := by
  unfold takeR at h
  split at h
  · rename_i hn
    cases h
    exact ⟨(List.take_append_drop n bs).symm, by rw [List.length_take]; omega, byt_take hb n, byt_drop hb n⟩
  · cases h
theorem nums_str {b : List Int} (h : Byt b) : numsS (strOfNums b) = b := by
  unfold numsS
  rw [strOfNums_data, List.map_map]
  conv => rhs; rw [← List.map_id b]
  refine List.map_congr_left fun x hx => ?_
  have := h x hx
  show ((UInt8.ofNat x.toNat).toNat : Int) = x
  rw [UInt8.toNat_ofNat']
  omega

/-- Zeros ahead. -/
theorem zrs_app : ∀ (l t : List Int), (∃ x ∈ l, x ≠ 0) → zrs (l ++ t) = zrs l
  | [], _, h => by obtain ⟨x, hx, _⟩ := h; cases hx
  | a :: l, t, h => by
    rw [List.cons_append, zrs, zrs]
    by_cases ha : a = 0
    · rw [if_pos ha, if_pos ha, zrs_app l t]
      obtain ⟨x, hx, hn⟩ := h
      rcases List.mem_cons.1 hx with rfl | hx
      · exact absurd ha hn
      · exact ⟨x, hx, hn⟩
    · rw [if_neg ha, if_neg ha]
theorem zrs_rep : ∀ (k : Nat) (t : List Int), zrs (List.replicate k 0 ++ t) = k + zrs t
  | 0, t => by rw [List.replicate_zero, List.nil_append, Nat.zero_add]
  | k + 1, t => by rw [List.replicate_succ, List.cons_append, zrs, if_pos rfl, zrs_rep k t]; omega
theorem zrs_none {t : List Int} (h : t ≠ [] → t.getD 0 0 ≠ 0) : zrs t = 0 := by
  cases t with
  | nil => rfl
  | cons a r =>
    have : a ≠ 0 := h (by simp)
    rw [zrs, if_neg this]
theorem fhN_app : ∀ (b t : List Int), fhN b = b.length → (t ≠ [] → b.getD (b.length - 1) 0 ≠ 0) → (t ≠ [] → 16 ≤ zrs t) → b ≠ [] → fhN (b ++ t) = b.length
  | [], _, _, _, _, h => absurd rfl h
  | a :: b, t, h1, h2, h3, _ => by
    by_cases ht : t = []
    · rw [ht, List.append_nil]; exact h1
    have hl := h2 ht
    rw [fhN] at h1
    by_cases hz : 16 ≤ zrs (a :: b)
    · rw [if_pos hz] at h1; cases h1
    · rw [if_neg hz, List.length_cons] at h1
      have h1 : fhN b = b.length := by omega
      have hne : ∃ x ∈ a :: b, x ≠ 0 := by
        refine ⟨(a :: b).getD ((a :: b).length - 1) 0, ?_, hl⟩
        rw [List.getD_eq_getElem?_getD, List.getElem?_eq_getElem (by simp)]
        exact List.getElem_mem _
      have hz2 := zrs_app (a :: b) t hne
      rw [List.cons_append] at hz2
      rw [List.cons_append, fhN, hz2, if_neg hz, List.length_cons]
      by_cases hb : b = []
      · subst hb
        have : fhN t = 0 := fhN_hole (h3 ht)
        rw [List.nil_append, this]
        rfl
      · rw [fhN_app b t h1 ?_ h3 hb]
        intro _
        have : (a :: b).getD ((a :: b).length - 1) 0 = b.getD (b.length - 1) 0 := by
          have hlen : 0 < b.length := List.length_pos_iff.2 hb
          rw [List.length_cons, show b.length + 1 - 1 = (b.length - 1) + 1 by omega]
          rfl
        rw [← this]; exact hl
theorem cuts_fill {zs : List Int} {pos k : Nat} (h : pos < zs.length) (hf : fhAt zs pos = pos + k) (hk : 0 < k) (hn : pos + k < zs.length → 16 ≤ zrs (zs.drop (pos + k))) : cutsFrom zs pos = ⟨pos, k, false⟩ :: cutsFrom zs (pos + k) := by
  rw [cuts_step h, hf, if_pos (by omega), show pos + k - pos = k by omega]
  have he : enAt zs pos = pos + k + zrs (zs.drop (pos + k)) := by unfold enAt; rw [hf]
  by_cases hl : pos + k < zs.length
  · have h16 := hn hl
    have hf2 := fhAt_hole h16
    have he2 : enAt zs (pos + k) = pos + k + zrs (zs.drop (pos + k)) := by unfold enAt; rw [hf2]
    rw [cuts_step hl, hf2, he, he2, if_neg (Nat.lt_irrefl (pos + k))]
    rfl
  · have h0 : zrs (zs.drop (pos + k)) = 0 := by rw [List.drop_of_length_le (by omega)]; rfl
    rw [he, h0, Nat.add_zero, if_neg (Nat.lt_irrefl (pos + k))]
    rfl
theorem cuts_hole {zs : List Int} {pos k : Nat} (h : pos < zs.length) (hz : zrs (zs.drop pos) = k) (hk : 16 ≤ k) : cutsFrom zs pos = ⟨pos, k, true⟩ :: cutsFrom zs (pos + k) := by
  have hf : fhAt zs pos = pos := fhAt_hole (by omega)
  have he : enAt zs pos = pos + k := by unfold enAt; rw [hf, hz]
  rw [cuts_step h, hf, he, if_neg (Nat.lt_irrefl pos), if_pos (by omega), show pos + k - pos = k by omega]
  rfl
theorem filled_inv {b : List Int} {behind more : Bool} (h : filledB b behind more = true) : fhN b = b.length ∧ (behind = true → b.getD 0 0 ≠ 0) ∧ (more = true → b.getD (b.length - 1) 0 ≠ 0) := by
  unfold filledB at h
  simp only [Bool.and_eq_true, decide_eq_true_eq, Bool.not_eq_true', Bool.and_eq_false_iff, beq_eq_false_iff_ne] at h
  obtain ⟨⟨h1, h2⟩, h3⟩ := h
  refine ⟨h1, fun hb => ?_, fun hm => ?_⟩
  · rcases h2 with h2 | h2
    · rw [hb] at h2; cases h2
    · exact h2
  · rcases h3 with h3 | h3
    · rw [hm] at h3; cases h3
    · exact h3
theorem byt_rep (k : Nat) : Byt (List.replicate k 0) := fun x hx => by have := (List.mem_replicate.1 hx).2; omega
/-- The stretches that are read are the ones that would be laid. -/
theorem dataL_inv (size : Nat) : ∀ (f pos : Nat) (last : Int) (acc acc' : List Sg) (bs r : List Int), dataL size f pos last acc bs = .ok (acc', r) → Byt bs → size - pos ≤ f → pos ≤ size → (∀ s ∈ acc, s.pos + s.bs.length ≤ pos) →
    ∃ tl : List Int, layD size acc' = layD pos acc ++ tl ∧ tl.length = size - pos ∧ (∀ s ∈ acc', s.pos + s.bs.length ≤ size) ∧ Byt r ∧ Byt tl ∧ (last = 0 → tl ≠ [] → tl.getD 0 0 ≠ 0) ∧ (last = 1 → tl ≠ [] → 16 ≤ zrs tl) ∧
      ∀ zs : List Int, zs.length = size → zs.drop pos = tl → bs = (cutsFrom zs pos).flatMap (encR zs) ++ r := by
  have stop : ∀ (pos : Nat) (last : Int) (acc acc' : List Sg) (bs r : List Int), pos = size → (Except.ok (acc, bs) : Except Int (List Sg × List Int)) = .ok (acc', r) → Byt bs → (∀ s ∈ acc, s.pos + s.bs.length ≤ pos) →
      ∃ tl : List Int, layD size acc' = layD pos acc ++ tl ∧ tl.length = size - pos ∧ (∀ s ∈ acc', s.pos + s.bs.length ≤ size) ∧ Byt r ∧ Byt tl ∧ (last = 0 → tl ≠ [] → tl.getD 0 0 ≠ 0) ∧ (last = 1 → tl ≠ [] → 16 ≤ zrs tl) ∧
        ∀ zs : List Int, zs.length = size → zs.drop pos = tl → bs = (cutsFrom zs pos).flatMap (encR zs) ++ r := by
    intro pos last acc acc' bs r hp h hb ha
    cases h
    subst hp
    refine ⟨[], by rw [List.append_nil], by simp, ha, hb, (fun x hx => by cases hx), (fun _ h => absurd rfl h), (fun _ h => absurd rfl h), fun zs hz _ => ?_⟩
    rw [cuts_end (by omega), List.flatMap_nil, List.nil_append]
  intro f
  induction f with
  | zero =>
    intro pos last acc acc' bs r h hb hf hp ha
    rw [dataL] at h
    exact stop pos last acc acc' bs r (by omega) h hb ha
  | succ f ih =>
    intro pos last acc acc' bs r h hb hf hp ha
    rw [dataL] at h
    by_cases hlt : pos < size
    · rw [if_pos hlt] at h
      cases h1 : wholeR 1 0 1 bs with
      | error e => rw [h1] at h; cases h
      | ok x1 =>
        obtain ⟨kd, r1⟩ := x1
        rw [h1] at h
        simp only at h
        obtain ⟨a1, a2, a3, -, -, hb1⟩ := whole_inv h1 hb
        by_cases hk : kd = last
        · rw [if_pos hk] at h; cases h
        rw [if_neg hk] at h
        cases h2 : wholeR 4 (if kd = 0 then 16 else 1) ((size : Int) - (pos : Int)) r1 with
        | error e => rw [h2] at h; cases h
        | ok x2 =>
          obtain ⟨k, r2⟩ := x2
          rw [h2] at h
          simp only at h
          obtain ⟨b1, b2, b3, -, -, hb2⟩ := whole_inv h2 hb1
          by_cases hk1 : kd = 1
          · rw [if_pos hk1] at h
            rw [if_neg (by omega)] at b2
            obtain ⟨m, rfl⟩ : ∃ m : Nat, k = (m : Int) := ⟨k.toNat, by omega⟩
            rw [Int.toNat_natCast] at h
            cases h3 : takeR m r2 with
            | error e => rw [h3] at h; cases h
            | ok x3 =>
              obtain ⟨b, r3⟩ := x3
              rw [h3] at h
              simp only at h
              obtain ⟨c1, c2, cb, hb3⟩ := take_inv h3 hb2
              by_cases hfl : filledB b (last == 0) (decide (pos + m < size)) = true
              · rw [if_pos hfl] at h
                obtain ⟨f1, f2, f3⟩ := filled_inv hfl
                obtain ⟨tl, t1, t2, t3, t4, t5, t6, t7, t8⟩ := ih (pos + m) 1 (acc ++ [⟨pos, b⟩]) acc' r3 r h hb3 (by omega) (by omega) (by
                  intro s hs
                  rcases List.mem_append.1 hs with hs | hs
                  · have := ha s hs; omega
                  · rw [List.mem_singleton.1 hs]; simp only; omega)
                have hl9 := lay_put pos acc b ha
                rw [c2] at hl9
                rw [hl9, List.append_assoc] at t1
                have hbn : b ≠ [] := by intro e; rw [e] at c2; simp at c2; omega
                refine ⟨b ++ tl, t1, by rw [List.length_append]; omega, t3, t4, byt_app cb t5, ?_, ?_, ?_⟩
                · intro hl0 _
                  have := f2 (by rw [hl0]; rfl)
                  cases b with
                  | nil => exact absurd rfl hbn
                  | cons y b => exact this
                · intro hl1 _; omega
                · intro zs hz hd
                  have hd2 : zs.drop (pos + m) = tl := by
                    rw [← List.drop_drop, hd, ← c2, List.drop_left]
                  have hfh : fhAt zs pos = pos + m := by
                    rw [fhAt_eq (by omega), hd, fhN_app b tl f1 (fun ht => f3 (decide_eq_true (by have := List.length_pos_iff.2 ht; omega))) (t7 rfl) hbn, c2]
                  rw [cuts_fill (by omega) hfh (by omega) (fun hlt2 => by rw [hd2]; exact t7 rfl (fun e => by rw [e] at t2; simp at t2; omega)), List.flatMap_cons, List.append_assoc, encR_fill, hd, ← t8 zs hz hd2, ← c2, List.take_left, a1, b1, c1, hk1, c2]
              · rw [if_neg hfl] at h; cases h
          · rw [if_neg hk1] at h
            have hk0 : kd = 0 := by omega
            rw [if_pos hk0] at b2
            obtain ⟨m, rfl⟩ : ∃ m : Nat, k = (m : Int) := ⟨k.toNat, by omega⟩
            rw [Int.toNat_natCast] at h
            obtain ⟨tl, t1, t2, t3, t4, t5, t6, t7, t8⟩ := ih (pos + m) 0 acc acc' r2 r h hb2 (by omega) (by omega) (fun s hs => by have := ha s hs; omega)
            rw [lay_add pos m acc ha, List.append_assoc] at t1
            have hz0 : zrs (List.replicate m 0 ++ tl) = m := by rw [zrs_rep, zrs_none (t6 rfl)]; omega
            refine ⟨List.replicate m 0 ++ tl, t1, by rw [List.length_append, List.length_replicate]; omega, t3, t4, byt_app (byt_rep m) t5, ?_, ?_, ?_⟩
            · intro hl0 _; omega
            · intro _ _; rw [hz0]; omega
            · intro zs hz hd
              have hd2 : zs.drop (pos + m) = tl := by
                rw [← List.drop_drop, hd, List.drop_left' (by rw [List.length_replicate])]
              rw [cuts_hole (k := m) (by omega) (by rw [hd, hz0]) (by omega), List.flatMap_cons, List.append_assoc, encR_hole, ← t8 zs hz hd2, a1, b1, hk0]
    · rw [if_neg hlt] at h
      exact stop pos last acc acc' bs r (by omega) h hb ha
theorem dataR_inv {bs r : List Int} {d : Nat × List Sg} (h : dataR bs = .ok (d, r)) (hb : Byt bs) : bs = encD (layD d.1 d.2) ++ r ∧ d.1 ≤ 16777216 ∧ (layD d.1 d.2).length = d.1 ∧ Byt (layD d.1 d.2) ∧ Byt r := by
  unfold dataR at h
  cases h1 : wholeR 4 0 16777216 bs with
  | error e => rw [h1] at h; cases h
  | ok x1 =>
    obtain ⟨n, r1⟩ := x1
    rw [h1] at h
    simp only at h
    obtain ⟨a1, a2, a3, -, -, hb1⟩ := whole_inv h1 hb
    obtain ⟨m, rfl⟩ : ∃ m : Nat, n = (m : Int) := ⟨n.toNat, by omega⟩
    rw [Int.toNat_natCast] at h
    cases h2 : dataL m m 0 (-1) [] r1 with
    | error e => rw [h2] at h; cases h
    | ok x2 =>
      obtain ⟨l, r2⟩ := x2
      rw [h2] at h
      cases h
      obtain ⟨tl, t1, t2, t3, t4, t5, -, -, t8⟩ := dataL_inv m m 0 (-1) [] l r1 r h2 hb1 (by omega) (by omega) (fun s hs => by cases hs)
      have hl : layD m l = tl := t1
      have hlen : (layD m l).length = m := layD_len m l t3
      have h9 := t8 (layD m l) hlen (by rw [List.drop_zero, hl])
      refine ⟨?_, by omega, hlen, by rw [hl]; exact t5, t4⟩
      unfold encD cuts
      rw [hlen, List.append_assoc, ← h9]
      exact a1
theorem mode_inv {bs r : List Int} {ms : Int × Int} (h : modeR bs = .ok (ms, r)) (hb : Byt bs) : bs = numL 2 ms.1 ++ (numL 8 ms.2 ++ r) ∧ 0 ≤ ms.1 ∧ ms.1 ≤ 4095 ∧ 0 ≤ ms.2 ∧ ms.2 < 18446744073709551616 ∧ Byt r := by
  unfold modeR at h
  cases h1 : wholeR 2 0 4095 bs with
  | error e => rw [h1] at h; cases h
  | ok x1 =>
    obtain ⟨m, r1⟩ := x1
    rw [h1] at h
    simp only at h
    obtain ⟨a1, a2, a3, -, -, hb1⟩ := whole_inv h1 hb
    cases h2 : numR 8 r1 with
    | error e => rw [h2] at h; cases h
    | ok x2 =>
      obtain ⟨s, r2⟩ := x2
      rw [h2] at h
      cases h
      obtain ⟨b1, b2, b3, hb2⟩ := num_inv h2 hb1
      rw [p8] at b3
      exact ⟨by rw [a1, b1], a2, a3, b2, b3, hb2⟩
theorem names_inv {ahead ns : List ByteArray} {d : Nat} {bs r : List Int} (h : namesR ahead d bs = .ok (ns, r)) (hb : Byt bs) :
    ∃ nm, ns = ahead.take d ++ [nm] ∧ bs = numL 1 (nm.size : Int) ++ (numsS nm ++ r) ∧ Pt.upB nm = false ∧ Pt.joE ns = 0 ∧ aheadB ahead d nm = true ∧ Byt r := by
  unfold namesR at h
  cases h1 : wholeR 1 1 63 bs with
  | error e => rw [h1] at h; cases h
  | ok x1 =>
    obtain ⟨n, r1⟩ := x1
    rw [h1] at h
    simp only at h
    obtain ⟨a1, a2, a3, -, -, hb1⟩ := whole_inv h1 hb
    obtain ⟨m, rfl⟩ : ∃ m : Nat, n = (m : Int) := ⟨n.toNat, by omega⟩
    rw [Int.toNat_natCast] at h
    cases h2 : takeR m r1 with
    | error e => rw [h2] at h; cases h
    | ok x2 =>
      obtain ⟨b, r2⟩ := x2
      rw [h2] at h
      simp only at h
      obtain ⟨b1, b2, bb, hb2⟩ := take_inv h2 hb1
      split at h
      · rename_i hc
        cases h
        rw [Bool.and_eq_true, Bool.and_eq_true, Bool.not_eq_true', decide_eq_true_eq] at hc
        refine ⟨strOfNums b, rfl, ?_, hc.1.1, hc.1.2, hc.2, hb2⟩
        rw [nums_str bb, strOfNums_size, b2, a1, b1]
      · cases h
theorem target_inv {bs r : List Int} {t : ByteArray} (h : targetR bs = .ok (t, r)) (hb : Byt bs) : bs = numL 1 (t.size : Int) ++ (numsS t ++ r) ∧ 1 ≤ t.size ∧ t.size ≤ 127 ∧ Pt.zeroB t = false ∧ Byt r := by
  unfold targetR at h
  cases h1 : wholeR 1 1 127 bs with
  | error e => rw [h1] at h; cases h
  | ok x1 =>
    obtain ⟨n, r1⟩ := x1
    rw [h1] at h
    simp only at h
    obtain ⟨a1, a2, a3, -, -, hb1⟩ := whole_inv h1 hb
    obtain ⟨m, rfl⟩ : ∃ m : Nat, n = (m : Int) := ⟨n.toNat, by omega⟩
    rw [Int.toNat_natCast] at h
    cases h2 : takeR m r1 with
    | error e => rw [h2] at h; cases h
    | ok x2 =>
      obtain ⟨b, r2⟩ := x2
      rw [h2] at h
      simp only at h
      obtain ⟨b1, b2, bb, hb2⟩ := take_inv h2 hb1
      split at h
      · cases h
      · rename_i hc
        cases h
        have hs : (strOfNums b).size = m := by rw [strOfNums_size]; exact b2
        refine ⟨?_, by omega, by omega, by simpa using hc, hb2⟩
        rw [nums_str bb, hs, a1, b1]
theorem joE_nv {ns : List ByteArray} (h : Pt.joE ns = 0) (hu : ∀ x ∈ ns, Pt.upB x = false) : Nv ns := by
  unfold Pt.joE at h
  split at h
  · cases h
  · rename_i hb
    split at h
    · cases h
    · split at h
      · cases h
      · refine ⟨fun x hx => ?_, by omega, by omega⟩
        have h1 : Pt.badB x = false := by
          cases hc : Pt.badB x with
          | false => rfl
          | true => exact absurd (List.any_eq_true.2 ⟨x, hx, hc⟩) hb
        unfold Pt.badB at h1
        rw [hu x hx] at h1
        simpa using h1
theorem Nv.nms2 {ns : List ByteArray} (h : Nv ns) : nmsB (Pt.tg ns) = true := by
  unfold nmsB
  rw [h.sp.1, h.sp.2, h.cl]
  have : ns.any Pt.upB = false := by
    rw [List.any_eq_false]
    intro x hx
    rw [(good_facts (h.good x hx)).2.2.2.1]
    decide
  rw [this]
  simp
/-- A piece that is read is the one that would be laid. -/
theorem piece_inv {ahead : List ByteArray} {d : Nat} {bs r : List Int} {p : Pc} (h : pieceR ahead d bs = .ok (p, r)) (hb : Byt bs) (ha : Nv ahead) (hd : d ≤ ahead.length) (d0 : Bool) (hdd : (d : Int) ≤ deepB ahead.length d0) :
    numL 1 (d : Int) ++ bs = encL (leafOf p) ++ r ∧ okL ahead d0 (leafOf p) = true ∧ Pt.spN (leafOf p).path = p.names ∧ Nv p.names ∧ Byt r ∧ Lok (leafOf p) := by
  unfold pieceR at h
  cases h1 : wholeR 1 1 3 bs with
  | error e => rw [h1] at h; cases h
  | ok x1 =>
    obtain ⟨ty, r1⟩ := x1
    rw [h1] at h
    simp only at h
    obtain ⟨a1, a2, a3, -, -, hb1⟩ := whole_inv h1 hb
    cases h2 : modeR r1 with
    | error e => rw [h2] at h; cases h
    | ok x2 =>
      obtain ⟨ms, r2⟩ := x2
      rw [h2] at h
      simp only at h
      obtain ⟨b1, b2, b3, b4, b5, hb2⟩ := mode_inv h2 hb1
      cases h3 : namesR ahead d r2 with
      | error e => rw [h3] at h; cases h
      | ok x3 =>
        obtain ⟨ns, r3⟩ := x3
        rw [h3] at h
        simp only at h
        obtain ⟨nm, c1, c2, c3, c4, c5, hb3⟩ := names_inv h3 hb2
        have hnv : Nv ns := joE_nv c4 (by
          intro x hx
          rw [c1] at hx
          rcases List.mem_append.1 hx with hx | hx
          · exact (good_facts (ha.good x (List.mem_of_mem_take hx))).2.2.2.1
          · rw [List.mem_singleton.1 hx]; exact c3)
        have hlen : ns.length - 1 = d := by rw [c1, List.length_append, List.length_take, List.length_singleton]; omega
        have hlen1 : 1 ≤ ns.length := by rw [c1, List.length_append, List.length_singleton]; omega
        have hlast : ns.getD (ns.length - 1) ByteArray.empty = nm := by
          rw [hlen, c1, List.getD_eq_getElem?_getD, List.getElem?_append_right (by rw [List.length_take]; omega), List.length_take, show d - min d ahead.length = 0 by omega]
          rfl
        have htk : ns.take (ns.length - 1) = ahead.take (ns.length - 1) := by
          rw [hlen, c1, List.take_left' (by rw [List.length_take]; omega)]
        have hfol : folB ahead d0 ns = true := by
          unfold folB
          rw [hlast, htk, hlen, c5]
          have q1 : ((ns.length : Int) - 1 ≤ deepB ahead.length d0) := by omega
          simp [hlen1, q1]
        have key : ∀ (tg : ByteArray) (n : Nat) (sg : List Sg) (X : List Int), r3 = encB ty (layD n sg) tg ++ X → bodB ty ms.1 (layD n sg).length tg = true →
            numL 1 (d : Int) ++ bs = encL (leafOf ⟨ns, ty, ms.1, ms.2, tg, n, sg⟩) ++ X ∧ okL ahead d0 (leafOf ⟨ns, ty, ms.1, ms.2, tg, n, sg⟩) = true ∧ Pt.spN (leafOf ⟨ns, ty, ms.1, ms.2, tg, n, sg⟩).path = ns ∧ Nv ns := by
          intro tg n sg X e1 e2
          have hsp : Pt.spN (Pt.tg ns) = ns := hnv.sp.2
          refine ⟨?_, ?_, hsp, hnv⟩
          · unfold encL leafOf
            simp only
            rw [hsp, hlast, hlen, encP_app, a1, b1, c2, e1]
          · unfold okL leafOf
            simp only
            rw [hsp, hnv.nms2, e2, hfol]
            rfl
        by_cases ht1 : ty = 1
        · rw [if_pos ht1] at h
          cases h4 : dataR r3 with
          | error e => rw [h4] at h; cases h
          | ok x4 =>
            obtain ⟨dd, r4⟩ := x4
            rw [h4] at h
            cases h
            obtain ⟨e1, e2, e3, e4, e5⟩ := dataR_inv h4 hb3
            obtain ⟨k1, k2, k3, k4⟩ := key ⟨#[]⟩ dd.1 dd.2 r (by unfold encB; rw [if_pos ht1]; exact e1) (by
              unfold bodB typB datB tarB
              rw [if_pos ht1, if_neg (by omega), e3]
              simp [ht1, b2, b3, e2]
              rfl)
            exact ⟨k1, k2, k3, k4, e5, ⟨b4, b5, e4⟩⟩
        · rw [if_neg ht1] at h
          by_cases ht3 : ty = 3
          · rw [if_pos ht3] at h
            cases h4 : targetR r3 with
            | error e => rw [h4] at h; cases h
            | ok x4 =>
              obtain ⟨t, r4⟩ := x4
              rw [h4] at h
              cases h
              obtain ⟨e1, e2, e3, e4, e5⟩ := target_inv h4 hb3
              obtain ⟨k1, k2, k3, k4⟩ := key t 0 [] r (by unfold encB; rw [if_neg ht1, if_pos ht3, List.append_assoc]; exact e1) (by
                unfold bodB typB datB tarB
                rw [if_neg ht1, if_pos ht3, e4]
                simp [ht3, b2, b3, e2, e3, layD])
              exact ⟨k1, k2, k3, k4, e5, ⟨b4, b5, fun y hy => by cases hy⟩⟩
          · rw [if_neg ht3] at h
            cases h
            obtain ⟨k1, k2, k3, k4⟩ := key ⟨#[]⟩ 0 [] r (by unfold encB; rw [if_neg ht1, if_neg ht3]; rfl) (by
              unfold bodB typB datB tarB
              rw [if_neg ht1, if_neg ht3]
              have : ty = 2 := by omega
              simp [this, b2, b3, layD]
              rfl)
            exact ⟨k1, k2, k3, k4, hb3, ⟨b4, b5, fun y hy => by cases hy⟩⟩
theorem pieces_inv : ∀ (f : Nat) (a : Pc) (acc out : List Pc) (bs r : List Int), piecesL f a acc bs = .ok (out, r) → Byt bs → Nv a.names →
    ∃ ps, out = acc ++ ps ∧ bs = (ps.map leafOf).flatMap encL ++ (numL 1 255 ++ r) ∧ Chn a.names (a.ty == 2) (ps.map leafOf) ∧ Byt r ∧ ∀ p ∈ ps, Lok (leafOf p)
  | 0, a, acc, out, bs, r, h, _, _ => by rw [piecesL] at h; cases h
  | f + 1, a, acc, out, bs, r, h, hb, hn => by
    rw [piecesL] at h
    cases h1 : numR 1 bs with
    | error e => rw [h1] at h; cases h
    | ok x1 =>
      obtain ⟨d, r1⟩ := x1
      rw [h1] at h
      simp only at h
      obtain ⟨a1, a2, a3, hb1⟩ := num_inv h1 hb
      by_cases hd : d = 255
      · rw [if_pos hd] at h
        cases h
        exact ⟨[], by rw [List.append_nil], by rw [a1, hd]; rfl, trivial, hb1, fun _ h => by cases h⟩
      · rw [if_neg hd] at h
        by_cases hc : d < 64 ∧ d ≤ a.deep
        · rw [if_pos hc] at h
          cases h2 : pieceR a.names d.toNat r1 with
          | error e => rw [h2] at h; cases h
          | ok x2 =>
            obtain ⟨p, r2⟩ := x2
            rw [h2] at h
            simp only at h
            have hdp : a.deep = deepB a.names.length (a.ty == 2) := by
              unfold Pc.deep deepB
              by_cases h9 : a.ty = 2
              · rw [if_pos h9, if_pos (by rw [h9]; rfl)]
              · rw [if_neg h9, if_neg (by rw [beq_eq_false_iff_ne.2 h9]; decide)]
            have hle : a.deep ≤ a.names.length := by unfold Pc.deep; split <;> omega
            obtain ⟨m, rfl⟩ : ∃ m : Nat, d = (m : Int) := ⟨d.toNat, by omega⟩
            rw [Int.toNat_natCast] at h2
            obtain ⟨k1, k2, k3, k4, k5, k6⟩ := piece_inv h2 hb1 hn (by omega) (a.ty == 2) (by rw [← hdp]; exact hc.2)
            obtain ⟨ps, j1, j2, j3, j4, j5⟩ := pieces_inv f p (acc ++ [p]) out r2 r h k5 k4
            refine ⟨p :: ps, by rw [j1, List.append_assoc]; rfl, ?_, ⟨k2, ?_⟩, j4, fun y hy => by rcases List.mem_cons.1 hy with rfl | hy; exact k6; exact j5 y hy⟩
            · rw [List.map_cons, List.flatMap_cons, List.append_assoc, ← j2, a1, k1]
            · rw [k3]; exact j3
        · rw [if_neg hc] at h; cases h
theorem nv_nil2 : Nv [] := ⟨fun x hx => (by cases hx), (by simp), (by decide)⟩
/-- What is read is just what would be laid of it. -/
theorem open_pack {row : List Int} {ps : List Pc} (h : openR row = .ok ps) (hb : Byt row) : packM (ps.map leafOf) = .ok row ∧ ∀ p ∈ ps, Lok (leafOf p) := by
  unfold openR at h
  cases h1 : piecesR row with
  | error e => rw [h1] at h; cases h
  | ok x1 =>
    obtain ⟨l, r⟩ := x1
    rw [h1] at h
    simp only at h
    cases h2 : numR 4 r with
    | error e => rw [h2] at h; cases h
    | ok x2 =>
      obtain ⟨s, r2⟩ := x2
      rw [h2] at h
      simp only at h
      by_cases hs : s = ((sumL (nats (row.take (row.length - r.length))) : Nat) : Int)
      · rw [if_pos hs] at h
        by_cases hr2 : r2 = []
        · rw [if_pos hr2] at h
          cases h
          unfold piecesR at h1
          split at h1
          · rename_i h5
            cases h3 : modeR (row.drop 5) with
            | error e => rw [h3] at h1; cases h1
            | ok x3 =>
              obtain ⟨ms, r3⟩ := x3
              rw [h3] at h1
              simp only at h1
              obtain ⟨b1, b2, b3, b4, b5, hb2⟩ := mode_inv h3 (byt_drop hb 5)
              obtain ⟨qs, j1, j2, j3, j4, j5⟩ := pieces_inv _ _ _ _ _ _ h1 hb2 nv_nil2
              obtain ⟨k1, k2, k3, k4⟩ := num_inv h2 j4
              have hrow : row = headW (leafOf (rootP ms.1 ms.2)) ++ (qs.map leafOf).flatMap encL ++ numL 1 255 ++ r := by
                rw [← List.take_append_drop 5 row, h5, b1, j2]
                unfold headW leafOf rootP
                simp only
                rw [show numL 1 1 = [1] from rfl]
                simp only [List.append_assoc, List.cons_append, List.nil_append]
              have hr : r = numL 4 s := by rw [k1, hr2, List.append_nil]
              have htake : row.take (row.length - r.length) = headW (leafOf (rootP ms.1 ms.2)) ++ (qs.map leafOf).flatMap encL ++ numL 1 255 := by
                conv => lhs; rw [hrow]
                rw [List.length_append, Nat.add_sub_cancel, List.take_left' rfl]
              rw [htake] at hs
              have hlk : ∀ p ∈ ps, Lok (leafOf p) := by
                intro y hy
                rw [j1] at hy
                rcases List.mem_append.1 hy with hy | hy
                · rw [List.mem_singleton.1 hy]
                  exact ⟨b4, b5, fun y hy => by cases hy⟩
                · exact j5 y hy
              refine ⟨?_, hlk⟩
              clear hlk
              rw [j1, List.map_append, List.map_cons, List.map_nil]
              show packM (leafOf (rootP ms.1 ms.2) :: qs.map leafOf) = .ok row
              rw [pack_iff]
              refine ⟨?_, ?_, j3, ?_⟩
              · have h8 : (Pt.tg []).toList = [47] := by rw [Pt.toList_data]; rfl
                unfold rootB leafOf rootP
                simp only
                rw [h8]
                rfl
              · unfold bodB typB datB tarB leafOf rootP
                simp [b2, b3, layD]
                rfl
              · unfold sealW
                rw [← hs, ← hr]
                exact hrow
          · cases h1
        · rw [if_neg hr2] at h; cases h
      · rw [if_neg hs] at h; cases h
theorem openR_er {bs : List Int} {x : Int} (h : openR bs = .error x) : Er x := by
  unfold openR at h
  split at h
  · rename_i h1; cases h; exact piecesR_er h1
  · split at h
    · rename_i h1; cases h; exact numR_er h1
    · split at h
      · split at h
        · cases h
        · cases h; exact er0
      · cases h; exact er2
theorem LsOn.rdl {w : World} {B : Nat} {v : Value} {es : List Le} (h : LsOn w B v es) (hl : ∀ x ∈ es, Lok x.l) (ht : ∀ x ∈ es, x.l.path.size ≤ 9223372036854775807 ∧ x.l.target.size ≤ 200000000000000 ∧ x.l.data.length ≤ 16777216) : RdL w w.heap.size v es := by
  refine ⟨?_, fun x hx => ?_, fun x hx => ⟨(hl x hx).s0, (hl x hx).s1⟩, ht⟩
  · rcases h.own.2 with ⟨hv, h0⟩ | ⟨g, cap, cur, hv, _, hg, c1, c2, _⟩
    · exact ⟨none, 0, by rw [hv, h0], by omega, by omega, fun h9 => by omega⟩
    · refine ⟨_, _, hv, c1, by unfold maxLen at c2; omega, fun _ => ⟨g, 0, rfl, (Array.getElem?_eq_some_iff.1 hg).1, fun k hk j hj => ?_⟩⟩
      have hw := h.own
      rw [hv] at hw
      rw [Nat.zero_add, World.ownsRow.cellAt hw (k * 6 + j) (by omega), lflat_cell es k j hk hj, List.getElem?_eq_getElem hk]
      rfl
  · have ho := h.oks x hx
    rcases ho.2 with ⟨hv, h0⟩ | ⟨g, cap, cur, hv, _, hg, c1, c2, _⟩
    · have hz : x.l.data = [] := List.eq_nil_of_length_eq_zero h0
      exact ⟨none, 0, 0, hv, by rw [hz]; exact ⟨rfl, (fun y hy => by cases hy), fun _ => rfl, fun _ h9 => by cases h9⟩, Nat.le_refl _, by omega, fun _ h9 => by cases h9⟩
    · have ho2 : Own w B g x.l.data.length cap x.l.data := by
        unfold DtOn at ho
        rw [hv] at ho
        exact ho
      have hr := ho2.reads (hl x hx).byt x.l.data.length (Nat.le_refl _)
      rw [List.take_length] at hr
      exact ⟨_, _, _, hv, hr, c1, by unfold maxLen at c2; omega, fun y hy _ => by cases hy; exact (Array.getElem?_eq_some_iff.1 hg).1⟩
theorem chn_bod : ∀ (A : List Lf) (p : List ByteArray) (d : Bool), Chn p d A → ∀ l ∈ A, nmsB l.path = true ∧ bodB l.ty l.mode l.data.length l.target = true
  | [], _, _, _ => fun _ h => by cases h
  | l :: A, p, d, h => by
    intro x hx
    rcases List.mem_cons.1 hx with rfl | hx
    · exact ⟨(okL_fol h.1).1, (okL_fol h.1).2.1⟩
    · exact chn_bod A _ _ h.2 x hx
theorem encL_13 (l : Lf) : 13 ≤ (encL l).length := by
  unfold encL encP
  simp only [List.length_append, numL_length]
  omega
theorem flat_13 : ∀ r : List Lf, 13 * r.length ≤ (r.flatMap encL).length
  | [] => Nat.le_refl _
  | l :: r => by
    have h1 := flat_13 r
    have h2 := encL_13 l
    rw [List.flatMap_cons, List.length_append, List.length_cons]
    omega
theorem szL_16 : ∀ r : List Lf, (∀ l ∈ r, l.data.length ≤ 16777216) → szL r ≤ 100663596 * r.length
  | [], _ => Nat.le_refl _
  | l :: r, h => by
    have h1 := szL_16 r (fun x hx => h x (List.mem_cons_of_mem _ hx))
    have h2 := h l List.mem_cons_self
    rw [szL, List.length_cons]
    omega
/-- Of a tree that has a row: what its leaves are. -/
theorem pack_facts {es : List Lf} {row : List Int} (h : packM es = .ok row) (hn : row.length ≤ 4194304) : (∀ l ∈ es, l.path.size ≤ 1023 ∧ l.target.size ≤ 127 ∧ l.data.length ≤ 16777216) ∧ szL es ≤ 38000000000000 ∧ 20 ≤ row.length := by
  cases es with
  | nil => cases h
  | cons l r =>
    obtain ⟨h1, h2, h3, h4⟩ := (pack_iff l r row).1 h
    have hb := bod_facts h2
    have hroot : l.path.size = 1 := by
      unfold rootB at h1
      rw [Bool.and_eq_true, decide_eq_true_eq, Pt.toList_data] at h1
      have : l.path.size = l.path.data.toList.length := rfl
      rw [this, h1.1]
      rfl
    have hall : ∀ x ∈ l :: r, x.path.size ≤ 1023 ∧ x.target.size ≤ 127 ∧ x.data.length ≤ 16777216 := by
      intro x hx
      rcases List.mem_cons.1 hx with rfl | hx
      · exact ⟨by omega, hb.2.2.2.2.1, hb.2.2.2.2.2.2⟩
      · obtain ⟨q1, q2⟩ := chn_bod r _ _ h3 x hx
        have q3 := bod_facts q2
        exact ⟨(Pt.sp_facts (nms_facts q1).1).2.2.1, q3.2.2.2.2.1, q3.2.2.2.2.2.2⟩
    have hlen : row.length = 20 + (r.flatMap encL).length := by
      rw [h4, sealW_len, List.length_append]
      unfold headW
      simp only [List.length_append, numL_length, List.length_cons, List.length_nil]
      omega
    have h5 := flat_13 r
    have h6 := szL_16 (l :: r) (fun x hx => (hall x hx).2.2)
    rw [List.length_cons] at h6
    exact ⟨hall, by omega, by omega⟩
theorem cn_pack (S : List Int) (ps : List Pc) (v : Value) (es : List Le) (B : Nat) (u : World) (hb : Byt S) (hn : S.length ≤ 4194304) (ho : openR S = .ok ps) (he : es.map Le.l = ps.map leafOf) (hl : LsOn u B v es) (ht : Tab u) :
    Calls Tryz.prog 7 #[v] u fun e u' => ∃ g cap, e = .returned (.tuple #[.slice (some ⟨g, 0, none⟩) S.length cap, .int .i64 0]) ∧ Reads u' (some ⟨g, 0, none⟩) S.length S ∧ Below u.heap.size u u' := by
  obtain ⟨hp, hk⟩ := open_pack ho hb
  rw [← he] at hp
  have hlk : ∀ x ∈ es, Lok x.l := by
    intro x hx
    have h1 : x.l ∈ ps.map leafOf := by rw [← he]; exact List.mem_map_of_mem hx
    obtain ⟨p, hp1, hp2⟩ := List.mem_map.1 h1
    rw [← hp2]
    exact hk p hp1
  obtain ⟨f1, f2, f3⟩ := pack_facts hp hn
  have R := hl.rdl hlk (fun x hx => by have := f1 x.l (List.mem_map_of_mem hx); omega)
  refine (pack_any v es u R f2 ht).mono ?_
  rintro e u' ⟨hv, hb2⟩
  rw [hp] at hv
  obtain ⟨g, cap, he2, ho2⟩ := hv
  have hr := ho2.reads hb S.length (Nat.le_refl _)
  rw [List.take_length] at hr
  exact ⟨g, cap, he2, hr, hb2⟩
set_option maxHeartbeats 2000000 in
set_option maxRecDepth 100000 in
theorem canon_err (v : Value) (es : List Le) (z y hw x : Int) (w : World) (h : RdL w w.heap.size v es) (hT : Tab w) (hsz : szL (es.map Le.l) ≤ 38000000000000) (hp : packM (es.map Le.l) = .error x) :
    Calls Tryz.prog 4 #[v, .int .i64 z, .int .u8 y, .int .i64 hw] w fun e w' => e = .returned (.bool true) ∧ Below w.heap.size w w' := by
  have hx := packM_err _ _ hp
  have HT := hide hT
  have HP := hide hp
  have HR := hide h
  have HZ := hide hsz
  obtain ⟨a, c, rfl, _⟩ := h.shape
  clear hT hp h hsz
  go_enter Tryz.func4, Tryz.ntmps4
  go_wp2_with (first
      | (go_at_call 5; refine (heads_any _ HT.out).mono ?_; rintro e u0 ⟨rfl, hb0⟩; have HB0 := hide hb0; clear hb0)
      | (go_at_call 8; refine (lno_any _ _).mono ?_; rintro e u9 ⟨rfl, rfl⟩)
      | (go_at_call 7; refine (pack_any _ es _ (HR.out.up HB0.out) HZ.out (HT.out.below HB0.out)).mono ?_; rintro e u1 ⟨hv, hb1⟩
         rw [HP.out] at hv
         have hv2 : e = .returned (.tuple #[.slice none 0 0, .int .i64 x]) := hv
         subst hv2
         have HB1 := hide (bel_up HB0.out hb1 HB0.out.size)
         clear hv hb1))
  go_ret
  exact ⟨rfl, HB1.out⟩

set_option maxHeartbeats 2000000 in
set_option maxRecDepth 100000 in
theorem canon_far (v : Value) (es : List Le) (row : List Int) (z y hw : Int) (w : World) (h : RdL w w.heap.size v es) (hT : Tab w) (hsz : szL (es.map Le.l) ≤ 38000000000000) (hp : packM (es.map Le.l) = .ok row) (hms : row.length ≤ 4194300) (h20 : 20 ≤ row.length) (hz : z < 0 ∨ (0 ≤ z ∧ (row.length : Int) - 4 ≤ z)) :
    Calls Tryz.prog 4 #[v, .int .i64 z, .int .u8 y, .int .i64 hw] w fun e w' => e = .returned (.bool true) ∧ Below w.heap.size w w' := by
  obtain ⟨m, hm⟩ : ∃ m, row.length = m := ⟨_, rfl⟩
  have HT := hide hT
  obtain ⟨a, c, hv, -⟩ := h.shape
  obtain ⟨n, hn⟩ : ∃ n, es.length = n := ⟨_, rfl⟩
  have HPK := fun (u : World) (hb : Below w.heap.size w u) => bk_packed w u v es row h hT hb hp hsz
  rw [hv, hn, hm] at HPK
  rw [hm] at hz hms h20
  rw [hv, hn]
  have HPK := hide HPK
  have i4 : ¬ (m : Int) < 4 := by omega
  have q2 : IntKind.i64.wrap ((m : Int) - 4) = (m : Int) - 4 := by rw [IntKind.wrap_i64]; omega
  clear hT hp h hsz hm hn hv
  go_enter Tryz.func4, Tryz.ntmps4
  rcases hz with k1 | ⟨k2, k3⟩
  · go_wp2_with (first
      | (go_at_call 5; refine (heads_any _ HT.out).mono ?_; rintro e u0 ⟨rfl, hb0⟩; have HB0 := hide hb0; clear hb0)
      | (go_at_call 8; refine (lno_any _ _).mono ?_; rintro e u9 ⟨rfl, rfl⟩)
      | (go_at_call 7; refine (HPK.out _ HB0.out).mono ?_; rintro e u1 ⟨g, cap, rfl, hs⟩
         have HS := hide hs
         clear hs HPK HB0))
    go_ret
    exact ⟨rfl, HS.out.below⟩
  · have k1 : ¬ z < 0 := by omega
    go_wp2_with (first
      | (go_at_call 5; refine (heads_any _ HT.out).mono ?_; rintro e u0 ⟨rfl, hb0⟩; have HB0 := hide hb0; clear hb0)
      | (go_at_call 8; refine (lno_any _ _).mono ?_; rintro e u9 ⟨rfl, rfl⟩)
      | (go_at_call 7; refine (HPK.out _ HB0.out).mono ?_; rintro e u1 ⟨g, cap, rfl, hs⟩
         have HS := hide hs
         clear hs HPK HB0))
    go_ret
    exact ⟨rfl, HS.out.below⟩

theorem own_all_reads {u : World} {B g l cp : Nat} {xs : List Int} (h : Own u B g l cp xs) (hb : Byt xs) : Reads u (some ⟨g, 0, none⟩) l xs := by
  have hl : xs.length = l := h.len
  have hr := h.reads hb l (Nat.le_refl _)
  rw [List.take_of_length_le (by omega)] at hr
  exact hr
set_option maxHeartbeats 4000000 in
set_option maxRecDepth 100000 in
theorem canon_two_bad (v : Value) (es : List Le) (row : List Int) (k : Nat) (y hw : Int) (w : World) (h : RdL w w.heap.size v es) (hT : Tab w) (hsz : szL (es.map Le.l) ≤ 38000000000000) (hp : packM (es.map Le.l) = .ok row) (hms : row.length ≤ 4194300) (h20 : 20 ≤ row.length) (hk : k + 4 < row.length) (hy : 0 ≤ y ∧ y ≤ 255) (hhw : hw = 2) (x : Int) (hro : openR (sealL (row.take k ++ (row.drop (k + 1)).take (row.length - 4 - (k + 1)))) = .error x) :
    Calls Tryz.prog 4 #[v, .int .i64 (k : Int), .int .u8 y, .int .i64 hw] w fun e w' => e = .returned (.bool true) ∧ Below w.heap.size w w' := by
  obtain ⟨m, hm⟩ : ∃ m, row.length = m := ⟨_, rfl⟩
  have HT := hide hT
  have HP := hide hp
  have HM := hide hm
  have HY := hide hy
  have hby := (pack_open _ _ hp h.lok).1
  obtain ⟨a, c, hv, -⟩ := h.shape
  obtain ⟨n, hn⟩ : ∃ n, es.length = n := ⟨_, rfl⟩
  have HPK := fun (u : World) (hb : Below w.heap.size w u) => bk_packed w u v es row h hT hb hp hsz
  rw [hv, hn, hm] at HPK
  rw [hm] at hms h20 hk hro
  rw [hv, hn]
  have HPK := hide HPK
  have HRO := hide hro
  have hxne := (openR_er hro).ne
  have HYK : Hid (0 ≤ row.getD k 0 ∧ row.getD k 0 ≤ 255) := hby _ (by rw [List.getD_eq_getElem?_getD, List.getElem?_eq_getElem (by omega)]; exact List.getElem_mem _)
  have hbx : Byt (row.take k ++ (row.drop (k + 1)).take (m - 4 - (k + 1))) := byt_app (byt_take hby _) (byt_take (byt_drop hby _) _)
  have hlx : (row.take k ++ (row.drop (k + 1)).take (m - 4 - (k + 1))).length = k + (m - 4 - (k + 1)) := by simp; omega
  have HRC : Hid (∀ (g : Nat) {u : World}, Reads u (some ⟨g, 0, none⟩) m row → Reads u (some ⟨g, k + 1, none⟩) (m - 4 - (k + 1)) ((row.drop (k + 1)).take (m - 4 - (k + 1)))) := fun g u hr => (hr.cut (k + 1) 0 (by omega)).front (m - 4 - (k + 1)) (by omega)
  have HRX : Hid (∀ (u : World) (B g l cp : Nat), Own u B g l cp (row.take k ++ (row.drop (k + 1)).take (m - 4 - (k + 1))) → Reads u (some ⟨g, 0, none⟩) l (row.take k ++ (row.drop (k + 1)).take (m - 4 - (k + 1)))) := fun u B g l cp ho => own_all_reads ho hbx
  have HRS : Hid (∀ (u : World) (B g cp : Nat), Own u B g (k + (m - 4 - (k + 1)) + 4) cp (sealL (row.take k ++ (row.drop (k + 1)).take (m - 4 - (k + 1)))) → Reads u (some ⟨g, 0, none⟩) (k + (m - 4 - (k + 1)) + 4) (sealL (row.take k ++ (row.drop (k + 1)).take (m - 4 - (k + 1))))) := fun u B g cp ho => own_all_reads ho (byt_app hbx (by rw [← le4_num]; exact numL_byt _ _))
  have i4 : ¬ (m : Int) < 4 := by omega
  have q2 : IntKind.i64.wrap ((m : Int) - 4) = ((m - 4 : Nat) : Int) := by rw [IntKind.wrap_i64]; omega
  have q1 : IntKind.i64.wrap ((k : Int) + 1) = ((k + 1 : Nat) : Int) := by rw [IntKind.wrap_i64]; omega
  have k0 : ¬ (k : Int) < 0 := by omega
  have k1 : ¬ ((m - 4 : Nat) : Int) ≤ (k : Int) := by omega
  have k2 : (0 : Int) ≤ (k : Int) := by omega
  have k3 : (0 : Int) ≤ ((k + 1 : Nat) : Int) := by omega
  have k4 : ((k + 1 : Nat) : Int) ≤ ((m - 4 : Nat) : Int) := by omega
  have k5 : (k : Int) < (m : Int) := by omega
  subst hhw
  have TA : Hid True := trivial
  have TQ : Hid True := trivial
  clear hT hp h hsz hm hn hv hro hy hby hbx hlx
  go_enter Tryz.func4, Tryz.ntmps4
  go_wp2_with (first
      | (go_at_call 5; refine (heads_any _ HT.out).mono ?_; rintro e u0 ⟨rfl, hb0⟩; have HB0 := hide hb0; clear hb0)
      | (go_at_call 8; refine (lno_any _ _).mono ?_; rintro e u9 ⟨rfl, rfl⟩)
      | (go_at_call 7; have zz := TQ; clear TQ zz; refine (HPK.out _ HB0.out).mono ?_; rintro e u1 ⟨g, cap, rfl, hs⟩
         have kc2 : (k : Int) ≤ (cap : Int) := by have := hs.c1; omega
         have kc3 : ((m - 4 : Nat) : Int) ≤ (cap : Int) := by have := hs.c1; omega
         have kc4 : ¬ cap = k + 1 := by have := hs.c1; omega
         have kc5 : ¬ k + 1 = cap := by have := hs.c1; omega
         have kc6 : k + 1 < cap := by have := hs.c1; omega
         have HS := hide hs
         clear hs HPK HB0)
      | (at_builtin; have zz := TA; clear TA zz; refine wpList_append_reads rfl (.tmp 38) (.tmp 41) rfl u9.heap.size (.slice (some ⟨u9.heap.size, 0, none⟩) 0 0) 0 [] rfl (own_nought u9 u9.heap.size rfl) (some ⟨g, 0, none⟩) k cap (row.take k) rfl ((HS.out.row.front k (by omega)).below (below_alloc _ _)) (by omega) (by simp) ?_; intro v1 t1 own1 grow1; simp only [Nat.zero_add, List.nil_append] at own1
         have TB : Hid True := trivial
         have HB1 : Hid (Below w.heap.size w t1) := (HS.out.below.alloc HS.out.below.size _).grown grow1 (by have := HS.out.below.size; simp; omega) (fun q hq => Nat.le_trans HS.out.below.size ((own_nought u9 u9.heap.size rfl).lt q hq).1)
         have HG1 : Hid (Below u9.heap.size u9 t1) := (below_alloc u9 _).grown grow1 (by simp) (fun q hq => ((own_nought u9 u9.heap.size rfl).lt q hq).1)
         have HO1 : Hid (t1.ownsRow u9.heap.size 5 1 v1 k ((row.take k).map (Value.int .u8))) := own1
         clear own1 grow1)
      | (at_builtin; have zz := TB; clear TB zz; refine wpList_append_reads rfl (.tmp 58) (.tmp 65) rfl u9.heap.size v1 (k) (row.take k) rfl HO1.out (some ⟨g, k + 1, none⟩) (m - 4 - (k + 1)) (cap - (k + 1)) ((row.drop (k + 1)).take (m - 4 - (k + 1))) rfl ((HRC.out _ HS.out.row).below HG1.out) (by omega) (by have := HG1.out.size; omega) ?_; intro v8 t8 own8 grow8; obtain ⟨g8, c8, rfl, hc81, hc82, hg81, hg82⟩ := own_shape own8 (by omega)
         have HG8 : Hid (Below u9.heap.size u9 t8) := HG1.out.grown grow8 (by have := HG1.out.size; omega) (fun q hq => (HO1.out.lt q hq).1)
         have HO8 : Hid (Own t8 u9.heap.size g8 (k + (m - 4 - (k + 1))) c8 (row.take k ++ (row.drop (k + 1)).take (m - 4 - (k + 1)))) := own8
         clear own8 grow8 hc81 hc82 hg81 hg82)
      | (go_at_call 14; refine (sealed_any _ _ _ _ _ (HRX.out _ _ _ _ _ HO8.out) (by omega) ((HS.out.tab).below HG8.out)).mono ?_; rintro e u3 ⟨g3, c3, rfl, own3, b3⟩
         have HB3 : Hid (Below u9.heap.size u9 u3) := bel_up HG8.out b3 HG8.out.size
         have HT3 : Hid (Tab u3) := HS.out.tab.below HB3.out
         obtain ⟨q1', q2', q3', q4', q5', q6', q7'⟩ := own_shape own3 (by omega)
         cases q3'
         have HR3 : Hid (Reads u3 (some ⟨g3, 0, none⟩) (k + (m - 4 - (k + 1)) + 4) (sealL (row.take k ++ (row.drop (k + 1)).take (m - 4 - (k + 1))))) := HRS.out _ _ _ _ own3
         have HL3 : Hid (g3 < u3.heap.size) := q7'
         have HC3 : Hid (k + (m - 4 - (k + 1)) + 4 ≤ c3 ∧ c3 ≤ 9223372036854775807) := ⟨q4', q5'⟩
         clear own3 b3 q4' q5' q6' q7')
      | (go_at_call 15; refine (rlarge_any g3 0 _ c3 _ _ HR3.out HL3.out (by omega) HC3.out.1 HC3.out.2).mono ?_; rintro e u4 ⟨⟨z4, rfl⟩, b4⟩
         have HB4 : Hid (Below u3.heap.size u3 u4) := b4
         clear b4)
      | (go_at_call 10; refine (read_any g3 0 _ c3 _ _ (HR3.out.below HB4.out) (Nat.lt_of_lt_of_le HL3.out HB4.out.size) (by omega) HC3.out.1 HC3.out.2 (HT3.out.below HB4.out)).mono ?_; rintro e u5 ⟨hv, b5⟩
         rw [HRO.out] at hv
         have hv2 : e = .returned (.tuple #[.slice none 0 0, .int .i64 x]) := hv
         subst hv2
         have HB5 : Hid (Below u4.heap.size u4 u5) := b5
         clear hv b5))
  · go_ret
    exact ⟨rfl, bel_up (bel_up HS.out.below HB3.out HS.out.below.size) HB4.out (Nat.le_trans HS.out.below.size HB3.out.size)⟩
  · go_ret
    exact ⟨rfl, bel_up (bel_up (bel_up HS.out.below HB3.out HS.out.below.size) HB4.out (Nat.le_trans HS.out.below.size HB3.out.size)) HB5.out (bel_up (bel_up HS.out.below HB3.out HS.out.below.size) HB4.out (Nat.le_trans HS.out.below.size HB3.out.size)).size⟩

set_option maxHeartbeats 4000000 in
set_option maxRecDepth 100000 in
theorem canon_two_good (v : Value) (es : List Le) (row : List Int) (k : Nat) (y hw : Int) (w : World) (h : RdL w w.heap.size v es) (hT : Tab w) (hsz : szL (es.map Le.l) ≤ 38000000000000) (hp : packM (es.map Le.l) = .ok row) (hms : row.length ≤ 4194300) (h20 : 20 ≤ row.length) (hk : k + 4 < row.length) (hy : 0 ≤ y ∧ y ≤ 255) (hhw : hw = 2) (ps : List Pc) (hro : openR (sealL (row.take k ++ (row.drop (k + 1)).take (row.length - 4 - (k + 1)))) = .ok ps) :
    Calls Tryz.prog 4 #[v, .int .i64 (k : Int), .int .u8 y, .int .i64 hw] w fun e w' => e = .returned (.bool true) ∧ Below w.heap.size w w' := by
  obtain ⟨m, hm⟩ : ∃ m, row.length = m := ⟨_, rfl⟩
  have HT := hide hT
  have HP := hide hp
  have HM := hide hm
  have HY := hide hy
  have hby := (pack_open _ _ hp h.lok).1
  obtain ⟨a, c, hv, -⟩ := h.shape
  obtain ⟨n, hn⟩ : ∃ n, es.length = n := ⟨_, rfl⟩
  have HPK := fun (u : World) (hb : Below w.heap.size w u) => bk_packed w u v es row h hT hb hp hsz
  rw [hv, hn, hm] at HPK
  rw [hm] at hms h20 hk hro
  rw [hv, hn]
  have HPK := hide HPK
  have HRO := hide hro
  have HYK : Hid (0 ≤ row.getD k 0 ∧ row.getD k 0 ≤ 255) := hby _ (by rw [List.getD_eq_getElem?_getD, List.getElem?_eq_getElem (by omega)]; exact List.getElem_mem _)
  have hbx : Byt (row.take k ++ (row.drop (k + 1)).take (m - 4 - (k + 1))) := byt_app (byt_take hby _) (byt_take (byt_drop hby _) _)
  have hlx : (row.take k ++ (row.drop (k + 1)).take (m - 4 - (k + 1))).length = k + (m - 4 - (k + 1)) := by simp; omega
  have HRC : Hid (∀ (g : Nat) {u : World}, Reads u (some ⟨g, 0, none⟩) m row → Reads u (some ⟨g, k + 1, none⟩) (m - 4 - (k + 1)) ((row.drop (k + 1)).take (m - 4 - (k + 1)))) := fun g u hr => (hr.cut (k + 1) 0 (by omega)).front (m - 4 - (k + 1)) (by omega)
  have HRX : Hid (∀ (u : World) (B g l cp : Nat), Own u B g l cp (row.take k ++ (row.drop (k + 1)).take (m - 4 - (k + 1))) → Reads u (some ⟨g, 0, none⟩) l (row.take k ++ (row.drop (k + 1)).take (m - 4 - (k + 1)))) := fun u B g l cp ho => own_all_reads ho hbx
  have HRS : Hid (∀ (u : World) (B g cp : Nat), Own u B g (k + (m - 4 - (k + 1)) + 4) cp (sealL (row.take k ++ (row.drop (k + 1)).take (m - 4 - (k + 1)))) → Reads u (some ⟨g, 0, none⟩) (k + (m - 4 - (k + 1)) + 4) (sealL (row.take k ++ (row.drop (k + 1)).take (m - 4 - (k + 1))))) := fun u B g cp ho => own_all_reads ho (byt_app hbx (by rw [← le4_num]; exact numL_byt _ _))
  have i4 : ¬ (m : Int) < 4 := by omega
  have q2 : IntKind.i64.wrap ((m : Int) - 4) = ((m - 4 : Nat) : Int) := by rw [IntKind.wrap_i64]; omega
  have q1 : IntKind.i64.wrap ((k : Int) + 1) = ((k + 1 : Nat) : Int) := by rw [IntKind.wrap_i64]; omega
  have k0 : ¬ (k : Int) < 0 := by omega
  have k1 : ¬ ((m - 4 : Nat) : Int) ≤ (k : Int) := by omega
  have k2 : (0 : Int) ≤ (k : Int) := by omega
  have k3 : (0 : Int) ≤ ((k + 1 : Nat) : Int) := by omega
  have k4 : ((k + 1 : Nat) : Int) ≤ ((m - 4 : Nat) : Int) := by omega
  have k5 : (k : Int) < (m : Int) := by omega
  subst hhw
  have TA : Hid True := trivial
  have TQ : Hid True := trivial
  clear hT hp h hsz hm hn hv hro hy hby hbx hlx
  go_enter Tryz.func4, Tryz.ntmps4
  go_wp2_with (first
      | (go_at_call 5; refine (heads_any _ HT.out).mono ?_; rintro e u0 ⟨rfl, hb0⟩; have HB0 := hide hb0; clear hb0)
      | (go_at_call 8; refine (lno_any _ _).mono ?_; rintro e u9 ⟨rfl, rfl⟩)
      | (go_at_call 7; have zz := TQ; clear TQ zz; refine (HPK.out _ HB0.out).mono ?_; rintro e u1 ⟨g, cap, rfl, hs⟩
         have kc2 : (k : Int) ≤ (cap : Int) := by have := hs.c1; omega
         have kc3 : ((m - 4 : Nat) : Int) ≤ (cap : Int) := by have := hs.c1; omega
         have kc4 : ¬ cap = k + 1 := by have := hs.c1; omega
         have kc5 : ¬ k + 1 = cap := by have := hs.c1; omega
         have kc6 : k + 1 < cap := by have := hs.c1; omega
         have HS := hide hs
         clear hs HPK HB0)
      | (at_builtin; have zz := TA; clear TA zz; refine wpList_append_reads rfl (.tmp 38) (.tmp 41) rfl u9.heap.size (.slice (some ⟨u9.heap.size, 0, none⟩) 0 0) 0 [] rfl (own_nought u9 u9.heap.size rfl) (some ⟨g, 0, none⟩) k cap (row.take k) rfl ((HS.out.row.front k (by omega)).below (below_alloc _ _)) (by omega) (by simp) ?_; intro v1 t1 own1 grow1; simp only [Nat.zero_add, List.nil_append] at own1
         have TB : Hid True := trivial
         have HB1 : Hid (Below w.heap.size w t1) := (HS.out.below.alloc HS.out.below.size _).grown grow1 (by have := HS.out.below.size; simp; omega) (fun q hq => Nat.le_trans HS.out.below.size ((own_nought u9 u9.heap.size rfl).lt q hq).1)
         have HG1 : Hid (Below u9.heap.size u9 t1) := (below_alloc u9 _).grown grow1 (by simp) (fun q hq => ((own_nought u9 u9.heap.size rfl).lt q hq).1)
         have HO1 : Hid (t1.ownsRow u9.heap.size 5 1 v1 k ((row.take k).map (Value.int .u8))) := own1
         clear own1 grow1)
      | (at_builtin; have zz := TB; clear TB zz; refine wpList_append_reads rfl (.tmp 58) (.tmp 65) rfl u9.heap.size v1 (k) (row.take k) rfl HO1.out (some ⟨g, k + 1, none⟩) (m - 4 - (k + 1)) (cap - (k + 1)) ((row.drop (k + 1)).take (m - 4 - (k + 1))) rfl ((HRC.out _ HS.out.row).below HG1.out) (by omega) (by have := HG1.out.size; omega) ?_; intro v8 t8 own8 grow8; obtain ⟨g8, c8, rfl, hc81, hc82, hg81, hg82⟩ := own_shape own8 (by omega)
         have HG8 : Hid (Below u9.heap.size u9 t8) := HG1.out.grown grow8 (by have := HG1.out.size; omega) (fun q hq => (HO1.out.lt q hq).1)
         have HO8 : Hid (Own t8 u9.heap.size g8 (k + (m - 4 - (k + 1))) c8 (row.take k ++ (row.drop (k + 1)).take (m - 4 - (k + 1)))) := own8
         clear own8 grow8 hc81 hc82 hg81 hg82)
      | (go_at_call 14; refine (sealed_any _ _ _ _ _ (HRX.out _ _ _ _ _ HO8.out) (by omega) ((HS.out.tab).below HG8.out)).mono ?_; rintro e u3 ⟨g3, c3, rfl, own3, b3⟩
         have HB3 : Hid (Below u9.heap.size u9 u3) := bel_up HG8.out b3 HG8.out.size
         have HT3 : Hid (Tab u3) := HS.out.tab.below HB3.out
         obtain ⟨q1', q2', q3', q4', q5', q6', q7'⟩ := own_shape own3 (by omega)
         cases q3'
         have HR3 : Hid (Reads u3 (some ⟨g3, 0, none⟩) (k + (m - 4 - (k + 1)) + 4) (sealL (row.take k ++ (row.drop (k + 1)).take (m - 4 - (k + 1))))) := HRS.out _ _ _ _ own3
         have HL3 : Hid (g3 < u3.heap.size) := q7'
         have HC3 : Hid (k + (m - 4 - (k + 1)) + 4 ≤ c3 ∧ c3 ≤ 9223372036854775807) := ⟨q4', q5'⟩
         clear own3 b3 q4' q5' q6' q7')
      | (go_at_call 15; refine (rlarge_any g3 0 _ c3 _ _ HR3.out HL3.out (by omega) HC3.out.1 HC3.out.2).mono ?_; rintro e u4 ⟨⟨z4, rfl⟩, b4⟩
         have HB4 : Hid (Below u3.heap.size u3 u4) := b4
         clear b4)
      | (go_at_call 10; refine (read_any g3 0 _ c3 _ _ (HR3.out.below HB4.out) (Nat.lt_of_lt_of_le HL3.out HB4.out.size) (by omega) HC3.out.1 HC3.out.2 (HT3.out.below HB4.out)).mono ?_; rintro e u5 ⟨hv, b5⟩
         rw [HRO.out] at hv
         obtain ⟨vy, ey, rfl, hey, hly⟩ := hv
         have HB5 : Hid (Below u4.heap.size u4 u5) := b5
         have HEY := hide hey
         have HLY := hide hly
         have TP : Hid True := trivial
         clear b5 hey hly)
      | (go_at_call 7; have zz := TP; clear TP zz; refine (cn_pack _ ps vy ey _ _ HR3.out.2.1 (by have := HR3.out.1; omega) HRO.out HEY.out HLY.out ((HT3.out.below HB4.out).below HB5.out)).mono ?_; rintro e u6 ⟨g6, c6, rfl, r6, b6⟩
         have HB6 := hide b6
         have hl6 := HR3.out.1
         rw [hl6] at r6
         rw [hl6]
         have HR6 := hide r6
         clear r6 b6 hl6)
      | (go_at_call 9; refine (same_eq _ _ _ _ _ _ _ HR6.out (((HR3.out.below HB4.out).below HB5.out).below HB6.out)).mono ?_; rintro e u7 ⟨rfl, rfl⟩))
  · go_ret
    exact ⟨rfl, bel_up (bel_up HS.out.below HB3.out HS.out.below.size) HB4.out (Nat.le_trans HS.out.below.size HB3.out.size)⟩
  · go_ret
    exact ⟨rfl, bel_up (bel_up (bel_up (bel_up HS.out.below HB3.out HS.out.below.size) HB4.out (Nat.le_trans HS.out.below.size HB3.out.size)) HB5.out (bel_up (bel_up HS.out.below HB3.out HS.out.below.size) HB4.out (Nat.le_trans HS.out.below.size HB3.out.size)).size) HB6.out (bel_up (bel_up (bel_up HS.out.below HB3.out HS.out.below.size) HB4.out (Nat.le_trans HS.out.below.size HB3.out.size)) HB5.out (bel_up (bel_up HS.out.below HB3.out HS.out.below.size) HB4.out (Nat.le_trans HS.out.below.size HB3.out.size)).size).size⟩

set_option maxHeartbeats 4000000 in
set_option maxRecDepth 100000 in
theorem canon_one_bad (v : Value) (es : List Le) (row : List Int) (k : Nat) (y hw : Int) (w : World) (h : RdL w w.heap.size v es) (hT : Tab w) (hsz : szL (es.map Le.l) ≤ 38000000000000) (hp : packM (es.map Le.l) = .ok row) (hms : row.length ≤ 4194300) (h20 : 20 ≤ row.length) (hk : k + 4 < row.length) (hy : 0 ≤ y ∧ y ≤ 255) (hhw : hw = 1) (x : Int) (hro : openR (sealL (row.take k ++ [y] ++ [row.getD k 0] ++ (row.drop (k + 1)).take (row.length - 4 - (k + 1)))) = .error x) :
    Calls Tryz.prog 4 #[v, .int .i64 (k : Int), .int .u8 y, .int .i64 hw] w fun e w' => e = .returned (.bool true) ∧ Below w.heap.size w w' := by
  obtain ⟨m, hm⟩ : ∃ m, row.length = m := ⟨_, rfl⟩
  have HT := hide hT
  have HP := hide hp
  have HM := hide hm
  have HY := hide hy
  have hby := (pack_open _ _ hp h.lok).1
  obtain ⟨a, c, hv, -⟩ := h.shape
  obtain ⟨n, hn⟩ : ∃ n, es.length = n := ⟨_, rfl⟩
  have HPK := fun (u : World) (hb : Below w.heap.size w u) => bk_packed w u v es row h hT hb hp hsz
  rw [hv, hn, hm] at HPK
  rw [hm] at hms h20 hk hro
  rw [hv, hn]
  have HPK := hide HPK
  have HRO := hide hro
  have hxne := (openR_er hro).ne
  have HYK : Hid (0 ≤ row.getD k 0 ∧ row.getD k 0 ≤ 255) := hby _ (by rw [List.getD_eq_getElem?_getD, List.getElem?_eq_getElem (by omega)]; exact List.getElem_mem _)
  have hbx : Byt (row.take k ++ [y] ++ [row.getD k 0] ++ (row.drop (k + 1)).take (m - 4 - (k + 1))) := byt_app (byt_app (byt_app (byt_take hby _) (fun x9 hx9 => by rw [List.mem_singleton.1 hx9]; exact HY.out)) (fun x9 hx9 => by rw [List.mem_singleton.1 hx9]; exact HYK.out)) (byt_take (byt_drop hby _) _)
  have hlx : (row.take k ++ [y] ++ [row.getD k 0] ++ (row.drop (k + 1)).take (m - 4 - (k + 1))).length = k + 1 + 1 + (m - 4 - (k + 1)) := by simp; omega
  have HRC : Hid (∀ (g : Nat) {u : World}, Reads u (some ⟨g, 0, none⟩) m row → Reads u (some ⟨g, k + 1, none⟩) (m - 4 - (k + 1)) ((row.drop (k + 1)).take (m - 4 - (k + 1)))) := fun g u hr => (hr.cut (k + 1) 0 (by omega)).front (m - 4 - (k + 1)) (by omega)
  have HRX : Hid (∀ (u : World) (B g l cp : Nat), Own u B g l cp (row.take k ++ [y] ++ [row.getD k 0] ++ (row.drop (k + 1)).take (m - 4 - (k + 1))) → Reads u (some ⟨g, 0, none⟩) l (row.take k ++ [y] ++ [row.getD k 0] ++ (row.drop (k + 1)).take (m - 4 - (k + 1)))) := fun u B g l cp ho => own_all_reads ho hbx
  have HRS : Hid (∀ (u : World) (B g cp : Nat), Own u B g (k + 1 + 1 + (m - 4 - (k + 1)) + 4) cp (sealL (row.take k ++ [y] ++ [row.getD k 0] ++ (row.drop (k + 1)).take (m - 4 - (k + 1)))) → Reads u (some ⟨g, 0, none⟩) (k + 1 + 1 + (m - 4 - (k + 1)) + 4) (sealL (row.take k ++ [y] ++ [row.getD k 0] ++ (row.drop (k + 1)).take (m - 4 - (k + 1))))) := fun u B g cp ho => own_all_reads ho (byt_app hbx (by rw [← le4_num]; exact numL_byt _ _))
  have i4 : ¬ (m : Int) < 4 := by omega
  have q2 : IntKind.i64.wrap ((m : Int) - 4) = ((m - 4 : Nat) : Int) := by rw [IntKind.wrap_i64]; omega
  have q1 : IntKind.i64.wrap ((k : Int) + 1) = ((k + 1 : Nat) : Int) := by rw [IntKind.wrap_i64]; omega
  have k0 : ¬ (k : Int) < 0 := by omega
  have k1 : ¬ ((m - 4 : Nat) : Int) ≤ (k : Int) := by omega
  have k2 : (0 : Int) ≤ (k : Int) := by omega
  have k3 : (0 : Int) ≤ ((k + 1 : Nat) : Int) := by omega
  have k4 : ((k + 1 : Nat) : Int) ≤ ((m - 4 : Nat) : Int) := by omega
  have k5 : (k : Int) < (m : Int) := by omega
  subst hhw
  have TA : Hid True := trivial
  have TQ : Hid True := trivial
  clear hT hp h hsz hm hn hv hro hy hby hbx hlx
  go_enter Tryz.func4, Tryz.ntmps4
  go_wp2_with (first
      | (go_at_call 5; refine (heads_any _ HT.out).mono ?_; rintro e u0 ⟨rfl, hb0⟩; have HB0 := hide hb0; clear hb0)
      | (go_at_call 8; refine (lno_any _ _).mono ?_; rintro e u9 ⟨rfl, rfl⟩)
      | (go_at_call 7; have zz := TQ; clear TQ zz; refine (HPK.out _ HB0.out).mono ?_; rintro e u1 ⟨g, cap, rfl, hs⟩
         have kc2 : (k : Int) ≤ (cap : Int) := by have := hs.c1; omega
         have kc3 : ((m - 4 : Nat) : Int) ≤ (cap : Int) := by have := hs.c1; omega
         have kc4 : ¬ cap = k + 1 := by have := hs.c1; omega
         have kc5 : ¬ k + 1 = cap := by have := hs.c1; omega
         have kc6 : k + 1 < cap := by have := hs.c1; omega
         have HS := hide hs
         clear hs HPK HB0)
      | (at_builtin; have zz := TA; clear TA zz; refine wpList_append_reads rfl (.tmp 38) (.tmp 41) rfl u9.heap.size (.slice (some ⟨u9.heap.size, 0, none⟩) 0 0) 0 [] rfl (own_nought u9 u9.heap.size rfl) (some ⟨g, 0, none⟩) k cap (row.take k) rfl ((HS.out.row.front k (by omega)).below (below_alloc _ _)) (by omega) (by simp) ?_; intro v1 t1 own1 grow1; simp only [Nat.zero_add, List.nil_append] at own1
         have TB : Hid True := trivial
         have HB1 : Hid (Below w.heap.size w t1) := (HS.out.below.alloc HS.out.below.size _).grown grow1 (by have := HS.out.below.size; simp; omega) (fun q hq => Nat.le_trans HS.out.below.size ((own_nought u9 u9.heap.size rfl).lt q hq).1)
         have HG1 : Hid (Below u9.heap.size u9 t1) := (below_alloc u9 _).grown grow1 (by simp) (fun q hq => ((own_nought u9 u9.heap.size rfl).lt q hq).1)
         have HO1 : Hid (t1.ownsRow u9.heap.size 5 1 v1 k ((row.take k).map (Value.int .u8))) := own1
         clear own1 grow1)
      | (at_builtin; have zz := TB; clear TB zz; refine wpList_append_reads rfl (.tmp 45) (.tmp 47) rfl u9.heap.size v1 (k) (row.take k) rfl (HO1.out.alloc _) _ 1 1 [y] rfl (reads_alloc t1 [y] (by intro x9 hx9; rw [List.mem_singleton.1 hx9]; exact HY.out)) (by omega) (by have := HG1.out.size; simp; omega) ?_; intro v2 t2 own2 grow2
         have TC : Hid True := trivial
         have HG2 : Hid (Below u9.heap.size u9 t2) := (HG1.out.alloc HG1.out.size _).grown grow2 (by have := HG1.out.size; simp; omega) (fun q hq => (HO1.out.lt q hq).1)
         have HO2 : Hid (t2.ownsRow u9.heap.size 5 1 v2 (k + 1) ((row.take k ++ [y]).map (Value.int .u8))) := own2
         have yk : t2.cell? ⟨g, k, none⟩ = some (.int .u8 (row.getD k 0)) := by
           have h9 := (HS.out.row.below HG2.out).2.2.2 _ rfl k (by omega)
           rw [plain_add, Nat.zero_add] at h9
           exact h9
         clear own2 grow2)
      | (at_builtin; have zz := TC; clear TC zz; refine wpList_append_reads rfl (.tmp 51) (.tmp 56) rfl u9.heap.size v2 (k + 1) (row.take k ++ [y]) rfl (HO2.out.alloc _) _ 1 1 [row.getD k 0] rfl (reads_alloc t2 [row.getD k 0] (by intro x9 hx9; rw [List.mem_singleton.1 hx9]; exact HYK.out)) (by omega) (by have := HG2.out.size; simp; omega) ?_; intro v3 t3 own3 grow3
         have TD : Hid True := trivial
         have HG3 : Hid (Below u9.heap.size u9 t3) := (HG2.out.alloc HG2.out.size _).grown grow3 (by have := HG2.out.size; simp; omega) (fun q hq => (HO2.out.lt q hq).1)
         have HO3 : Hid (t3.ownsRow u9.heap.size 5 1 v3 (k + 1 + 1) ((row.take k ++ [y] ++ [row.getD k 0]).map (Value.int .u8))) := own3
         clear own3 grow3)
      | (at_builtin; have zz := TD; clear TD zz; refine wpList_append_reads rfl (.tmp 58) (.tmp 65) rfl u9.heap.size v3 (k + 1 + 1) (row.take k ++ [y] ++ [row.getD k 0]) rfl HO3.out (some ⟨g, k + 1, none⟩) (m - 4 - (k + 1)) (cap - (k + 1)) ((row.drop (k + 1)).take (m - 4 - (k + 1))) rfl ((HRC.out _ HS.out.row).below HG3.out) (by omega) (by have := HG3.out.size; omega) ?_; intro v8 t8 own8 grow8; obtain ⟨g8, c8, rfl, hc81, hc82, hg81, hg82⟩ := own_shape own8 (by omega)
         have HG8 : Hid (Below u9.heap.size u9 t8) := HG3.out.grown grow8 (by have := HG3.out.size; omega) (fun q hq => (HO3.out.lt q hq).1)
         have HO8 : Hid (Own t8 u9.heap.size g8 (k + 1 + 1 + (m - 4 - (k + 1))) c8 (row.take k ++ [y] ++ [row.getD k 0] ++ (row.drop (k + 1)).take (m - 4 - (k + 1)))) := own8
         clear own8 grow8 hc81 hc82 hg81 hg82)
      | (go_at_call 14; refine (sealed_any _ _ _ _ _ (HRX.out _ _ _ _ _ HO8.out) (by omega) ((HS.out.tab).below HG8.out)).mono ?_; rintro e u3 ⟨g3, c3, rfl, own3, b3⟩
         have HB3 : Hid (Below u9.heap.size u9 u3) := bel_up HG8.out b3 HG8.out.size
         have HT3 : Hid (Tab u3) := HS.out.tab.below HB3.out
         obtain ⟨q1', q2', q3', q4', q5', q6', q7'⟩ := own_shape own3 (by omega)
         cases q3'
         have HR3 : Hid (Reads u3 (some ⟨g3, 0, none⟩) (k + 1 + 1 + (m - 4 - (k + 1)) + 4) (sealL (row.take k ++ [y] ++ [row.getD k 0] ++ (row.drop (k + 1)).take (m - 4 - (k + 1))))) := HRS.out _ _ _ _ own3
         have HL3 : Hid (g3 < u3.heap.size) := q7'
         have HC3 : Hid (k + 1 + 1 + (m - 4 - (k + 1)) + 4 ≤ c3 ∧ c3 ≤ 9223372036854775807) := ⟨q4', q5'⟩
         clear own3 b3 q4' q5' q6' q7')
      | (go_at_call 15; refine (rlarge_any g3 0 _ c3 _ _ HR3.out HL3.out (by omega) HC3.out.1 HC3.out.2).mono ?_; rintro e u4 ⟨⟨z4, rfl⟩, b4⟩
         have HB4 : Hid (Below u3.heap.size u3 u4) := b4
         clear b4)
      | (go_at_call 10; refine (read_any g3 0 _ c3 _ _ (HR3.out.below HB4.out) (Nat.lt_of_lt_of_le HL3.out HB4.out.size) (by omega) HC3.out.1 HC3.out.2 (HT3.out.below HB4.out)).mono ?_; rintro e u5 ⟨hv, b5⟩
         rw [HRO.out] at hv
         have hv2 : e = .returned (.tuple #[.slice none 0 0, .int .i64 x]) := hv
         subst hv2
         have HB5 : Hid (Below u4.heap.size u4 u5) := b5
         clear hv b5))
  · go_ret
    exact ⟨rfl, bel_up (bel_up HS.out.below HB3.out HS.out.below.size) HB4.out (Nat.le_trans HS.out.below.size HB3.out.size)⟩
  · go_ret
    exact ⟨rfl, bel_up (bel_up (bel_up HS.out.below HB3.out HS.out.below.size) HB4.out (Nat.le_trans HS.out.below.size HB3.out.size)) HB5.out (bel_up (bel_up HS.out.below HB3.out HS.out.below.size) HB4.out (Nat.le_trans HS.out.below.size HB3.out.size)).size⟩

set_option maxHeartbeats 4000000 in
set_option maxRecDepth 100000 in
theorem canon_one_good (v : Value) (es : List Le) (row : List Int) (k : Nat) (y hw : Int) (w : World) (h : RdL w w.heap.size v es) (hT : Tab w) (hsz : szL (es.map Le.l) ≤ 38000000000000) (hp : packM (es.map Le.l) = .ok row) (hms : row.length ≤ 4194300) (h20 : 20 ≤ row.length) (hk : k + 4 < row.length) (hy : 0 ≤ y ∧ y ≤ 255) (hhw : hw = 1) (ps : List Pc) (hro : openR (sealL (row.take k ++ [y] ++ [row.getD k 0] ++ (row.drop (k + 1)).take (row.length - 4 - (k + 1)))) = .ok ps) :
    Calls Tryz.prog 4 #[v, .int .i64 (k : Int), .int .u8 y, .int .i64 hw] w fun e w' => e = .returned (.bool true) ∧ Below w.heap.size w w' := by
  obtain ⟨m, hm⟩ : ∃ m, row.length = m := ⟨_, rfl⟩
  have HT := hide hT
  have HP := hide hp
  have HM := hide hm
  have HY := hide hy
  have hby := (pack_open _ _ hp h.lok).1
  obtain ⟨a, c, hv, -⟩ := h.shape
  obtain ⟨n, hn⟩ : ∃ n, es.length = n := ⟨_, rfl⟩
  have HPK := fun (u : World) (hb : Below w.heap.size w u) => bk_packed w u v es row h hT hb hp hsz
  rw [hv, hn, hm] at HPK
  rw [hm] at hms h20 hk hro
  rw [hv, hn]
  have HPK := hide HPK
  have HRO := hide hro
  have HYK : Hid (0 ≤ row.getD k 0 ∧ row.getD k 0 ≤ 255) := hby _ (by rw [List.getD_eq_getElem?_getD, List.getElem?_eq_getElem (by omega)]; exact List.getElem_mem _)
  have hbx : Byt (row.take k ++ [y] ++ [row.getD k 0] ++ (row.drop (k + 1)).take (m - 4 - (k + 1))) := byt_app (byt_app (byt_app (byt_take hby _) (fun x9 hx9 => by rw [List.mem_singleton.1 hx9]; exact HY.out)) (fun x9 hx9 => by rw [List.mem_singleton.1 hx9]; exact HYK.out)) (byt_take (byt_drop hby _) _)
  have hlx : (row.take k ++ [y] ++ [row.getD k 0] ++ (row.drop (k + 1)).take (m - 4 - (k + 1))).length = k + 1 + 1 + (m - 4 - (k + 1)) := by simp; omega
  have HRC : Hid (∀ (g : Nat) {u : World}, Reads u (some ⟨g, 0, none⟩) m row → Reads u (some ⟨g, k + 1, none⟩) (m - 4 - (k + 1)) ((row.drop (k + 1)).take (m - 4 - (k + 1)))) := fun g u hr => (hr.cut (k + 1) 0 (by omega)).front (m - 4 - (k + 1)) (by omega)
  have HRX : Hid (∀ (u : World) (B g l cp : Nat), Own u B g l cp (row.take k ++ [y] ++ [row.getD k 0] ++ (row.drop (k + 1)).take (m - 4 - (k + 1))) → Reads u (some ⟨g, 0, none⟩) l (row.take k ++ [y] ++ [row.getD k 0] ++ (row.drop (k + 1)).take (m - 4 - (k + 1)))) := fun u B g l cp ho => own_all_reads ho hbx
  have HRS : Hid (∀ (u : World) (B g cp : Nat), Own u B g (k + 1 + 1 + (m - 4 - (k + 1)) + 4) cp (sealL (row.take k ++ [y] ++ [row.getD k 0] ++ (row.drop (k + 1)).take (m - 4 - (k + 1)))) → Reads u (some ⟨g, 0, none⟩) (k + 1 + 1 + (m - 4 - (k + 1)) + 4) (sealL (row.take k ++ [y] ++ [row.getD k 0] ++ (row.drop (k + 1)).take (m - 4 - (k + 1))))) := fun u B g cp ho => own_all_reads ho (byt_app hbx (by rw [← le4_num]; exact numL_byt _ _))
  have i4 : ¬ (m : Int) < 4 := by omega
  have q2 : IntKind.i64.wrap ((m : Int) - 4) = ((m - 4 : Nat) : Int) := by rw [IntKind.wrap_i64]; omega
  have q1 : IntKind.i64.wrap ((k : Int) + 1) = ((k + 1 : Nat) : Int) := by rw [IntKind.wrap_i64]; omega
  have k0 : ¬ (k : Int) < 0 := by omega
  have k1 : ¬ ((m - 4 : Nat) : Int) ≤ (k : Int) := by omega
  have k2 : (0 : Int) ≤ (k : Int) := by omega
  have k3 : (0 : Int) ≤ ((k + 1 : Nat) : Int) := by omega
  have k4 : ((k + 1 : Nat) : Int) ≤ ((m - 4 : Nat) : Int) := by omega
  have k5 : (k : Int) < (m : Int) := by omega
  subst hhw
  have TA : Hid True := trivial
  have TQ : Hid True := trivial
  clear hT hp h hsz hm hn hv hro hy hby hbx hlx
  go_enter Tryz.func4, Tryz.ntmps4
  go_wp2_with (first
      | (go_at_call 5; refine (heads_any _ HT.out).mono ?_; rintro e u0 ⟨rfl, hb0⟩; have HB0 := hide hb0; clear hb0)
      | (go_at_call 8; refine (lno_any _ _).mono ?_; rintro e u9 ⟨rfl, rfl⟩)
      | (go_at_call 7; have zz := TQ; clear TQ zz; refine (HPK.out _ HB0.out).mono ?_; rintro e u1 ⟨g, cap, rfl, hs⟩
         have kc2 : (k : Int) ≤ (cap : Int) := by have := hs.c1; omega
         have kc3 : ((m - 4 : Nat) : Int) ≤ (cap : Int) := by have := hs.c1; omega
         have kc4 : ¬ cap = k + 1 := by have := hs.c1; omega
         have kc5 : ¬ k + 1 = cap := by have := hs.c1; omega
         have kc6 : k + 1 < cap := by have := hs.c1; omega
         have HS := hide hs
         clear hs HPK HB0)
      | (at_builtin; have zz := TA; clear TA zz; refine wpList_append_reads rfl (.tmp 38) (.tmp 41) rfl u9.heap.size (.slice (some ⟨u9.heap.size, 0, none⟩) 0 0) 0 [] rfl (own_nought u9 u9.heap.size rfl) (some ⟨g, 0, none⟩) k cap (row.take k) rfl ((HS.out.row.front k (by omega)).below (below_alloc _ _)) (by omega) (by simp) ?_; intro v1 t1 own1 grow1; simp only [Nat.zero_add, List.nil_append] at own1
         have TB : Hid True := trivial
         have HB1 : Hid (Below w.heap.size w t1) := (HS.out.below.alloc HS.out.below.size _).grown grow1 (by have := HS.out.below.size; simp; omega) (fun q hq => Nat.le_trans HS.out.below.size ((own_nought u9 u9.heap.size rfl).lt q hq).1)
         have HG1 : Hid (Below u9.heap.size u9 t1) := (below_alloc u9 _).grown grow1 (by simp) (fun q hq => ((own_nought u9 u9.heap.size rfl).lt q hq).1)
         have HO1 : Hid (t1.ownsRow u9.heap.size 5 1 v1 k ((row.take k).map (Value.int .u8))) := own1
         clear own1 grow1)
      | (at_builtin; have zz := TB; clear TB zz; refine wpList_append_reads rfl (.tmp 45) (.tmp 47) rfl u9.heap.size v1 (k) (row.take k) rfl (HO1.out.alloc _) _ 1 1 [y] rfl (reads_alloc t1 [y] (by intro x9 hx9; rw [List.mem_singleton.1 hx9]; exact HY.out)) (by omega) (by have := HG1.out.size; simp; omega) ?_; intro v2 t2 own2 grow2
         have TC : Hid True := trivial
         have HG2 : Hid (Below u9.heap.size u9 t2) := (HG1.out.alloc HG1.out.size _).grown grow2 (by have := HG1.out.size; simp; omega) (fun q hq => (HO1.out.lt q hq).1)
         have HO2 : Hid (t2.ownsRow u9.heap.size 5 1 v2 (k + 1) ((row.take k ++ [y]).map (Value.int .u8))) := own2
         have yk : t2.cell? ⟨g, k, none⟩ = some (.int .u8 (row.getD k 0)) := by
           have h9 := (HS.out.row.below HG2.out).2.2.2 _ rfl k (by omega)
           rw [plain_add, Nat.zero_add] at h9
           exact h9
         clear own2 grow2)
      | (at_builtin; have zz := TC; clear TC zz; refine wpList_append_reads rfl (.tmp 51) (.tmp 56) rfl u9.heap.size v2 (k + 1) (row.take k ++ [y]) rfl (HO2.out.alloc _) _ 1 1 [row.getD k 0] rfl (reads_alloc t2 [row.getD k 0] (by intro x9 hx9; rw [List.mem_singleton.1 hx9]; exact HYK.out)) (by omega) (by have := HG2.out.size; simp; omega) ?_; intro v3 t3 own3 grow3
         have TD : Hid True := trivial
         have HG3 : Hid (Below u9.heap.size u9 t3) := (HG2.out.alloc HG2.out.size _).grown grow3 (by have := HG2.out.size; simp; omega) (fun q hq => (HO2.out.lt q hq).1)
         have HO3 : Hid (t3.ownsRow u9.heap.size 5 1 v3 (k + 1 + 1) ((row.take k ++ [y] ++ [row.getD k 0]).map (Value.int .u8))) := own3
         clear own3 grow3)
      | (at_builtin; have zz := TD; clear TD zz; refine wpList_append_reads rfl (.tmp 58) (.tmp 65) rfl u9.heap.size v3 (k + 1 + 1) (row.take k ++ [y] ++ [row.getD k 0]) rfl HO3.out (some ⟨g, k + 1, none⟩) (m - 4 - (k + 1)) (cap - (k + 1)) ((row.drop (k + 1)).take (m - 4 - (k + 1))) rfl ((HRC.out _ HS.out.row).below HG3.out) (by omega) (by have := HG3.out.size; omega) ?_; intro v8 t8 own8 grow8; obtain ⟨g8, c8, rfl, hc81, hc82, hg81, hg82⟩ := own_shape own8 (by omega)
         have HG8 : Hid (Below u9.heap.size u9 t8) := HG3.out.grown grow8 (by have := HG3.out.size; omega) (fun q hq => (HO3.out.lt q hq).1)
         have HO8 : Hid (Own t8 u9.heap.size g8 (k + 1 + 1 + (m - 4 - (k + 1))) c8 (row.take k ++ [y] ++ [row.getD k 0] ++ (row.drop (k + 1)).take (m - 4 - (k + 1)))) := own8
         clear own8 grow8 hc81 hc82 hg81 hg82)
      | (go_at_call 14; refine (sealed_any _ _ _ _ _ (HRX.out _ _ _ _ _ HO8.out) (by omega) ((HS.out.tab).below HG8.out)).mono ?_; rintro e u3 ⟨g3, c3, rfl, own3, b3⟩
         have HB3 : Hid (Below u9.heap.size u9 u3) := bel_up HG8.out b3 HG8.out.size
         have HT3 : Hid (Tab u3) := HS.out.tab.below HB3.out
         obtain ⟨q1', q2', q3', q4', q5', q6', q7'⟩ := own_shape own3 (by omega)
         cases q3'
         have HR3 : Hid (Reads u3 (some ⟨g3, 0, none⟩) (k + 1 + 1 + (m - 4 - (k + 1)) + 4) (sealL (row.take k ++ [y] ++ [row.getD k 0] ++ (row.drop (k + 1)).take (m - 4 - (k + 1))))) := HRS.out _ _ _ _ own3
         have HL3 : Hid (g3 < u3.heap.size) := q7'
         have HC3 : Hid (k + 1 + 1 + (m - 4 - (k + 1)) + 4 ≤ c3 ∧ c3 ≤ 9223372036854775807) := ⟨q4', q5'⟩
         clear own3 b3 q4' q5' q6' q7')
      | (go_at_call 15; refine (rlarge_any g3 0 _ c3 _ _ HR3.out HL3.out (by omega) HC3.out.1 HC3.out.2).mono ?_; rintro e u4 ⟨⟨z4, rfl⟩, b4⟩
         have HB4 : Hid (Below u3.heap.size u3 u4) := b4
         clear b4)
      | (go_at_call 10; refine (read_any g3 0 _ c3 _ _ (HR3.out.below HB4.out) (Nat.lt_of_lt_of_le HL3.out HB4.out.size) (by omega) HC3.out.1 HC3.out.2 (HT3.out.below HB4.out)).mono ?_; rintro e u5 ⟨hv, b5⟩
         rw [HRO.out] at hv
         obtain ⟨vy, ey, rfl, hey, hly⟩ := hv
         have HB5 : Hid (Below u4.heap.size u4 u5) := b5
         have HEY := hide hey
         have HLY := hide hly
         have TP : Hid True := trivial
         clear b5 hey hly)
      | (go_at_call 7; have zz := TP; clear TP zz; refine (cn_pack _ ps vy ey _ _ HR3.out.2.1 (by have := HR3.out.1; omega) HRO.out HEY.out HLY.out ((HT3.out.below HB4.out).below HB5.out)).mono ?_; rintro e u6 ⟨g6, c6, rfl, r6, b6⟩
         have HB6 := hide b6
         have hl6 := HR3.out.1
         rw [hl6] at r6
         rw [hl6]
         have HR6 := hide r6
         clear r6 b6 hl6)
      | (go_at_call 9; refine (same_eq _ _ _ _ _ _ _ HR6.out (((HR3.out.below HB4.out).below HB5.out).below HB6.out)).mono ?_; rintro e u7 ⟨rfl, rfl⟩))
  · go_ret
    exact ⟨rfl, bel_up (bel_up HS.out.below HB3.out HS.out.below.size) HB4.out (Nat.le_trans HS.out.below.size HB3.out.size)⟩
  · go_ret
    exact ⟨rfl, bel_up (bel_up (bel_up (bel_up HS.out.below HB3.out HS.out.below.size) HB4.out (Nat.le_trans HS.out.below.size HB3.out.size)) HB5.out (bel_up (bel_up HS.out.below HB3.out HS.out.below.size) HB4.out (Nat.le_trans HS.out.below.size HB3.out.size)).size) HB6.out (bel_up (bel_up (bel_up HS.out.below HB3.out HS.out.below.size) HB4.out (Nat.le_trans HS.out.below.size HB3.out.size)) HB5.out (bel_up (bel_up HS.out.below HB3.out HS.out.below.size) HB4.out (Nat.le_trans HS.out.below.size HB3.out.size)).size).size⟩

set_option maxHeartbeats 4000000 in
set_option maxRecDepth 100000 in
theorem canon_oth_bad (v : Value) (es : List Le) (row : List Int) (k : Nat) (y hw : Int) (w : World) (h : RdL w w.heap.size v es) (hT : Tab w) (hsz : szL (es.map Le.l) ≤ 38000000000000) (hp : packM (es.map Le.l) = .ok row) (hms : row.length ≤ 4194300) (h20 : 20 ≤ row.length) (hk : k + 4 < row.length) (hy : 0 ≤ y ∧ y ≤ 255) (hhw : hw ≠ 1 ∧ hw ≠ 2) (x : Int) (hro : openR (sealL (row.take k ++ [y] ++ (row.drop (k + 1)).take (row.length - 4 - (k + 1)))) = .error x) :
    Calls Tryz.prog 4 #[v, .int .i64 (k : Int), .int .u8 y, .int .i64 hw] w fun e w' => e = .returned (.bool true) ∧ Below w.heap.size w w' := by
  obtain ⟨m, hm⟩ : ∃ m, row.length = m := ⟨_, rfl⟩
  have HT := hide hT
  have HP := hide hp
  have HM := hide hm
  have HY := hide hy
  have hby := (pack_open _ _ hp h.lok).1
  obtain ⟨a, c, hv, -⟩ := h.shape
  obtain ⟨n, hn⟩ : ∃ n, es.length = n := ⟨_, rfl⟩
  have HPK := fun (u : World) (hb : Below w.heap.size w u) => bk_packed w u v es row h hT hb hp hsz
  rw [hv, hn, hm] at HPK
  rw [hm] at hms h20 hk hro
  rw [hv, hn]
  have HPK := hide HPK
  have HRO := hide hro
  have hxne := (openR_er hro).ne
  have HYK : Hid (0 ≤ row.getD k 0 ∧ row.getD k 0 ≤ 255) := hby _ (by rw [List.getD_eq_getElem?_getD, List.getElem?_eq_getElem (by omega)]; exact List.getElem_mem _)
  have hbx : Byt (row.take k ++ [y] ++ (row.drop (k + 1)).take (m - 4 - (k + 1))) := byt_app (byt_app (byt_take hby _) (fun x9 hx9 => by rw [List.mem_singleton.1 hx9]; exact HY.out)) (byt_take (byt_drop hby _) _)
  have hlx : (row.take k ++ [y] ++ (row.drop (k + 1)).take (m - 4 - (k + 1))).length = k + 1 + (m - 4 - (k + 1)) := by simp; omega
  have HRC : Hid (∀ (g : Nat) {u : World}, Reads u (some ⟨g, 0, none⟩) m row → Reads u (some ⟨g, k + 1, none⟩) (m - 4 - (k + 1)) ((row.drop (k + 1)).take (m - 4 - (k + 1)))) := fun g u hr => (hr.cut (k + 1) 0 (by omega)).front (m - 4 - (k + 1)) (by omega)
  have HRX : Hid (∀ (u : World) (B g l cp : Nat), Own u B g l cp (row.take k ++ [y] ++ (row.drop (k + 1)).take (m - 4 - (k + 1))) → Reads u (some ⟨g, 0, none⟩) l (row.take k ++ [y] ++ (row.drop (k + 1)).take (m - 4 - (k + 1)))) := fun u B g l cp ho => own_all_reads ho hbx
  have HRS : Hid (∀ (u : World) (B g cp : Nat), Own u B g (k + 1 + (m - 4 - (k + 1)) + 4) cp (sealL (row.take k ++ [y] ++ (row.drop (k + 1)).take (m - 4 - (k + 1)))) → Reads u (some ⟨g, 0, none⟩) (k + 1 + (m - 4 - (k + 1)) + 4) (sealL (row.take k ++ [y] ++ (row.drop (k + 1)).take (m - 4 - (k + 1))))) := fun u B g cp ho => own_all_reads ho (byt_app hbx (by rw [← le4_num]; exact numL_byt _ _))
  have i4 : ¬ (m : Int) < 4 := by omega
  have q2 : IntKind.i64.wrap ((m : Int) - 4) = ((m - 4 : Nat) : Int) := by rw [IntKind.wrap_i64]; omega
  have q1 : IntKind.i64.wrap ((k : Int) + 1) = ((k + 1 : Nat) : Int) := by rw [IntKind.wrap_i64]; omega
  have k0 : ¬ (k : Int) < 0 := by omega
  have k1 : ¬ ((m - 4 : Nat) : Int) ≤ (k : Int) := by omega
  have k2 : (0 : Int) ≤ (k : Int) := by omega
  have k3 : (0 : Int) ≤ ((k + 1 : Nat) : Int) := by omega
  have k4 : ((k + 1 : Nat) : Int) ≤ ((m - 4 : Nat) : Int) := by omega
  have k5 : (k : Int) < (m : Int) := by omega
  have w1 : (hw != 2) = true := by simp [hhw.2]
  have w2 : (hw == 1) = false := by simp [hhw.1]
  clear hhw
  have TA : Hid True := trivial
  have TQ : Hid True := trivial
  clear hT hp h hsz hm hn hv hro hy hby hbx hlx
  go_enter Tryz.func4, Tryz.ntmps4
  go_wp2_with (first
      | (go_at_call 5; refine (heads_any _ HT.out).mono ?_; rintro e u0 ⟨rfl, hb0⟩; have HB0 := hide hb0; clear hb0)
      | (go_at_call 8; refine (lno_any _ _).mono ?_; rintro e u9 ⟨rfl, rfl⟩)
      | (go_at_call 7; have zz := TQ; clear TQ zz; refine (HPK.out _ HB0.out).mono ?_; rintro e u1 ⟨g, cap, rfl, hs⟩
         have kc2 : (k : Int) ≤ (cap : Int) := by have := hs.c1; omega
         have kc3 : ((m - 4 : Nat) : Int) ≤ (cap : Int) := by have := hs.c1; omega
         have kc4 : ¬ cap = k + 1 := by have := hs.c1; omega
         have kc5 : ¬ k + 1 = cap := by have := hs.c1; omega
         have kc6 : k + 1 < cap := by have := hs.c1; omega
         have HS := hide hs
         clear hs HPK HB0)
      | (at_builtin; have zz := TA; clear TA zz; refine wpList_append_reads rfl (.tmp 38) (.tmp 41) rfl u9.heap.size (.slice (some ⟨u9.heap.size, 0, none⟩) 0 0) 0 [] rfl (own_nought u9 u9.heap.size rfl) (some ⟨g, 0, none⟩) k cap (row.take k) rfl ((HS.out.row.front k (by omega)).below (below_alloc _ _)) (by omega) (by simp) ?_; intro v1 t1 own1 grow1; simp only [Nat.zero_add, List.nil_append] at own1
         have TB : Hid True := trivial
         have HB1 : Hid (Below w.heap.size w t1) := (HS.out.below.alloc HS.out.below.size _).grown grow1 (by have := HS.out.below.size; simp; omega) (fun q hq => Nat.le_trans HS.out.below.size ((own_nought u9 u9.heap.size rfl).lt q hq).1)
         have HG1 : Hid (Below u9.heap.size u9 t1) := (below_alloc u9 _).grown grow1 (by simp) (fun q hq => ((own_nought u9 u9.heap.size rfl).lt q hq).1)
         have HO1 : Hid (t1.ownsRow u9.heap.size 5 1 v1 k ((row.take k).map (Value.int .u8))) := own1
         clear own1 grow1)
      | (at_builtin; have zz := TB; clear TB zz; refine wpList_append_reads rfl (.tmp 45) (.tmp 47) rfl u9.heap.size v1 (k) (row.take k) rfl (HO1.out.alloc _) _ 1 1 [y] rfl (reads_alloc t1 [y] (by intro x9 hx9; rw [List.mem_singleton.1 hx9]; exact HY.out)) (by omega) (by have := HG1.out.size; simp; omega) ?_; intro v2 t2 own2 grow2
         have TC : Hid True := trivial
         have HG2 : Hid (Below u9.heap.size u9 t2) := (HG1.out.alloc HG1.out.size _).grown grow2 (by have := HG1.out.size; simp; omega) (fun q hq => (HO1.out.lt q hq).1)
         have HO2 : Hid (t2.ownsRow u9.heap.size 5 1 v2 (k + 1) ((row.take k ++ [y]).map (Value.int .u8))) := own2
         clear own2 grow2)
      | (at_builtin; have zz := TC; clear TC zz; refine wpList_append_reads rfl (.tmp 58) (.tmp 65) rfl u9.heap.size v2 (k + 1) (row.take k ++ [y]) rfl HO2.out (some ⟨g, k + 1, none⟩) (m - 4 - (k + 1)) (cap - (k + 1)) ((row.drop (k + 1)).take (m - 4 - (k + 1))) rfl ((HRC.out _ HS.out.row).below HG2.out) (by omega) (by have := HG2.out.size; omega) ?_; intro v8 t8 own8 grow8; obtain ⟨g8, c8, rfl, hc81, hc82, hg81, hg82⟩ := own_shape own8 (by omega)
         have HG8 : Hid (Below u9.heap.size u9 t8) := HG2.out.grown grow8 (by have := HG2.out.size; omega) (fun q hq => (HO2.out.lt q hq).1)
         have HO8 : Hid (Own t8 u9.heap.size g8 (k + 1 + (m - 4 - (k + 1))) c8 (row.take k ++ [y] ++ (row.drop (k + 1)).take (m - 4 - (k + 1)))) := own8
         clear own8 grow8 hc81 hc82 hg81 hg82)
      | (go_at_call 14; refine (sealed_any _ _ _ _ _ (HRX.out _ _ _ _ _ HO8.out) (by omega) ((HS.out.tab).below HG8.out)).mono ?_; rintro e u3 ⟨g3, c3, rfl, own3, b3⟩
         have HB3 : Hid (Below u9.heap.size u9 u3) := bel_up HG8.out b3 HG8.out.size
         have HT3 : Hid (Tab u3) := HS.out.tab.below HB3.out
         obtain ⟨q1', q2', q3', q4', q5', q6', q7'⟩ := own_shape own3 (by omega)
         cases q3'
         have HR3 : Hid (Reads u3 (some ⟨g3, 0, none⟩) (k + 1 + (m - 4 - (k + 1)) + 4) (sealL (row.take k ++ [y] ++ (row.drop (k + 1)).take (m - 4 - (k + 1))))) := HRS.out _ _ _ _ own3
         have HL3 : Hid (g3 < u3.heap.size) := q7'
         have HC3 : Hid (k + 1 + (m - 4 - (k + 1)) + 4 ≤ c3 ∧ c3 ≤ 9223372036854775807) := ⟨q4', q5'⟩
         clear own3 b3 q4' q5' q6' q7')
      | (go_at_call 15; refine (rlarge_any g3 0 _ c3 _ _ HR3.out HL3.out (by omega) HC3.out.1 HC3.out.2).mono ?_; rintro e u4 ⟨⟨z4, rfl⟩, b4⟩
         have HB4 : Hid (Below u3.heap.size u3 u4) := b4
         clear b4)
      | (go_at_call 10; refine (read_any g3 0 _ c3 _ _ (HR3.out.below HB4.out) (Nat.lt_of_lt_of_le HL3.out HB4.out.size) (by omega) HC3.out.1 HC3.out.2 (HT3.out.below HB4.out)).mono ?_; rintro e u5 ⟨hv, b5⟩
         rw [HRO.out] at hv
         have hv2 : e = .returned (.tuple #[.slice none 0 0, .int .i64 x]) := hv
         subst hv2
         have HB5 : Hid (Below u4.heap.size u4 u5) := b5
         clear hv b5))
  · go_ret
    exact ⟨rfl, bel_up (bel_up HS.out.below HB3.out HS.out.below.size) HB4.out (Nat.le_trans HS.out.below.size HB3.out.size)⟩
  · go_ret
    exact ⟨rfl, bel_up (bel_up (bel_up HS.out.below HB3.out HS.out.below.size) HB4.out (Nat.le_trans HS.out.below.size HB3.out.size)) HB5.out (bel_up (bel_up HS.out.below HB3.out HS.out.below.size) HB4.out (Nat.le_trans HS.out.below.size HB3.out.size)).size⟩

set_option maxHeartbeats 4000000 in
set_option maxRecDepth 100000 in
theorem canon_oth_good (v : Value) (es : List Le) (row : List Int) (k : Nat) (y hw : Int) (w : World) (h : RdL w w.heap.size v es) (hT : Tab w) (hsz : szL (es.map Le.l) ≤ 38000000000000) (hp : packM (es.map Le.l) = .ok row) (hms : row.length ≤ 4194300) (h20 : 20 ≤ row.length) (hk : k + 4 < row.length) (hy : 0 ≤ y ∧ y ≤ 255) (hhw : hw ≠ 1 ∧ hw ≠ 2) (ps : List Pc) (hro : openR (sealL (row.take k ++ [y] ++ (row.drop (k + 1)).take (row.length - 4 - (k + 1)))) = .ok ps) :
    Calls Tryz.prog 4 #[v, .int .i64 (k : Int), .int .u8 y, .int .i64 hw] w fun e w' => e = .returned (.bool true) ∧ Below w.heap.size w w' := by
  obtain ⟨m, hm⟩ : ∃ m, row.length = m := ⟨_, rfl⟩
  have HT := hide hT
  have HP := hide hp
  have HM := hide hm
  have HY := hide hy
  have hby := (pack_open _ _ hp h.lok).1
  obtain ⟨a, c, hv, -⟩ := h.shape
  obtain ⟨n, hn⟩ : ∃ n, es.length = n := ⟨_, rfl⟩
  have HPK := fun (u : World) (hb : Below w.heap.size w u) => bk_packed w u v es row h hT hb hp hsz
  rw [hv, hn, hm] at HPK
  rw [hm] at hms h20 hk hro
  rw [hv, hn]
  have HPK := hide HPK
  have HRO := hide hro
  have HYK : Hid (0 ≤ row.getD k 0 ∧ row.getD k 0 ≤ 255) := hby _ (by rw [List.getD_eq_getElem?_getD, List.getElem?_eq_getElem (by omega)]; exact List.getElem_mem _)
  have hbx : Byt (row.take k ++ [y] ++ (row.drop (k + 1)).take (m - 4 - (k + 1))) := byt_app (byt_app (byt_take hby _) (fun x9 hx9 => by rw [List.mem_singleton.1 hx9]; exact HY.out)) (byt_take (byt_drop hby _) _)
  have hlx : (row.take k ++ [y] ++ (row.drop (k + 1)).take (m - 4 - (k + 1))).length = k + 1 + (m - 4 - (k + 1)) := by simp; omega
  have HRC : Hid (∀ (g : Nat) {u : World}, Reads u (some ⟨g, 0, none⟩) m row → Reads u (some ⟨g, k + 1, none⟩) (m - 4 - (k + 1)) ((row.drop (k + 1)).take (m - 4 - (k + 1)))) := fun g u hr => (hr.cut (k + 1) 0 (by omega)).front (m - 4 - (k + 1)) (by omega)
  have HRX : Hid (∀ (u : World) (B g l cp : Nat), Own u B g l cp (row.take k ++ [y] ++ (row.drop (k + 1)).take (m - 4 - (k + 1))) → Reads u (some ⟨g, 0, none⟩) l (row.take k ++ [y] ++ (row.drop (k + 1)).take (m - 4 - (k + 1)))) := fun u B g l cp ho => own_all_reads ho hbx
  have HRS : Hid (∀ (u : World) (B g cp : Nat), Own u B g (k + 1 + (m - 4 - (k + 1)) + 4) cp (sealL (row.take k ++ [y] ++ (row.drop (k + 1)).take (m - 4 - (k + 1)))) → Reads u (some ⟨g, 0, none⟩) (k + 1 + (m - 4 - (k + 1)) + 4) (sealL (row.take k ++ [y] ++ (row.drop (k + 1)).take (m - 4 - (k + 1))))) := fun u B g cp ho => own_all_reads ho (byt_app hbx (by rw [← le4_num]; exact numL_byt _ _))
  have i4 : ¬ (m : Int) < 4 := by omega
  have q2 : IntKind.i64.wrap ((m : Int) - 4) = ((m - 4 : Nat) : Int) := by rw [IntKind.wrap_i64]; omega
  have q1 : IntKind.i64.wrap ((k : Int) + 1) = ((k + 1 : Nat) : Int) := by rw [IntKind.wrap_i64]; omega
  have k0 : ¬ (k : Int) < 0 := by omega
  have k1 : ¬ ((m - 4 : Nat) : Int) ≤ (k : Int) := by omega
  have k2 : (0 : Int) ≤ (k : Int) := by omega
  have k3 : (0 : Int) ≤ ((k + 1 : Nat) : Int) := by omega
  have k4 : ((k + 1 : Nat) : Int) ≤ ((m - 4 : Nat) : Int) := by omega
  have k5 : (k : Int) < (m : Int) := by omega
  have w1 : (hw != 2) = true := by simp [hhw.2]
  have w2 : (hw == 1) = false := by simp [hhw.1]
  clear hhw
  have TA : Hid True := trivial
  have TQ : Hid True := trivial
  clear hT hp h hsz hm hn hv hro hy hby hbx hlx
  go_enter Tryz.func4, Tryz.ntmps4
  go_wp2_with (first
      | (go_at_call 5; refine (heads_any _ HT.out).mono ?_; rintro e u0 ⟨rfl, hb0⟩; have HB0 := hide hb0; clear hb0)
      | (go_at_call 8; refine (lno_any _ _).mono ?_; rintro e u9 ⟨rfl, rfl⟩)
      | (go_at_call 7; have zz := TQ; clear TQ zz; refine (HPK.out _ HB0.out).mono ?_; rintro e u1 ⟨g, cap, rfl, hs⟩
         have kc2 : (k : Int) ≤ (cap : Int) := by have := hs.c1; omega
         have kc3 : ((m - 4 : Nat) : Int) ≤ (cap : Int) := by have := hs.c1; omega
         have kc4 : ¬ cap = k + 1 := by have := hs.c1; omega
         have kc5 : ¬ k + 1 = cap := by have := hs.c1; omega
         have kc6 : k + 1 < cap := by have := hs.c1; omega
         have HS := hide hs
         clear hs HPK HB0)
      | (at_builtin; have zz := TA; clear TA zz; refine wpList_append_reads rfl (.tmp 38) (.tmp 41) rfl u9.heap.size (.slice (some ⟨u9.heap.size, 0, none⟩) 0 0) 0 [] rfl (own_nought u9 u9.heap.size rfl) (some ⟨g, 0, none⟩) k cap (row.take k) rfl ((HS.out.row.front k (by omega)).below (below_alloc _ _)) (by omega) (by simp) ?_; intro v1 t1 own1 grow1; simp only [Nat.zero_add, List.nil_append] at own1
         have TB : Hid True := trivial
         have HB1 : Hid (Below w.heap.size w t1) := (HS.out.below.alloc HS.out.below.size _).grown grow1 (by have := HS.out.below.size; simp; omega) (fun q hq => Nat.le_trans HS.out.below.size ((own_nought u9 u9.heap.size rfl).lt q hq).1)
         have HG1 : Hid (Below u9.heap.size u9 t1) := (below_alloc u9 _).grown grow1 (by simp) (fun q hq => ((own_nought u9 u9.heap.size rfl).lt q hq).1)
         have HO1 : Hid (t1.ownsRow u9.heap.size 5 1 v1 k ((row.take k).map (Value.int .u8))) := own1
         clear own1 grow1)
      | (at_builtin; have zz := TB; clear TB zz; refine wpList_append_reads rfl (.tmp 45) (.tmp 47) rfl u9.heap.size v1 (k) (row.take k) rfl (HO1.out.alloc _) _ 1 1 [y] rfl (reads_alloc t1 [y] (by intro x9 hx9; rw [List.mem_singleton.1 hx9]; exact HY.out)) (by omega) (by have := HG1.out.size; simp; omega) ?_; intro v2 t2 own2 grow2
         have TC : Hid True := trivial
         have HG2 : Hid (Below u9.heap.size u9 t2) := (HG1.out.alloc HG1.out.size _).grown grow2 (by have := HG1.out.size; simp; omega) (fun q hq => (HO1.out.lt q hq).1)
         have HO2 : Hid (t2.ownsRow u9.heap.size 5 1 v2 (k + 1) ((row.take k ++ [y]).map (Value.int .u8))) := own2
         clear own2 grow2)
      | (at_builtin; have zz := TC; clear TC zz; refine wpList_append_reads rfl (.tmp 58) (.tmp 65) rfl u9.heap.size v2 (k + 1) (row.take k ++ [y]) rfl HO2.out (some ⟨g, k + 1, none⟩) (m - 4 - (k + 1)) (cap - (k + 1)) ((row.drop (k + 1)).take (m - 4 - (k + 1))) rfl ((HRC.out _ HS.out.row).below HG2.out) (by omega) (by have := HG2.out.size; omega) ?_; intro v8 t8 own8 grow8; obtain ⟨g8, c8, rfl, hc81, hc82, hg81, hg82⟩ := own_shape own8 (by omega)
         have HG8 : Hid (Below u9.heap.size u9 t8) := HG2.out.grown grow8 (by have := HG2.out.size; omega) (fun q hq => (HO2.out.lt q hq).1)
         have HO8 : Hid (Own t8 u9.heap.size g8 (k + 1 + (m - 4 - (k + 1))) c8 (row.take k ++ [y] ++ (row.drop (k + 1)).take (m - 4 - (k + 1)))) := own8
         clear own8 grow8 hc81 hc82 hg81 hg82)
      | (go_at_call 14; refine (sealed_any _ _ _ _ _ (HRX.out _ _ _ _ _ HO8.out) (by omega) ((HS.out.tab).below HG8.out)).mono ?_; rintro e u3 ⟨g3, c3, rfl, own3, b3⟩
         have HB3 : Hid (Below u9.heap.size u9 u3) := bel_up HG8.out b3 HG8.out.size
         have HT3 : Hid (Tab u3) := HS.out.tab.below HB3.out
         obtain ⟨q1', q2', q3', q4', q5', q6', q7'⟩ := own_shape own3 (by omega)
         cases q3'
         have HR3 : Hid (Reads u3 (some ⟨g3, 0, none⟩) (k + 1 + (m - 4 - (k + 1)) + 4) (sealL (row.take k ++ [y] ++ (row.drop (k + 1)).take (m - 4 - (k + 1))))) := HRS.out _ _ _ _ own3
         have HL3 : Hid (g3 < u3.heap.size) := q7'
         have HC3 : Hid (k + 1 + (m - 4 - (k + 1)) + 4 ≤ c3 ∧ c3 ≤ 9223372036854775807) := ⟨q4', q5'⟩
         clear own3 b3 q4' q5' q6' q7')
      | (go_at_call 15; refine (rlarge_any g3 0 _ c3 _ _ HR3.out HL3.out (by omega) HC3.out.1 HC3.out.2).mono ?_; rintro e u4 ⟨⟨z4, rfl⟩, b4⟩
         have HB4 : Hid (Below u3.heap.size u3 u4) := b4
         clear b4)
      | (go_at_call 10; refine (read_any g3 0 _ c3 _ _ (HR3.out.below HB4.out) (Nat.lt_of_lt_of_le HL3.out HB4.out.size) (by omega) HC3.out.1 HC3.out.2 (HT3.out.below HB4.out)).mono ?_; rintro e u5 ⟨hv, b5⟩
         rw [HRO.out] at hv
         obtain ⟨vy, ey, rfl, hey, hly⟩ := hv
         have HB5 : Hid (Below u4.heap.size u4 u5) := b5
         have HEY := hide hey
         have HLY := hide hly
         have TP : Hid True := trivial
         clear b5 hey hly)
      | (go_at_call 7; have zz := TP; clear TP zz; refine (cn_pack _ ps vy ey _ _ HR3.out.2.1 (by have := HR3.out.1; omega) HRO.out HEY.out HLY.out ((HT3.out.below HB4.out).below HB5.out)).mono ?_; rintro e u6 ⟨g6, c6, rfl, r6, b6⟩
         have HB6 := hide b6
         have hl6 := HR3.out.1
         rw [hl6] at r6
         rw [hl6]
         have HR6 := hide r6
         clear r6 b6 hl6)
      | (go_at_call 9; refine (same_eq _ _ _ _ _ _ _ HR6.out (((HR3.out.below HB4.out).below HB5.out).below HB6.out)).mono ?_; rintro e u7 ⟨rfl, rfl⟩))
  · go_ret
    exact ⟨rfl, bel_up (bel_up HS.out.below HB3.out HS.out.below.size) HB4.out (Nat.le_trans HS.out.below.size HB3.out.size)⟩
  · go_ret
    exact ⟨rfl, bel_up (bel_up (bel_up (bel_up HS.out.below HB3.out HS.out.below.size) HB4.out (Nat.le_trans HS.out.below.size HB3.out.size)) HB5.out (bel_up (bel_up HS.out.below HB3.out HS.out.below.size) HB4.out (Nat.le_trans HS.out.below.size HB3.out.size)).size) HB6.out (bel_up (bel_up (bel_up HS.out.below HB3.out HS.out.below.size) HB4.out (Nat.le_trans HS.out.below.size HB3.out.size)) HB5.out (bel_up (bel_up HS.out.below HB3.out HS.out.below.size) HB4.out (Nat.le_trans HS.out.below.size HB3.out.size)).size).size⟩

theorem canonWalk (v : Value) (es : List Le) (z y hw : Int) (w : World) (h : RdL w w.heap.size v es) (hsum : 22 * ((es.map Le.l).map wt).sum ≤ 23068672) (hy : 0 ≤ y ∧ y ≤ 255) (hT : Tab w) :
    Calls Tryz.prog 4 #[v, .int .i64 z, .int .u8 y, .int .i64 hw] w fun e w' => e = .returned (.bool true) ∧ Below w.heap.size w w' := by
  have h1 := sz_wt (es.map Le.l)
  have hsz : szL (es.map Le.l) ≤ 38000000000000 := by omega
  cases hp : packM (es.map Le.l) with
  | error x => exact canon_err v es z y hw x w h hT hsz hp
  | ok row =>
    have h2 := pack_most _ _ hp
    have h3 := most_wt (es.map Le.l)
    have h4 := mostS_tail (es.map Le.l)
    have hms : row.length ≤ 4194300 := by omega
    have h20 := (pack_facts hp (by omega)).2.2
    by_cases k0 : z < 0
    · exact canon_far v es row z y hw w h hT hsz hp hms h20 (Or.inl k0)
    · by_cases k1 : (row.length : Int) - 4 ≤ z
      · exact canon_far v es row z y hw w h hT hsz hp hms h20 (Or.inr ⟨by omega, k1⟩)
      · obtain ⟨k, rfl⟩ : ∃ k : Nat, z = (k : Int) := ⟨z.toNat, by omega⟩
        have hk : k + 4 < row.length := by omega
        by_cases c2 : hw = 2
        · cases ho : openR (sealL (row.take k ++ (row.drop (k + 1)).take (row.length - 4 - (k + 1)))) with
          | error x => exact canon_two_bad v es row k y hw w h hT hsz hp hms h20 hk hy c2 x ho
          | ok ps => exact canon_two_good v es row k y hw w h hT hsz hp hms h20 hk hy c2 ps ho
        · by_cases c1 : hw = 1
          · cases ho : openR (sealL (row.take k ++ [y] ++ [row.getD k 0] ++ (row.drop (k + 1)).take (row.length - 4 - (k + 1)))) with
            | error x => exact canon_one_bad v es row k y hw w h hT hsz hp hms h20 hk hy c1 x ho
            | ok ps => exact canon_one_good v es row k y hw w h hT hsz hp hms h20 hk hy c1 ps ho
          · cases ho : openR (sealL (row.take k ++ [y] ++ (row.drop (k + 1)).take (row.length - 4 - (k + 1)))) with
            | error x => exact canon_oth_bad v es row k y hw w h hT hsz hp hms h20 hk hy ⟨c1, c2⟩ x ho
            | ok ps => exact canon_oth_good v es row k y hw w h hT hsz hp hms h20 hk hy ⟨c1, c2⟩ ps ho
end Go.Proofs.YtdiifegljonojaaGreatDoor
