/-
  SEAT YtdiifegljonojaaDoor: Yf, of several texts.
-/
import Derived.Test.YtdiifegljonojaaDoorXc
import Derived.Test.YtdiifegljonojaaDoorXi
namespace Go.Proofs.YtdiifegljonojaaDoor
open Go.RowKit
set_option linter.unusedVariables false

namespace Fw
variable {α : Type} {lt : α → α → Prop}
/-- One list of names comes right behind another. -/
def Stp (lt : α → α → Prop) (p n : List α) : Prop := 1 ≤ n.length ∧ n.length - 1 ≤ p.length ∧ n.take (n.length - 1) = p.take (n.length - 1) ∧ (n.length - 1 = p.length ∨ ∃ x y, p[n.length - 1]? = some x ∧ n[n.length - 1]? = some y ∧ lt x y)
/-- It lies above, off the road. -/
def Gt (lt : α → α → Prop) (a n : List α) : Prop := ∃ d x y, n.take d = a.take d ∧ a[d]? = some x ∧ n[d]? = some y ∧ lt x y
/-- It lies in that place. -/
def Pr (a n : List α) : Prop := a.length < n.length ∧ n.take a.length = a
theorem some_lt {l : List α} {d : Nat} {x : α} (h : l[d]? = some x) : d < l.length := (List.getElem?_eq_some_iff.1 h).1
theorem take_less {l m : List α} {d e : Nat} (h : l.take d = m.take d) (he : e ≤ d) : l.take e = m.take e := by
  have := congrArg (List.take e) h
  rwa [List.take_take, List.take_take, Nat.min_eq_left he] at this
theorem at_eq {l m : List α} {d e : Nat} (h : l.take d = m.take d) (he : e < d) : l[e]? = m[e]? := by
  have := congrArg (·[e]?) h
  simpa [List.getElem?_take, he] using this
theorem gt_step (tr : ∀ x y z, lt x y → lt y z → lt x z) {a p n : List α} (h : Stp lt p n) (hg : Gt lt a p) : Gt lt a n := by
  obtain ⟨h1, h2, h3, h4⟩ := h
  obtain ⟨d, x, y, hd, hx, hy, hxy⟩ := hg
  rcases Nat.lt_trichotomy (n.length - 1) d with hc | hc | hc
  · have := some_lt hy
    rcases h4 with h4 | ⟨x', y', hx', hy', hxy'⟩
    · omega
    · refine ⟨n.length - 1, x', y', ?_, ?_, hy', hxy'⟩
      · rw [h3, take_less hd (by omega)]
      · rw [← at_eq hd hc, hx']
  · have := some_lt hy
    rcases h4 with h4 | ⟨x', y', hx', hy', hxy'⟩
    · omega
    · refine ⟨n.length - 1, x, y', ?_, ?_, hy', ?_⟩
      · rw [h3, hc, hd]
      · rw [hc, hx]
      · rw [hc, hy] at hx'
        cases hx'
        exact tr _ _ _ hxy hxy'
  · refine ⟨d, x, y, ?_, hx, ?_, hxy⟩
    · rw [take_less h3 (by omega), hd]
    · rw [at_eq h3 hc, hy]
theorem gt_not (ir : ∀ x, ¬ lt x x) {a n : List α} (hg : Gt lt a n) (hp : n = a ∨ Pr a n) : False := by
  obtain ⟨d, x, y, hd, hx, hy, hxy⟩ := hg
  have hpa : n.take a.length = a.take a.length := by
    rw [List.take_length]
    rcases hp with rfl | hp
    · exact List.take_length
    · exact hp.2
  have := at_eq hpa (some_lt hx)
  rw [hx, hy] at this
  cases this
  exact ir _ hxy
theorem skip (tr : ∀ x y z, lt x y → lt y z → lt x z) {q a n : List α} (h : Stp lt q a) (hn : 1 ≤ n.length) (hl : n.length - 1 < a.length) (hg : ∃ x y, n.take (n.length - 1) = a.take (n.length - 1) ∧ a[n.length - 1]? = some x ∧ n[n.length - 1]? = some y ∧ lt x y) : Stp lt q n := by
  obtain ⟨h1, h2, h3, h4⟩ := h
  obtain ⟨x, y, g1, g2, g3, g4⟩ := hg
  refine ⟨hn, by omega, by rw [g1, take_less h3 (by omega)], ?_⟩
  by_cases hd : n.length - 1 = a.length - 1
  · rcases h4 with h4 | ⟨x', y', hx', hy', hxy'⟩
    · left; omega
    · right
      rw [← hd] at hx' hy'
      rw [hy'] at g2
      cases g2
      exact ⟨x', y, hx', g3, tr _ _ _ hxy' g4⟩
  · right
    refine ⟨x, y, ?_, g3, g4⟩
    rw [← at_eq h3 (by omega), g2]
theorem in_step' {a p n : List α} (h : Stp lt p n) (hp : p = a ∨ Pr a p) : Pr a n ∨ (n.length - 1 < a.length ∧ ∃ x y, n.take (n.length - 1) = a.take (n.length - 1) ∧ a[n.length - 1]? = some x ∧ n[n.length - 1]? = some y ∧ lt x y) := by
  obtain ⟨h1, h2, h3, h4⟩ := h
  have ht : p.take a.length = a := by
    rcases hp with rfl | hp
    · exact List.take_length
    · exact hp.2
  have hl : a.length ≤ p.length := by
    rcases hp with rfl | hp
    · exact Nat.le_refl _
    · exact Nat.le_of_lt hp.1
  by_cases hd : a.length ≤ n.length - 1
  · left
    refine ⟨by omega, ?_⟩
    rw [take_less h3 hd, ht]
  · right
    refine ⟨by omega, ?_⟩
    rcases h4 with h4 | ⟨x, y, hx, hy, hxy⟩
    · omega
    · have hpa : p.take a.length = a.take a.length := by rw [ht, List.take_length]
      refine ⟨x, y, ?_, ?_, hy, hxy⟩
      · rw [h3, take_less hpa (by omega)]
      · rw [← at_eq hpa (by omega), hx]
end Fw
theorem bl_irr : ∀ a : List UInt8, Op.bytesLess a a = false
  | [] => rfl
  | a :: x => by
    rw [Op.bytesLess, bl_irr x]
    have : ¬ a < a := by rw [UInt8.lt_iff_toNat_lt]; omega
    simp [this]
theorem bl_tra : ∀ a b c : List UInt8, Op.bytesLess a b = true → Op.bytesLess b c = true → Op.bytesLess a c = true
  | _, _, [], _, h => by simp [Op.bytesLess] at h
  | _, [], _ :: _, h, _ => by simp [Op.bytesLess] at h
  | [], _ :: _, _ :: _, _, _ => rfl
  | a :: x, b :: y, c :: z, h1, h2 => by
    rw [Op.bytesLess] at h1 h2 ⊢
    rw [Bool.or_eq_true, Bool.and_eq_true, decide_eq_true_eq, beq_iff_eq] at h1 h2 ⊢
    rw [UInt8.lt_iff_toNat_lt] at h1 h2 ⊢
    rcases h1 with h1 | ⟨rfl, h1⟩
    · rcases h2 with h2 | ⟨rfl, h2⟩
      · left; omega
      · left; exact h1
    · rcases h2 with h2 | ⟨rfl, h2⟩
      · left; exact h2
      · right; exact ⟨rfl, bl_tra x y z h1 h2⟩
theorem bl_tri : ∀ a b : List UInt8, Op.bytesLess a b = false → a ≠ b → Op.bytesLess b a = true
  | [], [], _, h => absurd rfl h
  | _ :: _, [], _, _ => rfl
  | [], _ :: _, h, _ => by simp [Op.bytesLess] at h
  | a :: x, b :: y, h, hn => by
    rw [Op.bytesLess] at h ⊢
    rw [Bool.or_eq_false_iff, decide_eq_false_iff_not, UInt8.lt_iff_toNat_lt] at h
    rw [Bool.or_eq_true, Bool.and_eq_true, decide_eq_true_eq, beq_iff_eq, UInt8.lt_iff_toNat_lt]
    obtain ⟨h1, h2⟩ := h
    by_cases hab : a = b
    · subst hab
      right
      refine ⟨rfl, bl_tri x y ?_ (fun h => hn (by rw [h]))⟩
      simpa using h2
    · left
      have : a.toNat ≠ b.toNat := fun h => hab (UInt8.toNat_inj.1 h)
      omega
/-- A name lies ahead of another. -/
def ltN (x y : ByteArray) : Prop := Op.bytesLess x.toList y.toList = true
theorem ltN_irr (x : ByteArray) : ¬ ltN x x := by unfold ltN; rw [bl_irr]; decide
theorem ltN_tra (x y z : ByteArray) (h1 : ltN x y) (h2 : ltN y z) : ltN x z := bl_tra _ _ _ h1 h2
theorem ahead_iff (l : List ByteArray) (d : Nat) (nm : ByteArray) : aheadB l d nm = true ↔ d = l.length ∨ ltN (l.getD d ByteArray.empty) nm := by
  unfold aheadB ltN
  rw [Bool.or_eq_true, decide_eq_true_eq, Bool.not_eq_true', Bool.or_eq_false_iff]
  constructor
  · rintro (h | ⟨h1, h2⟩)
    · exact Or.inl h
    · exact Or.inr (bl_tri _ _ h1 (by rw [beq_eq_false_iff_ne] at h2; exact h2))
  · rintro (h | h)
    · exact Or.inl h
    · refine Or.inr ⟨?_, ?_⟩
      · rw [Bool.eq_false_iff]
        intro h9
        have := bl_tra _ _ _ h h9
        rw [bl_irr] at this
        cases this
      · rw [beq_eq_false_iff_ne]
        intro h9
        rw [h9, bl_irr] at h
        cases h
theorem getD_some {l : List ByteArray} {d : Nat} (h : d < l.length) : l[d]? = some (l.getD d ByteArray.empty) := by
  rw [List.getD_eq_getElem?_getD, List.getElem?_eq_getElem h]; rfl
theorem fol_stp {ns0 ns : List ByteArray} {d0 : Bool} (h : folB ns0 d0 ns = true) : Fw.Stp ltN ns0 ns ∧ (ns.length : Int) - 1 ≤ deepB ns0.length d0 := by
  unfold folB at h
  rw [Bool.and_eq_true, Bool.and_eq_true, Bool.and_eq_true, decide_eq_true_eq, decide_eq_true_eq, decide_eq_true_eq, ahead_iff] at h
  obtain ⟨⟨⟨h1, h2⟩, h3⟩, h4⟩ := h
  have h5 : deepB ns0.length d0 ≤ ns0.length := by unfold deepB; split <;> omega
  refine ⟨⟨h1, by omega, h3, ?_⟩, h2⟩
  by_cases hd : ns.length - 1 = ns0.length
  · exact Or.inl hd
  · right
    rcases h4 with h4 | h4
    · exact absurd h4 hd
    · exact ⟨_, _, getD_some (by omega), getD_some (by omega), h4⟩
theorem stp_fol {ns0 ns : List ByteArray} {d0 : Bool} (h : Fw.Stp ltN ns0 ns) (h2 : (ns.length : Int) - 1 ≤ deepB ns0.length d0) : folB ns0 d0 ns = true := by
  obtain ⟨h1, h5, h3, h4⟩ := h
  unfold folB
  rw [Bool.and_eq_true, Bool.and_eq_true, Bool.and_eq_true, decide_eq_true_eq, decide_eq_true_eq, decide_eq_true_eq, ahead_iff]
  refine ⟨⟨⟨h1, h2⟩, h3⟩, ?_⟩
  rcases h4 with h4 | ⟨x, y, hx, hy, hxy⟩
  · exact Or.inl h4
  · right
    rw [getD_some (Fw.some_lt hx)] at hx
    rw [getD_some (Fw.some_lt hy)] at hy
    cases hx; cases hy
    exact hxy

/-- All leaves may come one behind another. -/
def Chn : List ByteArray → Bool → List Lf → Prop
  | _, _, [] => True
  | ns0, d0, l :: r => okL ns0 d0 l = true ∧ Chn (Pt.spN l.path) (l.ty == 2) r
theorem goL_chn : ∀ (es : List Lf) (ns0 : List ByteArray) (d0 : Bool) (laid x : List Int), goL ns0 d0 laid es = .ok x ↔ Chn ns0 d0 es ∧ x = laid ++ es.flatMap encL
  | [], ns0, d0, laid, x => by
    rw [goL, Chn, List.flatMap_nil, List.append_nil]
    constructor
    · intro h; injection h with h; exact ⟨trivial, h.symm⟩
    · rintro ⟨-, rfl⟩; rfl
  | l :: r, ns0, d0, laid, x => by
    rw [goL, Chn, List.flatMap_cons, ← List.append_assoc]
    by_cases h : okL ns0 d0 l = true
    · rw [if_pos h, goL_chn r]
      constructor
      · rintro ⟨h1, h2⟩; exact ⟨⟨h, h1⟩, h2⟩
      · rintro ⟨⟨-, h1⟩, h2⟩; exact ⟨h1, h2⟩
    · rw [if_neg h]
      constructor
      · intro h1; cases h1
      · rintro ⟨⟨h1, -⟩, -⟩; exact absurd h1 h
theorem okL_fol {ns0 : List ByteArray} {d0 : Bool} {l : Lf} (h : okL ns0 d0 l = true) : nmsB l.path = true ∧ bodB l.ty l.mode l.data.length l.target = true ∧ folB ns0 d0 (Pt.spN l.path) = true := by
  unfold okL at h
  rw [Bool.and_eq_true, Bool.and_eq_true] at h
  exact ⟨h.1.1, h.1.2, h.2⟩
theorem chn_front : ∀ (A B : List Lf) (ns0 : List ByteArray) (d0 : Bool), Chn ns0 d0 (A ++ B) → Chn ns0 d0 A
  | [], _, _, _, _ => trivial
  | l :: A, B, _, _, h => ⟨h.1, chn_front A B _ _ h.2⟩
/-- Behind what lies above nothing lies in the place. -/
theorem chn_gt (a : List ByteArray) : ∀ (B : List Lf) (p : List ByteArray) (d : Bool), Chn p d B → Fw.Gt ltN a p → ∀ l ∈ B, Fw.Gt ltN a (Pt.spN l.path)
  | [], _, _, _, _ => fun _ h => by cases h
  | l :: B, p, d, h, hg => by
    have h1 := Fw.gt_step ltN_tra (fol_stp (okL_fol h.1).2.2).1 hg
    intro x hx
    rcases List.mem_cons.1 hx with rfl | hx
    · exact h1
    · exact chn_gt a B _ _ h.2 h1 x hx
theorem gt_of {a n : List ByteArray} (h : n.length - 1 < a.length ∧ ∃ x y, n.take (n.length - 1) = a.take (n.length - 1) ∧ a[n.length - 1]? = some x ∧ n[n.length - 1]? = some y ∧ ltN x y) : Fw.Gt ltN a n := by
  obtain ⟨_, x, y, h1, h2, h3, h4⟩ := h
  exact ⟨_, x, y, h1, h2, h3, h4⟩
/-- A leaf does not come again. -/
theorem chn_again (e : Lf) : ∀ (A B : List Lf) (p : List ByteArray) (d : Bool), Chn p d (A ++ e :: B) → (Fw.Pr (Pt.spN e.path) p ∨ Fw.Gt ltN (Pt.spN e.path) p) → False
  | [], B, p, d, h, hp => by
    have hs := (fol_stp (okL_fol h.1).2.2).1
    have : Fw.Pr (Pt.spN e.path) (Pt.spN e.path) ∨ Fw.Gt ltN (Pt.spN e.path) (Pt.spN e.path) := by
      rcases hp with hp | hp
      · rcases Fw.in_step' hs (Or.inr hp) with h1 | h1
        · exact Or.inl h1
        · exact Or.inr (gt_of h1)
      · exact Or.inr (Fw.gt_step ltN_tra hs hp)
    rcases this with h1 | h1
    · exact absurd h1.1 (Nat.lt_irrefl _)
    · exact Fw.gt_not ltN_irr h1 (Or.inl rfl)
  | l :: A, B, p, d, h, hp => by
    have hs := (fol_stp (okL_fol h.1).2.2).1
    refine chn_again e A B _ _ h.2 ?_
    rcases hp with hp | hp
    · rcases Fw.in_step' hs (Or.inr hp) with h1 | h1
      · exact Or.inl h1
      · exact Or.inr (gt_of h1)
    · exact Or.inr (Fw.gt_step ltN_tra hs hp)
theorem chn_before (e : Lf) : ∀ (A B : List Lf) (p : List ByteArray) (d : Bool), Chn p d (A ++ e :: B) → ∀ l ∈ A, ¬ Fw.Pr (Pt.spN e.path) (Pt.spN l.path)
  | [], _, _, _, _ => fun _ h => by cases h
  | l :: A, B, p, d, h => by
    intro x hx
    rcases List.mem_cons.1 hx with rfl | hx
    · exact fun hp => chn_again e A B _ _ h.2 (Or.inl hp)
    · exact chn_before e A B _ _ h.2 x hx
theorem chn_behind (q a : List ByteArray) (dq : Bool) (hqs : Fw.Stp ltN q a) (hqd : (a.length : Int) - 1 ≤ deepB q.length dq) (K : Lf → Bool) : ∀ (B : List Lf) (p : List ByteArray) (d : Bool), Chn p d B → (∀ l ∈ B, K l = true ↔ ¬ Fw.Pr a (Pt.spN l.path)) → (p = a ∨ Fw.Pr a p) → Chn q dq (B.filter K)
  | [], _, _, _, _, _ => trivial
  | l :: B, p, d, h, hK, hp => by
    have hl := okL_fol h.1
    have hs := (fol_stp hl.2.2).1
    rcases Fw.in_step' hs hp with h1 | h1
    · rw [List.filter_cons_of_neg (fun h9 => (hK l List.mem_cons_self).1 h9 h1)]
      exact chn_behind q a dq hqs hqd K B _ _ h.2 (fun x hx => hK x (List.mem_cons_of_mem _ hx)) (Or.inr h1)
    · have hg := gt_of h1
      have hkl : K l = true := (hK l List.mem_cons_self).2 (fun h9 => Fw.gt_not ltN_irr hg (Or.inr h9))
      have hall := chn_gt a B _ _ h.2 hg
      have hf : B.filter K = B := List.filter_eq_self.2 (fun x hx => (hK x (List.mem_cons_of_mem _ hx)).2 (fun h9 => Fw.gt_not ltN_irr (hall x hx) (Or.inr h9)))
      rw [List.filter_cons_of_pos hkl, hf]
      refine ⟨?_, h.2⟩
      unfold okL
      rw [hl.1, hl.2.1]
      have hst := Fw.skip ltN_tra hqs hs.1 h1.1 h1.2
      have := stp_fol (d0 := dq) hst (by have := h1.1; omega)
      rw [this]
      rfl
/-- A tree without a leaf and all that lies in it. -/
theorem chn_less (e : Lf) (K : Lf → Bool) : ∀ (A B : List Lf) (p : List ByteArray) (d : Bool), Chn p d (A ++ e :: B) → (∀ l ∈ B, K l = true ↔ ¬ Fw.Pr (Pt.spN e.path) (Pt.spN l.path)) → Chn p d (A ++ B.filter K)
  | [], B, p, d, h, hK => by
    have hs := fol_stp (okL_fol h.1).2.2
    exact chn_behind p _ d hs.1 hs.2 K B _ _ h.2 hK (Or.inl rfl)
  | l :: A, B, p, d, h, hK => ⟨h.1, chn_less e K A B _ _ h.2 hK⟩

/-- The texts: what lies in a place begins with the place's path and a slash. -/
theorem cut_names : ∀ (x y s t : List UInt8), (47 : UInt8) ∉ x → (47 : UInt8) ∉ y → (t = [] ∨ ∃ t', t = 47 :: t') → (x ++ 47 :: s) <+: (y ++ t) → x = y ∧ (47 :: s) <+: t
  | [], [], s, t, _, _, _, h => ⟨rfl, h⟩
  | [], b :: y, s, t, _, hy, _, h => by
    have h1 : (47 :: s) <+: b :: (y ++ t) := h
    rw [List.cons_prefix_cons] at h1
    exact absurd (by rw [h1.1]; exact List.mem_cons_self) hy
  | c :: x, [], s, t, hx, _, ht, h => by
    have h1 : (c :: (x ++ 47 :: s)) <+: t := h
    rcases ht with rfl | ⟨t', rfl⟩
    · rw [List.prefix_nil] at h1
      cases h1
    · rw [List.cons_prefix_cons] at h1
      exact absurd (by rw [h1.1]; exact List.mem_cons_self) hx
  | c :: x, b :: y, s, t, hx, hy, ht, h => by
    have h1 : (c :: (x ++ 47 :: s)) <+: b :: (y ++ t) := h
    rw [List.cons_prefix_cons] at h1
    have h2 := cut_names x y s t (fun h => hx (List.mem_cons_of_mem _ h)) (fun h => hy (List.mem_cons_of_mem _ h)) ht h1.2
    exact ⟨by rw [h1.1, h2.1], h2.2⟩
theorem tgA_cons (x : ByteArray) (r : List ByteArray) : Pt.tgA (x :: r) = 47 :: (x.data.toList ++ Pt.tgA r) := by
  unfold Pt.tgA
  rw [List.map_cons, Pt.tgL_cons]
  rfl
theorem tgA_head (n : List ByteArray) : Pt.tgA n = [] ∨ ∃ t', Pt.tgA n = 47 :: t' := by
  cases n with
  | nil => exact Or.inl rfl
  | cons x r => exact Or.inr ⟨_, tgA_cons x r⟩
theorem tgA_tail (a : List ByteArray) : ∃ s, Pt.tgA a ++ [47] = 47 :: s := by
  cases a with
  | nil => exact ⟨[], rfl⟩
  | cons x r => exact ⟨_, by rw [tgA_cons]; rfl⟩
theorem data_inj {x y : ByteArray} (h : x.data.toList = y.data.toList) : x = y := by
  obtain ⟨⟨x⟩⟩ := x
  obtain ⟨⟨y⟩⟩ := y
  exact congrArg (fun l => (⟨⟨l⟩⟩ : ByteArray)) h
theorem pre_pr : ∀ (a n : List ByteArray), (∀ x ∈ a, (47 : UInt8) ∉ x.data.toList) → (∀ x ∈ n, (47 : UInt8) ∉ x.data.toList) → (Pt.tgA a ++ [47]) <+: Pt.tgA n → Fw.Pr a n
  | [], n, _, _, h => by
    refine ⟨?_, rfl⟩
    cases n with
    | nil =>
      have h1 : [(47 : UInt8)] <+: [] := h
      rw [List.prefix_nil] at h1
      cases h1
    | cons _ _ => simp
  | x :: a, [], _, _, h => by
    rw [tgA_cons] at h
    have h1 : (47 :: (x.data.toList ++ Pt.tgA a) ++ [47]) <+: [] := h
    rw [List.prefix_nil] at h1
    cases h1
  | x :: a, y :: n, ha, hn, h => by
    rw [tgA_cons, tgA_cons, List.cons_append, List.cons_prefix_cons, List.append_assoc] at h
    obtain ⟨s, hs⟩ := tgA_tail a
    have h1 := h.2
    rw [hs] at h1
    obtain ⟨g1, g2⟩ := cut_names _ _ _ _ (ha x List.mem_cons_self) (hn y List.mem_cons_self) (tgA_head n) h1
    rw [← hs] at g2
    have h3 := pre_pr a n (fun z hz => ha z (List.mem_cons_of_mem _ hz)) (fun z hz => hn z (List.mem_cons_of_mem _ hz)) g2
    cases data_inj g1
    refine ⟨by rw [List.length_cons, List.length_cons]; have := h3.1; omega, ?_⟩
    rw [List.length_cons, List.take_succ_cons, h3.2]
theorem pr_pre {a n : List ByteArray} (h : Fw.Pr a n) : (Pt.tgA a ++ [47]) <+: Pt.tgA n := by
  have h1 : n = a ++ n.drop a.length := by
    conv => lhs; rw [← List.take_append_drop a.length n, h.2]
  have h2 : ∃ y r, n.drop a.length = y :: r := by
    cases hd : n.drop a.length with
    | nil =>
      have := congrArg List.length hd
      rw [List.length_drop] at this
      have := h.1
      simp at *
      omega
    | cons y r => exact ⟨y, r, rfl⟩
  obtain ⟨y, r, hy⟩ := h2
  rw [h1, hy, Pt.tgA_append, tgA_cons]
  exact ⟨y.data.toList ++ Pt.tgA r, by rw [List.append_assoc]; rfl⟩

/-- Is a leaf kept where those that begin so go? -/
def keepB (p : List UInt8) (l : Lf) : Bool := decide (l.path.size < p.length) || !(l.path.data.toList.take p.length == p)
theorem tg_data {n : List ByteArray} (h : n ≠ []) : (Pt.tg n).data.toList = Pt.tgA n := by
  unfold Pt.tg
  rw [if_neg h, Pt.data_byteOf]
theorem keep_iff {e l : Lf} (he : nmsB e.path = true) (hl : nmsB l.path = true) (ha : Pt.spN e.path ≠ []) :
    keepB (e.path.data.toList ++ [47]) l = true ↔ ¬ Fw.Pr (Pt.spN e.path) (Pt.spN l.path) := by
  have e1 := (nms_more he).1
  have l1 := (nms_more hl).1
  have e2 : e.path.data.toList = Pt.tgA (Pt.spN e.path) := by
    conv => lhs; rw [← e1]
    exact tg_data ha
  have hsz : l.path.size = l.path.data.toList.length := rfl
  unfold keepB
  rw [hsz]
  by_cases hn : Pt.spN l.path = []
  · have h1 : ¬ Fw.Pr (Pt.spN e.path) (Pt.spN l.path) := by
      intro h
      have := h.1
      rw [hn] at this
      cases this
    have h2 : l.path.data.toList = [47] := by
      rw [← l1, hn]
      unfold Pt.tg
      rw [if_pos rfl, Pt.data_byteOf]
    have h3 : 1 ≤ e.path.data.toList.length := by
      rw [e2]
      obtain ⟨s, hs⟩ := List.exists_cons_of_ne_nil ha
      obtain ⟨r, hs⟩ := hs
      rw [hs, tgA_cons, List.length_cons]
      omega
    have h4 : decide (l.path.data.toList.length < (e.path.data.toList ++ [47]).length) = true := by
      rw [h2, List.length_append]
      exact decide_eq_true (by simp only [List.length_cons, List.length_nil]; omega)
    rw [h4, Bool.true_or]
    exact ⟨fun _ => h1, fun _ => rfl⟩
  · have l2 : l.path.data.toList = Pt.tgA (Pt.spN l.path) := by
      conv => lhs; rw [← l1]
      exact tg_data hn
    rw [e2, l2]
    have hpr : Fw.Pr (Pt.spN e.path) (Pt.spN l.path) ↔ (Pt.tgA (Pt.spN e.path) ++ [47]) <+: Pt.tgA (Pt.spN l.path) :=
      ⟨pr_pre, pre_pr _ _ (fun x hx => (Pt.sp_mem (nms_facts he).1 hx).2.2.1) (fun x hx => (Pt.sp_mem (nms_facts hl).1 hx).2.2.1)⟩
    rw [hpr, List.prefix_iff_eq_take, Bool.or_eq_true, decide_eq_true_eq, Bool.not_eq_true', beq_eq_false_iff_ne]
    constructor
    · rintro (h | h) h9
      · have := congrArg List.length h9
        rw [List.length_take] at this
        omega
      · exact h h9.symm
    · intro h
      exact Or.inr (fun h9 => h h9.symm)
/-- What is left, as far as it has been looked at. -/
def fewF (K : Lf → Bool) (i0 : Nat) (es : List Le) (i : Nat) : List Le := ((es.take i).zipIdx.filter (fun x => decide (x.2 ≠ i0) && K x.1.l)).map Prod.fst
theorem fewF_zero (K : Lf → Bool) (i0 : Nat) (es : List Le) : fewF K i0 es 0 = [] := rfl
theorem fewF_step (K : Lf → Bool) (i0 : Nat) (es : List Le) (i : Nat) (h : i < es.length) : fewF K i0 es (i + 1) = fewF K i0 es i ++ (if (decide (i ≠ i0) && K es[i].l) = true then [es[i]] else []) := by
  unfold fewF
  rw [List.take_succ_eq_append_getElem h, List.zipIdx_append, List.filter_append, List.map_append]
  congr 1
  have h1 : (es.take i).length = i := by rw [List.length_take]; omega
  rw [List.zipIdx_cons, List.zipIdx_nil, h1, Nat.zero_add]
  by_cases hc : (decide (i ≠ i0) && K es[i].l) = true
  · rw [if_pos hc, List.filter_cons_of_pos (by exact hc)]; rfl
  · rw [if_neg hc, List.filter_cons_of_neg (by exact hc)]; rfl
theorem fewF_mem {K : Lf → Bool} {i0 : Nat} {es : List Le} {i : Nat} {x : Le} (h : x ∈ fewF K i0 es i) : x ∈ es := by
  unfold fewF at h
  obtain ⟨y, hy, rfl⟩ := List.mem_map.1 h
  have h1 := (List.mem_filter.1 hy).1
  have h2 : y.1 ∈ es.take i := by
    have := List.mem_zipIdx' (x := y.1) (i := y.2) h1
    rw [this.2]
    exact List.getElem_mem _
  exact List.mem_of_mem_take h2
theorem fewF_len (K : Lf → Bool) (i0 : Nat) (es : List Le) (i : Nat) : (fewF K i0 es i).length ≤ i := by
  unfold fewF
  rw [List.length_map]
  refine Nat.le_trans (List.length_filter_le _ _) ?_
  rw [List.length_zipIdx, List.length_take]
  omega
theorem filt_front (K : Lf → Bool) (i0 : Nat) : ∀ (A : List Le) (k : Nat), k + A.length ≤ i0 → (∀ x ∈ A, K x.l = true) → ((A.zipIdx k).filter (fun x => decide (x.2 ≠ i0) && K x.1.l)).map Prod.fst = A
  | [], _, _, _ => rfl
  | x :: A, k, h, hK => by
    rw [List.length_cons] at h
    rw [List.zipIdx_cons, List.filter_cons_of_pos (by rw [hK x List.mem_cons_self, Bool.and_true]; exact decide_eq_true (by simp only; omega)), List.map_cons, filt_front K i0 A (k + 1) (by omega) (fun y hy => hK y (List.mem_cons_of_mem _ hy))]
theorem filt_back (K : Lf → Bool) (i0 : Nat) : ∀ (B : List Le) (k : Nat), i0 < k → (((B.zipIdx k).filter (fun x => decide (x.2 ≠ i0) && K x.1.l)).map Prod.fst).map Le.l = (B.map Le.l).filter K
  | [], _, _ => rfl
  | x :: B, k, h => by
    rw [List.zipIdx_cons, List.map_cons]
    have h1 : decide (k ≠ i0) = true := decide_eq_true (by omega)
    by_cases hx : K x.l = true
    · rw [List.filter_cons_of_pos (by rw [hx, h1]; rfl), List.filter_cons_of_pos hx, List.map_cons, List.map_cons, filt_back K i0 B (k + 1) (by omega)]
    · rw [List.filter_cons_of_neg (by rw [h1, Bool.true_and]; exact hx), List.filter_cons_of_neg hx, filt_back K i0 B (k + 1) (by omega)]
theorem fewF_all (K : Lf → Bool) (A B : List Le) (e : Le) (hK : ∀ x ∈ A, K x.l = true) : (fewF K A.length (A ++ e :: B) (A ++ e :: B).length).map Le.l = A.map Le.l ++ (B.map Le.l).filter K := by
  unfold fewF
  rw [List.take_length, List.zipIdx_append, List.filter_append, List.map_append, List.map_append, filt_front K A.length A 0 (by omega) hK, Nat.zero_add, List.zipIdx_cons, List.filter_cons_of_neg (by simp), filt_back K A.length B (A.length + 1) (by omega)]
theorem pack_iff (l : Lf) (r : List Lf) (row : List Int) : packM (l :: r) = .ok row ↔ rootB l = true ∧ bodB l.ty l.mode l.data.length l.target = true ∧ Chn [] true r ∧ row = sealW (headW l ++ r.flatMap encL) := by
  rw [packM]
  by_cases h1 : rootB l = true
  · rw [if_pos h1]
    by_cases h2 : bodB l.ty l.mode l.data.length l.target = true
    · rw [if_pos h2]
      cases hg : goL [] true (headW l) r with
      | error e =>
        constructor
        · intro h; cases h
        · rintro ⟨-, -, h3, h4⟩
          have := (goL_chn r [] true (headW l) _).2 ⟨h3, rfl⟩
          rw [hg] at this
          cases this
      | ok x =>
        have h3 := (goL_chn r [] true (headW l) x).1 hg
        constructor
        · intro h
          injection h with h
          exact ⟨h1, h2, h3.1, by rw [← h3.2]; exact h.symm⟩
        · rintro ⟨-, -, -, h4⟩
          rw [h4, ← h3.2]
    · rw [if_neg h2]
      constructor
      · intro h; cases h
      · rintro ⟨-, h, -⟩; exact absurd h h2
  · rw [if_neg h1]
    constructor
    · intro h; cases h
    · rintro ⟨h, -⟩; exact absurd h h1
theorem sealW_len (x : List Int) : (sealW x).length = x.length + 5 := by
  unfold sealW
  simp only [List.length_append, numL_length]
theorem flat_filter (K : Lf → Bool) : ∀ B : List Lf, ((B.filter K).flatMap encL).length ≤ (B.flatMap encL).length
  | [] => Nat.le_refl _
  | l :: B => by
    have := flat_filter K B
    by_cases h : K l = true
    · rw [List.filter_cons_of_pos h, List.flatMap_cons, List.flatMap_cons, List.length_append, List.length_append]; omega
    · rw [List.filter_cons_of_neg h, List.flatMap_cons, List.length_append]; omega
theorem chn_oks : ∀ (A : List Lf) (p : List ByteArray) (d : Bool), Chn p d A → ∀ l ∈ A, nmsB l.path = true ∧ Pt.spN l.path ≠ []
  | [], _, _, _ => fun _ h => by cases h
  | l :: A, p, d, h => by
    intro x hx
    rcases List.mem_cons.1 hx with rfl | hx
    · have h1 := okL_fol h.1
      refine ⟨h1.1, fun h9 => ?_⟩
      have := (fol_stp h1.2.2).1.1
      rw [h9] at this
      cases this
    · exact chn_oks A _ _ h.2 x hx
theorem few_one (es : List Le) (row : List Int) (i : Nat) (h : packM (es.map Le.l) = .ok row) (h1 : 1 ≤ i) (h2 : i < es.length) :
    ∃ c, packM ((fewF (keepB (es[i].l.path.data.toList ++ [47])) i es es.length).map Le.l) = .ok c ∧ c.length < row.length := by
  obtain ⟨x, r, rfl⟩ := List.exists_cons_of_ne_nil (show es ≠ [] by intro h9; rw [h9] at h2; cases h2)
  rw [List.map_cons, pack_iff] at h
  obtain ⟨p1, p2, p3, p4⟩ := h
  obtain ⟨i, rfl⟩ : ∃ k, i = k + 1 := ⟨i - 1, by omega⟩
  rw [List.length_cons] at h2
  have h3 : i < r.length := by omega
  have hes : r = r.take i ++ r[i] :: r.drop (i + 1) := by rw [List.getElem_cons_drop h3, List.take_append_drop]
  have hge : (x :: r)[i + 1]'(by simp; omega) = r[i] := rfl
  rw [hge]
  obtain ⟨A, hA⟩ : ∃ A, r.take i = A := ⟨_, rfl⟩
  obtain ⟨B, hB⟩ : ∃ B, r.drop (i + 1) = B := ⟨_, rfl⟩
  obtain ⟨e, he⟩ : ∃ e, r[i] = e := ⟨_, rfl⟩
  have hAl : A.length = i := by rw [← hA, List.length_take]; omega
  rw [hA, hB, he] at hes
  rw [he]
  clear hge
  subst hes
  clear hA hB he
  rw [List.map_append, List.map_cons] at p3 p4
  have hoks := chn_oks _ _ _ p3
  have hin : nmsB e.l.path = true ∧ Pt.spN e.l.path ≠ [] := hoks _ (List.mem_append_right _ List.mem_cons_self)
  have hKA : ∀ l ∈ A.map Le.l, keepB (e.l.path.data.toList ++ [47]) l = true := fun l hl =>
    (keep_iff hin.1 (hoks l (List.mem_append_left _ hl)).1 hin.2).2 (chn_before e.l _ _ _ _ p3 l hl)
  have hroot : keepB (e.l.path.data.toList ++ [47]) x.l = true := by
    unfold rootB at p1
    rw [Bool.and_eq_true, decide_eq_true_eq, Lib.toList_data] at p1
    have q1 : x.l.path.size = 1 := by
      have : x.l.path.size = x.l.path.data.toList.length := rfl
      rw [this, p1.1]
      rfl
    unfold keepB
    rw [Bool.or_eq_true]
    left
    refine decide_eq_true ?_
    rw [q1, List.length_append]
    have : 1 ≤ e.l.path.data.toList.length := by
      rw [← (nms_more hin.1).1, tg_data hin.2]
      obtain ⟨s, r9, hs⟩ := List.exists_cons_of_ne_nil hin.2
      rw [hs, tgA_cons, List.length_cons]
      omega
    simp only [List.length_cons, List.length_nil]
    omega
  have hall := fewF_all (keepB (e.l.path.data.toList ++ [47])) (x :: A) B e (by
    intro y hy
    rcases List.mem_cons.1 hy with rfl | hy
    · exact hroot
    · exact hKA _ (List.mem_map_of_mem hy))
  have hAl2 : (x :: A).length = i + 1 := by rw [List.length_cons, hAl]
  rw [hAl2] at hall
  have hall2 : (fewF (keepB (e.l.path.data.toList ++ [47])) (i + 1) (x :: (A ++ e :: B)) (x :: (A ++ e :: B)).length).map Le.l = x.l :: (A.map Le.l ++ (B.map Le.l).filter (keepB (e.l.path.data.toList ++ [47]))) := hall
  rw [hall2]
  have hc := chn_less e.l (keepB (e.l.path.data.toList ++ [47])) _ _ _ _ p3 (fun l hl => keep_iff hin.1 (hoks l (List.mem_append_right _ (List.mem_cons_of_mem _ hl))).1 hin.2)
  refine ⟨_, (pack_iff _ _ _).2 ⟨p1, p2, hc, rfl⟩, ?_⟩
  rw [p4, sealW_len, sealW_len, List.length_append, List.length_append, List.flatMap_append, List.flatMap_append, List.flatMap_cons, List.length_append, List.length_append, List.length_append]
  have q1 := flat_filter (keepB (e.l.path.data.toList ++ [47])) (B.map Le.l)
  have q2 := encL_pos e.l
  omega
theorem few_two (es : List Le) (row : List Int) (h : packM (es.map Le.l) = .ok row) (h2 : 2 ≤ es.length) :
    ∃ c, packM ((es.take (es.length - 1)).map Le.l) = .ok c ∧ c.length < row.length := by
  obtain ⟨x, r, rfl⟩ := List.exists_cons_of_ne_nil (show es ≠ [] by intro h9; rw [h9] at h2; cases h2)
  rw [List.map_cons, pack_iff] at h
  obtain ⟨p1, p2, p3, p4⟩ := h
  rw [List.length_cons] at h2
  have h3 : r.length - 1 < r.length := by omega
  have ht : (x :: r).take ((x :: r).length - 1) = x :: r.take (r.length - 1) := by
    rw [List.length_cons, show r.length + 1 - 1 = (r.length - 1) + 1 by omega, List.take_succ_cons]
  have hes : r = r.take (r.length - 1) ++ [r[r.length - 1]] := by
    rw [List.take_append_getElem h3, show r.length - 1 + 1 = r.length by omega, List.take_length]
  obtain ⟨A, hA⟩ : ∃ A, r.take (r.length - 1) = A := ⟨_, rfl⟩
  obtain ⟨e, he⟩ : ∃ e, r[r.length - 1] = e := ⟨_, rfl⟩
  rw [ht, hA]
  rw [hA, he] at hes
  rw [hes, List.map_append] at p3 p4
  rw [List.map_cons]
  refine ⟨_, (pack_iff _ _ _).2 ⟨p1, p2, chn_front _ _ _ _ p3, rfl⟩, ?_⟩
  rw [p4, sealW_len, sealW_len, List.length_append, List.length_append, List.flatMap_append, List.length_append, List.map_cons, List.map_nil, List.flatMap_cons, List.flatMap_nil, List.append_nil]
  have q2 := encL_pos e.l
  omega
theorem rdl_few {w u : World} {v lv : Value} {es fs : List Le} {B : Nat} (h : RdL w w.heap.size v es) (hb : Below w.heap.size w u) (ho : u.ownsRow B 41 6 lv fs.length (flatL fs)) (hm : ∀ x ∈ fs, x ∈ es) : RdL u u.heap.size lv fs := by
  have h1 := h.up hb
  refine ⟨?_, fun x hx => h1.data x (hm x hx), fun x hx => h1.stamp x (hm x hx), fun x hx => h1.text x (hm x hx)⟩
  rcases ho.2 with ⟨hv, h0⟩ | ⟨g, cap, cur, hv, _, hg, c1, c2, _⟩
  · exact ⟨none, 0, by rw [hv, h0], by omega, by omega, fun h9 => by omega⟩
  · refine ⟨_, _, hv, c1, by unfold maxLen at c2; omega, fun _ => ⟨g, 0, rfl, (Array.getElem?_eq_some_iff.1 hg).1, fun k hk j hj => ?_⟩⟩
    have hw := ho
    rw [hv] at hw
    rw [Nat.zero_add, World.ownsRow.cellAt hw (k * 6 + j) (by omega), lflat_cell fs k j hk hj, List.getElem?_eq_getElem hk]
    rfl
theorem RdL.front {w : World} {B : Nat} {a : Option Addr} {n c m : Nat} {es : List Le} (h : RdL w B (.slice a n c) es) (hn : es.length = n) (hm : m ≤ n) : RdL w B (.slice a m c) (es.take m) := by
  have hl : (es.take m).length = m := by rw [List.length_take]; omega
  refine ⟨?_, fun x hx => h.data x (List.mem_of_mem_take hx), fun x hx => h.stamp x (List.mem_of_mem_take hx), fun x hx => h.text x (List.mem_of_mem_take hx)⟩
  obtain ⟨a1, c1, e1, e2, e3, e4⟩ := h.shape
  injection e1 with q1 q2 q3
  subst q1 q3
  refine ⟨a, c, by rw [hl], by rw [hl]; omega, e3, fun h0 => ?_⟩
  rw [hl] at h0 ⊢
  obtain ⟨b, off, g1, g2, g3⟩ := e4 (by omega)
  refine ⟨b, off, g1, g2, fun k hk j hj => ?_⟩
  rw [g3 k (by omega) j hj, List.getElem?_take, if_pos hk]
theorem szL_sub {a b : List Lf} (h : a.Sublist b) : szL a ≤ szL b := by
  induction h with
  | slnil => exact Nat.le_refl _
  | cons x _ ih => rw [szL]; omega
  | cons_cons x _ ih => rw [szL, szL]; omega
theorem fewF_sub {K : Lf → Bool} {k0 : Nat} {es ls : List Le} {i : Nat} (h : fewF K k0 es i = ls) : ls.Sublist es := by
  rw [← h]
  unfold fewF
  refine (List.Sublist.map Prod.fst List.filter_sublist).trans ?_
  rw [List.zipIdx_map_fst]
  exact List.take_sublist _ _
theorem two_new (w : World) (b1 b2 : Obj) : ((w.alloc b1).alloc b2).heap[w.heap.size + 1]? = some b2 := by
  have h := heap_alloc_new (w.alloc b1) b2
  rw [show (w.alloc b1).heap.size = w.heap.size + 1 by simp] at h
  exact h
theorem keep_small {p : List UInt8} {l : Lf} (h : l.path.size < p.length) : keepB p l = true := by
  unfold keepB
  rw [decide_eq_true h]
  rfl
theorem keep_big {p : ByteArray} {l : Lf} (h : ¬ l.path.size < p.size) : keepB p.data.toList l = !((l.path.extract 0 p.size).toList == p.toList) := by
  unfold keepB
  have : p.data.toList.length = p.size := rfl
  rw [this, decide_eq_false h, Bool.false_or, Pt.toList_data, Pt.toList_data, Lib.extract_data, List.drop_zero, Nat.sub_zero]
set_option maxHeartbeats 2000000 in
set_option maxRecDepth 100000 in
theorem few_err (v : Value) (es : List Le) (z x : Int) (w : World) (h : RdL w w.heap.size v es) (hT : Tab w) (hsz : szL (es.map Le.l) ≤ 100000000000) (hp : packM (es.map Le.l) = .error x) :
    Calls Tryd.prog 6 #[v, .int .i64 z] w fun e w' => e = .returned (.bool true) ∧ Below w.heap.size w w' := by
  have hx := packM_err _ _ hp
  have HT := hide hT
  have HP := hide hp
  have HR := hide h
  have HZ := hide hsz
  obtain ⟨a, c, rfl, _⟩ := h.shape
  clear hT hp h hsz
  go_enter Tryd.func6, Tryd.ntmps6
  go_wp2_with (first
    | (go_at_call 15; refine (heads_any _ HT.out).mono ?_; rintro e u0 ⟨rfl, hb0⟩; have HB0 := hide hb0; clear hb0)
    | (go_at_call 12; refine (lno_any _ _).mono ?_; rintro e u9 ⟨rfl, rfl⟩)
    | (go_at_call 16; refine (pack_any _ es _ (HR.out.up HB0.out) HZ.out (HT.out.below HB0.out)).mono ?_; rintro e u1 ⟨hv, hb1⟩
       rw [HP.out] at hv
       have hv2 : e = .returned (.tuple #[.slice none 0 0, .int .i64 x]) := hv
       subst hv2
       have HB1 := hide (bel_up HB0.out hb1 HB0.out.size)
       clear hv hb1))
  go_ret
  exact ⟨rfl, HB1.out⟩

set_option maxHeartbeats 2000000 in
set_option maxRecDepth 100000 in
theorem few_out (v : Value) (es : List Le) (row : List Int) (z : Int) (w : World) (h : RdL w w.heap.size v es) (hT : Tab w) (hsz : szL (es.map Le.l) ≤ 100000000000) (hp : packM (es.map Le.l) = .ok row) (hz : z < 1 ∨ (1 ≤ z ∧ (es.length : Int) ≤ z)) :
    Calls Tryd.prog 6 #[v, .int .i64 z] w fun e w' => e = .returned (.bool true) ∧ Below w.heap.size w w' := by
  have HT := hide hT
  obtain ⟨a, c, hv, -⟩ := h.shape
  obtain ⟨n, hn⟩ : ∃ n, es.length = n := ⟨_, rfl⟩
  have HPK := fun (u : World) (hb : Below w.heap.size w u) => bk_packed w u v es row h hT hb hp hsz
  rw [hn] at hz
  rw [hv, hn] at HPK
  rw [hv, hn]
  have HPK := hide HPK
  clear hT hp h hsz hn hv
  go_enter Tryd.func6, Tryd.ntmps6
  rcases hz with k1 | ⟨k2, k3⟩
  · go_wp2_with (first
      | (go_at_call 15; refine (heads_any _ HT.out).mono ?_; rintro e u0 ⟨rfl, hb0⟩; have HB0 := hide hb0; clear hb0)
      | (go_at_call 12; refine (lno_any _ _).mono ?_; rintro e u9 ⟨rfl, rfl⟩)
      | (go_at_call 16; refine (HPK.out _ HB0.out).mono ?_; rintro e u1 ⟨g, cap, rfl, hs⟩
         have HS := hide hs
         clear hs HPK HB0))
    go_ret
    exact ⟨rfl, HS.out.below⟩
  · have k1 : ¬ z < 1 := by omega
    go_wp2_with (first
      | (go_at_call 15; refine (heads_any _ HT.out).mono ?_; rintro e u0 ⟨rfl, hb0⟩; have HB0 := hide hb0; clear hb0)
      | (go_at_call 12; refine (lno_any _ _).mono ?_; rintro e u9 ⟨rfl, rfl⟩)
      | (go_at_call 16; refine (HPK.out _ HB0.out).mono ?_; rintro e u1 ⟨g, cap, rfl, hs⟩
         have HS := hide hs
         clear hs HPK HB0))
    go_ret
    exact ⟨rfl, HS.out.below⟩
set_option maxHeartbeats 4000000 in
set_option maxRecDepth 100000 in
theorem few_ok (v : Value) (es : List Le) (row : List Int) (k0 : Nat) (w : World) (h : RdL w w.heap.size v es) (hT : Tab w) (hsz : szL (es.map Le.l) ≤ 100000000000) (hp : packM (es.map Le.l) = .ok row) (hms : row.length ≤ 4194304) (hps : ∀ x ∈ es, x.l.path.size ≤ 1048576) (hel : es.length ≤ 1048576) (hk1 : 1 ≤ k0) (hk2 : k0 < es.length) :
    Calls Tryd.prog 6 #[v, .int .i64 (k0 : Int)] w fun e w' => e = .returned (.bool true) ∧ Below w.heap.size w w' := by
  obtain ⟨m, hm⟩ : ∃ m, row.length = m := ⟨_, rfl⟩
  obtain ⟨i0, hi0, hz0, hz1, hz2⟩ := info_parts info41
  have HI : Hid (Tryd.prog.info? 41 = some i0 ∧ i0.zero = some (.agg #[.string ⟨#[]⟩, .int .i64 0, .int .i64 0, .int .u64 0, .slice none 0 0, .string ⟨#[]⟩]) ∧ i0.size = 6 ∧ i0.bytes = 80) := ⟨hi0, hz0, hz1, hz2⟩
  have hlok := hide h.lok
  have HT := hide hT
  have HP := hide hp
  have HM := hide hm
  have HZ := hide hsz
  rw [hm] at hms
  have HN := hide hms
  have HPS := hide hps
  have HPK := fun (u : World) (hb : Below w.heap.size w u) => bk_packed w u v es row h hT hb hp hsz
  obtain ⟨a, c, hv, hc1, hc2, hsh⟩ := h.shape
  obtain ⟨b0, o0, ha, hb0w, hcell⟩ := hsh (by omega)
  subst ha
  obtain ⟨n, hn⟩ : ∃ n, es.length = n := ⟨_, rfl⟩
  have HNL := hide hn
  have HR := hide h
  rw [hv, hn, hm] at HPK
  rw [hv, hn] at HR
  rw [hn] at hel hk2 hc1 hcell
  rw [hv, hn]
  have HPK := hide HPK
  have HCL := hide hcell
  have k1 : ¬ (k0 : Int) < 1 := by omega
  have k2 : ¬ (n : Int) ≤ (k0 : Int) := by omega
  have k2' : (k0 : Int) < (n : Int) := by omega
  have hk0e : k0 < es.length := by omega
  obtain ⟨x0, hx0⟩ : ∃ x0, es[k0] = x0 := ⟨_, rfl⟩
  obtain ⟨p0, hp0⟩ : ∃ p0, x0.l.path = p0 := ⟨_, rfl⟩
  have hp0s : p0.size ≤ 1048576 := by rw [← hp0, ← hx0]; exact hps _ (List.getElem_mem hk0e)
  have HX0 : Hid (w.cell? ⟨b0, o0 + k0 * 6, none⟩ = some (.string p0)) := by
    have h9 := hcell k0 hk2 0 (by omega)
    rw [List.getElem?_eq_getElem hk0e, hx0] at h9
    rw [← hp0]
    exact h9
  have HXE := hide hx0
  have HPE := hide hp0
  clear hT hp h hsz hm hn hv hcell hps hx0 hp0 hi0 hz0 hz1 hz2 hsh
  go_enter Tryd.func6, Tryd.ntmps6
  go_wp2_with (first
    | (go_at_call 15; refine (heads_any _ HT.out).mono ?_; rintro e u0 ⟨rfl, hb0⟩; have HB0 := hide hb0; clear hb0)
    | (go_at_call 12; refine (lno_any _ _).mono ?_; rintro e u9 ⟨rfl, rfl⟩)
    | (go_at_call 16; refine (HPK.out _ HB0.out).mono ?_; rintro e u1 ⟨g, cap, rfl, hs⟩
       have y0 : u1.cell? ⟨b0, o0 + k0 * 6, none⟩ = some (.string p0) := by rw [hs.below.cell hb0w]; exact HX0.out
       have HS := hide hs
       clear hs HPK HB0 HX0))
  have z1 : decide (n ≤ k0) = false := decide_eq_false (by omega)
  have z2 : decide ((k0 : Int) < 1) = false := decide_eq_false (by omega)
  simp only [z1, z2, Bool.or_self]
  clear z1 z2
  generalize hP : p0 ++ (⟨#[47]⟩ : ByteArray) = P
  have hPs : P.size ≤ 1048577 := by rw [← hP, ByteArray.size_append]; have : (⟨#[47]⟩ : ByteArray).size = 1 := rfl; omega
  have HPD : Hid (P.data.toList = p0.data.toList ++ [47]) := by unfold Hid; rw [← hP]; simp [ByteArray.data_append]
  clear y0 hP
  go_loopw [8, 9] (fun s8 s9 wr => ∃ k : Nat, k ≤ n ∧ s9 = .int .i64 (k : Int) ∧ Hid (wr.ownsRow u9.heap.size 41 6 s8 (fewF (keepB P.data.toList) k0 es k).length (flatL (fewF (keepB P.data.toList) k0 es k)) ∧ Below u9.heap.size u9 wr)) (fun _ s9 _ => n - (intOf s9).toNat)
  case atStart => exact ⟨0, Nat.zero_le _, rfl, ⟨World.ownsRow_nil _ _ _ _, Below.refl _ _⟩⟩
  case round =>
    obtain ⟨k, hk, rfl, HREL⟩ := hrel
    have HBR := hide HREL.out.2
    obtain ⟨ls, hls⟩ : ∃ ls, fewF (keepB P.data.toList) k0 es k = ls := ⟨_, rfl⟩
    have hll := fewF_len (keepB P.data.toList) k0 es k
    have hlo := HREL.out.1
    rw [hls] at hlo hll
    have HLS := hide hlo
    have HLN : Hid (ls.length ≤ 1048576) := by unfold Hid; omega
    clear HREL hlo
    by_cases hlt : k < n
    · have i1 : (k : Int) < (n : Int) := by omega
      have hke : k < es.length := by rw [HNL.out]; exact hlt
      obtain ⟨se, hse⟩ : ∃ se, es[k] = se := ⟨_, rfl⟩
      have hps := HPS.out se (by rw [← hse]; exact List.getElem_mem hke)
      obtain ⟨da, dn, dc, hd, -⟩ := HR.out.data se (by rw [← hse]; exact List.getElem_mem hke)
      have hcl : ∀ j, j < 6 → wr.cell? ⟨b0, o0 + k * 6 + j, none⟩ = se.cells[j]? := by
        intro j hj
        rw [HBR.out.cell (Nat.lt_of_lt_of_le hb0w HS.out.below.size), HS.out.below.cell hb0w, HCL.out k hlt j hj, List.getElem?_eq_getElem hke, hse]
        rfl
      obtain ⟨⟨p, t, md, s, xs, tg⟩, d⟩ := se
      simp only at hd hps
      subst hd
      have y0 : wr.cell? ⟨b0, o0 + k * 6, none⟩ = some (.string p) := hcl 0 (by omega)
      have y1 : wr.cell? ⟨b0, o0 + k * 6 + 1, none⟩ = some (.int .i64 t) := hcl 1 (by omega)
      have y2 : wr.cell? ⟨b0, o0 + k * 6 + 2, none⟩ = some (.int .i64 md) := hcl 2 (by omega)
      have y3 : wr.cell? ⟨b0, o0 + k * 6 + 3, none⟩ = some (.int .u64 s) := hcl 3 (by omega)
      have y4 : wr.cell? ⟨b0, o0 + k * 6 + 4, none⟩ = some (.slice da dn dc) := hcl 4 (by omega)
      have y5 : wr.cell? ⟨b0, o0 + k * 6 + 5, none⟩ = some (.string tg) := hcl 5 (by omega)
      clear hcl hll
      by_cases hkk : k = k0
      · subst hkk
        have HF : Hid (fewF (keepB P.data.toList) k es (k + 1) = ls) := by
          unfold Hid
          rw [fewF_step _ _ _ _ hke, hse, hls]
          rw [if_neg (by rw [show decide (k ≠ k) = false from decide_eq_false (fun h9 => h9 rfl), Bool.false_and]; decide), List.append_nil]
        clear hse hls
        go_wp2
        go_roundw
        case rel =>
          refine ⟨k + 1, by omega, by go_num, ?_⟩
          refine (show Hid _ from ⟨?_, ?_⟩)
          · rw [HF.out]
            exact HLS.out.alloc _
          · exact HBR.out.alloc HBR.out.size _
        case measure => simp [intOf]; omega

      · have j1 : ((k : Int) == (k0 : Int)) = false := by rw [beq_eq_false_iff_ne]; omega
        by_cases hsz : p.size < P.size
        · have j2 : (p.size : Int) < (P.size : Int) := by omega
          have HK : Hid (keepB P.data.toList ⟨p, t, md, s, xs, tg⟩ = true) := keep_small (show p.size < P.data.toList.length from hsz)
          have HF : Hid (fewF (keepB P.data.toList) k0 es (k + 1) = ls ++ [⟨⟨p, t, md, s, xs, tg⟩, .slice da dn dc⟩]) := by
            unfold Hid
            rw [fewF_step _ _ _ _ hke, hse, hls]
            rw [if_pos (by rw [show decide (k ≠ k0) = true from decide_eq_true hkk, HK.out]; rfl)]
          clear hse hls
          go_wp2_with (first
          | (at_builtin; refine wpList_append_own ((wr.alloc (.cells #[.string p, .int .i64 t, .int .i64 md, .int .u64 s, .slice da dn dc, .string tg] 41)).alloc (.cells #[.string p, .int .i64 t, .int .i64 md, .int .u64 s, .slice da dn dc, .string tg] 41)) rfl (.tmp 73) (.tmp 75) 26 rfl u9.heap.size 41 i0 _ 6 80 Tryd.underlying26 HI.out.1 HI.out.2.1 HI.out.2.2.1 HI.out.2.2.2 rfl (by decide) u8 ls.length (flatL ls) rfl (HLS.out.alloc _ |>.alloc _) ⟨wr.heap.size + 1, 0, none⟩ 1 1 [.string p, .int .i64 t, .int .i64 md, .int .u64 s, .slice da dn dc, .string tg] rfl rfl (cells_news (two_new wr _ _)) (by simp [Value.oneCell']) (by have := HLN.out; simp only [maxLen]; omega) (by have := HLN.out; omega) (by have := HBR.out.size; simp; omega) ?_; intro v8 t8 own8 grow8 _h8
             have HO8 := hide own8
             have HG8 := hide grow8
             clear own8 grow8 _h8))
          go_roundw
          case rel =>
            refine ⟨k + 1, by omega, by go_num, ?_⟩
            refine (show Hid _ from ⟨?_, ?_⟩)
            · rw [HF.out, List.length_append, flatL_append]
              have h9 : flatL [(⟨⟨p, t, md, s, xs, tg⟩, .slice da dn dc⟩ : Le)] = [.string p, .int .i64 t, .int .i64 md, .int .u64 s, .slice da dn dc, .string tg] := rfl
              rw [h9]
              exact HO8.out
            · exact ((HBR.out.alloc HBR.out.size _).alloc (by have := HBR.out.size; simp; omega) _).grown HG8.out (by have := HBR.out.size; simp; omega) (fun q hq => (HLS.out.lt q hq).1)
          case measure => simp [intOf]; omega

        · have j2 : ¬ (p.size : Int) < (P.size : Int) := by omega
          have j3 : (P.size : Int) ≤ (p.size : Int) := by omega
          have hkb := keep_big (p := P) (l := ⟨p, t, md, s, xs, tg⟩) hsz
          simp only at hkb
          cases hq : ((p.extract 0 P.size).toList == P.toList) with
          | true =>
            rw [hq] at hkb
            have HF : Hid (fewF (keepB P.data.toList) k0 es (k + 1) = ls) := by
              unfold Hid
              rw [fewF_step _ _ _ _ hke, hse, hls]
              rw [if_neg (by rw [hkb, Bool.not_true, Bool.and_false]; decide), List.append_nil]
            clear hse hls
            go_wp2
            go_roundw
            case rel =>
              refine ⟨k + 1, by omega, by go_num, ?_⟩
              refine (show Hid _ from ⟨?_, ?_⟩)
              · rw [HF.out]
                exact HLS.out.alloc _
              · exact HBR.out.alloc HBR.out.size _
            case measure => simp [intOf]; omega

          | false =>
            rw [hq] at hkb
            have HK : Hid (keepB P.data.toList ⟨p, t, md, s, xs, tg⟩ = true) := hkb
            clear hkb
            have HF : Hid (fewF (keepB P.data.toList) k0 es (k + 1) = ls ++ [⟨⟨p, t, md, s, xs, tg⟩, .slice da dn dc⟩]) := by
              unfold Hid
              rw [fewF_step _ _ _ _ hke, hse, hls]
              rw [if_pos (by rw [show decide (k ≠ k0) = true from decide_eq_true hkk, HK.out]; rfl)]
            clear hse hls
            go_wp2_with (first
            | (at_builtin; refine wpList_append_own ((wr.alloc (.cells #[.string p, .int .i64 t, .int .i64 md, .int .u64 s, .slice da dn dc, .string tg] 41)).alloc (.cells #[.string p, .int .i64 t, .int .i64 md, .int .u64 s, .slice da dn dc, .string tg] 41)) rfl (.tmp 73) (.tmp 75) 26 rfl u9.heap.size 41 i0 _ 6 80 Tryd.underlying26 HI.out.1 HI.out.2.1 HI.out.2.2.1 HI.out.2.2.2 rfl (by decide) u8 ls.length (flatL ls) rfl (HLS.out.alloc _ |>.alloc _) ⟨wr.heap.size + 1, 0, none⟩ 1 1 [.string p, .int .i64 t, .int .i64 md, .int .u64 s, .slice da dn dc, .string tg] rfl rfl (cells_news (two_new wr _ _)) (by simp [Value.oneCell']) (by have := HLN.out; simp only [maxLen]; omega) (by have := HLN.out; omega) (by have := HBR.out.size; simp; omega) ?_; intro v8 t8 own8 grow8 _h8
               have HO8 := hide own8
               have HG8 := hide grow8
               clear own8 grow8 _h8))
            go_roundw
            case rel =>
              refine ⟨k + 1, by omega, by go_num, ?_⟩
              refine (show Hid _ from ⟨?_, ?_⟩)
              · rw [HF.out, List.length_append, flatL_append]
                have h9 : flatL [(⟨⟨p, t, md, s, xs, tg⟩, .slice da dn dc⟩ : Le)] = [.string p, .int .i64 t, .int .i64 md, .int .u64 s, .slice da dn dc, .string tg] := rfl
                rw [h9]
                exact HO8.out
              · exact ((HBR.out.alloc HBR.out.size _).alloc (by have := HBR.out.size; simp; omega) _).grown HG8.out (by have := HBR.out.size; simp; omega) (fun q hq => (HLS.out.lt q hq).1)
            case measure => simp [intOf]; omega

    · obtain rfl : k = n := by omega
      have i1 : ¬ (k : Int) < (k : Int) := by omega
      have HBW : Hid (Below w.heap.size w wr) := bel_up HS.out.below HBR.out HS.out.below.size
      obtain ⟨la, lc, hsh⟩ : ∃ la lc, u8 = .slice la ls.length lc := by rcases HLS.out.2 with ⟨hv, h0⟩ | ⟨g, cap, cur, hv, _⟩; exact ⟨_, _, by rw [hv, h0]⟩; exact ⟨_, _, hv⟩
      subst hsh
      have hke : k0 < es.length := by rw [HNL.out]; exact hk2
      obtain ⟨c1, hc1p, hc1l⟩ := few_one es row k0 HP.out hk1 hke
      have hes : (es[k0]).l.path = p0 := by rw [HXE.out]; exact HPE.out
      rw [hes, ← HPD.out, HNL.out, hls] at hc1p
      rw [HM.out] at hc1l
      obtain ⟨c2, hc2p, hc2l⟩ := few_two es row HP.out (by omega)
      rw [HNL.out] at hc2p
      rw [HM.out] at hc2l
      obtain ⟨m1, hm1⟩ : ∃ m1, c1.length = m1 := ⟨_, rfl⟩
      obtain ⟨m2, hm2⟩ : ∃ m2, c2.length = m2 := ⟨_, rfl⟩
      have hmem : ∀ x ∈ ls, x ∈ es := fun x hx => fewF_mem (by rw [hls]; exact hx)
      have R1 := rdl_few HR.out HBW.out HLS.out hmem
      have R2 := (HR.out.up HBW.out).front HNL.out (show k - 1 ≤ k by omega)
      have Z1 : szL (ls.map Le.l) ≤ 100000000000 := Nat.le_trans (szL_sub ((fewF_sub hls).map Le.l)) HZ.out
      have Z2 : szL ((es.take (k - 1)).map Le.l) ≤ 100000000000 := Nat.le_trans (szL_sub ((List.take_sublist _ _).map Le.l)) HZ.out
      have P1 := fun (u : World) (hb : Below wr.heap.size wr u) => bk_packed u u _ ls c1 (R1.up hb) ((HT.out.below HBW.out).below hb) (Below.refl _ _) hc1p Z1
      have P2 := fun (u : World) (hb : Below wr.heap.size wr u) => bk_packed u u _ (es.take (k - 1)) c2 (R2.up hb) ((HT.out.below HBW.out).below hb) (Below.refl _ _) hc2p Z2
      rw [hm1] at P1 hc1l
      rw [hm2] at P2 hc2l
      have HP1 := hide P1
      have HP2 := hide P2
      have HC1 := hide hc1p
      have HC2 := hide hc2p
      have HL1 := hide R1.lok
      have HL2 := hide R2.lok
      have q1 : ¬ (m : Int) ≤ (m1 : Int) := by omega
      have q2 : ¬ (m : Int) ≤ (m2 : Int) := by omega
      have q3 : IntKind.i64.wrap ((k : Int) - 1) = ((k - 1 : Nat) : Int) := by rw [IntKind.wrap_i64]; omega
      have q4 : ((k - 1 : Nat) : Int) ≤ (c : Int) := by omega
      have q5 : (0 : Int) ≤ ((k - 1 : Nat) : Int) := by omega
      clear P1 P2 R1 R2 Z1 Z2 hc1p hc2p hm1 hm2 hmem hes hls hll HLS
      go_wp2
      go_loopw [11] (fun s11 wx => ∃ i : Nat, i ≤ 2 ∧ s11 = .int .i64 (i : Int) ∧ Hid (Below wr.heap.size wr wx)) (fun s11 _ => 2 - (intOf s11).toNat)
      case atStart => exact ⟨0, Nat.zero_le _, rfl, Below.refl _ _⟩
      case round =>
        obtain ⟨i, hi, rfl, HBX⟩ := hrel
        by_cases hi2 : i = 2
        · subst hi2
          go_wp2
          go_ret
          exact ⟨rfl, bel_up HBW.out HBX.out HBW.out.size⟩
        · have r1 : (i : Int) < 2 := by omega
          by_cases hi1 : i = 1
          · have r2 : ((i : Int) == 1) = true := by rw [beq_iff_eq]; omega
            go_wp2_with (first
              | (go_at_call 12; refine (lno_any _ _).mono ?_; rintro e z9 ⟨rfl, rfl⟩)
              | (go_at_call 16; refine (HP2.out _ HBX.out).mono ?_; rintro e z1 ⟨g1, cap1, rfl, hs⟩
                 have HS1 := hide hs
                 clear hs)
              | (go_at_call 11; refine (bk_read _ _ _ _ _ _ _ _ HS1.out (by have := HN.out; omega) HL2.out HC2.out).mono ?_; rintro e z2 ⟨v2, gs, rfl, hv2, he2, hs2⟩
                 have HV := hide hv2
                 have HE := hide he2
                 have HS2 := hide hs2
                 clear hv2 he2 hs2)
              | (go_at_call 13; refine (alike_vw _ _ gs (es.take (k - 1)) _ HV.out HS2.out.tree HE.out).mono ?_; rintro e z4 ⟨rfl, hb4⟩
                 have HS4 := hide (HS2.out.up hb4)
                 clear hb4 HS2 HV HE))
            go_roundw
            case rel =>
              refine ⟨i + 1, by omega, by go_num, ?_⟩
              exact bel_up HBX.out HS4.out.below HBX.out.size
            case measure => simp [intOf]; omega
          · have r2 : ((i : Int) == 1) = false := by rw [beq_eq_false_iff_ne]; omega
            go_wp2_with (first
              | (go_at_call 12; refine (lno_any _ _).mono ?_; rintro e z9 ⟨rfl, rfl⟩)
              | (go_at_call 16; refine (HP1.out _ HBX.out).mono ?_; rintro e z1 ⟨g1, cap1, rfl, hs⟩
                 have HS1 := hide hs
                 clear hs)
              | (go_at_call 11; refine (bk_read _ _ _ _ _ _ _ _ HS1.out (by have := HN.out; omega) HL1.out HC1.out).mono ?_; rintro e z2 ⟨v2, gs, rfl, hv2, he2, hs2⟩
                 have HV := hide hv2
                 have HE := hide he2
                 have HS2 := hide hs2
                 clear hv2 he2 hs2)
              | (go_at_call 13; refine (alike_vw _ _ gs ls _ HV.out HS2.out.tree HE.out).mono ?_; rintro e z4 ⟨rfl, hb4⟩
                 have HS4 := hide (HS2.out.up hb4)
                 clear hb4 HS2 HV HE))
            go_roundw
            case rel =>
              refine ⟨i + 1, by omega, by go_num, ?_⟩
              exact bel_up HBX.out HS4.out.below HBX.out.size
            case measure => simp [intOf]; omega
theorem fewWalk (v : Value) (es : List Le) (z : Int) (w : World) (h : RdL w w.heap.size v es) (hsum : 22 * ((es.map Le.l).map wt).sum ≤ 23068672) (hT : Tab w) :
    Calls Tryd.prog 6 #[v, .int .i64 z] w fun e w' => e = .returned (.bool true) ∧ Below w.heap.size w w' := by
  have h1 := sz_wt (es.map Le.l)
  have hsz : szL (es.map Le.l) ≤ 100000000000 := by omega
  cases hp : packM (es.map Le.l) with
  | error x => exact few_err v es z x w h hT hsz hp
  | ok row =>
    have h2 := pack_most _ _ hp
    have h3 := most_wt (es.map Le.l)
    have h4 := mostS_tail (es.map Le.l)
    have hwl : ∀ l : List Lf, l.length ≤ (l.map wt).sum := by
      intro l
      induction l with
      | nil => exact Nat.le_refl _
      | cons x r ih =>
        rw [List.map_cons, List.sum_cons, List.length_cons]
        have : 1 ≤ wt x := by unfold wt; omega
        omega
    have h5 := hwl (es.map Le.l)
    rw [List.length_map] at h5
    have h6 : ∀ x ∈ es, x.l.path.size ≤ 1048576 := by
      intro x hx
      have h9 := wt_mem (es.map Le.l) x.l (List.mem_map_of_mem hx)
      have h8 : wt x.l = 7 + x.l.path.size + x.l.target.size + x.l.data.length := rfl
      omega
    by_cases k0 : z < 1
    · exact few_out v es row z w h hT hsz hp (Or.inl k0)
    · by_cases k1 : (es.length : Int) ≤ z
      · exact few_out v es row z w h hT hsz hp (Or.inr ⟨by omega, k1⟩)
      · obtain ⟨i, rfl⟩ : ∃ i : Nat, z = (i : Int) := ⟨z.toNat, by omega⟩
        exact few_ok v es row i w h hT hsz hp (by omega) h6 (by omega) (by omega) (by omega)
end Go.Proofs.YtdiifegljonojaaDoor
