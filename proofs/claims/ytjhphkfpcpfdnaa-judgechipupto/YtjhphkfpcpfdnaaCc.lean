/-
  SEAT Ytjhphkfpcpfdnaa: the script is asked.
-/
import Derived.Test.YtjhphkfpcpfdnaaCa
namespace Go.Proofs.Ytjhphkfpcpfdnaa
open Go.RowKit Go.Conc
set_option linter.unusedVariables false

/-- The fault that meets the command of a number, and those that are left. -/
def takeF (n : Int) : List Ft → Ft
  | [] => Ft.no
  | f :: _ => if f.a = n then f else Ft.no
def takeR (n : Int) : List Ft → List Ft
  | [] => []
  | f :: r => if f.a = n then r else f :: r

/-- The fields of the box that the script is. -/
structure Scr (x x' : Bx) : Prop where
  e : x'.B = x.B ∧ x'.P = x.P ∧ x'.S = x.S ∧ x'.gb = x.gb ∧ x'.nb = x.nb ∧ x'.gm = x.gm ∧ x'.c = x.c
  t : x'.ta = x.ta ∧ x'.tl = x.tl ∧ x'.tc = x.tc
  d : x'.dark = x.dark
  n : x'.cnt = x.cnt
def SQ (p c : Nat) : Nat → Prop := fun k => k = p ∨ k = c

theorem ftNo (w : World) (F : Nat → Prop) : FtOk w F (.agg #[.int .i64 0, .int .i64 0, .slice none 0 0, .int .u8 255]) Ft.no := ⟨⟨none, 0, 0, rfl, MaskOk.nil w F, Nat.le_refl _⟩, by decide⟩

theorem script_keep {w w' : World} {F : Nat → Prop} {x : Bx} {p : Nat} (hb : x.at w p) (hc : ∃ cap buf cl s r tm, w.heap[x.c]? = some (.chan cap buf cl s r tm)) (ho : Only (fun k => k = p ∨ k = x.c) w w') : KeepT F (fun t => t = 71 ∨ t = 1002) w w' :=
  ho.keepT (fun k o t hg hk ht => by
    obtain ⟨cap, buf, cl, s, r, tm, hc⟩ := hc
    rcases hg with e | e
    · rw [e, show w.heap[p]? = _ from hb] at hk
      cases hk
      exact Or.inl ht.symm
    · rw [e, hc] at hk
      cases hk
      exact Or.inr ht)

theorem meets_q (w : World) (F : Nat → Prop) (x : Bx) (p : Nat) (q : List Ft) (n : Int) (hb : x.at w p) (hq : QAt w F x q) :
    Calls Try.prog 65 #[.pointer (some ⟨p, 5, none⟩), .int .i64 n] w fun e w' => ∃ v x', e = .returned v ∧ FtOk w' F v (takeF n q) ∧ x'.at w' p ∧ QAt w' F x' (takeR n q) ∧ Scr x x' ∧ Only (fun k => k = p ∨ k = x.c) w w' ∧ KeepT F (fun t => t = 71 ∨ t = 1002) w w' := by
  obtain ⟨cap, s, r, vs, hc, hn⟩ := hq.ex
  have hkn : ∀ w', Below w.heap.size w w' → Only (fun k => k = p ∨ k = x.c) w w' := fun w' h => Only.ofB h
  have hex : ∃ cap buf cl s r tm, w.heap[x.c]? = some (.chan cap buf cl s r tm) := ⟨_, _, _, _, _, _, hc⟩
  cases q with
  | nil =>
    obtain ⟨h1, h2⟩ := hn
    refine (meets_none x p n w hb (Or.inl h1)).mono ?_
    rintro e w' ⟨rfl, hB⟩
    have hT := script_keep (F := F) hb hex (hkn w' hB)
    refine ⟨_, x, rfl, ftNo w' F, hb.keep (hB.block _ hb.lt), ?_, ⟨⟨rfl, rfl, rfl, rfl, rfl, rfl, rfl⟩, ⟨rfl, rfl, rfl⟩, rfl, rfl⟩, hkn w' hB, hT⟩
    exact ⟨⟨cap, s, r, vs, (hB.block _ (lt_of_block hc)).trans hc, h1, h2⟩, hq.fc⟩
  | cons f rest =>
    have hn' := hn
    obtain ⟨h1, h2, h3, h4, h5, h6, h7, h8, h9⟩ := hn
    by_cases ha : f.a = n
    · have tF : takeF n (f :: rest) = f := if_pos ha
      have tR : takeR n (f :: rest) = rest := if_pos ha
      rw [tF, tR]
      cases rest with
      | nil =>
        have hv : vs = [] := List.eq_nil_of_length_eq_zero (by simpa using h8)
        subst hv
        refine (meets_last w x p cap s r n hc hb h1 (h2.trans ha)).mono ?_
        rintro e w' ⟨rfl, k1, k2, k3⟩
        have hT := script_keep (F := F) hb hex k3
        refine ⟨_, _, rfl, ⟨⟨x.ma, x.ml, x.mc, by rw [h2, h3, h4], h6.keep hT (by decide) (fun _ h => h), h7⟩, h5⟩, k1, ?_, ⟨⟨rfl, rfl, rfl, rfl, rfl, rfl, rfl⟩, ⟨rfl, rfl, rfl⟩, rfl, rfl⟩, k3, hT⟩
        exact ⟨⟨cap, s, r, [], k2, rfl, rfl⟩, hq.fc⟩
      | cons g rest =>
        cases vs with
        | nil => simp at h8
        | cons v vs =>
          have hg := h9 0 v g rfl rfl
          obtain ⟨ga, gl, gc, gv, gm, gle⟩ := hg.ex
          have hfill := hg.fill
          subst gv
          refine (meets_more w x p cap s r n g.a g.k g.f ga gl gc vs hc hb h1 (h2.trans ha)).mono ?_
          rintro e w' ⟨rfl, k1, k2, k3⟩
          have hT := script_keep (F := F) hb hex k3
          refine ⟨_, _, rfl, ⟨⟨x.ma, x.ml, x.mc, by rw [h2, h3, h4], h6.keep hT (by decide) (fun _ h => h), h7⟩, h5⟩, k1, ?_, ⟨⟨rfl, rfl, rfl, rfl, rfl, rfl, rfl⟩, ⟨rfl, rfl, rfl⟩, rfl, rfl⟩, k3, hT⟩
          exact ⟨⟨cap, s, r + 1, vs, k2, rfl, rfl, rfl, rfl, hfill, gm.keep hT (by decide) (fun _ h => h), gle, by simpa using h8, fun i v' g' hv' hg' => (h9 (i + 1) v' g' (by simpa using hv') (by simpa using hg')).keep hT (by decide) (fun _ h => h)⟩, hq.fc⟩
    · have tF : takeF n (f :: rest) = Ft.no := if_neg ha
      have tR : takeR n (f :: rest) = f :: rest := if_neg ha
      rw [tF, tR]
      refine (meets_none x p n w hb (Or.inr (by rw [h2]; exact ha))).mono ?_
      rintro e w' ⟨rfl, hB⟩
      have hT := script_keep (F := F) hb hex (hkn w' hB)
      refine ⟨_, x, rfl, ftNo w' F, hb.keep (hB.block _ hb.lt), ?_, ⟨⟨rfl, rfl, rfl, rfl, rfl, rfl, rfl⟩, ⟨rfl, rfl, rfl⟩, rfl, rfl⟩, hkn w' hB, hT⟩
      exact ⟨⟨cap, s, r, vs, (hB.block _ (lt_of_block hc)).trans hc, hn'.keep hT (by decide) (fun _ h => h) ⟨rfl, rfl, rfl, rfl, rfl, rfl, rfl⟩⟩, hq.fc⟩

/-- The script is asked: the chip behind it. -/
theorem CAt.script {w w' : World} {p : Nat} {F : Nat → Prop} {C : Ch} {x x' : Bx} {bs : List Bc} {fe : List Fe} (h : CAt w p F C x bs fe) {q : List Ft} (hT : KeepT F (fun t => t = 71 ∨ t = 1002) w w') (hsz : w.heap.size ≤ w'.heap.size) (hx : x'.at w' p) (hs : Scr x x') (hq : QAt w' F x' q) : CAt w' p F { C with q := q } x' bs fe := by
  obtain ⟨a1, a2, a3, a4, a5, a6, a7⟩ := hs.e
  refine ⟨hx, h.fp, ?_, ?_, ?_, a5.trans h.nb, hs.d.trans h.dark, hs.n.trans h.cnt, ?_, ?_, h.bl, ?_, h.gs, ?_, h.fs, hq, ?_, fun k hk => Nat.lt_of_lt_of_le (h.fin k hk) hsz⟩
  · rw [a1]; exact h.B
  · rw [a2]; exact h.P
  · rw [a3]; exact h.S
  · rw [a4]; exact hT _ _ 74 h.fb h.row rfl (by decide)
  · rw [a4]; exact h.fb
  · exact fun b hb => (h.bok b hb).keep hT (by decide) (fun _ h => h) ((hT _ _ 117 (h.bok b hb).fg (h.bok b hb).row rfl (by decide)).trans (h.bok b hb).row.symm)
  · rw [a6]; exact h.fl.keep hT (by decide) (by decide) (fun _ h => h)
  · exact h.tr.keep hT (by decide) (fun _ h => h) hs.t
end Go.Proofs.Ytjhphkfpcpfdnaa
