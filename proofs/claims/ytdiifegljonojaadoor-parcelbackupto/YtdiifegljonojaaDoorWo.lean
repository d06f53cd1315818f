/-
  SEAT YtdiifegljonojaaDoor: Pack of any tree.
-/
import Derived.Test.YtdiifegljonojaaDoorWn
namespace Go.Proofs.YtdiifegljonojaaDoor
open Go.RowKit
set_option linter.unusedVariables false

theorem pack_any (v : Value) (es : List Le) (w : World) (h : RdL w w.heap.size v es) (hsz : szL (es.map Le.l) ≤ 100000000000) (hT : Tab w) :
    Calls Tryd.prog 16 #[v] w fun e w' => PkV w (packM (es.map Le.l)) e w' ∧ Below w.heap.size w w' := by
  obtain ⟨a, c, rfl, h1, h2, h3⟩ := h.shape
  cases es with
  | nil =>
    refine (pack_nil a c w).mono ?_
    rintro e u ⟨rfl, rfl⟩
    exact ⟨rfl, Below.refl _ _⟩
  | cons y rest =>
    obtain ⟨b, off, rfl, hb, hcell⟩ := h3 (by simp)
    obtain ⟨da, dn, dc, hyd, hrd, hdc, hdc2, hlow⟩ := h.data y (List.mem_cons_self)
    obtain ⟨x, yd⟩ := y
    simp only at hyd hrd
    subst hyd
    have htx := h.text ⟨x, .slice da dn dc⟩ (List.mem_cons_self)
    simp only at htx
    have hc0 := hcell 0 (by simp)
    have hf : First b off x da dn dc w := by
      refine ⟨hc0 0 (by omega), ?_, ?_, ?_, ?_, ?_⟩
      · have h9 := hc0 1 (by omega); rw [Nat.zero_mul, Nat.add_zero] at h9; exact h9
      · have h9 := hc0 2 (by omega); rw [Nat.zero_mul, Nat.add_zero] at h9; exact h9
      · have h9 := hc0 3 (by omega); rw [Nat.zero_mul, Nat.add_zero] at h9; exact h9
      · have h9 := hc0 4 (by omega); rw [Nat.zero_mul, Nat.add_zero] at h9; exact h9
      · have h9 := hc0 5 (by omega); rw [Nat.zero_mul, Nat.add_zero] at h9; exact h9
    obtain ⟨n, hn⟩ : ∃ n, (⟨x, .slice da dn dc⟩ :: rest : List Le).length = n := ⟨_, rfl⟩
    have hn1 : n = rest.length + 1 := by rw [← hn]; rfl
    rw [hn] at h h1 ⊢
    rw [List.map_cons]
    show Calls Tryd.prog 16 _ w fun e w' => PkV w (packM (x :: rest.map Le.l)) e w' ∧ _
    rw [packM]
    cases hr : rootB x with
    | false =>
      refine (pack_root b off n c x da dn dc w (by omega) (by omega) hf hr).mono ?_
      rintro e u ⟨rfl, rfl⟩
      exact ⟨rfl, Below.refl _ _⟩
    | true =>
      have hdl : x.data.length = dn := hrd.1
      rw [hdl]
      cases hb2 : bodB x.ty x.mode dn x.target with
      | false =>
        refine (pack_body b off n c x da dn dc w (by omega) (by omega) hf hr hb2 htx.2.1).mono ?_
        rintro e u ⟨rfl, b1⟩
        exact ⟨rfl, b1⟩
      | true =>
        refine (pack_main b off n c x da dn dc rest w h hn1 hr hb2 ?_ hT).mono ?_
        · rw [List.map_cons, szL] at hsz; omega
        · rintro e u ⟨h7, h8⟩
          exact ⟨h7, h8⟩
end Go.Proofs.YtdiifegljonojaaDoor
