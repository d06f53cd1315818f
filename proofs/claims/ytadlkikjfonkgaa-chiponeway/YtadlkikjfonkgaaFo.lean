/-
  SEAT Ytadlkikjfonkgaa: Flip: the store of the entry.
-/
import Derived.Test.YtadlkikjfonkgaaFm
namespace Go.Proofs.Ytadlkikjfonkgaa
open Go.RowKit Go.Conc
set_option linter.unusedVariables false

theorem CAt.flips2 {w w' : World} {p : Nat} {F G : Nat → Prop} {C : Ch} {x : Bx} {bs : List Bc} {fe fe' : List Fe} {fl' : Int → Int → List Nat} (h : CAt w p F C x bs fe) (hT : KeepT F (fun t => t = 1001 ∨ t = 3) w w') (hsz : w.heap.size ≤ w'.heap.size) (hG : ∀ k, F k → G k) (hGf : ∀ k, G k → k < w'.heap.size) (hf : FlAt w' G x.gm fe') (hs : ∀ b p, look fe' b p = fl' b p) : CAt w' p G { C with fl := fl' } x bs fe' :=
  ⟨hT _ _ 102 h.fp h.box rfl (by decide), hG _ h.fp, h.B, h.P, h.S, h.nb, h.dark, h.cnt, hT _ _ 106 h.fb h.row rfl (by decide), hG _ h.fb, h.bl, fun b hb => (h.bok b hb).keep hT (by decide) hG ((hT _ _ 108 (h.bok b hb).fg (h.bok b hb).row rfl (by decide)).trans (h.bok b hb).row.symm), h.gs, hf, hs, h.q.keep hT (by decide) (by decide) hG ⟨rfl, rfl, rfl, rfl, rfl, rfl, rfl⟩ rfl, h.tr.keep hT (by decide) hG ⟨rfl, rfl, rfl⟩, hGf⟩

theorem far_look {b p : Int} {v : Value} : ∀ {fe : List Fe}, fe.Pairwise (fun f g => ∀ k, f.sl.ownBlock = some k → g.sl.ownBlock ≠ some k) → lookV fe b p = v → ∀ f ∈ fe, isAt b p f = false → ∀ g, f.sl.ownBlock = some g → v.ownBlock ≠ some g
  | [], _, _, f, hf, _, _, _ => by cases hf
  | e :: r, hp, hl, f, hf, hi, g, hg => by
    rw [List.pairwise_cons] at hp
    rw [lookV_cons] at hl
    by_cases he : isAt b p e = true
    · rw [if_pos he] at hl
      subst hl
      rcases List.mem_cons.1 hf with h1 | h1
      · rw [h1, he] at hi
        cases hi
      · intro h2
        exact hp.1 f h1 g h2 hg
    · rw [if_neg he] at hl
      rcases List.mem_cons.1 hf with h1 | h1
      · subst h1
        have h3 : ∀ (l : List Fe), (∀ a ∈ l, ∀ k, f.sl.ownBlock = some k → a.sl.ownBlock ≠ some k) → lookV l b p = v → v.ownBlock ≠ some g := by
          intro l
          induction l with
          | nil => intro _ h4 h5; rw [← h4] at h5; cases h5
          | cons a l ih =>
            intro h4 h5
            rw [lookV_cons] at h5
            by_cases ha : isAt b p a = true
            · rw [if_pos ha] at h5
              subst h5
              exact h4 a (by simp) g hg
            · rw [if_neg ha] at h5
              exact ih (fun c hc => h4 c (by simp [hc])) h5
        exact h3 r hp.1 hl
      · exact far_look hp.2 hl f h1 hi g hg

/-- One more bit of a page is flipped. -/
def flS (fl : Int → Int → List Nat) (i k : Int) (bit : Nat) : Int → Int → List Nat := fun b p => if b = i ∧ p = k then fl i k ++ [bit] else fl b p

theorem flip_fin {w u6 w1 Y : World} {p : Nat} {F : Nat → Prop} {C : Ch} {x : Bx} {bs : List Bc} {fe fe1 : List Fe} {i k : Int} {bit ln lc d gn cn : Nat} {la : Option Addr} {es1 : Array MapEntry} {ck1 : Nat} {e1 : MapEntry}
    (hC : CAt u6 p F C x bs fe) (hF : ∀ k, F k → k < w.heap.size) (hw : w.heap.size ≤ u6.heap.size) (hl : lookV fe i k = .slice la ln lc)
    (hO1 : Only (· = x.gm) u6 w1) (hf1 : FlAt w1 F x.gm fe1) (hm1 : w1.heap[x.gm]? = some (.map es1 ck1)) (hes1 : es1.toList.map (fun e => (e.key, e.val)) = fe1.map (fun f => (plV f.b f.p, f.sl))) (hst1 : Stamps es1.toList ck1) (hd1 : es1.toList[d]? = some e1)
    (hput1 : ∀ n : Fe, n.b = i → n.p = k → putE n fe1 = fe1.set d n ∧ d < fe1.length) (hlook1 : ∀ b' p', look fe1 b' p' = look fe b' p') (hmem1 : ∀ n : Fe, n.b = i → n.p = k → ∀ f ∈ fe1, isAt i k f = false → f ∈ fe) (hkey : e1.key = plV i k)
    (own : Y.ownsRow 0 3 1 (.slice (some ⟨gn, 0, none⟩) (ln + 1) cn) (ln + 1) (((C.fl i k).map fun (i : Nat) => Value.int .i64 (i : Int)) ++ [.int .i64 (bit : Int)])) (grow : w1.grownBy Y (Value.slice la ln lc).ownBlock) (lies : (Value.slice la ln lc).ownBlock = some gn ∨ gn = w1.heap.size) (hgl : gn < Y.heap.size) :
    ∃ z fe2, (Instr.entryStore 97 (.map (some x.gm)) (goInt (e1.born : Nat)) (.slice (some ⟨gn, 0, none⟩) (ln + 1) cn)).run Try.prog Y = .ok () z ∧ CAt z p (Fx F w z) { C with fl := flS C.fl i k bit } x bs fe2 ∧ Only F u6 z ∧ Only (· = x.gm) Y z := by
  obtain ⟨la', ln', lc', hl', hrow, hobF⟩ := look_row hC.fl i k
  rw [hl] at hl'
  cases hl'
  obtain ⟨es, ck, hm, _⟩ := hC.fl.map
  have hob3 : ∀ g, (Value.slice la ln lc).ownBlock = some g → ∃ cs, u6.heap[g]? = some (.cells cs 3 (0, 0)) := fun g hg => own_tag hrow hg
  have hogm : (Value.slice la ln lc).ownBlock ≠ some x.gm := fun e => by
    obtain ⟨cs, h1⟩ := hob3 _ e
    exact tag_ne hm h1 (t := 1001) (u := 3) rfl rfl (by decide) rfl
  have hFY : ∀ k, F k → k < Y.heap.size := fun k hk => Nat.lt_of_lt_of_le (hC.fin k hk) (Nat.le_trans hO1.size grow.size)
  have hmY : Y.heap[x.gm]? = some (.map es1 ck1) := (grow.block x.gm (lt_of_block hm1) (fun e => hogm e.symm)).trans hm1
  have hfar0 : ∀ f ∈ fe1, isAt i k f = false → ∀ g, f.sl.ownBlock = some g → (Value.slice la ln lc).ownBlock ≠ some g := fun f hf hi => far_look hC.fl.far hl f (hmem1 ⟨i, k, none, 0, 0, []⟩ rfl rfl f hf hi) hi
  obtain ⟨z, hrun, hfz, hoz⟩ := FlAt.store (G := fun k => F k ∨ (w.heap.size ≤ k ∧ k < Y.heap.size)) hmY hes1 hst1 hd1 hf1.keys hf1.far ⟨i, k, some ⟨gn, 0, none⟩, ln + 1, cn, C.fl i k ++ [bit]⟩ (hput1 _ rfl rfl) (Or.inl hf1.fg) hkey
    (fun f hf hi => ⟨owns_keep (hf1.ok f hf).row (fun g hg => by
      obtain ⟨cs, hc⟩ := own_tag (hf1.ok f hf).row hg
      exact grow.block g (lt_of_block hc) (fun e => hfar0 f hf hi g hg e.symm)), fun g hg => Or.inl ((hf1.ok f hf).fg g hg)⟩)
    ⟨by rw [List.map_append]; exact own, fun g hg => by
      cases hg
      rcases lies with h1 | h1
      · exact Or.inl (hobF _ h1)
      · exact Or.inr ⟨by rw [h1]; exact Nat.le_trans hw hO1.size, hgl⟩⟩
    (fun f hf hi g hg e => by
      have e' : gn = g := Option.some.inj e
      rw [← e'] at hg
      rcases lies with h1 | h1
      · exact hfar0 f hf hi _ hg h1
      · obtain ⟨cs, hc⟩ := own_tag (hf1.ok f hf).row hg
        have := lt_of_block hc
        omega)
  have hOz : Only (fun k => k = x.gm ∨ (Value.slice la ln lc).ownBlock = some k) u6 z := ((hO1.mono (fun _ _ e => Or.inl e)).trans (Only.ofG grow (F := fun k => k = x.gm ∨ (Value.slice la ln lc).ownBlock = some k) (fun _ e => Or.inr e)) (fun _ _ h => h)).trans hoz (fun _ _ e => Or.inl e)
  have hT : KeepT F (fun t => t = 1001 ∨ t = 3) u6 z := hOz.keepT (fun k' o t hk ho ht => by
    rcases hk with h1 | h1
    · rw [h1, hm] at ho
      cases ho
      exact Or.inl ht
    · obtain ⟨cs, hc⟩ := hob3 _ h1
      rw [hc] at ho
      cases ho
      exact Or.inr ht.symm)
  have hfz' : FlAt z (Fx F w z) x.gm (putE ⟨i, k, some ⟨gn, 0, none⟩, ln + 1, cn, C.fl i k ++ [bit]⟩ fe1) := hfz.keep (T := fun _ => False) (KeepT.of (fun _ _ => rfl) _) (fun h => h) (fun h => h) (fun k hk => hk.imp (fun h => h) (fun h => ⟨h.1, Nat.lt_of_lt_of_le h.2 hoz.size⟩))
  refine ⟨z, _, hrun, hC.flips2 hT hOz.size (fun k hk => Or.inl hk) (fun k hk => hk.elim (fun h => Nat.lt_of_lt_of_le (hFY k h) hoz.size) (fun h => h.2)) hfz' ?_, hOz.mono (fun j _ h => h.elim (fun e => by rw [e]; exact hC.fl.fg) (fun e => hobF _ e)), hoz⟩
  intro b' p'
  rw [look_putE]
  unfold flS
  rw [hlook1, hC.fs]

end Go.Proofs.Ytadlkikjfonkgaa
