/-
  SEAT Ytjhphkfpcpfdnaa: Fl, Fm, Fo, Fn, Fq.
-/
import Derived.Test.YtjhphkfpcpfdnaaTr
namespace Go.Proofs.Ytjhphkfpcpfdnaa
open Go.RowKit Go.Conc
set_option linter.unusedVariables false

/-- What the closure of Flip looks at. -/
def UB (p cb ub un : Nat) (C : Ch) (u : World) : Prop := u.cell? ⟨cb, 0, none⟩ = some (.pointer (some ⟨p, 0, none⟩)) ∧ u.cell? ⟨ub, 0, none⟩ = some (.int .i64 (un : Int)) ∧ u.cell? ⟨p, 0, none⟩ = some (.int .i64 (C.B : Int)) ∧ u.cell? ⟨p, 1, none⟩ = some (.int .i64 (C.P : Int)) ∧ u.cell? ⟨p, 2, none⟩ = some (.int .i64 (C.S : Int))
theorem ub_keep {p cb ub un : Nat} {C : Ch} {u u' : World} (h : UB p cb ub un C u) (hb : Below u.heap.size u u') : UB p cb ub un C u' := by
  obtain ⟨h0, h1, h2, h3, h4⟩ := h
  exact ⟨(hb.cell (block_lt_of_cell h0)).trans h0, (hb.cell (block_lt_of_cell h1)).trans h1, (hb.cell (block_lt_of_cell h2)).trans h2, (hb.cell (block_lt_of_cell h3)).trans h3, (hb.cell (block_lt_of_cell h4)).trans h4⟩
theorem ub_drew {p cb ub un : Nat} {C : Ch} {u : World} (h : UB p cb ub un C u) : UB p cb ub un C u.drew := h
end Go.Proofs.Ytjhphkfpcpfdnaa
namespace Go.Proofs.Ytjhphkfpcpfdnaa
open Go.RowKit Go.Conc
set_option linter.unusedVariables false

def F3 (cb p gb nb i k bg n : Nat) (qh : Bool) (C : Ch) (u : World) : Prop := u.cell? ⟨cb, 0, none⟩ = some (.pointer (some ⟨p, 0, none⟩)) ∧ u.cell? ⟨p, 0, none⟩ = some (.int .i64 (C.B : Int)) ∧ u.cell? ⟨p, 1, none⟩ = some (.int .i64 (C.P : Int)) ∧ u.cell? ⟨p, 2, none⟩ = some (.int .i64 (C.S : Int)) ∧ u.cell? ⟨p, 3, none⟩ = some (.slice (some ⟨gb, 0, none⟩) nb nb) ∧ u.cell? ⟨cb + 1, 0, none⟩ = some (.int .i64 (i : Int)) ∧ u.cell? ⟨cb + 1, 1, none⟩ = some (.int .i64 (k : Int)) ∧ u.cell? ⟨gb, i * 4 + 3, none⟩ = some (.slice (some ⟨bg, 0, none⟩) n n) ∧ u.cell? ⟨bg, k * 2 + 1, none⟩ = some (.bool qh)
theorem f3_keep {cb p gb nb i k bg n : Nat} {qh : Bool} {C : Ch} {u u' : World} (h : F3 cb p gb nb i k bg n qh C u) (hb : Below u.heap.size u u') : F3 cb p gb nb i k bg n qh C u' := by
  obtain ⟨h0, h1, h2, h3, h4, h5, h6, h7, h8⟩ := h
  exact ⟨(hb.cell (block_lt_of_cell h0)).trans h0, (hb.cell (block_lt_of_cell h1)).trans h1, (hb.cell (block_lt_of_cell h2)).trans h2, (hb.cell (block_lt_of_cell h3)).trans h3, (hb.cell (block_lt_of_cell h4)).trans h4, (hb.cell (block_lt_of_cell h5)).trans h5, (hb.cell (block_lt_of_cell h6)).trans h6, (hb.cell (block_lt_of_cell h7)).trans h7, (hb.cell (block_lt_of_cell h8)).trans h8⟩
theorem f3_drew {cb p gb nb i k bg n : Nat} {qh : Bool} {C : Ch} {u : World} (h : F3 cb p gb nb i k bg n qh C u) : F3 cb p gb nb i k bg n qh C u.drew := h
theorem cells1 {w : World} {g : Nat} {c0 : Value} {T : TypeId} {fr : Nat × Nat} (h : w.heap[g]? = some (.cells #[c0] T fr)) : w.cell? ⟨g, 0, none⟩ = some c0 := by simp [World.cell?, h]
theorem f3_mk {u : World} {p : Nat} {F : Nat → Prop} {C : Ch} {x : Bx} {bs : List Bc} {fe : List Fe} {i k cb : Nat} {b : Bc} {q : Pc} (h : CAt u p F C x bs fe) (hi : bs[i]? = some b) (hk : b.ps[k]? = some q) (h0 : u.heap[cb]? = some (.cells #[.pointer (some ⟨p, 0, none⟩)] 27 (0, 0))) (h1 : u.heap[cb + 1]? = some (.cells #[.int .i64 (i : Int), .int .i64 (k : Int)] 51 (0, 0))) : F3 cb p x.gb x.nb i k b.g b.ps.length q.h C u := by
  have b0 := h.box.c0
  have b1 := h.box.c1
  have b2 := h.box.c2
  rw [h.B] at b0
  rw [h.P] at b1
  rw [h.S] at b2
  obtain ⟨p0, p1⟩ := cells2 h1
  exact ⟨cells1 h0, b0, b1, b2, h.box.c3, p0, p1, (h.blk hi).2.2.2, ((h.bok b (List.mem_of_getElem? hi)).page hk).2⟩

end Go.Proofs.Ytjhphkfpcpfdnaa
namespace Go.Proofs.Ytjhphkfpcpfdnaa
open Go.RowKit Go.Conc
set_option linter.unusedVariables false

theorem CAt.flips2 {w w' : World} {p : Nat} {F G : Nat → Prop} {C : Ch} {x : Bx} {bs : List Bc} {fe fe' : List Fe} {fl' : Int → Int → List Nat} (h : CAt w p F C x bs fe) (hT : KeepT F (fun t => t = 1001 ∨ t = 3) w w') (hsz : w.heap.size ≤ w'.heap.size) (hG : ∀ k, F k → G k) (hGf : ∀ k, G k → k < w'.heap.size) (hf : FlAt w' G x.gm fe') (hs : ∀ b p, look fe' b p = fl' b p) : CAt w' p G { C with fl := fl' } x bs fe' :=
  ⟨hT _ _ 71 h.fp h.box rfl (by decide), hG _ h.fp, h.B, h.P, h.S, h.nb, h.dark, h.cnt, hT _ _ 74 h.fb h.row rfl (by decide), hG _ h.fb, h.bl, fun b hb => (h.bok b hb).keep hT (by decide) hG ((hT _ _ 117 (h.bok b hb).fg (h.bok b hb).row rfl (by decide)).trans (h.bok b hb).row.symm), h.gs, hf, hs, h.q.keep hT (by decide) (by decide) hG ⟨rfl, rfl, rfl, rfl, rfl, rfl, rfl⟩ rfl, h.tr.keep hT (by decide) hG ⟨rfl, rfl, rfl⟩, hGf⟩

theorem far_look {b p : Int} {v : Value} : ∀ {fe : List Fe}, fe.Pairwise (fun f g => ∀ k, f.sl.ownBlock = some k → g.sl.ownBlock ≠ some k) → lookV fe b p = v → ∀ f ∈ fe, isAt b p f = false → ∀ g, f.sl.ownBlock = some g → v.ownBlock ≠ some g
  | [], _, _, f, hf, _, _, _ => by cases hf
  | e :: r, hp, hl, f, hf, hi, g, hg => by
    rw [List.pairwise_cons] at hp
    rw [lookV_cons] at hl
    by_cases he : isAt b p e = true
    · rw [if_pos he] at hl
      subst hl
      rcases List.mem_cons.1 hf with h1 | h1
      · rw [h1, he] at hi
        cases hi
      · intro h2
        exact hp.1 f h1 g h2 hg
    · rw [if_neg he] at hl
      rcases List.mem_cons.1 hf with h1 | h1
      · subst h1
        have h3 : ∀ (l : List Fe), (∀ a ∈ l, ∀ k, f.sl.ownBlock = some k → a.sl.ownBlock ≠ some k) → lookV l b p = v → v.ownBlock ≠ some g := by
          intro l
          induction l with
          | nil => intro _ h4 h5; rw [← h4] at h5; cases h5
          | cons a l ih =>
            intro h4 h5
            rw [lookV_cons] at h5
            by_cases ha : isAt b p a = true
            · rw [if_pos ha] at h5
              subst h5
              exact h4 a (by simp) g hg
            · rw [if_neg ha] at h5
              exact ih (fun c hc => h4 c (by simp [hc])) h5
        exact h3 r hp.1 hl
      · exact far_look hp.2 hl f h1 hi g hg

/-- One more bit of a page is flipped. -/
def flS (fl : Int → Int → List Nat) (i k : Int) (bit : Nat) : Int → Int → List Nat := fun b p => if b = i ∧ p = k then fl i k ++ [bit] else fl b p

theorem flip_fin {w u6 w1 Y : World} {p : Nat} {F : Nat → Prop} {C : Ch} {x : Bx} {bs : List Bc} {fe fe1 : List Fe} {i k : Int} {bit ln lc d gn cn : Nat} {la : Option Addr} {es1 : Array MapEntry} {ck1 : Nat} {e1 : MapEntry}
    (hC : CAt u6 p F C x bs fe) (hF : ∀ k, F k → k < w.heap.size) (hw : w.heap.size ≤ u6.heap.size) (hl : lookV fe i k = .slice la ln lc)
    (hO1 : Only (· = x.gm) u6 w1) (hf1 : FlAt w1 F x.gm fe1) (hm1 : w1.heap[x.gm]? = some (.map es1 ck1)) (hes1 : es1.toList.map (fun e => (e.key, e.val)) = fe1.map (fun f => (plV f.b f.p, f.sl))) (hst1 : Stamps es1.toList ck1) (hd1 : es1.toList[d]? = some e1)
    (hput1 : ∀ n : Fe, n.b = i → n.p = k → putE n fe1 = fe1.set d n ∧ d < fe1.length) (hlook1 : ∀ b' p', look fe1 b' p' = look fe b' p') (hmem1 : ∀ n : Fe, n.b = i → n.p = k → ∀ f ∈ fe1, isAt i k f = false → f ∈ fe) (hkey : e1.key = plV i k)
    (own : Y.ownsRow 0 3 1 (.slice (some ⟨gn, 0, none⟩) (ln + 1) cn) (ln + 1) (((C.fl i k).map fun (i : Nat) => Value.int .i64 (i : Int)) ++ [.int .i64 (bit : Int)])) (grow : w1.grownBy Y (Value.slice la ln lc).ownBlock) (lies : (Value.slice la ln lc).ownBlock = some gn ∨ gn = w1.heap.size) (hgl : gn < Y.heap.size) :
    ∃ z fe2, (Instr.entryStore 64 (.map (some x.gm)) (goInt (e1.born : Nat)) (.slice (some ⟨gn, 0, none⟩) (ln + 1) cn)).run Try.prog Y = .ok () z ∧ CAt z p (Fx F w z) { C with fl := flS C.fl i k bit } x bs fe2 ∧ Only F u6 z ∧ Only (· = x.gm) Y z := by
  obtain ⟨la', ln', lc', hl', hrow, hobF⟩ := look_row hC.fl i k
  rw [hl] at hl'
  cases hl'
  obtain ⟨es, ck, hm, _⟩ := hC.fl.map
  have hob3 : ∀ g, (Value.slice la ln lc).ownBlock = some g → ∃ cs, u6.heap[g]? = some (.cells cs 3 (0, 0)) := fun g hg => own_tag hrow hg
  have hogm : (Value.slice la ln lc).ownBlock ≠ some x.gm := fun e => by
    obtain ⟨cs, h1⟩ := hob3 _ e
    exact tag_ne hm h1 (t := 1001) (u := 3) rfl rfl (by decide) rfl
  have hFY : ∀ k, F k → k < Y.heap.size := fun k hk => Nat.lt_of_lt_of_le (hC.fin k hk) (Nat.le_trans hO1.size grow.size)
  have hmY : Y.heap[x.gm]? = some (.map es1 ck1) := (grow.block x.gm (lt_of_block hm1) (fun e => hogm e.symm)).trans hm1
  have hfar0 : ∀ f ∈ fe1, isAt i k f = false → ∀ g, f.sl.ownBlock = some g → (Value.slice la ln lc).ownBlock ≠ some g := fun f hf hi => far_look hC.fl.far hl f (hmem1 ⟨i, k, none, 0, 0, []⟩ rfl rfl f hf hi) hi
  obtain ⟨z, hrun, hfz, hoz⟩ := FlAt.store (G := fun k => F k ∨ (w.heap.size ≤ k ∧ k < Y.heap.size)) hmY hes1 hst1 hd1 hf1.keys hf1.far ⟨i, k, some ⟨gn, 0, none⟩, ln + 1, cn, C.fl i k ++ [bit]⟩ (hput1 _ rfl rfl) (Or.inl hf1.fg) hkey
    (fun f hf hi => ⟨owns_keep (hf1.ok f hf).row (fun g hg => by
      obtain ⟨cs, hc⟩ := own_tag (hf1.ok f hf).row hg
      exact grow.block g (lt_of_block hc) (fun e => hfar0 f hf hi g hg e.symm)), fun g hg => Or.inl ((hf1.ok f hf).fg g hg)⟩)
    ⟨by rw [List.map_append]; exact own, fun g hg => by
      cases hg
      rcases lies with h1 | h1
      · exact Or.inl (hobF _ h1)
      · exact Or.inr ⟨by rw [h1]; exact Nat.le_trans hw hO1.size, hgl⟩⟩
    (fun f hf hi g hg e => by
      have e' : gn = g := Option.some.inj e
      rw [← e'] at hg
      rcases lies with h1 | h1
      · exact hfar0 f hf hi _ hg h1
      · obtain ⟨cs, hc⟩ := own_tag (hf1.ok f hf).row hg
        have := lt_of_block hc
        omega)
  have hOz : Only (fun k => k = x.gm ∨ (Value.slice la ln lc).ownBlock = some k) u6 z := ((hO1.mono (fun _ _ e => Or.inl e)).trans (Only.ofG grow (F := fun k => k = x.gm ∨ (Value.slice la ln lc).ownBlock = some k) (fun _ e => Or.inr e)) (fun _ _ h => h)).trans hoz (fun _ _ e => Or.inl e)
  have hT : KeepT F (fun t => t = 1001 ∨ t = 3) u6 z := hOz.keepT (fun k' o t hk ho ht => by
    rcases hk with h1 | h1
    · rw [h1, hm] at ho
      cases ho
      exact Or.inl ht
    · obtain ⟨cs, hc⟩ := hob3 _ h1
      rw [hc] at ho
      cases ho
      exact Or.inr ht.symm)
  have hfz' : FlAt z (Fx F w z) x.gm (putE ⟨i, k, some ⟨gn, 0, none⟩, ln + 1, cn, C.fl i k ++ [bit]⟩ fe1) := hfz.keep (T := fun _ => False) (KeepT.of (fun _ _ => rfl) _) (fun h => h) (fun h => h) (fun k hk => hk.imp (fun h => h) (fun h => ⟨h.1, Nat.lt_of_lt_of_le h.2 hoz.size⟩))
  refine ⟨z, _, hrun, hC.flips2 hT hOz.size (fun k hk => Or.inl hk) (fun k hk => hk.elim (fun h => Nat.lt_of_lt_of_le (hFY k h) hoz.size) (fun h => h.2)) hfz' ?_, hOz.mono (fun j _ h => h.elim (fun e => by rw [e]; exact hC.fl.fg) (fun e => hobF _ e)), hoz⟩
  intro b' p'
  rw [look_putE]
  unfold flS
  rw [hlook1, hC.fs]

end Go.Proofs.Ytjhphkfpcpfdnaa
namespace Go.Proofs.Ytjhphkfpcpfdnaa
open Go.RowKit Go.Conc
set_option linter.unusedVariables false

def F6 (cb p gm i k ln lc : Nat) (la : Option Addr) (u : World) : Prop := u.cell? ⟨cb, 0, none⟩ = some (.pointer (some ⟨p, 0, none⟩)) ∧ u.cell? ⟨p, 4, none⟩ = some (.map (some gm)) ∧ u.cell? ⟨cb + 1, 0, none⟩ = some (.int .i64 (i : Int)) ∧ u.cell? ⟨cb + 1, 1, none⟩ = some (.int .i64 (k : Int)) ∧ (Instr.lookup 64 (.map (some gm)) (.agg #[.int .i64 (i : Int), .int .i64 (k : Int)]) false).run Try.prog u = .ok (.slice la ln lc) u
theorem f6_mk {u : World} {p : Nat} {F : Nat → Prop} {C : Ch} {x : Bx} {bs : List Bc} {fe : List Fe} {i k cb ln lc : Nat} {la : Option Addr} (h : CAt u p F C x bs fe) (h0 : u.heap[cb]? = some (.cells #[.pointer (some ⟨p, 0, none⟩)] 27 (0, 0))) (h1 : u.heap[cb + 1]? = some (.cells #[.int .i64 (i : Int), .int .i64 (k : Int)] 51 (0, 0))) (hl : lookV fe (i : Int) (k : Int) = .slice la ln lc) : F6 cb p x.gm i k ln lc la u := by
  obtain ⟨p0, p1⟩ := cells2 h1
  have hr := h.fl.lkr (i : Int) (k : Int)
  rw [hl] at hr
  exact ⟨cells1 h0, h.box.c4, p0, p1, hr⟩
theorem ub_mk {u : World} {p : Nat} {F : Nat → Prop} {C : Ch} {x : Bx} {bs : List Bc} {fe : List Fe} {cb ub un : Nat} (h : CAt u p F C x bs fe) (h0 : u.heap[cb]? = some (.cells #[.pointer (some ⟨p, 0, none⟩)] 27 (0, 0))) (h1 : u.heap[ub]? = some (.cells #[.int .i64 (un : Int)] 3 (0, 0))) : UB p cb ub un C u := by
  have b0 := h.box.c0
  have b1 := h.box.c1
  have b2 := h.box.c2
  rw [h.B] at b0
  rw [h.P] at b1
  rw [h.S] at b2
  exact ⟨cells1 h0, cells1 h1, b0, b1, b2⟩

def F8 (cb p gm i k : Nat) (u : World) : Prop := u.cell? ⟨cb, 0, none⟩ = some (.pointer (some ⟨p, 0, none⟩)) ∧ u.cell? ⟨p, 4, none⟩ = some (.map (some gm)) ∧ u.cell? ⟨cb + 1, 0, none⟩ = some (.int .i64 (i : Int)) ∧ u.cell? ⟨cb + 1, 1, none⟩ = some (.int .i64 (k : Int))
theorem f8_mk {u : World} {p : Nat} {F : Nat → Prop} {C : Ch} {x : Bx} {bs : List Bc} {fe : List Fe} {i k cb : Nat} (h : CAt u p F C x bs fe) (h0 : u.heap[cb]? = some (.cells #[.pointer (some ⟨p, 0, none⟩)] 27 (0, 0))) (h1 : u.heap[cb + 1]? = some (.cells #[.int .i64 (i : Int), .int .i64 (k : Int)] 51 (0, 0))) : F8 cb p x.gm i k u := by
  obtain ⟨p0, p1⟩ := cells2 h1
  exact ⟨cells1 h0, h.box.c4, p0, p1⟩
theorem f8_only {u u' : World} {G : Nat → Prop} {p gm i k cb : Nat} (h : F8 cb p gm i k u) (ho : Only G u u') (h0 : ¬ G cb) (h1 : ¬ G p) (h2 : ¬ G (cb + 1)) : F8 cb p gm i k u' := by
  obtain ⟨a0, a1, a2, a3⟩ := h
  exact ⟨ho.cell a0 h0, ho.cell a1 h1, ho.cell a2 h2, ho.cell a3 h2⟩
theorem news1 {u : World} {g : Nat} {v : Value} {T : TypeId} (h : u.heap[g]? = some (.cells #[v] T (0, 0))) : ∀ j y, ([v] : List Value)[j]? = some y → u.cell? ((⟨g, 0, none⟩ : Addr).add j) = some y := by
  intro j y hy
  cases j with
  | zero => simp at hy; subst hy; exact cells1 h
  | succ j => simp at hy
theorem info3 : (Try.prog.info? 3).map (fun i => (i.zero, i.size, i.bytes)) = some (some (.int .i64 0), 1, 8) := by kernel_rfl

end Go.Proofs.Ytjhphkfpcpfdnaa
namespace Go.Proofs.Ytjhphkfpcpfdnaa
open Go.RowKit Go.Conc
set_option linter.unusedVariables false

/-- Has a bit of the same unit been flipped? -/
def flHas (C : Ch) (pb pp : Int) (bit : Nat) : Bool := (C.fl pb pp).any (fun z => ((unitN C.S z : Nat) : Int) == ((unitN C.S bit : Nat) : Int))
def FlipC (C : Ch) (pb pp bit : Int) : Int × Ch :=
  if hasP C.B C.P pb pp = false then (41, C) else
    match C.bl[pb.toNat]? with
    | none => (41, C)
    | some b =>
      match b.ps[pp.toNat]? with
      | none => (41, C)
      | some q => if decide (bit < 0) || decide (8 * (pgB C.S : Int) ≤ bit) || !q.h || flHas C pb pp bit.toNat then (46, C) else (0, { C with fl := flS C.fl pb pp bit.toNat })

end Go.Proofs.Ytjhphkfpcpfdnaa
