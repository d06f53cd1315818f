/-
  SEAT YtgdmagmbkmgdfaaDoor: TagsWider: the walk.
-/
import Derived.Test.YtgdmagmbkmgdfaaDoorHd
import Derived.ProofKit
import Derived.OpenShut
namespace Go.Proofs.YtgdmagmbkmgdfaaDoor
open Go.RowKit Go.ChangeShapes Go.WideShapes Go.ChangeAt
set_option linter.unusedVariables false

/-- A box with a geometry in it. -/
def Geo (w : World) (T : Nat) (B P sec : Int) : Prop := w.heap[T]? = some (.cells #[.int .i64 B, .int .i64 P, .int .i64 sec] 46 (0, 0))
theorem Geo.lt {w : World} {T : Nat} {B P sec : Int} (h : Geo w T B P sec) : T < w.heap.size := by
  rcases Nat.lt_or_ge T w.heap.size with h1 | h1
  · exact h1
  · unfold Geo at h; simp [Array.getElem?_eq_none h1] at h
theorem Geo.below {w w' : World} {T : Nat} {B P sec : Int} (h : Geo w T B P sec) (hb : Below w.heap.size w w') : Geo w' T B P sec := (hb.block T h.lt).trans h
theorem Geo.made (w : World) (B P sec : Int) : Geo (w.alloc (.cells #[.int .i64 B, .int .i64 P, .int .i64 sec] 46)) w.heap.size B P sec := heap_alloc_new w _
theorem Geo.cells {w : World} {T : Nat} {B P sec : Int} (h : Geo w T B P sec) : w.cell? ⟨T, 0, none⟩ = some (.int .i64 B) ∧ w.cell? ⟨T, 1, none⟩ = some (.int .i64 P) ∧ w.cell? ⟨T, 2, none⟩ = some (.int .i64 sec) := by
  unfold Geo at h
  simp [World.cell?, h]

set_option maxHeartbeats 4000000 in
set_option maxRecDepth 100000 in
theorem widerW (B P sec n0 n1 n2 n3 n4 n5 n6 n7 more E F s2 : Int) (w : World) (hT : Tab w) (hE : chk.chkE B P sec n0 n1 n2 n3 n4 n5 n6 n7 = E) (hF : chk.chkE B P s2 n0 n1 n2 n3 n4 n5 n6 n7 = F) (k1 : wrap64 (sec + more) = s2) (k2 : IntKind.i64.wrap (sec + more) = s2)
    (hc : E = 40 ∨ E = 61 ∨ (E = 0 ∧ more < 0) ∨ (E = 0 ∧ 0 ≤ more ∧ 8 < more) ∨ (E = 0 ∧ 0 ≤ more ∧ more ≤ 8 ∧ 8 < s2 ∧ F = 40) ∨ (E = 0 ∧ 0 ≤ more ∧ more ≤ 8 ∧ s2 ≤ 8 ∧ F = 0 ∧ 1 ≤ n0 ∧ n0 ≤ 4 ∧ n3 ≤ n2 ∧ n6 ≤ 256 * sec ∧ 1 ≤ sec ∧ sec ≤ 8)) :
    Calls Tryd.prog 6 #[.agg #[.int .i64 B, .int .i64 P, .int .i64 sec], T8 n0 n1 n2 n3 n4 n5 n6 n7, .int .i64 more] w fun e w' => e = .returned (.bool true) ∧ Below w.heap.size w w' := by
  have HT : Hid (Tab w) := hT
  have HE : Hid (chk.chkE B P sec n0 n1 n2 n3 n4 n5 n6 n7 = E) := hE
  have HF : Hid (chk.chkE B P s2 n0 n1 n2 n3 n4 n5 n6 n7 = F) := hF
  have g0 : Hid True := trivial
  clear hT hE hF
  rcases hc with rfl | rfl | ⟨rfl, m1⟩ | ⟨rfl, m0, m1⟩ | ⟨rfl, m0, m1, m2, rfl⟩ | ⟨rfl, m0, m1, m2, rfl, q1, q2, q3, q4, q5, q6⟩
  all_goals
    go_enter Tryd.func6, Tryd.ntmps6
    go_wp2_with (first
      | (go_at_call 21; have h9 := g0; clear h9; refine (heads_any _ ?_).mono ?_; exact HT.out.below (((Below.refl w.heap.size w).alloc (Nat.le_refl _) _).alloc (by simp) _); rintro e u1 ⟨rfl, b1⟩; have gg := ((Geo.made w B P sec).below ((Below.refl _ _).alloc (Nat.le_refl _) (.cells #[.int .i64 n0, .int .i64 n1, .int .u64 n2, .int .u64 n3, .int .i64 n4, .int .i64 n5, .int .i64 n6, .int .i64 n7] 25))).below b1; obtain ⟨a0, a1, a2⟩ := gg.cells; have tt := (Box.made (w.alloc (.cells #[.int .i64 B, .int .i64 P, .int .i64 sec] 46)) n0 n1 n2 n3 n4 n5 n6 n7).below b1; have bw1 := chk.below2 b1; have bA := (Below.refl u1.heap.size u1).alloc (Nat.le_refl _) (.cells #[.int .i64 B, .int .i64 P, .int .i64 s2] 46); obtain ⟨c0, c1, c2⟩ := (gg.below bA).cells; have tA := tt.below bA; rw [size_al] at tA; obtain ⟨⟨x0, x1, x2, x3, x4, x5, x6, x7⟩, _⟩ := t8_cells tA; have HG : Hid (Geo _ _ _ _ _) := gg.below bA; have HH : Hid (Geo _ _ _ _ _) := Geo.made u1 B P s2; have HX : Hid (Box _ _ _ _ _ _ _ _ _ _) := tA; have HB : Hid (Below _ _ _) := bw1.trans (bA.mono bw1.size); clear g0 b1 gg tt bw1 bA tA)
      | (go_at_call 22; have h9 := HG; clear h9; refine (chk.check_any B P sec n0 n1 n2 n3 n4 n5 n6 n7 _).mono ?_; rintro e u2 ⟨rfl, b2⟩; rw [HE.out]; clear a0 a1 a2 c0 c1 c2 x0 x1 x2 x3 x4 x5 x6 x7; have g2 := HG.out.below b2; have h2 := HH.out.below b2; have t2 := HX.out.below b2; have bw2 := HB.out.trans (b2.mono HB.out.size); obtain ⟨a0, a1, a2⟩ := h2.cells; obtain ⟨⟨x0, x1, x2, x3, x4, x5, x6, x7⟩, _⟩ := t8_cells t2; clear HG HH HX HB b2)
      | (go_at_call 22; have h9 := g2; clear h9; refine (chk.check_any B P s2 n0 n1 n2 n3 n4 n5 n6 n7 _).mono ?_; rintro e u3 ⟨rfl, b3⟩; rw [HF.out]; clear a0 a1 a2 x0 x1 x2 x3 x4 x5 x6 x7; obtain ⟨a0, a1, a2⟩ := (h2.below b3).cells; obtain ⟨c0, c1, c2⟩ := (g2.below b3).cells; obtain ⟨⟨x0, x1, x2, x3, x4, x5, x6, x7⟩, _⟩ := t8_cells (t2.below b3); have bw3 := bw2.trans (b3.mono bw2.size); clear g2 h2 t2 bw2 b3)
      | (go_at_call 11; refine (no_any _ _).mono ?_; rintro e u ⟨rfl, rfl⟩))
    go_ret
    exact ⟨rfl, bw3⟩

theorem chkE_0 {B P sec n0 n1 n2 n3 n4 n5 n6 n7 : Int} (h : chk.chkE B P sec n0 n1 n2 n3 n4 n5 n6 n7 = 0) : chk.Fits B P sec = true ∧ chk.Ser n2 n3 = true ∧ chk.Pag sec n6 n7 = true ∧ chk.Kin n0 n1 n4 n5 n6 = true := by
  unfold chk.chkE at h
  split at h
  · rename_i h1
    split at h
    · rename_i h2
      exact ⟨h1, h2.1, h2.2.1, h2.2.2⟩
    · omega
  · omega

theorem widerWalk (B P sec n0 n1 n2 n3 n4 n5 n6 n7 more : Int) (w : World) (hw : (Lit.int .i64 more).wf = true) (hT : Tab w) :
    Calls Tryd.prog 6 #[.agg #[.int .i64 B, .int .i64 P, .int .i64 sec], T8 n0 n1 n2 n3 n4 n5 n6 n7, .int .i64 more] w fun e w' => e = .returned (.bool true) ∧ Below w.heap.size w w' := by
  refine widerW B P sec n0 n1 n2 n3 n4 n5 n6 n7 more _ _ (wrap64 (sec + more)) w hT rfl rfl rfl (by unfold wrap64; exact IntKind.wrap_i64 _) ?_
  obtain ⟨E, hE⟩ : ∃ E, chk.chkE B P sec n0 n1 n2 n3 n4 n5 n6 n7 = E := ⟨_, rfl⟩
  rw [hE]
  by_cases h0 : E = 0
  · subst h0
    obtain ⟨f1, f2, f3, f4⟩ := chkE_0 hE
    have g1 := of_decide_eq_true f1
    have g2 := of_decide_eq_true f2
    have g3 := of_decide_eq_true f3
    have g4 := of_decide_eq_true f4
    by_cases m1 : more < 0
    · exact Or.inr (Or.inr (Or.inl ⟨rfl, m1⟩))
    · by_cases m2 : 8 < more
      · exact Or.inr (Or.inr (Or.inr (Or.inl ⟨rfl, by omega, m2⟩)))
      · have e2 : wrap64 (sec + more) = sec + more := by unfold wrap64; omega
        rw [e2]
        by_cases m3 : 8 < sec + more
        · refine Or.inr (Or.inr (Or.inr (Or.inr (Or.inl ⟨rfl, by omega, by omega, m3, ?_⟩))))
          have : chk.Fits B P (sec + more) = false := decide_eq_false (by omega)
          unfold chk.chkE
          rw [this]
          rfl
        · refine Or.inr (Or.inr (Or.inr (Or.inr (Or.inr ⟨rfl, by omega, by omega, by omega, ?_, by omega, by omega, by omega, by omega, by omega, by omega⟩))))
          have e3 : chk.Fits B P (sec + more) = true := decide_eq_true (by omega)
          have e4 : chk.Pag (sec + more) n6 n7 = true := decide_eq_true (by omega)
          unfold chk.chkE
          rw [if_pos e3, if_pos ⟨f2, e4, f4⟩]
  · unfold chk.chkE at hE
    split at hE
    · split at hE
      · omega
      · exact Or.inr (Or.inl hE.symm)
    · exact Or.inl hE.symm
end Go.Proofs.YtgdmagmbkmgdfaaDoor
