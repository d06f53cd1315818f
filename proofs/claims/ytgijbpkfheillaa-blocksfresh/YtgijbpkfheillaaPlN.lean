/-
  SEAT Ytgijbpkfheillaa: the two books side by side.
-/
import Derived.Test.YtgijbpkfheillaaPlJ
import Derived.Test.YtgijbpkfheillaaPlK
namespace Go.Proofs.Ytgijbpkfheillaa
open Go.RowKit
set_option linter.unusedVariables false

/-- An entry as it may be while the books are played. -/
structure EOk (P : Int) (e : Ent) : Prop where
  s : 0 ≤ e.s ∧ e.s ≤ 6
  h : 0 ≤ e.h ∧ e.h ≤ 281474976710655
  l : 0 ≤ e.l ∧ e.l ≤ P - 1
  lf : e.left = true → e.s = 4
  hd : e.s = 1 ∨ e.s = 2 ∨ e.s = 4 → 1 ≤ e.h
def EOks (P : Int) (es : List Ent) : Prop := ∀ i, i < es.length → EOk P (es.getD i Ent.zero)
theorem EOks.set {P : Int} {es : List Ent} (h : EOks P es) (i : Nat) (x : Ent) (hx : EOk P x) : EOks P (es.set i x) := by
  intro j hj
  rw [List.length_set] at hj
  by_cases e : j = i
  · subst e; rw [getD_set_same _ _ _ hj]; exact hx
  · rw [getD_set_other _ _ _ _ e]; exact h j hj
theorem EOk.plain {P s : Int} (hp : 4 ≤ P) (hs : s = 0 ∨ s = 5 ∨ s = 6) : EOk P ⟨s, 0, false, 0, false⟩ := ⟨by simp only; omega, by simp only; omega, by simp only; omega, (fun h => by cases h), (fun h => by simp only at h; omega)⟩
theorem EOks.settle {P : Int} {es : List Ent} (h : EOks P es) (hp : 4 ≤ P) (last vic : Int) (i : Nat) : EOks P (settleE es last vic i) := by
  unfold settleE
  split
  · refine h.set i _ (EOk.plain hp ?_)
    split <;> simp
  · exact h
theorem settle_len (es : List Ent) (last vic : Int) (i : Nat) : (settleE es last vic i).length = es.length := by
  unfold settleE
  split
  · simp
  · rfl
theorem EOks.com {P : Int} {es : List Ent} (h : EOks P es) (hp : 4 ≤ P) : EOks P (es.map comE) := by
  intro i hi
  rw [comD]
  unfold comE
  split
  · exact EOk.plain hp (by simp)
  · exact h i (by simpa using hi)
theorem EOks.heads {P : Int} {es : List Ent} (h : EOks P es) : HeadsE es := fun i hi hl => by
  have h1 := (h i hi).hd
  have h2 := log_states hl
  have := h1 (by omega)
  omega
theorem EOks.left {P : Int} {es : List Ent} (h : EOks P es) : ∀ i, i < es.length → (es.getD i Ent.zero).left = true → (es.getD i Ent.zero).s = 4 := fun i hi => (h i hi).lf
theorem EOks.bks {P : Int} {es : List Ent} (h : EOks P es) (hp : P ≤ 256) : ∀ b ∈ es.map Ent.bk, b.Ok := by
  intro b hb
  obtain ⟨e, he, rfl⟩ := List.mem_map.1 hb
  obtain ⟨i, hi, rfl⟩ := List.mem_iff_getElem.1 he
  have h1 := h i hi
  rw [List.getD_eq_getElem?_getD, List.getElem?_eq_getElem hi] at h1
  simp only [Option.getD_some] at h1
  exact ⟨by unfold Wf; have := h1.s; simp only [Ent.bk]; omega, by have := h1.h; simp only [Ent.bk]; omega, by unfold Wf; have := h1.l; simp only [Ent.bk]; omega⟩

/-- The two books, alike. -/
structure Two (w : World) (B gb gk gr gl g c : Nat) (P : Int) (es : List Ent) (cur last : Int) (vo : Option Nat) : Prop where
  bk : BookAt w gb gk P es cur last (optI vo)
  rf : RefB w gr gl g c P es cur last (optI vo)
  ok : EOks P es
  len : 8 ≤ es.length ∧ es.length ≤ 4096
  cl : -1 ≤ cur ∧ cur < es.length
  vl : ∀ a, vo = some a → a < es.length
  vs : ∀ a, vo = some a → (es.getD a Ent.zero).s = 1 ∨ (es.getD a Ent.zero).s = 4 ∨ (es.getD a Ent.zero).s = 6
  low : B ≤ gb ∧ B ≤ gk ∧ B ≤ gr ∧ B ≤ gl ∧ B ≤ g
section
variable {w w' : World} {B gb gk gr gl g c : Nat} {P : Int} {es : List Ent} {cur last vic : Int} {vo : Option Nat}
/-- No block of the one book is one of the other's. -/
theorem apart_of (h : BookAt w gb gk P es cur last vic) {P' : Int} {es' : List Ent} {cur' last' vic' : Int} (k : RefB w gr gl g c P' es' cur' last' vic') : gb ≠ gr ∧ gb ≠ gl ∧ gb ≠ g ∧ gk ≠ gr ∧ gk ≠ gl ∧ gk ≠ g := by
  obtain ⟨tl, h3⟩ := k.row
  have h1 := k.box
  have h2 := k.left
  have b1 := h.box
  have b2 := h.row
  refine ⟨?_, ?_, ?_, ?_, ?_, ?_⟩
  · rintro rfl; rw [h1] at b1; simp at b1
  · rintro rfl; rw [h2] at b1; simp at b1
  · rintro rfl; rw [h3] at b1; simp at b1
  · rintro rfl; rw [h1] at b2; simp at b2
  · rintro rfl; rw [h2] at b2; simp at b2
  · rintro rfl; rw [h3] at b2; simp at b2
theorem RefB.grew (h : RefB w gr gl g c P es cur last vic) {P' : Int} {es' : List Ent} {cur' last' vic' : Int} (k : BookAt w gb gk P' es' cur' last' vic') (hg : Grew w w' gb gk) : RefB w' gr gl g c P es cur last vic := by
  obtain ⟨a1, a2, a3, a4, a5, a6⟩ := apart_of k h
  obtain ⟨tl, h3⟩ := h.row
  exact ⟨(hg.block gr h.lt.1 (fun e => a1 e.symm) (fun e => a4 e.symm)).trans h.box, (hg.block gl h.lt.2.1 (fun e => a2 e.symm) (fun e => a5 e.symm)).trans h.left, ⟨tl, (hg.block g h.lt.2.2 (fun e => a3 e.symm) (fun e => a6 e.symm)).trans h3⟩, h.cl⟩
theorem BookAt.rgrew (h : BookAt w gb gk P es cur last vic) {P' : Int} {es' : List Ent} {cur' last' vic' : Int} (k : RefB w gr gl g c P' es' cur' last' vic') (hg : RGrew w w' gr gl g) : BookAt w' gb gk P es cur last vic := by
  obtain ⟨a1, a2, a3, a4, a5, a6⟩ := apart_of h k
  exact ⟨(hg.block gb (lt_of_block h.box) a1 a2 a3).trans h.box, (hg.block gk (lt_of_block h.row) a4 a5 a6).trans h.row⟩
theorem Two.below (h : Two w B gb gk gr gl g c P es cur last vo) (hb : Below w.heap.size w w') : Two w' B gb gk gr gl g c P es cur last vo :=
  ⟨h.bk.below hb, h.rf.below hb, h.ok, h.len, h.cl, h.vl, h.vs, h.low⟩
theorem Two.drewN (h : Two w B gb gk gr gl g c P es cur last vo) (k : Nat) : Two (w.drewN k) B gb gk gr gl g c P es cur last vo :=
  ⟨h.bk.drewN k, h.rf.drewN k, h.ok, h.len, h.cl, h.vl, h.vs, h.low⟩
/-- The program's call, then the reference's. -/
theorem Two.step {w1 w2 : World} {es' : List Ent} {cur' last' : Int} {vo' : Option Nat} (h : Two w B gb gk gr gl g c P es cur last vo) (b1 : BookAt w1 gb gk P es' cur' last' (optI vo')) (g1 : Grew w w1 gb gk) (r2 : RefB w2 gr gl g c P es' cur' last' (optI vo')) (g2 : RGrew w1 w2 gr gl g) (hok : EOks P es') (hlen : es'.length = es.length) (hcl : -1 ≤ cur' ∧ cur' < es.length) (hvl : ∀ a, vo' = some a → a < es.length) (hvs : ∀ a, vo' = some a → (es'.getD a Ent.zero).s = 1 ∨ (es'.getD a Ent.zero).s = 4 ∨ (es'.getD a Ent.zero).s = 6) : Two w2 B gb gk gr gl g c P es' cur' last' vo' := by
  have hr1 := h.rf.grew h.bk g1
  exact ⟨b1.rgrew hr1 g2, r2, hok, by rw [hlen]; exact h.len, by rw [hlen]; exact hcl, by rw [hlen]; exact hvl, hvs, h.low⟩
theorem two_below {u w1 w2 : World} (h : Two w B gb gk gr gl g c P es cur last vo) (hu : Below B u w) (hB : B ≤ w.heap.size) (g1 : Grew w w1 gb gk) (g2 : RGrew w1 w2 gr gl g) : Below B u w2 := by
  obtain ⟨l1, l2, l3, l4, l5⟩ := h.low
  have h1 := Grew.below hu hB g1 l1 l2
  exact RGrew.below h1 (Nat.le_trans hB g1.size) g2 l3 l4 l5
end
theorem openV_form (es : List Ent) : ∃ a b, openV es = .tuple #[.int .i64 a, .bool b] := by
  unfold openV
  split
  · exact ⟨_, _, rfl⟩
  · exact ⟨_, _, rfl⟩
theorem oldV_form (o : Option (Nat × Int)) : ∃ a h b, oldV o = .tuple #[.int .i64 a, .int .u64 h, .bool b] := by
  unfold oldV
  split
  · exact ⟨_, _, _, rfl⟩
  · exact ⟨_, _, _, rfl⟩
theorem RefB.readsK {w : World} {gr gl g c : Nat} {P : Int} {es : List Ent} {cur last vic : Int} (h : RefB w gr gl g c P es cur last vic) (hok : ∀ b ∈ es.map Ent.bk, b.Ok) : ReadsK w (some ⟨g, 0, none⟩) es.length (es.map Ent.bk) := by
  refine ⟨by simp, hok, (fun h => by cases h), fun x hx i hi j hj => ?_⟩
  cases hx
  rw [plain_add, Nat.zero_add, bkD' es i hi]
  obtain ⟨e0, e1, e2, e3⟩ := h.entry i hi
  match j, hj with
  | 0, _ => exact e0
  | 1, _ => exact e1
  | 2, _ => exact e2
  | 3, _ => exact e3
end Go.Proofs.Ytgijbpkfheillaa
