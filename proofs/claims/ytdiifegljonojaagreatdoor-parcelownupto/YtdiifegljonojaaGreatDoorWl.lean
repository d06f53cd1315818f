/-
  SEAT YtdiifegljonojaaGreatDoor: a tree as bytes: what Pack answers.
-/
import Derived.Test.YtdiifegljonojaaGreatDoorWk
namespace Go.Proofs.YtdiifegljonojaaGreatDoor
open Go.RowKit
set_option linter.unusedVariables false

/-- A leaf's piece. -/
def encL (l : Lf) : List Int := encP ((Pt.spN l.path).length - 1) l.ty l.mode l.stamp ((Pt.spN l.path).getD ((Pt.spN l.path).length - 1) ByteArray.empty) l.data l.target
/-- May a leaf come behind one of these names? -/
def okL (ns0 : List ByteArray) (d0 : Bool) (l : Lf) : Bool := nmsB l.path && bodB l.ty l.mode l.data.length l.target && folB ns0 d0 (Pt.spN l.path)
/-- The pieces of all leaves behind the first. -/
def goL : List ByteArray → Bool → List Int → List Lf → Except Int (List Int)
  | _, _, laid, [] => .ok laid
  | ns0, d0, laid, l :: r => if okL ns0 d0 l then goL (Pt.spN l.path) (l.ty == 2) (laid ++ encL l) r else .error 191
def headW (l : Lf) : List Int := [80, 82, 67, 76] ++ numL 1 1 ++ numL 2 l.mode ++ numL 8 l.stamp
def rootB (l : Lf) : Bool := decide (l.path.toList = [47]) && decide (l.ty = 2)
/-- A tree as bytes. -/
def packM : List Lf → Except Int (List Int)
  | [] => .error 190
  | l :: r => if rootB l then (if bodB l.ty l.mode l.data.length l.target then (match goL [] true (headW l) r with | .error e => .error e | .ok x => .ok (sealW x)) else .error 191) else .error 190

theorem cutF_flat (zs : List Int) : ∀ (f k : Nat), k ≤ zs.length → ((cutF zs f k).flatMap (encR zs)).length ≤ 6 * (zs.length - k)
  | 0, k, _ => by simp [cutF]
  | f + 1, k, hk => by
    rw [cutF]
    split
    · rename_i hlt
      have h1 := fhAt_ge hk
      have h2 := enAt_gt hlt
      have h3 := enAt_le zs k
      have h4 := cutF_flat zs f (enAt zs k) h3
      have h5 := fhAt_le zs k
      have h6 : fhAt zs k ≤ enAt zs k := by unfold enAt; omega
      rw [List.flatMap_append, List.flatMap_append, List.length_append, List.length_append]
      have a1 : ((if k < fhAt zs k then [(⟨k, fhAt zs k - k, false⟩ : Sr)] else []).flatMap (encR zs)).length ≤ 6 * (fhAt zs k - k) := by
        split
        · rw [List.flatMap_cons, List.flatMap_nil, List.append_nil]
          unfold encR
          simp only [List.length_append, numL_length, Bool.false_eq_true, if_false, List.length_take, List.length_drop]
          omega
        · simp
      have a2 : ((if fhAt zs k < enAt zs k then [(⟨fhAt zs k, enAt zs k - fhAt zs k, true⟩ : Sr)] else []).flatMap (encR zs)).length ≤ 6 * (enAt zs k - fhAt zs k) := by
        split
        · rw [List.flatMap_cons, List.flatMap_nil, List.append_nil]
          unfold encR
          simp only [List.length_append, numL_length, if_true, List.length_nil]
          omega
        · simp
      omega
    · simp
theorem encD_len (zs : List Int) : (encD zs).length ≤ 4 + 6 * zs.length := by
  unfold encD
  rw [List.length_append, numL_length]
  have := cutF_flat zs (zs.length - 0) 0 (Nat.zero_le _)
  have h2 : (cuts zs).flatMap (encR zs) = (cutF zs (zs.length - 0) 0).flatMap (encR zs) := rfl
  rw [h2]
  omega
theorem encP_len (d : Nat) (t m s : Int) (nm : ByteArray) (zs : List Int) (tg : ByteArray) (hn : nm.size ≤ 63) (ht : tg.size ≤ 127) : (encP d t m s nm zs tg).length ≤ 300 + 6 * zs.length := by
  unfold encP encB
  simp only [List.length_append, numL_length, numsS_len]
  split
  · have := encD_len zs; omega
  · split
    · simp only [List.length_append, numL_length, numsS_len]; omega
    · simp; omega
/-- What the pieces may take. -/
def szL : List Lf → Nat
  | [] => 0
  | l :: r => 300 + 6 * l.data.length + szL r

theorem bod_facts {t m : Int} {n : Nat} {tg : ByteArray} (h : bodB t m n tg = true) : 1 ≤ t ∧ t ≤ 3 ∧ 0 ≤ m ∧ m ≤ 4095 ∧ tg.size ≤ 127 ∧ (t ≠ 1 → n = 0) ∧ n ≤ 16777216 := by
  unfold bodB typB datB tarB at h
  simp only [Bool.and_eq_true, decide_eq_true_eq] at h
  obtain ⟨⟨⟨⟨⟨h1, h2⟩, h3⟩, h4⟩, h5⟩, h6⟩ := h
  refine ⟨h1, h2, h3, h4, ?_, ?_, ?_⟩
  · split at h6
    · simp only [Bool.and_eq_true, decide_eq_true_eq] at h6; omega
    · have := of_decide_eq_true h6; omega
  · intro ht
    rw [if_neg ht] at h5
    exact of_decide_eq_true h5
  · split at h5
    · exact of_decide_eq_true h5
    · have := of_decide_eq_true h5; omega
theorem nms_facts {s : ByteArray} (h : nmsB s = true) : Pt.spE s = 0 ∧ (Pt.spN s).length ≤ 64 ∧ ∀ x ∈ Pt.spN s, x.size ≤ 63 := by
  unfold nmsB at h
  simp only [Bool.and_eq_true, decide_eq_true_eq] at h
  obtain ⟨⟨h1, _⟩, _⟩ := h
  have h2 : Pt.spN s = Pt.nm s := by unfold Pt.spN; rw [if_pos h1]
  have h3 : Pt.nmE s = 0 := by
    unfold Pt.spE at h1
    split at h1
    · exact h1
    · cases h1
  unfold Pt.nmE at h3
  refine ⟨h1, ?_, ?_⟩
  · rw [h2]
    split at h3
    · cases h3
    · split at h3
      · cases h3
      · split at h3
        · cases h3
        · omega
  · rw [h2]
    intro x hx
    split at h3
    · cases h3
    · split at h3
      · cases h3
      · split at h3
        · cases h3
        · split at h3
          · cases h3
          · rename_i h9
            have h8 : Pt.longB x = false := by
              cases h7 : Pt.longB x with
              | false => rfl
              | true => exact absurd (List.any_eq_true.2 ⟨x, hx, h7⟩) h9
            unfold Pt.longB at h8
            have := of_decide_eq_false h8
            omega
theorem fol_len {ns0 ns : List ByteArray} {d0 : Bool} (h : folB ns0 d0 ns = true) : 1 ≤ ns.length := by
  unfold folB at h
  simp only [Bool.and_eq_true, decide_eq_true_eq] at h
  exact h.1.1.1

/-- A tree that is read. -/
structure RdL (w : World) (B : Nat) (v : Value) (es : List Le) : Prop where
  shape : ∃ a c, v = .slice a es.length c ∧ es.length ≤ c ∧ c ≤ 9223372036854775807 ∧ (0 < es.length → ∃ b off, a = some ⟨b, off, none⟩ ∧ b < B ∧ ∀ k, k < es.length → ∀ j, j < 6 → w.cell? ⟨b, off + k * 6 + j, none⟩ = es[k]?.bind (fun x => x.cells[j]?))
  data : ∀ x ∈ es, ∃ da dn dc, x.d = .slice da dn dc ∧ Reads w da dn x.l.data ∧ dn ≤ dc ∧ dc ≤ 9223372036854775807 ∧ ∀ y, da = some y → 0 < dn → y.block < B
  stamp : ∀ x ∈ es, 0 ≤ x.l.stamp ∧ x.l.stamp < 18446744073709551616
  text : ∀ x ∈ es, x.l.path.size ≤ 9223372036854775807 ∧ x.l.target.size ≤ 200000000000000 ∧ x.l.data.length ≤ 16777216
theorem RdL.low {w u : World} {B : Nat} {v : Value} {es : List Le} (h : RdL w B v es) (hb : Below B w u) : RdL u B v es := by
  refine ⟨?_, ?_, h.stamp, h.text⟩
  · obtain ⟨a, c, h1, h2, h3, h4⟩ := h.shape
    refine ⟨a, c, h1, h2, h3, fun h0 => ?_⟩
    obtain ⟨b, off, g1, g2, g3⟩ := h4 h0
    exact ⟨b, off, g1, g2, fun k hk j hj => by rw [hb.cell (show b < B from g2)]; exact g3 k hk j hj⟩
  · intro x hx
    obtain ⟨da, dn, dc, g1, g2, g3, g4, g5⟩ := h.data x hx
    exact ⟨da, dn, dc, g1, g2.lowP g5 hb, g3, g4, g5⟩
theorem ow_kw {w w' : World} {B B0 : Nat} {v : Value} {xs : List ByteArray} (h : Pt.Ow w B0 v xs) (k : Kw B w w') : Pt.Ow w' B0 v xs := by
  obtain ⟨h1, h2⟩ := h
  refine ⟨h1, ?_⟩
  rcases h2 with h2 | ⟨g, cap, cur, hv, hb, hg, r⟩
  · exact Or.inl h2
  · exact Or.inr ⟨g, cap, cur, hv, hb, k.blk hg (by decide) (by decide), r⟩
theorem ow_cells {w : World} {B : Nat} {v : Value} {xs : List ByteArray} (h : Pt.Ow w B v xs) (hne : 1 ≤ xs.length) : ∃ g cap cur, v = .slice (some ⟨g, 0, none⟩) xs.length cap ∧ w.heap[g]? = some (.cells cur 9 (0, 0)) ∧ ∀ (j : Nat) (u : ByteArray), xs[j]? = some u → cur[j]? = some (.string u) := by
  rcases h.2 with ⟨h1, h2⟩ | ⟨g, cap, cur, hv, hb, hg, h1, h2, h3, h4⟩
  · omega
  · refine ⟨g, cap, cur, hv, hg, fun j u hu => ?_⟩
    have h5 : j < xs.length := by
      obtain ⟨h6, _⟩ := List.getElem?_eq_some_iff.1 hu
      exact h6
    have h6 : (cur.toList.take (xs.length * 1))[j]? = some (.string u) := by rw [h4, List.getElem?_map, hu]; rfl
    rw [List.getElem?_take_of_lt (by omega)] at h6
    simpa using h6
/-- What Pack answers. -/
def PkV (w : World) (r : Except Int (List Int)) (e : Ending) (w' : World) : Prop :=
  match r with
  | .error x => e = .returned (.tuple #[.slice none 0 0, .int .i64 x])
  | .ok row => ∃ g cap, e = .returned (.tuple #[.slice (some ⟨g, 0, none⟩) row.length cap, .int .i64 0]) ∧ Own w' w.heap.size g row.length cap row
end Go.Proofs.YtdiifegljonojaaGreatDoor
