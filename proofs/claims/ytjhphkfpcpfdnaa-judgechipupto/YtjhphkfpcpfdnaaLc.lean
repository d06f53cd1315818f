/-
  SEAT Ytjhphkfpcpfdnaa: New, whole; a new chip is sound.
-/
import Derived.Test.YtjhphkfpcpfdnaaLb
namespace Go.Proofs.Ytjhphkfpcpfdnaa
open Go.RowKit Go.Conc
set_option linter.unusedVariables false

structure NewV (w w' : World) (B P S : Int) (bad : List Int) (fs : List Fc) (e : Ending) : Prop where
  no : NewE B P S bad fs ≠ 0 → e = .returned (.tuple #[.pointer none, .int .i64 (NewE B P S bad fs)])
  yes : NewE B P S bad fs = 0 → ∃ p, e = .returned (.tuple #[.pointer (some ⟨p, 0, none⟩), .int .i64 0]) ∧ ChipAt w' p (fun k => w.heap.size ≤ k ∧ k < w'.heap.size) (newC B.toNat P.toNat S.toNat bad (fs.map Fc.t))
  bel : Below w.heap.size w w'

theorem New_any (w : World) (B P S : Int) (ba : Option Addr) (bn bc : Nat) (bad : List Int) (hR : ReadsI w ba bn bad) (hbn : bn ≤ 9223372036854775807) (sa : Option Addr) (n c : Nat) (fs : List Fc) (hF : ReadsF w sa n fs) (hn : n ≤ 9223372036854775807) :
    Calls Try.prog 4 #[.agg #[.int .i64 B, .int .i64 P, .int .i64 S], .slice ba bn bc, .slice sa n c] w fun e w' => NewV w w' B P S bad fs e := by
  cases hf : Fits B P S with
  | false =>
    have e1 : NewE B P S bad fs = 40 := by simp [NewE, hf]
    refine (new_fit w B P S hf ba bn bc sa n c).mono ?_
    rintro e w' ⟨rfl, hb⟩
    exact ⟨fun _ => by rw [e1], fun h => by (rw [e1] at h; cases h), hb⟩
  | true =>
    cases hb : bad.any (outB B) with
    | true =>
      have e1 : NewE B P S bad fs = 41 := by simp [NewE, hf, hb]
      refine (new_bad w B P S hf ba bn bc bad hR hbn hb sa n c).mono ?_
      rintro e w' ⟨rfl, hb'⟩
      exact ⟨fun _ => by rw [e1], fun h => by (rw [e1] at h; cases h), hb'⟩
    | false =>
      cases hs : faultsB fs with
      | false =>
        have e1 : NewE B P S bad fs = 48 := by simp [NewE, hf, hb, hs]
        refine (new_flt w B P S hf ba bn bc bad hR hbn hb sa n c fs hF hn hs).mono ?_
        rintro e w' ⟨rfl, hb'⟩
        exact ⟨fun _ => by rw [e1], fun h => by (rw [e1] at h; cases h), hb'⟩
      | true =>
        have e1 : NewE B P S bad fs = 0 := by simp [NewE, hf, hb, hs]
        have h0 := of_decide_eq_true hf
        obtain ⟨B', rfl⟩ : ∃ b : Nat, B = b := ⟨B.toNat, by omega⟩
        obtain ⟨P', rfl⟩ : ∃ b : Nat, P = b := ⟨P.toNat, by omega⟩
        obtain ⟨S', rfl⟩ : ∃ b : Nat, S = b := ⟨S.toNat, by omega⟩
        refine (new_ok w B' P' S' hf ba bn bc bad hR hbn hb sa n c fs hF hn hs).mono ?_
        rintro e w' ⟨p, rfl, hc, hb'⟩
        exact ⟨fun h => absurd e1 h, fun _ => ⟨p, rfl, hc⟩, hb'⟩

theorem marks_mem {P : Nat} : ∀ (bad : List Int) (l : List Bl), (∀ b ∈ l, b.ps.length = P) → ∀ b ∈ marks l bad, b.ps.length = P
  | [], l, h => h
  | z :: r, l, h => by
    refine marks_mem r (markAt l z.toNat) ?_
    unfold markAt
    split
    · rename_i b hb
      intro c hc
      rcases List.mem_or_eq_of_mem_set hc with h1 | h1
      · exact h c h1
      · rw [h1]; exact h b (List.mem_of_getElem? hb)
    · exact h
theorem newC_ok (B P S : Nat) (bad : List Int) (q : List Ft) (hf : Fits B P S = true) : (newC B P S bad q).Ok := by
  refine ⟨hf, ?_, ?_, Nat.le_refl _, fun _ _ z hz => by cases hz⟩
  · show (marks _ _).length = B
    rw [marks_len]
    simp
  · refine marks_mem bad _ (fun b hb => ?_)
    simp only [List.map_replicate] at hb
    rw [(List.mem_replicate.1 hb).2]
    simp [rdB, bl0, newC, emptyC]
end Go.Proofs.Ytjhphkfpcpfdnaa
