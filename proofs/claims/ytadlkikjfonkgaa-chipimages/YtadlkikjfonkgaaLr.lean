/-
  SEAT Ytadlkikjfonkgaa: Load, whole; small functions of the laws.
-/
import Derived.Test.YtadlkikjfonkgaaLq
namespace Go.Proofs.Ytadlkikjfonkgaa
open Go.RowKit Go.Conc
set_option linter.unusedVariables false

def LoadE (B P S : Int) (cn mn : Nat) (fs : List Fc) : Int :=
  if Fits B P S = false then 47 else if cn ≠ B.toNat * P.toNat * pgB S.toNat then 47 else if mn ≠ B.toNat then 47 else if faultsB fs = false then 48 else 0
structure LoadV (w w' : World) (B P S : Int) (cn mn : Nat) (zs : List Int) (ms : List Bool) (fs : List Fc) (e : Ending) : Prop where
  no : LoadE B P S cn mn fs ≠ 0 → e = .returned (.tuple #[.pointer none, .int .i64 (LoadE B P S cn mn fs)])
  yes : LoadE B P S cn mn fs = 0 → ∃ p, e = .returned (.tuple #[.pointer (some ⟨p, 0, none⟩), .int .i64 0]) ∧ ChipAt w' p (fun k => w.heap.size < k ∧ k < w'.heap.size) (loadC B.toNat P.toNat S.toNat zs ms (fs.map Fc.t))
  bel : Below w.heap.size w w'

theorem Load_any (w : World) (B P S : Int) (ca : Option Addr) (cn cc : Nat) (hcc : cn ≤ cc) (zs : List Int) (hZ : Reads w ca cn zs) (ma : Option Addr) (mn mc : Nat) (ms : List Bool) (hM : ReadsB w ma mn ms) (sa : Option Addr) (n c : Nat) (fs : List Fc) (hF : ReadsF w sa n fs) (hn : n ≤ 9223372036854775807) :
    Calls Try.prog 10 #[.agg #[.int .i64 B, .int .i64 P, .int .i64 S, .slice ca cn cc, .slice ma mn mc], .slice sa n c] w fun e w' => LoadV w w' B P S cn mn zs ms fs e := by
  cases hf : Fits B P S with
  | false =>
    have e1 : LoadE B P S cn mn fs = 47 := by simp [LoadE, hf]
    refine (load_fit w B P S hf ca cn cc ma mn mc sa n c).mono ?_
    rintro e w' ⟨rfl, hb⟩
    exact ⟨fun _ => by rw [e1], fun h => by (rw [e1] at h; cases h), hb⟩
  | true =>
    have h0 := of_decide_eq_true hf
    obtain ⟨B', rfl⟩ : ∃ b : Nat, B = b := ⟨B.toNat, by omega⟩
    obtain ⟨P', rfl⟩ : ∃ b : Nat, P = b := ⟨P.toNat, by omega⟩
    obtain ⟨S', rfl⟩ : ∃ b : Nat, S = b := ⟨S.toNat, by omega⟩
    by_cases h1 : cn = B' * P' * pgB S'
    · by_cases h2 : mn = B'
      · cases hs : faultsB fs with
        | false =>
          have e1 : LoadE B' P' S' cn mn fs = 48 := by simp only [LoadE, hf, hs, Int.toNat_natCast, h1, h2]; simp
          refine (load_flt w B' P' S' hf ca cn cc ma mn mc sa n c h1 h2 fs hF hn hs).mono ?_
          rintro e w' ⟨rfl, hb'⟩
          exact ⟨fun _ => by rw [e1], fun h => by (rw [e1] at h; cases h), hb'⟩
        | true =>
          have e1 : LoadE B' P' S' cn mn fs = 0 := by simp only [LoadE, hf, hs, Int.toNat_natCast, h1, h2]; simp
          refine (load_ok w B' P' S' hf ca cn cc ma mn mc sa n c h1 hcc h2 zs hZ ms hM fs hF hn hs).mono ?_
          rintro e w' ⟨p, rfl, hc, hb'⟩
          exact ⟨fun h => absurd e1 h, fun _ => ⟨p, rfl, hc⟩, hb'⟩
      · have e1 : LoadE B' P' S' cn mn fs = 47 := by simp only [LoadE, hf, Int.toNat_natCast, h1]; simp [h2]
        refine (load_marks w B' P' S' hf ca cn cc ma mn mc sa n c h1 h2).mono ?_
        rintro e w' ⟨rfl, hb'⟩
        exact ⟨fun _ => by rw [e1], fun h => by (rw [e1] at h; cases h), hb'⟩
    · have e1 : LoadE B' P' S' cn mn fs = 47 := by simp only [LoadE, hf, Int.toNat_natCast]; simp [h1]
      refine (load_cells w B' P' S' hf ca cn cc ma mn mc sa n c h1).mono ?_
      rintro e w' ⟨rfl, hb'⟩
      exact ⟨fun _ => by rw [e1], fun h => by (rw [e1] at h; cases h), hb'⟩
theorem loadC_ok (B P S : Nat) (zs : List Int) (ms : List Bool) (q : List Ft) (hf : Fits B P S = true) : (loadC B P S zs ms q).Ok := by
  refine ⟨hf, ?_, ?_, Nat.le_refl _, fun _ _ z hz => by cases hz⟩
  · simp [loadC, ldL, emptyC]
  · intro b hb
    simp only [loadC, ldL, List.mem_map] at hb
    obtain ⟨i, _, rfl⟩ := hb
    simp [ldB, loadC, emptyC]

end Go.Proofs.Ytadlkikjfonkgaa
