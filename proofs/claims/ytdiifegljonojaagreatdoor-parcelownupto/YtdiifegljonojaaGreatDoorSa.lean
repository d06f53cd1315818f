/-
  SEAT YtdiifegljonojaaGreatDoor: Read, whatever the row.
-/
import Derived.Test.YtdiifegljonojaaGreatDoorRp
namespace Go.Proofs.YtdiifegljonojaaGreatDoor
open Go.RowKit
set_option linter.unusedVariables false

/-- An error of a row. -/
def Er (x : Int) : Prop := x = 190 ∨ x = 191 ∨ x = 192
theorem er0 : Er 190 := Or.inl rfl
theorem er1 : Er 191 := Or.inr (Or.inl rfl)
theorem er2 : Er 192 := Or.inr (Or.inr rfl)
section
variable {n k : Nat} {lo hi x : Int} {bs r : List Int} {xs : List ByteArray}
theorem wholeR_er (h : wholeR n lo hi bs = .error x) : Er x := by
  unfold wholeR at h
  split at h
  · split at h
    · cases h
    · cases h; exact er1
  · cases h; exact er0
theorem takeR_er (h : takeR n bs = .error x) : Er x := by
  unfold takeR at h
  split at h
  · cases h
  · cases h; exact er0
theorem numR_er (h : numR n bs = .error x) : Er x := by
  unfold numR at h
  split at h
  · cases h
  · cases h; exact er0
theorem modeR_er (h : modeR bs = .error x) : Er x := by
  unfold modeR at h
  split at h
  · rename_i h1; cases h; exact wholeR_er h1
  · split at h
    · rename_i h1; cases h; exact numR_er h1
    · cases h
theorem namesR_er (h : namesR xs k bs = .error x) : Er x := by
  unfold namesR at h
  split at h
  · rename_i h1; cases h; exact wholeR_er h1
  · split at h
    · rename_i h1; cases h; exact takeR_er h1
    · split at h
      · cases h
      · cases h; exact er1
theorem dataL_er : ∀ (f size pos : Nat) (last : Int) (acc : List Sg) (bs : List Int), dataL size f pos last acc bs = .error x → Er x
  | 0, size, pos, last, acc, bs, h => by cases h
  | f + 1, size, pos, last, acc, bs, h => by
    rw [dataL] at h
    split at h
    · split at h
      · rename_i h1; cases h; exact wholeR_er h1
      · split at h
        · cases h; exact er1
        · split at h
          · rename_i h1; cases h; exact wholeR_er h1
          · split at h
            · split at h
              · rename_i h1; cases h; exact takeR_er h1
              · split at h
                · exact dataL_er f _ _ _ _ _ h
                · cases h; exact er1
            · exact dataL_er f _ _ _ _ _ h
    · cases h
theorem dataR_er (h : dataR bs = .error x) : Er x := by
  unfold dataR at h
  split at h
  · rename_i h1; cases h; exact wholeR_er h1
  · split at h
    · rename_i h1; cases h; exact dataL_er _ _ _ _ _ _ h1
    · cases h
theorem targetR_er (h : targetR bs = .error x) : Er x := by
  unfold targetR at h
  split at h
  · rename_i h1; cases h; exact wholeR_er h1
  · split at h
    · rename_i h1; cases h; exact takeR_er h1
    · split at h
      · cases h; exact er1
      · cases h
theorem pieceR_er (h : pieceR xs k bs = .error x) : Er x := by
  unfold pieceR at h
  split at h
  · rename_i h1; cases h; exact wholeR_er h1
  · split at h
    · rename_i h1; cases h; exact modeR_er h1
    · split at h
      · rename_i h1; cases h; exact namesR_er h1
      · split at h
        · split at h
          · rename_i h1; cases h; exact dataR_er h1
          · cases h
        · split at h
          · split at h
            · rename_i h1; cases h; exact targetR_er h1
            · cases h
          · cases h
theorem piecesL_er : ∀ (f : Nat) (a : Pc) (acc : List Pc) (bs : List Int), piecesL f a acc bs = .error x → Er x
  | 0, a, acc, bs, h => by cases h; exact er0
  | f + 1, a, acc, bs, h => by
    rw [piecesL] at h
    split at h
    · rename_i h1; cases h; exact numR_er h1
    · split at h
      · cases h
      · split at h
        · split at h
          · rename_i h1; cases h; exact pieceR_er h1
          · exact piecesL_er f _ _ _ h
        · cases h; exact er1
theorem piecesR_er (h : piecesR bs = .error x) : Er x := by
  unfold piecesR at h
  split at h
  · split at h
    · rename_i h1; cases h; exact modeR_er h1
    · exact piecesL_er _ _ _ _ h
  · cases h; exact er0
theorem endR_er (h : endR bs r = .error x) : Er x := by
  unfold endR at h
  split at h
  · rename_i h1; cases h; exact numR_er h1
  · split at h
    · split at h
      · cases h
      · cases h; exact er0
    · cases h; exact er2
theorem Er.ne (h : Er x) : x ≠ 0 := by rcases h with rfl | rfl | rfl <;> decide
end

theorem read_any (b off n c : Nat) (bs : List Int) (w : World) (hrow : Reads w (some ⟨b, off, none⟩) n bs) (hbw : b < w.heap.size) (hn : n ≤ 4194304) (hnc : n ≤ c) (hc : c ≤ 9223372036854775807) (ht : Tab w) :
    Calls Tryz.prog 10 #[.slice (some ⟨b, off, none⟩) n c] w fun e w' => RdV w (openR bs) e w' ∧ Below w.heap.size w w' := by
  rw [openR_eq]
  cases hp : piecesR bs with
  | error x => exact read_err b off n c bs x w hrow hbw hn hnc hc ht (piecesR_er hp).ne (opened_err b off n c bs x w hrow hbw hn hnc hc ht hp)
  | ok pr =>
    obtain ⟨l, r⟩ := pr
    simp only
    cases he : endR bs r with
    | error x => exact read_err b off n c bs x w hrow hbw hn hnc hc ht (endR_er he).ne (opened_bad b off n c bs r l x w hrow hbw hn hnc hc ht hp he)
    | ok y => exact read_ok b off n c bs l w (piecesR_fit hp) (opened_ok b off n c bs r l y w hrow hbw hn hnc hc ht hp he)
end Go.Proofs.YtdiifegljonojaaGreatDoor
