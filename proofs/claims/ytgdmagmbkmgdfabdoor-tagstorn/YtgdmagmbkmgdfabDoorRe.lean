/-
  SEAT YtgdmagmbkmgdfabDoor: tags.Read.
-/
import Derived.Test.YtgdmagmbkmgdfabDoorCa
import Derived.Test.YtgdmagmbkmgdfabDoorRt
namespace Go.Proofs.YtgdmagmbkmgdfabDoor
open Go.RowKit
set_option linter.unusedVariables false

theorem nums_made (w : World) (zs : List Int) : Nums (w.alloc (.cells #[.int .u64 0, .int .u64 0, .int .u64 0, .int .u64 0, .int .u64 0, .int .u64 0, .int .u64 0, .int .u64 0] 46)) w.heap.size w.heap.size (nums zs 0) :=
  World.ownsRow_lit (base := w.heap.size) (e := 46) (size := 1) w #[.int .u64 0, .int .u64 0, .int .u64 0, .int .u64 0, .int .u64 0, .int .u64 0, .int .u64 0, .int .u64 0] 8 (Nat.le_refl _) (by simp [maxLen]) rfl

theorem getL_wrap {zs : List Int} (h : ∀ x ∈ zs, 0 ≤ x ∧ x ≤ 255) (t m : Nat) (hm : m ≤ 4) : wrap64 (getL zs t m) = getL zs t m ∧ IntKind.i64.wrap (getL zs t m) = getL zs t m := by
  have h1 := getL_range h t m
  have h2 : (256 : Int) ^ m ≤ 256 ^ 4 := pow256_le hm
  have h3 : (256 : Int) ^ 4 = 4294967296 := by decide
  rw [IntKind.wrap_i64]
  unfold wrap64
  constructor <;> omega

theorem t8_cells {w : World} {T : Nat} {c0 c1 c2 c3 c4 c5 c6 c7 : Value} (h : w.heap[T]? = some (.cells #[c0, c1, c2, c3, c4, c5, c6, c7] 24 (0, 0))) :
    (w.cell? ⟨T, 0, none⟩ = some c0 ∧ w.cell? ⟨T, 1, none⟩ = some c1 ∧ w.cell? ⟨T, 2, none⟩ = some c2 ∧ w.cell? ⟨T, 3, none⟩ = some c3 ∧ w.cell? ⟨T, 4, none⟩ = some c4 ∧ w.cell? ⟨T, 5, none⟩ = some c5 ∧ w.cell? ⟨T, 6, none⟩ = some c6 ∧ w.cell? ⟨T, 7, none⟩ = some c7) ∧
    ∀ i, w.frozen? ⟨T, i, none⟩ = false := by
  refine ⟨by simp [World.cell?, h], fun i => ?_⟩
  simp [World.frozen?, h]

theorem carry_read (a : Option Addr) (cap : Nat) (zs : List Int) (w : World) (hT : Tab w) (h : Reads w a 26 zs) :
    Calls Tryd.prog 18 #[.int .i64 1, .slice a 26 cap, .pointer (some ⟨w.heap.size + 1, 0, none⟩)] ((w.alloc (.cells #[.int .i64 0, .int .i64 0, .int .u64 0, .int .u64 0, .int .i64 0, .int .i64 0, .int .i64 0, .int .i64 0] 24)).alloc (.cells #[.int .u64 0, .int .u64 0, .int .u64 0, .int .u64 0, .int .u64 0, .int .u64 0, .int .u64 0, .int .u64 0] 46)) fun e w2 => e = .returned (.bool true) ∧
      (w2.cell? ⟨w.heap.size, 0, none⟩ = some (.int .i64 0) ∧ w2.cell? ⟨w.heap.size, 1, none⟩ = some (.int .i64 0) ∧ w2.cell? ⟨w.heap.size, 2, none⟩ = some (.int .u64 0) ∧ w2.cell? ⟨w.heap.size, 3, none⟩ = some (.int .u64 0) ∧ w2.cell? ⟨w.heap.size, 4, none⟩ = some (.int .i64 0) ∧ w2.cell? ⟨w.heap.size, 5, none⟩ = some (.int .i64 0) ∧ w2.cell? ⟨w.heap.size, 6, none⟩ = some (.int .i64 0) ∧ w2.cell? ⟨w.heap.size, 7, none⟩ = some (.int .i64 0)) ∧ (w2.cell? ⟨w.heap.size + 1, 0, none⟩ = some (.int .u64 (getL zs 0 1)) ∧ w2.cell? ⟨w.heap.size + 1, 1, none⟩ = some (.int .u64 (getL zs 1 1)) ∧ w2.cell? ⟨w.heap.size + 1, 2, none⟩ = some (.int .u64 (getL zs 2 6)) ∧ w2.cell? ⟨w.heap.size + 1, 3, none⟩ = some (.int .u64 (getL zs 8 6)) ∧ w2.cell? ⟨w.heap.size + 1, 4, none⟩ = some (.int .u64 (getL zs 14 4)) ∧ w2.cell? ⟨w.heap.size + 1, 5, none⟩ = some (.int .u64 (getL zs 18 4)) ∧ w2.cell? ⟨w.heap.size + 1, 6, none⟩ = some (.int .u64 (getL zs 22 2)) ∧ w2.cell? ⟨w.heap.size + 1, 7, none⟩ = some (.int .u64 (getL zs 24 2))) ∧ (∀ i, w2.frozen? ⟨w.heap.size, i, none⟩ = false) ∧ Below w.heap.size w w2 ∧ w2.heap[w.heap.size]? = some (.cells #[.int .i64 0, .int .i64 0, .int .u64 0, .int .u64 0, .int .i64 0, .int .i64 0, .int .i64 0, .int .i64 0] 24 (0, 0)) := by
  have hb0 : ∀ b off, a = some ⟨b, off, none⟩ → b < w.heap.size := by
    obtain ⟨b, off, rfl, hb, _⟩ := h.pos (by omega)
    intro b' off' e; cases e; exact hb
  obtain ⟨u0, hu0⟩ : ∃ u0, u0 = w.alloc (.cells #[.int .i64 0, .int .i64 0, .int .u64 0, .int .u64 0, .int .i64 0, .int .i64 0, .int .i64 0, .int .i64 0] 24) := ⟨_, rfl⟩
  have hs0 : u0.heap.size = w.heap.size + 1 := by rw [hu0]; simp
  have bl0 : Below w.heap.size w u0 := by rw [hu0]; exact (Below.refl _ _).alloc (Nat.le_refl _) _
  obtain ⟨u1, hu1⟩ : ∃ u1, u1 = u0.alloc (.cells #[.int .u64 0, .int .u64 0, .int .u64 0, .int .u64 0, .int .u64 0, .int .u64 0, .int .u64 0, .int .u64 0] 46) := ⟨_, rfl⟩
  have hN0 : Nums u1 u0.heap.size u0.heap.size (nums zs 0) := by rw [hu1]; exact nums_made u0 zs
  have hs1 : u1.heap.size = w.heap.size + 2 := by rw [hu1]; simp; omega
  have bl1 : Below w.heap.size w u1 := by rw [hu1]; exact bl0.alloc bl0.size _
  have bl01 : Below u0.heap.size u0 u1 := by rw [hu1]; exact (Below.refl _ _).alloc (Nat.le_refl _) _
  have htb : u0.heap[w.heap.size]? = some (.cells #[.int .i64 0, .int .i64 0, .int .u64 0, .int .u64 0, .int .i64 0, .int .i64 0, .int .i64 0, .int .i64 0] 24 (0, 0)) := by rw [hu0]; exact heap_alloc_new w _
  have hc := carry_out a cap u0.heap.size u0.heap.size zs u1 (hT.below bl1) (h.below bl1) (by omega) hN0 (fun b off e => by have := hb0 b off e; omega) (by omega)
  rw [← hu0, ← hu1]
  rw [hs0] at hc
  refine hc.mono fun e w2 ⟨he, hN, hG⟩ => ⟨he, ?_⟩
  have hblk : w2.heap[w.heap.size]? = some (.cells #[.int .i64 0, .int .i64 0, .int .u64 0, .int .u64 0, .int .i64 0, .int .i64 0, .int .i64 0, .int .i64 0] 24 (0, 0)) := by
    rw [hG.block _ (by omega) (by simp), bl01.block _ (by omega)]
    exact htb
  obtain ⟨hx, fz⟩ := t8_cells hblk
  exact ⟨hx, ⟨hN.cell 0 (by omega), hN.cell 1 (by omega), hN.cell 2 (by omega), hN.cell 3 (by omega), hN.cell 4 (by omega), hN.cell 5 (by omega), hN.cell 6 (by omega), hN.cell 7 (by omega)⟩, fz, bl1.grown hG bl1.size (fun k hk => by cases hk; omega), hblk⟩

theorem drew_heap (w : World) : w.drew.heap = w.heap := rfl

theorem fill8 {w2 : World} {T : Nat} (n0 n1 n2 n3 n4 n5 n6 n7 : Int) (h : w2.heap[T]? = some (.cells #[.int .i64 0, .int .i64 0, .int .u64 0, .int .u64 0, .int .i64 0, .int .i64 0, .int .i64 0, .int .i64 0] 24 (0, 0))) :
    ((((((((((((((((w2.setCell ⟨T, 0, none⟩ (.int .i64 n0)).setCell ⟨T, 1, none⟩ (.int .i64 n1)).setCell ⟨T, 2, none⟩ (.int .u64 n2)).setCell ⟨T, 3, none⟩ (.int .u64 n3)).setCell ⟨T, 4, none⟩ (.int .i64 n4)).setCell ⟨T, 5, none⟩ (.int .i64 n5)).setCell ⟨T, 6, none⟩ (.int .i64 n6)).setCell ⟨T, 7, none⟩ (.int .i64 n7)).setCell ⟨T, 0, none⟩ (.int .i64 n0)).setCell ⟨T, 1, none⟩ (.int .i64 n1)).setCell ⟨T, 2, none⟩ (.int .u64 n2)).setCell ⟨T, 3, none⟩ (.int .u64 n3)).setCell ⟨T, 4, none⟩ (.int .i64 n4)).setCell ⟨T, 5, none⟩ (.int .i64 n5)).setCell ⟨T, 6, none⟩ (.int .i64 n6)).setCell ⟨T, 7, none⟩ (.int .i64 n7)).drew.drew.drew.drew.heap[T]? = some (.cells #[.int .i64 n0, .int .i64 n1, .int .u64 n2, .int .u64 n3, .int .i64 n4, .int .i64 n5, .int .i64 n6, .int .i64 n7] 24 (0, 0)) := by
  have g0 := heap_setCell_same _ T 0 _ 24 (.int .i64 n0) h
  replace g0 : (w2.setCell ⟨T, 0, none⟩ (.int .i64 n0)).heap[T]? = some (.cells #[.int .i64 n0, .int .i64 0, .int .u64 0, .int .u64 0, .int .i64 0, .int .i64 0, .int .i64 0, .int .i64 0] 24 (0, 0)) := g0
  have g1 := heap_setCell_same _ T 1 _ 24 (.int .i64 n1) g0
  replace g1 : ((w2.setCell ⟨T, 0, none⟩ (.int .i64 n0)).setCell ⟨T, 1, none⟩ (.int .i64 n1)).heap[T]? = some (.cells #[.int .i64 n0, .int .i64 n1, .int .u64 0, .int .u64 0, .int .i64 0, .int .i64 0, .int .i64 0, .int .i64 0] 24 (0, 0)) := g1
  have g2 := heap_setCell_same _ T 2 _ 24 (.int .u64 n2) g1
  replace g2 : (((w2.setCell ⟨T, 0, none⟩ (.int .i64 n0)).setCell ⟨T, 1, none⟩ (.int .i64 n1)).setCell ⟨T, 2, none⟩ (.int .u64 n2)).heap[T]? = some (.cells #[.int .i64 n0, .int .i64 n1, .int .u64 n2, .int .u64 0, .int .i64 0, .int .i64 0, .int .i64 0, .int .i64 0] 24 (0, 0)) := g2
  have g3 := heap_setCell_same _ T 3 _ 24 (.int .u64 n3) g2
  replace g3 : ((((w2.setCell ⟨T, 0, none⟩ (.int .i64 n0)).setCell ⟨T, 1, none⟩ (.int .i64 n1)).setCell ⟨T, 2, none⟩ (.int .u64 n2)).setCell ⟨T, 3, none⟩ (.int .u64 n3)).heap[T]? = some (.cells #[.int .i64 n0, .int .i64 n1, .int .u64 n2, .int .u64 n3, .int .i64 0, .int .i64 0, .int .i64 0, .int .i64 0] 24 (0, 0)) := g3
  have g4 := heap_setCell_same _ T 4 _ 24 (.int .i64 n4) g3
  replace g4 : (((((w2.setCell ⟨T, 0, none⟩ (.int .i64 n0)).setCell ⟨T, 1, none⟩ (.int .i64 n1)).setCell ⟨T, 2, none⟩ (.int .u64 n2)).setCell ⟨T, 3, none⟩ (.int .u64 n3)).setCell ⟨T, 4, none⟩ (.int .i64 n4)).heap[T]? = some (.cells #[.int .i64 n0, .int .i64 n1, .int .u64 n2, .int .u64 n3, .int .i64 n4, .int .i64 0, .int .i64 0, .int .i64 0] 24 (0, 0)) := g4
  have g5 := heap_setCell_same _ T 5 _ 24 (.int .i64 n5) g4
  replace g5 : ((((((w2.setCell ⟨T, 0, none⟩ (.int .i64 n0)).setCell ⟨T, 1, none⟩ (.int .i64 n1)).setCell ⟨T, 2, none⟩ (.int .u64 n2)).setCell ⟨T, 3, none⟩ (.int .u64 n3)).setCell ⟨T, 4, none⟩ (.int .i64 n4)).setCell ⟨T, 5, none⟩ (.int .i64 n5)).heap[T]? = some (.cells #[.int .i64 n0, .int .i64 n1, .int .u64 n2, .int .u64 n3, .int .i64 n4, .int .i64 n5, .int .i64 0, .int .i64 0] 24 (0, 0)) := g5
  have g6 := heap_setCell_same _ T 6 _ 24 (.int .i64 n6) g5
  replace g6 : (((((((w2.setCell ⟨T, 0, none⟩ (.int .i64 n0)).setCell ⟨T, 1, none⟩ (.int .i64 n1)).setCell ⟨T, 2, none⟩ (.int .u64 n2)).setCell ⟨T, 3, none⟩ (.int .u64 n3)).setCell ⟨T, 4, none⟩ (.int .i64 n4)).setCell ⟨T, 5, none⟩ (.int .i64 n5)).setCell ⟨T, 6, none⟩ (.int .i64 n6)).heap[T]? = some (.cells #[.int .i64 n0, .int .i64 n1, .int .u64 n2, .int .u64 n3, .int .i64 n4, .int .i64 n5, .int .i64 n6, .int .i64 0] 24 (0, 0)) := g6
  have g7 := heap_setCell_same _ T 7 _ 24 (.int .i64 n7) g6
  replace g7 : ((((((((w2.setCell ⟨T, 0, none⟩ (.int .i64 n0)).setCell ⟨T, 1, none⟩ (.int .i64 n1)).setCell ⟨T, 2, none⟩ (.int .u64 n2)).setCell ⟨T, 3, none⟩ (.int .u64 n3)).setCell ⟨T, 4, none⟩ (.int .i64 n4)).setCell ⟨T, 5, none⟩ (.int .i64 n5)).setCell ⟨T, 6, none⟩ (.int .i64 n6)).setCell ⟨T, 7, none⟩ (.int .i64 n7)).heap[T]? = some (.cells #[.int .i64 n0, .int .i64 n1, .int .u64 n2, .int .u64 n3, .int .i64 n4, .int .i64 n5, .int .i64 n6, .int .i64 n7] 24 (0, 0)) := g7
  have g8 := heap_setCell_same _ T 0 _ 24 (.int .i64 n0) g7
  replace g8 : (((((((((w2.setCell ⟨T, 0, none⟩ (.int .i64 n0)).setCell ⟨T, 1, none⟩ (.int .i64 n1)).setCell ⟨T, 2, none⟩ (.int .u64 n2)).setCell ⟨T, 3, none⟩ (.int .u64 n3)).setCell ⟨T, 4, none⟩ (.int .i64 n4)).setCell ⟨T, 5, none⟩ (.int .i64 n5)).setCell ⟨T, 6, none⟩ (.int .i64 n6)).setCell ⟨T, 7, none⟩ (.int .i64 n7)).setCell ⟨T, 0, none⟩ (.int .i64 n0)).heap[T]? = some (.cells #[.int .i64 n0, .int .i64 n1, .int .u64 n2, .int .u64 n3, .int .i64 n4, .int .i64 n5, .int .i64 n6, .int .i64 n7] 24 (0, 0)) := g8
  have g9 := heap_setCell_same _ T 1 _ 24 (.int .i64 n1) g8
  replace g9 : ((((((((((w2.setCell ⟨T, 0, none⟩ (.int .i64 n0)).setCell ⟨T, 1, none⟩ (.int .i64 n1)).setCell ⟨T, 2, none⟩ (.int .u64 n2)).setCell ⟨T, 3, none⟩ (.int .u64 n3)).setCell ⟨T, 4, none⟩ (.int .i64 n4)).setCell ⟨T, 5, none⟩ (.int .i64 n5)).setCell ⟨T, 6, none⟩ (.int .i64 n6)).setCell ⟨T, 7, none⟩ (.int .i64 n7)).setCell ⟨T, 0, none⟩ (.int .i64 n0)).setCell ⟨T, 1, none⟩ (.int .i64 n1)).heap[T]? = some (.cells #[.int .i64 n0, .int .i64 n1, .int .u64 n2, .int .u64 n3, .int .i64 n4, .int .i64 n5, .int .i64 n6, .int .i64 n7] 24 (0, 0)) := g9
  have g10 := heap_setCell_same _ T 2 _ 24 (.int .u64 n2) g9
  replace g10 : (((((((((((w2.setCell ⟨T, 0, none⟩ (.int .i64 n0)).setCell ⟨T, 1, none⟩ (.int .i64 n1)).setCell ⟨T, 2, none⟩ (.int .u64 n2)).setCell ⟨T, 3, none⟩ (.int .u64 n3)).setCell ⟨T, 4, none⟩ (.int .i64 n4)).setCell ⟨T, 5, none⟩ (.int .i64 n5)).setCell ⟨T, 6, none⟩ (.int .i64 n6)).setCell ⟨T, 7, none⟩ (.int .i64 n7)).setCell ⟨T, 0, none⟩ (.int .i64 n0)).setCell ⟨T, 1, none⟩ (.int .i64 n1)).setCell ⟨T, 2, none⟩ (.int .u64 n2)).heap[T]? = some (.cells #[.int .i64 n0, .int .i64 n1, .int .u64 n2, .int .u64 n3, .int .i64 n4, .int .i64 n5, .int .i64 n6, .int .i64 n7] 24 (0, 0)) := g10
  have g11 := heap_setCell_same _ T 3 _ 24 (.int .u64 n3) g10
  replace g11 : ((((((((((((w2.setCell ⟨T, 0, none⟩ (.int .i64 n0)).setCell ⟨T, 1, none⟩ (.int .i64 n1)).setCell ⟨T, 2, none⟩ (.int .u64 n2)).setCell ⟨T, 3, none⟩ (.int .u64 n3)).setCell ⟨T, 4, none⟩ (.int .i64 n4)).setCell ⟨T, 5, none⟩ (.int .i64 n5)).setCell ⟨T, 6, none⟩ (.int .i64 n6)).setCell ⟨T, 7, none⟩ (.int .i64 n7)).setCell ⟨T, 0, none⟩ (.int .i64 n0)).setCell ⟨T, 1, none⟩ (.int .i64 n1)).setCell ⟨T, 2, none⟩ (.int .u64 n2)).setCell ⟨T, 3, none⟩ (.int .u64 n3)).heap[T]? = some (.cells #[.int .i64 n0, .int .i64 n1, .int .u64 n2, .int .u64 n3, .int .i64 n4, .int .i64 n5, .int .i64 n6, .int .i64 n7] 24 (0, 0)) := g11
  have g12 := heap_setCell_same _ T 4 _ 24 (.int .i64 n4) g11
  replace g12 : (((((((((((((w2.setCell ⟨T, 0, none⟩ (.int .i64 n0)).setCell ⟨T, 1, none⟩ (.int .i64 n1)).setCell ⟨T, 2, none⟩ (.int .u64 n2)).setCell ⟨T, 3, none⟩ (.int .u64 n3)).setCell ⟨T, 4, none⟩ (.int .i64 n4)).setCell ⟨T, 5, none⟩ (.int .i64 n5)).setCell ⟨T, 6, none⟩ (.int .i64 n6)).setCell ⟨T, 7, none⟩ (.int .i64 n7)).setCell ⟨T, 0, none⟩ (.int .i64 n0)).setCell ⟨T, 1, none⟩ (.int .i64 n1)).setCell ⟨T, 2, none⟩ (.int .u64 n2)).setCell ⟨T, 3, none⟩ (.int .u64 n3)).setCell ⟨T, 4, none⟩ (.int .i64 n4)).heap[T]? = some (.cells #[.int .i64 n0, .int .i64 n1, .int .u64 n2, .int .u64 n3, .int .i64 n4, .int .i64 n5, .int .i64 n6, .int .i64 n7] 24 (0, 0)) := g12
  have g13 := heap_setCell_same _ T 5 _ 24 (.int .i64 n5) g12
  replace g13 : ((((((((((((((w2.setCell ⟨T, 0, none⟩ (.int .i64 n0)).setCell ⟨T, 1, none⟩ (.int .i64 n1)).setCell ⟨T, 2, none⟩ (.int .u64 n2)).setCell ⟨T, 3, none⟩ (.int .u64 n3)).setCell ⟨T, 4, none⟩ (.int .i64 n4)).setCell ⟨T, 5, none⟩ (.int .i64 n5)).setCell ⟨T, 6, none⟩ (.int .i64 n6)).setCell ⟨T, 7, none⟩ (.int .i64 n7)).setCell ⟨T, 0, none⟩ (.int .i64 n0)).setCell ⟨T, 1, none⟩ (.int .i64 n1)).setCell ⟨T, 2, none⟩ (.int .u64 n2)).setCell ⟨T, 3, none⟩ (.int .u64 n3)).setCell ⟨T, 4, none⟩ (.int .i64 n4)).setCell ⟨T, 5, none⟩ (.int .i64 n5)).heap[T]? = some (.cells #[.int .i64 n0, .int .i64 n1, .int .u64 n2, .int .u64 n3, .int .i64 n4, .int .i64 n5, .int .i64 n6, .int .i64 n7] 24 (0, 0)) := g13
  have g14 := heap_setCell_same _ T 6 _ 24 (.int .i64 n6) g13
  replace g14 : (((((((((((((((w2.setCell ⟨T, 0, none⟩ (.int .i64 n0)).setCell ⟨T, 1, none⟩ (.int .i64 n1)).setCell ⟨T, 2, none⟩ (.int .u64 n2)).setCell ⟨T, 3, none⟩ (.int .u64 n3)).setCell ⟨T, 4, none⟩ (.int .i64 n4)).setCell ⟨T, 5, none⟩ (.int .i64 n5)).setCell ⟨T, 6, none⟩ (.int .i64 n6)).setCell ⟨T, 7, none⟩ (.int .i64 n7)).setCell ⟨T, 0, none⟩ (.int .i64 n0)).setCell ⟨T, 1, none⟩ (.int .i64 n1)).setCell ⟨T, 2, none⟩ (.int .u64 n2)).setCell ⟨T, 3, none⟩ (.int .u64 n3)).setCell ⟨T, 4, none⟩ (.int .i64 n4)).setCell ⟨T, 5, none⟩ (.int .i64 n5)).setCell ⟨T, 6, none⟩ (.int .i64 n6)).heap[T]? = some (.cells #[.int .i64 n0, .int .i64 n1, .int .u64 n2, .int .u64 n3, .int .i64 n4, .int .i64 n5, .int .i64 n6, .int .i64 n7] 24 (0, 0)) := g14
  have g15 := heap_setCell_same _ T 7 _ 24 (.int .i64 n7) g14
  replace g15 : ((((((((((((((((w2.setCell ⟨T, 0, none⟩ (.int .i64 n0)).setCell ⟨T, 1, none⟩ (.int .i64 n1)).setCell ⟨T, 2, none⟩ (.int .u64 n2)).setCell ⟨T, 3, none⟩ (.int .u64 n3)).setCell ⟨T, 4, none⟩ (.int .i64 n4)).setCell ⟨T, 5, none⟩ (.int .i64 n5)).setCell ⟨T, 6, none⟩ (.int .i64 n6)).setCell ⟨T, 7, none⟩ (.int .i64 n7)).setCell ⟨T, 0, none⟩ (.int .i64 n0)).setCell ⟨T, 1, none⟩ (.int .i64 n1)).setCell ⟨T, 2, none⟩ (.int .u64 n2)).setCell ⟨T, 3, none⟩ (.int .u64 n3)).setCell ⟨T, 4, none⟩ (.int .i64 n4)).setCell ⟨T, 5, none⟩ (.int .i64 n5)).setCell ⟨T, 6, none⟩ (.int .i64 n6)).setCell ⟨T, 7, none⟩ (.int .i64 n7)).heap[T]? = some (.cells #[.int .i64 n0, .int .i64 n1, .int .u64 n2, .int .u64 n3, .int .i64 n4, .int .i64 n5, .int .i64 n6, .int .i64 n7] 24 (0, 0)) := g15
  rw [drew_heap, drew_heap, drew_heap, drew_heap]
  exact g15

theorem bel8 {w w2 : World} {B T : Nat} (n0 n1 n2 n3 n4 n5 n6 n7 : Int) (h : Below B w w2) (hT : B ≤ T) : Below B w ((((((((((((((((w2.setCell ⟨T, 0, none⟩ (.int .i64 n0)).setCell ⟨T, 1, none⟩ (.int .i64 n1)).setCell ⟨T, 2, none⟩ (.int .u64 n2)).setCell ⟨T, 3, none⟩ (.int .u64 n3)).setCell ⟨T, 4, none⟩ (.int .i64 n4)).setCell ⟨T, 5, none⟩ (.int .i64 n5)).setCell ⟨T, 6, none⟩ (.int .i64 n6)).setCell ⟨T, 7, none⟩ (.int .i64 n7)).setCell ⟨T, 0, none⟩ (.int .i64 n0)).setCell ⟨T, 1, none⟩ (.int .i64 n1)).setCell ⟨T, 2, none⟩ (.int .u64 n2)).setCell ⟨T, 3, none⟩ (.int .u64 n3)).setCell ⟨T, 4, none⟩ (.int .i64 n4)).setCell ⟨T, 5, none⟩ (.int .i64 n5)).setCell ⟨T, 6, none⟩ (.int .i64 n6)).setCell ⟨T, 7, none⟩ (.int .i64 n7)).drew.drew.drew.drew :=
  ((((((((((((((((h.setCell (p := ⟨T, 0, none⟩) hT (.int .i64 n0)).setCell (p := ⟨T, 1, none⟩) hT (.int .i64 n1)).setCell (p := ⟨T, 2, none⟩) hT (.int .u64 n2)).setCell (p := ⟨T, 3, none⟩) hT (.int .u64 n3)).setCell (p := ⟨T, 4, none⟩) hT (.int .i64 n4)).setCell (p := ⟨T, 5, none⟩) hT (.int .i64 n5)).setCell (p := ⟨T, 6, none⟩) hT (.int .i64 n6)).setCell (p := ⟨T, 7, none⟩) hT (.int .i64 n7)).setCell (p := ⟨T, 0, none⟩) hT (.int .i64 n0)).setCell (p := ⟨T, 1, none⟩) hT (.int .i64 n1)).setCell (p := ⟨T, 2, none⟩) hT (.int .u64 n2)).setCell (p := ⟨T, 3, none⟩) hT (.int .u64 n3)).setCell (p := ⟨T, 4, none⟩) hT (.int .i64 n4)).setCell (p := ⟨T, 5, none⟩) hT (.int .i64 n5)).setCell (p := ⟨T, 6, none⟩) hT (.int .i64 n6)).setCell (p := ⟨T, 7, none⟩) hT (.int .i64 n7)).drew.drew.drew.drew

theorem res8 {W : World} {T : Nat} {tmps : Array Value} {n0 n1 n2 n3 n4 n5 n6 n7 m : Int} (h : W.heap[T]? = some (.cells #[.int .i64 n0, .int .i64 n1, .int .u64 n2, .int .u64 n3, .int .i64 n4, .int .i64 n5, .int .i64 n6, .int .i64 n7] 24 (0, 0)))
    (h2 : tmps[2]? = some (.pointer (some ⟨T, 0, none⟩))) (h3 : tmps[3]? = some (.int .i64 m)) : (results Tryd.f11 tmps).run Tryd.prog W = .ok (.tuple #[T8 n0 n1 n2 n3 n4 n5 n6 n7, .int .i64 m]) W := by
  obtain ⟨⟨q0, q1, q2, q3, q4, q5, q6, q7⟩, _⟩ := t8_cells h
  simp [results, Tryd.results11, go_sem, q0, q1, q2, q3, q4, q5, q6, q7, h2, h3]

set_option maxHeartbeats 1000000 in
set_option maxRecDepth 100000 in
theorem read8_ok (a : Option Addr) (cap : Nat) (zs : List Int) (w : World) (hT : Tab w) (h : Reads w a 26 zs) :
    Calls Tryd.prog 11 #[.slice a 26 cap] w fun e w' => e = .returned (.tuple #[tagsOf zs, .int .i64 0]) ∧ Below w.heap.size w w' := by
  have hc := carry_read a cap zs w hT h
  obtain ⟨n0, hn0⟩ : ∃ n, n = getL zs 0 1 := ⟨_, rfl⟩
  obtain ⟨n1, hn1⟩ : ∃ n, n = getL zs 1 1 := ⟨_, rfl⟩
  obtain ⟨n2, hn2⟩ : ∃ n, n = getL zs 2 6 := ⟨_, rfl⟩
  obtain ⟨n3, hn3⟩ : ∃ n, n = getL zs 8 6 := ⟨_, rfl⟩
  obtain ⟨n4, hn4⟩ : ∃ n, n = getL zs 14 4 := ⟨_, rfl⟩
  obtain ⟨n5, hn5⟩ : ∃ n, n = getL zs 18 4 := ⟨_, rfl⟩
  obtain ⟨n6, hn6⟩ : ∃ n, n = getL zs 22 2 := ⟨_, rfl⟩
  obtain ⟨n7, hn7⟩ : ∃ n, n = getL zs 24 2 := ⟨_, rfl⟩
  obtain ⟨k0, m0⟩ := getL_wrap h.2.1 0 1 (by omega)
  rw [← hn0] at k0 m0
  obtain ⟨k1, m1⟩ := getL_wrap h.2.1 1 1 (by omega)
  rw [← hn1] at k1 m1
  obtain ⟨k4, m4⟩ := getL_wrap h.2.1 14 4 (by omega)
  rw [← hn4] at k4 m4
  obtain ⟨k5, m5⟩ := getL_wrap h.2.1 18 4 (by omega)
  rw [← hn5] at k5 m5
  obtain ⟨k6, m6⟩ := getL_wrap h.2.1 22 2 (by omega)
  rw [← hn6] at k6 m6
  obtain ⟨k7, m7⟩ := getL_wrap h.2.1 24 2 (by omega)
  rw [← hn7] at k7 m7
  have htag : tagsOf zs = T8 n0 n1 n2 n3 n4 n5 n6 n7 := by rw [hn0, hn1, hn2, hn3, hn4, hn5, hn6, hn7]; rfl
  rw [htag]
  rw [← hn0, ← hn1, ← hn2, ← hn3, ← hn4, ← hn5, ← hn6, ← hn7] at hc
  have HC : Hid _ := fun (_ : Unit) => hc
  clear hc htag h hT hn0 hn1 hn2 hn3 hn4 hn5 hn6 hn7
  go_enter Tryd.func11, Tryd.ntmps11
  go_wp2_with (go_at_call 18; refine Calls.mono (HC.out ()) ?_; rintro e w2 ⟨rfl, ⟨x0, x1, x2, x3, x4, x5, x6, x7⟩, ⟨y0, y1, y2, y3, y4, y5, y6, y7⟩, fz, bl2, hblk⟩; have f0 := fz 0; have f1 := fz 1; have f2 := fz 2; have f3 := fz 3; have f4 := fz 4; have f5 := fz 5; have f6 := fz 6; have f7 := fz 7; have HBL : Hid (Below w.heap.size w w2) := bl2; have HBK : Hid (w2.heap[w.heap.size]? = some (.cells #[.int .i64 0, .int .i64 0, .int .u64 0, .int .u64 0, .int .i64 0, .int .i64 0, .int .i64 0, .int .i64 0] 24 (0, 0))) := hblk; clear fz bl2 hblk)
  go_region_held3 (fun x => x.cell? ⟨w.heap.size + 1, 0, none⟩ = some (.int .u64 n0) ∧ x.cell? ⟨w.heap.size + 1, 1, none⟩ = some (.int .u64 n1))
    (first | go_keep) (fail)
  go_wp2
  go_region_held3 (fun x => x.cell? ⟨w.heap.size + 1, 2, none⟩ = some (.int .u64 n2) ∧ x.cell? ⟨w.heap.size + 1, 3, none⟩ = some (.int .u64 n3))
    (first | go_keep) (fail)
  go_wp2
  go_region_held3 (fun x => x.cell? ⟨w.heap.size + 1, 4, none⟩ = some (.int .u64 n4) ∧ x.cell? ⟨w.heap.size + 1, 5, none⟩ = some (.int .u64 n5))
    (first | go_keep) (fail)
  go_wp2
  go_region_held3 (fun x => x.cell? ⟨w.heap.size + 1, 6, none⟩ = some (.int .u64 n6) ∧ x.cell? ⟨w.heap.size + 1, 7, none⟩ = some (.int .u64 n7))
    (first | go_keep) (fail)
  go_wp2
  refine bodyPost_ret (v := .tuple #[T8 n0 n1 n2 n3 n4 n5 n6 n7, .int .i64 0]) (res8 ?_ rfl rfl) rfl ⟨rfl, ?_⟩
  · exact fill8 n0 n1 n2 n3 n4 n5 n6 n7 HBK.out
  · exact bel8 n0 n1 n2 n3 n4 n5 n6 n7 HBL.out (Nat.le_refl _)
end Go.Proofs.YtgdmagmbkmgdfabDoor
