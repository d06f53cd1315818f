/-
  SEAT Ytkcpfcnpniblcad: heads, rest, turn.
-/
import Derived.Test.YtkcpfcnpniblcadRdB
namespace Go.Proofs.Ytkcpfcnpniblcad
open Go.RowKit
set_option linter.unusedVariables false

theorem lit_reads (w : World) (cs : Array Value) (ns : List Nat) (n : Nat) (hc : cs.toList = (cst ns).map (Value.int .u8)) (hn : ns.length = n) (h : ∀ x ∈ ns, x < 256) : Reads (w.alloc (.cells cs 5)) (some ⟨w.heap.size, 0, none⟩) n (cst ns) := by
  refine ⟨by simp [cst, hn], cst_range ns h, (fun h => by cases h), fun x hx i hi => ?_⟩
  cases hx
  refine World.news_of_block (heap_alloc_new w _) i _ ?_
  rw [hc, List.getElem?_map, cst_getD]
  simp [cst, List.getD_eq_getElem?_getD, List.getElem?_eq_getElem (show i < ns.length by omega)]

theorem read_h1 : readN [169, 170, 169, 138] = some ([1], 14) := by decide +kernel
theorem read_h2 : readN [255, 255] = none := by decide +kernel
theorem lay_h : layL (cst [165] ++ [colF (cst [165])]) = cst [153, 102, 153, 102] := by decide +kernel

/-- The three rows that heads reads, by their lengths. -/
def rowH (n : Nat) : List Nat := if n = 4 then [169, 170, 169, 138] else if n = 2 then [255, 255] else [170]
/-- What is read. -/
def endH (n : Nat) (w : World) (e : Ending) (w' : World) : Prop :=
  if n = 4 then e = .returned (.tuple #[.slice (some ⟨w.heap.size, 0, none⟩) 1 2, .int .i64 14, .int .i64 0]) ∧ Reads w' (some ⟨w.heap.size, 0, none⟩) 1 (cst [1])
  else if n = 2 then e = .returned (.tuple #[.slice none 0 0, .int .i64 0, .int .i64 30])
  else e = .returned (.tuple #[.slice none 0 0, .int .i64 0, .int .i64 31])

theorem read_h (a : Option Addr) (n cap : Nat) (w : World) (hn : n = 4 ∨ n = 2 ∨ n = 1) (h : Reads w a n (cst (rowH n))) : Calls Try.prog 18 #[.slice a n cap] w fun e w' => endH n w e w' ∧ Below w.heap.size w w' := by
  rcases hn with rfl | rfl | rfl
  · refine (read_ok a 4 cap 2 [169, 170, 169, 138] w rfl (by decide) (by decide) h).mono fun e w' hp => ?_
    obtain ⟨h1, h2⟩ := hp
    rw [read_h1] at h1
    obtain ⟨rfl, rows, ht, hr, own⟩ := h1
    refine ⟨⟨rfl, ?_⟩, h2⟩
    have hrd := (own.reads (cst_range rows hr) 1 (by omega))
    have e : (cst rows).take 1 = cst [1] := by
      simp only [cst, ← List.map_take]
      simp only [show (2 : Nat) - 1 = 1 from rfl] at ht
      rw [ht]
    rw [e] at hrd
    exact hrd
  · refine (read_ok a 2 cap 1 [255, 255] w rfl (by decide) (by decide) h).mono fun e w' hp => ?_
    obtain ⟨h1, h2⟩ := hp
    rw [read_h2] at h1
    exact ⟨h1, h2⟩
  · refine (read_bad a 1 cap w (by omega) (Or.inl rfl)).mono fun e w' hp => ?_
    obtain ⟨rfl, rfl⟩ := hp
    exact ⟨rfl, Below.refl _ _⟩

set_option maxHeartbeats 400000 in
set_option maxRecDepth 100000 in
theorem heads_any (w : World) : Calls Try.prog 8 #[] w fun e w' => e = .returned (.bool true) ∧ Below w.heap.size w w' := by
  have HD1 : Hid (decide (cst [153, 102, 153, 102] = cst [153, 102, 153, 102]) = true) := decide_eq_true rfl
  have HD2 : Hid (decide (cst [1] = cst [1]) = true) := decide_eq_true rfl
  have H165 : Hid (∀ u : World, Reads (u.alloc (.cells #[.int .u8 165] 5)) (some ⟨u.heap.size, 0, none⟩) 1 (cst [165])) := fun u => lit_reads u _ [165] 1 rfl rfl (by decide)
  have H169 : Hid (∀ u : World, Reads (u.alloc (.cells #[.int .u8 169, .int .u8 170, .int .u8 169, .int .u8 138] 5)) (some ⟨u.heap.size, 0, none⟩) 4 (cst (rowH 4))) := fun u => lit_reads u _ [169, 170, 169, 138] 4 rfl rfl (by decide)
  have H255 : Hid (∀ u : World, Reads (u.alloc (.cells #[.int .u8 255, .int .u8 255] 5)) (some ⟨u.heap.size, 0, none⟩) 2 (cst (rowH 2))) := fun u => lit_reads u _ [255, 255] 2 rfl rfl (by decide)
  have H170 : Hid (∀ u : World, Reads (u.alloc (.cells #[.int .u8 170] 5)) (some ⟨u.heap.size, 0, none⟩) 1 (cst (rowH 1))) := fun u => lit_reads u _ [170] 1 rfl rfl (by decide)
  have H153 : Hid (∀ u : World, Reads (u.alloc (.cells #[.int .u8 153, .int .u8 102, .int .u8 153, .int .u8 102] 5)) (some ⟨u.heap.size, 0, none⟩) 4 (cst [153, 102, 153, 102])) := fun u => lit_reads u _ [153, 102, 153, 102] 4 rfl rfl (by decide)
  have H1 : Hid (∀ u : World, Reads (u.alloc (.cells #[.int .u8 1] 5)) (some ⟨u.heap.size, 0, none⟩) 1 (cst [1])) := fun u => lit_reads u _ [1] 1 rfl rfl (by decide)
  have HL : Hid (layL (cst [165] ++ [colF (cst [165])]) = cst [153, 102, 153, 102]) := lay_h
  have HB : Hid (∀ (u : World) (o : Obj), Below u.heap.size u (u.alloc o)) := fun u o => (Below.refl _ _).alloc (Nat.le_refl _) _
  go_enter Try.func8, Try.ntmps8
  go_wp2_with (first
    | (go_at_call 9; refine (lay_ok _ 1 1 (cst [165]) _ (by decide) (H165.out _)).mono ?_; rintro e u1 ⟨g1, c1, rfl, own1, bel1⟩; rw [HL.out] at own1; have bw1 := (HB.out w _).trans (bel1.mono (HB.out w _).size); have rd1 := own1.all (cst_range [153, 102, 153, 102] (by decide)))
    | (go_at_call 18; refine (read_h _ _ _ _ (by decide) ?_).mono ?_; exact H169.out _; rintro e u2 ⟨⟨rfl, rdx0⟩, bel2⟩; have rdx : Reads u2 (some ⟨u1.heap.size + 1, 0, none⟩) 1 (cst [1]) := (by simpa using rdx0); clear rdx0; have bd2 := (HB.out u1 _).trans (bel2.mono (HB.out u1 _).size); have bw2 := bw1.trans (bd2.mono bw1.size); have rd2 := rd1.below bd2)
    | (go_at_call 18; refine (read_h _ _ _ _ (by decide) ?_).mono ?_; exact H255.out _; rintro e u3 ⟨he3, bel3⟩; obtain rfl := he3; have bd3 := (HB.out u2 _).trans (bel3.mono (HB.out u2 _).size); have bw3 := bw2.trans (bd3.mono bw2.size); have rd3 := rd2.below bd3; have rdx3 := rdx.below bd3)
    | (go_at_call 18; refine (read_h _ _ _ _ (by decide) ?_).mono ?_; exact H170.out _; rintro e u4 ⟨he4, bel4⟩; obtain rfl := he4; have bd4 := (HB.out u3 _).trans (bel4.mono (HB.out u3 _).size); have bw4 := bw3.trans (bd4.mono bw3.size); have rd4 := rd3.below bd4; have rdx4 := rdx3.below bd4)
    | (go_at_call 10; refine (no_any _ _).mono ?_; rintro e u ⟨rfl, rfl⟩)
    | (go_at_call 12; refine (same_any _ _ _ _ _ (cst [153, 102, 153, 102]) (cst [153, 102, 153, 102]) _ ?_ ?_ ?_).mono ?_; omega; exact rd4.below (HB.out u4 _); exact H153.out _; rintro e u5 ⟨rfl, k5, hu5⟩; have bw5 : Below w.heap.size w u5 := (by rw [hu5]; exact below_drewN (bw4.trans ((HB.out u4 _).mono bw4.size)) k5); have rdx5 : Reads u5 (some ⟨u1.heap.size + 1, 0, none⟩) 1 (cst [1]) := (by rw [hu5]; exact (rdx4.below (HB.out u4 _)).drewN k5); clear hu5)
    | (go_at_call 12; refine (same_any _ _ _ _ _ (cst [1]) (cst [1]) _ ?_ ?_ ?_).mono ?_; omega; exact rdx5.below (HB.out _ _); exact H1.out _; rintro e u6 ⟨rfl, k6, rfl⟩))
  go_ret
  exact ⟨rfl, below_drewN (bw5.alloc bw5.size _) _⟩
end Go.Proofs.Ytkcpfcnpniblcad
