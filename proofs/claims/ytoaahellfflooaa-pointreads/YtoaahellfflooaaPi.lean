/-
  SEAT Ytoaahellfflooaa: point.Read; what the reader gave up with is taken.
-/
import Derived.Test.YtoaahellfflooaaPh
import Derived.Defers
import Derived.Recover
namespace Go.Proofs.Ytoaahellfflooaa
open Go.RowKit
set_option linter.unusedVariables false

theorem str_sz (l : List Int) : (strOfNums l).size = l.length := str_size l
theorem node_sz (zs : List Int) : (nodeR zs).1.N.size ≤ zs.length ∧ (nodeR zs).1.T.size ≤ zs.length := by
  unfold nodeR
  have hz : Nd.zero.N.size ≤ zs.length ∧ Nd.zero.T.size ≤ zs.length := ⟨Nat.zero_le _, Nat.zero_le _⟩
  split
  · split
    · unfold nodeF
      refine ⟨?_, ?_⟩
      · simp only [str_sz, List.length_take, List.length_drop]; omega
      · simp only [str_sz, List.length_drop]; omega
    · exact hz
  · exact hz
theorem obj_sz {bs r : List Int} {o : Ob} (h : objR bs = some (o, r)) (hl : bs.length ≤ 140737488355000) : o.Sz := by
  have hz : Ob.Sz ⟨0, false, Nd.zero, (0, 0), []⟩ := ⟨Nat.zero_le _, Nat.zero_le _⟩
  unfold objR at h
  split at h
  · cases h
  · rename_i id r1 h1
    have l1 := numR_len h1 hl
    split at h
    · cases h
    · split at h
      · cases h
      · cases h; exact hz
    · rename_i r2 h2
      have l2 := flagR_len h2 l1
      split at h
      · cases h
      · rename_i nd p r3 h3
        split at h
        · cases h
        · cases h
          unfold headR at h3
          split at h3
          · cases h3
          · rename_i n r4 h4
            have l4 := numR_len h4 l2
            split at h3
            · cases h3
            · rename_i b r5 h5
              have hb : b.length ≤ 140737488355000 := by
                unfold rowR at h5
                split at h5
                · cases h5; rw [List.length_take]; omega
                · cases h5
              split at h3
              · split at h3
                · cases h3
                · cases h3
                  have := node_sz b
                  exact ⟨by show (nodeR b).1.N.size ≤ _; omega, by show (nodeR b).1.T.size ≤ _; omega⟩
              · cases h3
theorem times_all {α : Type} {rd : List Int → Option (α × List Int)} {P : α → Prop} (hrd : ∀ bs v r, rd bs = some (v, r) → r.length ≤ bs.length) (hP : ∀ bs v r, rd bs = some (v, r) → bs.length ≤ 140737488355000 → P v) : ∀ (k : Nat) (acc l : List α) (bs r : List Int), bs.length ≤ 140737488355000 → timesR rd k acc bs = some (l, r) → (∀ x ∈ acc, P x) → ∀ x ∈ l, P x
  | 0, acc, l, bs, r, hb, h, ha => by cases h; exact ha
  | k + 1, acc, l, bs, r, hb, h, ha => by
    rw [timesR] at h
    split at h
    · cases h
    · rename_i x r1 h1
      refine times_all hrd hP k _ _ _ _ (Nat.le_trans (hrd _ _ _ h1) hb) h (fun y hy => ?_)
      rcases List.mem_append.1 hy with h2 | h2
      · exact ha y h2
      · rw [List.mem_singleton] at h2; subst h2; exact hP _ _ _ h1 hb
theorem state_len {bs r : List Int} {s : St} (h : stR bs = some (s, r)) : r.length ≤ bs.length := by
  unfold stR at h
  split at h
  · cases h
  rename_i a1 r1 h1
  split at h
  · cases h
  rename_i a2 r2 h2
  split at h
  · cases h
  rename_i a3 r3 h3
  split at h
  · cases h
  rename_i a4 r4 h4
  split at h
  · cases h
  rename_i a5 r5 h5
  split at h
  · cases h
  rename_i a6 r6 h6
  cases h
  have := numR_len h1 (Nat.le_refl _)
  have := numR_len h2 (Nat.le_refl _)
  have := numR_len h3 (Nat.le_refl _)
  have := numR_len h4 (Nat.le_refl _)
  have := many_len (fun bs v r h => blkR_len h (Nat.le_refl _)) h5
  have := many_len (fun bs v r h => objR_len h) h6
  omega
theorem state_sz {bs r : List Int} {s : St} (h : stR bs = some (s, r)) (hl : bs.length ≤ 140737488355000) : ∀ o ∈ s.os, o.Sz := by
  unfold stR at h
  split at h
  · cases h
  rename_i a1 r1 h1
  split at h
  · cases h
  rename_i a2 r2 h2
  split at h
  · cases h
  rename_i a3 r3 h3
  split at h
  · cases h
  rename_i a4 r4 h4
  split at h
  · cases h
  rename_i a5 r5 h5
  split at h
  · cases h
  rename_i a6 r6 h6
  cases h
  have l1 := numR_len h1 hl
  have l2 := numR_len h2 l1
  have l3 := numR_len h3 l2
  have l4 := numR_len h4 l3
  have l5 := Nat.le_trans (many_len (fun bs v r h => blkR_len h (Nat.le_refl _)) h5) l4
  unfold manyR at h6
  split at h6
  · cases h6
  · rename_i n r7 h7
    exact times_all (fun bs v r h => objR_len h) (fun bs v r h hb => obj_sz h hb) _ _ _ _ _ (numR_len h7 l5) h6 (fun x hx => by cases hx)
/-- What is owned is read. -/
theorem StOwn.on {u : World} {C : Nat} {s : St} {vb vo : Value} {ls : List (Ob × Value)} (h : StOwn u C s vb vo ls) (hz : ∀ o ∈ s.os, o.Sz) (hc : ∀ x ∈ ls, x.1.ch.length ≤ 140737488355000) : ∃ ba bc oa oc, vb = .slice ba s.bs.length bc ∧ vo = .slice oa s.os.length oc ∧ StOn u s ba oa s.bs.length s.os.length ls := by
  obtain ⟨ba, bc, hb1, hb2⟩ := own_reads h.b
  obtain ⟨oa, oc, ho1, ho2⟩ := own_reads h.o
  refine ⟨ba, bc, oa, oc, hb1, ho1, hb2, ho2, fun x hx => ?_, fun x hx => ?_, h.os, by have := h.bl; omega, by have := h.ol; omega⟩
  · obtain ⟨a, c, h1, h2⟩ := own_reads (h.c x hx)
    exact ⟨a, c, h1, h2, hc x hx⟩
  · exact hz _ (by rw [← h.os]; exact List.mem_map_of_mem hx)

/-- Only two blocks have changed. -/
structure Two (w w' : World) (q p : Nat) : Prop where
  os : w'.os = w.os
  tape : w'.tape = w.tape
  output : w'.output = w.output
  size : w.heap.size ≤ w'.heap.size
  block : ∀ i, i < w.heap.size → i ≠ q → i ≠ p → w'.heap[i]? = w.heap[i]?
theorem Two.of {w w' : World} {q : Nat} (p : Nat) (h : w.grownBy w' (some q)) : Two w w' q p := ⟨h.os, h.tape, h.output, h.size, fun i hi h1 _ => h.block i hi (fun e => h1 (Option.some.inj e))⟩
theorem Two.of' {w w' : World} {p : Nat} (q : Nat) (h : w.grownBy w' (some p)) : Two w w' q p := ⟨h.os, h.tape, h.output, h.size, fun i hi _ h1 => h.block i hi (fun e => h1 (Option.some.inj e))⟩
theorem Two.trans {a b c : World} {q p : Nat} (h : Two a b q p) (k : Two b c q p) : Two a c q p := ⟨k.os.trans h.os, k.tape.trans h.tape, k.output.trans h.output, Nat.le_trans h.size k.size, fun i hi h1 h2 => (k.block i (Nat.lt_of_lt_of_le hi h.size) h1 h2).trans (h.block i hi h1 h2)⟩
theorem Two.below {w u u' : World} {q p : Nat} (h : Below w.heap.size w u) (t : Two u u' q p) (hq : w.heap.size ≤ q) (hp : w.heap.size ≤ p) : Below w.heap.size w u' :=
  ⟨t.os.trans h.os, t.tape.trans h.tape, t.output.trans h.output, Nat.le_trans h.size t.size, fun k hk => (t.block k (Nat.lt_of_lt_of_le hk h.size) (by omega) (by omega)).trans (h.block k hk)⟩

theorem catch_idle (p1 p2 : Addr) (w : World) :
    CallsD Try.prog 17 #[.pointer (some p1), .pointer (some p2)] .returning w fun e u' w' => e = .returned (.tuple #[]) ∧ u' = .returning ∧ w' = w := by
  refine callsD_of_wpS Try.func17 rfl fun c₀ cs hu => ?_
  apply wpS_seq
  apply wpS_region
  simp [wpOpsS, go_sem, recoverD, hu, Try.ntmps17, Exit.thenS]
  refine wpS_of_wp ?_
  go_wp2
  cases c₀
  simp_all [bodyPostS, results, Try.results17]
theorem assert_wrong (w : World) : (Instr.typeAssert (.iface 58 (.agg #[])) 20 58 true).run Try.prog w = .ok (.tuple #[.agg #[], .bool true]) w := by
  simp [Instr.typeAssert, run_underlying Try.underlying58]
theorem over6 {u : World} {l : Nat} {y0 y1 y2 y3 y4 y5 : Value} (v0 v1 v2 v3 v4 v5 : Value) (h : u.heap[l]? = some (.cells #[y0, y1, y2, y3, y4, y5] 27 (0, 0))) : (((((((u.setCell ⟨l, 0, none⟩ (v0)).setCell ⟨l, 1, none⟩ (v1)).setCell ⟨l, 2, none⟩ (v2)).setCell ⟨l, 3, none⟩ (v3)).setCell ⟨l, 4, none⟩ (v4)).setCell ⟨l, 5, none⟩ (v5))).heap[l]? = some (.cells #[v0, v1, v2, v3, v4, v5] 27 (0, 0)) ∧ u.grownBy (((((((u.setCell ⟨l, 0, none⟩ (v0)).setCell ⟨l, 1, none⟩ (v1)).setCell ⟨l, 2, none⟩ (v2)).setCell ⟨l, 3, none⟩ (v3)).setCell ⟨l, 4, none⟩ (v4)).setCell ⟨l, 5, none⟩ (v5))) (some l) := by
  have g0 : ((u.setCell ⟨l, 0, none⟩ (v0))).heap[l]? = some (.cells #[v0, y1, y2, y3, y4, y5] 27 (0, 0)) := heap_setCell_same _ l 0 _ _ v0 h
  have g1 : (((u.setCell ⟨l, 0, none⟩ (v0)).setCell ⟨l, 1, none⟩ (v1))).heap[l]? = some (.cells #[v0, v1, y2, y3, y4, y5] 27 (0, 0)) := heap_setCell_same _ l 1 _ _ v1 g0
  have g2 : ((((u.setCell ⟨l, 0, none⟩ (v0)).setCell ⟨l, 1, none⟩ (v1)).setCell ⟨l, 2, none⟩ (v2))).heap[l]? = some (.cells #[v0, v1, v2, y3, y4, y5] 27 (0, 0)) := heap_setCell_same _ l 2 _ _ v2 g1
  have g3 : (((((u.setCell ⟨l, 0, none⟩ (v0)).setCell ⟨l, 1, none⟩ (v1)).setCell ⟨l, 2, none⟩ (v2)).setCell ⟨l, 3, none⟩ (v3))).heap[l]? = some (.cells #[v0, v1, v2, v3, y4, y5] 27 (0, 0)) := heap_setCell_same _ l 3 _ _ v3 g2
  have g4 : ((((((u.setCell ⟨l, 0, none⟩ (v0)).setCell ⟨l, 1, none⟩ (v1)).setCell ⟨l, 2, none⟩ (v2)).setCell ⟨l, 3, none⟩ (v3)).setCell ⟨l, 4, none⟩ (v4))).heap[l]? = some (.cells #[v0, v1, v2, v3, v4, y5] 27 (0, 0)) := heap_setCell_same _ l 4 _ _ v4 g3
  have g5 : (((((((u.setCell ⟨l, 0, none⟩ (v0)).setCell ⟨l, 1, none⟩ (v1)).setCell ⟨l, 2, none⟩ (v2)).setCell ⟨l, 3, none⟩ (v3)).setCell ⟨l, 4, none⟩ (v4)).setCell ⟨l, 5, none⟩ (v5))).heap[l]? = some (.cells #[v0, v1, v2, v3, v4, v5] 27 (0, 0)) := heap_setCell_same _ l 5 _ _ v5 g4
  exact ⟨g5, (((((set_grown u l 0 v0).trans (set_grown _ l 1 v1)).trans (set_grown _ l 2 v2)).trans (set_grown _ l 3 v3)).trans (set_grown _ l 4 v4)).trans (set_grown _ l 5 v5)⟩

set_option maxHeartbeats 2000000 in
set_option maxRecDepth 100000 in
theorem catch_wrong (l g : Nat) (x0 x1 x2 x3 y : Int) (a4 a5 : Option Addr) (n4 n5 c4 c5 : Nat) (older : List PanicEntry) (w : World) (hl : w.heap[l]? = some (.cells #[.int .u64 x0, .int .u64 x1, .int .i64 x2, .int .i64 x3, .slice a4 n4 c4, .slice a5 n5 c5] 27 (0, 0))) (hg : w.heap[g]? = some (.cells #[.int .i64 y] 30 (0, 0))) :
    CallsD Try.prog 17 #[.pointer (some ⟨l, 0, none⟩), .pointer (some ⟨g, 0, none⟩)] (.panicking ({ v := .iface 58 (.agg #[]), recovered := false } :: older)) w fun e u' w' =>
      e = .returned (.tuple #[]) ∧ u' = .panicking ({ v := .iface 58 (.agg #[]), recovered := true } :: older) ∧ w'.heap[l]? = some (.cells #[.int .u64 0, .int .u64 0, .int .i64 0, .int .i64 0, .slice none 0 0, .slice none 0 0] 27 (0, 0)) ∧ w'.heap[g]? = some (.cells #[.int .i64 140] 30 (0, 0)) ∧ Two w w' l g := by
  refine callsD_of_wpS Try.func17 rfl fun c₀ cs hu => ?_
  have ht : (#[.pointer (some ⟨l, 0, none⟩), .pointer (some ⟨g, 0, none⟩)] ++ Array.replicate (Try.f17.ntmps - (#[Value.pointer (some ⟨l, 0, none⟩), .pointer (some ⟨g, 0, none⟩)] : Array Value).size) undef : Array Value) = #[.pointer (some ⟨l, 0, none⟩), .pointer (some ⟨g, 0, none⟩), undef, undef, undef, undef, undef, undef, undef, undef, undef, undef] := by rw [Try.ntmps17]; rfl
  rw [ht]
  clear ht
  apply wpS_seq
  apply wpS_region
  simp [wpOpsS, go_sem, recoverD, hu, Exit.thenS]
  refine wpS_of_wp ?_
  have HL := hide hl
  have HG := hide hg
  have HU := hide hu
  have hlt := (Array.getElem?_eq_some_iff.1 hl).1
  have hgt := (Array.getElem?_eq_some_iff.1 hg).1
  have hne : l ≠ g := fun e => by rw [e, hg] at hl; cases hl
  have hta := assert_wrong
  clear hl hg hu
  have k0 : (w.alloc (.cells #[] 58)).heap[l]? = some (.cells #[.int .u64 x0, .int .u64 x1, .int .i64 x2, .int .i64 x3, .slice a4 n4 c4, .slice a5 n5 c5] 27 (0, 0)) := by rw [Below.heap_alloc _ _ _ hlt]; exact HL.out
  have k1 : (w.alloc (.cells #[] 58)).heap[g]? = some (.cells #[.int .i64 y] 30 (0, 0)) := by rw [Below.heap_alloc _ _ _ hgt]; exact HG.out
  have b0 : (w.alloc (.cells #[] 58)).cell? ⟨l, 0, none⟩ = some (.int .u64 x0) := blk_cell k0 0 rfl
  have f0 : (w.alloc (.cells #[] 58)).frozen? ⟨l, 0, none⟩ = false := blk_free k0 0
  have b1 : (w.alloc (.cells #[] 58)).cell? ⟨l, 1, none⟩ = some (.int .u64 x1) := blk_cell k0 1 rfl
  have f1 : (w.alloc (.cells #[] 58)).frozen? ⟨l, 1, none⟩ = false := blk_free k0 1
  have b2 : (w.alloc (.cells #[] 58)).cell? ⟨l, 2, none⟩ = some (.int .i64 x2) := blk_cell k0 2 rfl
  have f2 : (w.alloc (.cells #[] 58)).frozen? ⟨l, 2, none⟩ = false := blk_free k0 2
  have b3 : (w.alloc (.cells #[] 58)).cell? ⟨l, 3, none⟩ = some (.int .i64 x3) := blk_cell k0 3 rfl
  have f3 : (w.alloc (.cells #[] 58)).frozen? ⟨l, 3, none⟩ = false := blk_free k0 3
  have b4 : (w.alloc (.cells #[] 58)).cell? ⟨l, 4, none⟩ = some (.slice a4 n4 c4) := blk_cell k0 4 rfl
  have f4 : (w.alloc (.cells #[] 58)).frozen? ⟨l, 4, none⟩ = false := blk_free k0 4
  have b5 : (w.alloc (.cells #[] 58)).cell? ⟨l, 5, none⟩ = some (.slice a5 n5 c5) := blk_cell k0 5 rfl
  have f5 : (w.alloc (.cells #[] 58)).frozen? ⟨l, 5, none⟩ = false := blk_free k0 5
  have b6 : (w.alloc (.cells #[] 58)).cell? ⟨g, 0, none⟩ = some (.int .i64 y) := blk_cell k1 0 rfl
  have f6 : (w.alloc (.cells #[] 58)).frozen? ⟨g, 0, none⟩ = false := blk_free k1 0
  have HK0 := hide k0
  have HK1 := hide k1
  have n5 : ¬ g = l := fun e => hne e.symm
  have n6 : ¬ l = g := hne
  clear hlt hgt hne k0 k1
  go_wp2
  obtain ⟨k2, g2⟩ := over6 (.int .u64 0) (.int .u64 0) (.int .i64 0) (.int .i64 0) (.slice none 0 0) (.slice none 0 0) HK0.out
  have k3 := (g2.block g (lt_of_block HK1.out) (fun e => n5 (Option.some.inj e))).trans HK1.out
  have k4 := blk1_set k3 (.int .i64 140)
  have k5 := ((set_grown _ g 0 (.int .i64 140)).block l (lt_of_block k2) (fun e => n6 (Option.some.inj e))).trans k2
  refine ⟨rfl, _, rfl, .tuple #[], by simp [results, Try.results17], rfl, rfl, k5, k4, ?_⟩
  exact ((Two.of g (World.grownBy_alloc w _ _)).trans (Two.of g g2)).trans (Two.of' l (set_grown _ g 0 _))
end Go.Proofs.Ytoaahellfflooaa
