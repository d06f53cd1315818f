/-
  SEAT Ytoaahellfflooaa: point.Read whole.
-/
import Derived.Test.YtoaahellfflooaaPi
import Derived.Deep.Cut
namespace Go.Proofs.Ytoaahellfflooaa
open Go.RowKit
set_option linter.unusedVariables false

theorem numR_eat {n : Nat} {v : Int} {bs r : List Int} (h : numR n bs = some (v, r)) : r.length + n = bs.length := by
  have := numR_some h
  rw [this.2.2, List.length_drop]; omega
theorem chkR_eat {v : Chk} {bs r : List Int} (h : chkR bs = some (v, r)) : r.length + 1 ≤ bs.length := by
  unfold chkR at h
  split at h
  · cases h
  · rename_i h1
    split at h
    · cases h
    · rename_i h2
      split at h
      · cases h
      · rename_i h3
        cases h
        have := numR_eat h1
        have := placeR_byt h2
        have := numR_eat h3
        omega
theorem times_cnt {α : Type} {rd : List Int → Option (α × List Int)} (hrd : ∀ bs v r, rd bs = some (v, r) → r.length + 1 ≤ bs.length) : ∀ (k : Nat) (acc l : List α) (bs r : List Int), timesR rd k acc bs = some (l, r) → l.length + r.length ≤ acc.length + bs.length
  | 0, acc, l, bs, r, h => by cases h; exact Nat.le_refl _
  | k + 1, acc, l, bs, r, h => by
    rw [timesR] at h
    split at h
    · cases h
    · rename_i x r1 h1
      have := times_cnt hrd k _ _ _ _ h
      have := hrd _ _ _ h1
      simp only [List.length_append, List.length_singleton] at *
      omega
theorem many_cnt {l : List Chk} {bs r : List Int} (h : manyR chkR bs = some (l, r)) : l.length ≤ bs.length := by
  unfold manyR at h
  split at h
  · cases h
  · rename_i n r1 h1
    have := times_cnt (fun bs v r h => chkR_eat h) _ _ _ _ _ h
    have := numR_eat h1
    simp only [List.length_nil] at *
    omega
theorem obj_ch {bs r : List Int} {o : Ob} (h : objR bs = some (o, r)) : o.ch.length ≤ bs.length := by
  unfold objR at h
  split at h
  · cases h
  · rename_i id r1 h1
    have l1 := numR_eat h1
    split at h
    · cases h
    · rename_i r2 h2
      have l2 := flagR_len h2 (Nat.le_refl _)
      split at h
      · cases h
      · rename_i ch r3 h3
        cases h
        have := many_cnt h3
        show ch.length ≤ _
        omega
    · rename_i r2 h2
      have l2 := flagR_len h2 (Nat.le_refl _)
      split at h
      · cases h
      · rename_i nd p r3 h3
        have l3 := headR_len h3
        split at h
        · cases h
        · rename_i ch r4 h4
          cases h
          have := many_cnt h4
          show ch.length ≤ _
          omega
theorem state_ch {bs r : List Int} {s : St} (h : stR bs = some (s, r)) (hl : bs.length ≤ 140737488355000) : ∀ o ∈ s.os, o.ch.length ≤ 140737488355000 := by
  unfold stR at h
  split at h
  · cases h
  rename_i a1 r1 h1
  split at h
  · cases h
  rename_i a2 r2 h2
  split at h
  · cases h
  rename_i a3 r3 h3
  split at h
  · cases h
  rename_i a4 r4 h4
  split at h
  · cases h
  rename_i a5 r5 h5
  split at h
  · cases h
  rename_i a6 r6 h6
  cases h
  have l1 := numR_len h1 hl
  have l2 := numR_len h2 l1
  have l3 := numR_len h3 l2
  have l4 := numR_len h4 l3
  have l5 := Nat.le_trans (many_len (fun bs v r h => blkR_len h (Nat.le_refl _)) h5) l4
  unfold manyR at h6
  split at h6
  · cases h6
  · rename_i n r7 h7
    exact times_all (P := fun o => o.ch.length ≤ 140737488355000) (fun bs v r h => objR_len h) (fun bs v r h hb => Nat.le_trans (obj_ch h) hb) _ _ _ _ _ (numR_len h7 l5) h6 (fun x hx => by cases hx)

/-- What bytes are as a state. -/
def readR (bs : List Int) : Option St := match stR bs with
  | some (s, []) => if mayS s = true then some s else none
  | _ => none
def RdV (w : World) (bs : List Int) (e : Ending) (w' : World) : Prop := match readR bs with
  | none => e = .returned (.tuple #[.agg #[.int .u64 0, .int .u64 0, .int .i64 0, .int .i64 0, .slice none 0 0, .slice none 0 0], .int .i64 140])
  | some s => ∃ ba bn bc oa on oc ls, e = .returned (.tuple #[.agg #[.int .u64 s.fl, .int .u64 s.nx, .int .i64 s.cu, .int .i64 s.la, .slice ba bn bc, .slice oa on oc], .int .i64 0]) ∧ StOwn w' w.heap.size s (.slice ba bn bc) (.slice oa on oc) ls

structure Rs (w u : World) (c : Array Value) (e : Int) (rest : List Int) : Prop where
  rd : RdAt u w.heap.size (w.heap.size + 2) rest
  lb : u.heap[w.heap.size]? = some (.cells c 27 (0, 0))
  eb : u.heap[w.heap.size + 1]? = some (.cells #[.int .i64 e] 30 (0, 0))
  gr : Below w.heap.size w u
section
variable {w u u' : World} {c : Array Value} {e : Int} {rest r2 : List Int}
theorem Rs.fail (h : Rs w u c e rest) (g : u.grownBy u' (some (w.heap.size + 2))) : u'.heap[w.heap.size]? = some (.cells c 27 (0, 0)) ∧ u'.heap[w.heap.size + 1]? = some (.cells #[.int .i64 e] 30 (0, 0)) ∧ Below w.heap.size w u' :=
  ⟨(g.block _ (lt_of_block h.lb) (fun e => by have := Option.some.inj e; omega)).trans h.lb, (g.block _ (lt_of_block h.eb) (fun e => by have := Option.some.inj e; omega)).trans h.eb, h.gr.grown g h.gr.size (fun k hk => by have := Option.some.inj hk; omega)⟩
theorem Rs.call (h : Rs w u c e rest) (g : u.grownBy u' (some (w.heap.size + 2))) (r : RdAt u' w.heap.size (w.heap.size + 2) r2) : Rs w u' c e r2 :=
  ⟨r, (h.fail g).1, (h.fail g).2.1, (h.fail g).2.2⟩
theorem Rs.over (h : Rs w u c e rest) {c2 : Array Value} (g : u.grownBy u' (some w.heap.size)) (hc : u'.heap[w.heap.size]? = some (.cells c2 27 (0, 0))) : Rs w u' c2 e rest :=
  ⟨h.rd.other g (fun e => by have := Option.some.inj e; omega) (fun i hi => by cases hi; exact Nat.le_refl _), hc, (g.block _ (lt_of_block h.eb) (fun e => by have := Option.some.inj e; omega)).trans h.eb, h.gr.grown g h.gr.size (fun k hk => by cases hk; exact Nat.le_refl _)⟩
theorem Rs.below (h : Rs w u c e rest) (g : Below u.heap.size u u') : Rs w u' c e rest := h.call (grown_of g _) (h.rd.below g)
theorem Rs.err (h : Rs w u c e rest) (x : Int) : (u.setCell ⟨w.heap.size + 1, 0, none⟩ (.int .i64 x)).heap[w.heap.size]? = some (.cells c 27 (0, 0)) ∧ (u.setCell ⟨w.heap.size + 1, 0, none⟩ (.int .i64 x)).heap[w.heap.size + 1]? = some (.cells #[.int .i64 x] 30 (0, 0)) ∧ Below w.heap.size w (u.setCell ⟨w.heap.size + 1, 0, none⟩ (.int .i64 x)) :=
  ⟨((set_grown u (w.heap.size + 1) 0 (.int .i64 x)).block _ (lt_of_block h.lb) (fun e => by have := Option.some.inj e; omega)).trans h.lb, blk1_set h.eb _, h.gr.grown (set_grown u (w.heap.size + 1) 0 (.int .i64 x)) h.gr.size (fun k hk => by cases hk; omega)⟩
end
theorem rs_start (b off n c : Nat) (bs : List Int) (w : World) (hrow : Reads w (some ⟨b, off, none⟩) n bs) (hbw : b < w.heap.size) (hnc : n ≤ c) (hc : c ≤ 9223372036854775807) : Rs w (((w.alloc (.cells #[.int .u64 0, .int .u64 0, .int .i64 0, .int .i64 0, .slice none 0 0, .slice none 0 0] 27)).alloc (.cells #[.int .i64 0] 30)).alloc (.cells #[.slice (some ⟨b, off, none⟩) n c] 61)) #[.int .u64 0, .int .u64 0, .int .i64 0, .int .i64 0, .slice none 0 0, .slice none 0 0] 0 bs := by
  have hl := hrow.1
  have hb3 : Below w.heap.size w (((w.alloc (.cells #[.int .u64 0, .int .u64 0, .int .i64 0, .int .i64 0, .slice none 0 0, .slice none 0 0] 27)).alloc (.cells #[.int .i64 0] 30)).alloc (.cells #[.slice (some ⟨b, off, none⟩) n c] 61)) := (((Below.refl _ _).alloc (Nat.le_refl _) _).alloc (by simp) _).alloc (by simp; omega) _
  refine ⟨⟨b, off, c, ?_, ?_, by omega, hc, hbw, by omega⟩, ?_, ?_, hb3⟩
  · rw [hl]
    have h9 := heap_alloc_new ((w.alloc (.cells #[.int .u64 0, .int .u64 0, .int .i64 0, .int .i64 0, .slice none 0 0, .slice none 0 0] 27)).alloc (.cells #[.int .i64 0] 30)) (.cells #[.slice (some ⟨b, off, none⟩) n c] 61); rw [World.size_alloc, World.size_alloc] at h9; exact h9
  · rw [hl]; exact hrow.below hb3
  · rw [Below.heap_alloc _ _ _ (by simp; omega), Below.heap_alloc _ _ _ (by simp)]; exact heap_alloc_new _ _
  · rw [Below.heap_alloc _ _ _ (by simp)]
    have h9 := heap_alloc_new (w.alloc (.cells #[.int .u64 0, .int .u64 0, .int .i64 0, .int .i64 0, .slice none 0 0, .slice none 0 0] 27)) (.cells #[.int .i64 0] 30); rw [World.size_alloc] at h9; exact h9

set_option maxHeartbeats 4000000 in
set_option maxRecDepth 100000 in
theorem read_none (b off n c : Nat) (bs : List Int) (w : World) (hrow : Reads w (some ⟨b, off, none⟩) n bs) (hbw : b < w.heap.size) (hn : n ≤ 140737488355000) (hnc : n ≤ c) (hc : c ≤ 9223372036854775807) (hp : stR bs = none) :
    Calls Try.prog 6 #[.slice (some ⟨b, off, none⟩) n c] w fun e w' => e = .returned (.tuple #[.agg #[.int .u64 0, .int .u64 0, .int .i64 0, .int .i64 0, .slice none 0 0, .slice none 0 0], .int .i64 140]) ∧ Below w.heap.size w w' := by
  have hmf : ∀ (fn : Fn) (first cap : Array Value) (w : World), (Instr.makeFunc fn first cap).run Try.prog w = .ok (.func fn first cap) w := fun _ _ _ _ => rfl
  have HS := hide (rs_start b off n c bs w hrow hbw hnc hc)
  have hl := hrow.1
  have HL := hide (show bs.length ≤ 140737488355000 by omega)
  have HP := hide hp
  clear hrow hp hl
  go_enter_defers Try.func6, Try.ntmps6
  go_wp2_with (go_at_call 18; refine (state_any w.heap.size (w.heap.size + 2) bs _ HS.out.rd HL.out).mono ?_; intro e u1 lf; rw [HP.out] at lf; obtain ⟨rfl, g1⟩ := lf; have HF := hide (HS.out.fail g1); clear g1)
  refine leaves_cons (f := 17) (args := #[.pointer (some ⟨w.heap.size, 0, none⟩), .pointer (some ⟨w.heap.size + 1, 0, none⟩)]) (by simp) (by simp [go_sem]) ?_
  refine (catch_wrong w.heap.size (w.heap.size + 1) 0 0 0 0 0 none none 0 0 0 0 [] _ HF.out.1 HF.out.2.1).mono ?_
  rintro e u' w'' ⟨rfl, rfl, k1, k2, t3⟩
  have d0 : w''.cell? ⟨w.heap.size, 0, none⟩ = some (.int .u64 0) := blk_cell k1 0 rfl
  have d1 : w''.cell? ⟨w.heap.size, 1, none⟩ = some (.int .u64 0) := blk_cell k1 1 rfl
  have d2 : w''.cell? ⟨w.heap.size, 2, none⟩ = some (.int .i64 0) := blk_cell k1 2 rfl
  have d3 : w''.cell? ⟨w.heap.size, 3, none⟩ = some (.int .i64 0) := blk_cell k1 3 rfl
  have d4 : w''.cell? ⟨w.heap.size, 4, none⟩ = some (.slice none 0 0) := blk_cell k1 4 rfl
  have d5 : w''.cell? ⟨w.heap.size, 5, none⟩ = some (.slice none 0 0) := blk_cell k1 5 rfl
  have d9 : w''.cell? ⟨w.heap.size + 1, 0, none⟩ = some (.int .i64 140) := blk_cell k2 0 rfl
  simp [Leaves, settle, results, Try.results6, go_sem, d0, d1, d2, d3, d4, d5, d9]
  exact t3.below HF.out.2.2 (Nat.le_refl _) (by omega)

set_option maxHeartbeats 4000000 in
set_option maxRecDepth 100000 in
theorem read_rest (b off n c : Nat) (bs : List Int) (w : World) (hrow : Reads w (some ⟨b, off, none⟩) n bs) (hbw : b < w.heap.size) (hn : n ≤ 140737488355000) (hnc : n ≤ c) (hc : c ≤ 9223372036854775807) (s : St) (r : List Int) (hp : stR bs = some (s, r)) (hr : 0 < r.length) :
    Calls Try.prog 6 #[.slice (some ⟨b, off, none⟩) n c] w fun e w' => e = .returned (.tuple #[.agg #[.int .u64 0, .int .u64 0, .int .i64 0, .int .i64 0, .slice none 0 0, .slice none 0 0], .int .i64 140]) ∧ Below w.heap.size w w' := by
  have hmf : ∀ (fn : Fn) (first cap : Array Value) (w : World), (Instr.makeFunc fn first cap).run Try.prog w = .ok (.func fn first cap) w := fun _ _ _ _ => rfl
  have HS := hide (rs_start b off n c bs w hrow hbw hnc hc)
  have hl := hrow.1
  have HL := hide (show bs.length ≤ 140737488355000 by omega)
  have HP := hide hp
  clear hrow hp hl
  obtain ⟨fl, nx, cu, la, bl, os⟩ := s
  have HSZ := hide (state_sz HP.out HL.out)
  have HCH := hide (state_ch HP.out HL.out)
  go_enter_defers Try.func6, Try.ntmps6
  go_upto_region 4 with (go_at_call 18; refine (state_any w.heap.size (w.heap.size + 2) bs _ HS.out.rd HL.out).mono ?_; intro e u1 lf; rw [HP.out] at lf
                         obtain ⟨val, rfl, ⟨vb, vo, ls, hval, own⟩, rd1, g1⟩ := lf
                         obtain ⟨ba, bc, rfl⟩ := own_slice own.b
                         obtain ⟨oa, oc, rfl⟩ := own_slice own.o
                         obtain ⟨bn, hbn⟩ : ∃ bn, bl.length = bn := ⟨_, rfl⟩
                         obtain ⟨on, hon⟩ : ∃ on, os.length = on := ⟨_, rfl⟩
                         simp only [hbn, hon] at hval own
                         obtain rfl : val = .agg #[.int .u64 fl, .int .u64 nx, .int .i64 cu, .int .i64 la, .slice ba bn bc, .slice oa on oc] := hval
                         have HBN := hide hbn
                         have HON := hide hon
                         have hs1 := HS.out.call g1 rd1
                         have HOW := hide own
                         have HG1 := hide g1.size
                         have q0 : u1.cell? ⟨w.heap.size, 0, none⟩ = some (.int .u64 0) := blk_cell hs1.lb 0 rfl
                         have f0 : u1.frozen? ⟨w.heap.size, 0, none⟩ = false := blk_free hs1.lb 0
                         have q1 : u1.cell? ⟨w.heap.size, 1, none⟩ = some (.int .u64 0) := blk_cell hs1.lb 1 rfl
                         have f1 : u1.frozen? ⟨w.heap.size, 1, none⟩ = false := blk_free hs1.lb 1
                         have q2 : u1.cell? ⟨w.heap.size, 2, none⟩ = some (.int .i64 0) := blk_cell hs1.lb 2 rfl
                         have f2 : u1.frozen? ⟨w.heap.size, 2, none⟩ = false := blk_free hs1.lb 2
                         have q3 : u1.cell? ⟨w.heap.size, 3, none⟩ = some (.int .i64 0) := blk_cell hs1.lb 3 rfl
                         have f3 : u1.frozen? ⟨w.heap.size, 3, none⟩ = false := blk_free hs1.lb 3
                         have q4 : u1.cell? ⟨w.heap.size, 4, none⟩ = some (.slice none 0 0) := blk_cell hs1.lb 4 rfl
                         have f4 : u1.frozen? ⟨w.heap.size, 4, none⟩ = false := blk_free hs1.lb 4
                         have q5 : u1.cell? ⟨w.heap.size, 5, none⟩ = some (.slice none 0 0) := blk_cell hs1.lb 5 rfl
                         have f5 : u1.frozen? ⟨w.heap.size, 5, none⟩ = false := blk_free hs1.lb 5
                         have HS1 := hide hs1
                         clear rd1 g1 own hs1 hbn hon)
  obtain ⟨k2, g2⟩ := over6 (.int .u64 fl) (.int .u64 nx) (.int .i64 cu) (.int .i64 la) (.slice ba bn bc) (.slice oa on oc) HS1.out.lb
  have hs2 := HS1.out.over g2 k2
  have hom := HOW.out.kept g2 (fun k hk => by cases hk; first | (simp; done) | (simp; omega))
  generalize ((((((u1.setCell ⟨w.heap.size, 0, none⟩ (.int .u64 fl)).setCell ⟨w.heap.size, 1, none⟩ (.int .u64 nx)).setCell ⟨w.heap.size, 2, none⟩ (.int .i64 cu)).setCell ⟨w.heap.size, 3, none⟩ (.int .i64 la)).setCell ⟨w.heap.size, 4, none⟩ (.slice ba bn bc)).setCell ⟨w.heap.size, 5, none⟩ (.slice oa on oc)) = u2 at k2 g2 hs2 hom ⊢
  clear q0 q1 q2 q3 q4 q5 f0 f1 f2 f3 f4 f5
  have HS2 := hide hs2
  have HOM := hide hom
  obtain ⟨b9, o9, c9, h9, _⟩ := hs2.rd
  have hl9 : u2.cell? ⟨w.heap.size + 2, 0, none⟩ = some (.slice (some ⟨b9, o9, none⟩) r.length c9) := blk_cell h9 0 rfl
  have q0 : u2.cell? ⟨w.heap.size, 0, none⟩ = some (.int .u64 fl) := blk_cell hs2.lb 0 rfl
  have f0 : u2.frozen? ⟨w.heap.size, 0, none⟩ = false := blk_free hs2.lb 0
  have q1 : u2.cell? ⟨w.heap.size, 1, none⟩ = some (.int .u64 nx) := blk_cell hs2.lb 1 rfl
  have f1 : u2.frozen? ⟨w.heap.size, 1, none⟩ = false := blk_free hs2.lb 1
  have q2 : u2.cell? ⟨w.heap.size, 2, none⟩ = some (.int .i64 cu) := blk_cell hs2.lb 2 rfl
  have f2 : u2.frozen? ⟨w.heap.size, 2, none⟩ = false := blk_free hs2.lb 2
  have q3 : u2.cell? ⟨w.heap.size, 3, none⟩ = some (.int .i64 la) := blk_cell hs2.lb 3 rfl
  have f3 : u2.frozen? ⟨w.heap.size, 3, none⟩ = false := blk_free hs2.lb 3
  have q4 : u2.cell? ⟨w.heap.size, 4, none⟩ = some (.slice ba bn bc) := blk_cell hs2.lb 4 rfl
  have f4 : u2.frozen? ⟨w.heap.size, 4, none⟩ = false := blk_free hs2.lb 4
  have q5 : u2.cell? ⟨w.heap.size, 5, none⟩ = some (.slice oa on oc) := blk_cell hs2.lb 5 rfl
  have f5 : u2.frozen? ⟨w.heap.size, 5, none⟩ = false := blk_free hs2.lb 5
  have q9 : u2.cell? ⟨w.heap.size + 1, 0, none⟩ = some (.int .i64 0) := blk_cell hs2.eb 0 rfl
  have f9 : u2.frozen? ⟨w.heap.size + 1, 0, none⟩ = false := blk_free hs2.eb 0
  clear hs2 hom k2 g2 h9
  have d8 : (0 : Int) < (r.length : Int) := by omega
  obtain ⟨rn, hrn⟩ : ∃ rn, r.length = rn := ⟨_, rfl⟩
  rw [hrn] at d8 hl9
  have HRN := hide hrn
  clear hrn hr
  go_wp2
  obtain ⟨k3, g3⟩ := over6 (.int .u64 0) (.int .u64 0) (.int .i64 0) (.int .i64 0) (.slice none 0 0) (.slice none 0 0) HS2.out.lb
  obtain ⟨h1, h2, h3⟩ := (HS2.out.over g3 k3).err 140
  generalize (((((((u2.setCell ⟨w.heap.size, 0, none⟩ (.int .u64 0)).setCell ⟨w.heap.size, 1, none⟩ (.int .u64 0)).setCell ⟨w.heap.size, 2, none⟩ (.int .i64 0)).setCell ⟨w.heap.size, 3, none⟩ (.int .i64 0)).setCell ⟨w.heap.size, 4, none⟩ (.slice none 0 0)).setCell ⟨w.heap.size, 5, none⟩ (.slice none 0 0)).setCell ⟨w.heap.size + 1, 0, none⟩ (.int .i64 140)) = W at h1 h2 h3 ⊢
  clear q0 q1 q2 q3 q4 q5 f0 f1 f2 f3 f4 f5 q9 f9
  have d0 : W.cell? ⟨w.heap.size, 0, none⟩ = some (.int .u64 0) := blk_cell h1 0 rfl
  have d1 : W.cell? ⟨w.heap.size, 1, none⟩ = some (.int .u64 0) := blk_cell h1 1 rfl
  have d2 : W.cell? ⟨w.heap.size, 2, none⟩ = some (.int .i64 0) := blk_cell h1 2 rfl
  have d3 : W.cell? ⟨w.heap.size, 3, none⟩ = some (.int .i64 0) := blk_cell h1 3 rfl
  have d4 : W.cell? ⟨w.heap.size, 4, none⟩ = some (.slice none 0 0) := blk_cell h1 4 rfl
  have d5 : W.cell? ⟨w.heap.size, 5, none⟩ = some (.slice none 0 0) := blk_cell h1 5 rfl
  have d9 : W.cell? ⟨w.heap.size + 1, 0, none⟩ = some (.int .i64 140) := blk_cell h2 0 rfl
  refine leaves_cons (f := 17) (args := #[.pointer (some ⟨w.heap.size, 0, none⟩), .pointer (some ⟨w.heap.size + 1, 0, none⟩)]) (by simp) (by simp [go_sem]) ?_
  refine (catch_idle ⟨w.heap.size, 0, none⟩ ⟨w.heap.size + 1, 0, none⟩ _).mono ?_
  rintro e u' w'' ⟨rfl, rfl, rfl⟩
  simp [Leaves, settle, results, Try.results6, go_sem, d0, d1, d2, d3, d4, d5, d9]
  exact h3

set_option maxHeartbeats 4000000 in
set_option maxRecDepth 100000 in
theorem read_bad (b off n c : Nat) (bs : List Int) (w : World) (hrow : Reads w (some ⟨b, off, none⟩) n bs) (hbw : b < w.heap.size) (hn : n ≤ 140737488355000) (hnc : n ≤ c) (hc : c ≤ 9223372036854775807) (s : St) (hp : stR bs = some (s, [])) (hm : mayS s = false) :
    Calls Try.prog 6 #[.slice (some ⟨b, off, none⟩) n c] w fun e w' => e = .returned (.tuple #[.agg #[.int .u64 0, .int .u64 0, .int .i64 0, .int .i64 0, .slice none 0 0, .slice none 0 0], .int .i64 140]) ∧ Below w.heap.size w w' := by
  have hmf : ∀ (fn : Fn) (first cap : Array Value) (w : World), (Instr.makeFunc fn first cap).run Try.prog w = .ok (.func fn first cap) w := fun _ _ _ _ => rfl
  have HS := hide (rs_start b off n c bs w hrow hbw hnc hc)
  have hl := hrow.1
  have HL := hide (show bs.length ≤ 140737488355000 by omega)
  have HP := hide hp
  clear hrow hp hl
  have HM := hide hm
  clear hm
  obtain ⟨fl, nx, cu, la, bl, os⟩ := s
  have HSZ := hide (state_sz HP.out HL.out)
  have HCH := hide (state_ch HP.out HL.out)
  go_enter_defers Try.func6, Try.ntmps6
  go_upto_region 4 with (go_at_call 18; refine (state_any w.heap.size (w.heap.size + 2) bs _ HS.out.rd HL.out).mono ?_; intro e u1 lf; rw [HP.out] at lf
                         obtain ⟨val, rfl, ⟨vb, vo, ls, hval, own⟩, rd1, g1⟩ := lf
                         obtain ⟨ba, bc, rfl⟩ := own_slice own.b
                         obtain ⟨oa, oc, rfl⟩ := own_slice own.o
                         obtain ⟨bn, hbn⟩ : ∃ bn, bl.length = bn := ⟨_, rfl⟩
                         obtain ⟨on, hon⟩ : ∃ on, os.length = on := ⟨_, rfl⟩
                         simp only [hbn, hon] at hval own
                         obtain rfl : val = .agg #[.int .u64 fl, .int .u64 nx, .int .i64 cu, .int .i64 la, .slice ba bn bc, .slice oa on oc] := hval
                         have HBN := hide hbn
                         have HON := hide hon
                         have hs1 := HS.out.call g1 rd1
                         have HOW := hide own
                         have HG1 := hide g1.size
                         have q0 : u1.cell? ⟨w.heap.size, 0, none⟩ = some (.int .u64 0) := blk_cell hs1.lb 0 rfl
                         have f0 : u1.frozen? ⟨w.heap.size, 0, none⟩ = false := blk_free hs1.lb 0
                         have q1 : u1.cell? ⟨w.heap.size, 1, none⟩ = some (.int .u64 0) := blk_cell hs1.lb 1 rfl
                         have f1 : u1.frozen? ⟨w.heap.size, 1, none⟩ = false := blk_free hs1.lb 1
                         have q2 : u1.cell? ⟨w.heap.size, 2, none⟩ = some (.int .i64 0) := blk_cell hs1.lb 2 rfl
                         have f2 : u1.frozen? ⟨w.heap.size, 2, none⟩ = false := blk_free hs1.lb 2
                         have q3 : u1.cell? ⟨w.heap.size, 3, none⟩ = some (.int .i64 0) := blk_cell hs1.lb 3 rfl
                         have f3 : u1.frozen? ⟨w.heap.size, 3, none⟩ = false := blk_free hs1.lb 3
                         have q4 : u1.cell? ⟨w.heap.size, 4, none⟩ = some (.slice none 0 0) := blk_cell hs1.lb 4 rfl
                         have f4 : u1.frozen? ⟨w.heap.size, 4, none⟩ = false := blk_free hs1.lb 4
                         have q5 : u1.cell? ⟨w.heap.size, 5, none⟩ = some (.slice none 0 0) := blk_cell hs1.lb 5 rfl
                         have f5 : u1.frozen? ⟨w.heap.size, 5, none⟩ = false := blk_free hs1.lb 5
                         have HS1 := hide hs1
                         clear rd1 g1 own hs1 hbn hon)
  obtain ⟨k2, g2⟩ := over6 (.int .u64 fl) (.int .u64 nx) (.int .i64 cu) (.int .i64 la) (.slice ba bn bc) (.slice oa on oc) HS1.out.lb
  have hs2 := HS1.out.over g2 k2
  have hom := HOW.out.kept g2 (fun k hk => by cases hk; first | (simp; done) | (simp; omega))
  generalize ((((((u1.setCell ⟨w.heap.size, 0, none⟩ (.int .u64 fl)).setCell ⟨w.heap.size, 1, none⟩ (.int .u64 nx)).setCell ⟨w.heap.size, 2, none⟩ (.int .i64 cu)).setCell ⟨w.heap.size, 3, none⟩ (.int .i64 la)).setCell ⟨w.heap.size, 4, none⟩ (.slice ba bn bc)).setCell ⟨w.heap.size, 5, none⟩ (.slice oa on oc)) = u2 at k2 g2 hs2 hom ⊢
  clear q0 q1 q2 q3 q4 q5 f0 f1 f2 f3 f4 f5
  have HS2 := hide hs2
  have HOM := hide hom
  obtain ⟨b9, o9, c9, h9, _⟩ := hs2.rd
  have hl9 : u2.cell? ⟨w.heap.size + 2, 0, none⟩ = some (.slice (some ⟨b9, o9, none⟩) (0 : Nat) c9) := blk_cell h9 0 rfl
  have q0 : u2.cell? ⟨w.heap.size, 0, none⟩ = some (.int .u64 fl) := blk_cell hs2.lb 0 rfl
  have f0 : u2.frozen? ⟨w.heap.size, 0, none⟩ = false := blk_free hs2.lb 0
  have q1 : u2.cell? ⟨w.heap.size, 1, none⟩ = some (.int .u64 nx) := blk_cell hs2.lb 1 rfl
  have f1 : u2.frozen? ⟨w.heap.size, 1, none⟩ = false := blk_free hs2.lb 1
  have q2 : u2.cell? ⟨w.heap.size, 2, none⟩ = some (.int .i64 cu) := blk_cell hs2.lb 2 rfl
  have f2 : u2.frozen? ⟨w.heap.size, 2, none⟩ = false := blk_free hs2.lb 2
  have q3 : u2.cell? ⟨w.heap.size, 3, none⟩ = some (.int .i64 la) := blk_cell hs2.lb 3 rfl
  have f3 : u2.frozen? ⟨w.heap.size, 3, none⟩ = false := blk_free hs2.lb 3
  have q4 : u2.cell? ⟨w.heap.size, 4, none⟩ = some (.slice ba bn bc) := blk_cell hs2.lb 4 rfl
  have f4 : u2.frozen? ⟨w.heap.size, 4, none⟩ = false := blk_free hs2.lb 4
  have q5 : u2.cell? ⟨w.heap.size, 5, none⟩ = some (.slice oa on oc) := blk_cell hs2.lb 5 rfl
  have f5 : u2.frozen? ⟨w.heap.size, 5, none⟩ = false := blk_free hs2.lb 5
  have q9 : u2.cell? ⟨w.heap.size + 1, 0, none⟩ = some (.int .i64 0) := blk_cell hs2.eb 0 rfl
  have f9 : u2.frozen? ⟨w.heap.size + 1, 0, none⟩ = false := blk_free hs2.eb 0
  clear hs2 hom k2 g2 h9
  have hlen : ∀ x ∈ ls, x.1.ch.length ≤ 140737488355000 := fun x hx => HCH.out x.1 (by have h1 := HOM.out.os; simp only at h1 ⊢; rw [← h1]; exact List.mem_map_of_mem hx)
  obtain ⟨ba', bc', oa', oc', e1, e2, hon2⟩ := HOM.out.on HSZ.out hlen
  simp only [HBN.out, HON.out] at e1 e2 hon2
  cases e1
  cases e2
  have HST := hide hon2
  clear hon2 hlen
  go_wp2_with (go_at_call 19; refine (may19 ⟨fl, nx, cu, la, bl, os⟩ ba oa bn on bc oc ls _ HST.out).mono ?_; rintro e u3 ⟨rfl, b3⟩; rw [HM.out]; have hs3 := HS2.out.below b3; clear q0 q1 q2 q3 q4 q5 f0 f1 f2 f3 f4 f5 q9 f9; have q0 : u3.cell? ⟨w.heap.size, 0, none⟩ = some (.int .u64 fl) := blk_cell hs3.lb 0 rfl; have f0 : u3.frozen? ⟨w.heap.size, 0, none⟩ = false := blk_free hs3.lb 0; have q1 : u3.cell? ⟨w.heap.size, 1, none⟩ = some (.int .u64 nx) := blk_cell hs3.lb 1 rfl; have f1 : u3.frozen? ⟨w.heap.size, 1, none⟩ = false := blk_free hs3.lb 1; have q2 : u3.cell? ⟨w.heap.size, 2, none⟩ = some (.int .i64 cu) := blk_cell hs3.lb 2 rfl; have f2 : u3.frozen? ⟨w.heap.size, 2, none⟩ = false := blk_free hs3.lb 2; have q3 : u3.cell? ⟨w.heap.size, 3, none⟩ = some (.int .i64 la) := blk_cell hs3.lb 3 rfl; have f3 : u3.frozen? ⟨w.heap.size, 3, none⟩ = false := blk_free hs3.lb 3; have q4 : u3.cell? ⟨w.heap.size, 4, none⟩ = some (.slice ba bn bc) := blk_cell hs3.lb 4 rfl; have f4 : u3.frozen? ⟨w.heap.size, 4, none⟩ = false := blk_free hs3.lb 4; have q5 : u3.cell? ⟨w.heap.size, 5, none⟩ = some (.slice oa on oc) := blk_cell hs3.lb 5 rfl; have f5 : u3.frozen? ⟨w.heap.size, 5, none⟩ = false := blk_free hs3.lb 5; have q9 : u3.cell? ⟨w.heap.size + 1, 0, none⟩ = some (.int .i64 0) := blk_cell hs3.eb 0 rfl; have f9 : u3.frozen? ⟨w.heap.size + 1, 0, none⟩ = false := blk_free hs3.eb 0; have HS3 := hide hs3; have HOM3 := hide (HOM.out.kept (grown_of b3 none) (fun k hk => by cases hk)); clear b3 hs3)
  obtain ⟨k3, g3⟩ := over6 (.int .u64 0) (.int .u64 0) (.int .i64 0) (.int .i64 0) (.slice none 0 0) (.slice none 0 0) HS3.out.lb
  obtain ⟨h1, h2, h3⟩ := (HS3.out.over g3 k3).err 140
  generalize (((((((u3.setCell ⟨w.heap.size, 0, none⟩ (.int .u64 0)).setCell ⟨w.heap.size, 1, none⟩ (.int .u64 0)).setCell ⟨w.heap.size, 2, none⟩ (.int .i64 0)).setCell ⟨w.heap.size, 3, none⟩ (.int .i64 0)).setCell ⟨w.heap.size, 4, none⟩ (.slice none 0 0)).setCell ⟨w.heap.size, 5, none⟩ (.slice none 0 0)).setCell ⟨w.heap.size + 1, 0, none⟩ (.int .i64 140)) = W at h1 h2 h3 ⊢
  clear q0 q1 q2 q3 q4 q5 f0 f1 f2 f3 f4 f5 q9 f9
  have d0 : W.cell? ⟨w.heap.size, 0, none⟩ = some (.int .u64 0) := blk_cell h1 0 rfl
  have d1 : W.cell? ⟨w.heap.size, 1, none⟩ = some (.int .u64 0) := blk_cell h1 1 rfl
  have d2 : W.cell? ⟨w.heap.size, 2, none⟩ = some (.int .i64 0) := blk_cell h1 2 rfl
  have d3 : W.cell? ⟨w.heap.size, 3, none⟩ = some (.int .i64 0) := blk_cell h1 3 rfl
  have d4 : W.cell? ⟨w.heap.size, 4, none⟩ = some (.slice none 0 0) := blk_cell h1 4 rfl
  have d5 : W.cell? ⟨w.heap.size, 5, none⟩ = some (.slice none 0 0) := blk_cell h1 5 rfl
  have d9 : W.cell? ⟨w.heap.size + 1, 0, none⟩ = some (.int .i64 140) := blk_cell h2 0 rfl
  refine leaves_cons (f := 17) (args := #[.pointer (some ⟨w.heap.size, 0, none⟩), .pointer (some ⟨w.heap.size + 1, 0, none⟩)]) (by simp) (by simp [go_sem]) ?_
  refine (catch_idle ⟨w.heap.size, 0, none⟩ ⟨w.heap.size + 1, 0, none⟩ _).mono ?_
  rintro e u' w'' ⟨rfl, rfl, rfl⟩
  simp [Leaves, settle, results, Try.results6, go_sem, d0, d1, d2, d3, d4, d5, d9]
  exact h3

set_option maxHeartbeats 4000000 in
set_option maxRecDepth 100000 in
theorem read_fine (b off n c : Nat) (bs : List Int) (w : World) (hrow : Reads w (some ⟨b, off, none⟩) n bs) (hbw : b < w.heap.size) (hn : n ≤ 140737488355000) (hnc : n ≤ c) (hc : c ≤ 9223372036854775807) (s : St) (hp : stR bs = some (s, [])) (hm : mayS s = true) :
    Calls Try.prog 6 #[.slice (some ⟨b, off, none⟩) n c] w fun e w' => (∃ ba bn bc oa on oc ls, e = .returned (.tuple #[.agg #[.int .u64 s.fl, .int .u64 s.nx, .int .i64 s.cu, .int .i64 s.la, .slice ba bn bc, .slice oa on oc], .int .i64 0]) ∧ StOwn w' w.heap.size s (.slice ba bn bc) (.slice oa on oc) ls) ∧ Below w.heap.size w w' := by
  have hmf : ∀ (fn : Fn) (first cap : Array Value) (w : World), (Instr.makeFunc fn first cap).run Try.prog w = .ok (.func fn first cap) w := fun _ _ _ _ => rfl
  have HS := hide (rs_start b off n c bs w hrow hbw hnc hc)
  have hl := hrow.1
  have HL := hide (show bs.length ≤ 140737488355000 by omega)
  have HP := hide hp
  clear hrow hp hl
  have HM := hide hm
  clear hm
  obtain ⟨fl, nx, cu, la, bl, os⟩ := s
  have HSZ := hide (state_sz HP.out HL.out)
  have HCH := hide (state_ch HP.out HL.out)
  go_enter_defers Try.func6, Try.ntmps6
  go_upto_region 4 with (go_at_call 18; refine (state_any w.heap.size (w.heap.size + 2) bs _ HS.out.rd HL.out).mono ?_; intro e u1 lf; rw [HP.out] at lf
                         obtain ⟨val, rfl, ⟨vb, vo, ls, hval, own⟩, rd1, g1⟩ := lf
                         obtain ⟨ba, bc, rfl⟩ := own_slice own.b
                         obtain ⟨oa, oc, rfl⟩ := own_slice own.o
                         obtain ⟨bn, hbn⟩ : ∃ bn, bl.length = bn := ⟨_, rfl⟩
                         obtain ⟨on, hon⟩ : ∃ on, os.length = on := ⟨_, rfl⟩
                         simp only [hbn, hon] at hval own
                         obtain rfl : val = .agg #[.int .u64 fl, .int .u64 nx, .int .i64 cu, .int .i64 la, .slice ba bn bc, .slice oa on oc] := hval
                         have HBN := hide hbn
                         have HON := hide hon
                         have hs1 := HS.out.call g1 rd1
                         have HOW := hide own
                         have HG1 := hide g1.size
                         have q0 : u1.cell? ⟨w.heap.size, 0, none⟩ = some (.int .u64 0) := blk_cell hs1.lb 0 rfl
                         have f0 : u1.frozen? ⟨w.heap.size, 0, none⟩ = false := blk_free hs1.lb 0
                         have q1 : u1.cell? ⟨w.heap.size, 1, none⟩ = some (.int .u64 0) := blk_cell hs1.lb 1 rfl
                         have f1 : u1.frozen? ⟨w.heap.size, 1, none⟩ = false := blk_free hs1.lb 1
                         have q2 : u1.cell? ⟨w.heap.size, 2, none⟩ = some (.int .i64 0) := blk_cell hs1.lb 2 rfl
                         have f2 : u1.frozen? ⟨w.heap.size, 2, none⟩ = false := blk_free hs1.lb 2
                         have q3 : u1.cell? ⟨w.heap.size, 3, none⟩ = some (.int .i64 0) := blk_cell hs1.lb 3 rfl
                         have f3 : u1.frozen? ⟨w.heap.size, 3, none⟩ = false := blk_free hs1.lb 3
                         have q4 : u1.cell? ⟨w.heap.size, 4, none⟩ = some (.slice none 0 0) := blk_cell hs1.lb 4 rfl
                         have f4 : u1.frozen? ⟨w.heap.size, 4, none⟩ = false := blk_free hs1.lb 4
                         have q5 : u1.cell? ⟨w.heap.size, 5, none⟩ = some (.slice none 0 0) := blk_cell hs1.lb 5 rfl
                         have f5 : u1.frozen? ⟨w.heap.size, 5, none⟩ = false := blk_free hs1.lb 5
                         have HS1 := hide hs1
                         clear rd1 g1 own hs1 hbn hon)
  obtain ⟨k2, g2⟩ := over6 (.int .u64 fl) (.int .u64 nx) (.int .i64 cu) (.int .i64 la) (.slice ba bn bc) (.slice oa on oc) HS1.out.lb
  have hs2 := HS1.out.over g2 k2
  have hom := HOW.out.kept g2 (fun k hk => by cases hk; first | (simp; done) | (simp; omega))
  generalize ((((((u1.setCell ⟨w.heap.size, 0, none⟩ (.int .u64 fl)).setCell ⟨w.heap.size, 1, none⟩ (.int .u64 nx)).setCell ⟨w.heap.size, 2, none⟩ (.int .i64 cu)).setCell ⟨w.heap.size, 3, none⟩ (.int .i64 la)).setCell ⟨w.heap.size, 4, none⟩ (.slice ba bn bc)).setCell ⟨w.heap.size, 5, none⟩ (.slice oa on oc)) = u2 at k2 g2 hs2 hom ⊢
  clear q0 q1 q2 q3 q4 q5 f0 f1 f2 f3 f4 f5
  have HS2 := hide hs2
  have HOM := hide hom
  obtain ⟨b9, o9, c9, h9, _⟩ := hs2.rd
  have hl9 : u2.cell? ⟨w.heap.size + 2, 0, none⟩ = some (.slice (some ⟨b9, o9, none⟩) (0 : Nat) c9) := blk_cell h9 0 rfl
  have q0 : u2.cell? ⟨w.heap.size, 0, none⟩ = some (.int .u64 fl) := blk_cell hs2.lb 0 rfl
  have f0 : u2.frozen? ⟨w.heap.size, 0, none⟩ = false := blk_free hs2.lb 0
  have q1 : u2.cell? ⟨w.heap.size, 1, none⟩ = some (.int .u64 nx) := blk_cell hs2.lb 1 rfl
  have f1 : u2.frozen? ⟨w.heap.size, 1, none⟩ = false := blk_free hs2.lb 1
  have q2 : u2.cell? ⟨w.heap.size, 2, none⟩ = some (.int .i64 cu) := blk_cell hs2.lb 2 rfl
  have f2 : u2.frozen? ⟨w.heap.size, 2, none⟩ = false := blk_free hs2.lb 2
  have q3 : u2.cell? ⟨w.heap.size, 3, none⟩ = some (.int .i64 la) := blk_cell hs2.lb 3 rfl
  have f3 : u2.frozen? ⟨w.heap.size, 3, none⟩ = false := blk_free hs2.lb 3
  have q4 : u2.cell? ⟨w.heap.size, 4, none⟩ = some (.slice ba bn bc) := blk_cell hs2.lb 4 rfl
  have f4 : u2.frozen? ⟨w.heap.size, 4, none⟩ = false := blk_free hs2.lb 4
  have q5 : u2.cell? ⟨w.heap.size, 5, none⟩ = some (.slice oa on oc) := blk_cell hs2.lb 5 rfl
  have f5 : u2.frozen? ⟨w.heap.size, 5, none⟩ = false := blk_free hs2.lb 5
  have q9 : u2.cell? ⟨w.heap.size + 1, 0, none⟩ = some (.int .i64 0) := blk_cell hs2.eb 0 rfl
  have f9 : u2.frozen? ⟨w.heap.size + 1, 0, none⟩ = false := blk_free hs2.eb 0
  clear hs2 hom k2 g2 h9
  have hlen : ∀ x ∈ ls, x.1.ch.length ≤ 140737488355000 := fun x hx => HCH.out x.1 (by have h1 := HOM.out.os; simp only at h1 ⊢; rw [← h1]; exact List.mem_map_of_mem hx)
  obtain ⟨ba', bc', oa', oc', e1, e2, hon2⟩ := HOM.out.on HSZ.out hlen
  simp only [HBN.out, HON.out] at e1 e2 hon2
  cases e1
  cases e2
  have HST := hide hon2
  clear hon2 hlen
  go_wp2_with (go_at_call 19; refine (may19 ⟨fl, nx, cu, la, bl, os⟩ ba oa bn on bc oc ls _ HST.out).mono ?_; rintro e u3 ⟨rfl, b3⟩; rw [HM.out]; have hs3 := HS2.out.below b3; clear q0 q1 q2 q3 q4 q5 f0 f1 f2 f3 f4 f5 q9 f9; have q0 : u3.cell? ⟨w.heap.size, 0, none⟩ = some (.int .u64 fl) := blk_cell hs3.lb 0 rfl; have f0 : u3.frozen? ⟨w.heap.size, 0, none⟩ = false := blk_free hs3.lb 0; have q1 : u3.cell? ⟨w.heap.size, 1, none⟩ = some (.int .u64 nx) := blk_cell hs3.lb 1 rfl; have f1 : u3.frozen? ⟨w.heap.size, 1, none⟩ = false := blk_free hs3.lb 1; have q2 : u3.cell? ⟨w.heap.size, 2, none⟩ = some (.int .i64 cu) := blk_cell hs3.lb 2 rfl; have f2 : u3.frozen? ⟨w.heap.size, 2, none⟩ = false := blk_free hs3.lb 2; have q3 : u3.cell? ⟨w.heap.size, 3, none⟩ = some (.int .i64 la) := blk_cell hs3.lb 3 rfl; have f3 : u3.frozen? ⟨w.heap.size, 3, none⟩ = false := blk_free hs3.lb 3; have q4 : u3.cell? ⟨w.heap.size, 4, none⟩ = some (.slice ba bn bc) := blk_cell hs3.lb 4 rfl; have f4 : u3.frozen? ⟨w.heap.size, 4, none⟩ = false := blk_free hs3.lb 4; have q5 : u3.cell? ⟨w.heap.size, 5, none⟩ = some (.slice oa on oc) := blk_cell hs3.lb 5 rfl; have f5 : u3.frozen? ⟨w.heap.size, 5, none⟩ = false := blk_free hs3.lb 5; have q9 : u3.cell? ⟨w.heap.size + 1, 0, none⟩ = some (.int .i64 0) := blk_cell hs3.eb 0 rfl; have f9 : u3.frozen? ⟨w.heap.size + 1, 0, none⟩ = false := blk_free hs3.eb 0; have HS3 := hide hs3; have HOM3 := hide (HOM.out.kept (grown_of b3 none) (fun k hk => by cases hk)); clear b3 hs3)
  obtain ⟨k3, g3⟩ := over6 (.int .u64 fl) (.int .u64 nx) (.int .i64 cu) (.int .i64 la) (.slice ba bn bc) (.slice oa on oc) HS3.out.lb
  obtain ⟨h1, h2, h3⟩ := (HS3.out.over g3 k3).err 0
  have h4 := HOM3.out.kept g3 (fun k hk => by cases hk; first | (simp; done) | (simp; omega))
  have h5 := h4.kept (set_grown _ (w.heap.size + 1) 0 (.int .i64 0)) (fun k hk => by cases hk; first | (simp; done) | (simp; omega))
  have h6 := h5.low (C := w.heap.size) (by first | (simp; done) | (simp; omega))
  clear h4 h5
  generalize (((((((u3.setCell ⟨w.heap.size, 0, none⟩ (.int .u64 fl)).setCell ⟨w.heap.size, 1, none⟩ (.int .u64 nx)).setCell ⟨w.heap.size, 2, none⟩ (.int .i64 cu)).setCell ⟨w.heap.size, 3, none⟩ (.int .i64 la)).setCell ⟨w.heap.size, 4, none⟩ (.slice ba bn bc)).setCell ⟨w.heap.size, 5, none⟩ (.slice oa on oc)).setCell ⟨w.heap.size + 1, 0, none⟩ (.int .i64 0)) = W at h1 h2 h3 h6 ⊢
  clear q0 q1 q2 q3 q4 q5 f0 f1 f2 f3 f4 f5 q9 f9
  have d0 : W.cell? ⟨w.heap.size, 0, none⟩ = some (.int .u64 fl) := blk_cell h1 0 rfl
  have d1 : W.cell? ⟨w.heap.size, 1, none⟩ = some (.int .u64 nx) := blk_cell h1 1 rfl
  have d2 : W.cell? ⟨w.heap.size, 2, none⟩ = some (.int .i64 cu) := blk_cell h1 2 rfl
  have d3 : W.cell? ⟨w.heap.size, 3, none⟩ = some (.int .i64 la) := blk_cell h1 3 rfl
  have d4 : W.cell? ⟨w.heap.size, 4, none⟩ = some (.slice ba bn bc) := blk_cell h1 4 rfl
  have d5 : W.cell? ⟨w.heap.size, 5, none⟩ = some (.slice oa on oc) := blk_cell h1 5 rfl
  have d9 : W.cell? ⟨w.heap.size + 1, 0, none⟩ = some (.int .i64 0) := blk_cell h2 0 rfl
  refine leaves_cons (f := 17) (args := #[.pointer (some ⟨w.heap.size, 0, none⟩), .pointer (some ⟨w.heap.size + 1, 0, none⟩)]) (by simp) (by simp [go_sem]) ?_
  refine (catch_idle ⟨w.heap.size, 0, none⟩ ⟨w.heap.size + 1, 0, none⟩ _).mono ?_
  rintro e u' w'' ⟨rfl, rfl, rfl⟩
  have H6 := hide h6
  clear h6
  simp [Leaves, settle, results, Try.results6, go_sem, d0, d1, d2, d3, d4, d5, d9]
  exact ⟨⟨ba, bn, bc, oa, on, oc, ⟨⟨rfl, rfl, rfl⟩, rfl, rfl, rfl⟩, ls, H6.out⟩, h3⟩

theorem read_any (b off n c : Nat) (bs : List Int) (w : World) (hrow : Reads w (some ⟨b, off, none⟩) n bs) (hbw : b < w.heap.size) (hn : n ≤ 140737488355000) (hnc : n ≤ c) (hc : c ≤ 9223372036854775807) :
    Calls Try.prog 6 #[.slice (some ⟨b, off, none⟩) n c] w fun e w' => RdV w bs e w' ∧ Below w.heap.size w w' := by
  rcases hp : stR bs with _ | ⟨s, r⟩
  · refine (read_none b off n c bs w hrow hbw hn hnc hc hp).mono ?_
    rintro e w' ⟨rfl, hb⟩
    exact ⟨by unfold RdV readR; rw [hp], hb⟩
  · cases r with
    | cons x r =>
      refine (read_rest b off n c bs w hrow hbw hn hnc hc s (x :: r) hp (by simp)).mono ?_
      rintro e w' ⟨rfl, hb⟩
      exact ⟨by unfold RdV readR; rw [hp], hb⟩
    | nil =>
      cases hm : mayS s with
      | false =>
        refine (read_bad b off n c bs w hrow hbw hn hnc hc s hp hm).mono ?_
        rintro e w' ⟨rfl, hb⟩
        exact ⟨by unfold RdV readR; rw [hp]; simp [hm], hb⟩
      | true =>
        refine (read_fine b off n c bs w hrow hbw hn hnc hc s hp hm).mono ?_
        rintro e w' ⟨h, hb⟩
        exact ⟨by unfold RdV readR; rw [hp]; simp only [hm, if_true]; exact h, hb⟩
end Go.Proofs.Ytoaahellfflooaa
