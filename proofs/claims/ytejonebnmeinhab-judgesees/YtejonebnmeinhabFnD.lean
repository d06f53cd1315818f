/-
  SEAT Ytejonebnmeinhab: judge.New of what may be.
-/
import Derived.Test.YtejonebnmeinhabFnC
namespace Go.Proofs.Ytejonebnmeinhab
open Go.RowKit
set_option linter.unusedVariables false

/-- A judge lies in block gj, its map in block bm. -/
structure JudgeAt (w : World) (gj : Nat) (b p s : Int) (bm : Nat) (st : List Blk) : Prop where
  c0 : w.cell? ⟨gj, 0, none⟩ = some (.int .i64 b)
  c1 : w.cell? ⟨gj, 1, none⟩ = some (.int .i64 p)
  c2 : w.cell? ⟨gj, 2, none⟩ = some (.int .i64 s)
  c3 : w.cell? ⟨gj, 3, none⟩ = some (.map (some bm))
  knows : Knows w bm st
  ne : gj ≠ bm

def firstN (clean : Bool) (p : Int) : Int := if clean then 0 else p
def start (clean : Bool) (p : Int) (bs : List Bool) : List Blk := bs.map fun m => ⟨m, firstN clean p, 0⟩

theorem start_take (clean : Bool) (p : Int) (bs : List Bool) (k : Nat) (h : k < bs.length) : (start clean p bs).take k ++ [⟨bs.getD k false, firstN clean p, 0⟩] = (start clean p bs).take (k + 1) := by
  have hl : k < (start clean p bs).length := by simpa [start] using h
  rw [List.take_succ_eq_append_getElem hl]
  simp [start, List.getD_eq_getElem?_getD, List.getElem?_eq_getElem h]

theorem makeMap_len (n : Nat) (u : World) (hn : n ≤ 100000) : (Instr.makeMap 146 (some (.int .i64 (n : Int)))).run Try.prog u = .ok (.map (some u.heap.size)) (u.alloc (.map #[] 0)) := by
  simp [Instr.makeMap, asInt, asIntOf, Result.andThen]

set_option maxHeartbeats 1000000 in
theorem new_ok (b p s : Int) (a : Option Addr) (len cap : Nat) (bs : List Bool) (clean : Bool) (w : World) (hE : newE b p s len = 0) (h : ReadsB w a len bs) :
    Calls Try.prog 25 #[.agg #[.int .i64 b, .int .i64 p, .int .i64 s], .slice a len cap, .bool clean] w fun e w' => ∃ gj bm, e = .returned (.tuple #[.pointer (some ⟨gj, 0, none⟩), .int .i64 0]) ∧ JudgeAt w' gj b p s bm (start clean p bs) ∧ Below w.heap.size w w' ∧ w.heap.size ≤ gj ∧ w.heap.size ≤ bm := by
  have hb0 : Below w.heap.size w (w.alloc (.cells #[.int .i64 b, .int .i64 p, .int .i64 s] 23)) := (Below.refl _ _).alloc (Nat.le_refl _) _
  have hlen := h.1
  have hf : Fits b p s = true := by
    cases hf : Fits b p s with
    | true => rfl
    | false => simp [newE, hf] at hE
  have hb : (len : Int) = b := by
    by_cases hb : (len : Int) = b
    · exact hb
    · simp [newE, hf, hb] at hE
  have hbd := fits_b hf
  obtain ⟨q, hq⟩ : ∃ q, firstN clean p = q := ⟨_, rfl⟩
  have hst : (start clean p bs).length = len := by simp [start, hlen]
  subst hb
  have hmm : ∀ u : World, (Instr.makeMap 146 (some (.int .i64 (len : Int)))).run Try.prog u = .ok (.map (some u.heap.size)) (u.alloc (.map #[] 0)) := fun u => makeMap_len len u (by omega)
  obtain ⟨Q, hQ⟩ : ∃ Q, start clean p bs = Q := ⟨_, rfl⟩
  have hQs : Hid (∀ k, k < len → Q.take k ++ [⟨bs.getD k false, q, 0⟩] = Q.take (k + 1)) := fun k hk => by rw [← hQ, ← hq]; exact start_take clean p bs k (by omega)
  rw [hQ] at hst ⊢
  have hqc : clean = true ∧ q = 0 ∨ clean = false ∧ q = p := by
    rw [← hq]; cases clean <;> simp [firstN]
  clear hq hQ
  rcases hqc with ⟨rfl, rfl⟩ | ⟨rfl, rfl⟩
  all_goals
    go_enter Try.func25, Try.ntmps25
    go_wp2_with (first
      | (go_at_call 79; refine (mayBe_any _ _ _ _).mono ?_; rintro e u1 ⟨rfl, bel1⟩; rw [hf]; obtain ⟨c0, c1, c2⟩ := box3 bel1; have belw := below_trans hb0 bel1; have hrd := h.below belw))
    have hsz : w.heap.size < u1.heap.size := by have := bel1.size; simp at this; omega
    have hk0 := knows_made u1
    go_loopw [28] (fun i wr => ∃ k : Nat, k ≤ len ∧ i = .int .i64 k ∧ Knows wr u1.heap.size (Q.take k) ∧ Below u1.heap.size u1 wr)
      (fun i _ => len - (intOf i).toNat)
    case atStart => exact ⟨0, Nat.zero_le _, rfl, by simpa using hk0, (Below.refl u1.heap.size u1).alloc (Nat.le_refl _) _⟩
    case round =>
      obtain ⟨k, hk, rfl, hkn, hbel⟩ := hrel
      by_cases hlt : k < len
      · obtain ⟨g, off, rfl, hg, hcell⟩ := hrd.pos (by omega)
        obtain ⟨m, hm⟩ : ∃ m, m = bs.getD k false := ⟨_, rfl⟩
        have hcx : ‹World›.cell? ⟨g, off + k, none⟩ = some (.bool m) := by rw [hm]; exact (hbel.cell hg).trans (hcell k hlt)
        have hs2 := hQs.out k hlt
        rw [← hm] at hs2
        obtain ⟨w2, hrun, hk2, hg2⟩ := hkn.add (by rw [List.length_take]; omega) ⟨m, _, 0⟩
        rw [hs2] at hk2
        rw [show (Q.take k).length = k by rw [List.length_take]; omega] at hrun
        simp only [Blk.val] at hrun
        have hbel2 := hbel.grown hg2 hbel.size (fun j hj => by cases hj; exact Nat.le_refl _)
        have HK : Hid (Knows _ _ _) := hk2
        have HB : Hid (Below _ _ _) := hbel2
        clear hk2 hbel2 hg2 hkn hs2 hcell hm hk0 hrd h
        go_wp2
        go_roundw
        case rel => exact ⟨k + 1, by omega, by go_num, HK.out, HB.out⟩
        case measure => simp [intOf]; omega
      · have hkl : k = len := by omega
        subst hkl
        rw [List.take_of_length_le (by omega)] at hkn
        have d0 := (hbel.cell (p := ⟨w.heap.size, 0, none⟩) hsz).trans c0
        have d1 := (hbel.cell (p := ⟨w.heap.size, 1, none⟩) hsz).trans c1
        have d2 := (hbel.cell (p := ⟨w.heap.size, 2, none⟩) hsz).trans c2
        have hs3 := hbel.size
        have hkl := hkn.lt
        go_wp2
        go_ret2
        have bF := below_trans belw hbel
        refine ⟨_, u1.heap.size, rfl, ⟨by simp, by simp, by simp, by simp, hkn.grown (World.grownBy_alloc _ _ none) (by simp), ?_⟩, bF.alloc (by omega) _, ?_, ?_⟩ <;> omega
end Go.Proofs.Ytejonebnmeinhab
