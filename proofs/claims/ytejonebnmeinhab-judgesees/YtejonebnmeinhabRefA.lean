/-
  SEAT Ytejonebnmeinhab: the reference's marked, next.
-/
import Derived.Test.YtejonebnmeinhabFnG
namespace Go.Proofs.Ytejonebnmeinhab
open Go.RowKit
set_option linter.unusedVariables false

/-- The reference's judge lies in block gr: what is read of it. -/
structure RefAt (w : World) (gr : Nat) (b p s : Int) (am : Option Addr) (lm km : Nat) (bs : List Bool) (clean : Bool) (ac : Option Addr) (n kc : Nat) (seen : List Cmd) : Prop where
  c0 : w.cell? ⟨gr, 0, none⟩ = some (.int .i64 b)
  c1 : w.cell? ⟨gr, 1, none⟩ = some (.int .i64 p)
  c2 : w.cell? ⟨gr, 2, none⟩ = some (.int .i64 s)
  c3 : w.cell? ⟨gr, 3, none⟩ = some (.slice am lm km)
  c4 : w.cell? ⟨gr, 4, none⟩ = some (.bool clean)
  c5 : w.cell? ⟨gr, 5, none⟩ = some (.slice ac n kc)
  marks : ReadsB w am lm bs
  seen : ReadsC w ac n seen

/-- Is a block marked by these commands? -/
def isMark (blk : Int) (c : Cmd) : Bool := decide (c.k = 3 ∧ c.b = blk ∧ c.s = 0)
def markedR (m : Bool) (seen : List Cmd) (blk : Int) : Bool := m || seen.any (isMark blk)

theorem any_take (f : Cmd → Bool) (cs : List Cmd) (k : Nat) (h : k < cs.length) : (cs.take (k + 1)).any f = ((cs.take k).any f || f (cs.getD k Cmd.none)) := by
  have e : cs.getD k Cmd.none = cs[k] := by simp [List.getD_eq_getElem?_getD, List.getElem?_eq_getElem h]
  rw [List.take_succ_eq_append_getElem h, List.any_append, e]
  simp only [List.any_cons, List.any_nil, Bool.or_false]

theorem any_of_take {f : Cmd → Bool} {cs : List Cmd} {k : Nat} (h : k < cs.length) (hf : f (cs.getD k Cmd.none) = true) : cs.any f = true := by
  rw [List.any_eq_true]
  refine ⟨cs.getD k Cmd.none, ?_, hf⟩
  rw [List.getD_eq_getElem?_getD, List.getElem?_eq_getElem h]
  exact List.getElem_mem h

set_option maxHeartbeats 1000000 in
theorem marked_any (gr : Nat) (b p s : Int) (am : Option Addr) (lm km : Nat) (bs : List Bool) (clean : Bool) (ac : Option Addr) (n kc : Nat) (seen : List Cmd) (blk : Nat) (w : World) (h : RefAt w gr b p s am lm km bs clean ac n kc seen) (hb : blk < lm) (hn : n ≤ 140737488355000) (hlm : lm ≤ 100000) :
    Calls Try.prog 84 #[.pointer (some ⟨gr, 0, none⟩), .int .i64 (blk : Int)] w fun e w' => e = .returned (.bool (markedR (bs.getD blk false) seen blk)) ∧ w = w' := by
  obtain ⟨c0, c1, c2, c3, c4, c5, hm, hs⟩ := h
  obtain ⟨g, off, rfl, hg, hcell⟩ := hm.pos (by omega)
  have hmk := hcell blk hb
  have hlen := hs.1
  unfold markedR
  cases hbm : bs.getD blk false with
  | true =>
    rw [hbm] at hmk
    clear hcell hm hs hbm
    go_enter Try.func84, Try.ntmps84
    go_wp2
    go_ret
    exact ⟨rfl, rfl⟩
  | false =>
    rw [hbm] at hmk
    obtain ⟨R, hR⟩ : ∃ R, seen.any (isMark (blk : Int)) = R := ⟨_, rfl⟩
    rw [hR, Bool.false_or]
    have HR : Hid (seen.any (isMark (blk : Int)) = R) := hR
    clear hcell hm hbm hR
    go_enter Try.func84, Try.ntmps84
    go_wp2
    go_loop [5] (fun i => ∃ k : Nat, k ≤ n ∧ i = .int .i64 k ∧ Hid ((seen.take k).any (isMark (blk : Int)) = false))
      (fun i => n - (intOf i).toNat)
    case atStart => exact ⟨0, Nat.zero_le _, rfl, rfl⟩
    case round =>
      obtain ⟨k, hk, rfl, HK⟩ := hrel
      by_cases hlt : k < n
      · obtain ⟨g', off', rfl, hg', hcell'⟩ := hs.pos (by omega)
        obtain ⟨c, hcd⟩ : ∃ c, c = seen.getD k Cmd.none := ⟨_, rfl⟩
        obtain ⟨x0, x1, x2, x3⟩ := hcell' k hlt
        rw [← hcd] at x0 x1 x2 x3
        have hnx := any_take (isMark (blk : Int)) seen k (by omega)
        have hyes := fun (hf : isMark (blk : Int) c = true) => any_of_take (f := isMark (blk : Int)) (cs := seen) (k := k) (by omega) (by rw [← hcd]; exact hf)
        rw [HK.out, Bool.false_or, ← hcd] at hnx
        have HN : Hid ((seen.take (k + 1)).any (isMark (blk : Int)) = isMark (blk : Int) c) := hnx
        clear hnx HK hcd hcell' hs
        obtain ⟨ck, cb, cp, cq⟩ := c
        by_cases h1 : ck = 3
        · subst h1
          by_cases h2 : cb = (blk : Int)
          · subst h2
            by_cases h3 : cq = 0
            · subst h3
              have hres : R = true := by rw [← HR.out]; exact hyes (by simp [isMark])
              subst hres
              clear hyes
              go_wp2
              go_ret
              exact ⟨rfl, rfl⟩
            · have e3 : (cq == 0) = false := by simpa using h3
              have HN2 : Hid ((seen.take (k + 1)).any (isMark (blk : Int)) = false) := by unfold Hid; rw [HN.out]; simp [isMark, h3]
              clear hyes HN
              go_wp2
              go_round
              case rel => exact ⟨k + 1, by omega, by go_num, HN2⟩
              case measure => simp [intOf]; omega
          · have e2 : (cb == (blk : Int)) = false := by simpa using h2
            have HN2 : Hid ((seen.take (k + 1)).any (isMark (blk : Int)) = false) := by unfold Hid; rw [HN.out]; simp [isMark, h2]
            clear hyes HN
            go_wp2
            go_round
            case rel => exact ⟨k + 1, by omega, by go_num, HN2⟩
            case measure => simp [intOf]; omega
        · have e1 : (ck == 3) = false := by simpa using h1
          have HN2 : Hid ((seen.take (k + 1)).any (isMark (blk : Int)) = false) := by unfold Hid; rw [HN.out]; simp [isMark, h1]
          clear hyes HN
          go_wp2
          go_round
          case rel => exact ⟨k + 1, by omega, by go_num, HN2⟩
          case measure => simp [intOf]; omega
      · have hkl : k = n := by omega
        subst hkl
        have hq := HK.out
        rw [List.take_of_length_le (by omega), HR.out] at hq
        subst hq
        go_wp2
        go_ret
        exact ⟨rfl, rfl⟩

/-- The next page, command by command. -/
def nextS (P blk n : Int) (c : Cmd) : Int := if c.b = blk then (if c.k = 1 then c.p + 1 else if c.k = 2 then (if c.s = 0 then 0 else P) else n) else n
def nextR (P : Int) (first : Int) (seen : List Cmd) (blk : Int) : Int := seen.foldl (nextS P blk) first

theorem nextR_take (P f : Int) (cs : List Cmd) (blk : Int) (k : Nat) (h : k < cs.length) : nextR P f (cs.take (k + 1)) blk = nextS P blk (nextR P f (cs.take k) blk) (cs.getD k Cmd.none) := by
  have e : cs.getD k Cmd.none = cs[k] := by simp [List.getD_eq_getElem?_getD, List.getElem?_eq_getElem h]
  unfold nextR
  rw [List.take_succ_eq_append_getElem h, List.foldl_append, e]
  rfl

theorem RefAt.grown {w w' : World} {gr : Nat} {b p s : Int} {am : Option Addr} {lm km : Nat} {bs : List Bool} {clean : Bool} {ac : Option Addr} {n kc : Nat} {seen : List Cmd} (h : RefAt w gr b p s am lm km bs clean ac n kc seen) (hg : w.grownBy w' none) : RefAt w' gr b p s am lm km bs clean ac n kc seen :=
  ⟨hg.cell h.c0 (by simp), hg.cell h.c1 (by simp), hg.cell h.c2 (by simp), hg.cell h.c3 (by simp), hg.cell h.c4 (by simp), hg.cell h.c5 (by simp), h.marks.below (below_of hg), h.seen.below (below_of hg)⟩

set_option maxHeartbeats 1000000 in
theorem next_any (gr : Nat) (b p s : Int) (am : Option Addr) (lm km : Nat) (bs : List Bool) (clean : Bool) (ac : Option Addr) (n kc : Nat) (seen : List Cmd) (blk : Int) (w : World) (h : RefAt w gr b p s am lm km bs clean ac n kc seen) (hn : n ≤ 140737488355000) (hpg : ∀ c ∈ seen, c.k = 1 → c.p + 1 ≤ 9223372036854775807) :
    Calls Try.prog 85 #[.pointer (some ⟨gr, 0, none⟩), .int .i64 blk] w fun e w' => e = .returned (.int .i64 (nextR p (firstN clean p) seen blk)) ∧ Below w.heap.size w w' := by
  have hR0 := h
  obtain ⟨c0, c1, c2, c3, c4, c5, hm, hs⟩ := h
  have hlen := hs.1
  obtain ⟨q, hq⟩ : ∃ q, firstN clean p = q := ⟨_, rfl⟩
  have hqc : clean = true ∧ q = 0 ∨ clean = false ∧ q = p := by
    rw [← hq]; cases clean <;> simp [firstN]
  rw [hq]
  clear hq
  obtain ⟨R, hR⟩ : ∃ R, nextR p q seen blk = R := ⟨_, rfl⟩
  rw [hR]
  obtain ⟨NX, hNX⟩ : ∃ NX : Nat → Int, ∀ k, nextR p q (seen.take k) blk = NX k := ⟨_, fun k => rfl⟩
  have HN0 : NX 0 = q := (hNX 0).symm
  have HNs : Hid (∀ k, k < n → NX (k + 1) = nextS p blk (NX k) (seen.getD k Cmd.none)) := fun k hk => by rw [← hNX, ← hNX]; exact nextR_take p q seen blk k (by omega)
  have HNn : Hid (NX n = R) := by unfold Hid; rw [← hNX, List.take_of_length_le (by omega)]; exact hR
  have hlt0 : gr < w.heap.size := block_lt_of_cell c0
  clear hR hNX
  rcases hqc with ⟨rfl, rfl⟩ | ⟨rfl, rfl⟩
  all_goals
    go_enter Try.func85, Try.ntmps85
    go_wp2
    go_loopw [5, 6] (fun v i wr => ∃ (k : Nat) (m : Int), k ≤ n ∧ i = .int .i64 k ∧ v = .int .i64 m ∧ Hid (NX k = m) ∧ Below w.heap.size w wr)
      (fun _ i _ => n - (intOf i).toNat)
    case atStart => exact ⟨0, _, Nat.zero_le _, rfl, rfl, HN0, Below.refl _ _⟩
    case round =>
      obtain ⟨k, m, hk, rfl, rfl, HK, bel⟩ := hrel
      have d1 := (bel.cell (p := ⟨gr, 1, none⟩) hlt0).trans c1
      have d5 := (bel.cell (p := ⟨gr, 5, none⟩) hlt0).trans c5
      have dA : ∀ o : Obj, (wr.alloc o).cell? ⟨gr, 1, none⟩ = some (.int .i64 _) := fun o => (World.grownBy_alloc wr o none).cell d1 (by simp)
      by_cases hlt : k < n
      · obtain ⟨g', off', rfl, hg', hcell'⟩ := (hs.below bel).pos (by omega)
        obtain ⟨c, hcd⟩ : ∃ c, c = seen.getD k Cmd.none := ⟨_, rfl⟩
        obtain ⟨x0, x1, x2, x3⟩ := hcell' k hlt
        rw [← hcd] at x0 x1 x2 x3
        have hok : c.Ok := by rw [hcd]; exact okAt hs.2.1 k (by omega)
        have hpl : c.k = 1 → c.p + 1 ≤ 9223372036854775807 := by
          intro h1
          refine hpg c ?_ h1
          rw [hcd, List.getD_eq_getElem?_getD, List.getElem?_eq_getElem (by omega)]
          exact List.getElem_mem _
        have hnx := HNs.out k hlt
        rw [HK.out, ← hcd] at hnx
        have HN : Hid (NX (k + 1) = nextS _ blk m c) := hnx
        have hp1 := hok.p.1
        clear hnx HK hcd hcell' hm c0 c1 c2 c3 c4 c5
        obtain ⟨ck, cb, cp, cq⟩ := c
        simp only at hpl hp1
        by_cases h2 : cb = blk
        · subst h2
          by_cases h1 : ck = 1
          · subst h1
            have hpl := hpl rfl
            simp only [nextS, if_true] at HN
            go_wp2
            go_roundw
            case rel => exact ⟨k + 1, _, by omega, by go_num, rfl, HN, bel.alloc bel.size _⟩
            case measure => simp [intOf]; omega
          · have e1 : (ck == 1) = false := by simpa using h1
            by_cases h3 : ck = 2
            · subst h3
              by_cases h4 : cq = 0
              · subst h4
                simp only [nextS, if_true, h1, if_false] at HN
                go_wp2
                go_roundw
                case rel => exact ⟨k + 1, _, by omega, by go_num, rfl, HN, bel.alloc bel.size _⟩
                case measure => simp [intOf]; omega
              · have e4 : (cq == 0) = false := by simpa using h4
                simp only [nextS, if_true, h1, h4, if_false] at HN
                go_wp2
                go_roundw
                case rel => exact ⟨k + 1, _, by omega, by go_num, rfl, HN, bel.alloc bel.size _⟩
                case measure => simp [intOf]; omega
            · have e3 : (ck == 2) = false := by simpa using h3
              simp only [nextS, if_true, h1, h3, if_false] at HN
              go_wp2
              go_roundw
              case rel => exact ⟨k + 1, _, by omega, by go_num, rfl, HN, bel.alloc bel.size _⟩
              case measure => simp [intOf]; omega
        · have e2 : (cb == blk) = false := by simpa using h2
          simp only [nextS, h2, if_false] at HN
          go_wp2
          go_roundw
          case rel => exact ⟨k + 1, _, by omega, by go_num, rfl, HN, bel.alloc bel.size _⟩
          case measure => simp [intOf]; omega
      · have hkl : k = n := by omega
        subst hkl
        have hq := HK.out
        rw [HNn.out] at hq
        subst hq
        go_wp2
        go_ret
        exact ⟨rfl, bel⟩
end Go.Proofs.Ytejonebnmeinhab
