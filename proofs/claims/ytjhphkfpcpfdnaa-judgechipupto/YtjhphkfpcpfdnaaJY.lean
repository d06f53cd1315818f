/-
  SEAT Ytjhphkfpcpfdnaa: JRefA, JRefP, JRefB, JRefC, JRefD, JRefE, JRefE2, JRefF, JRefG, JChecksW, JSeD.
-/
import Derived.Test.YtjhphkfpcpfdnaaJX
import Derived.Deep.RegionLaw
import Derived.OneCell
import Derived.Deep.QuietTactic
import Derived.Deep.DeepCutAuto
namespace Go.Proofs.Ytjhphkfpcpfdnaa.J
open Go.RowKit
set_option linter.unusedVariables false

/-- The reference's judge lies in block gr: what is read of it. -/
structure RefAt (w : World) (gr : Nat) (b p s : Int) (am : Option Addr) (lm km : Nat) (bs : List Bool) (clean : Bool) (ac : Option Addr) (n kc : Nat) (seen : List Cmd) : Prop where
  c0 : w.cell? ⟨gr, 0, none⟩ = some (.int .i64 b)
  c1 : w.cell? ⟨gr, 1, none⟩ = some (.int .i64 p)
  c2 : w.cell? ⟨gr, 2, none⟩ = some (.int .i64 s)
  c3 : w.cell? ⟨gr, 3, none⟩ = some (.slice am lm km)
  c4 : w.cell? ⟨gr, 4, none⟩ = some (.bool clean)
  c5 : w.cell? ⟨gr, 5, none⟩ = some (.slice ac n kc)
  marks : ReadsB w am lm bs
  seen : ReadsC w ac n seen

/-- Is a block marked by these commands? -/
def isMark (blk : Int) (c : Cmd) : Bool := decide (c.k = 3 ∧ c.b = blk ∧ c.s = 0)
def markedR (m : Bool) (seen : List Cmd) (blk : Int) : Bool := m || seen.any (isMark blk)

theorem any_take (f : Cmd → Bool) (cs : List Cmd) (k : Nat) (h : k < cs.length) : (cs.take (k + 1)).any f = ((cs.take k).any f || f (cs.getD k Cmd.none)) := by
  have e : cs.getD k Cmd.none = cs[k] := by simp [List.getD_eq_getElem?_getD, List.getElem?_eq_getElem h]
  rw [List.take_succ_eq_append_getElem h, List.any_append, e]
  simp only [List.any_cons, List.any_nil, Bool.or_false]

theorem any_of_take {f : Cmd → Bool} {cs : List Cmd} {k : Nat} (h : k < cs.length) (hf : f (cs.getD k Cmd.none) = true) : cs.any f = true := by
  rw [List.any_eq_true]
  refine ⟨cs.getD k Cmd.none, ?_, hf⟩
  rw [List.getD_eq_getElem?_getD, List.getElem?_eq_getElem h]
  exact List.getElem_mem h

set_option maxHeartbeats 1000000 in
theorem marked_any (gr : Nat) (b p s : Int) (am : Option Addr) (lm km : Nat) (bs : List Bool) (clean : Bool) (ac : Option Addr) (n kc : Nat) (seen : List Cmd) (blk : Nat) (w : World) (h : RefAt w gr b p s am lm km bs clean ac n kc seen) (hb : blk < lm) (hn : n ≤ 140737488355000) (hlm : lm ≤ 100000) :
    Calls Try.prog 51 #[.pointer (some ⟨gr, 0, none⟩), .int .i64 (blk : Int)] w fun e w' => e = .returned (.bool (markedR (bs.getD blk false) seen blk)) ∧ w = w' := by
  obtain ⟨c0, c1, c2, c3, c4, c5, hm, hs⟩ := h
  obtain ⟨g, off, rfl, hg, hcell⟩ := hm.pos (by omega)
  have hmk := hcell blk hb
  have hlen := hs.1
  unfold markedR
  cases hbm : bs.getD blk false with
  | true =>
    rw [hbm] at hmk
    clear hcell hm hs hbm
    go_enter Try.func51, Try.ntmps51
    go_wp2
    go_ret
    exact ⟨rfl, rfl⟩
  | false =>
    rw [hbm] at hmk
    obtain ⟨R, hR⟩ : ∃ R, seen.any (isMark (blk : Int)) = R := ⟨_, rfl⟩
    rw [hR, Bool.false_or]
    have HR : Hid (seen.any (isMark (blk : Int)) = R) := hR
    clear hcell hm hbm hR
    go_enter Try.func51, Try.ntmps51
    go_wp2
    go_loop [5] (fun i => ∃ k : Nat, k ≤ n ∧ i = .int .i64 k ∧ Hid ((seen.take k).any (isMark (blk : Int)) = false))
      (fun i => n - (intOf i).toNat)
    case atStart => exact ⟨0, Nat.zero_le _, rfl, rfl⟩
    case round =>
      obtain ⟨k, hk, rfl, HK⟩ := hrel
      by_cases hlt : k < n
      · obtain ⟨g', off', rfl, hg', hcell'⟩ := hs.pos (by omega)
        obtain ⟨c, hcd⟩ : ∃ c, c = seen.getD k Cmd.none := ⟨_, rfl⟩
        obtain ⟨x0, x1, x2, x3⟩ := hcell' k hlt
        rw [← hcd] at x0 x1 x2 x3
        have hnx := any_take (isMark (blk : Int)) seen k (by omega)
        have hyes := fun (hf : isMark (blk : Int) c = true) => any_of_take (f := isMark (blk : Int)) (cs := seen) (k := k) (by omega) (by rw [← hcd]; exact hf)
        rw [HK.out, Bool.false_or, ← hcd] at hnx
        have HN : Hid ((seen.take (k + 1)).any (isMark (blk : Int)) = isMark (blk : Int) c) := hnx
        clear hnx HK hcd hcell' hs
        obtain ⟨ck, cb, cp, cq⟩ := c
        by_cases h1 : ck = 3
        · subst h1
          by_cases h2 : cb = (blk : Int)
          · subst h2
            by_cases h3 : cq = 0
            · subst h3
              have hres : R = true := by rw [← HR.out]; exact hyes (by simp [isMark])
              subst hres
              clear hyes
              go_wp2
              go_ret
              exact ⟨rfl, rfl⟩
            · have e3 : (cq == 0) = false := by simpa using h3
              have HN2 : Hid ((seen.take (k + 1)).any (isMark (blk : Int)) = false) := by unfold Hid; rw [HN.out]; simp [isMark, h3]
              clear hyes HN
              go_wp2
              go_round
              case rel => exact ⟨k + 1, by omega, by go_num, HN2⟩
              case measure => simp [intOf]; omega
          · have e2 : (cb == (blk : Int)) = false := by simpa using h2
            have HN2 : Hid ((seen.take (k + 1)).any (isMark (blk : Int)) = false) := by unfold Hid; rw [HN.out]; simp [isMark, h2]
            clear hyes HN
            go_wp2
            go_round
            case rel => exact ⟨k + 1, by omega, by go_num, HN2⟩
            case measure => simp [intOf]; omega
        · have e1 : (ck == 3) = false := by simpa using h1
          have HN2 : Hid ((seen.take (k + 1)).any (isMark (blk : Int)) = false) := by unfold Hid; rw [HN.out]; simp [isMark, h1]
          clear hyes HN
          go_wp2
          go_round
          case rel => exact ⟨k + 1, by omega, by go_num, HN2⟩
          case measure => simp [intOf]; omega
      · have hkl : k = n := by omega
        subst hkl
        have hq := HK.out
        rw [List.take_of_length_le (by omega), HR.out] at hq
        subst hq
        go_wp2
        go_ret
        exact ⟨rfl, rfl⟩

/-- The next page, command by command. -/
def nextS (P blk n : Int) (c : Cmd) : Int := if c.b = blk then (if c.k = 1 then c.p + 1 else if c.k = 2 then (if c.s = 0 then 0 else P) else n) else n
def nextR (P : Int) (first : Int) (seen : List Cmd) (blk : Int) : Int := seen.foldl (nextS P blk) first

theorem nextR_take (P f : Int) (cs : List Cmd) (blk : Int) (k : Nat) (h : k < cs.length) : nextR P f (cs.take (k + 1)) blk = nextS P blk (nextR P f (cs.take k) blk) (cs.getD k Cmd.none) := by
  have e : cs.getD k Cmd.none = cs[k] := by simp [List.getD_eq_getElem?_getD, List.getElem?_eq_getElem h]
  unfold nextR
  rw [List.take_succ_eq_append_getElem h, List.foldl_append, e]
  rfl

theorem RefAt.grown {w w' : World} {gr : Nat} {b p s : Int} {am : Option Addr} {lm km : Nat} {bs : List Bool} {clean : Bool} {ac : Option Addr} {n kc : Nat} {seen : List Cmd} (h : RefAt w gr b p s am lm km bs clean ac n kc seen) (hg : w.grownBy w' none) : RefAt w' gr b p s am lm km bs clean ac n kc seen :=
  ⟨hg.cell h.c0 (by simp), hg.cell h.c1 (by simp), hg.cell h.c2 (by simp), hg.cell h.c3 (by simp), hg.cell h.c4 (by simp), hg.cell h.c5 (by simp), h.marks.below (below_of hg), h.seen.below (below_of hg)⟩

set_option maxHeartbeats 1000000 in
theorem next_any (gr : Nat) (b p s : Int) (am : Option Addr) (lm km : Nat) (bs : List Bool) (clean : Bool) (ac : Option Addr) (n kc : Nat) (seen : List Cmd) (blk : Int) (w : World) (h : RefAt w gr b p s am lm km bs clean ac n kc seen) (hn : n ≤ 140737488355000) (hpg : ∀ c ∈ seen, c.k = 1 → c.p + 1 ≤ 9223372036854775807) :
    Calls Try.prog 52 #[.pointer (some ⟨gr, 0, none⟩), .int .i64 blk] w fun e w' => e = .returned (.int .i64 (nextR p (firstN clean p) seen blk)) ∧ Below w.heap.size w w' := by
  have hR0 := h
  obtain ⟨c0, c1, c2, c3, c4, c5, hm, hs⟩ := h
  have hlen := hs.1
  obtain ⟨q, hq⟩ : ∃ q, firstN clean p = q := ⟨_, rfl⟩
  have hqc : clean = true ∧ q = 0 ∨ clean = false ∧ q = p := by
    rw [← hq]; cases clean <;> simp [firstN]
  rw [hq]
  clear hq
  obtain ⟨R, hR⟩ : ∃ R, nextR p q seen blk = R := ⟨_, rfl⟩
  rw [hR]
  obtain ⟨NX, hNX⟩ : ∃ NX : Nat → Int, ∀ k, nextR p q (seen.take k) blk = NX k := ⟨_, fun k => rfl⟩
  have HN0 : NX 0 = q := (hNX 0).symm
  have HNs : Hid (∀ k, k < n → NX (k + 1) = nextS p blk (NX k) (seen.getD k Cmd.none)) := fun k hk => by rw [← hNX, ← hNX]; exact nextR_take p q seen blk k (by omega)
  have HNn : Hid (NX n = R) := by unfold Hid; rw [← hNX, List.take_of_length_le (by omega)]; exact hR
  have hlt0 : gr < w.heap.size := block_lt_of_cell c0
  clear hR hNX
  rcases hqc with ⟨rfl, rfl⟩ | ⟨rfl, rfl⟩
  all_goals
    go_enter Try.func52, Try.ntmps52
    go_wp2
    go_loopw [5, 6] (fun v i wr => ∃ (k : Nat) (m : Int), k ≤ n ∧ i = .int .i64 k ∧ v = .int .i64 m ∧ Hid (NX k = m) ∧ Below w.heap.size w wr)
      (fun _ i _ => n - (intOf i).toNat)
    case atStart => exact ⟨0, _, Nat.zero_le _, rfl, rfl, HN0, Below.refl _ _⟩
    case round =>
      obtain ⟨k, m, hk, rfl, rfl, HK, bel⟩ := hrel
      have d1 := (bel.cell (p := ⟨gr, 1, none⟩) hlt0).trans c1
      have d5 := (bel.cell (p := ⟨gr, 5, none⟩) hlt0).trans c5
      have dA : ∀ o : Obj, (wr.alloc o).cell? ⟨gr, 1, none⟩ = some (.int .i64 _) := fun o => (World.grownBy_alloc wr o none).cell d1 (by simp)
      by_cases hlt : k < n
      · obtain ⟨g', off', rfl, hg', hcell'⟩ := (hs.below bel).pos (by omega)
        obtain ⟨c, hcd⟩ : ∃ c, c = seen.getD k Cmd.none := ⟨_, rfl⟩
        obtain ⟨x0, x1, x2, x3⟩ := hcell' k hlt
        rw [← hcd] at x0 x1 x2 x3
        have hok : c.Ok := by rw [hcd]; exact okAt hs.2.1 k (by omega)
        have hpl : c.k = 1 → c.p + 1 ≤ 9223372036854775807 := by
          intro h1
          refine hpg c ?_ h1
          rw [hcd, List.getD_eq_getElem?_getD, List.getElem?_eq_getElem (by omega)]
          exact List.getElem_mem _
        have hnx := HNs.out k hlt
        rw [HK.out, ← hcd] at hnx
        have HN : Hid (NX (k + 1) = nextS _ blk m c) := hnx
        have hp1 := hok.p.1
        clear hnx HK hcd hcell' hm c0 c1 c2 c3 c4 c5
        obtain ⟨ck, cb, cp, cq⟩ := c
        simp only at hpl hp1
        by_cases h2 : cb = blk
        · subst h2
          by_cases h1 : ck = 1
          · subst h1
            have hpl := hpl rfl
            simp only [nextS, if_true] at HN
            go_wp2
            go_roundw
            case rel => exact ⟨k + 1, _, by omega, by go_num, rfl, HN, bel.alloc bel.size _⟩
            case measure => simp [intOf]; omega
          · have e1 : (ck == 1) = false := by simpa using h1
            by_cases h3 : ck = 2
            · subst h3
              by_cases h4 : cq = 0
              · subst h4
                simp only [nextS, if_true, h1, if_false] at HN
                go_wp2
                go_roundw
                case rel => exact ⟨k + 1, _, by omega, by go_num, rfl, HN, bel.alloc bel.size _⟩
                case measure => simp [intOf]; omega
              · have e4 : (cq == 0) = false := by simpa using h4
                simp only [nextS, if_true, h1, h4, if_false] at HN
                go_wp2
                go_roundw
                case rel => exact ⟨k + 1, _, by omega, by go_num, rfl, HN, bel.alloc bel.size _⟩
                case measure => simp [intOf]; omega
            · have e3 : (ck == 2) = false := by simpa using h3
              simp only [nextS, if_true, h1, h3, if_false] at HN
              go_wp2
              go_roundw
              case rel => exact ⟨k + 1, _, by omega, by go_num, rfl, HN, bel.alloc bel.size _⟩
              case measure => simp [intOf]; omega
        · have e2 : (cb == blk) = false := by simpa using h2
          simp only [nextS, h2, if_false] at HN
          go_wp2
          go_roundw
          case rel => exact ⟨k + 1, _, by omega, by go_num, rfl, HN, bel.alloc bel.size _⟩
          case measure => simp [intOf]; omega
      · have hkl : k = n := by omega
        subst hkl
        have hq := HK.out
        rw [HNn.out] at hq
        subst hq
        go_wp2
        go_ret
        exact ⟨rfl, bel⟩
end Go.Proofs.Ytjhphkfpcpfdnaa.J
namespace Go.Proofs.Ytjhphkfpcpfdnaa.J
open Go.RowKit
set_option linter.unusedVariables false

def wearS (blk e : Int) (c : Cmd) : Int := if c.k = 2 ∧ c.b = blk then wrap64 (e + 1) else e
def wearR (seen : List Cmd) (blk : Int) : Int := seen.foldl (wearS blk) 0

def knowAt (P : Int) (clean : Bool) (bs : List Bool) (seen : List Cmd) (i : Nat) : Blk := ⟨markedR (bs.getD i false) seen i, nextR P (firstN clean P) seen i, wearR seen i⟩
def know (P : Int) (clean : Bool) (bs : List Bool) (seen : List Cmd) : List Blk := (List.range bs.length).map (knowAt P clean bs seen)

theorem know_length (P : Int) (clean : Bool) (bs : List Bool) (seen : List Cmd) : (know P clean bs seen).length = bs.length := by simp [know]

theorem know_getD (P : Int) (clean : Bool) (bs : List Bool) (seen : List Cmd) (i : Nat) (h : i < bs.length) : (know P clean bs seen).getD i Blk.zero = knowAt P clean bs seen i := by
  simp [know, List.getD_eq_getElem?_getD, h]

theorem know_nil (P : Int) (clean : Bool) (bs : List Bool) : know P clean bs [] = start clean P bs := by
  apply List.ext_getElem
  · simp [know, start]
  · intro i h1 h2
    have h3 : i < bs.length := by simpa [know] using h1
    simp [know, start, knowAt, markedR, nextR, wearR, List.getD_eq_getElem?_getD, List.getElem?_eq_getElem h3]

theorem knowAt_far (P : Int) (clean : Bool) (bs : List Bool) (seen : List Cmd) (c : Cmd) (i : Nat) (h : c.b ≠ (i : Int)) : knowAt P clean bs (seen ++ [c]) i = knowAt P clean bs seen i := by
  simp [knowAt, markedR, nextR, wearR, List.any_append, List.foldl_append, isMark, nextS, wearS, h]

theorem knowAt_here (P : Int) (clean : Bool) (bs : List Bool) (seen : List Cmd) (c : Cmd) (i : Nat) (h : c.b = (i : Int)) (hk : c.k = 1 ∨ c.k = 2 ∨ c.k = 3) : knowAt P clean bs (seen ++ [c]) i = bhd P (knowAt P clean bs seen i) c := by
  rcases hk with h1 | h1 | h1
  · simp [knowAt, markedR, nextR, wearR, List.any_append, List.foldl_append, isMark, nextS, wearS, h, h1, bhd]
  · simp [knowAt, markedR, nextR, wearR, List.any_append, List.foldl_append, isMark, nextS, wearS, h, h1, bhd]
  · simp [knowAt, markedR, nextR, wearR, List.any_append, List.foldl_append, isMark, nextS, wearS, h, h1, bhd, Bool.or_assoc]

theorem kpt_kind {P : Int} {b : Blk} {c : Cmd} (h : kpt P b c = true) : c.k = 1 ∨ c.k = 2 ∨ c.k = 3 := by
  unfold kpt at h
  split at h
  · exact Or.inl ‹_›
  · split at h
    · exact Or.inr (Or.inl ‹_›)
    · exact Or.inr (Or.inr (by simpa using h))

theorem know_step {P : Int} {clean : Bool} {bs : List Bool} {seen : List Cmd} {c : Cmd} {st : List Blk} (h : see P (know P clean bs seen) c = some st) : st = know P clean bs (seen ++ [c]) := by
  unfold see at h
  split at h
  · rename_i hc
    obtain ⟨h0, h1, ht, hk⟩ := hc
    rw [know_length] at h1
    have hlt : c.b.toNat < bs.length := by omega
    have hcb : c.b = ((c.b.toNat : Nat) : Int) := by omega
    rw [know_getD _ _ _ _ _ hlt] at h hk
    cases h
    apply List.ext_getElem
    · simp [know]
    · intro i h2 h3
      have h4 : i < bs.length := by simpa [know] using h3
      rw [List.getElem_set]
      by_cases hi : c.b.toNat = i
      · subst hi
        rw [if_pos rfl]
        simp only [know, List.getElem_map, List.getElem_range]
        rw [knowAt_here P clean bs seen c _ hcb (kpt_kind hk)]
      · rw [if_neg hi]
        simp only [know, List.getElem_map, List.getElem_range]
        rw [knowAt_far P clean bs seen c i (by omega)]
  · cases h

/-- Which commands a judge has seen that kept the rules, of those that came. -/
def kept (P : Int) : List Blk → List Cmd → List Cmd → List Cmd
  | _, acc, [] => acc
  | st, acc, c :: r => match see P st c with
    | none => kept P st acc r
    | some st' => kept P st' (acc ++ [c]) r
end Go.Proofs.Ytjhphkfpcpfdnaa.J
namespace Go.Proofs.Ytjhphkfpcpfdnaa.J
open Go.RowKit
set_option linter.unusedVariables false

theorem drewN_grown (w : World) (k : Nat) (r : Option Nat) : w.grownBy (w.drewN k) r := ⟨rfl, rfl, rfl, Nat.le_refl _, fun _ _ _ => rfl⟩

theorem see_none {P : Int} {st : List Blk} {c : Cmd} (h : ¬ (0 ≤ c.b ∧ c.b < st.length ∧ taken c.s = true ∧ kpt P (st.getD c.b.toNat Blk.zero) c = true)) : (see P st c).isSome = false := by
  unfold see
  rw [if_neg h]
  rfl
theorem see_some {P : Int} {st : List Blk} {c : Cmd} (h : 0 ≤ c.b ∧ c.b < st.length ∧ taken c.s = true ∧ kpt P (st.getD c.b.toNat Blk.zero) c = true) : (see P st c).isSome = true := by
  unfold see
  rw [if_pos h]
  rfl
theorem see_is {P : Int} {st : List Blk} {c : Cmd} (h : 0 ≤ c.b ∧ c.b < st.length ∧ taken c.s = true) : (see P st c).isSome = kpt P (st.getD c.b.toNat Blk.zero) c := by
  cases hk : kpt P (st.getD c.b.toNat Blk.zero) c with
  | true => exact see_some ⟨h.1, h.2.1, h.2.2, hk⟩
  | false => exact see_none (by rw [hk]; simp)
theorem kpt_other {P : Int} {b : Blk} {c : Cmd} (h : c.k < 1 ∨ 3 < c.k) : kpt P b c = false := by
  cases hk : kpt P b c with
  | false => rfl
  | true => have := kpt_kind hk; omega

theorem cmd_cells {w u : World} {k cb cp cs : Int} (h : (w.alloc (.cells #[.int .i64 k, .int .i64 cb, .int .i64 cp, .int .i64 cs] 54)).grownBy u none) :
    u.cell? ⟨w.heap.size, 0, none⟩ = some (.int .i64 k) ∧ u.cell? ⟨w.heap.size, 1, none⟩ = some (.int .i64 cb) ∧ u.cell? ⟨w.heap.size, 2, none⟩ = some (.int .i64 cp) ∧ u.cell? ⟨w.heap.size, 3, none⟩ = some (.int .i64 cs) := by
  refine ⟨?_, ?_, ?_, ?_⟩ <;> exact h.cell (by simp) (by simp)

set_option maxHeartbeats 2000000 in
theorem rkeeps_bad (gr : Nat) (b p s : Int) (am : Option Addr) (lm km : Nat) (bs : List Bool) (clean : Bool) (ac : Option Addr) (n kc : Nat) (seen : List Cmd) (c : Cmd) (w : World) (h : RefAt w gr b p s am lm km bs clean ac n kc seen)
    (hx : c.k < 1 ∨ (1 ≤ c.k ∧ 3 < c.k) ∨ (1 ≤ c.k ∧ c.k ≤ 3 ∧ c.b < 0) ∨ (1 ≤ c.k ∧ c.k ≤ 3 ∧ 0 ≤ c.b ∧ b ≤ c.b) ∨ (1 ≤ c.k ∧ c.k ≤ 3 ∧ 0 ≤ c.b ∧ c.b < b ∧ c.s ≠ 0 ∧ c.s ≠ 44 ∧ c.s ≠ 45)) :
    Calls Try.prog 50 #[.pointer (some ⟨gr, 0, none⟩), .agg #[.int .i64 c.k, .int .i64 c.b, .int .i64 c.p, .int .i64 c.s]] w fun e w' => e = .returned (.bool false) ∧ Below w.heap.size w w' := by
  have hb0 : Below w.heap.size w (w.alloc (.cells #[.int .i64 c.k, .int .i64 c.b, .int .i64 c.p, .int .i64 c.s] 54)) := (Below.refl _ _).alloc (Nat.le_refl _) _
  have hlt : gr < w.heap.size := block_lt_of_cell h.c0
  have d0 := (hb0.cell (p := ⟨gr, 0, none⟩) hlt).trans h.c0
  obtain ⟨k, cb, cp, cs⟩ := c
  simp only at hx hb0 d0
  rcases hx with h1 | ⟨h1, h2⟩ | ⟨h1, h2, h3⟩ | ⟨h1, h2, h3, h4⟩ | ⟨h1, h2, h3, h4, h5, h6, h7⟩
  · have e1 : decide (k < 1) = true := decide_eq_true h1
    go_enter Try.func50, Try.ntmps50
    go_wp2
    go_quiet (fail)
    all_goals go_wp2
    all_goals go_ret
    all_goals exact ⟨rfl, below_drewN hb0 _⟩
  · have e1 : decide (k < 1) = false := decide_eq_false (by omega)
    have e2 : decide (3 < k) = true := decide_eq_true h2
    go_enter Try.func50, Try.ntmps50
    go_wp2
    go_quiet (fail)
    all_goals go_wp2
    all_goals go_ret
    all_goals exact ⟨rfl, below_drewN hb0 _⟩
  · have e1 : decide (k < 1) = false := decide_eq_false (by omega)
    have e2 : decide (3 < k) = false := decide_eq_false (by omega)
    have e3 : decide (cb < 0) = true := decide_eq_true h3
    go_enter Try.func50, Try.ntmps50
    go_wp2
    go_quiet (fail)
    all_goals go_wp2
    all_goals go_ret
    all_goals exact ⟨rfl, below_drewN hb0 _⟩
  · have e1 : decide (k < 1) = false := decide_eq_false (by omega)
    have e2 : decide (3 < k) = false := decide_eq_false (by omega)
    have e3 : decide (cb < 0) = false := decide_eq_false (by omega)
    have e4 : decide (b ≤ cb) = true := decide_eq_true h4
    go_enter Try.func50, Try.ntmps50
    go_wp2
    go_quiet (fail)
    all_goals go_wp2
    all_goals go_ret
    all_goals exact ⟨rfl, below_drewN hb0 _⟩
  · have e1 : decide (k < 1) = false := decide_eq_false (by omega)
    have e2 : decide (3 < k) = false := decide_eq_false (by omega)
    have e3 : decide (cb < 0) = false := decide_eq_false (by omega)
    have e4 : decide (b ≤ cb) = false := decide_eq_false (by omega)
    have e5 : (cs != 0) = true := by simpa using h5
    have e6 : (cs != 44) = true := by simpa using h6
    have e7 : (cs != 45) = true := by simpa using h7
    go_enter Try.func50, Try.ntmps50
    go_wp2
    go_quiet (fail)
    all_goals go_wp2
    all_goals go_ret
    all_goals exact ⟨rfl, below_drewN hb0 _⟩

end Go.Proofs.Ytjhphkfpcpfdnaa.J
namespace Go.Proofs.Ytjhphkfpcpfdnaa.J
open Go.RowKit
set_option linter.unusedVariables false

set_option maxHeartbeats 1000000 in
theorem rkeeps_3 (gr : Nat) (b p s : Int) (am : Option Addr) (lm km : Nat) (bs : List Bool) (clean : Bool) (ac : Option Addr) (n kc : Nat) (seen : List Cmd) (blk : Nat) (cp cs : Int) (w : World) (h : RefAt w gr b p s am lm km bs clean ac n kc seen)
    (hblk : blk < lm) (hb : b = lm) (ht : cs = 0 ∨ cs = 44 ∨ cs = 45) (hn : n ≤ 140737488355000) (hlm : lm ≤ 100000) (hpg : ∀ c ∈ seen, c.k = 1 → c.p + 1 ≤ 9223372036854775807) :
    Calls Try.prog 50 #[.pointer (some ⟨gr, 0, none⟩), .agg #[.int .i64 3, .int .i64 (blk : Int), .int .i64 cp, .int .i64 cs]] w fun e w' => e = .returned (.bool (kpt p (knowAt p clean bs seen blk) ⟨3, blk, cp, cs⟩)) ∧ Below w.heap.size w w' := by
  obtain ⟨w1, hw1⟩ : ∃ w1, w1 = w.alloc (.cells #[.int .i64 3, .int .i64 (blk : Int), .int .i64 cp, .int .i64 cs] 54) := ⟨_, rfl⟩
  have g1 : w.grownBy w1 none := by rw [hw1]; exact World.grownBy_alloc _ _ _
  have hb0 : Below w.heap.size w w1 := below_of g1
  have hS : ∀ x, w1.grownBy x none → x.cell? ⟨w.heap.size, 0, none⟩ = some (.int .i64 3) ∧ x.cell? ⟨w.heap.size, 1, none⟩ = some (.int .i64 (blk : Int)) ∧ x.cell? ⟨w.heap.size, 2, none⟩ = some (.int .i64 cp) ∧ x.cell? ⟨w.heap.size, 3, none⟩ = some (.int .i64 cs) ∧ x.cell? ⟨gr, 1, none⟩ = some (.int .i64 p) := fun x hx => by
    rw [hw1] at hx
    obtain ⟨x0, x1, x2, x3⟩ := cmd_cells hx
    exact ⟨x0, x1, x2, x3, (grownBy_trans (World.grownBy_alloc _ _ none) hx).cell h.c1 (by simp)⟩
  have hA : ∀ x, w1.grownBy x none → RefAt x gr b p s am lm km bs clean ac n kc seen := fun x hx => h.grown (grownBy_trans g1 hx)
  have d0 : w1.cell? ⟨gr, 0, none⟩ = some (.int .i64 b) := g1.cell h.c0 (by simp)
  obtain ⟨x0, x1, x2, x3, x4⟩ := hS w1 (World.grownBy.refl _ _)
  have HS : Hid _ := hS
  have HA : Hid _ := hA
  clear hS hA h
  obtain ⟨M, hM⟩ : ∃ M, markedR (bs.getD blk false) seen blk = M := ⟨_, rfl⟩
  obtain ⟨N, hN⟩ : ∃ N, nextR p (firstN clean p) seen blk = N := ⟨_, rfl⟩
  have hK : knowAt p clean bs seen blk = ⟨M, N, wearR seen blk⟩ := by unfold knowAt; rw [hM, hN]
  rw [hK]
  simp only [kpt]
  have e3 : decide ((blk : Int) < 0) = false := decide_eq_false (by omega)
  have e4 : decide (b ≤ (blk : Int)) = false := decide_eq_false (by omega)
  rcases ht with rfl | rfl | rfl
  all_goals
    go_enter Try.func50, Try.ntmps50
    go_wp2
    rw [← hw1]
    clear hw1
    go_quiet (fail)
    all_goals go_wp2
    all_goals go_quiet (fail)
    all_goals go_wp2
    all_goals go_ret
    all_goals exact ⟨ret_bool (by simp), below_drewN hb0 _⟩
end Go.Proofs.Ytjhphkfpcpfdnaa.J
namespace Go.Proofs.Ytjhphkfpcpfdnaa.J
open Go.RowKit
set_option linter.unusedVariables false

set_option maxHeartbeats 1000000 in
theorem rkeeps_2 (gr : Nat) (b p s : Int) (am : Option Addr) (lm km : Nat) (bs : List Bool) (clean : Bool) (ac : Option Addr) (n kc : Nat) (seen : List Cmd) (blk : Nat) (cp cs : Int) (w : World) (h : RefAt w gr b p s am lm km bs clean ac n kc seen)
    (hblk : blk < lm) (hb : b = lm) (ht : cs = 0 ∨ cs = 44 ∨ cs = 45) (hn : n ≤ 140737488355000) (hlm : lm ≤ 100000) (hpg : ∀ c ∈ seen, c.k = 1 → c.p + 1 ≤ 9223372036854775807) :
    Calls Try.prog 50 #[.pointer (some ⟨gr, 0, none⟩), .agg #[.int .i64 2, .int .i64 (blk : Int), .int .i64 cp, .int .i64 cs]] w fun e w' => e = .returned (.bool (kpt p (knowAt p clean bs seen blk) ⟨2, blk, cp, cs⟩)) ∧ Below w.heap.size w w' := by
  obtain ⟨w1, hw1⟩ : ∃ w1, w1 = w.alloc (.cells #[.int .i64 2, .int .i64 (blk : Int), .int .i64 cp, .int .i64 cs] 54) := ⟨_, rfl⟩
  have g1 : w.grownBy w1 none := by rw [hw1]; exact World.grownBy_alloc _ _ _
  have hb0 : Below w.heap.size w w1 := below_of g1
  have hS : ∀ x, w1.grownBy x none → x.cell? ⟨w.heap.size, 0, none⟩ = some (.int .i64 2) ∧ x.cell? ⟨w.heap.size, 1, none⟩ = some (.int .i64 (blk : Int)) ∧ x.cell? ⟨w.heap.size, 2, none⟩ = some (.int .i64 cp) ∧ x.cell? ⟨w.heap.size, 3, none⟩ = some (.int .i64 cs) ∧ x.cell? ⟨gr, 1, none⟩ = some (.int .i64 p) := fun x hx => by
    rw [hw1] at hx
    obtain ⟨x0, x1, x2, x3⟩ := cmd_cells hx
    exact ⟨x0, x1, x2, x3, (grownBy_trans (World.grownBy_alloc _ _ none) hx).cell h.c1 (by simp)⟩
  have hA : ∀ x, w1.grownBy x none → RefAt x gr b p s am lm km bs clean ac n kc seen := fun x hx => h.grown (grownBy_trans g1 hx)
  have d0 : w1.cell? ⟨gr, 0, none⟩ = some (.int .i64 b) := g1.cell h.c0 (by simp)
  obtain ⟨x0, x1, x2, x3, x4⟩ := hS w1 (World.grownBy.refl _ _)
  have HS : Hid _ := hS
  have HA : Hid _ := hA
  clear hS hA h
  obtain ⟨M, hM⟩ : ∃ M, markedR (bs.getD blk false) seen blk = M := ⟨_, rfl⟩
  obtain ⟨N, hN⟩ : ∃ N, nextR p (firstN clean p) seen blk = N := ⟨_, rfl⟩
  have hK : knowAt p clean bs seen blk = ⟨M, N, wearR seen blk⟩ := by unfold knowAt; rw [hM, hN]
  rw [hK]
  simp only [kpt]
  have e3 : decide ((blk : Int) < 0) = false := decide_eq_false (by omega)
  have e4 : decide (b ≤ (blk : Int)) = false := decide_eq_false (by omega)
  cases M with
  | true =>
    rcases ht with rfl | rfl | rfl
    all_goals
      go_enter Try.func50, Try.ntmps50
      go_wp2
      rw [← hw1]
      clear hw1
      go_quiet (fail)
      all_goals go_wp2_with (first | (go_at_call 51; refine (marked_any gr b p s am lm km bs clean ac n kc seen blk _ ?_ hblk hn hlm).mono ?_; exact HA.out _ (drewN_grown _ _ _); rintro e u ⟨rfl, rfl⟩; rw [hM]))
      all_goals go_ret
      all_goals exact ⟨ret_bool (by simp), below_drewN hb0 _⟩
  | false =>
    rcases ht with rfl | rfl | rfl
    all_goals
      go_enter Try.func50, Try.ntmps50
      go_wp2
      rw [← hw1]
      clear hw1
      go_quiet (fail)
      all_goals go_wp2_with (first | (go_at_call 51; refine (marked_any gr b p s am lm km bs clean ac n kc seen blk _ ?_ hblk hn hlm).mono ?_; exact HA.out _ (drewN_grown _ _ _); rintro e u ⟨rfl, rfl⟩; rw [hM]))
      all_goals go_quiet (fail)
      all_goals go_wp2
      all_goals go_ret
      all_goals exact ⟨ret_bool (by simp), below_drewN hb0 _⟩
end Go.Proofs.Ytjhphkfpcpfdnaa.J
namespace Go.Proofs.Ytjhphkfpcpfdnaa.J
open Go.RowKit
set_option linter.unusedVariables false

set_option maxHeartbeats 1000000 in
theorem rkeeps_1ge (gr : Nat) (b p s : Int) (am : Option Addr) (lm km : Nat) (bs : List Bool) (clean : Bool) (ac : Option Addr) (n kc : Nat) (seen : List Cmd) (blk : Nat) (cp cs : Int) (w : World) (h : RefAt w gr b p s am lm km bs clean ac n kc seen)
    (hblk : blk < lm) (hb : b = lm) (ht : cs = 0 ∨ cs = 44 ∨ cs = 45) (hn : n ≤ 140737488355000) (hlm : lm ≤ 100000) (hpg : ∀ c ∈ seen, c.k = 1 → c.p + 1 ≤ 9223372036854775807) (hM0 : ¬ (markedR (bs.getD blk false) seen blk = false ∧ ¬ nextR p (firstN clean p) seen blk ≤ cp)) :
    Calls Try.prog 50 #[.pointer (some ⟨gr, 0, none⟩), .agg #[.int .i64 1, .int .i64 (blk : Int), .int .i64 cp, .int .i64 cs]] w fun e w' => e = .returned (.bool (kpt p (knowAt p clean bs seen blk) ⟨1, blk, cp, cs⟩)) ∧ Below w.heap.size w w' := by
  obtain ⟨w1, hw1⟩ : ∃ w1, w1 = w.alloc (.cells #[.int .i64 1, .int .i64 (blk : Int), .int .i64 cp, .int .i64 cs] 54) := ⟨_, rfl⟩
  have g1 : w.grownBy w1 none := by rw [hw1]; exact World.grownBy_alloc _ _ _
  have hb0 : Below w.heap.size w w1 := below_of g1
  have hS : ∀ x, w1.grownBy x none → x.cell? ⟨w.heap.size, 0, none⟩ = some (.int .i64 1) ∧ x.cell? ⟨w.heap.size, 1, none⟩ = some (.int .i64 (blk : Int)) ∧ x.cell? ⟨w.heap.size, 2, none⟩ = some (.int .i64 cp) ∧ x.cell? ⟨w.heap.size, 3, none⟩ = some (.int .i64 cs) ∧ x.cell? ⟨gr, 1, none⟩ = some (.int .i64 p) := fun x hx => by
    rw [hw1] at hx
    obtain ⟨x0, x1, x2, x3⟩ := cmd_cells hx
    exact ⟨x0, x1, x2, x3, (grownBy_trans (World.grownBy_alloc _ _ none) hx).cell h.c1 (by simp)⟩
  have hA : ∀ x, w1.grownBy x none → RefAt x gr b p s am lm km bs clean ac n kc seen := fun x hx => h.grown (grownBy_trans g1 hx)
  have d0 : w1.cell? ⟨gr, 0, none⟩ = some (.int .i64 b) := g1.cell h.c0 (by simp)
  obtain ⟨x0, x1, x2, x3, x4⟩ := hS w1 (World.grownBy.refl _ _)
  have HS : Hid _ := hS
  have HA : Hid _ := hA
  clear hS hA h
  obtain ⟨M, hM⟩ : ∃ M, markedR (bs.getD blk false) seen blk = M := ⟨_, rfl⟩
  obtain ⟨N, hN⟩ : ∃ N, nextR p (firstN clean p) seen blk = N := ⟨_, rfl⟩
  have hK : knowAt p clean bs seen blk = ⟨M, N, wearR seen blk⟩ := by unfold knowAt; rw [hM, hN]
  rw [hK]
  simp only [kpt]
  have e3 : decide ((blk : Int) < 0) = false := decide_eq_false (by omega)
  have e4 : decide (b ≤ (blk : Int)) = false := decide_eq_false (by omega)
  cases M with
  | true =>
    rcases ht with rfl | rfl | rfl
    all_goals
      go_enter Try.func50, Try.ntmps50
      go_wp2
      rw [← hw1]
      clear hw1
      go_quiet (fail)
      all_goals go_wp2_with (first | (go_at_call 51; refine (marked_any gr b p s am lm km bs clean ac n kc seen blk _ ?_ hblk hn hlm).mono ?_; exact HA.out _ (drewN_grown _ _ _); rintro e u ⟨rfl, rfl⟩; rw [hM]))
      all_goals go_ret
      all_goals exact ⟨ret_bool (by simp), below_drewN hb0 _⟩
  | false =>
    by_cases hNp : N ≤ cp
    · have hd : decide (N ≤ cp) = true := decide_eq_true hNp
      rcases ht with rfl | rfl | rfl
      all_goals
        go_enter Try.func50, Try.ntmps50
        go_wp2
        rw [← hw1]
        clear hw1
        go_quiet (fail)
        all_goals go_wp2_with (first | (go_at_call 51; refine (marked_any gr b p s am lm km bs clean ac n kc seen blk _ ?_ hblk hn hlm).mono ?_; exact HA.out _ (drewN_grown _ _ _); rintro e u ⟨rfl, rfl⟩; rw [hM]))
        all_goals
          go_region_held3 (fun x => w1.grownBy x none ∧ x.cell? ⟨w.heap.size, 0, none⟩ = some (.int .i64 1) ∧ x.cell? ⟨w.heap.size, 1, none⟩ = some (.int .i64 (blk : Int)) ∧ x.cell? ⟨w.heap.size, 2, none⟩ = some (.int .i64 cp) ∧ x.cell? ⟨gr, 1, none⟩ = some (.int .i64 p))
            ((refine (fun hx => ⟨hx, (HS.out _ hx).1, (HS.out _ hx).2.1, (HS.out _ hx).2.2.1, (HS.out _ hx).2.2.2.2⟩) ?_; first | exact gb_drew (drewN_grown _ _ _) | exact g2))
            (first | (go_at_call 52; refine (next_any gr b p s am lm km bs clean ac n kc seen _ _ ?_ hn hpg).mono ?_; exact HA.out _ (gb_drew (drewN_grown _ _ _)); rintro e u2 ⟨rfl, bel2⟩; rw [hN]; have g2 := grownBy_trans (gb_drew (drewN_grown w1 _ none)) (grown_of bel2 none)))
        all_goals go_wp2
        all_goals go_ret
        all_goals exact ⟨ret_bool (by simp), below_of (grownBy_trans g1 g2)⟩
    · exact absurd ⟨hM, by rw [hN]; exact hNp⟩ hM0
end Go.Proofs.Ytjhphkfpcpfdnaa.J
namespace Go.Proofs.Ytjhphkfpcpfdnaa.J
open Go.RowKit
set_option linter.unusedVariables false

set_option maxHeartbeats 1000000 in
theorem rkeeps_1lt (gr : Nat) (b p s : Int) (am : Option Addr) (lm km : Nat) (bs : List Bool) (clean : Bool) (ac : Option Addr) (n kc : Nat) (seen : List Cmd) (blk : Nat) (cp cs : Int) (w : World) (h : RefAt w gr b p s am lm km bs clean ac n kc seen)
    (hblk : blk < lm) (hb : b = lm) (ht : cs = 0 ∨ cs = 44 ∨ cs = 45) (hn : n ≤ 140737488355000) (hlm : lm ≤ 100000) (hpg : ∀ c ∈ seen, c.k = 1 → c.p + 1 ≤ 9223372036854775807) (hM1 : markedR (bs.getD blk false) seen blk = false) (hN1 : ¬ nextR p (firstN clean p) seen blk ≤ cp) :
    Calls Try.prog 50 #[.pointer (some ⟨gr, 0, none⟩), .agg #[.int .i64 1, .int .i64 (blk : Int), .int .i64 cp, .int .i64 cs]] w fun e w' => e = .returned (.bool (kpt p (knowAt p clean bs seen blk) ⟨1, blk, cp, cs⟩)) ∧ Below w.heap.size w w' := by
  obtain ⟨w1, hw1⟩ : ∃ w1, w1 = w.alloc (.cells #[.int .i64 1, .int .i64 (blk : Int), .int .i64 cp, .int .i64 cs] 54) := ⟨_, rfl⟩
  have g1 : w.grownBy w1 none := by rw [hw1]; exact World.grownBy_alloc _ _ _
  have hb0 : Below w.heap.size w w1 := below_of g1
  have hS : ∀ x, w1.grownBy x none → x.cell? ⟨w.heap.size, 0, none⟩ = some (.int .i64 1) ∧ x.cell? ⟨w.heap.size, 1, none⟩ = some (.int .i64 (blk : Int)) ∧ x.cell? ⟨w.heap.size, 2, none⟩ = some (.int .i64 cp) ∧ x.cell? ⟨w.heap.size, 3, none⟩ = some (.int .i64 cs) ∧ x.cell? ⟨gr, 1, none⟩ = some (.int .i64 p) := fun x hx => by
    rw [hw1] at hx
    obtain ⟨x0, x1, x2, x3⟩ := cmd_cells hx
    exact ⟨x0, x1, x2, x3, (grownBy_trans (World.grownBy_alloc _ _ none) hx).cell h.c1 (by simp)⟩
  have hA : ∀ x, w1.grownBy x none → RefAt x gr b p s am lm km bs clean ac n kc seen := fun x hx => h.grown (grownBy_trans g1 hx)
  have d0 : w1.cell? ⟨gr, 0, none⟩ = some (.int .i64 b) := g1.cell h.c0 (by simp)
  obtain ⟨x0, x1, x2, x3, x4⟩ := hS w1 (World.grownBy.refl _ _)
  have HS : Hid _ := hS
  have HA : Hid _ := hA
  clear hS hA h
  obtain ⟨M, hM⟩ : ∃ M, markedR (bs.getD blk false) seen blk = M := ⟨_, rfl⟩
  obtain ⟨N, hN⟩ : ∃ N, nextR p (firstN clean p) seen blk = N := ⟨_, rfl⟩
  have hK : knowAt p clean bs seen blk = ⟨M, N, wearR seen blk⟩ := by unfold knowAt; rw [hM, hN]
  rw [hK]
  simp only [kpt]
  have e3 : decide ((blk : Int) < 0) = false := decide_eq_false (by omega)
  have e4 : decide (b ≤ (blk : Int)) = false := decide_eq_false (by omega)
  obtain rfl : M = false := by rw [← hM]; exact hM1
  have hNp : ¬ N ≤ cp := by rw [← hN]; exact hN1
  clear hM1 hN1
  have hd : decide (N ≤ cp) = false := decide_eq_false hNp
  rcases ht with rfl | rfl | rfl
  · go_enter Try.func50, Try.ntmps50
    go_wp2
    rw [← hw1]
    clear hw1
    go_quiet (fail)
    go_wp2_with (first | (go_at_call 51; refine (marked_any gr b p s am lm km bs clean ac n kc seen blk _ ?_ hblk hn hlm).mono ?_; exact HA.out _ (drewN_grown _ _ _); rintro e u ⟨rfl, rfl⟩; rw [hM]))
    refine wp_region_held_drew (S := (fun x => w1.grownBy x none ∧ x.cell? ⟨w.heap.size, 0, none⟩ = some (.int .i64 1) ∧ x.cell? ⟨w.heap.size, 1, none⟩ = some (.int .i64 (blk : Int)) ∧ x.cell? ⟨w.heap.size, 2, none⟩ = some (.int .i64 cp) ∧ x.cell? ⟨gr, 1, none⟩ = some (.int .i64 p))) (by kernel_rfl) ((fun hx => ⟨hx, (HS.out _ hx).1, (HS.out _ hx).2.1, (HS.out _ hx).2.2.1, (HS.out _ hx).2.2.2.2⟩) (gb_drew (drewN_grown _ _ _))) (fun hHeld => ?_)
    refine wpAnyH_take (i := 0) (oi := { dst := some 52, op := Op.fieldAddr 54 (Operand.tmp 3) 0, type := 0, pos := "ref.go:89", after := #[], guard := none }) (v := ?v0a) rfl (by kernel_rfl) (by kernel_rfl) (by kernel_rfl) (fun _ _ _ h => h) (Or.inl ⟨by rfl, ?y0a⟩) (by assumption) ?r0a
    case y0a => (intro x hx; (try dsimp only at hx); go_simp; try with_reducible rfl)
    try simp only [Act.put, List.setIfInBounds_toArray, List.set_cons_zero, List.set_cons_succ]
    refine wpAnyH_take (i := 1) (oi := { dst := some 53, op := Op.load 3 (Operand.tmp 52), type := 3, pos := "ref.go:89", after := #[{ on := 0, ground := Ground.data }], guard := none }) (v := ?v1a) rfl (by kernel_rfl) (by kernel_rfl) (by kernel_rfl) (fun _ _ _ h => h) (Or.inl ⟨by rfl, ?y1a⟩) (by assumption) ?r1a
    case y1a => (intro x hx; (try dsimp only at hx); go_simp; try with_reducible rfl)
    try simp only [Act.put, List.setIfInBounds_toArray, List.set_cons_zero, List.set_cons_succ]
    refine wpAnyH_take (i := 2) (oi := { dst := some 54, op := Op.binOp BinOp.neq 3 (Operand.tmp 53) (Operand.const (Value.int IntKind.i64 1)) 3, type := 4, pos := "ref.go:89", after := #[{ on := 1, ground := Ground.data }], guard := none }) (v := ?v2a) rfl (by kernel_rfl) (by kernel_rfl) (by kernel_rfl) (fun _ _ _ h => h) (Or.inl ⟨by rfl, ?y2a⟩) (by assumption) ?r2a
    case y2a => (intro x hx; (try dsimp only at hx); go_simp; try with_reducible rfl)
    try simp only [Act.put, List.setIfInBounds_toArray, List.set_cons_zero, List.set_cons_succ]
    refine wpAnyH_take (i := 3) (oi := { dst := some 55, op := Op.move (Operand.tmp 54), type := 4, pos := "ref.go:89", after := #[{ on := 2, ground := Ground.data }], guard := none }) (v := ?v3a) rfl (by kernel_rfl) (by kernel_rfl) (by kernel_rfl) (fun _ _ _ h => h) (Or.inl ⟨by rfl, ?y3a⟩) (by assumption) ?r3a
    case y3a => (intro x hx; (try dsimp only at hx); go_simp; try with_reducible rfl)
    try simp only [Act.put, List.setIfInBounds_toArray, List.set_cons_zero, List.set_cons_succ]
    refine wpAnyH_take (i := 4) (oi := { dst := some 56, op := Op.fieldAddr 54 (Operand.tmp 3) 2, type := 0, pos := "ref.go:89", after := #[{ on := 3, ground := Ground.guard }], guard := some (3, false) }) (v := ?v4a) rfl (by kernel_rfl) (by kernel_rfl) (by kernel_rfl) (fun _ _ _ h => h) (Or.inl ⟨by rfl, ?y4a⟩) (by assumption) ?r4a
    case y4a => (intro x hx; (try dsimp only at hx); go_simp; try with_reducible rfl)
    try simp only [Act.put, List.setIfInBounds_toArray, List.set_cons_zero, List.set_cons_succ]
    refine wpAnyH_take (i := 5) (oi := { dst := some 57, op := Op.load 3 (Operand.tmp 56), type := 3, pos := "ref.go:89", after := #[{ on := 4, ground := Ground.data }, { on := 3, ground := Ground.guard }], guard := some (3, false) }) (v := ?v5a) rfl (by kernel_rfl) (by kernel_rfl) (by kernel_rfl) (fun _ _ _ h => h) (Or.inl ⟨by rfl, ?y5a⟩) (by assumption) ?r5a
    case y5a => (intro x hx; (try dsimp only at hx); go_simp; try with_reducible rfl)
    try simp only [Act.put, List.setIfInBounds_toArray, List.set_cons_zero, List.set_cons_succ]
    refine wpAnyH_take (i := 6) (oi := { dst := some 58, op := Op.move (Operand.tmp 0), type := 75, pos := "ref.go:89", after := #[{ on := 3, ground := Ground.guard }], guard := some (3, false) }) (v := ?v6a) rfl (by kernel_rfl) (by kernel_rfl) (by kernel_rfl) (fun _ _ _ h => h) (Or.inl ⟨by rfl, ?y6a⟩) (by assumption) ?r6a
    case y6a => (intro x hx; (try dsimp only at hx); go_simp; try with_reducible rfl)
    try simp only [Act.put, List.setIfInBounds_toArray, List.set_cons_zero, List.set_cons_succ]
    refine wpAnyH_take (i := 7) (oi := { dst := some 59, op := Op.fieldAddr 54 (Operand.tmp 3) 1, type := 0, pos := "ref.go:89", after := #[{ on := 3, ground := Ground.guard }], guard := some (3, false) }) (v := ?v7a) rfl (by kernel_rfl) (by kernel_rfl) (by kernel_rfl) (fun _ _ _ h => h) (Or.inl ⟨by rfl, ?y7a⟩) (by assumption) ?r7a
    case y7a => (intro x hx; (try dsimp only at hx); go_simp; try with_reducible rfl)
    try simp only [Act.put, List.setIfInBounds_toArray, List.set_cons_zero, List.set_cons_succ]
    refine wpAnyH_take (i := 8) (oi := { dst := some 60, op := Op.load 3 (Operand.tmp 59), type := 3, pos := "ref.go:89", after := #[{ on := 7, ground := Ground.data }, { on := 3, ground := Ground.guard }], guard := some (3, false) }) (v := ?v8a) rfl (by kernel_rfl) (by kernel_rfl) (by kernel_rfl) (fun _ _ _ h => h) (Or.inl ⟨by rfl, ?y8a⟩) (by assumption) ?r8a
    case y8a => (intro x hx; (try dsimp only at hx); go_simp; try with_reducible rfl)
    try simp only [Act.put, List.setIfInBounds_toArray, List.set_cons_zero, List.set_cons_succ]
    refine wpAnyH_ready (rs := [9]) (by kernel_rfl) (by simp) ?_
    refine AllReadyH.cons (o := { dst := some 61, op := Op.call { callee := Callee.value (Operand.func 52), args := #[Operand.tmp 58, Operand.tmp 60], argTypes := #[75, 3] }, type := 3, pos := "ref.go:89", after := #[{ on := 6, ground := Ground.data }, { on := 8, ground := Ground.data }, { on := 3, ground := Ground.chain }, { on := 3, ground := Ground.guard }], guard := some (3, false) }) rfl (fun K hK => ?_) AllReadyH.nil
    go_simp
    go_at_call 52
    refine (next_any gr b p s am lm km bs clean ac n kc seen _ _ ?_ hn hpg).mono ?_
    · exact HA.out _ (gb_drew (drewN_grown _ _ _))
    rintro e u2 ⟨rfl, bel2⟩
    rw [hN]
    have g2 := grownBy_trans (gb_drew (drewN_grown w1 _ none)) (grown_of bel2 none)
    go_wp2_with fail
    refine hK.out _ _ ((fun hx => ⟨hx, (HS.out _ hx).1, (HS.out _ hx).2.1, (HS.out _ hx).2.2.1, (HS.out _ hx).2.2.2.2⟩) g2) (fun hHeld2 => ?_)
    clear hK K hHeld
    try simp only [Act.put, List.setIfInBounds_toArray, List.set_cons_zero, List.set_cons_succ]
    refine wpAnyH_take (i := 10) (oi := { dst := some 62, op := Op.binOp BinOp.geq 3 (Operand.tmp 57) (Operand.tmp 61) 3, type := 4, pos := "ref.go:89", after := #[{ on := 5, ground := Ground.data }, { on := 9, ground := Ground.data }, { on := 3, ground := Ground.guard }], guard := some (3, false) }) (v := ?v10a) rfl (by kernel_rfl) (by kernel_rfl) (by kernel_rfl) (fun _ _ _ h => h) (Or.inl ⟨by rfl, ?y10a⟩) (by assumption) ?r10a
    case y10a => (intro x hx; (try dsimp only at hx); go_simp; try with_reducible rfl)
    try simp only [Act.put, List.setIfInBounds_toArray, List.set_cons_zero, List.set_cons_succ]
    refine wpAnyH_take (i := 11) (oi := { dst := some 63, op := Op.move (Operand.tmp 62), type := 4, pos := "ref.go:89", after := #[{ on := 10, ground := Ground.data }, { on := 9, ground := Ground.chain }, { on := 3, ground := Ground.guard }], guard := some (3, false) }) (v := ?v11a) rfl (by kernel_rfl) (by kernel_rfl) (by kernel_rfl) (fun _ _ _ h => h) (Or.inl ⟨by rfl, ?y11a⟩) (by assumption) ?r11a
    case y11a => (intro x hx; (try dsimp only at hx); go_simp; try with_reducible rfl)
    try simp only [Act.put, List.setIfInBounds_toArray, List.set_cons_zero, List.set_cons_succ]
    refine wpAnyH_take (i := 12) (oi := { dst := some 64, op := Op.fieldAddr 54 (Operand.tmp 3) 2, type := 0, pos := "ref.go:89", after := #[{ on := 11, ground := Ground.guard }], guard := some (11, true) }) (v := undef) rfl (by kernel_rfl) (by kernel_rfl) (by kernel_rfl) (fun _ _ _ h => h) (Or.inr ⟨by rfl, rfl⟩) (by assumption) ?_
    try simp only [Act.put, List.setIfInBounds_toArray, List.set_cons_zero, List.set_cons_succ]
    refine wpAnyH_take (i := 13) (oi := { dst := some 65, op := Op.load 3 (Operand.tmp 64), type := 3, pos := "ref.go:89", after := #[{ on := 12, ground := Ground.data }, { on := 11, ground := Ground.guard }], guard := some (11, true) }) (v := undef) rfl (by kernel_rfl) (by kernel_rfl) (by kernel_rfl) (fun _ _ _ h => h) (Or.inr ⟨by rfl, rfl⟩) (by assumption) ?_
    try simp only [Act.put, List.setIfInBounds_toArray, List.set_cons_zero, List.set_cons_succ]
    refine wpAnyH_take (i := 14) (oi := { dst := some 66, op := Op.move (Operand.tmp 0), type := 75, pos := "ref.go:89", after := #[{ on := 11, ground := Ground.guard }], guard := some (11, true) }) (v := undef) rfl (by kernel_rfl) (by kernel_rfl) (by kernel_rfl) (fun _ _ _ h => h) (Or.inr ⟨by rfl, rfl⟩) (by assumption) ?_
    try simp only [Act.put, List.setIfInBounds_toArray, List.set_cons_zero, List.set_cons_succ]
    refine wpAnyH_take (i := 15) (oi := { dst := some 67, op := Op.nilCheck (Operand.tmp 66), type := 0, pos := "ref.go:89", after := #[{ on := 14, ground := Ground.data }, { on := 11, ground := Ground.guard }], guard := some (11, true) }) (v := undef) rfl (by kernel_rfl) (by kernel_rfl) (by kernel_rfl) (fun _ _ _ h => h) (Or.inr ⟨by rfl, rfl⟩) (by assumption) ?_
    try simp only [Act.put, List.setIfInBounds_toArray, List.set_cons_zero, List.set_cons_succ]
    refine wpAnyH_take (i := 16) (oi := { dst := some 68, op := Op.fieldAddr 104 (Operand.tmp 67) 0, type := 0, pos := "ref.go:89", after := #[{ on := 15, ground := Ground.data }, { on := 11, ground := Ground.guard }], guard := some (11, true) }) (v := undef) rfl (by kernel_rfl) (by kernel_rfl) (by kernel_rfl) (fun _ _ _ h => h) (Or.inr ⟨by rfl, rfl⟩) (by assumption) ?_
    try simp only [Act.put, List.setIfInBounds_toArray, List.set_cons_zero, List.set_cons_succ]
    refine wpAnyH_take (i := 17) (oi := { dst := some 69, op := Op.fieldAddr 23 (Operand.tmp 68) 1, type := 0, pos := "ref.go:89", after := #[{ on := 16, ground := Ground.data }, { on := 11, ground := Ground.guard }], guard := some (11, true) }) (v := undef) rfl (by kernel_rfl) (by kernel_rfl) (by kernel_rfl) (fun _ _ _ h => h) (Or.inr ⟨by rfl, rfl⟩) (by assumption) ?_
    try simp only [Act.put, List.setIfInBounds_toArray, List.set_cons_zero, List.set_cons_succ]
    refine wpAnyH_take (i := 18) (oi := { dst := some 70, op := Op.load 3 (Operand.tmp 69), type := 3, pos := "ref.go:89", after := #[{ on := 17, ground := Ground.data }, { on := 11, ground := Ground.guard }], guard := some (11, true) }) (v := undef) rfl (by kernel_rfl) (by kernel_rfl) (by kernel_rfl) (fun _ _ _ h => h) (Or.inr ⟨by rfl, rfl⟩) (by assumption) ?_
    try simp only [Act.put, List.setIfInBounds_toArray, List.set_cons_zero, List.set_cons_succ]
    refine wpAnyH_take (i := 19) (oi := { dst := some 71, op := Op.binOp BinOp.lss 3 (Operand.tmp 65) (Operand.tmp 70) 3, type := 4, pos := "ref.go:89", after := #[{ on := 13, ground := Ground.data }, { on := 18, ground := Ground.data }, { on := 11, ground := Ground.guard }], guard := some (11, true) }) (v := undef) rfl (by kernel_rfl) (by kernel_rfl) (by kernel_rfl) (fun _ _ _ h => h) (Or.inr ⟨by rfl, rfl⟩) (by assumption) ?_
    try simp only [Act.put, List.setIfInBounds_toArray, List.set_cons_zero, List.set_cons_succ]
    refine wpAnyH_take (i := 20) (oi := { dst := some 72, op := Op.pick (Operand.tmp 63) (Operand.tmp 71) (Operand.const (Value.bool false)), type := 4, pos := "ref.go:89", after := #[{ on := 11, ground := Ground.data }, { on := 19, ground := Ground.data }, { on := 3, ground := Ground.guard }], guard := some (3, false) }) (v := ?v20a) rfl (by kernel_rfl) (by kernel_rfl) (by kernel_rfl) (fun _ _ _ h => h) (Or.inl ⟨by rfl, ?y20a⟩) (by assumption) ?r20a
    case y20a => (intro x hx; (try dsimp only at hx); go_simp; try with_reducible rfl)
    try simp only [Act.put, List.setIfInBounds_toArray, List.set_cons_zero, List.set_cons_succ]
    refine wpAnyH_take (i := 21) (oi := { dst := some 73, op := Op.pick (Operand.tmp 55) (Operand.const (Value.bool true)) (Operand.tmp 72), type := 4, pos := "ref.go:89", after := #[{ on := 3, ground := Ground.data }, { on := 20, ground := Ground.data }], guard := none }) (v := ?v21a) rfl (by kernel_rfl) (by kernel_rfl) (by kernel_rfl) (fun _ _ _ h => h) (Or.inl ⟨by rfl, ?y21a⟩) (by assumption) ?r21a
    case y21a => (intro x hx; (try dsimp only at hx); go_simp; try with_reducible rfl)
    try simp only [Act.put, List.setIfInBounds_toArray, List.set_cons_zero, List.set_cons_succ]
    refine wpAnyH_take (i := 22) (oi := { dst := some 4, op := Op.assign (Operand.tmp 73), type := 4, pos := "ref.go:89", after := #[{ on := 21, ground := Ground.data }, { on := 11, ground := Ground.chain }, { on := 0, ground := Ground.phase }, { on := 1, ground := Ground.phase }, { on := 2, ground := Ground.phase }, { on := 3, ground := Ground.phase }, { on := 4, ground := Ground.phase }, { on := 5, ground := Ground.phase }, { on := 6, ground := Ground.phase }, { on := 7, ground := Ground.phase }, { on := 8, ground := Ground.phase }, { on := 9, ground := Ground.phase }, { on := 10, ground := Ground.phase }, { on := 11, ground := Ground.phase }, { on := 12, ground := Ground.phase }, { on := 13, ground := Ground.phase }, { on := 14, ground := Ground.phase }, { on := 15, ground := Ground.phase }, { on := 16, ground := Ground.phase }, { on := 17, ground := Ground.phase }, { on := 18, ground := Ground.phase }, { on := 19, ground := Ground.phase }, { on := 20, ground := Ground.phase }, { on := 21, ground := Ground.phase }], guard := none }) (v := ?v22a) rfl (by kernel_rfl) (by kernel_rfl) (by kernel_rfl) (fun _ _ _ h => h) (Or.inl ⟨by rfl, ?y22a⟩) (by assumption) ?r22a
    case y22a => (intro x hx; (try dsimp only at hx); go_simp; try with_reducible rfl)
    try simp only [Act.put, List.setIfInBounds_toArray, List.set_cons_zero, List.set_cons_succ]
    refine wpAnyH_done (by kernel_rfl) ?_ _
    all_goals go_wp2
    all_goals go_ret
    all_goals exact ⟨ret_bool (by simp), below_of (grownBy_trans g1 g2)⟩
  · go_enter Try.func50, Try.ntmps50
    go_wp2
    rw [← hw1]
    clear hw1
    go_quiet (fail)
    go_wp2_with (first | (go_at_call 51; refine (marked_any gr b p s am lm km bs clean ac n kc seen blk _ ?_ hblk hn hlm).mono ?_; exact HA.out _ (drewN_grown _ _ _); rintro e u ⟨rfl, rfl⟩; rw [hM]))
    refine wp_region_held_drew (S := (fun x => w1.grownBy x none ∧ x.cell? ⟨w.heap.size, 0, none⟩ = some (.int .i64 1) ∧ x.cell? ⟨w.heap.size, 1, none⟩ = some (.int .i64 (blk : Int)) ∧ x.cell? ⟨w.heap.size, 2, none⟩ = some (.int .i64 cp) ∧ x.cell? ⟨gr, 1, none⟩ = some (.int .i64 p))) (by kernel_rfl) ((fun hx => ⟨hx, (HS.out _ hx).1, (HS.out _ hx).2.1, (HS.out _ hx).2.2.1, (HS.out _ hx).2.2.2.2⟩) (gb_drew (drewN_grown _ _ _))) (fun hHeld => ?_)
    refine wpAnyH_take (i := 0) (oi := { dst := some 52, op := Op.fieldAddr 54 (Operand.tmp 3) 0, type := 0, pos := "ref.go:89", after := #[], guard := none }) (v := ?v0b) rfl (by kernel_rfl) (by kernel_rfl) (by kernel_rfl) (fun _ _ _ h => h) (Or.inl ⟨by rfl, ?y0b⟩) (by assumption) ?r0b
    case y0b => (intro x hx; (try dsimp only at hx); go_simp; try with_reducible rfl)
    try simp only [Act.put, List.setIfInBounds_toArray, List.set_cons_zero, List.set_cons_succ]
    refine wpAnyH_take (i := 1) (oi := { dst := some 53, op := Op.load 3 (Operand.tmp 52), type := 3, pos := "ref.go:89", after := #[{ on := 0, ground := Ground.data }], guard := none }) (v := ?v1b) rfl (by kernel_rfl) (by kernel_rfl) (by kernel_rfl) (fun _ _ _ h => h) (Or.inl ⟨by rfl, ?y1b⟩) (by assumption) ?r1b
    case y1b => (intro x hx; (try dsimp only at hx); go_simp; try with_reducible rfl)
    try simp only [Act.put, List.setIfInBounds_toArray, List.set_cons_zero, List.set_cons_succ]
    refine wpAnyH_take (i := 2) (oi := { dst := some 54, op := Op.binOp BinOp.neq 3 (Operand.tmp 53) (Operand.const (Value.int IntKind.i64 1)) 3, type := 4, pos := "ref.go:89", after := #[{ on := 1, ground := Ground.data }], guard := none }) (v := ?v2b) rfl (by kernel_rfl) (by kernel_rfl) (by kernel_rfl) (fun _ _ _ h => h) (Or.inl ⟨by rfl, ?y2b⟩) (by assumption) ?r2b
    case y2b => (intro x hx; (try dsimp only at hx); go_simp; try with_reducible rfl)
    try simp only [Act.put, List.setIfInBounds_toArray, List.set_cons_zero, List.set_cons_succ]
    refine wpAnyH_take (i := 3) (oi := { dst := some 55, op := Op.move (Operand.tmp 54), type := 4, pos := "ref.go:89", after := #[{ on := 2, ground := Ground.data }], guard := none }) (v := ?v3b) rfl (by kernel_rfl) (by kernel_rfl) (by kernel_rfl) (fun _ _ _ h => h) (Or.inl ⟨by rfl, ?y3b⟩) (by assumption) ?r3b
    case y3b => (intro x hx; (try dsimp only at hx); go_simp; try with_reducible rfl)
    try simp only [Act.put, List.setIfInBounds_toArray, List.set_cons_zero, List.set_cons_succ]
    refine wpAnyH_take (i := 4) (oi := { dst := some 56, op := Op.fieldAddr 54 (Operand.tmp 3) 2, type := 0, pos := "ref.go:89", after := #[{ on := 3, ground := Ground.guard }], guard := some (3, false) }) (v := ?v4b) rfl (by kernel_rfl) (by kernel_rfl) (by kernel_rfl) (fun _ _ _ h => h) (Or.inl ⟨by rfl, ?y4b⟩) (by assumption) ?r4b
    case y4b => (intro x hx; (try dsimp only at hx); go_simp; try with_reducible rfl)
    try simp only [Act.put, List.setIfInBounds_toArray, List.set_cons_zero, List.set_cons_succ]
    refine wpAnyH_take (i := 5) (oi := { dst := some 57, op := Op.load 3 (Operand.tmp 56), type := 3, pos := "ref.go:89", after := #[{ on := 4, ground := Ground.data }, { on := 3, ground := Ground.guard }], guard := some (3, false) }) (v := ?v5b) rfl (by kernel_rfl) (by kernel_rfl) (by kernel_rfl) (fun _ _ _ h => h) (Or.inl ⟨by rfl, ?y5b⟩) (by assumption) ?r5b
    case y5b => (intro x hx; (try dsimp only at hx); go_simp; try with_reducible rfl)
    try simp only [Act.put, List.setIfInBounds_toArray, List.set_cons_zero, List.set_cons_succ]
    refine wpAnyH_take (i := 6) (oi := { dst := some 58, op := Op.move (Operand.tmp 0), type := 75, pos := "ref.go:89", after := #[{ on := 3, ground := Ground.guard }], guard := some (3, false) }) (v := ?v6b) rfl (by kernel_rfl) (by kernel_rfl) (by kernel_rfl) (fun _ _ _ h => h) (Or.inl ⟨by rfl, ?y6b⟩) (by assumption) ?r6b
    case y6b => (intro x hx; (try dsimp only at hx); go_simp; try with_reducible rfl)
    try simp only [Act.put, List.setIfInBounds_toArray, List.set_cons_zero, List.set_cons_succ]
    refine wpAnyH_take (i := 7) (oi := { dst := some 59, op := Op.fieldAddr 54 (Operand.tmp 3) 1, type := 0, pos := "ref.go:89", after := #[{ on := 3, ground := Ground.guard }], guard := some (3, false) }) (v := ?v7b) rfl (by kernel_rfl) (by kernel_rfl) (by kernel_rfl) (fun _ _ _ h => h) (Or.inl ⟨by rfl, ?y7b⟩) (by assumption) ?r7b
    case y7b => (intro x hx; (try dsimp only at hx); go_simp; try with_reducible rfl)
    try simp only [Act.put, List.setIfInBounds_toArray, List.set_cons_zero, List.set_cons_succ]
    refine wpAnyH_take (i := 8) (oi := { dst := some 60, op := Op.load 3 (Operand.tmp 59), type := 3, pos := "ref.go:89", after := #[{ on := 7, ground := Ground.data }, { on := 3, ground := Ground.guard }], guard := some (3, false) }) (v := ?v8b) rfl (by kernel_rfl) (by kernel_rfl) (by kernel_rfl) (fun _ _ _ h => h) (Or.inl ⟨by rfl, ?y8b⟩) (by assumption) ?r8b
    case y8b => (intro x hx; (try dsimp only at hx); go_simp; try with_reducible rfl)
    try simp only [Act.put, List.setIfInBounds_toArray, List.set_cons_zero, List.set_cons_succ]
    refine wpAnyH_ready (rs := [9]) (by kernel_rfl) (by simp) ?_
    refine AllReadyH.cons (o := { dst := some 61, op := Op.call { callee := Callee.value (Operand.func 52), args := #[Operand.tmp 58, Operand.tmp 60], argTypes := #[75, 3] }, type := 3, pos := "ref.go:89", after := #[{ on := 6, ground := Ground.data }, { on := 8, ground := Ground.data }, { on := 3, ground := Ground.chain }, { on := 3, ground := Ground.guard }], guard := some (3, false) }) rfl (fun K hK => ?_) AllReadyH.nil
    go_simp
    go_at_call 52
    refine (next_any gr b p s am lm km bs clean ac n kc seen _ _ ?_ hn hpg).mono ?_
    · exact HA.out _ (gb_drew (drewN_grown _ _ _))
    rintro e u2 ⟨rfl, bel2⟩
    rw [hN]
    have g2 := grownBy_trans (gb_drew (drewN_grown w1 _ none)) (grown_of bel2 none)
    go_wp2_with fail
    refine hK.out _ _ ((fun hx => ⟨hx, (HS.out _ hx).1, (HS.out _ hx).2.1, (HS.out _ hx).2.2.1, (HS.out _ hx).2.2.2.2⟩) g2) (fun hHeld2 => ?_)
    clear hK K hHeld
    try simp only [Act.put, List.setIfInBounds_toArray, List.set_cons_zero, List.set_cons_succ]
    refine wpAnyH_take (i := 10) (oi := { dst := some 62, op := Op.binOp BinOp.geq 3 (Operand.tmp 57) (Operand.tmp 61) 3, type := 4, pos := "ref.go:89", after := #[{ on := 5, ground := Ground.data }, { on := 9, ground := Ground.data }, { on := 3, ground := Ground.guard }], guard := some (3, false) }) (v := ?v10b) rfl (by kernel_rfl) (by kernel_rfl) (by kernel_rfl) (fun _ _ _ h => h) (Or.inl ⟨by rfl, ?y10b⟩) (by assumption) ?r10b
    case y10b => (intro x hx; (try dsimp only at hx); go_simp; try with_reducible rfl)
    try simp only [Act.put, List.setIfInBounds_toArray, List.set_cons_zero, List.set_cons_succ]
    refine wpAnyH_take (i := 11) (oi := { dst := some 63, op := Op.move (Operand.tmp 62), type := 4, pos := "ref.go:89", after := #[{ on := 10, ground := Ground.data }, { on := 9, ground := Ground.chain }, { on := 3, ground := Ground.guard }], guard := some (3, false) }) (v := ?v11b) rfl (by kernel_rfl) (by kernel_rfl) (by kernel_rfl) (fun _ _ _ h => h) (Or.inl ⟨by rfl, ?y11b⟩) (by assumption) ?r11b
    case y11b => (intro x hx; (try dsimp only at hx); go_simp; try with_reducible rfl)
    try simp only [Act.put, List.setIfInBounds_toArray, List.set_cons_zero, List.set_cons_succ]
    refine wpAnyH_take (i := 12) (oi := { dst := some 64, op := Op.fieldAddr 54 (Operand.tmp 3) 2, type := 0, pos := "ref.go:89", after := #[{ on := 11, ground := Ground.guard }], guard := some (11, true) }) (v := undef) rfl (by kernel_rfl) (by kernel_rfl) (by kernel_rfl) (fun _ _ _ h => h) (Or.inr ⟨by rfl, rfl⟩) (by assumption) ?_
    try simp only [Act.put, List.setIfInBounds_toArray, List.set_cons_zero, List.set_cons_succ]
    refine wpAnyH_take (i := 13) (oi := { dst := some 65, op := Op.load 3 (Operand.tmp 64), type := 3, pos := "ref.go:89", after := #[{ on := 12, ground := Ground.data }, { on := 11, ground := Ground.guard }], guard := some (11, true) }) (v := undef) rfl (by kernel_rfl) (by kernel_rfl) (by kernel_rfl) (fun _ _ _ h => h) (Or.inr ⟨by rfl, rfl⟩) (by assumption) ?_
    try simp only [Act.put, List.setIfInBounds_toArray, List.set_cons_zero, List.set_cons_succ]
    refine wpAnyH_take (i := 14) (oi := { dst := some 66, op := Op.move (Operand.tmp 0), type := 75, pos := "ref.go:89", after := #[{ on := 11, ground := Ground.guard }], guard := some (11, true) }) (v := undef) rfl (by kernel_rfl) (by kernel_rfl) (by kernel_rfl) (fun _ _ _ h => h) (Or.inr ⟨by rfl, rfl⟩) (by assumption) ?_
    try simp only [Act.put, List.setIfInBounds_toArray, List.set_cons_zero, List.set_cons_succ]
    refine wpAnyH_take (i := 15) (oi := { dst := some 67, op := Op.nilCheck (Operand.tmp 66), type := 0, pos := "ref.go:89", after := #[{ on := 14, ground := Ground.data }, { on := 11, ground := Ground.guard }], guard := some (11, true) }) (v := undef) rfl (by kernel_rfl) (by kernel_rfl) (by kernel_rfl) (fun _ _ _ h => h) (Or.inr ⟨by rfl, rfl⟩) (by assumption) ?_
    try simp only [Act.put, List.setIfInBounds_toArray, List.set_cons_zero, List.set_cons_succ]
    refine wpAnyH_take (i := 16) (oi := { dst := some 68, op := Op.fieldAddr 104 (Operand.tmp 67) 0, type := 0, pos := "ref.go:89", after := #[{ on := 15, ground := Ground.data }, { on := 11, ground := Ground.guard }], guard := some (11, true) }) (v := undef) rfl (by kernel_rfl) (by kernel_rfl) (by kernel_rfl) (fun _ _ _ h => h) (Or.inr ⟨by rfl, rfl⟩) (by assumption) ?_
    try simp only [Act.put, List.setIfInBounds_toArray, List.set_cons_zero, List.set_cons_succ]
    refine wpAnyH_take (i := 17) (oi := { dst := some 69, op := Op.fieldAddr 23 (Operand.tmp 68) 1, type := 0, pos := "ref.go:89", after := #[{ on := 16, ground := Ground.data }, { on := 11, ground := Ground.guard }], guard := some (11, true) }) (v := undef) rfl (by kernel_rfl) (by kernel_rfl) (by kernel_rfl) (fun _ _ _ h => h) (Or.inr ⟨by rfl, rfl⟩) (by assumption) ?_
    try simp only [Act.put, List.setIfInBounds_toArray, List.set_cons_zero, List.set_cons_succ]
    refine wpAnyH_take (i := 18) (oi := { dst := some 70, op := Op.load 3 (Operand.tmp 69), type := 3, pos := "ref.go:89", after := #[{ on := 17, ground := Ground.data }, { on := 11, ground := Ground.guard }], guard := some (11, true) }) (v := undef) rfl (by kernel_rfl) (by kernel_rfl) (by kernel_rfl) (fun _ _ _ h => h) (Or.inr ⟨by rfl, rfl⟩) (by assumption) ?_
    try simp only [Act.put, List.setIfInBounds_toArray, List.set_cons_zero, List.set_cons_succ]
    refine wpAnyH_take (i := 19) (oi := { dst := some 71, op := Op.binOp BinOp.lss 3 (Operand.tmp 65) (Operand.tmp 70) 3, type := 4, pos := "ref.go:89", after := #[{ on := 13, ground := Ground.data }, { on := 18, ground := Ground.data }, { on := 11, ground := Ground.guard }], guard := some (11, true) }) (v := undef) rfl (by kernel_rfl) (by kernel_rfl) (by kernel_rfl) (fun _ _ _ h => h) (Or.inr ⟨by rfl, rfl⟩) (by assumption) ?_
    try simp only [Act.put, List.setIfInBounds_toArray, List.set_cons_zero, List.set_cons_succ]
    refine wpAnyH_take (i := 20) (oi := { dst := some 72, op := Op.pick (Operand.tmp 63) (Operand.tmp 71) (Operand.const (Value.bool false)), type := 4, pos := "ref.go:89", after := #[{ on := 11, ground := Ground.data }, { on := 19, ground := Ground.data }, { on := 3, ground := Ground.guard }], guard := some (3, false) }) (v := ?v20b) rfl (by kernel_rfl) (by kernel_rfl) (by kernel_rfl) (fun _ _ _ h => h) (Or.inl ⟨by rfl, ?y20b⟩) (by assumption) ?r20b
    case y20b => (intro x hx; (try dsimp only at hx); go_simp; try with_reducible rfl)
    try simp only [Act.put, List.setIfInBounds_toArray, List.set_cons_zero, List.set_cons_succ]
    refine wpAnyH_take (i := 21) (oi := { dst := some 73, op := Op.pick (Operand.tmp 55) (Operand.const (Value.bool true)) (Operand.tmp 72), type := 4, pos := "ref.go:89", after := #[{ on := 3, ground := Ground.data }, { on := 20, ground := Ground.data }], guard := none }) (v := ?v21b) rfl (by kernel_rfl) (by kernel_rfl) (by kernel_rfl) (fun _ _ _ h => h) (Or.inl ⟨by rfl, ?y21b⟩) (by assumption) ?r21b
    case y21b => (intro x hx; (try dsimp only at hx); go_simp; try with_reducible rfl)
    try simp only [Act.put, List.setIfInBounds_toArray, List.set_cons_zero, List.set_cons_succ]
    refine wpAnyH_take (i := 22) (oi := { dst := some 4, op := Op.assign (Operand.tmp 73), type := 4, pos := "ref.go:89", after := #[{ on := 21, ground := Ground.data }, { on := 11, ground := Ground.chain }, { on := 0, ground := Ground.phase }, { on := 1, ground := Ground.phase }, { on := 2, ground := Ground.phase }, { on := 3, ground := Ground.phase }, { on := 4, ground := Ground.phase }, { on := 5, ground := Ground.phase }, { on := 6, ground := Ground.phase }, { on := 7, ground := Ground.phase }, { on := 8, ground := Ground.phase }, { on := 9, ground := Ground.phase }, { on := 10, ground := Ground.phase }, { on := 11, ground := Ground.phase }, { on := 12, ground := Ground.phase }, { on := 13, ground := Ground.phase }, { on := 14, ground := Ground.phase }, { on := 15, ground := Ground.phase }, { on := 16, ground := Ground.phase }, { on := 17, ground := Ground.phase }, { on := 18, ground := Ground.phase }, { on := 19, ground := Ground.phase }, { on := 20, ground := Ground.phase }, { on := 21, ground := Ground.phase }], guard := none }) (v := ?v22b) rfl (by kernel_rfl) (by kernel_rfl) (by kernel_rfl) (fun _ _ _ h => h) (Or.inl ⟨by rfl, ?y22b⟩) (by assumption) ?r22b
    case y22b => (intro x hx; (try dsimp only at hx); go_simp; try with_reducible rfl)
    try simp only [Act.put, List.setIfInBounds_toArray, List.set_cons_zero, List.set_cons_succ]
    refine wpAnyH_done (by kernel_rfl) ?_ _
    all_goals go_wp2
    all_goals go_ret
    all_goals exact ⟨ret_bool (by simp), below_of (grownBy_trans g1 g2)⟩
  · go_enter Try.func50, Try.ntmps50
    go_wp2
    rw [← hw1]
    clear hw1
    go_quiet (fail)
    go_wp2_with (first | (go_at_call 51; refine (marked_any gr b p s am lm km bs clean ac n kc seen blk _ ?_ hblk hn hlm).mono ?_; exact HA.out _ (drewN_grown _ _ _); rintro e u ⟨rfl, rfl⟩; rw [hM]))
    refine wp_region_held_drew (S := (fun x => w1.grownBy x none ∧ x.cell? ⟨w.heap.size, 0, none⟩ = some (.int .i64 1) ∧ x.cell? ⟨w.heap.size, 1, none⟩ = some (.int .i64 (blk : Int)) ∧ x.cell? ⟨w.heap.size, 2, none⟩ = some (.int .i64 cp) ∧ x.cell? ⟨gr, 1, none⟩ = some (.int .i64 p))) (by kernel_rfl) ((fun hx => ⟨hx, (HS.out _ hx).1, (HS.out _ hx).2.1, (HS.out _ hx).2.2.1, (HS.out _ hx).2.2.2.2⟩) (gb_drew (drewN_grown _ _ _))) (fun hHeld => ?_)
    refine wpAnyH_take (i := 0) (oi := { dst := some 52, op := Op.fieldAddr 54 (Operand.tmp 3) 0, type := 0, pos := "ref.go:89", after := #[], guard := none }) (v := ?v0c) rfl (by kernel_rfl) (by kernel_rfl) (by kernel_rfl) (fun _ _ _ h => h) (Or.inl ⟨by rfl, ?y0c⟩) (by assumption) ?r0c
    case y0c => (intro x hx; (try dsimp only at hx); go_simp; try with_reducible rfl)
    try simp only [Act.put, List.setIfInBounds_toArray, List.set_cons_zero, List.set_cons_succ]
    refine wpAnyH_take (i := 1) (oi := { dst := some 53, op := Op.load 3 (Operand.tmp 52), type := 3, pos := "ref.go:89", after := #[{ on := 0, ground := Ground.data }], guard := none }) (v := ?v1c) rfl (by kernel_rfl) (by kernel_rfl) (by kernel_rfl) (fun _ _ _ h => h) (Or.inl ⟨by rfl, ?y1c⟩) (by assumption) ?r1c
    case y1c => (intro x hx; (try dsimp only at hx); go_simp; try with_reducible rfl)
    try simp only [Act.put, List.setIfInBounds_toArray, List.set_cons_zero, List.set_cons_succ]
    refine wpAnyH_take (i := 2) (oi := { dst := some 54, op := Op.binOp BinOp.neq 3 (Operand.tmp 53) (Operand.const (Value.int IntKind.i64 1)) 3, type := 4, pos := "ref.go:89", after := #[{ on := 1, ground := Ground.data }], guard := none }) (v := ?v2c) rfl (by kernel_rfl) (by kernel_rfl) (by kernel_rfl) (fun _ _ _ h => h) (Or.inl ⟨by rfl, ?y2c⟩) (by assumption) ?r2c
    case y2c => (intro x hx; (try dsimp only at hx); go_simp; try with_reducible rfl)
    try simp only [Act.put, List.setIfInBounds_toArray, List.set_cons_zero, List.set_cons_succ]
    refine wpAnyH_take (i := 3) (oi := { dst := some 55, op := Op.move (Operand.tmp 54), type := 4, pos := "ref.go:89", after := #[{ on := 2, ground := Ground.data }], guard := none }) (v := ?v3c) rfl (by kernel_rfl) (by kernel_rfl) (by kernel_rfl) (fun _ _ _ h => h) (Or.inl ⟨by rfl, ?y3c⟩) (by assumption) ?r3c
    case y3c => (intro x hx; (try dsimp only at hx); go_simp; try with_reducible rfl)
    try simp only [Act.put, List.setIfInBounds_toArray, List.set_cons_zero, List.set_cons_succ]
    refine wpAnyH_take (i := 4) (oi := { dst := some 56, op := Op.fieldAddr 54 (Operand.tmp 3) 2, type := 0, pos := "ref.go:89", after := #[{ on := 3, ground := Ground.guard }], guard := some (3, false) }) (v := ?v4c) rfl (by kernel_rfl) (by kernel_rfl) (by kernel_rfl) (fun _ _ _ h => h) (Or.inl ⟨by rfl, ?y4c⟩) (by assumption) ?r4c
    case y4c => (intro x hx; (try dsimp only at hx); go_simp; try with_reducible rfl)
    try simp only [Act.put, List.setIfInBounds_toArray, List.set_cons_zero, List.set_cons_succ]
    refine wpAnyH_take (i := 5) (oi := { dst := some 57, op := Op.load 3 (Operand.tmp 56), type := 3, pos := "ref.go:89", after := #[{ on := 4, ground := Ground.data }, { on := 3, ground := Ground.guard }], guard := some (3, false) }) (v := ?v5c) rfl (by kernel_rfl) (by kernel_rfl) (by kernel_rfl) (fun _ _ _ h => h) (Or.inl ⟨by rfl, ?y5c⟩) (by assumption) ?r5c
    case y5c => (intro x hx; (try dsimp only at hx); go_simp; try with_reducible rfl)
    try simp only [Act.put, List.setIfInBounds_toArray, List.set_cons_zero, List.set_cons_succ]
    refine wpAnyH_take (i := 6) (oi := { dst := some 58, op := Op.move (Operand.tmp 0), type := 75, pos := "ref.go:89", after := #[{ on := 3, ground := Ground.guard }], guard := some (3, false) }) (v := ?v6c) rfl (by kernel_rfl) (by kernel_rfl) (by kernel_rfl) (fun _ _ _ h => h) (Or.inl ⟨by rfl, ?y6c⟩) (by assumption) ?r6c
    case y6c => (intro x hx; (try dsimp only at hx); go_simp; try with_reducible rfl)
    try simp only [Act.put, List.setIfInBounds_toArray, List.set_cons_zero, List.set_cons_succ]
    refine wpAnyH_take (i := 7) (oi := { dst := some 59, op := Op.fieldAddr 54 (Operand.tmp 3) 1, type := 0, pos := "ref.go:89", after := #[{ on := 3, ground := Ground.guard }], guard := some (3, false) }) (v := ?v7c) rfl (by kernel_rfl) (by kernel_rfl) (by kernel_rfl) (fun _ _ _ h => h) (Or.inl ⟨by rfl, ?y7c⟩) (by assumption) ?r7c
    case y7c => (intro x hx; (try dsimp only at hx); go_simp; try with_reducible rfl)
    try simp only [Act.put, List.setIfInBounds_toArray, List.set_cons_zero, List.set_cons_succ]
    refine wpAnyH_take (i := 8) (oi := { dst := some 60, op := Op.load 3 (Operand.tmp 59), type := 3, pos := "ref.go:89", after := #[{ on := 7, ground := Ground.data }, { on := 3, ground := Ground.guard }], guard := some (3, false) }) (v := ?v8c) rfl (by kernel_rfl) (by kernel_rfl) (by kernel_rfl) (fun _ _ _ h => h) (Or.inl ⟨by rfl, ?y8c⟩) (by assumption) ?r8c
    case y8c => (intro x hx; (try dsimp only at hx); go_simp; try with_reducible rfl)
    try simp only [Act.put, List.setIfInBounds_toArray, List.set_cons_zero, List.set_cons_succ]
    refine wpAnyH_ready (rs := [9]) (by kernel_rfl) (by simp) ?_
    refine AllReadyH.cons (o := { dst := some 61, op := Op.call { callee := Callee.value (Operand.func 52), args := #[Operand.tmp 58, Operand.tmp 60], argTypes := #[75, 3] }, type := 3, pos := "ref.go:89", after := #[{ on := 6, ground := Ground.data }, { on := 8, ground := Ground.data }, { on := 3, ground := Ground.chain }, { on := 3, ground := Ground.guard }], guard := some (3, false) }) rfl (fun K hK => ?_) AllReadyH.nil
    go_simp
    go_at_call 52
    refine (next_any gr b p s am lm km bs clean ac n kc seen _ _ ?_ hn hpg).mono ?_
    · exact HA.out _ (gb_drew (drewN_grown _ _ _))
    rintro e u2 ⟨rfl, bel2⟩
    rw [hN]
    have g2 := grownBy_trans (gb_drew (drewN_grown w1 _ none)) (grown_of bel2 none)
    go_wp2_with fail
    refine hK.out _ _ ((fun hx => ⟨hx, (HS.out _ hx).1, (HS.out _ hx).2.1, (HS.out _ hx).2.2.1, (HS.out _ hx).2.2.2.2⟩) g2) (fun hHeld2 => ?_)
    clear hK K hHeld
    try simp only [Act.put, List.setIfInBounds_toArray, List.set_cons_zero, List.set_cons_succ]
    refine wpAnyH_take (i := 10) (oi := { dst := some 62, op := Op.binOp BinOp.geq 3 (Operand.tmp 57) (Operand.tmp 61) 3, type := 4, pos := "ref.go:89", after := #[{ on := 5, ground := Ground.data }, { on := 9, ground := Ground.data }, { on := 3, ground := Ground.guard }], guard := some (3, false) }) (v := ?v10c) rfl (by kernel_rfl) (by kernel_rfl) (by kernel_rfl) (fun _ _ _ h => h) (Or.inl ⟨by rfl, ?y10c⟩) (by assumption) ?r10c
    case y10c => (intro x hx; (try dsimp only at hx); go_simp; try with_reducible rfl)
    try simp only [Act.put, List.setIfInBounds_toArray, List.set_cons_zero, List.set_cons_succ]
    refine wpAnyH_take (i := 11) (oi := { dst := some 63, op := Op.move (Operand.tmp 62), type := 4, pos := "ref.go:89", after := #[{ on := 10, ground := Ground.data }, { on := 9, ground := Ground.chain }, { on := 3, ground := Ground.guard }], guard := some (3, false) }) (v := ?v11c) rfl (by kernel_rfl) (by kernel_rfl) (by kernel_rfl) (fun _ _ _ h => h) (Or.inl ⟨by rfl, ?y11c⟩) (by assumption) ?r11c
    case y11c => (intro x hx; (try dsimp only at hx); go_simp; try with_reducible rfl)
    try simp only [Act.put, List.setIfInBounds_toArray, List.set_cons_zero, List.set_cons_succ]
    refine wpAnyH_take (i := 12) (oi := { dst := some 64, op := Op.fieldAddr 54 (Operand.tmp 3) 2, type := 0, pos := "ref.go:89", after := #[{ on := 11, ground := Ground.guard }], guard := some (11, true) }) (v := undef) rfl (by kernel_rfl) (by kernel_rfl) (by kernel_rfl) (fun _ _ _ h => h) (Or.inr ⟨by rfl, rfl⟩) (by assumption) ?_
    try simp only [Act.put, List.setIfInBounds_toArray, List.set_cons_zero, List.set_cons_succ]
    refine wpAnyH_take (i := 13) (oi := { dst := some 65, op := Op.load 3 (Operand.tmp 64), type := 3, pos := "ref.go:89", after := #[{ on := 12, ground := Ground.data }, { on := 11, ground := Ground.guard }], guard := some (11, true) }) (v := undef) rfl (by kernel_rfl) (by kernel_rfl) (by kernel_rfl) (fun _ _ _ h => h) (Or.inr ⟨by rfl, rfl⟩) (by assumption) ?_
    try simp only [Act.put, List.setIfInBounds_toArray, List.set_cons_zero, List.set_cons_succ]
    refine wpAnyH_take (i := 14) (oi := { dst := some 66, op := Op.move (Operand.tmp 0), type := 75, pos := "ref.go:89", after := #[{ on := 11, ground := Ground.guard }], guard := some (11, true) }) (v := undef) rfl (by kernel_rfl) (by kernel_rfl) (by kernel_rfl) (fun _ _ _ h => h) (Or.inr ⟨by rfl, rfl⟩) (by assumption) ?_
    try simp only [Act.put, List.setIfInBounds_toArray, List.set_cons_zero, List.set_cons_succ]
    refine wpAnyH_take (i := 15) (oi := { dst := some 67, op := Op.nilCheck (Operand.tmp 66), type := 0, pos := "ref.go:89", after := #[{ on := 14, ground := Ground.data }, { on := 11, ground := Ground.guard }], guard := some (11, true) }) (v := undef) rfl (by kernel_rfl) (by kernel_rfl) (by kernel_rfl) (fun _ _ _ h => h) (Or.inr ⟨by rfl, rfl⟩) (by assumption) ?_
    try simp only [Act.put, List.setIfInBounds_toArray, List.set_cons_zero, List.set_cons_succ]
    refine wpAnyH_take (i := 16) (oi := { dst := some 68, op := Op.fieldAddr 104 (Operand.tmp 67) 0, type := 0, pos := "ref.go:89", after := #[{ on := 15, ground := Ground.data }, { on := 11, ground := Ground.guard }], guard := some (11, true) }) (v := undef) rfl (by kernel_rfl) (by kernel_rfl) (by kernel_rfl) (fun _ _ _ h => h) (Or.inr ⟨by rfl, rfl⟩) (by assumption) ?_
    try simp only [Act.put, List.setIfInBounds_toArray, List.set_cons_zero, List.set_cons_succ]
    refine wpAnyH_take (i := 17) (oi := { dst := some 69, op := Op.fieldAddr 23 (Operand.tmp 68) 1, type := 0, pos := "ref.go:89", after := #[{ on := 16, ground := Ground.data }, { on := 11, ground := Ground.guard }], guard := some (11, true) }) (v := undef) rfl (by kernel_rfl) (by kernel_rfl) (by kernel_rfl) (fun _ _ _ h => h) (Or.inr ⟨by rfl, rfl⟩) (by assumption) ?_
    try simp only [Act.put, List.setIfInBounds_toArray, List.set_cons_zero, List.set_cons_succ]
    refine wpAnyH_take (i := 18) (oi := { dst := some 70, op := Op.load 3 (Operand.tmp 69), type := 3, pos := "ref.go:89", after := #[{ on := 17, ground := Ground.data }, { on := 11, ground := Ground.guard }], guard := some (11, true) }) (v := undef) rfl (by kernel_rfl) (by kernel_rfl) (by kernel_rfl) (fun _ _ _ h => h) (Or.inr ⟨by rfl, rfl⟩) (by assumption) ?_
    try simp only [Act.put, List.setIfInBounds_toArray, List.set_cons_zero, List.set_cons_succ]
    refine wpAnyH_take (i := 19) (oi := { dst := some 71, op := Op.binOp BinOp.lss 3 (Operand.tmp 65) (Operand.tmp 70) 3, type := 4, pos := "ref.go:89", after := #[{ on := 13, ground := Ground.data }, { on := 18, ground := Ground.data }, { on := 11, ground := Ground.guard }], guard := some (11, true) }) (v := undef) rfl (by kernel_rfl) (by kernel_rfl) (by kernel_rfl) (fun _ _ _ h => h) (Or.inr ⟨by rfl, rfl⟩) (by assumption) ?_
    try simp only [Act.put, List.setIfInBounds_toArray, List.set_cons_zero, List.set_cons_succ]
    refine wpAnyH_take (i := 20) (oi := { dst := some 72, op := Op.pick (Operand.tmp 63) (Operand.tmp 71) (Operand.const (Value.bool false)), type := 4, pos := "ref.go:89", after := #[{ on := 11, ground := Ground.data }, { on := 19, ground := Ground.data }, { on := 3, ground := Ground.guard }], guard := some (3, false) }) (v := ?v20c) rfl (by kernel_rfl) (by kernel_rfl) (by kernel_rfl) (fun _ _ _ h => h) (Or.inl ⟨by rfl, ?y20c⟩) (by assumption) ?r20c
    case y20c => (intro x hx; (try dsimp only at hx); go_simp; try with_reducible rfl)
    try simp only [Act.put, List.setIfInBounds_toArray, List.set_cons_zero, List.set_cons_succ]
    refine wpAnyH_take (i := 21) (oi := { dst := some 73, op := Op.pick (Operand.tmp 55) (Operand.const (Value.bool true)) (Operand.tmp 72), type := 4, pos := "ref.go:89", after := #[{ on := 3, ground := Ground.data }, { on := 20, ground := Ground.data }], guard := none }) (v := ?v21c) rfl (by kernel_rfl) (by kernel_rfl) (by kernel_rfl) (fun _ _ _ h => h) (Or.inl ⟨by rfl, ?y21c⟩) (by assumption) ?r21c
    case y21c => (intro x hx; (try dsimp only at hx); go_simp; try with_reducible rfl)
    try simp only [Act.put, List.setIfInBounds_toArray, List.set_cons_zero, List.set_cons_succ]
    refine wpAnyH_take (i := 22) (oi := { dst := some 4, op := Op.assign (Operand.tmp 73), type := 4, pos := "ref.go:89", after := #[{ on := 21, ground := Ground.data }, { on := 11, ground := Ground.chain }, { on := 0, ground := Ground.phase }, { on := 1, ground := Ground.phase }, { on := 2, ground := Ground.phase }, { on := 3, ground := Ground.phase }, { on := 4, ground := Ground.phase }, { on := 5, ground := Ground.phase }, { on := 6, ground := Ground.phase }, { on := 7, ground := Ground.phase }, { on := 8, ground := Ground.phase }, { on := 9, ground := Ground.phase }, { on := 10, ground := Ground.phase }, { on := 11, ground := Ground.phase }, { on := 12, ground := Ground.phase }, { on := 13, ground := Ground.phase }, { on := 14, ground := Ground.phase }, { on := 15, ground := Ground.phase }, { on := 16, ground := Ground.phase }, { on := 17, ground := Ground.phase }, { on := 18, ground := Ground.phase }, { on := 19, ground := Ground.phase }, { on := 20, ground := Ground.phase }, { on := 21, ground := Ground.phase }], guard := none }) (v := ?v22c) rfl (by kernel_rfl) (by kernel_rfl) (by kernel_rfl) (fun _ _ _ h => h) (Or.inl ⟨by rfl, ?y22c⟩) (by assumption) ?r22c
    case y22c => (intro x hx; (try dsimp only at hx); go_simp; try with_reducible rfl)
    try simp only [Act.put, List.setIfInBounds_toArray, List.set_cons_zero, List.set_cons_succ]
    refine wpAnyH_done (by kernel_rfl) ?_ _
    all_goals go_wp2
    all_goals go_ret
    all_goals exact ⟨ret_bool (by simp), below_of (grownBy_trans g1 g2)⟩
end Go.Proofs.Ytjhphkfpcpfdnaa.J
namespace Go.Proofs.Ytjhphkfpcpfdnaa.J
open Go.RowKit
set_option linter.unusedVariables false

/-- The reference's judge, its row of commands its own, all of it from block B on. -/
structure RefOwn (w : World) (B gr : Nat) (b p s : Int) (am : Option Addr) (lm km : Nat) (bs : List Bool) (clean : Bool) (v : Value) (n : Nat) (seen : List Cmd) : Prop where
  c0 : w.cell? ⟨gr, 0, none⟩ = some (.int .i64 b)
  c1 : w.cell? ⟨gr, 1, none⟩ = some (.int .i64 p)
  c2 : w.cell? ⟨gr, 2, none⟩ = some (.int .i64 s)
  c3 : w.cell? ⟨gr, 3, none⟩ = some (.slice am lm km)
  c4 : w.cell? ⟨gr, 4, none⟩ = some (.bool clean)
  c5 : w.cell? ⟨gr, 5, none⟩ = some v
  fz : w.frozen? ⟨gr, 5, none⟩ = false
  marks : ReadsB w am lm bs
  low : ∀ x, am = some x → x.block < B
  own : w.ownsRow B 54 4 v n (flat seen)
  far : v.ownBlock ≠ some gr
  ok : ∀ c ∈ seen, c.Ok
  base : B ≤ gr

theorem ReadsB.low {w w' : World} {a : Option Addr} {len B : Nat} {bs : List Bool} (h : ReadsB w a len bs) (hl : ∀ x, a = some x → x.block < B) (hb : Below B w w') : ReadsB w' a len bs := by
  obtain ⟨h1, h2, h3⟩ := h
  refine ⟨h1, h2, fun x hx i hi => ?_⟩
  rw [hb.cell (by have := hl x hx; unfold Addr.add; split <;> simpa using this)]
  exact h3 x hx i hi

theorem own_slice {w : World} {B n : Nat} {v : Value} {cs : List Cmd} (h : w.ownsRow B 54 4 v n (flat cs)) (hok : ∀ c ∈ cs, c.Ok) : ∃ a k, v = .slice a n k ∧ ReadsC w a n cs := by
  have hl : cs.length = n := by have := h.1; rw [flat_length] at this; omega
  rcases h.2 with ⟨hv, h0⟩ | ⟨g, cap, cur, hv, _⟩
  · subst h0
    exact ⟨none, 0, hv, hl, hok, fun _ => rfl, fun _ h => by cases h⟩
  · subst hv
    have := own_readsC h hok (Nat.le_refl n)
    rw [List.take_of_length_le (by omega)] at this
    exact ⟨_, _, rfl, this⟩

theorem RefOwn.at {w : World} {B gr : Nat} {b p s : Int} {am : Option Addr} {lm km : Nat} {bs : List Bool} {clean : Bool} {v : Value} {n : Nat} {seen : List Cmd} (h : RefOwn w B gr b p s am lm km bs clean v n seen) : ∃ ac kc, v = .slice ac n kc ∧ RefAt w gr b p s am lm km bs clean ac n kc seen := by
  obtain ⟨ac, kc, rfl, hr⟩ := own_slice h.own h.ok
  exact ⟨ac, kc, rfl, h.c0, h.c1, h.c2, h.c3, h.c4, h.c5, h.marks, hr⟩

theorem RefOwn.grown {w w' : World} {B gr : Nat} {b p s : Int} {am : Option Addr} {lm km : Nat} {bs : List Bool} {clean : Bool} {v : Value} {n : Nat} {seen : List Cmd} (h : RefOwn w B gr b p s am lm km bs clean v n seen) (hg : w.grownBy w' none) : RefOwn w' B gr b p s am lm km bs clean v n seen :=
  ⟨hg.cell h.c0 (by simp), hg.cell h.c1 (by simp), hg.cell h.c2 (by simp), hg.cell h.c3 (by simp), hg.cell h.c4 (by simp), hg.cell h.c5 (by simp), by rw [hg.frozen_far _ (block_lt_of_cell h.c5) (by simp)]; exact h.fz, h.marks.below (below_of hg), h.low, ⟨h.own.1, by
    rcases h.own.2 with h1 | ⟨g, cap, cur, hv, hb, hg', r⟩
    · exact Or.inl h1
    · exact Or.inr ⟨g, cap, cur, hv, hb, by rw [hg.block g (Array.getElem?_eq_some_iff.1 hg').1 (by simp)]; exact hg', r⟩⟩, h.far, h.ok, h.base⟩

theorem rkeeps_any (gr : Nat) (b p s : Int) (am : Option Addr) (lm km : Nat) (bs : List Bool) (clean : Bool) (ac : Option Addr) (n kc : Nat) (seen : List Cmd) (k cb cp cs : Int) (w : World) (h : RefAt w gr b p s am lm km bs clean ac n kc seen)
    (hb : b = lm) (hn : n ≤ 140737488355000) (hlm : lm ≤ 100000) (hpg : ∀ c ∈ seen, c.k = 1 → c.p + 1 ≤ 9223372036854775807) :
    Calls Try.prog 50 #[.pointer (some ⟨gr, 0, none⟩), .agg #[.int .i64 k, .int .i64 cb, .int .i64 cp, .int .i64 cs]] w fun e w' => e = .returned (.bool (see p (know p clean bs seen) ⟨k, cb, cp, cs⟩).isSome) ∧ Below w.heap.size w w' := by
  have hlen := h.marks.1
  have hkl := know_length p clean bs seen
  by_cases hgood : (1 ≤ k ∧ k ≤ 3) ∧ (0 ≤ cb ∧ cb < b) ∧ (cs = 0 ∨ cs = 44 ∨ cs = 45)
  · obtain ⟨hk, ⟨h0, h1⟩, ht⟩ := hgood
    obtain ⟨blk, rfl⟩ := Int.eq_ofNat_of_zero_le h0
    have hblk : blk < lm := by omega
    have hsee : (see p (know p clean bs seen) ⟨k, blk, cp, cs⟩).isSome = kpt p (knowAt p clean bs seen blk) ⟨k, blk, cp, cs⟩ := by
      rw [see_is ⟨by simp, by simp only; omega, by simpa [taken] using ht⟩]
      simp only [Int.toNat_natCast]
      rw [know_getD _ _ _ _ _ (by omega)]
    rw [hsee]
    rcases (show k = 3 ∨ k = 2 ∨ k = 1 by omega) with rfl | rfl | rfl
    · exact rkeeps_3 gr b p s am lm km bs clean ac n kc seen blk cp cs w h hblk hb ht hn hlm hpg
    · exact rkeeps_2 gr b p s am lm km bs clean ac n kc seen blk cp cs w h hblk hb ht hn hlm hpg
    · by_cases hM0 : markedR (bs.getD blk false) seen blk = false ∧ ¬ nextR p (firstN clean p) seen blk ≤ cp
      · exact rkeeps_1lt gr b p s am lm km bs clean ac n kc seen blk cp cs w h hblk hb ht hn hlm hpg hM0.1 hM0.2
      · exact rkeeps_1ge gr b p s am lm km bs clean ac n kc seen blk cp cs w h hblk hb ht hn hlm hpg hM0
  · have hsee : (see p (know p clean bs seen) ⟨k, cb, cp, cs⟩).isSome = false := by
      refine see_none fun hh => hgood ?_
      obtain ⟨q0, q1, q2, q3⟩ := hh
      have hkk := kpt_kind q3
      simp only at q0 q1 q2 hkk
      simp [taken] at q2
      exact ⟨by omega, by omega, by omega⟩
    rw [hsee]
    exact rkeeps_bad gr b p s am lm km bs clean ac n kc seen ⟨k, cb, cp, cs⟩ w h (by simp only; omega)

set_option maxHeartbeats 2000000 in
theorem rsee_false (B gr : Nat) (b p s : Int) (am : Option Addr) (lm km : Nat) (bs : List Bool) (clean : Bool) (v : Value) (n : Nat) (seen : List Cmd) (k cb cp cs : Int) (w : World) (h : RefOwn w B gr b p s am lm km bs clean v n seen) (hc : (Cmd.mk k cb cp cs).Ok)
    (hb : b = lm) (hn : (n + 1) * 32 ≤ 140737488355328) (hlm : lm ≤ 100000) (hpg : ∀ c ∈ seen, c.k = 1 → c.p + 1 ≤ 9223372036854775807) (hK : (see p (know p clean bs seen) ⟨k, cb, cp, cs⟩).isSome = false) :
    Calls Try.prog 23 #[.pointer (some ⟨gr, 0, none⟩), .agg #[.int .i64 k, .int .i64 cb, .int .i64 cp, .int .i64 cs]] w fun e w' => e = .returned (.bool false) ∧ Below B w w' ∧ RefOwn w' B gr b p s am lm km bs clean v n seen := by
  obtain ⟨i0, hi, hz0, hz1, hz2⟩ := info_parts info54
  obtain ⟨w1, hw1⟩ : ∃ w1, w1 = w.alloc (.cells #[.int .i64 k, .int .i64 cb, .int .i64 cp, .int .i64 cs] 54) := ⟨_, rfl⟩
  have g1 : w.grownBy w1 none := by rw [hw1]; exact World.grownBy_alloc _ _ _
  have hBw : B ≤ w.heap.size := by have := h.base; have := block_lt_of_cell h.c0; simp at this; omega
  have hlt : gr < w.heap.size := block_lt_of_cell h.c0
  have hS : ∀ x, w1.grownBy x none → x.cell? ⟨w.heap.size, 0, none⟩ = some (.int .i64 k) ∧ x.cell? ⟨w.heap.size, 1, none⟩ = some (.int .i64 cb) ∧ x.cell? ⟨w.heap.size, 2, none⟩ = some (.int .i64 cp) ∧ x.cell? ⟨w.heap.size, 3, none⟩ = some (.int .i64 cs) := fun x hx => by
    rw [hw1] at hx
    exact cmd_cells hx
  obtain ⟨x0, x1, x2, x3⟩ := hS w1 (World.grownBy.refl _ _)
  have HS : Hid _ := hS
  have HW : Hid (w1 = _) := hw1
  clear hS hw1
  obtain ⟨ac, kc, rfl, hA1⟩ := (h.grown g1).at
  go_enter Try.func23, Try.ntmps23
  go_wp2_with (first | (go_at_call 50; rw [← HW.out]; refine (rkeeps_any gr b p s am lm km bs clean ac n kc seen _ _ _ _ _ hA1 hb ?_ hlm hpg).mono ?_; omega; rintro e u1 ⟨rfl, bel1⟩; rw [hK]))
  go_ret
  have g2 := grownBy_trans g1 (grown_of bel1 none)
  exact ⟨rfl, (below_of g2).mono hBw, h.grown g2⟩

set_option maxHeartbeats 2000000 in
theorem rsee_true (B gr : Nat) (b p s : Int) (am : Option Addr) (lm km : Nat) (bs : List Bool) (clean : Bool) (v : Value) (n : Nat) (seen : List Cmd) (k cb cp cs : Int) (w : World) (h : RefOwn w B gr b p s am lm km bs clean v n seen) (hc : (Cmd.mk k cb cp cs).Ok)
    (hb : b = lm) (hn : (n + 1) * 32 ≤ 140737488355328) (hlm : lm ≤ 100000) (hpg : ∀ c ∈ seen, c.k = 1 → c.p + 1 ≤ 9223372036854775807) (hK : (see p (know p clean bs seen) ⟨k, cb, cp, cs⟩).isSome = true) :
    Calls Try.prog 23 #[.pointer (some ⟨gr, 0, none⟩), .agg #[.int .i64 k, .int .i64 cb, .int .i64 cp, .int .i64 cs]] w fun e w' => e = .returned (.bool true) ∧ Below B w w' ∧ ∃ v', RefOwn w' B gr b p s am lm km bs clean v' (n + 1) (seen ++ [⟨k, cb, cp, cs⟩]) := by
  obtain ⟨i0, hi, hz0, hz1, hz2⟩ := info_parts info54
  obtain ⟨w1, hw1⟩ : ∃ w1, w1 = w.alloc (.cells #[.int .i64 k, .int .i64 cb, .int .i64 cp, .int .i64 cs] 54) := ⟨_, rfl⟩
  have g1 : w.grownBy w1 none := by rw [hw1]; exact World.grownBy_alloc _ _ _
  have hBw : B ≤ w.heap.size := by have := h.base; have := block_lt_of_cell h.c0; simp at this; omega
  have hlt : gr < w.heap.size := block_lt_of_cell h.c0
  have hS : ∀ x, w1.grownBy x none → x.cell? ⟨w.heap.size, 0, none⟩ = some (.int .i64 k) ∧ x.cell? ⟨w.heap.size, 1, none⟩ = some (.int .i64 cb) ∧ x.cell? ⟨w.heap.size, 2, none⟩ = some (.int .i64 cp) ∧ x.cell? ⟨w.heap.size, 3, none⟩ = some (.int .i64 cs) := fun x hx => by
    rw [hw1] at hx
    exact cmd_cells hx
  obtain ⟨x0, x1, x2, x3⟩ := hS w1 (World.grownBy.refl _ _)
  have HS : Hid _ := hS
  have HW : Hid (w1 = _) := hw1
  clear hS hw1
  obtain ⟨ac, kc, rfl, hA1⟩ := (h.grown g1).at
  go_enter Try.func23, Try.ntmps23
  go_wp2_with (first | (go_at_call 50; rw [← HW.out]; refine (rkeeps_any gr b p s am lm km bs clean ac n kc seen _ _ _ _ _ hA1 hb ?_ hlm hpg).mono ?_; omega; rintro e u1 ⟨rfl, bel1⟩; rw [hK]))
  have gu := grown_of bel1 none
  have gwu := grownBy_trans g1 gu
  obtain ⟨y0, y1, y2, y3⟩ := HS.out u1 gu
  have hu := h.grown gwu
  have c5u := hu.c5
  have hgu : gr < u1.heap.size := block_lt_of_cell hu.c0
  have hBu : B ≤ u1.heap.size := by have := gwu.size; omega
  have ownD : ((u1.alloc (.cells #[.int .i64 k, .int .i64 cb, .int .i64 cp, .int .i64 cs] 54)).drew).ownsRow B 54 4 (.slice ac n kc) n (flat seen) := (hu.grown (gb_drew (World.grownBy_alloc _ _ none))).own
  have hnews : ∀ j x, [Value.int .i64 k, .int .i64 cb, .int .i64 cp, .int .i64 cs][j]? = some x → ((u1.alloc (.cells #[.int .i64 k, .int .i64 cb, .int .i64 cp, .int .i64 cs] 54)).drew).cell? ((⟨u1.heap.size, 0, none⟩ : Addr).add j) = some x := fun j x hj => World.news_of_block (w := u1.alloc (.cells #[.int .i64 k, .int .i64 cb, .int .i64 cp, .int .i64 cs] 54)) (heap_alloc_new u1 _) j x hj
  have hone : ∀ x ∈ [Value.int .i64 k, .int .i64 cb, .int .i64 cp, .int .i64 cs], x.oneCell' = true := flat_one [⟨k, cb, cp, cs⟩]
  have hgn : some gr ≠ (Value.slice ac n kc).ownBlock := fun e => h.far e.symm
  have HN1 : Hid _ := hnews
  have HN2 : Hid _ := hone
  have HU : Hid _ := hu
  have fzD := (hu.grown (gb_drew (World.grownBy_alloc u1 (.cells #[.int .i64 k, .int .i64 cb, .int .i64 cp, .int .i64 cs] 54) none))).fz
  have c5D := (hu.grown (gb_drew (World.grownBy_alloc u1 (.cells #[.int .i64 k, .int .i64 cb, .int .i64 cp, .int .i64 cs] 54) none))).c5
  clear hnews hone hu hA1 HS
  go_region_law ((refine step_append_lies _ (by rfl) (.tmp 13) (.tmp 15) 46 (by rfl) B 54 i0 _ 4 32 Try.underlying46 hi hz0 hz1 hz2 rfl (by decide) (.slice ac n kc) n (flat seen) (by rfl) ownD ⟨u1.heap.size, 0, none⟩ 1 1 [.int .i64 k, .int .i64 cb, .int .i64 cp, .int .i64 cs] (by rfl) rfl HN1.out HN2.out (by decide) (by simp [maxLen]; omega) (by omega) (by simp; omega) (u1.heap.size + 1) (by simp) ?_; intro g2 c2 w2 own2 grow2 hat2 hlt2; have f5 : w2.frozen? ⟨gr, 5, none⟩ = false := (by rw [grow2.frozen_far _ (by simp; omega) hgn]; exact fzD); have c5w : w2.cell? ⟨gr, 5, none⟩ = some (.slice ac n kc) := (by rw [grow2.cell_far _ (by simp; omega) hgn]; exact c5D)))
  all_goals go_wp2
  all_goals go_ret
  all_goals
    have hu := HU.out
    have hg2 : some g2 ≠ some gr := by
      rcases hat2 with h1 | h1
      · exact fun e => hgn (by rw [h1]; exact e.symm)
      · intro e; cases e; omega
    have hg2B : B ≤ g2 := by
      rcases own2.2 with ⟨h0, _⟩ | ⟨g', cap', cur, hv, hb', _⟩
      · cases h0
      · cases hv; exact hb'
    have bD : Below B w ((u1.alloc (.cells #[.int .i64 k, .int .i64 cb, .int .i64 cp, .int .i64 cs] 54)).drew) := ((((below_of gwu).mono hBw).alloc hBu _).drew)
    have bw2 : Below B w w2 := bD.grown grow2 (by simp; omega) (fun j hj => (ownD.lt j hj).1)
    have hfar : ∀ j, j ≠ 5 → ∀ x, u1.cell? ⟨gr, j, none⟩ = some x → (w2.setCell ⟨gr, 5, none⟩ (.slice (some ⟨g2, 0, none⟩) (n + 1) c2)).cell? ⟨gr, j, none⟩ = some x := fun j hj x hx => by
      rw [World.cell?_setCell_other _ _ _ _ (show (⟨gr, 5, none⟩ : Addr) ≠ ⟨gr, j, none⟩ by first | (simp; done) | (simp; omega)), grow2.cell_far _ (by simp; omega) hgn]
      exact (World.grownBy_alloc u1 _ none).cell hx (by simp)
    have bF := bw2.setCell (p := ⟨gr, 5, none⟩) h.base (.slice (some ⟨g2, 0, none⟩) (n + 1) c2)
    refine ⟨rfl, bF, .slice (some ⟨g2, 0, none⟩) (n + 1) c2, ⟨hfar 0 (by decide) _ hu.c0, hfar 1 (by decide) _ hu.c1, hfar 2 (by decide) _ hu.c2, hfar 3 (by decide) _ hu.c3, hfar 4 (by decide) _ hu.c4, World.cell?_setCell_same _ _ _ c5w, by rw [World.frozen?_setCell]; exact f5, h.marks.low h.low bF, h.low, ?_, ?_, ?_, h.base⟩⟩
    · rw [flat_append]
      exact ownsRow_setCell_other own2 (by simpa [Value.ownBlock] using hg2) _
    · simpa [Value.ownBlock] using hg2
    · intro c hcm
      rcases List.mem_append.1 hcm with h1 | h1
      · exact h.ok c h1
      · simp at h1; subst h1; exact hc
end Go.Proofs.Ytjhphkfpcpfdnaa.J
namespace Go.Proofs.Ytjhphkfpcpfdnaa.J
open Go.RowKit
set_option linter.unusedVariables false

theorem see_page {P : Int} {st st' : List Blk} {c : Cmd} (h : see P st c = some st') (hk : c.k = 1) : c.p < P := by
  unfold see at h
  split at h
  · rename_i hh
    have h2 := hh.2.2.2
    simp only [kpt, hk, if_true, Bool.and_eq_true, decide_eq_true_eq] at h2
    exact h2.2.2
  · cases h

theorem runs_pages {P : Int} {st st' : List Blk} {cs : List Cmd} (h : runs P st cs = some st') : ∀ c ∈ cs, c.k = 1 → c.p < P := by
  induction cs generalizing st with
  | nil => intro c hc; cases hc
  | cons d r ih =>
    simp only [runs] at h
    cases hs : see P st d with
    | none => rw [hs] at h; simp at h
    | some st1 =>
      rw [hs] at h
      intro c hc hk
      rcases List.mem_cons.1 hc with rfl | hc
      · exact see_page hs hk
      · exact ih h c hc hk

theorem runs_know {P : Int} {clean : Bool} {bs : List Bool} {cs : List Cmd} {st : List Blk} (h : runs P (start clean P bs) cs = some st) : st = know P clean bs cs := by
  have key : ∀ (pre : List Cmd) (ds : List Cmd) (st : List Blk), runs P (know P clean bs pre) ds = some st → st = know P clean bs (pre ++ ds) := by
    intro pre ds
    induction ds generalizing pre with
    | nil => intro st h; simp [runs] at h; simp [h]
    | cons d r ih =>
      intro st h
      simp only [runs] at h
      cases hs : see P (know P clean bs pre) d with
      | none => rw [hs] at h; simp at h
      | some st1 =>
        rw [hs] at h
        have e := know_step hs
        subst e
        have := ih (pre ++ [d]) st h
        simpa using this
  have := key [] cs st (by rw [know_nil]; exact h)
  simpa using this

set_option maxHeartbeats 1000000 in
theorem rcheck_bad (b p s : Int) (a a' : Option Addr) (len cap n cap' : Nat) (clean : Bool) (w : World) (hl : len ≤ 140737488355000) (hE : newE b p s len ≠ 0) :
    Calls Try.prog 42 #[.agg #[.int .i64 b, .int .i64 p, .int .i64 s], .slice a len cap, .bool clean, .slice a' n cap'] w fun e w' => e = .returned (.tuple #[.int .i64 0, .int .i64 (newE b p s len)]) ∧ Below w.heap.size w w' := by
  have hb0 : Below w.heap.size w (w.alloc (.cells #[.int .i64 b, .int .i64 p, .int .i64 s] 23)) := (Below.refl _ _).alloc (Nat.le_refl _) _
  obtain ⟨E, hEE⟩ : ∃ E, newE b p s len = E := ⟨_, rfl⟩
  have e1 : (E == 0) = false := by rw [← hEE]; simpa using hE
  go_enter Try.func42, Try.ntmps42
  go_wp2_with (first
    | (go_at_call 49; refine (rnew_any b p s _ _ _ _ hl).mono ?_; rintro e u1 ⟨rfl, bel1⟩; rw [hEE]))
  go_ret2
  exact ⟨by rw [hEE]; rfl, below_trans hb0 bel1⟩

set_option maxHeartbeats 1000000 in
theorem rcheck_ok (b p s : Int) (a a' : Option Addr) (len cap n cap' : Nat) (bs : List Bool) (cs : List Cmd) (clean : Bool) (w : World) (hE : newE b p s len = 0) (h : ReadsB w a len bs) (hc : ReadsC w a' n cs) (hn : n * 32 ≤ 140737488351232) :
    Calls Try.prog 42 #[.agg #[.int .i64 b, .int .i64 p, .int .i64 s], .slice a len cap, .bool clean, .slice a' n cap'] w fun e w' => e = .returned (.tuple #[.int .i64 (chkI (chk p (start clean p bs) cs)), .int .i64 0]) ∧ Below w.heap.size w w' := by
  have hb0 : Below w.heap.size w (w.alloc (.cells #[.int .i64 b, .int .i64 p, .int .i64 s] 23)) := (Below.refl _ _).alloc (Nat.le_refl _) _
  have hf : Fits b p s = true := by
    cases hf : Fits b p s with
    | true => rfl
    | false => simp [newE, hf] at hE
  have hbd := fits_b hf
  have hlb : (len : Int) = b := by
    by_cases hb : (len : Int) = b
    · exact hb
    · simp [newE, hf, hb] at hE
  have hlen := hc.1
  have hbl := h.1
  have HBB : Hid (b = (len : Int)) := hlb.symm
  have hll : 8 ≤ len ∧ len ≤ 4096 := by omega
  clear hlb
  obtain ⟨R, hR⟩ : ∃ R, chkI (chk p (start clean p bs) cs) = R := ⟨_, rfl⟩
  rw [hR]
  have HR : Hid (chkI (chk p (start clean p bs) cs) = R) := hR
  clear hR
  go_enter Try.func42, Try.ntmps42
  go_wp2_with (first
    | (go_at_call 49; refine (rnew_any b p s _ _ _ _ ?_).mono ?_; omega; rintro e u1 ⟨rfl, bel1⟩; rw [hE]; obtain ⟨c0, c1, c2⟩ := box3 bel1; have belw := below_trans hb0 bel1))
  obtain ⟨u2, hu2⟩ : ∃ u2, u2 = u1.alloc (.cells #[.int .i64 b, .int .i64 p, .int .i64 s, .slice a len cap, .bool clean, .slice none 0 0] 104) := ⟨_, rfl⟩
  have bel2 : Below u1.heap.size u1 u2 := by rw [hu2]; exact (Below.refl _ _).alloc (Nat.le_refl _) _
  have R0 : RefOwn u2 u1.heap.size u1.heap.size b p s a len cap bs clean (.slice none 0 0) 0 ([] : List Cmd) := by
    refine ⟨by rw [hu2]; simp, by rw [hu2]; simp, by rw [hu2]; simp, by rw [hu2]; simp, by rw [hu2]; simp, by rw [hu2]; simp, by rw [hu2]; simp, (h.below belw).below bel2, ?_, World.ownsRow_nil _ _ _ _, by simp [Value.ownBlock], (fun c hc => by cases hc), Nat.le_refl _⟩
    intro x hx
    subst hx
    rcases Nat.eq_zero_or_pos len with h0 | h0
    · omega
    · obtain ⟨g, off, e, hg, _⟩ := (h.below belw).pos h0
      cases e
      exact hg
  rw [← hu2]
  clear hu2
  go_loopw [12] (fun i wr => ∃ (k : Nat) (v : Value) (st : List Blk), k ≤ n ∧ i = .int .i64 k ∧ Hid (runs p (start clean p bs) (cs.take k) = some st) ∧ RefOwn wr u1.heap.size u1.heap.size b p s a len cap bs clean v k (cs.take k) ∧ Below u1.heap.size u1 wr)
    (fun i _ => n - (intOf i).toNat)
  case atStart => exact ⟨0, _, _, Nat.zero_le _, rfl, rfl, by simpa using R0, bel2⟩
  case round =>
    obtain ⟨k, v, st, hk, rfl, hrun, RO, bel⟩ := hrel
    have belA := below_trans belw bel
    by_cases hlt : k < n
    · obtain ⟨g, off, rfl, hg, hcell⟩ := (hc.below belA).pos (by omega)
      obtain ⟨c, hcd⟩ : ∃ c, c = cs.getD k Cmd.none := ⟨_, rfl⟩
      obtain ⟨x0, x1, x2, x3⟩ := hcell k hlt
      rw [← hcd] at x0 x1 x2 x3
      have hok : c.Ok := by rw [hcd]; exact okAt hc.2.1 k (by omega)
      have hget : cs[k]? = some c := by rw [hcd]; exact getC (by omega)
      have hkn := runs_know hrun.out
      have hpg : Hid (∀ d ∈ cs.take k, d.k = 1 → d.p + 1 ≤ 9223372036854775807) := fun d hd h1 => by have := runs_pages hrun.out d hd h1; omega
      have htk : cs.take (k + 1) = cs.take k ++ [c] := by
        obtain ⟨h1, h2⟩ := List.getElem?_eq_some_iff.1 hget
        rw [List.take_succ_eq_append_getElem h1, h2]
      have hstep := fun st2 (hs : see p st c = some st2) => runs_step hget hrun.out hs
      have hbadk := fun (hs : see p st c = none) => chk_at hget hrun.out hs
      rw [hkn] at hstep hbadk
      have HST : Hid (∀ st2, see p (know p clean bs (cs.take k)) c = some st2 → runs p (start clean p bs) (cs.take (k + 1)) = some st2) := hstep
      have HBD : Hid (see p (know p clean bs (cs.take k)) c = none → chk p (start clean p bs) cs = some k) := hbadk
      have HTK : Hid (cs.take (k + 1) = cs.take k ++ [c]) := htk
      clear hstep hbadk htk hget hcd hcell hkn hrun
      obtain ⟨ck, cb, cp, cq⟩ := c
      cases hs : see p (know p clean bs (cs.take k)) ⟨ck, cb, cp, cq⟩ with
      | none =>
        have hres : R = k := by rw [← HR.out, HBD.out hs]; rfl
        have hs0 : Hid ((see p (know p clean bs (cs.take k)) ⟨ck, cb, cp, cq⟩).isSome = false) := by unfold Hid; rw [hs]; rfl
        clear hs HBD HST HTK HR
        go_wp2_with (first
          | (go_at_call 23; refine (rsee_false _ _ b p s a len cap bs clean v k (cs.take k) _ _ _ _ _ RO hok HBB.out ?_ ?_ hpg.out hs0.out).mono ?_; omega; omega; rintro e u3 ⟨rfl, bel3, R3⟩))
        go_ret2
        exact ⟨by rw [hres]; rfl, belw.trans ((bel.trans (bel3)).mono belw.size)⟩
      | some st2 =>
        have hrun2 : Hid (runs p (start clean p bs) (cs.take (k + 1)) = some st2) := HST.out _ hs
        have hs0 : Hid ((see p (know p clean bs (cs.take k)) ⟨ck, cb, cp, cq⟩).isSome = true) := by unfold Hid; rw [hs]; rfl
        clear hs HBD HST HR
        go_wp2_with (first
          | (go_at_call 23; refine (rsee_true _ _ b p s a len cap bs clean v k (cs.take k) _ _ _ _ _ RO hok HBB.out ?_ ?_ hpg.out hs0.out).mono ?_; omega; omega; rintro e u3 ⟨rfl, bel3, v3, R3⟩; rw [← HTK.out] at R3))
        go_roundw
        case rel => exact ⟨k + 1, v3, st2, by omega, by go_num, hrun2, R3, bel.trans bel3⟩
        case measure => simp [intOf]; omega
    · have hkl : k = n := by omega
      subst hkl
      have hr := hrun.out
      rw [List.take_of_length_le (by omega)] at hr
      have hres : R = -1 := by rw [← HR.out, chk_runs.2 (by rw [hr]; rfl)]; rfl
      go_wp2
      go_ret2
      exact ⟨by rw [hres]; rfl, belA⟩
end Go.Proofs.Ytjhphkfpcpfdnaa.J
namespace Go.Proofs.Ytjhphkfpcpfdnaa.J
open Go.RowKit
set_option linter.unusedVariables false

theorem ownB_grown {w w' : World} {B E S n : Nat} {v : Value} {xs : List Value} (h : w.ownsRow B E S v n xs) (hg : w.grownBy w' none) : w'.ownsRow B E S v n xs :=
  ⟨h.1, by
    rcases h.2 with h1 | ⟨g, cap, cur, hv, hb, hg', r⟩
    · exact Or.inl h1
    · exact Or.inr ⟨g, cap, cur, hv, hb, by rw [hg.block g (Array.getElem?_eq_some_iff.1 hg').1 (by simp)]; exact hg', r⟩⟩

/-- What either Check answers: one number, one error. -/
theorem checks_both (b p s : Int) (len n : Nat) (bs : List Bool) (cs : List Cmd) (clean : Bool) (hl : len ≤ 140737488355000) (hn : n * 32 ≤ 140737488351232) : ∃ N E : Int,
    (∀ (a a' : Option Addr) (cap cap' : Nat) (w : World), ReadsB w a len bs → ReadsC w a' n cs → Calls Try.prog 42 #[.agg #[.int .i64 b, .int .i64 p, .int .i64 s], .slice a len cap, .bool clean, .slice a' n cap'] w fun e w' => e = .returned (.tuple #[.int .i64 N, .int .i64 E]) ∧ Below w.heap.size w w') ∧
    (∀ (a a' : Option Addr) (cap cap' : Nat) (w : World), ReadsB w a len bs → ReadsC w a' n cs → Calls Try.prog 45 #[.agg #[.int .i64 b, .int .i64 p, .int .i64 s], .slice a len cap, .bool clean, .slice a' n cap'] w fun e w' => e = .returned (.tuple #[.int .i64 N, .int .i64 E]) ∧ Below w.heap.size w w') := by
  by_cases hE : newE b p s len = 0
  · exact ⟨_, _, fun a a' cap cap' w h hc => rcheck_ok b p s a a' len cap n cap' bs cs clean w hE h hc hn, fun a a' cap cap' w h hc => check_ok b p s a a' len cap n cap' bs cs clean w hE h hc (by omega)⟩
  · exact ⟨_, _, fun a a' cap cap' w h hc => rcheck_bad b p s a a' len cap n cap' clean w hl hE, fun a a' cap cap' w h hc => check_bad b p s a a' len cap n cap' clean w hl hE⟩

set_option maxHeartbeats 2000000 in
set_option maxRecDepth 100000 in
theorem checks_walk (b p s : Int) (a1 : Option Addr) (len cap : Nat) (bs : List Bool) (clean : Bool) (a3 : Option Addr) (n cap3 : Nat) (cs : List Cmd) (w : World) (wb : Wf b) (wp : Wf p) (ws : Wf s) (hb : ReadsB w a1 len bs) (hl : len ≤ 140737488351232) (hc : ReadsC w a3 n cs) (hn : n * 32 ≤ 140737488351232) :
    Calls Try.prog 18 #[.agg #[.int .i64 b, .int .i64 p, .int .i64 s], .slice a1 len cap, .bool clean, .slice a3 n cap3] w fun e w' => e = .returned (.bool true) ∧ Below w.heap.size w w' := by
  obtain ⟨w0, hw0⟩ : ∃ w0, w0 = w.alloc (.cells #[.int .i64 b, .int .i64 p, .int .i64 s] 23) := ⟨_, rfl⟩
  have g0 : w.grownBy w0 none := by rw [hw0]; exact World.grownBy_alloc _ _ _
  have hS : ∀ x, w0.grownBy x none → x.cell? ⟨w.heap.size, 0, none⟩ = some (.int .i64 b) ∧ x.cell? ⟨w.heap.size, 1, none⟩ = some (.int .i64 p) ∧ x.cell? ⟨w.heap.size, 2, none⟩ = some (.int .i64 s) := fun x hx => box_cells (by rw [hw0] at hx; exact hx)
  have HW : Hid (w0 = w.alloc (.cells #[.int .i64 b, .int .i64 p, .int .i64 s] 23)) := hw0
  have HS : Hid _ := hS
  have hlen := hb.1
  have hclen := hc.1
  obtain ⟨N, E, hr, hk⟩ := checks_both b p s len n bs cs clean (by omega) hn
  have HR : Hid _ := hr
  have HK : Hid _ := hk
  clear hw0 hS hr hk
  go_enter Try.func18, Try.ntmps18
  go_wp2_with (first
    | (go_at_call 42; rw [← HW.out]; refine (HR.out _ _ _ _ _ (hb.below (below_of g0)) (hc.below (below_of g0))).mono ?_; rintro e u1 ⟨rfl, bel1⟩; have g1 := grown_of bel1 none; have bw1 := below_of (grownBy_trans g0 g1))
    | (go_at_call 43; refine (marks_any _ _ _ bs _ hl (hb.below bw1)).mono ?_; rintro e u2 ⟨gm, cm, rfl, hcm, ownm, belm⟩; have g2 := grownBy_trans g1 (grown_of belm none); have bw2 := below_trans bw1 belm)
    | (go_at_call 44; refine (trace_any _ _ _ cs _ (by omega) (hc.below bw2)).mono ?_; rintro e u3 ⟨gt, ct, rfl, hct, ownt, belt⟩; have g3 := grownBy_trans g2 (grown_of belt none); have bw3 := below_trans bw2 belt; have ownm3 := ownB_grown ownm (grown_of belt none); obtain ⟨c0, c1, c2⟩ := HS.out u3 g3)
    | (go_at_call 45; refine (HK.out _ _ _ _ _ (marksR hlen ownm3) (traceR hclen hc.2.1 ownt)).mono ?_; rintro e u4 ⟨rfl, bel4⟩; have g4 := grown_of bel4 none; have bw4 := below_trans bw3 bel4; have ownm4 := ownB_grown ownm3 g4; have ownt4 := ownB_grown ownt g4)
    | (go_at_call 46; refine (marksKept_any _ _ _ _ _ _ bs _ hl (hb.below bw4) hcm ownm4).mono ?_; rintro e u5 ⟨rfl, q1, rfl⟩; have bw5 := below_drewN bw4 q1; have ownt5 := ownB_grown ownt4 (drewN_grown _ q1 none))
    | (go_at_call 47; refine (traceKept_any _ _ _ _ _ _ cs _ hn (hc.below bw5) hct ownt5).mono ?_; rintro e u6 ⟨rfl, q2, rfl⟩))
  go_ret
  exact ⟨rfl, below_drewN bw4 _⟩
end Go.Proofs.Ytjhphkfpcpfdnaa.J
namespace Go.Proofs.Ytjhphkfpcpfdnaa.J
open Go.RowKit
set_option linter.unusedVariables false

theorem step_append_src {w : World} {ops : Array Oper} {o : Oper} {a : Act} {K : Act → World → Prop} {Q : Exit → Act → World → Prop} {X : Prop} (hgd : o.guard = none) (s x : Operand) (T : TypeId)
    (ho : o.op = .call { callee := .builtin .append, args := #[s, x], argTypes := #[T, T] })
    (base : Nat) (E : TypeId) (i : TypeInfo) (z : Value) (size bytes : Nat) (ht : Try.prog.underlying T = some (.slice E)) (hi : Try.prog.info? E = some i) (hz : i.zero = some z)
    (hsize : i.size = size) (hby : i.bytes = bytes) (hzs : z.cells.size = size) (hsz : 0 < size)
    (v : Value) (n : Nat) (xs : List Value) (hs : a.eval s = v) (hown : w.ownsRow base E size v n xs)
    (ad : Option Addr) (m c : Nat) (news : List Value) (hx : a.eval x = .slice ad m c) (hrd : RV w ad m size news) (h1 : ∀ u ∈ news, u.oneCell' = true)
    (h63 : n + m ≤ maxLen) (hbytes : (n + m) * bytes ≤ 140737488355328) (hbase : base ≤ w.heap.size)
    (h : ∀ v' w', w'.ownsRow base E size v' (n + m) (xs ++ news) → w.grownBy w' v.ownBlock → K (a.put o.dst v') w') :
    if Region.wanted o (yielded ops a.tmps) = true then Oper.wp Try.prog o a w K Q else X := by
  rcases Nat.eq_zero_or_pos m with h0 | hm
  · subst h0
    have hz0 : news = [] := List.eq_nil_of_length_eq_zero (by have := hrd.1; omega)
    subst hz0
    have hw : Region.wanted o (yielded ops a.tmps) = true := by simp [Region.wanted, hgd]
    rw [if_pos hw]
    have hrun : (Builtin.append_ #[T, T] o.type #[v, .slice ad 0 c]).run Try.prog w = .ok v w := by
      cases ad with
      | some ad =>
        have hl0 : (loadCells ad 0).run Try.prog w = .ok #[] w := by
          have := run_loadCells (P := Try.prog) w ad 0 (fun _ => undef) (fun j hj => absurd hj (Nat.not_lt_zero _))
          simpa using this
        rcases hown.2 with ⟨rfl, rfl⟩ | ⟨g, cap, cur, rfl, _, _, hnc, _⟩
        · simp [Builtin.append_, run_underlying ht, sizeOf, typeInfo, hi, Builtin.lenOf, Builtin.firstCells, hl0, Result.andThen]
        · simp [Builtin.append_, run_underlying ht, sizeOf, typeInfo, hi, Builtin.lenOf, Builtin.firstCells, hnc, storeCells, hl0, Result.andThen]
      | none =>
        rcases hown.2 with ⟨rfl, rfl⟩ | ⟨g, cap, cur, rfl, _, _, hnc, _⟩
        · simp [Builtin.append_, run_underlying ht, sizeOf, typeInfo, hi, Builtin.lenOf, Builtin.firstCells]
        · simp [Builtin.append_, run_underlying ht, sizeOf, typeInfo, hi, Builtin.lenOf, Builtin.firstCells, hnc, storeCells]
    unfold Oper.wp
    simp [execOp, ho, resolve, invoke, builtin, hs, hx, hrun, Result.andThen]
    exact h v w (by simpa using hown) (World.grownBy.refl _ _)
  · cases ad with
    | none => exact absurd (hrd.2.1 rfl) (by omega)
    | some ad => exact step_append_lies w hgd s x T ho base E i z size bytes ht hi hz hsize hby hzs hsz v n xs hs hown ad m c news hx hrd.1 (fun j u hj => hrd.2.2 ad rfl j u hj) h1 hm h63 hbytes hbase _ rfl (fun g cap w' o1 g1 _ _ => h _ w' o1 g1)

/-- The copy of the marks, while it is written over. -/
def CopyAt (w : World) (g n : Nat) : Prop := ∃ cs, w.heap[g]? = some (.cells cs 4 (0, 0)) ∧ n ≤ cs.size ∧ ∀ i, i < n → ∃ q : Bool, cs[i]? = some (.bool q)
theorem CopyAt.of {w : World} {B g n c : Nat} {bs : List Bool} (hl : bs.length = n) (h : w.ownsRow B 4 1 (.slice (some ⟨g, 0, none⟩) (n + 3) c) (n + 3) ((bs ++ [true, false, true]).map Value.bool)) : CopyAt w g n := by
  have hR := marksR hl h
  rcases h.2 with ⟨hv, _⟩ | ⟨g', cap, cur, hv, hb, hh, h1, h2, h3, h4⟩
  · cases hv
  · injection hv with hv1 hv2 hv3
    injection hv1 with hv1
    injection hv1 with hv1
    subst hv1
    refine ⟨cur, hh, by omega, fun i hi => ?_⟩
    have := hR.2.2 ⟨g, 0, none⟩ rfl i hi
    rw [plain_add, Nat.zero_add] at this
    simp only [World.cell?, hh] at this
    exact ⟨_, this⟩
theorem CopyAt.lt {w : World} {g n : Nat} (h : CopyAt w g n) : g < w.heap.size := by
  obtain ⟨cs, h1, _⟩ := h
  rcases Nat.lt_or_ge g w.heap.size with q | q
  · exact q
  · simp [Array.getElem?_eq_none q] at h1
theorem CopyAt.grown {w w' : World} {g n : Nat} {r : Option Nat} (h : CopyAt w g n) (hg : w.grownBy w' r) (hr : some g ≠ r) : CopyAt w' g n := by
  have hl := h.lt
  obtain ⟨cs, h1, h2⟩ := h
  exact ⟨cs, (hg.block g hl hr).trans h1, h2⟩
theorem CopyAt.put {w : World} {g n i : Nat} (h : CopyAt w g n) (hi : i < n) : ∃ q : Bool, w.cell? ⟨g, i, none⟩ = some (.bool q) ∧ w.frozen? ⟨g, i, none⟩ = false ∧ CopyAt (w.setCell ⟨g, i, none⟩ (.bool (!q))) g n := by
  obtain ⟨cs, h1, h2, h3⟩ := h
  obtain ⟨q, hq⟩ := h3 i hi
  refine ⟨q, by simp only [World.cell?, h1]; exact hq, by simp [World.frozen?, h1], cs.setIfInBounds i (.bool (!q)), heap_setCell_same w g i _ 4 _ h1, by simpa using h2, fun j hj => ?_⟩
  by_cases e : i = j
  · subst e
    exact ⟨!q, by simp [show i < cs.size by omega]⟩
  · obtain ⟨r, hr⟩ := h3 j hj
    exact ⟨r, by rw [Array.getElem?_setIfInBounds_ne (by omega)]; exact hr⟩
theorem grown_set1 (w : World) (g j : Nat) (v : Value) : w.grownBy (w.setCell ⟨g, j, none⟩ v) (some g) := ⟨rfl, rfl, rfl, by simp, fun k hk hne => heap_setCell_other w ⟨g, j, none⟩ k v (fun e => hne (congrArg some e))⟩
theorem below_far1 {U w w' : World} {B x : Nat} (h : Below B U w) (hB : B ≤ w.heap.size) (hg : w.grownBy w' (some x)) (hx : B ≤ x) : Below B U w' :=
  h.grown hg hB (fun k hk => by injection hk with hk; omega)

theorem below_drewNk {B : Nat} {w u : World} (h : Below B w u) (k : Nat) : Below B w (u.drewN k) := ⟨h.os, h.tape, h.output, h.size, h.block⟩
theorem own_form {w : World} {B n E S : Nat} {v : Value} {xs : List Value} (h : w.ownsRow B E S v n xs) : ∃ av cv, v = .slice av n cv := by
  rcases h.2 with ⟨hv, h0⟩ | ⟨g', cap, cur, hv, _⟩
  · exact ⟨none, 0, by rw [hv, h0]⟩
  · exact ⟨_, _, hv⟩
theorem own_lt {w : World} {B n g c E S : Nat} {m : Nat} {xs : List Value} (h : w.ownsRow B E S (.slice (some ⟨g, 0, none⟩) n c) m xs) : g < w.heap.size := by
  rcases h.2 with ⟨hv, _⟩ | ⟨g', cap, cur, hv, hb, hh, _⟩
  · cases hv
  · injection hv with hv1
    injection hv1 with hv1
    injection hv1 with hv1
    subst hv1
    exact (Array.getElem?_eq_some_iff.1 hh).1
theorem own_ge {w : World} {B n g c E S : Nat} {m : Nat} {xs : List Value} (h : w.ownsRow B E S (.slice (some ⟨g, 0, none⟩) n c) m xs) : B ≤ g := by
  rcases h.2 with ⟨hv, _⟩ | ⟨g', cap, cur, hv, hb, hh, _⟩
  · cases hv
  · injection hv with hv1
    injection hv1 with hv1
    injection hv1 with hv1
    subst hv1
    exact hb
theorem ownB {w w' : World} {B E S : Nat} {v : Value} {n : Nat} {xs : List Value} (h : w.ownsRow B E S v n xs) (hb : Below w.heap.size w w') : w'.ownsRow B E S v n xs := by
  refine ⟨h.1, ?_⟩
  rcases h.2 with hn | ⟨gg, cap, cu, hv, hb2, hh, rest⟩
  · exact Or.inl hn
  · exact Or.inr ⟨gg, cap, cu, hv, hb2, (hb.block gg (Array.getElem?_eq_some_iff.1 hh).1).trans hh, rest⟩
set_option maxHeartbeats 4000000 in
set_option maxRecDepth 100000 in
theorem begunS_bad (b p s : Int) (a : Option Addr) (len cap : Nat) (bs : List Bool) (clean : Bool) (w : World) (hr : ReadsB w a len bs) (hl : len ≤ 140737488351232) (hE : newE b p s len ≠ 0) :
    Calls Try.prog 22 #[.agg #[.int .i64 b, .int .i64 p, .int .i64 s], .slice a len cap, .bool clean] w fun e w' => ∃ gr, e = .returned (.tuple #[.pointer none, .pointer (some ⟨gr, 0, none⟩), .bool true]) ∧ Below w.heap.size w w' := by
  obtain ⟨EE, hEE⟩ : ∃ EE, newE b p s len = EE := ⟨_, rfl⟩
  have e1 : (EE == EE) = true := by simp
  have e3 : (EE != 0) = true := by rw [← hEE]; simpa using hE
  have HEE : Hid _ := hEE
  have HE : Hid (newE b p s len ≠ 0) := hE
  have HR : Hid (ReadsB w a len bs) := hr
  have hl2 : len ≤ 140737488355000 := by omega
  have hlen := hr.1
  have HA : Hid (Below w.heap.size w (w.alloc (.cells #[.int .i64 b, .int .i64 p, .int .i64 s] 23))) := (Below.refl _ _).alloc (Nat.le_refl _) _
  clear hr hE hEE
  go_enter Try.func22, Try.ntmps22
  go_wp2_with (first
    | (go_at_call 49; refine (rnew_any b p s a len cap _ hl2).mono ?_; rintro e u1 ⟨rfl, q1⟩; rw [HEE.out]; obtain ⟨x0, x1, x2⟩ := box3 q1; have B1 : Hid (Below (w.alloc (.cells #[.int .i64 b, .int .i64 p, .int .i64 s] 23)).heap.size (w.alloc (.cells #[.int .i64 b, .int .i64 p, .int .i64 s] 23)) u1) := q1; clear q1)
    | (go_at_call 43; refine (marks_any a len cap bs _ hl (ReadsB.below HR.out (below_trans HA.out B1.out))).mono ?_; rintro e u2 ⟨gm, cm, rfl, hcm, ownm, q2⟩; have OM : Hid _ := ownm; have hgm : gm < u2.heap.size := (own_lt ownm); have hgm1 : u1.heap.size ≤ gm := (own_ge ownm); have B2 : Hid (Below (w.alloc (.cells #[.int .i64 b, .int .i64 p, .int .i64 s] 23)).heap.size (w.alloc (.cells #[.int .i64 b, .int .i64 p, .int .i64 s] 23)) u2) := B1.out.trans (q2.mono B1.out.size); have S1 : Hid ((w.alloc (.cells #[.int .i64 b, .int .i64 p, .int .i64 s] 23)).heap.size ≤ u1.heap.size) := B1.out.size; obtain ⟨x0, x1, x2⟩ := box3 B2.out; clear ownm q2 B1)
    | (go_at_call 7; refine (new_bad b p s _ len cm clean _ hl2 HE.out).mono ?_; rintro e u3 ⟨rfl, q3⟩; rw [HEE.out]; have B3 : Hid (Below (w.alloc (.cells #[.int .i64 b, .int .i64 p, .int .i64 s] 23)).heap.size (w.alloc (.cells #[.int .i64 b, .int .i64 p, .int .i64 s] 23)) u3) := B2.out.trans (q3.mono B2.out.size); have Q3 : Hid _ := q3; clear q3)
    | (go_at_call 46; refine (marksKept_any _ gm cm len cap a bs _ hl (ReadsB.below HR.out (below_trans HA.out B3.out)) hcm (ownB OM.out Q3.out)).mono ?_; rintro e u4 ⟨rfl, k4, rfl⟩; have C4 : Hid (CopyAt (u3.drewN k4) gm len) := CopyAt.of hlen (ownB OM.out (below_drewNk Q3.out k4)); have B4 : Hid (Below (w.alloc (.cells #[.int .i64 b, .int .i64 p, .int .i64 s] 23)).heap.size (w.alloc (.cells #[.int .i64 b, .int .i64 p, .int .i64 s] 23)) (u3.drewN k4)) := below_drewNk B3.out k4; clear B3 Q3 B2 OM))
  go_loopw [14] (fun s14 wr => ∃ k : Nat, k ≤ len ∧ s14 = .int .i64 k ∧ Hid (CopyAt wr gm len) ∧ Hid (Below (w.alloc (.cells #[.int .i64 b, .int .i64 p, .int .i64 s] 23)).heap.size (w.alloc (.cells #[.int .i64 b, .int .i64 p, .int .i64 s] 23)) wr))
    (fun i _ => len - (intOf i).toNat)
  case atStart => exact ⟨0, Nat.zero_le _, rfl, C4, B4⟩
  case round =>
    obtain ⟨k, hk, rfl, HC, HB⟩ := hrel
    clear C4 B4
    by_cases hlt : k < len
    · obtain ⟨q, y0, f0, c5⟩ := CopyAt.put HC.out hlt
      have C5 : Hid _ := c5
      have B5 : Hid (Below (w.alloc (.cells #[.int .i64 b, .int .i64 p, .int .i64 s] 23)).heap.size (w.alloc (.cells #[.int .i64 b, .int .i64 p, .int .i64 s] 23)) (wr.setCell ⟨gm, k, none⟩ (.bool (!q)))) := below_far1 HB.out HB.out.size (grown_set1 _ _ _ _) (by have := S1.out; omega)
      have dk : (k : Int) < len := by omega
      clear c5
      go_wp2
      go_roundw
      case rel => exact ⟨k + 1, by omega, by go_num, C5, B5⟩
      case measure => simp [intOf]; omega
    · obtain rfl : k = len := by omega
      clear HC hlt
      obtain ⟨x0, x1, x2⟩ := box3 HB.out
      obtain ⟨i0, hi, hz0, hz1, hz2⟩ := info_parts info4
      have HS9 : Hid (∀ u, Below wr.heap.size wr u → u.cell? ⟨w.heap.size, 0, none⟩ = some (.int .i64 b) ∧ u.cell? ⟨w.heap.size, 1, none⟩ = some (.int .i64 p) ∧ u.cell? ⟨w.heap.size, 2, none⟩ = some (.int .i64 s)) := fun u hu => box3 (HB.out.trans (hu.mono HB.out.size))
      have A1 : Hid (Below wr.heap.size wr ((wr.alloc (.cells #[] 4)).drew)) := ((Below.refl _ _).alloc (Nat.le_refl _) _).drew
      have O1 : Hid (((wr.alloc (.cells #[] 4)).drew).ownsRow wr.heap.size 4 1 (.slice (some ⟨wr.heap.size, 0, none⟩) 0 0) 0 []) := (World.ownsRow_made wr #[] 0 (Nat.le_refl _) (by simp [maxLen]) rfl : (wr.alloc (.cells #[] 4)).ownsRow wr.heap.size 4 1 (.slice (some ⟨wr.heap.size, 0, none⟩) 0 0) 0 []).drew
      have R1 : Hid (RV ((wr.alloc (.cells #[] 4)).drew) a k 1 (bs.map Value.bool)) := (ReadsB.below (ReadsB.below HR.out (below_trans HA.out HB.out)) A1.out).rv
      have hm1 : 0 + k ≤ maxLen := by unfold maxLen; omega
      have hm2 : (0 + k) * 1 ≤ 140737488355328 := by omega
      go_upto_region 9 with fail
      go_region_held3 (fun x => x.cell? ⟨w.heap.size, 0, none⟩ = some (.int .i64 b) ∧ x.cell? ⟨w.heap.size, 1, none⟩ = some (.int .i64 p) ∧ x.cell? ⟨w.heap.size, 2, none⟩ = some (.int .i64 s))
        ((refine HS9.out _ ?_; first | exact (Below.refl _ _).drew | exact A1.out | exact bv1 | exact Below.alloc bv1 bv1.size _))
        (first
          | (refine step_append_src (by rfl) (.tmp 58) (.tmp 59) 33 (by rfl) wr.heap.size 4 i0 _ 1 1 Try.underlying33 hi hz0 hz1 hz2 rfl (by decide) (.slice (some ⟨wr.heap.size, 0, none⟩) 0 0) 0 [] ?_ ?_ a k _ (bs.map Value.bool) (by rfl) ?_ (bools_one _) hm1 hm2 ?_ ?_; exact rfl; with_reducible exact O1.out; exact R1.out; exact A1.out.size; intro v1 w1 own1 grow1; have bv1 := A1.out.grown grow1 A1.out.size (fun j hj => (O1.out.lt j hj).1); obtain ⟨av, cv, hv1⟩ := own_form own1; subst hv1; clear grow1))
      all_goals go_wp2
      all_goals go_ret3
      all_goals
        have hB9 := below_trans HA.out HB.out
        exact ⟨_, rfl, (hB9.trans (bv1.mono hB9.size)).alloc (by have := bv1.size; have := hB9.size; omega) _⟩
set_option maxRecDepth 100000 in
theorem sees_bad (b p s : Int) (a : Option Addr) (len cap : Nat) (bs : List Bool) (clean : Bool) (a3 : Option Addr) (n cap3 : Nat) (blk : Int) (w : World) (hr : ReadsB w a len bs) (hl : len ≤ 140737488351232) (hE : newE b p s len ≠ 0) :
    Calls Try.prog 5 #[.agg #[.int .i64 b, .int .i64 p, .int .i64 s], .slice a len cap, .bool clean, .slice a3 n cap3, .int .i64 blk] w fun e w' => e = .returned (.bool true) ∧ Below w.heap.size w w' := by
  have HR : Hid (ReadsB w a len bs) := hr
  have HE : Hid (newE b p s len ≠ 0) := hE
  have HA : Hid (Below w.heap.size w (w.alloc (.cells #[.int .i64 b, .int .i64 p, .int .i64 s] 23))) := (Below.refl _ _).alloc (Nat.le_refl _) _
  clear hr hE
  go_enter Try.func5, Try.ntmps5
  go_wp2_with (first | (go_at_call 22; refine (begunS_bad b p s a len cap bs clean _ (HR.out.below HA.out) hl HE.out).mono ?_; rintro e u1 ⟨gr, rfl, q1⟩; have Q1 : Hid (Below w.heap.size w u1) := below_trans HA.out q1; clear q1))
  go_ret
  exact ⟨rfl, Q1.out⟩

end Go.Proofs.Ytjhphkfpcpfdnaa.J
