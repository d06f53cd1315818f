/-
  SEAT Ytejonebnmeinhab: an append at a step of a region that draws, whose source may be empty.
-/
import Derived.Test.YtejonebnmeinhabRefF
import Derived.Test.YtejonebnmeinhabLessA
namespace Go.Proofs.Ytejonebnmeinhab
open Go.RowKit
set_option linter.unusedVariables false

theorem step_append_src {w : World} {ops : Array Oper} {o : Oper} {a : Act} {K : Act → World → Prop} {Q : Exit → Act → World → Prop} {X : Prop} (hgd : o.guard = none) (s x : Operand) (T : TypeId)
    (ho : o.op = .call { callee := .builtin .append, args := #[s, x], argTypes := #[T, T] })
    (base : Nat) (E : TypeId) (i : TypeInfo) (z : Value) (size bytes : Nat) (ht : Try.prog.underlying T = some (.slice E)) (hi : Try.prog.info? E = some i) (hz : i.zero = some z)
    (hsize : i.size = size) (hby : i.bytes = bytes) (hzs : z.cells.size = size) (hsz : 0 < size)
    (v : Value) (n : Nat) (xs : List Value) (hs : a.eval s = v) (hown : w.ownsRow base E size v n xs)
    (ad : Option Addr) (m c : Nat) (news : List Value) (hx : a.eval x = .slice ad m c) (hrd : RV w ad m size news) (h1 : ∀ u ∈ news, u.oneCell' = true)
    (h63 : n + m ≤ maxLen) (hbytes : (n + m) * bytes ≤ 140737488355328) (hbase : base ≤ w.heap.size)
    (h : ∀ v' w', w'.ownsRow base E size v' (n + m) (xs ++ news) → w.grownBy w' v.ownBlock → K (a.put o.dst v') w') :
    if Region.wanted o (yielded ops a.tmps) = true then Oper.wp Try.prog o a w K Q else X := by
  rcases Nat.eq_zero_or_pos m with h0 | hm
  · subst h0
    have hz0 : news = [] := List.eq_nil_of_length_eq_zero (by have := hrd.1; omega)
    subst hz0
    have hw : Region.wanted o (yielded ops a.tmps) = true := by simp [Region.wanted, hgd]
    rw [if_pos hw]
    have hrun : (Builtin.append_ #[T, T] o.type #[v, .slice ad 0 c]).run Try.prog w = .ok v w := by
      cases ad with
      | some ad =>
        have hl0 : (loadCells ad 0).run Try.prog w = .ok #[] w := by
          have := run_loadCells (P := Try.prog) w ad 0 (fun _ => undef) (fun j hj => absurd hj (Nat.not_lt_zero _))
          simpa using this
        rcases hown.2 with ⟨rfl, rfl⟩ | ⟨g, cap, cur, rfl, _, _, hnc, _⟩
        · simp [Builtin.append_, run_underlying ht, sizeOf, typeInfo, hi, Builtin.lenOf, Builtin.firstCells, hl0, Result.andThen]
        · simp [Builtin.append_, run_underlying ht, sizeOf, typeInfo, hi, Builtin.lenOf, Builtin.firstCells, hnc, storeCells, hl0, Result.andThen]
      | none =>
        rcases hown.2 with ⟨rfl, rfl⟩ | ⟨g, cap, cur, rfl, _, _, hnc, _⟩
        · simp [Builtin.append_, run_underlying ht, sizeOf, typeInfo, hi, Builtin.lenOf, Builtin.firstCells]
        · simp [Builtin.append_, run_underlying ht, sizeOf, typeInfo, hi, Builtin.lenOf, Builtin.firstCells, hnc, storeCells]
    unfold Oper.wp
    simp [execOp, ho, resolve, invoke, builtin, hs, hx, hrun, Result.andThen]
    exact h v w (by simpa using hown) (World.grownBy.refl _ _)
  · cases ad with
    | none => exact absurd (hrd.2.1 rfl) (by omega)
    | some ad => exact step_append_lies w hgd s x T ho base E i z size bytes ht hi hz hsize hby hzs hsz v n xs hs hown ad m c news hx hrd.1 (fun j u hj => hrd.2.2 ad rfl j u hj) h1 hm h63 hbytes hbase _ rfl (fun g cap w' o1 g1 _ _ => h _ w' o1 g1)

theorem ite_some (c A : Nat) (x y : Addr) : (if c = A then some x else some y) = some (if c = A then x else y) := by split <;> rfl

theorem own_made (x : World) (B : Nat) (h : B ≤ x.heap.size) : (x.alloc (.cells #[] 73)).ownsRow B 73 4 (.slice (some ⟨x.heap.size, 0, none⟩) 0 0) 0 [] := World.ownsRow_made x #[] 0 h (by simp [maxLen]) rfl

theorem less_chk {P : Int} {outs : List Bool} {cs : List Cmd} {st : List Blk} (h : (runs P st cs).isSome = true) : chkI (chk P st (lessOf outs 0 cs)) = -1 := by
  cases hr : runs P st cs with
  | none => rw [hr] at h; cases h
  | some t =>
    rw [chk_runs.2 (less_runs P outs cs 0 st st t (Le.refl _) hr)]
    rfl

theorem with_chk {P : Int} {cs : List Cmd} {st : List Blk} {m A q : Nat} {L : Int} (h : (runs P st (cs.take m)).isSome = true) (hA : A ≤ m) (hml : m ≤ cs.length) (hL : L < A) (hq : q < st.length) (hne : ∀ j : Nat, j < m → L < (j : Int) → (cs.getD j Cmd.none).b ≠ (q : Int)) :
    chkI (chk P st ((cs.take m).take A ++ [⟨3, q, 0, 0⟩] ++ (cs.take m).drop A)) = -1 := by
  cases hr : runs P st (cs.take m) with
  | none => rw [hr] at h; cases h
  | some t =>
    rw [chk_runs.2 (mark_runs P st t q ((cs.take m).take A) ((cs.take m).drop A) (by rw [List.take_append_drop]; exact hr) hq ?_)]
    · rfl
    · intro c hc
      obtain ⟨j, hj, rfl⟩ := List.mem_iff_getElem.1 hc
      rw [List.length_drop, List.length_take] at hj
      have h1 := hne (A + j) (by omega) (by omega)
      simp only [List.getElem_drop, List.getElem_take]
      rw [List.getD_eq_getElem?_getD, List.getElem?_eq_getElem (by omega)] at h1
      exact h1

theorem with_meet {w : World} {B m A : Nat} {v : Value} {X Y : List Cmd} {q : Int} (own : w.ownsRow B 73 4 v (0 + A + 1 + (m - A)) ([] ++ flat X ++ [.int .i64 3, .int .i64 q, .int .i64 0, .int .i64 0] ++ flat Y)) (hA : A ≤ m) (hX : ∀ c ∈ X, c.Ok) (hY : ∀ c ∈ Y, c.Ok) (hq : 0 ≤ q ∧ q ≤ 100000) :
    ∃ aw kw, v = .slice aw (m + 1) kw ∧ ReadsC w aw (m + 1) (X ++ [⟨3, q, 0, 0⟩] ++ Y) := by
  have e1 : 0 + A + 1 + (m - A) = m + 1 := by omega
  have e2 : [] ++ flat X ++ [.int .i64 3, .int .i64 q, .int .i64 0, .int .i64 0] ++ flat Y = flat (X ++ [⟨3, q, 0, 0⟩] ++ Y) := by
    rw [flat_append, flat_append]; rfl
  rw [e1, e2] at own
  refine own_slice own ?_
  intro c hc
  rcases List.mem_append.1 hc with h | h
  · rcases List.mem_append.1 h with h | h
    · exact hX c h
    · simp at h; subst h
      refine ⟨?_, ?_, ?_, ?_⟩ <;> (unfold Wf; simp only; omega)
  · exact hY c h

theorem own_nil (u : World) : u.ownsRow u.heap.size 73 4 (.slice none 0 0) 0 [] := ⟨by simp, Or.inl ⟨rfl, rfl⟩⟩

theorem last_step {cs : List Cmd} {k : Nat} {q : Int} {L : Int} {c : Cmd} (h0 : -1 ≤ L) (h1 : L < k) (h : ∀ j : Nat, j < k → L < (j : Int) → (cs.getD j Cmd.none).b ≠ q) (hc : c = cs.getD k Cmd.none) :
    (c.b = q → ∀ j : Nat, j < k + 1 → (k : Int) < (j : Int) → (cs.getD j Cmd.none).b ≠ q) ∧ (c.b ≠ q → ∀ j : Nat, j < k + 1 → L < (j : Int) → (cs.getD j Cmd.none).b ≠ q) := by
  refine ⟨fun _ j h2 h3 => by omega, fun hn j h2 h3 => ?_⟩
  by_cases hj : j < k
  · exact h j hj h3
  · obtain rfl : j = k := by omega
    rw [← hc]; exact hn

theorem less_keep {w : World} {B N k : Nat} {v : Value} {xs : List Value} {outs : List Bool} {cs : List Cmd} {ck cb cp cq : Int} (h : lessOf outs 0 (cs.take (k + 1)) = lessOf outs 0 (cs.take k) ++ (if keepB outs k ⟨ck, cb, cp, cq⟩ then [⟨ck, cb, cp, cq⟩] else [])) (hN : (lessOf outs 0 (cs.take k)).length = N) (hx : flat (lessOf outs 0 (cs.take k)) = xs) (hk : keepB outs k ⟨ck, cb, cp, cq⟩ = true)
    (own : w.ownsRow B 73 4 v (N + 1) (xs ++ [.int .i64 ck, .int .i64 cb, .int .i64 cp, .int .i64 cq])) : w.ownsRow B 73 4 v (lessOf outs 0 (cs.take (k + 1))).length (flat (lessOf outs 0 (cs.take (k + 1)))) := by
  rw [h, hk, if_pos rfl, List.length_append, hN, flat_append, hx]
  exact own
theorem less_drop {w : World} {B N k : Nat} {v : Value} {xs : List Value} {outs : List Bool} {cs : List Cmd} {ck cb cp cq : Int} (h : lessOf outs 0 (cs.take (k + 1)) = lessOf outs 0 (cs.take k) ++ (if keepB outs k ⟨ck, cb, cp, cq⟩ then [⟨ck, cb, cp, cq⟩] else [])) (hN : (lessOf outs 0 (cs.take k)).length = N) (hx : flat (lessOf outs 0 (cs.take k)) = xs) (hk : keepB outs k ⟨ck, cb, cp, cq⟩ = false)
    (own : w.ownsRow B 73 4 v N xs) : w.ownsRow B 73 4 v (lessOf outs 0 (cs.take (k + 1))).length (flat (lessOf outs 0 (cs.take (k + 1)))) := by
  rw [h, hk, if_neg (by simp), List.append_nil, hN, hx]
  exact own

end Go.Proofs.Ytejonebnmeinhab
