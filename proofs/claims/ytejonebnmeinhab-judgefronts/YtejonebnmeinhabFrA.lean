/-
  SEAT Ytejonebnmeinhab: JudgeFronts: traces' fronts.
-/
import Derived.Test.YtejonebnmeinhabTurnsW
namespace Go.Proofs.Ytejonebnmeinhab
open Go.RowKit
set_option linter.unusedVariables false

theorem ReadsC.front {w : World} {a : Option Addr} {n m : Nat} {cs : List Cmd} (h : ReadsC w a n cs) (hm : m ≤ n) : ReadsC w a m (cs.take m) := by
  refine ⟨by rw [List.length_take, h.1]; omega, fun c hc => h.2.1 c (List.mem_of_mem_take hc), (fun q => by have := h.2.2.1 q; omega), fun x hx i hi j hj => ?_⟩
  rw [h.2.2.2 x hx i (by omega) j hj]
  simp [List.getD_eq_getElem?_getD, hi]

theorem ReadsC.back {w : World} {x : Addr} {n m : Nat} {cs : List Cmd} (h : ReadsC w (some x) n cs) (hm : m ≤ n) : ReadsC w (some (x.add (m * 4))) (n - m) (cs.drop m) := by
  refine ⟨by rw [List.length_drop, h.1], fun c hc => h.2.1 c (List.mem_of_mem_drop hc), (fun q => by cases q), fun y hy i hi j hj => ?_⟩
  cases hy
  have e : (x.add (m * 4)).add (i * 4 + j) = x.add ((m + i) * 4 + j) := by
    rw [Addr.add_add]; congr 1; omega
  rw [e, h.2.2.2 x rfl (m + i) (by omega) j hj]
  simp [List.getD_eq_getElem?_getD, List.getElem?_drop]
theorem own_slice {w : World} {B n : Nat} {v : Value} {cs : List Cmd} (h : w.ownsRow B 73 4 v n (flat cs)) (hok : ∀ c ∈ cs, c.Ok) : ∃ a k, v = .slice a n k ∧ ReadsC w a n cs := by
  have hl : cs.length = n := by have := h.1; rw [flat_length] at this; omega
  rcases h.2 with ⟨hv, h0⟩ | ⟨g, cap, cur, hv, _⟩
  · subst h0
    exact ⟨none, 0, hv, hl, hok, fun _ => rfl, fun _ h => by cases h⟩
  · subst hv
    have := own_readsC h hok (Nat.le_refl n)
    rw [List.take_of_length_le (by omega)] at this
    exact ⟨_, _, rfl, this⟩

theorem step_append_src {w : World} {ops : Array Oper} {o : Oper} {a : Act} {K : Act → World → Prop} {Q : Exit → Act → World → Prop} {X : Prop} (hgd : o.guard = none) (s x : Operand) (T : TypeId)
    (ho : o.op = .call { callee := .builtin .append, args := #[s, x], argTypes := #[T, T] })
    (base : Nat) (E : TypeId) (i : TypeInfo) (z : Value) (size bytes : Nat) (ht : Try.prog.underlying T = some (.slice E)) (hi : Try.prog.info? E = some i) (hz : i.zero = some z)
    (hsize : i.size = size) (hby : i.bytes = bytes) (hzs : z.cells.size = size) (hsz : 0 < size)
    (v : Value) (n : Nat) (xs : List Value) (hs : a.eval s = v) (hown : w.ownsRow base E size v n xs)
    (ad : Option Addr) (m c : Nat) (news : List Value) (hx : a.eval x = .slice ad m c) (hrd : RV w ad m size news) (h1 : ∀ u ∈ news, u.oneCell' = true)
    (h63 : n + m ≤ maxLen) (hbytes : (n + m) * bytes ≤ 140737488355328) (hbase : base ≤ w.heap.size)
    (h : ∀ v' w', w'.ownsRow base E size v' (n + m) (xs ++ news) → w.grownBy w' v.ownBlock → K (a.put o.dst v') w') :
    if Region.wanted o (yielded ops a.tmps) = true then Oper.wp Try.prog o a w K Q else X := by
  rcases Nat.eq_zero_or_pos m with h0 | hm
  · subst h0
    have hz0 : news = [] := List.eq_nil_of_length_eq_zero (by have := hrd.1; omega)
    subst hz0
    have hw : Region.wanted o (yielded ops a.tmps) = true := by simp [Region.wanted, hgd]
    rw [if_pos hw]
    have hrun : (Builtin.append_ #[T, T] o.type #[v, .slice ad 0 c]).run Try.prog w = .ok v w := by
      cases ad with
      | some ad =>
        have hl0 : (loadCells ad 0).run Try.prog w = .ok #[] w := by
          have := run_loadCells (P := Try.prog) w ad 0 (fun _ => undef) (fun j hj => absurd hj (Nat.not_lt_zero _))
          simpa using this
        rcases hown.2 with ⟨rfl, rfl⟩ | ⟨g, cap, cur, rfl, _, _, hnc, _⟩
        · simp [Builtin.append_, run_underlying ht, sizeOf, typeInfo, hi, Builtin.lenOf, Builtin.firstCells, hl0, Result.andThen]
        · simp [Builtin.append_, run_underlying ht, sizeOf, typeInfo, hi, Builtin.lenOf, Builtin.firstCells, hnc, storeCells, hl0, Result.andThen]
      | none =>
        rcases hown.2 with ⟨rfl, rfl⟩ | ⟨g, cap, cur, rfl, _, _, hnc, _⟩
        · simp [Builtin.append_, run_underlying ht, sizeOf, typeInfo, hi, Builtin.lenOf, Builtin.firstCells]
        · simp [Builtin.append_, run_underlying ht, sizeOf, typeInfo, hi, Builtin.lenOf, Builtin.firstCells, hnc, storeCells]
    unfold Oper.wp
    simp [execOp, ho, resolve, invoke, builtin, hs, hx, hrun, Result.andThen]
    exact h v w (by simpa using hown) (World.grownBy.refl _ _)
  · cases ad with
    | none => exact absurd (hrd.2.1 rfl) (by omega)
    | some ad => exact step_append_lies w hgd s x T ho base E i z size bytes ht hi hz hsize hby hzs hsz v n xs hs hown ad m c news hx hrd.1 (fun j u hj => hrd.2.2 ad rfl j u hj) h1 hm h63 hbytes hbase _ rfl (fun g cap w' o1 g1 _ _ => h _ w' o1 g1)

theorem ite_some (c A : Nat) (x y : Addr) : (if c = A then some x else some y) = some (if c = A then x else y) := by split <;> rfl

theorem own_made (x : World) (B : Nat) (h : B ≤ x.heap.size) : (x.alloc (.cells #[] 73)).ownsRow B 73 4 (.slice (some ⟨x.heap.size, 0, none⟩) 0 0) 0 [] := World.ownsRow_made x #[] 0 h (by simp [maxLen]) rfl

theorem own_nil (u : World) : u.ownsRow u.heap.size 73 4 (.slice none 0 0) 0 [] := ⟨by simp, Or.inl ⟨rfl, rfl⟩⟩


theorem set_self (st : List Blk) (q : Nat) (h : q < st.length) : st.set q (st.getD q Blk.zero) = st := by
  rw [List.getD_eq_getElem?_getD, List.getElem?_eq_getElem h]
  exact List.set_getElem_self h
/-- A Mark that failed leaves all as it is. -/
theorem see_failed {P : Int} {st : List Blk} (q : Nat) (h : q < st.length) : see P st ⟨3, q, 0, 44⟩ = some st := by
  have e : bhd P (st.getD q Blk.zero) ⟨3, q, 0, 44⟩ = st.getD q Blk.zero := by
    unfold bhd
    simp
  unfold see
  rw [if_pos ⟨by simp, by simp; omega, rfl, by simp [kpt]⟩]
  simp only [Int.toNat_natCast]
  rw [e, set_self st q h]
theorem cases_at (P : Int) (st : List Blk) (cs : List Cmd) (A : Nat) (hA : A ≤ cs.length) :
    (runs P st (cs.take A) = none ∧ chk P st cs = chk P st (cs.take A) ∧ ∃ k : Nat, chk P st cs = some k ∧ k < A) ∨ (∃ st', runs P st (cs.take A) = some st' ∧ st'.length = st.length ∧ chk P st (cs.take A) = none ∧ chk P st cs = (chk P st' (cs.drop A)).map (· + A)) := by
  have e := chk_append P st (cs.take A) (cs.drop A)
  rw [List.take_append_drop] at e
  cases hr : runs P st (cs.take A) with
  | none =>
    rw [hr] at e
    refine Or.inl ⟨rfl, e, ?_⟩
    cases hk : chk P st (cs.take A) with
    | none =>
      have := chk_runs.1 hk
      rw [hr] at this
      cases this
    | some k =>
      refine ⟨k, e.trans hk, ?_⟩
      have := chk_lt hk
      rw [List.length_take] at this
      omega
  | some st' =>
    rw [hr] at e
    refine Or.inr ⟨st', rfl, runs_length hr, chk_runs.2 (by rw [hr]; rfl), ?_⟩
    rw [e, List.length_take, Nat.min_eq_left hA]
theorem fronts_chk (P : Int) (st : List Blk) (cs : List Cmd) (A q : Nat) (hA : A ≤ cs.length) (hq : q < st.length) (n F K : Int) (hn : chkI (chk P st cs) = n) (hF : chkI (chk P st (cs.take A)) = F) (hK : chkI (chk P st (cs.take A ++ [⟨3, q, 0, 44⟩] ++ cs.drop A)) = K) :
    (n = -1 ∧ F = -1 ∧ K = -1) ∨ (0 ≤ n ∧ n < A ∧ F = n ∧ K = n) ∨ (A ≤ n ∧ F = -1 ∧ K = n + 1) := by
  rw [List.append_assoc, chk_append] at hK
  rcases cases_at P st cs A hA with ⟨h1, h2, k, h3, h4⟩ | ⟨st', h1, hl, h2, h3⟩
  · rw [h1] at hK
    rw [h2] at hn h3
    rw [h3] at hn hF hK
    simp only [chkI] at hn hF hK
    right; left
    omega
  · rw [h1] at hK
    rw [h2] at hF
    rw [h3] at hn
    simp only [List.singleton_append, chk, see_failed q (by omega : q < st'.length), List.length_take, Nat.min_eq_left hA] at hK
    cases hd : chk P st' (cs.drop A) with
    | none =>
      rw [hd] at hn hK
      simp only [Option.map_none, chkI] at hn hF hK
      left
      omega
    | some k =>
      rw [hd] at hn hK
      simp only [Option.map_some, chkI] at hn hF hK
      right; right
      omega
theorem longer_chk (P : Int) (st : List Blk) (cs more : List Cmd) (n L : Int) (hn : chkI (chk P st cs) = n) (hL : chkI (chk P st (cs ++ more)) = L) : (n = -1 ∧ (L = -1 ∨ cs.length ≤ L)) ∨ (0 ≤ n ∧ L = n) := by
  rw [chk_append] at hL
  cases hr : runs P st cs with
  | none =>
    rw [hr] at hL
    have e := hn.symm.trans hL
    cases hk : chk P st cs with
    | none =>
      have := chk_runs.1 hk
      rw [hr] at this
      cases this
    | some k =>
      rw [hk] at hn
      simp only [chkI] at hn
      right
      omega
  | some st' =>
    rw [hr] at hL
    simp only at hL
    rw [chk_runs.2 (by rw [hr]; rfl)] at hn
    simp only [chkI] at hn
    left
    refine ⟨hn.symm, ?_⟩
    cases hm : chk P st' more with
    | none =>
      rw [hm] at hL
      simp only [Option.map_none, chkI] at hL
      omega
    | some k =>
      rw [hm] at hL
      simp only [Option.map_some, chkI] at hL
      omega
theorem with44 {w : World} {B m A : Nat} {v : Value} {X Y : List Cmd} {q : Int} (own : w.ownsRow B 73 4 v (0 + A + 1 + (m - A)) ([] ++ flat X ++ [.int .i64 3, .int .i64 q, .int .i64 0, .int .i64 44] ++ flat Y)) (hA : A ≤ m) (hX : ∀ c ∈ X, c.Ok) (hY : ∀ c ∈ Y, c.Ok) (hq : 0 ≤ q ∧ q ≤ 100000) :
    ∃ aw kw, v = .slice aw (m + 1) kw ∧ ReadsC w aw (m + 1) (X ++ [⟨3, q, 0, 44⟩] ++ Y) := by
  have e1 : 0 + A + 1 + (m - A) = m + 1 := by omega
  have e2 : [] ++ flat X ++ [.int .i64 3, .int .i64 q, .int .i64 0, .int .i64 44] ++ flat Y = flat (X ++ [⟨3, q, 0, 44⟩] ++ Y) := by
    rw [flat_append, flat_append]; rfl
  rw [e1, e2] at own
  refine own_slice own ?_
  intro c hc
  rcases List.mem_append.1 hc with h | h
  · rcases List.mem_append.1 h with h | h
    · exact hX c h
    · simp at h; subst h
      refine ⟨?_, ?_, ?_, ?_⟩ <;> (unfold Wf; simp only; omega)
  · exact hY c h

end Go.Proofs.Ytejonebnmeinhab
