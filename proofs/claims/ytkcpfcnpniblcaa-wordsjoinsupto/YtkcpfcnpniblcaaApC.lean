/-
  SEAT Ytkcpfcnpniblcaa: apart: what rows grow to.
-/
import Derived.Test.YtkcpfcnpniblcaaApB
namespace Go.Proofs.Ytkcpfcnpniblcaa
open Go.RowKit
set_option linter.unusedVariables false

theorem info22 : (Try.prog.info? 22).map (fun i => (i.zero, i.size, i.bytes)) = some (some (.slice none 0 0), 1, 24) := by kernel_rfl

/-- The rows, and what the first i of them grew to. -/
structure Second (w : World) (B B2 G m : Nat) (vs : Nat → Value) (ns : Nat → Nat) (i : Nat) (gv : Value) (gs : Nat → Value) : Prop where
  ap : Apart w B G m vs ns (fun j => markT j (ns j))
  hB2 : G < B2
  list : w.ownsRow B2 22 1 gv i ((List.range i).map gs)
  rows : ∀ j, j < i → w.ownsRow B 5 1 (gs j) (ns j + 64) ((markT j (ns j) ++ markT j 64).map (Value.int .u8))
  d1 : ∀ j l, j < i → l < m → l ≠ j → ∀ g, (gs j).ownBlock = some g → (vs l).ownBlock ≠ some g

theorem types_apart {w : World} {B B2 n m : Nat} {v u : Value} {xs ys : List Value} (h : w.ownsRow B2 22 1 v n xs) (k : w.ownsRow B 5 1 u m ys) : v.ownBlock = none ∨ v.ownBlock ≠ u.ownBlock := by
  rcases h.2 with ⟨rfl, _⟩ | ⟨g, cap, cur, rfl, _, hg, _⟩
  · exact Or.inl rfl
  · refine Or.inr fun e => ?_
    rcases k.2 with ⟨rfl, _⟩ | ⟨g', cap', cur', rfl, _, hg', _⟩
    · cases e
    · simp [Value.ownBlock] at e
      subst e
      rw [hg] at hg'
      simp at hg'

theorem own_form22 {w : World} {B n : Nat} {v : Value} {xs : List Value} (h : w.ownsRow B 22 1 v n xs) : ∃ a c, v = .slice a n c := by
  rcases h.2 with ⟨hv, h0⟩ | ⟨g, cap, cur, hv, _⟩
  · exact ⟨none, 0, by rw [hv, h0]⟩
  · exact ⟨_, _, hv⟩

theorem grown_start {w : World} {B n : Nat} {v : Value} {F : List Int} (h : w.ownsRow B 5 1 v n (F.map (Value.int .u8))) : Grown w w B v v n 0 F [] := by
  refine ⟨h, by simpa using h, ?_, World.grownBy.refl _ _, fun g hg => (h.lt g hg).2⟩
  rcases h.2 with ⟨rfl, _⟩ | ⟨g, cap, cur, rfl, _⟩
  · exact Or.inr fun g e => by cases e
  · exact Or.inl ⟨g, cap, rfl, rfl⟩

theorem wpList_grow {u w : World} {ops : Array Oper} {rest : List Oper} {o : Oper} {a : Act} {Q : Exit → Act → World → Prop} (hgd : o.guard = none) (s x : Operand)
    (ho : o.op = .call { callee := .builtin .append, args := #[s, x], argTypes := #[22, 22] })
    {B : Nat} {vi v : Value} {n k : Nat} {F X : List Int} (h : Grown u w B vi v n k F X) (hB : B ≤ u.heap.size) (z : Int) (hz : 0 ≤ z ∧ z ≤ 255) (hn : n + k ≤ 140737488355300)
    (hs : a.eval s = v) (hx : a.eval x = .slice (some ⟨w.heap.size, 0, none⟩) 1 1)
    (hk : ∀ v' w', Grown u w' B vi v' n (k + 1) F (X ++ [z]) → Below B w w' → wpList Try.prog ops Q rest (a.put o.dst v') w') : wpList Try.prog ops Q (o :: rest) a (w.alloc (.cells #[.int .u8 z] 5)) := by
  obtain ⟨v', w', hr, h1, h2⟩ := run_grow o.type h hB z hz hn
  refine wpList_plain hgd fun K hK => ?_
  unfold Oper.wp
  simp [execOp, ho, resolve, invoke, builtin, hs, hx, hr, Result.andThen]
  exact hK _ _ (hk v' w' h1 h2)

theorem Second.more {u w w' : World} {B B2 G m : Nat} {vs : Nat → Value} {ns : Nat → Nat} {i : Nat} {gv gv' v : Value} {gs : Nat → Value} (h : Second u B B2 G m vs ns i gv gs) (hi : i < m)
    (hg : Grown u w B (vs i) v (ns i) 64 (markT i (ns i)) (markT i 64)) (hw : w.grownBy w' gv.ownBlock) (hl : w'.ownsRow B2 22 1 gv' (i + 1) ((List.range i).map gs ++ [v])) :
    Second w' B B2 G m vs ns (i + 1) gv' (fun j => if j = i then v else gs j) := by
  obtain ⟨h1, hB2, h2, h3, h4⟩ := h
  have sep : ∀ {q : Nat} {x : Value} {ys : List Value}, u.ownsRow B 5 1 x q ys → x.ownBlock = none ∨ x.ownBlock ≠ gv.ownBlock := by
    intro q x ys hx
    rcases types_apart h2 hx with h5 | h5
    · cases hb : x.ownBlock with
      | none => exact Or.inl rfl
      | some g => exact Or.inr (by rw [h5]; simp)
    · exact Or.inr fun e => h5 e.symm
  have l2 : w.ownsRow B2 22 1 gv i ((List.range i).map gs) := h2.kept hg.grow (types_apart h2 (h1.rows i hi))
  have sepw : ∀ {q : Nat} {x : Value} {ys : List Value}, w.ownsRow B 5 1 x q ys → x.ownBlock = none ∨ x.ownBlock ≠ gv.ownBlock := by
    intro q x ys hx
    rcases types_apart l2 hx with h5 | h5
    · cases hb : x.ownBlock with
      | none => exact Or.inl rfl
      | some g => exact Or.inr (by rw [h5]; simp)
    · exact Or.inr fun e => h5 e.symm
  have ap2 : Apart w B G m vs ns (fun j => markT j (ns j)) := h1.move i hi hg.grow hg.old (fun _ _ _ => rfl)
  refine ⟨⟨fun j hj => ?_, h1.small, fun j hj => (ap2.rows j hj).kept hw (sepw (ap2.rows j hj)), h1.ne, h1.neG, Nat.lt_of_lt_of_le ap2.hG hw.size⟩, hB2, ?_, fun j hj => ?_, fun j l hj hl2 hne g hb => ?_⟩
  · rw [World.cell?_of_block (hw.block G ap2.hG (fun e => by have := (l2.lt G e.symm).1; omega))]
    exact ap2.outer j hj
  · rw [List.range_succ, List.map_append]
    have e1 : (List.range i).map (fun j => if j = i then v else gs j) = (List.range i).map gs := by
      apply List.map_congr_left
      intro j hj
      rw [if_neg (by have := List.mem_range.1 hj; omega)]
    rw [e1]
    simpa using hl
  · by_cases e : j = i
    · subst e
      rw [if_pos rfl]
      exact hg.new.kept hw (sepw hg.new)
    · rw [if_neg e]
      have h5 := h3 j (by omega)
      refine World.ownsRow.kept (h5.kept hg.grow ?_) hw (sep h5)
      cases hb : (gs j).ownBlock with
      | none => exact Or.inl rfl
      | some g => exact Or.inr fun e2 => h4 j i (by omega) hi (fun e3 => e e3.symm) g hb e2.symm
  · by_cases e : j = i
    · subst e
      rw [if_pos rfl] at hb
      rcases hg.place with ⟨g', c, e1, e2⟩ | hp
      · rw [e1] at hb
        have hb' : (vs j).ownBlock = some g := by rw [e2]; exact hb
        exact h1.ne j l hi hl2 (fun e3 => hne e3.symm) g hb'
      · intro e3
        have := hp g hb
        have := ((h1.rows l hl2).lt g e3).2
        omega
    · rw [if_neg e] at hb
      exact h4 j l (by omega) hl2 hne g hb

end Go.Proofs.Ytkcpfcnpniblcaa
