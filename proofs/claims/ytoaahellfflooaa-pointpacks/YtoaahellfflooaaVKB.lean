/-
  SEAT Ytoaahellfflooaa.
-/
import Derived.Maps.AppendAt
import Derived.Test.YtoaahellfflooaaVKA
namespace Go.Proofs.Ytoaahellfflooaa
open Go.RowKit
set_option linter.unusedVariables false

theorem Own.front {w : World} {B g n cap m : Nat} {xs : List Value} (h : w.ownsRow B 5 1 (.slice (some ⟨g, 0, none⟩) n cap) n xs) (hm : m ≤ n) : w.ownsRow B 5 1 (.slice (some ⟨g, 0, none⟩) m cap) m (xs.take m) := by
  obtain ⟨h1, h2⟩ := h
  refine ⟨by simp at h1 ⊢; omega, ?_⟩
  rcases h2 with ⟨h3, _⟩ | ⟨g', cap', cur, hv, hb, hg, hn, hc, hs, ht⟩
  · simp at h3
  · simp only [Value.slice.injEq, Option.some.injEq, Addr.mk.injEq, and_true, true_and] at hv
    obtain ⟨rfl, rfl⟩ := hv
    refine Or.inr ⟨g, cap, cur, rfl, hb, hg, by omega, hc, hs, ?_⟩
    rw [← ht, List.take_take]
    congr 1
    omega

/-- append to a row of the call's own: the old slice reads as it did. -/
theorem run_append_keep {w : World} (ty B g n cap : Nat) (xs : List Int) (hown : Own w B g n cap xs) (ad : Addr) (m c : Nat) (zs : List Int) (hrd : Reads w (some ad) m zs)
    (hb : n + m ≤ 140737488355328) (hbase : B ≤ w.heap.size) :
    ∃ v' w', (Builtin.append_ #[22, 22] ty #[.slice (some ⟨g, 0, none⟩) n cap, .slice (some ad) m c]).run Try.prog w = .ok v' w' ∧ w'.ownsRow B 5 1 v' (n + m) ((xs ++ zs).map (Value.int .u8)) ∧ w.grownBy w' (some g) ∧ Own w' B g n cap xs := by
  obtain ⟨i0, hi, hz0, hz1, hz2⟩ := info_parts info5
  have hlx := hown.len
  by_cases hroom : n + m ≤ cap
  · obtain ⟨w', h1, h2, h3⟩ := run_append_fits (P := Try.prog) w B 22 ty 5 i0 1 Try.underlying22 hi hz1 g n cap _ hown ad m c (zs.map (Value.int .u8)) (by simp [hrd.1]) hrd.news (ints_oneCell _ _) hroom
    refine ⟨_, w', h1, by rw [List.map_append]; exact h2, h3, ?_⟩
    have h4 := Own.front h2 (show n ≤ n + m by omega)
    rw [List.take_left' (by simp [hlx])] at h4
    exact h4
  · have holds : ∀ j u, (xs.map (Value.int .u8))[j]? = some u → w.cell? ((⟨g, 0, none⟩ : Addr).add j) = some u := World.ownsRow.cells hown (g := g) rfl
    have hr := run_append_grow (P := Try.prog) w 22 ty 5 i0 (.int .u8 0) Try.underlying22 hi hz0 ⟨g, 0, none⟩ n cap (xs.map (Value.int .u8)) (by simp [hlx, hz1]) holds ad m c (zs.map (Value.int .u8)) (by simp [hrd.1, hz1]) hrd.news (by omega) (by omega) (growslice_fits (by omega) (by rw [hz2]; omega))
    have hge := grownCap_ge w (n + m) cap 5
    have hcm : grownCap w (n + m) cap 5 ≤ maxLen := grownCap_le_maxLen w (n + m) cap 5 (by simp [maxLen]; omega)
    refine ⟨_, _, hr, ⟨by simp [hlx, hrd.1], .inr ⟨w.heap.size, _, _, rfl, hbase, heap_alloc_new w.drew _, hge, hcm, ?_, ?_⟩⟩, ⟨rfl, rfl, rfl, by simp, fun k hk _ => Below.heap_alloc w.drew _ k hk⟩, ?_⟩
    · simp only [Array.size_append, List.size_toArray, size_zeroCells, List.length_map, hlx, hrd.1, Value.cells]
      simp
      omega
    · simp only [Array.toList_append, List.append_assoc, Nat.mul_one]
      rw [← List.append_assoc, List.take_left' (by simp [hlx, hrd.1]), List.map_append]
    · exact hown.below (((Below.refl w.heap.size w).drew).alloc (Nat.le_refl _) _)

theorem wpList_append_keep {w : World} {ops : Array Oper} {rest : List Oper} {o : Oper} {a : Act} {Q : Exit → Act → World → Prop} (hgd : o.guard = none) (s x : Operand)
    (ho : o.op = .call { callee := .builtin .append, args := #[s, x], argTypes := #[22, 22] })
    (B g n cap : Nat) (xs : List Int) (hs : a.eval s = .slice (some ⟨g, 0, none⟩) n cap) (hown : Own w B g n cap xs)
    (ad : Addr) (m c : Nat) (zs : List Int) (hx : a.eval x = .slice (some ad) m c) (hrd : Reads w (some ad) m zs)
    (hb : n + m ≤ 140737488355328) (hbase : B ≤ w.heap.size)
    (h : ∀ v' w', w'.ownsRow B 5 1 v' (n + m) ((xs ++ zs).map (Value.int .u8)) → w.grownBy w' (some g) → Own w' B g n cap xs → wpList Try.prog ops Q rest (a.put o.dst v') w') : wpList Try.prog ops Q (o :: rest) a w := by
  obtain ⟨v', w', hr, h1, h2, h3⟩ := run_append_keep o.type B g n cap xs hown ad m c zs hrd hb hbase
  refine wpList_plain hgd fun K hK => ?_
  unfold Oper.wp
  simp [execOp, ho, resolve, invoke, builtin, hs, hx, hr, Result.andThen]
  exact hK _ _ (h v' w' h1 h2 h3)

theorem Own.apart {w w' : World} {B g n cap g' : Nat} {xs : List Int} (h : Own w B g n cap xs) (hg : w.grownBy w' (some g')) (hne : g ≠ g') : Own w' B g n cap xs :=
  World.ownsRow.kept h hg (Or.inr (by simp [Value.ownBlock]; exact hne))

theorem Own.all {w : World} {B g n cap : Nat} {xs : List Int} (h : Own w B g n cap xs) (hr : ∀ x ∈ xs, 0 ≤ x ∧ x ≤ 255) : Reads w (some ⟨g, 0, none⟩) n xs := by
  have h1 := h.reads hr n (Nat.le_refl _)
  have hl := h.len
  rwa [List.take_of_length_le (by omega)] at h1

theorem Reads.grown {w w' : World} {a : Option Addr} {len g' B : Nat} {zs : List Int} {u : World} (h : Reads u a len zs) (hb : Below u.heap.size u w) (hg : w.grownBy w' (some g')) (hB : u.heap.size ≤ g') : Reads w' a len zs :=
  h.below (hb.grown hg hb.size (fun k hk => by cases hk; exact hB))

theorem one_reads (w : World) (z : Int) (h0 : 0 ≤ z) (h1 : z ≤ 255) : Reads (w.alloc (.cells #[.int .u8 z] 5)) (some ⟨w.heap.size, 0, none⟩) 1 [z] := by
  refine ⟨rfl, by simp; omega, (fun h => by cases h), fun x hx i hi => ?_⟩
  cases hx
  have : i = 0 := by omega
  subst this
  simp [Addr.add]

theorem made_full (w : World) (n : Nat) (hn : n ≤ 9223372036854775807) : Own (w.alloc (.cells (madeCells #[.int .u8 0] n) 5)) w.heap.size w.heap.size n n (List.replicate n 0) := by
  have h := World.ownsRow_lit (base := w.heap.size) (e := 5) (size := 1) w (madeCells #[.int .u8 0] n) n (Nat.le_refl _) (by simp [maxLen]; omega) (by simp [madeCells])
  have e : (madeCells #[Value.int .u8 0] n).toList = (List.replicate n (0 : Int)).map (Value.int .u8) := by
    refine List.ext_getElem (by simp [madeCells]) fun i h1 h2 => ?_
    simp [madeCells, Nat.mod_one]
  rw [e] at h
  exact h

theorem Own.alloc' {w : World} {B g n cap : Nat} {xs : List Int} (h : Own w B g n cap xs) (o : Obj) : Own (w.alloc o) B g n cap xs := World.ownsRow.alloc h o

theorem own_dn {w : World} {B B' g n c : Nat} {xs : List Int} (h : Own w B g n c xs) (hb : B' ≤ B) : Own w B' g n c xs :=
  ⟨h.1, h.2.imp id fun ⟨g, c, cur, h1, h2, h3⟩ => ⟨g, c, cur, h1, Nat.le_trans hb h2, h3⟩⟩

end Go.Proofs.Ytoaahellfflooaa
