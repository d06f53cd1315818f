/-
  SEAT YtmbdacdgbmpedaaDoor: four lists; same; Parent.
-/
import Derived.Test.YtmbdacdgbmpedaaDoorEb
namespace Go.Proofs.YtmbdacdgbmpedaaDoor
open Go.RowKit
set_option linter.unusedVariables false

def FarV (u v : Value) : Prop := ∀ g, u.ownBlock = some g → v.ownBlock ≠ some g
theorem FarV.symm {u v : Value} (h : FarV u v) : FarV v u := fun g h1 h2 => h g h2 h1
theorem far_of {w1 w2 : World} {B1 B2 : Nat} {u v : Value} {xs ys : List ByteArray} (h1 : Ow w1 B1 u xs) (h2 : Ow w2 B2 v ys) (hb : w1.heap.size ≤ B2) : FarV u v := fun g hu hv => by
  have a := (h1.at g hu).2; have b := (h2.at g hv).1; omega

theorem apart4 (W : World) (B : Nat) (v0 v1 v2 v3 : Value) (x0 x1 x2 x3 : List ByteArray) (o0 : Ow W B v0 x0) (o1 : Ow W B v1 x1) (o2 : Ow W B v2 x2) (o3 : Ow W B v3 x3)
    (d01 : FarV v0 v1) (d02 : FarV v0 v2) (d03 : FarV v0 v3) (d12 : FarV v1 v2) (d13 : FarV v1 v3) (d23 : FarV v2 v3)
    (l0 : x0.length ≤ 8796093010000) (l1 : x1.length ≤ 8796093010000) (l2 : x2.length ≤ 8796093010000) (l3 : x3.length ≤ 8796093010000) :
    Apart ((W.alloc (.cells #[v0, v1, v2, v3] 22)).alloc (.cells #[.string ⟨#[109, 48]⟩, .string ⟨#[109, 49]⟩, .string ⟨#[109, 50]⟩, .string ⟨#[109, 51]⟩, .string ⟨#[109, 52]⟩, .string ⟨#[109, 53]⟩, .string ⟨#[109, 54]⟩, .string ⟨#[109, 55]⟩] 9)) B W.heap.size (W.alloc (.cells #[v0, v1, v2, v3] 22)).heap.size 4
      (fun i => [v0, v1, v2, v3].getD i (.slice none 0 0)) (fun i => ([x0, x1, x2, x3].getD i []).length) (fun i => [x0, x1, x2, x3].getD i []) := by
  have hs : (W.alloc (.cells #[v0, v1, v2, v3] 22)).heap.size = W.heap.size + 1 := by simp
  refine ⟨fun i hi => ?_, fun i hi => ?_, fun i hi => ?_, fun i j hi hj hne => ?_, fun i hi => ?_, by simp; omega, fun i hi => ?_, fun i hi => ?_, by simp⟩
  · have h1 : ((W.alloc (.cells #[v0, v1, v2, v3] 22)).alloc (.cells #[.string ⟨#[109, 48]⟩, .string ⟨#[109, 49]⟩, .string ⟨#[109, 50]⟩, .string ⟨#[109, 51]⟩, .string ⟨#[109, 52]⟩, .string ⟨#[109, 53]⟩, .string ⟨#[109, 54]⟩, .string ⟨#[109, 55]⟩] 9)).heap[W.heap.size]? = some (.cells #[v0, v1, v2, v3] 22 (0, 0)) := by
      rw [Below.heap_alloc _ _ _ (by rw [hs]; omega)]
      exact heap_alloc_new W _
    rw [cell_of_row _ W.heap.size i _ 22 (0, 0) h1]
    rcases i with _ | _ | _ | _ | i
    · rfl
    · rfl
    · rfl
    · rfl
    · omega
  · rcases i with _ | _ | _ | _ | i
    · exact l0
    · exact l1
    · exact l2
    · exact l3
    · omega
  · rcases i with _ | _ | _ | _ | i
    · exact World.ownsRow.alloc (World.ownsRow.alloc o0 _) _
    · exact World.ownsRow.alloc (World.ownsRow.alloc o1 _) _
    · exact World.ownsRow.alloc (World.ownsRow.alloc o2 _) _
    · exact World.ownsRow.alloc (World.ownsRow.alloc o3 _) _
    · omega
  · rcases i with _ | _ | _ | _ | i <;> rcases j with _ | _ | _ | _ | j
    all_goals first | omega | exact absurd rfl hne | exact d01 | exact d02 | exact d03 | exact d12 | exact d13 | exact d23 | exact d01.symm | exact d02.symm | exact d03.symm | exact d12.symm | exact d13.symm | exact d23.symm
  · intro e
    rcases i with _ | _ | _ | _ | i
    · have := (o0.at _ e).2; omega
    · have := (o1.at _ e).2; omega
    · have := (o2.at _ e).2; omega
    · have := (o3.at _ e).2; omega
    · omega
  · rw [cell_of_row _ _ i _ 9 (0, 0) (heap_alloc_new _ _)]
    rcases i with _ | _ | _ | _ | _ | _ | _ | _ | i
    all_goals first | rfl | omega
  · intro e
    rw [hs] at e
    rcases i with _ | _ | _ | _ | i
    · have := (o0.at _ e).2; omega
    · have := (o1.at _ e).2; omega
    · have := (o2.at _ e).2; omega
    · have := (o3.at _ e).2; omega
    · omega

set_option maxHeartbeats 1000000 in
set_option maxRecDepth 100000 in
theorem same_eq (v v' : Value) (xs : List ByteArray) (w : World) (h : Vw w v xs) (h' : Vw w v' xs) : Calls Tryd.prog 10 #[v, v'] w fun e w' => e = .returned (.bool true) ∧ Below w.heap.size w w' := by
  obtain ⟨a, c, rfl, h1, h2, rd, hx⟩ := h
  obtain ⟨a', c', rfl, h1', h2', rd', hx'⟩ := h'
  have hm : xs.length ≤ 9223372036854775807 := by unfold maxLen at h2; omega
  have R1 : Hid (RdS w a xs.length xs) := rd
  have R2 : Hid (RdS w a' xs.length xs) := rd'
  clear rd rd' hx hx'
  go_enter Tryd.func10, Tryd.ntmps10
  go_wp2
  go_loopw [5] (fun i wr => ∃ k : Nat, k ≤ xs.length ∧ i = .int .i64 k ∧ Below w.heap.size w wr) (fun i _ => xs.length - (intOf i).toNat)
  case atStart => exact ⟨0, Nat.zero_le _, rfl, Below.refl _ _⟩
  case round =>
    obtain ⟨k, hk, rfl, bel⟩ := hrel
    have HB : Hid (Below w.heap.size w wr) := bel
    by_cases hlt : k < xs.length
    · have e1 : decide ((k : Int) < (xs.length : Int)) = true := decide_eq_true (by omega)
      cases a with
      | none => have := R1.out.nil rfl; omega
      | some x =>
        cases a' with
        | none => have := R2.out.nil rfl; omega
        | some x' =>
          have hc := (RdS.below R1.out bel).at hlt
          have hc' := (RdS.below R2.out bel).at hlt
          obtain ⟨y, hy⟩ : ∃ y, xs[k] = y := ⟨_, rfl⟩
          rw [hy] at hc hc'
          clear hy bel
          go_wp2
          go_quiet (fail)
          go_wp2
          go_roundw
          case rel => exact ⟨k + 1, by omega, by go_num, below_drewN HB.out nq⟩
          case measure => simp [intOf]; omega
    · obtain rfl : k = xs.length := by omega
      go_wp2
      go_ret
      exact ⟨rfl, HB.out⟩

/-- What Parent tells. -/
def paE (s : ByteArray) : Int := if spE s = 0 then (match (spN s).getLast? with | none => 160 | some x => if upB x then 160 else 0) else spE s
def paN (s : ByteArray) : List ByteArray := if paE s = 0 then (spN s).dropLast else []
def paL (s : ByteArray) : ByteArray := if paE s = 0 then (spN s).getLastD ByteArray.empty else ⟨#[]⟩
theorem pa_ways (s : ByteArray) : (spE s ≠ 0 ∧ paE s = spE s ∧ paN s = [] ∧ paL s = ⟨#[]⟩) ∨ (spE s = 0 ∧ spN s = [] ∧ paE s = 160 ∧ paN s = [] ∧ paL s = ⟨#[]⟩) ∨
    (spE s = 0 ∧ ∃ M x, spN s = M ++ [x] ∧ ((upB x = true ∧ paE s = 160 ∧ paN s = [] ∧ paL s = ⟨#[]⟩) ∨ (upB x = false ∧ paE s = 0 ∧ paN s = M ∧ paL s = x))) := by
  by_cases h : spE s = 0
  · right
    rcases List.eq_nil_or_concat (spN s) with h0 | ⟨M, x, h0⟩
    · left
      have e : paE s = 160 := by simp [paE, h, h0]
      exact ⟨h, h0, e, by simp [paN, e], by simp [paL, e]⟩
    · right
      rw [List.concat_eq_append] at h0
      refine ⟨h, M, x, h0, ?_⟩
      cases hu : upB x with
      | true =>
        have e : paE s = 160 := by simp [paE, h, h0, hu]
        exact Or.inl ⟨rfl, e, by simp [paN, e], by simp [paL, e]⟩
      | false =>
        have e : paE s = 0 := by simp [paE, h, h0, hu]
        exact Or.inr ⟨rfl, e, by simp [paN, e, h0], by simp [paL, e, h0]⟩
  · left
    have e : paE s = spE s := by simp [paE, h]
    have e' : paE s ≠ 0 := by rw [e]; exact h
    exact ⟨h, e, by simp [paN, e'], by simp [paL, e']⟩
theorem ow_front {w : World} {B : Nat} {a : Option Addr} {c : Nat} {M : List ByteArray} {x : ByteArray} (h : Ow w B (.slice a (M ++ [x]).length c) (M ++ [x])) : Ow w B (.slice a M.length c) M := by
  rcases h.2 with ⟨_, h0⟩ | ⟨g, cap, cur, hv, _⟩
  · simp at h0
  · cases hv
    have := Own.front (m := M.length) h (by simp)
    rw [List.map_append, List.take_left' (by simp)] at this
    exact this
theorem ow_last {w : World} {B : Nat} {a : Option Addr} {c : Nat} {M : List ByteArray} {x : ByteArray} (h : Ow w B (.slice a (M ++ [x]).length c) (M ++ [x])) : ∃ g, a = some ⟨g, 0, none⟩ ∧ w.cell? ⟨g, M.length, none⟩ = some (.string x) ∧ M.length + 1 ≤ c ∧ c ≤ maxLen := by
  rcases h.2 with ⟨_, h0⟩ | ⟨g, cap, cur, hv, hB, hg, hn, hm, _⟩
  · simp at h0
  · cases hv
    refine ⟨g, rfl, ?_, by simpa using hn, hm⟩
    have := Own.cell (xs := M ++ [x]) h M.length (by simp)
    rw [this]; simp
end Go.Proofs.YtmbdacdgbmpedaaDoor
