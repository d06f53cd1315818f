/-
  SEAT Ytoaahellfflooaa.
-/
import Derived.Laws.IdiomStrings
import Derived.Test.YtoaahellfflooaaVNA
namespace Go.Proofs.Ytoaahellfflooaa
open Go.RowKit
set_option linter.unusedVariables false

theorem size_al (w : World) (o : Obj) : (w.alloc o).heap.size = w.heap.size + 1 := by simp

theorem parts_of (u : World) (P : List (Option Addr × Nat × Nat × List Int)) (cs : Array Value) (hcs : cs.toList = P.map (fun p => Value.slice p.1 p.2.1 p.2.2.1)) (h : ∀ p ∈ P, Reads u p.1 p.2.1 p.2.2.2) (m : Nat) (hm : P.length = m) :
    Parts (u.alloc (.cells cs 22)) (some ⟨u.heap.size, 0, none⟩) m (fun i => (P.getD i (none, 0, 0, [])).1) (fun i => (P.getD i (none, 0, 0, [])).2.1) (fun i => (P.getD i (none, 0, 0, [])).2.2.1) (fun i => (P.getD i (none, 0, 0, [])).2.2.2) := by
  subst hm
  have hget : ∀ i, (hi : i < P.length) → P.getD i (none, 0, 0, []) = P[i] := fun i hi => by rw [List.getD_eq_getElem?_getD, List.getElem?_eq_getElem hi]; rfl
  refine ⟨fun i hi => ⟨u.heap.size, rfl, by simp, ?_⟩, fun i hi => ?_⟩
  · rw [hget i hi]
    have : cs[i]? = some (Value.slice P[i].1 P[i].2.1 P[i].2.2.1) := by rw [← Array.getElem?_toList, hcs, List.getElem?_map, List.getElem?_eq_getElem hi]; rfl
    have key : ∀ (v : World) (g : Nat), v.heap[g]? = some (.cells cs 22 (0, 0)) → v.cell? ⟨g, i, none⟩ = some (Value.slice P[i].1 P[i].2.1 P[i].2.2.1) := fun v g h => by simp [World.cell?, h, this]
    exact key _ _ (heap_alloc_new u (.cells cs 22))
  · rw [hget i hi]
    exact (h _ (List.getElem_mem hi)).below ((Below.refl _ _).alloc (Nat.le_refl _) _)

theorem join2 (u : World) (a0 : Option Addr) (n0 c0 : Nat) (x0 : List Int) (a1 : Option Addr) (n1 c1 : Nat) (x1 : List Int) (r0 : Reads u a0 n0 x0) (r1 : Reads u a1 n1 x1) (hs : n0 + n1 ≤ 100000000) :
    Calls Try.prog 66 #[.slice (some ⟨u.heap.size, 0, none⟩) 2 2] (u.alloc (.cells #[.slice a0 n0 c0, .slice a1 n1 c1] 22)) fun e w' => ∃ v, e = .returned v ∧ w'.ownsRow (u.heap.size + 1) 5 1 v (n0 + n1) ((x0 ++ x1).map (Value.int .u8)) ∧ Below (u.heap.size + 1) (u.alloc (.cells #[.slice a0 n0 c0, .slice a1 n1 c1] 22)) w' := by
  have hp := parts_of u [(a0, n0, c0, x0), (a1, n1, c1, x1)] #[.slice a0 n0 c0, .slice a1 n1 c1] rfl (by
    intro p hp
    simp only [List.mem_cons, List.not_mem_nil, or_false] at hp
    rcases hp with rfl | rfl <;> first | exact r0 | exact r1) 2 rfl
  have e1 : sumL (fun i => (([(a0, n0, c0, x0), (a1, n1, c1, x1)] : List (Option Addr × Nat × Nat × List Int)).getD i (none, 0, 0, [])).2.1) 2 = n0 + n1 := by
    show 0 + n0 + n1 = n0 + n1
    simp only [Nat.zero_add]
  have e2 : catL (fun i => (([(a0, n0, c0, x0), (a1, n1, c1, x1)] : List (Option Addr × Nat × Nat × List Int)).getD i (none, 0, 0, [])).2.2.2) 2 = x0 ++ x1 := rfl
  have h := join_parts _ 2 2 _ _ _ _ _ (by omega) (by rw [e1]; exact hs) hp
  rw [e1, e2] at h
  simp only [size_al] at h
  exact h

theorem join8 (u : World) (a0 : Option Addr) (n0 c0 : Nat) (x0 : List Int) (a1 : Option Addr) (n1 c1 : Nat) (x1 : List Int) (a2 : Option Addr) (n2 c2 : Nat) (x2 : List Int) (a3 : Option Addr) (n3 c3 : Nat) (x3 : List Int) (a4 : Option Addr) (n4 c4 : Nat) (x4 : List Int) (a5 : Option Addr) (n5 c5 : Nat) (x5 : List Int) (a6 : Option Addr) (n6 c6 : Nat) (x6 : List Int) (a7 : Option Addr) (n7 c7 : Nat) (x7 : List Int) (r0 : Reads u a0 n0 x0) (r1 : Reads u a1 n1 x1) (r2 : Reads u a2 n2 x2) (r3 : Reads u a3 n3 x3) (r4 : Reads u a4 n4 x4) (r5 : Reads u a5 n5 x5) (r6 : Reads u a6 n6 x6) (r7 : Reads u a7 n7 x7) (hs : n0 + n1 + n2 + n3 + n4 + n5 + n6 + n7 ≤ 100000000) :
    Calls Try.prog 66 #[.slice (some ⟨u.heap.size, 0, none⟩) 8 8] (u.alloc (.cells #[.slice a0 n0 c0, .slice a1 n1 c1, .slice a2 n2 c2, .slice a3 n3 c3, .slice a4 n4 c4, .slice a5 n5 c5, .slice a6 n6 c6, .slice a7 n7 c7] 22)) fun e w' => ∃ v, e = .returned v ∧ w'.ownsRow (u.heap.size + 1) 5 1 v (n0 + n1 + n2 + n3 + n4 + n5 + n6 + n7) ((x0 ++ x1 ++ x2 ++ x3 ++ x4 ++ x5 ++ x6 ++ x7).map (Value.int .u8)) ∧ Below (u.heap.size + 1) (u.alloc (.cells #[.slice a0 n0 c0, .slice a1 n1 c1, .slice a2 n2 c2, .slice a3 n3 c3, .slice a4 n4 c4, .slice a5 n5 c5, .slice a6 n6 c6, .slice a7 n7 c7] 22)) w' := by
  have hp := parts_of u [(a0, n0, c0, x0), (a1, n1, c1, x1), (a2, n2, c2, x2), (a3, n3, c3, x3), (a4, n4, c4, x4), (a5, n5, c5, x5), (a6, n6, c6, x6), (a7, n7, c7, x7)] #[.slice a0 n0 c0, .slice a1 n1 c1, .slice a2 n2 c2, .slice a3 n3 c3, .slice a4 n4 c4, .slice a5 n5 c5, .slice a6 n6 c6, .slice a7 n7 c7] rfl (by
    intro p hp
    simp only [List.mem_cons, List.not_mem_nil, or_false] at hp
    rcases hp with rfl | rfl | rfl | rfl | rfl | rfl | rfl | rfl <;> first | exact r0 | exact r1 | exact r2 | exact r3 | exact r4 | exact r5 | exact r6 | exact r7) 8 rfl
  have e1 : sumL (fun i => (([(a0, n0, c0, x0), (a1, n1, c1, x1), (a2, n2, c2, x2), (a3, n3, c3, x3), (a4, n4, c4, x4), (a5, n5, c5, x5), (a6, n6, c6, x6), (a7, n7, c7, x7)] : List (Option Addr × Nat × Nat × List Int)).getD i (none, 0, 0, [])).2.1) 8 = n0 + n1 + n2 + n3 + n4 + n5 + n6 + n7 := by
    show 0 + n0 + n1 + n2 + n3 + n4 + n5 + n6 + n7 = n0 + n1 + n2 + n3 + n4 + n5 + n6 + n7
    simp only [Nat.zero_add]
  have e2 : catL (fun i => (([(a0, n0, c0, x0), (a1, n1, c1, x1), (a2, n2, c2, x2), (a3, n3, c3, x3), (a4, n4, c4, x4), (a5, n5, c5, x5), (a6, n6, c6, x6), (a7, n7, c7, x7)] : List (Option Addr × Nat × Nat × List Int)).getD i (none, 0, 0, [])).2.2.2) 8 = x0 ++ x1 ++ x2 ++ x3 ++ x4 ++ x5 ++ x6 ++ x7 := rfl
  have h := join_parts _ 8 8 _ _ _ _ _ (by omega) (by rw [e1]; exact hs) hp
  rw [e1, e2] at h
  simp only [size_al] at h
  exact h

/-- A string's bytes. -/
def strL (s : ByteArray) : List Int := s.data.toList.map (fun b => (b.toNat : Int))
theorem strL_length (s : ByteArray) : (strL s).length = s.size := by rw [strL, List.length_map, Array.length_toList]; rfl
theorem strL_range (s : ByteArray) : ∀ x ∈ strL s, 0 ≤ x ∧ x ≤ 255 := by
  intro x hx
  obtain ⟨b, _, rfl⟩ := List.mem_map.1 hx
  have := b.toNat_lt
  omega

theorem str_bytes (u : World) (s : ByteArray) : ∃ g c w2, (convert 9 22 (.string s)).run Try.prog u = .ok (.slice (some ⟨g, 0, none⟩) s.size c) w2 ∧ Reads w2 (some ⟨g, 0, none⟩) s.size (strL s) ∧ Below u.heap.size u w2 := by
  have h := run_bytes_of_string (P := Try.prog) u 9 22 5 s Try.underlying9 Try.underlying22 Try.underlying5
  refine ⟨_, _, _, h, ⟨strL_length s, strL_range s, (fun h => by cases h), fun x hx i hi => ?_⟩, ?_⟩
  · cases hx
    rw [plain_add, Nat.zero_add]
    have hc : (bytesRow s (grownCap u s.size 0 5))[i]? = some (.int .u8 ((strL s).getD i 0)) := by
      unfold bytesRow
      have hi2 : i < s.data.size := hi
      have hi' : i < s.data.toList.length := by rw [Array.length_toList]; exact hi2
      rw [Array.getElem?_append_left (by rw [Array.size_map]; exact hi2), Array.getElem?_map, Array.getElem?_eq_getElem hi2, strL, List.getD_eq_getElem?_getD, List.getElem?_map, List.getElem?_eq_getElem hi']
      rfl
    have key : ∀ (v : World) (g : Nat) (fz : Nat × Nat), v.heap[g]? = some (.cells (bytesRow s (grownCap u s.size 0 5)) 5 fz) → v.cell? ⟨g, i, none⟩ = some (.int .u8 ((strL s).getD i 0)) := fun v g fz h => by simp [World.cell?, h, hc]
    exact key _ _ _ (heap_alloc_new u.drew _)
  · exact (Below.refl u.heap.size u).drew.alloc (Nat.le_refl _) _

set_option maxHeartbeats 400000 in
theorem counted_ok (s : ByteArray) (w : World) (hs : s.size ≤ 200) :
    Calls Try.prog 68 #[.string s] w fun e w' => ∃ v, e = .returned v ∧ w'.ownsRow w.heap.size 5 1 v (1 + s.size) ((dg s.size 1 ++ strL s).map (Value.int .u8)) ∧ Below w.heap.size w w' := by
  have g0 : Hid True := trivial
  go_enter Try.func68, Try.ntmps68
  go_wp2_with (first
    | (go_at_call 67; have h9 := g0; clear h9; refine (asBytes_ok 1 (s.size : Int) _ ?_ ?_ ?_ ?_).mono ?_; omega; omega; (simp; omega); omega; rintro e u1 ⟨rfl, o1, b1⟩; obtain ⟨g, c, w2, hrun, r2, b2⟩ := str_bytes u1 s; have r1 := (o1.all (dg_range _ _)).below b2; have cj := join2 w2 (some ⟨w.heap.size, 0, none⟩) 1 1 (dg s.size 1) (some ⟨g, 0, none⟩) s.size c (strL s) r1 r2 (by omega); have HJ : Hid _ := fun (_ : Unit) => cj; have bw2 := b1.trans (b2.mono b1.size); clear g0 o1 r1 r2 cj)
    | (go_at_call 66; refine Calls.mono (HJ.out ()) ?_; rintro e u3 ⟨v, rfl, o3, b3⟩))
  go_ret
  exact ⟨_, rfl, own_base o3 (by have := bw2.size; omega), bw2.trans ((((Below.refl w2.heap.size w2).alloc (Nat.le_refl _) _).trans (b3.mono (by omega))).mono bw2.size)⟩
end Go.Proofs.Ytoaahellfflooaa
