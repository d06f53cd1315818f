/-
  SEAT Ytadlkikjfonkgaa: ChipImages: its pieces.
-/
import Derived.Test.YtadlkikjfonkgaaHd
import Derived.Test.YtadlkikjfonkgaaLt
namespace Go.Proofs.Ytadlkikjfonkgaa
open Go.RowKit Go.Conc
set_option linter.unusedVariables false

theorem take_chunks (L : Nat) (zs : List Int) : ∀ n, (List.range n).flatMap (fun t => (zs.drop (t * L)).take L) = zs.take (n * L)
  | 0 => by simp
  | n + 1 => by
    rw [List.range_succ, List.flatMap_append, take_chunks L zs n, Nat.succ_mul, List.take_add]
    simp
theorem range_two {α : Type} (f : Nat → List α) (P : Nat) : ∀ B, (List.range B).flatMap (fun i => (List.range P).flatMap (fun k => f (i * P + k))) = (List.range (B * P)).flatMap f
  | 0 => by simp
  | B + 1 => by
    rw [List.range_succ, List.flatMap_append, range_two f P B, Nat.succ_mul, List.range_add, List.flatMap_append]
    simp [List.flatMap_map]
theorem fm_congr {α β : Type} {f g : α → List β} : ∀ (l : List α), (∀ x ∈ l, f x = g x) → l.flatMap f = l.flatMap g
  | [], _ => rfl
  | x :: r, h => by rw [List.flatMap_cons, List.flatMap_cons, h x (by simp), fm_congr r (fun y hy => h y (by simp [hy]))]
theorem load_read {B P S : Nat} {zs : List Int} {ms : List Bool} {q : List Ft} {i k : Nat} (hi : i < B) (hk : k < P) : readL (loadC B P S zs ms q) i k = (zs.drop ((i * P + k) * pgB S)).take (pgB S) := by
  have h1 : (loadC B P S zs ms q).bl[i]? = some (ldB (pgB S) P zs ms B (B * P) i) := ldL_get hi
  have h2 : (ldB (pgB S) P zs ms B (B * P) i).ps[k]? = some (ldP (pgB S) P zs (B * P) i k) := by
    simp only [ldB, List.getElem?_map, List.getElem?_range hk, Option.map_some]
  have h3 : i * P + k < B * P := by
    have : i * P + P ≤ B * P := by rw [← Nat.succ_mul]; exact Nat.mul_le_mul_right _ hi
    omega
  rw [readL_of h1 h2]
  simp only [ldP, h3, if_true]
  rfl
theorem load_img {B P S : Nat} {zs : List Int} {ms : List Bool} {q : List Ft} (hl : zs.length = B * P * pgB S) : imgL (loadC B P S zs ms q) = zs := by
  have e : imgL (loadC B P S zs ms q) = (List.range B).flatMap (fun i => (List.range P).flatMap (fun k => (fun t => (zs.drop (t * pgB S)).take (pgB S)) (i * P + k))) := by
    unfold imgL imgB
    exact fm_congr _ (fun i hi => fm_congr _ (fun k hk => load_read (List.mem_range.1 hi) (List.mem_range.1 hk)))
  have e2 := range_two (fun t => (zs.drop (t * pgB S)).take (pgB S)) P B
  rw [take_chunks, List.take_of_length_le (by omega)] at e2
  exact e.trans e2
theorem load_marks' {B P S : Nat} {zs : List Int} {ms : List Bool} {q : List Ft} (hl : ms.length = B) : (loadC B P S zs ms q).bl.map (fun b => b.m) = ms := by
  refine List.ext_getElem? (fun i => ?_)
  rw [List.getElem?_map]
  by_cases h : i < B
  · have h1 : (loadC B P S zs ms q).bl[i]? = some (ldB (pgB S) P zs ms B (B * P) i) := ldL_get h
    rw [h1, List.getElem?_eq_getElem (by omega)]
    simp only [Option.map_some, ldB, h, if_true]
    rw [List.getD_eq_getElem?_getD, List.getElem?_eq_getElem (by omega)]
    rfl
  · rw [List.getElem?_eq_none (by simp [loadC, ldL]; omega), List.getElem?_eq_none (by omega)]
    rfl
theorem readsB_row {w : World} {g B : Nat} {ms : List Bool} (h : w.heap[g]? = some (.cells (ms.map Value.bool).toArray 4 (0, 0))) (hl : ms.length = B) : ReadsB w (some ⟨g, 0, none⟩) B ms :=
  ⟨hl, (fun h => by cases h), fun x hx i hi => by
    cases hx
    rw [plain_add]
    simp only [World.cell?, h, List.getElem?_toArray, List.getElem?_map, Nat.zero_add]
    rw [List.getElem?_eq_getElem (by omega), List.getD_eq_getElem?_getD, List.getElem?_eq_getElem (by omega)]
    rfl⟩
theorem readsB_own {w : World} {g B n c : Nat} {ms : List Bool} (h : w.ownsRow B 4 1 (.slice (some ⟨g, 0, none⟩) n c) n (ms.map Value.bool)) : ReadsB w (some ⟨g, 0, none⟩) n ms := by
  have hl : ms.length = n := by have := h.1; simpa using this
  refine ⟨hl, (fun h => by cases h), fun x hx i hi => ?_⟩
  cases hx
  rw [plain_add]
  have h1 := World.ownsRow.cellAt h i (by simp; omega)
  rw [List.getElem?_map, List.getElem?_eq_getElem (by omega)] at h1
  rw [List.getD_eq_getElem?_getD, List.getElem?_eq_getElem (by omega), Nat.zero_add]
  exact h1
theorem fitL_range {b : List Int} (h : ∀ z ∈ b, 0 ≤ z ∧ z ≤ 255) (n : Nat) : ∀ z ∈ fitL b n, 0 ≤ z ∧ z ≤ 255 := by
  intro z hz
  unfold fitL at hz
  obtain ⟨i, _, rfl⟩ := List.mem_map.1 hz
  rw [List.getD_eq_getElem?_getD]
  cases h1 : b[i % b.length]? with
  | none => simp
  | some y => exact h y (List.mem_of_getElem? h1)
theorem own_reads {w : World} {B g n c : Nat} {X : List Int} (h : Own w B g n c X) (hr : ∀ z ∈ X, 0 ≤ z ∧ z ≤ 255) : Reads w (some ⟨g, 0, none⟩) n X := by
  have h1 := h.reads hr n (Nat.le_refl _)
  rw [List.take_of_length_le (by rw [h.len]; exact Nat.le_refl _)] at h1
  exact h1
/-- What stands of the image and the chip that was loaded of it. -/
structure JV (w u : World) (p B P S : Nat) (C : Ch) (q9 gc n cc gm cm : Nat) (zs : List Int) (ms : List Bool) : Prop where
  bel : Below w.heap.size w u
  ch : ∃ F, ChipAt u p F C
  bg : u.heap[w.heap.size]? = some (.cells #[.int .i64 (B : Int), .int .i64 (P : Int), .int .i64 (S : Int)] 23 (0, 0))
  bm : u.heap[q9]? = some (.cells #[.int .i64 (B : Int), .int .i64 (P : Int), .int .i64 (S : Int), .slice (some ⟨gc, 0, none⟩) n cc, .slice (some ⟨gm, 0, none⟩) B cm] 27 (0, 0))
  rc : Reads u (some ⟨gc, 0, none⟩) n zs
  rm : ReadsB u (some ⟨gm, 0, none⟩) B ms
theorem JV.keep {w u v : World} {p B P S : Nat} {C : Ch} {q9 gc n cc gm cm : Nat} {zs : List Int} {ms : List Bool} (h : JV w u p B P S C q9 gc n cc gm cm zs ms) (hb : Below u.heap.size u v) : JV w v p B P S C q9 gc n cc gm cm zs ms :=
  ⟨below_trans h.bel hb, h.ch.imp (fun F hF => hF.below hb), (hb.block _ (lt_of_block h.bg)).trans h.bg, (hb.block _ (lt_of_block h.bm)).trans h.bm, h.rc.below hb, h.rm.below hb⟩
def IP (w0 u : World) (g : Nat) : Prop := u.heap[g]? = some (.cells #[.slice none 0 0, .slice none 0 0] 36 (0, 0)) ∧ w0.heap.size ≤ g
theorem IP.keep {w0 u v : World} {g : Nat} (h : IP w0 u g) (hb : Below u.heap.size u v) : IP w0 v g := ⟨(hb.block _ (lt_of_block h.1)).trans h.1, h.2⟩
theorem JV.store {w w0 u0 u : World} {p B P S : Nat} {C : Ch} {q9 gc n cc gm cm : Nat} {zs : List Int} {ms : List Bool} (h0 : JV w w0 p B P S C q9 gc n cc gm cm zs ms) (hb : Below w0.heap.size w0 u) {g : Nat} (hg : IP w0 u g) (v0 v1 : Value) : JV w ((u.setCell ⟨g, 0, none⟩ v0).setCell ⟨g, 1, none⟩ v1) p B P S C q9 gc n cc gm cm zs ms ∧ ((u.setCell ⟨g, 0, none⟩ v0).setCell ⟨g, 1, none⟩ v1).heap[g]? = some (.cells #[v0, v1] 36 (0, 0)) := by
  have ho : Only (· = g) u ((u.setCell ⟨g, 0, none⟩ v0).setCell ⟨g, 1, none⟩ v1) := (Only.setCell (· = g) u g 0 v0 rfl).trans' (Only.setCell _ _ g 1 v1 rfl)
  exact ⟨h0.keep (hb.trans (ho.below (fun j hj => by rw [hj]; exact hg.2) hb.size)), heap_setCell_same _ g 1 #[v0, .slice none 0 0] 36 v1 (heap_setCell_same u g 0 _ 36 v0 hg.1)⟩
/-- What stands at the end: both chips, both images. -/
structure KV (w u : World) (p d B P S : Nat) (C : Ch) (q9 gc n cc gm cm q12 : Nat) (a1 : Option Addr) (m1 c1 : Nat) (a2 : Option Addr) (m2 c2 q14 gc2 cc2 gm2 cm2 : Nat) (zs : List Int) (ms : List Bool) : Prop where
  jv : JV w u p B P S C q9 gc n cc gm cm zs ms
  jw : JV w u d B P S C q14 gc2 n cc2 gm2 cm2 zs ms
  bp : u.heap[q12]? = some (.cells #[.slice a1 m1 c1, .slice a2 m2 c2] 36 (0, 0))
section
variable {w u v : World} {p d B P S : Nat} {C : Ch} {q9 gc n cc gm cm q12 : Nat} {a1 : Option Addr} {m1 c1 : Nat} {a2 : Option Addr} {m2 c2 q14 gc2 cc2 gm2 cm2 : Nat} {zs : List Int} {ms : List Bool}
theorem KV.keep (h : KV w u p d B P S C q9 gc n cc gm cm q12 a1 m1 c1 a2 m2 c2 q14 gc2 cc2 gm2 cm2 zs ms) (hb : Below u.heap.size u v) : KV w v p d B P S C q9 gc n cc gm cm q12 a1 m1 c1 a2 m2 c2 q14 gc2 cc2 gm2 cm2 zs ms := ⟨h.jv.keep hb, h.jw.keep hb, (hb.block _ (lt_of_block h.bp)).trans h.bp⟩
theorem KV.s (h : KV w u p d B P S C q9 gc n cc gm cm q12 a1 m1 c1 a2 m2 c2 q14 gc2 cc2 gm2 cm2 zs ms) : u.cell? ⟨w.heap.size, 0, none⟩ = some (.int .i64 (B : Int)) ∧ u.cell? ⟨w.heap.size, 1, none⟩ = some (.int .i64 (P : Int)) ∧ u.cell? ⟨w.heap.size, 2, none⟩ = some (.int .i64 (S : Int)) ∧ u.cell? ⟨q12, 0, none⟩ = some (.slice a1 m1 c1) ∧ u.cell? ⟨q12, 1, none⟩ = some (.slice a2 m2 c2) ∧ u.cell? ⟨q14, 0, none⟩ = some (.int .i64 (B : Int)) ∧ u.cell? ⟨q14, 1, none⟩ = some (.int .i64 (P : Int)) ∧ u.cell? ⟨q14, 2, none⟩ = some (.int .i64 (S : Int)) ∧ u.cell? ⟨q14, 3, none⟩ = some (.slice (some ⟨gc2, 0, none⟩) n cc2) ∧ u.cell? ⟨q14, 4, none⟩ = some (.slice (some ⟨gm2, 0, none⟩) B cm2) ∧ u.cell? ⟨q9, 0, none⟩ = some (.int .i64 (B : Int)) ∧ u.cell? ⟨q9, 1, none⟩ = some (.int .i64 (P : Int)) ∧ u.cell? ⟨q9, 2, none⟩ = some (.int .i64 (S : Int)) ∧ u.cell? ⟨q9, 3, none⟩ = some (.slice (some ⟨gc, 0, none⟩) n cc) ∧ u.cell? ⟨q9, 4, none⟩ = some (.slice (some ⟨gm, 0, none⟩) B cm) := by
  obtain ⟨x0, x1, x2⟩ := cells3 h.jv.bg
  obtain ⟨y0, y1⟩ := cells2 h.bp
  obtain ⟨z0, z1, z2, z3, z4⟩ := cells5 h.jw.bm
  obtain ⟨t0, t1, t2, t3, t4⟩ := cells5 h.jv.bm
  exact ⟨x0, x1, x2, y0, y1, z0, z1, z2, z3, z4, t0, t1, t2, t3, t4⟩
end
theorem hasP_of {B P : Nat} {r1 r2 : Int} (h1 : 0 ≤ r1) (h2 : r1 < (B : Int)) (h3 : 0 ≤ r2) (h4 : r2 < (P : Int)) : hasP B P r1 r2 = true := by
  unfold hasP
  rw [show hasB B r1 = true from decide_eq_true ⟨h1, h2⟩, show hasB P r2 = true from decide_eq_true ⟨h3, h4⟩]
  rfl
theorem read_in {C : Ch} {B P : Nat} {r1 r2 : Int} (hd : C.dark = false) (hB : C.B = B) (hP : C.P = P) (h1 : 0 ≤ r1) (h2 : r1 < (B : Int)) (h3 : 0 ≤ r2) (h4 : r2 < (P : Int)) : ReadE C r1 r2 = 0 := by
  unfold ReadE
  rw [hd, hB, hP]
  have : hasP B P r1 r2 = true := by
    exact hasP_of h1 h2 h3 h4
  rw [this]
  rfl
theorem readsB_img {w : World} {g B : Nat} {C : Ch} {ms : List Bool} (h : w.heap[g]? = some (.cells (C.bl.map (fun b => Value.bool b.m)).toArray 4 (0, 0))) (hm : C.bl.map (fun b => b.m) = ms) (hl : ms.length = B) : ReadsB w (some ⟨g, 0, none⟩) B ms := by
  refine readsB_row ?_ hl
  rw [h, ← hm, List.map_map]
  rfl
theorem reads_nil (w : World) : Reads w none 0 [] := ⟨rfl, (fun _ h => by cases h), fun _ => rfl, fun _ h => by cases h⟩
theorem readsB_nil (w : World) : ReadsB w none 0 [] := ⟨rfl, fun _ => rfl, fun _ h => by cases h⟩
theorem own_cap {w : World} {B g n c : Nat} {X : List Int} (h : Own w B g n c X) : n ≤ c := by
  rcases h.2 with ⟨hv, _⟩ | ⟨g', cap, cur, hv, _, _, hc, _⟩
  · cases hv
  · cases hv; exact hc
theorem faultsL_nil : faultsB [] = true := by decide
set_option maxHeartbeats 8000000 in
set_option maxRecDepth 100000 in
theorem images_no (w : World) (B P S : Int) (hf : (Fits B P S && decide (B * P ≤ 128)) = false) (a : Option Addr) (len cap : Nat) (ma : Option Addr) (mn mc : Nat) (av : Int) :
    Calls Try.prog 3 #[.agg #[.int .i64 B, .int .i64 P, .int .i64 S], .slice a len cap, .slice ma mn mc, .int .i64 av] w fun e w' => e = .returned (.bool true) ∧ Below w.heap.size w w' := by
  have hle : LoadE B P S 0 0 [] = 47 := by
    unfold LoadE
    by_cases h1 : Fits B P S = false
    · rw [if_pos h1]
    · rw [if_neg h1]
      have h2 : Fits B P S = true := by simpa using h1
      have h3 := of_decide_eq_true h2
      have h4 : 0 < B.toNat * P.toNat * pgB S.toNat := Nat.mul_pos (Nat.mul_pos (by omega) (by omega)) (by unfold pgB; omega)
      rw [if_pos (by omega)]
  have HB0 := hide (below_alloc w (.cells #[.int .i64 B, .int .i64 P, .int .i64 S] 23))
  go_enter Try.func3, Try.ntmps3
  go_wp2_with (first
    | (go_at_call 9; refine (full_no _ B P S hf _ _ _ _ _ _).mono ?_; rintro e u1 ⟨rfl, b1⟩; have HB1 := hide (below_trans (below_trans HB0.out b1) (below_alloc u1 (.cells #[.int .i64 B, .int .i64 P, .int .i64 S, .slice none 0 0, .slice none 0 0] 27))); clear b1)
    | (go_at_call 10; refine (Load_any _ B P S none 0 0 (Nat.le_refl _) [] (reads_nil _) none 0 0 [] (readsB_nil _) none 0 0 [] (readsF_nil _) (by omega)).mono ?_; rintro e u2 hv; have hv1 := hv.no (by rw [hle]; decide); rw [hle] at hv1; subst hv1; have HB2 := hide (below_trans HB1.out hv.bel); clear hv)
    | (go_at_call 11; refine (no_any' 47 _).mono ?_; rintro e v0 ⟨rfl, hv0⟩; subst hv0)
    | (go_at_call 12; refine (heads_any _).mono ?_; rintro e u3 ⟨rfl, b3⟩; have HB3 := hide (below_trans HB2.out b3); clear b3))
  go_ret
  exact ⟨rfl, HB3.out⟩
end Go.Proofs.Ytadlkikjfonkgaa
