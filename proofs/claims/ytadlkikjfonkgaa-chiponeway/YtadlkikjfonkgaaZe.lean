/-
  SEAT Ytadlkikjfonkgaa: Lu, Hc, Hd.
-/
import Derived.Test.YtadlkikjfonkgaaLd
import Derived.Test.YtadlkikjfonkgaaZa
namespace Go.Proofs.Ytadlkikjfonkgaa
open Go.RowKit Go.Conc
set_option linter.unusedVariables false

/-- A list of truths that is read. -/
def ReadsB (w : World) (a : Option Addr) (len : Nat) (ms : List Bool) : Prop :=
  ms.length = len ∧ (a = none → len = 0) ∧ ∀ x, a = some x → ∀ i, i < len → w.cell? (x.add i) = some (.bool (ms.getD i false))
theorem ReadsB.below {w w' : World} {a : Option Addr} {len : Nat} {ms : List Bool} (h : ReadsB w a len ms) (hb : Below w.heap.size w w') : ReadsB w' a len ms :=
  ⟨h.1, h.2.1, fun x hx i hi => (hb.cell (block_lt_of_cell (h.2.2 x hx i hi))).trans (h.2.2 x hx i hi)⟩
theorem ReadsB.pos {w : World} {a : Option Addr} {len : Nat} {ms : List Bool} (h : ReadsB w a len ms) (hp : 0 < len) :
    ∃ b off, a = some ⟨b, off, none⟩ ∧ b < w.heap.size ∧ ∀ i, i < len → w.cell? ⟨b, off + i, none⟩ = some (.bool (ms.getD i false)) := by
  obtain ⟨hl, hn, hc⟩ := h
  cases a with
  | none => have := hn rfl; omega
  | some x =>
    obtain ⟨b, off, spot⟩ := x
    have h0 := hc _ rfl 0 hp
    have hspot : spot = none := by simpa [Addr.add] using World.cell?_spot h0
    subst hspot
    refine ⟨b, off, rfl, by simpa [Addr.add] using block_lt_of_cell h0, fun i hi => ?_⟩
    have h1 := hc _ rfl i hi
    rw [plain_add] at h1
    exact h1
theorem samePage_eq (w : World) (a1 a2 b1 b2 : Option Addr) (n1 n2 c1 c2 d1 d2 : Nat) (D Z : List Int) (h1 : Reads w a1 n1 D) (h2 : Reads w a2 n2 Z) (k1 : Reads w b1 n1 D) (k2 : Reads w b2 n2 Z) :
    Calls Try.prog 55 #[.agg #[.slice a1 n1 c1, .slice a2 n2 c2], .agg #[.slice b1 n1 d1, .slice b2 n2 d2]] w fun e w' => e = .returned (.bool true) ∧ Below w.heap.size w w' := by
  have hb := below_trans (below_alloc w (.cells #[.slice a1 n1 c1, .slice a2 n2 c2] 36)) (below_alloc _ (.cells #[.slice b1 n1 d1, .slice b2 n2 d2] 36))
  have v1 := conv a1 n1 c1 D _ (h1.below hb)
  have v2 := conv a2 n2 c2 Z _ (h2.below hb)
  have v3 := conv b1 n1 d1 D _ (k1.below hb)
  have v4 := conv b2 n2 d2 Z _ (k2.below hb)
  have HB := hide hb
  clear hb h1 h2 k1 k2
  go_enter Try.func55, Try.ntmps55
  go_wp2
  go_ret
  exact ⟨rfl, HB.out⟩

theorem few_any (b p s : Int) (w : World) : Calls Try.prog 32 #[.agg #[.int .i64 b, .int .i64 p, .int .i64 s]] w fun e w' => e = .returned (.bool (Fits b p s && decide (b * p ≤ 128))) ∧ Below w.heap.size w w' := by
  have HB0 := hide (below_alloc w (.cells #[.int .i64 b, .int .i64 p, .int .i64 s] 23))
  have HG0 := hide (alloc_new w (.cells #[.int .i64 b, .int .i64 p, .int .i64 s] 23))
  cases hf : Fits b p s with
  | false =>
    go_enter Try.func32, Try.ntmps32
    go_wp2_with (first | (go_at_call 31; refine (shape_any b p s _).mono ?_; rintro e u1 ⟨rfl, b1⟩; rw [hf]; have HB1 := hide (below_trans HB0.out b1); clear b1))
    go_ret
    exact ⟨rfl, HB1.out⟩
  | true =>
    have h0 := of_decide_eq_true hf
    have hw : IntKind.i64.wrap (b * p) = b * p := by
      have h1 : 0 ≤ b * p := Int.mul_nonneg (by omega) (by omega)
      simp only [IntKind.wrap_i64]
      omega
    clear h0
    go_enter Try.func32, Try.ntmps32
    go_wp2_with (first | (go_at_call 31; refine (shape_any b p s _).mono ?_; rintro e u1 ⟨rfl, b1⟩; rw [hf]; have HB1 := hide (below_trans HB0.out b1); have hg1 := (b1.block _ (lt_of_block HG0.out)).trans HG0.out; obtain ⟨k0, k1, k2⟩ := cells3 hg1; clear b1 hg1))
    go_ret
    exact ⟨by simp, HB1.out⟩

theorem mod_any (v n : Int) (w : World) (hn : 1 ≤ n ∧ n ≤ 1000000) : Calls Try.prog 14 #[.int .i64 v, .int .i64 n] w fun e w' => ∃ r : Int, e = .returned (.int .i64 r) ∧ 0 ≤ r ∧ r < n ∧ Below w.heap.size w w' := by
  have hne : (n == 0) = false := by simp; omega
  have h1 := Int.tmod_lt_of_pos v (show 0 < n by omega)
  have h2 : -n < Int.tmod v n := by
    have h3 := Int.tmod_lt_of_pos (-v) (show 0 < n by omega)
    rw [Int.neg_tmod] at h3
    omega
  obtain ⟨r, hr⟩ : ∃ r, r = Int.tmod v n := ⟨_, rfl⟩
  rw [← hr] at h1 h2
  by_cases h0 : r < 0
  · have d0 : decide (r < 0) = true := decide_eq_true h0
    go_enter Try.func14, Try.ntmps14
    go_wp2
    go_ret
    exact ⟨v.tmod n + n, rfl, by omega, by omega, Below.refl _ _⟩
  · have d0 : decide (r < 0) = false := decide_eq_false h0
    go_enter Try.func14, Try.ntmps14
    go_wp2
    go_ret
    exact ⟨v.tmod n, rfl, by omega, by omega, Below.refl _ _⟩
end Go.Proofs.Ytadlkikjfonkgaa
namespace Go.Proofs.Ytadlkikjfonkgaa
open Go.RowKit Go.Conc
set_option linter.unusedVariables false

/-- The boxes of heads. -/
def kb (b1 b4 : Nat) : List (Nat × Obj) := [(b1, (.cells #[.int .i64 8, .int .i64 4, .int .i64 1] 23 (0, 0))), (b4, (.cells #[.int .i64 0, .int .i64 1] 41 (0, 0)))]
def HS (b1 b4 : Nat) (u : World) : Prop := u.cell? ⟨b1, 0, none⟩ = some (.int .i64 8) ∧ u.cell? ⟨b1, 1, none⟩ = some (.int .i64 4) ∧ u.cell? ⟨b1, 2, none⟩ = some (.int .i64 1) ∧ u.cell? ⟨b4, 0, none⟩ = some (.int .i64 0) ∧ u.cell? ⟨b4, 1, none⟩ = some (.int .i64 1)
theorem HD.s {w u : World} {p : Nat} {F : Nat → Prop} {K : List (Nat × Obj)} {C : Ch} {b1 b4 : Nat} (h : HD w u p F K C) (h1 : (b1, (.cells #[.int .i64 8, .int .i64 4, .int .i64 1] 23 (0, 0))) ∈ K) (h4 : (b4, (.cells #[.int .i64 0, .int .i64 1] 41 (0, 0))) ∈ K) : HS b1 b4 u := by
  obtain ⟨x0, x1, x2⟩ := cells3 (h.blk h1)
  obtain ⟨y0, y1⟩ := cells2 (h.blk h4)
  exact ⟨x0, x1, x2, y0, y1⟩
theorem HD.sk {w u : World} {p : Nat} {F : Nat → Prop} {C : Ch} {b1 b4 : Nat} (h : HD w u p F (kb b1 b4) C) : HS b1 b4 u := h.s (by simp [kb]) (by simp [kb])
theorem HD.sk6 {w u : World} {p : Nat} {F : Nat → Prop} {C : Ch} {b1 b4 b6 : Nat} {o : Obj} (h : HD w u p F ((b6, o) :: kb b1 b4) C) : HS b1 b4 u := h.s (by simp [kb]) (by simp [kb])
theorem readsF_nil (w : World) : ReadsF w none 0 [] := ⟨rfl, (fun _ h => by cases h), fun _ => rfl, fun _ h => by cases h⟩
theorem readsI_two (w : World) : ReadsI (w.alloc (.cells #[.int .i64 2] 3)) (some ⟨w.heap.size, 0, none⟩) 1 [2] :=
  ⟨rfl, (fun z hz => by simp at hz; omega), (fun h => by cases h), fun x hx i hi => by
    cases hx
    have : i = 0 := by omega
    subst this
    exact cells1 (alloc_new w _)⟩
theorem app_split {D Z X Y : List Int} (h : D ++ Z = X ++ Y) (hl : D.length = X.length) : D = X ∧ Z = Y := List.append_inj h hl
/-- What the Read of an example tells. -/
structure Rd3 (w u u' : World) (p : Nat) (F : Nat → Prop) (K : List (Nat × Obj)) (C : Ch) (X Y : List Int) (e : Ending) : Prop where
  ex : ∃ g1 c1 g2 c2, e = .returned (.tuple #[.agg #[.slice (some ⟨g1, 0, none⟩) 256 c1, .slice (some ⟨g2, 0, none⟩) 57 c2], .int .i64 0]) ∧ Own u' u.heap.size g1 256 c1 X ∧ Own u' u.heap.size g2 57 c2 Y
  hd : HD w u' p F K C
  bel : Below u.heap.size u u'
theorem hd_read {w u : World} {p : Nat} {F : Nat → Prop} {K : List (Nat × Obj)} {C : Ch} (h : HD w u p F K C) (hok : C.Ok) (hS : C.S = 1) (X Y : List Int) (hX : X.length = 256) (hr : ReadE C 0 1 = 0 ∧ readL C 0 1 = X ++ Y) :
    Calls Try.prog 13 #[.pointer (some ⟨p, 0, none⟩), .agg #[.int .i64 0, .int .i64 1]] u fun e u' => Rd3 w u u' p F K C X Y e := by
  refine (Read_any u p F C h.ch hok 0 1).mono ?_
  rintro e v ⟨⟨a1, m1, c1, a2, m2, c2, D, Z, rfl, o1, o2, hne, hif⟩, hb⟩
  rw [hr.1] at hif
  rw [if_pos rfl, hS] at hif
  obtain ⟨e1, e2, e3⟩ := hif
  have e3' : D ++ Z = X ++ Y := e3.trans hr.2
  subst e1 e2
  have hDl : D.length = 256 := by have := o1.1; simpa using this
  obtain ⟨rfl, rfl⟩ := app_split e3' (by rw [hX, hDl])
  obtain ⟨g1, c1', q1, _⟩ := own_shape o1 (by omega)
  obtain ⟨g2, c2', q2, _⟩ := own_shape o2 (by omega)
  cases q1
  cases q2
  rw [hr.1]
  exact ⟨⟨g1, c1, g2, c2, rfl, o1, o2⟩, h.below hb, hb⟩
theorem hc_S : hc4.S = 1 ∧ hc9.S = 1 ∧ hc10.S = 1 := ⟨by kernel_rfl, by kernel_rfl, by kernel_rfl⟩
theorem fl4 : FlN hc4 0 := by
  have h3 : hc3.fl = hc2.fl := ProgramC_fl hc2 0 1 256 57 zer
  have h4 : hc4.fl = hc3.fl := ProgramC_fl hc3 0 0 256 57 zer
  have h2 : hc2.fl = hc1.fl := MarkC_fl hc1 8
  have h1 : FlN hc1 0 := EraseC_fl (C := hc0) (newC_fl 8 4 1 [2] []) 2
  intro b p
  rw [h4, h3, h2]
  exact h1 b p
theorem flAll : FlN hc4 9 ∧ FlN hc5 9 ∧ FlN hc6 9 ∧ FlN hc7 9 ∧ FlN hc8 9 := by
  have h4 := fl4
  have h5 : FlN hc5 1 := FlipC_fl (C := hc4) h4 0 1 5
  have h6 : FlN hc6 2 := FlipC_fl (C := hc5) h5 0 1 2047
  have h7 : FlN hc7 3 := FlipC_fl (C := hc6) h6 0 1 2048
  have h8 : FlN hc8 4 := FlipC_fl (C := hc7) h7 0 1 2500
  exact ⟨h4.mono (by omega), h5.mono (by omega), h6.mono (by omega), h7.mono (by omega), h8.mono (by omega)⟩
theorem own_repl {w : World} {B g n c : Nat} {v : Int} (h : Own w B g n c (List.replicate n v)) (hv : 0 ≤ v ∧ v ≤ 255) : Reads w (some ⟨g, 0, none⟩) n (List.replicate n v) := by
  have h1 := h.reads (fun x hx => by rw [(List.mem_replicate.1 hx).2]; exact hv) n (Nat.le_refl _)
  rw [List.take_of_length_le (by simp)] at h1
  exact h1
theorem q1 : (EraseC hc0 2).2 = hc1 := rfl
theorem q2 : (MarkC hc1 8).2 = hc2 := rfl
theorem q3 : (ProgramC hc2 0 1 (256 * 1) (54 + 3 * 1) (List.replicate (256 * 1) 0 ++ List.replicate (54 + 3 * 1) 0)).2 = hc3 := rfl
theorem q4 : (ProgramC hc3 0 0 (256 * 1) (54 + 3 * 1) (List.replicate (256 * 1) 0 ++ List.replicate (54 + 3 * 1) 0)).2 = hc4 := rfl
theorem q5 : (FlipC hc4 0 1 5).2 = hc5 := rfl
theorem q6 : (FlipC hc5 0 1 2047).2 = hc6 := rfl
theorem q7 : (FlipC hc6 0 1 2048).2 = hc7 := rfl
theorem q8 : (FlipC hc7 0 1 2500).2 = hc8 := rfl
theorem q9 : (FlipC hc8 0 0 1).2 = hc9 := rfl
theorem q10 : (EraseC hc9 0).2 = hc10 := rfl
theorem he3' : (ProgramC hc2 0 1 (256 * 1) (54 + 3 * 1) (List.replicate (256 * 1) 0 ++ List.replicate (54 + 3 * 1) 0)).1 = 0 := he3
theorem he4' : (ProgramC hc3 0 0 (256 * 1) (54 + 3 * 1) (List.replicate (256 * 1) 0 ++ List.replicate (54 + 3 * 1) 0)).1 = 43 := he4
theorem hr4' : ReadE hc4 0 1 = 0 ∧ readL hc4 0 1 = List.replicate 256 0 ++ List.replicate 57 0 := hr4
theorem hd_new (u : World) (g : Nat) (hg : g = u.heap.size) : Calls Try.prog 21 #[.agg #[.int .i64 8, .int .i64 4, .int .i64 1], .slice (some ⟨g, 0, none⟩) 1 1, .slice none 0 0] (u.alloc (.cells #[.int .i64 2] 3)) fun e u' => ∃ p, e = .returned (.tuple #[.pointer (some ⟨p, 0, none⟩), .int .i64 0]) ∧ ChipAt u' p (fun k => u.heap.size + 1 ≤ k ∧ k < u'.heap.size) hc0 ∧ Below (u.heap.size + 1) (u.alloc (.cells #[.int .i64 2] 3)) u' := by
  subst hg
  refine (New_any _ 8 4 1 _ 1 1 [2] (readsI_two u) (by omega) none 0 0 [] (readsF_nil _) (by omega)).mono ?_
  rintro e u2 hnew
  obtain ⟨p, hE, hch⟩ := hnew.yes (by decide)
  have hb := hnew.bel
  rw [alloc_size] at hch hb
  exact ⟨p, hE, hch, hb⟩
theorem HD.sx {w u : World} {p : Nat} {F : Nat → Prop} {C : Ch} {b1 b4 b6 : Nat} {v0 v1 : Value} (h : HD w u p F ((b6, .cells #[v0, v1] 36 (0, 0)) :: kb b1 b4) C) : u.cell? ⟨b1, 0, none⟩ = some (.int .i64 8) ∧ u.cell? ⟨b1, 1, none⟩ = some (.int .i64 4) ∧ u.cell? ⟨b1, 2, none⟩ = some (.int .i64 1) ∧ u.cell? ⟨b4, 0, none⟩ = some (.int .i64 0) ∧ u.cell? ⟨b4, 1, none⟩ = some (.int .i64 1) ∧ u.cell? ⟨b6, 0, none⟩ = some v0 ∧ u.cell? ⟨b6, 1, none⟩ = some v1 := by
  obtain ⟨a, b, c, d, e⟩ := h.sk6
  obtain ⟨f, g⟩ := cells2 (h.blk (List.mem_cons_self))
  exact ⟨a, b, c, d, e, f, g⟩
theorem kb_ne {w u : World} {p : Nat} {F : Nat → Prop} {C : Ch} {b1 b4 b6 : Nat} {v0 v1 : Value} (h : HD w u p F ((b6, .cells #[v0, v1] 36 (0, 0)) :: kb b1 b4) C) : ∀ x ∈ kb b1 b4, x.1 ≠ b6 := fun x hx => by
  have h6 := h.blk (List.mem_cons_self)
  have hx' := (h.kp x (List.mem_cons_of_mem _ hx)).1
  simp [kb] at hx
  rcases hx with rfl | rfl
  · exact tag_ne hx' h6 (t := 23) (u := 36) rfl rfl (by decide)
  · exact tag_ne hx' h6 (t := 41) (u := 36) rfl rfl (by decide)
theorem hd_page {w u : World} {p : Nat} {F : Nat → Prop} {C : Ch} {b1 b4 b6 : Nat} {v0 v1 x0 x1 : Value} (h : HD w u p F ((b6, .cells #[v0, v1] 36 (0, 0)) :: kb b1 b4) C) : HD w ((u.setCell ⟨b6, 0, none⟩ x0).setCell ⟨b6, 1, none⟩ x1) p F ((b6, .cells #[x0, x1] 36 (0, 0)) :: kb b1 b4) C :=
  h.over ((Only.setCell (· = b6) u b6 0 x0 rfl).trans' (Only.setCell _ _ b6 1 x1 rfl)) (heap_setCell_same _ b6 1 #[x0, v1] 36 x1 (heap_setCell_same u b6 0 #[v0, v1] 36 x0 (h.blk (List.mem_cons_self)))) (kb_ne h)
theorem own_page {u : World} {B b6 g n c : Nat} {v0 v1 x0 x1 : Value} {X : List Int} (hb : u.heap[b6]? = some (.cells #[v0, v1] 36 (0, 0))) (h : Own u B g n c X) : Own ((u.setCell ⟨b6, 0, none⟩ x0).setCell ⟨b6, 1, none⟩ x1) B g n c X :=
  owns_keep h (fun k hk => by
    obtain ⟨cs, hc⟩ := own_tag h hk
    exact ((Only.setCell (· = b6) u b6 0 x0 rfl).trans' (Only.setCell _ _ b6 1 x1 rfl)).block k (lt_of_block hc) (tag_ne hc hb (t := 5) (u := 36) rfl rfl (by decide)))

end Go.Proofs.Ytadlkikjfonkgaa
namespace Go.Proofs.Ytadlkikjfonkgaa
open Go.RowKit Go.Conc
set_option linter.unusedVariables false

attribute [local irreducible] hc0 hc1 hc2 hc3 hc4 hc5 hc6 hc7 hc8 hc9 hc10
set_option maxHeartbeats 8000000 in
set_option maxRecDepth 100000 in
theorem heads_any (w : World) : Calls Try.prog 12 #[] w fun e w' => e = .returned (.bool true) ∧ Below w.heap.size w w' := by
  go_enter Try.func12, Try.ntmps12
  go_upto_region 5 with (first
    | (go_at_call 20; refine (lshape_any _).mono ?_; rintro e u1 ⟨rfl, b1'⟩; have HB1 := hide b1'; clear b1')
    | (go_at_call 21; refine (hd_new (u1.alloc (.cells #[.int .i64 8, .int .i64 4, .int .i64 1] 23)) (u1.heap.size + 1) (by simp)).mono ?_; rintro e u2 ⟨p, rfl, hch, hbn⟩; have HN := hide hbn; have HCH := hide hch; clear hbn hch)
    | (go_at_call 11; refine (no_any' 0 _).mono ?_; rintro e u3 ⟨rfl, hu3⟩; subst hu3))
  obtain ⟨b1, hb1⟩ : ∃ b, b = u1.heap.size := ⟨_, rfl⟩
  have HG1 : Hid (u3.heap[b1]? = some (.cells #[.int .i64 8, .int .i64 4, .int .i64 1] 23 (0, 0)) ∧ w.heap.size ≤ b1) := by
    have h9 := HN.out.block u1.heap.size (by simp; omega)
    rw [hb1]
    exact ⟨h9.trans ((alloc_old _ _ (by simp)).trans (alloc_new u1 (.cells #[.int .i64 8, .int .i64 4, .int .i64 1] 23))), HB1.out.size⟩
  have HBB : Hid (Below w.heap.size w u3) := (below_trans (below_trans HB1.out (below_alloc _ _)) (below_alloc _ _)).trans (HN.out.mono (by have := HB1.out.size; simp; omega))
  have H6 : Hid (HD w (u3.alloc (.cells #[.int .i64 0, .int .i64 1] 41)) p (fun k => u1.heap.size + 2 ≤ k ∧ k < u3.heap.size) (kb b1 u3.heap.size) hc0) := by
    have hc := HCH.out
    rw [alloc_size] at hc
    have h1 := HB1.out.size
    refine ⟨HBB.out.trans ((below_alloc _ _).mono HBB.out.size), hc.below (below_alloc _ _), fun k hk => by omega, fun x hx => ?_⟩
    simp [kb] at hx
    rcases hx with rfl | rfl
    · exact ⟨(alloc_old _ _ (lt_of_block HG1.out.1)).trans HG1.out.1, (fun hf => by have := hf.1; omega), HG1.out.2⟩
    · exact ⟨alloc_new u3 (.cells #[.int .i64 0, .int .i64 1] 41), (fun hf => by have := hf.2; simp at this), HBB.out.size⟩
  clear HG1 HCH HN
  rw [← hb1]
  clear hb1
  generalize hF0 : (fun k => u1.heap.size + 2 ≤ k ∧ k < u3.heap.size) = F0 at H6
  clear hF0
  go_upto_region 6 with fail
  generalize hU : u3.alloc (.cells #[.int .i64 0, .int .i64 1] 41) = U4 at H6 ⊢
  generalize hb4 : u3.heap.size = b4 at H6 ⊢
  clear hU hb4 HBB HB1 u3 u1
  go_upto_region 7 with (first | (go_at_call 50; refine (Marked_any _ p _ hc0 H6.out.ch hk0 2).mono ?_; rintro e v1 ⟨rfl, hv1⟩; subst hv1; rw [hm0.1, hm0.2]))
  have H7 := hide (H6.out.below (drew_below _))
  refine wp_region_held_drew (S := (fun u => u.cell? ⟨b1, 0, none⟩ = some (.int .i64 8) ∧ u.cell? ⟨b1, 1, none⟩ = some (.int .i64 4) ∧ u.cell? ⟨b1, 2, none⟩ = some (.int .i64 1) ∧ u.cell? ⟨b4, 0, none⟩ = some (.int .i64 0) ∧ u.cell? ⟨b4, 1, none⟩ = some (.int .i64 1))) (by kernel_rfl) (H7.out.sk) (fun hHeld => ?_)
  refine wpAnyH_take (i := 0) (oi := { dst := some 27, op := Op.move (Operand.tmp 3), type := 30, pos := "outright.go:29", after := #[], guard := none }) (v := ?v0a) rfl (by kernel_rfl) (by kernel_rfl) (by kernel_rfl) (fun _ _ _ h => h) (Or.inl ⟨by rfl, ?y0a⟩) (by assumption) ?r0a
  case y0a => (intro x hx; (try dsimp only at hx); go_simp; try with_reducible rfl)
  try simp only [Act.put, List.setIfInBounds_toArray, List.set_cons_zero, List.set_cons_succ]
  refine wpAnyH_ready (rs := [1]) (by kernel_rfl) (by simp) ?_
  refine AllReadyH.cons (o := { dst := some 28, op := Op.call { callee := Callee.value (Operand.func 11), args := #[Operand.tmp 27], argTypes := #[30] }, type := 3, pos := "outright.go:29", after := #[{ on := 0, ground := Ground.data }], guard := none }) rfl (fun K hK => ?_) AllReadyH.nil
  go_simp
  go_at_call 11
  refine (no_any' 0 _).mono ?_
  rintro e v0 ⟨rfl, hv0⟩
  subst hv0
  have hSnew := H7.out.sk
  go_wp2_with fail
  refine hK.out _ _ hSnew (fun hHeld1 => ?_)
  clear hK K hSnew
  clear hHeld
  have hHeld := hHeld1
  clear hHeld1
  try simp only [Act.put, List.setIfInBounds_toArray, List.set_cons_zero, List.set_cons_succ]
  refine wpAnyH_take (i := 2) (oi := { dst := some 29, op := Op.binOp BinOp.neq 3 (Operand.tmp 28) (Operand.const (Value.int IntKind.i64 0)) 3, type := 4, pos := "outright.go:29", after := #[{ on := 1, ground := Ground.data }], guard := none }) (v := ?v2a) rfl (by kernel_rfl) (by kernel_rfl) (by kernel_rfl) (fun _ _ _ h => h) (Or.inl ⟨by rfl, ?y2a⟩) (by assumption) ?r2a
  case y2a => (intro x hx; (try dsimp only at hx); go_simp; try with_reducible rfl)
  try simp only [Act.put, List.setIfInBounds_toArray, List.set_cons_zero, List.set_cons_succ]
  refine wpAnyH_take (i := 3) (oi := { dst := some 30, op := Op.move (Operand.tmp 29), type := 4, pos := "outright.go:29", after := #[{ on := 2, ground := Ground.data }, { on := 1, ground := Ground.chain }], guard := none }) (v := ?v3a) rfl (by kernel_rfl) (by kernel_rfl) (by kernel_rfl) (fun _ _ _ h => h) (Or.inl ⟨by rfl, ?y3a⟩) (by assumption) ?r3a
  case y3a => (intro x hx; (try dsimp only at hx); go_simp; try with_reducible rfl)
  try simp only [Act.put, List.setIfInBounds_toArray, List.set_cons_zero, List.set_cons_succ]
  refine wpAnyH_take (i := 4) (oi := { dst := some 31, op := Op.move (Operand.tmp 5), type := 4, pos := "outright.go:29", after := #[{ on := 3, ground := Ground.guard }], guard := some (3, false) }) (v := ?v4a) rfl (by kernel_rfl) (by kernel_rfl) (by kernel_rfl) (fun _ _ _ h => h) (Or.inl ⟨by rfl, ?y4a⟩) (by assumption) ?r4a
  case y4a => (intro x hx; (try dsimp only at hx); go_simp; try with_reducible rfl)
  try simp only [Act.put, List.setIfInBounds_toArray, List.set_cons_zero, List.set_cons_succ]
  refine wpAnyH_take (i := 5) (oi := { dst := some 32, op := Op.unOp UnOp.not 4 (Operand.tmp 31), type := 4, pos := "outright.go:29", after := #[{ on := 4, ground := Ground.data }, { on := 3, ground := Ground.guard }], guard := some (3, false) }) (v := ?v5a) rfl (by kernel_rfl) (by kernel_rfl) (by kernel_rfl) (fun _ _ _ h => h) (Or.inl ⟨by rfl, ?y5a⟩) (by assumption) ?r5a
  case y5a => (intro x hx; (try dsimp only at hx); go_simp; try with_reducible rfl)
  try simp only [Act.put, List.setIfInBounds_toArray, List.set_cons_zero, List.set_cons_succ]
  refine wpAnyH_take (i := 6) (oi := { dst := some 33, op := Op.pick (Operand.tmp 30) (Operand.const (Value.bool true)) (Operand.tmp 32), type := 4, pos := "outright.go:29", after := #[{ on := 3, ground := Ground.data }, { on := 5, ground := Ground.data }], guard := none }) (v := ?v6a) rfl (by kernel_rfl) (by kernel_rfl) (by kernel_rfl) (fun _ _ _ h => h) (Or.inl ⟨by rfl, ?y6a⟩) (by assumption) ?r6a
  case y6a => (intro x hx; (try dsimp only at hx); go_simp; try with_reducible rfl)
  try simp only [Act.put, List.setIfInBounds_toArray, List.set_cons_zero, List.set_cons_succ]
  refine wpAnyH_take (i := 7) (oi := { dst := some 34, op := Op.move (Operand.tmp 33), type := 4, pos := "outright.go:29", after := #[{ on := 6, ground := Ground.data }, { on := 3, ground := Ground.chain }], guard := none }) (v := ?v7a) rfl (by kernel_rfl) (by kernel_rfl) (by kernel_rfl) (fun _ _ _ h => h) (Or.inl ⟨by rfl, ?y7a⟩) (by assumption) ?r7a
  case y7a => (intro x hx; (try dsimp only at hx); go_simp; try with_reducible rfl)
  try simp only [Act.put, List.setIfInBounds_toArray, List.set_cons_zero, List.set_cons_succ]
  refine wpAnyH_take (i := 8) (oi := { dst := some 35, op := Op.move (Operand.tmp 2), type := 29, pos := "outright.go:29", after := #[{ on := 7, ground := Ground.guard }], guard := some (7, false) }) (v := ?v8a) rfl (by kernel_rfl) (by kernel_rfl) (by kernel_rfl) (fun _ _ _ h => h) (Or.inl ⟨by rfl, ?y8a⟩) (by assumption) ?r8a
  case y8a => (intro x hx; (try dsimp only at hx); go_simp; try with_reducible rfl)
  try simp only [Act.put, List.setIfInBounds_toArray, List.set_cons_zero, List.set_cons_succ]
  refine wpAnyH_ready (rs := [9]) (by kernel_rfl) (by simp) ?_
  refine AllReadyH.cons (o := { dst := some 36, op := Op.call { callee := Callee.value (Operand.func 51), args := #[Operand.tmp 35, Operand.const (Value.int IntKind.i64 2)], argTypes := #[29, 3] }, type := 30, pos := "outright.go:29", after := #[{ on := 8, ground := Ground.data }, { on := 7, ground := Ground.chain }, { on := 7, ground := Ground.guard }], guard := some (7, false) }) rfl (fun K hK => ?_) AllReadyH.nil
  go_simp
  go_at_call 51
  refine (hd_erase H7.out hk0 (by have := htl.1; omega) 2).mono ?_
  rintro e va1 ⟨rfl, FFa1, hh⟩
  rw [he1]
  rw [q1] at hh
  have H7a1 := hide hh
  have hSnew := H7a1.out.sk
  clear hh
  go_wp2_with fail
  refine hK.out _ _ hSnew (fun hHeld9 => ?_)
  clear hK K hSnew
  clear hHeld
  have hHeld := hHeld9
  clear hHeld9
  try simp only [Act.put, List.setIfInBounds_toArray, List.set_cons_zero, List.set_cons_succ]
  refine wpAnyH_ready (rs := [10]) (by kernel_rfl) (by simp) ?_
  refine AllReadyH.cons (o := { dst := some 37, op := Op.call { callee := Callee.value (Operand.func 11), args := #[Operand.tmp 36], argTypes := #[30] }, type := 3, pos := "outright.go:29", after := #[{ on := 9, ground := Ground.data }, { on := 9, ground := Ground.chain }, { on := 7, ground := Ground.guard }], guard := some (7, false) }) rfl (fun K hK => ?_) AllReadyH.nil
  go_simp
  go_at_call 11
  refine (no_any' 43 _).mono ?_
  rintro e v0 ⟨rfl, hv0⟩
  subst hv0
  have hSnew := H7a1.out.sk
  go_wp2_with fail
  refine hK.out _ _ hSnew (fun hHeld10 => ?_)
  clear hK K hSnew
  clear hHeld
  have hHeld := hHeld10
  clear hHeld10
  try simp only [Act.put, List.setIfInBounds_toArray, List.set_cons_zero, List.set_cons_succ]
  refine wpAnyH_take (i := 11) (oi := { dst := some 38, op := Op.binOp BinOp.neq 3 (Operand.tmp 37) (Operand.const (Value.int IntKind.i64 43)) 3, type := 4, pos := "outright.go:29", after := #[{ on := 10, ground := Ground.data }, { on := 7, ground := Ground.guard }], guard := some (7, false) }) (v := ?v11a) rfl (by kernel_rfl) (by kernel_rfl) (by kernel_rfl) (fun _ _ _ h => h) (Or.inl ⟨by rfl, ?y11a⟩) (by assumption) ?r11a
  case y11a => (intro x hx; (try dsimp only at hx); go_simp; try with_reducible rfl)
  try simp only [Act.put, List.setIfInBounds_toArray, List.set_cons_zero, List.set_cons_succ]
  refine wpAnyH_take (i := 12) (oi := { dst := some 39, op := Op.pick (Operand.tmp 34) (Operand.const (Value.bool true)) (Operand.tmp 38), type := 4, pos := "outright.go:29", after := #[{ on := 7, ground := Ground.data }, { on := 11, ground := Ground.data }], guard := none }) (v := ?v12a) rfl (by kernel_rfl) (by kernel_rfl) (by kernel_rfl) (fun _ _ _ h => h) (Or.inl ⟨by rfl, ?y12a⟩) (by assumption) ?r12a
  case y12a => (intro x hx; (try dsimp only at hx); go_simp; try with_reducible rfl)
  try simp only [Act.put, List.setIfInBounds_toArray, List.set_cons_zero, List.set_cons_succ]
  refine wpAnyH_take (i := 13) (oi := { dst := some 40, op := Op.move (Operand.tmp 39), type := 4, pos := "outright.go:29", after := #[{ on := 12, ground := Ground.data }, { on := 10, ground := Ground.chain }], guard := none }) (v := ?v13a) rfl (by kernel_rfl) (by kernel_rfl) (by kernel_rfl) (fun _ _ _ h => h) (Or.inl ⟨by rfl, ?y13a⟩) (by assumption) ?r13a
  case y13a => (intro x hx; (try dsimp only at hx); go_simp; try with_reducible rfl)
  try simp only [Act.put, List.setIfInBounds_toArray, List.set_cons_zero, List.set_cons_succ]
  refine wpAnyH_take (i := 14) (oi := { dst := some 41, op := Op.move (Operand.tmp 2), type := 29, pos := "outright.go:29", after := #[{ on := 13, ground := Ground.guard }], guard := some (13, false) }) (v := ?v14a) rfl (by kernel_rfl) (by kernel_rfl) (by kernel_rfl) (fun _ _ _ h => h) (Or.inl ⟨by rfl, ?y14a⟩) (by assumption) ?r14a
  case y14a => (intro x hx; (try dsimp only at hx); go_simp; try with_reducible rfl)
  try simp only [Act.put, List.setIfInBounds_toArray, List.set_cons_zero, List.set_cons_succ]
  refine wpAnyH_ready (rs := [15]) (by kernel_rfl) (by simp) ?_
  refine AllReadyH.cons (o := { dst := some 42, op := Op.call { callee := Callee.value (Operand.func 52), args := #[Operand.tmp 41, Operand.const (Value.int IntKind.i64 8)], argTypes := #[29, 3] }, type := 30, pos := "outright.go:29", after := #[{ on := 14, ground := Ground.data }, { on := 13, ground := Ground.chain }, { on := 13, ground := Ground.guard }], guard := some (13, false) }) rfl (fun K hK => ?_) AllReadyH.nil
  go_simp
  go_at_call 52
  refine (hd_mark H7a1.out hk1 (by have := htl.2.1; omega) 8).mono ?_
  rintro e va2 ⟨rfl, FFa2, hh⟩
  rw [he2]
  rw [q2] at hh
  have H7a2 := hide hh
  have hSnew := H7a2.out.sk
  clear hh
  go_wp2_with fail
  refine hK.out _ _ hSnew (fun hHeld15 => ?_)
  clear hK K hSnew
  clear hHeld
  have hHeld := hHeld15
  clear hHeld15
  try simp only [Act.put, List.setIfInBounds_toArray, List.set_cons_zero, List.set_cons_succ]
  refine wpAnyH_ready (rs := [16]) (by kernel_rfl) (by simp) ?_
  refine AllReadyH.cons (o := { dst := some 43, op := Op.call { callee := Callee.value (Operand.func 11), args := #[Operand.tmp 42], argTypes := #[30] }, type := 3, pos := "outright.go:29", after := #[{ on := 15, ground := Ground.data }, { on := 15, ground := Ground.chain }, { on := 13, ground := Ground.guard }], guard := some (13, false) }) rfl (fun K hK => ?_) AllReadyH.nil
  go_simp
  go_at_call 11
  refine (no_any' 41 _).mono ?_
  rintro e v0 ⟨rfl, hv0⟩
  subst hv0
  have hSnew := H7a2.out.sk
  go_wp2_with fail
  refine hK.out _ _ hSnew (fun hHeld16 => ?_)
  clear hK K hSnew
  clear hHeld
  have hHeld := hHeld16
  clear hHeld16
  try simp only [Act.put, List.setIfInBounds_toArray, List.set_cons_zero, List.set_cons_succ]
  refine wpAnyH_take (i := 17) (oi := { dst := some 44, op := Op.binOp BinOp.neq 3 (Operand.tmp 43) (Operand.const (Value.int IntKind.i64 41)) 3, type := 4, pos := "outright.go:29", after := #[{ on := 16, ground := Ground.data }, { on := 13, ground := Ground.guard }], guard := some (13, false) }) (v := ?v17a) rfl (by kernel_rfl) (by kernel_rfl) (by kernel_rfl) (fun _ _ _ h => h) (Or.inl ⟨by rfl, ?y17a⟩) (by assumption) ?r17a
  case y17a => (intro x hx; (try dsimp only at hx); go_simp; try with_reducible rfl)
  try simp only [Act.put, List.setIfInBounds_toArray, List.set_cons_zero, List.set_cons_succ]
  refine wpAnyH_take (i := 18) (oi := { dst := some 45, op := Op.pick (Operand.tmp 40) (Operand.const (Value.bool true)) (Operand.tmp 44), type := 4, pos := "outright.go:29", after := #[{ on := 13, ground := Ground.data }, { on := 17, ground := Ground.data }], guard := none }) (v := ?v18a) rfl (by kernel_rfl) (by kernel_rfl) (by kernel_rfl) (fun _ _ _ h => h) (Or.inl ⟨by rfl, ?y18a⟩) (by assumption) ?r18a
  case y18a => (intro x hx; (try dsimp only at hx); go_simp; try with_reducible rfl)
  try simp only [Act.put, List.setIfInBounds_toArray, List.set_cons_zero, List.set_cons_succ]
  refine wpAnyH_take (i := 19) (oi := { dst := some 46, op := Op.move (Operand.tmp 45), type := 4, pos := "outright.go:29", after := #[{ on := 18, ground := Ground.data }, { on := 16, ground := Ground.chain }], guard := none }) (v := ?v19a) rfl (by kernel_rfl) (by kernel_rfl) (by kernel_rfl) (fun _ _ _ h => h) (Or.inl ⟨by rfl, ?y19a⟩) (by assumption) ?r19a
  case y19a => (intro x hx; (try dsimp only at hx); go_simp; try with_reducible rfl)
  try simp only [Act.put, List.setIfInBounds_toArray, List.set_cons_zero, List.set_cons_succ]
  refine wpAnyH_take (i := 20) (oi := { dst := some 47, op := Op.move (Operand.tmp 2), type := 29, pos := "outright.go:29", after := #[{ on := 19, ground := Ground.guard }], guard := some (19, false) }) (v := ?v20a) rfl (by kernel_rfl) (by kernel_rfl) (by kernel_rfl) (fun _ _ _ h => h) (Or.inl ⟨by rfl, ?y20a⟩) (by assumption) ?r20a
  case y20a => (intro x hx; (try dsimp only at hx); go_simp; try with_reducible rfl)
  try simp only [Act.put, List.setIfInBounds_toArray, List.set_cons_zero, List.set_cons_succ]
  refine wpAnyH_take (i := 21) (oi := { dst := some 48, op := Op.load 41 (Operand.tmp 4), type := 41, pos := "outright.go:29", after := #[{ on := 19, ground := Ground.guard }], guard := some (19, false) }) (v := ?v21a) rfl (by kernel_rfl) (by kernel_rfl) (by kernel_rfl) (fun _ _ _ h => h) (Or.inl ⟨by rfl, ?y21a⟩) (by assumption) ?r21a
  case y21a => (intro x hx; (try dsimp only at hx); go_simp; try with_reducible rfl)
  try simp only [Act.put, List.setIfInBounds_toArray, List.set_cons_zero, List.set_cons_succ]
  refine wpAnyH_take (i := 22) (oi := { dst := some 49, op := Op.load 23 (Operand.tmp 1), type := 23, pos := "outright.go:29", after := #[{ on := 19, ground := Ground.guard }], guard := some (19, false) }) (v := ?v22a) rfl (by kernel_rfl) (by kernel_rfl) (by kernel_rfl) (fun _ _ _ h => h) (Or.inl ⟨by rfl, ?y22a⟩) (by assumption) ?r22a
  case y22a => (intro x hx; (try dsimp only at hx); go_simp; try with_reducible rfl)
  try simp only [Act.put, List.setIfInBounds_toArray, List.set_cons_zero, List.set_cons_succ]
  refine wpAnyH_ready (rs := [23]) (by kernel_rfl) (by simp) ?_
  refine AllReadyH.cons (o := { dst := some 50, op := Op.call { callee := Callee.value (Operand.func 54), args := #[Operand.tmp 49, Operand.const (Value.int IntKind.u8 0)], argTypes := #[23, 5] }, type := 36, pos := "outright.go:29", after := #[{ on := 22, ground := Ground.data }, { on := 19, ground := Ground.chain }, { on := 19, ground := Ground.guard }], guard := some (19, false) }) rfl (fun K hK => ?_) AllReadyH.nil
  go_simp
  go_at_call 54
  refine (even_any _ 8 4 1 (by decide) 0 (by decide)).mono ?_
  rintro e va3 hev
  obtain ⟨⟨g1, c1, g2, c2, rfl, o1, o2⟩, bev⟩ := hev
  have HO1a3 := hide o1
  have HO2a3 := hide o2
  have HBEa3 := hide bev
  have H7a3 := hide (H7a2.out.below bev)
  have hSnew := H7a3.out.sk
  clear o1 o2 bev
  go_wp2_with fail
  refine hK.out _ _ hSnew (fun hHeld23 => ?_)
  clear hK K hSnew
  clear hHeld
  have hHeld := hHeld23
  clear hHeld23
  try simp only [Act.put, List.setIfInBounds_toArray, List.set_cons_zero, List.set_cons_succ]
  refine wpAnyH_ready (rs := [24]) (by kernel_rfl) (by simp) ?_
  refine AllReadyH.cons (o := { dst := some 51, op := Op.call { callee := Callee.value (Operand.func 53), args := #[Operand.tmp 47, Operand.tmp 48, Operand.tmp 50], argTypes := #[29, 41, 36] }, type := 30, pos := "outright.go:29", after := #[{ on := 20, ground := Ground.data }, { on := 21, ground := Ground.data }, { on := 23, ground := Ground.data }, { on := 23, ground := Ground.chain }, { on := 19, ground := Ground.guard }], guard := some (19, false) }) rfl (fun K hK => ?_) AllReadyH.nil
  go_simp
  go_at_call 53
  refine (hd_progE H7a2.out hk2 HBEa3.out 0 1 1 (by omega) 0 (by decide) _ _ _ _ HO1a3.out HO2a3.out (by have := htl.2.2.1; omega)).mono ?_
  rintro e va4 ⟨rfl, FFa4, hh⟩
  rw [he3']
  rw [q3] at hh
  have H7a4 := hide hh
  have hSnew := H7a4.out.sk
  clear hh
  go_wp2_with fail
  refine hK.out _ _ hSnew (fun hHeld24 => ?_)
  clear hK K hSnew
  clear hHeld
  have hHeld := hHeld24
  clear hHeld24
  try simp only [Act.put, List.setIfInBounds_toArray, List.set_cons_zero, List.set_cons_succ]
  refine wpAnyH_ready (rs := [25]) (by kernel_rfl) (by simp) ?_
  refine AllReadyH.cons (o := { dst := some 52, op := Op.call { callee := Callee.value (Operand.func 11), args := #[Operand.tmp 51], argTypes := #[30] }, type := 3, pos := "outright.go:29", after := #[{ on := 24, ground := Ground.data }, { on := 24, ground := Ground.chain }, { on := 19, ground := Ground.guard }], guard := some (19, false) }) rfl (fun K hK => ?_) AllReadyH.nil
  go_simp
  go_at_call 11
  refine (no_any' 0 _).mono ?_
  rintro e v0 ⟨rfl, hv0⟩
  subst hv0
  have hSnew := H7a4.out.sk
  go_wp2_with fail
  refine hK.out _ _ hSnew (fun hHeld25 => ?_)
  clear hK K hSnew
  clear hHeld
  have hHeld := hHeld25
  clear hHeld25
  try simp only [Act.put, List.setIfInBounds_toArray, List.set_cons_zero, List.set_cons_succ]
  refine wpAnyH_take (i := 26) (oi := { dst := some 53, op := Op.binOp BinOp.neq 3 (Operand.tmp 52) (Operand.const (Value.int IntKind.i64 0)) 3, type := 4, pos := "outright.go:29", after := #[{ on := 25, ground := Ground.data }, { on := 19, ground := Ground.guard }], guard := some (19, false) }) (v := ?v26a) rfl (by kernel_rfl) (by kernel_rfl) (by kernel_rfl) (fun _ _ _ h => h) (Or.inl ⟨by rfl, ?y26a⟩) (by assumption) ?r26a
  case y26a => (intro x hx; (try dsimp only at hx); go_simp; try with_reducible rfl)
  try simp only [Act.put, List.setIfInBounds_toArray, List.set_cons_zero, List.set_cons_succ]
  refine wpAnyH_take (i := 27) (oi := { dst := some 54, op := Op.pick (Operand.tmp 46) (Operand.const (Value.bool true)) (Operand.tmp 53), type := 4, pos := "outright.go:29", after := #[{ on := 19, ground := Ground.data }, { on := 26, ground := Ground.data }], guard := none }) (v := ?v27a) rfl (by kernel_rfl) (by kernel_rfl) (by kernel_rfl) (fun _ _ _ h => h) (Or.inl ⟨by rfl, ?y27a⟩) (by assumption) ?r27a
  case y27a => (intro x hx; (try dsimp only at hx); go_simp; try with_reducible rfl)
  try simp only [Act.put, List.setIfInBounds_toArray, List.set_cons_zero, List.set_cons_succ]
  refine wpAnyH_take (i := 28) (oi := { dst := some 55, op := Op.move (Operand.tmp 54), type := 4, pos := "outright.go:29", after := #[{ on := 27, ground := Ground.data }, { on := 25, ground := Ground.chain }], guard := none }) (v := ?v28a) rfl (by kernel_rfl) (by kernel_rfl) (by kernel_rfl) (fun _ _ _ h => h) (Or.inl ⟨by rfl, ?y28a⟩) (by assumption) ?r28a
  case y28a => (intro x hx; (try dsimp only at hx); go_simp; try with_reducible rfl)
  try simp only [Act.put, List.setIfInBounds_toArray, List.set_cons_zero, List.set_cons_succ]
  refine wpAnyH_take (i := 29) (oi := { dst := some 56, op := Op.move (Operand.tmp 2), type := 29, pos := "outright.go:29", after := #[{ on := 28, ground := Ground.guard }], guard := some (28, false) }) (v := ?v29a) rfl (by kernel_rfl) (by kernel_rfl) (by kernel_rfl) (fun _ _ _ h => h) (Or.inl ⟨by rfl, ?y29a⟩) (by assumption) ?r29a
  case y29a => (intro x hx; (try dsimp only at hx); go_simp; try with_reducible rfl)
  try simp only [Act.put, List.setIfInBounds_toArray, List.set_cons_zero, List.set_cons_succ]
  refine wpAnyH_take (i := 30) (oi := { dst := some 57, op := Op.build 41 #[], type := 41, pos := "outright.go:29", after := #[{ on := 28, ground := Ground.guard }], guard := some (28, false) }) (v := ?v30a) rfl (by kernel_rfl) (by kernel_rfl) (by kernel_rfl) (fun _ _ _ h => h) (Or.inl ⟨by rfl, ?y30a⟩) (by assumption) ?r30a
  case y30a => (intro x hx; (try dsimp only at hx); go_simp; try with_reducible rfl)
  try simp only [Act.put, List.setIfInBounds_toArray, List.set_cons_zero, List.set_cons_succ]
  refine wpAnyH_take (i := 31) (oi := { dst := some 58, op := Op.load 23 (Operand.tmp 1), type := 23, pos := "outright.go:29", after := #[{ on := 28, ground := Ground.guard }], guard := some (28, false) }) (v := ?v31a) rfl (by kernel_rfl) (by kernel_rfl) (by kernel_rfl) (fun _ _ _ h => h) (Or.inl ⟨by rfl, ?y31a⟩) (by assumption) ?r31a
  case y31a => (intro x hx; (try dsimp only at hx); go_simp; try with_reducible rfl)
  try simp only [Act.put, List.setIfInBounds_toArray, List.set_cons_zero, List.set_cons_succ]
  refine wpAnyH_ready (rs := [32]) (by kernel_rfl) (by simp) ?_
  refine AllReadyH.cons (o := { dst := some 59, op := Op.call { callee := Callee.value (Operand.func 54), args := #[Operand.tmp 58, Operand.const (Value.int IntKind.u8 0)], argTypes := #[23, 5] }, type := 36, pos := "outright.go:29", after := #[{ on := 31, ground := Ground.data }, { on := 28, ground := Ground.chain }, { on := 28, ground := Ground.guard }], guard := some (28, false) }) rfl (fun K hK => ?_) AllReadyH.nil
  go_simp
  go_at_call 54
  refine (even_any _ 8 4 1 (by decide) 0 (by decide)).mono ?_
  rintro e va5 hev
  obtain ⟨⟨g1, c1, g2, c2, rfl, o1, o2⟩, bev⟩ := hev
  have HO1a5 := hide o1
  have HO2a5 := hide o2
  have HBEa5 := hide bev
  have H7a5 := hide (H7a4.out.below bev)
  have hSnew := H7a5.out.sk
  clear o1 o2 bev
  go_wp2_with fail
  refine hK.out _ _ hSnew (fun hHeld32 => ?_)
  clear hK K hSnew
  clear hHeld
  have hHeld := hHeld32
  clear hHeld32
  try simp only [Act.put, List.setIfInBounds_toArray, List.set_cons_zero, List.set_cons_succ]
  refine wpAnyH_ready (rs := [33]) (by kernel_rfl) (by simp) ?_
  refine AllReadyH.cons (o := { dst := some 60, op := Op.call { callee := Callee.value (Operand.func 53), args := #[Operand.tmp 56, Operand.tmp 57, Operand.tmp 59], argTypes := #[29, 41, 36] }, type := 30, pos := "outright.go:29", after := #[{ on := 29, ground := Ground.data }, { on := 30, ground := Ground.data }, { on := 32, ground := Ground.data }, { on := 32, ground := Ground.chain }, { on := 28, ground := Ground.guard }], guard := some (28, false) }) rfl (fun K hK => ?_) AllReadyH.nil
  go_simp
  go_at_call 53
  refine (hd_progE H7a4.out hk3 HBEa5.out 0 0 1 (by omega) 0 (by decide) _ _ _ _ HO1a5.out HO2a5.out (by have := htl.2.2.2.1; omega)).mono ?_
  rintro e va6 ⟨rfl, FFa6, hh⟩
  rw [he4']
  rw [q4] at hh
  have H7a6 := hide hh
  have hSnew := H7a6.out.sk
  clear hh
  go_wp2_with fail
  refine hK.out _ _ hSnew (fun hHeld33 => ?_)
  clear hK K hSnew
  clear hHeld
  have hHeld := hHeld33
  clear hHeld33
  try simp only [Act.put, List.setIfInBounds_toArray, List.set_cons_zero, List.set_cons_succ]
  refine wpAnyH_ready (rs := [34]) (by kernel_rfl) (by simp) ?_
  refine AllReadyH.cons (o := { dst := some 61, op := Op.call { callee := Callee.value (Operand.func 11), args := #[Operand.tmp 60], argTypes := #[30] }, type := 3, pos := "outright.go:29", after := #[{ on := 33, ground := Ground.data }, { on := 33, ground := Ground.chain }, { on := 28, ground := Ground.guard }], guard := some (28, false) }) rfl (fun K hK => ?_) AllReadyH.nil
  go_simp
  go_at_call 11
  refine (no_any' 43 _).mono ?_
  rintro e v0 ⟨rfl, hv0⟩
  subst hv0
  have hSnew := H7a6.out.sk
  go_wp2_with fail
  refine hK.out _ _ hSnew (fun hHeld34 => ?_)
  clear hK K hSnew
  clear hHeld
  have hHeld := hHeld34
  clear hHeld34
  try simp only [Act.put, List.setIfInBounds_toArray, List.set_cons_zero, List.set_cons_succ]
  refine wpAnyH_take (i := 35) (oi := { dst := some 62, op := Op.binOp BinOp.neq 3 (Operand.tmp 61) (Operand.const (Value.int IntKind.i64 43)) 3, type := 4, pos := "outright.go:29", after := #[{ on := 34, ground := Ground.data }, { on := 28, ground := Ground.guard }], guard := some (28, false) }) (v := ?v35a) rfl (by kernel_rfl) (by kernel_rfl) (by kernel_rfl) (fun _ _ _ h => h) (Or.inl ⟨by rfl, ?y35a⟩) (by assumption) ?r35a
  case y35a => (intro x hx; (try dsimp only at hx); go_simp; try with_reducible rfl)
  try simp only [Act.put, List.setIfInBounds_toArray, List.set_cons_zero, List.set_cons_succ]
  refine wpAnyH_take (i := 36) (oi := { dst := some 63, op := Op.pick (Operand.tmp 55) (Operand.const (Value.bool true)) (Operand.tmp 62), type := 4, pos := "outright.go:29", after := #[{ on := 28, ground := Ground.data }, { on := 35, ground := Ground.data }], guard := none }) (v := ?v36a) rfl (by kernel_rfl) (by kernel_rfl) (by kernel_rfl) (fun _ _ _ h => h) (Or.inl ⟨by rfl, ?y36a⟩) (by assumption) ?r36a
  case y36a => (intro x hx; (try dsimp only at hx); go_simp; try with_reducible rfl)
  try simp only [Act.put, List.setIfInBounds_toArray, List.set_cons_zero, List.set_cons_succ]
  refine wpAnyH_done (by kernel_rfl) ?_ _
  clear hHeld
  obtain ⟨k0, k1, k2, k3, k4⟩ := H7a6.out.sk
  go_upto_region 10 with (first | (go_at_call 13; refine (hd_read H7a6.out hk4 hc_S.1 (List.replicate 256 0) (List.replicate 57 0) (by simp) hr4').mono ?_; rintro e v9 hrd; obtain ⟨⟨g1, c1, g2, c2, rfl, o1, o2⟩, hd9, b9⟩ := hrd; have H8 := hide hd9; have HR1 := hide o1; have HR2 := hide o2; clear o1 o2 hd9 b9 k0 k1 k2 k3 k4))
  have hB6 := below_alloc v9 (.cells #[.slice (some ⟨g1, 0, none⟩) 256 c1, .slice (some ⟨g2, 0, none⟩) 57 c2] 36)
  have H9 : Hid (HD w (v9.alloc (.cells #[.slice (some ⟨g1, 0, none⟩) 256 c1, .slice (some ⟨g2, 0, none⟩) 57 c2] 36)).drew p FFa6 ((v9.heap.size, (.cells #[.slice (some ⟨g1, 0, none⟩) 256 c1, .slice (some ⟨g2, 0, none⟩) 57 c2] 36 (0, 0))) :: kb b1 b4) hc4) := ((H8.out.below hB6).below (drew_below _)).hold (alloc_new v9 (.cells #[.slice (some ⟨g1, 0, none⟩) 256 c1, .slice (some ⟨g2, 0, none⟩) 57 c2] 36)) (fun hf => by have h9 := H8.out.ch.fin _ hf; omega) H8.out.bel.size
  have HR1 := hide ((HR1.out.below hB6).below (drew_below _))
  have HR2 := hide ((HR2.out.below hB6).below (drew_below _))
  generalize hU : v9.alloc (.cells #[.slice (some ⟨g1, 0, none⟩) 256 c1, .slice (some ⟨g2, 0, none⟩) 57 c2] 36) = U6 at H9 HR1 HR2 ⊢
  generalize hb6 : v9.heap.size = b6 at H9 ⊢
  clear hU hB6 hb6 H8
  refine wp_region_held_drew (S := (fun u => u.cell? ⟨b1, 0, none⟩ = some (.int .i64 8) ∧ u.cell? ⟨b1, 1, none⟩ = some (.int .i64 4) ∧ u.cell? ⟨b1, 2, none⟩ = some (.int .i64 1) ∧ u.cell? ⟨b4, 0, none⟩ = some (.int .i64 0) ∧ u.cell? ⟨b4, 1, none⟩ = some (.int .i64 1) ∧ u.cell? ⟨b6, 0, none⟩ = some (.slice (some ⟨g1, 0, none⟩) 256 c1) ∧ u.cell? ⟨b6, 1, none⟩ = some (.slice (some ⟨g2, 0, none⟩) 57 c2))) (by kernel_rfl) (H9.out.sx) (fun hHeld => ?_)
  refine wpAnyH_take (i := 0) (oi := { dst := some 70, op := Op.move (Operand.tmp 3), type := 30, pos := "outright.go:33", after := #[], guard := none }) (v := ?v0b) rfl (by kernel_rfl) (by kernel_rfl) (by kernel_rfl) (fun _ _ _ h => h) (Or.inl ⟨by rfl, ?y0b⟩) (by assumption) ?r0b
  case y0b => (intro x hx; (try dsimp only at hx); go_simp; try with_reducible rfl)
  try simp only [Act.put, List.setIfInBounds_toArray, List.set_cons_zero, List.set_cons_succ]
  refine wpAnyH_ready (rs := [1]) (by kernel_rfl) (by simp) ?_
  refine AllReadyH.cons (o := { dst := some 71, op := Op.call { callee := Callee.value (Operand.func 11), args := #[Operand.tmp 70], argTypes := #[30] }, type := 3, pos := "outright.go:33", after := #[{ on := 0, ground := Ground.data }], guard := none }) rfl (fun K hK => ?_) AllReadyH.nil
  go_simp
  go_at_call 11
  refine (no_any' 0 _).mono ?_
  rintro e v0 ⟨rfl, hv0⟩
  subst hv0
  have hSnew := H9.out.sx
  go_wp2_with fail
  refine hK.out _ _ hSnew (fun hHeld1 => ?_)
  clear hK K hSnew
  clear hHeld
  have hHeld := hHeld1
  clear hHeld1
  try simp only [Act.put, List.setIfInBounds_toArray, List.set_cons_zero, List.set_cons_succ]
  refine wpAnyH_take (i := 2) (oi := { dst := some 72, op := Op.binOp BinOp.neq 3 (Operand.tmp 71) (Operand.const (Value.int IntKind.i64 0)) 3, type := 4, pos := "outright.go:33", after := #[{ on := 1, ground := Ground.data }], guard := none }) (v := ?v2b) rfl (by kernel_rfl) (by kernel_rfl) (by kernel_rfl) (fun _ _ _ h => h) (Or.inl ⟨by rfl, ?y2b⟩) (by assumption) ?r2b
  case y2b => (intro x hx; (try dsimp only at hx); go_simp; try with_reducible rfl)
  try simp only [Act.put, List.setIfInBounds_toArray, List.set_cons_zero, List.set_cons_succ]
  refine wpAnyH_take (i := 3) (oi := { dst := some 73, op := Op.move (Operand.tmp 72), type := 4, pos := "outright.go:33", after := #[{ on := 2, ground := Ground.data }, { on := 1, ground := Ground.chain }], guard := none }) (v := ?v3b) rfl (by kernel_rfl) (by kernel_rfl) (by kernel_rfl) (fun _ _ _ h => h) (Or.inl ⟨by rfl, ?y3b⟩) (by assumption) ?r3b
  case y3b => (intro x hx; (try dsimp only at hx); go_simp; try with_reducible rfl)
  try simp only [Act.put, List.setIfInBounds_toArray, List.set_cons_zero, List.set_cons_succ]
  refine wpAnyH_take (i := 4) (oi := { dst := some 74, op := Op.load 36 (Operand.tmp 6), type := 36, pos := "outright.go:33", after := #[{ on := 3, ground := Ground.guard }], guard := some (3, false) }) (v := ?v4b) rfl (by kernel_rfl) (by kernel_rfl) (by kernel_rfl) (fun _ _ _ h => h) (Or.inl ⟨by rfl, ?y4b⟩) (by assumption) ?r4b
  case y4b => (intro x hx; (try dsimp only at hx); go_simp; try with_reducible rfl)
  try simp only [Act.put, List.setIfInBounds_toArray, List.set_cons_zero, List.set_cons_succ]
  refine wpAnyH_take (i := 5) (oi := { dst := some 75, op := Op.load 23 (Operand.tmp 1), type := 23, pos := "outright.go:33", after := #[{ on := 3, ground := Ground.guard }], guard := some (3, false) }) (v := ?v5b) rfl (by kernel_rfl) (by kernel_rfl) (by kernel_rfl) (fun _ _ _ h => h) (Or.inl ⟨by rfl, ?y5b⟩) (by assumption) ?r5b
  case y5b => (intro x hx; (try dsimp only at hx); go_simp; try with_reducible rfl)
  try simp only [Act.put, List.setIfInBounds_toArray, List.set_cons_zero, List.set_cons_succ]
  refine wpAnyH_ready (rs := [6]) (by kernel_rfl) (by simp) ?_
  refine AllReadyH.cons (o := { dst := some 76, op := Op.call { callee := Callee.value (Operand.func 54), args := #[Operand.tmp 75, Operand.const (Value.int IntKind.u8 0)], argTypes := #[23, 5] }, type := 36, pos := "outright.go:33", after := #[{ on := 5, ground := Ground.data }, { on := 3, ground := Ground.chain }, { on := 3, ground := Ground.guard }], guard := some (3, false) }) rfl (fun K hK => ?_) AllReadyH.nil
  go_simp
  go_at_call 54
  refine (even_any _ 8 4 1 (by decide) 0 (by decide)).mono ?_
  rintro e vb1 hev
  obtain ⟨⟨g1, c1, g2, c2, rfl, o1, o2⟩, bev⟩ := hev
  have HO1b1 := hide o1
  have HO2b1 := hide o2
  have HBEb1 := hide bev
  have H9b1 := hide (H9.out.below bev)
  have hSnew := H9b1.out.sx
  clear o1 o2 bev
  go_wp2_with fail
  refine hK.out _ _ hSnew (fun hHeld6 => ?_)
  clear hK K hSnew
  clear hHeld
  have hHeld := hHeld6
  clear hHeld6
  try simp only [Act.put, List.setIfInBounds_toArray, List.set_cons_zero, List.set_cons_succ]
  refine wpAnyH_ready (rs := [7]) (by kernel_rfl) (by simp) ?_
  refine AllReadyH.cons (o := { dst := some 77, op := Op.call { callee := Callee.value (Operand.func 55), args := #[Operand.tmp 74, Operand.tmp 76], argTypes := #[36, 36] }, type := 4, pos := "outright.go:33", after := #[{ on := 4, ground := Ground.data }, { on := 6, ground := Ground.data }, { on := 6, ground := Ground.chain }, { on := 3, ground := Ground.guard }], guard := some (3, false) }) rfl (fun K hK => ?_) AllReadyH.nil
  go_simp
  go_at_call 55
  refine (samePage_eq _ _ _ _ _ 256 57 _ _ _ _ (List.replicate 256 0) (List.replicate 57 0) (own_repl (HR1.out.below HBEb1.out) (by decide)) (own_repl (HR2.out.below HBEb1.out) (by decide)) (own_repl HO1b1.out (by decide)) (own_repl HO2b1.out (by decide))).mono ?_
  rintro e vs ⟨rfl, bs⟩
  have H9s := hide (H9b1.out.below bs)
  have hSnew := H9s.out.sx
  clear bs
  go_wp2_with fail
  refine hK.out _ _ hSnew (fun hHeld7 => ?_)
  clear hK K hSnew
  clear hHeld
  have hHeld := hHeld7
  clear hHeld7
  try simp only [Act.put, List.setIfInBounds_toArray, List.set_cons_zero, List.set_cons_succ]
  refine wpAnyH_take (i := 8) (oi := { dst := some 78, op := Op.unOp UnOp.not 4 (Operand.tmp 77), type := 4, pos := "outright.go:33", after := #[{ on := 7, ground := Ground.data }, { on := 3, ground := Ground.guard }], guard := some (3, false) }) (v := ?v8b) rfl (by kernel_rfl) (by kernel_rfl) (by kernel_rfl) (fun _ _ _ h => h) (Or.inl ⟨by rfl, ?y8b⟩) (by assumption) ?r8b
  case y8b => (intro x hx; (try dsimp only at hx); go_simp; try with_reducible rfl)
  try simp only [Act.put, List.setIfInBounds_toArray, List.set_cons_zero, List.set_cons_succ]
  refine wpAnyH_take (i := 9) (oi := { dst := some 79, op := Op.pick (Operand.tmp 73) (Operand.const (Value.bool true)) (Operand.tmp 78), type := 4, pos := "outright.go:33", after := #[{ on := 3, ground := Ground.data }, { on := 8, ground := Ground.data }], guard := none }) (v := ?v9b) rfl (by kernel_rfl) (by kernel_rfl) (by kernel_rfl) (fun _ _ _ h => h) (Or.inl ⟨by rfl, ?y9b⟩) (by assumption) ?r9b
  case y9b => (intro x hx; (try dsimp only at hx); go_simp; try with_reducible rfl)
  try simp only [Act.put, List.setIfInBounds_toArray, List.set_cons_zero, List.set_cons_succ]
  refine wpAnyH_take (i := 10) (oi := { dst := some 80, op := Op.move (Operand.tmp 79), type := 4, pos := "outright.go:33", after := #[{ on := 9, ground := Ground.data }, { on := 7, ground := Ground.chain }], guard := none }) (v := ?v10b) rfl (by kernel_rfl) (by kernel_rfl) (by kernel_rfl) (fun _ _ _ h => h) (Or.inl ⟨by rfl, ?y10b⟩) (by assumption) ?r10b
  case y10b => (intro x hx; (try dsimp only at hx); go_simp; try with_reducible rfl)
  try simp only [Act.put, List.setIfInBounds_toArray, List.set_cons_zero, List.set_cons_succ]
  refine wpAnyH_take (i := 11) (oi := { dst := some 81, op := Op.move (Operand.tmp 2), type := 29, pos := "outright.go:33", after := #[{ on := 10, ground := Ground.guard }], guard := some (10, false) }) (v := ?v11b) rfl (by kernel_rfl) (by kernel_rfl) (by kernel_rfl) (fun _ _ _ h => h) (Or.inl ⟨by rfl, ?y11b⟩) (by assumption) ?r11b
  case y11b => (intro x hx; (try dsimp only at hx); go_simp; try with_reducible rfl)
  try simp only [Act.put, List.setIfInBounds_toArray, List.set_cons_zero, List.set_cons_succ]
  refine wpAnyH_take (i := 12) (oi := { dst := some 82, op := Op.load 41 (Operand.tmp 4), type := 41, pos := "outright.go:33", after := #[{ on := 10, ground := Ground.guard }], guard := some (10, false) }) (v := ?v12b) rfl (by kernel_rfl) (by kernel_rfl) (by kernel_rfl) (fun _ _ _ h => h) (Or.inl ⟨by rfl, ?y12b⟩) (by assumption) ?r12b
  case y12b => (intro x hx; (try dsimp only at hx); go_simp; try with_reducible rfl)
  try simp only [Act.put, List.setIfInBounds_toArray, List.set_cons_zero, List.set_cons_succ]
  refine wpAnyH_ready (rs := [13]) (by kernel_rfl) (by simp) ?_
  refine AllReadyH.cons (o := { dst := some 83, op := Op.call { callee := Callee.value (Operand.func 56), args := #[Operand.tmp 81, Operand.tmp 82, Operand.const (Value.int IntKind.i64 5)], argTypes := #[29, 41, 3] }, type := 30, pos := "outright.go:33", after := #[{ on := 11, ground := Ground.data }, { on := 12, ground := Ground.data }, { on := 10, ground := Ground.chain }, { on := 10, ground := Ground.guard }], guard := some (10, false) }) rfl (fun K hK => ?_) AllReadyH.nil
  go_simp
  go_at_call 56
  refine (hd_flip H9s.out hk4 (flAll.1.mono (by omega)) 0 1 5 (by omega)).mono ?_
  rintro e vb2 ⟨rfl, FFb2, hh⟩
  rw [he5]
  rw [q5] at hh
  have H9b2 := hide hh
  have hSnew := H9b2.out.sx
  clear hh
  go_wp2_with fail
  refine hK.out _ _ hSnew (fun hHeld13 => ?_)
  clear hK K hSnew
  clear hHeld
  have hHeld := hHeld13
  clear hHeld13
  try simp only [Act.put, List.setIfInBounds_toArray, List.set_cons_zero, List.set_cons_succ]
  refine wpAnyH_ready (rs := [14]) (by kernel_rfl) (by simp) ?_
  refine AllReadyH.cons (o := { dst := some 84, op := Op.call { callee := Callee.value (Operand.func 11), args := #[Operand.tmp 83], argTypes := #[30] }, type := 3, pos := "outright.go:33", after := #[{ on := 13, ground := Ground.data }, { on := 13, ground := Ground.chain }, { on := 10, ground := Ground.guard }], guard := some (10, false) }) rfl (fun K hK => ?_) AllReadyH.nil
  go_simp
  go_at_call 11
  refine (no_any' 0 _).mono ?_
  rintro e v0 ⟨rfl, hv0⟩
  subst hv0
  have hSnew := H9b2.out.sx
  go_wp2_with fail
  refine hK.out _ _ hSnew (fun hHeld14 => ?_)
  clear hK K hSnew
  clear hHeld
  have hHeld := hHeld14
  clear hHeld14
  try simp only [Act.put, List.setIfInBounds_toArray, List.set_cons_zero, List.set_cons_succ]
  refine wpAnyH_take (i := 15) (oi := { dst := some 85, op := Op.binOp BinOp.neq 3 (Operand.tmp 84) (Operand.const (Value.int IntKind.i64 0)) 3, type := 4, pos := "outright.go:33", after := #[{ on := 14, ground := Ground.data }, { on := 10, ground := Ground.guard }], guard := some (10, false) }) (v := ?v15b) rfl (by kernel_rfl) (by kernel_rfl) (by kernel_rfl) (fun _ _ _ h => h) (Or.inl ⟨by rfl, ?y15b⟩) (by assumption) ?r15b
  case y15b => (intro x hx; (try dsimp only at hx); go_simp; try with_reducible rfl)
  try simp only [Act.put, List.setIfInBounds_toArray, List.set_cons_zero, List.set_cons_succ]
  refine wpAnyH_take (i := 16) (oi := { dst := some 86, op := Op.pick (Operand.tmp 80) (Operand.const (Value.bool true)) (Operand.tmp 85), type := 4, pos := "outright.go:33", after := #[{ on := 10, ground := Ground.data }, { on := 15, ground := Ground.data }], guard := none }) (v := ?v16b) rfl (by kernel_rfl) (by kernel_rfl) (by kernel_rfl) (fun _ _ _ h => h) (Or.inl ⟨by rfl, ?y16b⟩) (by assumption) ?r16b
  case y16b => (intro x hx; (try dsimp only at hx); go_simp; try with_reducible rfl)
  try simp only [Act.put, List.setIfInBounds_toArray, List.set_cons_zero, List.set_cons_succ]
  refine wpAnyH_take (i := 17) (oi := { dst := some 87, op := Op.move (Operand.tmp 86), type := 4, pos := "outright.go:33", after := #[{ on := 16, ground := Ground.data }, { on := 14, ground := Ground.chain }], guard := none }) (v := ?v17b) rfl (by kernel_rfl) (by kernel_rfl) (by kernel_rfl) (fun _ _ _ h => h) (Or.inl ⟨by rfl, ?y17b⟩) (by assumption) ?r17b
  case y17b => (intro x hx; (try dsimp only at hx); go_simp; try with_reducible rfl)
  try simp only [Act.put, List.setIfInBounds_toArray, List.set_cons_zero, List.set_cons_succ]
  refine wpAnyH_take (i := 18) (oi := { dst := some 88, op := Op.move (Operand.tmp 2), type := 29, pos := "outright.go:33", after := #[{ on := 17, ground := Ground.guard }], guard := some (17, false) }) (v := ?v18b) rfl (by kernel_rfl) (by kernel_rfl) (by kernel_rfl) (fun _ _ _ h => h) (Or.inl ⟨by rfl, ?y18b⟩) (by assumption) ?r18b
  case y18b => (intro x hx; (try dsimp only at hx); go_simp; try with_reducible rfl)
  try simp only [Act.put, List.setIfInBounds_toArray, List.set_cons_zero, List.set_cons_succ]
  refine wpAnyH_take (i := 19) (oi := { dst := some 89, op := Op.load 41 (Operand.tmp 4), type := 41, pos := "outright.go:33", after := #[{ on := 17, ground := Ground.guard }], guard := some (17, false) }) (v := ?v19b) rfl (by kernel_rfl) (by kernel_rfl) (by kernel_rfl) (fun _ _ _ h => h) (Or.inl ⟨by rfl, ?y19b⟩) (by assumption) ?r19b
  case y19b => (intro x hx; (try dsimp only at hx); go_simp; try with_reducible rfl)
  try simp only [Act.put, List.setIfInBounds_toArray, List.set_cons_zero, List.set_cons_succ]
  refine wpAnyH_ready (rs := [20]) (by kernel_rfl) (by simp) ?_
  refine AllReadyH.cons (o := { dst := some 90, op := Op.call { callee := Callee.value (Operand.func 56), args := #[Operand.tmp 88, Operand.tmp 89, Operand.const (Value.int IntKind.i64 2047)], argTypes := #[29, 41, 3] }, type := 30, pos := "outright.go:33", after := #[{ on := 18, ground := Ground.data }, { on := 19, ground := Ground.data }, { on := 17, ground := Ground.chain }, { on := 17, ground := Ground.guard }], guard := some (17, false) }) rfl (fun K hK => ?_) AllReadyH.nil
  go_simp
  go_at_call 56
  refine (hd_flip H9b2.out hk5 (flAll.2.1.mono (by omega)) 0 1 2047 (by omega)).mono ?_
  rintro e vb3 ⟨rfl, FFb3, hh⟩
  rw [he6]
  rw [q6] at hh
  have H9b3 := hide hh
  have hSnew := H9b3.out.sx
  clear hh
  go_wp2_with fail
  refine hK.out _ _ hSnew (fun hHeld20 => ?_)
  clear hK K hSnew
  clear hHeld
  have hHeld := hHeld20
  clear hHeld20
  try simp only [Act.put, List.setIfInBounds_toArray, List.set_cons_zero, List.set_cons_succ]
  refine wpAnyH_ready (rs := [21]) (by kernel_rfl) (by simp) ?_
  refine AllReadyH.cons (o := { dst := some 91, op := Op.call { callee := Callee.value (Operand.func 11), args := #[Operand.tmp 90], argTypes := #[30] }, type := 3, pos := "outright.go:33", after := #[{ on := 20, ground := Ground.data }, { on := 20, ground := Ground.chain }, { on := 17, ground := Ground.guard }], guard := some (17, false) }) rfl (fun K hK => ?_) AllReadyH.nil
  go_simp
  go_at_call 11
  refine (no_any' 46 _).mono ?_
  rintro e v0 ⟨rfl, hv0⟩
  subst hv0
  have hSnew := H9b3.out.sx
  go_wp2_with fail
  refine hK.out _ _ hSnew (fun hHeld21 => ?_)
  clear hK K hSnew
  clear hHeld
  have hHeld := hHeld21
  clear hHeld21
  try simp only [Act.put, List.setIfInBounds_toArray, List.set_cons_zero, List.set_cons_succ]
  refine wpAnyH_take (i := 22) (oi := { dst := some 92, op := Op.binOp BinOp.neq 3 (Operand.tmp 91) (Operand.const (Value.int IntKind.i64 46)) 3, type := 4, pos := "outright.go:33", after := #[{ on := 21, ground := Ground.data }, { on := 17, ground := Ground.guard }], guard := some (17, false) }) (v := ?v22b) rfl (by kernel_rfl) (by kernel_rfl) (by kernel_rfl) (fun _ _ _ h => h) (Or.inl ⟨by rfl, ?y22b⟩) (by assumption) ?r22b
  case y22b => (intro x hx; (try dsimp only at hx); go_simp; try with_reducible rfl)
  try simp only [Act.put, List.setIfInBounds_toArray, List.set_cons_zero, List.set_cons_succ]
  refine wpAnyH_take (i := 23) (oi := { dst := some 93, op := Op.pick (Operand.tmp 87) (Operand.const (Value.bool true)) (Operand.tmp 92), type := 4, pos := "outright.go:33", after := #[{ on := 17, ground := Ground.data }, { on := 22, ground := Ground.data }], guard := none }) (v := ?v23b) rfl (by kernel_rfl) (by kernel_rfl) (by kernel_rfl) (fun _ _ _ h => h) (Or.inl ⟨by rfl, ?y23b⟩) (by assumption) ?r23b
  case y23b => (intro x hx; (try dsimp only at hx); go_simp; try with_reducible rfl)
  try simp only [Act.put, List.setIfInBounds_toArray, List.set_cons_zero, List.set_cons_succ]
  refine wpAnyH_take (i := 24) (oi := { dst := some 94, op := Op.move (Operand.tmp 93), type := 4, pos := "outright.go:33", after := #[{ on := 23, ground := Ground.data }, { on := 21, ground := Ground.chain }], guard := none }) (v := ?v24b) rfl (by kernel_rfl) (by kernel_rfl) (by kernel_rfl) (fun _ _ _ h => h) (Or.inl ⟨by rfl, ?y24b⟩) (by assumption) ?r24b
  case y24b => (intro x hx; (try dsimp only at hx); go_simp; try with_reducible rfl)
  try simp only [Act.put, List.setIfInBounds_toArray, List.set_cons_zero, List.set_cons_succ]
  refine wpAnyH_take (i := 25) (oi := { dst := some 95, op := Op.move (Operand.tmp 2), type := 29, pos := "outright.go:33", after := #[{ on := 24, ground := Ground.guard }], guard := some (24, false) }) (v := ?v25b) rfl (by kernel_rfl) (by kernel_rfl) (by kernel_rfl) (fun _ _ _ h => h) (Or.inl ⟨by rfl, ?y25b⟩) (by assumption) ?r25b
  case y25b => (intro x hx; (try dsimp only at hx); go_simp; try with_reducible rfl)
  try simp only [Act.put, List.setIfInBounds_toArray, List.set_cons_zero, List.set_cons_succ]
  refine wpAnyH_take (i := 26) (oi := { dst := some 96, op := Op.load 41 (Operand.tmp 4), type := 41, pos := "outright.go:33", after := #[{ on := 24, ground := Ground.guard }], guard := some (24, false) }) (v := ?v26b) rfl (by kernel_rfl) (by kernel_rfl) (by kernel_rfl) (fun _ _ _ h => h) (Or.inl ⟨by rfl, ?y26b⟩) (by assumption) ?r26b
  case y26b => (intro x hx; (try dsimp only at hx); go_simp; try with_reducible rfl)
  try simp only [Act.put, List.setIfInBounds_toArray, List.set_cons_zero, List.set_cons_succ]
  refine wpAnyH_ready (rs := [27]) (by kernel_rfl) (by simp) ?_
  refine AllReadyH.cons (o := { dst := some 97, op := Op.call { callee := Callee.value (Operand.func 56), args := #[Operand.tmp 95, Operand.tmp 96, Operand.const (Value.int IntKind.i64 2048)], argTypes := #[29, 41, 3] }, type := 30, pos := "outright.go:33", after := #[{ on := 25, ground := Ground.data }, { on := 26, ground := Ground.data }, { on := 24, ground := Ground.chain }, { on := 24, ground := Ground.guard }], guard := some (24, false) }) rfl (fun K hK => ?_) AllReadyH.nil
  go_simp
  go_at_call 56
  refine (hd_flip H9b3.out hk6 (flAll.2.2.1.mono (by omega)) 0 1 2048 (by omega)).mono ?_
  rintro e vb4 ⟨rfl, FFb4, hh⟩
  rw [he7]
  rw [q7] at hh
  have H9b4 := hide hh
  have hSnew := H9b4.out.sx
  clear hh
  go_wp2_with fail
  refine hK.out _ _ hSnew (fun hHeld27 => ?_)
  clear hK K hSnew
  clear hHeld
  have hHeld := hHeld27
  clear hHeld27
  try simp only [Act.put, List.setIfInBounds_toArray, List.set_cons_zero, List.set_cons_succ]
  refine wpAnyH_ready (rs := [28]) (by kernel_rfl) (by simp) ?_
  refine AllReadyH.cons (o := { dst := some 98, op := Op.call { callee := Callee.value (Operand.func 11), args := #[Operand.tmp 97], argTypes := #[30] }, type := 3, pos := "outright.go:33", after := #[{ on := 27, ground := Ground.data }, { on := 27, ground := Ground.chain }, { on := 24, ground := Ground.guard }], guard := some (24, false) }) rfl (fun K hK => ?_) AllReadyH.nil
  go_simp
  go_at_call 11
  refine (no_any' 0 _).mono ?_
  rintro e v0 ⟨rfl, hv0⟩
  subst hv0
  have hSnew := H9b4.out.sx
  go_wp2_with fail
  refine hK.out _ _ hSnew (fun hHeld28 => ?_)
  clear hK K hSnew
  clear hHeld
  have hHeld := hHeld28
  clear hHeld28
  try simp only [Act.put, List.setIfInBounds_toArray, List.set_cons_zero, List.set_cons_succ]
  refine wpAnyH_take (i := 29) (oi := { dst := some 99, op := Op.binOp BinOp.neq 3 (Operand.tmp 98) (Operand.const (Value.int IntKind.i64 0)) 3, type := 4, pos := "outright.go:33", after := #[{ on := 28, ground := Ground.data }, { on := 24, ground := Ground.guard }], guard := some (24, false) }) (v := ?v29b) rfl (by kernel_rfl) (by kernel_rfl) (by kernel_rfl) (fun _ _ _ h => h) (Or.inl ⟨by rfl, ?y29b⟩) (by assumption) ?r29b
  case y29b => (intro x hx; (try dsimp only at hx); go_simp; try with_reducible rfl)
  try simp only [Act.put, List.setIfInBounds_toArray, List.set_cons_zero, List.set_cons_succ]
  refine wpAnyH_take (i := 30) (oi := { dst := some 100, op := Op.pick (Operand.tmp 94) (Operand.const (Value.bool true)) (Operand.tmp 99), type := 4, pos := "outright.go:33", after := #[{ on := 24, ground := Ground.data }, { on := 29, ground := Ground.data }], guard := none }) (v := ?v30b) rfl (by kernel_rfl) (by kernel_rfl) (by kernel_rfl) (fun _ _ _ h => h) (Or.inl ⟨by rfl, ?y30b⟩) (by assumption) ?r30b
  case y30b => (intro x hx; (try dsimp only at hx); go_simp; try with_reducible rfl)
  try simp only [Act.put, List.setIfInBounds_toArray, List.set_cons_zero, List.set_cons_succ]
  refine wpAnyH_take (i := 31) (oi := { dst := some 101, op := Op.move (Operand.tmp 100), type := 4, pos := "outright.go:33", after := #[{ on := 30, ground := Ground.data }, { on := 28, ground := Ground.chain }], guard := none }) (v := ?v31b) rfl (by kernel_rfl) (by kernel_rfl) (by kernel_rfl) (fun _ _ _ h => h) (Or.inl ⟨by rfl, ?y31b⟩) (by assumption) ?r31b
  case y31b => (intro x hx; (try dsimp only at hx); go_simp; try with_reducible rfl)
  try simp only [Act.put, List.setIfInBounds_toArray, List.set_cons_zero, List.set_cons_succ]
  refine wpAnyH_take (i := 32) (oi := { dst := some 102, op := Op.move (Operand.tmp 2), type := 29, pos := "outright.go:33", after := #[{ on := 31, ground := Ground.guard }], guard := some (31, false) }) (v := ?v32b) rfl (by kernel_rfl) (by kernel_rfl) (by kernel_rfl) (fun _ _ _ h => h) (Or.inl ⟨by rfl, ?y32b⟩) (by assumption) ?r32b
  case y32b => (intro x hx; (try dsimp only at hx); go_simp; try with_reducible rfl)
  try simp only [Act.put, List.setIfInBounds_toArray, List.set_cons_zero, List.set_cons_succ]
  refine wpAnyH_take (i := 33) (oi := { dst := some 103, op := Op.load 41 (Operand.tmp 4), type := 41, pos := "outright.go:33", after := #[{ on := 31, ground := Ground.guard }], guard := some (31, false) }) (v := ?v33b) rfl (by kernel_rfl) (by kernel_rfl) (by kernel_rfl) (fun _ _ _ h => h) (Or.inl ⟨by rfl, ?y33b⟩) (by assumption) ?r33b
  case y33b => (intro x hx; (try dsimp only at hx); go_simp; try with_reducible rfl)
  try simp only [Act.put, List.setIfInBounds_toArray, List.set_cons_zero, List.set_cons_succ]
  refine wpAnyH_ready (rs := [34]) (by kernel_rfl) (by simp) ?_
  refine AllReadyH.cons (o := { dst := some 104, op := Op.call { callee := Callee.value (Operand.func 56), args := #[Operand.tmp 102, Operand.tmp 103, Operand.const (Value.int IntKind.i64 2500)], argTypes := #[29, 41, 3] }, type := 30, pos := "outright.go:33", after := #[{ on := 32, ground := Ground.data }, { on := 33, ground := Ground.data }, { on := 31, ground := Ground.chain }, { on := 31, ground := Ground.guard }], guard := some (31, false) }) rfl (fun K hK => ?_) AllReadyH.nil
  go_simp
  go_at_call 56
  refine (hd_flip H9b4.out hk7 (flAll.2.2.2.1.mono (by omega)) 0 1 2500 (by omega)).mono ?_
  rintro e vb5 ⟨rfl, FFb5, hh⟩
  rw [he8]
  rw [q8] at hh
  have H9b5 := hide hh
  have hSnew := H9b5.out.sx
  clear hh
  go_wp2_with fail
  refine hK.out _ _ hSnew (fun hHeld34 => ?_)
  clear hK K hSnew
  clear hHeld
  have hHeld := hHeld34
  clear hHeld34
  try simp only [Act.put, List.setIfInBounds_toArray, List.set_cons_zero, List.set_cons_succ]
  refine wpAnyH_ready (rs := [35]) (by kernel_rfl) (by simp) ?_
  refine AllReadyH.cons (o := { dst := some 105, op := Op.call { callee := Callee.value (Operand.func 11), args := #[Operand.tmp 104], argTypes := #[30] }, type := 3, pos := "outright.go:33", after := #[{ on := 34, ground := Ground.data }, { on := 34, ground := Ground.chain }, { on := 31, ground := Ground.guard }], guard := some (31, false) }) rfl (fun K hK => ?_) AllReadyH.nil
  go_simp
  go_at_call 11
  refine (no_any' 46 _).mono ?_
  rintro e v0 ⟨rfl, hv0⟩
  subst hv0
  have hSnew := H9b5.out.sx
  go_wp2_with fail
  refine hK.out _ _ hSnew (fun hHeld35 => ?_)
  clear hK K hSnew
  clear hHeld
  have hHeld := hHeld35
  clear hHeld35
  try simp only [Act.put, List.setIfInBounds_toArray, List.set_cons_zero, List.set_cons_succ]
  refine wpAnyH_take (i := 36) (oi := { dst := some 106, op := Op.binOp BinOp.neq 3 (Operand.tmp 105) (Operand.const (Value.int IntKind.i64 46)) 3, type := 4, pos := "outright.go:33", after := #[{ on := 35, ground := Ground.data }, { on := 31, ground := Ground.guard }], guard := some (31, false) }) (v := ?v36b) rfl (by kernel_rfl) (by kernel_rfl) (by kernel_rfl) (fun _ _ _ h => h) (Or.inl ⟨by rfl, ?y36b⟩) (by assumption) ?r36b
  case y36b => (intro x hx; (try dsimp only at hx); go_simp; try with_reducible rfl)
  try simp only [Act.put, List.setIfInBounds_toArray, List.set_cons_zero, List.set_cons_succ]
  refine wpAnyH_take (i := 37) (oi := { dst := some 107, op := Op.pick (Operand.tmp 101) (Operand.const (Value.bool true)) (Operand.tmp 106), type := 4, pos := "outright.go:33", after := #[{ on := 31, ground := Ground.data }, { on := 36, ground := Ground.data }], guard := none }) (v := ?v37b) rfl (by kernel_rfl) (by kernel_rfl) (by kernel_rfl) (fun _ _ _ h => h) (Or.inl ⟨by rfl, ?y37b⟩) (by assumption) ?r37b
  case y37b => (intro x hx; (try dsimp only at hx); go_simp; try with_reducible rfl)
  try simp only [Act.put, List.setIfInBounds_toArray, List.set_cons_zero, List.set_cons_succ]
  refine wpAnyH_take (i := 38) (oi := { dst := some 108, op := Op.move (Operand.tmp 107), type := 4, pos := "outright.go:33", after := #[{ on := 37, ground := Ground.data }, { on := 35, ground := Ground.chain }], guard := none }) (v := ?v38b) rfl (by kernel_rfl) (by kernel_rfl) (by kernel_rfl) (fun _ _ _ h => h) (Or.inl ⟨by rfl, ?y38b⟩) (by assumption) ?r38b
  case y38b => (intro x hx; (try dsimp only at hx); go_simp; try with_reducible rfl)
  try simp only [Act.put, List.setIfInBounds_toArray, List.set_cons_zero, List.set_cons_succ]
  refine wpAnyH_take (i := 39) (oi := { dst := some 109, op := Op.move (Operand.tmp 2), type := 29, pos := "outright.go:33", after := #[{ on := 38, ground := Ground.guard }], guard := some (38, false) }) (v := ?v39b) rfl (by kernel_rfl) (by kernel_rfl) (by kernel_rfl) (fun _ _ _ h => h) (Or.inl ⟨by rfl, ?y39b⟩) (by assumption) ?r39b
  case y39b => (intro x hx; (try dsimp only at hx); go_simp; try with_reducible rfl)
  try simp only [Act.put, List.setIfInBounds_toArray, List.set_cons_zero, List.set_cons_succ]
  refine wpAnyH_take (i := 40) (oi := { dst := some 110, op := Op.build 41 #[], type := 41, pos := "outright.go:33", after := #[{ on := 38, ground := Ground.guard }], guard := some (38, false) }) (v := ?v40b) rfl (by kernel_rfl) (by kernel_rfl) (by kernel_rfl) (fun _ _ _ h => h) (Or.inl ⟨by rfl, ?y40b⟩) (by assumption) ?r40b
  case y40b => (intro x hx; (try dsimp only at hx); go_simp; try with_reducible rfl)
  try simp only [Act.put, List.setIfInBounds_toArray, List.set_cons_zero, List.set_cons_succ]
  refine wpAnyH_ready (rs := [41]) (by kernel_rfl) (by simp) ?_
  refine AllReadyH.cons (o := { dst := some 111, op := Op.call { callee := Callee.value (Operand.func 56), args := #[Operand.tmp 109, Operand.tmp 110, Operand.const (Value.int IntKind.i64 1)], argTypes := #[29, 41, 3] }, type := 30, pos := "outright.go:33", after := #[{ on := 39, ground := Ground.data }, { on := 40, ground := Ground.data }, { on := 38, ground := Ground.chain }, { on := 38, ground := Ground.guard }], guard := some (38, false) }) rfl (fun K hK => ?_) AllReadyH.nil
  go_simp
  go_at_call 56
  refine (hd_flip H9b5.out hk8 (flAll.2.2.2.2.mono (by omega)) 0 0 1 (by omega)).mono ?_
  rintro e vb6 ⟨rfl, FFb6, hh⟩
  rw [he9]
  rw [q9] at hh
  have H9b6 := hide hh
  have hSnew := H9b6.out.sx
  clear hh
  go_wp2_with fail
  refine hK.out _ _ hSnew (fun hHeld41 => ?_)
  clear hK K hSnew
  clear hHeld
  have hHeld := hHeld41
  clear hHeld41
  try simp only [Act.put, List.setIfInBounds_toArray, List.set_cons_zero, List.set_cons_succ]
  refine wpAnyH_ready (rs := [42]) (by kernel_rfl) (by simp) ?_
  refine AllReadyH.cons (o := { dst := some 112, op := Op.call { callee := Callee.value (Operand.func 11), args := #[Operand.tmp 111], argTypes := #[30] }, type := 3, pos := "outright.go:33", after := #[{ on := 41, ground := Ground.data }, { on := 41, ground := Ground.chain }, { on := 38, ground := Ground.guard }], guard := some (38, false) }) rfl (fun K hK => ?_) AllReadyH.nil
  go_simp
  go_at_call 11
  refine (no_any' 46 _).mono ?_
  rintro e v0 ⟨rfl, hv0⟩
  subst hv0
  have hSnew := H9b6.out.sx
  go_wp2_with fail
  refine hK.out _ _ hSnew (fun hHeld42 => ?_)
  clear hK K hSnew
  clear hHeld
  have hHeld := hHeld42
  clear hHeld42
  try simp only [Act.put, List.setIfInBounds_toArray, List.set_cons_zero, List.set_cons_succ]
  refine wpAnyH_take (i := 43) (oi := { dst := some 113, op := Op.binOp BinOp.neq 3 (Operand.tmp 112) (Operand.const (Value.int IntKind.i64 46)) 3, type := 4, pos := "outright.go:33", after := #[{ on := 42, ground := Ground.data }, { on := 38, ground := Ground.guard }], guard := some (38, false) }) (v := ?v43b) rfl (by kernel_rfl) (by kernel_rfl) (by kernel_rfl) (fun _ _ _ h => h) (Or.inl ⟨by rfl, ?y43b⟩) (by assumption) ?r43b
  case y43b => (intro x hx; (try dsimp only at hx); go_simp; try with_reducible rfl)
  try simp only [Act.put, List.setIfInBounds_toArray, List.set_cons_zero, List.set_cons_succ]
  refine wpAnyH_take (i := 44) (oi := { dst := some 114, op := Op.pick (Operand.tmp 108) (Operand.const (Value.bool true)) (Operand.tmp 113), type := 4, pos := "outright.go:33", after := #[{ on := 38, ground := Ground.data }, { on := 43, ground := Ground.data }], guard := none }) (v := ?v44b) rfl (by kernel_rfl) (by kernel_rfl) (by kernel_rfl) (fun _ _ _ h => h) (Or.inl ⟨by rfl, ?y44b⟩) (by assumption) ?r44b
  case y44b => (intro x hx; (try dsimp only at hx); go_simp; try with_reducible rfl)
  try simp only [Act.put, List.setIfInBounds_toArray, List.set_cons_zero, List.set_cons_succ]
  refine wpAnyH_done (by kernel_rfl) ?_ _
  clear hHeld
  obtain ⟨k0, k1, k2, k3, k4, k5, k6⟩ := H9b6.out.sx
  have fz6 := fun j => frozen_of_row _ b6 j _ 36 (H9b6.out.blk List.mem_cons_self)
  go_upto_region 13 with (first | (go_at_call 13; refine (hd_read H9b6.out hk9 hc_S.2.1 (32 :: List.replicate 255 0) (1 :: List.replicate 56 0) (by simp) hr9).mono ?_; rintro e v12 hrd; obtain ⟨⟨g3, c3, g4, c4, rfl, o1, o2⟩, hd9, b9⟩ := hrd; have H11 := hide hd9; have HR3 := hide o1; have HR4 := hide o2; obtain ⟨j0, j1, j2, j3, j4, j5, j6⟩ := hd9.sx; have fz7 := fun j => frozen_of_row v12 b6 j _ 36 (hd9.blk List.mem_cons_self); clear o1 o2 hd9 b9 k0 k1 k2 k3 k4 k5 k6 fz6))
  have H12 := hide (hd_page (x0 := .slice (some ⟨g3, 0, none⟩) 256 c3) (x1 := .slice (some ⟨g4, 0, none⟩) 57 c4) H11.out)
  have HR3 := hide (own_page (x0 := .slice (some ⟨g3, 0, none⟩) 256 c3) (x1 := .slice (some ⟨g4, 0, none⟩) 57 c4) (H11.out.blk List.mem_cons_self) HR3.out)
  have HR4 := hide (own_page (x0 := .slice (some ⟨g3, 0, none⟩) 256 c3) (x1 := .slice (some ⟨g4, 0, none⟩) 57 c4) (H11.out.blk List.mem_cons_self) HR4.out)
  generalize hU : World.setCell _ ⟨b6, 1, none⟩ _ = U12 at H12 HR3 HR4 ⊢
  clear hU H11 j0 j1 j2 j3 j4 j5 j6 fz7
  obtain ⟨k0, k1, k2, k3, k4, k5, k6⟩ := H12.out.sx
  have d0 := HR3.out.cell 0 (by omega)
  have d1 := HR4.out.cell 0 (by omega)
  simp only [List.getD_cons_zero] at d0 d1
  go_upto_region 15 with (first | (go_at_call 11; refine (no_any' 0 _).mono ?_; rintro e v0 ⟨rfl, hv0⟩; subst hv0) | (go_at_call 51; refine (hd_erase H12.out hk9 (by have := htl.2.2.2.2; omega) 0).mono ?_; rintro e v14 ⟨rfl, FFc, hh⟩; rw [he10]; rw [q10] at hh; have H14 := hide hh; clear hh k0 k1 k2 k3 k4 k5 k6 d0 d1))
  obtain ⟨k0, k1, k2, k3, k4, k5, k6⟩ := H14.out.sx
  have fz6 := fun j => frozen_of_row _ b6 j _ 36 (H14.out.blk List.mem_cons_self)
  go_upto_region 16 with (first | (go_at_call 13; refine (hd_read H14.out hk10 hc_S.2.2 (List.replicate 256 255) (List.replicate 57 255) (by simp) hr10).mono ?_; rintro e v15 hrd; obtain ⟨⟨g5, c5, g6, c6, rfl, o1, o2⟩, hd9, b9⟩ := hrd; have H15 := hide hd9; have HR5 := hide o1; have HR6 := hide o2; obtain ⟨j0, j1, j2, j3, j4, j5, j6⟩ := hd9.sx; have fz7 := fun j => frozen_of_row v15 b6 j _ 36 (hd9.blk List.mem_cons_self); clear o1 o2 hd9 b9 k0 k1 k2 k3 k4 k5 k6 fz6))
  have H5 := hide ((hd_page (x0 := .slice (some ⟨g5, 0, none⟩) 256 c5) (x1 := .slice (some ⟨g6, 0, none⟩) 57 c6) H15.out).below (drew_below _))
  have HR5 := hide ((own_page (x0 := .slice (some ⟨g5, 0, none⟩) 256 c5) (x1 := .slice (some ⟨g6, 0, none⟩) 57 c6) (H15.out.blk List.mem_cons_self) HR5.out).below (drew_below _))
  have HR6 := hide ((own_page (x0 := .slice (some ⟨g5, 0, none⟩) 256 c5) (x1 := .slice (some ⟨g6, 0, none⟩) 57 c6) (H15.out.blk List.mem_cons_self) HR6.out).below (drew_below _))
  generalize hU : World.setCell _ ⟨b6, 1, none⟩ _ = U15 at H5 HR5 HR6 ⊢
  clear hU H15 j0 j1 j2 j3 j4 j5 j6 fz7
  refine wp_region_held_drew (S := (fun u => u.cell? ⟨b1, 0, none⟩ = some (.int .i64 8) ∧ u.cell? ⟨b1, 1, none⟩ = some (.int .i64 4) ∧ u.cell? ⟨b1, 2, none⟩ = some (.int .i64 1) ∧ u.cell? ⟨b4, 0, none⟩ = some (.int .i64 0) ∧ u.cell? ⟨b4, 1, none⟩ = some (.int .i64 1) ∧ u.cell? ⟨b6, 0, none⟩ = some (.slice (some ⟨g5, 0, none⟩) 256 c5) ∧ u.cell? ⟨b6, 1, none⟩ = some (.slice (some ⟨g6, 0, none⟩) 57 c6))) (by kernel_rfl) (H5.out.sx) (fun hHeld => ?_)
  refine wpAnyH_take (i := 0) (oi := { dst := some 150, op := Op.move (Operand.tmp 3), type := 30, pos := "outright.go:41", after := #[], guard := none }) (v := ?v0d) rfl (by kernel_rfl) (by kernel_rfl) (by kernel_rfl) (fun _ _ _ h => h) (Or.inl ⟨by rfl, ?y0d⟩) (by assumption) ?r0d
  case y0d => (intro x hx; (try dsimp only at hx); go_simp; try with_reducible rfl)
  try simp only [Act.put, List.setIfInBounds_toArray, List.set_cons_zero, List.set_cons_succ]
  refine wpAnyH_ready (rs := [1]) (by kernel_rfl) (by simp) ?_
  refine AllReadyH.cons (o := { dst := some 151, op := Op.call { callee := Callee.value (Operand.func 11), args := #[Operand.tmp 150], argTypes := #[30] }, type := 3, pos := "outright.go:41", after := #[{ on := 0, ground := Ground.data }], guard := none }) rfl (fun K hK => ?_) AllReadyH.nil
  go_simp
  go_at_call 11
  refine (no_any' 0 _).mono ?_
  rintro e v0 ⟨rfl, hv0⟩
  subst hv0
  have hSnew := H5.out.sx
  go_wp2_with fail
  refine hK.out _ _ hSnew (fun hHeld1 => ?_)
  clear hK K hSnew
  clear hHeld
  have hHeld := hHeld1
  clear hHeld1
  try simp only [Act.put, List.setIfInBounds_toArray, List.set_cons_zero, List.set_cons_succ]
  refine wpAnyH_take (i := 2) (oi := { dst := some 152, op := Op.binOp BinOp.eql 3 (Operand.tmp 151) (Operand.const (Value.int IntKind.i64 0)) 3, type := 4, pos := "outright.go:41", after := #[{ on := 1, ground := Ground.data }], guard := none }) (v := ?v2d) rfl (by kernel_rfl) (by kernel_rfl) (by kernel_rfl) (fun _ _ _ h => h) (Or.inl ⟨by rfl, ?y2d⟩) (by assumption) ?r2d
  case y2d => (intro x hx; (try dsimp only at hx); go_simp; try with_reducible rfl)
  try simp only [Act.put, List.setIfInBounds_toArray, List.set_cons_zero, List.set_cons_succ]
  refine wpAnyH_take (i := 3) (oi := { dst := some 153, op := Op.move (Operand.tmp 152), type := 4, pos := "outright.go:41", after := #[{ on := 2, ground := Ground.data }, { on := 1, ground := Ground.chain }], guard := none }) (v := ?v3d) rfl (by kernel_rfl) (by kernel_rfl) (by kernel_rfl) (fun _ _ _ h => h) (Or.inl ⟨by rfl, ?y3d⟩) (by assumption) ?r3d
  case y3d => (intro x hx; (try dsimp only at hx); go_simp; try with_reducible rfl)
  try simp only [Act.put, List.setIfInBounds_toArray, List.set_cons_zero, List.set_cons_succ]
  refine wpAnyH_take (i := 4) (oi := { dst := some 154, op := Op.load 36 (Operand.tmp 6), type := 36, pos := "outright.go:41", after := #[{ on := 3, ground := Ground.guard }], guard := some (3, true) }) (v := ?v4d) rfl (by kernel_rfl) (by kernel_rfl) (by kernel_rfl) (fun _ _ _ h => h) (Or.inl ⟨by rfl, ?y4d⟩) (by assumption) ?r4d
  case y4d => (intro x hx; (try dsimp only at hx); go_simp; try with_reducible rfl)
  try simp only [Act.put, List.setIfInBounds_toArray, List.set_cons_zero, List.set_cons_succ]
  refine wpAnyH_take (i := 5) (oi := { dst := some 155, op := Op.load 23 (Operand.tmp 1), type := 23, pos := "outright.go:41", after := #[{ on := 3, ground := Ground.guard }], guard := some (3, true) }) (v := ?v5d) rfl (by kernel_rfl) (by kernel_rfl) (by kernel_rfl) (fun _ _ _ h => h) (Or.inl ⟨by rfl, ?y5d⟩) (by assumption) ?r5d
  case y5d => (intro x hx; (try dsimp only at hx); go_simp; try with_reducible rfl)
  try simp only [Act.put, List.setIfInBounds_toArray, List.set_cons_zero, List.set_cons_succ]
  refine wpAnyH_ready (rs := [6]) (by kernel_rfl) (by simp) ?_
  refine AllReadyH.cons (o := { dst := some 156, op := Op.call { callee := Callee.value (Operand.func 54), args := #[Operand.tmp 155, Operand.const (Value.int IntKind.u8 255)], argTypes := #[23, 5] }, type := 36, pos := "outright.go:41", after := #[{ on := 5, ground := Ground.data }, { on := 3, ground := Ground.chain }, { on := 3, ground := Ground.guard }], guard := some (3, true) }) rfl (fun K hK => ?_) AllReadyH.nil
  go_simp
  go_at_call 54
  refine (even_any _ 8 4 1 (by decide) 255 (by decide)).mono ?_
  rintro e vd1 hev
  obtain ⟨⟨g1, c1, g2, c2, rfl, o1, o2⟩, bev⟩ := hev
  have HO1d1 := hide o1
  have HO2d1 := hide o2
  have HBEd1 := hide bev
  have H5d1 := hide (H5.out.below bev)
  have hSnew := H5d1.out.sx
  clear o1 o2 bev
  go_wp2_with fail
  refine hK.out _ _ hSnew (fun hHeld6 => ?_)
  clear hK K hSnew
  clear hHeld
  have hHeld := hHeld6
  clear hHeld6
  try simp only [Act.put, List.setIfInBounds_toArray, List.set_cons_zero, List.set_cons_succ]
  refine wpAnyH_ready (rs := [7]) (by kernel_rfl) (by simp) ?_
  refine AllReadyH.cons (o := { dst := some 157, op := Op.call { callee := Callee.value (Operand.func 55), args := #[Operand.tmp 154, Operand.tmp 156], argTypes := #[36, 36] }, type := 4, pos := "outright.go:41", after := #[{ on := 4, ground := Ground.data }, { on := 6, ground := Ground.data }, { on := 6, ground := Ground.chain }, { on := 3, ground := Ground.guard }], guard := some (3, true) }) rfl (fun K hK => ?_) AllReadyH.nil
  go_simp
  go_at_call 55
  refine (samePage_eq _ _ _ _ _ 256 57 _ _ _ _ (List.replicate 256 255) (List.replicate 57 255) (own_repl (HR5.out.below HBEd1.out) (by decide)) (own_repl (HR6.out.below HBEd1.out) (by decide)) (own_repl HO1d1.out (by decide)) (own_repl HO2d1.out (by decide))).mono ?_
  rintro e vs ⟨rfl, bs⟩
  have H5s := hide (H5d1.out.below bs)
  have hSnew := H5s.out.sx
  clear bs
  go_wp2_with fail
  refine hK.out _ _ hSnew (fun hHeld7 => ?_)
  clear hK K hSnew
  clear hHeld
  have hHeld := hHeld7
  clear hHeld7
  try simp only [Act.put, List.setIfInBounds_toArray, List.set_cons_zero, List.set_cons_succ]
  refine wpAnyH_take (i := 8) (oi := { dst := some 158, op := Op.pick (Operand.tmp 153) (Operand.tmp 157) (Operand.const (Value.bool false)), type := 4, pos := "outright.go:41", after := #[{ on := 3, ground := Ground.data }, { on := 7, ground := Ground.data }], guard := none }) (v := ?v8d) rfl (by kernel_rfl) (by kernel_rfl) (by kernel_rfl) (fun _ _ _ h => h) (Or.inl ⟨by rfl, ?y8d⟩) (by assumption) ?r8d
  case y8d => (intro x hx; (try dsimp only at hx); go_simp; try with_reducible rfl)
  try simp only [Act.put, List.setIfInBounds_toArray, List.set_cons_zero, List.set_cons_succ]
  refine wpAnyH_take (i := 9) (oi := { dst := some 159, op := Op.move (Operand.tmp 158), type := 4, pos := "outright.go:41", after := #[{ on := 8, ground := Ground.data }, { on := 7, ground := Ground.chain }], guard := none }) (v := ?v9d) rfl (by kernel_rfl) (by kernel_rfl) (by kernel_rfl) (fun _ _ _ h => h) (Or.inl ⟨by rfl, ?y9d⟩) (by assumption) ?r9d
  case y9d => (intro x hx; (try dsimp only at hx); go_simp; try with_reducible rfl)
  try simp only [Act.put, List.setIfInBounds_toArray, List.set_cons_zero, List.set_cons_succ]
  refine wpAnyH_take (i := 10) (oi := { dst := some 160, op := Op.move (Operand.tmp 2), type := 29, pos := "outright.go:41", after := #[{ on := 9, ground := Ground.guard }], guard := some (9, true) }) (v := ?v10d) rfl (by kernel_rfl) (by kernel_rfl) (by kernel_rfl) (fun _ _ _ h => h) (Or.inl ⟨by rfl, ?y10d⟩) (by assumption) ?r10d
  case y10d => (intro x hx; (try dsimp only at hx); go_simp; try with_reducible rfl)
  try simp only [Act.put, List.setIfInBounds_toArray, List.set_cons_zero, List.set_cons_succ]
  refine wpAnyH_ready (rs := [11]) (by kernel_rfl) (by simp) ?_
  refine AllReadyH.cons (o := { dst := some 161, op := Op.call { callee := Callee.value (Operand.func 18), args := #[Operand.tmp 160], argTypes := #[29] }, type := 3, pos := "outright.go:41", after := #[{ on := 10, ground := Ground.data }, { on := 9, ground := Ground.chain }, { on := 9, ground := Ground.guard }], guard := some (9, true) }) rfl (fun K hK => ?_) AllReadyH.nil
  go_simp
  go_at_call 18
  refine (Count_any _ p _ hc10 H5s.out.ch).mono ?_
  rintro e vt ⟨rfl, hvt⟩
  subst hvt
  rw [hn10.1]
  have hSnew := H5s.out.sx
  go_wp2_with fail
  refine hK.out _ _ hSnew (fun hHeld11 => ?_)
  clear hK K hSnew
  clear hHeld
  have hHeld := hHeld11
  clear hHeld11
  try simp only [Act.put, List.setIfInBounds_toArray, List.set_cons_zero, List.set_cons_succ]
  refine wpAnyH_take (i := 12) (oi := { dst := some 162, op := Op.binOp BinOp.eql 3 (Operand.tmp 161) (Operand.const (Value.int IntKind.i64 2)) 3, type := 4, pos := "outright.go:41", after := #[{ on := 11, ground := Ground.data }, { on := 9, ground := Ground.guard }], guard := some (9, true) }) (v := ?v12d) rfl (by kernel_rfl) (by kernel_rfl) (by kernel_rfl) (fun _ _ _ h => h) (Or.inl ⟨by rfl, ?y12d⟩) (by assumption) ?r12d
  case y12d => (intro x hx; (try dsimp only at hx); go_simp; try with_reducible rfl)
  try simp only [Act.put, List.setIfInBounds_toArray, List.set_cons_zero, List.set_cons_succ]
  refine wpAnyH_take (i := 13) (oi := { dst := some 163, op := Op.pick (Operand.tmp 159) (Operand.tmp 162) (Operand.const (Value.bool false)), type := 4, pos := "outright.go:41", after := #[{ on := 9, ground := Ground.data }, { on := 12, ground := Ground.data }], guard := none }) (v := ?v13d) rfl (by kernel_rfl) (by kernel_rfl) (by kernel_rfl) (fun _ _ _ h => h) (Or.inl ⟨by rfl, ?y13d⟩) (by assumption) ?r13d
  case y13d => (intro x hx; (try dsimp only at hx); go_simp; try with_reducible rfl)
  try simp only [Act.put, List.setIfInBounds_toArray, List.set_cons_zero, List.set_cons_succ]
  refine wpAnyH_take (i := 14) (oi := { dst := some 164, op := Op.move (Operand.tmp 163), type := 4, pos := "outright.go:41", after := #[{ on := 13, ground := Ground.data }, { on := 11, ground := Ground.chain }], guard := none }) (v := ?v14d) rfl (by kernel_rfl) (by kernel_rfl) (by kernel_rfl) (fun _ _ _ h => h) (Or.inl ⟨by rfl, ?y14d⟩) (by assumption) ?r14d
  case y14d => (intro x hx; (try dsimp only at hx); go_simp; try with_reducible rfl)
  try simp only [Act.put, List.setIfInBounds_toArray, List.set_cons_zero, List.set_cons_succ]
  refine wpAnyH_take (i := 15) (oi := { dst := some 165, op := Op.move (Operand.tmp 2), type := 29, pos := "outright.go:41", after := #[{ on := 14, ground := Ground.guard }], guard := some (14, true) }) (v := ?v15d) rfl (by kernel_rfl) (by kernel_rfl) (by kernel_rfl) (fun _ _ _ h => h) (Or.inl ⟨by rfl, ?y15d⟩) (by assumption) ?r15d
  case y15d => (intro x hx; (try dsimp only at hx); go_simp; try with_reducible rfl)
  try simp only [Act.put, List.setIfInBounds_toArray, List.set_cons_zero, List.set_cons_succ]
  refine wpAnyH_ready (rs := [16]) (by kernel_rfl) (by simp) ?_
  refine AllReadyH.cons (o := { dst := some 166, op := Op.call { callee := Callee.value (Operand.func 19), args := #[Operand.tmp 165], argTypes := #[29] }, type := 45, pos := "outright.go:41", after := #[{ on := 15, ground := Ground.data }, { on := 14, ground := Ground.chain }, { on := 14, ground := Ground.guard }], guard := some (14, true) }) rfl (fun K hK => ?_) AllReadyH.nil
  go_simp
  go_at_call 19
  refine (Trace_any _ p _ hc10 H5s.out.ch (by have := hn10.2; omega)).mono ?_
  rintro e vt ⟨vv, rfl, hov, bt⟩
  rw [hn10.2] at hov
  obtain ⟨gt, ct, hvv, _⟩ := hov.form (by omega)
  subst hvv
  have H5t := hide (H5s.out.below bt)
  have hSnew := H5t.out.sx
  clear hov bt
  go_wp2_with fail
  refine hK.out _ _ hSnew (fun hHeld16 => ?_)
  clear hK K hSnew
  clear hHeld
  have hHeld := hHeld16
  clear hHeld16
  try simp only [Act.put, List.setIfInBounds_toArray, List.set_cons_zero, List.set_cons_succ]
  refine wpAnyH_take (i := 17) (oi := { dst := some 167, op := Op.call { callee := Callee.builtin Builtin.len, args := #[Operand.tmp 166], argTypes := #[45] }, type := 3, pos := "outright.go:41", after := #[{ on := 16, ground := Ground.data }, { on := 14, ground := Ground.guard }], guard := some (14, true) }) (v := ?v17d) rfl (by kernel_rfl) (by kernel_rfl) (by kernel_rfl) (fun _ _ _ h => h) (Or.inl ⟨by rfl, ?y17d⟩) (by assumption) ?r17d
  case y17d => (intro x hx; (try dsimp only at hx); go_simp; try with_reducible rfl)
  try simp only [Act.put, List.setIfInBounds_toArray, List.set_cons_zero, List.set_cons_succ]
  refine wpAnyH_take (i := 18) (oi := { dst := some 168, op := Op.binOp BinOp.eql 3 (Operand.tmp 167) (Operand.const (Value.int IntKind.i64 5)) 3, type := 4, pos := "outright.go:41", after := #[{ on := 17, ground := Ground.data }, { on := 14, ground := Ground.guard }], guard := some (14, true) }) (v := ?v18d) rfl (by kernel_rfl) (by kernel_rfl) (by kernel_rfl) (fun _ _ _ h => h) (Or.inl ⟨by rfl, ?y18d⟩) (by assumption) ?r18d
  case y18d => (intro x hx; (try dsimp only at hx); go_simp; try with_reducible rfl)
  try simp only [Act.put, List.setIfInBounds_toArray, List.set_cons_zero, List.set_cons_succ]
  refine wpAnyH_take (i := 19) (oi := { dst := some 169, op := Op.pick (Operand.tmp 164) (Operand.tmp 168) (Operand.const (Value.bool false)), type := 4, pos := "outright.go:41", after := #[{ on := 14, ground := Ground.data }, { on := 18, ground := Ground.data }], guard := none }) (v := ?v19d) rfl (by kernel_rfl) (by kernel_rfl) (by kernel_rfl) (fun _ _ _ h => h) (Or.inl ⟨by rfl, ?y19d⟩) (by assumption) ?r19d
  case y19d => (intro x hx; (try dsimp only at hx); go_simp; try with_reducible rfl)
  try simp only [Act.put, List.setIfInBounds_toArray, List.set_cons_zero, List.set_cons_succ]
  refine wpAnyH_take (i := 20) (oi := { dst := some 0, op := Op.assign (Operand.tmp 169), type := 4, pos := "outright.go:41", after := #[{ on := 19, ground := Ground.data }, { on := 16, ground := Ground.chain }, { on := 0, ground := Ground.phase }, { on := 1, ground := Ground.phase }, { on := 2, ground := Ground.phase }, { on := 3, ground := Ground.phase }, { on := 4, ground := Ground.phase }, { on := 5, ground := Ground.phase }, { on := 6, ground := Ground.phase }, { on := 7, ground := Ground.phase }, { on := 8, ground := Ground.phase }, { on := 9, ground := Ground.phase }, { on := 10, ground := Ground.phase }, { on := 11, ground := Ground.phase }, { on := 12, ground := Ground.phase }, { on := 13, ground := Ground.phase }, { on := 14, ground := Ground.phase }, { on := 15, ground := Ground.phase }, { on := 16, ground := Ground.phase }, { on := 17, ground := Ground.phase }, { on := 18, ground := Ground.phase }, { on := 19, ground := Ground.phase }], guard := none }) (v := ?v20d) rfl (by kernel_rfl) (by kernel_rfl) (by kernel_rfl) (fun _ _ _ h => h) (Or.inl ⟨by rfl, ?y20d⟩) (by assumption) ?r20d
  case y20d => (intro x hx; (try dsimp only at hx); go_simp; try with_reducible rfl)
  try simp only [Act.put, List.setIfInBounds_toArray, List.set_cons_zero]
  refine wpAnyH_done (by kernel_rfl) ?_ _
  clear hHeld
  go_wp2
  go_ret
  exact ⟨rfl, H5t.out.bel⟩
end Go.Proofs.Ytadlkikjfonkgaa
