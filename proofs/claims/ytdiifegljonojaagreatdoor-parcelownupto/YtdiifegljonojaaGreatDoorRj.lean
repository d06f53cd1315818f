/-
  SEAT YtdiifegljonojaaGreatDoor: the pieces of a row are read.
-/
import Derived.Test.YtdiifegljonojaaGreatDoorRi
namespace Go.Proofs.YtdiifegljonojaaGreatDoor
open Go.RowKit
set_option linter.unusedVariables false

section
variable {w wr u : World} {B q A : Nat} {rest rest' r2 : List Int} {g : Nat} {s4 : Value} {a x : Pe} {es : List Pe}
/-- The part of the state that stands apart from the reckoning. -/
structure PiT (w : World) (B q A : Nat) (s4 : Value) (wr : World) (a : Pe) (es : List Pe) (rest' : List Int) : Prop where
  rd : RdAt wr B q rest'
  pb : wr.heap[A]? = some (.cells a.cells.toArray 63 (0, 0))
  aok : a.Ok wr w.heap.size B
  own : wr.ownsRow (A + 1) 63 10 s4 es.length (flatP es)
  oks : ∀ x ∈ es, x.Ok wr w.heap.size B
  gr : w.grownBy wr (some q)
  bq : B ≤ q ∧ q < w.heap.size
  hA : w.heap.size ≤ A
theorem PiT.size (h : PiT w B q A s4 wr a es rest') : A < wr.heap.size := (Array.getElem?_eq_some_iff.1 h.pb).1
theorem PiT.bw (h : PiT w B q A s4 wr a es rest') : B ≤ wr.heap.size := by have := h.bq; have := h.gr.size; omega
theorem PiT.call (h : PiT w B q A s4 wr a es rest') (hg : wr.grownBy u (some q)) (hr : RdAt u B q r2) (hAq : A ≠ q) : PiT w B q A s4 u a es r2 := by
  obtain ⟨b, off, c, h0, _⟩ := h.rd
  have hb := h.bq
  have hA := h.hA
  refine ⟨hr, (hg.block A h.size (fun e => hAq (Option.some.inj e))).trans h.pb, h.aok.kept hg h0 (by decide) (by decide) hb.1 h.bw, h.own.kept hg ?_, fun x hx => (h.oks x hx).kept hg h0 (by decide) (by decide) hb.1 h.bw, grownBy_trans h.gr hg, hb, hA⟩
  cases hv : s4.ownBlock with
  | none => exact Or.inl rfl
  | some k => exact Or.inr (fun e => by have := (h.own.lt k hv).1; have := Option.some.inj e; omega)
theorem PiT.below (h : PiT w B q A s4 wr a es rest') (hb : Below wr.heap.size wr u) : PiT w B q A s4 u a es rest' := by
  refine ⟨h.rd.below hb, (hb.block A h.size).trans h.pb, h.aok.below hb h.bw, h.own.kept (grown_of hb none) ?_, fun x hx => (h.oks x hx).below hb h.bw, grownBy_trans h.gr (grown_of hb _), h.bq, h.hA⟩
  cases s4.ownBlock with
  | none => exact Or.inl rfl
  | some k => exact Or.inr (fun e => by cases e)
/-- A new piece ahead. -/
theorem PiT.ahead {cs : Array Value} (h : PiT w B q A s4 wr a es rest') (hg : wr.grownBy u (some A)) (h0 : wr.heap[A]? = some (.cells cs 63 (0, 0))) (hn : u.heap[A]? = some (.cells x.cells.toArray 63 (0, 0))) (hx : x.Ok wr w.heap.size B) (hBA : B ≤ A) : PiT w B q A s4 u x es rest' ∧ True := by
  have hb := h.bq
  have hA := h.hA
  refine ⟨⟨h.rd.other hg (fun e => by have := Option.some.inj e; omega) (fun i e => by have := Option.some.inj e; omega), hn, hx.kept hg h0 (by decide) (by decide) hBA h.bw, h.own.kept hg ?_, fun y hy => (h.oks y hy).kept hg h0 (by decide) (by decide) hBA h.bw, grown_past h.gr hg (fun i e => by have := Option.some.inj e; omega), hb, hA⟩, trivial⟩
  cases hv : s4.ownBlock with
  | none => exact Or.inl rfl
  | some k => exact Or.inr (fun e => by have := (h.own.lt k hv).1; have := Option.some.inj e; omega)
/-- One more in the list. -/
theorem PiT.push {v : Value} (h : PiT w B q A s4 wr a es rest') (hg : wr.grownBy u s4.ownBlock) (ho : u.ownsRow (A + 1) 63 10 v (es.length + 1) (flatP es ++ a.cells)) : PiT w B q A v u a (es ++ [a]) rest' := by
  have hb := h.bq
  have hA := h.hA
  have key : ∀ y : Pe, y.Ok wr w.heap.size B → y.Ok u w.heap.size B := by
    intro y hy
    cases hv : s4.ownBlock with
    | none => rw [hv] at hg; exact hy.below (below_of hg) h.bw
    | some k =>
      rcases h.own.2 with ⟨e, _⟩ | ⟨g, cap, cur, e, h1, h2, _⟩
      · rw [e] at hv; cases hv
      · rw [e] at hv hg
        have hg' : wr.grownBy u (some g) := hg
        exact hy.kept hg' h2 (by decide) (by decide) (by omega) h.bw
  have hlow : ∀ i, i < A + 1 → some i ≠ s4.ownBlock := fun i hi e => by have := (h.own.lt i e.symm).1; omega
  refine ⟨h.rd.other hg (fun e => hlow q (by omega) e.symm) (fun i e => by have := (h.own.lt i e).1; omega), (hg.block A h.size (hlow A (by omega))).trans h.pb, key a h.aok, ?_, ?_, grown_past h.gr hg (fun i e => by have := (h.own.lt i e).1; omega), hb, hA⟩
  · rw [List.length_append, List.length_singleton, flatP_append]
    have e : flatP [a] = a.cells := by simp [flatP]
    rw [e]; exact ho
  · intro y hy
    rcases List.mem_append.1 hy with hy | hy
    · exact key y (h.oks y hy)
    · rw [List.mem_singleton.1 hy]; exact key a h.aok
end

theorem row_lower {w : World} {B B' : Nat} {e : TypeId} {size : Nat} {v : Value} {n : Nat} {xs : List Value} (h : w.ownsRow B e size v n xs) (hb : B' ≤ B) : w.ownsRow B' e size v n xs := by
  refine ⟨h.1, ?_⟩
  rcases h.2 with h2 | ⟨g, cap, cur, hv, hg, r⟩
  · exact Or.inl h2
  · exact Or.inr ⟨g, cap, cur, hv, Nat.le_trans hb hg, r⟩


theorem pi_step {w t2 t4 : World} {B q A : Nat} {r1 r2 : List Int} {s4 : Value} {a x : Pe} {es : List Pe} (h : PiT w B q A s4 t2 a es r1) (g4 : t2.grownBy t4 (some q)) (rd4 : RdAt t4 B q r2) (hx : x.Ok t4 w.heap.size B) (hAq : A ≠ q) (hBA : B ≤ A)
    (x0 x1 x2 x3 x4 x5 x6 x7 x8 x9 : Value) (hc : x.cells = [x0, x1, x2, x3, x4, x5, x6, x7, x8, x9]) : PiT w B q A s4 ((((((((((t4.setCell ⟨A, 0, none⟩ (x0)).setCell ⟨A, 1, none⟩ (x1)).setCell ⟨A, 2, none⟩ (x2)).setCell ⟨A, 3, none⟩ (x3)).setCell ⟨A, 4, none⟩ (x4)).setCell ⟨A, 5, none⟩ (x5)).setCell ⟨A, 6, none⟩ (x6)).setCell ⟨A, 7, none⟩ (x7)).setCell ⟨A, 8, none⟩ (x8)).setCell ⟨A, 9, none⟩ (x9)) x es r2 := by
  have h4 := h.call g4 rd4 hAq
  have hp : PB t4 A _ _ _ _ _ _ _ _ _ _ := h4.pb
  have hg : t4.grownBy ((((((((((t4.setCell ⟨A, 0, none⟩ (x0)).setCell ⟨A, 1, none⟩ (x1)).setCell ⟨A, 2, none⟩ (x2)).setCell ⟨A, 3, none⟩ (x3)).setCell ⟨A, 4, none⟩ (x4)).setCell ⟨A, 5, none⟩ (x5)).setCell ⟨A, 6, none⟩ (x6)).setCell ⟨A, 7, none⟩ (x7)).setCell ⟨A, 8, none⟩ (x8)).setCell ⟨A, 9, none⟩ (x9)) (some A) := (grownBy_trans (grownBy_trans (grownBy_trans (grownBy_trans (grownBy_trans (grownBy_trans (grownBy_trans (grownBy_trans (grownBy_trans (set_grown _ _ 0 _) (set_grown _ _ 1 _)) (set_grown _ _ 2 _)) (set_grown _ _ 3 _)) (set_grown _ _ 4 _)) (set_grown _ _ 5 _)) (set_grown _ _ 6 _)) (set_grown _ _ 7 _)) (set_grown _ _ 8 _)) (set_grown _ _ 9 _))
  have hn : PB ((((((((((t4.setCell ⟨A, 0, none⟩ (x0)).setCell ⟨A, 1, none⟩ (x1)).setCell ⟨A, 2, none⟩ (x2)).setCell ⟨A, 3, none⟩ (x3)).setCell ⟨A, 4, none⟩ (x4)).setCell ⟨A, 5, none⟩ (x5)).setCell ⟨A, 6, none⟩ (x6)).setCell ⟨A, 7, none⟩ (x7)).setCell ⟨A, 8, none⟩ (x8)).setCell ⟨A, 9, none⟩ (x9)) A x0 x1 x2 x3 x4 x5 x6 x7 x8 x9 := (pb_set9 (pb_set8 (pb_set7 (pb_set6 (pb_set5 (pb_set4 (pb_set3 (pb_set2 (pb_set1 (pb_set0 hp _) _) _) _) _) _) _) _) _) _)
  exact (h4.ahead hg h4.pb (by rw [hc]; exact hn) hx hBA).1

def PiInv (w : World) (B q A : Nat) (rest : List Int) (g : Nat) (s4 : Value) (wr : World) : Prop :=
  ∃ (a : Pe) (es : List Pe) (rest' : List Int), PiT w B q A s4 wr a es rest' ∧ piecesR rest = piecesL g a.p (es.map Pe.p) rest' ∧ rest'.length < g ∧ es.length + rest'.length ≤ 4194305

set_option maxHeartbeats 8000000 in
set_option maxRecDepth 100000 in
theorem pieces_any (B q : Nat) (rest : List Int) (w : World) (hR : RdAt w B q rest) (hl : rest.length ≤ 4194304) :
    Calls Tryz.prog 43 #[.pointer (some ⟨q, 0, none⟩)] w (Left w B q (piecesR rest) (PsV w B)) := by
  obtain ⟨i0, hi0, hz0, hz1, hz2⟩ := info_parts info63
  have HI : Hid (Tryz.prog.info? 63 = some i0 ∧ i0.zero = some (.agg #[.slice none 0 0, .bool false, .string ⟨#[]⟩, .int .i64 0, .int .i64 0, .int .u64 0, .slice none 0 0, .string ⟨#[]⟩, .int .i64 0, .slice none 0 0]) ∧ i0.size = 10 ∧ i0.bytes = 144) := ⟨hi0, hz0, hz1, hz2⟩
  have hBq := hR.lt
  have HR := hide hR
  obtain ⟨b, off, c, h0, h1, h2, h3, h4, h5⟩ := hR
  obtain ⟨m, hm⟩ : ∃ m, rest.length = m := ⟨_, rfl⟩
  rw [hm] at h0 h1 h2
  have c0 : w.cell? ⟨q, 0, none⟩ = some (.slice (some ⟨b, off, none⟩) m c) := by simp [World.cell?, h0]
  have HRW := hide h1
  have hmm : m ≤ 200000000000000 := by omega
  have hmc : m ≤ c := h2
  have hc9 : c ≤ 9223372036854775807 := h3
  have hqw : (⟨q, 0, none⟩ : Addr).block < w.heap.size := hBq.2
  clear h0 h1 h2 h3 hm hi0 hz0 hz1 hz2 h4 h5
  go_enter Tryz.func43, Tryz.ntmps43
  go_upto_region 1 with fail
  go_cut [15] from 6 to 15 (fun s15 wx => Hid (s15 = .bool (!decide (rest.take 5 = [80, 82, 67, 76, 1])) ∧ RdAt wx B q rest ∧ Below w.heap.size w wx))
  case first =>
    refine wp_region_held_drew (S := fun y : World => y.cell? ⟨q, 0, none⟩ = some (.slice (some ⟨b, off, none⟩) m c)) (by kernel_rfl) (by simpa using c0) (fun hHeld => ?_)
    have HB : Hid (Below w.heap.size w w.drew) := (Below.refl _ _).drew
    obtain ⟨X, hX⟩ : ∃ X, w.drew = X := ⟨_, rfl⟩
    rw [hX] at HB hHeld ⊢
    clear hX
    refine wpAnyH_take (i := 0) (oi := { dst := some 6, op := Op.move (Operand.tmp 0), type := 89, pos := "read.go:98", after := #[], guard := none }) (v := ?v0p) rfl (by kernel_rfl) (by kernel_rfl) (by kernel_rfl) (fun _ _ _ h => h) (Or.inl ⟨by rfl, ?y0p⟩) (by assumption) ?r0p
    case y0p => (intro x hx; (try dsimp only at hx); go_simp; try with_reducible rfl)
    try simp only [Act.put, List.setIfInBounds_toArray, List.set_cons_zero, List.set_cons_succ]
    refine wpAnyH_take (i := 1) (oi := { dst := some 7, op := Op.nilCheck (Operand.tmp 6), type := 0, pos := "read.go:98", after := #[{ on := 0, ground := Ground.data }], guard := none }) (v := ?v1p) rfl (by kernel_rfl) (by kernel_rfl) (by kernel_rfl) (fun _ _ _ h => h) (Or.inl ⟨by rfl, ?y1p⟩) (by assumption) ?r1p
    case y1p => (intro x hx; (try dsimp only at hx); go_simp; try with_reducible rfl)
    try simp only [Act.put, List.setIfInBounds_toArray, List.set_cons_zero, List.set_cons_succ]
    refine wpAnyH_take (i := 2) (oi := { dst := some 8, op := Op.fieldAddr 91 (Operand.tmp 7) 0, type := 0, pos := "read.go:98", after := #[{ on := 1, ground := Ground.data }], guard := none }) (v := ?v2p) rfl (by kernel_rfl) (by kernel_rfl) (by kernel_rfl) (fun _ _ _ h => h) (Or.inl ⟨by rfl, ?y2p⟩) (by assumption) ?r2p
    case y2p => (intro x hx; (try dsimp only at hx); go_simp; try with_reducible rfl)
    try simp only [Act.put, List.setIfInBounds_toArray, List.set_cons_zero, List.set_cons_succ]
    refine wpAnyH_take (i := 3) (oi := { dst := some 9, op := Op.load 25 (Operand.tmp 8), type := 25, pos := "read.go:98", after := #[{ on := 2, ground := Ground.data }], guard := none }) (v := ?v3p) rfl (by kernel_rfl) (by kernel_rfl) (by kernel_rfl) (fun _ _ _ h => h) (Or.inl ⟨by rfl, ?y3p⟩) (by assumption) ?r3p
    case y3p => (intro x hx; (try dsimp only at hx); go_simp; try with_reducible rfl)
    try simp only [Act.put, List.setIfInBounds_toArray, List.set_cons_zero, List.set_cons_succ]
    refine wpAnyH_ready (rs := [4, 6]) (by kernel_rfl) (by simp) ?_
    refine (AllReadyH.cons (o := { dst := some 10, op := Op.buildSlice 25 4 #[(0, Operand.const (Value.int IntKind.u8 80)), (1, Operand.const (Value.int IntKind.u8 82)), (2, Operand.const (Value.int IntKind.u8 67)), (3, Operand.const (Value.int IntKind.u8 76))], type := 25, pos := "read.go:98", after := #[], guard := none }) rfl (fun K hK => ?_) (AllReadyH.cons (o := { dst := some 12, op := Op.buildSlice 25 1 #[(0, Operand.const (Value.int IntKind.u8 1))], type := 25, pos := "read.go:98", after := #[], guard := none }) rfl (fun K hK => ?_) AllReadyH.nil))
    · go_simp
      go_wp2_with fail
      obtain ⟨Y, hY⟩ : ∃ Y, X.alloc (.cells #[.int .u8 80, .int .u8 82, .int .u8 67, .int .u8 76] 5) = Y := ⟨_, rfl⟩
      have bl : Below X.heap.size X Y := by rw [← hY]; exact below_alloc X _
      have hN : Y.heap[X.heap.size]? = some (.cells #[.int .u8 80, .int .u8 82, .int .u8 67, .int .u8 76] 5 (0, 0)) := by rw [← hY]; exact heap_alloc_new X _
      rw [hY]
      have HBx : Hid (Below w.heap.size w Y) := HB.out.trans (bl.mono HB.out.size)
      have hSnew : Y.cell? ⟨q, 0, none⟩ = some (.slice (some ⟨b, off, none⟩) m c) := by rw [HBx.out.cell hqw]; exact c0
      refine hK.out _ _ hSnew (fun hHeld4 => ?_)
      clear hK K hSnew
      clear hHeld
      have hHeld := hHeld4
      clear hHeld4
      try simp only [Act.put, List.setIfInBounds_toArray, List.set_cons_zero, List.set_cons_succ]
      have hZ := HB.out.size
      obtain ⟨g4, hg4⟩ : ∃ g, X.heap.size = g := ⟨_, rfl⟩
      rw [hg4] at hN ⊢
      have H4x : Hid (Y.heap[g4]? = some (.cells #[.int .u8 80, .int .u8 82, .int .u8 67, .int .u8 76] 5 (0, 0)) ∧ w.heap.size ≤ g4) := ⟨hN, by omega⟩
      clear hN bl hY hZ hg4
      clear HB
      clear X
      obtain ⟨X, hX⟩ : ∃ X, X = Y := ⟨_, rfl⟩
      subst hX
      have HB := HBx
      clear HBx
      have H4 := H4x
      clear H4x
      refine wpAnyH_ready (rs := [5, 6]) (by kernel_rfl) (by simp) ?_
      refine (AllReadyH.cons (o := { dst := some 11, op := Op.convert 25 25 (Operand.tmp 10), type := 25, pos := "read.go:98", after := #[{ on := 4, ground := Ground.data }], guard := none }) rfl (fun K hK => ?_) (AllReadyH.cons (o := { dst := some 12, op := Op.buildSlice 25 1 #[(0, Operand.const (Value.int IntKind.u8 1))], type := 25, pos := "read.go:98", after := #[], guard := none }) rfl (fun K hK => ?_) AllReadyH.nil))
      · obtain ⟨Y, hcv, hy1, hy2⟩ := conv_const H4.out.1 4 4
        go_simp
        go_wp2_with fail
        have HBx : Hid (Below w.heap.size w Y) := HB.out.grown hy2 HB.out.size (fun k hk => by have := Option.some.inj hk; have := H4.out.2; omega)
        have H4x : Hid (Y.heap[g4]? = some (.cells #[.int .u8 80, .int .u8 82, .int .u8 67, .int .u8 76] 5 (4, 5)) ∧ w.heap.size ≤ g4) := ⟨hy1, H4.out.2⟩
        have hSnew : Y.cell? ⟨q, 0, none⟩ = some (.slice (some ⟨b, off, none⟩) m c) := by rw [HBx.out.cell hqw]; exact c0
        refine hK.out _ _ hSnew (fun hHeld5 => ?_)
        clear hK K hSnew
        clear hHeld
        have hHeld := hHeld5
        clear hHeld5
        try simp only [Act.put, List.setIfInBounds_toArray, List.set_cons_zero, List.set_cons_succ]
        clear hcv hy1 hy2
        clear H4
        clear HB
        clear X
        obtain ⟨X, hX⟩ : ∃ X, X = Y := ⟨_, rfl⟩
        subst hX
        have HB := HBx
        clear HBx
        have H4 := H4x
        clear H4x
        refine wpAnyH_ready (rs := [6]) (by kernel_rfl) (by simp) ?_
        refine (AllReadyH.cons (o := { dst := some 12, op := Op.buildSlice 25 1 #[(0, Operand.const (Value.int IntKind.u8 1))], type := 25, pos := "read.go:98", after := #[], guard := none }) rfl (fun K hK => ?_) AllReadyH.nil)
        go_simp
        go_wp2_with fail
        obtain ⟨Y, hY⟩ : ∃ Y, X.alloc (.cells #[.int .u8 1] 5) = Y := ⟨_, rfl⟩
        have bl : Below X.heap.size X Y := by rw [← hY]; exact below_alloc X _
        have hN : Y.heap[X.heap.size]? = some (.cells #[.int .u8 1] 5 (0, 0)) := by rw [← hY]; exact heap_alloc_new X _
        rw [hY]
        have HBx : Hid (Below w.heap.size w Y) := HB.out.trans (bl.mono HB.out.size)
        have H4x : Hid (Y.heap[g4]? = some (.cells #[.int .u8 80, .int .u8 82, .int .u8 67, .int .u8 76] 5 (4, 5)) ∧ w.heap.size ≤ g4) := ⟨(bl.block _ (Array.getElem?_eq_some_iff.1 H4.out.1).1).trans H4.out.1, H4.out.2⟩
        have hne : X.heap.size ≠ g4 := by have := (Array.getElem?_eq_some_iff.1 H4.out.1).1; omega
        have hSnew : Y.cell? ⟨q, 0, none⟩ = some (.slice (some ⟨b, off, none⟩) m c) := by rw [HBx.out.cell hqw]; exact c0
        refine hK.out _ _ hSnew (fun hHeld6 => ?_)
        clear hK K hSnew
        clear hHeld
        have hHeld := hHeld6
        clear hHeld6
        try simp only [Act.put, List.setIfInBounds_toArray, List.set_cons_zero, List.set_cons_succ]
        have hZ := HB.out.size
        obtain ⟨g6, hg6⟩ : ∃ g, X.heap.size = g := ⟨_, rfl⟩
        rw [hg6] at hN ⊢
        rw [hg6] at hne
        have HNE : Hid (g6 ≠ g4) := hne
        clear hne
        have H6x : Hid (Y.heap[g6]? = some (.cells #[.int .u8 1] 5 (0, 0)) ∧ w.heap.size ≤ g6) := ⟨hN, by omega⟩
        clear hN bl hY hZ hg6
        clear H4
        clear HB
        clear X
        obtain ⟨X, hX⟩ : ∃ X, X = Y := ⟨_, rfl⟩
        subst hX
        have HB := HBx
        clear HBx
        have H4 := H4x
        clear H4x
        have H6 := H6x
        clear H6x
        refine wpAnyH_ready (rs := [7]) (by kernel_rfl) (by simp) ?_
        refine (AllReadyH.cons (o := { dst := some 13, op := Op.call { callee := Callee.builtin Builtin.append, args := #[Operand.tmp 11, Operand.tmp 12], argTypes := #[25, 25] }, type := 25, pos := "read.go:98", after := #[{ on := 5, ground := Ground.data }, { on := 6, ground := Ground.data }], guard := none }) rfl (fun K hK => ?_) AllReadyH.nil)
        refine wp_append_full (.tmp 11) (.tmp 12) rfl w.heap.size g4 g6 rfl H4.out.1 rfl H6.out.1 (Nat.le_trans HB.out.size (Nat.le_refl _)) ?_
        intro g7 c7 Y own7 grow7
        have HBx : Hid (Below w.heap.size w Y) := HB.out.trans ((below_of grow7).mono HB.out.size)
        have hSnew : Y.cell? ⟨q, 0, none⟩ = some (.slice (some ⟨b, off, none⟩) m c) := by rw [HBx.out.cell hqw]; exact c0
        refine hK.out _ _ hSnew (fun hHeld7 => ?_)
        clear hK K hSnew
        clear hHeld
        have hHeld := hHeld7
        clear hHeld7
        try simp only [Act.put, List.setIfInBounds_toArray, List.set_cons_zero, List.set_cons_succ]
        have H7 : Hid (Own Y w.heap.size g7 5 c7 [80, 82, 67, 76, 1]) := own7
        clear own7 grow7 H4 H6 HB
        clear X
        obtain ⟨X, hX⟩ : ∃ X, X = Y := ⟨_, rfl⟩
        subst hX
        have HB := HBx
        clear HBx
        refine wpAnyH_ready (rs := [8]) (by kernel_rfl) (by simp) ?_
        refine (AllReadyH.cons (o := { dst := some 14, op := Op.call { callee := Callee.value (Operand.func 69), args := #[Operand.tmp 9, Operand.tmp 13], argTypes := #[25, 25] }, type := 4, pos := "read.go:98", after := #[{ on := 3, ground := Ground.data }, { on := 7, ground := Ground.data }, { on := 7, ground := Ground.chain }], guard := none }) rfl (fun K hK => ?_) AllReadyH.nil)
        go_simp
        refine (hasPrefix_any b off m c (some ⟨g7, 0, none⟩) 5 c7 rest [80, 82, 67, 76, 1] _ hmm hmc hc9 (by omega) (HRW.out.below HB.out) (Own.all H7.out (by decide))).mono ?_
        rintro e Y ⟨rfl, hY⟩
        rw [hY]
        clear hY
        go_wp2_with fail
        have hSnew : X.cell? ⟨q, 0, none⟩ = some (.slice (some ⟨b, off, none⟩) m c) := by rw [HB.out.cell hqw]; exact c0
        refine hK.out _ _ hSnew (fun hHeld8 => ?_)
        clear hK K hSnew
        clear hHeld
        have hHeld := hHeld8
        clear hHeld8
        try simp only [Act.put, List.setIfInBounds_toArray, List.set_cons_zero, List.set_cons_succ]
        refine wpAnyH_take (i := 9) (oi := { dst := some 15, op := Op.unOp UnOp.not 4 (Operand.tmp 14), type := 4, pos := "read.go:98", after := #[{ on := 8, ground := Ground.data }], guard := none }) (v := ?v9e1) rfl (by kernel_rfl) (by kernel_rfl) (by kernel_rfl) (fun _ _ _ h => h) (Or.inl ⟨by rfl, ?y9e1⟩) (by assumption) ?r9e1
        case y9e1 => (intro x hx; (try dsimp only at hx); go_simp; try with_reducible rfl)
        try simp only [Act.put, List.setIfInBounds_toArray, List.set_cons_zero, List.set_cons_succ]
        refine wpAnyH_done (by kernel_rfl) ?_ _
        go_wp2_with fail
        go_meet
        exact (show Hid _ from ⟨rfl, HR.out.below HB.out, HB.out⟩)
      · go_simp
        go_wp2_with fail
        obtain ⟨Y, hY⟩ : ∃ Y, X.alloc (.cells #[.int .u8 1] 5) = Y := ⟨_, rfl⟩
        have bl : Below X.heap.size X Y := by rw [← hY]; exact below_alloc X _
        have hN : Y.heap[X.heap.size]? = some (.cells #[.int .u8 1] 5 (0, 0)) := by rw [← hY]; exact heap_alloc_new X _
        rw [hY]
        have HBx : Hid (Below w.heap.size w Y) := HB.out.trans (bl.mono HB.out.size)
        have H4x : Hid (Y.heap[g4]? = some (.cells #[.int .u8 80, .int .u8 82, .int .u8 67, .int .u8 76] 5 (0, 0)) ∧ w.heap.size ≤ g4) := ⟨(bl.block _ (Array.getElem?_eq_some_iff.1 H4.out.1).1).trans H4.out.1, H4.out.2⟩
        have hne : X.heap.size ≠ g4 := by have := (Array.getElem?_eq_some_iff.1 H4.out.1).1; omega
        have hSnew : Y.cell? ⟨q, 0, none⟩ = some (.slice (some ⟨b, off, none⟩) m c) := by rw [HBx.out.cell hqw]; exact c0
        refine hK.out _ _ hSnew (fun hHeld6 => ?_)
        clear hK K hSnew
        clear hHeld
        have hHeld := hHeld6
        clear hHeld6
        try simp only [Act.put, List.setIfInBounds_toArray, List.set_cons_zero, List.set_cons_succ]
        have hZ := HB.out.size
        obtain ⟨g6, hg6⟩ : ∃ g, X.heap.size = g := ⟨_, rfl⟩
        rw [hg6] at hN ⊢
        rw [hg6] at hne
        have HNE : Hid (g6 ≠ g4) := hne
        clear hne
        have H6x : Hid (Y.heap[g6]? = some (.cells #[.int .u8 1] 5 (0, 0)) ∧ w.heap.size ≤ g6) := ⟨hN, by omega⟩
        clear hN bl hY hZ hg6
        clear H4
        clear HB
        clear X
        obtain ⟨X, hX⟩ : ∃ X, X = Y := ⟨_, rfl⟩
        subst hX
        have HB := HBx
        clear HBx
        have H4 := H4x
        clear H4x
        have H6 := H6x
        clear H6x
        refine wpAnyH_ready (rs := [5]) (by kernel_rfl) (by simp) ?_
        refine (AllReadyH.cons (o := { dst := some 11, op := Op.convert 25 25 (Operand.tmp 10), type := 25, pos := "read.go:98", after := #[{ on := 4, ground := Ground.data }], guard := none }) rfl (fun K hK => ?_) AllReadyH.nil)
        obtain ⟨Y, hcv, hy1, hy2⟩ := conv_const H4.out.1 4 4
        go_simp
        go_wp2_with fail
        have HBx : Hid (Below w.heap.size w Y) := HB.out.grown hy2 HB.out.size (fun k hk => by have := Option.some.inj hk; have := H4.out.2; omega)
        have H4x : Hid (Y.heap[g4]? = some (.cells #[.int .u8 80, .int .u8 82, .int .u8 67, .int .u8 76] 5 (4, 5)) ∧ w.heap.size ≤ g4) := ⟨hy1, H4.out.2⟩
        have H6x : Hid (Y.heap[g6]? = some (.cells #[.int .u8 1] 5 (0, 0)) ∧ w.heap.size ≤ g6) := ⟨(hy2.block _ (Array.getElem?_eq_some_iff.1 H6.out.1).1 (fun e9 => HNE.out (Option.some.inj e9))).trans H6.out.1, H6.out.2⟩
        have hSnew : Y.cell? ⟨q, 0, none⟩ = some (.slice (some ⟨b, off, none⟩) m c) := by rw [HBx.out.cell hqw]; exact c0
        refine hK.out _ _ hSnew (fun hHeld5 => ?_)
        clear hK K hSnew
        clear hHeld
        have hHeld := hHeld5
        clear hHeld5
        try simp only [Act.put, List.setIfInBounds_toArray, List.set_cons_zero, List.set_cons_succ]
        clear hcv hy1 hy2
        clear H4
        clear H6
        clear HB
        clear X
        obtain ⟨X, hX⟩ : ∃ X, X = Y := ⟨_, rfl⟩
        subst hX
        have HB := HBx
        clear HBx
        have H4 := H4x
        clear H4x
        have H6 := H6x
        clear H6x
        refine wpAnyH_ready (rs := [7]) (by kernel_rfl) (by simp) ?_
        refine (AllReadyH.cons (o := { dst := some 13, op := Op.call { callee := Callee.builtin Builtin.append, args := #[Operand.tmp 11, Operand.tmp 12], argTypes := #[25, 25] }, type := 25, pos := "read.go:98", after := #[{ on := 5, ground := Ground.data }, { on := 6, ground := Ground.data }], guard := none }) rfl (fun K hK => ?_) AllReadyH.nil)
        refine wp_append_full (.tmp 11) (.tmp 12) rfl w.heap.size g4 g6 rfl H4.out.1 rfl H6.out.1 (Nat.le_trans HB.out.size (Nat.le_refl _)) ?_
        intro g7 c7 Y own7 grow7
        have HBx : Hid (Below w.heap.size w Y) := HB.out.trans ((below_of grow7).mono HB.out.size)
        have hSnew : Y.cell? ⟨q, 0, none⟩ = some (.slice (some ⟨b, off, none⟩) m c) := by rw [HBx.out.cell hqw]; exact c0
        refine hK.out _ _ hSnew (fun hHeld7 => ?_)
        clear hK K hSnew
        clear hHeld
        have hHeld := hHeld7
        clear hHeld7
        try simp only [Act.put, List.setIfInBounds_toArray, List.set_cons_zero, List.set_cons_succ]
        have H7 : Hid (Own Y w.heap.size g7 5 c7 [80, 82, 67, 76, 1]) := own7
        clear own7 grow7 H4 H6 HB
        clear X
        obtain ⟨X, hX⟩ : ∃ X, X = Y := ⟨_, rfl⟩
        subst hX
        have HB := HBx
        clear HBx
        refine wpAnyH_ready (rs := [8]) (by kernel_rfl) (by simp) ?_
        refine (AllReadyH.cons (o := { dst := some 14, op := Op.call { callee := Callee.value (Operand.func 69), args := #[Operand.tmp 9, Operand.tmp 13], argTypes := #[25, 25] }, type := 4, pos := "read.go:98", after := #[{ on := 3, ground := Ground.data }, { on := 7, ground := Ground.data }, { on := 7, ground := Ground.chain }], guard := none }) rfl (fun K hK => ?_) AllReadyH.nil)
        go_simp
        refine (hasPrefix_any b off m c (some ⟨g7, 0, none⟩) 5 c7 rest [80, 82, 67, 76, 1] _ hmm hmc hc9 (by omega) (HRW.out.below HB.out) (Own.all H7.out (by decide))).mono ?_
        rintro e Y ⟨rfl, hY⟩
        rw [hY]
        clear hY
        go_wp2_with fail
        have hSnew : X.cell? ⟨q, 0, none⟩ = some (.slice (some ⟨b, off, none⟩) m c) := by rw [HB.out.cell hqw]; exact c0
        refine hK.out _ _ hSnew (fun hHeld8 => ?_)
        clear hK K hSnew
        clear hHeld
        have hHeld := hHeld8
        clear hHeld8
        try simp only [Act.put, List.setIfInBounds_toArray, List.set_cons_zero, List.set_cons_succ]
        refine wpAnyH_take (i := 9) (oi := { dst := some 15, op := Op.unOp UnOp.not 4 (Operand.tmp 14), type := 4, pos := "read.go:98", after := #[{ on := 8, ground := Ground.data }], guard := none }) (v := ?v9e2) rfl (by kernel_rfl) (by kernel_rfl) (by kernel_rfl) (fun _ _ _ h => h) (Or.inl ⟨by rfl, ?y9e2⟩) (by assumption) ?r9e2
        case y9e2 => (intro x hx; (try dsimp only at hx); go_simp; try with_reducible rfl)
        try simp only [Act.put, List.setIfInBounds_toArray, List.set_cons_zero, List.set_cons_succ]
        refine wpAnyH_done (by kernel_rfl) ?_ _
        go_wp2_with fail
        go_meet
        exact (show Hid _ from ⟨rfl, HR.out.below HB.out, HB.out⟩)
    · go_simp
      go_wp2_with fail
      obtain ⟨Y, hY⟩ : ∃ Y, X.alloc (.cells #[.int .u8 1] 5) = Y := ⟨_, rfl⟩
      have bl : Below X.heap.size X Y := by rw [← hY]; exact below_alloc X _
      have hN : Y.heap[X.heap.size]? = some (.cells #[.int .u8 1] 5 (0, 0)) := by rw [← hY]; exact heap_alloc_new X _
      rw [hY]
      have HBx : Hid (Below w.heap.size w Y) := HB.out.trans (bl.mono HB.out.size)
      have hSnew : Y.cell? ⟨q, 0, none⟩ = some (.slice (some ⟨b, off, none⟩) m c) := by rw [HBx.out.cell hqw]; exact c0
      refine hK.out _ _ hSnew (fun hHeld6 => ?_)
      clear hK K hSnew
      clear hHeld
      have hHeld := hHeld6
      clear hHeld6
      try simp only [Act.put, List.setIfInBounds_toArray, List.set_cons_zero, List.set_cons_succ]
      have hZ := HB.out.size
      obtain ⟨g6, hg6⟩ : ∃ g, X.heap.size = g := ⟨_, rfl⟩
      rw [hg6] at hN ⊢
      have H6x : Hid (Y.heap[g6]? = some (.cells #[.int .u8 1] 5 (0, 0)) ∧ w.heap.size ≤ g6) := ⟨hN, by omega⟩
      clear hN bl hY hZ hg6
      clear HB
      clear X
      obtain ⟨X, hX⟩ : ∃ X, X = Y := ⟨_, rfl⟩
      subst hX
      have HB := HBx
      clear HBx
      have H6 := H6x
      clear H6x
      refine wpAnyH_ready (rs := [4]) (by kernel_rfl) (by simp) ?_
      refine (AllReadyH.cons (o := { dst := some 10, op := Op.buildSlice 25 4 #[(0, Operand.const (Value.int IntKind.u8 80)), (1, Operand.const (Value.int IntKind.u8 82)), (2, Operand.const (Value.int IntKind.u8 67)), (3, Operand.const (Value.int IntKind.u8 76))], type := 25, pos := "read.go:98", after := #[], guard := none }) rfl (fun K hK => ?_) AllReadyH.nil)
      go_simp
      go_wp2_with fail
      obtain ⟨Y, hY⟩ : ∃ Y, X.alloc (.cells #[.int .u8 80, .int .u8 82, .int .u8 67, .int .u8 76] 5) = Y := ⟨_, rfl⟩
      have bl : Below X.heap.size X Y := by rw [← hY]; exact below_alloc X _
      have hN : Y.heap[X.heap.size]? = some (.cells #[.int .u8 80, .int .u8 82, .int .u8 67, .int .u8 76] 5 (0, 0)) := by rw [← hY]; exact heap_alloc_new X _
      rw [hY]
      have HBx : Hid (Below w.heap.size w Y) := HB.out.trans (bl.mono HB.out.size)
      have H6x : Hid (Y.heap[g6]? = some (.cells #[.int .u8 1] 5 (0, 0)) ∧ w.heap.size ≤ g6) := ⟨(bl.block _ (Array.getElem?_eq_some_iff.1 H6.out.1).1).trans H6.out.1, H6.out.2⟩
      have hne : g6 ≠ X.heap.size := by have := (Array.getElem?_eq_some_iff.1 H6.out.1).1; omega
      have hSnew : Y.cell? ⟨q, 0, none⟩ = some (.slice (some ⟨b, off, none⟩) m c) := by rw [HBx.out.cell hqw]; exact c0
      refine hK.out _ _ hSnew (fun hHeld4 => ?_)
      clear hK K hSnew
      clear hHeld
      have hHeld := hHeld4
      clear hHeld4
      try simp only [Act.put, List.setIfInBounds_toArray, List.set_cons_zero, List.set_cons_succ]
      have hZ := HB.out.size
      obtain ⟨g4, hg4⟩ : ∃ g, X.heap.size = g := ⟨_, rfl⟩
      rw [hg4] at hN ⊢
      rw [hg4] at hne
      have HNE : Hid (g6 ≠ g4) := hne
      clear hne
      have H4x : Hid (Y.heap[g4]? = some (.cells #[.int .u8 80, .int .u8 82, .int .u8 67, .int .u8 76] 5 (0, 0)) ∧ w.heap.size ≤ g4) := ⟨hN, by omega⟩
      clear hN bl hY hZ hg4
      clear H6
      clear HB
      clear X
      obtain ⟨X, hX⟩ : ∃ X, X = Y := ⟨_, rfl⟩
      subst hX
      have HB := HBx
      clear HBx
      have H4 := H4x
      clear H4x
      have H6 := H6x
      clear H6x
      refine wpAnyH_ready (rs := [5]) (by kernel_rfl) (by simp) ?_
      refine (AllReadyH.cons (o := { dst := some 11, op := Op.convert 25 25 (Operand.tmp 10), type := 25, pos := "read.go:98", after := #[{ on := 4, ground := Ground.data }], guard := none }) rfl (fun K hK => ?_) AllReadyH.nil)
      obtain ⟨Y, hcv, hy1, hy2⟩ := conv_const H4.out.1 4 4
      go_simp
      go_wp2_with fail
      have HBx : Hid (Below w.heap.size w Y) := HB.out.grown hy2 HB.out.size (fun k hk => by have := Option.some.inj hk; have := H4.out.2; omega)
      have H4x : Hid (Y.heap[g4]? = some (.cells #[.int .u8 80, .int .u8 82, .int .u8 67, .int .u8 76] 5 (4, 5)) ∧ w.heap.size ≤ g4) := ⟨hy1, H4.out.2⟩
      have H6x : Hid (Y.heap[g6]? = some (.cells #[.int .u8 1] 5 (0, 0)) ∧ w.heap.size ≤ g6) := ⟨(hy2.block _ (Array.getElem?_eq_some_iff.1 H6.out.1).1 (fun e9 => HNE.out (Option.some.inj e9))).trans H6.out.1, H6.out.2⟩
      have hSnew : Y.cell? ⟨q, 0, none⟩ = some (.slice (some ⟨b, off, none⟩) m c) := by rw [HBx.out.cell hqw]; exact c0
      refine hK.out _ _ hSnew (fun hHeld5 => ?_)
      clear hK K hSnew
      clear hHeld
      have hHeld := hHeld5
      clear hHeld5
      try simp only [Act.put, List.setIfInBounds_toArray, List.set_cons_zero, List.set_cons_succ]
      clear hcv hy1 hy2
      clear H4
      clear H6
      clear HB
      clear X
      obtain ⟨X, hX⟩ : ∃ X, X = Y := ⟨_, rfl⟩
      subst hX
      have HB := HBx
      clear HBx
      have H4 := H4x
      clear H4x
      have H6 := H6x
      clear H6x
      refine wpAnyH_ready (rs := [7]) (by kernel_rfl) (by simp) ?_
      refine (AllReadyH.cons (o := { dst := some 13, op := Op.call { callee := Callee.builtin Builtin.append, args := #[Operand.tmp 11, Operand.tmp 12], argTypes := #[25, 25] }, type := 25, pos := "read.go:98", after := #[{ on := 5, ground := Ground.data }, { on := 6, ground := Ground.data }], guard := none }) rfl (fun K hK => ?_) AllReadyH.nil)
      refine wp_append_full (.tmp 11) (.tmp 12) rfl w.heap.size g4 g6 rfl H4.out.1 rfl H6.out.1 (Nat.le_trans HB.out.size (Nat.le_refl _)) ?_
      intro g7 c7 Y own7 grow7
      have HBx : Hid (Below w.heap.size w Y) := HB.out.trans ((below_of grow7).mono HB.out.size)
      have hSnew : Y.cell? ⟨q, 0, none⟩ = some (.slice (some ⟨b, off, none⟩) m c) := by rw [HBx.out.cell hqw]; exact c0
      refine hK.out _ _ hSnew (fun hHeld7 => ?_)
      clear hK K hSnew
      clear hHeld
      have hHeld := hHeld7
      clear hHeld7
      try simp only [Act.put, List.setIfInBounds_toArray, List.set_cons_zero, List.set_cons_succ]
      have H7 : Hid (Own Y w.heap.size g7 5 c7 [80, 82, 67, 76, 1]) := own7
      clear own7 grow7 H4 H6 HB
      clear X
      obtain ⟨X, hX⟩ : ∃ X, X = Y := ⟨_, rfl⟩
      subst hX
      have HB := HBx
      clear HBx
      refine wpAnyH_ready (rs := [8]) (by kernel_rfl) (by simp) ?_
      refine (AllReadyH.cons (o := { dst := some 14, op := Op.call { callee := Callee.value (Operand.func 69), args := #[Operand.tmp 9, Operand.tmp 13], argTypes := #[25, 25] }, type := 4, pos := "read.go:98", after := #[{ on := 3, ground := Ground.data }, { on := 7, ground := Ground.data }, { on := 7, ground := Ground.chain }], guard := none }) rfl (fun K hK => ?_) AllReadyH.nil)
      go_simp
      refine (hasPrefix_any b off m c (some ⟨g7, 0, none⟩) 5 c7 rest [80, 82, 67, 76, 1] _ hmm hmc hc9 (by omega) (HRW.out.below HB.out) (Own.all H7.out (by decide))).mono ?_
      rintro e Y ⟨rfl, hY⟩
      rw [hY]
      clear hY
      go_wp2_with fail
      have hSnew : X.cell? ⟨q, 0, none⟩ = some (.slice (some ⟨b, off, none⟩) m c) := by rw [HB.out.cell hqw]; exact c0
      refine hK.out _ _ hSnew (fun hHeld8 => ?_)
      clear hK K hSnew
      clear hHeld
      have hHeld := hHeld8
      clear hHeld8
      try simp only [Act.put, List.setIfInBounds_toArray, List.set_cons_zero, List.set_cons_succ]
      refine wpAnyH_take (i := 9) (oi := { dst := some 15, op := Op.unOp UnOp.not 4 (Operand.tmp 14), type := 4, pos := "read.go:98", after := #[{ on := 8, ground := Ground.data }], guard := none }) (v := ?v9e3) rfl (by kernel_rfl) (by kernel_rfl) (by kernel_rfl) (fun _ _ _ h => h) (Or.inl ⟨by rfl, ?y9e3⟩) (by assumption) ?r9e3
      case y9e3 => (intro x hx; (try dsimp only at hx); go_simp; try with_reducible rfl)
      try simp only [Act.put, List.setIfInBounds_toArray, List.set_cons_zero, List.set_cons_succ]
      refine wpAnyH_done (by kernel_rfl) ?_ _
      go_wp2_with fail
      go_meet
      exact (show Hid _ from ⟨rfl, HR.out.below HB.out, HB.out⟩)
  case rest =>
    obtain ⟨hs15, hrc, hbc⟩ := hcut.out
    have HRC := hide hrc
    have HBC := hide hbc
    clear hcut hrc hbc c0 hmm hmc hc9 hqw HRW HR
    by_cases hpre : rest.take 5 = [80, 82, 67, 76, 1]
    · rw [decide_eq_true hpre] at hs15
      subst hs15
      have h5 : 5 ≤ rest.length := by have := congrArg List.length hpre; simp at this; omega
      cases hm : modeR (rest.drop 5) with
      | error x =>
        have HM := hide hm
        have HP : Hid (piecesR rest = .error x) := by unfold Hid piecesR; rw [if_pos hpre, hm]
        clear hm hpre
        go_wp2_with (first
          | (go_at_call 70; refine (row_ok B q 5 rest _ HRC.out (by omega) h5).mono ?_; rintro e u1 ⟨b1, o1, c1, rfl, _, _, _, _, rd1, g1⟩
             have HR1 := hide (rd1.below (below_alloc u1 (.cells #[.slice none 0 0, .bool true, .string ⟨#[47]⟩, .int .i64 2, .int .i64 0, .int .u64 0, .slice none 0 0, .string ⟨#[]⟩, .int .i64 0, .slice none 0 0] 63)))
             have HG1 := hide (grownBy_trans (grownBy_trans (grown_of HBC.out (some q)) g1) (World.grownBy_alloc u1 (.cells #[.slice none 0 0, .bool true, .string ⟨#[47]⟩, .int .i64 2, .int .i64 0, .int .u64 0, .slice none 0 0, .string ⟨#[]⟩, .int .i64 0, .slice none 0 0] 63) (some q)))
             have HP1 : Hid (PB (u1.alloc (.cells #[.slice none 0 0, .bool true, .string ⟨#[47]⟩, .int .i64 2, .int .i64 0, .int .u64 0, .slice none 0 0, .string ⟨#[]⟩, .int .i64 0, .slice none 0 0] 63)) u1.heap.size (.slice none 0 0) (.bool true) (.string ⟨#[47]⟩) (.int .i64 2) (.int .i64 0) (.int .u64 0) (.slice none 0 0) (.string ⟨#[]⟩) (.int .i64 0) (.slice none 0 0)) := heap_alloc_new _ _
             have hz1 : w.heap.size ≤ u1.heap.size := Nat.le_trans HBC.out.size g1.size
             clear rd1 g1)
          | (go_at_call 71; refine (mode_any B q u1.heap.size _ _ _ _ _ _ _ _ _ _ (rest.drop 5) _ HR1.out (by rw [List.length_drop]; omega) HP1.out (by omega) (by omega)).mono ?_; intro e u2 lf; rw [HM.out] at lf; obtain ⟨rfl, t2⟩ := lf; have HT2 := hide t2; clear t2))
        exact ⟨rfl, left_err HP.out (Two.past HG1.out HT2.out hz1)⟩
      | ok pr =>
        obtain ⟨⟨md, sp⟩, r0⟩ := pr
        have HM := hide hm
        have HP : Hid (piecesR rest = piecesL (r0.length + 1) (rootP md sp) [rootP md sp] r0) := by unfold Hid piecesR; rw [if_pos hpre, hm]
        have hr0 : r0.length + 5 ≤ rest.length := by have := modeR_le hm; rw [List.length_drop] at this; omega
        clear hm hpre
        go_wp2_with (first
          | (go_at_call 70; refine (row_ok B q 5 rest _ HRC.out (by omega) h5).mono ?_; rintro e u1 ⟨b1, o1, c1, rfl, _, _, _, _, rd1, g1⟩
             have HR1 := hide (rd1.below (below_alloc u1 (.cells #[.slice none 0 0, .bool true, .string ⟨#[47]⟩, .int .i64 2, .int .i64 0, .int .u64 0, .slice none 0 0, .string ⟨#[]⟩, .int .i64 0, .slice none 0 0] 63)))
             have HG1 := hide (grownBy_trans (grownBy_trans (grown_of HBC.out (some q)) g1) (World.grownBy_alloc u1 (.cells #[.slice none 0 0, .bool true, .string ⟨#[47]⟩, .int .i64 2, .int .i64 0, .int .u64 0, .slice none 0 0, .string ⟨#[]⟩, .int .i64 0, .slice none 0 0] 63) (some q)))
             have HP1 : Hid (PB (u1.alloc (.cells #[.slice none 0 0, .bool true, .string ⟨#[47]⟩, .int .i64 2, .int .i64 0, .int .u64 0, .slice none 0 0, .string ⟨#[]⟩, .int .i64 0, .slice none 0 0] 63)) u1.heap.size (.slice none 0 0) (.bool true) (.string ⟨#[47]⟩) (.int .i64 2) (.int .i64 0) (.int .u64 0) (.slice none 0 0) (.string ⟨#[]⟩) (.int .i64 0) (.slice none 0 0)) := heap_alloc_new _ _
             have hz1 : w.heap.size ≤ u1.heap.size := Nat.le_trans HBC.out.size g1.size
             clear rd1 g1)
          | (go_at_call 71; refine (mode_any B q u1.heap.size _ _ _ _ _ _ _ _ _ _ (rest.drop 5) _ HR1.out (by rw [List.length_drop]; omega) HP1.out (by omega) (by omega)).mono ?_; intro e u2 lf; rw [HM.out] at lf; obtain ⟨rfl, rd2, pb2, t2⟩ := lf
             have HPB := hide pb2
             have HR2 := hide rd2
             have HG2 := hide (Two.past HG1.out t2 hz1)
             have HZ2 : Hid (u1.heap.size < u2.heap.size) := (Array.getElem?_eq_some_iff.1 pb2).1
             have k0 := pb_cell0 pb2
             have k1 := pb_cell1 pb2
             have k2 := pb_cell2 pb2
             have k3 := pb_cell3 pb2
             have k4 := pb_cell4 pb2
             have k5 := pb_cell5 pb2
             have k6 := pb_cell6 pb2
             have k7 := pb_cell7 pb2
             have k8 := pb_cell8 pb2
             have k9 := pb_cell9 pb2
             clear rd2 pb2 t2))
        obtain ⟨A, hA⟩ : ∃ A, u1.heap.size = A := ⟨_, rfl⟩
        go_loopg [4] (r0.length + 1) (fun g s4 wr => Hid (PiInv w B q u1.heap.size rest g s4 wr))
        case atStart =>
          have hz2 := HZ2.out
          refine (show Hid _ from ⟨⟨rootP md sp, .slice none 0 0, .slice none 0 0⟩, [⟨rootP md sp, .slice none 0 0, .slice none 0 0⟩], r0, ⟨HR2.out.below (below_alloc _ _), ?_, ⟨Pt.ow_nil _ _, sgOn_nil _ _ _, Nat.zero_le _, ⟨Nat.zero_le _, fun x hx => by cases hx⟩⟩, ?_, ?_, grownBy_trans HG2.out (World.grownBy_alloc _ _ _), hBq, hz1⟩, HP.out, by omega, by simp; omega⟩)
          · rw [Below.heap_alloc _ _ _ hz2]; exact HPB.out
          · exact World.ownsRow_lit u2 #[.slice none 0 0, .bool true, .string ⟨#[47]⟩, .int .i64 2, .int .i64 md, .int .u64 sp, .slice none 0 0, .string ⟨#[]⟩, .int .i64 0, .slice none 0 0] 1 (by omega) (by simp [maxLen]) rfl
          · intro x hx
            rw [List.mem_singleton.1 hx]
            exact ⟨Pt.ow_nil _ _, sgOn_nil _ _ _, Nat.zero_le _, ⟨Nat.zero_le _, fun x hx => by cases hx⟩⟩
        case round =>
          obtain ⟨aa, es, rest', ht, hpure, hfu, hlen⟩ := hrel.out
          obtain ⟨p, v0, v9⟩ := aa
          obtain ⟨a0, c0, hv0, _⟩ := Pt.Ow.rd ht.aok.ow
          obtain ⟨a9, c9, hv9⟩ := ht.aok.sg.shape
          simp only at hv0 hv9
          subst hv0
          subst hv9
          clear hrel k0 k1 k2 k3 k4 k5 k6 k7 k8 k9 HPB HR2 HG2 HZ2 HR1 HG1 HP1 HM HRC HBC
          have hAq : u1.heap.size ≠ q := by omega
          have hBA : B ≤ u1.heap.size := by omega
          rw [hA] at ht hAq hBA hz1
          have HS := hide ht
          have HPU := hide hpure
          have HLN := hide hlen
          have HNM := hide ht.aok.nm
          have hrl : rest'.length ≤ 200000000000000 := by omega
          obtain ⟨f, rfl⟩ : ∃ f, gk = f + 1 := ⟨gk - 1, by omega⟩
          have hdeep : (if (p.ty == 2) = true then (p.names.length : Int) else (p.names.length : Int) - 1) = p.deep := by unfold Pc.deep; by_cases h9 : p.ty = 2 <;> simp [h9]
          have hpl : p.names.length ≤ 64 := ht.aok.nm.1
          have HDP := hide hdeep
          clear ht hpure hdeep
          rw [hA]
          by_cases h1 : 1 ≤ rest'.length
          · obtain ⟨V, hV⟩ : ∃ V, getL rest' 0 1 = V := ⟨_, rfl⟩
            have hVr := getL_range HS.out.rd.byt 0 1
            rw [hV] at hVr
            have hV0 : 0 ≤ V := hVr.1
            have hV1 : V < 256 := by have := hVr.2; simpa using this
            have HV := hide hV
            have hwr : IntKind.i64.wrap V = V := by rw [IntKind.wrap_i64]; omega
            have HNR : Hid (numR 1 rest' = .ok (V, rest'.drop 1)) := by unfold Hid numR; rw [if_pos h1, hV]
            clear hV hVr
            by_cases h255 : V = 255
            · subst h255
              go_wp2_with (first
                | (go_at_call 72; refine (num_ok B q 1 rest' _ HS.out.rd hrl h1 (by omega) (by omega)).mono ?_; rintro e t1 ⟨rfl, rd1, g1⟩; rw [HV.out]
                   have HS1 := hide (HS.out.call g1 rd1 hAq)
                   skip
                   clear rd1 g1))
              (try rw [Exit.noGoto_ret])
              go_ret
              refine left_ok (by rw [HPU.out]; exact pl_end HNR.out) ?_ HS1.out.rd HS1.out.gr
              exact ⟨es, rfl, row_lower HS1.out.own (by omega), HS1.out.oks, by omega⟩
            · have e255 : (V == 255) = false := by simp [h255]
              by_cases h64 : V < 64
              · by_cases hdp : V ≤ p.deep
                · obtain ⟨d, rfl⟩ := Int.eq_ofNat_of_zero_le hV0
                  have hdn : d ≤ p.names.length := by have h9 := HDP.out; split at h9 <;> omega
                  have hd64 : d < 64 := by omega
                  cases hpr : pieceR p.names d (rest'.drop 1) with
                  | error x =>
                    have HPR := hide hpr
                    clear hpr
                    go_wp2_with (first
                      | (go_at_call 72; refine (num_ok B q 1 rest' _ HS.out.rd hrl h1 (by omega) (by omega)).mono ?_; rintro e t1 ⟨rfl, rd1, g1⟩; rw [HV.out]
                         have HS1 := hide (HS.out.call g1 rd1 hAq)
                         have k0 := pb_cell0 (show PB t1 A (.slice a0 p.names.length c0) (.bool (p.ty == 2)) (.string (Pt.tg p.names)) (.int .i64 p.ty) (.int .i64 p.mode) (.int .u64 p.stamp) (.slice none 0 0) (.string p.target) (.int .i64 (p.size : Int)) (.slice a9 p.segs.length c9) from HS1.out.pb)
                         have k1 := pb_cell1 (show PB t1 A (.slice a0 p.names.length c0) (.bool (p.ty == 2)) (.string (Pt.tg p.names)) (.int .i64 p.ty) (.int .i64 p.mode) (.int .u64 p.stamp) (.slice none 0 0) (.string p.target) (.int .i64 (p.size : Int)) (.slice a9 p.segs.length c9) from HS1.out.pb)
                         clear rd1 g1)
                      | (go_at_call 37; refine (deepest_any a0 p.names.length c0 (p.ty == 2) _ (by omega)).mono ?_; rintro e t2 ⟨rfl, b2⟩
                         rw [HDP.out]
                         have HS2 := hide (HS1.out.below b2)
                         clear b2 k0 k1
                         have k0 := pb_cell0 (show PB t2 A (.slice a0 p.names.length c0) (.bool (p.ty == 2)) (.string (Pt.tg p.names)) (.int .i64 p.ty) (.int .i64 p.mode) (.int .u64 p.stamp) (.slice none 0 0) (.string p.target) (.int .i64 (p.size : Int)) (.slice a9 p.segs.length c9) from HS2.out.pb)
                         have k1 := pb_cell1 (show PB t2 A (.slice a0 p.names.length c0) (.bool (p.ty == 2)) (.string (Pt.tg p.names)) (.int .i64 p.ty) (.int .i64 p.mode) (.int .u64 p.stamp) (.slice none 0 0) (.string p.target) (.int .i64 (p.size : Int)) (.slice a9 p.segs.length c9) from HS2.out.pb))
                      | (go_at_call 73; refine (must_yes _).mono ?_; rintro e t3 ⟨rfl, ht3⟩; rw [ht3]; clear ht3)
                      | (go_at_call 74; refine (piece_any B q (.slice a0 p.names.length c0) p.names (p.ty == 2) d (rest'.drop 1) _ HS2.out.rd (by rw [List.length_drop]; omega) (Pt.Ow.vw HS2.out.aok.ow) hdn HNM.out.1 HNM.out.2).mono ?_; intro e t4 lf; rw [HPR.out] at lf; obtain ⟨rfl, g4⟩ := lf; have HG4 := hide g4; clear g4))
                    exact ⟨rfl, left_err (by rw [HPU.out]; exact pl_err HNR.out h255 ⟨h64, hdp⟩ (by simpa using HPR.out)) (grownBy_trans HS2.out.gr HG4.out)⟩
                  | ok pr =>
                    obtain ⟨pc, r2⟩ := pr
                    have hpn := pieceR_ok hpr HNM.out hd64
                    have HPR := hide hpr
                    have HPN := hide hpn.1
                    have hr2 : r2.length + 1 ≤ rest'.length := by have := hpn.2; rw [List.length_drop] at this; omega
                    clear hpr hpn
                    go_upto_region 12 with (first
                      | (go_at_call 72; refine (num_ok B q 1 rest' _ HS.out.rd hrl h1 (by omega) (by omega)).mono ?_; rintro e t1 ⟨rfl, rd1, g1⟩; rw [HV.out]
                         have HS1 := hide (HS.out.call g1 rd1 hAq)
                         have k0 := pb_cell0 (show PB t1 A (.slice a0 p.names.length c0) (.bool (p.ty == 2)) (.string (Pt.tg p.names)) (.int .i64 p.ty) (.int .i64 p.mode) (.int .u64 p.stamp) (.slice none 0 0) (.string p.target) (.int .i64 (p.size : Int)) (.slice a9 p.segs.length c9) from HS1.out.pb)
                         have k1 := pb_cell1 (show PB t1 A (.slice a0 p.names.length c0) (.bool (p.ty == 2)) (.string (Pt.tg p.names)) (.int .i64 p.ty) (.int .i64 p.mode) (.int .u64 p.stamp) (.slice none 0 0) (.string p.target) (.int .i64 (p.size : Int)) (.slice a9 p.segs.length c9) from HS1.out.pb)
                         clear rd1 g1)
                      | (go_at_call 37; refine (deepest_any a0 p.names.length c0 (p.ty == 2) _ (by omega)).mono ?_; rintro e t2 ⟨rfl, b2⟩
                         rw [HDP.out]
                         have HS2 := hide (HS1.out.below b2)
                         clear b2 k0 k1
                         have k0 := pb_cell0 (show PB t2 A (.slice a0 p.names.length c0) (.bool (p.ty == 2)) (.string (Pt.tg p.names)) (.int .i64 p.ty) (.int .i64 p.mode) (.int .u64 p.stamp) (.slice none 0 0) (.string p.target) (.int .i64 (p.size : Int)) (.slice a9 p.segs.length c9) from HS2.out.pb)
                         have k1 := pb_cell1 (show PB t2 A (.slice a0 p.names.length c0) (.bool (p.ty == 2)) (.string (Pt.tg p.names)) (.int .i64 p.ty) (.int .i64 p.mode) (.int .u64 p.stamp) (.slice none 0 0) (.string p.target) (.int .i64 (p.size : Int)) (.slice a9 p.segs.length c9) from HS2.out.pb))
                      | (go_at_call 73; refine (must_yes _).mono ?_; rintro e t3 ⟨rfl, ht3⟩; rw [ht3]; clear ht3)
                      | (go_at_call 74; refine (piece_any B q (.slice a0 p.names.length c0) p.names (p.ty == 2) d (rest'.drop 1) _ HS2.out.rd (by rw [List.length_drop]; omega) (Pt.Ow.vw HS2.out.aok.ow) hdn HNM.out.1 HNM.out.2).mono ?_; intro e t4 lf; rw [HPR.out] at lf; obtain ⟨val, rfl, pv, rd4, g4⟩ := lf
                         obtain ⟨n0, n9, rfl, ow4, sg4, sz4⟩ := pv
                         obtain ⟨na, nc, rfl, _⟩ := Pt.Ow.rd ow4
                         obtain ⟨sa, sc, rfl⟩ := sg4.shape
                         clear k0 k1
                         have hpb4 : PB t4 A (.slice a0 p.names.length c0) (.bool (p.ty == 2)) (.string (Pt.tg p.names)) (.int .i64 p.ty) (.int .i64 p.mode) (.int .u64 p.stamp) (.slice none 0 0) (.string p.target) (.int .i64 (p.size : Int)) (.slice a9 p.segs.length c9) := (HS2.out.call g4 rd4 hAq).pb
                         have k0 := pb_cell0 hpb4
                         have k1 := pb_cell1 hpb4
                         have k2 := pb_cell2 hpb4
                         have k3 := pb_cell3 hpb4
                         have k4 := pb_cell4 hpb4
                         have k5 := pb_cell5 hpb4
                         have k6 := pb_cell6 hpb4
                         have k7 := pb_cell7 hpb4
                         have k8 := pb_cell8 hpb4
                         have k9 := pb_cell9 hpb4
                         have f0 := pb_frozen0 hpb4
                         have f1 := pb_frozen1 hpb4
                         have f2 := pb_frozen2 hpb4
                         have f3 := pb_frozen3 hpb4
                         have f4 := pb_frozen4 hpb4
                         have f5 := pb_frozen5 hpb4
                         have f6 := pb_frozen6 hpb4
                         have f7 := pb_frozen7 hpb4
                         have f8 := pb_frozen8 hpb4
                         have f9 := pb_frozen9 hpb4
                         have HS4 := hide (show PiT w B q A u4 t4 ⟨p, .slice a0 p.names.length c0, .slice a9 p.segs.length c9⟩ es r2 from HS2.out.call g4 rd4 hAq)
                         have HNW := hide (show Pe.Ok t4 w.heap.size B ⟨pc, .slice na pc.names.length nc, .slice sa pc.segs.length sc⟩ from ⟨Pt.Ow.lower ow4 HS2.out.gr.size, SgOn.lower sg4 HS2.out.gr.size, sz4, HPN.out⟩)
                         have HG4 := hide g4
                         have HRD4 := hide rd4
                         clear rd4 g4 ow4 sg4 sz4 hpb4))
                    have hs6 := pi_step HS2.out HG4.out HRD4.out HNW.out hAq hBA (.slice na pc.names.length nc) (.bool (pc.ty == 2)) (.string (Pt.tg pc.names)) (.int .i64 pc.ty) (.int .i64 pc.mode) (.int .u64 pc.stamp) (.slice none 0 0) (.string pc.target) (.int .i64 (pc.size : Int)) (.slice sa pc.segs.length sc) rfl
                    clear k0 k1 k2 k3 k4 k5 k6 k7 k8 k9 f0 f1 f2 f3 f4 f5 f6 f7 f8 f9
                    obtain ⟨W, hW⟩ : ∃ W, ((((((((((t4.setCell ⟨A, 0, none⟩ (.slice na pc.names.length nc)).setCell ⟨A, 1, none⟩ (.bool (pc.ty == 2))).setCell ⟨A, 2, none⟩ (.string (Pt.tg pc.names))).setCell ⟨A, 3, none⟩ (.int .i64 pc.ty)).setCell ⟨A, 4, none⟩ (.int .i64 pc.mode)).setCell ⟨A, 5, none⟩ (.int .u64 pc.stamp)).setCell ⟨A, 6, none⟩ (.slice none 0 0)).setCell ⟨A, 7, none⟩ (.string pc.target)).setCell ⟨A, 8, none⟩ (.int .i64 (pc.size : Int))).setCell ⟨A, 9, none⟩ (.slice sa pc.segs.length sc)) = W := ⟨_, rfl⟩
                    rw [hW] at hs6 ⊢
                    clear hW
                    have hpb6 : PB W A (.slice na pc.names.length nc) (.bool (pc.ty == 2)) (.string (Pt.tg pc.names)) (.int .i64 pc.ty) (.int .i64 pc.mode) (.int .u64 pc.stamp) (.slice none 0 0) (.string pc.target) (.int .i64 (pc.size : Int)) (.slice sa pc.segs.length sc) := hs6.pb
                    have k0 := pb_cell0 hpb6
                    have k1 := pb_cell1 hpb6
                    have k2 := pb_cell2 hpb6
                    have k3 := pb_cell3 hpb6
                    have k4 := pb_cell4 hpb6
                    have k5 := pb_cell5 hpb6
                    have k6 := pb_cell6 hpb6
                    have k7 := pb_cell7 hpb6
                    have k8 := pb_cell8 hpb6
                    have k9 := pb_cell9 hpb6
                    have HS6 := hide hs6
                    have HS5 := hide (hs6.below (below_alloc W (.cells #[.slice na pc.names.length nc, .bool (pc.ty == 2), .string (Pt.tg pc.names), .int .i64 pc.ty, .int .i64 pc.mode, .int .u64 pc.stamp, .slice none 0 0, .string pc.target, .int .i64 (pc.size : Int), .slice sa pc.segs.length sc] 63)))
                    clear hs6 hpb6
                    go_wp2_with (first
                      | (at_builtin; refine wpList_append_own (W.alloc (.cells #[.slice na pc.names.length nc, .bool (pc.ty == 2), .string (Pt.tg pc.names), .int .i64 pc.ty, .int .i64 pc.mode, .int .u64 pc.stamp, .slice none 0 0, .string pc.target, .int .i64 (pc.size : Int), .slice sa pc.segs.length sc] 63)) rfl (.tmp 49) (.tmp 51) 58 rfl (A + 1) 63 i0 _ 10 144 Tryz.underlying58 HI.out.1 HI.out.2.1 HI.out.2.2.1 HI.out.2.2.2 rfl (by decide) u4 es.length (flatP es) rfl HS5.out.own ⟨W.heap.size, 0, none⟩ 1 1 [.slice na pc.names.length nc, .bool (pc.ty == 2), .string (Pt.tg pc.names), .int .i64 pc.ty, .int .i64 pc.mode, .int .u64 pc.stamp, .slice none 0 0, .string pc.target, .int .i64 (pc.size : Int), .slice sa pc.segs.length sc] rfl rfl (lit10_news W (.slice na pc.names.length nc) (.bool (pc.ty == 2)) (.string (Pt.tg pc.names)) (.int .i64 pc.ty) (.int .i64 pc.mode) (.int .u64 pc.stamp) (.slice none 0 0) (.string pc.target) (.int .i64 (pc.size : Int)) (.slice sa pc.segs.length sc)) (by simp [Value.oneCell']) (by have := HLN.out; simp only [maxLen]; omega) (by have := HLN.out; omega) HS5.out.size ?_; intro v8 t8 own8 grow8 _h8
                         have HO8 := hide own8
                         have HG8 := hide grow8
                         clear own8 grow8 _h8))
                    subst hA
                    go_roundg f
                    case measure => omega
                    case rel =>
                      refine (show Hid _ from ⟨⟨pc, .slice na pc.names.length nc, .slice sa pc.segs.length sc⟩, es ++ [⟨pc, .slice na pc.names.length nc, .slice sa pc.segs.length sc⟩], r2, ?_, ?_, by omega, by have := HLN.out; simp; omega⟩)
                      · exact PiT.push HS5.out HG8.out HO8.out
                      · rw [HPU.out, pl_go HNR.out h255 ⟨h64, hdp⟩ (by simpa using HPR.out)]; simp
                · have edp : decide (V ≤ p.deep) = false := decide_eq_false hdp
                  go_wp2_with (first
                    | (go_at_call 72; refine (num_ok B q 1 rest' _ HS.out.rd hrl h1 (by omega) (by omega)).mono ?_; rintro e t1 ⟨rfl, rd1, g1⟩; rw [HV.out]
                       have HS1 := hide (HS.out.call g1 rd1 hAq)
                       have k0 := pb_cell0 (show PB t1 A (.slice a0 p.names.length c0) (.bool (p.ty == 2)) (.string (Pt.tg p.names)) (.int .i64 p.ty) (.int .i64 p.mode) (.int .u64 p.stamp) (.slice none 0 0) (.string p.target) (.int .i64 (p.size : Int)) (.slice a9 p.segs.length c9) from HS1.out.pb)
                       have k1 := pb_cell1 (show PB t1 A (.slice a0 p.names.length c0) (.bool (p.ty == 2)) (.string (Pt.tg p.names)) (.int .i64 p.ty) (.int .i64 p.mode) (.int .u64 p.stamp) (.slice none 0 0) (.string p.target) (.int .i64 (p.size : Int)) (.slice a9 p.segs.length c9) from HS1.out.pb)
                       clear rd1 g1)
                    | (go_at_call 37; refine (deepest_any a0 p.names.length c0 (p.ty == 2) _ (by omega)).mono ?_; rintro e t2 ⟨rfl, b2⟩
                       rw [HDP.out]
                       have HS2 := hide (HS1.out.below b2)
                       clear b2 k0 k1
                       have k0 := pb_cell0 (show PB t2 A (.slice a0 p.names.length c0) (.bool (p.ty == 2)) (.string (Pt.tg p.names)) (.int .i64 p.ty) (.int .i64 p.mode) (.int .u64 p.stamp) (.slice none 0 0) (.string p.target) (.int .i64 (p.size : Int)) (.slice a9 p.segs.length c9) from HS2.out.pb)
                       have k1 := pb_cell1 (show PB t2 A (.slice a0 p.names.length c0) (.bool (p.ty == 2)) (.string (Pt.tg p.names)) (.int .i64 p.ty) (.int .i64 p.mode) (.int .u64 p.stamp) (.slice none 0 0) (.string p.target) (.int .i64 (p.size : Int)) (.slice a9 p.segs.length c9) from HS2.out.pb))
                    | (go_at_call 73; refine (must_no _).mono ?_; rintro e t3 ⟨rfl, ht3⟩; rw [ht3]))
                  exact ⟨rfl, left_err (by rw [HPU.out]; exact pl_deep HNR.out h255 (fun h => absurd h.2 (by omega))) HS2.out.gr⟩
              · have e64 : decide (V < 64) = false := decide_eq_false h64
                go_wp2_with (first
                  | (go_at_call 72; refine (num_ok B q 1 rest' _ HS.out.rd hrl h1 (by omega) (by omega)).mono ?_; rintro e t1 ⟨rfl, rd1, g1⟩; rw [HV.out]
                     have HS1 := hide (HS.out.call g1 rd1 hAq)
                     have k0 := pb_cell0 (show PB t1 A (.slice a0 p.names.length c0) (.bool (p.ty == 2)) (.string (Pt.tg p.names)) (.int .i64 p.ty) (.int .i64 p.mode) (.int .u64 p.stamp) (.slice none 0 0) (.string p.target) (.int .i64 (p.size : Int)) (.slice a9 p.segs.length c9) from HS1.out.pb)
                     have k1 := pb_cell1 (show PB t1 A (.slice a0 p.names.length c0) (.bool (p.ty == 2)) (.string (Pt.tg p.names)) (.int .i64 p.ty) (.int .i64 p.mode) (.int .u64 p.stamp) (.slice none 0 0) (.string p.target) (.int .i64 (p.size : Int)) (.slice a9 p.segs.length c9) from HS1.out.pb)
                     clear rd1 g1)
                  | (go_at_call 73; refine (must_no _).mono ?_; rintro e t3 ⟨rfl, ht3⟩; rw [ht3]))
                exact ⟨rfl, left_err (by rw [HPU.out]; exact pl_deep HNR.out h255 (fun h => absurd h.1 (by omega))) HS1.out.gr⟩
          · have HNR : Hid (numR 1 rest' = .error 190) := by unfold Hid numR; rw [if_neg h1]
            go_wp2_with (first
              | (go_at_call 72; refine (num_short B q 1 rest' _ HS.out.rd hrl (by omega) (by omega)).mono ?_; rintro e t1 ⟨rfl, ht1⟩; rw [ht1]))
            exact ⟨rfl, left_err (by rw [HPU.out]; exact pl_short HNR.out) HS.out.gr⟩
    · rw [decide_eq_false hpre] at hs15
      subst hs15
      have HP : Hid (piecesR rest = .error 190) := by unfold Hid piecesR; rw [if_neg hpre]
      go_wp2_with fail
      exact ⟨rfl, left_err HP.out (grown_of HBC.out _)⟩
end Go.Proofs.YtdiifegljonojaaGreatDoor
