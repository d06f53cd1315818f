/-
  SEAT YtdiifegljonojaaDoor: Xe, of several texts.
-/
import Derived.Test.YtdiifegljonojaaDoorXc
import Derived.Test.YtdiifegljonojaaDoorSa
import Derived.Test.YtdiifegljonojaaDoorWo
namespace Go.Proofs.YtdiifegljonojaaDoor
open Go.RowKit
set_option linter.unusedVariables false

theorem lflat_len (es : List Le) : (flatL es).length = es.length * 6 := by
  induction es with
  | nil => rfl
  | cons x r ih =>
    rw [show flatL (x :: r) = x.cells ++ flatL r from rfl, List.length_append, ih]
    simp [Le.cells]
    omega
theorem lflat_cell (es : List Le) (i j : Nat) (hi : i < es.length) (hj : j < 6) : (flatL es)[i * 6 + j]? = es[i].cells[j]? := by
  induction es generalizing i with
  | nil => simp at hi
  | cons x r ih =>
    rw [show flatL (x :: r) = x.cells ++ flatL r from rfl]
    have hl : x.cells.length = 6 := rfl
    cases i with
    | zero => rw [List.getElem?_append_left (by omega)]; simp
    | succ i =>
      rw [List.getElem?_append_right (by omega), hl, show (i + 1) * 6 + j - 6 = i * 6 + j by omega, ih i (by simpa using hi)]
      simp
theorem lno_any (x : Int) (w : World) : Calls Tryd.prog 12 #[.int .i64 x] w fun e w' => e = .returned (.int .i64 x) ∧ w' = w := by
  go_enter Tryd.func12, Tryd.ntmps12
  go_wp2
  go_ret
  exact ⟨rfl, rfl⟩

set_option maxHeartbeats 2000000 in
set_option maxRecDepth 100000 in
theorem lleaf_same (p : ByteArray) (t m s : Int) (xs : List Int) (tg : ByteArray) (a a' : Option Addr) (n c c' : Nat) (w : World) (h : Reads w a n xs) (h' : Reads w a' n xs) :
    Calls Tryd.prog 24 #[.agg #[.string p, .int .i64 t, .int .i64 m, .int .u64 s, .slice a n c, .string tg], .agg #[.string p, .int .i64 t, .int .i64 m, .int .u64 s, .slice a' n c', .string tg]] w fun e w' => e = .returned (.bool true) ∧ Below w.heap.size w w' := by
  have b1 := below_alloc w (.cells #[.string p, .int .i64 t, .int .i64 m, .int .u64 s, .slice a n c, .string tg] 41)
  have b2 := below_alloc (w.alloc (.cells #[.string p, .int .i64 t, .int .i64 m, .int .u64 s, .slice a n c, .string tg] 41)) (.cells #[.string p, .int .i64 t, .int .i64 m, .int .u64 s, .slice a' n c', .string tg] 41)
  have HA := hide ((h.below b1).below b2)
  have HA2 := hide ((h'.below b1).below b2)
  have HB := hide (bel_join b1 b2)
  clear b1 b2 h h'
  go_enter Tryd.func24, Tryd.ntmps24
  go_wp2_with (first
    | (go_at_call 25; refine (same_eq a a' n c c' xs _ HA.out HA2.out).mono ?_; rintro e w2 ⟨rfl, rfl⟩))
  go_ret
  exact ⟨rfl, HB.out⟩
/-- A tree that is looked at. -/
structure VwL (w : World) (v : Value) (es : List Le) : Prop where
  shape : ∃ a c, v = .slice a es.length c ∧ ∀ k, k < es.length → ∃ g off, a = some ⟨g, off, none⟩ ∧ g < w.heap.size ∧ ∀ j, j < 6 → w.cell? ⟨g, off + k * 6 + j, none⟩ = es[k]?.bind (fun x => x.cells[j]?)
  most : es.length ≤ 9223372036854775807
  data : ∀ x ∈ es, ∃ a c, x.d = .slice a x.l.data.length c ∧ Reads w a x.l.data.length x.l.data
theorem VwL.below {w u : World} {v : Value} {es : List Le} (h : VwL w v es) (hb : Below w.heap.size w u) : VwL u v es := by
  refine ⟨?_, h.most, fun x hx => ?_⟩
  · obtain ⟨a, c, h1, h2⟩ := h.shape
    refine ⟨a, c, h1, fun k hk => ?_⟩
    obtain ⟨g, off, g1, g2, g3⟩ := h2 k hk
    exact ⟨g, off, g1, Nat.lt_of_lt_of_le g2 hb.size, fun j hj => by rw [hb.cell g2]; exact g3 j hj⟩
  · obtain ⟨a, c, h1, h2⟩ := h.data x hx
    exact ⟨a, c, h1, h2.below hb⟩
theorem LsOn.vw {w : World} {B : Nat} {v : Value} {es : List Le} (h : LsOn w B v es) (hb : ∀ x ∈ es, Byt x.l.data) : VwL w v es := by
  refine ⟨?_, ?_, fun x hx => own_any (h.oks x hx) (hb x hx)⟩
  · rcases h.own.2 with ⟨hv, h0⟩ | ⟨g, cap, cur, hv, _, hg, _⟩
    · exact ⟨none, 0, by rw [hv, h0], fun k hk => by omega⟩
    · refine ⟨_, _, hv, fun k hk => ⟨g, 0, rfl, (Array.getElem?_eq_some_iff.1 hg).1, fun j hj => ?_⟩⟩
      have hw := h.own
      rw [hv] at hw
      rw [Nat.zero_add, World.ownsRow.cellAt hw (k * 6 + j) (by omega), lflat_cell es k j hk hj, List.getElem?_eq_getElem hk]
      rfl
  · rcases h.own.2 with ⟨hv, h0⟩ | ⟨g, cap, cur, hv, _, hg, h1, h2, _⟩
    · omega
    · unfold maxLen at h2; omega
theorem RdL.vw {w : World} {B : Nat} {v : Value} {es : List Le} (h : RdL w B v es) (hB : B ≤ w.heap.size) : VwL w v es := by
  obtain ⟨a, c, h1, h2, h3, h4⟩ := h.shape
  refine ⟨⟨a, c, h1, fun k hk => ?_⟩, by omega, fun x hx => ?_⟩
  · obtain ⟨b, off, g1, g2, g3⟩ := h4 (by omega)
    exact ⟨b, off, g1, Nat.lt_of_lt_of_le g2 hB, g3 k hk⟩
  · obtain ⟨da, dn, dc, g1, g2, _⟩ := h.data x hx
    have : x.l.data.length = dn := g2.1
    rw [this]
    exact ⟨da, dc, g1, g2⟩

set_option maxHeartbeats 4000000 in
set_option maxRecDepth 100000 in
theorem alike_vw (v1 v2 : Value) (es fs : List Le) (w : World) (h1 : VwL w v1 es) (h2 : VwL w v2 fs) (hl : es.map Le.l = fs.map Le.l) :
    Calls Tryd.prog 13 #[v1, v2] w fun e w' => e = .returned (.bool true) ∧ Below w.heap.size w w' := by
  obtain ⟨a1, c1, rfl, s1⟩ := h1.shape
  obtain ⟨a2, c2, rfl, s2⟩ := h2.shape
  have hle : fs.length = es.length := by have h9 := congrArg List.length hl; simpa using h9.symm
  obtain ⟨m, hm⟩ : ∃ m, es.length = m := ⟨_, rfl⟩
  rw [hle, hm] at s2 ⊢
  rw [hm] at s1
  have hmn : m ≤ 9223372036854775807 := by rw [← hm]; exact h1.most
  have H1 := hide h1.data
  have H2 := hide h2.data
  have HLM := hide hl
  have HS1 := hide s1
  have HS2 := hide s2
  have HM := hide hm
  have HM2 : Hid (fs.length = m) := hle.trans hm
  clear h1 h2 hl s1 s2 hle hm
  go_enter Tryd.func13, Tryd.ntmps13
  go_wp2_with fail
  go_loopw [5] (fun i wr => ∃ k : Nat, k ≤ m ∧ i = .int .i64 (k : Int) ∧ Hid (Below w.heap.size w wr)) (fun i _ => m - (intOf i).toNat)
  case atStart => exact ⟨0, Nat.zero_le _, rfl, Below.refl _ _⟩
  case round =>
    obtain ⟨k, hk, rfl, HBR⟩ := hrel
    by_cases hlt : k < m
    · have i1 : (k : Int) < (m : Int) := by omega
      have wk : IntKind.i64.wrap ((k : Int) + 1) = (k : Int) + 1 := by rw [IntKind.wrap_i64]; omega
      obtain ⟨g1, o1, e1, hg1, q1⟩ := HS1.out k hlt
      obtain ⟨g2, o2, e2, hg2, q2⟩ := HS2.out k hlt
      subst e1
      subst e2
      have hk1 : k < es.length := by have := HM.out; omega
      have hk2 : k < fs.length := by have := HM2.out; omega
      obtain ⟨x, hx⟩ : ∃ x, es[k] = x := ⟨_, rfl⟩
      obtain ⟨y, hy⟩ : ∃ y, fs[k] = y := ⟨_, rfl⟩
      have hxy : x.l = y.l := by
        have h9 := congrArg (fun l => l[k]?) HLM.out
        simp only [List.getElem?_map, List.getElem?_eq_getElem hk1, List.getElem?_eq_getElem hk2, Option.map_some] at h9
        rw [hx, hy] at h9
        exact Option.some.inj h9
      have dx := H1.out x (by rw [← hx]; exact List.getElem_mem hk1)
      have dy := H2.out y (by rw [← hy]; exact List.getElem_mem hk2)
      rw [List.getElem?_eq_getElem hk1, hx] at q1
      rw [List.getElem?_eq_getElem hk2, hy] at q2
      obtain ⟨⟨p, t, m9, s, xs, tg⟩, d⟩ := x
      obtain ⟨ly, d2⟩ := y
      simp only at hxy
      subst hxy
      obtain ⟨a, c, hd1, ra⟩ := dx
      obtain ⟨a', c', hd2, rb⟩ := dy
      simp only at hd1 hd2
      subst hd1
      subst hd2
      obtain ⟨n, hn⟩ : ∃ n, xs.length = n := ⟨_, rfl⟩
      simp only at ra rb q1 q2
      rw [hn] at ra rb q1 q2
      have hgr1 : g1 < wr.heap.size := Nat.lt_of_lt_of_le hg1 HBR.out.size
      have hgr2 : g2 < wr.heap.size := Nat.lt_of_lt_of_le hg2 HBR.out.size
      have x0 : wr.cell? ⟨g1, o1 + k * 6, none⟩ = some (.string p) := by rw [HBR.out.cell hg1]; exact q1 0 (by omega)
      have x1 : wr.cell? ⟨g1, o1 + k * 6 + 1, none⟩ = some (.int .i64 t) := by rw [HBR.out.cell hg1]; exact q1 1 (by omega)
      have x2 : wr.cell? ⟨g1, o1 + k * 6 + 2, none⟩ = some (.int .i64 m9) := by rw [HBR.out.cell hg1]; exact q1 2 (by omega)
      have x3 : wr.cell? ⟨g1, o1 + k * 6 + 3, none⟩ = some (.int .u64 s) := by rw [HBR.out.cell hg1]; exact q1 3 (by omega)
      have x4 : wr.cell? ⟨g1, o1 + k * 6 + 4, none⟩ = some (.slice a n c) := by rw [HBR.out.cell hg1]; exact q1 4 (by omega)
      have x5 : wr.cell? ⟨g1, o1 + k * 6 + 5, none⟩ = some (.string tg) := by rw [HBR.out.cell hg1]; exact q1 5 (by omega)
      have z0 : wr.cell? ⟨g2, o2 + k * 6, none⟩ = some (.string p) := by rw [HBR.out.cell hg2]; exact q2 0 (by omega)
      have z1 : wr.cell? ⟨g2, o2 + k * 6 + 1, none⟩ = some (.int .i64 t) := by rw [HBR.out.cell hg2]; exact q2 1 (by omega)
      have z2 : wr.cell? ⟨g2, o2 + k * 6 + 2, none⟩ = some (.int .i64 m9) := by rw [HBR.out.cell hg2]; exact q2 2 (by omega)
      have z3 : wr.cell? ⟨g2, o2 + k * 6 + 3, none⟩ = some (.int .u64 s) := by rw [HBR.out.cell hg2]; exact q2 3 (by omega)
      have z4 : wr.cell? ⟨g2, o2 + k * 6 + 4, none⟩ = some (.slice a' n c') := by rw [HBR.out.cell hg2]; exact q2 4 (by omega)
      have z5 : wr.cell? ⟨g2, o2 + k * 6 + 5, none⟩ = some (.string tg) := by rw [HBR.out.cell hg2]; exact q2 5 (by omega)
      have HRA := hide ((ra.below HBR.out).below (Below.refl _ wr).drew)
      have HRB := hide ((rb.below HBR.out).below (Below.refl _ wr).drew)
      clear q1 q2 hx hy hk1 hk2 hn ra rb
      go_upto_region 6 with fail
      refine wp_region_held_drew (S := (fun xx : World => xx.cell? ⟨g1, o1 + k * 6, none⟩ = some (.string p) ∧ xx.cell? ⟨g1, o1 + k * 6 + 1, none⟩ = some (.int .i64 t) ∧ xx.cell? ⟨g1, o1 + k * 6 + 2, none⟩ = some (.int .i64 m9) ∧ xx.cell? ⟨g1, o1 + k * 6 + 3, none⟩ = some (.int .u64 s) ∧ xx.cell? ⟨g1, o1 + k * 6 + 4, none⟩ = some (.slice a n c) ∧ xx.cell? ⟨g1, o1 + k * 6 + 5, none⟩ = some (.string tg) ∧ xx.cell? ⟨g2, o2 + k * 6, none⟩ = some (.string p) ∧ xx.cell? ⟨g2, o2 + k * 6 + 1, none⟩ = some (.int .i64 t) ∧ xx.cell? ⟨g2, o2 + k * 6 + 2, none⟩ = some (.int .i64 m9) ∧ xx.cell? ⟨g2, o2 + k * 6 + 3, none⟩ = some (.int .u64 s) ∧ xx.cell? ⟨g2, o2 + k * 6 + 4, none⟩ = some (.slice a' n c') ∧ xx.cell? ⟨g2, o2 + k * 6 + 5, none⟩ = some (.string tg))) (by kernel_rfl) (⟨x0, x1, x2, x3, x4, x5, z0, z1, z2, z3, z4, z5⟩) (fun hHeld => ?_)
      refine wpAnyH_take (i := 0) (oi := { dst := some 17, op := Op.move (Operand.tmp 0), type := 26, pos := "law.go:27", after := #[], guard := none }) (v := ?v0z) rfl (by kernel_rfl) (by kernel_rfl) (by kernel_rfl) (fun _ _ _ h => h) (Or.inl ⟨by rfl, ?y0z⟩) (by assumption) ?r0z
      case y0z => (intro x hx; (try dsimp only at hx); go_simp; try with_reducible rfl)
      try simp only [Act.put, List.setIfInBounds_toArray, List.set_cons_zero, List.set_cons_succ]
      refine wpAnyH_take (i := 1) (oi := { dst := some 18, op := Op.move (Operand.tmp 5), type := 3, pos := "law.go:27", after := #[], guard := none }) (v := ?v1z) rfl (by kernel_rfl) (by kernel_rfl) (by kernel_rfl) (fun _ _ _ h => h) (Or.inl ⟨by rfl, ?y1z⟩) (by assumption) ?r1z
      case y1z => (intro x hx; (try dsimp only at hx); go_simp; try with_reducible rfl)
      try simp only [Act.put, List.setIfInBounds_toArray, List.set_cons_zero, List.set_cons_succ]
      refine wpAnyH_take (i := 2) (oi := { dst := some 19, op := Op.indexAddr 26 (Operand.tmp 17) (Operand.tmp 18), type := 0, pos := "law.go:27", after := #[{ on := 0, ground := Ground.data }, { on := 1, ground := Ground.data }], guard := none }) (v := ?v2z) rfl (by kernel_rfl) (by kernel_rfl) (by kernel_rfl) (fun _ _ _ h => h) (Or.inl ⟨by rfl, ?y2z⟩) (by assumption) ?r2z
      case y2z => (intro x hx; (try dsimp only at hx); go_simp; try with_reducible rfl)
      try simp only [Act.put, List.setIfInBounds_toArray, List.set_cons_zero, List.set_cons_succ]
      refine wpAnyH_take (i := 3) (oi := { dst := some 20, op := Op.load 41 (Operand.tmp 19), type := 41, pos := "law.go:27", after := #[{ on := 2, ground := Ground.data }], guard := none }) (v := ?v3z) rfl (by kernel_rfl) (by kernel_rfl) (by kernel_rfl) (fun _ _ _ h => h) (Or.inl ⟨by rfl, ?y3z⟩) (by assumption) ?r3z
      case y3z => (intro x hx; (try dsimp only at hx); go_simp; try with_reducible rfl)
      try simp only [Act.put, List.setIfInBounds_toArray, List.set_cons_zero, List.set_cons_succ]
      refine wpAnyH_take (i := 4) (oi := { dst := some 21, op := Op.move (Operand.tmp 1), type := 26, pos := "law.go:27", after := #[], guard := none }) (v := ?v4z) rfl (by kernel_rfl) (by kernel_rfl) (by kernel_rfl) (fun _ _ _ h => h) (Or.inl ⟨by rfl, ?y4z⟩) (by assumption) ?r4z
      case y4z => (intro x hx; (try dsimp only at hx); go_simp; try with_reducible rfl)
      try simp only [Act.put, List.setIfInBounds_toArray, List.set_cons_zero, List.set_cons_succ]
      refine wpAnyH_take (i := 5) (oi := { dst := some 22, op := Op.move (Operand.tmp 5), type := 3, pos := "law.go:27", after := #[], guard := none }) (v := ?v5z) rfl (by kernel_rfl) (by kernel_rfl) (by kernel_rfl) (fun _ _ _ h => h) (Or.inl ⟨by rfl, ?y5z⟩) (by assumption) ?r5z
      case y5z => (intro x hx; (try dsimp only at hx); go_simp; try with_reducible rfl)
      try simp only [Act.put, List.setIfInBounds_toArray, List.set_cons_zero, List.set_cons_succ]
      refine wpAnyH_take (i := 6) (oi := { dst := some 23, op := Op.indexAddr 26 (Operand.tmp 21) (Operand.tmp 22), type := 0, pos := "law.go:27", after := #[{ on := 4, ground := Ground.data }, { on := 5, ground := Ground.data }], guard := none }) (v := ?v6z) rfl (by kernel_rfl) (by kernel_rfl) (by kernel_rfl) (fun _ _ _ h => h) (Or.inl ⟨by rfl, ?y6z⟩) (by assumption) ?r6z
      case y6z => (intro x hx; (try dsimp only at hx); go_simp; try with_reducible rfl)
      try simp only [Act.put, List.setIfInBounds_toArray, List.set_cons_zero, List.set_cons_succ]
      refine wpAnyH_take (i := 7) (oi := { dst := some 24, op := Op.load 41 (Operand.tmp 23), type := 41, pos := "law.go:27", after := #[{ on := 6, ground := Ground.data }], guard := none }) (v := ?v7z) rfl (by kernel_rfl) (by kernel_rfl) (by kernel_rfl) (fun _ _ _ h => h) (Or.inl ⟨by rfl, ?y7z⟩) (by assumption) ?r7z
      case y7z => (intro x hx; (try dsimp only at hx); go_simp; try with_reducible rfl)
      try simp only [Act.put, List.setIfInBounds_toArray, List.set_cons_zero, List.set_cons_succ]
      refine wpAnyH_ready (rs := [8]) (by kernel_rfl) (by simp) ?_
      refine AllReadyH.cons (o := { dst := some 25, op := Op.call { callee := Callee.value (Operand.func 24), args := #[Operand.tmp 20, Operand.tmp 24], argTypes := #[41, 41] }, type := 4, pos := "law.go:27", after := #[{ on := 3, ground := Ground.data }, { on := 7, ground := Ground.data }], guard := none }) rfl (fun K hK => ?_) AllReadyH.nil
      go_simp
      go_at_call 24
      refine (lleaf_same p t m9 s xs tg a a' n c c' _ HRA.out HRB.out).mono ?_
      rintro e wz ⟨rfl, bz⟩
      have hSnew : wz.cell? ⟨g1, o1 + k * 6, none⟩ = some (.string p) ∧ wz.cell? ⟨g1, o1 + k * 6 + 1, none⟩ = some (.int .i64 t) ∧ wz.cell? ⟨g1, o1 + k * 6 + 2, none⟩ = some (.int .i64 m9) ∧ wz.cell? ⟨g1, o1 + k * 6 + 3, none⟩ = some (.int .u64 s) ∧ wz.cell? ⟨g1, o1 + k * 6 + 4, none⟩ = some (.slice a n c) ∧ wz.cell? ⟨g1, o1 + k * 6 + 5, none⟩ = some (.string tg) ∧ wz.cell? ⟨g2, o2 + k * 6, none⟩ = some (.string p) ∧ wz.cell? ⟨g2, o2 + k * 6 + 1, none⟩ = some (.int .i64 t) ∧ wz.cell? ⟨g2, o2 + k * 6 + 2, none⟩ = some (.int .i64 m9) ∧ wz.cell? ⟨g2, o2 + k * 6 + 3, none⟩ = some (.int .u64 s) ∧ wz.cell? ⟨g2, o2 + k * 6 + 4, none⟩ = some (.slice a' n c') ∧ wz.cell? ⟨g2, o2 + k * 6 + 5, none⟩ = some (.string tg) := ⟨by rw [bz.cell (show g1 < _ from hgr1)]; exact hHeld.1, by rw [bz.cell (show g1 < _ from hgr1)]; exact hHeld.2.1, by rw [bz.cell (show g1 < _ from hgr1)]; exact hHeld.2.2.1, by rw [bz.cell (show g1 < _ from hgr1)]; exact hHeld.2.2.2.1, by rw [bz.cell (show g1 < _ from hgr1)]; exact hHeld.2.2.2.2.1, by rw [bz.cell (show g1 < _ from hgr1)]; exact hHeld.2.2.2.2.2.1, by rw [bz.cell (show g2 < _ from hgr2)]; exact hHeld.2.2.2.2.2.2.1, by rw [bz.cell (show g2 < _ from hgr2)]; exact hHeld.2.2.2.2.2.2.2.1, by rw [bz.cell (show g2 < _ from hgr2)]; exact hHeld.2.2.2.2.2.2.2.2.1, by rw [bz.cell (show g2 < _ from hgr2)]; exact hHeld.2.2.2.2.2.2.2.2.2.1, by rw [bz.cell (show g2 < _ from hgr2)]; exact hHeld.2.2.2.2.2.2.2.2.2.2.1, by rw [bz.cell (show g2 < _ from hgr2)]; exact hHeld.2.2.2.2.2.2.2.2.2.2.2⟩
      have HBZ := hide (bel_join HBR.out.drew bz)
      clear bz
      go_wp2_with fail
      refine hK.out _ _ hSnew (fun hHeld8 => ?_)
      clear hK K hSnew
      clear hHeld
      have hHeld := hHeld8
      clear hHeld8
      try simp only [Act.put, List.setIfInBounds_toArray, List.set_cons_zero, List.set_cons_succ]
      refine wpAnyH_take (i := 9) (oi := { dst := some 26, op := Op.unOp UnOp.not 4 (Operand.tmp 25), type := 4, pos := "law.go:27", after := #[{ on := 8, ground := Ground.data }], guard := none }) (v := ?v9z) rfl (by kernel_rfl) (by kernel_rfl) (by kernel_rfl) (fun _ _ _ h => h) (Or.inl ⟨by rfl, ?y9z⟩) (by assumption) ?r9z
      case y9z => (intro x hx; (try dsimp only at hx); go_simp; try with_reducible rfl)
      try simp only [Act.put, List.setIfInBounds_toArray, List.set_cons_zero, List.set_cons_succ]
      refine wpAnyH_done (by kernel_rfl) ?_ _
      go_wp2_with fail
      go_roundw
      case rel => exact ⟨k + 1, by omega, by go_num, HBZ⟩
      case measure => simp [intOf]; omega
    · obtain rfl : k = m := by omega
      have i1 : ¬ (k : Int) < (k : Int) := by omega
      go_wp2
      go_ret
      exact ⟨rfl, HBR.out⟩
def le4 (n : Nat) : List Int := [((n % 256 : Nat) : Int), ((n / 256 % 256 : Nat) : Int), ((n / 65536 % 256 : Nat) : Int), ((n / 16777216 % 256 : Nat) : Int)]
def sealL (bs : List Int) : List Int := bs ++ le4 (sumL (nats bs))
theorem le4_num (n : Nat) : numL 4 (n : Int) = le4 n := by
  show (((([0, 0, 0, 0] : List Int).set (0 + 0) ((n : Int) / 256 ^ 0 % 256)).set (0 + 1) ((n : Int) / 256 ^ 1 % 256)).set (0 + 2) ((n : Int) / 256 ^ 2 % 256)).set (0 + 3) ((n : Int) / 256 ^ 3 % 256) = _
  have e0 : (256 : Int) ^ 0 = 1 := by decide
  have e1 : (256 : Int) ^ 1 = 256 := by decide
  have e2 : (256 : Int) ^ 2 = 65536 := by decide
  have e3 : (256 : Int) ^ 3 = 16777216 := by decide
  rw [e0, e1, e2, e3]
  unfold le4
  simp only [List.set_cons_zero, List.set_cons_succ, Nat.zero_add, Int.ediv_one]
  simp only [Int.natCast_emod, Int.natCast_ediv]
  rfl
theorem reads_alloc (u : World) (zs : List Int) (hb : Byt zs) : Reads (u.alloc (.cells (zs.map (Value.int .u8)).toArray 5)) (some ⟨u.heap.size, 0, none⟩) zs.length zs := by
  refine ⟨rfl, hb, by simp, fun x hx i hi => ?_⟩
  cases hx
  rw [Pt.add_zero, Nat.zero_add]
  have h9 := heap_alloc_new u (.cells (zs.map (Value.int .u8)).toArray 5)
  simp only [World.cell?, h9]
  simp [List.getD, List.getElem?_eq_getElem hi]
theorem le4_cells (u : World) (s : Nat) : Reads (u.alloc (.cells #[.int .u8 ((s % 256 : Nat) : Int), .int .u8 ((s / 256 % 256 : Nat) : Int), .int .u8 ((s / 65536 % 256 : Nat) : Int), .int .u8 ((s / 16777216 % 256 : Nat) : Int)] 5)) (some ⟨u.heap.size, 0, none⟩) 4 (le4 s) := by
  exact reads_alloc u (le4 s) (by intro x hx; simp [le4] at hx; omega)
theorem own_nought (u : World) (N : Nat) (h : u.heap.size = N) : (u.alloc (.cells #[] 5)).ownsRow N 5 1 (.slice (some ⟨N, 0, none⟩) 0 0) 0 (([] : List Int).map (Value.int .u8)) := by
  subst h
  exact World.ownsRow_made u #[] 0 (Nat.le_refl _) (Nat.zero_le _) rfl

set_option maxHeartbeats 2000000 in
set_option maxRecDepth 100000 in
theorem sealed_any (a : Option Addr) (n c : Nat) (bs : List Int) (w : World) (hr : Reads w a n bs) (hn : n ≤ 100000000000000) (ht : Tab w) :
    Calls Tryd.prog 26 #[.slice a n c] w fun e w' => ∃ g cc, e = .returned (.slice (some ⟨g, 0, none⟩) (n + 4) cc) ∧ Own w' w.heap.size g (n + 4) cc (sealL bs) ∧ Below w.heap.size w w' := by
  obtain ⟨s, hs⟩ : ∃ s, sumL (nats bs) = s := ⟨_, rfl⟩
  have HS : Hid (sumL (nats bs) = s) := hs
  have hs4 : s < 4294967296 := by rw [← hs]; exact sumL_lt hr.2.1
  have w0 : IntKind.u8.wrap (s : Int) = ((s % 256 : Nat) : Int) := by rw [IntKind.wrap_u8]; omega
  have w1 : IntKind.u8.wrap ((s : Int) / 256) = ((s / 256 % 256 : Nat) : Int) := by rw [IntKind.wrap_u8]; omega
  have w2 : IntKind.u8.wrap ((s : Int) / 65536) = ((s / 65536 % 256 : Nat) : Int) := by rw [IntKind.wrap_u8]; omega
  have w3 : IntKind.u8.wrap ((s : Int) / 16777216) = ((s / 16777216 % 256 : Nat) : Int) := by rw [IntKind.wrap_u8]; omega
  have HR : Hid (Reads w a n bs) := hr
  have HT : Hid (Tab w) := ht
  have TA : Hid True := trivial
  clear hs hr ht
  go_enter Tryd.func26, Tryd.ntmps26
  go_wp2_with (first
    | (go_at_call 42; refine (sum_any _ _ _ bs _ (by omega) HR.out HT.out).mono ?_; rintro e t1 ⟨rfl, ht1⟩; rw [← ht1, HS.out]; clear ht1)
    | (at_builtin; have zz := TA; clear TA zz; refine wpList_append_reads rfl (.tmp 6) (.tmp 7) rfl w.heap.size (.slice (some ⟨w.heap.size, 0, none⟩) 0 0) 0 [] rfl (own_nought w w.heap.size rfl) a n c bs rfl (HR.out.below (below_alloc _ _)) (by omega) (by simp) ?_; intro v1 w1 own1 grow1; simp only [Nat.zero_add, List.nil_append] at own1
       have HB6 : Hid (Below w.heap.size w w1) := (below_alloc w _).grown grow1 (by simp) (fun q hq => ((own_nought w w.heap.size rfl).lt q hq).1)
       have HO6 : Hid (w1.ownsRow w.heap.size 5 1 v1 n (bs.map (Value.int .u8))) := own1
       have TB : Hid True := trivial
       clear own1 grow1)
    | (at_builtin; have zz := TB; clear TB zz; refine wpList_append_reads rfl (.tmp 8) (.tmp 20) rfl w.heap.size v1 n bs rfl (HO6.out.alloc _) _ 4 4 (le4 s) rfl (le4_cells w1 s) (by omega) (by have := HB6.out.size; simp; omega) ?_; intro v2 w2 own2 grow2; obtain ⟨g2, c2, rfl, hc21, hc22, hg21, hg22⟩ := own_shape own2 (by omega)
       have HB7 : Hid (Below w.heap.size w w2) := (HB6.out.alloc HB6.out.size _).grown grow2 (by have := HB6.out.size; simp; omega) (fun q hq => (HO6.out.lt q hq).1)
       have HO7 : Hid (Own w2 w.heap.size g2 (n + 4) c2 (bs ++ le4 s)) := own2
       clear own2 grow2 hc21 hc22 hg21 hg22))
  go_ret
  exact ⟨g2, c2, rfl, by unfold sealL; rw [HS.out]; exact HO7.out, HB7.out⟩
end Go.Proofs.YtdiifegljonojaaDoor
