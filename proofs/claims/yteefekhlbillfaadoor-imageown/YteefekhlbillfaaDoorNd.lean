/-
  SEAT YteefekhlbillfaaDoor: a page that is told; a page.
-/
import Derived.Test.YteefekhlbillfaaDoorNc
import Derived.Deep.AppendLies
namespace Go.Proofs.YteefekhlbillfaaDoor
open Go.RowKit
set_option linter.unusedVariables false

def RV (w : World) (a : Option Addr) (len size : Nat) (xs : List Value) : Prop :=
  xs.length = len * size ∧ (a = none → len = 0) ∧ ∀ x, a = some x → ∀ j u, xs[j]? = some u → w.cell? (x.add j) = some u

theorem step_append_src {w : World} {ops : Array Oper} {o : Oper} {a : Act} {K : Act → World → Prop} {Q : Exit → Act → World → Prop} {X : Prop} (hgd : o.guard = none) (s x : Operand) (T : TypeId)
    (ho : o.op = .call { callee := .builtin .append, args := #[s, x], argTypes := #[T, T] })
    (base : Nat) (E : TypeId) (i : TypeInfo) (z : Value) (size bytes : Nat) (ht : Tryd.prog.underlying T = some (.slice E)) (hi : Tryd.prog.info? E = some i) (hz : i.zero = some z)
    (hsize : i.size = size) (hby : i.bytes = bytes) (hzs : z.cells.size = size) (hsz : 0 < size)
    (v : Value) (n : Nat) (xs : List Value) (hs : a.eval s = v) (hown : w.ownsRow base E size v n xs)
    (ad : Option Addr) (m c : Nat) (news : List Value) (hx : a.eval x = .slice ad m c) (hrd : RV w ad m size news) (h1 : ∀ u ∈ news, u.oneCell' = true)
    (h63 : n + m ≤ maxLen) (hbytes : (n + m) * bytes ≤ 140737488355328) (hbase : base ≤ w.heap.size)
    (h : ∀ v' w', w'.ownsRow base E size v' (n + m) (xs ++ news) → w.grownBy w' v.ownBlock → K (a.put o.dst v') w') :
    if Region.wanted o (yielded ops a.tmps) = true then Oper.wp Tryd.prog o a w K Q else X := by
  rcases Nat.eq_zero_or_pos m with h0 | hm
  · subst h0
    have hz0 : news = [] := List.eq_nil_of_length_eq_zero (by have := hrd.1; omega)
    subst hz0
    have hw : Region.wanted o (yielded ops a.tmps) = true := by simp [Region.wanted, hgd]
    rw [if_pos hw]
    have hrun : (Builtin.append_ #[T, T] o.type #[v, .slice ad 0 c]).run Tryd.prog w = .ok v w := by
      cases ad with
      | some ad =>
        have hl0 : (loadCells ad 0).run Tryd.prog w = .ok #[] w := by
          have := run_loadCells (P := Tryd.prog) w ad 0 (fun _ => undef) (fun j hj => absurd hj (Nat.not_lt_zero _))
          simpa using this
        rcases hown.2 with ⟨rfl, rfl⟩ | ⟨g, cap, cur, rfl, _, _, hnc, _⟩
        · simp [Builtin.append_, run_underlying ht, sizeOf, typeInfo, hi, Builtin.lenOf, Builtin.firstCells, hl0, Result.andThen]
        · simp [Builtin.append_, run_underlying ht, sizeOf, typeInfo, hi, Builtin.lenOf, Builtin.firstCells, hnc, storeCells, hl0, Result.andThen]
      | none =>
        rcases hown.2 with ⟨rfl, rfl⟩ | ⟨g, cap, cur, rfl, _, _, hnc, _⟩
        · simp [Builtin.append_, run_underlying ht, sizeOf, typeInfo, hi, Builtin.lenOf, Builtin.firstCells]
        · simp [Builtin.append_, run_underlying ht, sizeOf, typeInfo, hi, Builtin.lenOf, Builtin.firstCells, hnc, storeCells]
    unfold Oper.wp
    simp [execOp, ho, resolve, invoke, builtin, hs, hx, hrun, Result.andThen]
    exact h v w (by simpa using hown) (World.grownBy.refl _ _)
  · cases ad with
    | none => exact absurd (hrd.2.1 rfl) (by omega)
    | some ad => exact step_append_lies w hgd s x T ho base E i z size bytes ht hi hz hsize hby hzs hsz v n xs hs hown ad m c news hx hrd.1 (fun j u hj => hrd.2.2 ad rfl j u hj) h1 hm h63 hbytes hbase _ rfl (fun g cap w' o1 g1 _ _ => h _ w' o1 g1)

theorem Reads.rv {w : World} {a : Option Addr} {len : Nat} {zs : List Int} (h : Reads w a len zs) : RV w a len 1 (zs.map (Value.int .u8)) := by
  refine ⟨by simp [h.1], h.2.2.1, fun x hx j u hj => ?_⟩
  subst hx
  exact h.news j u hj

theorem Reads.drew1 {w : World} {a : Option Addr} {len : Nat} {zs : List Int} (h : Reads w a len zs) : Reads w.drew a len zs := h

theorem Reads.kw {w w' : World} {a : Option Addr} {len B : Nat} {zs : List Int} (h : Reads w a len zs) (hlow : ∀ x, a = some x → x.block < B) (hk : Kw B w w') : Reads w' a len zs := by
  obtain ⟨h1, h2, h3, h4⟩ := h
  refine ⟨h1, h2, h3, fun x hx i hi => ?_⟩
  rw [hk.bel.cell (show (x.add i).block < B by rw [show (x.add i).block = x.block by unfold Addr.add; split <;> rfl]; exact hlow x hx)]
  exact h4 x hx i hi

theorem told_enc (C : Nat) (g : List Int) : enc C ⟨1, 1, g⟩ = (1 : Int) :: (le2 (wrN (g.take C)) ++ (g.take (wrN (g.take C)) ++ g.drop C)) := by
  unfold enc
  rw [if_pos rfl]
  rfl

set_option maxHeartbeats 2000000 in
set_option maxRecDepth 100000 in
theorem told_any (B q bk off L cap C : Nat) (pg : List Int) (st : St) (w : World) (hW : WrAt w B q st) (hl : st.laid.length ≤ 900000000) (hr : Reads w (some ⟨bk, off, none⟩) L pg) (hbk : bk < B) (hCL : C < L) (hLc : L ≤ cap) (hL : L ≤ 65535) (hcap : cap ≤ 9223372036854775807) :
    Calls Tryd.prog 68 #[.pointer (some ⟨q, 0, none⟩), .slice (some ⟨bk, off, none⟩) L cap, .int .i64 (C : Int)] w fun e w' => e = .returned (.tuple #[]) ∧ WrAt w' B q (toldS C st pg) ∧ Kw B w w' := by
  obtain ⟨i0, hi0, hz0, hz1, hz2⟩ := info_parts info5
  have hBw := hW.size
  obtain ⟨laid, kind, count⟩ := st
  obtain ⟨N, hN⟩ : ∃ N, laid.length = N := ⟨_, rfl⟩
  simp only at hl
  have hpl := hr.1
  obtain ⟨n, hn⟩ : ∃ n, wrN (pg.take C) = n := ⟨_, rfl⟩
  have hnC : n ≤ C := by rw [← hn]; have := wrN_le (pg.take C); simp at this; omega
  have hrC : Reads w (some ⟨bk, off, none⟩) C (pg.take C) := hr.front C (by omega)
  have HW : Hid (WrAt w B q ⟨laid, kind, count⟩) := hW
  have HR : Hid (Reads w (some ⟨bk, off, none⟩) L pg) := hr
  have HRC : Hid (Reads w (some ⟨bk, off, none⟩) C (pg.take C)) := hrC
  have HE : Hid (wrN (pg.take C) = n) := hn
  have HN : Hid (laid.length = N) := hN
  have HP : Hid (pg.length = L) := hpl
  rw [hN] at hl
  have d1 : (C : Int) ≤ (cap : Int) := by omega
  have d2 : C ≤ cap := by omega
  have d3 : n ≤ cap := by omega
  have d4 : (n : Int) ≤ (cap : Int) := by omega
  have d5 : C ≤ L := by omega
  have d6 : (C : Int) ≤ (L : Int) := by omega
  have d7 : ¬ cap = C := by omega
  have d8 : ¬ cap - C = 0 := by omega
  clear hW hr hrC hn hN hpl
  go_enter Tryd.func68, Tryd.ntmps68
  go_upto_region 3 with (first
    | (go_at_call 77; refine (written_any _ _ _ (pg.take C) _ (by omega) HRC.out).mono ?_; rintro e u0 ⟨rfl, hu0⟩; rw [hu0, HE.out])
    | (go_at_call 38; have zz := M1; refine (number_any B q ⟨laid ++ leN 1 1, kind, count⟩ 2 (n : Int) _ wr1 (by simp only [List.length_append, leN_length, HN.out]; omega) (by omega) (by omega) (by omega) (by omega)).mono ?_; rintro e w2 ⟨rfl, wr2, kw2⟩; clear M1 zz
       obtain ⟨g2, c2, hq2, own2, hBq, by2⟩ := wr2
       simp only [List.length_append, leN_length, HN.out] at hq2 own2
       have HQ2 : Hid _ := hq2
       have HO2 : Hid (Own w2 B g2 (N + 1 + 2) c2 (laid ++ leN 1 1 ++ leN 2 (n : Int))) := own2
       have HY2 : Hid _ := by2
       have HK2 : Hid _ := kw2
       clear hq2 own2 by2 kw2 wr1)
    | (go_at_call 38; refine (number_any B q ⟨laid, kind, count⟩ 1 1 _ HW.out (by simp only [HN.out]; omega) (by omega) (by omega) (by omega) (by omega)).mono ?_; rintro e w1 ⟨rfl, wr1, kw1⟩; have M1 : Hid True := trivial; have HK1 : Hid _ := kw1; clear kw1))
  obtain ⟨c0, c1, c2', f0, f1, f2⟩ := blk3_cells HQ2.out
  have hK2 : Kw B w w2 := HK1.out.trans HK2.out
  have hB2 := Nat.le_trans hBw hK2.bel.size
  have HR2 : Hid (Reads w2.drew (some ⟨bk, off, none⟩) L pg) := (HR.out.kw (fun x hx => by cases hx; exact hbk) hK2).drew1
  have HR2n : Hid (Reads w2.drew (some ⟨bk, off, none⟩) n (pg.take n)) := HR2.out.front n (by omega)
  have HOd : Hid (Own w2.drew B g2 (N + 1 + 2) c2 (laid ++ leN 1 1 ++ leN 2 (n : Int))) := HO2.out.drew1
  have hK2' : Hid _ := hK2
  clear hK2
  refine wp_region_held_drew (S := (fun _ : World => True)) (by kernel_rfl) (trivial) (fun hHeld => ?_)
  refine wpAnyH_take (i := 0) (oi := { dst := some 16, op := Op.move (Operand.tmp 0), type := 80, pos := "pack.go:119", after := #[], guard := none }) (v := ?v0t) rfl (by kernel_rfl) (by kernel_rfl) (by kernel_rfl) (fun _ _ _ h => h) (Or.inl ⟨by rfl, ?y0t⟩) (by assumption) ?r0t
  case y0t => (intro x hx; (try dsimp only at hx); go_simp; try with_reducible rfl)
  try simp only [Act.put, List.setIfInBounds_toArray, List.set_cons_zero, List.set_cons_succ]
  refine wpAnyH_take (i := 1) (oi := { dst := some 17, op := Op.move (Operand.tmp 0), type := 80, pos := "pack.go:119", after := #[], guard := none }) (v := ?v1t) rfl (by kernel_rfl) (by kernel_rfl) (by kernel_rfl) (fun _ _ _ h => h) (Or.inl ⟨by rfl, ?y1t⟩) (by assumption) ?r1t
  case y1t => (intro x hx; (try dsimp only at hx); go_simp; try with_reducible rfl)
  try simp only [Act.put, List.setIfInBounds_toArray, List.set_cons_zero, List.set_cons_succ]
  refine wpAnyH_take (i := 2) (oi := { dst := some 18, op := Op.nilCheck (Operand.tmp 17), type := 0, pos := "pack.go:119", after := #[{ on := 1, ground := Ground.data }], guard := none }) (v := ?v2t) rfl (by kernel_rfl) (by kernel_rfl) (by kernel_rfl) (fun _ _ _ h => h) (Or.inl ⟨by rfl, ?y2t⟩) (by assumption) ?r2t
  case y2t => (intro x hx; (try dsimp only at hx); go_simp; try with_reducible rfl)
  try simp only [Act.put, List.setIfInBounds_toArray, List.set_cons_zero, List.set_cons_succ]
  refine wpAnyH_take (i := 3) (oi := { dst := some 19, op := Op.fieldAddr 82 (Operand.tmp 18) 0, type := 0, pos := "pack.go:119", after := #[{ on := 2, ground := Ground.data }], guard := none }) (v := ?v3t) rfl (by kernel_rfl) (by kernel_rfl) (by kernel_rfl) (fun _ _ _ h => h) (Or.inl ⟨by rfl, ?y3t⟩) (by assumption) ?r3t
  case y3t => (intro x hx; (try dsimp only at hx); go_simp; try with_reducible rfl)
  try simp only [Act.put, List.setIfInBounds_toArray, List.set_cons_zero, List.set_cons_succ]
  refine wpAnyH_take (i := 5) (oi := { dst := some 21, op := Op.move (Operand.tmp 1), type := 22, pos := "pack.go:119", after := #[], guard := none }) (v := ?v5t) rfl (by kernel_rfl) (by kernel_rfl) (by kernel_rfl) (fun _ _ _ h => h) (Or.inl ⟨by rfl, ?y5t⟩) (by assumption) ?r5t
  case y5t => (intro x hx; (try dsimp only at hx); go_simp; try with_reducible rfl)
  try simp only [Act.put, List.setIfInBounds_toArray, List.set_cons_zero, List.set_cons_succ]
  refine wpAnyH_take (i := 6) (oi := { dst := some 22, op := Op.move (Operand.tmp 6), type := 3, pos := "pack.go:119", after := #[], guard := none }) (v := ?v6t) rfl (by kernel_rfl) (by kernel_rfl) (by kernel_rfl) (fun _ _ _ h => h) (Or.inl ⟨by rfl, ?y6t⟩) (by assumption) ?r6t
  case y6t => (intro x hx; (try dsimp only at hx); go_simp; try with_reducible rfl)
  try simp only [Act.put, List.setIfInBounds_toArray, List.set_cons_zero, List.set_cons_succ]
  refine wpAnyH_take (i := 7) (oi := { dst := some 23, op := Op.slice 22 (Operand.tmp 21) none (some (Operand.tmp 22)) none, type := 22, pos := "pack.go:119", after := #[{ on := 5, ground := Ground.data }, { on := 6, ground := Ground.data }], guard := none }) (v := ?v7t) rfl (by kernel_rfl) (by kernel_rfl) (by kernel_rfl) (fun _ _ _ h => h) (Or.inl ⟨by rfl, ?y7t⟩) (by assumption) ?r7t
  case y7t => (intro x hx; (try dsimp only at hx); go_simp; try with_reducible rfl)
  try simp only [Act.put, List.setIfInBounds_toArray, List.set_cons_zero, List.set_cons_succ]
  refine wpAnyH_ready (rs := [4]) (by kernel_rfl) (by simp) ?_
  refine AllReadyH.cons (o := { dst := some 20, op := Op.load 22 (Operand.tmp 19), type := 22, pos := "pack.go:119", after := #[{ on := 3, ground := Ground.data }], guard := none }) rfl (fun K hK => ?_) AllReadyH.nil
  go_simp
  go_wp2_with fail
  refine hK.out _ _ hHeld (fun hHeld4 => ?_)
  clear hK K
  clear hHeld4
  try simp only [Act.put, List.setIfInBounds_toArray, List.set_cons_zero, List.set_cons_succ]
  refine wpAnyH_ready (rs := [8]) (by kernel_rfl) (by simp) ?_
  refine AllReadyH.cons (o := { dst := some 24, op := Op.call { callee := Callee.builtin Builtin.append, args := #[Operand.tmp 20, Operand.tmp 23], argTypes := #[22, 22] }, type := 22, pos := "pack.go:119", after := #[{ on := 4, ground := Ground.data }, { on := 7, ground := Ground.data }], guard := none }) rfl (fun K hK => ?_) AllReadyH.nil
  refine step_append_src (by rfl) (.tmp 20) (.tmp 23) 22 (by rfl) B 5 i0 _ 1 1 Tryd.underlying22 hi0 hz0 hz1 hz2 rfl (by decide) (.slice (some ⟨g2, 0, none⟩) (N + 1 + 2) c2) (N + 1 + 2) ((laid ++ leN 1 1 ++ leN 2 (n : Int)).map (Value.int .u8)) (by rfl) HOd.out (some ⟨bk, off, none⟩) n cap ((pg.take n).map (Value.int .u8)) (by rfl) HR2n.out.rv (ints_oneCell _ _) (by simp only [maxLen]; omega) (by omega) hB2 ?_
  intro v3 w3 own3 grow3
  obtain ⟨g3, c3, rfl⟩ : ∃ g3 c3, v3 = .slice (some ⟨g3, 0, none⟩) (N + 1 + 2 + n) c3 := by obtain ⟨g3, c3, h3, _⟩ := own_shape own3 (by omega); exact ⟨g3, c3, h3⟩
  have HQ3 : Hid _ := (grow3.block q (Array.getElem?_eq_some_iff.1 HQ2.out).1 (fun e => (Own.ne HO2.out HQ2.out (by decide)) (by cases e; rfl))).trans HQ2.out
  have HO3 : Hid (Own w3 B g3 (N + 1 + 2 + n) c3 (laid ++ leN 1 1 ++ leN 2 (n : Int) ++ pg.take n)) := by have h9 := own3; rw [← List.map_append] at h9; exact h9
  have HG3 : Hid (w2.drew.grownBy w3 (some g2)) := grow3
  clear own3 grow3 c0 c1 c2' f0 f1 f2
  obtain ⟨c0, c1, c2', f0, f1, f2⟩ := blk3_cells HQ3.out
  have hSnew : True := trivial
  refine hK.out _ _ hSnew (fun hHeld8 => ?_)
  clear hK K hSnew
  clear hHeld
  have hHeld := hHeld8
  clear hHeld8
  try simp only [Act.put, List.setIfInBounds_toArray, List.set_cons_zero, List.set_cons_succ]
  refine wpAnyH_take (i := 9) (oi := { dst := some 25, op := Op.nilCheck (Operand.tmp 16), type := 0, pos := "pack.go:119", after := #[{ on := 0, ground := Ground.data }, { on := 0, ground := Ground.phase }, { on := 1, ground := Ground.phase }, { on := 2, ground := Ground.phase }, { on := 3, ground := Ground.phase }, { on := 4, ground := Ground.phase }, { on := 5, ground := Ground.phase }, { on := 6, ground := Ground.phase }, { on := 7, ground := Ground.phase }, { on := 8, ground := Ground.phase }], guard := none }) (v := ?v9t) rfl (by kernel_rfl) (by kernel_rfl) (by kernel_rfl) (fun _ _ _ h => h) (Or.inl ⟨by rfl, ?y9t⟩) (by assumption) ?r9t
  case y9t => (intro x hx; (try dsimp only at hx); go_simp; try with_reducible rfl)
  try simp only [Act.put, List.setIfInBounds_toArray, List.set_cons_zero, List.set_cons_succ]
  refine wpAnyH_take (i := 10) (oi := { dst := some 26, op := Op.fieldAddr 82 (Operand.tmp 25) 0, type := 0, pos := "pack.go:119", after := #[{ on := 9, ground := Ground.data }, { on := 0, ground := Ground.phase }, { on := 1, ground := Ground.phase }, { on := 2, ground := Ground.phase }, { on := 3, ground := Ground.phase }, { on := 4, ground := Ground.phase }, { on := 5, ground := Ground.phase }, { on := 6, ground := Ground.phase }, { on := 7, ground := Ground.phase }, { on := 8, ground := Ground.phase }], guard := none }) (v := ?v10t) rfl (by kernel_rfl) (by kernel_rfl) (by kernel_rfl) (fun _ _ _ h => h) (Or.inl ⟨by rfl, ?y10t⟩) (by assumption) ?r10t
  case y10t => (intro x hx; (try dsimp only at hx); go_simp; try with_reducible rfl)
  try simp only [Act.put, List.setIfInBounds_toArray, List.set_cons_zero, List.set_cons_succ]
  refine wpAnyH_ready (rs := [11]) (by kernel_rfl) (by simp) ?_
  refine AllReadyH.cons (o := { dst := none, op := Op.store 22 (Operand.tmp 26) (Operand.tmp 24), type := 0, pos := "pack.go:119", after := #[{ on := 10, ground := Ground.data }, { on := 8, ground := Ground.data }, { on := 8, ground := Ground.chain }, { on := 0, ground := Ground.phase }, { on := 1, ground := Ground.phase }, { on := 2, ground := Ground.phase }, { on := 3, ground := Ground.phase }, { on := 4, ground := Ground.phase }, { on := 5, ground := Ground.phase }, { on := 6, ground := Ground.phase }, { on := 7, ground := Ground.phase }, { on := 8, ground := Ground.phase }], guard := none }) rfl (fun K hK => ?_) AllReadyH.nil
  go_simp
  go_wp2_with fail
  refine hK.out _ _ hHeld (fun hHeld11 => ?_)
  clear hK K
  clear hHeld11
  try simp only [Act.put, List.setIfInBounds_toArray, List.set_cons_zero, List.set_cons_succ]
  refine wpAnyH_done (by kernel_rfl) ?_ _
  go_upto_region 4 with fail
  have HQ4 : Hid ((w3.setCell ⟨q, 0, none⟩ (.slice (some ⟨g3, 0, none⟩) (N + 1 + 2 + n) c3)).heap[q]? = some (.cells #[.slice (some ⟨g3, 0, none⟩) (N + 1 + 2 + n) c3, .int .i64 (kind : Int), .int .i64 (count : Int)] 82 (0, 0))) := blk3_0 HQ3.out _
  have HO4 : Hid (Own (w3.setCell ⟨q, 0, none⟩ (.slice (some ⟨g3, 0, none⟩) (N + 1 + 2 + n) c3)).drew B g3 (N + 1 + 2 + n) c3 (laid ++ leN 1 1 ++ leN 2 (n : Int) ++ pg.take n)) := Own.drew1 (Own.apart HO3.out (set_grown w3 q 0 _) (Own.ne HO3.out HQ3.out (by decide)).symm)
  have hB3 : B ≤ w3.heap.size := Nat.le_trans hB2 HG3.out.size
  have hK4 : Kw B w2 (w3.setCell ⟨q, 0, none⟩ (.slice (some ⟨g3, 0, none⟩) (N + 1 + 2 + n) c3)) := ((Kw.drewl _ _).trans (Kw.of_own HOd.out hB2 HG3.out)).trans (Kw.of_box HQ3.out hBq hB3 (set_grown w3 q 0 _))
  have hB4 : B ≤ (w3.setCell ⟨q, 0, none⟩ (.slice (some ⟨g3, 0, none⟩) (N + 1 + 2 + n) c3)).heap.size := Nat.le_trans hB2 hK4.bel.size
  have HR4 : Hid (Reads (w3.setCell ⟨q, 0, none⟩ (.slice (some ⟨g3, 0, none⟩) (N + 1 + 2 + n) c3)).drew (some ⟨bk, off + C, none⟩) (L - C) (pg.drop C)) := by
    have h1 := (HR.out.kw (fun x hx => by cases hx; exact hbk) (hK2'.out.trans hK4)).drew1
    obtain ⟨b', o', he, h2⟩ := h1.part C L (by omega) (Nat.le_refl _) hCL
    cases he
    rw [List.take_of_length_le (by rw [List.length_drop, HP.out]; exact Nat.le_refl _)] at h2
    exact h2
  have HK4 : Hid _ := hK4
  clear hK4 c0 c1 c2' f0 f1 f2
  obtain ⟨c0, c1, c2', f0, f1, f2⟩ := blk3_cells HQ4.out
  refine wp_region_held_drew (S := (fun _ : World => True)) (by kernel_rfl) (trivial) (fun hHeld => ?_)
  refine wpAnyH_take (i := 0) (oi := { dst := some 27, op := Op.move (Operand.tmp 0), type := 80, pos := "pack.go:120", after := #[], guard := none }) (v := ?v0u) rfl (by kernel_rfl) (by kernel_rfl) (by kernel_rfl) (fun _ _ _ h => h) (Or.inl ⟨by rfl, ?y0u⟩) (by assumption) ?r0u
  case y0u => (intro x hx; (try dsimp only at hx); go_simp; try with_reducible rfl)
  try simp only [Act.put, List.setIfInBounds_toArray, List.set_cons_zero, List.set_cons_succ]
  refine wpAnyH_take (i := 1) (oi := { dst := some 28, op := Op.move (Operand.tmp 0), type := 80, pos := "pack.go:120", after := #[], guard := none }) (v := ?v1u) rfl (by kernel_rfl) (by kernel_rfl) (by kernel_rfl) (fun _ _ _ h => h) (Or.inl ⟨by rfl, ?y1u⟩) (by assumption) ?r1u
  case y1u => (intro x hx; (try dsimp only at hx); go_simp; try with_reducible rfl)
  try simp only [Act.put, List.setIfInBounds_toArray, List.set_cons_zero, List.set_cons_succ]
  refine wpAnyH_take (i := 2) (oi := { dst := some 29, op := Op.nilCheck (Operand.tmp 28), type := 0, pos := "pack.go:120", after := #[{ on := 1, ground := Ground.data }], guard := none }) (v := ?v2u) rfl (by kernel_rfl) (by kernel_rfl) (by kernel_rfl) (fun _ _ _ h => h) (Or.inl ⟨by rfl, ?y2u⟩) (by assumption) ?r2u
  case y2u => (intro x hx; (try dsimp only at hx); go_simp; try with_reducible rfl)
  try simp only [Act.put, List.setIfInBounds_toArray, List.set_cons_zero, List.set_cons_succ]
  refine wpAnyH_take (i := 3) (oi := { dst := some 30, op := Op.fieldAddr 82 (Operand.tmp 29) 0, type := 0, pos := "pack.go:120", after := #[{ on := 2, ground := Ground.data }], guard := none }) (v := ?v3u) rfl (by kernel_rfl) (by kernel_rfl) (by kernel_rfl) (fun _ _ _ h => h) (Or.inl ⟨by rfl, ?y3u⟩) (by assumption) ?r3u
  case y3u => (intro x hx; (try dsimp only at hx); go_simp; try with_reducible rfl)
  try simp only [Act.put, List.setIfInBounds_toArray, List.set_cons_zero, List.set_cons_succ]
  refine wpAnyH_take (i := 5) (oi := { dst := some 32, op := Op.move (Operand.tmp 1), type := 22, pos := "pack.go:120", after := #[], guard := none }) (v := ?v5u) rfl (by kernel_rfl) (by kernel_rfl) (by kernel_rfl) (fun _ _ _ h => h) (Or.inl ⟨by rfl, ?y5u⟩) (by assumption) ?r5u
  case y5u => (intro x hx; (try dsimp only at hx); go_simp; try with_reducible rfl)
  try simp only [Act.put, List.setIfInBounds_toArray, List.set_cons_zero, List.set_cons_succ]
  refine wpAnyH_take (i := 6) (oi := { dst := some 33, op := Op.move (Operand.tmp 2), type := 3, pos := "pack.go:120", after := #[], guard := none }) (v := ?v6u) rfl (by kernel_rfl) (by kernel_rfl) (by kernel_rfl) (fun _ _ _ h => h) (Or.inl ⟨by rfl, ?y6u⟩) (by assumption) ?r6u
  case y6u => (intro x hx; (try dsimp only at hx); go_simp; try with_reducible rfl)
  try simp only [Act.put, List.setIfInBounds_toArray, List.set_cons_zero, List.set_cons_succ]
  refine wpAnyH_take (i := 7) (oi := { dst := some 34, op := Op.slice 22 (Operand.tmp 32) (some (Operand.tmp 33)) none none, type := 22, pos := "pack.go:120", after := #[{ on := 5, ground := Ground.data }, { on := 6, ground := Ground.data }], guard := none }) (v := ?v7u) rfl (by kernel_rfl) (by kernel_rfl) (by kernel_rfl) (fun _ _ _ h => h) (Or.inl ⟨by rfl, ?y7u⟩) (by assumption) ?r7u
  case y7u => (intro x hx; (try dsimp only at hx); go_simp; try with_reducible rfl)
  try simp only [Act.put, List.setIfInBounds_toArray, List.set_cons_zero, List.set_cons_succ]
  refine wpAnyH_ready (rs := [4]) (by kernel_rfl) (by simp) ?_
  refine AllReadyH.cons (o := { dst := some 31, op := Op.load 22 (Operand.tmp 30), type := 22, pos := "pack.go:120", after := #[{ on := 3, ground := Ground.data }], guard := none }) rfl (fun K hK => ?_) AllReadyH.nil
  go_simp
  go_wp2_with fail
  refine hK.out _ _ hHeld (fun hHeld4 => ?_)
  clear hK K
  clear hHeld4
  try simp only [Act.put, List.setIfInBounds_toArray, List.set_cons_zero, List.set_cons_succ]
  refine wpAnyH_ready (rs := [8]) (by kernel_rfl) (by simp) ?_
  refine AllReadyH.cons (o := { dst := some 35, op := Op.call { callee := Callee.builtin Builtin.append, args := #[Operand.tmp 31, Operand.tmp 34], argTypes := #[22, 22] }, type := 22, pos := "pack.go:120", after := #[{ on := 4, ground := Ground.data }, { on := 7, ground := Ground.data }], guard := none }) rfl (fun K hK => ?_) AllReadyH.nil
  refine step_append_src (by rfl) (.tmp 31) (.tmp 34) 22 (by rfl) B 5 i0 _ 1 1 Tryd.underlying22 hi0 hz0 hz1 hz2 rfl (by decide) (.slice (some ⟨g3, 0, none⟩) (N + 1 + 2 + n) c3) (N + 1 + 2 + n) ((laid ++ leN 1 1 ++ leN 2 (n : Int) ++ pg.take n).map (Value.int .u8)) (by rfl) HO4.out (some ⟨bk, off + C, none⟩) (L - C) (cap - C) ((pg.drop C).map (Value.int .u8)) (by rfl) HR4.out.rv (ints_oneCell _ _) (by simp only [maxLen]; omega) (by omega) hB4 ?_
  intro v5 w5 own5 grow5
  obtain ⟨g5, c5, rfl⟩ : ∃ g5 c5, v5 = .slice (some ⟨g5, 0, none⟩) (N + 1 + 2 + n + (L - C)) c5 := by obtain ⟨g5, c5, h5, _⟩ := own_shape own5 (by omega); exact ⟨g5, c5, h5⟩
  have HQ5 : Hid _ := (grow5.block q (Array.getElem?_eq_some_iff.1 HQ4.out).1 (fun e => (Own.ne HO4.out HQ4.out (by decide)) (by cases e; rfl))).trans HQ4.out
  have HO5 : Hid (Own w5 B g5 (N + 1 + 2 + n + (L - C)) c5 (laid ++ leN 1 1 ++ leN 2 (n : Int) ++ pg.take n ++ pg.drop C)) := by have h9 := own5; rw [← List.map_append] at h9; exact h9
  have HG5 : Hid ((w3.setCell ⟨q, 0, none⟩ (.slice (some ⟨g3, 0, none⟩) (N + 1 + 2 + n) c3)).drew.grownBy w5 (some g3)) := grow5
  clear own5 grow5 c0 c1 c2' f0 f1 f2
  obtain ⟨c0, c1, c2', f0, f1, f2⟩ := blk3_cells HQ5.out
  have hSnew : True := trivial
  refine hK.out _ _ hSnew (fun hHeld8 => ?_)
  clear hK K hSnew
  clear hHeld
  have hHeld := hHeld8
  clear hHeld8
  try simp only [Act.put, List.setIfInBounds_toArray, List.set_cons_zero, List.set_cons_succ]
  refine wpAnyH_take (i := 9) (oi := { dst := some 36, op := Op.nilCheck (Operand.tmp 27), type := 0, pos := "pack.go:120", after := #[{ on := 0, ground := Ground.data }, { on := 0, ground := Ground.phase }, { on := 1, ground := Ground.phase }, { on := 2, ground := Ground.phase }, { on := 3, ground := Ground.phase }, { on := 4, ground := Ground.phase }, { on := 5, ground := Ground.phase }, { on := 6, ground := Ground.phase }, { on := 7, ground := Ground.phase }, { on := 8, ground := Ground.phase }], guard := none }) (v := ?v9u) rfl (by kernel_rfl) (by kernel_rfl) (by kernel_rfl) (fun _ _ _ h => h) (Or.inl ⟨by rfl, ?y9u⟩) (by assumption) ?r9u
  case y9u => (intro x hx; (try dsimp only at hx); go_simp; try with_reducible rfl)
  try simp only [Act.put, List.setIfInBounds_toArray, List.set_cons_zero, List.set_cons_succ]
  refine wpAnyH_take (i := 10) (oi := { dst := some 37, op := Op.fieldAddr 82 (Operand.tmp 36) 0, type := 0, pos := "pack.go:120", after := #[{ on := 9, ground := Ground.data }, { on := 0, ground := Ground.phase }, { on := 1, ground := Ground.phase }, { on := 2, ground := Ground.phase }, { on := 3, ground := Ground.phase }, { on := 4, ground := Ground.phase }, { on := 5, ground := Ground.phase }, { on := 6, ground := Ground.phase }, { on := 7, ground := Ground.phase }, { on := 8, ground := Ground.phase }], guard := none }) (v := ?v10u) rfl (by kernel_rfl) (by kernel_rfl) (by kernel_rfl) (fun _ _ _ h => h) (Or.inl ⟨by rfl, ?y10u⟩) (by assumption) ?r10u
  case y10u => (intro x hx; (try dsimp only at hx); go_simp; try with_reducible rfl)
  try simp only [Act.put, List.setIfInBounds_toArray, List.set_cons_zero, List.set_cons_succ]
  refine wpAnyH_ready (rs := [11]) (by kernel_rfl) (by simp) ?_
  refine AllReadyH.cons (o := { dst := none, op := Op.store 22 (Operand.tmp 37) (Operand.tmp 35), type := 0, pos := "pack.go:120", after := #[{ on := 10, ground := Ground.data }, { on := 8, ground := Ground.data }, { on := 8, ground := Ground.chain }, { on := 0, ground := Ground.phase }, { on := 1, ground := Ground.phase }, { on := 2, ground := Ground.phase }, { on := 3, ground := Ground.phase }, { on := 4, ground := Ground.phase }, { on := 5, ground := Ground.phase }, { on := 6, ground := Ground.phase }, { on := 7, ground := Ground.phase }, { on := 8, ground := Ground.phase }], guard := none }) rfl (fun K hK => ?_) AllReadyH.nil
  go_simp
  go_wp2_with fail
  refine hK.out _ _ hHeld (fun hHeld11 => ?_)
  clear hK K
  clear hHeld11
  try simp only [Act.put, List.setIfInBounds_toArray, List.set_cons_zero, List.set_cons_succ]
  refine wpAnyH_done (by kernel_rfl) ?_ _
  go_wp2
  go_end0
  have e9 : laid ++ leN 1 1 ++ leN 2 (n : Int) ++ pg.take n ++ pg.drop C = laid ++ enc C ⟨1, 1, pg⟩ := by
    rw [told_enc, HE.out, leN2 n (by omega), show leN 1 1 = [(1 : Int)] from leN1 1 (by omega)]
    simp only [List.append_assoc, List.cons_append, List.nil_append]
  have hq6 := blk3_2 (blk3_0 HQ5.out (.slice (some ⟨g5, 0, none⟩) (N + 1 + 2 + n + (L - C)) c5)) (.int .i64 0)
  have hg6 := grownBy_trans (set_grown w5 q 0 (.slice (some ⟨g5, 0, none⟩) (N + 1 + 2 + n + (L - C)) c5)) (set_grown _ q 2 (.int .i64 0))
  have o6 := Own.apart HO5.out hg6 (Own.ne HO5.out HQ5.out (by decide)).symm
  have hlen : (laid ++ enc C ⟨1, 1, pg⟩).length = N + 1 + 2 + n + (L - C) := by
    rw [← e9]
    simp only [List.length_append, leN_length, HN.out, List.length_take, List.length_drop, HP.out]
    omega
  rw [e9] at o6
  refine ⟨rfl, ⟨g5, c5, ?_, ?_, hBq, ?_⟩, ?_⟩
  · unfold toldS
    simp only [hlen]
    exact hq6
  · unfold toldS
    simp only [hlen]
    exact o6
  · unfold toldS
    simp only
    rw [← e9]
    intro x hx
    rcases List.mem_append.1 hx with hx | hx
    · rcases List.mem_append.1 hx with hx | hx
      · exact HY2.out x hx
      · exact HR.out.2.1 x (List.mem_of_mem_take hx)
    · exact HR.out.2.1 x (List.mem_of_mem_drop hx)
  · have s5 : B ≤ w5.heap.size := Nat.le_trans hB4 HG5.out.size
    exact ((hK2'.out.trans HK4.out).trans ((Kw.drewl _ _).trans (Kw.of_own HO4.out hB4 HG5.out))).trans (Kw.of_box HQ5.out hBq s5 hg6)

end Go.Proofs.YteefekhlbillfaaDoor
