/-
  SEAT Ytejonebnmeinhab: JudgeSees' walk.
-/
import Derived.Test.YtejonebnmeinhabSeC
import Derived.ArgAppend
namespace Go.Proofs.Ytejonebnmeinhab
open Go.RowKit
set_option linter.unusedVariables false

theorem low_size {B : Nat} {w w' : World} (h : Below B w w') (hB : B ≤ w.heap.size) : w.heap.size ≤ w'.heap.size := h.size
theorem append_int {w : World} {ops : Array Oper} {rest : List Oper} {o : Oper} {a : Act} {Q : Exit → Act → World → Prop} (hgd : o.guard = none) (s x : Operand)
    (ho : o.op = .call { callee := .builtin .append, args := #[s, x], argTypes := #[87, 87] }) (g n : Nat) (xs : List Int) (hl : xs.length = n) (hn : n ≤ 5000) (hr : IntsAt w g xs) (y : Int)
    (hs : a.eval s = .slice (some ⟨g, 0, none⟩) n n) (hx : a.eval x = .slice (some ⟨w.heap.size, 0, none⟩) 1 1)
    (h : ∀ g' cap w', n + 1 ≤ cap → w'.cell? ⟨g', n, none⟩ = some (.int .i64 y) → Below w.heap.size w w' → wpList Try.prog ops Q rest (a.put o.dst (.slice (some ⟨g', 0, none⟩) (n + 1) cap)) w') :
    wpList Try.prog ops Q (o :: rest) a (w.alloc (.cells #[.int .i64 y] 3)) := by
  obtain ⟨i0, hi, hz0, hz1, hz2⟩ := info_parts info3
  have hq : Below w.heap.size w (w.alloc (.cells #[.int .i64 y] 3)) := (Below.refl _ _).alloc (Nat.le_refl _) _
  have hr1 := hr.below hq hr.lt
  refine wpList_append_grows _ hgd s x 87 ho 3 i0 _ 1 8 Try.underlying87 hi hz0 hz1 hz2 rfl (by decide) (some ⟨g, 0, none⟩) n n (xs.map (Value.int .i64)) hs (fun q => by cases q) (by simp [hl]) ?_ ⟨w.heap.size, 0, none⟩ 1 1 [.int .i64 y] hx rfl ?_ ?_ (by omega) (by simp [maxLen]; omega) (by omega) ?_
  · intro b hb j u hu
    cases hb
    rw [plain_add, Nat.zero_add]
    unfold IntsAt at hr1
    simp only [World.cell?, hr1]
    simpa using hu
  · intro j u hj
    exact World.news_of_block (heap_alloc_new w _) j u hj
  · intro u hu
    simp at hu
    subst hu
    rfl
  · intro v' w' own gr
    obtain ⟨g', cap, rfl, hc, _, _, _⟩ := own_shape own (by omega)
    refine h g' cap w' hc ?_ (hq.grown gr (by simp) (fun k hk => by cases hk))
    rw [World.ownsRow.cellAt own n (by omega), List.getElem?_append_right (by simp; omega)]
    simp [hl]
def fillI (xs : List Int) (v : Int) (k : Nat) : List Int := List.replicate k v ++ xs.drop k
theorem fillI_zero (xs : List Int) (v : Int) : fillI xs v 0 = xs := by simp [fillI]
theorem fillI_len (xs : List Int) (v : Int) (k : Nat) (h : k ≤ xs.length) : (fillI xs v k).length = xs.length := by simp [fillI]; omega
theorem fillI_step (xs : List Int) (v : Int) (k : Nat) (h : k < xs.length) : (fillI xs v k).set k v = fillI xs v (k + 1) := by
  unfold fillI
  rw [List.set_append_right _ _ (by simp), List.length_replicate, Nat.sub_self, List.drop_eq_getElem_cons h, List.set_cons_zero, List.replicate_succ']
  simp
theorem fillI_get (xs : List Int) (v : Int) (i : Nat) (h : i < xs.length) : (fillI xs v xs.length).getD i 0 = v := by
  simp [fillI, List.getD_eq_getElem?_getD, h]
/-- Two answers of Wear written over, a third one kept. -/
structure FillW (U w : World) (B gj bm : Nat) (b p s : Int) (st : List Blk) (gw gx gz : Nat) (xs : List Int) (k : Nat) : Prop where
  ja : JudgeAt w gj b p s bm st
  bel : Below B U w
  siz : B ≤ w.heap.size
  iw : IntsAt w gw (fillI xs 1000 k)
  ix : IntsAt w gx (fillI xs 2000 k)
  iz : IntsAt w gz xs
  ne : gw ≠ gj ∧ gw ≠ bm ∧ gx ≠ gj ∧ gx ≠ bm ∧ gw ≠ gx ∧ gw ≠ gz ∧ gx ≠ gz
  low : B ≤ gw ∧ B ≤ gx
section
variable {U w w' : World} {B gj bm : Nat} {b p s : Int} {st : List Blk} {gw gx gz : Nat} {xs : List Int} {k : Nat}
theorem FillW.step (h : FillW U w B gj bm b p s st gw gx gz xs k) (hk : k < xs.length) : FillW U ((w.setCell ⟨gw, k, none⟩ (.int .i64 1000)).setCell ⟨gx, k, none⟩ (.int .i64 2000)) B gj bm b p s st gw gx gz xs (k + 1) := by
  obtain ⟨n1, n2, n3, n4, n5, n6, n7⟩ := h.ne
  have g1 := grown_set1 w gw k (.int .i64 1000)
  have g2 := grown_set1 (w.setCell ⟨gw, k, none⟩ (.int .i64 1000)) gx k (.int .i64 2000)
  have b1 := below_far1 h.bel h.siz g1 h.low.1
  have z1 := Nat.le_trans h.siz g1.size
  have sne : ∀ {x y : Nat}, x ≠ y → some x ≠ some y := fun q e => q (by injection e)
  refine ⟨(h.ja.far g1 n1.symm n2.symm).far g2 n3.symm n4.symm, below_far1 b1 z1 g2 h.low.2, Nat.le_trans z1 g2.size, ?_, ?_, (h.iz.grown g1 (sne n6.symm)).grown g2 (sne n7.symm), h.ne, h.low⟩
  · have := h.iw.put k 1000
    rw [fillI_step _ _ _ hk] at this
    exact this.grown g2 (sne n5)
  · have := (h.ix.grown g1 (sne n5.symm)).put k 2000
    rw [fillI_step _ _ _ hk] at this
    exact this
theorem FillW.below (h : FillW U w B gj bm b p s st gw gx gz xs k) (hb : Below w.heap.size w w') : FillW U w' B gj bm b p s st gw gx gz xs k :=
  ⟨h.ja.grown (grown_of hb none), h.bel.trans (hb.mono h.siz), Nat.le_trans h.siz hb.size, h.iw.below hb h.iw.lt, h.ix.below hb h.ix.lt, h.iz.below hb h.iz.lt, h.ne, h.low⟩
end

set_option maxRecDepth 100000 in
theorem sees_bad (b p s : Int) (a : Option Addr) (len cap : Nat) (bs : List Bool) (clean : Bool) (a3 : Option Addr) (n cap3 : Nat) (blk : Int) (w : World) (hr : ReadsB w a len bs) (hl : len ≤ 140737488351232) (hE : newE b p s len ≠ 0) :
    Calls Try.prog 8 #[.agg #[.int .i64 b, .int .i64 p, .int .i64 s], .slice a len cap, .bool clean, .slice a3 n cap3, .int .i64 blk] w fun e w' => e = .returned (.bool true) ∧ Below w.heap.size w w' := by
  have HR : Hid (ReadsB w a len bs) := hr
  have HE : Hid (newE b p s len ≠ 0) := hE
  have HA : Hid (Below w.heap.size w (w.alloc (.cells #[.int .i64 b, .int .i64 p, .int .i64 s] 23))) := (Below.refl _ _).alloc (Nat.le_refl _) _
  clear hr hE
  go_enter Try.func8, Try.ntmps8
  go_wp2_with (first | (go_at_call 30; refine (begunS_bad b p s a len cap bs clean _ (HR.out.below HA.out) hl HE.out).mono ?_; rintro e u1 ⟨gr, rfl, q1⟩; have Q1 : Hid (Below w.heap.size w u1) := below_trans HA.out q1; clear q1))
  go_ret
  exact ⟨rfl, Q1.out⟩

set_option maxHeartbeats 8000000 in
set_option maxRecDepth 100000 in
theorem sees_ok (b p s : Int) (a : Option Addr) (len cap : Nat) (bs : List Bool) (clean : Bool) (a3 : Option Addr) (n cap3 : Nat) (cs : List Cmd) (blk : Int) (w : World) (hr : ReadsB w a len bs) (hl : len ≤ 140737488351232) (hc : ReadsC w a3 n cs) (hn : n * 32 ≤ 140737488351232) (wk : Wf blk) (hE : newE b p s len = 0) :
    Calls Try.prog 8 #[.agg #[.int .i64 b, .int .i64 p, .int .i64 s], .slice a len cap, .bool clean, .slice a3 n cap3, .int .i64 blk] w fun e w' => e = .returned (.bool true) ∧ Below w.heap.size w w' := by
  have hf : Fits b p s = true := by
    cases hf : Fits b p s with
    | true => rfl
    | false => simp [newE, hf] at hE
  have hbd := fits_b hf
  have hlb : (len : Int) = b := by
    by_cases hb : (len : Int) = b
    · exact hb
    · simp [newE, hf, hb] at hE
  have hp : 4 ≤ p ∧ p ≤ 256 := by omega
  have hll : 8 ≤ len ∧ len ≤ 4096 := by omega
  have hn9 : n ≤ 4398046510976 := by omega
  have HX : Hid (n ≤ 140737488355000 ∧ (n + 1) * 32 ≤ 140737488355328) := by unfold Hid; omega
  have HLB : Hid (b = (len : Int)) := hlb.symm
  have HR : Hid (ReadsB w a len bs) := hr
  have HC : Hid (ReadsC w a3 n cs) := hc
  have HE : Hid (newE b p s len = 0) := hE
  have HWK : Hid (Wf blk) := wk
  have HA : Hid (Below w.heap.size w (w.alloc (.cells #[.int .i64 b, .int .i64 p, .int .i64 s] 23))) := (Below.refl _ _).alloc (Nat.le_refl _) _
  clear hr hE hf hbd hlb hc wk
  go_enter Try.func8, Try.ntmps8
  go_wp2_with (first | (go_at_call 30; refine (begunS_ok b p s a len cap bs clean _ (HR.out.below HA.out) hl HE.out).mono ?_; rintro e u1 ⟨gj, bm, gr, am, km, rfl, b1, q1, k1, k2, k3⟩; have HB1 : Hid (Both u1 gj bm gr gr b p s am len km bs clean []) := b1; have Q1 : Hid (Below w.heap.size w u1) := below_trans HA.out q1; have hgj : w.heap.size ≤ gj := (by simp at k2; omega); have hbm : w.heap.size ≤ bm := (by simp at k3; omega); have hgr : w.heap.size ≤ gr := (by have := b1.lt; omega); have HS1 : Hid (gr < u1.heap.size) := k1; clear q1 k1 k2 k3 b1))
  go_loopw [14, 15, 16, 17, 18] (fun s14 s15 s16 s17 s18 wr => ∃ k : Nat, k ≤ n ∧ s14 = .int .i64 k ∧ Hid (∃ seen : List Cmd, seen.length ≤ k ∧ Both wr gj bm gr gr b p s am len km bs clean seen) ∧ Hid (Below w.heap.size w wr) ∧ Hid (gr < wr.heap.size))
    (fun i _ _ _ _ _ => n - (intOf i).toNat)
  case atStart => exact ⟨0, Nat.zero_le _, rfl, ⟨[], Nat.le_refl _, HB1.out⟩, Q1, HS1⟩
  case round =>
    obtain ⟨k, hk, rfl, HS, HQ, HG⟩ := hrel
    obtain ⟨seen, hsl, hbo⟩ := HS.out
    have HB : Hid (Both wr gj bm gr gr b p s am len km bs clean seen) := hbo
    clear HB1 Q1 HS1 HS hbo
    by_cases hlt : k < n
    · obtain ⟨go, off, rfl, hg, hcell⟩ := HC.out.pos (by omega)
      have hok := okAt HC.out.2.1 k (by have := HC.out.1; omega)
      have hc9 := hcell k hlt
      obtain ⟨X, hX⟩ : ∃ X, cs.getD k Cmd.none = X := ⟨_, rfl⟩
      rw [hX] at hc9 hok
      obtain ⟨ck, cb, cp, cq⟩ := X
      have HCC : Hid (∀ u, Below w.heap.size w u → u.cell? ⟨go, off + k * 4, none⟩ = some (.int .i64 ck) ∧ u.cell? ⟨go, off + k * 4 + 1, none⟩ = some (.int .i64 cb) ∧ u.cell? ⟨go, off + k * 4 + 2, none⟩ = some (.int .i64 cp) ∧ u.cell? ⟨go, off + k * 4 + 3, none⟩ = some (.int .i64 cq)) := fun u hu => ⟨(hu.cell hg).trans hc9.1, (hu.cell hg).trans hc9.2.1, (hu.cell hg).trans hc9.2.2.1, (hu.cell hg).trans hc9.2.2.2⟩
      have HOK : Hid ((Cmd.mk ck cb cp cq).Ok) := hok
      have HWB : Hid (Wf cb) := hok.b
      have dk : (k : Int) < n := by omega
      clear hcell hX hok hc9
      go_upto_region 7 with fail
      have HBD : Hid (Both wr.drew gj bm gr gr b p s am len km bs clean seen) := HB.out.below (Below.refl _ _).drew
      have HQD : Hid (Below w.heap.size w wr.drew) := HQ.out.drew
      obtain ⟨o, hpp⟩ := both_see HBD.out hp ck cb cp cq HOK.out (by have := HX.out.2; omega) (Nat.le_of_lt HG.out)
      have HPP : Hid (Calls Try.prog 26 _ _ _) := hpp
      clear hpp
      refine wp_region_held_drew (S := (fun x => x.cell? ⟨go, off + k * 4, none⟩ = some (.int .i64 ck) ∧ x.cell? ⟨go, off + k * 4 + 1, none⟩ = some (.int .i64 cb) ∧ x.cell? ⟨go, off + k * 4 + 2, none⟩ = some (.int .i64 cp) ∧ x.cell? ⟨go, off + k * 4 + 3, none⟩ = some (.int .i64 cq))) (by kernel_rfl) (HCC.out _ HQD.out) (fun hHeld => ?_)
      refine wpAnyH_take (i := 0) (oi := { dst := some 51, op := Op.move (Operand.tmp 11), type := 68, pos := "law.go:79", after := #[], guard := none }) (v := ?v0s) rfl (by kernel_rfl) (by kernel_rfl) (by kernel_rfl) (fun _ _ _ h => h) (Or.inl ⟨by rfl, ?y0s⟩) (by assumption) ?r0s
      case y0s => (intro x hx; (try dsimp only at hx); go_simp; try with_reducible rfl)
      try simp only [Act.put, List.setIfInBounds_toArray, List.set_cons_zero, List.set_cons_succ]
      refine wpAnyH_take (i := 1) (oi := { dst := some 52, op := Op.move (Operand.tmp 3), type := 62, pos := "law.go:79", after := #[], guard := none }) (v := ?v1s) rfl (by kernel_rfl) (by kernel_rfl) (by kernel_rfl) (fun _ _ _ h => h) (Or.inl ⟨by rfl, ?y1s⟩) (by assumption) ?r1s
      case y1s => (intro x hx; (try dsimp only at hx); go_simp; try with_reducible rfl)
      try simp only [Act.put, List.setIfInBounds_toArray, List.set_cons_zero, List.set_cons_succ]
      refine wpAnyH_take (i := 2) (oi := { dst := some 53, op := Op.move (Operand.tmp 14), type := 3, pos := "law.go:79", after := #[], guard := none }) (v := ?v2s) rfl (by kernel_rfl) (by kernel_rfl) (by kernel_rfl) (fun _ _ _ h => h) (Or.inl ⟨by rfl, ?y2s⟩) (by assumption) ?r2s
      case y2s => (intro x hx; (try dsimp only at hx); go_simp; try with_reducible rfl)
      try simp only [Act.put, List.setIfInBounds_toArray, List.set_cons_zero, List.set_cons_succ]
      refine wpAnyH_take (i := 3) (oi := { dst := some 54, op := Op.indexAddr 62 (Operand.tmp 52) (Operand.tmp 53), type := 0, pos := "law.go:79", after := #[{ on := 1, ground := Ground.data }, { on := 2, ground := Ground.data }], guard := none }) (v := ?v3s) rfl (by kernel_rfl) (by kernel_rfl) (by kernel_rfl) (fun _ _ _ h => h) (Or.inl ⟨by rfl, ?y3s⟩) (by assumption) ?r3s
      case y3s => (intro x hx; (try dsimp only at hx); go_simp; try with_reducible rfl)
      try simp only [Act.put, List.setIfInBounds_toArray, List.set_cons_zero, List.set_cons_succ]
      refine wpAnyH_take (i := 4) (oi := { dst := some 55, op := Op.load 73 (Operand.tmp 54), type := 73, pos := "law.go:79", after := #[{ on := 3, ground := Ground.data }], guard := none }) (v := ?v4s) rfl (by kernel_rfl) (by kernel_rfl) (by kernel_rfl) (fun _ _ _ h => h) (Or.inl ⟨by rfl, ?y4s⟩) (by assumption) ?r4s
      case y4s => (intro x hx; (try dsimp only at hx); go_simp; try with_reducible rfl)
      try simp only [Act.put, List.setIfInBounds_toArray, List.set_cons_zero, List.set_cons_succ]
      refine wpAnyH_take (i := 6) (oi := { dst := some 57, op := Op.move (Operand.tmp 12), type := 82, pos := "law.go:79", after := #[], guard := none }) (v := ?v6s) rfl (by kernel_rfl) (by kernel_rfl) (by kernel_rfl) (fun _ _ _ h => h) (Or.inl ⟨by rfl, ?y6s⟩) (by assumption) ?r6s
      case y6s => (intro x hx; (try dsimp only at hx); go_simp; try with_reducible rfl)
      try simp only [Act.put, List.setIfInBounds_toArray, List.set_cons_zero, List.set_cons_succ]
      refine wpAnyH_take (i := 7) (oi := { dst := some 58, op := Op.move (Operand.tmp 3), type := 62, pos := "law.go:79", after := #[], guard := none }) (v := ?v7s) rfl (by kernel_rfl) (by kernel_rfl) (by kernel_rfl) (fun _ _ _ h => h) (Or.inl ⟨by rfl, ?y7s⟩) (by assumption) ?r7s
      case y7s => (intro x hx; (try dsimp only at hx); go_simp; try with_reducible rfl)
      try simp only [Act.put, List.setIfInBounds_toArray, List.set_cons_zero, List.set_cons_succ]
      refine wpAnyH_take (i := 8) (oi := { dst := some 59, op := Op.move (Operand.tmp 14), type := 3, pos := "law.go:79", after := #[], guard := none }) (v := ?v8s) rfl (by kernel_rfl) (by kernel_rfl) (by kernel_rfl) (fun _ _ _ h => h) (Or.inl ⟨by rfl, ?y8s⟩) (by assumption) ?r8s
      case y8s => (intro x hx; (try dsimp only at hx); go_simp; try with_reducible rfl)
      try simp only [Act.put, List.setIfInBounds_toArray, List.set_cons_zero, List.set_cons_succ]
      refine wpAnyH_take (i := 9) (oi := { dst := some 60, op := Op.indexAddr 62 (Operand.tmp 58) (Operand.tmp 59), type := 0, pos := "law.go:79", after := #[{ on := 7, ground := Ground.data }, { on := 8, ground := Ground.data }], guard := none }) (v := ?v9s) rfl (by kernel_rfl) (by kernel_rfl) (by kernel_rfl) (fun _ _ _ h => h) (Or.inl ⟨by rfl, ?y9s⟩) (by assumption) ?r9s
      case y9s => (intro x hx; (try dsimp only at hx); go_simp; try with_reducible rfl)
      try simp only [Act.put, List.setIfInBounds_toArray, List.set_cons_zero, List.set_cons_succ]
      refine wpAnyH_take (i := 10) (oi := { dst := some 61, op := Op.load 73 (Operand.tmp 60), type := 73, pos := "law.go:79", after := #[{ on := 9, ground := Ground.data }], guard := none }) (v := ?v10s) rfl (by kernel_rfl) (by kernel_rfl) (by kernel_rfl) (fun _ _ _ h => h) (Or.inl ⟨by rfl, ?y10s⟩) (by assumption) ?r10s
      case y10s => (intro x hx; (try dsimp only at hx); go_simp; try with_reducible rfl)
      try simp only [Act.put, List.setIfInBounds_toArray, List.set_cons_zero, List.set_cons_succ]
      refine wpAnyH_ready (rs := [5]) (by kernel_rfl) (by simp) ?_
      refine AllReadyH.cons (o := { dst := some 56, op := Op.call { callee := Callee.value (Operand.func 26), args := #[Operand.tmp 51, Operand.tmp 55], argTypes := #[68, 73] }, type := 4, pos := "law.go:79", after := #[{ on := 0, ground := Ground.data }, { on := 4, ground := Ground.data }], guard := none }) rfl (fun K hK => ?_) AllReadyH.nil
      go_simp
      go_at_call 26
      refine Calls.mono HPP.out ?_
      rintro e t1 ⟨rfl, g1, nx⟩
      have NX : Hid (Calls Try.prog 31 _ t1 _) := nx
      have B1 : Hid (Below w.heap.size w t1) := below_far1 HQD.out HQD.out.size g1 hbm
      have G1 : Hid (gr < t1.heap.size) := Nat.lt_of_lt_of_le HG.out g1.size
      have hSnew := HCC.out _ B1.out
      clear nx g1
      go_wp2_with fail
      refine hK.out _ _ hSnew (fun hHeld5 => ?_)
      clear hK K hSnew
      clear hHeld
      have hHeld := hHeld5
      clear hHeld5
      try simp only [Act.put, List.setIfInBounds_toArray, List.set_cons_zero, List.set_cons_succ]
      refine wpAnyH_ready (rs := [11]) (by kernel_rfl) (by simp) ?_
      refine AllReadyH.cons (o := { dst := some 62, op := Op.call { callee := Callee.value (Operand.func 31), args := #[Operand.tmp 57, Operand.tmp 61], argTypes := #[82, 73] }, type := 4, pos := "law.go:79", after := #[{ on := 6, ground := Ground.data }, { on := 10, ground := Ground.data }, { on := 5, ground := Ground.chain }], guard := none }) rfl (fun K hK => ?_) AllReadyH.nil
      go_simp
      go_at_call 31
      refine Calls.mono NX.out ?_
      rintro e t2 ⟨rfl, q2, seen2, hsl2, bo2⟩
      have HB2 : Hid (Both t2 gj bm gr gr b p s am len km bs clean seen2) := bo2
      have B2 : Hid (Below w.heap.size w t2) := B1.out.trans (q2.mono hgr)
      have G2 : Hid (gr < t2.heap.size) := Nat.lt_of_lt_of_le G1.out (low_size q2 (Nat.le_of_lt G1.out))
      have hSnew := HCC.out _ B2.out
      clear q2 bo2
      go_wp2_with fail
      refine hK.out _ _ hSnew (fun hHeld11 => ?_)
      clear hK K hSnew
      clear hHeld
      have hHeld := hHeld11
      clear hHeld11
      try simp only [Act.put, List.setIfInBounds_toArray, List.set_cons_zero, List.set_cons_succ]
      refine wpAnyH_take (i := 12) (oi := { dst := some 63, op := Op.binOp BinOp.neq 4 (Operand.tmp 56) (Operand.tmp 62) 4, type := 4, pos := "law.go:79", after := #[{ on := 5, ground := Ground.data }, { on := 11, ground := Ground.data }], guard := none }) (v := ?v12s) rfl (by kernel_rfl) (by kernel_rfl) (by kernel_rfl) (fun _ _ _ h => h) (Or.inl ⟨by rfl, ?y12s⟩) (by assumption) ?r12s
      case y12s => (intro x hx; (try dsimp only at hx); go_simp; try with_reducible rfl)
      try simp only [Act.put, List.setIfInBounds_toArray, List.set_cons_zero, List.set_cons_succ]
      refine wpAnyH_done (by kernel_rfl) ?_ _
      clear HB HBD HQD HQ HG B1 G1 NX HPP hHeld
      have don : (o != o) = false := by simp
      obtain ⟨NV, hNV⟩ : ∃ NV, nextN p (know p clean bs seen2) cb = NV := ⟨_, rfl⟩
      obtain ⟨NF, hNF⟩ : ∃ NF, nextF (know p clean bs seen2) cb = NF := ⟨_, rfl⟩
      have HNV : Hid _ := hNV
      have HNF : Hid _ := hNF
      obtain ⟨y0, y1, y2, y3⟩ := HCC.out _ B2.out
      clear hNV hNF y0 y2 y3
      go_wp2_with (first
        | (go_at_call 32; refine (jnext_any gj bm b p s _ cb _ HB2.out.ja HWB.out).mono ?_; rintro e t3 ⟨rfl, q3⟩; rw [HNV.out, HNF.out]; have HB3 : Hid (Both t3 gj bm gr gr b p s am len km bs clean seen2) := HB2.out.below q3; have B3 : Hid (Below w.heap.size w t3) := B2.out.trans (q3.mono B2.out.size); have G3 : Hid (gr < t3.heap.size) := Nat.lt_of_lt_of_le G2.out q3.size; have y1 := (HCC.out _ B3.out).2.1; clear q3 HB2 B2 G2)
        | (go_at_call 33; obtain ⟨v9, r9⟩ := HB3.out.ro; obtain ⟨ac, kc, _, ra⟩ := r9.at; refine (rnext_any gr b p s am len km bs clean ac _ kc seen2 cb _ ra HLB.out (by have := HX.out.1; omega) (by omega) HB3.out.pg).mono ?_; rintro e t4 ⟨rfl, q4⟩; rw [HNV.out, HNF.out]; have HB4 : Hid (Both t4 gj bm gr gr b p s am len km bs clean seen2) := HB3.out.below q4; have B4 : Hid (Below w.heap.size w t4) := B3.out.trans (q4.mono B3.out.size); have G4 : Hid (gr < t4.heap.size) := Nat.lt_of_lt_of_le G3.out q4.size; clear q4 HB3 B3 G3 ra r9))
      go_roundw
      case rel => exact ⟨k + 1, by omega, by go_num, ⟨seen2, by omega, HB4.out⟩, B4, G4⟩
      case measure => simp [intOf]; omega
    · obtain rfl : k = n := by omega
      clear hlt
      have HB0 : Hid (Both wr gj bm gr gr b p s am len km bs clean seen) := HB.out
      have B0 : Hid (Below w.heap.size w wr) := HQ.out
      clear HB HQ
      obtain ⟨NV, hNV⟩ : ∃ NV, nextN p (know p clean bs seen) blk = NV := ⟨_, rfl⟩
      obtain ⟨NF, hNF⟩ : ∃ NF, nextF (know p clean bs seen) blk = NF := ⟨_, rfl⟩
      have HNV : Hid _ := hNV
      have HNF : Hid _ := hNF
      have HKL : Hid ((know p clean bs seen).length = len) := by unfold Hid; rw [know_length]; exact HB0.out.bl.1
      have HWE : Hid ((know p clean bs seen).map Blk.e = wearL seen len) := by unfold Hid; rw [know_wear, HB0.out.bl.1]
      have HWL : Hid ((wearL seen len).length = len) := wearL_len _ _
      clear hNV hNF
      go_wp2_with (first
        | (go_at_call 32; refine (jnext_any gj bm b p s _ blk _ HB0.out.ja HWK.out).mono ?_; rintro e v1 ⟨rfl, q1⟩; rw [HNV.out, HNF.out]; have HB1 : Hid (Both v1 gj bm gr gr b p s am len km bs clean seen) := HB0.out.below q1; have B1 : Hid (Below w.heap.size w v1) := B0.out.trans (q1.mono B0.out.size); clear q1 HB0 B0)
        | (go_at_call 33; obtain ⟨v9, r9⟩ := HB1.out.ro; obtain ⟨ac, kc, _, ra⟩ := r9.at; refine (rnext_any gr b p s am len km bs clean ac _ kc seen blk _ ra HLB.out (by have := HX.out.1; omega) (by omega) HB1.out.pg).mono ?_; rintro e v2 ⟨rfl, q2⟩; rw [HNV.out, HNF.out]; have HB2 : Hid (Both v2 gj bm gr gr b p s am len km bs clean seen) := HB1.out.below q2; have B2 : Hid (Below w.heap.size w v2) := B1.out.trans (q2.mono B1.out.size); clear q2 HB1 B1 ra r9)
        | (go_at_call 34; have h9 := HB2; clear h9; refine (jwear_any gj bm b p s _ len _ HB2.out.ja HLB.out HKL.out (by omega)).mono ?_; rintro e v3 ⟨rfl, i3, q3⟩; rw [HWE.out] at i3; have HB3 : Hid (Both v3 gj bm gr gr b p s am len km bs clean seen) := HB2.out.below q3; have B3 : Hid (Below w.heap.size w v3) := B2.out.trans (q3.mono B2.out.size); have hgj3 : gj < v2.heap.size := block_lt_of_cell HB2.out.ja.c0; have hbm3 : bm < v2.heap.size := HB2.out.ja.knows.lt; have hv2 : w.heap.size ≤ v2.heap.size := B2.out.size; obtain ⟨gw, hgw⟩ : ∃ gw, v2.heap.size = gw := ⟨_, rfl⟩; rw [hgw] at i3 hgj3 hbm3 hv2; rw [hgw]; have IW : Hid (IntsAt v3 gw (wearL seen len)) := i3; have hw3 : gw < v3.heap.size := i3.lt; clear q3 HB2 B2 i3 hgw)
        | (go_at_call 34; have h9 := HB3; clear h9; refine (jwear_any gj bm b p s _ len _ HB3.out.ja HLB.out HKL.out (by omega)).mono ?_; rintro e v4 ⟨rfl, i4, q4⟩; rw [HWE.out] at i4; have HB4 : Hid (Both v4 gj bm gr gr b p s am len km bs clean seen) := HB3.out.below q4; have B4 : Hid (Below w.heap.size w v4) := B3.out.trans (q4.mono B3.out.size); have IW4 : Hid (IntsAt v4 gw (wearL seen len)) := IW.out.below q4 hw3; obtain ⟨gx, hgx⟩ : ∃ gx, v3.heap.size = gx := ⟨_, rfl⟩; rw [hgx] at i4 hw3; rw [hgx]; have IX : Hid (IntsAt v4 gx (wearL seen len)) := i4; have hx4 : gx < v4.heap.size := i4.lt; clear q4 HB3 B3 i4 IW hgx)
        | (go_at_call 35; obtain ⟨v9, r9⟩ := HB4.out.ro; obtain ⟨ac, kc, _, ra⟩ := r9.at; refine (rwear_any gr b p s am len km bs clean ac _ kc seen _ ra HLB.out (by have := HX.out.1; omega) (by omega) HB4.out.rg).mono ?_; rintro e v5 ⟨rfl, i5, q5⟩; have HB5 : Hid (Both v5 gj bm gr gr b p s am len km bs clean seen) := HB4.out.below q5; have B5 : Hid (Below w.heap.size w v5) := B4.out.trans (q5.mono B4.out.size); have FW : Hid (FillW w v5 w.heap.size gj bm b p s (know p clean bs seen) gw gx v4.heap.size (wearL seen len) 0) := ⟨HB5.out.ja, B5.out, B5.out.size, by rw [fillI_zero]; exact IW4.out.below q5 (by omega), by rw [fillI_zero]; exact IX.out.below q5 hx4, i5, by omega, by omega⟩; obtain ⟨gz, hgz⟩ : ∃ gz, v4.heap.size = gz := ⟨_, rfl⟩; rw [hgz] at FW; rw [hgz]; clear q5 HB4 B4 i5 IW4 IX ra r9 hgz HB5 B5)
        | (go_at_call 36; have h9 := FW; clear h9; refine (sameInts_eq gw gz len len len (wearL seen len) _ (by have h8 := FW.out.iw; rw [fillI_zero] at h8; exact h8) FW.out.iz HWL.out (by omega)).mono ?_; rintro e v6 ⟨rfl, q6, rfl⟩; have FW6 : Hid (FillW w (v5.drewN q6) w.heap.size gj bm b p s (know p clean bs seen) gw gx gz (wearL seen len) 0) := FW.out.below (below_drewNk (Below.refl _ _) q6); clear FW)
        | (go_at_call 36; refine (sameInts_eq gx gz len len len (wearL seen len) _ (by have h8 := FW6.out.ix; rw [fillI_zero] at h8; exact h8) FW6.out.iz HWL.out (by omega)).mono ?_; rintro e v7 ⟨rfl, q7, rfl⟩; have FW7 : Hid (FillW w ((v5.drewN q6).drewN q7) w.heap.size gj bm b p s (know p clean bs seen) gw gx gz (wearL seen len) 0) := FW6.out.below (below_drewNk (Below.refl _ _) q7); clear FW6))
      go_loopw [26] (fun s26 wq => ∃ k2 : Nat, k2 ≤ len ∧ s26 = .int .i64 k2 ∧ Hid (FillW w wq w.heap.size gj bm b p s (know p clean bs seen) gw gx gz (wearL seen len) k2))
        (fun i _ => len - (intOf i).toNat)
      case atStart => exact ⟨0, Nat.zero_le _, rfl, by first | exact FW7 | (rw [World.drewN_drewN] at FW7; exact FW7)⟩
      case round =>
        obtain ⟨k2, hk2, rfl, HF⟩ := hrel
        clear FW7
        by_cases hlt2 : k2 < len
        · have y0 := HF.out.iw.cell k2 (by rw [fillI_len _ _ _ (by rw [HWL.out]; omega), HWL.out]; exact hlt2)
          have y1 := HF.out.ix.cell k2 (by rw [fillI_len _ _ _ (by rw [HWL.out]; omega), HWL.out]; exact hlt2)
          obtain ⟨Y0, hY0⟩ : ∃ Y0, (fillI (wearL seen len) 1000 k2).getD k2 0 = Y0 := ⟨_, rfl⟩
          obtain ⟨Y1, hY1⟩ : ∃ Y1, (fillI (wearL seen len) 2000 k2).getD k2 0 = Y1 := ⟨_, rfl⟩
          rw [hY0] at y0
          rw [hY1] at y1
          have f0 := HF.out.iw.free k2
          have f1 := HF.out.ix.free k2
          have ne1 : ¬ (gw = gx) := HF.out.ne.2.2.2.2.1
          have ne2 : ¬ (gx = gw) := fun e => ne1 e.symm
          have HST : Hid _ := HF.out.step (by rw [HWL.out]; exact hlt2)
          have d2 : (k2 : Int) < len := by omega
          clear hY0 hY1
          go_wp2
          go_roundw
          case rel => exact ⟨k2 + 1, by omega, by go_num, HST⟩
          case measure => simp [intOf]; omega
        · obtain rfl : k2 = len := by omega
          clear hlt2 hk2
          have HL1 : Hid ((fillI (wearL seen k2) 1000 k2).length = k2) := by unfold Hid; rw [fillI_len _ _ _ (by rw [HWL.out]; exact Nat.le_refl _), HWL.out]
          have HL2 : Hid ((fillI (wearL seen k2) 2000 k2).length = k2) := by unfold Hid; rw [fillI_len _ _ _ (by rw [HWL.out]; exact Nat.le_refl _), HWL.out]
          have hk5 : k2 ≤ 5000 := by omega
          have dn : (k2 : Int) < (k2 : Int) + 1 := by omega
          go_wp2_with (first
            | (at_builtin; refine append_int rfl (.tmp 142) (.tmp 143) rfl gw k2 _ HL1.out hk5 HF.out.iw 1001 rfl rfl ?_; intro g1 cap1 t3 hc1 ce1 q3; have HF3 : Hid _ := HF.out.below q3; clear q3)
            | (at_builtin; refine append_int rfl (.tmp 145) (.tmp 146) rfl gx k2 _ HL2.out hk5 HF3.out.ix 2001 rfl rfl ?_; intro g2 cap2 t4 hc2 ce2 q4; have HF4 : Hid (FillW w t4 w.heap.size gj bm b p s (know p clean bs seen) gw gx gz (wearL seen k2) k2) := HF3.out.below q4; rw [← q4.cell (block_lt_of_cell ce1)] at ce1; clear q4 HF3 HF))
          go_loopw [29] (fun s29 w5 => ∃ k3 : Nat, k3 ≤ k2 ∧ s29 = .int .i64 k3 ∧ w5 = t4)
            (fun i _ => k2 - (intOf i).toNat)
          case atStart => exact ⟨0, Nat.zero_le _, rfl, rfl⟩
          case round =>
            obtain ⟨k3, hk3, rfl, rfl⟩ := hrel
            by_cases hlt3 : k3 < k2
            · have y0 := HF4.out.iw.cell k3 (by rw [HL1.out]; exact hlt3)
              have y1 := HF4.out.ix.cell k3 (by rw [HL2.out]; exact hlt3)
              have e0 := fillI_get (wearL seen k2) 1000 k3 (by rw [HWL.out]; exact hlt3)
              have e1 := fillI_get (wearL seen k2) 2000 k3 (by rw [HWL.out]; exact hlt3)
              rw [HWL.out] at e0 e1
              rw [e0] at y0
              rw [e1] at y1
              have d3 : (k3 : Int) < k2 := by omega
              clear e0 e1 ce1 ce2
              go_wp2
              go_roundw
              case rel => exact ⟨k3 + 1, by omega, by go_num, by first | trivial | rfl⟩
              case measure => simp [intOf]; omega
            · obtain rfl : k3 = k2 := by omega
              clear hlt3 hk3
              go_wp2_with (first
                | (go_at_call 34; refine (jwear_any gj bm b p s _ k3 _ HF4.out.ja HLB.out HKL.out (by omega)).mono ?_; rintro e t6 ⟨rfl, i6, q6⟩; rw [HWE.out] at i6; have HF6 : Hid _ := HF4.out.below q6; have I6 : Hid _ := i6; clear i6 q6)
                | (go_at_call 36; refine (sameInts_eq _ gz k3 k3 k3 (wearL seen k3) _ I6.out HF6.out.iz HWL.out (by omega)).mono ?_; rintro e t7 ⟨rfl, q7, rfl⟩))
              go_ret
              exact ⟨by first | rfl | simp, below_drewNk HF6.out.bel q7⟩
theorem sees_walk (b p s : Int) (a : Option Addr) (len cap : Nat) (bs : List Bool) (clean : Bool) (a3 : Option Addr) (n cap3 : Nat) (cs : List Cmd) (blk : Int) (w : World) (wb : Wf b) (wp : Wf p) (ws : Wf s) (hr : ReadsB w a len bs) (hl : len ≤ 140737488351232) (hc : ReadsC w a3 n cs) (hn : n * 32 ≤ 140737488351232) (wk : Wf blk) :
    Calls Try.prog 8 #[.agg #[.int .i64 b, .int .i64 p, .int .i64 s], .slice a len cap, .bool clean, .slice a3 n cap3, .int .i64 blk] w fun e w' => e = .returned (.bool true) ∧ Below w.heap.size w w' := by
  by_cases hE : newE b p s len = 0
  · exact sees_ok b p s a len cap bs clean a3 n cap3 cs blk w hr hl hc hn wk hE
  · exact sees_bad b p s a len cap bs clean a3 n cap3 blk w hr hl hE
end Go.Proofs.Ytejonebnmeinhab
