/-
  SEAT Ytadlkikjfonkgaa: Od, Oe.
-/
import Derived.Test.YtadlkikjfonkgaaZg
import Derived.Test.YtadlkikjfonkgaaZh
import Derived.Test.YtadlkikjfonkgaaZf
namespace Go.Proofs.Ytadlkikjfonkgaa
open Go.RowKit Go.Conc
set_option linter.unusedVariables false

theorem goes_any (w : World) (o : Opc) (da : Option Addr) (dn dc : Nat) (za : Option Addr) (zn zc : Nat) (done : Bool) (i k : Nat) (ga ca gb cb : Nat) (xs ys : List Int) (hx : Reads w (some ⟨ga, 0, none⟩) 313 xs) (hy : Reads w (some ⟨gb, 0, none⟩) 313 ys) (fl : Bool) (hG : Goes o done i k xs ys fl) :
    Calls Try.prog 26 #[.agg #[.int .i64 o.k, .int .i64 o.b, .int .i64 o.p, .int .i64 o.bit, .bool o.fit, .slice da dn dc, .slice za zn zc], .bool done, .agg #[.int .i64 (i : Int), .int .i64 (k : Int)], .slice (some ⟨ga, 0, none⟩) 313 ca, .slice (some ⟨gb, 0, none⟩) 313 cb, .bool fl] w fun e w' => e = .returned (.bool true) ∧ Below w.heap.size w w' := by
  by_cases hA : GoA o done i k
  · exact goes_same w o da dn dc za zn zc done i k ga ca gb cb xs ys hx hy fl (hG.same hA) hA
  have hn := hA
  unfold GoA at hn
  simp only [not_or] at hn
  obtain ⟨n1, n2, n3, n4, n5, n6⟩ := hn
  have hd : done = true := by cases done with
    | false => exact absurd rfl n1
    | true => rfl
  subst hd
  by_cases h1 : o.k = 1
  · have hp : o.b = (i : Int) ∧ o.p = (k : Int) := by
      rcases Classical.em (o.b = (i : Int) ∧ o.p = (k : Int)) with h9 | h9
      · exact h9
      · exact absurd ⟨by omega, h9⟩ n6
    exact goes_one w o da dn dc za zn zc i k ga ca gb cb xs ys hx hy fl h1 hp (hG.one hA h1)
  by_cases h2 : o.k = 2
  · have hp : o.b = (i : Int) := by
      rcases Classical.em (o.b = (i : Int)) with h9 | h9
      · exact h9
      · exact absurd ⟨h2, h9⟩ n5
    cases fl with
    | false => exact goes_two w o da dn dc za zn zc i k ga ca gb cb xs ys hx hy h2 hp (hG.two hA h2 rfl)
    | true => exact goes_twof w o da dn dc za zn zc i k ga ca gb cb xs ys hx hy h2 hp
  have h4 : o.k = 4 := by omega
  have hp : o.b = (i : Int) ∧ o.p = (k : Int) := by
    rcases Classical.em (o.b = (i : Int) ∧ o.p = (k : Int)) with h9 | h9
    · exact h9
    · exact absurd ⟨by omega, h9⟩ n6
  obtain ⟨j, hj1, hj2, hj3⟩ := hG.four hA h4
  exact goes_four w o da dn dc za zn zc i k ga ca gb cb xs ys hx hy fl h4 hp j hj1 hj2 hj3
/-- What ChipOneWay has in memory between two calls: the chip, the blocks in which a bit was flipped, and what all pages read as. -/
structure OM (w u : World) (p b7 gf : Nat) (F : Nat → Prop) (C : Ch) (fs : List Bool) (v : Value) (rs : List Rw) : Prop where
  hd : HD w u p F [(gf, kobj fs), (b7, box8)] C
  fl : fs.length = 8
  cl : Cl w u v rs
  nf : ∀ r ∈ rs, ¬ F r.g
  vf : ∀ g, v.ownBlock = some g → ¬ F g
section
variable {w u u' : World} {p b7 gf : Nat} {F : Nat → Prop} {C C' : Ch} {fs : List Bool} {v : Value} {rs : List Rw}
theorem OM.below (h : OM w u p b7 gf F C fs v rs) (hb : Below u.heap.size u u') : OM w u' p b7 gf F C fs v rs :=
  ⟨h.hd.below hb, h.fl, h.cl.below hb, h.nf, h.vf⟩
theorem Cl.only (h : Cl w u v rs) (ho : Only F u u') (hn : ∀ r ∈ rs, ¬ F r.g) (hv : ∀ g, v.ownBlock = some g → ¬ F g) : Cl w u' v rs :=
  ⟨owns_keep h.own (fun g hg => by obtain ⟨cs, hcs⟩ := own_tag h.own hg; exact ho.block g (lt_of_block hcs) (hv g hg)), fun r hr => owns_keep (h.rows r hr) (fun k hk => by cases hk; exact ho.block r.g (h.rows r hr).lt.2 (hn r hr))⟩
theorem OM.does (h : OM w u p b7 gf F C fs v rs) (hc : ChipAt u' p (Fx F u u') C') (ho : Only F u u') : OM w u' p b7 gf (Fx F u u') C' fs v rs := by
  refine ⟨h.hd.step hc ho, h.fl, h.cl.only ho h.nf h.vf, fun r hr hf => hf.elim (h.nf r hr) (fun h9 => ?_), fun g hg hf => hf.elim (h.vf g hg) (fun h9 => ?_)⟩
  · have := (h.cl.rows r hr).lt.2; omega
  · obtain ⟨cs, hcs⟩ := own_tag h.cl.own hg
    have := lt_of_block hcs
    omega
theorem OM.on (h : OM w u p b7 gf F C fs v rs) (hc : ChipAt u' p F C') (ho : Only F u u') : OM w u' p b7 gf F C' fs v rs :=
  ⟨h.hd.step0 hc ho, h.fl, h.cl.only ho h.nf h.vf, h.nf, h.vf⟩
theorem OM.ne (h : OM w u p b7 gf F C fs v rs) : gf ≠ b7 :=
  tag_ne (h.hd.blk (g := gf) (o := kobj fs) (by simp)) (h.hd.blk (g := b7) (o := box8) (by simp)) (t := 4) (u := 23) rfl rfl (by decide)
theorem OM.setF (h : OM w u p b7 gf F C fs v rs) (t : Nat) (b : Bool) : OM w (u.setCell ⟨gf, t, none⟩ (.bool b)) p b7 gf F C (fs.set t b) v rs := by
  have ho := Only.setCell (· = gf) u gf t (.bool b) rfl
  have hk := h.hd.blk (g := gf) (o := kobj fs) (by simp)
  have h1 := heap_setCell_same u gf t _ 4 (.bool b) hk
  simp only [List.setIfInBounds_toArray] at h1
  have hd2 := h.hd.over (o' := kobj (fs.set t b)) ho (by rw [h1, ← List.map_set]; rfl) (by intro x hx; simp at hx; subst hx; exact fun e => h.ne e.symm)
  refine ⟨hd2, by simp [h.fl], h.cl.only ho (fun r hr e => ?_) (fun g hg e => ?_), h.nf, h.vf⟩
  · obtain ⟨cs, hcs⟩ := own_tag (h.cl.rows r hr) (g := r.g) rfl
    exact tag_ne hcs hk (t := 5) (u := 4) rfl rfl (by decide) e
  · obtain ⟨cs, hcs⟩ := own_tag h.cl.own hg
    exact tag_ne hcs hk (t := 24) (u := 4) rfl rfl (by decide) e
end
end Go.Proofs.Ytadlkikjfonkgaa
namespace Go.Proofs.Ytadlkikjfonkgaa
open Go.RowKit Go.Conc
set_option linter.unusedVariables false

theorem s20_below {x : Ox} {q13 pb gv gn gf m a4 b4 : Nat} {r r2 : Rw} {fb : Bool} {u u' : World} (h : (fun u => u.cell? ⟨q13, 0, none⟩ = some (.int .i64 x.o.k) ∧ u.cell? ⟨q13, 1, none⟩ = some (.int .i64 x.o.b) ∧ u.cell? ⟨q13, 2, none⟩ = some (.int .i64 x.o.p) ∧ u.cell? ⟨q13, 3, none⟩ = some (.int .i64 x.o.bit) ∧ u.cell? ⟨q13, 4, none⟩ = some (.bool x.o.fit) ∧ u.cell? ⟨q13, 5, none⟩ = some (.slice x.da x.dn x.dc) ∧ u.cell? ⟨q13, 6, none⟩ = some (.slice x.za x.zn x.zc) ∧ u.cell? ⟨pb, 0, none⟩ = some (.int .i64 (a4 : Int)) ∧ u.cell? ⟨pb, 1, none⟩ = some (.int .i64 (b4 : Int)) ∧ u.cell? ⟨gv, m, none⟩ = some (.slice (some ⟨r.g, 0, none⟩) 313 r.c) ∧ u.cell? ⟨gn, m, none⟩ = some (.slice (some ⟨r2.g, 0, none⟩) 313 r2.c) ∧ u.cell? ⟨gf, a4, none⟩ = some (.bool fb)) u) (hb : Below u.heap.size u u') : (fun u => u.cell? ⟨q13, 0, none⟩ = some (.int .i64 x.o.k) ∧ u.cell? ⟨q13, 1, none⟩ = some (.int .i64 x.o.b) ∧ u.cell? ⟨q13, 2, none⟩ = some (.int .i64 x.o.p) ∧ u.cell? ⟨q13, 3, none⟩ = some (.int .i64 x.o.bit) ∧ u.cell? ⟨q13, 4, none⟩ = some (.bool x.o.fit) ∧ u.cell? ⟨q13, 5, none⟩ = some (.slice x.da x.dn x.dc) ∧ u.cell? ⟨q13, 6, none⟩ = some (.slice x.za x.zn x.zc) ∧ u.cell? ⟨pb, 0, none⟩ = some (.int .i64 (a4 : Int)) ∧ u.cell? ⟨pb, 1, none⟩ = some (.int .i64 (b4 : Int)) ∧ u.cell? ⟨gv, m, none⟩ = some (.slice (some ⟨r.g, 0, none⟩) 313 r.c) ∧ u.cell? ⟨gn, m, none⟩ = some (.slice (some ⟨r2.g, 0, none⟩) 313 r2.c) ∧ u.cell? ⟨gf, a4, none⟩ = some (.bool fb)) u' := by
  obtain ⟨h0, h1, h2, h3, h4, h5, h6, h7, h8, h9, h10, h11⟩ := h
  exact ⟨(hb.cell (block_lt_of_cell h0)).trans h0, (hb.cell (block_lt_of_cell h1)).trans h1, (hb.cell (block_lt_of_cell h2)).trans h2, (hb.cell (block_lt_of_cell h3)).trans h3, (hb.cell (block_lt_of_cell h4)).trans h4, (hb.cell (block_lt_of_cell h5)).trans h5, (hb.cell (block_lt_of_cell h6)).trans h6, (hb.cell (block_lt_of_cell h7)).trans h7, (hb.cell (block_lt_of_cell h8)).trans h8, (hb.cell (block_lt_of_cell h9)).trans h9, (hb.cell (block_lt_of_cell h10)).trans h10, (hb.cell (block_lt_of_cell h11)).trans h11⟩
noncomputable def oB2 : Code := ((Try.f5.body.bind (fun c => (loopsOf c)[1]?)).getD .skip)
set_option maxHeartbeats 8000000 in
set_option maxRecDepth 100000 in
theorem o2_round {K : Act → World → Prop} {Q0 : Exit → Act → World → Prop} {b7 gv cv gf q13 gn cn : Nat} (U wr : World) (HB : Hid (Below U.heap.size U wr)) (x : Ox) (done : Bool) (HOP : Hid (U.heap[q13]? = some (.cells #[.int .i64 x.o.k, .int .i64 x.o.b, .int .i64 x.o.p, .int .i64 x.o.bit, .bool x.o.fit, .slice x.da x.dn x.dc, .slice x.za x.zn x.zc] 56 (0, 0)))) (H7 : Hid (U.heap[b7]? = some box8)) (hQ : ∀ (c : _) (a : Act) (d : Nat) (v : Value) (w : World), Q0 (.panic c) (a.put (some d) v) w → Q0 (.panic c) a w) (m : Nat) (hm : m < 32) (r r2 : Rw) (fb : Bool) (HWC : Hid (U.cell? ⟨gv, m, none⟩ = some r.val)) (HNC : Hid (U.cell? ⟨gn, m, none⟩ = some r2.val)) (HFC : Hid (U.cell? ⟨gf, m / 4, none⟩ = some (.bool fb))) (HRX : Hid (Reads U (some ⟨r.g, 0, none⟩) 313 r.z)) (HRY : Hid (Reads U (some ⟨r2.g, 0, none⟩) 313 r2.z)) (HG : Hid (Goes x.o done ((m / 4 : Nat) : Int) ((m % 4 : Nat) : Int) r.z r2.z fb)) (c0 c1 c2 c3 c4 c5 c6 c8 c9 c12 c14 c15 c20 c21 c22 c23 c24 c25 c26 c27 c28 c29 c30 c31 c32 c33 c34 c35 c36 c37 c38 c39 c40 c41 c42 c43 c44 c45 c46 c47 c48 c49 c50 c51 c52 c53 c54 c55 c56 c57 c58 c59 c60 c61 c62 c63 c64 c65 c66 c67 c68 c69 c70 c71 c72 c73 c74 c75 c109 c110 c111 c112 c113 c114 c115 c116 c117 c118 c119 c120 c121 c122 c123 c124 c125 c126 c127 c128 c129 c130 c131 c132 c133 c134 u19 u76 u77 u78 u79 u80 u81 u82 u83 u84 u85 u86 u87 u88 u89 u90 u91 u92 u93 u94 u95 u96 u97 u98 u99 u100 u101 u102 u103 u104 u105 u106 u107 u108 : Value)
    (hK : ∀ (x18 x19 x76 x77 x78 x79 x80 x81 x82 x83 x84 x85 x86 x87 x88 x89 x90 x91 x92 x93 x94 x95 x96 x97 x98 x99 x100 x101 x102 x103 x104 x105 x106 x107 x108 : Value) (w' : World), x18 = .int .i64 ((m + 1 : Nat) : Int) → Below U.heap.size U w' → K ⟨#[c0, c1, c2, c3, c4, c5, c6, .pointer (some ⟨b7, 0, none⟩), c8, c9, .slice (some ⟨gv, 0, none⟩) 32 cv, .slice (some ⟨gf, 0, none⟩) 8 8, c12, .pointer (some ⟨q13, 0, none⟩), c14, c15, .slice (some ⟨gn, 0, none⟩) 32 cn, .bool done, x18, x19, c20, c21, c22, c23, c24, c25, c26, c27, c28, c29, c30, c31, c32, c33, c34, c35, c36, c37, c38, c39, c40, c41, c42, c43, c44, c45, c46, c47, c48, c49, c50, c51, c52, c53, c54, c55, c56, c57, c58, c59, c60, c61, c62, c63, c64, c65, c66, c67, c68, c69, c70, c71, c72, c73, c74, c75, x76, x77, x78, x79, x80, x81, x82, x83, x84, x85, x86, x87, x88, x89, x90, x91, x92, x93, x94, x95, x96, x97, x98, x99, x100, x101, x102, x103, x104, x105, x106, x107, x108, c109, c110, c111, c112, c113, c114, c115, c116, c117, c118, c119, c120, c121, c122, c123, c124, c125, c126, c127, c128, c129, c130, c131, c132, c133, c134], []⟩ w') :
    Code.wp Try.prog oB2 (Exit.then K Q0) ⟨#[c0, c1, c2, c3, c4, c5, c6, .pointer (some ⟨b7, 0, none⟩), c8, c9, .slice (some ⟨gv, 0, none⟩) 32 cv, .slice (some ⟨gf, 0, none⟩) 8 8, c12, .pointer (some ⟨q13, 0, none⟩), c14, c15, .slice (some ⟨gn, 0, none⟩) 32 cn, .bool done, .int .i64 (m : Int), u19, c20, c21, c22, c23, c24, c25, c26, c27, c28, c29, c30, c31, c32, c33, c34, c35, c36, c37, c38, c39, c40, c41, c42, c43, c44, c45, c46, c47, c48, c49, c50, c51, c52, c53, c54, c55, c56, c57, c58, c59, c60, c61, c62, c63, c64, c65, c66, c67, c68, c69, c70, c71, c72, c73, c74, c75, u76, u77, u78, u79, u80, u81, u82, u83, u84, u85, u86, u87, u88, u89, u90, u91, u92, u93, u94, u95, u96, u97, u98, u99, u100, u101, u102, u103, u104, u105, u106, u107, u108, c109, c110, c111, c112, c113, c114, c115, c116, c117, c118, c119, c120, c121, c122, c123, c124, c125, c126, c127, c128, c129, c130, c131, c132, c133, c134], []⟩ wr := by
  conv => arg 2; whnf
  have HK := hide hK
  clear hK
  have dmm : decide ((m : Int) < 32) = true := decide_eq_true (by omega)
  have m1 : (m : Int) < 32 := by omega
  have hwq : IntKind.i64.wrap ((m : Int) / 4) = (m : Int) / 4 := wrap_i64_div (by omega)
  have hwr : (m : Int).tmod 4 = (m : Int) % 4 := Int.tmod_eq_emod_of_nonneg (by omega)
  have Hd4 : Hid ((m : Int) / 4 = ((m / 4 : Nat) : Int)) := by show (m : Int) / 4 = _; omega
  have Hm4 : Hid ((m : Int) % 4 = ((m % 4 : Nat) : Int)) := by show (m : Int) % 4 = _; omega
  have z1 := (cells3 ((HB.out.block _ (lt_of_block H7.out)).trans H7.out)).2.1
  go_upto_region 19 with fail
  refine wp_region_held_drew (S := (fun u => u.cell? ⟨b7, 1, none⟩ = some (.int .i64 4))) (by kernel_rfl) (z1) (fun hHeld => ?_)
  refine wpAnyH_take (i := 0) (oi := { dst := some 82, op := Op.move (Operand.tmp 18), type := 3, pos := "outright.go:99", after := #[], guard := none }) (v := ?v0a) rfl (by kernel_rfl) (by kernel_rfl) (by kernel_rfl) (fun _ _ _ h => hQ _ _ _ _ _ h) (Or.inl ⟨by rfl, ?y0a⟩) (by assumption) ?r0a
  case y0a => (intro x hx; (try dsimp only at hx); go_simp; try with_reducible rfl)
  try simp only [Act.put, List.setIfInBounds_toArray, List.set_cons_zero, List.set_cons_succ]
  refine wpAnyH_take (i := 1) (oi := { dst := some 83, op := Op.fieldAddr 23 (Operand.tmp 7) 1, type := 0, pos := "outright.go:99", after := #[], guard := none }) (v := ?v1a) rfl (by kernel_rfl) (by kernel_rfl) (by kernel_rfl) (fun _ _ _ h => hQ _ _ _ _ _ h) (Or.inl ⟨by rfl, ?y1a⟩) (by assumption) ?r1a
  case y1a => (intro x hx; (try dsimp only at hx); go_simp; try with_reducible rfl)
  try simp only [Act.put, List.setIfInBounds_toArray, List.set_cons_zero, List.set_cons_succ]
  refine wpAnyH_take (i := 2) (oi := { dst := some 84, op := Op.load 3 (Operand.tmp 83), type := 3, pos := "outright.go:99", after := #[{ on := 1, ground := Ground.data }], guard := none }) (v := ?v2a) rfl (by kernel_rfl) (by kernel_rfl) (by kernel_rfl) (fun _ _ _ h => hQ _ _ _ _ _ h) (Or.inl ⟨by rfl, ?y2a⟩) (by assumption) ?r2a
  case y2a => (intro x hx; (try dsimp only at hx); go_simp; try with_reducible rfl)
  try simp only [Act.put, List.setIfInBounds_toArray, List.set_cons_zero, List.set_cons_succ]
  refine wpAnyH_take (i := 3) (oi := { dst := some 85, op := Op.binOp BinOp.quo 3 (Operand.tmp 82) (Operand.tmp 84) 3, type := 3, pos := "outright.go:99", after := #[{ on := 0, ground := Ground.data }, { on := 2, ground := Ground.data }], guard := none }) (v := ?v3a) rfl (by kernel_rfl) (by kernel_rfl) (by kernel_rfl) (fun _ _ _ h => hQ _ _ _ _ _ h) (Or.inl ⟨by rfl, ?y3a⟩) (by assumption) ?r3a
  case y3a => (intro x hx; (try dsimp only at hx); go_simp; try with_reducible rfl)
  try simp only [Act.put, List.setIfInBounds_toArray, List.set_cons_zero, List.set_cons_succ]
  refine wpAnyH_take (i := 4) (oi := { dst := some 86, op := Op.move (Operand.tmp 18), type := 3, pos := "outright.go:99", after := #[], guard := none }) (v := ?v4a) rfl (by kernel_rfl) (by kernel_rfl) (by kernel_rfl) (fun _ _ _ h => hQ _ _ _ _ _ h) (Or.inl ⟨by rfl, ?y4a⟩) (by assumption) ?r4a
  case y4a => (intro x hx; (try dsimp only at hx); go_simp; try with_reducible rfl)
  try simp only [Act.put, List.setIfInBounds_toArray, List.set_cons_zero, List.set_cons_succ]
  refine wpAnyH_take (i := 5) (oi := { dst := some 87, op := Op.fieldAddr 23 (Operand.tmp 7) 1, type := 0, pos := "outright.go:99", after := #[], guard := none }) (v := ?v5a) rfl (by kernel_rfl) (by kernel_rfl) (by kernel_rfl) (fun _ _ _ h => hQ _ _ _ _ _ h) (Or.inl ⟨by rfl, ?y5a⟩) (by assumption) ?r5a
  case y5a => (intro x hx; (try dsimp only at hx); go_simp; try with_reducible rfl)
  try simp only [Act.put, List.setIfInBounds_toArray, List.set_cons_zero, List.set_cons_succ]
  refine wpAnyH_take (i := 6) (oi := { dst := some 88, op := Op.load 3 (Operand.tmp 87), type := 3, pos := "outright.go:99", after := #[{ on := 5, ground := Ground.data }], guard := none }) (v := ?v6a) rfl (by kernel_rfl) (by kernel_rfl) (by kernel_rfl) (fun _ _ _ h => hQ _ _ _ _ _ h) (Or.inl ⟨by rfl, ?y6a⟩) (by assumption) ?r6a
  case y6a => (intro x hx; (try dsimp only at hx); go_simp; try with_reducible rfl)
  try simp only [Act.put, List.setIfInBounds_toArray, List.set_cons_zero, List.set_cons_succ]
  refine wpAnyH_take (i := 7) (oi := { dst := some 89, op := Op.binOp BinOp.rem 3 (Operand.tmp 86) (Operand.tmp 88) 3, type := 3, pos := "outright.go:99", after := #[{ on := 4, ground := Ground.data }, { on := 6, ground := Ground.data }], guard := none }) (v := ?v7a) rfl (by kernel_rfl) (by kernel_rfl) (by kernel_rfl) (fun _ _ _ h => hQ _ _ _ _ _ h) (Or.inl ⟨by rfl, ?y7a⟩) (by assumption) ?r7a
  case y7a => (intro x hx; (try dsimp only at hx); go_simp; try with_reducible rfl)
  try simp only [Act.put, List.setIfInBounds_toArray, List.set_cons_zero, List.set_cons_succ]
  refine wpAnyH_take (i := 8) (oi := { dst := some 90, op := Op.build 41 #[(0, Operand.tmp 85), (1, Operand.tmp 89)], type := 41, pos := "outright.go:99", after := #[{ on := 3, ground := Ground.data }, { on := 7, ground := Ground.data }], guard := none }) (v := ?v8a) rfl (by kernel_rfl) (by kernel_rfl) (by kernel_rfl) (fun _ _ _ h => hQ _ _ _ _ _ h) (Or.inl ⟨by rfl, ?y8a⟩) (by assumption) ?r8a
  case y8a => (intro x hx; (try dsimp only at hx); go_simp; try with_reducible rfl)
  try simp only [Act.put, List.setIfInBounds_toArray, List.set_cons_zero, List.set_cons_succ]
  refine wpAnyH_ready (rs := [9]) (by kernel_rfl) (by simp) ?_
  refine AllReadyH.cons (o := { dst := some 19, op := Op.alloc 41, type := 0, pos := "outright.go:99", after := #[], guard := none }) rfl (fun K_ hK => ?_) AllReadyH.nil
  go_simp
  go_wp2_with fail
  change K_ _ (wr.drew.alloc (.cells #[.int .i64 0, .int .i64 0] 41))
  have hb9 : Below wr.heap.size wr (wr.drew.alloc (.cells #[.int .i64 0, .int .i64 0] 41)) := below_trans (drew_below _) (below_alloc _ _)
  have hSnew : (fun u => u.cell? ⟨b7, 1, none⟩ = some (.int .i64 4)) (wr.drew.alloc (.cells #[.int .i64 0, .int .i64 0] 41)) := (hb9.cell (block_lt_of_cell z1)).trans z1
  have HB9 := hide hb9
  have HN9 := hide (alloc_new wr.drew (.cells #[.int .i64 0, .int .i64 0] 41))
  clear hb9
  refine hK.out _ _ hSnew (fun hHeld9 => ?_)
  clear hK K_ hSnew
  clear hHeld
  have hHeld := hHeld9
  clear hHeld9
  try simp only [Act.put, List.setIfInBounds_toArray, List.set_cons_zero, List.set_cons_succ]
  refine wpAnyH_ready (rs := [10]) (by kernel_rfl) (by simp) ?_
  refine AllReadyH.cons (o := { dst := none, op := Op.store 41 (Operand.tmp 19) (Operand.tmp 90), type := 0, pos := "outright.go:99", after := #[{ on := 9, ground := Ground.data }, { on := 8, ground := Ground.data }, { on := 0, ground := Ground.phase }, { on := 1, ground := Ground.phase }, { on := 2, ground := Ground.phase }, { on := 3, ground := Ground.phase }, { on := 4, ground := Ground.phase }, { on := 5, ground := Ground.phase }, { on := 6, ground := Ground.phase }, { on := 7, ground := Ground.phase }, { on := 8, ground := Ground.phase }, { on := 9, ground := Ground.phase }], guard := none }) rfl (fun K_ hK => ?_) AllReadyH.nil
  go_simp
  go_wp2_with fail
  rw [Hd4.out, Hm4.out]
  change K_ _ ((wr.alloc (.cells #[.int .i64 ((m / 4 : Nat) : Int), .int .i64 ((m % 4 : Nat) : Int)] 41)).drew)
  have hb10 : Below wr.heap.size wr ((wr.alloc (.cells #[.int .i64 ((m / 4 : Nat) : Int), .int .i64 ((m % 4 : Nat) : Int)] 41)).drew) := below_trans (below_alloc _ _) (drew_below _)
  have hSnew : (fun u => u.cell? ⟨b7, 1, none⟩ = some (.int .i64 4)) ((wr.alloc (.cells #[.int .i64 ((m / 4 : Nat) : Int), .int .i64 ((m % 4 : Nat) : Int)] 41)).drew) := (hb10.cell (block_lt_of_cell z1)).trans z1
  have HB10 := hide hb10
  have HN10 : Hid (((wr.alloc (.cells #[.int .i64 ((m / 4 : Nat) : Int), .int .i64 ((m % 4 : Nat) : Int)] 41)).drew).heap[wr.heap.size]? = some (.cells #[.int .i64 ((m / 4 : Nat) : Int), .int .i64 ((m % 4 : Nat) : Int)] 41 (0, 0))) := alloc_new wr (.cells #[.int .i64 ((m / 4 : Nat) : Int), .int .i64 ((m % 4 : Nat) : Int)] 41)
  clear hb10
  refine hK.out _ _ hSnew (fun hHeld10 => ?_)
  clear hK K_ hSnew
  clear hHeld
  have hHeld := hHeld10
  clear hHeld10
  try simp only [Act.put, List.setIfInBounds_toArray, List.set_cons_zero, List.set_cons_succ]
  refine wpAnyH_done (by kernel_rfl) ?_ _
  clear hHeld z1 hwq hwr
  have HS20 : Hid ((fun u => u.cell? ⟨q13, 0, none⟩ = some (.int .i64 x.o.k) ∧ u.cell? ⟨q13, 1, none⟩ = some (.int .i64 x.o.b) ∧ u.cell? ⟨q13, 2, none⟩ = some (.int .i64 x.o.p) ∧ u.cell? ⟨q13, 3, none⟩ = some (.int .i64 x.o.bit) ∧ u.cell? ⟨q13, 4, none⟩ = some (.bool x.o.fit) ∧ u.cell? ⟨q13, 5, none⟩ = some (.slice x.da x.dn x.dc) ∧ u.cell? ⟨q13, 6, none⟩ = some (.slice x.za x.zn x.zc) ∧ u.cell? ⟨wr.heap.size, 0, none⟩ = some (.int .i64 ((m / 4 : Nat) : Int)) ∧ u.cell? ⟨wr.heap.size, 1, none⟩ = some (.int .i64 ((m % 4 : Nat) : Int)) ∧ u.cell? ⟨gv, m, none⟩ = some (.slice (some ⟨r.g, 0, none⟩) 313 r.c) ∧ u.cell? ⟨gn, m, none⟩ = some (.slice (some ⟨r2.g, 0, none⟩) 313 r2.c) ∧ u.cell? ⟨gf, m / 4, none⟩ = some (.bool fb)) ((wr.alloc (.cells #[.int .i64 ((m / 4 : Nat) : Int), .int .i64 ((m % 4 : Nat) : Int)] 41)).drew)) := by
    have hbb := below_trans HB.out HB10.out
    have ho := cells7 ((hbb.block _ (lt_of_block HOP.out)).trans HOP.out)
    have hp := cells2 HN10.out
    exact ⟨ho.1, ho.2.1, ho.2.2.1, ho.2.2.2.1, ho.2.2.2.2.1, ho.2.2.2.2.2.1, ho.2.2.2.2.2.2, hp.1, hp.2, (hbb.cell (block_lt_of_cell HWC.out)).trans HWC.out, (hbb.cell (block_lt_of_cell HNC.out)).trans HNC.out, (hbb.cell (block_lt_of_cell HFC.out)).trans HFC.out⟩
  have HBV := hide (below_trans HB.out HB10.out)
  generalize hV : ((wr.alloc (.cells #[.int .i64 ((m / 4 : Nat) : Int), .int .i64 ((m % 4 : Nat) : Int)] 41)).drew) = V at HS20 HBV ⊢
  generalize hpb : wr.heap.size = pb at HS20 ⊢
  clear hV hpb HB9 HN9 HB10 HN10 HB
  have m4 : ((m / 4 : Nat) : Int) < 8 := by omega
  clear HFC Hd4 Hm4
  generalize ha4 : m / 4 = a4 at HS20 HG m4 ⊢
  generalize hb4 : m % 4 = b4 at HS20 HG ⊢
  clear ha4 hb4
  go_upto_region 20 with fail
  refine wp_region_held_drew (S := (fun u => u.cell? ⟨q13, 0, none⟩ = some (.int .i64 x.o.k) ∧ u.cell? ⟨q13, 1, none⟩ = some (.int .i64 x.o.b) ∧ u.cell? ⟨q13, 2, none⟩ = some (.int .i64 x.o.p) ∧ u.cell? ⟨q13, 3, none⟩ = some (.int .i64 x.o.bit) ∧ u.cell? ⟨q13, 4, none⟩ = some (.bool x.o.fit) ∧ u.cell? ⟨q13, 5, none⟩ = some (.slice x.da x.dn x.dc) ∧ u.cell? ⟨q13, 6, none⟩ = some (.slice x.za x.zn x.zc) ∧ u.cell? ⟨pb, 0, none⟩ = some (.int .i64 (a4 : Int)) ∧ u.cell? ⟨pb, 1, none⟩ = some (.int .i64 (b4 : Int)) ∧ u.cell? ⟨gv, m, none⟩ = some (.slice (some ⟨r.g, 0, none⟩) 313 r.c) ∧ u.cell? ⟨gn, m, none⟩ = some (.slice (some ⟨r2.g, 0, none⟩) 313 r2.c) ∧ u.cell? ⟨gf, a4, none⟩ = some (.bool fb))) (by kernel_rfl) (HS20.out) (fun hHeld => ?_)
  refine wpAnyH_take (i := 0) (oi := { dst := some 91, op := Op.load 56 (Operand.tmp 13), type := 56, pos := "outright.go:100", after := #[], guard := none }) (v := ?v0b) rfl (by kernel_rfl) (by kernel_rfl) (by kernel_rfl) (fun _ _ _ h => hQ _ _ _ _ _ h) (Or.inl ⟨by rfl, ?y0b⟩) (by assumption) ?r0b
  case y0b => (intro x hx; (try dsimp only at hx); go_simp; try with_reducible rfl)
  try simp only [Act.put, List.setIfInBounds_toArray, List.set_cons_zero, List.set_cons_succ]
  refine wpAnyH_take (i := 1) (oi := { dst := some 92, op := Op.move (Operand.tmp 17), type := 4, pos := "outright.go:100", after := #[], guard := none }) (v := ?v1b) rfl (by kernel_rfl) (by kernel_rfl) (by kernel_rfl) (fun _ _ _ h => hQ _ _ _ _ _ h) (Or.inl ⟨by rfl, ?y1b⟩) (by assumption) ?r1b
  case y1b => (intro x hx; (try dsimp only at hx); go_simp; try with_reducible rfl)
  try simp only [Act.put, List.setIfInBounds_toArray, List.set_cons_zero, List.set_cons_succ]
  refine wpAnyH_take (i := 2) (oi := { dst := some 93, op := Op.load 41 (Operand.tmp 19), type := 41, pos := "outright.go:100", after := #[], guard := none }) (v := ?v2b) rfl (by kernel_rfl) (by kernel_rfl) (by kernel_rfl) (fun _ _ _ h => hQ _ _ _ _ _ h) (Or.inl ⟨by rfl, ?y2b⟩) (by assumption) ?r2b
  case y2b => (intro x hx; (try dsimp only at hx); go_simp; try with_reducible rfl)
  try simp only [Act.put, List.setIfInBounds_toArray, List.set_cons_zero, List.set_cons_succ]
  refine wpAnyH_take (i := 3) (oi := { dst := some 94, op := Op.move (Operand.tmp 10), type := 61, pos := "outright.go:100", after := #[], guard := none }) (v := ?v3b) rfl (by kernel_rfl) (by kernel_rfl) (by kernel_rfl) (fun _ _ _ h => hQ _ _ _ _ _ h) (Or.inl ⟨by rfl, ?y3b⟩) (by assumption) ?r3b
  case y3b => (intro x hx; (try dsimp only at hx); go_simp; try with_reducible rfl)
  try simp only [Act.put, List.setIfInBounds_toArray, List.set_cons_zero, List.set_cons_succ]
  refine wpAnyH_take (i := 4) (oi := { dst := some 95, op := Op.move (Operand.tmp 18), type := 3, pos := "outright.go:100", after := #[], guard := none }) (v := ?v4b) rfl (by kernel_rfl) (by kernel_rfl) (by kernel_rfl) (fun _ _ _ h => hQ _ _ _ _ _ h) (Or.inl ⟨by rfl, ?y4b⟩) (by assumption) ?r4b
  case y4b => (intro x hx; (try dsimp only at hx); go_simp; try with_reducible rfl)
  try simp only [Act.put, List.setIfInBounds_toArray, List.set_cons_zero, List.set_cons_succ]
  refine wpAnyH_take (i := 5) (oi := { dst := some 96, op := Op.indexAddr 61 (Operand.tmp 94) (Operand.tmp 95), type := 0, pos := "outright.go:100", after := #[{ on := 3, ground := Ground.data }, { on := 4, ground := Ground.data }], guard := none }) (v := ?v5b) rfl (by kernel_rfl) (by kernel_rfl) (by kernel_rfl) (fun _ _ _ h => hQ _ _ _ _ _ h) (Or.inl ⟨by rfl, ?y5b⟩) (by assumption) ?r5b
  case y5b => (intro x hx; (try dsimp only at hx); go_simp; try with_reducible rfl)
  try simp only [Act.put, List.setIfInBounds_toArray, List.set_cons_zero, List.set_cons_succ]
  refine wpAnyH_take (i := 6) (oi := { dst := some 97, op := Op.load 24 (Operand.tmp 96), type := 24, pos := "outright.go:100", after := #[{ on := 5, ground := Ground.data }], guard := none }) (v := ?v6b) rfl (by kernel_rfl) (by kernel_rfl) (by kernel_rfl) (fun _ _ _ h => hQ _ _ _ _ _ h) (Or.inl ⟨by rfl, ?y6b⟩) (by assumption) ?r6b
  case y6b => (intro x hx; (try dsimp only at hx); go_simp; try with_reducible rfl)
  try simp only [Act.put, List.setIfInBounds_toArray, List.set_cons_zero, List.set_cons_succ]
  refine wpAnyH_take (i := 7) (oi := { dst := some 98, op := Op.move (Operand.tmp 16), type := 61, pos := "outright.go:100", after := #[], guard := none }) (v := ?v7b) rfl (by kernel_rfl) (by kernel_rfl) (by kernel_rfl) (fun _ _ _ h => hQ _ _ _ _ _ h) (Or.inl ⟨by rfl, ?y7b⟩) (by assumption) ?r7b
  case y7b => (intro x hx; (try dsimp only at hx); go_simp; try with_reducible rfl)
  try simp only [Act.put, List.setIfInBounds_toArray, List.set_cons_zero, List.set_cons_succ]
  refine wpAnyH_take (i := 8) (oi := { dst := some 99, op := Op.move (Operand.tmp 18), type := 3, pos := "outright.go:100", after := #[], guard := none }) (v := ?v8b) rfl (by kernel_rfl) (by kernel_rfl) (by kernel_rfl) (fun _ _ _ h => hQ _ _ _ _ _ h) (Or.inl ⟨by rfl, ?y8b⟩) (by assumption) ?r8b
  case y8b => (intro x hx; (try dsimp only at hx); go_simp; try with_reducible rfl)
  try simp only [Act.put, List.setIfInBounds_toArray, List.set_cons_zero, List.set_cons_succ]
  refine wpAnyH_take (i := 9) (oi := { dst := some 100, op := Op.indexAddr 61 (Operand.tmp 98) (Operand.tmp 99), type := 0, pos := "outright.go:100", after := #[{ on := 7, ground := Ground.data }, { on := 8, ground := Ground.data }], guard := none }) (v := ?v9b) rfl (by kernel_rfl) (by kernel_rfl) (by kernel_rfl) (fun _ _ _ h => hQ _ _ _ _ _ h) (Or.inl ⟨by rfl, ?y9b⟩) (by assumption) ?r9b
  case y9b => (intro x hx; (try dsimp only at hx); go_simp; try with_reducible rfl)
  try simp only [Act.put, List.setIfInBounds_toArray, List.set_cons_zero, List.set_cons_succ]
  refine wpAnyH_take (i := 10) (oi := { dst := some 101, op := Op.load 24 (Operand.tmp 100), type := 24, pos := "outright.go:100", after := #[{ on := 9, ground := Ground.data }], guard := none }) (v := ?v10b) rfl (by kernel_rfl) (by kernel_rfl) (by kernel_rfl) (fun _ _ _ h => hQ _ _ _ _ _ h) (Or.inl ⟨by rfl, ?y10b⟩) (by assumption) ?r10b
  case y10b => (intro x hx; (try dsimp only at hx); go_simp; try with_reducible rfl)
  try simp only [Act.put, List.setIfInBounds_toArray, List.set_cons_zero, List.set_cons_succ]
  refine wpAnyH_take (i := 11) (oi := { dst := some 102, op := Op.move (Operand.tmp 11), type := 25, pos := "outright.go:100", after := #[], guard := none }) (v := ?v11b) rfl (by kernel_rfl) (by kernel_rfl) (by kernel_rfl) (fun _ _ _ h => hQ _ _ _ _ _ h) (Or.inl ⟨by rfl, ?y11b⟩) (by assumption) ?r11b
  case y11b => (intro x hx; (try dsimp only at hx); go_simp; try with_reducible rfl)
  try simp only [Act.put, List.setIfInBounds_toArray, List.set_cons_zero, List.set_cons_succ]
  refine wpAnyH_take (i := 12) (oi := { dst := some 103, op := Op.fieldAddr 41 (Operand.tmp 19) 0, type := 0, pos := "outright.go:100", after := #[], guard := none }) (v := ?v12b) rfl (by kernel_rfl) (by kernel_rfl) (by kernel_rfl) (fun _ _ _ h => hQ _ _ _ _ _ h) (Or.inl ⟨by rfl, ?y12b⟩) (by assumption) ?r12b
  case y12b => (intro x hx; (try dsimp only at hx); go_simp; try with_reducible rfl)
  try simp only [Act.put, List.setIfInBounds_toArray, List.set_cons_zero, List.set_cons_succ]
  refine wpAnyH_take (i := 13) (oi := { dst := some 104, op := Op.load 3 (Operand.tmp 103), type := 3, pos := "outright.go:100", after := #[{ on := 12, ground := Ground.data }], guard := none }) (v := ?v13b) rfl (by kernel_rfl) (by kernel_rfl) (by kernel_rfl) (fun _ _ _ h => hQ _ _ _ _ _ h) (Or.inl ⟨by rfl, ?y13b⟩) (by assumption) ?r13b
  case y13b => (intro x hx; (try dsimp only at hx); go_simp; try with_reducible rfl)
  try simp only [Act.put, List.setIfInBounds_toArray, List.set_cons_zero, List.set_cons_succ]
  refine wpAnyH_take (i := 14) (oi := { dst := some 105, op := Op.indexAddr 25 (Operand.tmp 102) (Operand.tmp 104), type := 0, pos := "outright.go:100", after := #[{ on := 11, ground := Ground.data }, { on := 13, ground := Ground.data }], guard := none }) (v := ?v14b) rfl (by kernel_rfl) (by kernel_rfl) (by kernel_rfl) (fun _ _ _ h => hQ _ _ _ _ _ h) (Or.inl ⟨by rfl, ?y14b⟩) (by assumption) ?r14b
  case y14b => (intro x hx; (try dsimp only at hx); go_simp; try with_reducible rfl)
  try simp only [Act.put, List.setIfInBounds_toArray, List.set_cons_zero, List.set_cons_succ]
  refine wpAnyH_take (i := 15) (oi := { dst := some 106, op := Op.load 4 (Operand.tmp 105), type := 4, pos := "outright.go:100", after := #[{ on := 14, ground := Ground.data }], guard := none }) (v := ?v15b) rfl (by kernel_rfl) (by kernel_rfl) (by kernel_rfl) (fun _ _ _ h => hQ _ _ _ _ _ h) (Or.inl ⟨by rfl, ?y15b⟩) (by assumption) ?r15b
  case y15b => (intro x hx; (try dsimp only at hx); go_simp; try with_reducible rfl)
  try simp only [Act.put, List.setIfInBounds_toArray, List.set_cons_zero, List.set_cons_succ]
  refine wpAnyH_ready (rs := [16]) (by kernel_rfl) (by simp) ?_
  refine AllReadyH.cons (o := { dst := some 107, op := Op.call { callee := Callee.value (Operand.func 26), args := #[Operand.tmp 91, Operand.tmp 92, Operand.tmp 93, Operand.tmp 97, Operand.tmp 101, Operand.tmp 106], argTypes := #[56, 4, 41, 24, 24, 4] }, type := 4, pos := "outright.go:100", after := #[{ on := 0, ground := Ground.data }, { on := 1, ground := Ground.data }, { on := 2, ground := Ground.data }, { on := 6, ground := Ground.data }, { on := 10, ground := Ground.data }, { on := 15, ground := Ground.data }], guard := none }) rfl (fun K_ hK => ?_) AllReadyH.nil
  go_simp
  go_at_call 26
  refine (goes_any _ x.o x.da x.dn x.dc x.za x.zn x.zc done a4 b4 r.g r.c r2.g r2.c r.z r2.z (HRX.out.below (below_trans HBV.out (drew_below _))) (HRY.out.below (below_trans HBV.out (drew_below _))) fb HG.out).mono ?_
  rintro e u26 ⟨rfl, b26⟩
  have HB26 := hide (below_trans (below_trans HBV.out (drew_below _)) b26)
  have hSnew : (fun u => u.cell? ⟨q13, 0, none⟩ = some (.int .i64 x.o.k) ∧ u.cell? ⟨q13, 1, none⟩ = some (.int .i64 x.o.b) ∧ u.cell? ⟨q13, 2, none⟩ = some (.int .i64 x.o.p) ∧ u.cell? ⟨q13, 3, none⟩ = some (.int .i64 x.o.bit) ∧ u.cell? ⟨q13, 4, none⟩ = some (.bool x.o.fit) ∧ u.cell? ⟨q13, 5, none⟩ = some (.slice x.da x.dn x.dc) ∧ u.cell? ⟨q13, 6, none⟩ = some (.slice x.za x.zn x.zc) ∧ u.cell? ⟨pb, 0, none⟩ = some (.int .i64 (a4 : Int)) ∧ u.cell? ⟨pb, 1, none⟩ = some (.int .i64 (b4 : Int)) ∧ u.cell? ⟨gv, m, none⟩ = some (.slice (some ⟨r.g, 0, none⟩) 313 r.c) ∧ u.cell? ⟨gn, m, none⟩ = some (.slice (some ⟨r2.g, 0, none⟩) 313 r2.c) ∧ u.cell? ⟨gf, a4, none⟩ = some (.bool fb)) u26 := s20_below hHeld b26
  clear b26
  go_wp2_with fail
  refine hK.out _ _ hSnew (fun hHeld16 => ?_)
  clear hK K_ hSnew
  clear hHeld
  have hHeld := hHeld16
  clear hHeld16
  try simp only [Act.put, List.setIfInBounds_toArray, List.set_cons_zero, List.set_cons_succ]
  refine wpAnyH_take (i := 17) (oi := { dst := some 108, op := Op.unOp UnOp.not 4 (Operand.tmp 107), type := 4, pos := "outright.go:100", after := #[{ on := 16, ground := Ground.data }], guard := none }) (v := ?v17b) rfl (by kernel_rfl) (by kernel_rfl) (by kernel_rfl) (fun _ _ _ h => hQ _ _ _ _ _ h) (Or.inl ⟨by rfl, ?y17b⟩) (by assumption) ?r17b
  case y17b => (intro x hx; (try dsimp only at hx); go_simp; try with_reducible rfl)
  try simp only [Act.put, List.setIfInBounds_toArray, List.set_cons_zero, List.set_cons_succ]
  refine wpAnyH_done (by kernel_rfl) ?_ _
  clear hHeld
  go_wp2
  exact HK.out _ _ _ _ _ _ _ _ _ _ _ _ _ _ _ _ _ _ _ _ _ _ _ _ _ _ _ _ _ _ _ _ _ _ _ _ (by go_num) HB26.out
end Go.Proofs.Ytadlkikjfonkgaa
