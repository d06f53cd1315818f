/-
  SEAT Ytadlkikjfonkgaa: Gk, Gl.
-/
import Derived.Test.YtadlkikjfonkgaaYf
namespace Go.Proofs.Ytadlkikjfonkgaa
open Go.RowKit Go.Conc
set_option linter.unusedVariables false

/-- The loops of a code, from the front. -/
def loopsOf : Code → List Code
  | .loop c => c :: loopsOf c
  | .seq a b => loopsOf a ++ loopsOf b
  | .block _ c => loopsOf c
  | .scope c => loopsOf c
  | .cond _ a b => loopsOf a ++ loopsOf b
  | _ => []
theorem wrap_i64_div {m : Nat} (h : m < 32) : IntKind.i64.wrap ((m : Int) / 4) = (m : Int) / 4 := by
  have h1 : ∀ n : Nat, n < 32 → IntKind.i64.wrap ((n : Int) / 4) = (n : Int) / 4 := by decide +kernel
  exact h1 m h
noncomputable def hB4 : Code := ((Try.f6.body.bind (fun c => (loopsOf c)[3]?)).getD .skip)
set_option maxHeartbeats 8000000 in
set_option maxRecDepth 100000 in
theorem h4_round {K : Act → World → Prop} {Q0 : Exit → Act → World → Prop} {w : World} {p b7 gw gk : Nat} {F : Nat → Prop} {C : Ch} {ws : List Wc} {ks : List Bool} {W : Nat → Nat → Option (List Int)} {Kt : Nat → Nat → Bool} (wr : World) (HM0 : Hid (HM w wr p b7 gw gk F C ws ks)) (HT : Hid (Tab ws ks W Kt)) (HV : Hid (HInv C W Kt)) (hok : C.Ok) (hdk : C.dark = false) (hB : C.B = 8) (hP : C.P = 4) (hPG : pgB C.S = 313) (hQ : ∀ (c : _) (a : Act) (d : Nat) (v : Value) (w : World), Q0 (.panic c) (a.put (some d) v) w → Q0 (.panic c) a w) (m : Nat) (hm : m < 32) (c0 c1 c2 c3 c4 c5 c6 c9 c12 c13 c14 c15 c16 c17 c18 c19 c20 c23 c24 c25 c26 c27 c28 c29 c30 c31 c32 c33 c34 c35 c36 c37 c38 c39 c40 c41 c42 c43 c44 c45 c46 c47 c48 c49 c50 c51 c52 c53 c54 c55 c56 c57 c58 c59 c60 c61 c62 c63 c64 c65 c66 c67 c68 c69 c70 c71 c72 c73 c74 c75 c76 c77 c78 c79 c80 c81 c82 c83 c84 c85 c86 c87 c88 c89 c90 c91 c92 c93 c94 c95 c96 c97 c98 c99 c100 c101 c102 c103 c104 c105 c106 c107 c108 c109 c110 c111 c112 c113 c114 c115 c116 c117 c118 c119 c120 c121 c122 c123 c124 c125 c126 c127 c128 c129 c130 c131 c132 c133 c134 c135 c136 c137 c138 c139 c140 c141 c142 c143 c144 c145 c146 c147 c148 c149 c150 c151 c152 c153 c154 c155 c156 c157 c158 c159 c160 c161 c162 c163 c164 c165 c166 c167 c168 c169 c170 c171 c172 c173 c174 c175 c176 c177 c178 c179 c180 c181 c182 c183 c220 u22 u184 u185 u186 u187 u188 u189 u190 u191 u192 u193 u194 u195 u196 u197 u198 u199 u200 u201 u202 u203 u204 u205 u206 u207 u208 u209 u210 u211 u212 u213 u214 u215 u216 u217 u218 u219 : Value)
    (hK : ∀ (x21 x22 x184 x185 x186 x187 x188 x189 x190 x191 x192 x193 x194 x195 x196 x197 x198 x199 x200 x201 x202 x203 x204 x205 x206 x207 x208 x209 x210 x211 x212 x213 x214 x215 x216 x217 x218 x219 : Value) (w' : World), x21 = .int .i64 ((m + 1 : Nat) : Int) → HM w w' p b7 gw gk F C ws ks → K ⟨#[c0, c1, c2, c3, c4, c5, c6, .pointer (some ⟨b7, 0, none⟩), .pointer (some ⟨p, 0, none⟩), c9, .slice (some ⟨gw, 0, none⟩) 32 32, .slice (some ⟨gk, 0, none⟩) 32 32, c12, c13, c14, c15, c16, c17, c18, c19, c20, x21, x22, c23, c24, c25, c26, c27, c28, c29, c30, c31, c32, c33, c34, c35, c36, c37, c38, c39, c40, c41, c42, c43, c44, c45, c46, c47, c48, c49, c50, c51, c52, c53, c54, c55, c56, c57, c58, c59, c60, c61, c62, c63, c64, c65, c66, c67, c68, c69, c70, c71, c72, c73, c74, c75, c76, c77, c78, c79, c80, c81, c82, c83, c84, c85, c86, c87, c88, c89, c90, c91, c92, c93, c94, c95, c96, c97, c98, c99, c100, c101, c102, c103, c104, c105, c106, c107, c108, c109, c110, c111, c112, c113, c114, c115, c116, c117, c118, c119, c120, c121, c122, c123, c124, c125, c126, c127, c128, c129, c130, c131, c132, c133, c134, c135, c136, c137, c138, c139, c140, c141, c142, c143, c144, c145, c146, c147, c148, c149, c150, c151, c152, c153, c154, c155, c156, c157, c158, c159, c160, c161, c162, c163, c164, c165, c166, c167, c168, c169, c170, c171, c172, c173, c174, c175, c176, c177, c178, c179, c180, c181, c182, c183, x184, x185, x186, x187, x188, x189, x190, x191, x192, x193, x194, x195, x196, x197, x198, x199, x200, x201, x202, x203, x204, x205, x206, x207, x208, x209, x210, x211, x212, x213, x214, x215, x216, x217, x218, x219, c220], []⟩ w') :
    Code.wp Try.prog hB4 (Exit.then K Q0) ⟨#[c0, c1, c2, c3, c4, c5, c6, .pointer (some ⟨b7, 0, none⟩), .pointer (some ⟨p, 0, none⟩), c9, .slice (some ⟨gw, 0, none⟩) 32 32, .slice (some ⟨gk, 0, none⟩) 32 32, c12, c13, c14, c15, c16, c17, c18, c19, c20, .int .i64 (m : Int), u22, c23, c24, c25, c26, c27, c28, c29, c30, c31, c32, c33, c34, c35, c36, c37, c38, c39, c40, c41, c42, c43, c44, c45, c46, c47, c48, c49, c50, c51, c52, c53, c54, c55, c56, c57, c58, c59, c60, c61, c62, c63, c64, c65, c66, c67, c68, c69, c70, c71, c72, c73, c74, c75, c76, c77, c78, c79, c80, c81, c82, c83, c84, c85, c86, c87, c88, c89, c90, c91, c92, c93, c94, c95, c96, c97, c98, c99, c100, c101, c102, c103, c104, c105, c106, c107, c108, c109, c110, c111, c112, c113, c114, c115, c116, c117, c118, c119, c120, c121, c122, c123, c124, c125, c126, c127, c128, c129, c130, c131, c132, c133, c134, c135, c136, c137, c138, c139, c140, c141, c142, c143, c144, c145, c146, c147, c148, c149, c150, c151, c152, c153, c154, c155, c156, c157, c158, c159, c160, c161, c162, c163, c164, c165, c166, c167, c168, c169, c170, c171, c172, c173, c174, c175, c176, c177, c178, c179, c180, c181, c182, c183, u184, u185, u186, u187, u188, u189, u190, u191, u192, u193, u194, u195, u196, u197, u198, u199, u200, u201, u202, u203, u204, u205, u206, u207, u208, u209, u210, u211, u212, u213, u214, u215, u216, u217, u218, u219, c220], []⟩ wr := by
  conv => arg 2; whnf
  have HK := hide hK
  clear hK
  have dmm : decide ((m : Int) < 32) = true := decide_eq_true (by omega)
  have m1 : (m : Int) < 32 := by omega
  have hwq : IntKind.i64.wrap ((m : Int) / 4) = (m : Int) / 4 := wrap_i64_div (by omega)
  have hwr : (m : Int).tmod 4 = (m : Int) % 4 := Int.tmod_eq_emod_of_nonneg (by omega)
  have Hd4 : Hid ((m : Int) / 4 = ((m / 4 : Nat) : Int)) := by show (m : Int) / 4 = _; omega
  have Hm4 : Hid ((m : Int) % 4 = ((m % 4 : Nat) : Int)) := by show (m : Int) % 4 = _; omega
  have HS1 : Hid (C.S = 1) := by
    have h9 := hPG
    unfold pgB at h9
    show C.S = 1
    omega
  have zb := (cells3 (HM0.out.hd.blk (g := b7) (o := box8) (by simp)))
  obtain ⟨z0, z1, z2⟩ := zb
  go_upto_region 34 with fail
  have HJd := hide (HM0.out.below (drew_below wr))
  refine wp_region_held_drew (S := (fun u => u.cell? ⟨b7, 1, none⟩ = some (.int .i64 4))) (by kernel_rfl) (z1) (fun hHeld => ?_)
  refine wpAnyH_take (i := 0) (oi := { dst := some 190, op := Op.move (Operand.tmp 8), type := 29, pos := "outright.go:169", after := #[], guard := none }) (v := ?v0) rfl (by kernel_rfl) (by kernel_rfl) (by kernel_rfl) (fun _ _ _ h => hQ _ _ _ _ _ h) (Or.inl ⟨by rfl, ?y0⟩) (by assumption) ?r0
  case y0 => (intro x hx; (try dsimp only at hx); go_simp; try with_reducible rfl)
  try simp only [Act.put, List.setIfInBounds_toArray, List.set_cons_zero, List.set_cons_succ]
  refine wpAnyH_take (i := 1) (oi := { dst := some 191, op := Op.move (Operand.tmp 21), type := 3, pos := "outright.go:169", after := #[], guard := none }) (v := ?v1) rfl (by kernel_rfl) (by kernel_rfl) (by kernel_rfl) (fun _ _ _ h => hQ _ _ _ _ _ h) (Or.inl ⟨by rfl, ?y1⟩) (by assumption) ?r1
  case y1 => (intro x hx; (try dsimp only at hx); go_simp; try with_reducible rfl)
  try simp only [Act.put, List.setIfInBounds_toArray, List.set_cons_zero, List.set_cons_succ]
  refine wpAnyH_take (i := 2) (oi := { dst := some 192, op := Op.fieldAddr 23 (Operand.tmp 7) 1, type := 0, pos := "outright.go:169", after := #[], guard := none }) (v := ?v2) rfl (by kernel_rfl) (by kernel_rfl) (by kernel_rfl) (fun _ _ _ h => hQ _ _ _ _ _ h) (Or.inl ⟨by rfl, ?y2⟩) (by assumption) ?r2
  case y2 => (intro x hx; (try dsimp only at hx); go_simp; try with_reducible rfl)
  try simp only [Act.put, List.setIfInBounds_toArray, List.set_cons_zero, List.set_cons_succ]
  refine wpAnyH_take (i := 3) (oi := { dst := some 193, op := Op.load 3 (Operand.tmp 192), type := 3, pos := "outright.go:169", after := #[{ on := 2, ground := Ground.data }], guard := none }) (v := ?v3) rfl (by kernel_rfl) (by kernel_rfl) (by kernel_rfl) (fun _ _ _ h => hQ _ _ _ _ _ h) (Or.inl ⟨by rfl, ?y3⟩) (by assumption) ?r3
  case y3 => (intro x hx; (try dsimp only at hx); go_simp; try with_reducible rfl)
  try simp only [Act.put, List.setIfInBounds_toArray, List.set_cons_zero, List.set_cons_succ]
  refine wpAnyH_take (i := 4) (oi := { dst := some 194, op := Op.binOp BinOp.quo 3 (Operand.tmp 191) (Operand.tmp 193) 3, type := 3, pos := "outright.go:169", after := #[{ on := 1, ground := Ground.data }, { on := 3, ground := Ground.data }], guard := none }) (v := ?v4) rfl (by kernel_rfl) (by kernel_rfl) (by kernel_rfl) (fun _ _ _ h => hQ _ _ _ _ _ h) (Or.inl ⟨by rfl, ?y4⟩) (by assumption) ?r4
  case y4 => (intro x hx; (try dsimp only at hx); go_simp; try with_reducible rfl)
  try simp only [Act.put, List.setIfInBounds_toArray, List.set_cons_zero, List.set_cons_succ]
  refine wpAnyH_take (i := 5) (oi := { dst := some 195, op := Op.move (Operand.tmp 21), type := 3, pos := "outright.go:169", after := #[], guard := none }) (v := ?v5) rfl (by kernel_rfl) (by kernel_rfl) (by kernel_rfl) (fun _ _ _ h => hQ _ _ _ _ _ h) (Or.inl ⟨by rfl, ?y5⟩) (by assumption) ?r5
  case y5 => (intro x hx; (try dsimp only at hx); go_simp; try with_reducible rfl)
  try simp only [Act.put, List.setIfInBounds_toArray, List.set_cons_zero, List.set_cons_succ]
  refine wpAnyH_take (i := 6) (oi := { dst := some 196, op := Op.fieldAddr 23 (Operand.tmp 7) 1, type := 0, pos := "outright.go:169", after := #[], guard := none }) (v := ?v6) rfl (by kernel_rfl) (by kernel_rfl) (by kernel_rfl) (fun _ _ _ h => hQ _ _ _ _ _ h) (Or.inl ⟨by rfl, ?y6⟩) (by assumption) ?r6
  case y6 => (intro x hx; (try dsimp only at hx); go_simp; try with_reducible rfl)
  try simp only [Act.put, List.setIfInBounds_toArray, List.set_cons_zero, List.set_cons_succ]
  refine wpAnyH_take (i := 7) (oi := { dst := some 197, op := Op.load 3 (Operand.tmp 196), type := 3, pos := "outright.go:169", after := #[{ on := 6, ground := Ground.data }], guard := none }) (v := ?v7) rfl (by kernel_rfl) (by kernel_rfl) (by kernel_rfl) (fun _ _ _ h => hQ _ _ _ _ _ h) (Or.inl ⟨by rfl, ?y7⟩) (by assumption) ?r7
  case y7 => (intro x hx; (try dsimp only at hx); go_simp; try with_reducible rfl)
  try simp only [Act.put, List.setIfInBounds_toArray, List.set_cons_zero, List.set_cons_succ]
  refine wpAnyH_take (i := 8) (oi := { dst := some 198, op := Op.binOp BinOp.rem 3 (Operand.tmp 195) (Operand.tmp 197) 3, type := 3, pos := "outright.go:169", after := #[{ on := 5, ground := Ground.data }, { on := 7, ground := Ground.data }], guard := none }) (v := ?v8) rfl (by kernel_rfl) (by kernel_rfl) (by kernel_rfl) (fun _ _ _ h => hQ _ _ _ _ _ h) (Or.inl ⟨by rfl, ?y8⟩) (by assumption) ?r8
  case y8 => (intro x hx; (try dsimp only at hx); go_simp; try with_reducible rfl)
  try simp only [Act.put, List.setIfInBounds_toArray, List.set_cons_zero, List.set_cons_succ]
  refine wpAnyH_take (i := 9) (oi := { dst := some 199, op := Op.build 41 #[(0, Operand.tmp 194), (1, Operand.tmp 198)], type := 41, pos := "outright.go:169", after := #[{ on := 4, ground := Ground.data }, { on := 8, ground := Ground.data }], guard := none }) (v := ?v9) rfl (by kernel_rfl) (by kernel_rfl) (by kernel_rfl) (fun _ _ _ h => hQ _ _ _ _ _ h) (Or.inl ⟨by rfl, ?y9⟩) (by assumption) ?r9
  case y9 => (intro x hx; (try dsimp only at hx); go_simp; try with_reducible rfl)
  try simp only [Act.put, List.setIfInBounds_toArray, List.set_cons_zero, List.set_cons_succ]
  refine wpAnyH_ready (rs := [10]) (by kernel_rfl) (by simp) ?_
  refine AllReadyH.cons (o := { dst := some 200, op := Op.call { callee := Callee.value (Operand.func 28), args := #[Operand.tmp 190, Operand.tmp 199], argTypes := #[29, 41] }, type := 24, pos := "outright.go:169", after := #[{ on := 0, ground := Ground.data }, { on := 9, ground := Ground.data }], guard := none }) rfl (fun K hK => ?_) AllReadyH.nil
  go_simp
  rw [Hd4.out, Hm4.out]
  go_at_call 28
  refine (bits_any _ p F C HJd.out.hd.ch hok hdk (m / 4) (m % 4) (by rw [hB]; omega) (by rw [hP]; omega)).mono ?_
  rintro e u20 ⟨gb, cb, rfl, ob, bb⟩
  rw [hPG] at ob ⊢
  have HJ2 := hide (HJd.out.below bb)
  have HOB := hide ob
  have hSnew := (cells3 (HJ2.out.hd.blk (g := b7) (o := box8) (by simp))).2.1
  clear ob bb
  go_wp2_with fail
  refine hK.out _ _ hSnew (fun hHeld10 => ?_)
  clear hK K hSnew
  clear hHeld
  have hHeld := hHeld10
  clear hHeld10
  try simp only [Act.put, List.setIfInBounds_toArray, List.set_cons_zero, List.set_cons_succ]
  refine wpAnyH_take (i := 11) (oi := { dst := some 22, op := Op.assign (Operand.tmp 200), type := 24, pos := "outright.go:169", after := #[{ on := 10, ground := Ground.data }, { on := 10, ground := Ground.chain }, { on := 0, ground := Ground.phase }, { on := 1, ground := Ground.phase }, { on := 2, ground := Ground.phase }, { on := 3, ground := Ground.phase }, { on := 4, ground := Ground.phase }, { on := 5, ground := Ground.phase }, { on := 6, ground := Ground.phase }, { on := 7, ground := Ground.phase }, { on := 8, ground := Ground.phase }, { on := 9, ground := Ground.phase }, { on := 10, ground := Ground.phase }], guard := none }) (v := ?v11) rfl (by kernel_rfl) (by kernel_rfl) (by kernel_rfl) (fun _ _ _ h => hQ _ _ _ _ _ h) (Or.inl ⟨by rfl, ?y11⟩) (by assumption) ?r11
  case y11 => (intro x hx; (try dsimp only at hx); go_simp; try with_reducible rfl)
  try simp only [Act.put, List.setIfInBounds_toArray, List.set_cons_zero, List.set_cons_succ]
  refine wpAnyH_done (by kernel_rfl) ?_ _
  clear hHeld z0 z1 z2
  clear HJd
  go_upto_region 35 with fail
  obtain ⟨hta, htb⟩ := HT.out (m / 4) (m % 4) (by omega) (by omega)
  rw [show m / 4 * 4 + m % 4 = m by omega] at hta htb
  obtain ⟨wc, hwc⟩ : ∃ c, ws[m]? = some c := ⟨_, List.getElem?_eq_getElem (by rw [HJ2.out.wl]; exact hm)⟩
  rw [hwc] at hta
  have HZ : Hid (wc.z = W (m / 4) (m % 4)) := Option.some.inj hta
  have hrb := HOB.out
  have HKC : Hid (ks[m]? = some (Kt (m / 4) (m % 4))) := htb
  have HWC : Hid (ws[m]? = some wc) := hwc
  have hok9 := HJ2.out.wo wc (List.mem_of_getElem? hwc)
  have HG8 : Hid (u20.heap[b7]? = some box8) := HJ2.out.hd.blk (g := b7) (o := box8) (by simp)
  have HGK := hide (kcell (HJ2.out.hd.blk (g := gk) (o := kobj ks) (by simp)) htb)
  have HGW := hide (wcell (HJ2.out.hd.blk (g := gw) (o := wobj ws) (by simp)) hwc)
  have HBY : Hid (∀ z ∈ readL C (m / 4) (m % 4), 0 ≤ z ∧ z ≤ 255) := readL_byt HJ2.out.hd.ch.pok _ _
  have HRD : Hid (Reads u20 (some ⟨gb, 0, none⟩) 313 (readL C (m / 4) (m % 4))) := own_reads' HOB.out HBY.out
  have HS9 : Hid (u20.cell? ⟨gk, m, none⟩ = some (.bool (Kt (m / 4) (m % 4))) ∧ u20.cell? ⟨gw, m, none⟩ = some wc.v ∧ u20.cell? ⟨b7, 0, none⟩ = some (.int .i64 8) ∧ u20.cell? ⟨b7, 1, none⟩ = some (.int .i64 4) ∧ u20.cell? ⟨b7, 2, none⟩ = some (.int .i64 1)) := ⟨HGK.out, HGW.out, cells3 HG8.out⟩
  clear hta htb hwc hrb HGK HGW HG8 HOB HM0
  obtain ⟨kv, hkv⟩ : ∃ b, b = Kt (m / 4) (m % 4) := ⟨_, rfl⟩
  rw [← hkv] at HS9 HKC
  have HKV := hide hkv
  clear hkv
  generalize hR : readL C (m / 4) (m % 4) = R at HBY HRD ⊢
  have HRE := hide hR
  clear hR
  cases kv with
  | true =>
    have HZ0 : Hid (((zsum R : Nat) : Int) = 0) := by
      have h9 := read_clean HV.out hok (i := m / 4) (k := m % 4) (by rw [hB]; omega) (by rw [hP]; omega) HKV.out.symm
      show ((zsum R : Nat) : Int) = 0
      rw [← HRE.out, h9, zsum_ones]
      rfl
    rcases hok9 with ⟨hn, hv⟩ | ⟨g, cp, Z, hz, hv, ho, hf⟩
    · rw [hv] at HS9
      clear hn hv
      refine wp_region_held_drew (S := (fun u => u.cell? ⟨gk, m, none⟩ = some (.bool true) ∧ u.cell? ⟨gw, m, none⟩ = some (.slice none 0 0) ∧ u.cell? ⟨b7, 0, none⟩ = some (.int .i64 8) ∧ u.cell? ⟨b7, 1, none⟩ = some (.int .i64 4) ∧ u.cell? ⟨b7, 2, none⟩ = some (.int .i64 1))) (by kernel_rfl) (HS9.out) (fun hHeld => ?_)
      refine wpAnyH_take (i := 0) (oi := { dst := some 201, op := Op.move (Operand.tmp 11), type := 25, pos := "outright.go:170", after := #[], guard := none }) (v := ?v0rtn) rfl (by kernel_rfl) (by kernel_rfl) (by kernel_rfl) (fun _ _ _ h => hQ _ _ _ _ _ h) (Or.inl ⟨by rfl, ?y0rtn⟩) (by assumption) ?r0rtn
      case y0rtn => (intro x hx; (try dsimp only at hx); go_simp; try with_reducible rfl)
      try simp only [Act.put, List.setIfInBounds_toArray, List.set_cons_zero, List.set_cons_succ]
      refine wpAnyH_take (i := 1) (oi := { dst := some 202, op := Op.move (Operand.tmp 21), type := 3, pos := "outright.go:170", after := #[], guard := none }) (v := ?v1rtn) rfl (by kernel_rfl) (by kernel_rfl) (by kernel_rfl) (fun _ _ _ h => hQ _ _ _ _ _ h) (Or.inl ⟨by rfl, ?y1rtn⟩) (by assumption) ?r1rtn
      case y1rtn => (intro x hx; (try dsimp only at hx); go_simp; try with_reducible rfl)
      try simp only [Act.put, List.setIfInBounds_toArray, List.set_cons_zero, List.set_cons_succ]
      refine wpAnyH_take (i := 2) (oi := { dst := some 203, op := Op.indexAddr 25 (Operand.tmp 201) (Operand.tmp 202), type := 0, pos := "outright.go:170", after := #[{ on := 0, ground := Ground.data }, { on := 1, ground := Ground.data }], guard := none }) (v := ?v2rtn) rfl (by kernel_rfl) (by kernel_rfl) (by kernel_rfl) (fun _ _ _ h => hQ _ _ _ _ _ h) (Or.inl ⟨by rfl, ?y2rtn⟩) (by assumption) ?r2rtn
      case y2rtn => (intro x hx; (try dsimp only at hx); go_simp; try with_reducible rfl)
      try simp only [Act.put, List.setIfInBounds_toArray, List.set_cons_zero, List.set_cons_succ]
      refine wpAnyH_take (i := 3) (oi := { dst := some 204, op := Op.load 4 (Operand.tmp 203), type := 4, pos := "outright.go:170", after := #[{ on := 2, ground := Ground.data }], guard := none }) (v := ?v3rtn) rfl (by kernel_rfl) (by kernel_rfl) (by kernel_rfl) (fun _ _ _ h => hQ _ _ _ _ _ h) (Or.inl ⟨by rfl, ?y3rtn⟩) (by assumption) ?r3rtn
      case y3rtn => (intro x hx; (try dsimp only at hx); go_simp; try with_reducible rfl)
      try simp only [Act.put, List.setIfInBounds_toArray, List.set_cons_zero, List.set_cons_succ]
      refine wpAnyH_take (i := 4) (oi := { dst := some 205, op := Op.move (Operand.tmp 204), type := 4, pos := "outright.go:170", after := #[{ on := 3, ground := Ground.data }], guard := none }) (v := ?v4rtn) rfl (by kernel_rfl) (by kernel_rfl) (by kernel_rfl) (fun _ _ _ h => hQ _ _ _ _ _ h) (Or.inl ⟨by rfl, ?y4rtn⟩) (by assumption) ?r4rtn
      case y4rtn => (intro x hx; (try dsimp only at hx); go_simp; try with_reducible rfl)
      try simp only [Act.put, List.setIfInBounds_toArray, List.set_cons_zero, List.set_cons_succ]
      refine wpAnyH_take (i := 5) (oi := { dst := some 206, op := Op.move (Operand.tmp 22), type := 24, pos := "outright.go:170", after := #[{ on := 4, ground := Ground.guard }], guard := some (4, true) }) (v := ?v5rtn) rfl (by kernel_rfl) (by kernel_rfl) (by kernel_rfl) (fun _ _ _ h => hQ _ _ _ _ _ h) (Or.inl ⟨by rfl, ?y5rtn⟩) (by assumption) ?r5rtn
      case y5rtn => (intro x hx; (try dsimp only at hx); go_simp; try with_reducible rfl)
      try simp only [Act.put, List.setIfInBounds_toArray, List.set_cons_zero, List.set_cons_succ]
      refine wpAnyH_ready (rs := [6]) (by kernel_rfl) (by simp) ?_
      refine AllReadyH.cons (o := { dst := some 207, op := Op.call { callee := Callee.value (Operand.func 29), args := #[Operand.tmp 206], argTypes := #[24] }, type := 3, pos := "outright.go:170", after := #[{ on := 5, ground := Ground.data }, { on := 4, ground := Ground.chain }, { on := 4, ground := Ground.guard }], guard := some (4, true) }) rfl (fun K hK => ?_) AllReadyH.nil
      go_simp
      go_at_call 29
      refine (rzeros_any _ 313 _ R _ (by omega) (Reads.below HRD.out (drew_below u20))).mono ?_
      rintro e u21 ⟨rfl, hu21⟩
      subst hu21
      rw [HZ0.out]
      have hSnew := hHeld
      go_wp2_with fail
      refine hK.out _ _ hSnew (fun hHeld6 => ?_)
      clear hK K hSnew
      clear hHeld
      have hHeld := hHeld6
      clear hHeld6
      try simp only [Act.put, List.setIfInBounds_toArray, List.set_cons_zero, List.set_cons_succ]
      refine wpAnyH_take (i := 7) (oi := { dst := some 208, op := Op.binOp BinOp.neq 3 (Operand.tmp 207) (Operand.const (Value.int IntKind.i64 0)) 3, type := 4, pos := "outright.go:170", after := #[{ on := 6, ground := Ground.data }, { on := 4, ground := Ground.guard }], guard := some (4, true) }) (v := ?v7rtn) rfl (by kernel_rfl) (by kernel_rfl) (by kernel_rfl) (fun _ _ _ h => hQ _ _ _ _ _ h) (Or.inl ⟨by rfl, ?y7rtn⟩) (by assumption) ?r7rtn
      case y7rtn => (intro x hx; (try dsimp only at hx); go_simp; try with_reducible rfl)
      try simp only [Act.put, List.setIfInBounds_toArray, List.set_cons_zero, List.set_cons_succ]
      refine wpAnyH_take (i := 8) (oi := { dst := some 209, op := Op.pick (Operand.tmp 205) (Operand.tmp 208) (Operand.const (Value.bool false)), type := 4, pos := "outright.go:170", after := #[{ on := 4, ground := Ground.data }, { on := 7, ground := Ground.data }], guard := none }) (v := ?v8rtn) rfl (by kernel_rfl) (by kernel_rfl) (by kernel_rfl) (fun _ _ _ h => hQ _ _ _ _ _ h) (Or.inl ⟨by rfl, ?y8rtn⟩) (by assumption) ?r8rtn
      case y8rtn => (intro x hx; (try dsimp only at hx); go_simp; try with_reducible rfl)
      try simp only [Act.put, List.setIfInBounds_toArray, List.set_cons_zero, List.set_cons_succ]
      refine wpAnyH_take (i := 9) (oi := { dst := some 210, op := Op.move (Operand.tmp 209), type := 4, pos := "outright.go:170", after := #[{ on := 8, ground := Ground.data }, { on := 6, ground := Ground.chain }], guard := none }) (v := ?v9rtn) rfl (by kernel_rfl) (by kernel_rfl) (by kernel_rfl) (fun _ _ _ h => hQ _ _ _ _ _ h) (Or.inl ⟨by rfl, ?y9rtn⟩) (by assumption) ?r9rtn
      case y9rtn => (intro x hx; (try dsimp only at hx); go_simp; try with_reducible rfl)
      try simp only [Act.put, List.setIfInBounds_toArray, List.set_cons_zero, List.set_cons_succ]
      refine wpAnyH_take (i := 10) (oi := { dst := some 211, op := Op.load 23 (Operand.tmp 7), type := 23, pos := "outright.go:170", after := #[{ on := 9, ground := Ground.guard }], guard := some (9, false) }) (v := ?v10rtn) rfl (by kernel_rfl) (by kernel_rfl) (by kernel_rfl) (fun _ _ _ h => hQ _ _ _ _ _ h) (Or.inl ⟨by rfl, ?y10rtn⟩) (by assumption) ?r10rtn
      case y10rtn => (intro x hx; (try dsimp only at hx); go_simp; try with_reducible rfl)
      try simp only [Act.put, List.setIfInBounds_toArray, List.set_cons_zero, List.set_cons_succ]
      refine wpAnyH_take (i := 11) (oi := { dst := some 212, op := Op.move (Operand.tmp 22), type := 24, pos := "outright.go:170", after := #[{ on := 9, ground := Ground.guard }], guard := some (9, false) }) (v := ?v11rtn) rfl (by kernel_rfl) (by kernel_rfl) (by kernel_rfl) (fun _ _ _ h => hQ _ _ _ _ _ h) (Or.inl ⟨by rfl, ?y11rtn⟩) (by assumption) ?r11rtn
      case y11rtn => (intro x hx; (try dsimp only at hx); go_simp; try with_reducible rfl)
      try simp only [Act.put, List.setIfInBounds_toArray, List.set_cons_zero, List.set_cons_succ]
      refine wpAnyH_take (i := 12) (oi := { dst := some 213, op := Op.move (Operand.tmp 10), type := 61, pos := "outright.go:170", after := #[{ on := 9, ground := Ground.guard }], guard := some (9, false) }) (v := ?v12rtn) rfl (by kernel_rfl) (by kernel_rfl) (by kernel_rfl) (fun _ _ _ h => hQ _ _ _ _ _ h) (Or.inl ⟨by rfl, ?y12rtn⟩) (by assumption) ?r12rtn
      case y12rtn => (intro x hx; (try dsimp only at hx); go_simp; try with_reducible rfl)
      try simp only [Act.put, List.setIfInBounds_toArray, List.set_cons_zero, List.set_cons_succ]
      refine wpAnyH_take (i := 13) (oi := { dst := some 214, op := Op.move (Operand.tmp 21), type := 3, pos := "outright.go:170", after := #[{ on := 9, ground := Ground.guard }], guard := some (9, false) }) (v := ?v13rtn) rfl (by kernel_rfl) (by kernel_rfl) (by kernel_rfl) (fun _ _ _ h => hQ _ _ _ _ _ h) (Or.inl ⟨by rfl, ?y13rtn⟩) (by assumption) ?r13rtn
      case y13rtn => (intro x hx; (try dsimp only at hx); go_simp; try with_reducible rfl)
      try simp only [Act.put, List.setIfInBounds_toArray, List.set_cons_zero, List.set_cons_succ]
      refine wpAnyH_take (i := 14) (oi := { dst := some 215, op := Op.indexAddr 61 (Operand.tmp 213) (Operand.tmp 214), type := 0, pos := "outright.go:170", after := #[{ on := 12, ground := Ground.data }, { on := 13, ground := Ground.data }, { on := 9, ground := Ground.guard }], guard := some (9, false) }) (v := ?v14rtn) rfl (by kernel_rfl) (by kernel_rfl) (by kernel_rfl) (fun _ _ _ h => hQ _ _ _ _ _ h) (Or.inl ⟨by rfl, ?y14rtn⟩) (by assumption) ?r14rtn
      case y14rtn => (intro x hx; (try dsimp only at hx); go_simp; try with_reducible rfl)
      try simp only [Act.put, List.setIfInBounds_toArray, List.set_cons_zero, List.set_cons_succ]
      refine wpAnyH_take (i := 15) (oi := { dst := some 216, op := Op.load 24 (Operand.tmp 215), type := 24, pos := "outright.go:170", after := #[{ on := 14, ground := Ground.data }, { on := 9, ground := Ground.guard }], guard := some (9, false) }) (v := ?v15rtn) rfl (by kernel_rfl) (by kernel_rfl) (by kernel_rfl) (fun _ _ _ h => hQ _ _ _ _ _ h) (Or.inl ⟨by rfl, ?y15rtn⟩) (by assumption) ?r15rtn
      case y15rtn => (intro x hx; (try dsimp only at hx); go_simp; try with_reducible rfl)
      try simp only [Act.put, List.setIfInBounds_toArray, List.set_cons_zero, List.set_cons_succ]
      refine wpAnyH_ready (rs := [16]) (by kernel_rfl) (by simp) ?_
      refine AllReadyH.cons (o := { dst := some 217, op := Op.call { callee := Callee.value (Operand.func 30), args := #[Operand.tmp 211, Operand.tmp 212, Operand.tmp 216], argTypes := #[23, 24, 24] }, type := 4, pos := "outright.go:170", after := #[{ on := 10, ground := Ground.data }, { on := 11, ground := Ground.data }, { on := 15, ground := Ground.data }, { on := 9, ground := Ground.chain }, { on := 9, ground := Ground.guard }], guard := some (9, false) }) rfl (fun K hK => ?_) AllReadyH.nil
      go_simp
      go_at_call 30
      refine (near_nil _ 8 4 1 (some ⟨gb, 0, none⟩) 313 _).mono ?_
      rintro e u22 ⟨rfl, b22⟩
      have HJ9 := hide (HJ2.out.below (below_trans (drew_below u20) b22))
      have hSnew : (fun u => u.cell? ⟨gk, m, none⟩ = some (.bool true) ∧ u.cell? ⟨gw, m, none⟩ = some (.slice none 0 0) ∧ u.cell? ⟨b7, 0, none⟩ = some (.int .i64 8) ∧ u.cell? ⟨b7, 1, none⟩ = some (.int .i64 4) ∧ u.cell? ⟨b7, 2, none⟩ = some (.int .i64 1)) u22 := ⟨(b22.cell (block_lt_of_cell hHeld.1)).trans hHeld.1, (b22.cell (block_lt_of_cell hHeld.2.1)).trans hHeld.2.1, (b22.cell (block_lt_of_cell hHeld.2.2.1)).trans hHeld.2.2.1, (b22.cell (block_lt_of_cell hHeld.2.2.2.1)).trans hHeld.2.2.2.1, (b22.cell (block_lt_of_cell hHeld.2.2.2.2)).trans hHeld.2.2.2.2⟩
      clear b22
      go_wp2_with fail
      refine hK.out _ _ hSnew (fun hHeld16 => ?_)
      clear hK K hSnew
      clear hHeld
      have hHeld := hHeld16
      clear hHeld16
      try simp only [Act.put, List.setIfInBounds_toArray, List.set_cons_zero, List.set_cons_succ]
      refine wpAnyH_take (i := 17) (oi := { dst := some 218, op := Op.unOp UnOp.not 4 (Operand.tmp 217), type := 4, pos := "outright.go:170", after := #[{ on := 16, ground := Ground.data }, { on := 9, ground := Ground.guard }], guard := some (9, false) }) (v := ?v17rtn) rfl (by kernel_rfl) (by kernel_rfl) (by kernel_rfl) (fun _ _ _ h => hQ _ _ _ _ _ h) (Or.inl ⟨by rfl, ?y17rtn⟩) (by assumption) ?r17rtn
      case y17rtn => (intro x hx; (try dsimp only at hx); go_simp; try with_reducible rfl)
      try simp only [Act.put, List.setIfInBounds_toArray, List.set_cons_zero, List.set_cons_succ]
      refine wpAnyH_take (i := 18) (oi := { dst := some 219, op := Op.pick (Operand.tmp 210) (Operand.const (Value.bool true)) (Operand.tmp 218), type := 4, pos := "outright.go:170", after := #[{ on := 9, ground := Ground.data }, { on := 17, ground := Ground.data }], guard := none }) (v := ?v18rtn) rfl (by kernel_rfl) (by kernel_rfl) (by kernel_rfl) (fun _ _ _ h => hQ _ _ _ _ _ h) (Or.inl ⟨by rfl, ?y18rtn⟩) (by assumption) ?r18rtn
      case y18rtn => (intro x hx; (try dsimp only at hx); go_simp; try with_reducible rfl)
      try simp only [Act.put, List.setIfInBounds_toArray, List.set_cons_zero, List.set_cons_succ]
      refine wpAnyH_done (by kernel_rfl) ?_ _
      clear hHeld
      go_wp2
      exact HK.out _ _ _ _ _ _ _ _ _ _ _ _ _ _ _ _ _ _ _ _ _ _ _ _ _ _ _ _ _ _ _ _ _ _ _ _ _ _ _ (by go_num) HJ9.out
    · rw [hv] at HS9
      have hwn := read_want HV.out hok (i := m / 4) (k := m % 4) (z := Z) (by rw [hB]; omega) (by rw [hP]; omega) (by rw [← HZ.out, hz])
      rw [HRE.out, HS1.out] at hwn
      have HWN := hide hwn
      clear hwn
      have HRZ := hide (own_reads' ho HWN.out.2.2.1)
      clear hv hz ho hf
      refine wp_region_held_drew (S := (fun u => u.cell? ⟨gk, m, none⟩ = some (.bool true) ∧ u.cell? ⟨gw, m, none⟩ = some (.slice (some ⟨g, 0, none⟩) 313 cp) ∧ u.cell? ⟨b7, 0, none⟩ = some (.int .i64 8) ∧ u.cell? ⟨b7, 1, none⟩ = some (.int .i64 4) ∧ u.cell? ⟨b7, 2, none⟩ = some (.int .i64 1))) (by kernel_rfl) (HS9.out) (fun hHeld => ?_)
      refine wpAnyH_take (i := 0) (oi := { dst := some 201, op := Op.move (Operand.tmp 11), type := 25, pos := "outright.go:170", after := #[], guard := none }) (v := ?v0rts) rfl (by kernel_rfl) (by kernel_rfl) (by kernel_rfl) (fun _ _ _ h => hQ _ _ _ _ _ h) (Or.inl ⟨by rfl, ?y0rts⟩) (by assumption) ?r0rts
      case y0rts => (intro x hx; (try dsimp only at hx); go_simp; try with_reducible rfl)
      try simp only [Act.put, List.setIfInBounds_toArray, List.set_cons_zero, List.set_cons_succ]
      refine wpAnyH_take (i := 1) (oi := { dst := some 202, op := Op.move (Operand.tmp 21), type := 3, pos := "outright.go:170", after := #[], guard := none }) (v := ?v1rts) rfl (by kernel_rfl) (by kernel_rfl) (by kernel_rfl) (fun _ _ _ h => hQ _ _ _ _ _ h) (Or.inl ⟨by rfl, ?y1rts⟩) (by assumption) ?r1rts
      case y1rts => (intro x hx; (try dsimp only at hx); go_simp; try with_reducible rfl)
      try simp only [Act.put, List.setIfInBounds_toArray, List.set_cons_zero, List.set_cons_succ]
      refine wpAnyH_take (i := 2) (oi := { dst := some 203, op := Op.indexAddr 25 (Operand.tmp 201) (Operand.tmp 202), type := 0, pos := "outright.go:170", after := #[{ on := 0, ground := Ground.data }, { on := 1, ground := Ground.data }], guard := none }) (v := ?v2rts) rfl (by kernel_rfl) (by kernel_rfl) (by kernel_rfl) (fun _ _ _ h => hQ _ _ _ _ _ h) (Or.inl ⟨by rfl, ?y2rts⟩) (by assumption) ?r2rts
      case y2rts => (intro x hx; (try dsimp only at hx); go_simp; try with_reducible rfl)
      try simp only [Act.put, List.setIfInBounds_toArray, List.set_cons_zero, List.set_cons_succ]
      refine wpAnyH_take (i := 3) (oi := { dst := some 204, op := Op.load 4 (Operand.tmp 203), type := 4, pos := "outright.go:170", after := #[{ on := 2, ground := Ground.data }], guard := none }) (v := ?v3rts) rfl (by kernel_rfl) (by kernel_rfl) (by kernel_rfl) (fun _ _ _ h => hQ _ _ _ _ _ h) (Or.inl ⟨by rfl, ?y3rts⟩) (by assumption) ?r3rts
      case y3rts => (intro x hx; (try dsimp only at hx); go_simp; try with_reducible rfl)
      try simp only [Act.put, List.setIfInBounds_toArray, List.set_cons_zero, List.set_cons_succ]
      refine wpAnyH_take (i := 4) (oi := { dst := some 205, op := Op.move (Operand.tmp 204), type := 4, pos := "outright.go:170", after := #[{ on := 3, ground := Ground.data }], guard := none }) (v := ?v4rts) rfl (by kernel_rfl) (by kernel_rfl) (by kernel_rfl) (fun _ _ _ h => hQ _ _ _ _ _ h) (Or.inl ⟨by rfl, ?y4rts⟩) (by assumption) ?r4rts
      case y4rts => (intro x hx; (try dsimp only at hx); go_simp; try with_reducible rfl)
      try simp only [Act.put, List.setIfInBounds_toArray, List.set_cons_zero, List.set_cons_succ]
      refine wpAnyH_take (i := 5) (oi := { dst := some 206, op := Op.move (Operand.tmp 22), type := 24, pos := "outright.go:170", after := #[{ on := 4, ground := Ground.guard }], guard := some (4, true) }) (v := ?v5rts) rfl (by kernel_rfl) (by kernel_rfl) (by kernel_rfl) (fun _ _ _ h => hQ _ _ _ _ _ h) (Or.inl ⟨by rfl, ?y5rts⟩) (by assumption) ?r5rts
      case y5rts => (intro x hx; (try dsimp only at hx); go_simp; try with_reducible rfl)
      try simp only [Act.put, List.setIfInBounds_toArray, List.set_cons_zero, List.set_cons_succ]
      refine wpAnyH_ready (rs := [6]) (by kernel_rfl) (by simp) ?_
      refine AllReadyH.cons (o := { dst := some 207, op := Op.call { callee := Callee.value (Operand.func 29), args := #[Operand.tmp 206], argTypes := #[24] }, type := 3, pos := "outright.go:170", after := #[{ on := 5, ground := Ground.data }, { on := 4, ground := Ground.chain }, { on := 4, ground := Ground.guard }], guard := some (4, true) }) rfl (fun K hK => ?_) AllReadyH.nil
      go_simp
      go_at_call 29
      refine (rzeros_any _ 313 _ R _ (by omega) (Reads.below HRD.out (drew_below u20))).mono ?_
      rintro e u21 ⟨rfl, hu21⟩
      subst hu21
      rw [HZ0.out]
      have hSnew := hHeld
      go_wp2_with fail
      refine hK.out _ _ hSnew (fun hHeld6 => ?_)
      clear hK K hSnew
      clear hHeld
      have hHeld := hHeld6
      clear hHeld6
      try simp only [Act.put, List.setIfInBounds_toArray, List.set_cons_zero, List.set_cons_succ]
      refine wpAnyH_take (i := 7) (oi := { dst := some 208, op := Op.binOp BinOp.neq 3 (Operand.tmp 207) (Operand.const (Value.int IntKind.i64 0)) 3, type := 4, pos := "outright.go:170", after := #[{ on := 6, ground := Ground.data }, { on := 4, ground := Ground.guard }], guard := some (4, true) }) (v := ?v7rts) rfl (by kernel_rfl) (by kernel_rfl) (by kernel_rfl) (fun _ _ _ h => hQ _ _ _ _ _ h) (Or.inl ⟨by rfl, ?y7rts⟩) (by assumption) ?r7rts
      case y7rts => (intro x hx; (try dsimp only at hx); go_simp; try with_reducible rfl)
      try simp only [Act.put, List.setIfInBounds_toArray, List.set_cons_zero, List.set_cons_succ]
      refine wpAnyH_take (i := 8) (oi := { dst := some 209, op := Op.pick (Operand.tmp 205) (Operand.tmp 208) (Operand.const (Value.bool false)), type := 4, pos := "outright.go:170", after := #[{ on := 4, ground := Ground.data }, { on := 7, ground := Ground.data }], guard := none }) (v := ?v8rts) rfl (by kernel_rfl) (by kernel_rfl) (by kernel_rfl) (fun _ _ _ h => hQ _ _ _ _ _ h) (Or.inl ⟨by rfl, ?y8rts⟩) (by assumption) ?r8rts
      case y8rts => (intro x hx; (try dsimp only at hx); go_simp; try with_reducible rfl)
      try simp only [Act.put, List.setIfInBounds_toArray, List.set_cons_zero, List.set_cons_succ]
      refine wpAnyH_take (i := 9) (oi := { dst := some 210, op := Op.move (Operand.tmp 209), type := 4, pos := "outright.go:170", after := #[{ on := 8, ground := Ground.data }, { on := 6, ground := Ground.chain }], guard := none }) (v := ?v9rts) rfl (by kernel_rfl) (by kernel_rfl) (by kernel_rfl) (fun _ _ _ h => hQ _ _ _ _ _ h) (Or.inl ⟨by rfl, ?y9rts⟩) (by assumption) ?r9rts
      case y9rts => (intro x hx; (try dsimp only at hx); go_simp; try with_reducible rfl)
      try simp only [Act.put, List.setIfInBounds_toArray, List.set_cons_zero, List.set_cons_succ]
      refine wpAnyH_take (i := 10) (oi := { dst := some 211, op := Op.load 23 (Operand.tmp 7), type := 23, pos := "outright.go:170", after := #[{ on := 9, ground := Ground.guard }], guard := some (9, false) }) (v := ?v10rts) rfl (by kernel_rfl) (by kernel_rfl) (by kernel_rfl) (fun _ _ _ h => hQ _ _ _ _ _ h) (Or.inl ⟨by rfl, ?y10rts⟩) (by assumption) ?r10rts
      case y10rts => (intro x hx; (try dsimp only at hx); go_simp; try with_reducible rfl)
      try simp only [Act.put, List.setIfInBounds_toArray, List.set_cons_zero, List.set_cons_succ]
      refine wpAnyH_take (i := 11) (oi := { dst := some 212, op := Op.move (Operand.tmp 22), type := 24, pos := "outright.go:170", after := #[{ on := 9, ground := Ground.guard }], guard := some (9, false) }) (v := ?v11rts) rfl (by kernel_rfl) (by kernel_rfl) (by kernel_rfl) (fun _ _ _ h => hQ _ _ _ _ _ h) (Or.inl ⟨by rfl, ?y11rts⟩) (by assumption) ?r11rts
      case y11rts => (intro x hx; (try dsimp only at hx); go_simp; try with_reducible rfl)
      try simp only [Act.put, List.setIfInBounds_toArray, List.set_cons_zero, List.set_cons_succ]
      refine wpAnyH_take (i := 12) (oi := { dst := some 213, op := Op.move (Operand.tmp 10), type := 61, pos := "outright.go:170", after := #[{ on := 9, ground := Ground.guard }], guard := some (9, false) }) (v := ?v12rts) rfl (by kernel_rfl) (by kernel_rfl) (by kernel_rfl) (fun _ _ _ h => hQ _ _ _ _ _ h) (Or.inl ⟨by rfl, ?y12rts⟩) (by assumption) ?r12rts
      case y12rts => (intro x hx; (try dsimp only at hx); go_simp; try with_reducible rfl)
      try simp only [Act.put, List.setIfInBounds_toArray, List.set_cons_zero, List.set_cons_succ]
      refine wpAnyH_take (i := 13) (oi := { dst := some 214, op := Op.move (Operand.tmp 21), type := 3, pos := "outright.go:170", after := #[{ on := 9, ground := Ground.guard }], guard := some (9, false) }) (v := ?v13rts) rfl (by kernel_rfl) (by kernel_rfl) (by kernel_rfl) (fun _ _ _ h => hQ _ _ _ _ _ h) (Or.inl ⟨by rfl, ?y13rts⟩) (by assumption) ?r13rts
      case y13rts => (intro x hx; (try dsimp only at hx); go_simp; try with_reducible rfl)
      try simp only [Act.put, List.setIfInBounds_toArray, List.set_cons_zero, List.set_cons_succ]
      refine wpAnyH_take (i := 14) (oi := { dst := some 215, op := Op.indexAddr 61 (Operand.tmp 213) (Operand.tmp 214), type := 0, pos := "outright.go:170", after := #[{ on := 12, ground := Ground.data }, { on := 13, ground := Ground.data }, { on := 9, ground := Ground.guard }], guard := some (9, false) }) (v := ?v14rts) rfl (by kernel_rfl) (by kernel_rfl) (by kernel_rfl) (fun _ _ _ h => hQ _ _ _ _ _ h) (Or.inl ⟨by rfl, ?y14rts⟩) (by assumption) ?r14rts
      case y14rts => (intro x hx; (try dsimp only at hx); go_simp; try with_reducible rfl)
      try simp only [Act.put, List.setIfInBounds_toArray, List.set_cons_zero, List.set_cons_succ]
      refine wpAnyH_take (i := 15) (oi := { dst := some 216, op := Op.load 24 (Operand.tmp 215), type := 24, pos := "outright.go:170", after := #[{ on := 14, ground := Ground.data }, { on := 9, ground := Ground.guard }], guard := some (9, false) }) (v := ?v15rts) rfl (by kernel_rfl) (by kernel_rfl) (by kernel_rfl) (fun _ _ _ h => hQ _ _ _ _ _ h) (Or.inl ⟨by rfl, ?y15rts⟩) (by assumption) ?r15rts
      case y15rts => (intro x hx; (try dsimp only at hx); go_simp; try with_reducible rfl)
      try simp only [Act.put, List.setIfInBounds_toArray, List.set_cons_zero, List.set_cons_succ]
      refine wpAnyH_ready (rs := [16]) (by kernel_rfl) (by simp) ?_
      refine AllReadyH.cons (o := { dst := some 217, op := Op.call { callee := Callee.value (Operand.func 30), args := #[Operand.tmp 211, Operand.tmp 212, Operand.tmp 216], argTypes := #[23, 24, 24] }, type := 4, pos := "outright.go:170", after := #[{ on := 10, ground := Ground.data }, { on := 11, ground := Ground.data }, { on := 15, ground := Ground.data }, { on := 9, ground := Ground.chain }, { on := 9, ground := Ground.guard }], guard := some (9, false) }) rfl (fun K hK => ?_) AllReadyH.nil
      go_simp
      go_at_call 30
      refine (near_any _ 8 4 1 (by omega) (some ⟨gb, 0, none⟩) _ g cp R Z (Reads.below HRD.out (drew_below u20)) (Reads.below HRZ.out (drew_below u20)) (fun u _ => HWN.out.2.2.2 u _)).mono ?_
      rintro e u22 ⟨rfl, b22⟩
      have HJ9 := hide (HJ2.out.below (below_trans (drew_below u20) b22))
      have hSnew : (fun u => u.cell? ⟨gk, m, none⟩ = some (.bool true) ∧ u.cell? ⟨gw, m, none⟩ = some (.slice (some ⟨g, 0, none⟩) 313 cp) ∧ u.cell? ⟨b7, 0, none⟩ = some (.int .i64 8) ∧ u.cell? ⟨b7, 1, none⟩ = some (.int .i64 4) ∧ u.cell? ⟨b7, 2, none⟩ = some (.int .i64 1)) u22 := ⟨(b22.cell (block_lt_of_cell hHeld.1)).trans hHeld.1, (b22.cell (block_lt_of_cell hHeld.2.1)).trans hHeld.2.1, (b22.cell (block_lt_of_cell hHeld.2.2.1)).trans hHeld.2.2.1, (b22.cell (block_lt_of_cell hHeld.2.2.2.1)).trans hHeld.2.2.2.1, (b22.cell (block_lt_of_cell hHeld.2.2.2.2)).trans hHeld.2.2.2.2⟩
      clear b22
      go_wp2_with fail
      refine hK.out _ _ hSnew (fun hHeld16 => ?_)
      clear hK K hSnew
      clear hHeld
      have hHeld := hHeld16
      clear hHeld16
      try simp only [Act.put, List.setIfInBounds_toArray, List.set_cons_zero, List.set_cons_succ]
      refine wpAnyH_take (i := 17) (oi := { dst := some 218, op := Op.unOp UnOp.not 4 (Operand.tmp 217), type := 4, pos := "outright.go:170", after := #[{ on := 16, ground := Ground.data }, { on := 9, ground := Ground.guard }], guard := some (9, false) }) (v := ?v17rts) rfl (by kernel_rfl) (by kernel_rfl) (by kernel_rfl) (fun _ _ _ h => hQ _ _ _ _ _ h) (Or.inl ⟨by rfl, ?y17rts⟩) (by assumption) ?r17rts
      case y17rts => (intro x hx; (try dsimp only at hx); go_simp; try with_reducible rfl)
      try simp only [Act.put, List.setIfInBounds_toArray, List.set_cons_zero, List.set_cons_succ]
      refine wpAnyH_take (i := 18) (oi := { dst := some 219, op := Op.pick (Operand.tmp 210) (Operand.const (Value.bool true)) (Operand.tmp 218), type := 4, pos := "outright.go:170", after := #[{ on := 9, ground := Ground.data }, { on := 17, ground := Ground.data }], guard := none }) (v := ?v18rts) rfl (by kernel_rfl) (by kernel_rfl) (by kernel_rfl) (fun _ _ _ h => hQ _ _ _ _ _ h) (Or.inl ⟨by rfl, ?y18rts⟩) (by assumption) ?r18rts
      case y18rts => (intro x hx; (try dsimp only at hx); go_simp; try with_reducible rfl)
      try simp only [Act.put, List.setIfInBounds_toArray, List.set_cons_zero, List.set_cons_succ]
      refine wpAnyH_done (by kernel_rfl) ?_ _
      clear hHeld
      go_wp2
      exact HK.out _ _ _ _ _ _ _ _ _ _ _ _ _ _ _ _ _ _ _ _ _ _ _ _ _ _ _ _ _ _ _ _ _ _ _ _ _ _ _ (by go_num) HJ9.out
  | false =>
    rcases hok9 with ⟨hn, hv⟩ | ⟨g, cp, Z, hz, hv, ho, hf⟩
    · rw [hv] at HS9
      clear hn hv
      refine wp_region_held_drew (S := (fun u => u.cell? ⟨gk, m, none⟩ = some (.bool false) ∧ u.cell? ⟨gw, m, none⟩ = some (.slice none 0 0) ∧ u.cell? ⟨b7, 0, none⟩ = some (.int .i64 8) ∧ u.cell? ⟨b7, 1, none⟩ = some (.int .i64 4) ∧ u.cell? ⟨b7, 2, none⟩ = some (.int .i64 1))) (by kernel_rfl) (HS9.out) (fun hHeld => ?_)
      refine wpAnyH_take (i := 0) (oi := { dst := some 201, op := Op.move (Operand.tmp 11), type := 25, pos := "outright.go:170", after := #[], guard := none }) (v := ?v0rfn) rfl (by kernel_rfl) (by kernel_rfl) (by kernel_rfl) (fun _ _ _ h => hQ _ _ _ _ _ h) (Or.inl ⟨by rfl, ?y0rfn⟩) (by assumption) ?r0rfn
      case y0rfn => (intro x hx; (try dsimp only at hx); go_simp; try with_reducible rfl)
      try simp only [Act.put, List.setIfInBounds_toArray, List.set_cons_zero, List.set_cons_succ]
      refine wpAnyH_take (i := 1) (oi := { dst := some 202, op := Op.move (Operand.tmp 21), type := 3, pos := "outright.go:170", after := #[], guard := none }) (v := ?v1rfn) rfl (by kernel_rfl) (by kernel_rfl) (by kernel_rfl) (fun _ _ _ h => hQ _ _ _ _ _ h) (Or.inl ⟨by rfl, ?y1rfn⟩) (by assumption) ?r1rfn
      case y1rfn => (intro x hx; (try dsimp only at hx); go_simp; try with_reducible rfl)
      try simp only [Act.put, List.setIfInBounds_toArray, List.set_cons_zero, List.set_cons_succ]
      refine wpAnyH_take (i := 2) (oi := { dst := some 203, op := Op.indexAddr 25 (Operand.tmp 201) (Operand.tmp 202), type := 0, pos := "outright.go:170", after := #[{ on := 0, ground := Ground.data }, { on := 1, ground := Ground.data }], guard := none }) (v := ?v2rfn) rfl (by kernel_rfl) (by kernel_rfl) (by kernel_rfl) (fun _ _ _ h => hQ _ _ _ _ _ h) (Or.inl ⟨by rfl, ?y2rfn⟩) (by assumption) ?r2rfn
      case y2rfn => (intro x hx; (try dsimp only at hx); go_simp; try with_reducible rfl)
      try simp only [Act.put, List.setIfInBounds_toArray, List.set_cons_zero, List.set_cons_succ]
      refine wpAnyH_take (i := 3) (oi := { dst := some 204, op := Op.load 4 (Operand.tmp 203), type := 4, pos := "outright.go:170", after := #[{ on := 2, ground := Ground.data }], guard := none }) (v := ?v3rfn) rfl (by kernel_rfl) (by kernel_rfl) (by kernel_rfl) (fun _ _ _ h => hQ _ _ _ _ _ h) (Or.inl ⟨by rfl, ?y3rfn⟩) (by assumption) ?r3rfn
      case y3rfn => (intro x hx; (try dsimp only at hx); go_simp; try with_reducible rfl)
      try simp only [Act.put, List.setIfInBounds_toArray, List.set_cons_zero, List.set_cons_succ]
      refine wpAnyH_take (i := 4) (oi := { dst := some 205, op := Op.move (Operand.tmp 204), type := 4, pos := "outright.go:170", after := #[{ on := 3, ground := Ground.data }], guard := none }) (v := ?v4rfn) rfl (by kernel_rfl) (by kernel_rfl) (by kernel_rfl) (fun _ _ _ h => hQ _ _ _ _ _ h) (Or.inl ⟨by rfl, ?y4rfn⟩) (by assumption) ?r4rfn
      case y4rfn => (intro x hx; (try dsimp only at hx); go_simp; try with_reducible rfl)
      try simp only [Act.put, List.setIfInBounds_toArray, List.set_cons_zero, List.set_cons_succ]
      refine wpAnyH_take (i := 5) (oi := { dst := some 206, op := Op.move (Operand.tmp 22), type := 24, pos := "outright.go:170", after := #[{ on := 4, ground := Ground.guard }], guard := some (4, true) }) (v := undef) rfl (by kernel_rfl) (by kernel_rfl) (by kernel_rfl) (fun _ _ _ h => hQ _ _ _ _ _ h) (Or.inr ⟨by rfl, rfl⟩) (by assumption) ?_
      try simp only [Act.put, List.setIfInBounds_toArray, List.set_cons_zero, List.set_cons_succ]
      refine wpAnyH_take (i := 6) (oi := { dst := some 207, op := Op.call { callee := Callee.value (Operand.func 29), args := #[Operand.tmp 206], argTypes := #[24] }, type := 3, pos := "outright.go:170", after := #[{ on := 5, ground := Ground.data }, { on := 4, ground := Ground.chain }, { on := 4, ground := Ground.guard }], guard := some (4, true) }) (v := undef) rfl (by kernel_rfl) (by kernel_rfl) (by kernel_rfl) (fun _ _ _ h => hQ _ _ _ _ _ h) (Or.inr ⟨by rfl, rfl⟩) (by assumption) ?_
      try simp only [Act.put, List.setIfInBounds_toArray, List.set_cons_zero, List.set_cons_succ]
      refine wpAnyH_take (i := 7) (oi := { dst := some 208, op := Op.binOp BinOp.neq 3 (Operand.tmp 207) (Operand.const (Value.int IntKind.i64 0)) 3, type := 4, pos := "outright.go:170", after := #[{ on := 6, ground := Ground.data }, { on := 4, ground := Ground.guard }], guard := some (4, true) }) (v := undef) rfl (by kernel_rfl) (by kernel_rfl) (by kernel_rfl) (fun _ _ _ h => hQ _ _ _ _ _ h) (Or.inr ⟨by rfl, rfl⟩) (by assumption) ?_
      try simp only [Act.put, List.setIfInBounds_toArray, List.set_cons_zero, List.set_cons_succ]
      refine wpAnyH_take (i := 8) (oi := { dst := some 209, op := Op.pick (Operand.tmp 205) (Operand.tmp 208) (Operand.const (Value.bool false)), type := 4, pos := "outright.go:170", after := #[{ on := 4, ground := Ground.data }, { on := 7, ground := Ground.data }], guard := none }) (v := ?v8rfn) rfl (by kernel_rfl) (by kernel_rfl) (by kernel_rfl) (fun _ _ _ h => hQ _ _ _ _ _ h) (Or.inl ⟨by rfl, ?y8rfn⟩) (by assumption) ?r8rfn
      case y8rfn => (intro x hx; (try dsimp only at hx); go_simp; try with_reducible rfl)
      try simp only [Act.put, List.setIfInBounds_toArray, List.set_cons_zero, List.set_cons_succ]
      refine wpAnyH_take (i := 9) (oi := { dst := some 210, op := Op.move (Operand.tmp 209), type := 4, pos := "outright.go:170", after := #[{ on := 8, ground := Ground.data }, { on := 6, ground := Ground.chain }], guard := none }) (v := ?v9rfn) rfl (by kernel_rfl) (by kernel_rfl) (by kernel_rfl) (fun _ _ _ h => hQ _ _ _ _ _ h) (Or.inl ⟨by rfl, ?y9rfn⟩) (by assumption) ?r9rfn
      case y9rfn => (intro x hx; (try dsimp only at hx); go_simp; try with_reducible rfl)
      try simp only [Act.put, List.setIfInBounds_toArray, List.set_cons_zero, List.set_cons_succ]
      refine wpAnyH_take (i := 10) (oi := { dst := some 211, op := Op.load 23 (Operand.tmp 7), type := 23, pos := "outright.go:170", after := #[{ on := 9, ground := Ground.guard }], guard := some (9, false) }) (v := ?v10rfn) rfl (by kernel_rfl) (by kernel_rfl) (by kernel_rfl) (fun _ _ _ h => hQ _ _ _ _ _ h) (Or.inl ⟨by rfl, ?y10rfn⟩) (by assumption) ?r10rfn
      case y10rfn => (intro x hx; (try dsimp only at hx); go_simp; try with_reducible rfl)
      try simp only [Act.put, List.setIfInBounds_toArray, List.set_cons_zero, List.set_cons_succ]
      refine wpAnyH_take (i := 11) (oi := { dst := some 212, op := Op.move (Operand.tmp 22), type := 24, pos := "outright.go:170", after := #[{ on := 9, ground := Ground.guard }], guard := some (9, false) }) (v := ?v11rfn) rfl (by kernel_rfl) (by kernel_rfl) (by kernel_rfl) (fun _ _ _ h => hQ _ _ _ _ _ h) (Or.inl ⟨by rfl, ?y11rfn⟩) (by assumption) ?r11rfn
      case y11rfn => (intro x hx; (try dsimp only at hx); go_simp; try with_reducible rfl)
      try simp only [Act.put, List.setIfInBounds_toArray, List.set_cons_zero, List.set_cons_succ]
      refine wpAnyH_take (i := 12) (oi := { dst := some 213, op := Op.move (Operand.tmp 10), type := 61, pos := "outright.go:170", after := #[{ on := 9, ground := Ground.guard }], guard := some (9, false) }) (v := ?v12rfn) rfl (by kernel_rfl) (by kernel_rfl) (by kernel_rfl) (fun _ _ _ h => hQ _ _ _ _ _ h) (Or.inl ⟨by rfl, ?y12rfn⟩) (by assumption) ?r12rfn
      case y12rfn => (intro x hx; (try dsimp only at hx); go_simp; try with_reducible rfl)
      try simp only [Act.put, List.setIfInBounds_toArray, List.set_cons_zero, List.set_cons_succ]
      refine wpAnyH_take (i := 13) (oi := { dst := some 214, op := Op.move (Operand.tmp 21), type := 3, pos := "outright.go:170", after := #[{ on := 9, ground := Ground.guard }], guard := some (9, false) }) (v := ?v13rfn) rfl (by kernel_rfl) (by kernel_rfl) (by kernel_rfl) (fun _ _ _ h => hQ _ _ _ _ _ h) (Or.inl ⟨by rfl, ?y13rfn⟩) (by assumption) ?r13rfn
      case y13rfn => (intro x hx; (try dsimp only at hx); go_simp; try with_reducible rfl)
      try simp only [Act.put, List.setIfInBounds_toArray, List.set_cons_zero, List.set_cons_succ]
      refine wpAnyH_take (i := 14) (oi := { dst := some 215, op := Op.indexAddr 61 (Operand.tmp 213) (Operand.tmp 214), type := 0, pos := "outright.go:170", after := #[{ on := 12, ground := Ground.data }, { on := 13, ground := Ground.data }, { on := 9, ground := Ground.guard }], guard := some (9, false) }) (v := ?v14rfn) rfl (by kernel_rfl) (by kernel_rfl) (by kernel_rfl) (fun _ _ _ h => hQ _ _ _ _ _ h) (Or.inl ⟨by rfl, ?y14rfn⟩) (by assumption) ?r14rfn
      case y14rfn => (intro x hx; (try dsimp only at hx); go_simp; try with_reducible rfl)
      try simp only [Act.put, List.setIfInBounds_toArray, List.set_cons_zero, List.set_cons_succ]
      refine wpAnyH_take (i := 15) (oi := { dst := some 216, op := Op.load 24 (Operand.tmp 215), type := 24, pos := "outright.go:170", after := #[{ on := 14, ground := Ground.data }, { on := 9, ground := Ground.guard }], guard := some (9, false) }) (v := ?v15rfn) rfl (by kernel_rfl) (by kernel_rfl) (by kernel_rfl) (fun _ _ _ h => hQ _ _ _ _ _ h) (Or.inl ⟨by rfl, ?y15rfn⟩) (by assumption) ?r15rfn
      case y15rfn => (intro x hx; (try dsimp only at hx); go_simp; try with_reducible rfl)
      try simp only [Act.put, List.setIfInBounds_toArray, List.set_cons_zero, List.set_cons_succ]
      refine wpAnyH_ready (rs := [16]) (by kernel_rfl) (by simp) ?_
      refine AllReadyH.cons (o := { dst := some 217, op := Op.call { callee := Callee.value (Operand.func 30), args := #[Operand.tmp 211, Operand.tmp 212, Operand.tmp 216], argTypes := #[23, 24, 24] }, type := 4, pos := "outright.go:170", after := #[{ on := 10, ground := Ground.data }, { on := 11, ground := Ground.data }, { on := 15, ground := Ground.data }, { on := 9, ground := Ground.chain }, { on := 9, ground := Ground.guard }], guard := some (9, false) }) rfl (fun K hK => ?_) AllReadyH.nil
      go_simp
      go_at_call 30
      refine (near_nil _ 8 4 1 (some ⟨gb, 0, none⟩) 313 _).mono ?_
      rintro e u22 ⟨rfl, b22⟩
      have HJ9 := hide (HJ2.out.below (below_trans (drew_below u20) b22))
      have hSnew : (fun u => u.cell? ⟨gk, m, none⟩ = some (.bool false) ∧ u.cell? ⟨gw, m, none⟩ = some (.slice none 0 0) ∧ u.cell? ⟨b7, 0, none⟩ = some (.int .i64 8) ∧ u.cell? ⟨b7, 1, none⟩ = some (.int .i64 4) ∧ u.cell? ⟨b7, 2, none⟩ = some (.int .i64 1)) u22 := ⟨(b22.cell (block_lt_of_cell hHeld.1)).trans hHeld.1, (b22.cell (block_lt_of_cell hHeld.2.1)).trans hHeld.2.1, (b22.cell (block_lt_of_cell hHeld.2.2.1)).trans hHeld.2.2.1, (b22.cell (block_lt_of_cell hHeld.2.2.2.1)).trans hHeld.2.2.2.1, (b22.cell (block_lt_of_cell hHeld.2.2.2.2)).trans hHeld.2.2.2.2⟩
      clear b22
      go_wp2_with fail
      refine hK.out _ _ hSnew (fun hHeld16 => ?_)
      clear hK K hSnew
      clear hHeld
      have hHeld := hHeld16
      clear hHeld16
      try simp only [Act.put, List.setIfInBounds_toArray, List.set_cons_zero, List.set_cons_succ]
      refine wpAnyH_take (i := 17) (oi := { dst := some 218, op := Op.unOp UnOp.not 4 (Operand.tmp 217), type := 4, pos := "outright.go:170", after := #[{ on := 16, ground := Ground.data }, { on := 9, ground := Ground.guard }], guard := some (9, false) }) (v := ?v17rfn) rfl (by kernel_rfl) (by kernel_rfl) (by kernel_rfl) (fun _ _ _ h => hQ _ _ _ _ _ h) (Or.inl ⟨by rfl, ?y17rfn⟩) (by assumption) ?r17rfn
      case y17rfn => (intro x hx; (try dsimp only at hx); go_simp; try with_reducible rfl)
      try simp only [Act.put, List.setIfInBounds_toArray, List.set_cons_zero, List.set_cons_succ]
      refine wpAnyH_take (i := 18) (oi := { dst := some 219, op := Op.pick (Operand.tmp 210) (Operand.const (Value.bool true)) (Operand.tmp 218), type := 4, pos := "outright.go:170", after := #[{ on := 9, ground := Ground.data }, { on := 17, ground := Ground.data }], guard := none }) (v := ?v18rfn) rfl (by kernel_rfl) (by kernel_rfl) (by kernel_rfl) (fun _ _ _ h => hQ _ _ _ _ _ h) (Or.inl ⟨by rfl, ?y18rfn⟩) (by assumption) ?r18rfn
      case y18rfn => (intro x hx; (try dsimp only at hx); go_simp; try with_reducible rfl)
      try simp only [Act.put, List.setIfInBounds_toArray, List.set_cons_zero, List.set_cons_succ]
      refine wpAnyH_done (by kernel_rfl) ?_ _
      clear hHeld
      go_wp2
      exact HK.out _ _ _ _ _ _ _ _ _ _ _ _ _ _ _ _ _ _ _ _ _ _ _ _ _ _ _ _ _ _ _ _ _ _ _ _ _ _ _ (by go_num) HJ9.out
    · rw [hv] at HS9
      have hwn := read_want HV.out hok (i := m / 4) (k := m % 4) (z := Z) (by rw [hB]; omega) (by rw [hP]; omega) (by rw [← HZ.out, hz])
      rw [HRE.out, HS1.out] at hwn
      have HWN := hide hwn
      clear hwn
      have HRZ := hide (own_reads' ho HWN.out.2.2.1)
      clear hv hz ho hf
      refine wp_region_held_drew (S := (fun u => u.cell? ⟨gk, m, none⟩ = some (.bool false) ∧ u.cell? ⟨gw, m, none⟩ = some (.slice (some ⟨g, 0, none⟩) 313 cp) ∧ u.cell? ⟨b7, 0, none⟩ = some (.int .i64 8) ∧ u.cell? ⟨b7, 1, none⟩ = some (.int .i64 4) ∧ u.cell? ⟨b7, 2, none⟩ = some (.int .i64 1))) (by kernel_rfl) (HS9.out) (fun hHeld => ?_)
      refine wpAnyH_take (i := 0) (oi := { dst := some 201, op := Op.move (Operand.tmp 11), type := 25, pos := "outright.go:170", after := #[], guard := none }) (v := ?v0rfs) rfl (by kernel_rfl) (by kernel_rfl) (by kernel_rfl) (fun _ _ _ h => hQ _ _ _ _ _ h) (Or.inl ⟨by rfl, ?y0rfs⟩) (by assumption) ?r0rfs
      case y0rfs => (intro x hx; (try dsimp only at hx); go_simp; try with_reducible rfl)
      try simp only [Act.put, List.setIfInBounds_toArray, List.set_cons_zero, List.set_cons_succ]
      refine wpAnyH_take (i := 1) (oi := { dst := some 202, op := Op.move (Operand.tmp 21), type := 3, pos := "outright.go:170", after := #[], guard := none }) (v := ?v1rfs) rfl (by kernel_rfl) (by kernel_rfl) (by kernel_rfl) (fun _ _ _ h => hQ _ _ _ _ _ h) (Or.inl ⟨by rfl, ?y1rfs⟩) (by assumption) ?r1rfs
      case y1rfs => (intro x hx; (try dsimp only at hx); go_simp; try with_reducible rfl)
      try simp only [Act.put, List.setIfInBounds_toArray, List.set_cons_zero, List.set_cons_succ]
      refine wpAnyH_take (i := 2) (oi := { dst := some 203, op := Op.indexAddr 25 (Operand.tmp 201) (Operand.tmp 202), type := 0, pos := "outright.go:170", after := #[{ on := 0, ground := Ground.data }, { on := 1, ground := Ground.data }], guard := none }) (v := ?v2rfs) rfl (by kernel_rfl) (by kernel_rfl) (by kernel_rfl) (fun _ _ _ h => hQ _ _ _ _ _ h) (Or.inl ⟨by rfl, ?y2rfs⟩) (by assumption) ?r2rfs
      case y2rfs => (intro x hx; (try dsimp only at hx); go_simp; try with_reducible rfl)
      try simp only [Act.put, List.setIfInBounds_toArray, List.set_cons_zero, List.set_cons_succ]
      refine wpAnyH_take (i := 3) (oi := { dst := some 204, op := Op.load 4 (Operand.tmp 203), type := 4, pos := "outright.go:170", after := #[{ on := 2, ground := Ground.data }], guard := none }) (v := ?v3rfs) rfl (by kernel_rfl) (by kernel_rfl) (by kernel_rfl) (fun _ _ _ h => hQ _ _ _ _ _ h) (Or.inl ⟨by rfl, ?y3rfs⟩) (by assumption) ?r3rfs
      case y3rfs => (intro x hx; (try dsimp only at hx); go_simp; try with_reducible rfl)
      try simp only [Act.put, List.setIfInBounds_toArray, List.set_cons_zero, List.set_cons_succ]
      refine wpAnyH_take (i := 4) (oi := { dst := some 205, op := Op.move (Operand.tmp 204), type := 4, pos := "outright.go:170", after := #[{ on := 3, ground := Ground.data }], guard := none }) (v := ?v4rfs) rfl (by kernel_rfl) (by kernel_rfl) (by kernel_rfl) (fun _ _ _ h => hQ _ _ _ _ _ h) (Or.inl ⟨by rfl, ?y4rfs⟩) (by assumption) ?r4rfs
      case y4rfs => (intro x hx; (try dsimp only at hx); go_simp; try with_reducible rfl)
      try simp only [Act.put, List.setIfInBounds_toArray, List.set_cons_zero, List.set_cons_succ]
      refine wpAnyH_take (i := 5) (oi := { dst := some 206, op := Op.move (Operand.tmp 22), type := 24, pos := "outright.go:170", after := #[{ on := 4, ground := Ground.guard }], guard := some (4, true) }) (v := undef) rfl (by kernel_rfl) (by kernel_rfl) (by kernel_rfl) (fun _ _ _ h => hQ _ _ _ _ _ h) (Or.inr ⟨by rfl, rfl⟩) (by assumption) ?_
      try simp only [Act.put, List.setIfInBounds_toArray, List.set_cons_zero, List.set_cons_succ]
      refine wpAnyH_take (i := 6) (oi := { dst := some 207, op := Op.call { callee := Callee.value (Operand.func 29), args := #[Operand.tmp 206], argTypes := #[24] }, type := 3, pos := "outright.go:170", after := #[{ on := 5, ground := Ground.data }, { on := 4, ground := Ground.chain }, { on := 4, ground := Ground.guard }], guard := some (4, true) }) (v := undef) rfl (by kernel_rfl) (by kernel_rfl) (by kernel_rfl) (fun _ _ _ h => hQ _ _ _ _ _ h) (Or.inr ⟨by rfl, rfl⟩) (by assumption) ?_
      try simp only [Act.put, List.setIfInBounds_toArray, List.set_cons_zero, List.set_cons_succ]
      refine wpAnyH_take (i := 7) (oi := { dst := some 208, op := Op.binOp BinOp.neq 3 (Operand.tmp 207) (Operand.const (Value.int IntKind.i64 0)) 3, type := 4, pos := "outright.go:170", after := #[{ on := 6, ground := Ground.data }, { on := 4, ground := Ground.guard }], guard := some (4, true) }) (v := undef) rfl (by kernel_rfl) (by kernel_rfl) (by kernel_rfl) (fun _ _ _ h => hQ _ _ _ _ _ h) (Or.inr ⟨by rfl, rfl⟩) (by assumption) ?_
      try simp only [Act.put, List.setIfInBounds_toArray, List.set_cons_zero, List.set_cons_succ]
      refine wpAnyH_take (i := 8) (oi := { dst := some 209, op := Op.pick (Operand.tmp 205) (Operand.tmp 208) (Operand.const (Value.bool false)), type := 4, pos := "outright.go:170", after := #[{ on := 4, ground := Ground.data }, { on := 7, ground := Ground.data }], guard := none }) (v := ?v8rfs) rfl (by kernel_rfl) (by kernel_rfl) (by kernel_rfl) (fun _ _ _ h => hQ _ _ _ _ _ h) (Or.inl ⟨by rfl, ?y8rfs⟩) (by assumption) ?r8rfs
      case y8rfs => (intro x hx; (try dsimp only at hx); go_simp; try with_reducible rfl)
      try simp only [Act.put, List.setIfInBounds_toArray, List.set_cons_zero, List.set_cons_succ]
      refine wpAnyH_take (i := 9) (oi := { dst := some 210, op := Op.move (Operand.tmp 209), type := 4, pos := "outright.go:170", after := #[{ on := 8, ground := Ground.data }, { on := 6, ground := Ground.chain }], guard := none }) (v := ?v9rfs) rfl (by kernel_rfl) (by kernel_rfl) (by kernel_rfl) (fun _ _ _ h => hQ _ _ _ _ _ h) (Or.inl ⟨by rfl, ?y9rfs⟩) (by assumption) ?r9rfs
      case y9rfs => (intro x hx; (try dsimp only at hx); go_simp; try with_reducible rfl)
      try simp only [Act.put, List.setIfInBounds_toArray, List.set_cons_zero, List.set_cons_succ]
      refine wpAnyH_take (i := 10) (oi := { dst := some 211, op := Op.load 23 (Operand.tmp 7), type := 23, pos := "outright.go:170", after := #[{ on := 9, ground := Ground.guard }], guard := some (9, false) }) (v := ?v10rfs) rfl (by kernel_rfl) (by kernel_rfl) (by kernel_rfl) (fun _ _ _ h => hQ _ _ _ _ _ h) (Or.inl ⟨by rfl, ?y10rfs⟩) (by assumption) ?r10rfs
      case y10rfs => (intro x hx; (try dsimp only at hx); go_simp; try with_reducible rfl)
      try simp only [Act.put, List.setIfInBounds_toArray, List.set_cons_zero, List.set_cons_succ]
      refine wpAnyH_take (i := 11) (oi := { dst := some 212, op := Op.move (Operand.tmp 22), type := 24, pos := "outright.go:170", after := #[{ on := 9, ground := Ground.guard }], guard := some (9, false) }) (v := ?v11rfs) rfl (by kernel_rfl) (by kernel_rfl) (by kernel_rfl) (fun _ _ _ h => hQ _ _ _ _ _ h) (Or.inl ⟨by rfl, ?y11rfs⟩) (by assumption) ?r11rfs
      case y11rfs => (intro x hx; (try dsimp only at hx); go_simp; try with_reducible rfl)
      try simp only [Act.put, List.setIfInBounds_toArray, List.set_cons_zero, List.set_cons_succ]
      refine wpAnyH_take (i := 12) (oi := { dst := some 213, op := Op.move (Operand.tmp 10), type := 61, pos := "outright.go:170", after := #[{ on := 9, ground := Ground.guard }], guard := some (9, false) }) (v := ?v12rfs) rfl (by kernel_rfl) (by kernel_rfl) (by kernel_rfl) (fun _ _ _ h => hQ _ _ _ _ _ h) (Or.inl ⟨by rfl, ?y12rfs⟩) (by assumption) ?r12rfs
      case y12rfs => (intro x hx; (try dsimp only at hx); go_simp; try with_reducible rfl)
      try simp only [Act.put, List.setIfInBounds_toArray, List.set_cons_zero, List.set_cons_succ]
      refine wpAnyH_take (i := 13) (oi := { dst := some 214, op := Op.move (Operand.tmp 21), type := 3, pos := "outright.go:170", after := #[{ on := 9, ground := Ground.guard }], guard := some (9, false) }) (v := ?v13rfs) rfl (by kernel_rfl) (by kernel_rfl) (by kernel_rfl) (fun _ _ _ h => hQ _ _ _ _ _ h) (Or.inl ⟨by rfl, ?y13rfs⟩) (by assumption) ?r13rfs
      case y13rfs => (intro x hx; (try dsimp only at hx); go_simp; try with_reducible rfl)
      try simp only [Act.put, List.setIfInBounds_toArray, List.set_cons_zero, List.set_cons_succ]
      refine wpAnyH_take (i := 14) (oi := { dst := some 215, op := Op.indexAddr 61 (Operand.tmp 213) (Operand.tmp 214), type := 0, pos := "outright.go:170", after := #[{ on := 12, ground := Ground.data }, { on := 13, ground := Ground.data }, { on := 9, ground := Ground.guard }], guard := some (9, false) }) (v := ?v14rfs) rfl (by kernel_rfl) (by kernel_rfl) (by kernel_rfl) (fun _ _ _ h => hQ _ _ _ _ _ h) (Or.inl ⟨by rfl, ?y14rfs⟩) (by assumption) ?r14rfs
      case y14rfs => (intro x hx; (try dsimp only at hx); go_simp; try with_reducible rfl)
      try simp only [Act.put, List.setIfInBounds_toArray, List.set_cons_zero, List.set_cons_succ]
      refine wpAnyH_take (i := 15) (oi := { dst := some 216, op := Op.load 24 (Operand.tmp 215), type := 24, pos := "outright.go:170", after := #[{ on := 14, ground := Ground.data }, { on := 9, ground := Ground.guard }], guard := some (9, false) }) (v := ?v15rfs) rfl (by kernel_rfl) (by kernel_rfl) (by kernel_rfl) (fun _ _ _ h => hQ _ _ _ _ _ h) (Or.inl ⟨by rfl, ?y15rfs⟩) (by assumption) ?r15rfs
      case y15rfs => (intro x hx; (try dsimp only at hx); go_simp; try with_reducible rfl)
      try simp only [Act.put, List.setIfInBounds_toArray, List.set_cons_zero, List.set_cons_succ]
      refine wpAnyH_ready (rs := [16]) (by kernel_rfl) (by simp) ?_
      refine AllReadyH.cons (o := { dst := some 217, op := Op.call { callee := Callee.value (Operand.func 30), args := #[Operand.tmp 211, Operand.tmp 212, Operand.tmp 216], argTypes := #[23, 24, 24] }, type := 4, pos := "outright.go:170", after := #[{ on := 10, ground := Ground.data }, { on := 11, ground := Ground.data }, { on := 15, ground := Ground.data }, { on := 9, ground := Ground.chain }, { on := 9, ground := Ground.guard }], guard := some (9, false) }) rfl (fun K hK => ?_) AllReadyH.nil
      go_simp
      go_at_call 30
      refine (near_any _ 8 4 1 (by omega) (some ⟨gb, 0, none⟩) _ g cp R Z (Reads.below HRD.out (drew_below u20)) (Reads.below HRZ.out (drew_below u20)) (fun u _ => HWN.out.2.2.2 u _)).mono ?_
      rintro e u22 ⟨rfl, b22⟩
      have HJ9 := hide (HJ2.out.below (below_trans (drew_below u20) b22))
      have hSnew : (fun u => u.cell? ⟨gk, m, none⟩ = some (.bool false) ∧ u.cell? ⟨gw, m, none⟩ = some (.slice (some ⟨g, 0, none⟩) 313 cp) ∧ u.cell? ⟨b7, 0, none⟩ = some (.int .i64 8) ∧ u.cell? ⟨b7, 1, none⟩ = some (.int .i64 4) ∧ u.cell? ⟨b7, 2, none⟩ = some (.int .i64 1)) u22 := ⟨(b22.cell (block_lt_of_cell hHeld.1)).trans hHeld.1, (b22.cell (block_lt_of_cell hHeld.2.1)).trans hHeld.2.1, (b22.cell (block_lt_of_cell hHeld.2.2.1)).trans hHeld.2.2.1, (b22.cell (block_lt_of_cell hHeld.2.2.2.1)).trans hHeld.2.2.2.1, (b22.cell (block_lt_of_cell hHeld.2.2.2.2)).trans hHeld.2.2.2.2⟩
      clear b22
      go_wp2_with fail
      refine hK.out _ _ hSnew (fun hHeld16 => ?_)
      clear hK K hSnew
      clear hHeld
      have hHeld := hHeld16
      clear hHeld16
      try simp only [Act.put, List.setIfInBounds_toArray, List.set_cons_zero, List.set_cons_succ]
      refine wpAnyH_take (i := 17) (oi := { dst := some 218, op := Op.unOp UnOp.not 4 (Operand.tmp 217), type := 4, pos := "outright.go:170", after := #[{ on := 16, ground := Ground.data }, { on := 9, ground := Ground.guard }], guard := some (9, false) }) (v := ?v17rfs) rfl (by kernel_rfl) (by kernel_rfl) (by kernel_rfl) (fun _ _ _ h => hQ _ _ _ _ _ h) (Or.inl ⟨by rfl, ?y17rfs⟩) (by assumption) ?r17rfs
      case y17rfs => (intro x hx; (try dsimp only at hx); go_simp; try with_reducible rfl)
      try simp only [Act.put, List.setIfInBounds_toArray, List.set_cons_zero, List.set_cons_succ]
      refine wpAnyH_take (i := 18) (oi := { dst := some 219, op := Op.pick (Operand.tmp 210) (Operand.const (Value.bool true)) (Operand.tmp 218), type := 4, pos := "outright.go:170", after := #[{ on := 9, ground := Ground.data }, { on := 17, ground := Ground.data }], guard := none }) (v := ?v18rfs) rfl (by kernel_rfl) (by kernel_rfl) (by kernel_rfl) (fun _ _ _ h => hQ _ _ _ _ _ h) (Or.inl ⟨by rfl, ?y18rfs⟩) (by assumption) ?r18rfs
      case y18rfs => (intro x hx; (try dsimp only at hx); go_simp; try with_reducible rfl)
      try simp only [Act.put, List.setIfInBounds_toArray, List.set_cons_zero, List.set_cons_succ]
      refine wpAnyH_done (by kernel_rfl) ?_ _
      clear hHeld
      go_wp2
      exact HK.out _ _ _ _ _ _ _ _ _ _ _ _ _ _ _ _ _ _ _ _ _ _ _ _ _ _ _ _ _ _ _ _ _ _ _ _ _ _ _ (by go_num) HJ9.out
end Go.Proofs.Ytadlkikjfonkgaa
namespace Go.Proofs.Ytadlkikjfonkgaa
open Go.RowKit Go.Conc
set_option linter.unusedVariables false

def isReg (n : Nat) : Code → Bool
  | .region id _ _ => id == n
  | _ => false
/-- The first row of code that opens with a region. -/
def seqAt (n : Nat) : Code → Option Code
  | .seq a b => if isReg n a then some (.seq a b) else match seqAt n a with
    | some c => some c
    | none => seqAt n b
  | .loop c => seqAt n c
  | .block _ c => seqAt n c
  | .scope c => seqAt n c
  | .cond _ a b => match seqAt n a with
    | some c => some c
    | none => seqAt n b
  | _ => none
noncomputable def hS18 : Code := ((Try.f6.body.bind (seqAt 18)).getD .skip)
def nilc : Wc := ⟨.slice none 0 0, none⟩
theorem reads_grown {w w' : World} {a : Option Addr} {l : Nat} {zs : List Int} {r : Option Nat} (h : Reads w a l zs) (hg : w.grownBy w' r) (hne : ∀ y, a = some y → 0 < l → some y.block ≠ r) : Reads w' a l zs :=
  reads_keep h (fun x hx h0 => hg.block x.block (reads_low h hx h0) (hne x hx h0))
set_option maxHeartbeats 8000000 in
set_option maxRecDepth 100000 in
theorem s18_yes {K : Act → World → Prop} {Q0 : Exit → Act → World → Prop} {w : World} {p b7 gw gk q14 : Nat} {F : Nat → Prop} {C : Ch} {ws : List Wc} {ks : List Bool} (u : World) (HM4 : Hid (HM w u p b7 gw gk F C ws ks)) (x : Ox) (HX4 : Hid (u.heap[q14]? = some (.cells #[.int .i64 x.o.k, .int .i64 x.o.b, .int .i64 x.o.p, .int .i64 x.o.bit, .bool x.o.fit, .slice x.da x.dn x.dc, .slice x.za x.zn x.zc] 56 (0, 0)))) (er : Int) (HXO : Hid (OxOk w x)) (hQ : ∀ (c : _) (a : Act) (d : Nat) (v : Value) (w : World), Q0 (.panic c) (a.put (some d) v) w → Q0 (.panic c) a w) (t : Nat) (ht : t < 32) (kv : Bool) (HKV : Hid (ks[t]? = some kv)) (hlen : er = 0 → x.o.n1 1 = 256 ∧ x.o.n2 1 = 57) (hk : x.o.k = 1) (c0 c1 c2 c3 c4 c5 c6 c9 c12 c13 c20 c21 c22 c23 c24 c25 c26 c27 c28 c29 c30 c31 c32 c33 c34 c35 c36 c37 c38 c39 c40 c41 c42 c43 c44 c45 c46 c47 c48 c49 c50 c51 c52 c53 c54 c55 c56 c57 c58 c59 c60 c61 c62 c63 c64 c65 c66 c67 c68 c69 c70 c71 c72 c73 c74 c75 c76 c77 c78 c79 c80 c81 c82 c83 c84 c85 c86 c87 c88 c89 c90 c91 c92 c93 c94 c95 c96 c97 c98 c99 c145 c146 c147 c148 c149 c150 c151 c152 c153 c154 c155 c156 c157 c158 c159 c160 c161 c162 c163 c164 c165 c166 c167 c168 c169 c170 c171 c172 c173 c174 c175 c176 c177 c178 c179 c180 c181 c182 c183 c184 c185 c186 c187 c188 c189 c190 c191 c192 c193 c194 c195 c196 c197 c198 c199 c200 c201 c202 c203 c204 c205 c206 c207 c208 c209 c210 c211 c212 c213 c214 c215 c216 c217 c218 c219 c220 u18 u19 u100 u101 u102 u103 u104 u105 u106 u107 u108 u109 u110 u111 u112 u113 u114 u115 u116 u117 u118 u119 u120 u121 u122 u123 u124 u125 u126 u127 u128 u129 u130 u131 u132 u133 u134 u135 u136 u137 u138 u139 u140 u141 u142 u143 u144 : Value)
    (hK : ∀ (x18 x19 x100 x101 x102 x103 x104 x105 x106 x107 x108 x109 x110 x111 x112 x113 x114 x115 x116 x117 x118 x119 x120 x121 x122 x123 x124 x125 x126 x127 x128 x129 x130 x131 x132 x133 x134 x135 x136 x137 x138 x139 x140 x141 x142 x143 x144 : Value) (u' : World) (c : Wc), HM w u' p b7 gw gk F C (ws.set t c) (ks.set t false) → c.z = (if er = 0 ∧ kv = true then some (x.o.want 1) else none) → u'.heap[q14]? = some (.cells #[.int .i64 x.o.k, .int .i64 x.o.b, .int .i64 x.o.p, .int .i64 x.o.bit, .bool x.o.fit, .slice x.da x.dn x.dc, .slice x.za x.zn x.zc] 56 (0, 0)) → K ⟨#[c0, c1, c2, c3, c4, c5, c6, .pointer (some ⟨b7, 0, none⟩), .pointer (some ⟨p, 0, none⟩), c9, .slice (some ⟨gw, 0, none⟩) 32 32, .slice (some ⟨gk, 0, none⟩) 32 32, c12, c13, .pointer (some ⟨q14, 0, none⟩), .int .i64 er, .int .i64 (t : Int), .bool true, x18, x19, c20, c21, c22, c23, c24, c25, c26, c27, c28, c29, c30, c31, c32, c33, c34, c35, c36, c37, c38, c39, c40, c41, c42, c43, c44, c45, c46, c47, c48, c49, c50, c51, c52, c53, c54, c55, c56, c57, c58, c59, c60, c61, c62, c63, c64, c65, c66, c67, c68, c69, c70, c71, c72, c73, c74, c75, c76, c77, c78, c79, c80, c81, c82, c83, c84, c85, c86, c87, c88, c89, c90, c91, c92, c93, c94, c95, c96, c97, c98, c99, x100, x101, x102, x103, x104, x105, x106, x107, x108, x109, x110, x111, x112, x113, x114, x115, x116, x117, x118, x119, x120, x121, x122, x123, x124, x125, x126, x127, x128, x129, x130, x131, x132, x133, x134, x135, x136, x137, x138, x139, x140, x141, x142, x143, x144, c145, c146, c147, c148, c149, c150, c151, c152, c153, c154, c155, c156, c157, c158, c159, c160, c161, c162, c163, c164, c165, c166, c167, c168, c169, c170, c171, c172, c173, c174, c175, c176, c177, c178, c179, c180, c181, c182, c183, c184, c185, c186, c187, c188, c189, c190, c191, c192, c193, c194, c195, c196, c197, c198, c199, c200, c201, c202, c203, c204, c205, c206, c207, c208, c209, c210, c211, c212, c213, c214, c215, c216, c217, c218, c219, c220], []⟩ u') :
    Code.wp Try.prog hS18 (Exit.then K Q0) ⟨#[c0, c1, c2, c3, c4, c5, c6, .pointer (some ⟨b7, 0, none⟩), .pointer (some ⟨p, 0, none⟩), c9, .slice (some ⟨gw, 0, none⟩) 32 32, .slice (some ⟨gk, 0, none⟩) 32 32, c12, c13, .pointer (some ⟨q14, 0, none⟩), .int .i64 er, .int .i64 (t : Int), .bool true, u18, u19, c20, c21, c22, c23, c24, c25, c26, c27, c28, c29, c30, c31, c32, c33, c34, c35, c36, c37, c38, c39, c40, c41, c42, c43, c44, c45, c46, c47, c48, c49, c50, c51, c52, c53, c54, c55, c56, c57, c58, c59, c60, c61, c62, c63, c64, c65, c66, c67, c68, c69, c70, c71, c72, c73, c74, c75, c76, c77, c78, c79, c80, c81, c82, c83, c84, c85, c86, c87, c88, c89, c90, c91, c92, c93, c94, c95, c96, c97, c98, c99, u100, u101, u102, u103, u104, u105, u106, u107, u108, u109, u110, u111, u112, u113, u114, u115, u116, u117, u118, u119, u120, u121, u122, u123, u124, u125, u126, u127, u128, u129, u130, u131, u132, u133, u134, u135, u136, u137, u138, u139, u140, u141, u142, u143, u144, c145, c146, c147, c148, c149, c150, c151, c152, c153, c154, c155, c156, c157, c158, c159, c160, c161, c162, c163, c164, c165, c166, c167, c168, c169, c170, c171, c172, c173, c174, c175, c176, c177, c178, c179, c180, c181, c182, c183, c184, c185, c186, c187, c188, c189, c190, c191, c192, c193, c194, c195, c196, c197, c198, c199, c200, c201, c202, c203, c204, c205, c206, c207, c208, c209, c210, c211, c212, c213, c214, c215, c216, c217, c218, c219, c220], []⟩ u := by
  conv => arg 2; whnf
  have HK := hide hK
  clear hK
  have HWL := hide HM4.out.wl
  have d1 : (x.o.k == 1) = true := by rw [hk]; rfl
  clear hk
  have dge : decide ((t : Int) ≥ 0) = true := decide_eq_true (by omega)
  have dge2 : decide (0 ≤ (t : Int)) = true := decide_eq_true (by omega)
  have dlt : decide ((t : Int) < 32) = true := decide_eq_true (by omega)
  have t1 : (t : Int) < 32 := by omega
  have hkr := HM4.out.hd.blk (g := gk) (o := kobj ks) (by simp)
  have hcv := kcell hkr HKV.out
  have fzk := fun j => frozen_of_row u gk j _ 4 hkr
  have HM1 := hide (HM4.out.setK t false)
  have hwr := HM1.out.hd.blk (g := gw) (o := wobj ws) (by simp)
  obtain ⟨wc, hwc⟩ : ∃ c, ws[t]? = some c := ⟨_, List.getElem?_eq_getElem (by rw [HM4.out.wl]; exact ht)⟩
  have hcw := wcell hwr hwc
  have fzw := fun j => frozen_of_row (u.setCell ⟨gk, t, none⟩ (.bool false)) gw j _ 24 hwr
  have HM2 : Hid (HM w ((u.setCell ⟨gk, t, none⟩ (.bool false)).setCell ⟨gw, t, none⟩ (.slice none 0 0)) p b7 gw gk F C (ws.set t nilc) (ks.set t false)) := HM1.out.setW t nilc (Or.inl ⟨rfl, rfl⟩)
  have HX2 : Hid (((u.setCell ⟨gk, t, none⟩ (.bool false)).setCell ⟨gw, t, none⟩ (.slice none 0 0)).heap[q14]? = some (.cells #[.int .i64 x.o.k, .int .i64 x.o.b, .int .i64 x.o.p, .int .i64 x.o.bit, .bool x.o.fit, .slice x.da x.dn x.dc, .slice x.za x.zn x.zc] 56 (0, 0))) := by
    have h1 := ((Only.setCell (· = gk) u gk t (.bool false) rfl).block q14 (lt_of_block HX4.out) (fun e => tag_ne HX4.out hkr (t := 56) (u := 4) rfl rfl (by decide) e)).trans HX4.out
    exact ((Only.setCell (· = gw) _ gw t (.slice none 0 0) rfl).block q14 (lt_of_block h1) (fun e => tag_ne h1 hwr (t := 56) (u := 24) rfl rfl (by decide) e)).trans h1
  have hy0 := (cells7 HX4.out).1
  clear hkr hwr hwc
  by_cases hyes : er = 0 ∧ kv = true
  · obtain ⟨h0, rfl⟩ := hyes
    have hl := hlen h0
    subst h0
    clear hlen
    have HY := hide (cells7 HX2.out)
    obtain ⟨y0, y1, y2, y3, y4, y5, y6⟩ := cells7 HX2.out
    obtain ⟨z0, z1, z2⟩ := cells3 (HM2.out.hd.blk (g := b7) (o := box8) (by simp))
    obtain ⟨i0, hi0, hz0, hz1, hz2⟩ := info_parts info5
    have HI0 := hide hi0
    have HI1 := hide hz0
    have HI2 := hide hz1
    have HI3 := hide hz2
    clear hi0 hz0 hz1 hz2
    have HXO2 := hide (HXO.out.below HM2.out.hd.bel)
    have HL := hide hl
    clear hl
    go_upto_region 23 with (first | (go_at_call 11; refine (no_any' 0 _).mono ?_; rintro e v0 ⟨rfl, hv0⟩; subst hv0))
    go_upto_region 24 with (first
      | (go_at_call 11; refine (no_any' 0 _).mono ?_; rintro e v0 ⟨rfl, hv0⟩; subst hv0)
      | (go_at_call 27; refine (page_any _ 8 4 1 (by decide) x.o x.da x.dn x.dc x.za x.zn x.zc HXO2.out.d HXO2.out.z (by have := HXO2.out.dl; omega) (by have := HXO2.out.zl; omega)).mono ?_; rintro e v27 ⟨⟨b1, n1, m1, b2, n2, m2, D, Z, rfl, hn1, hn2, hDZ, hrD, hrZ, _, _⟩, hb27⟩; rw [HL.out.1] at hn1; rw [HL.out.2] at hn2; subst hn1; subst hn2; have HDZ := hide hDZ; have HRD0 := hide hrD; have HRZ0 := hide hrZ; have HB27 := hide hb27; clear hDZ hrD hrZ hb27 y0 y1 y2 y3 y4 y5 y6 z0 z1 z2))
    obtain ⟨a1, rfl⟩ : ∃ a, b1 = some a := by
      obtain ⟨b, off, e, _⟩ := HRD0.out.pos (by omega)
      exact ⟨_, e⟩
    obtain ⟨a2, rfl⟩ : ∃ a, b2 = some a := by
      obtain ⟨b, off, e, _⟩ := HRZ0.out.pos (by omega)
      exact ⟨_, e⟩
    have hb2 := below_alloc v27 (.cells #[.slice (some a1) 256 m1, .slice (some a2) 57 m2] 36)
    have HP := hide (alloc_new v27 (.cells #[.slice (some a1) 256 m1, .slice (some a2) 57 m2] 36))
    have HRD := hide (HRD0.out.below hb2)
    have HRZ := hide (HRZ0.out.below hb2)
    have HM6 := hide (HM2.out.below (below_trans HB27.out hb2))
    have HX6 := hide (((below_trans HB27.out hb2).block _ (lt_of_block HX2.out)).trans HX2.out)
    have HFN : Hid (∀ k, F k → k < (v27.alloc (.cells #[.slice (some a1) 256 m1, .slice (some a2) 57 m2] 36)).heap.size) := fun k hf => Nat.lt_of_lt_of_le (HM2.out.hd.ch.fin k hf) (below_trans HB27.out hb2).size
    generalize hv : v27.alloc (.cells #[.slice (some a1) 256 m1, .slice (some a2) 57 m2] 36) = v at HP HRD HRZ HM6 HX6 HFN ⊢
    generalize hq5 : v27.heap.size = q5 at HP ⊢
    clear hv hq5 hb2 HB27 HRD0 HRZ0 HM1 HM2 HX2 HY hcv fzk hcw fzw HM4
    have hi0 := HI0.out
    have hz0 := HI1.out
    have hz1 := HI2.out
    have hz2 := HI3.out
    refine wp_region_held_drew (S := (fun u => u.cell? ⟨q5, 0, none⟩ = some (.slice (some a1) 256 m1) ∧ u.cell? ⟨q5, 1, none⟩ = some (.slice (some a2) 57 m2))) (by kernel_rfl) (cells2 HP.out) (fun hHeld => ?_)
    refine wpAnyH_take (i := 0) (oi := { dst := some 135, op := Op.move (Operand.tmp 10), type := 61, pos := "outright.go:159", after := #[], guard := none }) (v := ?v0) rfl (by kernel_rfl) (by kernel_rfl) (by kernel_rfl) (fun _ _ _ h => hQ _ _ _ _ _ h) (Or.inl ⟨by rfl, ?y0⟩) (by assumption) ?r0
    case y0 => (intro x hx; (try dsimp only at hx); go_simp; try with_reducible rfl)
    try simp only [Act.put, List.setIfInBounds_toArray, List.set_cons_zero, List.set_cons_succ]
    refine wpAnyH_take (i := 1) (oi := { dst := some 136, op := Op.move (Operand.tmp 16), type := 3, pos := "outright.go:159", after := #[], guard := none }) (v := ?v1) rfl (by kernel_rfl) (by kernel_rfl) (by kernel_rfl) (fun _ _ _ h => hQ _ _ _ _ _ h) (Or.inl ⟨by rfl, ?y1⟩) (by assumption) ?r1
    case y1 => (intro x hx; (try dsimp only at hx); go_simp; try with_reducible rfl)
    try simp only [Act.put, List.setIfInBounds_toArray, List.set_cons_zero, List.set_cons_succ]
    refine wpAnyH_take (i := 3) (oi := { dst := some 138, op := Op.fieldAddr 36 (Operand.tmp 19) 0, type := 0, pos := "outright.go:159", after := #[], guard := none }) (v := ?v3) rfl (by kernel_rfl) (by kernel_rfl) (by kernel_rfl) (fun _ _ _ h => hQ _ _ _ _ _ h) (Or.inl ⟨by rfl, ?y3⟩) (by assumption) ?r3
    case y3 => (intro x hx; (try dsimp only at hx); go_simp; try with_reducible rfl)
    try simp only [Act.put, List.setIfInBounds_toArray, List.set_cons_zero, List.set_cons_succ]
    refine wpAnyH_take (i := 4) (oi := { dst := some 139, op := Op.load 24 (Operand.tmp 138), type := 24, pos := "outright.go:159", after := #[{ on := 3, ground := Ground.data }], guard := none }) (v := ?v4) rfl (by kernel_rfl) (by kernel_rfl) (by kernel_rfl) (fun _ _ _ h => hQ _ _ _ _ _ h) (Or.inl ⟨by rfl, ?y4⟩) (by assumption) ?r4
    case y4 => (intro x hx; (try dsimp only at hx); go_simp; try with_reducible rfl)
    try simp only [Act.put, List.setIfInBounds_toArray, List.set_cons_zero, List.set_cons_succ]
    refine wpAnyH_take (i := 6) (oi := { dst := some 141, op := Op.fieldAddr 36 (Operand.tmp 19) 1, type := 0, pos := "outright.go:159", after := #[], guard := none }) (v := ?v6) rfl (by kernel_rfl) (by kernel_rfl) (by kernel_rfl) (fun _ _ _ h => hQ _ _ _ _ _ h) (Or.inl ⟨by rfl, ?y6⟩) (by assumption) ?r6
    case y6 => (intro x hx; (try dsimp only at hx); go_simp; try with_reducible rfl)
    try simp only [Act.put, List.setIfInBounds_toArray, List.set_cons_zero, List.set_cons_succ]
    refine wpAnyH_take (i := 7) (oi := { dst := some 142, op := Op.load 24 (Operand.tmp 141), type := 24, pos := "outright.go:159", after := #[{ on := 6, ground := Ground.data }], guard := none }) (v := ?v7) rfl (by kernel_rfl) (by kernel_rfl) (by kernel_rfl) (fun _ _ _ h => hQ _ _ _ _ _ h) (Or.inl ⟨by rfl, ?y7⟩) (by assumption) ?r7
    case y7 => (intro x hx; (try dsimp only at hx); go_simp; try with_reducible rfl)
    try simp only [Act.put, List.setIfInBounds_toArray, List.set_cons_zero, List.set_cons_succ]
    refine wpAnyH_ready (rs := [2]) (by kernel_rfl) (by simp) ?_
    refine AllReadyH.cons (o := { dst := some 137, op := Op.buildSlice 24 0 #[], type := 24, pos := "outright.go:159", after := #[], guard := none }) rfl (fun K_ hK => ?_) AllReadyH.nil
    go_simp
    go_wp2_with fail
    change K_ _ (v.drew.alloc (.cells #[] 5))
    have hb0 : Below v.heap.size v (v.drew.alloc (.cells #[] 5)) := below_trans (drew_below _) (below_alloc _ _)
    have H1 := hide ((hb0.block _ (lt_of_block HP.out)).trans HP.out)
    have HD1 := hide (HRD.out.below hb0)
    have HZ1 := hide (HRZ.out.below hb0)
    have HE : Hid (Own (v.drew.alloc (.cells #[] 5)) v.heap.size v.heap.size 0 0 []) := ⟨rfl, Or.inr ⟨_, 0, #[], rfl, Nat.le_refl _, alloc_new v.drew _, Nat.le_refl _, Nat.zero_le _, rfl, rfl⟩⟩
    have HB5 := hide hb0
    have hSnew := cells2 H1.out
    clear hb0
    refine hK.out _ _ hSnew (fun hHeld2 => ?_)
    clear hK K_ hSnew
    clear hHeld
    have hHeld := hHeld2
    clear hHeld2
    try simp only [Act.put, List.setIfInBounds_toArray, List.set_cons_zero, List.set_cons_succ]
    refine wpAnyH_ready (rs := [5]) (by kernel_rfl) (by simp) ?_
    refine AllReadyH.cons (o := { dst := some 140, op := Op.call { callee := Callee.builtin Builtin.append, args := #[Operand.tmp 137, Operand.tmp 139], argTypes := #[24, 24] }, type := 24, pos := "outright.go:159", after := #[{ on := 2, ground := Ground.data }, { on := 4, ground := Ground.data }], guard := none }) rfl (fun K_ hK => ?_) AllReadyH.nil
    refine wp_append_own _ (.tmp 137) (.tmp 139) 24 rfl v.heap.size 5 i0 (.int .u8 0) 1 1 Try.underlying24 hi0 hz0 hz1 hz2 rfl (by decide) _ 0 _ rfl HE.out a1 256 m1 (D.map (Value.int .u8)) rfl (by simp; exact HD1.out.1) (Reads.news HD1.out) (by simp [Value.oneCell']) (by simp only [maxLen]; omega) (by omega) HB5.out.size ?_
    intro v1 w1 ow1 gr1 _
    rw [← List.map_append] at ow1
    obtain ⟨g1, k1, rfl, _⟩ := own_shape ow1 (by omega)
    rw [List.nil_append] at ow1
    have HG1 : Hid (Below v.heap.size v w1) := HB5.out.grown gr1 HB5.out.size (fun j hj => by cases hj; exact Nat.le_refl _)
    have HA1 := hide ow1
    have HZ2 := hide (reads_grown HZ1.out gr1 (fun y hy h0 e => by have h9 : y.block = v.heap.size := (Option.some.inj e); have h8 := reads_low HRZ.out hy h0; omega))
    have H2 := hide ((gr1.block _ (lt_of_block H1.out) (fun e => by have h9 : q5 = v.heap.size := (Option.some.inj e); have h8 := lt_of_block HP.out; omega)).trans H1.out)
    have hSnew := cells2 H2.out
    clear ow1 gr1 H1
    refine hK.out _ _ hSnew (fun hHeld5 => ?_)
    clear hK K_ hSnew
    clear hHeld
    have hHeld := hHeld5
    clear hHeld5
    try simp only [Act.put, List.setIfInBounds_toArray, List.set_cons_zero, List.set_cons_succ]
    refine wpAnyH_ready (rs := [8]) (by kernel_rfl) (by simp) ?_
    refine AllReadyH.cons (o := { dst := some 143, op := Op.call { callee := Callee.builtin Builtin.append, args := #[Operand.tmp 140, Operand.tmp 142], argTypes := #[24, 24] }, type := 24, pos := "outright.go:159", after := #[{ on := 5, ground := Ground.data }, { on := 7, ground := Ground.data }, { on := 5, ground := Ground.chain }], guard := none }) rfl (fun K_ hK => ?_) AllReadyH.nil
    refine wp_append_own _ (.tmp 140) (.tmp 142) 24 rfl v.heap.size 5 i0 (.int .u8 0) 1 1 Try.underlying24 hi0 hz0 hz1 hz2 rfl (by decide) _ 256 _ rfl HA1.out a2 57 m2 (Z.map (Value.int .u8)) rfl (by simp; exact HZ2.out.1) (Reads.news HZ2.out) (by simp [Value.oneCell']) (by simp only [maxLen]; omega) (by omega) HG1.out.size ?_
    intro v2 w2 ow2 gr2 _
    rw [← List.map_append] at ow2
    obtain ⟨g2, k2, rfl, _⟩ := own_shape ow2 (by omega)
    have HG2 : Hid (Below v.heap.size v w2) := HG1.out.grown gr2 HG1.out.size (fun j hj => by cases hj; exact (Own.lt HA1.out).1)
    have HA2 : Hid (Own w2 v.heap.size g2 313 k2 (D ++ Z)) := ow2
    have H3 := hide ((gr2.block _ (lt_of_block H2.out) (fun e => by obtain ⟨cs, hcs⟩ := own_tag HA1.out (g := g1) rfl; exact tag_ne H2.out hcs (t := 36) (u := 5) rfl rfl (by decide) (Option.some.inj e))).trans H2.out)
    have hSnew := cells2 H3.out
    have HM7 := hide (HM6.out.below HG2.out)
    have hwr7 := HM7.out.hd.blk (g := gw) (o := wobj (ws.set t nilc)) (by simp)
    have hcw7 := wcell hwr7 (t := t) (c := nilc) (by rw [List.getElem?_set_self (by rw [HWL.out]; exact ht)])
    have fzw7 := fun j => frozen_of_row w2 gw j _ 24 hwr7
    clear ow2 gr2 hwr7
    refine hK.out _ _ hSnew (fun hHeld8 => ?_)
    clear hK K_ hSnew
    clear hHeld
    have hHeld := hHeld8
    clear hHeld8
    try simp only [Act.put, List.setIfInBounds_toArray, List.set_cons_zero, List.set_cons_succ]
    refine wpAnyH_take (i := 9) (oi := { dst := some 144, op := Op.indexAddr 61 (Operand.tmp 135) (Operand.tmp 136), type := 0, pos := "outright.go:159", after := #[{ on := 0, ground := Ground.data }, { on := 1, ground := Ground.data }, { on := 0, ground := Ground.phase }, { on := 1, ground := Ground.phase }, { on := 2, ground := Ground.phase }, { on := 3, ground := Ground.phase }, { on := 4, ground := Ground.phase }, { on := 5, ground := Ground.phase }, { on := 6, ground := Ground.phase }, { on := 7, ground := Ground.phase }, { on := 8, ground := Ground.phase }], guard := none }) (v := ?v9) rfl (by kernel_rfl) (by kernel_rfl) (by kernel_rfl) (fun _ _ _ h => hQ _ _ _ _ _ h) (Or.inl ⟨by rfl, ?y9⟩) (by assumption) ?r9
    case y9 => (intro x hx; (try dsimp only at hx); go_simp; try with_reducible rfl)
    try simp only [Act.put, List.setIfInBounds_toArray, List.set_cons_zero, List.set_cons_succ]
    refine wpAnyH_ready (rs := [10]) (by kernel_rfl) (by simp) ?_
    refine AllReadyH.cons (o := { dst := none, op := Op.store 24 (Operand.tmp 144) (Operand.tmp 143), type := 0, pos := "outright.go:159", after := #[{ on := 9, ground := Ground.data }, { on := 8, ground := Ground.data }, { on := 8, ground := Ground.chain }, { on := 0, ground := Ground.phase }, { on := 1, ground := Ground.phase }, { on := 2, ground := Ground.phase }, { on := 3, ground := Ground.phase }, { on := 4, ground := Ground.phase }, { on := 5, ground := Ground.phase }, { on := 6, ground := Ground.phase }, { on := 7, ground := Ground.phase }, { on := 8, ground := Ground.phase }], guard := none }) rfl (fun K_ hK => ?_) AllReadyH.nil
    go_simp
    go_wp2_with fail
    have hSnew : (fun u => u.cell? ⟨q5, 0, none⟩ = some (.slice (some a1) 256 m1) ∧ u.cell? ⟨q5, 1, none⟩ = some (.slice (some a2) 57 m2)) (w2.setCell ⟨gw, t, none⟩ (.slice (some ⟨g2, 0, none⟩) 313 k2)) := (cells2 (((Only.setCell (· = gw) w2 gw t (.slice (some ⟨g2, 0, none⟩) 313 k2) rfl).block _ (lt_of_block H3.out) (fun e => tag_ne H3.out (HM7.out.hd.blk (g := gw) (o := wobj (ws.set t nilc)) (by simp)) (t := 36) (u := 24) rfl rfl (by decide) e)).trans H3.out))
    change K_ _ (w2.setCell ⟨gw, t, none⟩ (.slice (some ⟨g2, 0, none⟩) 313 k2))
    refine hK.out _ _ hSnew (fun hHeld10 => ?_)
    clear hK K_ hSnew
    clear hHeld
    have hHeld := hHeld10
    clear hHeld10
    try simp only [Act.put, List.setIfInBounds_toArray, List.set_cons_zero, List.set_cons_succ]
    refine wpAnyH_done (by kernel_rfl) ?_ _
    clear hHeld
    have HM8 : Hid (HM w (w2.setCell ⟨gw, t, none⟩ (.slice (some ⟨g2, 0, none⟩) 313 k2)) p b7 gw gk F C (ws.set t ⟨.slice (some ⟨g2, 0, none⟩) 313 k2, some (D ++ Z)⟩) (ks.set t false)) := by
      have h9 := HM7.out.setW t ⟨.slice (some ⟨g2, 0, none⟩) 313 k2, some (D ++ Z)⟩ (Or.inr ⟨g2, k2, D ++ Z, rfl, rfl, own_base HA2.out HM6.out.hd.bel.size, fun hf => by have h1 := HFN.out _ hf; have h2 := (Own.lt HA2.out).1; omega⟩)
      rw [List.set_set] at h9
      exact h9
    have HX8 : Hid ((w2.setCell ⟨gw, t, none⟩ (.slice (some ⟨g2, 0, none⟩) 313 k2)).heap[q14]? = some (.cells #[.int .i64 x.o.k, .int .i64 x.o.b, .int .i64 x.o.p, .int .i64 x.o.bit, .bool x.o.fit, .slice x.da x.dn x.dc, .slice x.za x.zn x.zc] 56 (0, 0))) := by
      have h1 := (HG2.out.block _ (lt_of_block HX6.out)).trans HX6.out
      exact ((Only.setCell (· = gw) _ gw t (.slice (some ⟨g2, 0, none⟩) 313 k2) rfl).block q14 (lt_of_block h1) (fun e => tag_ne h1 (HM7.out.hd.blk (g := gw) (o := wobj (ws.set t nilc)) (by simp)) (t := 56) (u := 24) rfl rfl (by decide) e)).trans h1
    go_wp2
    exact HK.out _ _ _ _ _ _ _ _ _ _ _ _ _ _ _ _ _ _ _ _ _ _ _ _ _ _ _ _ _ _ _ _ _ _ _ _ _ _ _ _ _ _ _ _ _ _ _ _ _ HM8.out (by simp only [true_and, if_true]; rw [HDZ.out]) HX8.out
  · have HZN : Hid (nilc.z = (if er = 0 ∧ kv = true then some (x.o.want 1) else none)) := by
      show nilc.z = _
      rw [if_neg hyes]; rfl
    by_cases h0 : er = 0
    · have hkf : kv = false := by cases kv; rfl; exact absurd ⟨h0, rfl⟩ hyes
      subst hkf
      have d0 : (er == 0) = true := by rw [h0]; rfl
      clear hyes hlen h0
      go_wp2_with (first | (go_at_call 11; refine (no_any' er _).mono ?_; rintro e v0 ⟨rfl, hv0⟩; subst hv0))
      exact HK.out _ _ _ _ _ _ _ _ _ _ _ _ _ _ _ _ _ _ _ _ _ _ _ _ _ _ _ _ _ _ _ _ _ _ _ _ _ _ _ _ _ _ _ _ _ _ _ _ _ HM2.out HZN.out HX2.out
    · have d0 : (er == 0) = false := by simp [h0]
      clear hyes hlen h0
      go_wp2_with (first | (go_at_call 11; refine (no_any' er _).mono ?_; rintro e v0 ⟨rfl, hv0⟩; subst hv0))
      exact HK.out _ _ _ _ _ _ _ _ _ _ _ _ _ _ _ _ _ _ _ _ _ _ _ _ _ _ _ _ _ _ _ _ _ _ _ _ _ _ _ _ _ _ _ _ _ _ _ _ _ HM2.out HZN.out HX2.out
set_option maxHeartbeats 8000000 in
set_option maxRecDepth 100000 in
theorem s18_no {K : Act → World → Prop} {Q0 : Exit → Act → World → Prop} {w : World} {p b7 gw gk q14 : Nat} {F : Nat → Prop} {C : Ch} {ws : List Wc} {ks : List Bool} (u : World) (HM4 : Hid (HM w u p b7 gw gk F C ws ks)) (x : Ox) (HX4 : Hid (u.heap[q14]? = some (.cells #[.int .i64 x.o.k, .int .i64 x.o.b, .int .i64 x.o.p, .int .i64 x.o.bit, .bool x.o.fit, .slice x.da x.dn x.dc, .slice x.za x.zn x.zc] 56 (0, 0)))) (er : Int) (tr : Bool) (kk : Int) (hno : ¬ (x.o.k = 1 ∧ tr = true)) (c0 c1 c2 c3 c4 c5 c6 c9 c12 c13 c20 c21 c22 c23 c24 c25 c26 c27 c28 c29 c30 c31 c32 c33 c34 c35 c36 c37 c38 c39 c40 c41 c42 c43 c44 c45 c46 c47 c48 c49 c50 c51 c52 c53 c54 c55 c56 c57 c58 c59 c60 c61 c62 c63 c64 c65 c66 c67 c68 c69 c70 c71 c72 c73 c74 c75 c76 c77 c78 c79 c80 c81 c82 c83 c84 c85 c86 c87 c88 c89 c90 c91 c92 c93 c94 c95 c96 c97 c98 c99 c145 c146 c147 c148 c149 c150 c151 c152 c153 c154 c155 c156 c157 c158 c159 c160 c161 c162 c163 c164 c165 c166 c167 c168 c169 c170 c171 c172 c173 c174 c175 c176 c177 c178 c179 c180 c181 c182 c183 c184 c185 c186 c187 c188 c189 c190 c191 c192 c193 c194 c195 c196 c197 c198 c199 c200 c201 c202 c203 c204 c205 c206 c207 c208 c209 c210 c211 c212 c213 c214 c215 c216 c217 c218 c219 c220 u18 u19 u100 u101 u102 u103 u104 u105 u106 u107 u108 u109 u110 u111 u112 u113 u114 u115 u116 u117 u118 u119 u120 u121 u122 u123 u124 u125 u126 u127 u128 u129 u130 u131 u132 u133 u134 u135 u136 u137 u138 u139 u140 u141 u142 u143 u144 : Value)
    (hK : ∀ (x18 x19 x100 x101 x102 x103 x104 x105 x106 x107 x108 x109 x110 x111 x112 x113 x114 x115 x116 x117 x118 x119 x120 x121 x122 x123 x124 x125 x126 x127 x128 x129 x130 x131 x132 x133 x134 x135 x136 x137 x138 x139 x140 x141 x142 x143 x144 : Value), K ⟨#[c0, c1, c2, c3, c4, c5, c6, .pointer (some ⟨b7, 0, none⟩), .pointer (some ⟨p, 0, none⟩), c9, .slice (some ⟨gw, 0, none⟩) 32 32, .slice (some ⟨gk, 0, none⟩) 32 32, c12, c13, .pointer (some ⟨q14, 0, none⟩), .int .i64 er, .int .i64 kk, .bool tr, x18, x19, c20, c21, c22, c23, c24, c25, c26, c27, c28, c29, c30, c31, c32, c33, c34, c35, c36, c37, c38, c39, c40, c41, c42, c43, c44, c45, c46, c47, c48, c49, c50, c51, c52, c53, c54, c55, c56, c57, c58, c59, c60, c61, c62, c63, c64, c65, c66, c67, c68, c69, c70, c71, c72, c73, c74, c75, c76, c77, c78, c79, c80, c81, c82, c83, c84, c85, c86, c87, c88, c89, c90, c91, c92, c93, c94, c95, c96, c97, c98, c99, x100, x101, x102, x103, x104, x105, x106, x107, x108, x109, x110, x111, x112, x113, x114, x115, x116, x117, x118, x119, x120, x121, x122, x123, x124, x125, x126, x127, x128, x129, x130, x131, x132, x133, x134, x135, x136, x137, x138, x139, x140, x141, x142, x143, x144, c145, c146, c147, c148, c149, c150, c151, c152, c153, c154, c155, c156, c157, c158, c159, c160, c161, c162, c163, c164, c165, c166, c167, c168, c169, c170, c171, c172, c173, c174, c175, c176, c177, c178, c179, c180, c181, c182, c183, c184, c185, c186, c187, c188, c189, c190, c191, c192, c193, c194, c195, c196, c197, c198, c199, c200, c201, c202, c203, c204, c205, c206, c207, c208, c209, c210, c211, c212, c213, c214, c215, c216, c217, c218, c219, c220], []⟩ u) :
    Code.wp Try.prog hS18 (Exit.then K Q0) ⟨#[c0, c1, c2, c3, c4, c5, c6, .pointer (some ⟨b7, 0, none⟩), .pointer (some ⟨p, 0, none⟩), c9, .slice (some ⟨gw, 0, none⟩) 32 32, .slice (some ⟨gk, 0, none⟩) 32 32, c12, c13, .pointer (some ⟨q14, 0, none⟩), .int .i64 er, .int .i64 kk, .bool tr, u18, u19, c20, c21, c22, c23, c24, c25, c26, c27, c28, c29, c30, c31, c32, c33, c34, c35, c36, c37, c38, c39, c40, c41, c42, c43, c44, c45, c46, c47, c48, c49, c50, c51, c52, c53, c54, c55, c56, c57, c58, c59, c60, c61, c62, c63, c64, c65, c66, c67, c68, c69, c70, c71, c72, c73, c74, c75, c76, c77, c78, c79, c80, c81, c82, c83, c84, c85, c86, c87, c88, c89, c90, c91, c92, c93, c94, c95, c96, c97, c98, c99, u100, u101, u102, u103, u104, u105, u106, u107, u108, u109, u110, u111, u112, u113, u114, u115, u116, u117, u118, u119, u120, u121, u122, u123, u124, u125, u126, u127, u128, u129, u130, u131, u132, u133, u134, u135, u136, u137, u138, u139, u140, u141, u142, u143, u144, c145, c146, c147, c148, c149, c150, c151, c152, c153, c154, c155, c156, c157, c158, c159, c160, c161, c162, c163, c164, c165, c166, c167, c168, c169, c170, c171, c172, c173, c174, c175, c176, c177, c178, c179, c180, c181, c182, c183, c184, c185, c186, c187, c188, c189, c190, c191, c192, c193, c194, c195, c196, c197, c198, c199, c200, c201, c202, c203, c204, c205, c206, c207, c208, c209, c210, c211, c212, c213, c214, c215, c216, c217, c218, c219, c220], []⟩ u := by
  conv => arg 2; whnf
  have HK := hide hK
  clear hK
  have hy0 := (cells7 HX4.out).1
  by_cases h1 : x.o.k = 1
  · have d1 : (x.o.k == 1) = true := by rw [h1]; rfl
    have ht : tr = false := by cases tr; rfl; exact absurd ⟨h1, rfl⟩ hno
    subst ht
    clear h1 hno
    go_wp2
    exact HK.out _ _ _ _ _ _ _ _ _ _ _ _ _ _ _ _ _ _ _ _ _ _ _ _ _ _ _ _ _ _ _ _ _ _ _ _ _ _ _ _ _ _ _ _ _ _ _ 
  · have d1 : (x.o.k == 1) = false := by simp [h1]
    clear h1 hno
    go_wp2
    exact HK.out _ _ _ _ _ _ _ _ _ _ _ _ _ _ _ _ _ _ _ _ _ _ _ _ _ _ _ _ _ _ _ _ _ _ _ _ _ _ _ _ _ _ _ _ _ _ _ 
end Go.Proofs.Ytadlkikjfonkgaa
