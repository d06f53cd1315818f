/-
  SEAT Ytadlkikjfonkgaa: Gm, Gn.
-/
import Derived.Test.YtadlkikjfonkgaaYg
namespace Go.Proofs.Ytadlkikjfonkgaa
open Go.RowKit Go.Conc
set_option linter.unusedVariables false

noncomputable def hS25 : Code := ((Try.f6.body.bind (seqAt 25)).getD .skip)
def wsE (ws : List Wc) (i : Nat) : Nat → List Wc
  | 0 => ws
  | j + 1 => (wsE ws i j).set (i * 4 + j) nilc
def ksE (ks : List Bool) (i : Nat) (b : Bool) : Nat → List Bool
  | 0 => ks
  | j + 1 => (ksE ks i b j).set (i * 4 + j) b
theorem wsE_len (ws : List Wc) (i : Nat) : ∀ j, (wsE ws i j).length = ws.length
  | 0 => rfl
  | j + 1 => by rw [wsE, List.length_set, wsE_len ws i j]
theorem ksE_len (ks : List Bool) (i : Nat) (b : Bool) : ∀ j, (ksE ks i b j).length = ks.length
  | 0 => rfl
  | j + 1 => by rw [ksE, List.length_set, ksE_len ks i b j]
theorem wsE_in (ws : List Wc) (i : Nat) : ∀ (j n : Nat), n < j → i * 4 + n < ws.length → (wsE ws i j)[i * 4 + n]? = some nilc
  | 0, n, h, _ => by omega
  | j + 1, n, h, hl => by
    rw [wsE]
    by_cases e : n = j
    · rw [e, List.getElem?_set_self (by rw [wsE_len, ← e]; exact hl)]
    · rw [List.getElem?_set_ne (by omega)]
      exact wsE_in ws i j n (by omega) hl
theorem wsE_out (ws : List Wc) (i : Nat) : ∀ (j n : Nat), (n < i * 4 ∨ i * 4 + j ≤ n) → (wsE ws i j)[n]? = ws[n]?
  | 0, n, _ => rfl
  | j + 1, n, h => by
    rw [wsE, List.getElem?_set_ne (by omega)]
    exact wsE_out ws i j n (by omega)
theorem ksE_in (ks : List Bool) (i : Nat) (b : Bool) : ∀ (j n : Nat), n < j → i * 4 + n < ks.length → (ksE ks i b j)[i * 4 + n]? = some b
  | 0, n, h, _ => by omega
  | j + 1, n, h, hl => by
    rw [ksE]
    by_cases e : n = j
    · rw [e, List.getElem?_set_self (by rw [ksE_len, ← e]; exact hl)]
    · rw [List.getElem?_set_ne (by omega)]
      exact ksE_in ks i b j n (by omega) hl
theorem ksE_out (ks : List Bool) (i : Nat) (b : Bool) : ∀ (j n : Nat), (n < i * 4 ∨ i * 4 + j ≤ n) → (ksE ks i b j)[n]? = ks[n]?
  | 0, n, _ => rfl
  | j + 1, n, h => by
    rw [ksE, List.getElem?_set_ne (by omega)]
    exact ksE_out ks i b j n (by omega)
theorem wrap_4 {i : Nat} (hi : i < 8) : IntKind.i64.wrap ((i : Int) * 4) = (i : Int) * 4 := by
  have h : ∀ i : Nat, i < 8 → IntKind.i64.wrap ((i : Int) * 4) = (i : Int) * 4 := by decide +kernel
  exact h i hi
theorem wrap_4j {i j : Nat} (hi : i < 8) (hj : j < 4) : IntKind.i64.wrap ((i : Int) * 4 + (j : Int)) = (i : Int) * 4 + (j : Int) := by
  have h : ∀ i : Nat, i < 8 → ∀ j : Nat, j < 4 → IntKind.i64.wrap ((i : Int) * 4 + (j : Int)) = (i : Int) * 4 + (j : Int) := by decide +kernel
  exact h i hi j hj
set_option maxHeartbeats 8000000 in
set_option maxRecDepth 100000 in
theorem s25_no {K : Act → World → Prop} {Q0 : Exit → Act → World → Prop} {w : World} {p b7 gw gk q14 : Nat} {F : Nat → Prop} {C : Ch} {ws : List Wc} {ks : List Bool} (u : World) (HM4 : Hid (HM w u p b7 gw gk F C ws ks)) (x : Ox) (HX4 : Hid (u.heap[q14]? = some (.cells #[.int .i64 x.o.k, .int .i64 x.o.b, .int .i64 x.o.p, .int .i64 x.o.bit, .bool x.o.fit, .slice x.da x.dn x.dc, .slice x.za x.zn x.zc] 56 (0, 0)))) (er : Int) (tr : Bool) (hno : ¬ (x.o.k = 2 ∧ tr = true)) (c0 c1 c2 c3 c4 c5 c6 c9 c12 c13 c16 c18 c19 c21 c22 c23 c24 c25 c26 c27 c28 c29 c30 c31 c32 c33 c34 c35 c36 c37 c38 c39 c40 c41 c42 c43 c44 c45 c46 c47 c48 c49 c50 c51 c52 c53 c54 c55 c56 c57 c58 c59 c60 c61 c62 c63 c64 c65 c66 c67 c68 c69 c70 c71 c72 c73 c74 c75 c76 c77 c78 c79 c80 c81 c82 c83 c84 c85 c86 c87 c88 c89 c90 c91 c92 c93 c94 c95 c96 c97 c98 c99 c100 c101 c102 c103 c104 c105 c106 c107 c108 c109 c110 c111 c112 c113 c114 c115 c116 c117 c118 c119 c120 c121 c122 c123 c124 c125 c126 c127 c128 c129 c130 c131 c132 c133 c134 c135 c136 c137 c138 c139 c140 c141 c142 c143 c144 c182 c183 c184 c185 c186 c187 c188 c189 c190 c191 c192 c193 c194 c195 c196 c197 c198 c199 c200 c201 c202 c203 c204 c205 c206 c207 c208 c209 c210 c211 c212 c213 c214 c215 c216 c217 c218 c219 c220 u20 u145 u146 u147 u148 u149 u150 u151 u152 u153 u154 u155 u156 u157 u158 u159 u160 u161 u162 u163 u164 u165 u166 u167 u168 u169 u170 u171 u172 u173 u174 u175 u176 u177 u178 u179 u180 u181 : Value)
    (hK : ∀ (x20 x145 x146 x147 x148 x149 x150 x151 x152 x153 x154 x155 x156 x157 x158 x159 x160 x161 x162 x163 x164 x165 x166 x167 x168 x169 x170 x171 x172 x173 x174 x175 x176 x177 x178 x179 x180 x181 : Value), K ⟨#[c0, c1, c2, c3, c4, c5, c6, .pointer (some ⟨b7, 0, none⟩), .pointer (some ⟨p, 0, none⟩), c9, .slice (some ⟨gw, 0, none⟩) 32 32, .slice (some ⟨gk, 0, none⟩) 32 32, c12, c13, .pointer (some ⟨q14, 0, none⟩), .int .i64 er, c16, .bool tr, c18, c19, x20, c21, c22, c23, c24, c25, c26, c27, c28, c29, c30, c31, c32, c33, c34, c35, c36, c37, c38, c39, c40, c41, c42, c43, c44, c45, c46, c47, c48, c49, c50, c51, c52, c53, c54, c55, c56, c57, c58, c59, c60, c61, c62, c63, c64, c65, c66, c67, c68, c69, c70, c71, c72, c73, c74, c75, c76, c77, c78, c79, c80, c81, c82, c83, c84, c85, c86, c87, c88, c89, c90, c91, c92, c93, c94, c95, c96, c97, c98, c99, c100, c101, c102, c103, c104, c105, c106, c107, c108, c109, c110, c111, c112, c113, c114, c115, c116, c117, c118, c119, c120, c121, c122, c123, c124, c125, c126, c127, c128, c129, c130, c131, c132, c133, c134, c135, c136, c137, c138, c139, c140, c141, c142, c143, c144, x145, x146, x147, x148, x149, x150, x151, x152, x153, x154, x155, x156, x157, x158, x159, x160, x161, x162, x163, x164, x165, x166, x167, x168, x169, x170, x171, x172, x173, x174, x175, x176, x177, x178, x179, x180, x181, c182, c183, c184, c185, c186, c187, c188, c189, c190, c191, c192, c193, c194, c195, c196, c197, c198, c199, c200, c201, c202, c203, c204, c205, c206, c207, c208, c209, c210, c211, c212, c213, c214, c215, c216, c217, c218, c219, c220], []⟩ u) :
    Code.wp Try.prog hS25 (Exit.then K Q0) ⟨#[c0, c1, c2, c3, c4, c5, c6, .pointer (some ⟨b7, 0, none⟩), .pointer (some ⟨p, 0, none⟩), c9, .slice (some ⟨gw, 0, none⟩) 32 32, .slice (some ⟨gk, 0, none⟩) 32 32, c12, c13, .pointer (some ⟨q14, 0, none⟩), .int .i64 er, c16, .bool tr, c18, c19, u20, c21, c22, c23, c24, c25, c26, c27, c28, c29, c30, c31, c32, c33, c34, c35, c36, c37, c38, c39, c40, c41, c42, c43, c44, c45, c46, c47, c48, c49, c50, c51, c52, c53, c54, c55, c56, c57, c58, c59, c60, c61, c62, c63, c64, c65, c66, c67, c68, c69, c70, c71, c72, c73, c74, c75, c76, c77, c78, c79, c80, c81, c82, c83, c84, c85, c86, c87, c88, c89, c90, c91, c92, c93, c94, c95, c96, c97, c98, c99, c100, c101, c102, c103, c104, c105, c106, c107, c108, c109, c110, c111, c112, c113, c114, c115, c116, c117, c118, c119, c120, c121, c122, c123, c124, c125, c126, c127, c128, c129, c130, c131, c132, c133, c134, c135, c136, c137, c138, c139, c140, c141, c142, c143, c144, u145, u146, u147, u148, u149, u150, u151, u152, u153, u154, u155, u156, u157, u158, u159, u160, u161, u162, u163, u164, u165, u166, u167, u168, u169, u170, u171, u172, u173, u174, u175, u176, u177, u178, u179, u180, u181, c182, c183, c184, c185, c186, c187, c188, c189, c190, c191, c192, c193, c194, c195, c196, c197, c198, c199, c200, c201, c202, c203, c204, c205, c206, c207, c208, c209, c210, c211, c212, c213, c214, c215, c216, c217, c218, c219, c220], []⟩ u := by
  conv => arg 2; whnf
  have HK := hide hK
  clear hK
  have hy0 := (cells7 HX4.out).1
  go_wp2
  go_loopw [20] (fun s20 wr => s20 = .int .i64 0 ∧ Hid (wr = u)) (fun _ _ => 0)
  case atStart => exact ⟨rfl, rfl⟩
  case round =>
    obtain ⟨rfl, hw9⟩ := hrel
    have hw8 := hw9.out
    subst hw8
    by_cases h1 : x.o.k = 2
    · have d1 : (x.o.k == 2) = true := by rw [h1]; rfl
      have ht : tr = false := by cases tr; rfl; exact absurd ⟨h1, rfl⟩ hno
      subst ht
      clear h1 hno
      go_wp2
      exact HK.out _ _ _ _ _ _ _ _ _ _ _ _ _ _ _ _ _ _ _ _ _ _ _ _ _ _ _ _ _ _ _ _ _ _ _ _ _ _ 
    · have d1 : (x.o.k == 2) = false := by simp [h1]
      clear h1 hno
      go_wp2
      exact HK.out _ _ _ _ _ _ _ _ _ _ _ _ _ _ _ _ _ _ _ _ _ _ _ _ _ _ _ _ _ _ _ _ _ _ _ _ _ _ 
set_option maxHeartbeats 8000000 in
set_option maxRecDepth 100000 in
theorem s25_yes {K : Act → World → Prop} {Q0 : Exit → Act → World → Prop} {w : World} {p b7 gw gk q14 : Nat} {F : Nat → Prop} {C : Ch} {ws : List Wc} {ks : List Bool} (u : World) (HM4 : Hid (HM w u p b7 gw gk F C ws ks)) (x : Ox) (HX4 : Hid (u.heap[q14]? = some (.cells #[.int .i64 x.o.k, .int .i64 x.o.b, .int .i64 x.o.p, .int .i64 x.o.bit, .bool x.o.fit, .slice x.da x.dn x.dc, .slice x.za x.zn x.zc] 56 (0, 0)))) (er : Int) (hQ : ∀ (c : _) (a : Act) (d : Nat) (v : Value) (w : World), Q0 (.panic c) (a.put (some d) v) w → Q0 (.panic c) a w) (i : Nat) (hi : i < 8) (hob : x.o.b = (i : Int)) (hk : x.o.k = 2) (c0 c1 c2 c3 c4 c5 c6 c9 c12 c13 c16 c18 c19 c21 c22 c23 c24 c25 c26 c27 c28 c29 c30 c31 c32 c33 c34 c35 c36 c37 c38 c39 c40 c41 c42 c43 c44 c45 c46 c47 c48 c49 c50 c51 c52 c53 c54 c55 c56 c57 c58 c59 c60 c61 c62 c63 c64 c65 c66 c67 c68 c69 c70 c71 c72 c73 c74 c75 c76 c77 c78 c79 c80 c81 c82 c83 c84 c85 c86 c87 c88 c89 c90 c91 c92 c93 c94 c95 c96 c97 c98 c99 c100 c101 c102 c103 c104 c105 c106 c107 c108 c109 c110 c111 c112 c113 c114 c115 c116 c117 c118 c119 c120 c121 c122 c123 c124 c125 c126 c127 c128 c129 c130 c131 c132 c133 c134 c135 c136 c137 c138 c139 c140 c141 c142 c143 c144 c182 c183 c184 c185 c186 c187 c188 c189 c190 c191 c192 c193 c194 c195 c196 c197 c198 c199 c200 c201 c202 c203 c204 c205 c206 c207 c208 c209 c210 c211 c212 c213 c214 c215 c216 c217 c218 c219 c220 u20 u145 u146 u147 u148 u149 u150 u151 u152 u153 u154 u155 u156 u157 u158 u159 u160 u161 u162 u163 u164 u165 u166 u167 u168 u169 u170 u171 u172 u173 u174 u175 u176 u177 u178 u179 u180 u181 : Value)
    (hK : ∀ (x20 x145 x146 x147 x148 x149 x150 x151 x152 x153 x154 x155 x156 x157 x158 x159 x160 x161 x162 x163 x164 x165 x166 x167 x168 x169 x170 x171 x172 x173 x174 x175 x176 x177 x178 x179 x180 x181 : Value) (u' : World), HM w u' p b7 gw gk F C (wsE ws i 4) (ksE ks i (er == 0) 4) → u'.heap[q14]? = some (.cells #[.int .i64 x.o.k, .int .i64 x.o.b, .int .i64 x.o.p, .int .i64 x.o.bit, .bool x.o.fit, .slice x.da x.dn x.dc, .slice x.za x.zn x.zc] 56 (0, 0)) → K ⟨#[c0, c1, c2, c3, c4, c5, c6, .pointer (some ⟨b7, 0, none⟩), .pointer (some ⟨p, 0, none⟩), c9, .slice (some ⟨gw, 0, none⟩) 32 32, .slice (some ⟨gk, 0, none⟩) 32 32, c12, c13, .pointer (some ⟨q14, 0, none⟩), .int .i64 er, c16, .bool true, c18, c19, x20, c21, c22, c23, c24, c25, c26, c27, c28, c29, c30, c31, c32, c33, c34, c35, c36, c37, c38, c39, c40, c41, c42, c43, c44, c45, c46, c47, c48, c49, c50, c51, c52, c53, c54, c55, c56, c57, c58, c59, c60, c61, c62, c63, c64, c65, c66, c67, c68, c69, c70, c71, c72, c73, c74, c75, c76, c77, c78, c79, c80, c81, c82, c83, c84, c85, c86, c87, c88, c89, c90, c91, c92, c93, c94, c95, c96, c97, c98, c99, c100, c101, c102, c103, c104, c105, c106, c107, c108, c109, c110, c111, c112, c113, c114, c115, c116, c117, c118, c119, c120, c121, c122, c123, c124, c125, c126, c127, c128, c129, c130, c131, c132, c133, c134, c135, c136, c137, c138, c139, c140, c141, c142, c143, c144, x145, x146, x147, x148, x149, x150, x151, x152, x153, x154, x155, x156, x157, x158, x159, x160, x161, x162, x163, x164, x165, x166, x167, x168, x169, x170, x171, x172, x173, x174, x175, x176, x177, x178, x179, x180, x181, c182, c183, c184, c185, c186, c187, c188, c189, c190, c191, c192, c193, c194, c195, c196, c197, c198, c199, c200, c201, c202, c203, c204, c205, c206, c207, c208, c209, c210, c211, c212, c213, c214, c215, c216, c217, c218, c219, c220], []⟩ u') :
    Code.wp Try.prog hS25 (Exit.then K Q0) ⟨#[c0, c1, c2, c3, c4, c5, c6, .pointer (some ⟨b7, 0, none⟩), .pointer (some ⟨p, 0, none⟩), c9, .slice (some ⟨gw, 0, none⟩) 32 32, .slice (some ⟨gk, 0, none⟩) 32 32, c12, c13, .pointer (some ⟨q14, 0, none⟩), .int .i64 er, c16, .bool true, c18, c19, u20, c21, c22, c23, c24, c25, c26, c27, c28, c29, c30, c31, c32, c33, c34, c35, c36, c37, c38, c39, c40, c41, c42, c43, c44, c45, c46, c47, c48, c49, c50, c51, c52, c53, c54, c55, c56, c57, c58, c59, c60, c61, c62, c63, c64, c65, c66, c67, c68, c69, c70, c71, c72, c73, c74, c75, c76, c77, c78, c79, c80, c81, c82, c83, c84, c85, c86, c87, c88, c89, c90, c91, c92, c93, c94, c95, c96, c97, c98, c99, c100, c101, c102, c103, c104, c105, c106, c107, c108, c109, c110, c111, c112, c113, c114, c115, c116, c117, c118, c119, c120, c121, c122, c123, c124, c125, c126, c127, c128, c129, c130, c131, c132, c133, c134, c135, c136, c137, c138, c139, c140, c141, c142, c143, c144, u145, u146, u147, u148, u149, u150, u151, u152, u153, u154, u155, u156, u157, u158, u159, u160, u161, u162, u163, u164, u165, u166, u167, u168, u169, u170, u171, u172, u173, u174, u175, u176, u177, u178, u179, u180, u181, c182, c183, c184, c185, c186, c187, c188, c189, c190, c191, c192, c193, c194, c195, c196, c197, c198, c199, c200, c201, c202, c203, c204, c205, c206, c207, c208, c209, c210, c211, c212, c213, c214, c215, c216, c217, c218, c219, c220], []⟩ u := by
  conv => arg 2; whnf
  have HK := hide hK
  clear hK
  have HOB := hide hob
  have d1 : (x.o.k == 2) = true := by rw [hk]; rfl
  clear hob hk
  go_wp2
  go_loopw [20] (fun s20 wr => ∃ j : Nat, j ≤ 4 ∧ s20 = .int .i64 j ∧ Hid (HM w wr p b7 gw gk F C (wsE ws i j) (ksE ks i (er == 0) j)) ∧ Hid (wr.heap[q14]? = some (.cells #[.int .i64 x.o.k, .int .i64 x.o.b, .int .i64 x.o.p, .int .i64 x.o.bit, .bool x.o.fit, .slice x.da x.dn x.dc, .slice x.za x.zn x.zc] 56 (0, 0)))) (fun s20 _ => 4 - (intOf s20).toNat)
  case atStart => exact ⟨0, by omega, rfl, HM4, HX4⟩
  case round =>
    obtain ⟨j, hj, rfl, HM5, HX5⟩ := hrel
    clear HM4 HX4
    obtain ⟨y0, y1, _⟩ := cells7 HX5.out
    rw [HOB.out] at y1
    obtain ⟨z0, z1, z2⟩ := cells3 (HM5.out.hd.blk (g := b7) (o := box8) (by simp))
    by_cases hjt : j < 4
    · have dm : decide ((j : Int) < 4) = true := decide_eq_true (by omega)
      have j1 : (j : Int) < 4 := by omega
      have i1 : (i : Int) < 8 := by omega
      have hwr := HM5.out.hd.blk (g := gw) (o := wobj (wsE ws i j)) (by simp)
      obtain ⟨wc, hwc⟩ : ∃ c, (wsE ws i j)[i * 4 + j]? = some c := ⟨_, List.getElem?_eq_getElem (by rw [HM5.out.wl]; omega)⟩
      have hcw := wcell hwr hwc
      have fzw := fun n => frozen_of_row wr gw n _ 24 hwr
      have HM6 : Hid (HM w (wr.setCell ⟨gw, i * 4 + j, none⟩ (.slice none 0 0)) p b7 gw gk F C (wsE ws i (j + 1)) (ksE ks i (er == 0) j)) := HM5.out.setW (i * 4 + j) nilc (Or.inl ⟨rfl, rfl⟩)
      have HX6 : Hid ((wr.setCell ⟨gw, i * 4 + j, none⟩ (.slice none 0 0)).heap[q14]? = some (.cells #[.int .i64 x.o.k, .int .i64 x.o.b, .int .i64 x.o.p, .int .i64 x.o.bit, .bool x.o.fit, .slice x.da x.dn x.dc, .slice x.za x.zn x.zc] 56 (0, 0))) := ((Only.setCell (· = gw) _ gw (i * 4 + j) (.slice none 0 0) rfl).block q14 (lt_of_block HX5.out) (fun e => tag_ne HX5.out hwr (t := 56) (u := 24) rfl rfl (by decide) e)).trans HX5.out
      have HM6d := hide (HM6.out.below (drew_below _))
      have hkr := HM6d.out.hd.blk (g := gk) (o := kobj (ksE ks i (er == 0) j)) (by simp)
      have HX6d : Hid (((wr.setCell ⟨gw, i * 4 + j, none⟩ (.slice none 0 0)).drew).heap[q14]? = some (.cells #[.int .i64 x.o.k, .int .i64 x.o.b, .int .i64 x.o.p, .int .i64 x.o.bit, .bool x.o.fit, .slice x.da x.dn x.dc, .slice x.za x.zn x.zc] 56 (0, 0))) := ((drew_below (wr.setCell ⟨gw, i * 4 + j, none⟩ (.slice none 0 0))).block q14 (lt_of_block HX6.out)).trans HX6.out
      obtain ⟨kv, hkv⟩ : ∃ c, (ksE ks i (er == 0) j)[i * 4 + j]? = some c := ⟨_, List.getElem?_eq_getElem (by rw [HM5.out.kl]; omega)⟩
      have hcv := kcell hkr hkv
      have fzk := fun n => frozen_of_row ((wr.setCell ⟨gw, i * 4 + j, none⟩ (.slice none 0 0)).drew) gk n _ 4 hkr
      have HM7 : Hid (HM w (((wr.setCell ⟨gw, i * 4 + j, none⟩ (.slice none 0 0)).drew).setCell ⟨gk, i * 4 + j, none⟩ (.bool (er == 0))) p b7 gw gk F C (wsE ws i (j + 1)) (ksE ks i (er == 0) (j + 1))) := HM6d.out.setK (i * 4 + j) (er == 0)
      have HX7 : Hid ((((wr.setCell ⟨gw, i * 4 + j, none⟩ (.slice none 0 0)).drew).setCell ⟨gk, i * 4 + j, none⟩ (.bool (er == 0))).heap[q14]? = some (.cells #[.int .i64 x.o.k, .int .i64 x.o.b, .int .i64 x.o.p, .int .i64 x.o.bit, .bool x.o.fit, .slice x.da x.dn x.dc, .slice x.za x.zn x.zc] 56 (0, 0))) := ((Only.setCell (· = gk) _ gk (i * 4 + j) (.bool (er == 0)) rfl).block q14 (lt_of_block HX6d.out) (fun e => tag_ne HX6d.out hkr (t := 56) (u := 4) rfl rfl (by decide) e)).trans HX6d.out
      have y1d := (cells7 HX6.out).2.1.trans (by rw [HOB.out])
      have z1d := (cells3 (HM6.out.hd.blk (g := b7) (o := box8) (by simp))).2.1
      have hw1 : wrap64 ((i : Int) * 4) = (i : Int) * 4 := by unfold wrap64; omega
      have hw2 : wrap64 ((i : Int) * 4 + (j : Int)) = ((i * 4 + j : Nat) : Int) := by unfold wrap64; omega
      have hw3 : ((i * 4 + j : Nat) : Int) < 32 := by omega
      have hv1 : IntKind.i64.wrap ((i : Int) * 4) = (i : Int) * 4 := wrap_4 hi
      have hv2 : IntKind.i64.wrap ((i : Int) * 4 + (j : Int)) = (i : Int) * 4 + (j : Int) := wrap_4j hi hjt
      have hv3 : 0 ≤ (i : Int) * 4 + (j : Int) ∧ (i : Int) * 4 + (j : Int) < 32 := by omega
      have hv4 : ((i : Int) * 4 + (j : Int)).toNat = i * 4 + j := by omega
      clear hwr hwc hkr hkv
      go_upto_region 29 with fail
      refine wp_region_held_drew (S := (fun u => u.cell? ⟨q14, 1, none⟩ = some (.int .i64 (i : Int)) ∧ u.cell? ⟨b7, 1, none⟩ = some (.int .i64 4))) (by kernel_rfl) (⟨y1d, z1d⟩) (fun hHeld => ?_)
      refine wpAnyH_take (i := 0) (oi := { dst := some 169, op := Op.move (Operand.tmp 11), type := 25, pos := "outright.go:164", after := #[], guard := none }) (v := ?v0) rfl (by kernel_rfl) (by kernel_rfl) (by kernel_rfl) (fun _ _ _ h => hQ _ _ _ _ _ h) (Or.inl ⟨by rfl, ?y0⟩) (by assumption) ?r0
      case y0 => (intro x hx; (try dsimp only at hx); go_simp; try with_reducible rfl)
      try simp only [Act.put, List.setIfInBounds_toArray, List.set_cons_zero, List.set_cons_succ]
      refine wpAnyH_take (i := 1) (oi := { dst := some 170, op := Op.fieldAddr 56 (Operand.tmp 14) 1, type := 0, pos := "outright.go:164", after := #[], guard := none }) (v := ?v1) rfl (by kernel_rfl) (by kernel_rfl) (by kernel_rfl) (fun _ _ _ h => hQ _ _ _ _ _ h) (Or.inl ⟨by rfl, ?y1⟩) (by assumption) ?r1
      case y1 => (intro x hx; (try dsimp only at hx); go_simp; try with_reducible rfl)
      try simp only [Act.put, List.setIfInBounds_toArray, List.set_cons_zero, List.set_cons_succ]
      refine wpAnyH_take (i := 2) (oi := { dst := some 171, op := Op.fieldAddr 41 (Operand.tmp 170) 0, type := 0, pos := "outright.go:164", after := #[{ on := 1, ground := Ground.data }], guard := none }) (v := ?v2) rfl (by kernel_rfl) (by kernel_rfl) (by kernel_rfl) (fun _ _ _ h => hQ _ _ _ _ _ h) (Or.inl ⟨by rfl, ?y2⟩) (by assumption) ?r2
      case y2 => (intro x hx; (try dsimp only at hx); go_simp; try with_reducible rfl)
      try simp only [Act.put, List.setIfInBounds_toArray, List.set_cons_zero, List.set_cons_succ]
      refine wpAnyH_take (i := 3) (oi := { dst := some 172, op := Op.load 3 (Operand.tmp 171), type := 3, pos := "outright.go:164", after := #[{ on := 2, ground := Ground.data }], guard := none }) (v := ?v3) rfl (by kernel_rfl) (by kernel_rfl) (by kernel_rfl) (fun _ _ _ h => hQ _ _ _ _ _ h) (Or.inl ⟨by rfl, ?y3⟩) (by assumption) ?r3
      case y3 => (intro x hx; (try dsimp only at hx); go_simp; try with_reducible rfl)
      try simp only [Act.put, List.setIfInBounds_toArray, List.set_cons_zero, List.set_cons_succ]
      refine wpAnyH_take (i := 4) (oi := { dst := some 173, op := Op.fieldAddr 23 (Operand.tmp 7) 1, type := 0, pos := "outright.go:164", after := #[], guard := none }) (v := ?v4) rfl (by kernel_rfl) (by kernel_rfl) (by kernel_rfl) (fun _ _ _ h => hQ _ _ _ _ _ h) (Or.inl ⟨by rfl, ?y4⟩) (by assumption) ?r4
      case y4 => (intro x hx; (try dsimp only at hx); go_simp; try with_reducible rfl)
      try simp only [Act.put, List.setIfInBounds_toArray, List.set_cons_zero, List.set_cons_succ]
      refine wpAnyH_take (i := 5) (oi := { dst := some 174, op := Op.load 3 (Operand.tmp 173), type := 3, pos := "outright.go:164", after := #[{ on := 4, ground := Ground.data }], guard := none }) (v := ?v5) rfl (by kernel_rfl) (by kernel_rfl) (by kernel_rfl) (fun _ _ _ h => hQ _ _ _ _ _ h) (Or.inl ⟨by rfl, ?y5⟩) (by assumption) ?r5
      case y5 => (intro x hx; (try dsimp only at hx); go_simp; try with_reducible rfl)
      try simp only [Act.put, List.setIfInBounds_toArray, List.set_cons_zero, List.set_cons_succ]
      refine wpAnyH_take (i := 6) (oi := { dst := some 175, op := Op.binOp BinOp.mul 3 (Operand.tmp 172) (Operand.tmp 174) 3, type := 3, pos := "outright.go:164", after := #[{ on := 3, ground := Ground.data }, { on := 5, ground := Ground.data }], guard := none }) (v := ?v6) rfl (by kernel_rfl) (by kernel_rfl) (by kernel_rfl) (fun _ _ _ h => hQ _ _ _ _ _ h) (Or.inl ⟨by rfl, ?y6⟩) (by assumption) ?r6
      case y6 => (intro x hx; (try dsimp only at hx); go_simp; try with_reducible rfl)
      try simp only [Act.put, List.setIfInBounds_toArray, List.set_cons_zero, List.set_cons_succ]
      refine wpAnyH_take (i := 7) (oi := { dst := some 176, op := Op.move (Operand.tmp 20), type := 3, pos := "outright.go:164", after := #[], guard := none }) (v := ?v7) rfl (by kernel_rfl) (by kernel_rfl) (by kernel_rfl) (fun _ _ _ h => hQ _ _ _ _ _ h) (Or.inl ⟨by rfl, ?y7⟩) (by assumption) ?r7
      case y7 => (intro x hx; (try dsimp only at hx); go_simp; try with_reducible rfl)
      try simp only [Act.put, List.setIfInBounds_toArray, List.set_cons_zero, List.set_cons_succ]
      refine wpAnyH_take (i := 8) (oi := { dst := some 177, op := Op.binOp BinOp.add 3 (Operand.tmp 175) (Operand.tmp 176) 3, type := 3, pos := "outright.go:164", after := #[{ on := 6, ground := Ground.data }, { on := 7, ground := Ground.data }], guard := none }) (v := ?v8) rfl (by kernel_rfl) (by kernel_rfl) (by kernel_rfl) (fun _ _ _ h => hQ _ _ _ _ _ h) (Or.inl ⟨by rfl, ?y8⟩) (by assumption) ?r8
      case y8 => (intro x hx; (try dsimp only at hx); go_simp; try with_reducible rfl)
      try simp only [Act.put, List.setIfInBounds_toArray, List.set_cons_zero, List.set_cons_succ]
      refine wpAnyH_take (i := 9) (oi := { dst := some 178, op := Op.move (Operand.tmp 15), type := 30, pos := "outright.go:164", after := #[], guard := none }) (v := ?v9) rfl (by kernel_rfl) (by kernel_rfl) (by kernel_rfl) (fun _ _ _ h => hQ _ _ _ _ _ h) (Or.inl ⟨by rfl, ?y9⟩) (by assumption) ?r9
      case y9 => (intro x hx; (try dsimp only at hx); go_simp; try with_reducible rfl)
      try simp only [Act.put, List.setIfInBounds_toArray, List.set_cons_zero, List.set_cons_succ]
      refine wpAnyH_ready (rs := [10]) (by kernel_rfl) (by simp) ?_
      refine AllReadyH.cons (o := { dst := some 179, op := Op.call { callee := Callee.value (Operand.func 11), args := #[Operand.tmp 178], argTypes := #[30] }, type := 3, pos := "outright.go:164", after := #[{ on := 9, ground := Ground.data }], guard := none }) rfl (fun K_ hK => ?_) AllReadyH.nil
      go_simp
      go_at_call 11
      refine (no_any' er _).mono ?_
      rintro e v0 ⟨rfl, hv0⟩
      subst hv0
      have hSnew := hHeld
      go_wp2_with fail
      refine hK.out _ _ hSnew (fun hHeld10 => ?_)
      clear hK K_ hSnew
      clear hHeld
      have hHeld := hHeld10
      clear hHeld10
      try simp only [Act.put, List.setIfInBounds_toArray, List.set_cons_zero, List.set_cons_succ]
      refine wpAnyH_take (i := 11) (oi := { dst := some 180, op := Op.binOp BinOp.eql 3 (Operand.tmp 179) (Operand.const (Value.int IntKind.i64 0)) 3, type := 4, pos := "outright.go:164", after := #[{ on := 10, ground := Ground.data }], guard := none }) (v := ?v11) rfl (by kernel_rfl) (by kernel_rfl) (by kernel_rfl) (fun _ _ _ h => hQ _ _ _ _ _ h) (Or.inl ⟨by rfl, ?y11⟩) (by assumption) ?r11
      case y11 => (intro x hx; (try dsimp only at hx); go_simp; try with_reducible rfl)
      try simp only [Act.put, List.setIfInBounds_toArray, List.set_cons_zero, List.set_cons_succ]
      refine wpAnyH_take (i := 12) (oi := { dst := some 181, op := Op.indexAddr 25 (Operand.tmp 169) (Operand.tmp 177), type := 0, pos := "outright.go:164", after := #[{ on := 0, ground := Ground.data }, { on := 8, ground := Ground.data }, { on := 0, ground := Ground.phase }, { on := 1, ground := Ground.phase }, { on := 2, ground := Ground.phase }, { on := 3, ground := Ground.phase }, { on := 4, ground := Ground.phase }, { on := 5, ground := Ground.phase }, { on := 6, ground := Ground.phase }, { on := 7, ground := Ground.phase }, { on := 8, ground := Ground.phase }, { on := 9, ground := Ground.phase }, { on := 10, ground := Ground.phase }, { on := 11, ground := Ground.phase }], guard := none }) (v := ?v12) rfl (by kernel_rfl) (by kernel_rfl) (by kernel_rfl) (fun _ _ _ h => hQ _ _ _ _ _ h) (Or.inl ⟨by rfl, ?y12⟩) (by assumption) ?r12
      case y12 => (intro x hx; (try dsimp only at hx); go_simp; try with_reducible rfl)
      try simp only [Act.put, List.setIfInBounds_toArray, List.set_cons_zero, List.set_cons_succ]
      refine wpAnyH_ready (rs := [13]) (by kernel_rfl) (by simp) ?_
      refine AllReadyH.cons (o := { dst := none, op := Op.store 4 (Operand.tmp 181) (Operand.tmp 180), type := 0, pos := "outright.go:164", after := #[{ on := 12, ground := Ground.data }, { on := 11, ground := Ground.data }, { on := 10, ground := Ground.chain }, { on := 0, ground := Ground.phase }, { on := 1, ground := Ground.phase }, { on := 2, ground := Ground.phase }, { on := 3, ground := Ground.phase }, { on := 4, ground := Ground.phase }, { on := 5, ground := Ground.phase }, { on := 6, ground := Ground.phase }, { on := 7, ground := Ground.phase }, { on := 8, ground := Ground.phase }, { on := 9, ground := Ground.phase }, { on := 10, ground := Ground.phase }, { on := 11, ground := Ground.phase }], guard := none }) rfl (fun K_ hK => ?_) AllReadyH.nil
      go_simp
      go_wp2_with fail
      have hSnew : (fun u => u.cell? ⟨q14, 1, none⟩ = some (.int .i64 (i : Int)) ∧ u.cell? ⟨b7, 1, none⟩ = some (.int .i64 4)) (((wr.setCell ⟨gw, i * 4 + j, none⟩ (.slice none 0 0)).drew).setCell ⟨gk, i * 4 + j, none⟩ (.bool (er == 0))) := ⟨(cells7 HX7.out).2.1.trans (by rw [HOB.out]), (cells3 (HM7.out.hd.blk (g := b7) (o := box8) (by simp))).2.1⟩
      change K_ _ (((wr.setCell ⟨gw, i * 4 + j, none⟩ (.slice none 0 0)).drew).setCell ⟨gk, i * 4 + j, none⟩ (.bool (er == 0)))
      refine hK.out _ _ hSnew (fun hHeld13 => ?_)
      clear hK K_ hSnew
      clear hHeld
      have hHeld := hHeld13
      clear hHeld13
      try simp only [Act.put, List.setIfInBounds_toArray, List.set_cons_zero, List.set_cons_succ]
      refine wpAnyH_done (by kernel_rfl) ?_ _
      clear hHeld
      clear y0 y1 y1d z0 z1 z2 z1d hcw fzw hcv fzk
      go_wp2
      go_roundw
      case rel => exact ⟨j + 1, by omega, by go_num, HM7, HX7⟩
      case measure => simp [intOf]; omega
    · have dm : decide ((j : Int) < 4) = false := decide_eq_false (by omega)
      have e4 : j = 4 := by omega
      subst e4
      go_wp2
      exact HK.out _ _ _ _ _ _ _ _ _ _ _ _ _ _ _ _ _ _ _ _ _ _ _ _ _ _ _ _ _ _ _ _ _ _ _ _ _ _ _ HM5.out HX5.out
end Go.Proofs.Ytadlkikjfonkgaa
namespace Go.Proofs.Ytadlkikjfonkgaa
open Go.RowKit Go.Conc
set_option linter.unusedVariables false

theorem wrap_kk {i k : Nat} (hi : i < 8) (hk : k < 4) : wrap64 (wrap64 ((i : Int) * 4) + (k : Int)) = ((i * 4 + k : Nat) : Int) := by unfold wrap64; omega
theorem tab_prog {ws : List Wc} {ks : List Bool} {W : Nat → Nat → Option (List Int)} {K : Nat → Nat → Bool} {C : Ch} {o : Opc} {i k : Nat} {c : Wc} (h : Tab ws ks W K) (hw : ws.length = 32) (hkl : ks.length = 32) (hi : i < 8) (hk : k < 4) (h1 : o.k = 1) (ht : triedE (doesC C o).1 (doesC C o).2.dark = true) (e1 : o.b = i) (e2 : o.p = k) (hc : c.z = if (doesC C o).1 = 0 ∧ K i k = true then some (o.want C.S) else none) : Tab (ws.set (i * 4 + k) c) (ks.set (i * 4 + k) false) (stepW C o K W) (stepK C o K) := by
  intro i' k' hi' hk'
  by_cases e : i' = i ∧ k' = k
  · obtain ⟨rfl, rfl⟩ := e
    have s1 : stepW C o K W i' k' = if (doesC C o).1 = 0 ∧ K i' k' = true then some (o.want C.S) else none := if_pos ⟨h1, ht, e1.symm, e2.symm⟩
    have s2 : stepK C o K i' k' = false := if_pos ⟨h1, ht, e1.symm, e2.symm⟩
    rw [s1, s2, ← hc, List.getElem?_set_self (by omega), List.getElem?_set_self (by omega)]
    exact ⟨rfl, rfl⟩
  · have n2 : ¬ (o.k = 2 ∧ triedE (doesC C o).1 (doesC C o).2.dark = true ∧ (i' : Int) = o.b) := fun h9 => by rw [h1] at h9; exact absurd h9.1 (by decide)
    have n1 : ¬ (o.k = 1 ∧ triedE (doesC C o).1 (doesC C o).2.dark = true ∧ (i' : Int) = o.b ∧ (k' : Int) = o.p) := fun h9 => e ⟨by omega, by omega⟩
    have s1 : stepW C o K W i' k' = W i' k' := (if_neg n1).trans (if_neg n2)
    have s2 : stepK C o K i' k' = K i' k' := (if_neg n1).trans (if_neg n2)
    rw [s1, s2, List.getElem?_set_ne (by omega), List.getElem?_set_ne (by omega)]
    exact h i' k' hi' hk'
theorem tab_erase {ws : List Wc} {ks : List Bool} {W : Nat → Nat → Option (List Int)} {K : Nat → Nat → Bool} {C : Ch} {o : Opc} {i : Nat} (h : Tab ws ks W K) (hw : ws.length = 32) (hkl : ks.length = 32) (hi : i < 8) (h2 : o.k = 2) (ht : triedE (doesC C o).1 (doesC C o).2.dark = true) (e1 : o.b = i) : Tab (wsE ws i 4) (ksE ks i ((doesC C o).1 == 0) 4) (stepW C o K W) (stepK C o K) := by
  intro i' k' hi' hk'
  have n1 : ¬ (o.k = 1 ∧ triedE (doesC C o).1 (doesC C o).2.dark = true ∧ (i' : Int) = o.b ∧ (k' : Int) = o.p) := fun h9 => by rw [h2] at h9; exact absurd h9.1 (by decide)
  by_cases e : i' = i
  · subst e
    have s1 : stepW C o K W i' k' = none := (if_neg n1).trans (if_pos ⟨h2, ht, e1.symm⟩)
    have s2 : stepK C o K i' k' = ((doesC C o).1 == 0) := (if_neg n1).trans (if_pos ⟨h2, ht, e1.symm⟩)
    rw [s1, s2, wsE_in ws i' 4 k' hk' (by omega), ksE_in ks i' _ 4 k' hk' (by omega)]
    exact ⟨rfl, rfl⟩
  · have n2 : ¬ (o.k = 2 ∧ triedE (doesC C o).1 (doesC C o).2.dark = true ∧ (i' : Int) = o.b) := fun h9 => e (by omega)
    have s1 : stepW C o K W i' k' = W i' k' := (if_neg n1).trans (if_neg n2)
    have s2 : stepK C o K i' k' = K i' k' := (if_neg n1).trans (if_neg n2)
    rw [s1, s2, wsE_out ws i 4 _ (by omega), ksE_out ks i _ 4 _ (by omega)]
    exact h i' k' hi' hk'
set_option maxHeartbeats 8000000 in
set_option maxRecDepth 100000 in
theorem holds_yes (w : World) (ba : Option Addr) (bn bc : Nat) (bad : List Int) (hR : ReadsI w ba bn bad) (hbn : bn ≤ 9223372036854775807) (sa : Option Addr) (n c : Nat) (fs : List Fc) (hF : ReadsF w sa n fs) (hn : n ≤ 9223372036854775807) (oa : Option Addr) (on oc : Nat) (xs : List Ox) (hO : ReadsO w oa on xs) (hon : on ≤ 1600000000000) (hne : NewE 8 4 1 bad fs = 0) :
    Calls Try.prog 6 #[.slice ba bn bc, .slice sa n c, .slice oa on oc] w fun e w' => e = .returned (.bool true) ∧ Below w.heap.size w w' := by
  obtain ⟨C0, hC0⟩ : ∃ C, C = newC 8 4 1 bad (fs.map Fc.t) := ⟨_, rfl⟩
  have HL0 : Hid (Life C0 0) := by rw [hC0]; exact newC_life 8 4 1 bad _ (by decide)
  have HR := hide hR
  have HF := hide hF
  have HO := hide hO
  have hfb : faultsB fs = true := by
    have h9 := hne
    unfold NewE at h9
    split at h9
    · cases h9
    split at h9
    · cases h9
    split at h9
    · cases h9
    · rename_i h1 h2 h3; simpa using h3
  have HKF : Hid (∀ f ∈ fs.map Fc.t, f.k = 1 ∨ f.k = 2) := fmb_kinds hfb
  have HNE := hide hne
  have HC0 := hide hC0
  clear hfb
  have hm61 := mk61
  have hm25 := mk25b
  clear hR hF hO hne hC0
  go_enter Try.func6, Try.ntmps6
  go_upto_region 5 with (first
    | (go_at_call 20; refine (lshape_any _).mono ?_; rintro e u1 ⟨rfl, b1⟩; have HB1 := hide (below_trans b1 (below_alloc u1 (.cells #[.int .i64 8, .int .i64 4, .int .i64 1] 23))); have HU1 := hide b1.size; have HG1 := hide (alloc_new u1 (.cells #[.int .i64 8, .int .i64 4, .int .i64 1] 23)); clear b1)
    | (go_at_call 21; refine (New_any _ 8 4 1 ba bn bc bad (HR.out.below HB1.out) hbn sa n c fs (HF.out.below HB1.out) hn).mono ?_; rintro e u2 hnew; obtain ⟨p, hE, hch⟩ := hnew.yes HNE.out; subst hE; have HCH : Hid (ChipAt u2 p (fun k => u1.heap.size + 1 ≤ k ∧ k < u2.heap.size) C0) := (by rw [HC0.out]; have h9 := hch; rw [alloc_size] at h9; exact h9); have HN2 := hide hnew.bel; clear hnew hch)
    | (go_at_call 11; refine (no_any' 0 _).mono ?_; rintro e v0 ⟨rfl, hv0⟩; subst hv0))
  obtain ⟨b7, hb7⟩ : ∃ b, b = u1.heap.size := ⟨_, rfl⟩
  have HA0 : Hid (∃ F, HD w v0 p F [(b7, box8)] C0) := by
    have h1 := HU1.out
    refine ⟨_, ⟨below_trans HB1.out HN2.out, HCH.out, fun k hk => by omega, fun x hx => ?_⟩⟩
    simp at hx
    subst hx
    rw [hb7]
    exact ⟨(HN2.out.block _ (lt_of_block HG1.out)).trans HG1.out, (fun hf => by have := hf.1; omega), h1⟩
  rw [← hb7]
  clear hb7 HCH HN2 HG1 HU1 HB1
  obtain ⟨F0, HH0⟩ := HA0.out
  have HH := hide HH0
  obtain ⟨x0, x1, x2⟩ := cells3 (HH0.blk (List.mem_cons_self))
  have hbl := lt_of_block (HH0.blk (List.mem_cons_self))
  have HM0 := hide (hm_start HH0)
  clear HH0 HA0
  go_wp2
  generalize hU : (v0.alloc (.cells w0row 24)).alloc (.cells k0row 4) = U at HM0 ⊢
  generalize hgw : v0.heap.size = gw at HM0 ⊢
  generalize hgk : gw + 1 = gk at HM0 ⊢
  clear hU hgw hgk HH x0 x1 x2 hbl hm61 hm25
  go_loopw [12] (fun s12 wr => ∃ m : Nat, m ≤ 32 ∧ s12 = .int .i64 m ∧ Hid (HM w wr p b7 gw gk F0 C0 ws0 (ksM m))) (fun s12 _ => 32 - (intOf s12).toNat)
  case atStart => exact ⟨0, Nat.zero_le _, rfl, HM0⟩
  case round =>
    clear HM0
    obtain ⟨m, hm, rfl, HI⟩ := hrel
    by_cases hmt : m < 32
    · have dm : decide ((m : Int) < 32) = true := decide_eq_true (by omega)
      have m1 : (m : Int) < 32 := by omega
      have hkr := HI.out.hd.blk (g := gk) (o := kobj (ksM m)) (by simp)
      have hcv := kcell hkr (t := m) (b := false) (by unfold ksM; rw [List.getElem?_append_right (by simp), List.getElem?_replicate, if_pos (by simp; omega)])
      have fzk := fun j => frozen_of_row wr gk j _ 4 hkr
      have HS := hide (HI.out.setK m true)
      rw [ksM_set hmt] at HS
      clear hkr
      go_wp2
      go_roundw
      case rel => exact ⟨m + 1, by omega, by go_num, HS⟩
      case measure => simp [intOf]; omega
    · have dm : decide ((m : Int) < 32) = false := decide_eq_false (by omega)
      have em : m = 32 := by omega
      subst em
      have HT0 : Hid (∃ (F : Nat → Prop) (C : Ch) (ws : List Wc) (ks : List Bool) (W : Nat → Nat → Option (List Int)) (K : Nat → Nat → Bool), HM w wr p b7 gw gk F C ws ks ∧ Tab ws ks W K ∧ HFin C W K 0) := by
        refine ⟨F0, C0, ws0, ksM 32, fun _ _ => none, fun _ _ => true, HI.out, ?_, ⟨?_, by rw [HC0.out]; rfl, HL0.out, by rw [HC0.out]; rfl, by rw [HC0.out]; rfl, by rw [HC0.out]; rfl⟩⟩
        · intro i k hi hk
          refine ⟨?_, ?_⟩
          · unfold ws0; rw [List.getElem?_replicate, if_pos (by omega)]; rfl
          · unfold ksM; rw [List.getElem?_append_left (by simp; omega), List.getElem?_replicate, if_pos (by omega)]
        · rw [HC0.out]
          exact holds_new 8 4 1 bad _ HKF.out
      obtain ⟨wo, hwo⟩ : ∃ wo, wo = wr := ⟨_, rfl⟩
      subst hwo
      go_wp2
      go_loopw [13] (fun s13 wr => ∃ i : Nat, i ≤ on ∧ s13 = .int .i64 i ∧ Hid (∃ (F : Nat → Prop) (C : Ch) (ws : List Wc) (ks : List Bool) (W : Nat → Nat → Option (List Int)) (K : Nat → Nat → Bool), HM w wr p b7 gw gk F C ws ks ∧ Tab ws ks W K ∧ HFin C W K i)) (fun s13 _ => on - (intOf s13).toNat)
      case atStart => exact ⟨0, Nat.zero_le _, rfl, HT0⟩
      case round =>
        clear HT0 HI
        obtain ⟨i, hi, rfl, HS⟩ := hrel
        obtain ⟨F, C, ws, ks, W, K, hM, hT, ⟨hV, hdk, hLf, hB, hP, hS⟩⟩ := HS.out
        have HMi := hide hM
        have HT := hide hT
        have HV := hide (And.intro hV hdk)
        have HLf := hide hLf
        have HGE := hide (And.intro hB (And.intro hP hS))
        clear HS hM hT hV hdk hLf hB hP hS
        by_cases hlt : i < on
        · have dm : decide ((i : Int) < (on : Int)) = true := decide_eq_true (by omega)
          have i1 : (i : Int) < (on : Int) := by omega
          obtain ⟨gO, oO, x, hoa, hgO, hxi, hxo, k0, k1, k2, k3, k4, k5, k6⟩ := HO.out.pos hlt
          subst hoa
          have hbw := HMi.out.hd.bel
          have k0 := (hbw.cell (block_lt_of_cell k0)).trans k0
          have k1 := (hbw.cell (block_lt_of_cell k1)).trans k1
          have k2 := (hbw.cell (block_lt_of_cell k2)).trans k2
          have k3 := (hbw.cell (block_lt_of_cell k3)).trans k3
          have k4 := (hbw.cell (block_lt_of_cell k4)).trans k4
          have k5 := (hbw.cell (block_lt_of_cell k5)).trans k5
          have k6 := (hbw.cell (block_lt_of_cell k6)).trans k6
          have HXO := hide hxo
          clear hxi hxo hbw
          go_upto_region 15 with fail
          clear k0 k1 k2 k3 k4 k5 k6
          have hb1 := below_alloc wr (.cells #[.int .i64 x.o.k, .int .i64 x.o.b, .int .i64 x.o.p, .int .i64 x.o.bit, .bool x.o.fit, .slice x.da x.dn x.dc, .slice x.za x.zn x.zc] 56)
          have HM1 := hide (HMi.out.below hb1)
          have HX1 := hide (alloc_new wr (.cells #[.int .i64 x.o.k, .int .i64 x.o.b, .int .i64 x.o.p, .int .i64 x.o.bit, .bool x.o.fit, .slice x.da x.dn x.dc, .slice x.za x.zn x.zc] 56))
          have HF1 : Hid (¬ F wr.heap.size) := fun hf => by have h9 := HMi.out.hd.ch.fin _ hf; omega
          have HXO1 := hide (HXO.out.below (HM1.out.hd.bel))
          generalize hU : wr.alloc (.cells #[.int .i64 x.o.k, .int .i64 x.o.b, .int .i64 x.o.p, .int .i64 x.o.bit, .bool x.o.fit, .slice x.da x.dn x.dc, .slice x.za x.zn x.zc] 56) = U at HM1 HX1 HXO1 ⊢
          generalize hq14 : wr.heap.size = q14 at HX1 HF1 ⊢
          clear hU hq14 hb1 HMi
          obtain ⟨C1, hC1⟩ : ∃ D, D = (doesC C x.o).2 := ⟨_, rfl⟩
          obtain ⟨er, her⟩ : ∃ r, r = (doesC C x.o).1 := ⟨_, rfl⟩
          have HC1 := hide (And.intro hC1 her)
          clear hC1 her
          obtain ⟨y0, y1, y2, y3, y4, y5, y6⟩ := cells7 HX1.out
          have hil : i ≤ 1600000000000 := by omega
          go_upto_region 16 with (first | (go_at_call 22; refine (does_any _ p F C HM1.out.hd.ch HLf.out.ok (by have := HLf.out.tr; omega) (HLf.out.fl.mono (by omega)) x.o x.da x.dn x.dc x.za x.zn x.zc HXO1.out.d HXO1.out.z (by have := HXO1.out.dl; omega) (by have := HXO1.out.zl; omega) (fun y hy h0 hf => by have h1 := reads_low HXO.out.d hy h0; have h2 := HM1.out.hd.lo _ hf; omega) (fun y hy h0 hf => by have h1 := reads_low HXO.out.z hy h0; have h2 := HM1.out.hd.lo _ hf; omega) HXO1.out.bit).mono ?_; rintro e u4 ⟨rfl, hc4, ho4⟩; rw [← HC1.out.2]; rw [← HC1.out.1] at hc4; have HM4 := hide (HM1.out.does hc4 ho4); have HX4 := hide ((ho4.block _ (lt_of_block HX1.out) HF1.out).trans HX1.out); clear hc4 ho4 y0 y1 y2 y3 y4 y5 y6))
          obtain ⟨y0, y1, y2, y3, y4, y5, y6⟩ := cells7 HX4.out
          obtain ⟨z0, z1, z2⟩ := cells3 (HM4.out.hd.blk (g := b7) (o := box8) (by simp))
          go_upto_region 17 with fail
          obtain ⟨kk, hkk⟩ : ∃ z, z = wrap64 (wrap64 (x.o.b * 4) + x.o.p) := ⟨_, rfl⟩
          rw [← hkk]
          have HKK := hide hkk
          clear hkk y0 y1 y2 y3 y4 y5 y6 z0 z1 z2
          obtain ⟨tr, htr⟩ : ∃ b, b = triedE er C1.dark := ⟨_, rfl⟩
          have HTRr := hide htr
          obtain ⟨dk1, hdk1⟩ : ∃ b, b = C1.dark := ⟨_, rfl⟩
          have HDK := hide hdk1
          clear htr hdk1
          obtain ⟨u9, hu9⟩ : ∃ u, u = u4 := ⟨_, rfl⟩
          subst hu9
          go_cut [17] from 83 to 99 (fun s17 wx => s17 = .bool tr ∧ Hid (wx = u9))
          case first =>
            by_cases e0 : er = 0
            · subst e0
              have ht : Hid (true = tr) := by unfold Hid; rw [HTRr.out]; rfl
              go_wp2_with (first | (go_at_call 11; refine (no_any' 0 _).mono ?_; rintro e v0 ⟨rfl, hv0⟩; subst hv0))
              go_meet
              exact ⟨by rw [← ht.out], rfl⟩
            have d0 : (er == 0) = false := by simp [e0]
            by_cases e44 : er = 44
            · subst e44
              have ht : Hid (true = tr) := by unfold Hid; rw [HTRr.out]; rfl
              clear e0
              go_wp2_with (first | (go_at_call 11; refine (no_any' 44 _).mono ?_; rintro e v0 ⟨rfl, hv0⟩; subst hv0))
              go_meet
              exact ⟨by rw [← ht.out], rfl⟩
            have d44 : (er == 44) = false := by simp [e44]
            by_cases e45 : er = 45
            · subst e45
              have ht : Hid (dk1 = tr) := by unfold Hid; rw [HTRr.out, HDK.out]; simp [triedE]
              clear e0 e44
              go_wp2_with (first | (go_at_call 11; refine (no_any' 45 _).mono ?_; rintro e v0 ⟨rfl, hv0⟩; subst hv0) | (go_at_call 17; refine (Dark_any _ p _ C1 HM4.out.hd.ch).mono ?_; rintro e v0 ⟨rfl, hv0⟩; subst hv0; rw [← HDK.out]))
              go_meet
              exact ⟨by rw [← ht.out], rfl⟩
            have d45 : (er == 45) = false := by simp [e45]
            have ht : Hid (false = tr) := by unfold Hid; rw [HTRr.out]; simp [triedE, d0, d44, d45]
            clear e0 e44 e45
            go_wp2_with (first | (go_at_call 11; refine (no_any' er _).mono ?_; rintro e v0 ⟨rfl, hv0⟩; subst hv0))
            go_meet
            exact ⟨by rw [← ht.out], rfl⟩
          case rest =>
          obtain ⟨rfl, hwc⟩ := hcut
          have hwc' := hwc.out
          subst hwc'
          obtain ⟨u9, hu9⟩ : ∃ u, u = wc := ⟨_, rfl⟩
          subst hu9
          have HFIN : Hid (HFin { C1 with dark := false } (stepW C x.o K W) (stepK C x.o K) (i + 1)) := by
            have h1 := holds_step HV.out.1 HLf.out.ok HV.out.2 x.o HXO.out.d.2.1 HXO.out.z.2.1
            have h2 := HLf.out.does x.o
            have h3 := does_geo C x.o
            rw [← HC1.out.1] at h1 h2 h3
            have hg := HGE.out
            exact ⟨h1, rfl, ⟨On_ok _ h2.ok, h2.tr, h2.fl⟩, h3.1.trans hg.1, h3.2.1.trans hg.2.1, h3.2.2.trans hg.2.2⟩
          rename_i hk9
          refine hk9 _ _ ?_
          refine wp_seq ?_
          by_cases hA : x.o.k = 1 ∧ tr = true
          · obtain ⟨hk1, htr⟩ := hA
            have hdc : doesC C x.o = ProgramC C x.o.b x.o.p (x.o.n1 C.S) (x.o.n2 C.S) (x.o.want C.S) := if_pos hk1
            have htd : triedE (doesC C x.o).1 (doesC C x.o).2.dark = true := by rw [← HC1.out.1, ← HC1.out.2, ← HTRr.out]; exact htr
            obtain ⟨i', k', e1, e2, hi', hk', hlen⟩ : ∃ i' k' : Nat, x.o.b = i' ∧ x.o.p = k' ∧ i' < 8 ∧ k' < 4 ∧ (x.o.n1 1 = 256 ∧ x.o.n2 1 = 57) := by
              rcases prog_cases C HV.out.2 x.o.b x.o.p (x.o.n1 C.S) (x.o.n2 C.S) (x.o.want C.S) with ⟨e, he, h2, h3⟩ | ⟨i', k', b, g, e1, e2, hb, hg, l1, l2, he⟩
              · rw [hdc, tried_no (by rw [h2]; omega)] at htd; cases htd
              · have hg9 := HGE.out
                have hi9 := (List.getElem?_eq_some_iff.1 hb).1
                have hk9 := (List.getElem?_eq_some_iff.1 hg).1
                rw [HLf.out.ok.bl, hg9.1] at hi9
                rw [HLf.out.ok.ps b (List.mem_of_getElem? hb), hg9.2.1] at hk9
                rw [hg9.2.2] at l1 l2
                exact ⟨i', k', e1, e2, hi9, hk9, l1, l2⟩
            have hkk2 : kk = ((i' * 4 + k' : Nat) : Int) := by rw [HKK.out, e1, e2]; exact wrap_kk hi' hk'
            subst htr
            have htab := HT.out i' k' hi' hk'
            rw [hkk2]
            refine s18_yes (C := C1) (F := Fx F U u9) (ws := ws) (ks := ks) (w := w) u9 HM4 x HX4 er HXO (fun _ _ _ _ _ h => h) (i' * 4 + k') (by omega) (K i' k') htab.2 (fun _ => hlen) hk1 _ _ _ _ _ _ _ _ _ _ _ _ _ _ _ _ _ _ _ _ _ _ _ _ _ _ _ _ _ _ _ _ _ _ _ _ _ _ _ _ _ _ _ _ _ _ _ _ _ _ _ _ _ _ _ _ _ _ _ _ _ _ _ _ _ _ _ _ _ _ _ _ _ _ _ _ _ _ _ _ _ _ _ _ _ _ _ _ _ _ _ _ _ _ _ _ _ _ _ _ _ _ _ _ _ _ _ _ _ _ _ _ _ _ _ _ _ _ _ _ _ _ _ _ _ _ _ _ _ _ _ _ _ _ _ _ _ _ _ _ _ _ _ _ _ _ _ _ _ _ _ _ _ _ _ _ _ _ _ _ _ _ _ _ _ _ _ _ _ _ _ _ _ _ _ _ _ _ _ _ _ _ _ _ _ _ _ _ _ _ _ _ _ _ _ _ _ _ _ _ _ _ _ _ _ _ _ _ _ _ _ _ _ ?_
            intro x18 x19 x100 x101 x102 x103 x104 x105 x106 x107 x108 x109 x110 x111 x112 x113 x114 x115 x116 x117 x118 x119 x120 x121 x122 x123 x124 x125 x126 x127 x128 x129 x130 x131 x132 x133 x134 x135 x136 x137 x138 x139 x140 x141 x142 x143 x144 u10 c10 hM10 hz10 hX10
            refine wp_seq ?_
            refine s25_no (C := C1) (F := Fx F U u9) (w := w) u10 (hide hM10) x (hide hX10) er true (fun h9 => by rw [hk1] at h9; exact absurd h9.1 (by decide)) _ _ _ _ _ _ _ _ _ _ _ _ _ _ _ _ _ _ _ _ _ _ _ _ _ _ _ _ _ _ _ _ _ _ _ _ _ _ _ _ _ _ _ _ _ _ _ _ _ _ _ _ _ _ _ _ _ _ _ _ _ _ _ _ _ _ _ _ _ _ _ _ _ _ _ _ _ _ _ _ _ _ _ _ _ _ _ _ _ _ _ _ _ _ _ _ _ _ _ _ _ _ _ _ _ _ _ _ _ _ _ _ _ _ _ _ _ _ _ _ _ _ _ _ _ _ _ _ _ _ _ _ _ _ _ _ _ _ _ _ _ _ _ _ _ _ _ _ _ _ _ _ _ _ _ _ _ _ _ _ _ _ _ _ _ _ _ _ _ _ _ _ _ _ _ _ _ _ _ _ _ _ _ _ _ _ _ _ _ _ _ _ _ _ _ _ _ _ _ _ _ _ _ _ _ _ _ _ _ _ _ _ _ _ ?_
            intro x20 x145 x146 x147 x148 x149 x150 x151 x152 x153 x154 x155 x156 x157 x158 x159 x160 x161 x162 x163 x164 x165 x166 x167 x168 x169 x170 x171 x172 x173 x174 x175 x176 x177 x178 x179 x180 x181
            have HT2 : Hid (Tab (ws.set (i' * 4 + k') c10) (ks.set (i' * 4 + k') false) (stepW C x.o K W) (stepK C x.o K)) := by
              have h8 := HGE.out.2.2
              refine tab_prog HT.out HM4.out.wl HM4.out.kl hi' hk' hk1 htd e1 e2 ?_
              rw [hz10, h8, HC1.out.2]
            have HM10 := hide hM10
            clear hM10 hX10 hz10 htab hkk2 hdc htd e1 e2 hlen hk1
            go_wp2_with (first | (go_at_call 25; refine (On_any _ p _ C1 HM10.out.hd.ch).mono ?_; rintro e u12 ⟨rfl, hc12, ho12⟩; have HM12 := hide (HM10.out.on hc12 ho12); clear hc12 ho12))
            go_roundw
            case rel =>
              have HREL : ∃ (F : Nat → Prop) (C : Ch) (ws : List Wc) (ks : List Bool) (W : Nat → Nat → Option (List Int)) (K : Nat → Nat → Bool), HM w u12 p b7 gw gk F C ws ks ∧ Tab ws ks W K ∧ HFin C W K (i + 1) := ⟨_, _, _, _, stepW C x.o K W, stepK C x.o K, HM12.out, HT2.out, HFIN.out⟩
              first | exact ⟨i + 1, by omega, by go_num, HREL⟩ | ((repeat apply Exists.intro); exact ⟨⟨i + 1, by omega, by go_num, HREL⟩, rfl⟩)
            case measure => simp [intOf]; omega
          refine s18_no (C := C1) (F := Fx F U u9) (w := w) u9 HM4 x HX4 er tr kk hA _ _ _ _ _ _ _ _ _ _ _ _ _ _ _ _ _ _ _ _ _ _ _ _ _ _ _ _ _ _ _ _ _ _ _ _ _ _ _ _ _ _ _ _ _ _ _ _ _ _ _ _ _ _ _ _ _ _ _ _ _ _ _ _ _ _ _ _ _ _ _ _ _ _ _ _ _ _ _ _ _ _ _ _ _ _ _ _ _ _ _ _ _ _ _ _ _ _ _ _ _ _ _ _ _ _ _ _ _ _ _ _ _ _ _ _ _ _ _ _ _ _ _ _ _ _ _ _ _ _ _ _ _ _ _ _ _ _ _ _ _ _ _ _ _ _ _ _ _ _ _ _ _ _ _ _ _ _ _ _ _ _ _ _ _ _ _ _ _ _ _ _ _ _ _ _ _ _ _ _ _ _ _ _ _ _ _ _ _ _ _ _ _ _ _ _ _ _ _ _ _ _ _ _ _ _ _ _ _ _ _ _ _ ?_
          intro x18 x19 x100 x101 x102 x103 x104 x105 x106 x107 x108 x109 x110 x111 x112 x113 x114 x115 x116 x117 x118 x119 x120 x121 x122 x123 x124 x125 x126 x127 x128 x129 x130 x131 x132 x133 x134 x135 x136 x137 x138 x139 x140 x141 x142 x143 x144
          refine wp_seq ?_
          by_cases hBb : x.o.k = 2 ∧ tr = true
          · obtain ⟨hk2, htr⟩ := hBb
            have hdc : doesC C x.o = EraseC C x.o.b := by unfold doesC; rw [if_neg (by rw [hk2]; decide), if_pos hk2]
            have htd : triedE (doesC C x.o).1 (doesC C x.o).2.dark = true := by rw [← HC1.out.1, ← HC1.out.2, ← HTRr.out]; exact htr
            obtain ⟨i', e1, hi'⟩ : ∃ i' : Nat, x.o.b = i' ∧ i' < 8 := by
              rcases erase_cases C HV.out.2 x.o.b with ⟨e, he, h2, h3⟩ | ⟨i', b, e1, hb, he⟩
              · rw [hdc, tried_no (by rw [h2]; omega)] at htd; cases htd
              · have hi9 := (List.getElem?_eq_some_iff.1 hb).1
                rw [HLf.out.ok.bl, HGE.out.1] at hi9
                exact ⟨i', e1, hi9⟩
            subst htr
            refine s25_yes (C := C1) (F := Fx F U u9) (ws := ws) (ks := ks) (w := w) u9 HM4 x HX4 er (fun _ _ _ _ _ h => h) i' hi' e1 hk2 _ _ _ _ _ _ _ _ _ _ _ _ _ _ _ _ _ _ _ _ _ _ _ _ _ _ _ _ _ _ _ _ _ _ _ _ _ _ _ _ _ _ _ _ _ _ _ _ _ _ _ _ _ _ _ _ _ _ _ _ _ _ _ _ _ _ _ _ _ _ _ _ _ _ _ _ _ _ _ _ _ _ _ _ _ _ _ _ _ _ _ _ _ _ _ _ _ _ _ _ _ _ _ _ _ _ _ _ _ _ _ _ _ _ _ _ _ _ _ _ _ _ _ _ _ _ _ _ _ _ _ _ _ _ _ _ _ _ _ _ _ _ _ _ _ _ _ _ _ _ _ _ _ _ _ _ _ _ _ _ _ _ _ _ _ _ _ _ _ _ _ _ _ _ _ _ _ _ _ _ _ _ _ _ _ _ _ _ _ _ _ _ _ _ _ _ _ _ _ _ _ _ _ _ _ _ _ _ _ _ _ _ _ _ ?_
            intro x20 x145 x146 x147 x148 x149 x150 x151 x152 x153 x154 x155 x156 x157 x158 x159 x160 x161 x162 x163 x164 x165 x166 x167 x168 x169 x170 x171 x172 x173 x174 x175 x176 x177 x178 x179 x180 x181 u10 hM10 hX10
            have HT2 : Hid (Tab (wsE ws i' 4) (ksE ks i' (er == 0) 4) (stepW C x.o K W) (stepK C x.o K)) := by
              rw [HC1.out.2]
              exact tab_erase HT.out HM4.out.wl HM4.out.kl hi' hk2 htd e1
            have HM10 := hide hM10
            clear hM10 hX10 hdc htd e1 hk2
            go_wp2_with (first | (go_at_call 25; refine (On_any _ p _ C1 HM10.out.hd.ch).mono ?_; rintro e u12 ⟨rfl, hc12, ho12⟩; have HM12 := hide (HM10.out.on hc12 ho12); clear hc12 ho12))
            go_roundw
            case rel =>
              have HREL : ∃ (F : Nat → Prop) (C : Ch) (ws : List Wc) (ks : List Bool) (W : Nat → Nat → Option (List Int)) (K : Nat → Nat → Bool), HM w u12 p b7 gw gk F C ws ks ∧ Tab ws ks W K ∧ HFin C W K (i + 1) := ⟨_, _, _, _, stepW C x.o K W, stepK C x.o K, HM12.out, HT2.out, HFIN.out⟩
              first | exact ⟨i + 1, by omega, by go_num, HREL⟩ | ((repeat apply Exists.intro); exact ⟨⟨i + 1, by omega, by go_num, HREL⟩, rfl⟩)
            case measure => simp [intOf]; omega
          refine s25_no (C := C1) (F := Fx F U u9) (w := w) u9 HM4 x HX4 er tr hBb _ _ _ _ _ _ _ _ _ _ _ _ _ _ _ _ _ _ _ _ _ _ _ _ _ _ _ _ _ _ _ _ _ _ _ _ _ _ _ _ _ _ _ _ _ _ _ _ _ _ _ _ _ _ _ _ _ _ _ _ _ _ _ _ _ _ _ _ _ _ _ _ _ _ _ _ _ _ _ _ _ _ _ _ _ _ _ _ _ _ _ _ _ _ _ _ _ _ _ _ _ _ _ _ _ _ _ _ _ _ _ _ _ _ _ _ _ _ _ _ _ _ _ _ _ _ _ _ _ _ _ _ _ _ _ _ _ _ _ _ _ _ _ _ _ _ _ _ _ _ _ _ _ _ _ _ _ _ _ _ _ _ _ _ _ _ _ _ _ _ _ _ _ _ _ _ _ _ _ _ _ _ _ _ _ _ _ _ _ _ _ _ _ _ _ _ _ _ _ _ _ _ _ _ _ _ _ _ _ _ _ _ _ _ ?_
          intro x20 x145 x146 x147 x148 x149 x150 x151 x152 x153 x154 x155 x156 x157 x158 x159 x160 x161 x162 x163 x164 x165 x166 x167 x168 x169 x170 x171 x172 x173 x174 x175 x176 x177 x178 x179 x180 x181
          have HSN : Hid (stepK C x.o K = K ∧ stepW C x.o K W = W) := by
            refine step_no ?_
            rw [← HC1.out.1, ← HC1.out.2, ← HTRr.out]
            cases htb : tr with
            | false => exact Or.inl rfl
            | true => exact Or.inr ⟨fun h9 => hA ⟨h9, htb⟩, fun h9 => hBb ⟨h9, htb⟩⟩
          clear hA hBb
          go_wp2_with (first | (go_at_call 25; refine (On_any _ p _ C1 HM4.out.hd.ch).mono ?_; rintro e u12 ⟨rfl, hc12, ho12⟩; have HM12 := hide (HM4.out.on hc12 ho12); clear hc12 ho12))
          go_roundw
          case rel =>
            have HREL : ∃ (F : Nat → Prop) (C : Ch) (ws : List Wc) (ks : List Bool) (W : Nat → Nat → Option (List Int)) (K : Nat → Nat → Bool), HM w u12 p b7 gw gk F C ws ks ∧ Tab ws ks W K ∧ HFin C W K (i + 1) := ⟨_, _, ws, ks, stepW C x.o K W, stepK C x.o K, HM12.out, by rw [(HSN.out).1, (HSN.out).2]; exact HT.out, HFIN.out⟩
            first | exact ⟨i + 1, by omega, by go_num, HREL⟩ | ((repeat apply Exists.intro); exact ⟨⟨i + 1, by omega, by go_num, HREL⟩, rfl⟩)
          case measure => simp [intOf]; omega
        · have dm : decide ((i : Int) < (on : Int)) = false := decide_eq_false (by omega)
          obtain ⟨wo2, hwo2⟩ : ∃ wo, wo = wr := ⟨_, rfl⟩
          subst hwo2
          go_wp2
          go_loopw [21] (fun s21 wr => ∃ m : Nat, m ≤ 32 ∧ s21 = .int .i64 m ∧ Hid (HM w wr p b7 gw gk F C ws ks)) (fun s21 _ => 32 - (intOf s21).toNat)
          case atStart => exact ⟨0, Nat.zero_le _, rfl, HMi⟩
          case round =>
            clear HMi
            obtain ⟨m, hm, rfl, HJ⟩ := hrel
            by_cases hmt : m < 32
            · refine h4_round (w := w) (F := F) (C := C) (W := W) (Kt := K) wr HJ HT HV.out.1 HLf.out.ok HV.out.2 HGE.out.1 HGE.out.2.1 (by rw [HGE.out.2.2]; rfl) (fun _ _ _ _ _ h => h) m hmt _ _ _ _ _ _ _ _ _ _ _ _ _ _ _ _ _ _ _ _ _ _ _ _ _ _ _ _ _ _ _ _ _ _ _ _ _ _ _ _ _ _ _ _ _ _ _ _ _ _ _ _ _ _ _ _ _ _ _ _ _ _ _ _ _ _ _ _ _ _ _ _ _ _ _ _ _ _ _ _ _ _ _ _ _ _ _ _ _ _ _ _ _ _ _ _ _ _ _ _ _ _ _ _ _ _ _ _ _ _ _ _ _ _ _ _ _ _ _ _ _ _ _ _ _ _ _ _ _ _ _ _ _ _ _ _ _ _ _ _ _ _ _ _ _ _ _ _ _ _ _ _ _ _ _ _ _ _ _ _ _ _ _ _ _ _ _ _ _ _ _ _ _ _ _ _ _ _ _ _ _ _ _ _ _ _ _ _ _ _ _ _ _ _ _ _ _ _ _ _ _ _ _ _ _ _ _ _ _ _ _ _ _ _ _ _ ?_
              intro x21 x22 x184 x185 x186 x187 x188 x189 x190 x191 x192 x193 x194 x195 x196 x197 x198 x199 x200 x201 x202 x203 x204 x205 x206 x207 x208 x209 x210 x211 x212 x213 x214 x215 x216 x217 x218 x219 w9 e21 hM9
              subst e21
              go_roundw
              case rel => first | exact ⟨m + 1, by omega, rfl, hM9⟩ | ((repeat apply Exists.intro); exact ⟨⟨m + 1, by omega, rfl, hM9⟩, rfl⟩)
              case measure => simp [intOf]; omega
            · have dmm : decide ((m : Int) < 32) = false := decide_eq_false (by omega)
              go_wp2_with (first | (go_at_call 12; refine (heads_any _).mono ?_; rintro e u12 ⟨rfl, b12⟩; have HK12 := hide (HJ.out.below b12); clear b12))
              go_ret
              exact ⟨rfl, HK12.out.hd.bel⟩
end Go.Proofs.Ytadlkikjfonkgaa
