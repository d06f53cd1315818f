/-
  SEAT Ytoaahellfflooaa.
-/
import Derived.Test.YtoaahellfflooaaVWe
namespace Go.Proofs.Ytoaahellfflooaa
open Go.RowKit
set_option linter.unusedVariables false

/-- The loops of a code, from the front. -/
def loopsOf : Code → List Code
  | .loop c => c :: loopsOf c
  | .seq a b => loopsOf a ++ loopsOf b
  | .block _ c => loopsOf c
  | .scope c => loopsOf c
  | .cond _ a b => loopsOf a ++ loopsOf b
  | _ => []
noncomputable def pkChunk : Code := ((Try.f10.body.bind (fun c => (loopsOf c)[2]?)).getD .skip)
set_option maxHeartbeats 8000000 in
set_option maxRecDepth 100000 in
theorem ck_round {K : Act → World → Prop} {Q0 : Exit → Act → World → Prop} {w : World} {B q vb voff j vn vc : Nat} {cs : Array Value} {v4 : Value} {LQ : List Int} {no q1 q2 mm : Int} (wq : World) (RPq : Hid (Rp w wq B v4 LQ)) (HOq : Hid (wq.heap[q]? = some (.cells cs 55 (0, 0)))) (HCS : Hid (cs[12]? = some (.slice (some ⟨vb, voff, none⟩) vn vc))) (hjt : j < vn) (hvn : vn ≤ 65536) (HLK : Hid (LQ.length ≤ 70000000000000))
    (c0 : wq.cell? ⟨vb, voff + j * 4, none⟩ = some (.int .i64 no)) (c1 : wq.cell? ⟨vb, voff + j * 4 + 1, none⟩ = some (.int .i64 q1)) (c2 : wq.cell? ⟨vb, voff + j * 4 + 2, none⟩ = some (.int .i64 q2)) (c3 : wq.cell? ⟨vb, voff + j * 4 + 3, none⟩ = some (.int .i64 mm))
    (hn0 : 0 ≤ no) (hn1 : no ≤ 1048575) (hpq : plOk (q1, q2) = true) (hm0 : 0 ≤ mm) (hm1 : mm ≤ 2048) (c0 c1 c2 c3 c5 c6 c7 c9 c10 u12 c13 c14 c15 c16 c17 c18 c19 c20 c21 c22 c23 c24 c25 c26 c27 c28 c29 c30 c31 c32 c33 c34 c35 c36 c37 c38 c39 c40 c41 c42 c43 c44 c45 c46 c47 c48 c49 c50 c51 c52 c53 c54 c55 c56 c57 c58 c59 c60 c61 c62 c63 c64 c65 c66 c67 c68 c69 c70 c71 c72 c73 c74 c75 c76 c77 c78 c79 c80 c81 c82 c83 c84 c85 c86 c87 c88 c89 c90 c91 c92 c93 c94 c95 c96 c97 c98 c99 c100 c101 c102 c103 c104 c105 c106 c107 c108 c109 c110 c111 c112 c113 c114 c115 c116 c117 c118 c119 c120 c121 c122 c123 c124 c125 c126 c127 c128 c129 c130 c131 c132 c133 c134 c135 c136 c137 c138 u139 u140 u141 u142 u143 u144 u145 u146 u147 u148 u149 u150 u151 u152 u153 u154 u155 u156 u157 u158 u159 u160 u161 u162 u163 u164 u165 u166 u167 u168 u169 c170 : Value)
    (hK : ∀ (x4 x11 x12 x139 x140 x141 x142 x143 x144 x145 x146 x147 x148 x149 x150 x151 x152 x153 x154 x155 x156 x157 x158 x159 x160 x161 x162 x163 x164 x165 x166 x167 x168 x169 : Value) (w' : World), x11 = .int .i64 ((j + 1 : Nat) : Int) → Rp w w' B x4 (LQ ++ chkW ⟨no, (q1, q2), mm⟩) → Kw B [] wq w' → K ⟨#[c0, c1, c2, c3, x4, c5, c6, c7, .pointer (some ⟨q, 0, none⟩), c9, c10, x11, x12, c13, c14, c15, c16, c17, c18, c19, c20, c21, c22, c23, c24, c25, c26, c27, c28, c29, c30, c31, c32, c33, c34, c35, c36, c37, c38, c39, c40, c41, c42, c43, c44, c45, c46, c47, c48, c49, c50, c51, c52, c53, c54, c55, c56, c57, c58, c59, c60, c61, c62, c63, c64, c65, c66, c67, c68, c69, c70, c71, c72, c73, c74, c75, c76, c77, c78, c79, c80, c81, c82, c83, c84, c85, c86, c87, c88, c89, c90, c91, c92, c93, c94, c95, c96, c97, c98, c99, c100, c101, c102, c103, c104, c105, c106, c107, c108, c109, c110, c111, c112, c113, c114, c115, c116, c117, c118, c119, c120, c121, c122, c123, c124, c125, c126, c127, c128, c129, c130, c131, c132, c133, c134, c135, c136, c137, c138, x139, x140, x141, x142, x143, x144, x145, x146, x147, x148, x149, x150, x151, x152, x153, x154, x155, x156, x157, x158, x159, x160, x161, x162, x163, x164, x165, x166, x167, x168, x169, c170], []⟩ w') :
    Code.wp Try.prog pkChunk (Exit.then K Q0) ⟨#[c0, c1, c2, c3, v4, c5, c6, c7, .pointer (some ⟨q, 0, none⟩), c9, c10, .int .i64 (j : Int), u12, c13, c14, c15, c16, c17, c18, c19, c20, c21, c22, c23, c24, c25, c26, c27, c28, c29, c30, c31, c32, c33, c34, c35, c36, c37, c38, c39, c40, c41, c42, c43, c44, c45, c46, c47, c48, c49, c50, c51, c52, c53, c54, c55, c56, c57, c58, c59, c60, c61, c62, c63, c64, c65, c66, c67, c68, c69, c70, c71, c72, c73, c74, c75, c76, c77, c78, c79, c80, c81, c82, c83, c84, c85, c86, c87, c88, c89, c90, c91, c92, c93, c94, c95, c96, c97, c98, c99, c100, c101, c102, c103, c104, c105, c106, c107, c108, c109, c110, c111, c112, c113, c114, c115, c116, c117, c118, c119, c120, c121, c122, c123, c124, c125, c126, c127, c128, c129, c130, c131, c132, c133, c134, c135, c136, c137, c138, u139, u140, u141, u142, u143, u144, u145, u146, u147, u148, u149, u150, u151, u152, u153, u154, u155, u156, u157, u158, u159, u160, u161, u162, u163, u164, u165, u166, u167, u168, u169, c170], []⟩ wq := by
  conv => arg 2; whnf
  have HK := hide hK
  clear hK
  have d3 : (j : Int) < vn := Int.ofNat_lt.2 hjt
  have hb := below_alloc wq (.cells #[.int .i64 no, .int .i64 q1, .int .i64 q2, .int .i64 mm] 71)
  have RP1 := hide (RPq.out.below hb)
  have HO1 := hide ((hb.block q (lt_of_block HOq.out)).trans HOq.out)
  have HC1 : Hid ((wq.alloc (.cells #[.int .i64 no, .int .i64 q1, .int .i64 q2, .int .i64 mm] 71)).heap[wq.heap.size]? = some (.cells #[.int .i64 no, .int .i64 q1, .int .i64 q2, .int .i64 mm] 71 (0, 0))) := heap_alloc_new wq _
  have HK1 : Hid (Kw B [] wq (wq.alloc (.cells #[.int .i64 no, .int .i64 q1, .int .i64 q2, .int .i64 mm] 71))) := Kw.of_below RPq.out.B hb
  have eno : IntKind.u64.wrap no = no := by rw [IntKind.wrap_u64]; omega
  have emm : IntKind.u64.wrap mm = mm := by rw [IntKind.wrap_u64]; omega
  have HQ1 := hide (fun u => rput21 no 4 u (by omega) hn0 (by omega))
  have HQ2 := hide (fun u => rat24 (q1, q2) u hpq)
  have HQ3 := hide (fun u => rput21 mm 2 u (by omega) hm0 (by omega))
  have i12 := blk_cell HOq.out 12 HCS.out
  clear hb hn0 hn1 hpq hm0 hm1
  go_wp2_with (first
    | (go_at_call 21; have h9 := HQ1; clear h9; refine (HQ1.out _).mono ?_; rintro e v1 ⟨⟨a2, d3, rfl, r4, -⟩, b5⟩; clear i12; have HX9 := hide ((b5.block q (lt_of_block HO1.out)).trans HO1.out); have y10 := blk_cell HX9.out 12 HCS.out; have HX11 := hide ((b5.block wq.heap.size (lt_of_block HC1.out)).trans HC1.out); obtain ⟨y12, y13, y14, y15⟩ := bx4 HX11.out; have HK8 := hide (HK1.out.trans (Kw.of_below RP1.out.B b5)); have HR6 := hide r4; have HB7 := hide b5; clear r4 b5 HQ1 HK1)
    | (at_builtin; refine wpList_append_put rfl (.tmp 151) (.tmp 155) rfl B _ _ RP1.out (HB7.out) a2 4 d3 (dg no 4) rfl rfl (HR6.out) (by have h8 := HLK.out; (try simp only [List.length_append, dg_length, plW_len, List.length_cons, List.length_nil]); omega) (by omega) ?_; intro x16 z17 p18 k19 grz17; clear y10 y12 y13 y14 y15; have HX22 := hide (k19.oth q _ 55 HX9.out (by decide) (by decide)); have y23 := blk_cell HX22.out 12 HCS.out; have HX24 := hide (k19.oth wq.heap.size _ 71 HX11.out (by decide) (by decide)); obtain ⟨y25, y26, y27, y28⟩ := bx4 HX24.out; have HK21 := hide (HK8.out.trans k19); have RP20 := hide p18; clear p18 k19 grz17 HK8)
    | (go_at_call 24; have h9 := HQ2; clear h9; refine (HQ2.out _).mono ?_; rintro e v29 ⟨⟨a30, d31, rfl, r32⟩, b33⟩; clear y23 y25 y26 y27 y28; have HX37 := hide ((b33.block q (lt_of_block HX22.out)).trans HX22.out); have y38 := blk_cell HX37.out 12 HCS.out; have HX39 := hide ((b33.block wq.heap.size (lt_of_block HX24.out)).trans HX24.out); obtain ⟨y40, y41, y42, y43⟩ := bx4 HX39.out; have HK36 := hide (HK21.out.trans (Kw.of_below RP20.out.B b33)); have HR34 := hide r32; have HB35 := hide b33; clear r32 b33 HQ2 HK21)
    | (at_builtin; refine wpList_append_put rfl (.tmp 157) (.tmp 161) rfl B _ _ RP20.out (HB35.out) a30 4 d31 (plW (q1, q2)) rfl rfl (HR34.out) (by have h8 := HLK.out; (try simp only [List.length_append, dg_length]); omega) (by omega) ?_; intro x44 z45 p46 k47 grz45; clear y38 y40 y41 y42 y43; have HX50 := hide (k47.oth q _ 55 HX37.out (by decide) (by decide)); have y51 := blk_cell HX50.out 12 HCS.out; have HX52 := hide (k47.oth wq.heap.size _ 71 HX39.out (by decide) (by decide)); obtain ⟨y53, y54, y55, y56⟩ := bx4 HX52.out; have HK49 := hide (HK36.out.trans k47); have RP48 := hide p46; clear p46 k47 grz45 HK36)
    | (go_at_call 21; have h9 := HQ3; clear h9; refine (HQ3.out _).mono ?_; rintro e v57 ⟨⟨a58, d59, rfl, r60, -⟩, b61⟩; clear y51 y53 y54 y55 y56; have HX65 := hide ((b61.block q (lt_of_block HX50.out)).trans HX50.out); have y66 := blk_cell HX65.out 12 HCS.out; have HX67 := hide ((b61.block wq.heap.size (lt_of_block HX52.out)).trans HX52.out); obtain ⟨y68, y69, y70, y71⟩ := bx4 HX67.out; have HK64 := hide (HK49.out.trans (Kw.of_below RP48.out.B b61)); have HR62 := hide r60; have HB63 := hide b61; clear r60 b61 HQ3 HK49)
    | (at_builtin; refine wpList_append_put rfl (.tmp 163) (.tmp 168) rfl B _ _ RP48.out (HB63.out) a58 2 d59 (dg mm 2) rfl rfl (HR62.out) (by have h8 := HLK.out; (try simp only [List.length_append, dg_length, plW_len]); omega) (by omega) ?_; intro x72 z73 p74 k75 grz73; clear y66 y68 y69 y70 y71; have HX78 := hide (k75.oth q _ 55 HX65.out (by decide) (by decide)); have y79 := blk_cell HX78.out 12 HCS.out; have HX80 := hide (k75.oth wq.heap.size _ 71 HX67.out (by decide) (by decide)); obtain ⟨y81, y82, y83, y84⟩ := bx4 HX80.out; have HK77 := hide (HK64.out.trans k75); have RP76 := hide p74; clear p74 k75 grz73 HK64)
    )
  refine HK.out _ _ _ _ _ _ _ _ _ _ _ _ _ _ _ _ _ _ _ _ _ _ _ _ _ _ _ _ _ _ _ _ _ _ _ (by go_num) ?_ HK77.out
  have h := RP76.out
  show Rp _ _ _ _ _
  simp only [chkW, List.append_assoc] at h ⊢
  exact h

end Go.Proofs.Ytoaahellfflooaa
