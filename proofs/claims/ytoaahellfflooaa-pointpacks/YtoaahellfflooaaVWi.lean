/-
  SEAT Ytoaahellfflooaa.
-/
import Derived.Test.YtoaahellfflooaaVWh
namespace Go.Proofs.Ytoaahellfflooaa
open Go.RowKit
set_option linter.unusedVariables false

set_option maxHeartbeats 8000000 in
set_option maxRecDepth 100000 in
theorem ob_round_true {K : Act → World → Prop} {Q0 : Exit → Act → World → Prop} {w : World} {q0 b off k m vn vc oc : Nat} {va : Option Addr} {cs : Array Value} {v4 : Value} {LK : List Int} {id xk xp xz xm xs xh p1 p2 : Int} {xN xT : ByteArray} {ch : List Chk} (wo : World) (RPr : Hid (Rp w wo w.heap.size v4 LK)) (HSr : Hid (wo.heap[q0]? = some (.cells cs 27 (0, 0)))) (HSS : Hid (cs[5]? = some (.slice (some ⟨b, off, none⟩) m oc))) (HKM : Hid (k < m)) (hm4 : m ≤ 1048575) (HLK : Hid (LK.length ≤ 60000000000000))
    (g0 : wo.cell? ⟨b, off + k * 13, none⟩ = some (.int .i64 id))
    (g1 : wo.cell? ⟨b, off + k * 13 + 1, none⟩ = some (.bool true))
    (g2 : wo.cell? ⟨b, off + k * 13 + 2, none⟩ = some (.int .i64 xk))
    (g3 : wo.cell? ⟨b, off + k * 13 + 3, none⟩ = some (.int .i64 xp))
    (g4 : wo.cell? ⟨b, off + k * 13 + 4, none⟩ = some (.string xN))
    (g5 : wo.cell? ⟨b, off + k * 13 + 5, none⟩ = some (.int .i64 xz))
    (g6 : wo.cell? ⟨b, off + k * 13 + 6, none⟩ = some (.int .i64 xm))
    (g7 : wo.cell? ⟨b, off + k * 13 + 7, none⟩ = some (.int .u64 xs))
    (g8 : wo.cell? ⟨b, off + k * 13 + 8, none⟩ = some (.int .i64 xh))
    (g9 : wo.cell? ⟨b, off + k * 13 + 9, none⟩ = some (.string xT))
    (g10 : wo.cell? ⟨b, off + k * 13 + 10, none⟩ = some (.int .i64 p1))
    (g11 : wo.cell? ⟨b, off + k * 13 + 11, none⟩ = some (.int .i64 p2))
    (g12 : wo.cell? ⟨b, off + k * 13 + 12, none⟩ = some (.slice va vn vc))
    (hi0 : 2 ≤ id) (hi1 : id ≤ 1048575) (HOK : Hid (hdOk ⟨id, true, ⟨xk, xp, xN, xz, xm, xs, xh, xT⟩, (p1, p2), ch⟩ = true)) (HST : Hid (0 ≤ xs ∧ xs < 18446744073709551616)) (HVN : Hid (vn ≤ 65536)) (HCL : Hid (ch.length = vn)) (HCR : Hid (ReadsC w va vn ch)) (HCH : Hid (∀ c ∈ ch, (0 ≤ c.no ∧ c.no ≤ 1048575) ∧ plOk c.at_ = true ∧ (0 ≤ c.n ∧ c.n ≤ 2048))) (c0 c2 c3 c5 c6 u8 u9 u10 u11 u12 c13 c14 c15 c16 c17 c18 c19 c20 c21 c22 c23 c24 c25 c26 c27 c28 c29 c30 c31 c32 c33 c34 c35 c36 c37 c38 c39 c40 c41 c42 c43 c44 c45 c46 c47 c48 c49 c50 c51 c52 c53 c54 c55 c56 c57 c58 c59 c60 c61 c62 c63 c64 c65 c66 c67 c68 c69 c70 c71 c72 c73 c74 c75 c76 c77 c78 c79 c80 c81 c82 c83 c84 c85 u86 u87 u88 u89 u90 u91 u92 u93 u94 u95 u96 u97 u98 u99 u100 u101 u102 u103 u104 u105 u106 u107 u108 u109 u110 u111 u112 u113 u114 u115 u116 u117 u118 u119 u120 u121 u122 u123 u124 u125 u126 u127 u128 u129 u130 u131 u132 u133 u134 u135 u136 u137 u138 u139 u140 u141 u142 u143 u144 u145 u146 u147 u148 u149 u150 u151 u152 u153 u154 u155 u156 u157 u158 u159 u160 u161 u162 u163 u164 u165 u166 u167 u168 u169 c170 : Value)
    (hK : ∀ (x4 x7 x8 x9 x10 x11 x12 x86 x87 x88 x89 x90 x91 x92 x93 x94 x95 x96 x97 x98 x99 x100 x101 x102 x103 x104 x105 x106 x107 x108 x109 x110 x111 x112 x113 x114 x115 x116 x117 x118 x119 x120 x121 x122 x123 x124 x125 x126 x127 x128 x129 x130 x131 x132 x133 x134 x135 x136 x137 x138 x139 x140 x141 x142 x143 x144 x145 x146 x147 x148 x149 x150 x151 x152 x153 x154 x155 x156 x157 x158 x159 x160 x161 x162 x163 x164 x165 x166 x167 x168 x169 : Value) (w' : World), x7 = .int .i64 ((k + 1 : Nat) : Int) → Rp w w' w.heap.size x4 (LK ++ obW ⟨id, true, ⟨xk, xp, xN, xz, xm, xs, xh, xT⟩, (p1, p2), ch⟩) → Kw w.heap.size [] wo w' → K ⟨#[c0, .pointer (some ⟨q0, 0, none⟩), c2, c3, x4, c5, c6, x7, x8, x9, x10, x11, x12, c13, c14, c15, c16, c17, c18, c19, c20, c21, c22, c23, c24, c25, c26, c27, c28, c29, c30, c31, c32, c33, c34, c35, c36, c37, c38, c39, c40, c41, c42, c43, c44, c45, c46, c47, c48, c49, c50, c51, c52, c53, c54, c55, c56, c57, c58, c59, c60, c61, c62, c63, c64, c65, c66, c67, c68, c69, c70, c71, c72, c73, c74, c75, c76, c77, c78, c79, c80, c81, c82, c83, c84, c85, x86, x87, x88, x89, x90, x91, x92, x93, x94, x95, x96, x97, x98, x99, x100, x101, x102, x103, x104, x105, x106, x107, x108, x109, x110, x111, x112, x113, x114, x115, x116, x117, x118, x119, x120, x121, x122, x123, x124, x125, x126, x127, x128, x129, x130, x131, x132, x133, x134, x135, x136, x137, x138, x139, x140, x141, x142, x143, x144, x145, x146, x147, x148, x149, x150, x151, x152, x153, x154, x155, x156, x157, x158, x159, x160, x161, x162, x163, x164, x165, x166, x167, x168, x169, c170], []⟩ w') :
    Code.wp Try.prog pkObj (Exit.then K Q0) ⟨#[c0, .pointer (some ⟨q0, 0, none⟩), c2, c3, v4, c5, c6, .int .i64 (k : Int), u8, u9, u10, u11, u12, c13, c14, c15, c16, c17, c18, c19, c20, c21, c22, c23, c24, c25, c26, c27, c28, c29, c30, c31, c32, c33, c34, c35, c36, c37, c38, c39, c40, c41, c42, c43, c44, c45, c46, c47, c48, c49, c50, c51, c52, c53, c54, c55, c56, c57, c58, c59, c60, c61, c62, c63, c64, c65, c66, c67, c68, c69, c70, c71, c72, c73, c74, c75, c76, c77, c78, c79, c80, c81, c82, c83, c84, c85, u86, u87, u88, u89, u90, u91, u92, u93, u94, u95, u96, u97, u98, u99, u100, u101, u102, u103, u104, u105, u106, u107, u108, u109, u110, u111, u112, u113, u114, u115, u116, u117, u118, u119, u120, u121, u122, u123, u124, u125, u126, u127, u128, u129, u130, u131, u132, u133, u134, u135, u136, u137, u138, u139, u140, u141, u142, u143, u144, u145, u146, u147, u148, u149, u150, u151, u152, u153, u154, u155, u156, u157, u158, u159, u160, u161, u162, u163, u164, u165, u166, u167, u168, u169, c170], []⟩ wo := by
  conv => arg 2; whnf
  have HK := hide hK
  clear hK
  have hkm := HKM.out
  have d1 : (k : Int) < m := Int.ofNat_lt.2 hkm
  have hvn := HVN.out
  have eid : IntKind.u64.wrap id = id := by rw [IntKind.wrap_u64]; omega
  have evn : IntKind.u64.wrap (vn : Int) = vn := by rw [IntKind.wrap_u64]; omega
  have HQ1 := hide (fun u => rput21 id 4 u (by omega) (by omega) (by omega))
  have HQ4 := hide (fun u => rput21 (vn : Int) 4 u (by omega) (by omega) (by omega))
  have hb := below_alloc wo (.cells #[.int .i64 id, .bool true, .int .i64 xk, .int .i64 xp, .string xN, .int .i64 xz, .int .i64 xm, .int .u64 xs, .int .i64 xh, .string xT, .int .i64 p1, .int .i64 p2, .slice va vn vc] 55)
  have RP1 := hide (RPr.out.below hb)
  have HK1 : Hid (Kw w.heap.size [] wo (wo.alloc (.cells #[.int .i64 id, .bool true, .int .i64 xk, .int .i64 xp, .string xN, .int .i64 xz, .int .i64 xm, .int .u64 xs, .int .i64 xh, .string xT, .int .i64 p1, .int .i64 p2, .slice va vn vc] 55))) := Kw.of_below RPr.out.B hb
  have HS1 := hide ((hb.block q0 (lt_of_block HSr.out)).trans HSr.out)
  have HO1 : Hid ((wo.alloc (.cells #[.int .i64 id, .bool true, .int .i64 xk, .int .i64 xp, .string xN, .int .i64 xz, .int .i64 xm, .int .u64 xs, .int .i64 xh, .string xT, .int .i64 p1, .int .i64 p2, .slice va vn vc] 55)).heap[wo.heap.size]? = some (.cells #[.int .i64 id, .bool true, .int .i64 xk, .int .i64 xp, .string xN, .int .i64 xz, .int .i64 xm, .int .u64 xs, .int .i64 xh, .string xT, .int .i64 p1, .int .i64 p2, .slice va vn vc] 55 (0, 0))) := heap_alloc_new wo _
  have HYS := hide (ryes22 true)
  have HQ2 := hide (fun u => rput21 (if true = true then 1 else 0) 1 u (by omega) (by decide) (by decide))
  simp only [if_true] at HYS HQ2
  have f5 := blk_cell HSr.out 5 HSS.out
  clear hb hi0 hi1 hvn hkm
  have hok2 := HOK.out
  simp only [hdOk, if_true, Bool.and_eq_true, beq_iff_eq] at hok2
  obtain ⟨he, -, hpl⟩ := hok2
  have hE : nodeE xk xp xN xz xm xs xh xT = 0 := he
  have h2 := node_zero _ _ _ _ _ _ _ _ hE
  have hNs := h2.2.2.1
  have hTs := h2.2.2.2.2.2.2
  obtain ⟨L, hL⟩ : ∃ L, nodW ⟨xk, xp, xN, xz, xm, xs, xh, xT⟩ = L := ⟨_, rfl⟩
  have hLl := nodW_len ⟨xk, xp, xN, xz, xm, xs, xh, xT⟩
  have hLb := nodW_byt ⟨xk, xp, xN, xz, xm, xs, xh, xT⟩
  obtain ⟨ln, hln⟩ : ∃ ln, 1 + 4 + 4 + 2 + 8 + 4 + (1 + xN.size) + (1 + xT.size) = ln := ⟨_, rfl⟩
  have hll : ln ≤ 215 := by omega
  have hlg : 25 ≤ ln := by omega
  rw [hL] at hLl hLb
  simp only at hLl
  rw [hln] at hLl
  have hPK := fun u => rpack_ok xk xp xN xz xm xs xh xT u hE HST.out.1 HST.out.2
  rw [hln] at hPK
  rw [show nodeL xk xp xN xz xm xs xh xT = L from hL] at hPK
  have HPK := hide hPK
  have HAT := hide (fun u => rat24 (p1, p2) u hpl)
  have HW : Hid (obW ⟨id, true, ⟨xk, xp, xN, xz, xm, xs, xh, xT⟩, (p1, p2), ch⟩ = dg id 4 ++ ((dg 1 1 ++ ([(ln : Int)] ++ (L ++ plW (p1, p2)))) ++ (dg (vn : Int) 4 ++ ch.flatMap chkW))) := by
    show _ = _
    rw [← dg_one ln (by omega) (by omega), ← HCL.out, ← hLl, ← hL]
    rfl
  have eln : IntKind.u8.wrap (ln : Int) = ln := by rw [IntKind.wrap_u8']; omega
  have HLB := hide hLb
  have HLL1 := hide hLl
  have HL2 : Hid (ln ≤ 215) := hll
  have ln0 : (0 : Int) ≤ ln := by omega
  have ln1 : (ln : Int) ≤ 255 := by omega
  clear he hE h2 hNs hTs hL hLl hln hPK hpl hLb HOK HST hll hlg
  go_upto_region 28 with (first
    | (go_at_call 21; have h9 := HQ1; clear h9; refine (HQ1.out _).mono ?_; rintro e v139 ⟨⟨a140, d141, rfl, r142, -⟩, b143⟩; clear f5; have HX147 := hide ((b143.block q0 (lt_of_block HS1.out)).trans HS1.out); have y148 := blk_cell HX147.out 5 HSS.out; have HX149 := hide ((b143.block wo.heap.size (lt_of_block HO1.out)).trans HO1.out); obtain ⟨y150, y151, y152, y153, y154, y155, y156, y157, y158, y159, y160, y161, y162⟩ := bx13 HX149.out; have HK146 := hide (HK1.out.trans (Kw.of_below RP1.out.B b143)); have HR144 := hide r142; have HB145 := hide b143; clear r142 b143 HQ1 HK1)
    | (at_builtin; refine wpList_append_put rfl (.tmp 98) (.tmp 102) rfl w.heap.size _ _ RP1.out (HB145.out) a140 4 d141 (dg id 4) rfl rfl (HR144.out) (by have h8 := HLK.out; (try simp only [List.length_append, dg_length, plW_len, HLL1.out, List.length_cons, List.length_nil]); omega) (by omega) ?_; intro x163 z164 p165 k166 grz164; clear y148 y150 y151 y152 y153 y154 y155 y156 y157 y158 y159 y160 y161 y162; have HX169 := hide (k166.oth q0 _ 27 HX147.out (by decide) (by decide)); have y170 := blk_cell HX169.out 5 HSS.out; have HX171 := hide (k166.oth wo.heap.size _ 55 HX149.out (by decide) (by decide)); obtain ⟨y172, y173, y174, y175, y176, y177, y178, y179, y180, y181, y182, y183, y184⟩ := bx13 HX171.out; have HK168 := hide (HK146.out.trans k166); have RP167 := hide p165; clear p165 k166 grz164 HK146)
    | (go_at_call 22; have h9 := HYS; clear h9; refine (HYS.out _).mono ?_; rintro e u9 ⟨rfl, rfl⟩; clear HYS)
    | (go_at_call 21; have h9 := HQ2; clear h9; refine (HQ2.out _).mono ?_; rintro e v185 ⟨⟨a186, d187, rfl, r188, -⟩, b189⟩; clear y170 y172 y173 y174 y175 y176 y177 y178 y179 y180 y181 y182 y183 y184; have HX193 := hide ((b189.block q0 (lt_of_block HX169.out)).trans HX169.out); have y194 := blk_cell HX193.out 5 HSS.out; have HX195 := hide ((b189.block wo.heap.size (lt_of_block HX171.out)).trans HX171.out); obtain ⟨y196, y197, y198, y199, y200, y201, y202, y203, y204, y205, y206, y207, y208⟩ := bx13 HX195.out; have HK192 := hide (HK168.out.trans (Kw.of_below RP167.out.B b189)); have HR190 := hide r188; have HB191 := hide b189; clear r188 b189 HQ2 HK168)
    | (at_builtin; refine wpList_append_put rfl (.tmp 104) (.tmp 108) rfl w.heap.size _ _ RP167.out (HB191.out) a186 1 d187 (dg 1 1) rfl rfl (HR190.out) (by have h8 := HLK.out; (try simp only [List.length_append, dg_length]); omega) (by omega) ?_; intro x209 z210 p211 k212 grz210; clear y194 y196 y197 y198 y199 y200 y201 y202 y203 y204 y205 y206 y207 y208; have HX215 := hide (k212.oth q0 _ 27 HX193.out (by decide) (by decide)); have y216 := blk_cell HX215.out 5 HSS.out; have HX217 := hide (k212.oth wo.heap.size _ 55 HX195.out (by decide) (by decide)); obtain ⟨y218, y219, y220, y221, y222, y223, y224, y225, y226, y227, y228, y229, y230⟩ := bx13 HX217.out; have HK214 := hide (HK192.out.trans k212); have RP213 := hide p211; clear p211 k212 grz210 HK192)
    | (go_at_call 23; have h9 := HPK; clear h9; refine (HPK.out _).mono ?_; rintro e v231 ⟨⟨yv, rfl, ow⟩, bw⟩; obtain ⟨ra, rc, rfl⟩ := own_slice ow; clear y216 y218 y219 y220 y221 y222 y223 y224 y225 y226 y227 y228 y229 y230; have HX233 := hide ((bw.block q0 (lt_of_block HX215.out)).trans HX215.out); have y234 := blk_cell HX233.out 5 HSS.out; have HX235 := hide ((bw.block wo.heap.size (lt_of_block HX217.out)).trans HX217.out); obtain ⟨y236, y237, y238, y239, y240, y241, y242, y243, y244, y245, y246, y247, y248⟩ := bx13 HX235.out; have HK232 := hide (HK214.out.trans (Kw.of_below RP213.out.B bw)); have HOW := hide ow; have HBW := hide bw; clear ow bw HPK HK214)
    | (at_builtin; refine wpList_append_put rfl (.tmp 118) (.tmp 122) rfl w.heap.size _ _ RP213.out (HBW.out.trans ((below_alloc v231 _).mono HBW.out.size)) (some ⟨v231.heap.size, 0, none⟩) 1 1 ([(ln : Int)]) rfl rfl (lit1_reads v231 ln ln0 ln1) (by have h8 := HLK.out; (try simp only [List.length_append, dg_length]); omega) (by omega) ?_; intro x249 z250 p251 k252 grr; clear y234 y236 y237 y238 y239 y240 y241 y242 y243 y244 y245 y246 y247 y248; have HX255 := hide (k252.oth q0 _ 27 (((below_alloc v231 _).block q0 (lt_of_block HX233.out)).trans HX233.out) (by decide) (by decide)); have y256 := blk_cell HX255.out 5 HSS.out; have HX257 := hide (k252.oth wo.heap.size _ 55 (((below_alloc v231 _).block wo.heap.size (lt_of_block HX235.out)).trans HX235.out) (by decide) (by decide)); obtain ⟨y258, y259, y260, y261, y262, y263, y264, y265, y266, y267, y268, y269, y270⟩ := bx13 HX257.out; have HRL := hide (own_bytes (own_at HOW.out (w' := z250) (fun k9 hk9 => (grr.block k9 (by have := (HOW.out.lt k9 hk9).2; simp; omega) (fun e => by have h1 := (RP213.out.own.lt k9 e.symm).2; have h2 := (HOW.out.lt k9 hk9).1; omega)).trans ((below_alloc v231 _).block k9 (HOW.out.lt k9 hk9).2))) HLL1.out HLB.out); have HK254 := hide ((HK232.out.trans (Kw.of_below (Nat.le_trans RP213.out.B HBW.out.size) (below_alloc v231 _))).trans k252); have RP253 := hide p251; clear p251 k252 grr HK232)
    | (at_builtin; refine wpList_append_put rfl (.tmp 124) (.tmp 125) rfl w.heap.size _ _ RP253.out (Below.refl _ _) ra ln rc (L) rfl rfl (HRL.out) (by have h8 := HLK.out; (try simp only [List.length_append, dg_length, List.length_cons, List.length_nil]); omega) (Nat.le_trans HL2.out (by decide)) ?_; intro x271 z272 p273 k274 grz272; clear y256 y258 y259 y260 y261 y262 y263 y264 y265 y266 y267 y268 y269 y270; have HX277 := hide (k274.oth q0 _ 27 HX255.out (by decide) (by decide)); have y278 := blk_cell HX277.out 5 HSS.out; have HX279 := hide (k274.oth wo.heap.size _ 55 HX257.out (by decide) (by decide)); obtain ⟨y280, y281, y282, y283, y284, y285, y286, y287, y288, y289, y290, y291, y292⟩ := bx13 HX279.out; have HK276 := hide (HK254.out.trans k274); have RP275 := hide p273; clear p273 k274 grz272 HK254)
    | (go_at_call 24; have h9 := HAT; clear h9; refine (HAT.out _).mono ?_; rintro e v293 ⟨⟨a294, d295, rfl, r296⟩, b297⟩; clear y278 y280 y281 y282 y283 y284 y285 y286 y287 y288 y289 y290 y291 y292; have HX301 := hide ((b297.block q0 (lt_of_block HX277.out)).trans HX277.out); have y302 := blk_cell HX301.out 5 HSS.out; have HX303 := hide ((b297.block wo.heap.size (lt_of_block HX279.out)).trans HX279.out); obtain ⟨y304, y305, y306, y307, y308, y309, y310, y311, y312, y313, y314, y315, y316⟩ := bx13 HX303.out; have HK300 := hide (HK276.out.trans (Kw.of_below RP275.out.B b297)); have HR298 := hide r296; have HB299 := hide b297; clear r296 b297 HAT HK276)
    | (at_builtin; refine wpList_append_put rfl (.tmp 127) (.tmp 130) rfl w.heap.size _ _ RP275.out (HB299.out) a294 4 d295 (plW (p1, p2)) rfl rfl (HR298.out) (by have h8 := HLK.out; (try simp only [List.length_append, dg_length, HLL1.out, List.length_cons, List.length_nil]); omega) (by omega) ?_; intro x317 z318 p319 k320 grz318; clear y302 y304 y305 y306 y307 y308 y309 y310 y311 y312 y313 y314 y315 y316; have HX323 := hide (k320.oth q0 _ 27 HX301.out (by decide) (by decide)); have y324 := blk_cell HX323.out 5 HSS.out; have HX325 := hide (k320.oth wo.heap.size _ 55 HX303.out (by decide) (by decide)); obtain ⟨y326, y327, y328, y329, y330, y331, y332, y333, y334, y335, y336, y337, y338⟩ := bx13 HX325.out; have HK322 := hide (HK300.out.trans k320); have RP321 := hide p319; clear p319 k320 grz318 HK300)
    | (go_at_call 21; have h9 := HQ4; clear h9; refine (HQ4.out _).mono ?_; rintro e v339 ⟨⟨a340, d341, rfl, r342, -⟩, b343⟩; clear y324 y326 y327 y328 y329 y330 y331 y332 y333 y334 y335 y336 y337 y338; have HX347 := hide ((b343.block q0 (lt_of_block HX323.out)).trans HX323.out); have y348 := blk_cell HX347.out 5 HSS.out; have HX349 := hide ((b343.block wo.heap.size (lt_of_block HX325.out)).trans HX325.out); obtain ⟨y350, y351, y352, y353, y354, y355, y356, y357, y358, y359, y360, y361, y362⟩ := bx13 HX349.out; have HK346 := hide (HK322.out.trans (Kw.of_below RP321.out.B b343)); have HR344 := hide r342; have HB345 := hide b343; clear r342 b343 HQ4 HK322)
    | (at_builtin; refine wpList_append_put rfl (.tmp 132) (.tmp 137) rfl w.heap.size _ _ RP321.out (HB345.out) a340 4 d341 (dg (vn : Int) 4) rfl rfl (HR344.out) (by have h8 := HLK.out; (try simp only [List.length_append, dg_length, plW_len, HLL1.out, List.length_cons, List.length_nil]); omega) (by omega) ?_; intro x363 z364 p365 k366 grz364; clear y348 y350 y351 y352 y353 y354 y355 y356 y357 y358 y359 y360 y361 y362; have HX369 := hide (k366.oth q0 _ 27 HX347.out (by decide) (by decide)); have y370 := blk_cell HX369.out 5 HSS.out; have HX371 := hide (k366.oth wo.heap.size _ 55 HX349.out (by decide) (by decide)); obtain ⟨y372, y373, y374, y375, y376, y377, y378, y379, y380, y381, y382, y383, y384⟩ := bx13 HX371.out; have HK368 := hide (HK346.out.trans k366); have RP367 := hide p365; clear p365 k366 grz364 HK346)
    )
  obtain ⟨PH, hPH⟩ : ∃ PH, LK ++ dg id 4 ++ dg 1 1 ++ [(ln : Int)] ++ L ++ plW (p1, p2) ++ dg (vn : Int) 4 = PH := ⟨_, rfl⟩
  have HPHL : Hid (PH.length ≤ 60000000001000) := by
    show _ ≤ _
    have h8 := HLK.out
    have h9 := HLL1.out
    have h7 := HL2.out
    rw [← hPH]
    simp only [List.length_append, dg_length, plW_len, List.length_cons, List.length_nil, HLL1.out]
    omega
  have hwp := RP367.out
  rw [hPH] at hwp
  have HNX2 : Hid (LK ++ obW ⟨id, true, ⟨xk, xp, xN, xz, xm, xs, xh, xT⟩, (p1, p2), ch⟩ = PH ++ ch.flatMap chkW) := by
    show _ = _
    rw [HW.out, ← hPH]
    simp only [List.append_assoc]
  obtain ⟨lz, hlz⟩ : ∃ lz : Nat → List Int, ∀ j, lz j = PH ++ (ch.take j).flatMap chkW := ⟨_, fun _ => rfl⟩
  have hlzl : ∀ j, j ≤ vn → (lz j).length ≤ 70000000000000 := fun j hj => by
    have h1 := HPHL.out
    have h2 := HVN.out
    rw [hlz, List.length_append, flatW_len chkW_len, List.length_take]
    omega
  have HLZ := hide hlz
  have HLZL := hide hlzl
  have hl0 : PH = lz 0 := by rw [hlz]; simp
  rw [hl0] at hwp
  have HST0 := hide hwp
  clear hlz hlzl hwp hPH HLK hl0
  clear y370 y372 y373 y374 y375 y376 y377 y378 y379 y380 y381 y382 y383 y384
  have HCS : Hid ((#[.int .i64 id, .bool true, .int .i64 xk, .int .i64 xp, .string xN, .int .i64 xz, .int .i64 xm, .int .u64 xs, .int .i64 xh, .string xT, .int .i64 p1, .int .i64 p2, .slice va vn vc] : Array Value)[12]? = some (.slice va vn vc)) := rfl
  go_wp2
  go_loopw [4, 11] (fun s4 s11 wr => ∃ (j : Nat), j ≤ vn ∧ s11 = .int .i64 j ∧ Hid (Rp w wr w.heap.size s4 (lz j)) ∧ Hid (Kw w.heap.size [] wo wr) ∧ Hid (wr.heap[wo.heap.size]? = some (.cells #[.int .i64 id, .bool true, .int .i64 xk, .int .i64 xp, .string xN, .int .i64 xz, .int .i64 xm, .int .u64 xs, .int .i64 xh, .string xT, .int .i64 p1, .int .i64 p2, .slice va vn vc] 55 (0, 0))))
    (fun _ s11 _ => vn - (intOf s11).toNat)
  case atStart => exact ⟨0, Nat.zero_le _, rfl, HST0, HK368, HX371⟩
  case round =>
    clear HST0 RP367 HK368 HX369
    obtain ⟨j, hj, rfl, RPq, HKq, HOq⟩ := hrel
    by_cases hjt : j < vn
    · have hjl : j < ch.length := by rw [HCL.out]; exact hjt
      obtain ⟨vb, voff, rfl, hbs, hc⟩ := ReadsC.cells (ReadsL.below HCR.out RPq.out.kw.bel) (by omega)
      obtain ⟨c0, c1, c2, c3⟩ := hc j hjl
      have hck := HCH.out ch[j] (List.getElem_mem hjl)
      have hfl := take_flat chkW hjl
      have hnx := HLZ.out (j + 1)
      have hlq := HLZL.out j hj
      rw [hfl, ← List.append_assoc, ← HLZ.out j] at hnx
      have HNJ := hide hnx
      refine ck_round (w := w) (B := w.heap.size) (q := wo.heap.size) (LQ := lz j) wr RPq HOq HCS hjt HVN.out hlq c0 c1 c2 c3 hck.1.1 hck.1.2 hck.2.1 hck.2.2.1 hck.2.2.2 _ _ _ _ _ _ _ _ _ _ _ _ _ _ _ _ _ _ _ _ _ _ _ _ _ _ _ _ _ _ _ _ _ _ _ _ _ _ _ _ _ _ _ _ _ _ _ _ _ _ _ _ _ _ _ _ _ _ _ _ _ _ _ _ _ _ _ _ _ _ _ _ _ _ _ _ _ _ _ _ _ _ _ _ _ _ _ _ _ _ _ _ _ _ _ _ _ _ _ _ _ _ _ _ _ _ _ _ _ _ _ _ _ _ _ _ _ _ _ _ _ _ _ _ _ _ _ _ _ _ _ _ _ _ _ _ _ _ _ _ _ _ _ _ _ _ _ _ _ _ _ _ _ _ _ _ _ _ _ _ _ _ _ _ _ _ _ _ ?_
      intro z4 z11 z12 z139 z140 z141 z142 z143 z144 z145 z146 z147 z148 z149 z150 z151 z152 z153 z154 z155 z156 z157 z158 z159 z160 z161 z162 z163 z164 z165 z166 z167 z168 z169 w9 e11 hR9 hK9
      have HR9 : Hid (Rp w w9 w.heap.size z4 (lz (j + 1))) := by
        show Rp _ _ _ _ _
        rw [HNJ.out]
        exact hR9
      have HK9 := hide (HKq.out.trans hK9)
      have HO9 := hide (hK9.oth wo.heap.size _ 55 HOq.out (by decide) (by decide))
      subst e11
      clear hc hck hfl hnx hlq hR9 hK9 HNJ c0 c1 c2 c3 hbs hjl RPq HKq HOq
      go_roundw
      case rel => first | exact ⟨j + 1, by omega, rfl, HR9, HK9, HO9⟩ | ((repeat apply Exists.intro); exact ⟨⟨j + 1, by omega, rfl, HR9, HK9, HO9⟩, rfl⟩)
      case measure => simp [intOf]; omega
    · have hjn : vn = j := by omega
      subst hjn
      have hz := RPq.out
      rw [HLZ.out, List.take_of_length_le (by rw [HCL.out]; exact Nat.le_refl _), ← HNX2.out] at hz
      have HZ := hide hz
      clear hz
      have i12 := blk_cell HOq.out 12 HCS.out
      have hkm := HKM.out
      go_wp2
      exact HK.out _ _ _ _ _ _ _ _ _ _ _ _ _ _ _ _ _ _ _ _ _ _ _ _ _ _ _ _ _ _ _ _ _ _ _ _ _ _ _ _ _ _ _ _ _ _ _ _ _ _ _ _ _ _ _ _ _ _ _ _ _ _ _ _ _ _ _ _ _ _ _ _ _ _ _ _ _ _ _ _ _ _ _ _ _ _ _ _ _ _ _ _ (by go_num) HZ.out HKq.out

end Go.Proofs.Ytoaahellfflooaa
