/-
  SEAT Ytoaahellfflooaa.
-/
import Derived.Test.YtoaahellfflooaaVWg
namespace Go.Proofs.Ytoaahellfflooaa
open Go.RowKit
set_option linter.unusedVariables false

noncomputable def pkObj : Code := ((Try.f10.body.bind (fun c => (loopsOf c)[1]?)).getD .skip)
set_option maxHeartbeats 8000000 in
set_option maxRecDepth 100000 in
theorem ob_round_false {K : Act → World → Prop} {Q0 : Exit → Act → World → Prop} {w : World} {q0 b off k m vn vc oc : Nat} {va : Option Addr} {cs : Array Value} {v4 : Value} {LK : List Int} {id xk xp xz xm xs xh p1 p2 : Int} {xN xT : ByteArray} {ch : List Chk} (wo : World) (RPr : Hid (Rp w wo w.heap.size v4 LK)) (HSr : Hid (wo.heap[q0]? = some (.cells cs 27 (0, 0)))) (HSS : Hid (cs[5]? = some (.slice (some ⟨b, off, none⟩) m oc))) (HKM : Hid (k < m)) (hm4 : m ≤ 1048575) (HLK : Hid (LK.length ≤ 60000000000000))
    (g0 : wo.cell? ⟨b, off + k * 13, none⟩ = some (.int .i64 id))
    (g1 : wo.cell? ⟨b, off + k * 13 + 1, none⟩ = some (.bool false))
    (g2 : wo.cell? ⟨b, off + k * 13 + 2, none⟩ = some (.int .i64 xk))
    (g3 : wo.cell? ⟨b, off + k * 13 + 3, none⟩ = some (.int .i64 xp))
    (g4 : wo.cell? ⟨b, off + k * 13 + 4, none⟩ = some (.string xN))
    (g5 : wo.cell? ⟨b, off + k * 13 + 5, none⟩ = some (.int .i64 xz))
    (g6 : wo.cell? ⟨b, off + k * 13 + 6, none⟩ = some (.int .i64 xm))
    (g7 : wo.cell? ⟨b, off + k * 13 + 7, none⟩ = some (.int .u64 xs))
    (g8 : wo.cell? ⟨b, off + k * 13 + 8, none⟩ = some (.int .i64 xh))
    (g9 : wo.cell? ⟨b, off + k * 13 + 9, none⟩ = some (.string xT))
    (g10 : wo.cell? ⟨b, off + k * 13 + 10, none⟩ = some (.int .i64 p1))
    (g11 : wo.cell? ⟨b, off + k * 13 + 11, none⟩ = some (.int .i64 p2))
    (g12 : wo.cell? ⟨b, off + k * 13 + 12, none⟩ = some (.slice va vn vc))
    (hi0 : 2 ≤ id) (hi1 : id ≤ 1048575) (HOK : Hid (hdOk ⟨id, false, ⟨xk, xp, xN, xz, xm, xs, xh, xT⟩, (p1, p2), ch⟩ = true)) (HST : Hid (0 ≤ xs ∧ xs < 18446744073709551616)) (HVN : Hid (vn ≤ 65536)) (HCL : Hid (ch.length = vn)) (HCR : Hid (ReadsC w va vn ch)) (HCH : Hid (∀ c ∈ ch, (0 ≤ c.no ∧ c.no ≤ 1048575) ∧ plOk c.at_ = true ∧ (0 ≤ c.n ∧ c.n ≤ 2048))) (c0 c2 c3 c5 c6 u8 u9 u10 u11 u12 c13 c14 c15 c16 c17 c18 c19 c20 c21 c22 c23 c24 c25 c26 c27 c28 c29 c30 c31 c32 c33 c34 c35 c36 c37 c38 c39 c40 c41 c42 c43 c44 c45 c46 c47 c48 c49 c50 c51 c52 c53 c54 c55 c56 c57 c58 c59 c60 c61 c62 c63 c64 c65 c66 c67 c68 c69 c70 c71 c72 c73 c74 c75 c76 c77 c78 c79 c80 c81 c82 c83 c84 c85 u86 u87 u88 u89 u90 u91 u92 u93 u94 u95 u96 u97 u98 u99 u100 u101 u102 u103 u104 u105 u106 u107 u108 u109 u110 u111 u112 u113 u114 u115 u116 u117 u118 u119 u120 u121 u122 u123 u124 u125 u126 u127 u128 u129 u130 u131 u132 u133 u134 u135 u136 u137 u138 u139 u140 u141 u142 u143 u144 u145 u146 u147 u148 u149 u150 u151 u152 u153 u154 u155 u156 u157 u158 u159 u160 u161 u162 u163 u164 u165 u166 u167 u168 u169 c170 : Value)
    (hK : ∀ (x4 x7 x8 x9 x10 x11 x12 x86 x87 x88 x89 x90 x91 x92 x93 x94 x95 x96 x97 x98 x99 x100 x101 x102 x103 x104 x105 x106 x107 x108 x109 x110 x111 x112 x113 x114 x115 x116 x117 x118 x119 x120 x121 x122 x123 x124 x125 x126 x127 x128 x129 x130 x131 x132 x133 x134 x135 x136 x137 x138 x139 x140 x141 x142 x143 x144 x145 x146 x147 x148 x149 x150 x151 x152 x153 x154 x155 x156 x157 x158 x159 x160 x161 x162 x163 x164 x165 x166 x167 x168 x169 : Value) (w' : World), x7 = .int .i64 ((k + 1 : Nat) : Int) → Rp w w' w.heap.size x4 (LK ++ obW ⟨id, false, ⟨xk, xp, xN, xz, xm, xs, xh, xT⟩, (p1, p2), ch⟩) → Kw w.heap.size [] wo w' → K ⟨#[c0, .pointer (some ⟨q0, 0, none⟩), c2, c3, x4, c5, c6, x7, x8, x9, x10, x11, x12, c13, c14, c15, c16, c17, c18, c19, c20, c21, c22, c23, c24, c25, c26, c27, c28, c29, c30, c31, c32, c33, c34, c35, c36, c37, c38, c39, c40, c41, c42, c43, c44, c45, c46, c47, c48, c49, c50, c51, c52, c53, c54, c55, c56, c57, c58, c59, c60, c61, c62, c63, c64, c65, c66, c67, c68, c69, c70, c71, c72, c73, c74, c75, c76, c77, c78, c79, c80, c81, c82, c83, c84, c85, x86, x87, x88, x89, x90, x91, x92, x93, x94, x95, x96, x97, x98, x99, x100, x101, x102, x103, x104, x105, x106, x107, x108, x109, x110, x111, x112, x113, x114, x115, x116, x117, x118, x119, x120, x121, x122, x123, x124, x125, x126, x127, x128, x129, x130, x131, x132, x133, x134, x135, x136, x137, x138, x139, x140, x141, x142, x143, x144, x145, x146, x147, x148, x149, x150, x151, x152, x153, x154, x155, x156, x157, x158, x159, x160, x161, x162, x163, x164, x165, x166, x167, x168, x169, c170], []⟩ w') :
    Code.wp Try.prog pkObj (Exit.then K Q0) ⟨#[c0, .pointer (some ⟨q0, 0, none⟩), c2, c3, v4, c5, c6, .int .i64 (k : Int), u8, u9, u10, u11, u12, c13, c14, c15, c16, c17, c18, c19, c20, c21, c22, c23, c24, c25, c26, c27, c28, c29, c30, c31, c32, c33, c34, c35, c36, c37, c38, c39, c40, c41, c42, c43, c44, c45, c46, c47, c48, c49, c50, c51, c52, c53, c54, c55, c56, c57, c58, c59, c60, c61, c62, c63, c64, c65, c66, c67, c68, c69, c70, c71, c72, c73, c74, c75, c76, c77, c78, c79, c80, c81, c82, c83, c84, c85, u86, u87, u88, u89, u90, u91, u92, u93, u94, u95, u96, u97, u98, u99, u100, u101, u102, u103, u104, u105, u106, u107, u108, u109, u110, u111, u112, u113, u114, u115, u116, u117, u118, u119, u120, u121, u122, u123, u124, u125, u126, u127, u128, u129, u130, u131, u132, u133, u134, u135, u136, u137, u138, u139, u140, u141, u142, u143, u144, u145, u146, u147, u148, u149, u150, u151, u152, u153, u154, u155, u156, u157, u158, u159, u160, u161, u162, u163, u164, u165, u166, u167, u168, u169, c170], []⟩ wo := by
  conv => arg 2; whnf
  have HK := hide hK
  clear hK
  have hkm := HKM.out
  have d1 : (k : Int) < m := Int.ofNat_lt.2 hkm
  have hvn := HVN.out
  have eid : IntKind.u64.wrap id = id := by rw [IntKind.wrap_u64]; omega
  have evn : IntKind.u64.wrap (vn : Int) = vn := by rw [IntKind.wrap_u64]; omega
  have HQ1 := hide (fun u => rput21 id 4 u (by omega) (by omega) (by omega))
  have HQ4 := hide (fun u => rput21 (vn : Int) 4 u (by omega) (by omega) (by omega))
  have hb := below_alloc wo (.cells #[.int .i64 id, .bool false, .int .i64 xk, .int .i64 xp, .string xN, .int .i64 xz, .int .i64 xm, .int .u64 xs, .int .i64 xh, .string xT, .int .i64 p1, .int .i64 p2, .slice va vn vc] 55)
  have RP1 := hide (RPr.out.below hb)
  have HK1 : Hid (Kw w.heap.size [] wo (wo.alloc (.cells #[.int .i64 id, .bool false, .int .i64 xk, .int .i64 xp, .string xN, .int .i64 xz, .int .i64 xm, .int .u64 xs, .int .i64 xh, .string xT, .int .i64 p1, .int .i64 p2, .slice va vn vc] 55))) := Kw.of_below RPr.out.B hb
  have HS1 := hide ((hb.block q0 (lt_of_block HSr.out)).trans HSr.out)
  have HO1 : Hid ((wo.alloc (.cells #[.int .i64 id, .bool false, .int .i64 xk, .int .i64 xp, .string xN, .int .i64 xz, .int .i64 xm, .int .u64 xs, .int .i64 xh, .string xT, .int .i64 p1, .int .i64 p2, .slice va vn vc] 55)).heap[wo.heap.size]? = some (.cells #[.int .i64 id, .bool false, .int .i64 xk, .int .i64 xp, .string xN, .int .i64 xz, .int .i64 xm, .int .u64 xs, .int .i64 xh, .string xT, .int .i64 p1, .int .i64 p2, .slice va vn vc] 55 (0, 0))) := heap_alloc_new wo _
  have HYS := hide (ryes22 false)
  have HQ2 := hide (fun u => rput21 (if false = true then 1 else 0) 1 u (by omega) (by decide) (by decide))
  simp only [Bool.false_eq_true, if_false] at HYS HQ2
  have f5 := blk_cell HSr.out 5 HSS.out
  clear hb hi0 hi1 hvn hkm
  have HW : Hid (obW ⟨id, false, ⟨xk, xp, xN, xz, xm, xs, xh, xT⟩, (p1, p2), ch⟩ = dg id 4 ++ (dg 0 1 ++ (dg (vn : Int) 4 ++ ch.flatMap chkW))) := by
    show _ = _
    rw [← HCL.out]
    rfl
  clear HOK HST
  go_upto_region 28 with (first
    | (go_at_call 21; have h9 := HQ1; clear h9; refine (HQ1.out _).mono ?_; rintro e v1 ⟨⟨a2, d3, rfl, r4, -⟩, b5⟩; clear f5; have HX9 := hide ((b5.block q0 (lt_of_block HS1.out)).trans HS1.out); have y10 := blk_cell HX9.out 5 HSS.out; have HX11 := hide ((b5.block wo.heap.size (lt_of_block HO1.out)).trans HO1.out); obtain ⟨y12, y13, y14, y15, y16, y17, y18, y19, y20, y21, y22, y23, y24⟩ := bx13 HX11.out; have HK8 := hide (HK1.out.trans (Kw.of_below RP1.out.B b5)); have HR6 := hide r4; have HB7 := hide b5; clear r4 b5 HQ1 HK1)
    | (at_builtin; refine wpList_append_put rfl (.tmp 98) (.tmp 102) rfl w.heap.size _ _ RP1.out (HB7.out) a2 4 d3 (dg id 4) rfl rfl (HR6.out) (by have h8 := HLK.out; (try simp only [List.length_append, dg_length, plW_len, List.length_cons, List.length_nil]); omega) (by omega) ?_; intro x25 z26 p27 k28 grz26; clear y10 y12 y13 y14 y15 y16 y17 y18 y19 y20 y21 y22 y23 y24; have HX31 := hide (k28.oth q0 _ 27 HX9.out (by decide) (by decide)); have y32 := blk_cell HX31.out 5 HSS.out; have HX33 := hide (k28.oth wo.heap.size _ 55 HX11.out (by decide) (by decide)); obtain ⟨y34, y35, y36, y37, y38, y39, y40, y41, y42, y43, y44, y45, y46⟩ := bx13 HX33.out; have HK30 := hide (HK8.out.trans k28); have RP29 := hide p27; clear p27 k28 grz26 HK8)
    | (go_at_call 22; have h9 := HYS; clear h9; refine (HYS.out _).mono ?_; rintro e u9 ⟨rfl, rfl⟩; clear HYS)
    | (go_at_call 21; have h9 := HQ2; clear h9; refine (HQ2.out _).mono ?_; rintro e v47 ⟨⟨a48, d49, rfl, r50, -⟩, b51⟩; clear y32 y34 y35 y36 y37 y38 y39 y40 y41 y42 y43 y44 y45 y46; have HX55 := hide ((b51.block q0 (lt_of_block HX31.out)).trans HX31.out); have y56 := blk_cell HX55.out 5 HSS.out; have HX57 := hide ((b51.block wo.heap.size (lt_of_block HX33.out)).trans HX33.out); obtain ⟨y58, y59, y60, y61, y62, y63, y64, y65, y66, y67, y68, y69, y70⟩ := bx13 HX57.out; have HK54 := hide (HK30.out.trans (Kw.of_below RP29.out.B b51)); have HR52 := hide r50; have HB53 := hide b51; clear r50 b51 HQ2 HK30)
    | (at_builtin; refine wpList_append_put rfl (.tmp 104) (.tmp 108) rfl w.heap.size _ _ RP29.out (HB53.out) a48 1 d49 (dg 0 1) rfl rfl (HR52.out) (by have h8 := HLK.out; (try simp only [List.length_append, dg_length]); omega) (by omega) ?_; intro x71 z72 p73 k74 grz72; clear y56 y58 y59 y60 y61 y62 y63 y64 y65 y66 y67 y68 y69 y70; have HX77 := hide (k74.oth q0 _ 27 HX55.out (by decide) (by decide)); have y78 := blk_cell HX77.out 5 HSS.out; have HX79 := hide (k74.oth wo.heap.size _ 55 HX57.out (by decide) (by decide)); obtain ⟨y80, y81, y82, y83, y84, y85, y86, y87, y88, y89, y90, y91, y92⟩ := bx13 HX79.out; have HK76 := hide (HK54.out.trans k74); have RP75 := hide p73; clear p73 k74 grz72 HK54)
    | (go_at_call 21; have h9 := HQ4; clear h9; refine (HQ4.out _).mono ?_; rintro e v93 ⟨⟨a94, d95, rfl, r96, -⟩, b97⟩; clear y78 y80 y81 y82 y83 y84 y85 y86 y87 y88 y89 y90 y91 y92; have HX101 := hide ((b97.block q0 (lt_of_block HX77.out)).trans HX77.out); have y102 := blk_cell HX101.out 5 HSS.out; have HX103 := hide ((b97.block wo.heap.size (lt_of_block HX79.out)).trans HX79.out); obtain ⟨y104, y105, y106, y107, y108, y109, y110, y111, y112, y113, y114, y115, y116⟩ := bx13 HX103.out; have HK100 := hide (HK76.out.trans (Kw.of_below RP75.out.B b97)); have HR98 := hide r96; have HB99 := hide b97; clear r96 b97 HQ4 HK76)
    | (at_builtin; refine wpList_append_put rfl (.tmp 132) (.tmp 137) rfl w.heap.size _ _ RP75.out (HB99.out) a94 4 d95 (dg (vn : Int) 4) rfl rfl (HR98.out) (by have h8 := HLK.out; (try simp only [List.length_append, dg_length]); omega) (by omega) ?_; intro x117 z118 p119 k120 grz118; clear y102 y104 y105 y106 y107 y108 y109 y110 y111 y112 y113 y114 y115 y116; have HX123 := hide (k120.oth q0 _ 27 HX101.out (by decide) (by decide)); have y124 := blk_cell HX123.out 5 HSS.out; have HX125 := hide (k120.oth wo.heap.size _ 55 HX103.out (by decide) (by decide)); obtain ⟨y126, y127, y128, y129, y130, y131, y132, y133, y134, y135, y136, y137, y138⟩ := bx13 HX125.out; have HK122 := hide (HK100.out.trans k120); have RP121 := hide p119; clear p119 k120 grz118 HK100)
    )
  obtain ⟨PH, hPH⟩ : ∃ PH, LK ++ dg id 4 ++ dg 0 1 ++ dg (vn : Int) 4 = PH := ⟨_, rfl⟩
  have HPHL : Hid (PH.length ≤ 60000000001000) := by
    show _ ≤ _
    have h8 := HLK.out
    rw [← hPH]
    simp only [List.length_append, dg_length]
    omega
  have hwp := RP121.out
  rw [hPH] at hwp
  have HNX2 : Hid (LK ++ obW ⟨id, false, ⟨xk, xp, xN, xz, xm, xs, xh, xT⟩, (p1, p2), ch⟩ = PH ++ ch.flatMap chkW) := by
    show _ = _
    rw [HW.out, ← hPH]
    simp only [List.append_assoc]
  obtain ⟨lz, hlz⟩ : ∃ lz : Nat → List Int, ∀ j, lz j = PH ++ (ch.take j).flatMap chkW := ⟨_, fun _ => rfl⟩
  have hlzl : ∀ j, j ≤ vn → (lz j).length ≤ 70000000000000 := fun j hj => by
    have h1 := HPHL.out
    have h2 := HVN.out
    rw [hlz, List.length_append, flatW_len chkW_len, List.length_take]
    omega
  have HLZ := hide hlz
  have HLZL := hide hlzl
  have hl0 : PH = lz 0 := by rw [hlz]; simp
  rw [hl0] at hwp
  have HST0 := hide hwp
  clear hlz hlzl hwp hPH HLK hl0
  clear y124 y126 y127 y128 y129 y130 y131 y132 y133 y134 y135 y136 y137 y138
  have HCS : Hid ((#[.int .i64 id, .bool false, .int .i64 xk, .int .i64 xp, .string xN, .int .i64 xz, .int .i64 xm, .int .u64 xs, .int .i64 xh, .string xT, .int .i64 p1, .int .i64 p2, .slice va vn vc] : Array Value)[12]? = some (.slice va vn vc)) := rfl
  go_wp2
  go_loopw [4, 11] (fun s4 s11 wr => ∃ (j : Nat), j ≤ vn ∧ s11 = .int .i64 j ∧ Hid (Rp w wr w.heap.size s4 (lz j)) ∧ Hid (Kw w.heap.size [] wo wr) ∧ Hid (wr.heap[wo.heap.size]? = some (.cells #[.int .i64 id, .bool false, .int .i64 xk, .int .i64 xp, .string xN, .int .i64 xz, .int .i64 xm, .int .u64 xs, .int .i64 xh, .string xT, .int .i64 p1, .int .i64 p2, .slice va vn vc] 55 (0, 0))))
    (fun _ s11 _ => vn - (intOf s11).toNat)
  case atStart => exact ⟨0, Nat.zero_le _, rfl, HST0, HK122, HX125⟩
  case round =>
    clear HST0 RP121 HK122 HX123
    obtain ⟨j, hj, rfl, RPq, HKq, HOq⟩ := hrel
    by_cases hjt : j < vn
    · have hjl : j < ch.length := by rw [HCL.out]; exact hjt
      obtain ⟨vb, voff, rfl, hbs, hc⟩ := ReadsC.cells (ReadsL.below HCR.out RPq.out.kw.bel) (by omega)
      obtain ⟨c0, c1, c2, c3⟩ := hc j hjl
      have hck := HCH.out ch[j] (List.getElem_mem hjl)
      have hfl := take_flat chkW hjl
      have hnx := HLZ.out (j + 1)
      have hlq := HLZL.out j hj
      rw [hfl, ← List.append_assoc, ← HLZ.out j] at hnx
      have HNJ := hide hnx
      refine ck_round (w := w) (B := w.heap.size) (q := wo.heap.size) (LQ := lz j) wr RPq HOq HCS hjt HVN.out hlq c0 c1 c2 c3 hck.1.1 hck.1.2 hck.2.1 hck.2.2.1 hck.2.2.2 _ _ _ _ _ _ _ _ _ _ _ _ _ _ _ _ _ _ _ _ _ _ _ _ _ _ _ _ _ _ _ _ _ _ _ _ _ _ _ _ _ _ _ _ _ _ _ _ _ _ _ _ _ _ _ _ _ _ _ _ _ _ _ _ _ _ _ _ _ _ _ _ _ _ _ _ _ _ _ _ _ _ _ _ _ _ _ _ _ _ _ _ _ _ _ _ _ _ _ _ _ _ _ _ _ _ _ _ _ _ _ _ _ _ _ _ _ _ _ _ _ _ _ _ _ _ _ _ _ _ _ _ _ _ _ _ _ _ _ _ _ _ _ _ _ _ _ _ _ _ _ _ _ _ _ _ _ _ _ _ _ _ _ _ _ _ _ _ ?_
      intro z4 z11 z12 z139 z140 z141 z142 z143 z144 z145 z146 z147 z148 z149 z150 z151 z152 z153 z154 z155 z156 z157 z158 z159 z160 z161 z162 z163 z164 z165 z166 z167 z168 z169 w9 e11 hR9 hK9
      have HR9 : Hid (Rp w w9 w.heap.size z4 (lz (j + 1))) := by
        show Rp _ _ _ _ _
        rw [HNJ.out]
        exact hR9
      have HK9 := hide (HKq.out.trans hK9)
      have HO9 := hide (hK9.oth wo.heap.size _ 55 HOq.out (by decide) (by decide))
      subst e11
      clear hc hck hfl hnx hlq hR9 hK9 HNJ c0 c1 c2 c3 hbs hjl RPq HKq HOq
      go_roundw
      case rel => first | exact ⟨j + 1, by omega, rfl, HR9, HK9, HO9⟩ | ((repeat apply Exists.intro); exact ⟨⟨j + 1, by omega, rfl, HR9, HK9, HO9⟩, rfl⟩)
      case measure => simp [intOf]; omega
    · have hjn : vn = j := by omega
      subst hjn
      have hz := RPq.out
      rw [HLZ.out, List.take_of_length_le (by rw [HCL.out]; exact Nat.le_refl _), ← HNX2.out] at hz
      have HZ := hide hz
      clear hz
      have i12 := blk_cell HOq.out 12 HCS.out
      have hkm := HKM.out
      go_wp2
      exact HK.out _ _ _ _ _ _ _ _ _ _ _ _ _ _ _ _ _ _ _ _ _ _ _ _ _ _ _ _ _ _ _ _ _ _ _ _ _ _ _ _ _ _ _ _ _ _ _ _ _ _ _ _ _ _ _ _ _ _ _ _ _ _ _ _ _ _ _ _ _ _ _ _ _ _ _ _ _ _ _ _ _ _ _ _ _ _ _ _ _ _ _ _ (by go_num) HZ.out HKq.out

end Go.Proofs.Ytoaahellfflooaa
