/-
  SEAT Ytoaahellfflooaa.
-/
import Derived.Test.YtoaahellfflooaaVWk
namespace Go.Proofs.Ytoaahellfflooaa
open Go.RowKit
set_option linter.unusedVariables false

/-- The region of a number. -/
def regAt (n : Nat) : Code → Option Code
  | .region id ops d => if id == n then some (.region id ops d) else none
  | .seq a b => match regAt n a with
    | some c => some c
    | none => regAt n b
  | .loop c => regAt n c
  | .block _ c => regAt n c
  | .scope c => regAt n c
  | .cond _ a b => match regAt n a with
    | some c => some c
    | none => regAt n b
  | _ => none
set_option maxHeartbeats 4000000 in
set_option maxRecDepth 100000 in
theorem cp_r3 {Q : Exit → Act → World → Prop} {B q1 q3 : Nat} {v : Value} {c0s : Array Value} {cs : List Value} {c1s : Array Value} {ba : Option Addr} {n bc : Nat} (w : World) (H1 : Hid (w.heap[q1]? = some (.cells c1s 27 (0, 0)))) (hl : c1s[4]? = some (.slice ba n bc)) (hv1 : ¬ some q1 = v.ownBlock) (hq : ¬ q1 = q3) (hn : n ≤ 4398046510976) (H3 : Hid (w.heap[q3]? = some (.cells c0s 27 (0, 0)))) (hc0 : c0s[4]? = some v) (own : Hid (w.ownsRow B 48 4 v n cs)) (hB : B ≤ w.heap.size)
    (hv : v.ownBlock ≠ some q3) (hQ : ∀ (c : _) (a : Act) (d : Nat) (v : Value) (w : World), Q (.panic c) (a.put (some d) v) w → Q (.panic c) a w) (c0 c2 c4 c5 c6 c7 c8 c9 c10 c11 u12 u13 u14 u15 u16 u17 u18 u19 u20 u21 u22 c23 c24 c25 c26 c27 c28 c29 c30 c31 c32 c33 c34 c35 c36 c37 c38 c39 c40 c41 c42 c43 c44 c45 c46 c47 c48 c49 c50 c51 c52 c53 c54 c55 c56 c57 c58 c59 c60 c61 c62 c63 c64 c65 c66 c67 c68 c69 c70 c71 c72 c73 : Value)
    (hK : ∀ (x12 x13 x14 x15 x16 x17 x18 x19 x20 x21 x22 : Value) (w' : World), MkV B 48 4 n cs K77 q3 4 c0s 27 v.ownBlock w w' → Q .normal ⟨#[c0, .pointer (some ⟨q1, 0, none⟩), c2, .pointer (some ⟨q3, 0, none⟩), c4, c5, c6, c7, c8, c9, c10, c11, x12, x13, x14, x15, x16, x17, x18, x19, x20, x21, x22, c23, c24, c25, c26, c27, c28, c29, c30, c31, c32, c33, c34, c35, c36, c37, c38, c39, c40, c41, c42, c43, c44, c45, c46, c47, c48, c49, c50, c51, c52, c53, c54, c55, c56, c57, c58, c59, c60, c61, c62, c63, c64, c65, c66, c67, c68, c69, c70, c71, c72, c73], []⟩ w') :
    ((Try.f11.body.bind (regAt 3)).getD .skip).wp Try.prog Q ⟨#[c0, .pointer (some ⟨q1, 0, none⟩), c2, .pointer (some ⟨q3, 0, none⟩), c4, c5, c6, c7, c8, c9, c10, c11, u12, u13, u14, u15, u16, u17, u18, u19, u20, u21, u22, c23, c24, c25, c26, c27, c28, c29, c30, c31, c32, c33, c34, c35, c36, c37, c38, c39, c40, c41, c42, c43, c44, c45, c46, c47, c48, c49, c50, c51, c52, c53, c54, c55, c56, c57, c58, c59, c60, c61, c62, c63, c64, c65, c66, c67, c68, c69, c70, c71, c72, c73], []⟩ w := by
  conv => arg 2; whnf
  have HK := hide hK
  clear hK
  obtain ⟨i0, hi, hz0, hz1, hz2⟩ := info_parts info48
  have HI := hide (And.intro hi (And.intro hz0 (And.intro hz1 hz2)))
  clear hi hz0 hz1 hz2
  have hb1 := below_alloc w.drew (.cells #[.int .i64 77, .int .u64 0, .bool false, .int .i64 0, .int .i64 78, .int .u64 0, .bool false, .int .i64 0] 48)
  have hb2 : Below w.heap.size w (w.drew.alloc (.cells #[.int .i64 77, .int .u64 0, .bool false, .int .i64 0, .int .i64 78, .int .u64 0, .bool false, .int .i64 0] 48)) := (drewB w).trans hb1
  have h3d : w.drew.cell? ⟨q3, 4, none⟩ = some v := blk_cell H3.out 4 hc0
  have H4 : Hid ((w.drew.alloc (.cells #[.int .i64 77, .int .u64 0, .bool false, .int .i64 0, .int .i64 78, .int .u64 0, .bool false, .int .i64 0] 48)).heap[q3]? = some (.cells c0s 27 (0, 0))) := (hb2.block q3 (lt_of_block H3.out)).trans H3.out
  have OW1 := hide ((Only.ofB (F := fun _ => False) hb2).own own.out (fun _ _ h => h))
  have HRB : Hid (ReadsL (w.drew.alloc (.cells #[.int .i64 77, .int .u64 0, .bool false, .int .i64 0, .int .i64 78, .int .u64 0, .bool false, .int .i64 0] 48)) (some ⟨w.heap.size, 0, none⟩) 2 4 K77) := readsL_block rfl
  have HB2 := hide hb2
  have H1d := hide ((HB2.out.block q1 (lt_of_block H1.out)).trans H1.out)
  have hS0 : (fun u : World => u.cell? ⟨q1, 4, none⟩ = some (.slice ba n bc)) w.drew := blk_cell H1.out 4 hl
  clear hb1 hb2
  refine wp_region_held_drew (S := (fun u : World => u.cell? ⟨q1, 4, none⟩ = some (.slice ba n bc))) (by kernel_rfl) (hS0) (fun hHeld => ?_)
  refine tk 0 ?_ (hQ := fun _ _ _ h => hQ _ _ _ _ _ h)
  refine tk 2 ?_ (hQ := fun _ _ _ h => hQ _ _ _ _ _ h)
  refine tk 3 ?_ (hQ := fun _ _ _ h => hQ _ _ _ _ _ h)
  refine tk 6 ?_ (hQ := fun _ _ _ h => hQ _ _ _ _ _ h)
  refine tk 7 ?_ (hQ := fun _ _ _ h => hQ _ _ _ _ _ h)
  refine tk 8 ?_ (hQ := fun _ _ _ h => hQ _ _ _ _ _ h)
  refine tw 1 4 [1, 4] (fun u => u.cell? ⟨q3, 4, none⟩ = some v) (fun K hK => ?_) h3d (hQ := fun _ _ _ h => hQ _ _ _ _ _ h)
  go_simp
  go_wp2_with fail
  change K _ (w.drew.alloc (.cells #[.int .i64 77, .int .u64 0, .bool false, .int .i64 0, .int .i64 78, .int .u64 0, .bool false, .int .i64 0] 48))
  have hSnew : (fun u : World => u.cell? ⟨q1, 4, none⟩ = some (.slice ba n bc)) (w.drew.alloc (.cells #[.int .i64 77, .int .u64 0, .bool false, .int .i64 0, .int .i64 78, .int .u64 0, .bool false, .int .i64 0] 48)) := blk_cell H1d.out 4 hl
  have h3n := blk_cell H4.out 4 hc0
  refine hK.out _ _ hSnew h3n ?_
  clear hHeld h3d h3n
  have hHeld := hSnew
  clear hK K hSnew
  try simp only [Act.put, List.setIfInBounds_toArray, List.set_cons_zero, List.set_cons_succ]
  refine rd 5 (fun K hK => ?_)
  refine wp_append_src (.tmp 13) (.tmp 16) 24 rfl B 48 i0 _ 4 32 Try.underlying24 HI.out.1 HI.out.2.1 HI.out.2.2.1 HI.out.2.2.2 rfl (by decide) v n cs rfl OW1.out (some ⟨w.heap.size, 0, none⟩) 2 2 K77 rfl HRB.out (by decide) (by simp only [maxLen]; omega) (by omega) (by have := HB2.out.size; omega) ?_
  intro v2 w2 own2 gr2
  obtain ⟨g, c, rfl, hc1, hc2, hBg, hgw, hmk⟩ := Mrk.mk own2
  have HMK := hide hmk
  have HO2 : Hid (Only (fun k => some k = v.ownBlock) w w2) := (Only.ofB HB2.out).trans (Only.ofG gr2 (fun _ _ h => h.symm)) (fun _ _ h => h)
  have H5 := hide (HO2.out.blk H3.out (fun e => hv e.symm))
  have hSnew : (fun u : World => u.cell? ⟨q1, 4, none⟩ = some (.slice ba n bc)) w2 := blk_cell (HO2.out.blk H1.out hv1) 4 hl
  have hle : ((n : Int) ≤ (c : Int)) := by omega
  have hle0 : ((0 : Int) ≤ (n : Int)) := by omega
  clear own2 gr2 hmk
  refine hK.out _ _ hSnew (fun hHeldN => ?_)
  clear hK K hSnew
  clear hHeld
  have hHeld := hHeldN
  clear hHeldN
  try simp only [Act.put, List.setIfInBounds_toArray, List.set_cons_zero, List.set_cons_succ]
  refine tk 9 ?_ (hQ := fun _ _ _ h => hQ _ _ _ _ _ h)
  refine tk 10 ?_ (hQ := fun _ _ _ h => hQ _ _ _ _ _ h)
  have hfz := blk_free H5.out 4
  have h5c := blk_cell H5.out 4 hc0
  have hSnew : (fun u : World => u.cell? ⟨q1, 4, none⟩ = some (.slice ba n bc)) (w2.setCell ⟨q3, 4, none⟩ (.slice (some ⟨g, 0, none⟩) n c)) := blk_cell ((Only.setCell (· = q3) w2 q3 4 _ rfl).blk (HO2.out.blk H1.out hv1) hq) 4 hl
  refine rd 11 (fun K hK => ?_)
  go_simp
  go_wp2_with fail
  change K _ (w2.setCell ⟨q3, 4, none⟩ (.slice (some ⟨g, 0, none⟩) n c))
  refine hK.out _ _ hSnew (fun hHeldN => ?_)
  clear hK K hSnew
  clear hHeld hHeldN
  try simp only [Act.put, List.setIfInBounds_toArray, List.set_cons_zero, List.set_cons_succ]
  refine wpAnyH_done (by kernel_rfl) ?_ _
  refine HK.out _ _ _ _ _ _ _ _ _ _ _ _ ⟨.slice (some ⟨g, 0, none⟩) n c, ?_, ?_, ?_⟩
  · refine HMK.out.only (Only.setCell (· = q3) w2 q3 4 _ rfl) (fun k hk e => ?_)
    obtain ⟨cs9, h9⟩ := HMK.out.tag k hk
    subst e
    exact tag_ne h9 H5.out (by decide) rfl
  · exact heap_setCell_same w2 q3 4 _ _ _ H5.out
  · exact (HO2.out.mono (G := fun k => k = q3 ∨ some k = v.ownBlock) (fun _ _ h => Or.inr h)).trans' (Only.setCell _ w2 q3 4 _ (Or.inl rfl))
set_option maxHeartbeats 4000000 in
set_option maxRecDepth 100000 in
theorem cp_r12 {Q : Exit → Act → World → Prop} {B q1 q3 : Nat} {v : Value} {c0s : Array Value} {cs : List Value} {c1s : Array Value} {oa : Option Addr} {m oc : Nat} (w : World) (H1 : Hid (w.heap[q1]? = some (.cells c1s 27 (0, 0)))) (hl : c1s[5]? = some (.slice oa m oc)) (hv1 : ¬ some q1 = v.ownBlock) (hq : ¬ q1 = q3) (hn : m ≤ 1034834473170) (H3 : Hid (w.heap[q3]? = some (.cells c0s 27 (0, 0)))) (hc0 : c0s[5]? = some v) (own : Hid (w.ownsRow B 55 13 v m cs)) (hB : B ≤ w.heap.size)
    (hv : v.ownBlock ≠ some q3) (hQ : ∀ (c : _) (a : Act) (d : Nat) (v : Value) (w : World), Q (.panic c) (a.put (some d) v) w → Q (.panic c) a w) (c0 c2 c4 c5 c6 c7 c8 c9 c10 c11 c12 c13 c14 c15 c16 c17 c18 c19 c20 c21 c22 c23 c24 c25 c26 c27 c28 c29 c30 c31 c32 c33 c34 c35 c36 c37 c38 c39 c40 c41 c42 c43 c44 c45 c46 c47 c48 c49 c50 c51 c52 c53 c54 c55 c56 c57 c58 c59 c60 c61 u62 u63 u64 u65 u66 u67 u68 u69 u70 u71 u72 c73 : Value)
    (hK : ∀ (x62 x63 x64 x65 x66 x67 x68 x69 x70 x71 x72 : Value) (w' : World), MkV B 55 13 m cs O81 q3 5 c0s 27 v.ownBlock w w' → Q .normal ⟨#[c0, .pointer (some ⟨q1, 0, none⟩), c2, .pointer (some ⟨q3, 0, none⟩), c4, c5, c6, c7, c8, c9, c10, c11, c12, c13, c14, c15, c16, c17, c18, c19, c20, c21, c22, c23, c24, c25, c26, c27, c28, c29, c30, c31, c32, c33, c34, c35, c36, c37, c38, c39, c40, c41, c42, c43, c44, c45, c46, c47, c48, c49, c50, c51, c52, c53, c54, c55, c56, c57, c58, c59, c60, c61, x62, x63, x64, x65, x66, x67, x68, x69, x70, x71, x72, c73], []⟩ w') :
    ((Try.f11.body.bind (regAt 12)).getD .skip).wp Try.prog Q ⟨#[c0, .pointer (some ⟨q1, 0, none⟩), c2, .pointer (some ⟨q3, 0, none⟩), c4, c5, c6, c7, c8, c9, c10, c11, c12, c13, c14, c15, c16, c17, c18, c19, c20, c21, c22, c23, c24, c25, c26, c27, c28, c29, c30, c31, c32, c33, c34, c35, c36, c37, c38, c39, c40, c41, c42, c43, c44, c45, c46, c47, c48, c49, c50, c51, c52, c53, c54, c55, c56, c57, c58, c59, c60, c61, u62, u63, u64, u65, u66, u67, u68, u69, u70, u71, u72, c73], []⟩ w := by
  conv => arg 2; whnf
  have HK := hide hK
  clear hK
  obtain ⟨i0, hi, hz0, hz1, hz2⟩ := info_parts info55
  have HI := hide (And.intro hi (And.intro hz0 (And.intro hz1 hz2)))
  clear hi hz0 hz1 hz2
  have hb1 := below_alloc w.drew (.cells #[.int .i64 81, .bool false, .int .i64 0, .int .i64 0, .string ⟨#[]⟩, .int .i64 0, .int .i64 0, .int .u64 0, .int .i64 0, .string ⟨#[]⟩, .int .i64 0, .int .i64 0, .slice none 0 0, .int .i64 82, .bool false, .int .i64 0, .int .i64 0, .string ⟨#[]⟩, .int .i64 0, .int .i64 0, .int .u64 0, .int .i64 0, .string ⟨#[]⟩, .int .i64 0, .int .i64 0, .slice none 0 0] 55)
  have hb2 : Below w.heap.size w (w.drew.alloc (.cells #[.int .i64 81, .bool false, .int .i64 0, .int .i64 0, .string ⟨#[]⟩, .int .i64 0, .int .i64 0, .int .u64 0, .int .i64 0, .string ⟨#[]⟩, .int .i64 0, .int .i64 0, .slice none 0 0, .int .i64 82, .bool false, .int .i64 0, .int .i64 0, .string ⟨#[]⟩, .int .i64 0, .int .i64 0, .int .u64 0, .int .i64 0, .string ⟨#[]⟩, .int .i64 0, .int .i64 0, .slice none 0 0] 55)) := (drewB w).trans hb1
  have h3d : w.drew.cell? ⟨q3, 5, none⟩ = some v := blk_cell H3.out 5 hc0
  have H4 : Hid ((w.drew.alloc (.cells #[.int .i64 81, .bool false, .int .i64 0, .int .i64 0, .string ⟨#[]⟩, .int .i64 0, .int .i64 0, .int .u64 0, .int .i64 0, .string ⟨#[]⟩, .int .i64 0, .int .i64 0, .slice none 0 0, .int .i64 82, .bool false, .int .i64 0, .int .i64 0, .string ⟨#[]⟩, .int .i64 0, .int .i64 0, .int .u64 0, .int .i64 0, .string ⟨#[]⟩, .int .i64 0, .int .i64 0, .slice none 0 0] 55)).heap[q3]? = some (.cells c0s 27 (0, 0))) := (hb2.block q3 (lt_of_block H3.out)).trans H3.out
  have OW1 := hide ((Only.ofB (F := fun _ => False) hb2).own own.out (fun _ _ h => h))
  have HRB : Hid (ReadsL (w.drew.alloc (.cells #[.int .i64 81, .bool false, .int .i64 0, .int .i64 0, .string ⟨#[]⟩, .int .i64 0, .int .i64 0, .int .u64 0, .int .i64 0, .string ⟨#[]⟩, .int .i64 0, .int .i64 0, .slice none 0 0, .int .i64 82, .bool false, .int .i64 0, .int .i64 0, .string ⟨#[]⟩, .int .i64 0, .int .i64 0, .int .u64 0, .int .i64 0, .string ⟨#[]⟩, .int .i64 0, .int .i64 0, .slice none 0 0] 55)) (some ⟨w.heap.size, 0, none⟩) 2 13 O81) := readsL_block rfl
  have HB2 := hide hb2
  have H1d := hide ((HB2.out.block q1 (lt_of_block H1.out)).trans H1.out)
  have hS0 : (fun u : World => u.cell? ⟨q1, 5, none⟩ = some (.slice oa m oc)) w.drew := blk_cell H1.out 5 hl
  clear hb1 hb2
  refine wp_region_held_drew (S := (fun u : World => u.cell? ⟨q1, 5, none⟩ = some (.slice oa m oc))) (by kernel_rfl) (hS0) (fun hHeld => ?_)
  refine tk 0 ?_ (hQ := fun _ _ _ h => hQ _ _ _ _ _ h)
  refine tk 2 ?_ (hQ := fun _ _ _ h => hQ _ _ _ _ _ h)
  refine tk 3 ?_ (hQ := fun _ _ _ h => hQ _ _ _ _ _ h)
  refine tk 6 ?_ (hQ := fun _ _ _ h => hQ _ _ _ _ _ h)
  refine tk 7 ?_ (hQ := fun _ _ _ h => hQ _ _ _ _ _ h)
  refine tk 8 ?_ (hQ := fun _ _ _ h => hQ _ _ _ _ _ h)
  refine tw 1 4 [1, 4] (fun u => u.cell? ⟨q3, 5, none⟩ = some v) (fun K hK => ?_) h3d (hQ := fun _ _ _ h => hQ _ _ _ _ _ h)
  go_simp
  go_wp2_with fail
  change K _ (w.drew.alloc (.cells #[.int .i64 81, .bool false, .int .i64 0, .int .i64 0, .string ⟨#[]⟩, .int .i64 0, .int .i64 0, .int .u64 0, .int .i64 0, .string ⟨#[]⟩, .int .i64 0, .int .i64 0, .slice none 0 0, .int .i64 82, .bool false, .int .i64 0, .int .i64 0, .string ⟨#[]⟩, .int .i64 0, .int .i64 0, .int .u64 0, .int .i64 0, .string ⟨#[]⟩, .int .i64 0, .int .i64 0, .slice none 0 0] 55))
  have hSnew : (fun u : World => u.cell? ⟨q1, 5, none⟩ = some (.slice oa m oc)) (w.drew.alloc (.cells #[.int .i64 81, .bool false, .int .i64 0, .int .i64 0, .string ⟨#[]⟩, .int .i64 0, .int .i64 0, .int .u64 0, .int .i64 0, .string ⟨#[]⟩, .int .i64 0, .int .i64 0, .slice none 0 0, .int .i64 82, .bool false, .int .i64 0, .int .i64 0, .string ⟨#[]⟩, .int .i64 0, .int .i64 0, .int .u64 0, .int .i64 0, .string ⟨#[]⟩, .int .i64 0, .int .i64 0, .slice none 0 0] 55)) := blk_cell H1d.out 5 hl
  have h3n := blk_cell H4.out 5 hc0
  refine hK.out _ _ hSnew h3n ?_
  clear hHeld h3d h3n
  have hHeld := hSnew
  clear hK K hSnew
  try simp only [Act.put, List.setIfInBounds_toArray, List.set_cons_zero, List.set_cons_succ]
  refine rd 5 (fun K hK => ?_)
  refine wp_append_src (.tmp 63) (.tmp 66) 25 rfl B 55 i0 _ 13 136 Try.underlying25 HI.out.1 HI.out.2.1 HI.out.2.2.1 HI.out.2.2.2 rfl (by decide) v m cs rfl OW1.out (some ⟨w.heap.size, 0, none⟩) 2 2 O81 rfl HRB.out (by decide) (by simp only [maxLen]; omega) (by omega) (by have := HB2.out.size; omega) ?_
  intro v2 w2 own2 gr2
  obtain ⟨g, c, rfl, hc1, hc2, hBg, hgw, hmk⟩ := Mrk.mk own2
  have HMK := hide hmk
  have HO2 : Hid (Only (fun k => some k = v.ownBlock) w w2) := (Only.ofB HB2.out).trans (Only.ofG gr2 (fun _ _ h => h.symm)) (fun _ _ h => h)
  have H5 := hide (HO2.out.blk H3.out (fun e => hv e.symm))
  have hSnew : (fun u : World => u.cell? ⟨q1, 5, none⟩ = some (.slice oa m oc)) w2 := blk_cell (HO2.out.blk H1.out hv1) 5 hl
  have hle : ((m : Int) ≤ (c : Int)) := by omega
  have hle0 : ((0 : Int) ≤ (m : Int)) := by omega
  clear own2 gr2 hmk
  refine hK.out _ _ hSnew (fun hHeldN => ?_)
  clear hK K hSnew
  clear hHeld
  have hHeld := hHeldN
  clear hHeldN
  try simp only [Act.put, List.setIfInBounds_toArray, List.set_cons_zero, List.set_cons_succ]
  refine tk 9 ?_ (hQ := fun _ _ _ h => hQ _ _ _ _ _ h)
  refine tk 10 ?_ (hQ := fun _ _ _ h => hQ _ _ _ _ _ h)
  have hfz := blk_free H5.out 5
  have h5c := blk_cell H5.out 5 hc0
  have hSnew : (fun u : World => u.cell? ⟨q1, 5, none⟩ = some (.slice oa m oc)) (w2.setCell ⟨q3, 5, none⟩ (.slice (some ⟨g, 0, none⟩) m c)) := blk_cell ((Only.setCell (· = q3) w2 q3 5 _ rfl).blk (HO2.out.blk H1.out hv1) hq) 5 hl
  refine rd 11 (fun K hK => ?_)
  go_simp
  go_wp2_with fail
  change K _ (w2.setCell ⟨q3, 5, none⟩ (.slice (some ⟨g, 0, none⟩) m c))
  refine hK.out _ _ hSnew (fun hHeldN => ?_)
  clear hK K hSnew
  clear hHeld hHeldN
  try simp only [Act.put, List.setIfInBounds_toArray, List.set_cons_zero, List.set_cons_succ]
  refine wpAnyH_done (by kernel_rfl) ?_ _
  refine HK.out _ _ _ _ _ _ _ _ _ _ _ _ ⟨.slice (some ⟨g, 0, none⟩) m c, ?_, ?_, ?_⟩
  · refine HMK.out.only (Only.setCell (· = q3) w2 q3 5 _ rfl) (fun k hk e => ?_)
    obtain ⟨cs9, h9⟩ := HMK.out.tag k hk
    subst e
    exact tag_ne h9 H5.out (by decide) rfl
  · exact heap_setCell_same w2 q3 5 _ _ _ H5.out
  · exact (HO2.out.mono (G := fun k => k = q3 ∨ some k = v.ownBlock) (fun _ _ h => Or.inr h)).trans' (Only.setCell _ w2 q3 5 _ (Or.inl rfl))
set_option maxHeartbeats 4000000 in
set_option maxRecDepth 100000 in
theorem cp_r10 {Q : Exit → Act → World → Prop} {B q1 q5 : Nat} {v : Value} {c0s : Array Value} {cs : List Value} {c1s : Array Value} {va : Option Addr} {b off k m oc vn vc : Nat} (w : World) (H1 : Hid (w.heap[q1]? = some (.cells c1s 27 (0, 0)))) (hl : c1s[5]? = some (.slice (some ⟨b, off, none⟩) m oc)) (hcell : Hid (w.cell? ⟨b, off + k * 13 + 12, none⟩ = some (.slice va vn vc))) (hkm : (k : Int) < m) (hvb : ¬ some b = v.ownBlock) (hqb : ¬ b = q5) (hv1 : ¬ some q1 = v.ownBlock) (hq : ¬ q1 = q5) (hn : vn ≤ 4398046510976) (H3 : Hid (w.heap[q5]? = some (.cells c0s 55 (0, 0)))) (hc0 : c0s[12]? = some v) (own : Hid (w.ownsRow B 71 4 v vn cs)) (hB : B ≤ w.heap.size)
    (hv : v.ownBlock ≠ some q5) (hQ : ∀ (c : _) (a : Act) (d : Nat) (v : Value) (w : World), Q (.panic c) (a.put (some d) v) w → Q (.panic c) a w) (c0 c2 c3 c6 c7 c8 c9 c10 c11 c12 c13 c14 c15 c16 c17 c18 c19 c20 c21 c22 c23 c24 c25 c26 c27 c28 c29 c30 c31 c32 c33 c34 c35 c36 c37 c38 c39 c40 u41 u42 u43 u44 u45 u46 u47 u48 u49 u50 u51 u52 u53 u54 u55 c56 c57 c58 c59 c60 c61 c62 c63 c64 c65 c66 c67 c68 c69 c70 c71 c72 c73 : Value)
    (hK : ∀ (x41 x42 x43 x44 x45 x46 x47 x48 x49 x50 x51 x52 x53 x54 x55 : Value) (w' : World), MkV B 71 4 vn cs C79 q5 12 c0s 55 v.ownBlock w w' → Q .normal ⟨#[c0, .pointer (some ⟨q1, 0, none⟩), c2, c3, .int .i64 (k : Int), .pointer (some ⟨q5, 0, none⟩), c6, c7, c8, c9, c10, c11, c12, c13, c14, c15, c16, c17, c18, c19, c20, c21, c22, c23, c24, c25, c26, c27, c28, c29, c30, c31, c32, c33, c34, c35, c36, c37, c38, c39, c40, x41, x42, x43, x44, x45, x46, x47, x48, x49, x50, x51, x52, x53, x54, x55, c56, c57, c58, c59, c60, c61, c62, c63, c64, c65, c66, c67, c68, c69, c70, c71, c72, c73], []⟩ w') :
    ((Try.f11.body.bind (regAt 10)).getD .skip).wp Try.prog Q ⟨#[c0, .pointer (some ⟨q1, 0, none⟩), c2, c3, .int .i64 (k : Int), .pointer (some ⟨q5, 0, none⟩), c6, c7, c8, c9, c10, c11, c12, c13, c14, c15, c16, c17, c18, c19, c20, c21, c22, c23, c24, c25, c26, c27, c28, c29, c30, c31, c32, c33, c34, c35, c36, c37, c38, c39, c40, u41, u42, u43, u44, u45, u46, u47, u48, u49, u50, u51, u52, u53, u54, u55, c56, c57, c58, c59, c60, c61, c62, c63, c64, c65, c66, c67, c68, c69, c70, c71, c72, c73], []⟩ w := by
  conv => arg 2; whnf
  have HK := hide hK
  clear hK
  obtain ⟨i0, hi, hz0, hz1, hz2⟩ := info_parts info71
  have HI := hide (And.intro hi (And.intro hz0 (And.intro hz1 hz2)))
  clear hi hz0 hz1 hz2
  have hb1 := below_alloc w.drew (.cells #[.int .i64 79, .int .i64 0, .int .i64 0, .int .i64 0, .int .i64 80, .int .i64 0, .int .i64 0, .int .i64 0] 71)
  have hb2 : Below w.heap.size w (w.drew.alloc (.cells #[.int .i64 79, .int .i64 0, .int .i64 0, .int .i64 0, .int .i64 80, .int .i64 0, .int .i64 0, .int .i64 0] 71)) := (drewB w).trans hb1
  have h3d : w.drew.cell? ⟨q5, 12, none⟩ = some v := blk_cell H3.out 12 hc0
  have H4 : Hid ((w.drew.alloc (.cells #[.int .i64 79, .int .i64 0, .int .i64 0, .int .i64 0, .int .i64 80, .int .i64 0, .int .i64 0, .int .i64 0] 71)).heap[q5]? = some (.cells c0s 55 (0, 0))) := (hb2.block q5 (lt_of_block H3.out)).trans H3.out
  have OW1 := hide ((Only.ofB (F := fun _ => False) hb2).own own.out (fun _ _ h => h))
  have HRB : Hid (ReadsL (w.drew.alloc (.cells #[.int .i64 79, .int .i64 0, .int .i64 0, .int .i64 0, .int .i64 80, .int .i64 0, .int .i64 0, .int .i64 0] 71)) (some ⟨w.heap.size, 0, none⟩) 2 4 C79) := readsL_block rfl
  have HB2 := hide hb2
  have H1d := hide ((HB2.out.block q1 (lt_of_block H1.out)).trans H1.out)
  have hbl : b < w.heap.size := World.block_lt_of_cell? w ⟨b, off + k * 13 + 12, none⟩ hcell.out
  have hS0 : (fun u : World => u.cell? ⟨q1, 5, none⟩ = some (.slice (some ⟨b, off, none⟩) m oc) ∧ u.cell? ⟨b, off + k * 13 + 12, none⟩ = some (.slice va vn vc)) w.drew := ⟨blk_cell H1.out 5 hl, hcell.out⟩
  clear hb1 hb2
  refine wp_region_held_drew (S := (fun u : World => u.cell? ⟨q1, 5, none⟩ = some (.slice (some ⟨b, off, none⟩) m oc) ∧ u.cell? ⟨b, off + k * 13 + 12, none⟩ = some (.slice va vn vc))) (by kernel_rfl) (hS0) (fun hHeld => ?_)
  refine tk 0 ?_ (hQ := fun _ _ _ h => hQ _ _ _ _ _ h)
  refine tk 2 ?_ (hQ := fun _ _ _ h => hQ _ _ _ _ _ h)
  refine tk 3 ?_ (hQ := fun _ _ _ h => hQ _ _ _ _ _ h)
  refine tk 6 ?_ (hQ := fun _ _ _ h => hQ _ _ _ _ _ h)
  refine tk 7 ?_ (hQ := fun _ _ _ h => hQ _ _ _ _ _ h)
  refine tk 8 ?_ (hQ := fun _ _ _ h => hQ _ _ _ _ _ h)
  refine tk 9 ?_ (hQ := fun _ _ _ h => hQ _ _ _ _ _ h)
  refine tk 10 ?_ (hQ := fun _ _ _ h => hQ _ _ _ _ _ h)
  refine tk 11 ?_ (hQ := fun _ _ _ h => hQ _ _ _ _ _ h)
  refine tk 12 ?_ (hQ := fun _ _ _ h => hQ _ _ _ _ _ h)
  refine tw 1 4 [1, 4] (fun u => u.cell? ⟨q5, 12, none⟩ = some v) (fun K hK => ?_) h3d (hQ := fun _ _ _ h => hQ _ _ _ _ _ h)
  go_simp
  go_wp2_with fail
  change K _ (w.drew.alloc (.cells #[.int .i64 79, .int .i64 0, .int .i64 0, .int .i64 0, .int .i64 80, .int .i64 0, .int .i64 0, .int .i64 0] 71))
  have hSnew : (fun u : World => u.cell? ⟨q1, 5, none⟩ = some (.slice (some ⟨b, off, none⟩) m oc) ∧ u.cell? ⟨b, off + k * 13 + 12, none⟩ = some (.slice va vn vc)) (w.drew.alloc (.cells #[.int .i64 79, .int .i64 0, .int .i64 0, .int .i64 0, .int .i64 80, .int .i64 0, .int .i64 0, .int .i64 0] 71)) := ⟨blk_cell H1d.out 5 hl, (HB2.out.cell (p := ⟨b, off + k * 13 + 12, none⟩) hbl).trans hcell.out⟩
  have h3n := blk_cell H4.out 12 hc0
  refine hK.out _ _ hSnew h3n ?_
  clear hHeld h3d h3n
  have hHeld := hSnew
  clear hK K hSnew
  try simp only [Act.put, List.setIfInBounds_toArray, List.set_cons_zero, List.set_cons_succ]
  refine rd 5 (fun K hK => ?_)
  refine wp_append_src (.tmp 42) (.tmp 45) 53 rfl B 71 i0 _ 4 32 Try.underlying53 HI.out.1 HI.out.2.1 HI.out.2.2.1 HI.out.2.2.2 rfl (by decide) v vn cs rfl OW1.out (some ⟨w.heap.size, 0, none⟩) 2 2 C79 rfl HRB.out (by decide) (by simp only [maxLen]; omega) (by omega) (by have := HB2.out.size; omega) ?_
  intro v2 w2 own2 gr2
  obtain ⟨g, c, rfl, hc1, hc2, hBg, hgw, hmk⟩ := Mrk.mk own2
  have HMK := hide hmk
  have HO2 : Hid (Only (fun k => some k = v.ownBlock) w w2) := (Only.ofB HB2.out).trans (Only.ofG gr2 (fun _ _ h => h.symm)) (fun _ _ h => h)
  have H5 := hide (HO2.out.blk H3.out (fun e => hv e.symm))
  have hSnew : (fun u : World => u.cell? ⟨q1, 5, none⟩ = some (.slice (some ⟨b, off, none⟩) m oc) ∧ u.cell? ⟨b, off + k * 13 + 12, none⟩ = some (.slice va vn vc)) w2 := ⟨blk_cell (HO2.out.blk H1.out hv1) 5 hl, (World.cell?_of_block (w := w) (a := ⟨b, off + k * 13 + 12, none⟩) (HO2.out.block b hbl hvb)).trans hcell.out⟩
  have hle : ((vn : Int) ≤ (c : Int)) := by omega
  have hle0 : ((0 : Int) ≤ (vn : Int)) := by omega
  clear own2 gr2 hmk
  refine hK.out _ _ hSnew (fun hHeldN => ?_)
  clear hK K hSnew
  clear hHeld
  have hHeld := hHeldN
  clear hHeldN
  try simp only [Act.put, List.setIfInBounds_toArray, List.set_cons_zero, List.set_cons_succ]
  refine tk 13 ?_ (hQ := fun _ _ _ h => hQ _ _ _ _ _ h)
  refine tk 14 ?_ (hQ := fun _ _ _ h => hQ _ _ _ _ _ h)
  have hfz := blk_free H5.out 12
  have h5c := blk_cell H5.out 12 hc0
  have hSnew : (fun u : World => u.cell? ⟨q1, 5, none⟩ = some (.slice (some ⟨b, off, none⟩) m oc) ∧ u.cell? ⟨b, off + k * 13 + 12, none⟩ = some (.slice va vn vc)) (w2.setCell ⟨q5, 12, none⟩ (.slice (some ⟨g, 0, none⟩) vn c)) := ⟨blk_cell ((Only.setCell (· = q5) w2 q5 12 _ rfl).blk (HO2.out.blk H1.out hv1) hq) 5 hl, (World.cell?_of_block (w := w2) (a := ⟨b, off + k * 13 + 12, none⟩) ((Only.setCell (· = q5) w2 q5 12 _ rfl).block b (Nat.lt_of_lt_of_le hbl HO2.out.size) hqb)).trans ((World.cell?_of_block (w := w) (a := ⟨b, off + k * 13 + 12, none⟩) (HO2.out.block b hbl hvb)).trans hcell.out)⟩
  refine rd 15 (fun K hK => ?_)
  go_simp
  go_wp2_with fail
  change K _ (w2.setCell ⟨q5, 12, none⟩ (.slice (some ⟨g, 0, none⟩) vn c))
  refine hK.out _ _ hSnew (fun hHeldN => ?_)
  clear hK K hSnew
  clear hHeld hHeldN
  try simp only [Act.put, List.setIfInBounds_toArray, List.set_cons_zero, List.set_cons_succ]
  refine wpAnyH_done (by kernel_rfl) ?_ _
  refine HK.out _ _ _ _ _ _ _ _ _ _ _ _ _ _ _ _ ⟨.slice (some ⟨g, 0, none⟩) vn c, ?_, ?_, ?_⟩
  · refine HMK.out.only (Only.setCell (· = q5) w2 q5 12 _ rfl) (fun k hk e => ?_)
    obtain ⟨cs9, h9⟩ := HMK.out.tag k hk
    subst e
    exact tag_ne h9 H5.out (by decide) rfl
  · exact heap_setCell_same w2 q5 12 _ _ _ H5.out
  · exact (HO2.out.mono (G := fun k => k = q5 ∨ some k = v.ownBlock) (fun _ _ h => Or.inr h)).trans' (Only.setCell _ w2 q5 12 _ (Or.inl rfl))

end Go.Proofs.Ytoaahellfflooaa
