/-
  SEAT YtdiifegljonojaaDoor: heads.
-/
import Derived.Test.YtdiifegljonojaaDoorXe
namespace Go.Proofs.YtdiifegljonojaaDoor
open Go.RowKit
set_option linter.unusedVariables false

def h0 : Lf := ⟨⟨#[47]⟩, 2, 493, 0, [], ⟨#[]⟩⟩
def h1 : Lf := ⟨⟨#[47, 97]⟩, 1, 420, 5, [104, 105], ⟨#[]⟩⟩
def h2 : Lf := ⟨⟨#[47, 100]⟩, 2, 493, 0, [], ⟨#[]⟩⟩
def h3 : Lf := ⟨⟨#[47, 100, 47, 108]⟩, 3, 0, 0, [], ⟨#[46, 46, 47, 97]⟩⟩
def hdT : List Lf := [h0, h1, h2, h3]
def hdE (B : Nat) : List Le := [⟨h0, .slice none 0 0⟩, ⟨h1, .slice (some ⟨B, 0, none⟩) 2 2⟩, ⟨h2, .slice none 0 0⟩, ⟨h3, .slice none 0 0⟩]
def hdW : List Int := [80, 82, 67, 76, 1, 237, 1, 0, 0, 0, 0, 0, 0, 0, 0, 0, 1, 164, 1, 5, 0, 0, 0, 0, 0, 0, 0, 1, 97, 2, 0, 0, 0, 1, 2, 0, 0, 0, 104, 105, 0, 2, 237, 1, 0, 0, 0, 0, 0, 0, 0, 0, 1, 100, 1, 3, 0, 0, 0, 0, 0, 0, 0, 0, 0, 0, 1, 108, 4, 46, 46, 47, 97, 255]
theorem hdE_l (B : Nat) : (hdE B).map Le.l = hdT := rfl
theorem ok1 : okL [] true h1 = true := by
  unfold okL nmsB folB aheadB
  simp only [Pt.toList_data]
  decide +kernel
theorem ok2 : okL (Pt.spN h1.path) (h1.ty == 2) h2 = true := by
  unfold okL nmsB folB aheadB
  simp only [Pt.toList_data]
  decide +kernel
theorem ok3 : okL (Pt.spN h2.path) (h2.ty == 2) h3 = true := by
  unfold okL nmsB folB aheadB
  simp only [Pt.toList_data]
  decide +kernel
theorem hd_root : rootB h0 = true := by
  unfold rootB
  simp only [Pt.toList_data]
  decide +kernel
theorem hd_laid : headW h0 ++ encL h1 ++ encL h2 ++ encL h3 ++ numL 1 255 = hdW := by decide +kernel
theorem sealW_L (x : List Int) : sealW x = sealL (x ++ numL 1 255) := by unfold sealW sealL; rw [le4_num]
theorem hd_pack : packM hdT = .ok (sealL hdW) := by
  unfold hdT
  rw [packM, if_pos hd_root, if_pos (by decide +kernel), goL, if_pos ok1, goL, if_pos ok2, goL, if_pos ok3, goL]
  simp only
  rw [sealW_L, hd_laid]
theorem hdW_len : hdW.length = 74 := by decide +kernel
theorem hdW_byt : Byt hdW := by unfold Byt; decide +kernel
theorem sealL_len (x : List Int) : (sealL x).length = x.length + 4 := by unfold sealL; rw [List.length_append]; rfl
theorem hd_seal : (sealL hdW).length = 78 := by rw [sealL_len, hdW_len]
theorem hd_ok : ∀ l ∈ hdT, Lok l := by
  intro l hl
  simp only [hdT, List.mem_cons, List.not_mem_nil, or_false] at hl
  rcases hl with rfl | rfl | rfl | rfl
  · exact ⟨by decide, by decide, fun x hx => absurd hx List.not_mem_nil⟩
  · exact ⟨by decide, by decide, by unfold Byt; decide⟩
  · exact ⟨by decide, by decide, fun x hx => absurd hx List.not_mem_nil⟩
  · exact ⟨by decide, by decide, fun x hx => absurd hx List.not_mem_nil⟩
theorem hd_open : Byt (sealL hdW) ∧ ∃ ps, openR (sealL hdW) = .ok ps ∧ ps.map leafOf = hdT := pack_open hdT _ hd_pack hd_ok

def hd2 (w : World) : World := (w.alloc (.cells #[.int .u8 104, .int .u8 105] 5 (2, 3))).alloc (.cells #[.string ⟨#[47]⟩, .int .i64 2, .int .i64 493, .int .u64 0, .slice none 0 0, .string ⟨#[]⟩, .string ⟨#[47, 97]⟩, .int .i64 1, .int .i64 420, .int .u64 5, .slice (some ⟨w.heap.size, 0, none⟩) 2 2, .string ⟨#[]⟩, .string ⟨#[47, 100]⟩, .int .i64 2, .int .i64 493, .int .u64 0, .slice none 0 0, .string ⟨#[]⟩, .string ⟨#[47, 100, 47, 108]⟩, .int .i64 3, .int .i64 0, .int .u64 0, .slice none 0 0, .string ⟨#[46, 46, 47, 97]⟩] 41)
theorem hd2_size (w : World) : (hd2 w).heap.size = w.heap.size + 2 := by simp [hd2]
theorem hd2_below (w : World) : Below w.heap.size w (hd2 w) := bel_join (below_alloc _ _) (below_alloc _ _)
theorem hd2_data (w : World) : Reads (hd2 w) (some ⟨w.heap.size, 0, none⟩) 2 [104, 105] := by
  have h : Reads (w.alloc (.cells #[.int .u8 104, .int .u8 105] 5 (2, 3))) (some ⟨w.heap.size, 0, none⟩) 2 [104, 105] := by
    refine ⟨rfl, by decide, by simp, fun x hx i hi => ?_⟩
    cases hx
    rw [Pt.add_zero, Nat.zero_add]
    have h9 := heap_alloc_new w (.cells #[.int .u8 104, .int .u8 105] 5 (2, 3))
    simp only [World.cell?, h9]
    match i, hi with
    | 0, _ => rfl
    | 1, _ => rfl
  exact h.below (below_alloc _ _)
theorem hd2_cell (w : World) (k j : Nat) (hk : k < 4) (hj : j < 6) : (hd2 w).cell? ⟨w.heap.size + 1, 0 + k * 6 + j, none⟩ = (hdE w.heap.size)[k]?.bind (fun x => x.cells[j]?) := by
  have h9 := heap_alloc_new (w.alloc (.cells #[.int .u8 104, .int .u8 105] 5 (2, 3))) (.cells #[.string ⟨#[47]⟩, .int .i64 2, .int .i64 493, .int .u64 0, .slice none 0 0, .string ⟨#[]⟩, .string ⟨#[47, 97]⟩, .int .i64 1, .int .i64 420, .int .u64 5, .slice (some ⟨w.heap.size, 0, none⟩) 2 2, .string ⟨#[]⟩, .string ⟨#[47, 100]⟩, .int .i64 2, .int .i64 493, .int .u64 0, .slice none 0 0, .string ⟨#[]⟩, .string ⟨#[47, 100, 47, 108]⟩, .int .i64 3, .int .i64 0, .int .u64 0, .slice none 0 0, .string ⟨#[46, 46, 47, 97]⟩] 41)
  have hs : (w.alloc (.cells #[.int .u8 104, .int .u8 105] 5 (2, 3))).heap.size = w.heap.size + 1 := by simp
  rw [hs] at h9
  unfold hd2
  simp only [World.cell?, h9]
  match k, hk with
  | 0, _ => match j, hj with
    | 0, _ => rfl
    | 1, _ => rfl
    | 2, _ => rfl
    | 3, _ => rfl
    | 4, _ => rfl
    | 5, _ => rfl
  | 1, _ => match j, hj with
    | 0, _ => rfl
    | 1, _ => rfl
    | 2, _ => rfl
    | 3, _ => rfl
    | 4, _ => rfl
    | 5, _ => rfl
  | 2, _ => match j, hj with
    | 0, _ => rfl
    | 1, _ => rfl
    | 2, _ => rfl
    | 3, _ => rfl
    | 4, _ => rfl
    | 5, _ => rfl
  | 3, _ => match j, hj with
    | 0, _ => rfl
    | 1, _ => rfl
    | 2, _ => rfl
    | 3, _ => rfl
    | 4, _ => rfl
    | 5, _ => rfl
theorem reads_none (w : World) : Reads w none 0 [] := ⟨rfl, by simp, fun _ => rfl, fun x hx => by cases hx⟩
theorem hd_facts (l : Lf) (h : l ∈ hdT) : (0 ≤ l.stamp ∧ l.stamp < 18446744073709551616) ∧ l.path.size ≤ 9223372036854775807 ∧ l.target.size ≤ 200000000000000 ∧ l.data.length ≤ 4194304 := by
  simp only [hdT, List.mem_cons, List.not_mem_nil, or_false] at h
  rcases h with rfl | rfl | rfl | rfl <;> exact ⟨⟨by decide, by decide⟩, by decide, by decide, by decide⟩
theorem hd2_rd (w : World) : RdL (hd2 w) (w.heap.size + 2) (.slice (some ⟨w.heap.size + 1, 0, none⟩) 4 4) (hdE w.heap.size) := by
  refine ⟨⟨_, 4, rfl, Nat.le_refl _, by omega, fun _ => ⟨w.heap.size + 1, 0, rfl, by omega, fun k hk j hj => hd2_cell w k j hk hj⟩⟩, ?_, ?_, ?_⟩
  · intro x hx
    simp only [hdE, List.mem_cons, List.not_mem_nil, or_false] at hx
    rcases hx with rfl | rfl | rfl | rfl
    · exact ⟨none, 0, 0, rfl, reads_none _, Nat.le_refl _, Nat.zero_le _, fun y hy _ => by cases hy⟩
    · exact ⟨_, 2, 2, rfl, hd2_data w, Nat.le_refl _, by omega, fun y hy _ => by cases hy; show w.heap.size < _; omega⟩
    · exact ⟨none, 0, 0, rfl, reads_none _, Nat.le_refl _, Nat.zero_le _, fun y hy _ => by cases hy⟩
    · exact ⟨none, 0, 0, rfl, reads_none _, Nat.le_refl _, Nat.zero_le _, fun y hy _ => by cases hy⟩
  · exact fun x hx => (hd_facts x.l (by rw [← hdE_l w.heap.size]; exact List.mem_map_of_mem hx)).1
  · exact fun x hx => (hd_facts x.l (by rw [← hdE_l w.heap.size]; exact List.mem_map_of_mem hx)).2

def hd3 (w : World) : World := (hd2 w).alloc (.cells (hdW.map (Value.int .u8)).toArray 5)
/-- What stands once the tree is packed. -/
structure HdS (w u : World) (g cap : Nat) : Prop where
  below : Below w.heap.size w u
  row : Reads u (some ⟨g, 0, none⟩) 78 (sealL hdW)
  lt : g < u.heap.size
  c1 : 78 ≤ cap
  c2 : cap ≤ 9223372036854775807
  want : Reads u (some ⟨w.heap.size + 1 + 1, 0, none⟩) 74 hdW
  tree : VwL u (.slice (some ⟨w.heap.size + 1, 0, none⟩) 4 4) (hdE w.heap.size)
  tab : Tab u
theorem HdS.up {w u u2 : World} {g cap : Nat} (h : HdS w u g cap) (hb : Below u.heap.size u u2) : HdS w u2 g cap :=
  ⟨⟨hb.os.trans h.below.os, hb.tape.trans h.below.tape, hb.output.trans h.below.output, Nat.le_trans h.below.size hb.size, fun k hk => (hb.block k (Nat.lt_of_lt_of_le hk h.below.size)).trans (h.below.block k hk)⟩, h.row.below hb, Nat.lt_of_lt_of_le h.lt hb.size, h.c1, h.c2, h.want.below hb, h.tree.below hb, h.tab.below hb⟩
theorem hd_packed (w : World) (ht : Tab w) : Calls Tryd.prog 16 #[.slice (some ⟨w.heap.size + 1, 0, none⟩) 4 4] (hd3 w) fun e u => ∃ g cap, e = .returned (.tuple #[.slice (some ⟨g, 0, none⟩) 78 cap, .int .i64 0]) ∧ HdS w u g cap := by
  have b3 : Below (hd2 w).heap.size (hd2 w) (hd3 w) := below_alloc _ _
  have bw : Below w.heap.size w (hd3 w) := bel_join (hd2_below w) b3
  have s3 : (hd3 w).heap.size = w.heap.size + 2 + 1 := by unfold hd3; rw [← hd2_size w]; simp
  have rd := (hd2_rd w)
  rw [← hd2_size w] at rd
  have rd3 := rd.low b3
  have rd4 : RdL (hd3 w) (hd3 w).heap.size (.slice (some ⟨w.heap.size + 1, 0, none⟩) 4 4) (hdE w.heap.size) := by
    refine ⟨?_, ?_, rd3.stamp, rd3.text⟩
    · obtain ⟨a, c, e1, e2, e3, e4⟩ := rd3.shape
      refine ⟨a, c, e1, e2, e3, fun h0 => ?_⟩
      obtain ⟨b, off, g1, g2, g3⟩ := e4 h0
      exact ⟨b, off, g1, Nat.lt_of_lt_of_le g2 b3.size, g3⟩
    · intro x hx
      obtain ⟨da, dn, dc, g1, g2, g3, g4, g5⟩ := rd3.data x hx
      exact ⟨da, dn, dc, g1, g2, g3, g4, fun y hy h9 => Nat.lt_of_lt_of_le (g5 y hy h9) b3.size⟩
  refine (pack_any _ (hdE w.heap.size) (hd3 w) rd4 (by rw [hdE_l]; decide) (ht.below bw)).mono ?_
  rintro e u ⟨hp, hb⟩
  rw [hdE_l, hd_pack] at hp
  obtain ⟨g, cap, he, ho⟩ := hp
  rw [hd_seal] at he ho
  refine ⟨g, cap, he, ?_⟩
  have hr := ho.reads hd_open.1 78 (Nat.le_refl _)
  rw [List.take_of_length_le (by rw [hd_seal]; exact Nat.le_refl _)] at hr
  have hsh := own_shape ho (by decide)
  obtain ⟨g', cap', he', q1, q2, q3, q4⟩ := hsh
  cases he'
  have hw : Reads (hd3 w) (some ⟨w.heap.size + 1 + 1, 0, none⟩) 74 hdW := by
    have := reads_alloc (hd2 w) hdW hdW_byt
    rw [hd2_size, hdW_len] at this
    exact this
  exact ⟨bel_join bw hb, hr, q4, q1, q2, hw.below hb, (rd4.vw (Nat.le_refl _)).below hb, (ht.below bw).below hb⟩

theorem hd_reads {u : World} {B g c : Nat} (h : Own u B g (74 + 4) c (sealL hdW)) : Reads u (some ⟨g, 0, none⟩) 78 (sealL hdW) := by
  have hr := Own.reads h hd_open.1 78 (Nat.le_refl _)
  rw [List.take_of_length_le (by rw [hd_seal]; exact Nat.le_refl _)] at hr
  exact hr
theorem hd_read (w u : World) (g cap : Nat) (h : HdS w u g cap) : Calls Tryd.prog 11 #[.slice (some ⟨g, 0, none⟩) 78 cap] u fun e u' => ∃ v es, e = .returned (.tuple #[v, .int .i64 0]) ∧ VwL u' v es ∧ es.map Le.l = (hdE w.heap.size).map Le.l ∧ HdS w u' g cap := by
  refine (read_any g 0 78 cap (sealL hdW) u h.row h.lt (by decide) h.c1 h.c2 h.tab).mono ?_
  rintro e u' ⟨hv, hb⟩
  obtain ⟨hby, ps, ho, hm⟩ := hd_open
  rw [ho] at hv
  obtain ⟨v, es, he, hes, hls⟩ := hv
  refine ⟨v, es, he, hls.vw ?_, by rw [hes, hm, hdE_l], h.up hb⟩
  intro x hx
  exact (hd_ok x.l (by rw [← hm, ← hes]; exact List.mem_map_of_mem hx)).byt

set_option maxHeartbeats 2000000 in
set_option maxRecDepth 100000 in
theorem heads_any (w : World) (ht : Tab w) :
    Calls Tryd.prog 15 #[] w fun e w' => e = .returned (.bool true) ∧ Below w.heap.size w w' := by
  have kc := fun (w : World) (C : Array Value) (n c : Nat) => Lib.run_convert_bytes_const (P := Tryd.prog) w 22 5 C n c Tryd.underlying22 Tryd.underlying5
  have HP := hide (hd_packed w ht)
  clear ht
  go_enter Tryd.func15, Tryd.ntmps15
  go_wp2_with (first
    | (go_at_call 16; refine Calls.mono HP.out ?_; rintro e u ⟨g, cap, rfl, hs⟩; have HS := hide hs; clear hs HP kc)
    | (go_at_call 12; refine (lno_any _ _).mono ?_; rintro e u9 ⟨rfl, rfl⟩)
    | (go_at_call 26; refine (sealed_any _ 74 74 hdW _ HS.out.want (by decide) HS.out.tab).mono ?_; rintro e u2 ⟨g2, cc2, rfl, ho2, hb2⟩
       have HS2 := hide (HS.out.up hb2)
       have HR2 := hide (hd_reads ho2)
       clear ho2 hb2 HS)
    | (go_at_call 25; refine (same_eq _ _ 78 _ _ (sealL hdW) _ HS2.out.row HR2.out).mono ?_; rintro e u9 ⟨rfl, rfl⟩; clear HR2)
    | (go_at_call 11; refine (hd_read _ _ _ _ HS2.out).mono ?_; rintro e u3 ⟨v, es, rfl, hv, he, hs⟩
       have HV := hide hv
       have HE := hide he
       have HS3 := hide hs
       clear hv he hs HS2)
    | (go_at_call 13; refine (alike_vw _ _ es (hdE w.heap.size) _ HV.out HS3.out.tree HE.out).mono ?_; rintro e u4 ⟨rfl, hb4⟩
       have HS4 := hide (HS3.out.up hb4)
       clear hb4 HS3))
  go_ret
  exact ⟨rfl, HS4.out.below⟩
end Go.Proofs.YtdiifegljonojaaDoor
