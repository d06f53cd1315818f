/-
  SEAT YtdiifegljonojaaGreatDoor: Read.
-/
import Derived.Test.YtdiifegljonojaaGreatDoorRo
namespace Go.Proofs.YtdiifegljonojaaGreatDoor
open Go.RowKit
set_option linter.unusedVariables false

theorem dataL_fit : ∀ (f size pos : Nat) (last : Int) (acc l : List Sg) (bs r : List Int), dataL size f pos last acc bs = .ok (l, r) → Fit size acc → Fit size l
  | 0, size, pos, last, acc, l, bs, r, h, ha => by cases h; exact ha
  | f + 1, size, pos, last, acc, l, bs, r, h, ha => by
    rw [dataL] at h
    split at h
    · rename_i hp
      split at h
      · cases h
      · rename_i kd r1 h1
        split at h
        · cases h
        · split at h
          · cases h
          · rename_i k r2 h2
            have hk := wholeR_ok h2
            split at h
            · rename_i hkd
              split at h
              · cases h
              · rename_i b r3 h3
                have hb := takeR_ok h3
                split at h
                · refine dataL_fit f _ _ _ _ _ _ _ h ?_
                  intro s hs
                  rcases List.mem_append.1 hs with hs | hs
                  · exact ha s hs
                  · rw [List.mem_singleton.1 hs]
                    have hk1 : 1 ≤ k := by have := hk.2.1; rw [hkd] at this; simpa using this
                    have hk2 := hk.2.2.1
                    simp only [hb.2.1, List.length_take]
                    omega
                · cases h
            · exact dataL_fit f _ _ _ _ _ _ _ h ha
    · cases h; exact ha

theorem pieceR_fit {xs : List ByteArray} {k : Nat} {bs r : List Int} {p : Pc} (h : pieceR xs k bs = .ok (p, r)) : Fit p.size p.segs := by
  have e0 : ∀ n, Fit n [] := fun n s hs => by cases hs
  unfold pieceR at h
  split at h
  · cases h
  · split at h
    · cases h
    · split at h
      · cases h
      · split at h
        · split at h
          · cases h
          · rename_i d r4 h4
            cases h
            unfold dataR at h4
            split at h4
            · cases h4
            · split at h4
              · cases h4
              · rename_i l r5 h5
                cases h4
                exact dataL_fit _ _ _ _ _ _ _ _ h5 (e0 _)
        · split at h
          · split at h
            · cases h
            · cases h; exact e0 _
          · cases h; exact e0 _

theorem piecesL_fit : ∀ (f : Nat) (a : Pc) (acc l : List Pc) (bs r : List Int), piecesL f a acc bs = .ok (l, r) → (∀ p ∈ acc, Fit p.size p.segs) → ∀ p ∈ l, Fit p.size p.segs
  | 0, a, acc, l, bs, r, h, _ => by cases h
  | f + 1, a, acc, l, bs, r, h, ha => by
    rw [piecesL] at h
    split at h
    · cases h
    · split at h
      · cases h; exact ha
      · split at h
        · split at h
          · cases h
          · rename_i p r2 h3
            refine piecesL_fit f _ _ _ _ _ h ?_
            intro x hx
            rcases List.mem_append.1 hx with hx | hx
            · exact ha x hx
            · rw [List.mem_singleton.1 hx]; exact pieceR_fit h3
        · cases h
theorem piecesR_fit {bs r : List Int} {l : List Pc} (h : piecesR bs = .ok (l, r)) : ∀ p ∈ l, Fit p.size p.segs := by
  unfold piecesR at h
  split at h
  · split at h
    · cases h
    · refine piecesL_fit _ _ _ _ _ _ h ?_
      intro p hp
      rw [List.mem_singleton.1 hp]
      intro s hs
      cases hs
  · cases h

theorem info38 : (Tryz.prog.info? 38).map (fun i => (i.zero, i.size, i.bytes)) = some (some (.agg #[.string ⟨#[]⟩, .int .i64 0, .int .i64 0, .int .u64 0, .slice none 0 0, .string ⟨#[]⟩]), 6, 80) := by kernel_rfl

theorem make_leaves (n : Nat) (hn : n ≤ 5000000) (u : World) : ∃ u', (Instr.makeSlice 22 (.int .i64 0) (.int .i64 (n : Int))).run Tryz.prog u = .ok (.slice (some ⟨u.heap.size, 0, none⟩) 0 n) u' ∧ u'.ownsRow u.heap.size 38 6 (.slice (some ⟨u.heap.size, 0, none⟩) 0 n) 0 [] ∧ Below u.heap.size u u' := by
  obtain ⟨i0, hi, hz0, hz1, hz2⟩ := info_parts info38
  have h := run_make (P := Tryz.prog) u 22 38 i0 _ Tryz.underlying22 hi hz0 .i64 .i64 0 (n : Int) (by omega) (by omega) (by rw [hz2]; omega) (by omega)
  refine ⟨_, by simpa using h, ?_, below_alloc u _⟩
  exact World.ownsRow_made u _ n (Nat.le_refl _) (by simp only [maxLen]; omega) (by rw [hz1]; simp [madeCells])

/-- What Read answers. -/
def RdV (w : World) (r : Except Int (List Pc)) (e : Ending) (w' : World) : Prop :=
  match r with
  | .error x => e = .returned (.tuple #[.slice none 0 0, .int .i64 x])
  | .ok l => ∃ v es, e = .returned (.tuple #[v, .int .i64 0]) ∧ es.map Le.l = l.map leafOf ∧ LsOn w' w.heap.size v es

set_option maxHeartbeats 2000000 in
set_option maxRecDepth 100000 in
theorem read_err (b off n c : Nat) (bs : List Int) (x : Int) (w : World) (hrow : Reads w (some ⟨b, off, none⟩) n bs) (hbw : b < w.heap.size) (hn : n ≤ 4194304) (hnc : n ≤ c) (hc : c ≤ 9223372036854775807) (ht : Tab w) (hx : x ≠ 0)
    (ho : Calls Tryz.prog 23 #[.slice (some ⟨b, off, none⟩) n c] w fun e w' => e = .returned (.tuple #[.slice none 0 0, .int .i64 x]) ∧ Below w.heap.size w w') :
    Calls Tryz.prog 10 #[.slice (some ⟨b, off, none⟩) n c] w fun e w' => e = .returned (.tuple #[.slice none 0 0, .int .i64 x]) ∧ Below w.heap.size w w' := by
  have HO := hide ho
  have e1 : (x != 0) = true := by simp [hx]
  clear ho hrow ht
  go_enter Tryz.func10, Tryz.ntmps10
  go_wp2_with (go_at_call 23; refine HO.out.mono ?_; rintro e u1 ⟨rfl, b1⟩; have HB := hide b1; clear b1)
  go_ret2
  exact ⟨rfl, HB.out⟩

set_option maxHeartbeats 4000000 in
set_option maxRecDepth 100000 in
theorem read_ok (b off n c : Nat) (bs : List Int) (l : List Pc) (w : World) (hfit : ∀ p ∈ l, Fit p.size p.segs)
    (ho : Calls Tryz.prog 23 #[.slice (some ⟨b, off, none⟩) n c] w fun e w' => (∃ v es, e = .returned (.tuple #[v, .int .i64 0]) ∧ es.map Pe.p = l ∧ PsK w.heap.size w.heap.size v es w' ∧ es.length ≤ 5000000) ∧ Below w.heap.size w w') :
    Calls Tryz.prog 10 #[.slice (some ⟨b, off, none⟩) n c] w fun e w' => RdV w (.ok l) e w' ∧ Below w.heap.size w w' := by
  obtain ⟨i0, hi0, hz0, hz1, hz2⟩ := info_parts info38
  have HI : Hid (Tryz.prog.info? 38 = some i0 ∧ i0.zero = some (.agg #[.string ⟨#[]⟩, .int .i64 0, .int .i64 0, .int .u64 0, .slice none 0 0, .string ⟨#[]⟩]) ∧ i0.size = 6 ∧ i0.bytes = 80) := ⟨hi0, hz0, hz1, hz2⟩
  have HO := hide ho
  have HFT := hide hfit
  clear ho hfit hi0 hz0 hz1 hz2
  go_enter Tryz.func10, Tryz.ntmps10
  go_wp2_with (first
    | (go_at_call 23; refine HO.out.mono ?_; rintro e u1 ⟨⟨v, es, rfl, hes, hk, hel⟩, b1⟩
       obtain ⟨va, vc, rfl, hvc⟩ := hk.shape
       obtain ⟨m, hm⟩ : ∃ m, es.length = m := ⟨_, rfl⟩
       obtain ⟨u2, hmk, hmo, hmb⟩ := make_leaves m (by omega) u1
       rw [hm]
       have HB1 := hide b1
       have HK1 := hide hk
       have HES := hide hes
       have HM := hide hm
       have HMO := hide hmo
       have HMB := hide hmb
       have hml : m ≤ 5000000 := by omega
       clear b1 hk hes hm hel hmo hmb hvc))
  go_loopw [6, 22] (fun s6 i wr => ∃ (k : Nat) (ls : List Le), k ≤ m ∧ i = .int .i64 k ∧ Hid (LsOn wr u1.heap.size s6 ls ∧ ls.map Le.l = (l.take k).map leafOf ∧ ls.length = k ∧ Below u1.heap.size u1 wr)) (fun _ i _ => m - (intOf i).toNat)
  case atStart => exact ⟨0, [], Nat.zero_le _, rfl, ⟨⟨HMO.out, fun x hx => by cases hx⟩, by simp, rfl, HMB.out⟩⟩
  case round =>
    obtain ⟨k, ls, hk, rfl, HS⟩ := hrel
    clear hmk HMO HMB
    by_cases hlt : k < m
    · have hke : k < es.length := by have := HM.out; omega
      obtain ⟨g9, hva, hcells, hg9⟩ : ∃ g9, va = some ⟨g9, 0, none⟩ ∧ (∀ j, j < 10 → u1.cell? ⟨g9, k * 10 + j, none⟩ = es[k].cells[j]?) ∧ g9 < u1.heap.size := by
        have hw := HK1.out.own
        rcases hw.2 with ⟨h0, h1⟩ | ⟨g, cap, cur, hv, _, hg, _⟩
        · omega
        · have hv2 := hv
          injection hv with h7 h8 h9
          refine ⟨g, h7, fun j hj => ?_, (Array.getElem?_eq_some_iff.1 hg).1⟩
          rw [hv2] at hw
          rw [World.ownsRow.cellAt hw (k * 10 + j) (by omega), flatP_cell es k j hke hj]
      subst hva
      have hko := HK1.out.oks es[k] (List.getElem_mem hke)
      have hlk : l[k]? = some es[k].p := by rw [← HES.out, List.getElem?_map, List.getElem?_eq_getElem hke]; rfl
      obtain ⟨se, hse⟩ : ∃ se, es[k] = se := ⟨_, rfl⟩
      rw [hse] at hcells hko hlk
      have hft := HFT.out _ (List.mem_of_getElem? hlk)
      obtain ⟨p, v0, v9⟩ := se
      simp only at hlk hft
      obtain ⟨a0, c0, hv0, _⟩ := Pt.Ow.rd hko.ow
      obtain ⟨a9, c9, hv9⟩ := hko.sg.shape
      simp only at hv0 hv9
      subst hv0
      subst hv9
      have HLK := hide hlk
      have HFT2 := hide hft
      have HBW := hide HS.out.2.2.2
      have HOK := hide (hko.below (HS.out.2.2.2) HB1.out.size)
      have HOK2 := hide (HOK.out.below (below_alloc wr (.cells #[.slice a0 p.names.length c0, .bool (p.ty == 2), .string (Pt.tg p.names), .int .i64 p.ty, .int .i64 p.mode, .int .u64 p.stamp, .slice none 0 0, .string p.target, .int .i64 (p.size : Int), .slice a9 p.segs.length c9] 63)) (Nat.le_trans HB1.out.size HS.out.2.2.2.size))
      have y0 : wr.cell? ⟨g9, k * 10, none⟩ = some (.slice a0 p.names.length c0) := by rw [HS.out.2.2.2.cell hg9]; exact hcells 0 (by omega)
      have y1 : wr.cell? ⟨g9, k * 10 + 1, none⟩ = some (.bool (p.ty == 2)) := by rw [HS.out.2.2.2.cell hg9]; exact hcells 1 (by omega)
      have y2 : wr.cell? ⟨g9, k * 10 + 2, none⟩ = some (.string (Pt.tg p.names)) := by rw [HS.out.2.2.2.cell hg9]; exact hcells 2 (by omega)
      have y3 : wr.cell? ⟨g9, k * 10 + 3, none⟩ = some (.int .i64 p.ty) := by rw [HS.out.2.2.2.cell hg9]; exact hcells 3 (by omega)
      have y4 : wr.cell? ⟨g9, k * 10 + 4, none⟩ = some (.int .i64 p.mode) := by rw [HS.out.2.2.2.cell hg9]; exact hcells 4 (by omega)
      have y5 : wr.cell? ⟨g9, k * 10 + 5, none⟩ = some (.int .u64 p.stamp) := by rw [HS.out.2.2.2.cell hg9]; exact hcells 5 (by omega)
      have y6 : wr.cell? ⟨g9, k * 10 + 6, none⟩ = some (.slice none 0 0) := by rw [HS.out.2.2.2.cell hg9]; exact hcells 6 (by omega)
      have y7 : wr.cell? ⟨g9, k * 10 + 7, none⟩ = some (.string p.target) := by rw [HS.out.2.2.2.cell hg9]; exact hcells 7 (by omega)
      have y8 : wr.cell? ⟨g9, k * 10 + 8, none⟩ = some (.int .i64 (p.size : Int)) := by rw [HS.out.2.2.2.cell hg9]; exact hcells 8 (by omega)
      have y9 : wr.cell? ⟨g9, k * 10 + 9, none⟩ = some (.slice a9 p.segs.length c9) := by rw [HS.out.2.2.2.cell hg9]; exact hcells 9 (by omega)
      have i1 : (k : Int) < (m : Int) := by omega
      clear hcells hko hlk hft hse hke
      go_wp2_with (first
        | (go_at_call 24; refine (leaf_any w.heap.size w.heap.size ⟨p, .slice a0 p.names.length c0, .slice a9 p.segs.length c9⟩ _ HOK2.out HFT2.out (Nat.le_trans HB1.out.size (Nat.le_trans HBW.out.size (by simp)))).mono ?_; rintro e t1 ⟨⟨d, rfl, dt⟩, b2⟩
           have hd : ∃ da dn dc, d = .slice da dn dc := (by rcases dt.2 with ⟨hv, _⟩ | ⟨g, cap, cur, hv, _⟩; exact ⟨_, _, _, hv⟩; exact ⟨_, _, _, hv⟩)
           obtain ⟨da, dn, dc, rfl⟩ := hd
           have hb3 := (below_alloc wr (.cells #[.slice a0 p.names.length c0, .bool (p.ty == 2), .string (Pt.tg p.names), .int .i64 p.ty, .int .i64 p.mode, .int .u64 p.stamp, .slice none 0 0, .string p.target, .int .i64 (p.size : Int), .slice a9 p.segs.length c9] 63)).trans (b2.mono (by simp))
           have HLS := hide ((HS.out.1.below hb3).below (below_alloc t1 (.cells #[.string (Pt.tg p.names), .int .i64 p.ty, .int .i64 p.mode, .int .u64 p.stamp, .slice da dn dc, .string p.target] 38)))
           have HDT := hide (show DtOn (t1.alloc (.cells #[.string (Pt.tg p.names), .int .i64 p.ty, .int .i64 p.mode, .int .u64 p.stamp, .slice da dn dc, .string p.target] 38)) u1.heap.size (.slice da dn dc) (layD p.size p.segs) from DtOn.below (row_lower dt (by have := HBW.out.size; simp; omega)) (below_alloc _ _))
           have HB3 := hide (HBW.out.trans (hb3.mono HBW.out.size))
           have HZ3 := hide (Nat.le_trans HB1.out.size (Nat.le_trans HBW.out.size hb3.size))
           clear dt b2 hb3 y0 y1 y2 y3 y4 y5 y6 y7 y8 y9)
        | (at_builtin; refine wpList_append_own (t1.alloc (.cells #[.string (Pt.tg p.names), .int .i64 p.ty, .int .i64 p.mode, .int .u64 p.stamp, .slice da dn dc, .string p.target] 38)) rfl (.tmp 26) (.tmp 29) 22 rfl u1.heap.size 38 i0 _ 6 80 Tryz.underlying22 HI.out.1 HI.out.2.1 HI.out.2.2.1 HI.out.2.2.2 rfl (by decide) u6 ls.length (flatL ls) rfl HLS.out.own ⟨t1.heap.size, 0, none⟩ 1 1 [.string (Pt.tg p.names), .int .i64 p.ty, .int .i64 p.mode, .int .u64 p.stamp, .slice da dn dc, .string p.target] rfl rfl (cells_news (heap_alloc_new t1 _)) (by simp [Value.oneCell']) (by have := HS.out.2.2.1; simp only [maxLen]; omega) (by have := HS.out.2.2.1; omega) (Nat.le_trans HB3.out.size (by simp)) ?_; intro v8 t8 own8 grow8 _h8
           have HO8 := hide own8
           have HG8 := hide grow8
           clear own8 grow8 _h8))
      go_roundw
      case rel =>
        refine ⟨k + 1, ls ++ [⟨leafOf p, .slice da dn dc⟩], by omega, by go_num, ?_⟩
        refine (show Hid _ from ⟨LsOn.push HLS.out HG8.out HO8.out HDT.out, ?_, ?_, ?_⟩)
        · obtain ⟨hkl, hke⟩ := List.getElem?_eq_some_iff.1 HLK.out
          rw [List.map_append, HS.out.2.1, List.take_succ_eq_append_getElem hkl, List.map_append, hke]
          rfl
        · rw [List.length_append, HS.out.2.2.1]; rfl
        · exact (HB3.out.alloc HB3.out.size _).grown HG8.out (Nat.le_trans HB3.out.size (by simp)) (fun i e => (HLS.out.own.lt i e).1)
      case measure => simp [intOf]; omega
    · obtain rfl : k = m := by omega
      have i1 : ¬ (k : Int) < (k : Int) := by omega
      obtain ⟨la, lc, hsh⟩ : ∃ la lc, u6 = .slice la ls.length lc := by rcases HS.out.1.own.2 with ⟨hv, h0⟩ | ⟨g, cap, cur, hv, _⟩; exact ⟨_, _, by rw [hv, h0]⟩; exact ⟨_, _, hv⟩
      subst hsh
      go_wp2
      go_ret2
      refine ⟨⟨_, ls, rfl, ?_, ⟨row_lower HS.out.1.own HB1.out.size, fun x hx => row_lower (HS.out.1.oks x hx) HB1.out.size⟩⟩, HB1.out.trans (HS.out.2.2.2.mono HB1.out.size)⟩
      rw [HS.out.2.1, List.take_of_length_le]
      rw [← HES.out, List.length_map, HM.out]
      exact Nat.le_refl _
end Go.Proofs.YtdiifegljonojaaGreatDoor
