/-
  SEAT YtdiifegljonojaaDoor: the reference tells how much data a row tells of.
-/
import Derived.Test.YtdiifegljonojaaDoorSo
namespace Go.Proofs.YtdiifegljonojaaDoor
open Go.RowKit
set_option linter.unusedVariables false

/-- What stands in the rounds of Large. -/
def LgInv (w : World) (bs : List Int) (g : Nat) (wr : World) : Prop :=
  ∃ (t : Rw), Below w.heap.size w wr ∧ t.dry = true ∧ RW wr w.heap.size t ∧ t.Ok wr bs w.heap.size w.heap.size ∧ w.heap.size + 2 ≤ wr.heap.size ∧
    ∃ (p : ByteArray) (y m z : Int) (a : Option Addr) (l c : Nat) (tt : ByteArray), FB wr (w.heap.size + 1) (.string p) (.int .i64 y) (.int .i64 m) (.int .u64 z) (.slice a l c) (.string tt) ∧
    (t.e = 0 → (bs.drop t.pos).length ≤ g ∧ ∃ ns : List ByteArray, Nv ns ∧ Pt.tg ns = p ∧ (y = 2 ∨ 1 ≤ ns.length))
/-- A leaf's box is written over. -/
theorem fb_fill {u : World} {p : Nat} {v0 v1 v2 v3 v4 v5 : Value} (h : FB u p v0 v1 v2 v3 v4 v5) (x0 x1 x2 x3 x4 x5 : Value) : FB (fill6 u p x0 x1 x2 x3 x4 x5) p x0 x1 x2 x3 x4 x5 ∧ u.grownBy (fill6 u p x0 x1 x2 x3 x4 x5) (some p) := ⟨fill6_fb h _ _ _ _ _ _, fill6_grown _ _ _ _ _ _ _ _⟩

set_option maxHeartbeats 8000000 in
set_option maxRecDepth 100000 in
theorem rlarge_any (b off n c : Nat) (bs : List Int) (w : World) (hrow : Reads w (some ⟨b, off, none⟩) n bs) (hbw : b < w.heap.size) (hn : n ≤ 1048640) (hnc : n ≤ c) (hc : c ≤ 9223372036854775807) :
    Calls Tryd.prog 8 #[.slice (some ⟨b, off, none⟩) n c] w fun e w' => (∃ z, e = .returned (.int .i64 z)) ∧ Below w.heap.size w w' := by
  by_cases h15 : n < 15
  · have i15 : (n : Int) < 15 := by omega
    clear hrow
    go_enter Tryd.func8, Tryd.ntmps8
    go_wp2
    go_ret
    exact ⟨⟨0, rfl⟩, Below.refl _ _⟩
  · have d15 : ¬ (n : Int) < 15 := by omega
    have HBY : Hid (Byt bs) := hrow.2.1
    have HROW := hide hrow
    have HL := hide hrow.1
    have hb0 := below_alloc w (.cells #[.slice (some ⟨b, off, none⟩) n c, .int .i64 15, .int .i64 0, .int .i64 0, .bool true] 50)
    have hb1 := below_alloc (w.alloc (.cells #[.slice (some ⟨b, off, none⟩) n c, .int .i64 15, .int .i64 0, .int .i64 0, .bool true] 50)) (.cells #[.string ⟨#[47]⟩, .int .i64 2, .int .i64 0, .int .u64 0, .slice none 0 0, .string ⟨#[]⟩] 41)
    have hf1 : FB ((w.alloc (.cells #[.slice (some ⟨b, off, none⟩) n c, .int .i64 15, .int .i64 0, .int .i64 0, .bool true] 50)).alloc (.cells #[.string ⟨#[47]⟩, .int .i64 2, .int .i64 0, .int .u64 0, .slice none 0 0, .string ⟨#[]⟩] 41)) (w.alloc (.cells #[.slice (some ⟨b, off, none⟩) n c, .int .i64 15, .int .i64 0, .int .i64 0, .bool true] 50)).heap.size (.string ⟨#[47]⟩) (.int .i64 2) (.int .i64 0) (.int .u64 0) (.slice none 0 0) (.string ⟨#[]⟩) := heap_alloc_new _ _
    rw [World.size_alloc] at hf1
    have hr0 : RW (w.alloc (.cells #[.slice (some ⟨b, off, none⟩) n c, .int .i64 15, .int .i64 0, .int .i64 0, .bool true] 50)) w.heap.size ⟨b, off, n, c, 15, 0, 0, true⟩ := heap_alloc_new w _
    have ho0 : (⟨b, off, n, c, 15, 0, 0, true⟩ : Rw).Ok w bs w.heap.size w.heap.size := ⟨hrow, hbw, Nat.le_refl _, by show 15 ≤ n; omega, hnc, hc, hn, by simp⟩
    have HP0 := hide hf1
    have HR0 := hide (hr0.below hb1)
    have HO0 := hide ((ho0.below hb0).below hb1)
    have HB0 := hide (below_join hb0 hb1)
    have HS0 : Hid (w.heap.size + 2 ≤ ((w.alloc (.cells #[.slice (some ⟨b, off, none⟩) n c, .int .i64 15, .int .i64 0, .int .i64 0, .bool true] 50)).alloc (.cells #[.string ⟨#[47]⟩, .int .i64 2, .int .i64 0, .int .u64 0, .slice none 0 0, .string ⟨#[]⟩] 41)).heap.size) := by unfold Hid; simp
    clear hrow hb0 hb1 hf1 hr0 ho0 hbw
    go_enter Tryd.func8, Tryd.ntmps8
    go_wp2_with fail
    go_loopg [] n (fun g wr => Hid (LgInv w bs g wr))
    case atStart =>
      exact (show Hid _ from ⟨_, HB0.out, rfl, HR0.out, HO0.out, HS0.out, _, _, _, _, _, _, _, _, HP0.out, fun _ => ⟨by rw [List.length_drop, HL.out]; omega, [], nv_nil, rfl, Or.inl rfl⟩⟩)
    case round =>
      obtain ⟨t, bw, htd, rw1, ok1, hsz, p, y, m, z, a, l, c9, tt, fb, hcase⟩ := hrel.out
      clear hrel HB0 HR0 HO0 HP0 HS0 h15 d15
      obtain ⟨k0, k1, k2, k3, k4⟩ := rw_cell rw1
      have htm : t.m = n := by have h8 := ok1.rd.1; have h9 := HL.out; omega
      have hpm : t.pos ≤ n := by have := ok1.pm; omega
      have HBR := hide bw
      have HTD := hide htd
      have HRW := hide rw1
      have HOK := hide ok1
      have HFB := hide fb
      clear bw htd rw1 ok1 fb htm
      by_cases hte : t.e = 0
      · rw [hte] at k2
        obtain ⟨hlen, ns, hnv, htg, hty⟩ := hcase hte
        have HNV := hide hnv
        have HTG := hide htg
        have HTY := hide hty
        clear hcase hnv htg hty
        by_cases hlt : t.pos < n
        · have i1 : (t.pos : Int) < (n : Int) := by omega
          obtain ⟨x, hx⟩ : ∃ x, bs.getD t.pos 0 = x := ⟨_, rfl⟩
          obtain ⟨rs, hrs⟩ : ∃ rs, bs.drop (t.pos + 1) = rs := ⟨_, rfl⟩
          have hdr : bs.drop t.pos = x :: rs := by
            rw [List.drop_eq_getElem_cons (by rw [HL.out]; exact hlt), hrs, ← hx, List.getD_eq_getElem?_getD, List.getElem?_eq_getElem (by rw [HL.out]; exact hlt)]
            rfl
          have cx : wr.cell? ⟨b, off + t.pos, none⟩ = some (.int .u8 x) := by
            have h9 := (HROW.out.below HBR.out).2.2.2 _ rfl t.pos (by omega)
            rw [hx, plain_add] at h9
            exact h9
          have HBD : Hid (Byt (bs.drop t.pos)) := byt_drop HBY.out _
          have HLN := hide hlen
          by_cases h255 : x = 255
          · subst h255
            clear hx hrs hdr hlen
            go_wp2
            go_ret
            exact ⟨⟨_, rfl⟩, HBR.out⟩
          · have e255 : (x != 255) = true := by simp [h255]
            obtain ⟨f, rfl⟩ : ∃ f, gk = f + 1 := ⟨gk - 1, by rw [hdr] at hlen; simp at hlen; omega⟩
            clear hx hrs hdr hlen
            cases hlf : leafR ns (mostT y ns.length) (bs.drop t.pos) with
            | error zz =>
              have HLF := hide hlf
              clear hlf
              go_wp2_with (first
                  | (go_at_call 19; refine (rleaf_any w.heap.size w.heap.size t bs ns p y m z a l c9 tt _ HRW.out HOK.out hte HNV.out HTG.out _ rfl HTY.out).mono ?_; rintro e t1 ⟨g9', hm⟩; rw [HLF.out] at hm
                     obtain ⟨⟨p1, y1, m1, z1, a1, l1, c1, g1, rfl⟩, sz, hse, hsd, r9, o9⟩ := hm
                     have b1 := past_two HBR.out g9' (Nat.le_refl _)
                     have fb1 := HFB.out.kept g9' (by omega)
                     have hfl := fb_fill fb1 (.string p1) (.int .i64 y1) (.int .i64 m1) (.int .u64 z1) (.slice a1 l1 c1) (.string g1)
                     have HB3 := hide (past_two b1 hfl.2 (by omega))
                     have HR3 := hide (r9.other hfl.2 (fun e => by have := Option.some.inj e; omega))
                     have HO3 := hide (o9.other hfl.2 (fun k e => by have := Option.some.inj e; omega) b1.size)
                     have HF3 := hide hfl.1
                     have hs3 : w.heap.size + 2 ≤ (fill6 t1 (w.heap.size + 1) (.string p1) (.int .i64 y1) (.int .i64 m1) (.int .u64 z1) (.slice a1 l1 c1) (.string g1)).heap.size := Nat.le_trans hsz (Nat.le_trans g9'.size hfl.2.size)
                     have HFB1 := hide fb1
                     have HSE := hide hse
                     have HSD := hide hsd
                     skip
                     clear b1 fb1 hfl r9 o9 g9' hse hsd k0 k1 k2 k3 k4 cx)
                  | (refine wpList_load41 rfl (.tmp 4) rfl (w.heap.size + 1) rfl HFB.out ?_)
                  | (refine wpList_store41 rfl (.tmp 4) (.tmp 38) rfl (w.heap.size + 1) rfl rfl HFB1.out (by simp [Value.oneCell']) ?_))
              go_roundg f
              case measure => omega
              case rel =>
                exact (show Hid _ from ⟨sz, HB3.out, HSD.out.trans HTD.out, HR3.out, HO3.out, hs3, _, _, _, _, _, _, _, _, HF3.out, fun h9 => absurd (HSE.out.symm.trans h9) (leafR_er HBD.out HLF.out).ne⟩)
            | ok pr =>
              obtain ⟨pp, r2⟩ := pr
              have HLF := hide hlf
              clear hlf
              go_wp2_with (first
                  | (go_at_call 19; refine (rleaf_any w.heap.size w.heap.size t bs ns p y m z a l c9 tt _ HRW.out HOK.out hte HNV.out HTG.out _ rfl HTY.out).mono ?_; rintro e t1 ⟨g9', hm⟩; rw [HLF.out] at hm
                     obtain ⟨hnp, v1, rfl, dt1, sz, hse, hsd, r9, o9, hr9⟩ := hm
                     obtain ⟨a1, l1, c1, hv1⟩ := DtOn.slice dt1
                     subst hv1
                     have b1 := past_two HBR.out g9' (Nat.le_refl _)
                     have fb1 := HFB.out.kept g9' (by omega)
                     have hfl := fb_fill fb1 (.string (Pt.tg pp.names)) (.int .i64 pp.ty) (.int .i64 pp.mode) (.int .u64 pp.stamp) (.slice a1 l1 c1) (.string pp.target)
                     have HB3 := hide (past_two b1 hfl.2 (by omega))
                     have HR3 := hide (r9.other hfl.2 (fun e => by have := Option.some.inj e; omega))
                     have HO3 := hide (o9.other hfl.2 (fun k e => by have := Option.some.inj e; omega) b1.size)
                     have HF3 := hide hfl.1
                     have hs3 : w.heap.size + 2 ≤ (fill6 t1 (w.heap.size + 1) (.string (Pt.tg pp.names)) (.int .i64 pp.ty) (.int .i64 pp.mode) (.int .u64 pp.stamp) (.slice a1 l1 c1) (.string pp.target)).heap.size := Nat.le_trans hsz (Nat.le_trans g9'.size hfl.2.size)
                     have HFB1 := hide fb1
                     have HSE := hide hse
                     have HSD := hide hsd
                     have HNP := hide hnp
                     have HR9 := hide hr9
                     clear dt1 hnp hr9
                     clear b1 fb1 hfl r9 o9 g9' hse hsd k0 k1 k2 k3 k4 cx)
                  | (refine wpList_load41 rfl (.tmp 4) rfl (w.heap.size + 1) rfl HFB.out ?_)
                  | (refine wpList_store41 rfl (.tmp 4) (.tmp 38) rfl (w.heap.size + 1) rfl rfl HFB1.out (by simp [Value.oneCell']) ?_))
              go_roundg f
              case measure => omega
              case rel =>
                have hles := leafR_less HBD.out HNV.out.nms (mostT_lt _ _) HLF.out
                refine (show Hid _ from ⟨sz, HB3.out, HSD.out.trans HTD.out, HR3.out, HO3.out, hs3, _, _, _, _, _, _, _, _, HF3.out, fun _ => ⟨?_, pp.names, HNP.out, rfl, Or.inr hles.2⟩⟩)
                rw [← HR9.out]
                have h8 := HLN.out
                have h9 := hles.1
                omega
        · have d1 : decide ((t.pos : Int) < (n : Int)) = false := decide_eq_false (by omega)
          clear hlen
          go_wp2
          go_ret
          exact ⟨⟨_, rfl⟩, HBR.out⟩
      · have e1 : (t.e == 0) = false := by simp [hte]
        clear hcase
        go_wp2
        go_ret
        exact ⟨⟨_, rfl⟩, HBR.out⟩
end Go.Proofs.YtdiifegljonojaaDoor
