/-
  SEAT YtdiifegljonojaaGreatDoor: a piece.
-/
import Derived.Test.YtdiifegljonojaaGreatDoorRf
namespace Go.Proofs.YtdiifegljonojaaGreatDoor
open Go.RowKit
set_option linter.unusedVariables false

/-- A piece in memory. -/
def PcV (B : Nat) (B0 : Nat) (p : Pc) (val : Value) (w : World) : Prop := ∃ v0 v9, val = .agg #[v0, .bool (p.ty == 2), .string (Pt.tg p.names), .int .i64 p.ty, .int .i64 p.mode, .int .u64 p.stamp, .slice none 0 0, .string p.target, .int .i64 (p.size : Int), v9] ∧ Pt.Ow w B0 v0 p.names ∧ SgOn w B0 B v9 p.segs ∧ p.size ≤ 16777216

/-- What stands in the midst of a piece. -/
structure PS (w u : World) (B q : Nat) (v : Value) (d : Bool) (rest : List Int) (v0 v1 v2 v3 v4 v5 v6 v7 v8 v9 : Value) : Prop where
  rd : RdAt u B q rest
  sb : u.heap[w.heap.size]? = some (.cells #[v, .bool d] 52 (0, 0))
  rb : PB u (w.heap.size + 1) (.slice none 0 0) (.bool false) (.string ⟨#[]⟩) (.int .i64 0) (.int .i64 0) (.int .u64 0) (.slice none 0 0) (.string ⟨#[]⟩) (.int .i64 0) (.slice none 0 0)
  pb : PB u (w.heap.size + 2) v0 v1 v2 v3 v4 v5 v6 v7 v8 v9
  gr : w.grownBy u (some q)
  lt : q < w.heap.size
  low : B ≤ q

section
variable {w u u' : World} {B q : Nat} {v : Value} {d : Bool} {rest rest' : List Int} {v0 v1 v2 v3 v4 v5 v6 v7 v8 v9 : Value}
theorem PS.call (h : PS w u B q v d rest v0 v1 v2 v3 v4 v5 v6 v7 v8 v9) (hg : u.grownBy u' (some q)) (hr : RdAt u' B q rest') : PS w u' B q v d rest' v0 v1 v2 v3 v4 v5 v6 v7 v8 v9 := by
  have hl := h.lt
  refine ⟨hr, ?_, h.rb.other hg (fun e => by have := Option.some.inj e; omega), h.pb.other hg (fun e => by have := Option.some.inj e; omega), grownBy_trans h.gr hg, h.lt, h.low⟩
  exact (hg.block _ (Array.getElem?_eq_some_iff.1 h.sb).1 (fun e => by have := Option.some.inj e; omega)).trans h.sb
theorem PS.set {i : Nat} {x : Value} {x0 x1 x2 x3 x4 x5 x6 x7 x8 x9 : Value} (h : PS w u B q v d rest v0 v1 v2 v3 v4 v5 v6 v7 v8 v9) (hp : PB (u.setCell ⟨w.heap.size + 2, i, none⟩ x) (w.heap.size + 2) x0 x1 x2 x3 x4 x5 x6 x7 x8 x9) : PS w (u.setCell ⟨w.heap.size + 2, i, none⟩ x) B q v d rest x0 x1 x2 x3 x4 x5 x6 x7 x8 x9 := by
  have hl := h.lt
  have hw := h.low
  have hg := set_grown u (w.heap.size + 2) i x
  refine ⟨h.rd.set (by omega) (by omega) x, ?_, h.rb.other hg (fun e => by have := Option.some.inj e; omega), hp, grown_past h.gr hg (fun j e => by have := Option.some.inj e; omega), h.lt, h.low⟩
  exact (hg.block _ (Array.getElem?_eq_some_iff.1 h.sb).1 (fun e => by have := Option.some.inj e; omega)).trans h.sb
theorem PS.two {x0 x1 x2 x3 x4 x5 x6 x7 x8 x9 : Value} (h : PS w u B q v d rest v0 v1 v2 v3 v4 v5 v6 v7 v8 v9) (ht : Two u u' q (w.heap.size + 2)) (hr : RdAt u' B q rest') (hp : PB u' (w.heap.size + 2) x0 x1 x2 x3 x4 x5 x6 x7 x8 x9) : PS w u' B q v d rest' x0 x1 x2 x3 x4 x5 x6 x7 x8 x9 := by
  have hl := h.lt
  refine ⟨hr, ?_, (ht.block _ (Array.getElem?_eq_some_iff.1 h.rb).1 (by omega) (by omega)).trans h.rb, hp, Two.past h.gr ht (by omega), h.lt, h.low⟩
  exact (ht.block _ (Array.getElem?_eq_some_iff.1 h.sb).1 (by omega) (by omega)).trans h.sb
theorem PS.spot (h : PS w u B q v d rest v0 v1 v2 v3 v4 v5 v6 v7 v8 v9) : u.cell? ⟨w.heap.size, 0, none⟩ = some v ∧ u.cell? ⟨w.heap.size, 1, none⟩ = some (.bool d) := by
  have := h.sb
  constructor <;> simp [World.cell?, this]
theorem PS.size (h : PS w u B q v d rest v0 v1 v2 v3 v4 v5 v6 v7 v8 v9) : w.heap.size + 2 < u.heap.size := (Array.getElem?_eq_some_iff.1 h.pb).1
end

theorem start_ps (w : World) (B q : Nat) (v : Value) (d : Bool) (rest : List Int) (h : RdAt w B q rest) : PS w (((w.alloc (.cells #[v, .bool d] 52)).alloc (.cells #[.slice none 0 0, .bool false, .string ⟨#[]⟩, .int .i64 0, .int .i64 0, .int .u64 0, .slice none 0 0, .string ⟨#[]⟩, .int .i64 0, .slice none 0 0] 63)).alloc (.cells #[.slice none 0 0, .bool false, .string ⟨#[]⟩, .int .i64 0, .int .i64 0, .int .u64 0, .slice none 0 0, .string ⟨#[]⟩, .int .i64 0, .slice none 0 0] 63)) B q v d rest (.slice none 0 0) (.bool false) (.string ⟨#[]⟩) (.int .i64 0) (.int .i64 0) (.int .u64 0) (.slice none 0 0) (.string ⟨#[]⟩) (.int .i64 0) (.slice none 0 0) := by
  have hl := h.lt
  refine ⟨((h.below (below_alloc _ _)).below (below_alloc _ _)).below (below_alloc _ _), ?_, ?_, ?_, grownBy_trans (grownBy_trans (World.grownBy_alloc w _ _) (World.grownBy_alloc _ _ _)) (World.grownBy_alloc _ _ _), hl.2, hl.1⟩
  · rw [Below.heap_alloc _ _ _ (by simp; omega), Below.heap_alloc _ _ _ (by simp)]; exact heap_alloc_new _ _
  · unfold PB; rw [Below.heap_alloc _ _ _ (by simp)]
    have h9 := heap_alloc_new (w.alloc (.cells #[v, .bool d] 52)) (.cells #[.slice none 0 0, .bool false, .string ⟨#[]⟩, .int .i64 0, .int .i64 0, .int .u64 0, .slice none 0 0, .string ⟨#[]⟩, .int .i64 0, .slice none 0 0] 63); rw [World.size_alloc] at h9; exact h9
  · have h9 := heap_alloc_new ((w.alloc (.cells #[v, .bool d] 52)).alloc (.cells #[.slice none 0 0, .bool false, .string ⟨#[]⟩, .int .i64 0, .int .i64 0, .int .u64 0, .slice none 0 0, .string ⟨#[]⟩, .int .i64 0, .slice none 0 0] 63)) (.cells #[.slice none 0 0, .bool false, .string ⟨#[]⟩, .int .i64 0, .int .i64 0, .int .u64 0, .slice none 0 0, .string ⟨#[]⟩, .int .i64 0, .slice none 0 0] 63); rw [World.size_alloc, World.size_alloc] at h9; exact h9

theorem Ow.two {w u : World} {B0 p : Nat} {v : Value} {xs : List ByteArray} {cs : Array Value} {t : TypeId} (h : Pt.Ow w B0 v xs) (hg : w.grownBy u (some p)) (hp : w.heap[p]? = some (.cells cs t (0, 0))) (ht : t ≠ 9) : Pt.Ow u B0 v xs := by
  refine World.ownsRow.kept h hg ?_
  rcases h.2 with ⟨hv, _⟩ | ⟨g, cap, cur, hv, _, hg2, _⟩
  · left; rw [hv]; rfl
  · right
    rw [hv]
    intro e
    have e' : g = p := Option.some.inj e
    rw [← e', hg2] at hp
    cases hp
    exact ht rfl
theorem RdAt.ow {w u : World} {B q B0 : Nat} {rest : List Int} {v : Value} {xs : List ByteArray} (h : RdAt w B q rest) (ho : Pt.Ow w B0 v xs) (hg : w.grownBy u (some q)) : Pt.Ow u B0 v xs := by
  obtain ⟨b, off, c, h0, _⟩ := h
  exact Ow.two ho hg h0 (by decide)
theorem SgOn.two {w u : World} {B0 B p : Nat} {v : Value} {l : List Sg} {cs : Array Value} {t : TypeId} (h : SgOn w B0 B v l) (hg : w.grownBy u (some p)) (hp : w.heap[p]? = some (.cells cs t (0, 0))) (ht : t ≠ 94) (hB : B ≤ p) (hBw : B ≤ w.heap.size) : SgOn u B0 B v l := by
  refine h.kept hg ?_ hBw
  intro k hk
  have e' := Option.some.inj hk
  subst e'
  refine ⟨fun e => ?_, hB⟩
  obtain ⟨es, _, h2, _⟩ := h
  rcases h2.2 with ⟨hv, _⟩ | ⟨g, cap, cur, hv, _, hg2, _⟩
  · rw [hv] at e; cases e
  · rw [hv] at e
    have e' : g = p := Option.some.inj e
    rw [← e', hg2] at hp
    cases hp
    exact ht rfl

theorem res64 (tmps : Array Value) (W : World) (r : Nat) (v0 v1 v2 v3 v4 v5 v6 v7 v8 v9 : Value) (ht : tmps[6]? = some (.pointer (some ⟨r, 0, none⟩))) (h : PB W r v0 v1 v2 v3 v4 v5 v6 v7 v8 v9) :
    (results Tryz.f74 tmps).run Tryz.prog W = .ok (.agg #[v0, v1, v2, v3, v4, v5, v6, v7, v8, v9]) W := by
  have c0 := pb_cell0 h
  have c1 := pb_cell1 h
  have c2 := pb_cell2 h
  have c3 := pb_cell3 h
  have c4 := pb_cell4 h
  have c5 := pb_cell5 h
  have c6 := pb_cell6 h
  have c7 := pb_cell7 h
  have c8 := pb_cell8 h
  have c9 := pb_cell9 h
  simp [results, Tryz.results74, go_sem, ht, c0, c1, c2, c3, c4, c5, c6, c7, c8, c9]

/-- Ten stores into a piece's box. -/
def fill10 (U : World) (r : Nat) (x0 x1 x2 x3 x4 x5 x6 x7 x8 x9 : Value) : World := ((((((((((U).setCell ⟨r, 0, none⟩ x0).setCell ⟨r, 1, none⟩ x1).setCell ⟨r, 2, none⟩ x2).setCell ⟨r, 3, none⟩ x3).setCell ⟨r, 4, none⟩ x4).setCell ⟨r, 5, none⟩ x5).setCell ⟨r, 6, none⟩ x6).setCell ⟨r, 7, none⟩ x7).setCell ⟨r, 8, none⟩ x8).setCell ⟨r, 9, none⟩ x9
theorem fill10_pb {U : World} {r : Nat} {v0 v1 v2 v3 v4 v5 v6 v7 v8 v9 : Value} (h : PB U r v0 v1 v2 v3 v4 v5 v6 v7 v8 v9) (x0 x1 x2 x3 x4 x5 x6 x7 x8 x9 : Value) : PB (fill10 U r x0 x1 x2 x3 x4 x5 x6 x7 x8 x9) r x0 x1 x2 x3 x4 x5 x6 x7 x8 x9 :=
  pb_set9 (pb_set8 (pb_set7 (pb_set6 (pb_set5 (pb_set4 (pb_set3 (pb_set2 (pb_set1 (pb_set0 h _) _) _) _) _) _) _) _) _) _
theorem fill10_grown (U : World) (r : Nat) (x0 x1 x2 x3 x4 x5 x6 x7 x8 x9 : Value) : U.grownBy (fill10 U r x0 x1 x2 x3 x4 x5 x6 x7 x8 x9) (some r) :=
  grownBy_trans (grownBy_trans (grownBy_trans (grownBy_trans (grownBy_trans (grownBy_trans (grownBy_trans (grownBy_trans (grownBy_trans (set_grown _ _ _ _) (set_grown _ _ _ _)) (set_grown _ _ _ _)) (set_grown _ _ _ _)) (set_grown _ _ _ _)) (set_grown _ _ _ _)) (set_grown _ _ _ _)) (set_grown _ _ _ _)) (set_grown _ _ _ _)) (set_grown _ _ _ _)

/-- The end of a piece. -/
theorem piece_end {w U W : World} {B q : Nat} {v : Value} {d : Bool} {xs : List ByteArray} {k : Nat} {rest r4 : List Int} {p : Pc} {v0 v9 : Value} {tmps : Array Value} {x0 x1 x2 x3 x4 x5 x6 x7 x8 x9 : Value}
    (hP : pieceR xs k rest = .ok (p, r4)) (hS : PS w U B q v d r4 x0 x1 x2 x3 x4 x5 x6 x7 x8 x9) (hx : #[x0, x1, x2, x3, x4, x5, x6, x7, x8, x9] = #[v0, .bool (p.ty == 2), .string (Pt.tg p.names), .int .i64 p.ty, .int .i64 p.mode, .int .u64 p.stamp, .slice none 0 0, .string p.target, .int .i64 (p.size : Int), v9])
    (hO : Pt.Ow U w.heap.size v0 p.names) (hG : SgOn U w.heap.size B v9 p.segs) (hz : p.size ≤ 16777216) (hpb : PB W (w.heap.size + 1) x0 x1 x2 x3 x4 x5 x6 x7 x8 x9) (hg : U.grownBy W (some (w.heap.size + 1))) (ht : tmps[6]? = some (.pointer (some ⟨w.heap.size + 1, 0, none⟩))) :
    bodyPost Tryz.prog Tryz.f74 (Left w B q (pieceR xs k rest) (PcV B w.heap.size)) Exit.ret { tmps := tmps, defers := [] } W := by
  have hl := hS.lt
  have hw := hS.low
  have hz2 := hS.size
  refine bodyPost_ret (res64 tmps _ _ _ _ _ _ _ _ _ _ _ _ ht hpb) rfl (left_ok hP ?_ ?_ ?_)
  · exact ⟨v0, v9, by rw [hx], Ow.two hO hg hS.rb (by decide), SgOn.two hG hg hS.rb (by decide) (by omega) (by omega), hz⟩
  · exact hS.rd.other hg (fun e => by have := Option.some.inj e; omega) (fun i e => by have := Option.some.inj e; omega)
  · exact grown_past hS.gr hg (fun i e => by have := Option.some.inj e; omega)

theorem modeR_len {bs r : List Int} {x : Int × Int} (h : modeR bs = .ok (x, r)) (hb : bs.length ≤ 200000000000000) : r.length ≤ 200000000000000 := by
  unfold modeR at h
  split at h
  · cases h
  · rename_i m r1 h1
    split at h
    · cases h
    · rename_i s r2 h2
      cases h
      have := wholeR_len h1 hb
      rw [(numR_ok h2).2.2, List.length_drop]; omega
theorem namesR_len {xs ns : List ByteArray} {k : Nat} {bs r : List Int} (h : namesR xs k bs = .ok (ns, r)) (hb : bs.length ≤ 200000000000000) : r.length ≤ 200000000000000 := by
  unfold namesR at h
  split at h
  · cases h
  · rename_i m r1 h1
    have := wholeR_len h1 hb
    unfold takeR at h
    split at h
    · cases h
    · rename_i b r2 h2
      split at h2
      · cases h2
        split at h
        · cases h; rw [List.length_drop]; omega
        · cases h
      · cases h2

set_option maxHeartbeats 4000000 in
set_option maxRecDepth 100000 in
theorem piece_any (B q : Nat) (v : Value) (xs : List ByteArray) (d : Bool) (k : Nat) (rest : List Int) (w : World) (hR : RdAt w B q rest) (hl : rest.length ≤ 200000000000000) (hv : Pt.Vw w v xs) (hk : k ≤ xs.length) (hx : xs.length ≤ 64) (hxs : ∀ x ∈ xs, x.size ≤ 63) :
    Calls Tryz.prog 74 #[.pointer (some ⟨q, 0, none⟩), .agg #[v, .bool d], .int .i64 (k : Int)] w (Left w B q (pieceR xs k rest) (PcV B w.heap.size)) := by
  have HS0 := hide (start_ps w B q v d rest hR)
  have HV : Hid (∀ u, w.grownBy u (some q) → Pt.Vw u v xs) := fun u hu => RdAt.vw hR hv hu
  have HXS := hide hxs
  obtain ⟨a, c, rfl, h1, h2, rd, hp⟩ := hv
  have hBw : B ≤ w.heap.size := by have := hR.lt; omega
  clear hR rd hp h1 h2 hxs
  cases hw : wholeR 1 1 3 rest with
  | error x =>
    have HW := hide hw
    have HP : Hid (pieceR xs k rest = .error x) := by unfold Hid pieceR; rw [hw]
    clear hw
    have T1 : Hid True := trivial
    go_enter Tryz.func74, Tryz.ntmps74
    go_wp2_with (first
      | (go_at_call 88; refine (whole_any B q 1 1 3 rest _ HS0.out.rd hl (by omega) (by omega)).mono ?_; intro e u1 lf; rw [HW.out] at lf; obtain ⟨rfl, g1⟩ := lf; have HG1 := hide g1; clear g1))
    exact ⟨rfl, left_err HP.out (grownBy_trans HS0.out.gr HG1.out)⟩
  | ok pr =>
    obtain ⟨ty, r1⟩ := pr
    have HW := hide hw
    have hr1 := wholeR_len hw hl
    have hty := (wholeR_ok hw).2
    have hty2 : ty = 1 ∨ ty = 2 ∨ ty = 3 := by omega
    clear hw hty
    cases hm : modeR r1 with
    | error x =>
      have HM := hide hm
      have HP : Hid (pieceR xs k rest = .error x) := by unfold Hid pieceR; rw [HW.out]; simp only [hm]
      clear hm
      have T1 : Hid True := trivial
      go_enter Tryz.func74, Tryz.ntmps74
      go_wp2_with (first
        | (go_at_call 88; have zz := T1; clear T1 zz; refine (whole_any B q 1 1 3 rest _ HS0.out.rd hl (by omega) (by omega)).mono ?_; intro e u1 lf; rw [HW.out] at lf; obtain ⟨val, rfl, rfl, rd1, g1⟩ := lf
           have hs1 := HS0.out.call g1 rd1
           have c3 := pb_cell3 hs1.pb
           have f3 := pb_frozen3 hs1.pb
           have HS1 := hide (hs1.set (pb_set3 hs1.pb (.int .i64 ty)))
           clear hs1 g1 rd1; have T2 : Hid True := trivial)
        | (go_at_call 71; refine (mode_any B q (w.heap.size + 2) _ _ _ _ _ _ _ _ _ _ r1 _ HS1.out.rd hr1 HS1.out.pb (by have := HS0.out.lt; omega) (by omega)).mono ?_; intro e u2 lf; rw [HM.out] at lf; obtain ⟨rfl, t2⟩ := lf; have HT2 := hide t2; clear t2 c3 f3))
      exact ⟨rfl, left_err HP.out (Two.past HS1.out.gr HT2.out (by omega))⟩
    | ok pr =>
      obtain ⟨⟨md, sp⟩, r2⟩ := pr
      have HM := hide hm
      have hr2 := modeR_len hm hr1
      clear hm
      cases hn : namesR xs k r2 with
      | error x =>
        have HN := hide hn
        have HP : Hid (pieceR xs k rest = .error x) := by unfold Hid pieceR; rw [HW.out]; simp only [HM.out, hn]
        clear hn
        have T1 : Hid True := trivial
        go_enter Tryz.func74, Tryz.ntmps74
        go_wp2_with (first
          | (go_at_call 88; have zz := T1; clear T1 zz; refine (whole_any B q 1 1 3 rest _ HS0.out.rd hl (by omega) (by omega)).mono ?_; intro e u1 lf; rw [HW.out] at lf; obtain ⟨val, rfl, rfl, rd1, g1⟩ := lf
             have hs1 := HS0.out.call g1 rd1
             have c3 := pb_cell3 hs1.pb
             have f3 := pb_frozen3 hs1.pb
             have HS1 := hide (hs1.set (pb_set3 hs1.pb (.int .i64 ty)))
             clear hs1 g1 rd1; have T2 : Hid True := trivial)
          | (go_at_call 71; refine (mode_any B q (w.heap.size + 2) _ _ _ _ _ _ _ _ _ _ r1 _ HS1.out.rd hr1 HS1.out.pb (by have := HS0.out.lt; omega) (by omega)).mono ?_; intro e u2 lf; rw [HM.out] at lf; obtain ⟨rfl, rd2, pb2, t2⟩ := lf
             have hs2 := HS1.out.two t2 rd2 pb2
             clear c3 f3
             have c1 := pb_cell1 hs2.pb
             have f1 := pb_frozen1 hs2.pb
             have c3 := pb_cell3 hs2.pb
             obtain ⟨cs0, cs1⟩ := hs2.spot
             have HS2 := hide (hs2.set (pb_set1 hs2.pb (.bool (ty == 2))))
             clear hs2 rd2 pb2 t2)
          | (go_at_call 90; refine (names_any B q (.slice a xs.length c) xs d k r2 _ HS2.out.rd hr2 (HV.out _ HS2.out.gr) hk hx HXS.out).mono ?_; intro e u3 lf; rw [HN.out] at lf; obtain ⟨rfl, g3⟩ := lf; have HG3 := hide g3; clear g3 c1 f1 c3 cs0 cs1))
        exact ⟨rfl, left_err HP.out (grownBy_trans HS2.out.gr HG3.out)⟩
      | ok pr =>
        obtain ⟨ns, r3⟩ := pr
        have HN := hide hn
        have hr3 := namesR_len hn hr2
        clear hn
        rcases hty2 with rfl | rfl | rfl
        · cases hd : dataR r3 with
          | error x =>
            have HD := hide hd
            have HP : Hid (pieceR xs k rest = .error x) := by unfold Hid pieceR; rw [HW.out]; simp only [HM.out, HN.out, if_true, hd]
            clear hd
            have T1 : Hid True := trivial
            go_enter Tryz.func74, Tryz.ntmps74
            go_wp2_with (first
              | (go_at_call 88; have zz := T1; clear T1 zz; refine (whole_any B q 1 1 3 rest _ HS0.out.rd hl (by omega) (by omega)).mono ?_; intro e u1 lf; rw [HW.out] at lf; obtain ⟨val, rfl, rfl, rd1, g1⟩ := lf
                 have hs1 := HS0.out.call g1 rd1
                 have c3 := pb_cell3 hs1.pb
                 have f3 := pb_frozen3 hs1.pb
                 have HS1 := hide (hs1.set (pb_set3 hs1.pb (.int .i64 1)))
                 clear hs1 g1 rd1; have T2 : Hid True := trivial)
              | (go_at_call 71; refine (mode_any B q (w.heap.size + 2) _ _ _ _ _ _ _ _ _ _ r1 _ HS1.out.rd hr1 HS1.out.pb (by have := HS0.out.lt; omega) (by omega)).mono ?_; intro e u2 lf; rw [HM.out] at lf; obtain ⟨rfl, rd2, pb2, t2⟩ := lf
                 have hs2 := HS1.out.two t2 rd2 pb2
                 clear c3 f3
                 have c1 := pb_cell1 hs2.pb
                 have f1 := pb_frozen1 hs2.pb
                 have c3 := pb_cell3 hs2.pb
                 obtain ⟨cs0, cs1⟩ := hs2.spot
                 have HS2 := hide (hs2.set (pb_set1 hs2.pb (.bool (1 == 2))))
                 clear hs2 rd2 pb2 t2)
              | (go_at_call 90; refine (names_any B q (.slice a xs.length c) xs d k r2 _ HS2.out.rd hr2 (HV.out _ HS2.out.gr) hk hx HXS.out).mono ?_; intro e u3 lf; rw [HN.out] at lf; obtain ⟨val, rfl, nv, rd3, g3⟩ := lf
                 obtain ⟨v3, rfl, o3⟩ := nv
                 obtain ⟨a3, c33, rfl, _⟩ := Pt.Ow.rd o3
                 have hs3 := HS2.out.call g3 rd3
                 clear c1 f1 c3 cs0 cs1
                 have c0 := pb_cell0 hs3.pb
                 have f0 := pb_frozen0 hs3.pb
                 have c2 := pb_cell2 hs3.pb
                 have f2 := pb_frozen2 hs3.pb
                 have c3 := pb_cell3 hs3.pb
                 have hs4 := hs3.set (pb_set0 hs3.pb (.slice a3 ns.length c33))
                 have HS3 := hide (hs4.set (pb_set2 hs4.pb (.string (Pt.tg ns))))
                 have HO3 := hide (Ow.two (Ow.two o3 (set_grown u3 (w.heap.size + 2) 0 (.slice a3 ns.length c33)) hs3.pb (by decide)) (set_grown _ (w.heap.size + 2) 2 (.string (Pt.tg ns))) hs4.pb (by decide))
                 have HZ3 : Hid (w.heap.size ≤ (u2.setCell ⟨w.heap.size + 2, 1, none⟩ (.bool (1 == 2))).heap.size) := HS2.out.gr.size
                 clear hs3 hs4 rd3 g3 o3)
              | (go_at_call 91; refine (data_any B q r3 _ HS3.out.rd hr3).mono ?_; intro e u4 lf; rw [HD.out] at lf; obtain ⟨rfl, g4⟩ := lf; have HG4 := hide g4; clear g4 c0 f0 c2 f2 c3))
            exact ⟨rfl, left_err HP.out (grownBy_trans HS3.out.gr HG4.out)⟩
          | ok pr =>
            obtain ⟨⟨sz, sg⟩, r4⟩ := pr
            have HD := hide hd
            have HP : Hid (pieceR xs k rest = .ok (⟨ns, 1, md, sp, ⟨#[]⟩, sz, sg⟩, r4)) := by unfold Hid pieceR; rw [HW.out]; simp only [HM.out, HN.out, if_true, hd]
            clear hd
            have T1 : Hid True := trivial
            go_enter Tryz.func74, Tryz.ntmps74
            go_wp2_with (first
              | (go_at_call 88; have zz := T1; clear T1 zz; refine (whole_any B q 1 1 3 rest _ HS0.out.rd hl (by omega) (by omega)).mono ?_; intro e u1 lf; rw [HW.out] at lf; obtain ⟨val, rfl, rfl, rd1, g1⟩ := lf
                 have hs1 := HS0.out.call g1 rd1
                 have c3 := pb_cell3 hs1.pb
                 have f3 := pb_frozen3 hs1.pb
                 have HS1 := hide (hs1.set (pb_set3 hs1.pb (.int .i64 1)))
                 clear hs1 g1 rd1; have T2 : Hid True := trivial)
              | (go_at_call 71; refine (mode_any B q (w.heap.size + 2) _ _ _ _ _ _ _ _ _ _ r1 _ HS1.out.rd hr1 HS1.out.pb (by have := HS0.out.lt; omega) (by omega)).mono ?_; intro e u2 lf; rw [HM.out] at lf; obtain ⟨rfl, rd2, pb2, t2⟩ := lf
                 have hs2 := HS1.out.two t2 rd2 pb2
                 clear c3 f3
                 have c1 := pb_cell1 hs2.pb
                 have f1 := pb_frozen1 hs2.pb
                 have c3 := pb_cell3 hs2.pb
                 obtain ⟨cs0, cs1⟩ := hs2.spot
                 have HS2 := hide (hs2.set (pb_set1 hs2.pb (.bool (1 == 2))))
                 clear hs2 rd2 pb2 t2)
              | (go_at_call 90; refine (names_any B q (.slice a xs.length c) xs d k r2 _ HS2.out.rd hr2 (HV.out _ HS2.out.gr) hk hx HXS.out).mono ?_; intro e u3 lf; rw [HN.out] at lf; obtain ⟨val, rfl, nv, rd3, g3⟩ := lf
                 obtain ⟨v3, rfl, o3⟩ := nv
                 obtain ⟨a3, c33, rfl, _⟩ := Pt.Ow.rd o3
                 have hs3 := HS2.out.call g3 rd3
                 clear c1 f1 c3 cs0 cs1
                 have c0 := pb_cell0 hs3.pb
                 have f0 := pb_frozen0 hs3.pb
                 have c2 := pb_cell2 hs3.pb
                 have f2 := pb_frozen2 hs3.pb
                 have c3 := pb_cell3 hs3.pb
                 have hs4 := hs3.set (pb_set0 hs3.pb (.slice a3 ns.length c33))
                 have HS3 := hide (hs4.set (pb_set2 hs4.pb (.string (Pt.tg ns))))
                 have HO3 := hide (Ow.two (Ow.two o3 (set_grown u3 (w.heap.size + 2) 0 (.slice a3 ns.length c33)) hs3.pb (by decide)) (set_grown _ (w.heap.size + 2) 2 (.string (Pt.tg ns))) hs4.pb (by decide))
                 have HZ3 : Hid (w.heap.size ≤ (u2.setCell ⟨w.heap.size + 2, 1, none⟩ (.bool (1 == 2))).heap.size) := HS2.out.gr.size
                 clear hs3 hs4 rd3 g3 o3)
              | (go_at_call 91; refine (data_any B q r3 _ HS3.out.rd hr3).mono ?_; intro e u4 lf; rw [HD.out] at lf; obtain ⟨val, rfl, dv, rd4, g4⟩ := lf
                 obtain ⟨v4, rfl, sg4, hsz4⟩ := dv
                 obtain ⟨a4, c44, rfl⟩ := sg4.shape
                 have hs5 := HS3.out.call g4 rd4
                 clear c0 f0 c2 f2 c3
                 have HS4 := hide hs5
                 have HSG := hide sg4
                 have HSZ := hide hsz4
                 have HO4 := hide (RdAt.ow HS3.out.rd HO3.out g4)
                 have k0 := pb_cell0 hs5.pb
                 have k1 := pb_cell1 hs5.pb
                 have k2 := pb_cell2 hs5.pb
                 have k3 := pb_cell3 hs5.pb
                 have k4 := pb_cell4 hs5.pb
                 have k5 := pb_cell5 hs5.pb
                 have k6 := pb_cell6 hs5.pb
                 have k7 := pb_cell7 hs5.pb
                 have k8 := pb_cell8 hs5.pb
                 have k9 := pb_cell9 hs5.pb
                 have k8f := pb_frozen8 hs5.pb
                 have k9f := pb_frozen9 hs5.pb
                 have k7f := pb_frozen7 hs5.pb
                 have m0 := pb_cell0 hs5.rb
                 have m1 := pb_cell1 hs5.rb
                 have m2 := pb_cell2 hs5.rb
                 have m3 := pb_cell3 hs5.rb
                 have m4 := pb_cell4 hs5.rb
                 have m5 := pb_cell5 hs5.rb
                 have m6 := pb_cell6 hs5.rb
                 have m7 := pb_cell7 hs5.rb
                 have m8 := pb_cell8 hs5.rb
                 have m9 := pb_cell9 hs5.rb
                 have m0f := pb_frozen0 hs5.rb
                 have m1f := pb_frozen1 hs5.rb
                 have m2f := pb_frozen2 hs5.rb
                 have m3f := pb_frozen3 hs5.rb
                 have m4f := pb_frozen4 hs5.rb
                 have m5f := pb_frozen5 hs5.rb
                 have m6f := pb_frozen6 hs5.rb
                 have m7f := pb_frozen7 hs5.rb
                 have m8f := pb_frozen8 hs5.rb
                 have m9f := pb_frozen9 hs5.rb
                 clear hs5 rd4 g4 sg4 hsz4))
            have hs5 := HS4.out.set (pb_set8 HS4.out.pb (.int .i64 (sz : Int)))
            have HS6 := hide (hs5.set (pb_set9 hs5.pb (.slice a4 sg.length c44)))
            refine piece_end HP.out HS6.out rfl (Pt.Ow.lower (Ow.two (Ow.two HO4.out (set_grown _ _ 8 _) HS4.out.pb (by decide)) (set_grown _ _ 9 _) hs5.pb (by decide)) HZ3.out) (SgOn.lower (SgOn.two (SgOn.two HSG.out (set_grown _ _ 8 _) HS4.out.pb (by decide) (by omega) (by have := HS4.out.gr.size; omega)) (set_grown _ _ 9 _) hs5.pb (by decide) (by omega) (by have := hs5.gr.size; omega)) HS3.out.gr.size) HSZ.out ?_ ?_ ?_
            · exact (pb_set9 (pb_set8 (pb_set7 (pb_set6 (pb_set5 (pb_set4 (pb_set3 (pb_set2 (pb_set1 (pb_set0 HS6.out.rb _) _) _) _) _) _) _) _) _) _)
            · exact (grownBy_trans (grownBy_trans (grownBy_trans (grownBy_trans (grownBy_trans (grownBy_trans (grownBy_trans (grownBy_trans (grownBy_trans (set_grown _ _ _ _) (set_grown _ _ _ _)) (set_grown _ _ _ _)) (set_grown _ _ _ _)) (set_grown _ _ _ _)) (set_grown _ _ _ _)) (set_grown _ _ _ _)) (set_grown _ _ _ _)) (set_grown _ _ _ _)) (set_grown _ _ _ _))
            · rfl
        · have HP : Hid (pieceR xs k rest = .ok (⟨ns, 2, md, sp, ⟨#[]⟩, 0, []⟩, r3)) := by unfold Hid pieceR; rw [HW.out]; simp only [HM.out, HN.out]; rfl
          have T1 : Hid True := trivial
          go_enter Tryz.func74, Tryz.ntmps74
          go_wp2_with (first
            | (go_at_call 88; have zz := T1; clear T1 zz; refine (whole_any B q 1 1 3 rest _ HS0.out.rd hl (by omega) (by omega)).mono ?_; intro e u1 lf; rw [HW.out] at lf; obtain ⟨val, rfl, rfl, rd1, g1⟩ := lf
               have hs1 := HS0.out.call g1 rd1
               have c3 := pb_cell3 hs1.pb
               have f3 := pb_frozen3 hs1.pb
               have HS1 := hide (hs1.set (pb_set3 hs1.pb (.int .i64 2)))
               clear hs1 g1 rd1; have T2 : Hid True := trivial)
            | (go_at_call 71; refine (mode_any B q (w.heap.size + 2) _ _ _ _ _ _ _ _ _ _ r1 _ HS1.out.rd hr1 HS1.out.pb (by have := HS0.out.lt; omega) (by omega)).mono ?_; intro e u2 lf; rw [HM.out] at lf; obtain ⟨rfl, rd2, pb2, t2⟩ := lf
               have hs2 := HS1.out.two t2 rd2 pb2
               clear c3 f3
               have c1 := pb_cell1 hs2.pb
               have f1 := pb_frozen1 hs2.pb
               have c3 := pb_cell3 hs2.pb
               obtain ⟨cs0, cs1⟩ := hs2.spot
               have HS2 := hide (hs2.set (pb_set1 hs2.pb (.bool (2 == 2))))
               clear hs2 rd2 pb2 t2)
            | (go_at_call 90; refine (names_any B q (.slice a xs.length c) xs d k r2 _ HS2.out.rd hr2 (HV.out _ HS2.out.gr) hk hx HXS.out).mono ?_; intro e u3 lf; rw [HN.out] at lf; obtain ⟨val, rfl, nv, rd3, g3⟩ := lf
               obtain ⟨v3, rfl, o3⟩ := nv
               obtain ⟨a3, c33, rfl, _⟩ := Pt.Ow.rd o3
               have hs3 := HS2.out.call g3 rd3
               clear c1 f1 c3 cs0 cs1
               have c0 := pb_cell0 hs3.pb
               have f0 := pb_frozen0 hs3.pb
               have c2 := pb_cell2 hs3.pb
               have f2 := pb_frozen2 hs3.pb
               have c3 := pb_cell3 hs3.pb
               have hs4 := hs3.set (pb_set0 hs3.pb (.slice a3 ns.length c33))
               have HS3 := hide (hs4.set (pb_set2 hs4.pb (.string (Pt.tg ns))))
               have HO3 := hide (Ow.two (Ow.two o3 (set_grown u3 (w.heap.size + 2) 0 (.slice a3 ns.length c33)) hs3.pb (by decide)) (set_grown _ (w.heap.size + 2) 2 (.string (Pt.tg ns))) hs4.pb (by decide))
               have HZ3 : Hid (w.heap.size ≤ (u2.setCell ⟨w.heap.size + 2, 1, none⟩ (.bool (2 == 2))).heap.size) := HS2.out.gr.size
               have k1 := pb_cell1 hs3.pb
               have k4 := pb_cell4 hs3.pb
               have k5 := pb_cell5 hs3.pb
               have k6 := pb_cell6 hs3.pb
               have k7 := pb_cell7 hs3.pb
               have k8 := pb_cell8 hs3.pb
               have k9 := pb_cell9 hs3.pb
               have m0 := pb_cell0 hs3.rb
               have m1 := pb_cell1 hs3.rb
               have m2 := pb_cell2 hs3.rb
               have m3 := pb_cell3 hs3.rb
               have m4 := pb_cell4 hs3.rb
               have m5 := pb_cell5 hs3.rb
               have m6 := pb_cell6 hs3.rb
               have m7 := pb_cell7 hs3.rb
               have m8 := pb_cell8 hs3.rb
               have m9 := pb_cell9 hs3.rb
               have m0f := pb_frozen0 hs3.rb
               have m1f := pb_frozen1 hs3.rb
               have m2f := pb_frozen2 hs3.rb
               have m3f := pb_frozen3 hs3.rb
               have m4f := pb_frozen4 hs3.rb
               have m5f := pb_frozen5 hs3.rb
               have m6f := pb_frozen6 hs3.rb
               have m7f := pb_frozen7 hs3.rb
               have m8f := pb_frozen8 hs3.rb
               have m9f := pb_frozen9 hs3.rb
               clear hs3 hs4 rd3 g3 o3))
          refine piece_end HP.out HS3.out rfl (Pt.Ow.lower HO3.out HZ3.out) (sgOn_nil _ _ _) (Nat.zero_le _) ?_ ?_ ?_
          · exact (pb_set9 (pb_set8 (pb_set7 (pb_set6 (pb_set5 (pb_set4 (pb_set3 (pb_set2 (pb_set1 (pb_set0 HS3.out.rb _) _) _) _) _) _) _) _) _) _)
          · exact (grownBy_trans (grownBy_trans (grownBy_trans (grownBy_trans (grownBy_trans (grownBy_trans (grownBy_trans (grownBy_trans (grownBy_trans (set_grown _ _ _ _) (set_grown _ _ _ _)) (set_grown _ _ _ _)) (set_grown _ _ _ _)) (set_grown _ _ _ _)) (set_grown _ _ _ _)) (set_grown _ _ _ _)) (set_grown _ _ _ _)) (set_grown _ _ _ _)) (set_grown _ _ _ _))
          · rfl
        · cases hw3 : wholeR 1 1 127 r3 with
          | error x =>
            have HW3 := hide hw3
            have HP : Hid (pieceR xs k rest = .error x) := by unfold Hid pieceR; rw [HW.out]; simp only [HM.out, HN.out, targetR, hw3]; rfl
            clear hw3
            have T1 : Hid True := trivial
            go_enter Tryz.func74, Tryz.ntmps74
            go_wp2_with (first
              | (go_at_call 88; have zz := T1; clear T1 zz; refine (whole_any B q 1 1 3 rest _ HS0.out.rd hl (by omega) (by omega)).mono ?_; intro e u1 lf; rw [HW.out] at lf; obtain ⟨val, rfl, rfl, rd1, g1⟩ := lf
                 have hs1 := HS0.out.call g1 rd1
                 have c3 := pb_cell3 hs1.pb
                 have f3 := pb_frozen3 hs1.pb
                 have HS1 := hide (hs1.set (pb_set3 hs1.pb (.int .i64 3)))
                 clear hs1 g1 rd1; have T2 : Hid True := trivial)
              | (go_at_call 71; refine (mode_any B q (w.heap.size + 2) _ _ _ _ _ _ _ _ _ _ r1 _ HS1.out.rd hr1 HS1.out.pb (by have := HS0.out.lt; omega) (by omega)).mono ?_; intro e u2 lf; rw [HM.out] at lf; obtain ⟨rfl, rd2, pb2, t2⟩ := lf
                 have hs2 := HS1.out.two t2 rd2 pb2
                 clear c3 f3
                 have c1 := pb_cell1 hs2.pb
                 have f1 := pb_frozen1 hs2.pb
                 have c3 := pb_cell3 hs2.pb
                 obtain ⟨cs0, cs1⟩ := hs2.spot
                 have HS2 := hide (hs2.set (pb_set1 hs2.pb (.bool (3 == 2))))
                 clear hs2 rd2 pb2 t2)
              | (go_at_call 90; refine (names_any B q (.slice a xs.length c) xs d k r2 _ HS2.out.rd hr2 (HV.out _ HS2.out.gr) hk hx HXS.out).mono ?_; intro e u3 lf; rw [HN.out] at lf; obtain ⟨val, rfl, nv, rd3, g3⟩ := lf
                 obtain ⟨v3, rfl, o3⟩ := nv
                 obtain ⟨a3, c33, rfl, _⟩ := Pt.Ow.rd o3
                 have hs3 := HS2.out.call g3 rd3
                 clear c1 f1 c3 cs0 cs1
                 have c0 := pb_cell0 hs3.pb
                 have f0 := pb_frozen0 hs3.pb
                 have c2 := pb_cell2 hs3.pb
                 have f2 := pb_frozen2 hs3.pb
                 have c3 := pb_cell3 hs3.pb
                 have hs4 := hs3.set (pb_set0 hs3.pb (.slice a3 ns.length c33))
                 have HS3 := hide (hs4.set (pb_set2 hs4.pb (.string (Pt.tg ns))))
                 have HO3 := hide (Ow.two (Ow.two o3 (set_grown u3 (w.heap.size + 2) 0 (.slice a3 ns.length c33)) hs3.pb (by decide)) (set_grown _ (w.heap.size + 2) 2 (.string (Pt.tg ns))) hs4.pb (by decide))
                 have HZ3 : Hid (w.heap.size ≤ (u2.setCell ⟨w.heap.size + 2, 1, none⟩ (.bool (3 == 2))).heap.size) := HS2.out.gr.size
                 clear hs3 hs4 rd3 g3 o3)
              | (go_at_call 88; have zz := T2; clear T2 zz; refine (whole_any B q 1 1 127 r3 _ HS3.out.rd hr3 (by omega) (by omega)).mono ?_; intro e u4 lf; rw [HW3.out] at lf; obtain ⟨rfl, g4⟩ := lf; have HG4 := hide g4; clear g4 c0 f0 c2 f2 c3))
            exact ⟨rfl, left_err HP.out (grownBy_trans HS3.out.gr HG4.out)⟩
          | ok pr =>
            obtain ⟨mi, r4⟩ := pr
            have hm9 := (wholeR_ok hw3).2
            obtain ⟨m, rfl⟩ := Int.eq_ofNat_of_zero_le (show 0 ≤ mi by omega)
            have hm1 : 1 ≤ m := by omega
            have hm2 : m ≤ 127 := by omega
            have hr4 := wholeR_len hw3 hr3
            have HW3 := hide hw3
            clear hw3 hm9
            by_cases htk : m ≤ r4.length
            · obtain ⟨bs, hbs⟩ : ∃ bs, r4.take m = bs := ⟨_, rfl⟩
              have hbl : bs.length = m := by rw [← hbs, List.length_take]; omega
              obtain ⟨tn, htn⟩ : ∃ tn, strOfNums bs = tn := ⟨_, rfl⟩
              have htl : tn.size ≤ 127 := by rw [← htn, strOfNums_size]; omega
              have HBS := hide hbs
              have HTN := hide htn
              have HP0 : Hid (pieceR xs k rest = if Pt.zeroB tn then .error 191 else .ok (⟨ns, 3, md, sp, tn, 0, []⟩, r4.drop m)) := by
                unfold Hid pieceR; rw [HW.out]; simp only [HM.out, HN.out, targetR, HW3.out, Int.toNat_natCast, takeR, if_pos htk, hbs, htn]
                cases Pt.zeroB tn <;> rfl
              clear hbs htn hbl
              cases hz : Pt.zeroB tn with
              | true =>
                have HP : Hid (pieceR xs k rest = .error 191) := by unfold Hid; rw [HP0.out, hz]; rfl
                have HZB := hide hz
                clear hz
                have T1 : Hid True := trivial
                go_enter Tryz.func74, Tryz.ntmps74
                go_wp2_with (first
                  | (go_at_call 88; have zz := T1; clear T1 zz; refine (whole_any B q 1 1 3 rest _ HS0.out.rd hl (by omega) (by omega)).mono ?_; intro e u1 lf; rw [HW.out] at lf; obtain ⟨val, rfl, rfl, rd1, g1⟩ := lf
                     have hs1 := HS0.out.call g1 rd1
                     have c3 := pb_cell3 hs1.pb
                     have f3 := pb_frozen3 hs1.pb
                     have HS1 := hide (hs1.set (pb_set3 hs1.pb (.int .i64 3)))
                     clear hs1 g1 rd1; have T2 : Hid True := trivial)
                  | (go_at_call 71; refine (mode_any B q (w.heap.size + 2) _ _ _ _ _ _ _ _ _ _ r1 _ HS1.out.rd hr1 HS1.out.pb (by have := HS0.out.lt; omega) (by omega)).mono ?_; intro e u2 lf; rw [HM.out] at lf; obtain ⟨rfl, rd2, pb2, t2⟩ := lf
                     have hs2 := HS1.out.two t2 rd2 pb2
                     clear c3 f3
                     have c1 := pb_cell1 hs2.pb
                     have f1 := pb_frozen1 hs2.pb
                     have c3 := pb_cell3 hs2.pb
                     obtain ⟨cs0, cs1⟩ := hs2.spot
                     have HS2 := hide (hs2.set (pb_set1 hs2.pb (.bool (3 == 2))))
                     clear hs2 rd2 pb2 t2)
                  | (go_at_call 90; refine (names_any B q (.slice a xs.length c) xs d k r2 _ HS2.out.rd hr2 (HV.out _ HS2.out.gr) hk hx HXS.out).mono ?_; intro e u3 lf; rw [HN.out] at lf; obtain ⟨val, rfl, nv, rd3, g3⟩ := lf
                     obtain ⟨v3, rfl, o3⟩ := nv
                     obtain ⟨a3, c33, rfl, _⟩ := Pt.Ow.rd o3
                     have hs3 := HS2.out.call g3 rd3
                     clear c1 f1 c3 cs0 cs1
                     have c0 := pb_cell0 hs3.pb
                     have f0 := pb_frozen0 hs3.pb
                     have c2 := pb_cell2 hs3.pb
                     have f2 := pb_frozen2 hs3.pb
                     have c3 := pb_cell3 hs3.pb
                     have hs4 := hs3.set (pb_set0 hs3.pb (.slice a3 ns.length c33))
                     have HS3 := hide (hs4.set (pb_set2 hs4.pb (.string (Pt.tg ns))))
                     have HO3 := hide (Ow.two (Ow.two o3 (set_grown u3 (w.heap.size + 2) 0 (.slice a3 ns.length c33)) hs3.pb (by decide)) (set_grown _ (w.heap.size + 2) 2 (.string (Pt.tg ns))) hs4.pb (by decide))
                     have HZ3 : Hid (w.heap.size ≤ (u2.setCell ⟨w.heap.size + 2, 1, none⟩ (.bool (3 == 2))).heap.size) := HS2.out.gr.size
                     clear hs3 hs4 rd3 g3 o3)
                  | (go_at_call 88; have zz := T2; clear T2 zz; refine (whole_any B q 1 1 127 r3 _ HS3.out.rd hr3 (by omega) (by omega)).mono ?_; intro e u4 lf; rw [HW3.out] at lf; obtain ⟨val, rfl, rfl, rd4, g4⟩ := lf
                     have HS4 := hide (HS3.out.call g4 rd4)
                     have HG4 := hide g4
                     have HO4 := hide (RdAt.ow HS3.out.rd HO3.out g4)
                     clear c0 f0 c2 f2 c3 rd4 g4)
                  | (go_at_call 70; refine (row_ok B q m r4 _ HS4.out.rd hr4 htk).mono ?_; rintro e u5 ⟨b5, o5, c5, rfl, rs5, _, _, _, rd5, g5⟩; rw [HBS.out] at rs5; have hcv := conv (some ⟨b5, o5, none⟩) m c5 bs u5 rs5; rw [HTN.out] at hcv
                     have hs5 := HS4.out.call g5 rd5
                     have k7 := pb_cell7 hs5.pb
                     have k7f := pb_frozen7 hs5.pb
                     have HS5 := hide (hs5.set (pb_set7 hs5.pb (.string tn)))
                     have HO5 := hide (Ow.two (RdAt.ow HS4.out.rd HO4.out g5) (set_grown u5 (w.heap.size + 2) 7 (.string tn)) hs5.pb (by decide))
                     clear rs5 rd5 g5 hs5)
                  | (go_at_call 53; refine (noneZero_any tn _ (by omega)).mono ?_; rintro e u6 ⟨rfl, b6⟩; rw [HZB.out]
                     have hs6 := HS5.out.call (grown_of b6 _) (HS5.out.rd.below b6)
                     have HS6 := hide hs6
                     have HB6 := hide b6
                     have HO6 := hide (Pt.Ow.below HO5.out b6)
                     clear hcv k7 k7f
                     have k0 := pb_cell0 hs6.pb
                     have k1 := pb_cell1 hs6.pb
                     have k2 := pb_cell2 hs6.pb
                     have k3 := pb_cell3 hs6.pb
                     have k4 := pb_cell4 hs6.pb
                     have k5 := pb_cell5 hs6.pb
                     have k6 := pb_cell6 hs6.pb
                     have k7 := pb_cell7 hs6.pb
                     have k8 := pb_cell8 hs6.pb
                     have k9 := pb_cell9 hs6.pb
                     have k8f := pb_frozen8 hs6.pb
                     have k9f := pb_frozen9 hs6.pb
                     have k7f := pb_frozen7 hs6.pb
                     have m0 := pb_cell0 hs6.rb
                     have m1 := pb_cell1 hs6.rb
                     have m2 := pb_cell2 hs6.rb
                     have m3 := pb_cell3 hs6.rb
                     have m4 := pb_cell4 hs6.rb
                     have m5 := pb_cell5 hs6.rb
                     have m6 := pb_cell6 hs6.rb
                     have m7 := pb_cell7 hs6.rb
                     have m8 := pb_cell8 hs6.rb
                     have m9 := pb_cell9 hs6.rb
                     have m0f := pb_frozen0 hs6.rb
                     have m1f := pb_frozen1 hs6.rb
                     have m2f := pb_frozen2 hs6.rb
                     have m3f := pb_frozen3 hs6.rb
                     have m4f := pb_frozen4 hs6.rb
                     have m5f := pb_frozen5 hs6.rb
                     have m6f := pb_frozen6 hs6.rb
                     have m7f := pb_frozen7 hs6.rb
                     have m8f := pb_frozen8 hs6.rb
                     have m9f := pb_frozen9 hs6.rb
                     clear b6 hs6)
                  | (go_at_call 73; refine (must_no _).mono ?_; rintro e u7 ⟨rfl, hu7⟩; rw [hu7]))
                exact ⟨rfl, left_err HP.out (grownBy_trans HS5.out.gr (grown_of HB6.out _))⟩
              | false =>
                have HP : Hid (pieceR xs k rest = .ok (⟨ns, 3, md, sp, tn, 0, []⟩, r4.drop m)) := by unfold Hid; rw [HP0.out, hz]; rfl
                have HZB := hide hz
                clear hz
                have T1 : Hid True := trivial
                go_enter Tryz.func74, Tryz.ntmps74
                go_wp2_with (first
                  | (go_at_call 88; have zz := T1; clear T1 zz; refine (whole_any B q 1 1 3 rest _ HS0.out.rd hl (by omega) (by omega)).mono ?_; intro e u1 lf; rw [HW.out] at lf; obtain ⟨val, rfl, rfl, rd1, g1⟩ := lf
                     have hs1 := HS0.out.call g1 rd1
                     have c3 := pb_cell3 hs1.pb
                     have f3 := pb_frozen3 hs1.pb
                     have HS1 := hide (hs1.set (pb_set3 hs1.pb (.int .i64 3)))
                     clear hs1 g1 rd1; have T2 : Hid True := trivial)
                  | (go_at_call 71; refine (mode_any B q (w.heap.size + 2) _ _ _ _ _ _ _ _ _ _ r1 _ HS1.out.rd hr1 HS1.out.pb (by have := HS0.out.lt; omega) (by omega)).mono ?_; intro e u2 lf; rw [HM.out] at lf; obtain ⟨rfl, rd2, pb2, t2⟩ := lf
                     have hs2 := HS1.out.two t2 rd2 pb2
                     clear c3 f3
                     have c1 := pb_cell1 hs2.pb
                     have f1 := pb_frozen1 hs2.pb
                     have c3 := pb_cell3 hs2.pb
                     obtain ⟨cs0, cs1⟩ := hs2.spot
                     have HS2 := hide (hs2.set (pb_set1 hs2.pb (.bool (3 == 2))))
                     clear hs2 rd2 pb2 t2)
                  | (go_at_call 90; refine (names_any B q (.slice a xs.length c) xs d k r2 _ HS2.out.rd hr2 (HV.out _ HS2.out.gr) hk hx HXS.out).mono ?_; intro e u3 lf; rw [HN.out] at lf; obtain ⟨val, rfl, nv, rd3, g3⟩ := lf
                     obtain ⟨v3, rfl, o3⟩ := nv
                     obtain ⟨a3, c33, rfl, _⟩ := Pt.Ow.rd o3
                     have hs3 := HS2.out.call g3 rd3
                     clear c1 f1 c3 cs0 cs1
                     have c0 := pb_cell0 hs3.pb
                     have f0 := pb_frozen0 hs3.pb
                     have c2 := pb_cell2 hs3.pb
                     have f2 := pb_frozen2 hs3.pb
                     have c3 := pb_cell3 hs3.pb
                     have hs4 := hs3.set (pb_set0 hs3.pb (.slice a3 ns.length c33))
                     have HS3 := hide (hs4.set (pb_set2 hs4.pb (.string (Pt.tg ns))))
                     have HO3 := hide (Ow.two (Ow.two o3 (set_grown u3 (w.heap.size + 2) 0 (.slice a3 ns.length c33)) hs3.pb (by decide)) (set_grown _ (w.heap.size + 2) 2 (.string (Pt.tg ns))) hs4.pb (by decide))
                     have HZ3 : Hid (w.heap.size ≤ (u2.setCell ⟨w.heap.size + 2, 1, none⟩ (.bool (3 == 2))).heap.size) := HS2.out.gr.size
                     clear hs3 hs4 rd3 g3 o3)
                  | (go_at_call 88; have zz := T2; clear T2 zz; refine (whole_any B q 1 1 127 r3 _ HS3.out.rd hr3 (by omega) (by omega)).mono ?_; intro e u4 lf; rw [HW3.out] at lf; obtain ⟨val, rfl, rfl, rd4, g4⟩ := lf
                     have HS4 := hide (HS3.out.call g4 rd4)
                     have HG4 := hide g4
                     have HO4 := hide (RdAt.ow HS3.out.rd HO3.out g4)
                     clear c0 f0 c2 f2 c3 rd4 g4)
                  | (go_at_call 70; refine (row_ok B q m r4 _ HS4.out.rd hr4 htk).mono ?_; rintro e u5 ⟨b5, o5, c5, rfl, rs5, _, _, _, rd5, g5⟩; rw [HBS.out] at rs5; have hcv := conv (some ⟨b5, o5, none⟩) m c5 bs u5 rs5; rw [HTN.out] at hcv
                     have hs5 := HS4.out.call g5 rd5
                     have k7 := pb_cell7 hs5.pb
                     have k7f := pb_frozen7 hs5.pb
                     have HS5 := hide (hs5.set (pb_set7 hs5.pb (.string tn)))
                     have HO5 := hide (Ow.two (RdAt.ow HS4.out.rd HO4.out g5) (set_grown u5 (w.heap.size + 2) 7 (.string tn)) hs5.pb (by decide))
                     clear rs5 rd5 g5 hs5)
                  | (go_at_call 53; refine (noneZero_any tn _ (by omega)).mono ?_; rintro e u6 ⟨rfl, b6⟩; rw [HZB.out]
                     have hs6 := HS5.out.call (grown_of b6 _) (HS5.out.rd.below b6)
                     have HS6 := hide hs6
                     have HB6 := hide b6
                     have HO6 := hide (Pt.Ow.below HO5.out b6)
                     clear hcv k7 k7f
                     have k0 := pb_cell0 hs6.pb
                     have k1 := pb_cell1 hs6.pb
                     have k2 := pb_cell2 hs6.pb
                     have k3 := pb_cell3 hs6.pb
                     have k4 := pb_cell4 hs6.pb
                     have k5 := pb_cell5 hs6.pb
                     have k6 := pb_cell6 hs6.pb
                     have k7 := pb_cell7 hs6.pb
                     have k8 := pb_cell8 hs6.pb
                     have k9 := pb_cell9 hs6.pb
                     have k8f := pb_frozen8 hs6.pb
                     have k9f := pb_frozen9 hs6.pb
                     have k7f := pb_frozen7 hs6.pb
                     have m0 := pb_cell0 hs6.rb
                     have m1 := pb_cell1 hs6.rb
                     have m2 := pb_cell2 hs6.rb
                     have m3 := pb_cell3 hs6.rb
                     have m4 := pb_cell4 hs6.rb
                     have m5 := pb_cell5 hs6.rb
                     have m6 := pb_cell6 hs6.rb
                     have m7 := pb_cell7 hs6.rb
                     have m8 := pb_cell8 hs6.rb
                     have m9 := pb_cell9 hs6.rb
                     have m0f := pb_frozen0 hs6.rb
                     have m1f := pb_frozen1 hs6.rb
                     have m2f := pb_frozen2 hs6.rb
                     have m3f := pb_frozen3 hs6.rb
                     have m4f := pb_frozen4 hs6.rb
                     have m5f := pb_frozen5 hs6.rb
                     have m6f := pb_frozen6 hs6.rb
                     have m7f := pb_frozen7 hs6.rb
                     have m8f := pb_frozen8 hs6.rb
                     have m9f := pb_frozen9 hs6.rb
                     clear b6 hs6)
                  | (go_at_call 73; refine (must_yes _).mono ?_; rintro e u7 ⟨rfl, hu7⟩; rw [hu7]; clear hu7))
                refine piece_end HP.out HS6.out rfl (Pt.Ow.lower HO6.out HZ3.out) (sgOn_nil _ _ _) (Nat.zero_le _) ?_ ?_ ?_
                · exact (pb_set9 (pb_set8 (pb_set7 (pb_set6 (pb_set5 (pb_set4 (pb_set3 (pb_set2 (pb_set1 (pb_set0 HS6.out.rb _) _) _) _) _) _) _) _) _) _)
                · exact (grownBy_trans (grownBy_trans (grownBy_trans (grownBy_trans (grownBy_trans (grownBy_trans (grownBy_trans (grownBy_trans (grownBy_trans (set_grown _ _ _ _) (set_grown _ _ _ _)) (set_grown _ _ _ _)) (set_grown _ _ _ _)) (set_grown _ _ _ _)) (set_grown _ _ _ _)) (set_grown _ _ _ _)) (set_grown _ _ _ _)) (set_grown _ _ _ _)) (set_grown _ _ _ _))
                · rfl
            · have HP : Hid (pieceR xs k rest = .error 190) := by unfold Hid pieceR; rw [HW.out]; simp only [HM.out, HN.out, targetR, HW3.out, Int.toNat_natCast, takeR, if_neg htk]; rfl
              have T1 : Hid True := trivial
              go_enter Tryz.func74, Tryz.ntmps74
              go_wp2_with (first
                | (go_at_call 88; have zz := T1; clear T1 zz; refine (whole_any B q 1 1 3 rest _ HS0.out.rd hl (by omega) (by omega)).mono ?_; intro e u1 lf; rw [HW.out] at lf; obtain ⟨val, rfl, rfl, rd1, g1⟩ := lf
                   have hs1 := HS0.out.call g1 rd1
                   have c3 := pb_cell3 hs1.pb
                   have f3 := pb_frozen3 hs1.pb
                   have HS1 := hide (hs1.set (pb_set3 hs1.pb (.int .i64 3)))
                   clear hs1 g1 rd1; have T2 : Hid True := trivial)
                | (go_at_call 71; refine (mode_any B q (w.heap.size + 2) _ _ _ _ _ _ _ _ _ _ r1 _ HS1.out.rd hr1 HS1.out.pb (by have := HS0.out.lt; omega) (by omega)).mono ?_; intro e u2 lf; rw [HM.out] at lf; obtain ⟨rfl, rd2, pb2, t2⟩ := lf
                   have hs2 := HS1.out.two t2 rd2 pb2
                   clear c3 f3
                   have c1 := pb_cell1 hs2.pb
                   have f1 := pb_frozen1 hs2.pb
                   have c3 := pb_cell3 hs2.pb
                   obtain ⟨cs0, cs1⟩ := hs2.spot
                   have HS2 := hide (hs2.set (pb_set1 hs2.pb (.bool (3 == 2))))
                   clear hs2 rd2 pb2 t2)
                | (go_at_call 90; refine (names_any B q (.slice a xs.length c) xs d k r2 _ HS2.out.rd hr2 (HV.out _ HS2.out.gr) hk hx HXS.out).mono ?_; intro e u3 lf; rw [HN.out] at lf; obtain ⟨val, rfl, nv, rd3, g3⟩ := lf
                   obtain ⟨v3, rfl, o3⟩ := nv
                   obtain ⟨a3, c33, rfl, _⟩ := Pt.Ow.rd o3
                   have hs3 := HS2.out.call g3 rd3
                   clear c1 f1 c3 cs0 cs1
                   have c0 := pb_cell0 hs3.pb
                   have f0 := pb_frozen0 hs3.pb
                   have c2 := pb_cell2 hs3.pb
                   have f2 := pb_frozen2 hs3.pb
                   have c3 := pb_cell3 hs3.pb
                   have hs4 := hs3.set (pb_set0 hs3.pb (.slice a3 ns.length c33))
                   have HS3 := hide (hs4.set (pb_set2 hs4.pb (.string (Pt.tg ns))))
                   have HO3 := hide (Ow.two (Ow.two o3 (set_grown u3 (w.heap.size + 2) 0 (.slice a3 ns.length c33)) hs3.pb (by decide)) (set_grown _ (w.heap.size + 2) 2 (.string (Pt.tg ns))) hs4.pb (by decide))
                   have HZ3 : Hid (w.heap.size ≤ (u2.setCell ⟨w.heap.size + 2, 1, none⟩ (.bool (3 == 2))).heap.size) := HS2.out.gr.size
                   clear hs3 hs4 rd3 g3 o3)
                | (go_at_call 88; have zz := T2; clear T2 zz; refine (whole_any B q 1 1 127 r3 _ HS3.out.rd hr3 (by omega) (by omega)).mono ?_; intro e u4 lf; rw [HW3.out] at lf; obtain ⟨val, rfl, rfl, rd4, g4⟩ := lf
                   have HS4 := hide (HS3.out.call g4 rd4)
                   have HG4 := hide g4
                   have HO4 := hide (RdAt.ow HS3.out.rd HO3.out g4)
                   clear c0 f0 c2 f2 c3 rd4 g4)
                | (go_at_call 70; refine (row_short B q m r4 _ HS4.out.rd hr4 (by omega) (by omega)).mono ?_; rintro e u5 ⟨rfl, hu5⟩; rw [hu5]))
              exact ⟨rfl, left_err HP.out (grownBy_trans HS3.out.gr HG4.out)⟩
end Go.Proofs.YtdiifegljonojaaGreatDoor
