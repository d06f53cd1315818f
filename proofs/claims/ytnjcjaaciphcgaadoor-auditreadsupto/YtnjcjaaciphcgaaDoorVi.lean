/-
  SEAT YtnjcjaaciphcgaaDoor: the reader's report.
-/
import Derived.Test.YtnjcjaaciphcgaaDoorVh
namespace Go.Proofs.YtnjcjaaciphcgaaDoor
open Go.RowKit Go.Sort
set_option linter.unusedVariables false

theorem own_two {q t B n : Nat} {v : Value} {xs : List Value} {a b : World} (h : a.ownsRow B 29 4 v n xs) (hb : Two q t a b) (hq : q < B) (ht : ∀ g, v.ownBlock = some g → g ≠ t) : b.ownsRow B 29 4 v n xs := by
  refine ⟨h.1, ?_⟩
  rcases h.2 with h2 | ⟨g, cap, cur, hv, hB, hg, hr⟩
  · exact Or.inl h2
  · refine Or.inr ⟨g, cap, cur, hv, hB, ?_, hr⟩
    rw [hb.block g (Array.getElem?_eq_some_iff.1 hg).1 (by omega) (ht g (by rw [hv]; rfl))]
    exact hg
theorem own_low {w : World} {B B' n : Nat} {v : Value} {xs : List Value} (h : w.ownsRow B 29 4 v n xs) (hb : B' ≤ B) : w.ownsRow B' 29 4 v n xs :=
  ⟨h.1, h.2.imp id fun ⟨g, c, cur, h1, h2, h3⟩ => ⟨g, c, cur, h1, Nat.le_trans hb h2, h3⟩⟩
theorem oneF (u : World) (G : Fd) : ReadsF (u.alloc (.cells #[.int .i64 G.k, .int .i64 G.b, .int .i64 G.p, .int .i64 G.o] 29)) (some ⟨u.heap.size, 0, none⟩) 1 [G] := by
  refine ⟨rfl, by simp, fun x hx i hi j hj => ?_⟩
  cases hx
  rw [plain_add, Nat.zero_add]
  have h9 := heap_alloc_new u (.cells #[.int .i64 G.k, .int .i64 G.b, .int .i64 G.p, .int .i64 G.o] 29)
  simp only [World.cell?, h9]
  match i, hi, j, hj with
  | 0, _, 0, _ => rfl
  | 0, _, 1, _ => rfl
  | 0, _, 2, _ => rfl
  | 0, _, 3, _ => rfl
def txLen (q : Nat) (w : World) : Nat := match w.cell? ⟨q, 0, none⟩ with
  | some (.string s) => s.size
  | _ => 0
theorem txLen_rda {q k : Nat} {l : List UInt8} {w : World} (h : RdA w q l k) : txLen q w = l.length := by
  unfold txLen
  rw [(rda_cells h).1]
  simp [ByteArray.size]
theorem rows_nil : rowsE [] = (some [], 0) := by unfold rowsE; rw [dif_pos rfl]
theorem rows_bad {L : List UInt8} (h : L ≠ []) (hf : fdOf L = none) : rowsE L = (none, 1) := by unfold rowsE; rw [dif_neg h, hf]
theorem rows_ok {L : List UInt8} {f : Fd} (h : L ≠ []) (hf : fdOf L = some f) : rowsE L = ((rowsE (nx L)).1.map (f :: ·), (rowsE (nx L)).2 + 1) := by conv => lhs; unfold rowsE; rw [dif_neg h, hf]

/-- Where the loop over the findings stands. -/
def LoopF (l6 : List UInt8) (n : Nat) (fs : List Fd) (L : List UInt8) : Bool → Prop
  | true => rowsE l6 = ((rowsE L).1.map (fs ++ ·), n + (rowsE L).2)
  | false => rowsE l6 = (none, n)
theorem loop_start (l6 : List UInt8) : LoopF l6 0 [] l6 true := by
  show rowsE l6 = _
  rw [Nat.zero_add]
  have : ((rowsE l6).1.map (fun x => ([] : List Fd) ++ x)) = (rowsE l6).1 := by cases (rowsE l6).1 <;> rfl
  rw [this]
theorem loop_next {l6 L : List UInt8} {n : Nat} {fs : List Fd} (h : LoopF l6 n fs L true) (hL : L ≠ []) (G : Fd) (hG : ∀ f, fdOf L = some f → G = f) : LoopF l6 (n + 1) (fs ++ [G]) (nx L) (fdOf L).isSome := by
  unfold LoopF at h
  cases hf : fdOf L with
  | none =>
    show rowsE l6 = _
    rw [h, rows_bad hL hf]
    rfl
  | some f =>
    show rowsE l6 = _
    rw [h, rows_ok hL hf, hG f hf]
    have : (rowsE (nx L)).2 + 1 = 1 + (rowsE (nx L)).2 := Nat.add_comm _ _
    simp only [this, Nat.add_assoc]
    cases (rowsE (nx L)).1 <;> simp

set_option maxHeartbeats 8000000 in
set_option maxRecDepth 100000 in
theorem rep_ok (q k : Nat) (l0 : List UInt8) (w : World) (hR : RdA w q l0 k) (hn0 : l0.length < 4294967281) (hk : k ≤ 100000000000) (ht : P10 w) (hv : EV w) (hq9 : 9 ≤ q) (hkw : KW w) (y0 : Nat) (h0 : flr l0 = some y0) (y1 : Int) (h1 : nb (nx l0) wC = some y1) (y2 : Int) (h2 : nb (nx (nx l0)) wL = some y2) (y3 : Int) (h3 : nb (nx (nx (nx l0))) wU = some y3) (y4 : Int) (h4 : nb (nx (nx (nx (nx l0)))) wB = some y4) (y5 : Bool) (h5 : sv (nx (nx (nx (nx (nx l0))))) = some y5) :
    Calls Tryd.prog 29 #[.pointer (some ⟨q, 0, none⟩)] w fun e w' => RepR q k w w' e (rp l0) := by
  have HF0 : Hid (rp l0 = ((rowsE (nx (nx (nx (nx (nx (nx l0))))))).1.map (fun fs => ⟨y0, y1, y2, y3, y4, y5, fs⟩), 6 + (rowsE (nx (nx (nx (nx (nx (nx l0))))))).2)) := by unfold Hid rp; simp only [h0, h1, h2, h3, h4, h5]
  have hqw : q < w.heap.size := (Array.getElem?_eq_some_iff.1 hR).1
  have hrb9 : 9 ≤ w.heap.size + 1 := by omega
  have hrbq : w.heap.size + 1 ≠ q := by omega
  have hraq : w.heap.size ≠ q := by omega
  have HBL : Hid (Below w.heap.size w ((w.alloc (.cells #[.int .u64 0, .int .i64 0, .int .i64 0, .int .i64 0, .int .i64 0, .bool false, .slice none 0 0] 25)).alloc (.cells #[.int .u64 0, .int .i64 0, .int .i64 0, .int .i64 0, .int .i64 0, .bool false, .slice none 0 0] 25))) := below_trans (below_alloc' w _) (below_alloc' _ _)
  have HR0 : Hid (RdA ((w.alloc (.cells #[.int .u64 0, .int .i64 0, .int .i64 0, .int .i64 0, .int .i64 0, .bool false, .slice none 0 0] 25)).alloc (.cells #[.int .u64 0, .int .i64 0, .int .i64 0, .int .i64 0, .int .i64 0, .bool false, .slice none 0 0] 25)) q l0 k) := by unfold Hid RdA; rw [HBL.out.block q hqw]; exact hR
  have HP : Hid (P10 ((w.alloc (.cells #[.int .u64 0, .int .i64 0, .int .i64 0, .int .i64 0, .int .i64 0, .bool false, .slice none 0 0] 25)).alloc (.cells #[.int .u64 0, .int .i64 0, .int .i64 0, .int .i64 0, .int .i64 0, .bool false, .slice none 0 0] 25))) := p10_below ht HBL.out
  have HV : Hid (EV ((w.alloc (.cells #[.int .u64 0, .int .i64 0, .int .i64 0, .int .i64 0, .int .i64 0, .bool false, .slice none 0 0] 25)).alloc (.cells #[.int .u64 0, .int .i64 0, .int .i64 0, .int .i64 0, .int .i64 0, .bool false, .slice none 0 0] 25))) := by
    obtain ⟨⟨tp, p, s⟩, ⟨tp', p', r⟩⟩ := hv
    exact ⟨⟨tp, p, var_two (q := q) (t := q) gSyn s (Two.of HBL.out) (by omega) (by omega)⟩, ⟨tp', p', var_two (q := q) (t := q) gRan r (Two.of HBL.out) (by omega) (by omega)⟩⟩
  have HA0 : Hid (((w.alloc (.cells #[.int .u64 0, .int .i64 0, .int .i64 0, .int .i64 0, .int .i64 0, .bool false, .slice none 0 0] 25)).alloc (.cells #[.int .u64 0, .int .i64 0, .int .i64 0, .int .i64 0, .int .i64 0, .bool false, .slice none 0 0] 25)).heap[w.heap.size]? = some (.cells #[.int .u64 0, .int .i64 0, .int .i64 0, .int .i64 0, .int .i64 0, .bool false, .slice none 0 0] 25 (0, 0))) := (Below.heap_alloc _ _ _ (by simp)).trans (heap_alloc_new w _)
  have HB0 : Hid (((w.alloc (.cells #[.int .u64 0, .int .i64 0, .int .i64 0, .int .i64 0, .int .i64 0, .bool false, .slice none 0 0] 25)).alloc (.cells #[.int .u64 0, .int .i64 0, .int .i64 0, .int .i64 0, .int .i64 0, .bool false, .slice none 0 0] 25)).heap[w.heap.size + 1]? = some (.cells #[.int .u64 0, .int .i64 0, .int .i64 0, .int .i64 0, .int .i64 0, .bool false, .slice none 0 0] 25 (0, 0))) := by
    have h9 := heap_alloc_new (w.alloc (.cells #[.int .u64 0, .int .i64 0, .int .i64 0, .int .i64 0, .int .i64 0, .bool false, .slice none 0 0] 25)) (.cells #[.int .u64 0, .int .i64 0, .int .i64 0, .int .i64 0, .int .i64 0, .bool false, .slice none 0 0] 25)
    rw [World.size_alloc] at h9
    exact h9
  have HX0 : Hid (Two q (w.heap.size + 1) ((w.alloc (.cells #[.int .u64 0, .int .i64 0, .int .i64 0, .int .i64 0, .int .i64 0, .bool false, .slice none 0 0] 25)).alloc (.cells #[.int .u64 0, .int .i64 0, .int .i64 0, .int .i64 0, .int .i64 0, .bool false, .slice none 0 0] 25)) ((w.alloc (.cells #[.int .u64 0, .int .i64 0, .int .i64 0, .int .i64 0, .int .i64 0, .bool false, .slice none 0 0] 25)).alloc (.cells #[.int .u64 0, .int .i64 0, .int .i64 0, .int .i64 0, .int .i64 0, .bool false, .slice none 0 0] 25))) := Two.refl _ _ _
  have HLW : Hid (w.heap.size + 2 ≤ ((w.alloc (.cells #[.int .u64 0, .int .i64 0, .int .i64 0, .int .i64 0, .int .i64 0, .bool false, .slice none 0 0] 25)).alloc (.cells #[.int .u64 0, .int .i64 0, .int .i64 0, .int .i64 0, .int .i64 0, .bool false, .slice none 0 0] 25)).heap.size) := by unfold Hid; simp
  obtain ⟨l1, hl1⟩ : ∃ l', nx l0 = l' := ⟨_, rfl⟩
  have hn1 : l1.length < 4294967281 := by have := nx_le l0; rw [hl1] at this; omega
  have HL0 : Hid (nx l0 = l1) := hl1
  obtain ⟨l2, hl2⟩ : ∃ l', nx l1 = l' := ⟨_, rfl⟩
  have hn2 : l2.length < 4294967281 := by have := nx_le l1; rw [hl2] at this; omega
  have HL1 : Hid (nx l1 = l2) := hl2
  obtain ⟨l3, hl3⟩ : ∃ l', nx l2 = l' := ⟨_, rfl⟩
  have hn3 : l3.length < 4294967281 := by have := nx_le l2; rw [hl3] at this; omega
  have HL2 : Hid (nx l2 = l3) := hl3
  obtain ⟨l4, hl4⟩ : ∃ l', nx l3 = l' := ⟨_, rfl⟩
  have hn4 : l4.length < 4294967281 := by have := nx_le l3; rw [hl4] at this; omega
  have HL3 : Hid (nx l3 = l4) := hl4
  obtain ⟨l5, hl5⟩ : ∃ l', nx l4 = l' := ⟨_, rfl⟩
  have hn5 : l5.length < 4294967281 := by have := nx_le l4; rw [hl5] at this; omega
  have HL4 : Hid (nx l4 = l5) := hl5
  obtain ⟨l6, hl6⟩ : ∃ l', nx l5 = l' := ⟨_, rfl⟩
  have hn6 : l6.length < 4294967281 := by have := nx_le l5; rw [hl6] at this; omega
  have HL5 : Hid (nx l5 = l6) := hl6
  have HO0 : Hid (flr l0 = some y0) := by have h8 := h0; exact h8
  have HO1 : Hid (nb l1 wC = some y1) := by have h8 := h1; rw [hl1] at h8; exact h8
  have HO2 : Hid (nb l2 wL = some y2) := by have h8 := h2; rw [hl1, hl2] at h8; exact h8
  have HO3 : Hid (nb l3 wU = some y3) := by have h8 := h3; rw [hl1, hl2, hl3] at h8; exact h8
  have HO4 : Hid (nb l4 wB = some y4) := by have h8 := h4; rw [hl1, hl2, hl3, hl4] at h8; exact h8
  have HO5 : Hid (sv l5 = some y5) := by have h8 := h5; rw [hl1, hl2, hl3, hl4, hl5] at h8; exact h8
  have HF : Hid (rp l0 = ((rowsE l6).1.map (fun fs => (⟨y0, y1, y2, y3, y4, y5, fs⟩ : Rp)), 6 + (rowsE l6).2)) := by have h8 := HF0.out; rw [hl1, hl2, hl3, hl4, hl5, hl6] at h8; exact h8
  have HK : Hid (KW ((w.alloc (.cells #[.int .u64 0, .int .i64 0, .int .i64 0, .int .i64 0, .int .i64 0, .bool false, .slice none 0 0] 25)).alloc (.cells #[.int .u64 0, .int .i64 0, .int .i64 0, .int .i64 0, .int .i64 0, .bool false, .slice none 0 0] 25))) := hkw.below HBL.out
  have HG0 : Hid (∀ u : World, Two q q w u → P10 u ∧ EV u ∧ KW u) := fun u hu => ⟨p10_two ht hu hq9 hq9, hv.two hu hq9 hq9, hkw.two hu hq9 hq9⟩
  clear hR ht hv hkw HF0 h0 h1 h2 h3 h4 h5 hl1 hl2 hl3 hl4 hl5 hl6
  go_enter Tryd.func29, Tryd.ntmps29
  go_wp2_with (first
    | (go_at_call 39; have zz := HR5; clear zz; refine (saved_any q (k + 5) (w.heap.size + 1) 5 l5 _ _ _ HR5.out (by omega) (by omega) HB5.out (by simp) hrbq).mono ?_; rintro e t6 ⟨v5, he1, hcs, hb, hr, tw⟩
       have he2 : e = .returned (.bool true) := he1.trans (by rw [show sv l5 = _ from HO5.out]; rfl)
       clear he1
       subst he2
       rw [hcs _ HO5.out] at hb
       clear hcs
       have HB6 : Hid (t6.heap[w.heap.size + 1]? = some (.cells #[.int .u64 (y0 : Int), .int .i64 y1, .int .i64 y2, .int .i64 y3, .int .i64 y4, .bool y5, .slice none 0 0] 25 (0, 0))) := hb
       have HR6 : Hid (RdA t6 q l6 (k + 6)) := by unfold Hid; rw [← HL5.out]; exact hr
       have HX6 : Hid (Two q (w.heap.size + 1) ((w.alloc (.cells #[.int .u64 0, .int .i64 0, .int .i64 0, .int .i64 0, .int .i64 0, .bool false, .slice none 0 0] 25)).alloc (.cells #[.int .u64 0, .int .i64 0, .int .i64 0, .int .i64 0, .int .i64 0, .bool false, .slice none 0 0] 25)) t6) := HX5.out.trans tw
       clear hb hr tw)
    | (go_at_call 38; have zz := HR4; clear zz; refine (number_any q (k + 4) (w.heap.size + 1) 4 l4 [98, 97, 100] _ _ _ HR4.out (by omega) (by omega) HB4.out (by simp) 0 rfl (p10_two HP.out HX4.out hq9 hrb9) (HV.out.two HX4.out hq9 hrb9) hrb9 hq9 hrbq).mono ?_; rintro e t5 ⟨v4, he1, hcs, hb, hr, tw⟩
       have he2 : e = .returned (.bool true) := he1.trans (by rw [show nb l4 [98, 97, 100] = _ from HO4.out]; rfl)
       clear he1
       subst he2
       rw [hcs _ HO4.out] at hb
       clear hcs
       have HB5 : Hid (t5.heap[w.heap.size + 1]? = some (.cells #[.int .u64 (y0 : Int), .int .i64 y1, .int .i64 y2, .int .i64 y3, .int .i64 y4, .bool false, .slice none 0 0] 25 (0, 0))) := hb
       have HR5 : Hid (RdA t5 q l5 (k + 5)) := by unfold Hid; rw [← HL4.out]; exact hr
       have HX5 : Hid (Two q (w.heap.size + 1) ((w.alloc (.cells #[.int .u64 0, .int .i64 0, .int .i64 0, .int .i64 0, .int .i64 0, .bool false, .slice none 0 0] 25)).alloc (.cells #[.int .u64 0, .int .i64 0, .int .i64 0, .int .i64 0, .int .i64 0, .bool false, .slice none 0 0] 25)) t5) := HX4.out.trans tw
       clear hb hr tw)
    | (go_at_call 38; have zz := HR3; clear zz; refine (number_any q (k + 3) (w.heap.size + 1) 3 l3 [117, 115, 101, 100] _ _ _ HR3.out (by omega) (by omega) HB3.out (by simp) 0 rfl (p10_two HP.out HX3.out hq9 hrb9) (HV.out.two HX3.out hq9 hrb9) hrb9 hq9 hrbq).mono ?_; rintro e t4 ⟨v3, he1, hcs, hb, hr, tw⟩
       have he2 : e = .returned (.bool true) := he1.trans (by rw [show nb l3 [117, 115, 101, 100] = _ from HO3.out]; rfl)
       clear he1
       subst he2
       rw [hcs _ HO3.out] at hb
       clear hcs
       have HB4 : Hid (t4.heap[w.heap.size + 1]? = some (.cells #[.int .u64 (y0 : Int), .int .i64 y1, .int .i64 y2, .int .i64 y3, .int .i64 0, .bool false, .slice none 0 0] 25 (0, 0))) := hb
       have HR4 : Hid (RdA t4 q l4 (k + 4)) := by unfold Hid; rw [← HL3.out]; exact hr
       have HX4 : Hid (Two q (w.heap.size + 1) ((w.alloc (.cells #[.int .u64 0, .int .i64 0, .int .i64 0, .int .i64 0, .int .i64 0, .bool false, .slice none 0 0] 25)).alloc (.cells #[.int .u64 0, .int .i64 0, .int .i64 0, .int .i64 0, .int .i64 0, .bool false, .slice none 0 0] 25)) t4) := HX3.out.trans tw
       clear hb hr tw)
    | (go_at_call 38; have zz := HR2; clear zz; refine (number_any q (k + 2) (w.heap.size + 1) 2 l2 [108, 105, 118, 101] _ _ _ HR2.out (by omega) (by omega) HB2.out (by simp) 0 rfl (p10_two HP.out HX2.out hq9 hrb9) (HV.out.two HX2.out hq9 hrb9) hrb9 hq9 hrbq).mono ?_; rintro e t3 ⟨v2, he1, hcs, hb, hr, tw⟩
       have he2 : e = .returned (.bool true) := he1.trans (by rw [show nb l2 [108, 105, 118, 101] = _ from HO2.out]; rfl)
       clear he1
       subst he2
       rw [hcs _ HO2.out] at hb
       clear hcs
       have HB3 : Hid (t3.heap[w.heap.size + 1]? = some (.cells #[.int .u64 (y0 : Int), .int .i64 y1, .int .i64 y2, .int .i64 0, .int .i64 0, .bool false, .slice none 0 0] 25 (0, 0))) := hb
       have HR3 : Hid (RdA t3 q l3 (k + 3)) := by unfold Hid; rw [← HL2.out]; exact hr
       have HX3 : Hid (Two q (w.heap.size + 1) ((w.alloc (.cells #[.int .u64 0, .int .i64 0, .int .i64 0, .int .i64 0, .int .i64 0, .bool false, .slice none 0 0] 25)).alloc (.cells #[.int .u64 0, .int .i64 0, .int .i64 0, .int .i64 0, .int .i64 0, .bool false, .slice none 0 0] 25)) t3) := HX2.out.trans tw
       clear hb hr tw)
    | (go_at_call 38; have zz := HR1; clear zz; refine (number_any q (k + 1) (w.heap.size + 1) 1 l1 [99, 111, 117, 110, 116, 101, 100] _ _ _ HR1.out (by omega) (by omega) HB1.out (by simp) 0 rfl (p10_two HP.out HX1.out hq9 hrb9) (HV.out.two HX1.out hq9 hrb9) hrb9 hq9 hrbq).mono ?_; rintro e t2 ⟨v1, he1, hcs, hb, hr, tw⟩
       have he2 : e = .returned (.bool true) := he1.trans (by rw [show nb l1 [99, 111, 117, 110, 116, 101, 100] = _ from HO1.out]; rfl)
       clear he1
       subst he2
       rw [hcs _ HO1.out] at hb
       clear hcs
       have HB2 : Hid (t2.heap[w.heap.size + 1]? = some (.cells #[.int .u64 (y0 : Int), .int .i64 y1, .int .i64 0, .int .i64 0, .int .i64 0, .bool false, .slice none 0 0] 25 (0, 0))) := hb
       have HR2 : Hid (RdA t2 q l2 (k + 2)) := by unfold Hid; rw [← HL1.out]; exact hr
       have HX2 : Hid (Two q (w.heap.size + 1) ((w.alloc (.cells #[.int .u64 0, .int .i64 0, .int .i64 0, .int .i64 0, .int .i64 0, .bool false, .slice none 0 0] 25)).alloc (.cells #[.int .u64 0, .int .i64 0, .int .i64 0, .int .i64 0, .int .i64 0, .bool false, .slice none 0 0] 25)) t2) := HX1.out.trans tw
       clear hb hr tw)
    | (go_at_call 37; have zz := HR0; clear zz; refine (floor_any q k (w.heap.size + 1) 0 l0 _ _ _ HR0.out (by omega) (by omega) HB0.out (by simp) (p10_two HP.out HX0.out hq9 hrb9) (HV.out.two HX0.out hq9 hrb9) hrb9 hq9 hrbq).mono ?_; rintro e t1 ⟨v0, he1, hcs, hb, hr, tw⟩
       have he2 : e = .returned (.bool true) := he1.trans (by rw [show flr l0 = _ from HO0.out]; rfl)
       clear he1
       subst he2
       rw [hcs _ HO0.out] at hb
       clear hcs
       have HB1 : Hid (t1.heap[w.heap.size + 1]? = some (.cells #[.int .u64 (y0 : Int), .int .i64 0, .int .i64 0, .int .i64 0, .int .i64 0, .bool false, .slice none 0 0] 25 (0, 0))) := hb
       have HR1 : Hid (RdA t1 q l1 (k + 1)) := by unfold Hid; rw [← HL0.out]; exact hr
       have HX1 : Hid (Two q (w.heap.size + 1) ((w.alloc (.cells #[.int .u64 0, .int .i64 0, .int .i64 0, .int .i64 0, .int .i64 0, .bool false, .slice none 0 0] 25)).alloc (.cells #[.int .u64 0, .int .i64 0, .int .i64 0, .int .i64 0, .int .i64 0, .bool false, .slice none 0 0] 25)) t1) := HX0.out.trans tw
       clear hb hr tw))
  have HTW : Hid (Two q q w t6) := (Two.of HBL.out).past HX6.out (by omega)
  have HA6 : Hid (t6.heap[w.heap.size]? = some (.cells #[.int .u64 0, .int .i64 0, .int .i64 0, .int .i64 0, .int .i64 0, .bool false, .slice none 0 0] 25 (0, 0))) := (HX6.out.block _ (Array.getElem?_eq_some_iff.1 HA0.out).1 (by omega) (by omega)).trans HA0.out
  have HS6 : Hid (w.heap.size + 2 ≤ t6.heap.size) := Nat.le_trans HLW.out HX6.out.size
  have HG : Hid (∀ u : World, Two q q w u → P10 u ∧ EV u ∧ KW u) := HG0.out
  clear HR0 HR1 HR2 HR3 HR4 HR5 HX0 HX1 HX2 HX3 HX4 HX5 HX6 HB0 HB1 HB2 HB3 HB4 HB5 HP HV HK HA0 HBL HL0 HL1 HL2 HL3 HL4 HL5 HO0 HO1 HO2 HO3 HO4 HO5 HLW
  go_loopw [5] (fun s5 wr => ∃ (n : Nat) (fs : List Fd) (L : List UInt8) (v : Value) (ok : Bool), s5 = .bool ok ∧ n + L.length ≤ l6.length ∧ Hid (LoopF l6 n fs L ok) ∧ Hid (fs.length = n) ∧ Hid (wr.heap[w.heap.size + 1]? = some (.cells #[.int .u64 (y0 : Int), .int .i64 y1, .int .i64 y2, .int .i64 y3, .int .i64 y4, .bool y5, v] 25 (0, 0))) ∧ Hid (wr.ownsRow (w.heap.size + 2) 29 4 v n (flatF fs)) ∧ Hid (RdA wr q L (k + (6 + n))) ∧ Hid (Two q q w wr) ∧ Hid (wr.heap[w.heap.size]? = some (.cells #[.int .u64 0, .int .i64 0, .int .i64 0, .int .i64 0, .int .i64 0, .bool false, .slice none 0 0] 25 (0, 0))) ∧ Hid (w.heap.size + 2 ≤ wr.heap.size)) (fun _ wr => txLen q wr)
  case atStart => exact ⟨0, [], l6, _, true, rfl, by omega, loop_start l6, rfl, HB6.out, World.ownsRow_nil _ _ _ _, HR6.out, HTW.out, HA6.out, HS6.out⟩
  case round =>
    clear HB6 HR6 HTW HA6 HS6
    obtain ⟨n, fs, L, v, ok, rfl, hnL, HLF, HFS, HB, HOW, HR, HTW, HA, HS⟩ := hrel
    obtain ⟨a, c, rfl, hrd⟩ := ownF_reads HOW.out
    cases ok with
    | false =>
      have HE : Hid (rp l0 = (none, 6 + n)) := by unfold Hid; rw [HF.out, show rowsE l6 = _ from HLF.out]; rfl
      obtain ⟨e0, e1, e2, e3, e4, e5, e6⟩ := cells7 HB.out
      obtain ⟨r0, r1, r2, r3, r4, r5, r6⟩ := cells7 HA.out
      have rf := frozen7 HA.out
      have rf0 := rf 0
      have rf1 := rf 1
      have rf2 := rf 2
      have rf3 := rf 3
      have rf4 := rf 4
      have rf5 := rf 5
      have rf6 := rf 6
      clear rf HLF HF hrd
      go_wp2_with fail
      exact bodyPost_ret (v := .tuple #[.agg #[.int .u64 (y0 : Int), .int .i64 y1, .int .i64 y2, .int .i64 y3, .int .i64 y4, .bool y5, .slice a n c], .bool false]) (by obtain ⟨z0, z1, z2, z3, z4, z5, z6⟩ := cells7 (blk7_set HA.out (.int .u64 (y0 : Int)) (.int .i64 y1) (.int .i64 y2) (.int .i64 y3) (.int .i64 y4) (.bool y5) (.slice a n c)); simp [results, Tryd.results29, go_sem, z0, z1, z2, z3, z4, z5, z6]) rfl ⟨(y0 : Int), y1, y2, y3, y4, y5, a, n, c, by rw [HE.out]; rfl, fun r hr => (by rw [HE.out] at hr; cases hr), ⟨L, by rw [HE.out]; exact rda_grown HR.out (grown7 _ _ _ _ _ _ _ _ _) (fun h => hraq h.symm)⟩, HTW.out.grow (grown7 _ _ _ _ _ _ _ _ _) (fun i hi => by cases hi; exact Nat.le_refl _)⟩
    | true =>
      obtain ⟨q0, q1, q2, q3⟩ := rda_cells HR.out
      by_cases hL : L = []
      · subst hL
        have HE : Hid (rp l0 = (some ⟨y0, y1, y2, y3, y4, y5, fs⟩, 6 + n)) := by unfold Hid; rw [HF.out, show rowsE l6 = _ from HLF.out, rows_nil]; simp
        obtain ⟨e0, e1, e2, e3, e4, e5, e6⟩ := cells7 HB.out
        obtain ⟨r0, r1, r2, r3, r4, r5, r6⟩ := cells7 HA.out
        have rf := frozen7 HA.out
        have rf0 := rf 0
        have rf1 := rf 1
        have rf2 := rf 2
        have rf3 := rf 3
        have rf4 := rf 4
        have rf5 := rf 5
        have rf6 := rf 6
        clear rf HLF HF hrd
        go_wp2_with fail
        refine bodyPost_ret (v := .tuple #[.agg #[.int .u64 (y0 : Int), .int .i64 y1, .int .i64 y2, .int .i64 y3, .int .i64 y4, .bool y5, .slice a n c], .bool true]) (by obtain ⟨z0, z1, z2, z3, z4, z5, z6⟩ := cells7 (blk7_set HA.out (.int .u64 (y0 : Int)) (.int .i64 y1) (.int .i64 y2) (.int .i64 y3) (.int .i64 y4) (.bool y5) (.slice a n c)); simp [results, Tryd.results29, go_sem, z0, z1, z2, z3, z4, z5, z6]) rfl ⟨(y0 : Int), y1, y2, y3, y4, y5, a, n, c, by rw [HE.out]; rfl, fun r hr => ?_, ⟨[], by rw [HE.out]; exact rda_grown HR.out (grown7 _ _ _ _ _ _ _ _ _) (fun h => hraq h.symm)⟩, HTW.out.grow (grown7 _ _ _ _ _ _ _ _ _) (fun i hi => by cases hi; exact Nat.le_refl _)⟩
        rw [HE.out] at hr
        obtain rfl := Option.some.inj hr
        refine ⟨rfl, rfl, rfl, rfl, rfl, rfl, ?_, own_low (HOW.out.kept (grown7 _ w.heap.size _ _ _ _ _ _ _) (Or.inr (fun e => by have := (HOW.out.lt _ e).1; omega))) (by omega)⟩
        obtain ⟨a', c', hv, hrd⟩ := ownF_reads (HOW.out.kept (grown7 _ w.heap.size _ _ _ _ _ _ _) (Or.inr (fun e => by have := (HOW.out.lt _ e).1; omega)))
        injection hv with hv1 hv2 hv3
        subst hv1
        exact hrd
      · have hLe := emp_ne hL
        have HLL := nx_lt hL
        have hfr : wr.heap.size ≠ q := by have := (Array.getElem?_eq_some_iff.1 HR.out).1; omega
        have hww : w.heap.size + 2 ≤ wr.heap.size := HS.out
        have HZ : Hid ((wr.alloc (.cells #[.int .i64 0, .int .i64 0, .int .i64 0, .int .i64 0] 29)).heap[wr.heap.size]? = some (.cells #[.int .i64 0, .int .i64 0, .int .i64 0, .int .i64 0] 29 (0, 0))) := heap_alloc_new _ _
        have HBL : Hid (Below wr.heap.size wr (wr.alloc (.cells #[.int .i64 0, .int .i64 0, .int .i64 0, .int .i64 0] 29))) := below_alloc' _ _
        have HT0 : Hid (Two q q w (wr.alloc (.cells #[.int .i64 0, .int .i64 0, .int .i64 0, .int .i64 0] 29))) := HTW.out.trans (Two.of HBL.out)
        obtain ⟨p1, p2, p3⟩ := HG.out _ HT0.out
        have HFD := finding_any q (k + (6 + n)) wr.heap.size L ⟨0, 0, 0, 0⟩ _ (by unfold RdA; rw [HBL.out.block q (Array.getElem?_eq_some_iff.1 HR.out).1]; exact HR.out) (by omega) (by omega) HZ.out p1 p2 p3 (by omega) hq9 hfr
        have HLN : Hid (∀ G : Fd, (∀ f, fdOf L = some f → G = f) → LoopF l6 (n + 1) (fs ++ [G]) (nx L) (fdOf L).isSome) := fun G hG => loop_next HLF.out hL G hG
        obtain ⟨okn, hokn⟩ : ∃ okn, (fdOf L).isSome = okn := ⟨_, rfl⟩
        rw [hokn] at HFD HLN
        have hfsl : (fs.length : Nat) = n := HFS.out
        have HFS2 : Hid (∀ G : Fd, (fs ++ [G]).length = n + 1) := fun G => by rw [List.length_append, hfsl]; rfl
        have hlen6 : n + 1 + (nx L).length ≤ l6.length := by omega
        have hn1 : n + 1 ≤ 4000000000000 := by omega
        obtain ⟨L2, hL2⟩ : ∃ L2, nx L = L2 := ⟨_, rfl⟩
        have HFD2 : Calls Tryd.prog 40 #[.pointer (some ⟨q, 0, none⟩), .pointer (some ⟨wr.heap.size, 0, none⟩)] (wr.alloc (.cells #[.int .i64 0, .int .i64 0, .int .i64 0, .int .i64 0] 29)) fun e w' => ∃ G : Fd, e = .returned (.bool okn) ∧ Hid (LoopF l6 (n + 1) (fs ++ [G]) L2 okn) ∧ Hid (w'.heap[wr.heap.size]? = some (.cells #[.int .i64 G.k, .int .i64 G.b, .int .i64 G.p, .int .i64 G.o] 29 (0, 0))) ∧ Hid (RdA w' q L2 (k + (6 + (n + 1)))) ∧ Hid (Two q wr.heap.size (wr.alloc (.cells #[.int .i64 0, .int .i64 0, .int .i64 0, .int .i64 0] 29)) w') :=
          HFD.mono fun e w' ⟨G, he, hG, hb, hr, tw⟩ => ⟨G, he, by have h8 := HLN.out G hG; rw [hL2] at h8; exact h8, hb, by rw [← hL2]; exact hr, tw⟩
        rw [hL2] at hlen6 HLL
        have hms : L2.length < txLen q wr := by rw [txLen_rda HR.out]; exact HLL
        clear HFD HLN hokn hL2 p1 p2 p3 HLF HF HFS hfsl hrd HLL
        go_upto_region 6 with (first
          | (go_at_call 40; refine HFD2.mono ?_; rintro e t1 ⟨G, rfl, HLF1, HGB, HR1, HT1⟩))
        have HB1 : Hid (t1.heap[w.heap.size + 1]? = some (.cells #[.int .u64 (y0 : Int), .int .i64 y1, .int .i64 y2, .int .i64 y3, .int .i64 y4, .bool y5, .slice a n c] 25 (0, 0))) := (HT1.out.block _ (by have := (Array.getElem?_eq_some_iff.1 HB.out).1; simp; omega) hrbq (by omega)).trans ((HBL.out.block _ (Array.getElem?_eq_some_iff.1 HB.out).1).trans HB.out)
        have HA1 : Hid (t1.heap[w.heap.size]? = some (.cells #[.int .u64 0, .int .i64 0, .int .i64 0, .int .i64 0, .int .i64 0, .bool false, .slice none 0 0] 25 (0, 0))) := (HT1.out.block _ (by have := (Array.getElem?_eq_some_iff.1 HA.out).1; simp; omega) hraq (by omega)).trans ((HBL.out.block _ (Array.getElem?_eq_some_iff.1 HA.out).1).trans HA.out)
        have HO1 : Hid (t1.ownsRow (w.heap.size + 2) 29 4 (.slice a n c) n (flatF fs)) := own_two (HOW.out.alloc _) HT1.out (by omega) (fun g hg => by have := (HOW.out.lt g hg).2; omega)
        have HTW1 : Hid (Two q q w t1) := HT0.out.past HT1.out (by omega)
        have HS1 : Hid (w.heap.size + 2 ≤ t1.heap.size) := by have h8 := HT1.out.size; unfold Hid; simp at h8; omega
        obtain ⟨e0, e1, e2, e3, e4, e5, e6⟩ := cells7 HB1.out
        obtain ⟨g0, g1, g2, g3⟩ := cells4 HGB.out
        clear e0 e1 e2 e3 e4 e5 HBL HZ HT0 HT1 HFD2 HB HOW HR HTW HA HS q0 q1 q2 q3 hLe
        have HS1' : w.heap.size + 2 ≤ t1.heap.size := HS1.out
        go_wp2_with (first
          | (at_builtin; refine wpList_append_F rfl (.tmp 46) (.tmp 48) rfl (w.heap.size + 2) _ n fs rfl (HO1.out.alloc _) _ 1 1 [G] rfl (oneF t1 G) hn1 (by simp; omega) ?_; intro v3 t3 own3 grow3
             have HO3 : Hid (t3.ownsRow (w.heap.size + 2) 29 4 v3 (n + 1) (flatF (fs ++ [G]))) := own3
             have hob : ∀ i, (Value.slice a n c).ownBlock = some i → w.heap.size + 2 ≤ i := fun i hi => (HO1.out.lt i hi).1
             have grow4 : t1.grownBy t3 (Value.slice a n c).ownBlock := ⟨grow3.os, grow3.tape, grow3.output, Nat.le_trans (by simp) grow3.size, fun i hi hne => (grow3.block i (by simp; omega) hne).trans (Below.heap_alloc _ _ _ hi)⟩
             have HB3 : Hid (t3.heap[w.heap.size + 1]? = some (.cells #[.int .u64 (y0 : Int), .int .i64 y1, .int .i64 y2, .int .i64 y3, .int .i64 y4, .bool y5, .slice a n c] 25 (0, 0))) := (grow4.block _ (Array.getElem?_eq_some_iff.1 HB1.out).1 (fun e => by have := hob _ e.symm; omega)).trans HB1.out
             have HA3 : Hid (t3.heap[w.heap.size]? = some (.cells #[.int .u64 0, .int .i64 0, .int .i64 0, .int .i64 0, .int .i64 0, .bool false, .slice none 0 0] 25 (0, 0))) := (grow4.block _ (Array.getElem?_eq_some_iff.1 HA1.out).1 (fun e => by have := hob _ e.symm; omega)).trans HA1.out
             have HR3 : Hid (RdA t3 q L2 (k + (6 + (n + 1)))) := (grow4.block _ (Array.getElem?_eq_some_iff.1 HR1.out).1 (fun e => by have := hob _ e.symm; omega)).trans HR1.out
             have HTW3 : Hid (Two q q w t3) := HTW1.out.grow grow4 (fun i hi => by have := hob i hi; omega)
             have HS3 : Hid (w.heap.size + 2 ≤ t3.heap.size) := Nat.le_trans HS1' grow4.size
             obtain ⟨g9, cp, rfl, hcp1, hcp2, hg91, hg92⟩ := own_shapeF HO3.out (by omega)
             obtain ⟨d0, d1, d2, d3, d4, d5, d6⟩ := cells7 HB3.out
             have fz := frozen7 HB3.out 6
             clear own3 grow3 grow4 hob e6 g0 g1 g2 g3 d0 d1 d2 d3 d4 d5))
        have HB4 : Hid ((t3.setCell ⟨w.heap.size + 1, 6, none⟩ (.slice (some ⟨g9, 0, none⟩) (n + 1) cp)).heap[w.heap.size + 1]? = some (.cells #[.int .u64 (y0 : Int), .int .i64 y1, .int .i64 y2, .int .i64 y3, .int .i64 y4, .bool y5, .slice (some ⟨g9, 0, none⟩) (n + 1) cp] 25 (0, 0))) := Joins.block_setCell HB3.out _
        have gS := set_grown t3 (w.heap.size + 1) 6 (.slice (some ⟨g9, 0, none⟩) (n + 1) cp)
        go_roundw
        case rel => exact ⟨n + 1, fs ++ [G], L2, _, okn, rfl, hlen6, HLF1.out, HFS2.out G, HB4.out, HO3.out.kept gS (Or.inr (fun e => by have := (HO3.out.lt _ e).1; omega)), rda_grown HR3.out gS (by omega), HTW3.out.grow gS (fun i hi => by cases hi; omega), (gS.block _ (Array.getElem?_eq_some_iff.1 HA3.out).1 (fun e => by have := Option.some.inj e; omega)).trans HA3.out, by have h8 := HS3.out; unfold Hid; simp; omega⟩
        case measure => rw [txLen_rda (rda_grown HR3.out gS (by omega))]; exact hms

end Go.Proofs.YtnjcjaaciphcgaaDoor
