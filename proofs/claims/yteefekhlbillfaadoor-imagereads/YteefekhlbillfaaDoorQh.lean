/-
  SEAT YteefekhlbillfaaDoor: ImageReads, walked.
-/
import Derived.Test.YteefekhlbillfaaDoorQg
import Derived.Test.YteefekhlbillfaaDoorSa
namespace Go.Proofs.YteefekhlbillfaaDoor
open Go.RowKit
set_option linter.unusedVariables false

set_option maxHeartbeats 400000 in
set_option maxRecDepth 100000 in
theorem roomy_wide (a : Option Addr) (l cap : Nat) (zs : List Int) (w : World) (hl : l ≤ 140737488355000) (h : Reads w a l zs) :
    Calls Tryd.prog 8 #[.slice a l cap] w fun e w' => ∃ g c, e = .returned (.slice (some ⟨g, 0, none⟩) (l + 70) c) ∧ Own w' w.heap.size g (l + 70) c (room zs 70) ∧ Below w.heap.size w w' := by
  obtain ⟨i0, hi, hz0, hz1, hz2⟩ := info_parts info5
  have hlen := h.1
  have hmk : ∀ u : World, (Instr.makeSlice 22 (.int .i64 0) (.int .i64 ((l : Int) + 70))).run Tryd.prog u =
      .ok (.slice (some ⟨u.heap.size, 0, none⟩) 0 (l + 70)) (u.alloc (.cells (madeCells #[.int .u8 0] (l + 70)) 5)) := fun u => by
    have h := run_make (P := Tryd.prog) u 22 5 i0 (.int .u8 0) Tryd.underlying22 hi hz0 .i64 .i64 0 ((l : Int) + 70) (by omega) (by omega) (by rw [hz2]; omega) (by omega)
    have e : ((l : Int) + 70).toNat = l + 70 := by omega
    rw [e] at h
    simpa [hz1, Value.cells] using h
  have hm0 := made_own w (l + 70) (by omega)
  have rA := h.below ((Below.refl w.heap.size w).alloc (Nat.le_refl _) (.cells (madeCells #[.int .u8 0] (l + 70)) 5))
  go_enter Tryd.func8, Tryd.ntmps8
  go_wp2_with (at_builtin; refine wpList_append_reads rfl (.tmp 9) (.tmp 10) rfl w.heap.size _ _ [] rfl hm0 _ _ _ zs rfl rA (by omega) (by simp) ?_; intro v1 w1 hown1 hgrow1; simp only [Nat.zero_add, List.nil_append] at hown1)
  have bel1 : Below w.heap.size w w1 := ((Below.refl w.heap.size w).alloc (Nat.le_refl _) _).grown hgrow1 (by simp) (fun k hk => (World.ownsRow.lt hm0 k hk).1)
  go_loopw [3, 4] (fun v i wr => ∃ k : Nat, k ≤ 70 ∧ i = .int .i64 k ∧ wr.ownsRow w.heap.size 5 1 v (l + k) ((room zs k).map (Value.int .u8)) ∧ Below w.heap.size w wr)
    (fun _ i _ => 70 - (intOf i).toNat)
  case atStart => exact ⟨0, by omega, rfl, by simpa [room] using hown1, bel1⟩
  case round =>
    rename_i v wr
    obtain ⟨k, hk, rfl, hown, hbel⟩ := hrel
    by_cases hlt : k < 70
    · clear hown1 hgrow1
      go_wp2_with (
        (at_builtin; refine wpList_append_own _ rfl _ _ 22 rfl w.heap.size 5 i0 (.int .u8 0) 1 1 Tryd.underlying22 hi hz0 hz1 hz2 rfl (by decide) _ _ _ rfl (hown.alloc _) ⟨_, 0, none⟩ 1 1 [.int .u8 92] rfl rfl (news_one _ _) (by simp [Value.oneCell']) (by simp [maxLen]; omega) (by omega) (by have := hbel.size; simp; omega) ?_; intro v2 w2 hown2 hgrow2 _))
      have hown3 : w2.ownsRow w.heap.size 5 1 v2 (l + (k + 1)) ((room zs (k + 1)).map (Value.int .u8)) := by
        rw [room_succ, List.map_append]
        exact hown2
      have hbel3 := (hbel.alloc hbel.size _).grown hgrow2 (by have := hbel.size; simp; omega) (fun k hk => (hown.lt k hk).1)
      clear hown2 hgrow2 hown
      go_wp2
      go_roundw
      case rel => exact ⟨k + 1, by omega, by go_num, hown3, hbel3⟩
      case measure => simp [intOf]; omega
    · have hk7 : k = 70 := by omega
      subst hk7
      obtain ⟨g, c, rfl, _⟩ := own_shape hown (by omega)
      go_wp2
      go_ret
      exact ⟨g, c, rfl, hown, hbel⟩
set_option maxHeartbeats 400000 in
set_option maxRecDepth 100000 in
theorem kept_wide (B g c n cap : Nat) (a : Option Addr) (zs : List Int) (w : World) (hr : n ≤ 140737488355000) (h : Reads w a n zs) (hown : Own w B g (n + 70) c (room zs 70)) :
    Calls Tryd.prog 12 #[.slice (some ⟨g, 0, none⟩) (n + 70) c, .slice a n cap] w fun e w' => e = .returned (.bool true) ∧ w' = w := by
  have hlen := h.1
  obtain ⟨hc1, hc2⟩ := hown.room_le (by omega)
  have hc3 : c ≤ 9223372036854775807 := by unfold maxLen at hc2; omega
  have hn1 : n ≤ c := by omega
  have hrd : Reads w (some ⟨g, 0, none⟩) n zs := by
    have := hown.reads (room_range zs 70 h.2.1) n (by omega)
    rwa [show (room zs 70).take n = zs by rw [room, List.take_left' hlen]] at this
  have hcy : ∀ m, n ≤ m → m < n + 70 → w.cell? ⟨g, m, none⟩ = some (.int .u8 92) := fun m h1 h2 => by
    rw [← room_getD2 zs m 70 (by omega) (by omega)]; exact hown.cell m (by omega)
  have HCY : Hid _ := hcy
  clear hc2 hc1 hown hcy
  go_enter Tryd.func12, Tryd.ntmps12
  go_wp2_with (go_at_call 17; refine (same_eq _ _ _ _ _ zs _ hrd h).mono ?_; rintro e u1 ⟨rfl, rfl⟩)
  go_loopw [5] (fun i wr => ∃ m : Nat, n ≤ m ∧ m ≤ n + 70 ∧ i = .int .i64 m ∧ wr = u1)
    (fun i _ => n + 70 - (intOf i).toNat)
  case atStart => exact ⟨n, Nat.le_refl _, by omega, rfl, rfl⟩
  case round =>
    obtain ⟨m, hm1, hm2, rfl, rfl⟩ := hrel
    by_cases hlt2 : m < n + 70
    · have hcy := HCY.out m hm1 hlt2
      have i2 : (m : Int) < (n : Int) + 70 := by omega
      have hd1 : decide ((m : Int) < (n : Int) + 70) = true := decide_eq_true i2
      clear h hrd hlen
      go_wp2
      go_roundw
      case rel => exact ⟨m + 1, by omega, by omega, by go_num, (by first | rfl | trivial)⟩
      case measure => simp [intOf]; omega
    · have hmk : m = n + 70 := by omega
      subst hmk
      go_wp2
      go_ret
      exact ⟨rfl, rfl⟩

theorem read_row (bk off n c : Nat) (bs : List Int) (w : World) (hn : bs.length = n) (hr : Reads w (some ⟨bk, off, none⟩) n bs) (hl : n ≤ 200000000000000) (hnc : n ≤ c) (hc : c ≤ 9223372036854775807) (hbk : bk < w.heap.size) (ht : Tab w) :
    Calls Tryd.prog 9 #[.slice (some ⟨bk, off, none⟩) n c] w fun e w' => RdRes w w' e (readR bs) ∧ Below w.heap.size w w' := by
  subst hn
  exact read_any bk off c bs w hr hl hnc hc hbk ht

set_option maxRecDepth 100000 in
theorem large_gen (a : Option Addr) (n c : Nat) (bs : List Int) (w : World) (hr : Reads w a n bs) (hn : n ≤ 140737488355000) :
    Calls Tryd.prog 5 #[.slice a n c] w fun e w' => e = .returned (.bool (lrg bs)) ∧ Below w.heap.size w w' := by
  by_cases h : n < 10
  · have d1 : (n : Int) < 10 := by omega
    have e9 : lrg bs = false := by unfold lrg; rw [if_pos (by have := hr.1; omega)]
    have HE9 : Hid (lrg bs = false) := e9
    clear hr e9
    go_enter Tryd.func5, Tryd.ntmps5
    go_wp2
    go_ret
    exact ⟨by rw [HE9.out]; rfl, Below.refl _ _⟩
  · obtain ⟨bk, off, rfl, _, _⟩ := hr.pos (by omega)
    refine (large_fn bk off n c bs w hr hn).mono ?_
    rintro e w' ⟨q, rfl, rfl⟩
    exact ⟨rfl, drewN_below _ _⟩

theorem reads_nil (w : World) : Reads w none 0 [] := ⟨rfl, fun x hx => (by cases hx), fun _ => rfl, fun x hx => (by cases hx)⟩
theorem readsB_nil (w : World) : ReadsB w none 0 [] := ⟨rfl, fun _ => rfl, fun x hx => (by cases hx)⟩
theorem cells2 {w : World} {q : Nat} {x0 x1 : Value} {t : TypeId} (h : w.heap[q]? = some (.cells #[x0, x1] t (0, 0))) : w.cell? ⟨q, 0, none⟩ = some x0 ∧ w.cell? ⟨q, 1, none⟩ = some x1 := by
  simp [World.cell?, h]

theorem own_base {w : World} {B B' g n cap : Nat} {xs : List Int} (h : Own w B g n cap xs) (hb : B' ≤ B) : Own w B' g n cap xs := ownsRow_base h hb

set_option maxHeartbeats 8000000 in
set_option maxRecDepth 100000 in
theorem readsWalk (a : Option Addr) (n c : Nat) (bs : List Int) (w : World) (hr : Reads w a n bs) (hn : n ≤ 140737488351232) (hnc : n ≤ c) (ht : Tab w) :
    Calls Tryd.prog 3 #[.slice a n c] w fun e w' => e = .returned (.bool true) ∧ Below w.heap.size w w' := by
  have HR : Hid (Reads w a n bs) := hr
  have HT : Hid (Tab w) := ht
  clear hr ht
  cases hlg : lrg bs with
  | true =>
    have HLG : Hid (lrg bs = true) := hlg
    clear hlg
    go_enter Tryd.func3, Tryd.ntmps3
    go_wp2_with (first
      | (go_at_call 5; refine (large_gen a n c bs _ HR.out (by omega)).mono ?_; rintro e t1 ⟨rfl, bl⟩; rw [HLG.out]
         have HBA : Hid (Below w.heap.size w t1) := bl
         clear bl))
    go_ret
    exact ⟨rfl, HBA.out⟩
  | false =>
    have HLG : Hid (lrg bs = false) := hlg
    clear hlg
    go_enter Tryd.func3, Tryd.ntmps3
    go_wp2_with (first
      | (go_at_call 5; refine (large_gen a n c bs _ HR.out (by omega)).mono ?_; rintro e t1 ⟨rfl, bl⟩; rw [HLG.out]
         have HBA : Hid (Below w.heap.size w t1) := bl
         clear bl)
      | (go_at_call 6; refine (rsealed_any a n c bs _ (HR.out.below HBA.out) (by omega)).mono ?_; rintro e t2 ⟨g1, c1, rfl, own1, bl⟩
         have HBB : Hid (Below w.heap.size w (t2.alloc (.cells #[.slice a n c, .slice (some ⟨g1, 0, none⟩) (n + 4) c1] 22))) := below_trans (below_trans HBA.out bl) (below_alloc _ _)
         have HWB : Hid ((t2.alloc (.cells #[.slice a n c, .slice (some ⟨g1, 0, none⟩) (n + 4) c1] 22)).heap[t2.heap.size]? = some (.cells #[.slice a n c, .slice (some ⟨g1, 0, none⟩) (n + 4) c1] 22 (0, 0))) := heap_alloc_new _ _
         have HSB : Hid (Reads (t2.alloc (.cells #[.slice a n c, .slice (some ⟨g1, 0, none⟩) (n + 4) c1] 22)) (some ⟨g1, 0, none⟩) (n + 4) (sealL bs)) := by
           have h8 := (own1.reads (seal_byt HR.out.2.1) (n + 4) (Nat.le_refl _)).below (below_alloc t2 (.cells #[.slice a n c, .slice (some ⟨g1, 0, none⟩) (n + 4) c1] 22))
           rw [List.take_of_length_le (by rw [seal_len, HR.out.1]; omega)] at h8
           exact h8
         clear bl own1))
    go_loopw [4] (fun s4 wr => ∃ i : Nat, i ≤ 2 ∧ s4 = .int .i64 (i : Int) ∧ Hid (wr.heap[t2.heap.size]? = some (.cells #[.slice a n c, .slice (some ⟨g1, 0, none⟩) (n + 4) c1] 22 (0, 0))) ∧ Hid (Reads wr (some ⟨g1, 0, none⟩) (n + 4) (sealL bs)) ∧ Hid (Below w.heap.size w wr)) (fun i _ => 2 - (intOf i).toNat)
    case atStart => exact ⟨0, by omega, rfl, HWB.out, HSB.out, HBB.out⟩
    case round =>
      obtain ⟨i, hi, rfl, HW0, HS0, HB0⟩ := hrel
      by_cases hlt : i < 2
      · have di : (i : Int) < 2 := by omega
        obtain ⟨A, l, cA, xs, hCI, hRI, hlI⟩ : ∃ A l cA xs, (∀ u : World, u.heap[t2.heap.size]? = some (.cells #[.slice a n c, .slice (some ⟨g1, 0, none⟩) (n + 4) c1] 22 (0, 0)) → u.cell? ⟨t2.heap.size, i, none⟩ = some (.slice A l cA)) ∧ Reads wr A l xs ∧ l ≤ 140737488351240 := by
          rcases (show i = 0 ∨ i = 1 by omega) with rfl | rfl
          · exact ⟨a, n, c, bs, fun u hu => (cells2 hu).1, HR.out.below HB0.out, by omega⟩
          · exact ⟨some ⟨g1, 0, none⟩, n + 4, c1, sealL bs, fun u hu => (cells2 hu).2, HS0.out, by omega⟩
        have HCI : Hid (∀ u : World, u.heap[t2.heap.size]? = some (.cells #[.slice a n c, .slice (some ⟨g1, 0, none⟩) (n + 4) c1] 22 (0, 0)) → u.cell? ⟨t2.heap.size, i, none⟩ = some (.slice A l cA)) := hCI
        have HR0 : Hid (Reads wr A l xs) := hRI
        have hl2 : l ≤ 200000000000000 := by omega
        have hc0 : wr.cell? ⟨t2.heap.size, i, none⟩ = some (.slice A l cA) := HCI.out wr HW0.out
        clear hCI hRI HWB HSB HBB
        cases hx : readR xs with
        | error x =>
          have HRX : Hid (readR xs = .error x) := hx
          clear hx
          go_wp2_with (first
            | (go_at_call 7; refine (rread_any A l cA xs _ HR0.out (by omega)).mono ?_; rintro e t1 ⟨res, bl0⟩; rw [HRX.out] at res; obtain ⟨rfl, hx0⟩ := res
               have bl : Below wr.heap.size wr (t1.alloc (.cells #[.int .i64 0, .int .i64 0, .int .i64 0, .slice none 0 0, .slice none 0 0] 30)) := below_trans bl0 (below_alloc _ _)
               have HB2 : Hid (Below w.heap.size w (t1.alloc (.cells #[.int .i64 0, .int .i64 0, .int .i64 0, .slice none 0 0, .slice none 0 0] 30))) := below_trans HB0.out bl
               have HW2 : Hid ((t1.alloc (.cells #[.int .i64 0, .int .i64 0, .int .i64 0, .slice none 0 0, .slice none 0 0] 30)).heap[t2.heap.size]? = some (.cells #[.slice a n c, .slice (some ⟨g1, 0, none⟩) (n + 4) c1] 22 (0, 0))) := (bl.block _ (lt_of_bk HW0.out)).trans HW0.out
               have HR2 : Hid (Reads (t1.alloc (.cells #[.int .i64 0, .int .i64 0, .int .i64 0, .slice none 0 0, .slice none 0 0] 30)) A l xs) := HR0.out.below bl
               have HS2 : Hid (Reads (t1.alloc (.cells #[.int .i64 0, .int .i64 0, .int .i64 0, .slice none 0 0, .slice none 0 0] 30)) (some ⟨g1, 0, none⟩) (n + 4) (sealL bs)) := HS0.out.below bl
               have hc2 : (t1.alloc (.cells #[.int .i64 0, .int .i64 0, .int .i64 0, .slice none 0 0, .slice none 0 0] 30)).cell? ⟨t2.heap.size, i, none⟩ = some (.slice A l cA) := HCI.out (t1.alloc (.cells #[.int .i64 0, .int .i64 0, .int .i64 0, .slice none 0 0, .slice none 0 0] 30)) HW2.out
               have HI2 : Hid ((t1.alloc (.cells #[.int .i64 0, .int .i64 0, .int .i64 0, .slice none 0 0, .slice none 0 0] 30)).heap[t1.heap.size]? = some (.cells #[.int .i64 0, .int .i64 0, .int .i64 0, .slice none 0 0, .slice none 0 0] 30 (0, 0))) := heap_alloc_new _ _
               clear bl bl0 hc0)
            | (go_at_call 8; refine (roomy_wide A l cA xs _ (by omega) HR2.out).mono ?_; rintro e t3 ⟨gf, cf, rfl, of, bl⟩
               have HB3 : Hid (Below w.heap.size w t3) := below_trans HB2.out bl
               have HW3 : Hid (t3.heap[t2.heap.size]? = some (.cells #[.slice a n c, .slice (some ⟨g1, 0, none⟩) (n + 4) c1] 22 (0, 0))) := (bl.block _ (lt_of_bk HW2.out)).trans HW2.out
               have HR3 : Hid (Reads t3 A l xs) := HR2.out.below bl
               have HS3 : Hid (Reads t3 (some ⟨g1, 0, none⟩) (n + 4) (sealL bs)) := HS2.out.below bl
               have hc3 : t3.cell? ⟨t2.heap.size, i, none⟩ = some (.slice A l cA) := HCI.out t3 HW3.out
               have HI3 : Hid (t3.heap[t1.heap.size]? = some (.cells #[.int .i64 0, .int .i64 0, .int .i64 0, .slice none 0 0, .slice none 0 0] 30 (0, 0))) := (bl.block _ (lt_of_bk HI2.out)).trans HI2.out
               have HF3 : Hid (Own t3 w.heap.size gf (l + 70) cf (room xs 70)) := own_base of HB2.out.size
               have hfc := of.room_le (by omega)
               have hf1 : l ≤ cf := by omega
               have hf2 : cf ≤ 9223372036854775807 := by have := hfc.2; unfold maxLen at this; omega
               have HRF : Hid (Reads t3 (some ⟨gf, 0, none⟩) l xs) := by
                 have h8 := HF3.out.reads (room_range xs 70 HR3.out.2.1) l (by omega)
                 rw [show (room xs 70).take l = xs by rw [room, List.take_left' HR3.out.1]] at h8
                 exact h8
               have HGF : Hid (gf < t3.heap.size) := HF3.out.lt.2
               have HTB : Hid (Tab t3) := HT.out.below HB3.out
               clear bl of hc2 hfc)
            | (go_at_call 9; refine (read_row gf 0 l cf xs _ HR3.out.1 HRF.out hl2 hf1 hf2 HGF.out HTB.out).mono ?_; rintro e t4 ⟨res, bl0⟩; rw [HRX.out] at res; obtain ⟨rfl, hx1⟩ := res
               have bl : Below t3.heap.size t3 (t4.alloc (.cells #[.int .i64 0, .int .i64 0, .int .i64 0, .slice none 0 0, .slice none 0 0] 30)) := below_trans bl0 (below_alloc _ _)
               have HB5 : Hid (Below w.heap.size w (t4.alloc (.cells #[.int .i64 0, .int .i64 0, .int .i64 0, .slice none 0 0, .slice none 0 0] 30))) := below_trans HB3.out bl
               have HW5 : Hid ((t4.alloc (.cells #[.int .i64 0, .int .i64 0, .int .i64 0, .slice none 0 0, .slice none 0 0] 30)).heap[t2.heap.size]? = some (.cells #[.slice a n c, .slice (some ⟨g1, 0, none⟩) (n + 4) c1] 22 (0, 0))) := (bl.block _ (lt_of_bk HW3.out)).trans HW3.out
               have HR5 : Hid (Reads (t4.alloc (.cells #[.int .i64 0, .int .i64 0, .int .i64 0, .slice none 0 0, .slice none 0 0] 30)) A l xs) := HR3.out.below bl
               have HS5 : Hid (Reads (t4.alloc (.cells #[.int .i64 0, .int .i64 0, .int .i64 0, .slice none 0 0, .slice none 0 0] 30)) (some ⟨g1, 0, none⟩) (n + 4) (sealL bs)) := HS3.out.below bl
               have hc5 : (t4.alloc (.cells #[.int .i64 0, .int .i64 0, .int .i64 0, .slice none 0 0, .slice none 0 0] 30)).cell? ⟨t2.heap.size, i, none⟩ = some (.slice A l cA) := HCI.out (t4.alloc (.cells #[.int .i64 0, .int .i64 0, .int .i64 0, .slice none 0 0, .slice none 0 0] 30)) HW5.out
               have HI5 : Hid ((t4.alloc (.cells #[.int .i64 0, .int .i64 0, .int .i64 0, .slice none 0 0, .slice none 0 0] 30)).heap[t1.heap.size]? = some (.cells #[.int .i64 0, .int .i64 0, .int .i64 0, .slice none 0 0, .slice none 0 0] 30 (0, 0))) := (bl.block _ (lt_of_bk HI3.out)).trans HI3.out
               have HF5 : Hid (Own (t4.alloc (.cells #[.int .i64 0, .int .i64 0, .int .i64 0, .slice none 0 0, .slice none 0 0] 30)) w.heap.size gf (l + 70) cf (room xs 70)) := HF3.out.below bl
               have HP5 : Hid ((t4.alloc (.cells #[.int .i64 0, .int .i64 0, .int .i64 0, .slice none 0 0, .slice none 0 0] 30)).heap[t4.heap.size]? = some (.cells #[.int .i64 0, .int .i64 0, .int .i64 0, .slice none 0 0, .slice none 0 0] 30 (0, 0))) := heap_alloc_new _ _
               obtain ⟨y0, y1, y2, y3, y4⟩ := cells5 HP5.out
               obtain ⟨v0, v1, v2, v3, v4⟩ := cells5 HI5.out
               clear bl bl0 hc3)
            | (go_at_call 10; refine (no_any _ _).mono ?_; rintro e t9 ⟨rfl, ht9⟩; rw [ht9]; clear ht9
  )
            | (go_at_call 11; refine (alike_eq 0 0 0 none none 0 0 0 [] none none 0 0 0 [] _ (reads_nil _) (reads_nil _) (readsB_nil _) (readsB_nil _) (by omega)).mono ?_; rintro e t6 ⟨rfl, bl⟩
               have HB6 : Hid (Below w.heap.size w t6) := below_trans HB5.out bl
               have HW6 : Hid (t6.heap[t2.heap.size]? = some (.cells #[.slice a n c, .slice (some ⟨g1, 0, none⟩) (n + 4) c1] 22 (0, 0))) := (bl.block _ (lt_of_bk HW5.out)).trans HW5.out
               have HR6 : Hid (Reads t6 A l xs) := HR5.out.below bl
               have HS6 : Hid (Reads t6 (some ⟨g1, 0, none⟩) (n + 4) (sealL bs)) := HS5.out.below bl
               have hc6 : t6.cell? ⟨t2.heap.size, i, none⟩ = some (.slice A l cA) := HCI.out t6 HW6.out
               have HF6 : Hid (Own t6 w.heap.size gf (l + 70) cf (room xs 70)) := HF5.out.below bl
               clear bl hc5 y0 y1 y2 y3 y4 v0 v1 v2 v3 v4)
            | (go_at_call 12; refine (kept_wide w.heap.size gf cf l cA A xs _ (by omega) HR6.out HF6.out).mono ?_; rintro e t7 ⟨rfl, ht7⟩; rw [ht7]; clear ht7
  ))
          go_roundw
          case rel => exact ⟨i + 1, by omega, by go_num, HW6.out, HS6.out, HB6.out⟩
          case measure => simp [intOf]; omega
        | ok m =>
          have HRX : Hid (readR xs = .ok m) := hx
          have hmo := (canon HR0.out.2.1 hx).1
          have HCB : Hid (∀ y ∈ m.cs, 0 ≤ y ∧ y ≤ 255) := hmo.2.2.2
          have hmb : m.b ≤ 4096 := (fits_nat hmo.1).2.1
          clear hx hmo
          go_wp2_with (first
            | (go_at_call 7; refine (rread_any A l cA xs _ HR0.out (by omega)).mono ?_; rintro e t1 ⟨res, bl0⟩; rw [HRX.out] at res; obtain ⟨ac, cc, am, cm, rfl, rd, rb1⟩ := res
               have bl : Below wr.heap.size wr (t1.alloc (.cells #[.int .i64 (m.b : Int), .int .i64 (m.p : Int), .int .i64 (m.s : Int), .slice ac m.cs.length cc, .slice am m.b cm] 30)) := below_trans bl0 (below_alloc _ _)
               have HB2 : Hid (Below w.heap.size w (t1.alloc (.cells #[.int .i64 (m.b : Int), .int .i64 (m.p : Int), .int .i64 (m.s : Int), .slice ac m.cs.length cc, .slice am m.b cm] 30))) := below_trans HB0.out bl
               have HW2 : Hid ((t1.alloc (.cells #[.int .i64 (m.b : Int), .int .i64 (m.p : Int), .int .i64 (m.s : Int), .slice ac m.cs.length cc, .slice am m.b cm] 30)).heap[t2.heap.size]? = some (.cells #[.slice a n c, .slice (some ⟨g1, 0, none⟩) (n + 4) c1] 22 (0, 0))) := (bl.block _ (lt_of_bk HW0.out)).trans HW0.out
               have HR2 : Hid (Reads (t1.alloc (.cells #[.int .i64 (m.b : Int), .int .i64 (m.p : Int), .int .i64 (m.s : Int), .slice ac m.cs.length cc, .slice am m.b cm] 30)) A l xs) := HR0.out.below bl
               have HS2 : Hid (Reads (t1.alloc (.cells #[.int .i64 (m.b : Int), .int .i64 (m.p : Int), .int .i64 (m.s : Int), .slice ac m.cs.length cc, .slice am m.b cm] 30)) (some ⟨g1, 0, none⟩) (n + 4) (sealL bs)) := HS0.out.below bl
               have hc2 : (t1.alloc (.cells #[.int .i64 (m.b : Int), .int .i64 (m.p : Int), .int .i64 (m.s : Int), .slice ac m.cs.length cc, .slice am m.b cm] 30)).cell? ⟨t2.heap.size, i, none⟩ = some (.slice A l cA) := HCI.out (t1.alloc (.cells #[.int .i64 (m.b : Int), .int .i64 (m.p : Int), .int .i64 (m.s : Int), .slice ac m.cs.length cc, .slice am m.b cm] 30)) HW2.out
               have HI2 : Hid ((t1.alloc (.cells #[.int .i64 (m.b : Int), .int .i64 (m.p : Int), .int .i64 (m.s : Int), .slice ac m.cs.length cc, .slice am m.b cm] 30)).heap[t1.heap.size]? = some (.cells #[.int .i64 (m.b : Int), .int .i64 (m.p : Int), .int .i64 (m.s : Int), .slice ac m.cs.length cc, .slice am m.b cm] 30 (0, 0))) := heap_alloc_new _ _
               have HC2 : Hid (Reads (t1.alloc (.cells #[.int .i64 (m.b : Int), .int .i64 (m.p : Int), .int .i64 (m.s : Int), .slice ac m.cs.length cc, .slice am m.b cm] 30)) ac m.cs.length m.cs) := rd.below (below_alloc _ _)
               have HM2 : Hid (ReadsB (t1.alloc (.cells #[.int .i64 (m.b : Int), .int .i64 (m.p : Int), .int .i64 (m.s : Int), .slice ac m.cs.length cc, .slice am m.b cm] 30)) am m.b m.ms) := rb1.below (below_alloc _ _)
               clear rd rb1
               clear bl bl0 hc0)
            | (go_at_call 8; refine (roomy_wide A l cA xs _ (by omega) HR2.out).mono ?_; rintro e t3 ⟨gf, cf, rfl, of, bl⟩
               have HB3 : Hid (Below w.heap.size w t3) := below_trans HB2.out bl
               have HW3 : Hid (t3.heap[t2.heap.size]? = some (.cells #[.slice a n c, .slice (some ⟨g1, 0, none⟩) (n + 4) c1] 22 (0, 0))) := (bl.block _ (lt_of_bk HW2.out)).trans HW2.out
               have HR3 : Hid (Reads t3 A l xs) := HR2.out.below bl
               have HS3 : Hid (Reads t3 (some ⟨g1, 0, none⟩) (n + 4) (sealL bs)) := HS2.out.below bl
               have hc3 : t3.cell? ⟨t2.heap.size, i, none⟩ = some (.slice A l cA) := HCI.out t3 HW3.out
               have HI3 : Hid (t3.heap[t1.heap.size]? = some (.cells #[.int .i64 (m.b : Int), .int .i64 (m.p : Int), .int .i64 (m.s : Int), .slice ac m.cs.length cc, .slice am m.b cm] 30 (0, 0))) := (bl.block _ (lt_of_bk HI2.out)).trans HI2.out
               have HC3 : Hid (Reads t3 ac m.cs.length m.cs) := HC2.out.below bl
               have HM3 : Hid (ReadsB t3 am m.b m.ms) := HM2.out.below bl
               have HF3 : Hid (Own t3 w.heap.size gf (l + 70) cf (room xs 70)) := own_base of HB2.out.size
               have hfc := of.room_le (by omega)
               have hf1 : l ≤ cf := by omega
               have hf2 : cf ≤ 9223372036854775807 := by have := hfc.2; unfold maxLen at this; omega
               have HRF : Hid (Reads t3 (some ⟨gf, 0, none⟩) l xs) := by
                 have h8 := HF3.out.reads (room_range xs 70 HR3.out.2.1) l (by omega)
                 rw [show (room xs 70).take l = xs by rw [room, List.take_left' HR3.out.1]] at h8
                 exact h8
               have HGF : Hid (gf < t3.heap.size) := HF3.out.lt.2
               have HTB : Hid (Tab t3) := HT.out.below HB3.out
               clear bl of hc2 hfc)
            | (go_at_call 9; refine (read_row gf 0 l cf xs _ HR3.out.1 HRF.out hl2 hf1 hf2 HGF.out HTB.out).mono ?_; rintro e t4 ⟨res, bl0⟩; rw [HRX.out] at res; obtain ⟨gp, cp, gq, rfl, op, oq⟩ := res
               have bl : Below t3.heap.size t3 (t4.alloc (.cells #[.int .i64 (m.b : Int), .int .i64 (m.p : Int), .int .i64 (m.s : Int), .slice (some ⟨gp, 0, none⟩) m.cs.length cp, .slice (some ⟨gq, 0, none⟩) m.b m.b] 30)) := below_trans bl0 (below_alloc _ _)
               have HB5 : Hid (Below w.heap.size w (t4.alloc (.cells #[.int .i64 (m.b : Int), .int .i64 (m.p : Int), .int .i64 (m.s : Int), .slice (some ⟨gp, 0, none⟩) m.cs.length cp, .slice (some ⟨gq, 0, none⟩) m.b m.b] 30))) := below_trans HB3.out bl
               have HW5 : Hid ((t4.alloc (.cells #[.int .i64 (m.b : Int), .int .i64 (m.p : Int), .int .i64 (m.s : Int), .slice (some ⟨gp, 0, none⟩) m.cs.length cp, .slice (some ⟨gq, 0, none⟩) m.b m.b] 30)).heap[t2.heap.size]? = some (.cells #[.slice a n c, .slice (some ⟨g1, 0, none⟩) (n + 4) c1] 22 (0, 0))) := (bl.block _ (lt_of_bk HW3.out)).trans HW3.out
               have HR5 : Hid (Reads (t4.alloc (.cells #[.int .i64 (m.b : Int), .int .i64 (m.p : Int), .int .i64 (m.s : Int), .slice (some ⟨gp, 0, none⟩) m.cs.length cp, .slice (some ⟨gq, 0, none⟩) m.b m.b] 30)) A l xs) := HR3.out.below bl
               have HS5 : Hid (Reads (t4.alloc (.cells #[.int .i64 (m.b : Int), .int .i64 (m.p : Int), .int .i64 (m.s : Int), .slice (some ⟨gp, 0, none⟩) m.cs.length cp, .slice (some ⟨gq, 0, none⟩) m.b m.b] 30)) (some ⟨g1, 0, none⟩) (n + 4) (sealL bs)) := HS3.out.below bl
               have hc5 : (t4.alloc (.cells #[.int .i64 (m.b : Int), .int .i64 (m.p : Int), .int .i64 (m.s : Int), .slice (some ⟨gp, 0, none⟩) m.cs.length cp, .slice (some ⟨gq, 0, none⟩) m.b m.b] 30)).cell? ⟨t2.heap.size, i, none⟩ = some (.slice A l cA) := HCI.out (t4.alloc (.cells #[.int .i64 (m.b : Int), .int .i64 (m.p : Int), .int .i64 (m.s : Int), .slice (some ⟨gp, 0, none⟩) m.cs.length cp, .slice (some ⟨gq, 0, none⟩) m.b m.b] 30)) HW5.out
               have HI5 : Hid ((t4.alloc (.cells #[.int .i64 (m.b : Int), .int .i64 (m.p : Int), .int .i64 (m.s : Int), .slice (some ⟨gp, 0, none⟩) m.cs.length cp, .slice (some ⟨gq, 0, none⟩) m.b m.b] 30)).heap[t1.heap.size]? = some (.cells #[.int .i64 (m.b : Int), .int .i64 (m.p : Int), .int .i64 (m.s : Int), .slice ac m.cs.length cc, .slice am m.b cm] 30 (0, 0))) := (bl.block _ (lt_of_bk HI3.out)).trans HI3.out
               have HC5 : Hid (Reads (t4.alloc (.cells #[.int .i64 (m.b : Int), .int .i64 (m.p : Int), .int .i64 (m.s : Int), .slice (some ⟨gp, 0, none⟩) m.cs.length cp, .slice (some ⟨gq, 0, none⟩) m.b m.b] 30)) ac m.cs.length m.cs) := HC3.out.below bl
               have HM5 : Hid (ReadsB (t4.alloc (.cells #[.int .i64 (m.b : Int), .int .i64 (m.p : Int), .int .i64 (m.s : Int), .slice (some ⟨gp, 0, none⟩) m.cs.length cp, .slice (some ⟨gq, 0, none⟩) m.b m.b] 30)) am m.b m.ms) := HM3.out.below bl
               have HF5 : Hid (Own (t4.alloc (.cells #[.int .i64 (m.b : Int), .int .i64 (m.p : Int), .int .i64 (m.s : Int), .slice (some ⟨gp, 0, none⟩) m.cs.length cp, .slice (some ⟨gq, 0, none⟩) m.b m.b] 30)) w.heap.size gf (l + 70) cf (room xs 70)) := HF3.out.below bl
               have HP5 : Hid ((t4.alloc (.cells #[.int .i64 (m.b : Int), .int .i64 (m.p : Int), .int .i64 (m.s : Int), .slice (some ⟨gp, 0, none⟩) m.cs.length cp, .slice (some ⟨gq, 0, none⟩) m.b m.b] 30)).heap[t4.heap.size]? = some (.cells #[.int .i64 (m.b : Int), .int .i64 (m.p : Int), .int .i64 (m.s : Int), .slice (some ⟨gp, 0, none⟩) m.cs.length cp, .slice (some ⟨gq, 0, none⟩) m.b m.b] 30 (0, 0))) := heap_alloc_new _ _
               have HD5 : Hid (Reads (t4.alloc (.cells #[.int .i64 (m.b : Int), .int .i64 (m.p : Int), .int .i64 (m.s : Int), .slice (some ⟨gp, 0, none⟩) m.cs.length cp, .slice (some ⟨gq, 0, none⟩) m.b m.b] 30)) (some ⟨gp, 0, none⟩) m.cs.length m.cs) := by
                 have h8 := (op.reads HCB.out m.cs.length (Nat.le_refl _)).below (below_alloc t4 (.cells #[.int .i64 (m.b : Int), .int .i64 (m.p : Int), .int .i64 (m.s : Int), .slice (some ⟨gp, 0, none⟩) m.cs.length cp, .slice (some ⟨gq, 0, none⟩) m.b m.b] 30))
                 rw [List.take_of_length_le (Nat.le_refl _)] at h8
                 exact h8
               have HE5 : Hid (ReadsB (t4.alloc (.cells #[.int .i64 (m.b : Int), .int .i64 (m.p : Int), .int .i64 (m.s : Int), .slice (some ⟨gp, 0, none⟩) m.cs.length cp, .slice (some ⟨gq, 0, none⟩) m.b m.b] 30)) (some ⟨gq, 0, none⟩) m.b m.ms) := by
                 obtain ⟨aq, cq, hv, rq⟩ := own_anyB oq
                 injection hv with hv1
                 subst hv1
                 exact rq.below (below_alloc _ _)
               clear op oq
               obtain ⟨y0, y1, y2, y3, y4⟩ := cells5 HP5.out
               obtain ⟨v0, v1, v2, v3, v4⟩ := cells5 HI5.out
               clear bl bl0 hc3)
            | (go_at_call 10; refine (no_any _ _).mono ?_; rintro e t9 ⟨rfl, ht9⟩; rw [ht9]; clear ht9
  )
            | (go_at_call 11; refine (alike_eq _ _ _ _ _ _ _ _ m.cs _ _ _ _ _ m.ms _ HD5.out HC5.out HE5.out HM5.out (by omega)).mono ?_; rintro e t6 ⟨rfl, bl⟩
               have HB6 : Hid (Below w.heap.size w t6) := below_trans HB5.out bl
               have HW6 : Hid (t6.heap[t2.heap.size]? = some (.cells #[.slice a n c, .slice (some ⟨g1, 0, none⟩) (n + 4) c1] 22 (0, 0))) := (bl.block _ (lt_of_bk HW5.out)).trans HW5.out
               have HR6 : Hid (Reads t6 A l xs) := HR5.out.below bl
               have HS6 : Hid (Reads t6 (some ⟨g1, 0, none⟩) (n + 4) (sealL bs)) := HS5.out.below bl
               have hc6 : t6.cell? ⟨t2.heap.size, i, none⟩ = some (.slice A l cA) := HCI.out t6 HW6.out
               have HF6 : Hid (Own t6 w.heap.size gf (l + 70) cf (room xs 70)) := HF5.out.below bl
               clear bl hc5 y0 y1 y2 y3 y4 v0 v1 v2 v3 v4)
            | (go_at_call 12; refine (kept_wide w.heap.size gf cf l cA A xs _ (by omega) HR6.out HF6.out).mono ?_; rintro e t7 ⟨rfl, ht7⟩; rw [ht7]; clear ht7
  ))
          go_roundw
          case rel => exact ⟨i + 1, by omega, by go_num, HW6.out, HS6.out, HB6.out⟩
          case measure => simp [intOf]; omega
      · have di : ¬ (i : Int) < 2 := by omega
        go_wp2_with fail
        go_ret
        exact ⟨rfl, HB0.out⟩

end Go.Proofs.YteefekhlbillfaaDoor
