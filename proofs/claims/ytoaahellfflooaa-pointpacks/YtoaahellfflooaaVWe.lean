/-
  SEAT Ytoaahellfflooaa.
-/
import Derived.Test.YtoaahellfflooaaVWd
import Derived.Test.YtoaahellfflooaaVND
namespace Go.Proofs.Ytoaahellfflooaa
open Go.RowKit
set_option linter.unusedVariables false

/-- The reference's row, as far as it is laid. -/
structure Rp (w u : World) (B : Nat) (v : Value) (laid : List Int) : Prop where
  own : u.ownsRow B 5 1 v laid.length (laid.map (Value.int .u8))
  kw : Kw B [] w u
  B : B ≤ u.heap.size
theorem Rp.below {w u u' : World} {B : Nat} {v : Value} {laid : List Int} (h : Rp w u B v laid) (hb : Below u.heap.size u u') : Rp w u' B v laid :=
  ⟨own_of_below h.own hb, h.kw.trans (Kw.of_below h.B hb), Nat.le_trans h.B hb.size⟩
theorem wpList_append_put {w u u' : World} {ops : Array Oper} {rest : List Oper} {o : Oper} {a : Act} {Q : Exit → Act → World → Prop} (hgd : o.guard = none) (s x : Operand)
    (ho : o.op = .call { callee := .builtin .append, args := #[s, x], argTypes := #[22, 22] })
    (B : Nat) (v : Value) (laid : List Int) (hR : Rp w u B v laid) (hb2 : Below u.heap.size u u') (ad : Option Addr) (n c : Nat) (zs : List Int) (hs : a.eval s = v) (hx : a.eval x = .slice ad n c) (hrd : Reads u' ad n zs)
    (hl : laid.length ≤ 100000000000000) (hn : n ≤ 1000)
    (h : ∀ v' w', Rp w w' B v' (laid ++ zs) → Kw B [] u' w' → u'.grownBy w' v.ownBlock → wpList Try.prog ops Q rest (a.put o.dst v') w') : wpList Try.prog ops Q (o :: rest) a u' := by
  have hR2 := hR.below hb2
  have hzn : zs.length = n := hrd.1
  refine wpList_append_reads hgd s x ho B v _ laid hs hR2.own ad n c zs hx hrd (by omega) hR2.B ?_
  intro v' w' own' grow'
  have hk := Kw.of_row (X := []) hR2.own rfl (fun k hk => by cases hk) hR2.B grow'
  refine h v' w' ⟨?_, hR2.kw.trans hk, Nat.le_trans hR2.B grow'.size⟩ hk grow'
  rw [List.length_append, hzn]
  exact own'

theorem wp_append_put {w u u' : World} {o : Oper} {a : Act} {K : Act → World → Prop} {Q : Exit → Act → World → Prop} (s x : Operand)
    (ho : o.op = .call { callee := .builtin .append, args := #[s, x], argTypes := #[22, 22] })
    (B : Nat) (v : Value) (laid : List Int) (hR : Rp w u B v laid) (hb2 : Below u.heap.size u u') (ad : Option Addr) (n c : Nat) (zs : List Int) (hs : a.eval s = v) (hx : a.eval x = .slice ad n c) (hrd : Reads u' ad n zs)
    (hl : laid.length ≤ 100000000000000) (hn : n ≤ 1000) (hn0 : 0 < n)
    (h : ∀ v' w', Rp w w' B v' (laid ++ zs) → Kw B [] u' w' → u'.grownBy w' v.ownBlock → K (a.put o.dst v') w') : o.wp Try.prog a u' K Q := by
  obtain ⟨i0, hi, hz0, hz1, hz2⟩ := info_parts info5
  have hR2 := hR.below hb2
  have hzn : zs.length = n := hrd.1
  cases ad with
  | none => have := hrd.2.2.1 rfl; omega
  | some ad =>
    refine wp_append_own u' s x 22 ho B 5 i0 (.int .u8 0) 1 1 Try.underlying22 hi hz0 hz1 hz2 rfl (by decide) v _ _ hs hR2.own ad n c (zs.map (Value.int .u8)) hx (by simp [hrd.1]) hrd.news (ints_oneCell _ _) (by simp [maxLen]; omega) (by omega) hR2.B ?_
    intro v' w' own' grow' _
    have hk := Kw.of_row (X := []) hR2.own rfl (fun k hk => by cases hk) hR2.B grow'
    refine h v' w' ⟨?_, hR2.kw.trans hk, Nat.le_trans hR2.B grow'.size⟩ hk grow'
    rw [List.length_append, hzn, List.map_append]
    exact own'

theorem dg_byt (v : Int) (n : Nat) : Byt (dg v n) := dg_range v n
set_option maxHeartbeats 1000000 in
theorem rput21 (v : Int) (size : Nat) (w : World) (h8 : size ≤ 8) (hv : 0 ≤ v) (hv2 : v < 18446744073709551616) :
    Calls Try.prog 21 #[.int .u64 v, .int .i64 (size : Int)] w fun e w' => (∃ a c, e = .returned (.slice a size c) ∧ Reads w' a size (dg v size) ∧ w'.ownsRow w.heap.size 5 1 (.slice a size c) size ((dg v size).map (Value.int .u8))) ∧ Below w.heap.size w w' := by
  obtain ⟨i0, hi, hz0, hz1, hz2⟩ := info_parts info5
  go_enter Try.func21, Try.ntmps21
  go_wp2
  go_loopw [0, 5, 6] (fun x b i wr => ∃ k : Nat, k ≤ size ∧ i = .int .i64 k ∧ x = .int .u64 (v / 256 ^ k) ∧ wr.ownsRow w.heap.size 5 1 b k ((dg v k).map (Value.int .u8)) ∧ Below w.heap.size w wr)
    (fun _ _ i _ => size - (intOf i).toNat)
  case atStart => exact ⟨0, Nat.zero_le _, rfl, by simp, World.ownsRow_nil _ _ _ _, Below.refl _ _⟩
  case round =>
    obtain ⟨k, hk, rfl, rfl, ho, hb⟩ := hrel
    by_cases hlt : k < size
    · obtain ⟨q, hq⟩ : ∃ q, v / 256 ^ k = q := ⟨_, rfl⟩
      have hp : (0 : Int) < 256 ^ k := Int.pow_pos (by decide)
      have hq0 : 0 ≤ q := by rw [← hq]; exact Int.ediv_nonneg hv (Int.le_of_lt hp)
      have hq1 : q ≤ v := by rw [← hq]; exact Int.ediv_le_self _ hv
      have HN : Hid (v / 256 ^ (k + 1) = q / 256) := by show _ = _; rw [Int.pow_succ, ← hq, Int.ediv_ediv, if_neg (fun h => absurd h.1 (Int.not_lt.2 (Int.le_of_lt hp))), Int.sub_zero]
      have HY : Hid (q % 256 = v / 256 ^ k % 256) := by show _ = _; rw [hq]
      obtain ⟨y, hy⟩ : ∃ y, q % 256 = y := ⟨_, rfl⟩
      rw [hy] at HY
      have hyw2 : IntKind.u8.wrap q = y := by rw [IntKind.wrap_u8']; exact hy
      obtain ⟨q2, hq2⟩ : ∃ q2, q / 256 = q2 := ⟨_, rfl⟩
      rw [hq2] at HN
      have hqt : q.tdiv 256 = q2 := by rw [Int.tdiv_eq_ediv_of_nonneg hq0]; exact hq2
      have hqw : IntKind.u64.wrap q2 = q2 := by rw [IntKind.wrap_u64]; omega
      have hqm : q2 % 18446744073709551616 = q2 := by omega
      have hsz := hb.size
      have m1 : (k : Int) < (size : Int) := by omega
      have hd1 : decide ((k : Int) < (size : Int)) = true := decide_eq_true m1
      rw [hq]
      clear hq hp
      go_wp2_with (
        (at_builtin; refine wpList_append_own _ rfl (.tmp 12) (.tmp 15) 22 rfl w.heap.size 5 i0 (.int .u8 0) 1 1 Try.underlying22 hi hz0 hz1 hz2 rfl (by decide) _ _ _ rfl (ho.alloc _) ⟨_, 0, none⟩ 1 1 [.int .u8 y] rfl rfl (news_one _ _) (by simp [Value.oneCell']) (by simp [maxLen]; omega) (by omega) (by simp; omega) ?_; intro v2 w2 hown2 hgrow2 _))
      have hown3 : w2.ownsRow w.heap.size 5 1 v2 (k + 1) ((dg v (k + 1)).map (Value.int .u8)) := by
        rw [dg_succ, ← HY.out, List.map_append]
        exact hown2
      have hbel3 := (hb.alloc hb.size _).grown hgrow2 (by simp; omega) (fun q hq => (ho.lt q hq).1)
      clear hown2 hgrow2 ho
      go_wp2
      go_roundw
      case rel => exact ⟨k + 1, by omega, by go_num, by rw [HN.out], hown3, hbel3⟩
      case measure => simp [intOf]; omega
    · have hkn : k = size := by omega
      subst hkn
      obtain ⟨a, c, rfl⟩ := own_slice ho
      go_wp2
      go_ret
      exact ⟨⟨_, _, rfl, own_bytes ho (dg_length _ _) (dg_byt _ _), ho⟩, hb⟩
theorem ryes22 (b : Bool) (w : World) : Calls Try.prog 22 #[.bool b] w fun e w' => e = .returned (.int .u64 (if b then 1 else 0)) ∧ w' = w := by
  cases b with
  | false =>
    go_enter Try.func22, Try.ntmps22
    go_wp2
    go_ret
    exact ⟨rfl, rfl⟩
  | true =>
    go_enter Try.func22, Try.ntmps22
    go_wp2
    go_ret
    exact ⟨rfl, rfl⟩
set_option maxHeartbeats 2000000 in
set_option maxRecDepth 100000 in
theorem rat24 (p : Int × Int) (w : World) (hp : plOk p = true) :
    Calls Try.prog 24 #[.agg #[.int .i64 p.1, .int .i64 p.2]] w fun e w' => (∃ a c, e = .returned (.slice a 4 c) ∧ Reads w' a 4 (plW p)) ∧ Below w.heap.size w w' := by
  obtain ⟨a, b⟩ := p
  simp only [plOk, Bool.and_eq_true] at hp
  have p1 := rg_iff.1 hp.1
  have p2 := rg_iff.1 hp.2
  (try simp only at p1 p2)
  have ea : IntKind.u64.wrap a = a := by rw [IntKind.wrap_u64]; omega
  have eb : IntKind.u64.wrap b = b := by rw [IntKind.wrap_u64]; omega
  have hb0 := below_alloc w (.cells #[.int .i64 a, .int .i64 b] 52)
  have hbd : Below w.heap.size w (w.alloc (.cells #[.int .i64 a, .int .i64 b] 52)).drew := hb0.trans ((drewB _).mono (by simp))
  have HK0 := hide (Kw.of_below (B := w.heap.size) (X := []) (Nat.le_refl _) hbd)
  have HA := hide (rput21 a 2 (w.alloc (.cells #[.int .i64 a, .int .i64 b] 52)).drew (by omega) (by omega) (by omega))
  have HB := hide (fun u => rput21 b 2 u (by omega) (by omega) (by omega))
  have HX : Hid ((w.alloc (.cells #[.int .i64 a, .int .i64 b] 52)).drew.heap[w.heap.size]? = some (.cells #[.int .i64 a, .int .i64 b] 52 (0, 0))) := heap_alloc_new w _
  have hx0 : (w.alloc (.cells #[.int .i64 a, .int .i64 b] 52)).cell? ⟨w.heap.size, 0, none⟩ = some (.int .i64 a) := blk_cell HX.out 0 rfl
  have hx1 : (w.alloc (.cells #[.int .i64 a, .int .i64 b] 52)).cell? ⟨w.heap.size, 1, none⟩ = some (.int .i64 b) := blk_cell HX.out 1 rfl
  clear hp p1 p2 hb0 hbd
  go_enter Try.func24, Try.ntmps24
  go_upto_region 1 with fail
  refine wp_region_held_drew (S := (fun u => u.cell? ⟨w.heap.size, 0, none⟩ = some (.int .i64 a) ∧ u.cell? ⟨w.heap.size, 1, none⟩ = some (.int .i64 b))) (by kernel_rfl) (⟨hx0, hx1⟩) (fun hHeld => ?_)
  refine tk 0 ?_
  refine tk 1 ?_
  refine tk 2 ?_
  refine tk 4 ?_
  refine tk 5 ?_
  refine tk 6 ?_
  refine rd 3 (fun K hK => ?_)
  go_simp
  go_at_call 21
  refine (HA.out).mono ?_
  rintro e u1 ⟨⟨a1, d1, rfl, hr1, ho1⟩, hb1⟩
  have hx := (hb1.block w.heap.size (lt_of_block HX.out)).trans HX.out
  have HX1 := hide hx
  have HO1 := hide ho1
  have HB1 := hide hb1
  have hSnew : (fun u => u.cell? ⟨w.heap.size, 0, none⟩ = some (.int .i64 a) ∧ u.cell? ⟨w.heap.size, 1, none⟩ = some (.int .i64 b)) u1 := ⟨blk_cell hx 0 rfl, blk_cell hx 1 rfl⟩
  clear hx hr1 ho1 hb1
  go_wp2_with fail
  refine hK.out _ _ hSnew (fun hHeldN => ?_)
  clear hK K hSnew
  clear hHeld
  have hHeld := hHeldN
  clear hHeldN
  try simp only [Act.put, List.setIfInBounds_toArray, List.set_cons_zero, List.set_cons_succ]
  refine rd 7 (fun K hK => ?_)
  go_simp
  go_at_call 21
  refine (HB.out u1).mono ?_
  rintro e u2 ⟨⟨a2, d2, rfl, hr2, ho2⟩, hb2⟩
  have hx := (hb2.block w.heap.size (lt_of_block HX1.out)).trans HX1.out
  have HX2 := hide hx
  have HR2 := hide hr2
  have HB2 := hide hb2
  have hSnew : (fun u => u.cell? ⟨w.heap.size, 0, none⟩ = some (.int .i64 a) ∧ u.cell? ⟨w.heap.size, 1, none⟩ = some (.int .i64 b)) u2 := ⟨blk_cell hx 0 rfl, blk_cell hx 1 rfl⟩
  clear hx hr2 ho2 hb2
  go_wp2_with fail
  refine hK.out _ _ hSnew (fun hHeldN => ?_)
  clear hK K hSnew
  clear hHeld
  have hHeld := hHeldN
  clear hHeldN
  try simp only [Act.put, List.setIfInBounds_toArray, List.set_cons_zero, List.set_cons_succ]
  refine rd 8 (fun K hK => ?_)
  have HRP : Hid (Rp w u1 w.heap.size (.slice a1 2 d1) (dg a 2)) := ⟨by rw [dg_length]; exact own_base HO1.out (by simp), HK0.out.trans (Kw.of_below (by simp) HB1.out), by have := HB1.out.size; simp at this; omega⟩
  refine wp_append_put (.tmp 6) (.tmp 10) rfl w.heap.size _ _ HRP.out HB2.out a2 2 d2 (dg b 2) rfl rfl HR2.out (by rw [dg_length]; omega) (by omega) (by omega) ?_
  intro v3 u3 hR3 k3 _
  have HR3 := hide hR3
  have hx := k3.oth w.heap.size _ 52 HX2.out (by decide) (by decide)
  have hSnew : (fun u => u.cell? ⟨w.heap.size, 0, none⟩ = some (.int .i64 a) ∧ u.cell? ⟨w.heap.size, 1, none⟩ = some (.int .i64 b)) u3 := ⟨blk_cell hx 0 rfl, blk_cell hx 1 rfl⟩
  clear hx hR3 k3
  refine hK.out _ _ hSnew (fun hHeldN => ?_)
  clear hK K hSnew
  clear hHeld
  have hHeld := hHeldN
  clear hHeldN
  try simp only [Act.put, List.setIfInBounds_toArray, List.set_cons_zero, List.set_cons_succ]
  refine tk 9 ?_
  refine wpAnyH_done (by kernel_rfl) ?_ _
  clear hHeld
  obtain ⟨a3, d3, rfl⟩ := own_slice HR3.out.own
  go_wp2
  go_ret
  have hlen : (dg a 2 ++ dg b 2).length = 4 := by rw [List.length_append, dg_length, dg_length]
  have ho := HR3.out.own
  have e9 : (dg a 2).length + (dg b 2).length = 4 := by rw [dg_length, dg_length]
  have hrd : Reads u3 a3 4 (dg a 2 ++ dg b 2) := by
    refine own_bytes (c := d3) (B := w.heap.size) ?_ hlen ?_
    · rw [hlen] at ho
      exact ho
    · intro x hx
      rcases List.mem_append.1 hx with h | h
      · exact dg_range _ _ x h
      · exact dg_range _ _ x h
  refine ⟨?_, HR3.out.kw.bel⟩
  refine ⟨a3, d3, ?_, hrd⟩
  first
    | (rw [hlen]; rfl)
    | (rw [e9]; rfl)
theorem bx4 {u : World} {q : Nat} {c0 c1 c2 c3 : Value} {t : TypeId} (h : u.heap[q]? = some (.cells #[c0, c1, c2, c3] t (0, 0))) : u.cell? ⟨q, 0, none⟩ = some c0 ∧ u.cell? ⟨q, 1, none⟩ = some c1 ∧ u.cell? ⟨q, 2, none⟩ = some c2 ∧ u.cell? ⟨q, 3, none⟩ = some c3 :=
  ⟨blk_cell h 0 rfl, blk_cell h 1 rfl, blk_cell h 2 rfl, blk_cell h 3 rfl⟩
theorem bx6 {u : World} {q : Nat} {c0 c1 c2 c3 c4 c5 : Value} {t : TypeId} (h : u.heap[q]? = some (.cells #[c0, c1, c2, c3, c4, c5] t (0, 0))) : u.cell? ⟨q, 0, none⟩ = some c0 ∧ u.cell? ⟨q, 1, none⟩ = some c1 ∧ u.cell? ⟨q, 2, none⟩ = some c2 ∧ u.cell? ⟨q, 3, none⟩ = some c3 ∧ u.cell? ⟨q, 4, none⟩ = some c4 ∧ u.cell? ⟨q, 5, none⟩ = some c5 :=
  ⟨blk_cell h 0 rfl, blk_cell h 1 rfl, blk_cell h 2 rfl, blk_cell h 3 rfl, blk_cell h 4 rfl, blk_cell h 5 rfl⟩
theorem bx13 {u : World} {q : Nat} {c0 c1 c2 c3 c4 c5 c6 c7 c8 c9 c10 c11 c12 : Value} {t : TypeId} (h : u.heap[q]? = some (.cells #[c0, c1, c2, c3, c4, c5, c6, c7, c8, c9, c10, c11, c12] t (0, 0))) :
    u.cell? ⟨q, 0, none⟩ = some c0 ∧ u.cell? ⟨q, 1, none⟩ = some c1 ∧ u.cell? ⟨q, 2, none⟩ = some c2 ∧ u.cell? ⟨q, 3, none⟩ = some c3 ∧ u.cell? ⟨q, 4, none⟩ = some c4 ∧ u.cell? ⟨q, 5, none⟩ = some c5 ∧ u.cell? ⟨q, 6, none⟩ = some c6 ∧ u.cell? ⟨q, 7, none⟩ = some c7 ∧ u.cell? ⟨q, 8, none⟩ = some c8 ∧ u.cell? ⟨q, 9, none⟩ = some c9 ∧ u.cell? ⟨q, 10, none⟩ = some c10 ∧ u.cell? ⟨q, 11, none⟩ = some c11 ∧ u.cell? ⟨q, 12, none⟩ = some c12 :=
  ⟨blk_cell h 0 rfl, blk_cell h 1 rfl, blk_cell h 2 rfl, blk_cell h 3 rfl, blk_cell h 4 rfl, blk_cell h 5 rfl, blk_cell h 6 rfl, blk_cell h 7 rfl, blk_cell h 8 rfl, blk_cell h 9 rfl, blk_cell h 10 rfl, blk_cell h 11 rfl, blk_cell h 12 rfl⟩
theorem dg_one (v : Int) (h0 : 0 ≤ v) (h1 : v < 256) : dg v 1 = [v] := by
  rw [dg_succ]
  have e : v / 256 ^ 0 % 256 = v := by rw [Int.pow_zero, Int.ediv_one]; omega
  rw [e]
  rfl
theorem lit1_reads (u : World) (y : Int) (h0 : 0 ≤ y) (h1 : y ≤ 255) : Reads (u.alloc (.cells #[.int .u8 y] 5)) (some ⟨u.heap.size, 0, none⟩) 1 [y] := by
  refine ⟨rfl, fun x hx => ?_, (fun h => by cases h), fun x hx i hi => ?_⟩
  · rw [List.mem_singleton] at hx
    subst hx
    exact ⟨h0, h1⟩
  · cases hx
    have : i = 0 := by omega
    subst this
    exact blk_cell (heap_alloc_new u _) 0 rfl
end Go.Proofs.Ytoaahellfflooaa
