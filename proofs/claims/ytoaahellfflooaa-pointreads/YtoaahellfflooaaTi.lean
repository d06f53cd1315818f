/-
  SEAT Ytoaahellfflooaa: PointReads: the walk.
-/
import Derived.Test.YtoaahellfflooaaTf
import Derived.Test.YtoaahellfflooaaTh
namespace Go.Proofs.Ytoaahellfflooaa
open Go.RowKit
set_option linter.unusedVariables false

abbrev St.zero : St := ⟨0, 0, 0, 0, [], []⟩
def resR (zs : List Int) : St × Int := match readR zs with
  | none => (St.zero, 140)
  | some s => (s, 0)
theorem rd_u {w w' : World} {zs : List Int} {e : Ending} (h : RdV w zs e w') : ∃ ba bc oa oc ls, e = .returned (.tuple #[.agg #[.int .u64 (resR zs).1.fl, .int .u64 (resR zs).1.nx, .int .i64 (resR zs).1.cu, .int .i64 (resR zs).1.la, .slice ba (resR zs).1.bs.length bc, .slice oa (resR zs).1.os.length oc], .int .i64 (resR zs).2]) ∧ StOwn w' w.heap.size (resR zs).1 (.slice ba (resR zs).1.bs.length bc) (.slice oa (resR zs).1.os.length oc) ls := by
  unfold RdV at h
  unfold resR
  cases hr : readR zs with
  | none =>
    rw [hr] at h
    exact ⟨none, 0, none, 0, [], h, World.ownsRow_nil _ _ _ _, World.ownsRow_nil _ _ _ _, (fun x hx => by cases hx), rfl, Nat.zero_le _, Nat.zero_le _⟩
  | some s =>
    rw [hr] at h
    obtain ⟨ba, bn, bc, oa, on, oc, ls, he, ho⟩ := h
    have h1 : bn = s.bs.length := by
      obtain ⟨a, c, h1⟩ := own_slice ho.b
      cases h1; rfl
    have h2 : on = s.os.length := by
      obtain ⟨a, c, h1⟩ := own_slice ho.o
      cases h1; rfl
    subst h1 h2
    exact ⟨ba, bc, oa, oc, ls, he, ho⟩
theorem res_ok {zs : List Int} (hl : zs.length ≤ 140737488355000) : (∀ o ∈ (resR zs).1.os, o.Sz) ∧ (∀ o ∈ (resR zs).1.os, o.ch.length ≤ 140737488355000) := by
  unfold resR
  cases hr : readR zs with
  | none => exact ⟨(fun o ho => by cases ho), (fun o ho => by cases ho)⟩
  | some s =>
    unfold readR at hr
    rcases hp : stR zs with _ | ⟨s2, _ | ⟨x, r⟩⟩
    · rw [hp] at hr; cases hr
    · rw [hp] at hr
      simp only at hr
      split at hr
      · cases hr; exact ⟨state_sz hp hl, state_ch hp hl⟩
      · cases hr
    · rw [hp] at hr; cases hr
theorem StOwn.oth {u u' : World} {C : Nat} {s : St} {vb vo : Value} {ls : List (Ob × Value)} {r : Option Nat} (h : StOwn u C s vb vo ls) (g : u.grownBy u' r) (h1 : Oth u r C 48) (h2 : Oth u r C 55) (h3 : Oth u r C 71) : StOwn u' C s vb vo ls :=
  ⟨own_oth h.b g h1 (Nat.le_refl _), own_oth h.o g h2 (Nat.le_refl _), h.c.oth g h3 (Nat.le_refl _), h.os, h.bl, h.ol⟩
theorem StOwn.below {u u' : World} {C : Nat} {s : St} {vb vo : Value} {ls : List (Ob × Value)} (h : StOwn u C s vb vo ls) (g : Below u.heap.size u u') : StOwn u' C s vb vo ls := h.kept (grown_of g none) (fun k hk => by cases hk)
theorem StOwn.onR {u : World} {C : Nat} {zs : List Int} {ba oa : Option Addr} {bc oc : Nat} {ls : List (Ob × Value)} (h : StOwn u C (resR zs).1 (.slice ba (resR zs).1.bs.length bc) (.slice oa (resR zs).1.os.length oc) ls) (hl : zs.length ≤ 140737488355000) : StOn u (resR zs).1 ba oa (resR zs).1.bs.length (resR zs).1.os.length ls := by
  have ho := res_ok hl
  obtain ⟨ba', bc', oa', oc', e1, e2, h3⟩ := h.on ho.1 (fun x hx => ho.2 x.1 (by rw [← h.os]; exact List.mem_map_of_mem hx))
  cases e1
  cases e2
  exact h3
theorem no7 (E : Int) (w : World) : Calls Try.prog 7 #[.int .i64 E] w fun e w' => e = .returned (.int .i64 E) ∧ w' = w := by
  go_enter Try.func7, Try.ntmps7
  go_wp2
  go_ret
  exact ⟨rfl, rfl⟩
theorem same9 (a b : Option Addr) (n cap cap2 : Nat) (zs : List Int) (w : World) (h1 : Reads w a n zs) (h2 : Reads w b n zs) : Calls Try.prog 9 #[.slice a n cap, .slice b n cap2] w fun e w' => e = .returned (.bool true) ∧ w' = w := by
  have q1 := conv a n cap zs w h1
  have q2 := conv b n cap2 zs w h2
  go_enter Try.func9, Try.ntmps9
  go_wp2
  go_ret
  exact ⟨ret_bool (by simp), rfl⟩
theorem lit2_reads (u : World) : Reads (u.alloc (.cells #[.int .u8 92, .int .u8 197] 5)) (some ⟨u.heap.size, 0, none⟩) 2 [92, 197] := by
  refine ⟨rfl, (fun x hx => by simp at hx; omega), (fun h => by cases h), fun x hx i hi => ?_⟩
  cases hx
  rw [plain_add, Nat.zero_add]
  have h0 := heap_alloc_new u (.cells #[.int .u8 92, .int .u8 197] 5)
  match i, hi with
  | 0, _ => exact blk_cell h0 0 rfl
  | 1, _ => exact blk_cell h0 1 rfl
theorem made5 (w : World) (q : Nat) (h : w.heap.size = q) : (w.alloc (.cells #[] 5)).ownsRow q 5 1 (.slice (some ⟨q, 0, none⟩) 0 0) 0 (([] : List Int).map (Value.int .u8)) := by
  subst h
  exact World.ownsRow_made w #[] 0 (Nat.le_refl _) (by simp [maxLen]) rfl
theorem oth_ne {u : World} {r : Option Nat} {k : Nat} {cs : Array Value} {e : TypeId} (h : Oth u r 0 e) (hk : u.heap[k]? = some (.cells cs e (0, 0))) : some k ≠ r := by
  intro e2
  rcases h k e2.symm with h1 | ⟨cs2, t, h1, h2⟩
  · exact absurd h1 (by omega)
  · rw [h1] at hk
    injection hk with hk
    injection hk with _ hk
    exact h2 hk
theorem byt_app {zs : List Int} (h : ∀ x ∈ zs, (0 : Int) ≤ x ∧ x ≤ 255) : ∀ x ∈ zs ++ [92, 197], (0 : Int) ≤ x ∧ x ≤ 255 := by
  intro x hx
  rcases List.mem_append.1 hx with h1 | h1
  · exact h x h1
  · simp at h1; omega
theorem row_keep {w u u' : World} {r : Option Nat} (h : Below w.heap.size w u) (g : u.grownBy u' r) (hr : ∀ k, r = some k → w.heap.size ≤ k) : Below w.heap.size w u' := h.grown g h.size hr

set_option maxHeartbeats 4000000 in
set_option maxRecDepth 100000 in
theorem readsWalk (a0 : Option Addr) (len cap : Nat) (zs : List Int) (w : World) (hr : Reads w a0 len zs) (hs : len ≤ 140737488351232) (hc : len ≤ cap) (hcm : cap ≤ 9223372036854775807) :
    Calls Try.prog 3 #[.slice a0 len cap] w fun e w' => e = .returned (.bool true) ∧ Below w.heap.size w w' := by
  have hlz := hr.1
  have hl : zs.length ≤ 140737488355000 := by omega
  have HON := hide (fun u C ba bc oa oc ls (h : StOwn u C (resR zs).1 (.slice ba (resR zs).1.bs.length bc) (.slice oa (resR zs).1.os.length oc) ls) => h.onR hl)
  have HRR := hide (show Calls Try.prog 5 #[.slice a0 len cap] w fun e w' => (∃ ba bc oa oc ls, e = .returned (.tuple #[.agg #[.int .u64 (resR zs).1.fl, .int .u64 (resR zs).1.nx, .int .i64 (resR zs).1.cu, .int .i64 (resR zs).1.la, .slice ba (resR zs).1.bs.length bc, .slice oa (resR zs).1.os.length oc], .int .i64 (resR zs).2]) ∧ StOwn w' w.heap.size (resR zs).1 (.slice ba (resR zs).1.bs.length bc) (.slice oa (resR zs).1.os.length oc) ls) ∧ Below w.heap.size w w' by
    have h9 := rread_any a0 cap zs w (by rw [hlz]; exact hr) hl (by omega) hcm
    rw [hlz] at h9
    exact h9.mono fun e w' h => ⟨rd_u h.1, h.2⟩)
  have HRP := hide (fun (g c : Nat) (u : World) (h1 : Reads u (some ⟨g, 0, none⟩) len zs) (h2 : g < u.heap.size) (h3 : len ≤ c) (h4 : c ≤ 9223372036854775807) => show Calls Try.prog 6 #[.slice (some ⟨g, 0, none⟩) len c] u fun e w' => (∃ ba bc oa oc ls, e = .returned (.tuple #[.agg #[.int .u64 (resR zs).1.fl, .int .u64 (resR zs).1.nx, .int .i64 (resR zs).1.cu, .int .i64 (resR zs).1.la, .slice ba (resR zs).1.bs.length bc, .slice oa (resR zs).1.os.length oc], .int .i64 (resR zs).2]) ∧ StOwn w' u.heap.size (resR zs).1 (.slice ba (resR zs).1.bs.length bc) (.slice oa (resR zs).1.os.length oc) ls) ∧ Below u.heap.size u w' from
    (read_any g 0 len c zs u h1 h2 (by omega) h3 h4).mono fun e w' h => ⟨rd_u h.1, h.2⟩)
  have HS8 := hide (fun ba oa ba2 oa2 bc oc bc2 oc2 ls ms u (h1 : StOn u (resR zs).1 ba oa (resR zs).1.bs.length (resR zs).1.os.length ls) (h2 : StOn u (resR zs).1 ba2 oa2 (resR zs).1.bs.length (resR zs).1.os.length ms) => same8 (resR zs).1 ba oa ba2 oa2 (resR zs).1.bs.length (resR zs).1.os.length bc oc bc2 oc2 ls ms u h1 h2)
  obtain ⟨⟨⟨fl, nx, cu, la, bs, os⟩, E⟩, hres⟩ : ∃ x, resR zs = x := ⟨_, rfl⟩
  rw [hres] at HON HRR HRP HS8
  simp only at HON HRR HRP HS8
  obtain ⟨bn, hbn⟩ : ∃ bn, bs.length = bn := ⟨_, rfl⟩
  obtain ⟨on, hon⟩ : ∃ on, os.length = on := ⟨_, rfl⟩
  rw [hbn, hon] at HON HRR HRP HS8
  have HR := hide hr
  have HBY := hide hr.2.1
  have HLZ := hide hlz
  have hEE : (E == E) = true := by simp
  clear hr hl hlz hc hcm hres
  go_enter Try.func3, Try.ntmps3
  go_wp2_with (first
    | (have h9 := HRR; clear h9; go_at_call 5; refine HRR.out.mono ?_; rintro e u1 ⟨⟨xb, xc, xo, xd, ls, rfl, own⟩, b1⟩
       have hb := below_alloc u1 (.cells #[.int .u64 fl, .int .u64 nx, .int .i64 cu, .int .i64 la, .slice xb bn xc, .slice xo on xd] 27)
       have HW := hide (own.below hb)
       have HX := hide (heap_alloc_new u1 (.cells #[.int .u64 fl, .int .u64 nx, .int .i64 cu, .int .i64 la, .slice xb bn xc, .slice xo on xd] 27))
       have HB1 := hide (b1.trans (hb.mono b1.size))
       clear HRR own b1 hb)
    | (at_builtin; have h9 := HX; clear h9
       have hb := below_alloc (u1.alloc (.cells #[.int .u64 fl, .int .u64 nx, .int .i64 cu, .int .i64 la, .slice xb bn xc, .slice xo on xd] 27)) (.cells #[] 5)
       have hm5 := made5 (u1.alloc (.cells #[.int .u64 fl, .int .u64 nx, .int .i64 cu, .int .i64 la, .slice xb bn xc, .slice xo on xd] 27)) (u1.heap.size + 1) (by simp)
       have HW2 := hide (HW.out.below hb)
       have HX2 := hide ((hb.block _ (by simp)).trans HX.out)
       have HB2 := hide (HB1.out.trans (hb.mono HB1.out.size))
       refine wpList_append_reads rfl (.tmp 13) (.tmp 14) rfl (u1.heap.size + 1) _ 0 [] rfl hm5 _ _ _ zs rfl (HR.out.below HB2.out) (by omega) (by simp) ?_
       intro v6 u6 o6 g6
       rw [Nat.zero_add, List.nil_append] at o6
       have h48 : Oth ((u1.alloc (.cells #[.int .u64 fl, .int .u64 nx, .int .i64 cu, .int .i64 la, .slice xb bn xc, .slice xo on xd] 27)).alloc (.cells #[] 5)) (Value.ownBlock (.slice (some ⟨u1.heap.size + 1, 0, none⟩) 0 0)) w.heap.size 48 := oth_own hm5 (by decide)
       have h55 : Oth ((u1.alloc (.cells #[.int .u64 fl, .int .u64 nx, .int .i64 cu, .int .i64 la, .slice xb bn xc, .slice xo on xd] 27)).alloc (.cells #[] 5)) (Value.ownBlock (.slice (some ⟨u1.heap.size + 1, 0, none⟩) 0 0)) w.heap.size 55 := oth_own hm5 (by decide)
       have h71 : Oth ((u1.alloc (.cells #[.int .u64 fl, .int .u64 nx, .int .i64 cu, .int .i64 la, .slice xb bn xc, .slice xo on xd] 27)).alloc (.cells #[] 5)) (Value.ownBlock (.slice (some ⟨u1.heap.size + 1, 0, none⟩) 0 0)) w.heap.size 71 := oth_own hm5 (by decide)
       have HW6 := hide (HW2.out.oth g6 h48 h55 h71)
       have HX6 := hide ((g6.block _ (lt_of_block HX2.out) (fun e => by have h8 := Option.some.inj e; simp at h8)).trans HX2.out)
       have HB6 := hide (row_keep HB2.out g6 (fun k hk => by cases hk; have h8 := HB1.out.size; simp at h8; omega))
       have HO6 := hide (own_low o6 (show w.heap.size ≤ u1.heap.size + 1 by have h8 := HB1.out.size; simp at h8; omega))
       obtain ⟨ga, gc, rfl⟩ := own_slice o6
       clear hb hm5 h48 h55 h71 o6 g6 HX HW HB1 HW2 HX2 HB2)
    | (at_builtin; have h9 := HX6; clear h9
       have hb := below_alloc u6 (.cells #[.int .u8 92, .int .u8 197] 5)
       have HW7 := hide (HW6.out.below hb)
       have HX7 := hide ((hb.block _ (lt_of_block HX6.out)).trans HX6.out)
       have HB7 := hide (HB6.out.trans (hb.mono HB6.out.size))
       have HO7 := hide (own_bel HO6.out hb)
       refine wpList_append_reads rfl (.tmp 15) (.tmp 16) rfl w.heap.size _ (len) zs rfl HO7.out _ _ _ [92, 197] rfl (lit2_reads u6) (by omega) HB7.out.size ?_
       intro v8 u8 o8 g8
       have h48 : Oth (u6.alloc (.cells #[.int .u8 92, .int .u8 197] 5)) (Value.ownBlock (.slice ga (len) gc)) w.heap.size 48 := oth_own HO7.out (by decide)
       have h55 : Oth (u6.alloc (.cells #[.int .u8 92, .int .u8 197] 5)) (Value.ownBlock (.slice ga (len) gc)) w.heap.size 55 := oth_own HO7.out (by decide)
       have h71 : Oth (u6.alloc (.cells #[.int .u8 92, .int .u8 197] 5)) (Value.ownBlock (.slice ga (len) gc)) w.heap.size 71 := oth_own HO7.out (by decide)
       have h27 : Oth (u6.alloc (.cells #[.int .u8 92, .int .u8 197] 5)) (Value.ownBlock (.slice ga (len) gc)) 0 27 := oth_own HO7.out (by decide)
       have HW8 := hide (HW7.out.oth g8 h48 h55 h71)
       have HX8 := hide ((g8.block _ (lt_of_block HX7.out) (oth_ne h27 HX7.out)).trans HX7.out)
       have HB8 := hide (row_keep HB7.out g8 (fun k hk => (HO7.out.lt k hk).1))
       obtain ⟨g, c8, rfl, hgc, hcm8, _, hg8⟩ := own_shape o8 (by omega)
       have HO8 := hide (show Own u8 w.heap.size g (len + 2) c8 (zs ++ [92, 197]) from o8)
       have HG8 := hide hg8
       have n2 : len ≤ c8 := by omega
       have n2i : (len : Int) ≤ (c8 : Int) := by omega
       have HC8 := hide (show c8 ≤ 9223372036854775807 by simp only [maxLen] at hcm8; omega)
       clear hb h48 h55 h71 h27 o8 g8 hgc hcm8 hg8 HX6 HW6 HB6 HO6 HX7 HW7 HB7 HO7)
    | (have h9 := HX8; clear h9; go_at_call 6
       have hrd : Reads u8 (some ⟨g, 0, none⟩) len zs := by
         have h7 := HO8.out.reads (byt_app HBY.out) len (by omega)
         rwa [List.take_left' HLZ.out] at h7
       refine (HRP.out g c8 _ hrd HG8.out n2 HC8.out).mono ?_; rintro e u9 ⟨⟨yb, yc, yo, yd, ms, rfl, own⟩, b9⟩
       have hb := below_alloc u9 (.cells #[.int .u64 fl, .int .u64 nx, .int .i64 cu, .int .i64 la, .slice yb bn yc, .slice yo on yd] 27)
       have hbb : Below u8.heap.size u8 (u9.alloc (.cells #[.int .u64 fl, .int .u64 nx, .int .i64 cu, .int .i64 la, .slice yb bn yc, .slice yo on yd] 27)) := b9.trans (hb.mono b9.size)
       have HV9 := hide (own.below hb)
       have HY9 := hide (heap_alloc_new u9 (.cells #[.int .u64 fl, .int .u64 nx, .int .i64 cu, .int .i64 la, .slice yb bn yc, .slice yo on yd] 27))
       have HW9 := hide (HW8.out.below hbb)
       have HX9 := hide ((hbb.block _ (lt_of_block HX8.out)).trans HX8.out)
       have HB9 := hide (HB8.out.trans (hbb.mono HB8.out.size))
       have HO9 := hide (HO8.out.below hbb)
       clear hrd own b9 hb hbb HX8 HW8 HB8 HO8)
    | (have h9 := HX9; clear h9; go_at_call 7; refine (no7 E _).mono ?_; rintro e t1 ⟨rfl, ht1⟩; subst ht1
       have p0 : (u9.alloc (.cells #[.int .u64 fl, .int .u64 nx, .int .i64 cu, .int .i64 la, .slice yb bn yc, .slice yo on yd] 27)).cell? ⟨u1.heap.size, 0, none⟩ = some (.int .u64 fl) := blk_cell HX9.out 0 rfl
       have p1 : (u9.alloc (.cells #[.int .u64 fl, .int .u64 nx, .int .i64 cu, .int .i64 la, .slice yb bn yc, .slice yo on yd] 27)).cell? ⟨u1.heap.size, 1, none⟩ = some (.int .u64 nx) := blk_cell HX9.out 1 rfl
       have p2 : (u9.alloc (.cells #[.int .u64 fl, .int .u64 nx, .int .i64 cu, .int .i64 la, .slice yb bn yc, .slice yo on yd] 27)).cell? ⟨u1.heap.size, 2, none⟩ = some (.int .i64 cu) := blk_cell HX9.out 2 rfl
       have p3 : (u9.alloc (.cells #[.int .u64 fl, .int .u64 nx, .int .i64 cu, .int .i64 la, .slice yb bn yc, .slice yo on yd] 27)).cell? ⟨u1.heap.size, 3, none⟩ = some (.int .i64 la) := blk_cell HX9.out 3 rfl
       have p4 : (u9.alloc (.cells #[.int .u64 fl, .int .u64 nx, .int .i64 cu, .int .i64 la, .slice yb bn yc, .slice yo on yd] 27)).cell? ⟨u1.heap.size, 4, none⟩ = some (.slice xb bn xc) := blk_cell HX9.out 4 rfl
       have p5 : (u9.alloc (.cells #[.int .u64 fl, .int .u64 nx, .int .i64 cu, .int .i64 la, .slice yb bn yc, .slice yo on yd] 27)).cell? ⟨u1.heap.size, 5, none⟩ = some (.slice xo on xd) := blk_cell HX9.out 5 rfl
       have r0 : (u9.alloc (.cells #[.int .u64 fl, .int .u64 nx, .int .i64 cu, .int .i64 la, .slice yb bn yc, .slice yo on yd] 27)).cell? ⟨u9.heap.size, 0, none⟩ = some (.int .u64 fl) := blk_cell HY9.out 0 rfl
       have r1 : (u9.alloc (.cells #[.int .u64 fl, .int .u64 nx, .int .i64 cu, .int .i64 la, .slice yb bn yc, .slice yo on yd] 27)).cell? ⟨u9.heap.size, 1, none⟩ = some (.int .u64 nx) := blk_cell HY9.out 1 rfl
       have r2 : (u9.alloc (.cells #[.int .u64 fl, .int .u64 nx, .int .i64 cu, .int .i64 la, .slice yb bn yc, .slice yo on yd] 27)).cell? ⟨u9.heap.size, 2, none⟩ = some (.int .i64 cu) := blk_cell HY9.out 2 rfl
       have r3 : (u9.alloc (.cells #[.int .u64 fl, .int .u64 nx, .int .i64 cu, .int .i64 la, .slice yb bn yc, .slice yo on yd] 27)).cell? ⟨u9.heap.size, 3, none⟩ = some (.int .i64 la) := blk_cell HY9.out 3 rfl
       have r4 : (u9.alloc (.cells #[.int .u64 fl, .int .u64 nx, .int .i64 cu, .int .i64 la, .slice yb bn yc, .slice yo on yd] 27)).cell? ⟨u9.heap.size, 4, none⟩ = some (.slice yb bn yc) := blk_cell HY9.out 4 rfl
       have r5 : (u9.alloc (.cells #[.int .u64 fl, .int .u64 nx, .int .i64 cu, .int .i64 la, .slice yb bn yc, .slice yo on yd] 27)).cell? ⟨u9.heap.size, 5, none⟩ = some (.slice yo on yd) := blk_cell HY9.out 5 rfl)
    | (have h9 := HX9; clear h9; go_at_call 8; refine (HS8.out yb yo xb xo yc yd xc xd ms ls _ (HON.out _ _ _ _ _ _ _ HV9.out) (HON.out _ _ _ _ _ _ _ HW9.out)).mono ?_; rintro e t2 ⟨rfl, b2⟩
       have HB10 := hide (HB9.out.trans (b2.mono HB9.out.size))
       have HO10 := hide (HO9.out.below b2)
       clear b2)
    | (have h9 := HO10; clear h9; go_at_call 9
       have hby2 := byt_app HBY.out
       have hrd : Reads t2 (some ⟨g, 0, none⟩) len zs := by
         have h7 := HO10.out.reads hby2 len (by omega)
         rwa [List.take_left' HLZ.out] at h7
       refine (same9 (some ⟨g, 0, none⟩) a0 len _ _ zs _ hrd (HR.out.below HB10.out)).mono ?_; rintro e t3 ⟨rfl, ht3⟩; subst ht3
       have k1 : t3.cell? ⟨g, len, none⟩ = some (.int .u8 92) := by
         have h7 := HO10.out.cell len (by omega)
         rw [h7]; congr 2
         rw [List.getD_eq_getElem?_getD, List.getElem?_append_right (by rw [HLZ.out]; exact Nat.le_refl _), HLZ.out, Nat.sub_self]; rfl
       have k2 : t3.cell? ⟨g, len + 1, none⟩ = some (.int .u8 197) := by
         have h7 := HO10.out.cell (len + 1) (by omega)
         rw [h7]; congr 2
         rw [List.getD_eq_getElem?_getD, List.getElem?_append_right (by rw [HLZ.out]; omega), HLZ.out, Nat.add_sub_cancel_left]; rfl
       have e8 : IntKind.i64.wrap ((len : Int) + 1) = (len : Int) + 1 := by rw [IntKind.wrap_i64]; omega
       clear hby2 hrd))
  go_ret
  exact ⟨rfl, HB10.out⟩
end Go.Proofs.Ytoaahellfflooaa
