/-
  SEAT YtnmnhgagnfodhaaDoor: KFq, KWa.
-/
import Derived.Test.YtnmnhgagnfodhaaDoorMo
namespace Go.Proofs.YtnmnhgagnfodhaaDoor.Cp
open Go.RowKit Go.Conc
set_option linter.unusedVariables false
def flHas (C : Ch) (pb pp : Int) (bit : Nat) : Bool := (C.fl pb pp).any (fun z => ((unitN C.S z : Nat) : Int) == ((unitN C.S bit : Nat) : Int))
def FlipC (C : Ch) (pb pp bit : Int) : Int × Ch :=
 if hasP C.B C.P pb pp = false then (41, C) else
  match C.bl[pb.toNat]? with
  | none => (41, C)
  | some b =>
   match b.ps[pp.toNat]? with
   | none => (41, C)
   | some q => if decide (bit < 0) || decide (8 * (pgB C.S : Int) ≤ bit) || !q.h || flHas C pb pp bit.toNat then (46, C) else (0, { C with fl := flS C.fl pb pp bit.toNat })
theorem Flip_any (w : World) (p : Nat) (F : Nat → Prop) (C : Ch) (h : ChipAt w p F C) (hok : C.Ok) (hln : ∀ b p, (C.fl b p).length ≤ 4000000000000) (pb pp bit : Int) (hbit : bit ≤ 9223372036854775807) :
  Calls Tryd.prog 28 #[.pointer (some ⟨p, 0, none⟩), .agg #[.int .i64 pb, .int .i64 pp], .int .i64 bit] w fun e w' => e = .returned (.int .i64 (FlipC C pb pp bit).1) ∧ ChipAt w' p (Fx F w w') (FlipC C pb pp bit).2 ∧ Only F w w' := by
 obtain ⟨x, bs, fe, hc⟩ := h
 have h : ChipAt w p F C := ⟨x, bs, fe, hc⟩
 unfold FlipC
 cases hp : hasP C.B C.P pb pp with
 | false =>
  refine (flip_a w p F C x bs fe hc pb pp bit hp).mono ?_
  rintro e w' ⟨rfl, hb⟩
  exact ⟨rfl, h.fx hb, Only.ofB hb⟩
 | true =>
  obtain ⟨i, k, rfl, rfl, hi, hk⟩ := hasP_nat hp
  have hbl : i < bs.length := by rw [hc.len, hok.bl]; exact hi
  have hib : bs[i]? = some bs[i] := List.getElem?_eq_getElem hbl
  obtain ⟨b, hb⟩ : ∃ b, bs[i] = b := ⟨_, rfl⟩
  rw [hb] at hib
  have hkl : k < b.ps.length := by rw [(hc.bok b (List.mem_of_getElem? hib)).np]; exact hk
  have hkq : b.ps[k]? = some b.ps[k] := List.getElem?_eq_getElem hkl
  obtain ⟨q, hq⟩ : ∃ q, b.ps[k] = q := ⟨_, rfl⟩
  rw [hq] at hkq
  have e1 : C.bl[i]? = some b.v := by rw [← hc.bl, List.getElem?_map, hib]; rfl
  have e2 : b.v.ps[k]? = some q.v := by show (b.ps.map Pc.v)[k]? = _; rw [List.getElem?_map, hkq]; rfl
  simp only [Int.toNat_natCast, e1, e2, Bool.true_eq_false, if_false]
  have fin46 : ∀ {e : Ending} {w' : World} {Z : Int × Ch}, (e = .returned (.int .i64 46) ∧ Below w.heap.size w w') → Z = (46, C) → e = .returned (.int .i64 Z.1) ∧ ChipAt w' p (Fx F w w') Z.2 ∧ Only F w w' := by
   rintro e w' Z ⟨rfl, hB⟩ rfl
   exact ⟨rfl, h.fx hB, Only.ofB hB⟩
  by_cases h0 : bit < 0
  ·exact (flip_n w p F C x bs fe hc hok i k b q hib hkq bit (decide_eq_true h0)).mono fun e w' hr => fin46 hr (by rw [decide_eq_true h0]; rfl)
  ·obtain ⟨n, rfl⟩ : ∃ n : Nat, bit = n := ⟨bit.toNat, by omega⟩
   rw [Int.toNat_natCast]
   rw [decide_eq_false h0]
   by_cases h1 : 8 * pgB C.S ≤ n
   ·exact (flip_g w p F C x bs fe hc hok i k b q hib hkq n h1 hbit).mono fun e w' hr => fin46 hr (by rw [decide_eq_true (show 8 * (pgB C.S : Int) ≤ (n : Int) by omega)]; rfl)
   ·rw [decide_eq_false (show ¬ 8 * (pgB C.S : Int) ≤ (n : Int) by omega)]
    have h1' : n < 8 * pgB C.S := by omega
    cases hq1 : q.h with
    | false => exact (flip_h w p F C x bs fe hc hok i k b q hib hkq n h1' hq1).mono fun e w' hr => fin46 hr (by rw [show q.v.h = false from hq1]; rfl)
    | true =>
     rw [show q.v.h = true from hq1]
     cases ha : flHas C (i : Int) (k : Int) n with
     | true => exact (flip_u w p F C x bs fe hc hok i k b q hib hkq n h1' hq1 (hln _ _) ha).mono fun e w' hr => fin46 hr rfl
     | false =>
      refine (flip_yes w p F C x bs fe hc hok i k b q hib hkq n h1' hq1 (hln _ _) ha).mono ?_
      rintro e w' ⟨rfl, h2, h3⟩
      exact ⟨rfl, h2, h3⟩
end Go.Proofs.YtnmnhgagnfodhaaDoor.Cp
namespace Go.Proofs.YtnmnhgagnfodhaaDoor.Cp
open Go.RowKit Go.Conc
set_option linter.unusedVariables false
structure Fc where
 a : Int
 k : Int
 ma : Option Addr
 ml : Nat
 mc : Nat
 f : Int
 m : List Int
def Fc.zero : Fc := ⟨0, 0, none, 0, 0, 0, []⟩
def Fc.t (c : Fc) : Ft := ⟨c.a, c.k, c.m, c.f⟩
def Fc.cell (c : Fc) : Nat → Value
 | 0 => .int .i64 c.a
 | 1 => .int .i64 c.k
 | 2 => .slice c.ma c.ml c.mc
 | _ => .int .u8 c.f
structure FcOk (w : World) (c : Fc) : Prop where
 rd : Reads w c.ma c.ml c.m
 le : c.ml ≤ 140737488351232
 cap : c.ml ≤ c.mc
 fill : 0 ≤ c.f ∧ c.f ≤ 255
 a : -9223372036854775808 ≤ c.a ∧ c.a ≤ 9223372036854775807
 k : -9223372036854775808 ≤ c.k ∧ c.k ≤ 9223372036854775807
def ReadsF (w : World) (a : Option Addr) (len : Nat) (fs : List Fc) : Prop :=
 fs.length = len ∧ (∀ c ∈ fs, FcOk w c) ∧ (a = none → len = 0) ∧ ∀ x, a = some x → ∀ i, i < len → ∀ j, j < 4 → w.cell? (x.add (i * 4 + j)) = some ((fs.getD i Fc.zero).cell j)
theorem ReadsF.pos {w : World} {a : Option Addr} {len : Nat} {fs : List Fc} (h : ReadsF w a len fs) (hp : 0 < len) :
  ∃ b off, a = some ⟨b, off, none⟩ ∧ b < w.heap.size ∧ ∀ i, i < len → w.cell? ⟨b, off + i * 4, none⟩ = some (.int .i64 (fs.getD i Fc.zero).a) ∧ w.cell? ⟨b, off + i * 4 + 1, none⟩ = some (.int .i64 (fs.getD i Fc.zero).k) ∧ w.cell? ⟨b, off + i * 4 + 2, none⟩ = some (.slice (fs.getD i Fc.zero).ma (fs.getD i Fc.zero).ml (fs.getD i Fc.zero).mc) ∧ w.cell? ⟨b, off + i * 4 + 3, none⟩ = some (.int .u8 (fs.getD i Fc.zero).f) := by
 obtain ⟨hl, _, hn, hc⟩ := h
 cases a with
 | none => have := hn rfl; omega
 | some x =>
  obtain ⟨b, off, spot⟩ := x
  have h0 := hc _ rfl 0 hp 0 (by omega)
  have hspot : spot = none := by simpa [Addr.add] using World.cell?_spot h0
  subst hspot
  refine ⟨b, off, rfl, by simpa [Addr.add] using block_lt_of_cell h0, fun i hi => ?_⟩
  have k0 := hc _ rfl i hi 0 (by omega)
  have k1 := hc _ rfl i hi 1 (by omega)
  have k2 := hc _ rfl i hi 2 (by omega)
  have k3 := hc _ rfl i hi 3 (by omega)
  rw [plain_add] at k0 k1 k2 k3
  exact ⟨k0, k1, k2, k3⟩
theorem ReadsF.ok {w : World} {a : Option Addr} {len : Nat} {fs : List Fc} (h : ReadsF w a len fs) (i : Nat) (hi : i < len) : FcOk w (fs.getD i Fc.zero) := by
 rw [List.getD_eq_getElem?_getD, List.getElem?_eq_getElem (by rw [h.1]; exact hi)]
 exact h.2.1 _ (List.getElem_mem _)
theorem info68 : (Tryd.prog.info? 68).map (fun i => (i.zero, i.size, i.bytes)) = some (some (.agg #[.int .i64 0, .int .i64 0, .slice none 0 0, .int .u8 0]), 4, 48) := by kernel_rfl
theorem mk98 (w : World) (n : Nat) (hn : n ≤ 4096) : (Instr.makeChan 66 (.int .i64 (n : Int))).run Tryd.prog w = .ok (.chan (some w.heap.size)) (w.alloc (.chan n #[] false 0 0 false)) := by
 obtain ⟨i, hi, hz0, hz1, hb⟩ := info_parts info68
 simpa using run_makeChan (P := Tryd.prog) (w := w) Tryd.underlying66 hi .i64 n (by omega) (by rw [hb]; omega)
theorem mask_own {u : World} {B B0 n : Nat} {v : Value} {zs : List Int} (h : u.ownsRow B 5 1 v n (zs.map (Value.int .u8))) (hB : B0 ≤ B) (hr : ∀ x ∈ zs, 0 ≤ x ∧ x ≤ 255) (hl : n ≤ 140737488351232) : ∃ a c, v = .slice a n c ∧ n ≤ c ∧ MaskOk u (fun k => B0 ≤ k ∧ k < u.heap.size) a n zs := by
 rcases h.2 with ⟨hv, h0⟩ | ⟨g, cap, cur, hv, hg, hh, hle, _⟩
 ·subst h0
  have h1 := h.1
  simp at h1
  subst h1
  exact ⟨none, 0, hv, Nat.le_refl _, MaskOk.nil _ _⟩
 ·refine ⟨_, cap, hv, hle, ?_⟩
  rw [hv] at h
  exact ⟨reads_of h hr, hl, fun x hx _ => by cases hx; exact ⟨⟨Nat.le_trans hB hg, lt_of_block hh⟩, cur, _, hh⟩⟩
structure WS (w : World) (n : Nat) (fs : List Fc) (j : Nat) (vs : List Value) (u : World) : Prop where
 le : j ≤ n
 len : vs.length = j
 ch : ∃ s r, u.heap[w.heap.size + 1]? = some (.chan n vs.toArray false s r false)
 bx : u.heap[w.heap.size]? = some (.cells #[.chan none, .int .i64 0, .int .i64 0, .slice none 0 0, .int .u8 0, .bool false] 70 (0, 0))
 bel : Below w.heap.size w u
 ok : ∀ (i : Nat) (v : Value) (g : Fc), vs[i]? = some v → fs[i]? = some g → FtOk u (fun k => w.heap.size ≤ k ∧ k < u.heap.size) v g.t
def WA (w : World) (sa : Option Addr) (n c : Nat) (j : Nat) (y5 y13 y14 y15 y16 y17 y18 y19 y20 y21 y22 : Value) : Act :=
 { tmps := #[.slice sa n c, undef, .pointer (some ⟨w.heap.size, 0, none⟩), .chan (some (w.heap.size + 1)), undef, y5, undef, .slice sa n c, .int .i64 (n : Int), .chan (some (w.heap.size + 1)), .slice sa n c, .int .i64 (n : Int), .int .i64 (j : Int), y13, y14, y15, y16, y17, y18, y19, y20, y21, y22, undef, undef, undef, undef, undef, undef, undef, undef, undef, undef, undef, undef], defers := [] }
def WI (w : World) (sa : Option Addr) (n c : Nat) (fs : List Fc) (a : Act) (u : World) : Prop :=
 ∃ j vs y5 y13 y14 y15 y16 y17 y18 y19 y20 y21 y22, a = WA w sa n c j y5 y13 y14 y15 y16 y17 y18 y19 y20 y21 y22 ∧ WS w n fs j vs u
def intAt : Option Value → Nat
 | some (.int _ z) => z.toNat
 | _ => 0
def WM (n : Nat) (a : Act) (_ : World) : Nat := n - intAt (a.tmps[12]?)
theorem ws_step {w u u1 u3 : World} {n j vc : Nat} {fs : List Fc} {vs : List Value} {g : Fc} {va : Option Addr} (hW : WS w n fs j vs u) (hj : j < n) (hg : fs.getD j Fc.zero = g) (hfl : fs.length = n) (hb : Below (u.alloc (.cells #[.int .i64 g.a, .int .i64 g.k, .slice g.ma g.ml g.mc, .int .u8 g.f] 68)).heap.size (u.alloc (.cells #[.int .i64 g.a, .int .i64 g.k, .slice g.ma g.ml g.mc, .int .u8 g.f] 68)) u1) (hm : MaskOk u1 (fun k => w.heap.size ≤ k ∧ k < u1.heap.size) va g.ml g.m) (hvc : g.ml ≤ vc) (hfill : 0 ≤ g.f ∧ g.f ≤ 255)
  (h3 : ∃ s r, u3.heap[w.heap.size + 1]? = some (.chan n (vs ++ [(Value.agg #[.int .i64 g.a, .int .i64 g.k, .slice va g.ml vc, .int .u8 g.f])]).toArray false s r false)) (hO : Only (fun k => k = u.heap.size ∨ k = w.heap.size + 1) u1 u3) : WS w n fs (j + 1) (vs ++ [(Value.agg #[.int .i64 g.a, .int .i64 g.k, .slice va g.ml vc, .int .u8 g.f])]) u3 := by
 have hU : Only (fun k => k = u.heap.size ∨ k = w.heap.size + 1) u u1 := (Only.ofB (below_alloc _ _)).trans (Only.ofB (F := fun k => k = u.heap.size ∨ k = w.heap.size + 1) hb) (fun _ _ h => h)
 have hU3 := hU.trans hO (fun _ _ h => h)
 obtain ⟨s, r, hch⟩ := hW.ch
 have hcl := lt_of_block hch
 have hbl := lt_of_block hW.bx
 refine ⟨hj, by simp [hW.len], h3, (hU3.block _ hbl (fun e => by omega)).trans hW.bx, ?_, ?_⟩
 ·exact ((Only.ofB (F := fun k => w.heap.size ≤ k) hW.bel).trans hU3 (fun k _ e => by rcases e with e | e <;> omega)).below (fun _ h => h) (Nat.le_refl _)
 ·intro i v g' hv hg'
  by_cases hi : i < j
  ·rw [List.getElem?_append_left (by rw [hW.len]; exact hi)] at hv
   exact (hW.ok i v g' hv hg').keep (T := fun t => t = 1002) (hU3.keepT (fun k o t hk ho ht => by
    rcases hk with e | e
    ·have := lt_of_block ho
     omega
    ·rw [e, hch] at ho
     cases ho
     exact ht)) (by decide) (fun k hk => ⟨hk.1, Nat.lt_of_lt_of_le hk.2 hU3.size⟩)
  ·have hl := hW.len
   have hil : i < (vs ++ [(Value.agg #[.int .i64 g.a, .int .i64 g.k, .slice va g.ml vc, .int .u8 g.f])]).length := (List.getElem?_eq_some_iff.1 hv).1
   simp at hil
   have e : i = j := by omega
   subst e
   have eg : g' = g := by rw [← hg, List.getD_eq_getElem?_getD, hg']; rfl
   rw [eg]
   rw [List.getElem?_append_right (by omega), hl, Nat.sub_self] at hv
   cases hv
   have hbx : u1.heap[u.heap.size]? = some (.cells #[.int .i64 g.a, .int .i64 g.k, .slice g.ma g.ml g.mc, .int .u8 g.f] 68 (0, 0)) := (hb.block _ (by simp)).trans (alloc_new u _)
   have hch1 : u1.heap[w.heap.size + 1]? = _ := ((hb.block _ (by rw [alloc_size]; omega)).trans (alloc_old u _ hcl)).trans hch
   exact ⟨⟨va, _, vc, rfl, hm.keep (T := fun t => t = 1002 ∨ t = 68) (hO.keepT (fun k o t hk ho ht => by
    rcases hk with e | e
    ·rw [e, hbx] at ho
     cases ho
     exact Or.inr ht.symm
    ·rw [e, hch1] at ho
     cases ho
     exact Or.inl ht)) (by decide) (fun k hk => ⟨hk.1, Nat.lt_of_lt_of_le hk.2 hO.size⟩), hvc⟩, hfill⟩
theorem set5 {w : World} {g : Nat} {c0 c1 c2 c3 c4 c5 : Value} {T : TypeId} (h : w.heap[g]? = some (.cells #[c0, c1, c2, c3, c4, c5] T (0, 0))) (v1 v2 v3 v4 v5 : Value) : (((((w.setCell ⟨g, 1, none⟩ v1).setCell ⟨g, 2, none⟩ v2).setCell ⟨g, 3, none⟩ v3).setCell ⟨g, 4, none⟩ v4).setCell ⟨g, 5, none⟩ v5).heap[g]? = some (.cells #[c0, v1, v2, v3, v4, v5] T (0, 0)) :=
 heap_setCell_same _ g 5 #[c0, v1, v2, v3, v4, c5] T _ (heap_setCell_same _ g 4 #[c0, v1, v2, v3, c4, c5] T _ (heap_setCell_same _ g 3 #[c0, v1, v2, c3, c4, c5] T _ (heap_setCell_same _ g 2 #[c0, v1, c2, c3, c4, c5] T _ (heap_setCell_same w g 1 _ T _ h))))
theorem only5 (w : World) (g : Nat) (v1 v2 v3 v4 v5 : Value) : Only (· = g) w (((((w.setCell ⟨g, 1, none⟩ v1).setCell ⟨g, 2, none⟩ v2).setCell ⟨g, 3, none⟩ v3).setCell ⟨g, 4, none⟩ v4).setCell ⟨g, 5, none⟩ v5) :=
 ((((Only.setCell (· = g) w g 1 v1 rfl).trans' (Only.setCell _ _ g 2 v2 rfl)).trans' (Only.setCell _ _ g 3 v3 rfl)).trans' (Only.setCell _ _ g 4 v4 rfl)).trans' (Only.setCell _ _ g 5 v5 rfl)
theorem set6 {w : World} {g : Nat} {c0 c1 c2 c3 c4 c5 : Value} {T : TypeId} (h : w.heap[g]? = some (.cells #[c0, c1, c2, c3, c4, c5] T (0, 0))) (v0 v1 v2 v3 v4 v5 : Value) : ((((((w.setCell ⟨g, 0, none⟩ v0).setCell ⟨g, 1, none⟩ v1).setCell ⟨g, 2, none⟩ v2).setCell ⟨g, 3, none⟩ v3).setCell ⟨g, 4, none⟩ v4).setCell ⟨g, 5, none⟩ v5).heap[g]? = some (.cells #[v0, v1, v2, v3, v4, v5] T (0, 0)) :=
 set5 (heap_setCell_same w g 0 #[c0, c1, c2, c3, c4, c5] T v0 h) v1 v2 v3 v4 v5
theorem only6 (w : World) (g : Nat) (v0 v1 v2 v3 v4 v5 : Value) : Only (· = g) w ((((((w.setCell ⟨g, 0, none⟩ v0).setCell ⟨g, 1, none⟩ v1).setCell ⟨g, 2, none⟩ v2).setCell ⟨g, 3, none⟩ v3).setCell ⟨g, 4, none⟩ v4).setCell ⟨g, 5, none⟩ v5) :=
 (Only.setCell (· = g) w g 0 v0 rfl).trans' (only5 _ g v1 v2 v3 v4 v5)
theorem cells6 {w : World} {g : Nat} {c0 c1 c2 c3 c4 c5 : Value} {T : TypeId} (h : w.heap[g]? = some (.cells #[c0, c1, c2, c3, c4, c5] T (0, 0))) : w.cell? ⟨g, 0, none⟩ = some c0 ∧ w.cell? ⟨g, 1, none⟩ = some c1 ∧ w.cell? ⟨g, 2, none⟩ = some c2 ∧ w.cell? ⟨g, 3, none⟩ = some c3 ∧ w.cell? ⟨g, 4, none⟩ = some c4 ∧ w.cell? ⟨g, 5, none⟩ = some c5 := by
 refine ⟨?_, ?_, ?_, ?_, ?_, ?_⟩ <;> simp [World.cell?, h]
set_option maxRecDepth 100000 in
theorem waiting_any (w : World) (sa : Option Addr) (n c : Nat) (fs : List Fc) (hR : ReadsF w sa n fs) (hn : n ≤ 4096) : Calls Tryd.prog 47 #[.slice sa n c] w fun e w' => ∃ x : Bx, e = .returned (.agg #[.chan (some x.c), .int .i64 x.fa, .int .i64 x.fk, .slice x.ma x.ml x.mc, .int .u8 x.ff, .bool x.hn]) ∧ QAt w' (fun k => w.heap.size ≤ k ∧ k < w'.heap.size) x (fs.map Fc.t) ∧ Below w.heap.size w w' := by
 have hmk := fun w => mk98 w n hn
 refine calls_of_wpN Tryd.func47 rfl ?_
 simp only [Tryd.ntmps47, List.size_toArray, List.length_cons, List.length_nil, Nat.reduceAdd, Nat.reduceSub, Array.replicate_succ,
   Array.replicate_zero, List.push_toArray, List.append_toArray, List.nil_append, List.cons_append]
 refine wpN_seq_k fun K hK => wpN_of_wp ?_
 go_wp2
 refine wpN_seq_k fun K hK => wpN_of_wp ?_
 go_wp2
 clear hmk
 refine wpN_seq_k fun K hK => ?_
 have HK := hide hK
 clear hK
 refine wpN_seq_k fun K2 hK2 => wpN_of_wp ?_
 go_wp2
 refine wpN_block ?_
 refine wpN_loop (WI w sa n c fs) (WM n) ⟨0, [], _, _, _, _, _, _, _, _, _, _, _, rfl, ⟨Nat.zero_le _, rfl, ⟨0, 0, by have h2 := alloc_new (w.alloc (.cells #[.chan none, .int .i64 0, .int .i64 0, .slice none 0 0, .int .u8 0, .bool false] 70)) (.chan n #[] false 0 0 false); rw [alloc_size] at h2; exact h2⟩, (alloc_old _ _ (by simp)).trans (alloc_new w _), below_trans (below_alloc _ _) (below_alloc _ _), fun i v g hv => by simp at hv⟩⟩ ?_
 rintro a u ⟨j, vs, y5, y13, y14, y15, y16, y17, y18, y19, y20, y21, y22, rfl, hW⟩
 have HW := hide hW
 have hjn := hW.le
 clear hW
 unfold WA
 by_cases hj : j < n
 ·have hlt : decide ((j : Int) < (n : Int)) = true := decide_eq_true (by omega)
  obtain ⟨b, off, rfl, hb, hcells⟩ := hR.pos (by omega)
  obtain ⟨k0, k1, k2, k3⟩ := hcells j hj
  have hfo := hR.ok j hj
  obtain ⟨g, hg⟩ : ∃ g, fs.getD j Fc.zero = g := ⟨_, rfl⟩
  rw [hg] at k0 k1 k2 k3 hfo
  have HFO := hide hfo
  have HG := hide hg
  have d0 := (HW.out.bel.cell (block_lt_of_cell k0)).trans k0
  have d1 := (HW.out.bel.cell (block_lt_of_cell k1)).trans k1
  have d2 := (HW.out.bel.cell (block_lt_of_cell k2)).trans k2
  have d3 := (HW.out.bel.cell (block_lt_of_cell k3)).trans k3
  clear k0 k1 k2 k3 hfo hg hcells
  refine wpN_seq_k fun K3 hK3 => wpN_of_wp ?_
  go_wp2
  refine wpN_seq_k fun K4 hK4 => wpN_of_wp ?_
  go_wp2
  refine wpN_seq_k fun K5 hK5 => ?_
  refine wpN_block ?_
  refine wpN_seq_k fun K6 hK6 => wpN_of_wp ?_
  go_wp2
  have RD := hide ((HFO.out.rd.below HW.out.bel).below (below_alloc u (.cells #[.int .i64 g.a, .int .i64 g.k, .slice g.ma g.ml g.mc, .int .u8 g.f] 68)))
  have HFL := hide hR.1
  have HRD := hide hR
  clear hR d0 d1 d2 d3
  refine wpN_seq_k fun K7 hK7 => wpN_of_wp ?_
  go_wp2_with (first | (go_at_call 41; refine (clone_any g.ma g.ml g.mc g.m _ RD.out HFO.out.le).mono ?_; rintro e u1 ⟨v, rfl, ow, b1⟩; obtain ⟨va, vc, rfl, hvc, hvm⟩ := mask_own (B0 := w.heap.size) ow (by rw [alloc_size]; have := HW.out.bel.size; omega) HFO.out.rd.2.1 HFO.out.le; have hbx : u1.heap[u.heap.size]? = some (.cells #[.int .i64 g.a, .int .i64 g.k, .slice g.ma g.ml g.mc, .int .u8 g.f] 68 (0, 0)) := (b1.block _ (by simp)).trans (alloc_new u _); have HBX := hide hbx; have HB1 := hide b1; have HVM := hide hvm; have HVC := hide hvc; obtain ⟨q0, q1, q2, q3⟩ := cells4 hbx; have fq := fun j => frozen_of_row u1 u.heap.size j _ 68 hbx; clear ow b1 hvc hvm hbx))
  have x2 := heap_setCell_same u1 u.heap.size 2 #[.int .i64 g.a, .int .i64 g.k, .slice g.ma g.ml g.mc, .int .u8 g.f] 68 (.slice va g.ml vc) HBX.out
  have o2 := Only.setCell (· = u.heap.size) u1 u.heap.size 2 (.slice va g.ml vc) rfl
  generalize hu2 : World.setCell u1 _ _ = u2 at x2 o2 ⊢
  clear q0 q1 q2 q3 fq
  obtain ⟨q0, q1, q2, q3⟩ := cells4 (c2 := .slice va g.ml vc) x2
  obtain ⟨s, r, hch⟩ := HW.out.ch
  have hne : w.heap.size + 1 ≠ u.heap.size := by have := lt_of_block hch; omega
  have hch2 : u2.heap[w.heap.size + 1]? = some (.chan n vs.toArray false s r false) := (o2.block _ (Nat.lt_of_lt_of_le (lt_of_block hch) (by have := HB1.out.size; rw [alloc_size] at this; omega)) hne).trans ((HB1.out.block _ (by rw [alloc_size]; have := lt_of_block hch; omega)).trans ((alloc_old u _ (lt_of_block hch)).trans hch))
  refine wpN_region ?_
  show SemOps _ _ _ [0, 1, 2] _ _
  refine semops_value rfl rfl rfl ?_
  refine semops_value rfl rfl (by simp [go_sem, execOp, Act.eval, q0, q1, q2, q3]; exact ⟨rfl, rfl⟩) ?_
  refine semops_send_room (c := w.heap.size + 1) (cap := n) (s := s) (r := r) (tm := false) (buf := vs.toArray) (v := (Value.agg #[.int .i64 g.a, .int .i64 g.k, .slice va g.ml vc, .int .u8 g.f])) (z := .tuple #[]) rfl rfl (by simp [go_sem, execOp, Act.eval, scase]) hch2 (by simp [HW.out.len]; exact hj) ?_
  have h3 : ∃ s' r', (u2.setChan (w.heap.size + 1) n (vs.toArray.push (Value.agg #[.int .i64 g.a, .int .i64 g.k, .slice va g.ml vc, .int .u8 g.f])) false (s + 1) r false).heap[w.heap.size + 1]? = some (.chan n (vs ++ [(Value.agg #[.int .i64 g.a, .int .i64 g.k, .slice va g.ml vc, .int .u8 g.f])]).toArray false s' r' false) := ⟨s + 1, r, by rw [heap_setChan _ _ _ _ _ _ _ _ (lt_of_block hch2)]; simp⟩
  have o3 : Only (fun k => k = u.heap.size ∨ k = w.heap.size + 1) u1 (u2.setChan (w.heap.size + 1) n (vs.toArray.push (Value.agg #[.int .i64 g.a, .int .i64 g.k, .slice va g.ml vc, .int .u8 g.f])) false (s + 1) r false) := (o2.mono (fun _ _ e => Or.inl e)).trans (G := fun k => k = w.heap.size + 1) ⟨rfl, rfl, rfl, by simp [World.setChan], fun k hk hf => by simp only [World.setChan]; rw [Array.getElem?_setIfInBounds_ne (fun e => hf e.symm)]⟩ (fun _ _ e => Or.inr e)
  have HS := hide (ws_step HW.out hj HG.out HFL.out HB1.out HVM.out HVC.out HFO.out.fill h3 o3)
  generalize hu3 : World.setChan u2 _ _ _ _ _ _ _ = u3 at HS ⊢
  clear h3 o3 hu3 hu2 hch2 hch x2 o2 q0 q1 q2 q3
  refine semops_drop 3 _ rfl ?_
  simp only [List.drop_succ_cons, List.drop_zero]
  have hw1 : IntKind.i64.wrap ((j : Int) + 1) = ((j + 1 : Nat) : Int) := by simp only [IntKind.wrap_i64]; omega
  go_wp2
  refine wpN_of_wp ?_
  go_wp2
  refine ⟨⟨j + 1, _, _, _, _, _, _, _, _, _, _, _, _, rfl, HS.out⟩, ?_⟩
  show n - intAt (some (.int .i64 ((j + 1 : Nat) : Int))) < n - intAt (some (.int .i64 (j : Int)))
  simp only [intAt, Int.toNat_natCast]
  omega
 ·have hlt : decide ((j : Int) < (n : Int)) = false := decide_eq_false (by omega)
  refine wpN_seq_k fun K3 hK3 => wpN_of_wp ?_
  go_wp2
  refine wpN_seq_k fun K4 hK4 => wpN_of_wp ?_
  go_wp2
  have ej : j = n := by omega
  subst ej
  obtain ⟨s, r, hch⟩ := HW.out.ch
  refine HK.out _ _ ?_
  clear HK
  have hcl := fun ats ty => run_close_open (P := Tryd.prog) ats ty hch
  refine wpN_seq_k fun K5 hK5 => wpN_of_wp ?_
  go_wp2
  clear hcl
  have o1 := only_set u (w.heap.size + 1) (.chan j vs.toArray true s r false)
  have c1 := heap_set u (w.heap.size + 1) (.chan j vs.toArray true s r false) (lt_of_block hch)
  obtain ⟨t, ht⟩ : ∃ t, t = ({ u with heap := u.heap.setIfInBounds (w.heap.size + 1) (.chan j vs.toArray true s r false) } : World) := ⟨_, rfl⟩
  rw [← ht] at o1 c1 ⊢
  clear ht
  refine wpN_seq_k fun K6 hK6 => wpN_of_wp ?_
  go_wp2
  have HO1 := hide ((Only.ofB (F := fun k => k = w.heap.size + 1) (below_alloc t (.cells #[.chan (some (w.heap.size + 1)), .int .i64 0, .int .i64 0, .slice none 0 0, .int .u8 0, .bool false] 70))))
  have hcl := lt_of_block c1
  have hts : w.heap.size < t.heap.size := by omega
  have c2 : (t.alloc (.cells #[.chan (some (w.heap.size + 1)), .int .i64 0, .int .i64 0, .slice none 0 0, .int .u8 0, .bool false] 70)).heap[w.heap.size + 1]? = some (.chan j vs.toArray true s r false) := (alloc_old t _ hcl).trans c1
  have x2 : (t.alloc (.cells #[.chan (some (w.heap.size + 1)), .int .i64 0, .int .i64 0, .slice none 0 0, .int .u8 0, .bool false] 70)).heap[t.heap.size]? = some (.cells #[.chan (some (w.heap.size + 1)), .int .i64 0, .int .i64 0, .slice none 0 0, .int .u8 0, .bool false] 70 (0, 0)) := alloc_new t _
  have z2 : (t.alloc (.cells #[.chan (some (w.heap.size + 1)), .int .i64 0, .int .i64 0, .slice none 0 0, .int .u8 0, .bool false] 70)).heap[w.heap.size]? = some (.cells #[.chan none, .int .i64 0, .int .i64 0, .slice none 0 0, .int .u8 0, .bool false] 70 (0, 0)) := (alloc_old t _ hts).trans ((o1.block _ (lt_of_block HW.out.bx) (by omega)).trans HW.out.bx)
  have b2 : Only (fun k => k = w.heap.size + 1) u (t.alloc (.cells #[.chan (some (w.heap.size + 1)), .int .i64 0, .int .i64 0, .slice none 0 0, .int .u8 0, .bool false] 70)) := o1.trans (Only.ofB (F := fun k => k = w.heap.size + 1) (below_alloc t _)) (fun _ _ h => h)
  have hsz2 : t.heap.size < (t.alloc (.cells #[.chan (some (w.heap.size + 1)), .int .i64 0, .int .i64 0, .slice none 0 0, .int .u8 0, .bool false] 70)).heap.size := by simp
  obtain ⟨tb, htb⟩ : ∃ tb, tb = t.heap.size := ⟨_, rfl⟩
  obtain ⟨t2, ht2⟩ : ∃ t2, t2 = t.alloc (.cells #[.chan (some (w.heap.size + 1)), .int .i64 0, .int .i64 0, .slice none 0 0, .int .u8 0, .bool false] 70) := ⟨_, rfl⟩
  have hut : u.heap.size ≤ t.heap.size := o1.size
  rw [← htb] at x2 hsz2 hut hts ⊢
  rw [← ht2] at c2 x2 z2 b2 hsz2 ⊢
  clear HO1 ht2 htb c1 o1
  refine wpN_seq_k fun K7 hK7 => wpN_region ?_
  show SemOps _ _ _ [0, 1, 2, 3, 4, 5, 6, 7, 8, 9] _ _
  refine semops_value rfl rfl (by simp [go_sem, execOp, Act.eval]; exact ⟨rfl, rfl⟩) ?_
  have e0 := (cells6 x2).1
  refine semops_value rfl rfl (by simp [go_sem, execOp, Act.eval, e0]; first | exact ⟨rfl, rfl⟩ | rfl) ?_
  clear e0
  have HRL := hide hR.1
  cases vs with
  | nil =>
   have hfs : fs.map Fc.t = [] := by
    have h1 := HW.out.len
    have h2 := HRL.out
    simp at h1
    subst h1
    rw [List.length_eq_zero_iff.1 h2]
    rfl
   refine semops_recv_shut (c := w.heap.size + 1) (cap := j) (s := s) (r := r) (tm := false) (z := (.agg #[.int .i64 0, .int .i64 0, .slice none 0 0, .int .u8 0])) true rfl rfl (by simp [go_sem, execOp, Act.eval, rcase]) c2 ?_
   rw [show got true (.agg #[.int .i64 0, .int .i64 0, .slice none 0 0, .int .u8 0]) false = .tuple #[(.agg #[.int .i64 0, .int .i64 0, .slice none 0 0, .int .u8 0]), .bool false] from rfl]
   obtain ⟨t3, ht3⟩ : ∃ t3, t3 = t2 := ⟨_, rfl⟩
   rw [← ht3] at c2 x2 z2 b2 hsz2 ⊢
   clear ht3
   have x3 := x2
   have z3 := z2
   have c3 := c2
   have b3 := b2
   have hts3 : w.heap.size + 1 < tb := by have := lt_of_block hch; omega
   clear x2 z2 c2 b2
   have HX3 := hide x3
   have HZ3 := hide z3
   have HC3 := hide c3
   have HB3 := hide b3
   have HTL := hide hts3
   refine semops_drop 3 _ rfl ?_
   simp only [List.drop_succ_cons, List.drop_zero]
   obtain ⟨e0, e1, e2, e3, e4, e5⟩ := cells6 x3
   have fe := fun j => frozen_of_row t3 tb j _ 70 x3
   clear x3 z3 c3 b3 hts3
   go_wp2
   have x4 := set5 HX3.out (.int .i64 0) (.int .i64 0) (.slice none 0 0) (.int .u8 0) (.bool false)
   have o4 := only5 t3 tb (.int .i64 0) (.int .i64 0) (.slice none 0 0) (.int .u8 0) (.bool false)
   generalize hv : World.setCell _ ⟨tb, 5, none⟩ _ = v at x4 o4 ⊢
   clear hv e0 e1 e2 e3 e4 e5 fe
   have z4 := (o4.block _ (lt_of_block HZ3.out) (by have := HTL.out; omega)).trans HZ3.out
   obtain ⟨e0, e1, e2, e3, e4, e5⟩ := cells6 x4
   obtain ⟨f0, f1, f2, f3, f4, f5⟩ := cells6 z4
   have fe := fun j => frozen_of_row v w.heap.size j _ 70 z4
   have HO4 := hide o4
   have HZ4 := hide z4
   clear o4 z4 x4
   refine wpN_seq_k fun K8 hK8 => wpN_of_wp ?_
   go_wp2
   have x5 := set6 HZ4.out (.chan (some (w.heap.size + 1))) (.int .i64 0) (.int .i64 0) (.slice none 0 0) (.int .u8 0) (.bool false)
   have o5 := only6 v w.heap.size (.chan (some (w.heap.size + 1))) (.int .i64 0) (.int .i64 0) (.slice none 0 0) (.int .u8 0) (.bool false)
   generalize hz : World.setCell _ ⟨w.heap.size, 5, none⟩ _ = z at x5 o5 ⊢
   clear hz e0 e1 e2 e3 e4 e5 f0 f1 f2 f3 f4 f5 fe
   obtain ⟨f0, f1, f2, f3, f4, f5⟩ := cells6 x5
   refine wpN_of_wp ?_
   go_wp2
   refine bodyPost_ret (v := .agg #[.chan (some (w.heap.size + 1)), (.int .i64 0), (.int .i64 0), (.slice none 0 0), (.int .u8 0), (.bool false)]) (by simp [results, Tryd.results47, go_sem, f0, f1, f2, f3, f4, f5]) rfl ?_
   have oz : Only (fun k => k = w.heap.size + 1 ∨ k = tb ∨ k = w.heap.size) u z := ((HB3.out.mono (fun _ _ e => Or.inl e)).trans HO4.out (fun _ _ e => Or.inr (Or.inl e))).trans o5 (fun _ _ e => Or.inr (Or.inr e))
   have cz := (o5.block _ (Nat.lt_of_lt_of_le (lt_of_block HC3.out) HO4.out.size) (by omega)).trans ((HO4.out.block _ (lt_of_block HC3.out) (by have := HTL.out; omega)).trans HC3.out)
   have bz : Below w.heap.size w z := ((Only.ofB (F := fun k => w.heap.size ≤ k) HW.out.bel).trans oz (fun k _ e => by have := HTL.out; omega)).below (fun _ h => h) (Nat.le_refl _)
   have kz : KeepT (fun k => w.heap.size ≤ k ∧ k < u.heap.size) (fun t => t = 1002 ∨ t = 70) u z := oz.keepT (fun k o t hk ho ht => by
    rcases hk with e | e | e
    ·rw [e, hch] at ho
     cases ho
     exact Or.inl ht
    ·have := lt_of_block ho
     omega
    ·rw [e, HW.out.bx] at ho
     cases ho
     exact Or.inr ht.symm)
   exact ⟨⟨0, 0, 0, 0, 0, 0, w.heap.size + 1, 0, 0, none, 0, 0, 0, false, false, 0, none, 0, 0⟩, rfl, ⟨⟨_, _, _, [], cz, by rw [hfs]; exact ⟨rfl, rfl⟩⟩, by show w.heap.size ≤ w.heap.size + 1 ∧ w.heap.size + 1 < z.heap.size; have := lt_of_block cz; omega⟩, bz⟩
  | cons v0 rv =>
   obtain ⟨g, gr, hfs'⟩ : ∃ g gr, fs = g :: gr := by
    cases hf : fs with
    | nil =>
     have h1 := HW.out.len
     have h2 := HRL.out
     rw [hf] at h2
     simp at h1 h2
     omega
    | cons g gr => exact ⟨g, gr, rfl⟩
   have hfs : fs.map Fc.t = g.t :: gr.map Fc.t := by rw [hfs']; rfl
   obtain ⟨⟨ma, ml, mc, hve, hmask, hmc⟩, hfill⟩ := HW.out.ok 0 v0 g rfl (by rw [hfs']; rfl)
   have hve' : v0 = .agg #[.int .i64 g.a, .int .i64 g.k, .slice ma ml mc, .int .u8 g.f] := hve
   subst hve'
   refine semops_recv_buf (c := w.heap.size + 1) (cap := j) (s := s) (r := r) (tm := false) (closed := true) (buf := (Value.agg #[.int .i64 g.a, .int .i64 g.k, .slice ma ml mc, .int .u8 g.f] :: rv).toArray) (z := (.agg #[.int .i64 0, .int .i64 0, .slice none 0 0, .int .u8 0])) true rfl rfl (by simp [go_sem, execOp, Act.eval, rcase]) c2 (by simp) ?_
   rw [show got true (Array.getD (Value.agg #[.int .i64 g.a, .int .i64 g.k, .slice ma ml mc, .int .u8 g.f] :: rv).toArray 0 undef) true = .tuple #[.agg #[.int .i64 g.a, .int .i64 g.k, .slice ma ml mc, .int .u8 g.f], .bool true] from rfl]
   obtain ⟨t3, ht3⟩ : ∃ t3, t3 = t2.setChan (w.heap.size + 1) j ((Value.agg #[.int .i64 g.a, .int .i64 g.k, .slice ma ml mc, .int .u8 g.f] :: rv).toArray.extract 1 (Value.agg #[.int .i64 g.a, .int .i64 g.k, .slice ma ml mc, .int .u8 g.f] :: rv).toArray.size) true s (r + 1) false := ⟨_, rfl⟩
   have o3 : Only (· = w.heap.size + 1) t2 t3 := by
    rw [ht3]
    exact ⟨rfl, rfl, rfl, by simp [World.setChan], fun k hk hf => by simp only [World.setChan]; rw [Array.getElem?_setIfInBounds_ne (fun e => hf e.symm)]⟩
   have c3 : t3.heap[w.heap.size + 1]? = some (.chan j rv.toArray true s (r + 1) false) := by
    rw [ht3, heap_setChan _ _ _ _ _ _ _ _ (lt_of_block c2)]
    simp
   rw [← ht3]
   clear ht3
   have hts3 : w.heap.size + 1 < tb := by have := lt_of_block hch; omega
   have x3 := (o3.block _ (lt_of_block x2) (by omega)).trans x2
   have z3 := (o3.block _ (lt_of_block z2) (by omega)).trans z2
   have b3 := b2.trans o3 (fun _ _ h => h)
   clear x2 z2 c2 b2 o3
   have HX3 := hide x3
   have HZ3 := hide z3
   have HC3 := hide c3
   have HB3 := hide b3
   have HTL := hide hts3
   refine semops_drop 3 _ rfl ?_
   simp only [List.drop_succ_cons, List.drop_zero]
   obtain ⟨e0, e1, e2, e3, e4, e5⟩ := cells6 x3
   have fe := fun j => frozen_of_row t3 tb j _ 70 x3
   clear x3 z3 c3 b3 hts3
   go_wp2
   have x4 := set5 HX3.out (.int .i64 g.a) (.int .i64 g.k) (.slice ma ml mc) (.int .u8 g.f) (.bool true)
   have o4 := only5 t3 tb (.int .i64 g.a) (.int .i64 g.k) (.slice ma ml mc) (.int .u8 g.f) (.bool true)
   generalize hv : World.setCell _ ⟨tb, 5, none⟩ _ = v at x4 o4 ⊢
   clear hv e0 e1 e2 e3 e4 e5 fe
   have z4 := (o4.block _ (lt_of_block HZ3.out) (by have := HTL.out; omega)).trans HZ3.out
   obtain ⟨e0, e1, e2, e3, e4, e5⟩ := cells6 x4
   obtain ⟨f0, f1, f2, f3, f4, f5⟩ := cells6 z4
   have fe := fun j => frozen_of_row v w.heap.size j _ 70 z4
   have HO4 := hide o4
   have HZ4 := hide z4
   clear o4 z4 x4
   refine wpN_seq_k fun K8 hK8 => wpN_of_wp ?_
   go_wp2
   have x5 := set6 HZ4.out (.chan (some (w.heap.size + 1))) (.int .i64 g.a) (.int .i64 g.k) (.slice ma ml mc) (.int .u8 g.f) (.bool true)
   have o5 := only6 v w.heap.size (.chan (some (w.heap.size + 1))) (.int .i64 g.a) (.int .i64 g.k) (.slice ma ml mc) (.int .u8 g.f) (.bool true)
   generalize hz : World.setCell _ ⟨w.heap.size, 5, none⟩ _ = z at x5 o5 ⊢
   clear hz e0 e1 e2 e3 e4 e5 f0 f1 f2 f3 f4 f5 fe
   obtain ⟨f0, f1, f2, f3, f4, f5⟩ := cells6 x5
   refine wpN_of_wp ?_
   go_wp2
   refine bodyPost_ret (v := .agg #[.chan (some (w.heap.size + 1)), (.int .i64 g.a), (.int .i64 g.k), (.slice ma ml mc), (.int .u8 g.f), (.bool true)]) (by simp [results, Tryd.results47, go_sem, f0, f1, f2, f3, f4, f5]) rfl ?_
   have oz : Only (fun k => k = w.heap.size + 1 ∨ k = tb ∨ k = w.heap.size) u z := ((HB3.out.mono (fun _ _ e => Or.inl e)).trans HO4.out (fun _ _ e => Or.inr (Or.inl e))).trans o5 (fun _ _ e => Or.inr (Or.inr e))
   have cz := (o5.block _ (Nat.lt_of_lt_of_le (lt_of_block HC3.out) HO4.out.size) (by omega)).trans ((HO4.out.block _ (lt_of_block HC3.out) (by have := HTL.out; omega)).trans HC3.out)
   have bz : Below w.heap.size w z := ((Only.ofB (F := fun k => w.heap.size ≤ k) HW.out.bel).trans oz (fun k _ e => by have := HTL.out; omega)).below (fun _ h => h) (Nat.le_refl _)
   have kz : KeepT (fun k => w.heap.size ≤ k ∧ k < u.heap.size) (fun t => t = 1002 ∨ t = 70) u z := oz.keepT (fun k o t hk ho ht => by
    rcases hk with e | e | e
    ·rw [e, hch] at ho
     cases ho
     exact Or.inl ht
    ·have := lt_of_block ho
     omega
    ·rw [e, HW.out.bx] at ho
     cases ho
     exact Or.inr ht.symm)
   exact ⟨⟨0, 0, 0, 0, 0, 0, w.heap.size + 1, g.a, g.k, ma, ml, mc, g.f, true, false, 0, none, 0, 0⟩, rfl, ⟨⟨_, _, _, rv, cz, by
    rw [hfs]
    refine ⟨rfl, rfl, rfl, rfl, hfill, hmask.keep kz (by decide) (fun k hk => ⟨hk.1, Nat.lt_of_lt_of_le hk.2 oz.size⟩), hmc, ?_, ?_⟩
    ·have h1 := HW.out.len
     have h2 := HRL.out
     rw [hfs'] at h2
     simp at h1 h2 ⊢
     omega
    ·intro i v' g' hv' hg'
     rw [List.getElem?_map] at hg'
     obtain ⟨g'', hg1, hg2⟩ := Option.map_eq_some_iff.1 hg'
     rw [← hg2]
     exact (HW.out.ok (i + 1) v' g'' (by rw [List.getElem?_cons_succ]; exact hv') (by rw [hfs', List.getElem?_cons_succ]; exact hg1)).keep kz (by decide) (fun k hk => ⟨hk.1, Nat.lt_of_lt_of_le hk.2 oz.size⟩)⟩, by show w.heap.size ≤ w.heap.size + 1 ∧ w.heap.size + 1 < z.heap.size; have := lt_of_block cz; omega⟩, bz⟩
end Go.Proofs.YtnmnhgagnfodhaaDoor.Cp
