/-
  SEAT Ytadlkikjfonkgaa: Wa, Xa.
-/
import Derived.Test.YtadlkikjfonkgaaPn
namespace Go.Proofs.Ytadlkikjfonkgaa
open Go.RowKit Go.Conc
set_option linter.unusedVariables false
structure Fc where
 a : Int
 k : Int
 ma : Option Addr
 ml : Nat
 mc : Nat
 f : Int
 m : List Int
def Fc.zero : Fc := ⟨0, 0, none, 0, 0, 0, []⟩
def Fc.t (c : Fc) : Ft := ⟨c.a, c.k, c.m, c.f⟩
def Fc.cell (c : Fc) : Nat → Value
 | 0 => .int .i64 c.a
 | 1 => .int .i64 c.k
 | 2 => .slice c.ma c.ml c.mc
 | _ => .int .u8 c.f
structure FcOk (w : World) (c : Fc) : Prop where
 rd : Reads w c.ma c.ml c.m
 le : c.ml ≤ 140737488351232
 cap : c.ml ≤ c.mc
 fill : 0 ≤ c.f ∧ c.f ≤ 255
 a : -9223372036854775808 ≤ c.a ∧ c.a ≤ 9223372036854775807
 k : -9223372036854775808 ≤ c.k ∧ c.k ≤ 9223372036854775807
def ReadsF (w : World) (a : Option Addr) (len : Nat) (fs : List Fc) : Prop :=
 fs.length = len ∧ (∀ c ∈ fs, FcOk w c) ∧ (a = none → len = 0) ∧ ∀ x, a = some x → ∀ i, i < len → ∀ j, j < 4 → w.cell? (x.add (i * 4 + j)) = some ((fs.getD i Fc.zero).cell j)
theorem ReadsF.pos {w : World} {a : Option Addr} {len : Nat} {fs : List Fc} (h : ReadsF w a len fs) (hp : 0 < len) :
  ∃ b off, a = some ⟨b, off, none⟩ ∧ b < w.heap.size ∧ ∀ i, i < len → w.cell? ⟨b, off + i * 4, none⟩ = some (.int .i64 (fs.getD i Fc.zero).a) ∧ w.cell? ⟨b, off + i * 4 + 1, none⟩ = some (.int .i64 (fs.getD i Fc.zero).k) ∧ w.cell? ⟨b, off + i * 4 + 2, none⟩ = some (.slice (fs.getD i Fc.zero).ma (fs.getD i Fc.zero).ml (fs.getD i Fc.zero).mc) ∧ w.cell? ⟨b, off + i * 4 + 3, none⟩ = some (.int .u8 (fs.getD i Fc.zero).f) := by
 obtain ⟨hl, _, hn, hc⟩ := h
 cases a with
 | none => have := hn rfl; omega
 | some x =>
  obtain ⟨b, off, spot⟩ := x
  have h0 := hc _ rfl 0 hp 0 (by omega)
  have hspot : spot = none := by simpa [Addr.add] using World.cell?_spot h0
  subst hspot
  refine ⟨b, off, rfl, by simpa [Addr.add] using block_lt_of_cell h0, fun i hi => ?_⟩
  have k0 := hc _ rfl i hi 0 (by omega)
  have k1 := hc _ rfl i hi 1 (by omega)
  have k2 := hc _ rfl i hi 2 (by omega)
  have k3 := hc _ rfl i hi 3 (by omega)
  rw [plain_add] at k0 k1 k2 k3
  exact ⟨k0, k1, k2, k3⟩
theorem ReadsF.ok {w : World} {a : Option Addr} {len : Nat} {fs : List Fc} (h : ReadsF w a len fs) (i : Nat) (hi : i < len) : FcOk w (fs.getD i Fc.zero) := by
 rw [List.getD_eq_getElem?_getD, List.getElem?_eq_getElem (by rw [h.1]; exact hi)]
 exact h.2.1 _ (List.getElem_mem _)
theorem info58 : (Try.prog.info? 58).map (fun i => (i.zero, i.size, i.bytes)) = some (some (.agg #[.int .i64 0, .int .i64 0, .slice none 0 0, .int .u8 0]), 4, 48) := by kernel_rfl
theorem mk98 (w : World) (n : Nat) (hn : n ≤ 4096) : (Instr.makeChan 98 (.int .i64 (n : Int))).run Try.prog w = .ok (.chan (some w.heap.size)) (w.alloc (.chan n #[] false 0 0 false)) := by
 obtain ⟨i, hi, hz0, hz1, hb⟩ := info_parts info58
 simpa using run_makeChan (P := Try.prog) (w := w) Try.underlying98 hi .i64 n (by omega) (by rw [hb]; omega)
theorem mask_own {u : World} {B B0 n : Nat} {v : Value} {zs : List Int} (h : u.ownsRow B 5 1 v n (zs.map (Value.int .u8))) (hB : B0 ≤ B) (hr : ∀ x ∈ zs, 0 ≤ x ∧ x ≤ 255) (hl : n ≤ 140737488351232) : ∃ a c, v = .slice a n c ∧ n ≤ c ∧ MaskOk u (fun k => B0 ≤ k ∧ k < u.heap.size) a n zs := by
 rcases h.2 with ⟨hv, h0⟩ | ⟨g, cap, cur, hv, hg, hh, hle, _⟩
 ·subst h0
  have h1 := h.1
  simp at h1
  subst h1
  exact ⟨none, 0, hv, Nat.le_refl _, MaskOk.nil _ _⟩
 ·refine ⟨_, cap, hv, hle, ?_⟩
  rw [hv] at h
  exact ⟨reads_of h hr, hl, fun x hx _ => by cases hx; exact ⟨⟨Nat.le_trans hB hg, lt_of_block hh⟩, cur, _, hh⟩⟩
structure WS (w : World) (n : Nat) (fs : List Fc) (j : Nat) (vs : List Value) (u : World) : Prop where
 le : j ≤ n
 len : vs.length = j
 ch : ∃ s r, u.heap[w.heap.size + 1]? = some (.chan n vs.toArray false s r false)
 bx : u.heap[w.heap.size]? = some (.cells #[.chan none, .int .i64 0, .int .i64 0, .slice none 0 0, .int .u8 0, .bool false] 100 (0, 0))
 bel : Below w.heap.size w u
 ok : ∀ (i : Nat) (v : Value) (g : Fc), vs[i]? = some v → fs[i]? = some g → FtOk u (fun k => w.heap.size ≤ k ∧ k < u.heap.size) v g.t
def WA (w : World) (sa : Option Addr) (n c : Nat) (j : Nat) (y5 y13 y14 y15 y16 y17 y18 y19 y20 y21 y22 : Value) : Act :=
 { tmps := #[.slice sa n c, undef, .pointer (some ⟨w.heap.size, 0, none⟩), .chan (some (w.heap.size + 1)), undef, y5, undef, .slice sa n c, .int .i64 (n : Int), .chan (some (w.heap.size + 1)), .slice sa n c, .int .i64 (n : Int), .int .i64 (j : Int), y13, y14, y15, y16, y17, y18, y19, y20, y21, y22, undef, undef, undef, undef, undef, undef, undef, undef, undef, undef, undef, undef], defers := [] }
def WI (w : World) (sa : Option Addr) (n c : Nat) (fs : List Fc) (a : Act) (u : World) : Prop :=
 ∃ j vs y5 y13 y14 y15 y16 y17 y18 y19 y20 y21 y22, a = WA w sa n c j y5 y13 y14 y15 y16 y17 y18 y19 y20 y21 y22 ∧ WS w n fs j vs u
def intAt : Option Value → Nat
 | some (.int _ z) => z.toNat
 | _ => 0
def WM (n : Nat) (a : Act) (_ : World) : Nat := n - intAt (a.tmps[12]?)
theorem ws_step {w u u1 u3 : World} {n j vc : Nat} {fs : List Fc} {vs : List Value} {g : Fc} {va : Option Addr} (hW : WS w n fs j vs u) (hj : j < n) (hg : fs.getD j Fc.zero = g) (hfl : fs.length = n) (hb : Below (u.alloc (.cells #[.int .i64 g.a, .int .i64 g.k, .slice g.ma g.ml g.mc, .int .u8 g.f] 58)).heap.size (u.alloc (.cells #[.int .i64 g.a, .int .i64 g.k, .slice g.ma g.ml g.mc, .int .u8 g.f] 58)) u1) (hm : MaskOk u1 (fun k => w.heap.size ≤ k ∧ k < u1.heap.size) va g.ml g.m) (hvc : g.ml ≤ vc) (hfill : 0 ≤ g.f ∧ g.f ≤ 255)
  (h3 : ∃ s r, u3.heap[w.heap.size + 1]? = some (.chan n (vs ++ [(Value.agg #[.int .i64 g.a, .int .i64 g.k, .slice va g.ml vc, .int .u8 g.f])]).toArray false s r false)) (hO : Only (fun k => k = u.heap.size ∨ k = w.heap.size + 1) u1 u3) : WS w n fs (j + 1) (vs ++ [(Value.agg #[.int .i64 g.a, .int .i64 g.k, .slice va g.ml vc, .int .u8 g.f])]) u3 := by
 have hU : Only (fun k => k = u.heap.size ∨ k = w.heap.size + 1) u u1 := (Only.ofB (below_alloc _ _)).trans (Only.ofB (F := fun k => k = u.heap.size ∨ k = w.heap.size + 1) hb) (fun _ _ h => h)
 have hU3 := hU.trans hO (fun _ _ h => h)
 obtain ⟨s, r, hch⟩ := hW.ch
 have hcl := lt_of_block hch
 have hbl := lt_of_block hW.bx
 refine ⟨hj, by simp [hW.len], h3, (hU3.block _ hbl (fun e => by omega)).trans hW.bx, ?_, ?_⟩
 ·exact ((Only.ofB (F := fun k => w.heap.size ≤ k) hW.bel).trans hU3 (fun k _ e => by rcases e with e | e <;> omega)).below (fun _ h => h) (Nat.le_refl _)
 ·intro i v g' hv hg'
  by_cases hi : i < j
  ·rw [List.getElem?_append_left (by rw [hW.len]; exact hi)] at hv
   exact (hW.ok i v g' hv hg').keep (T := fun t => t = 1002) (hU3.keepT (fun k o t hk ho ht => by
    rcases hk with e | e
    ·have := lt_of_block ho
     omega
    ·rw [e, hch] at ho
     cases ho
     exact ht)) (by decide) (fun k hk => ⟨hk.1, Nat.lt_of_lt_of_le hk.2 hU3.size⟩)
  ·have hl := hW.len
   have hil : i < (vs ++ [(Value.agg #[.int .i64 g.a, .int .i64 g.k, .slice va g.ml vc, .int .u8 g.f])]).length := (List.getElem?_eq_some_iff.1 hv).1
   simp at hil
   have e : i = j := by omega
   subst e
   have eg : g' = g := by rw [← hg, List.getD_eq_getElem?_getD, hg']; rfl
   rw [eg]
   rw [List.getElem?_append_right (by omega), hl, Nat.sub_self] at hv
   cases hv
   have hbx : u1.heap[u.heap.size]? = some (.cells #[.int .i64 g.a, .int .i64 g.k, .slice g.ma g.ml g.mc, .int .u8 g.f] 58 (0, 0)) := (hb.block _ (by simp)).trans (alloc_new u _)
   have hch1 : u1.heap[w.heap.size + 1]? = _ := ((hb.block _ (by rw [alloc_size]; omega)).trans (alloc_old u _ hcl)).trans hch
   exact ⟨⟨va, _, vc, rfl, hm.keep (T := fun t => t = 1002 ∨ t = 58) (hO.keepT (fun k o t hk ho ht => by
    rcases hk with e | e
    ·rw [e, hbx] at ho
     cases ho
     exact Or.inr ht.symm
    ·rw [e, hch1] at ho
     cases ho
     exact Or.inl ht)) (by decide) (fun k hk => ⟨hk.1, Nat.lt_of_lt_of_le hk.2 hO.size⟩), hvc⟩, hfill⟩
theorem set5 {w : World} {g : Nat} {c0 c1 c2 c3 c4 c5 : Value} {T : TypeId} (h : w.heap[g]? = some (.cells #[c0, c1, c2, c3, c4, c5] T (0, 0))) (v1 v2 v3 v4 v5 : Value) : (((((w.setCell ⟨g, 1, none⟩ v1).setCell ⟨g, 2, none⟩ v2).setCell ⟨g, 3, none⟩ v3).setCell ⟨g, 4, none⟩ v4).setCell ⟨g, 5, none⟩ v5).heap[g]? = some (.cells #[c0, v1, v2, v3, v4, v5] T (0, 0)) :=
 heap_setCell_same _ g 5 #[c0, v1, v2, v3, v4, c5] T _ (heap_setCell_same _ g 4 #[c0, v1, v2, v3, c4, c5] T _ (heap_setCell_same _ g 3 #[c0, v1, v2, c3, c4, c5] T _ (heap_setCell_same _ g 2 #[c0, v1, c2, c3, c4, c5] T _ (heap_setCell_same w g 1 _ T _ h))))
theorem only5 (w : World) (g : Nat) (v1 v2 v3 v4 v5 : Value) : Only (· = g) w (((((w.setCell ⟨g, 1, none⟩ v1).setCell ⟨g, 2, none⟩ v2).setCell ⟨g, 3, none⟩ v3).setCell ⟨g, 4, none⟩ v4).setCell ⟨g, 5, none⟩ v5) :=
 ((((Only.setCell (· = g) w g 1 v1 rfl).trans' (Only.setCell _ _ g 2 v2 rfl)).trans' (Only.setCell _ _ g 3 v3 rfl)).trans' (Only.setCell _ _ g 4 v4 rfl)).trans' (Only.setCell _ _ g 5 v5 rfl)
theorem set6 {w : World} {g : Nat} {c0 c1 c2 c3 c4 c5 : Value} {T : TypeId} (h : w.heap[g]? = some (.cells #[c0, c1, c2, c3, c4, c5] T (0, 0))) (v0 v1 v2 v3 v4 v5 : Value) : ((((((w.setCell ⟨g, 0, none⟩ v0).setCell ⟨g, 1, none⟩ v1).setCell ⟨g, 2, none⟩ v2).setCell ⟨g, 3, none⟩ v3).setCell ⟨g, 4, none⟩ v4).setCell ⟨g, 5, none⟩ v5).heap[g]? = some (.cells #[v0, v1, v2, v3, v4, v5] T (0, 0)) :=
 set5 (heap_setCell_same w g 0 #[c0, c1, c2, c3, c4, c5] T v0 h) v1 v2 v3 v4 v5
theorem only6 (w : World) (g : Nat) (v0 v1 v2 v3 v4 v5 : Value) : Only (· = g) w ((((((w.setCell ⟨g, 0, none⟩ v0).setCell ⟨g, 1, none⟩ v1).setCell ⟨g, 2, none⟩ v2).setCell ⟨g, 3, none⟩ v3).setCell ⟨g, 4, none⟩ v4).setCell ⟨g, 5, none⟩ v5) :=
 (Only.setCell (· = g) w g 0 v0 rfl).trans' (only5 _ g v1 v2 v3 v4 v5)
theorem cells6 {w : World} {g : Nat} {c0 c1 c2 c3 c4 c5 : Value} {T : TypeId} (h : w.heap[g]? = some (.cells #[c0, c1, c2, c3, c4, c5] T (0, 0))) : w.cell? ⟨g, 0, none⟩ = some c0 ∧ w.cell? ⟨g, 1, none⟩ = some c1 ∧ w.cell? ⟨g, 2, none⟩ = some c2 ∧ w.cell? ⟨g, 3, none⟩ = some c3 ∧ w.cell? ⟨g, 4, none⟩ = some c4 ∧ w.cell? ⟨g, 5, none⟩ = some c5 := by
 refine ⟨?_, ?_, ?_, ?_, ?_, ?_⟩ <;> simp [World.cell?, h]
set_option maxRecDepth 100000 in
theorem waiting_any (w : World) (sa : Option Addr) (n c : Nat) (fs : List Fc) (hR : ReadsF w sa n fs) (hn : n ≤ 4096) : Calls Try.prog 84 #[.slice sa n c] w fun e w' => ∃ x : Bx, e = .returned (.agg #[.chan (some x.c), .int .i64 x.fa, .int .i64 x.fk, .slice x.ma x.ml x.mc, .int .u8 x.ff, .bool x.hn]) ∧ QAt w' (fun k => w.heap.size ≤ k ∧ k < w'.heap.size) x (fs.map Fc.t) ∧ Below w.heap.size w w' := by
 have hmk := fun w => mk98 w n hn
 refine calls_of_wpN Try.func84 rfl ?_
 simp only [Try.ntmps84, List.size_toArray, List.length_cons, List.length_nil, Nat.reduceAdd, Nat.reduceSub, Array.replicate_succ,
   Array.replicate_zero, List.push_toArray, List.append_toArray, List.nil_append, List.cons_append]
 refine wpN_seq_k fun K hK => wpN_of_wp ?_
 go_wp2
 refine wpN_seq_k fun K hK => wpN_of_wp ?_
 go_wp2
 clear hmk
 refine wpN_seq_k fun K hK => ?_
 have HK := hide hK
 clear hK
 refine wpN_seq_k fun K2 hK2 => wpN_of_wp ?_
 go_wp2
 refine wpN_block ?_
 refine wpN_loop (WI w sa n c fs) (WM n) ⟨0, [], _, _, _, _, _, _, _, _, _, _, _, rfl, ⟨Nat.zero_le _, rfl, ⟨0, 0, by have h2 := alloc_new (w.alloc (.cells #[.chan none, .int .i64 0, .int .i64 0, .slice none 0 0, .int .u8 0, .bool false] 100)) (.chan n #[] false 0 0 false); rw [alloc_size] at h2; exact h2⟩, (alloc_old _ _ (by simp)).trans (alloc_new w _), below_trans (below_alloc _ _) (below_alloc _ _), fun i v g hv => by simp at hv⟩⟩ ?_
 rintro a u ⟨j, vs, y5, y13, y14, y15, y16, y17, y18, y19, y20, y21, y22, rfl, hW⟩
 have HW := hide hW
 have hjn := hW.le
 clear hW
 unfold WA
 by_cases hj : j < n
 ·have hlt : decide ((j : Int) < (n : Int)) = true := decide_eq_true (by omega)
  obtain ⟨b, off, rfl, hb, hcells⟩ := hR.pos (by omega)
  obtain ⟨k0, k1, k2, k3⟩ := hcells j hj
  have hfo := hR.ok j hj
  obtain ⟨g, hg⟩ : ∃ g, fs.getD j Fc.zero = g := ⟨_, rfl⟩
  rw [hg] at k0 k1 k2 k3 hfo
  have HFO := hide hfo
  have HG := hide hg
  have d0 := (HW.out.bel.cell (block_lt_of_cell k0)).trans k0
  have d1 := (HW.out.bel.cell (block_lt_of_cell k1)).trans k1
  have d2 := (HW.out.bel.cell (block_lt_of_cell k2)).trans k2
  have d3 := (HW.out.bel.cell (block_lt_of_cell k3)).trans k3
  clear k0 k1 k2 k3 hfo hg hcells
  refine wpN_seq_k fun K3 hK3 => wpN_of_wp ?_
  go_wp2
  refine wpN_seq_k fun K4 hK4 => wpN_of_wp ?_
  go_wp2
  refine wpN_seq_k fun K5 hK5 => ?_
  refine wpN_block ?_
  refine wpN_seq_k fun K6 hK6 => wpN_of_wp ?_
  go_wp2
  have RD := hide ((HFO.out.rd.below HW.out.bel).below (below_alloc u (.cells #[.int .i64 g.a, .int .i64 g.k, .slice g.ma g.ml g.mc, .int .u8 g.f] 58)))
  have HFL := hide hR.1
  have HRD := hide hR
  clear hR d0 d1 d2 d3
  refine wpN_seq_k fun K7 hK7 => wpN_of_wp ?_
  go_wp2_with (first | (go_at_call 49; refine (clone_any g.ma g.ml g.mc g.m _ RD.out HFO.out.le).mono ?_; rintro e u1 ⟨v, rfl, ow, b1⟩; obtain ⟨va, vc, rfl, hvc, hvm⟩ := mask_own (B0 := w.heap.size) ow (by rw [alloc_size]; have := HW.out.bel.size; omega) HFO.out.rd.2.1 HFO.out.le; have hbx : u1.heap[u.heap.size]? = some (.cells #[.int .i64 g.a, .int .i64 g.k, .slice g.ma g.ml g.mc, .int .u8 g.f] 58 (0, 0)) := (b1.block _ (by simp)).trans (alloc_new u _); have HBX := hide hbx; have HB1 := hide b1; have HVM := hide hvm; have HVC := hide hvc; obtain ⟨q0, q1, q2, q3⟩ := cells4 hbx; have fq := fun j => frozen_of_row u1 u.heap.size j _ 58 hbx; clear ow b1 hvc hvm hbx))
  have x2 := heap_setCell_same u1 u.heap.size 2 #[.int .i64 g.a, .int .i64 g.k, .slice g.ma g.ml g.mc, .int .u8 g.f] 58 (.slice va g.ml vc) HBX.out
  have o2 := Only.setCell (· = u.heap.size) u1 u.heap.size 2 (.slice va g.ml vc) rfl
  generalize hu2 : World.setCell u1 _ _ = u2 at x2 o2 ⊢
  clear q0 q1 q2 q3 fq
  obtain ⟨q0, q1, q2, q3⟩ := cells4 (c2 := .slice va g.ml vc) x2
  obtain ⟨s, r, hch⟩ := HW.out.ch
  have hne : w.heap.size + 1 ≠ u.heap.size := by have := lt_of_block hch; omega
  have hch2 : u2.heap[w.heap.size + 1]? = some (.chan n vs.toArray false s r false) := (o2.block _ (Nat.lt_of_lt_of_le (lt_of_block hch) (by have := HB1.out.size; rw [alloc_size] at this; omega)) hne).trans ((HB1.out.block _ (by rw [alloc_size]; have := lt_of_block hch; omega)).trans ((alloc_old u _ (lt_of_block hch)).trans hch))
  refine wpN_region ?_
  show SemOps _ _ _ [0, 1, 2] _ _
  refine semops_value rfl rfl rfl ?_
  refine semops_value rfl rfl (by simp [go_sem, execOp, Act.eval, q0, q1, q2, q3]; exact ⟨rfl, rfl⟩) ?_
  refine semops_send_room (c := w.heap.size + 1) (cap := n) (s := s) (r := r) (tm := false) (buf := vs.toArray) (v := (Value.agg #[.int .i64 g.a, .int .i64 g.k, .slice va g.ml vc, .int .u8 g.f])) (z := .tuple #[]) rfl rfl (by simp [go_sem, execOp, Act.eval, scase]) hch2 (by simp [HW.out.len]; exact hj) ?_
  have h3 : ∃ s' r', (u2.setChan (w.heap.size + 1) n (vs.toArray.push (Value.agg #[.int .i64 g.a, .int .i64 g.k, .slice va g.ml vc, .int .u8 g.f])) false (s + 1) r false).heap[w.heap.size + 1]? = some (.chan n (vs ++ [(Value.agg #[.int .i64 g.a, .int .i64 g.k, .slice va g.ml vc, .int .u8 g.f])]).toArray false s' r' false) := ⟨s + 1, r, by rw [heap_setChan _ _ _ _ _ _ _ _ (lt_of_block hch2)]; simp⟩
  have o3 : Only (fun k => k = u.heap.size ∨ k = w.heap.size + 1) u1 (u2.setChan (w.heap.size + 1) n (vs.toArray.push (Value.agg #[.int .i64 g.a, .int .i64 g.k, .slice va g.ml vc, .int .u8 g.f])) false (s + 1) r false) := (o2.mono (fun _ _ e => Or.inl e)).trans (G := fun k => k = w.heap.size + 1) ⟨rfl, rfl, rfl, by simp [World.setChan], fun k hk hf => by simp only [World.setChan]; rw [Array.getElem?_setIfInBounds_ne (fun e => hf e.symm)]⟩ (fun _ _ e => Or.inr e)
  have HS := hide (ws_step HW.out hj HG.out HFL.out HB1.out HVM.out HVC.out HFO.out.fill h3 o3)
  generalize hu3 : World.setChan u2 _ _ _ _ _ _ _ = u3 at HS ⊢
  clear h3 o3 hu3 hu2 hch2 hch x2 o2 q0 q1 q2 q3
  refine semops_drop 3 _ rfl ?_
  simp only [List.drop_succ_cons, List.drop_zero]
  have hw1 : IntKind.i64.wrap ((j : Int) + 1) = ((j + 1 : Nat) : Int) := by simp only [IntKind.wrap_i64]; omega
  go_wp2
  refine wpN_of_wp ?_
  go_wp2
  refine ⟨⟨j + 1, _, _, _, _, _, _, _, _, _, _, _, _, rfl, HS.out⟩, ?_⟩
  show n - intAt (some (.int .i64 ((j + 1 : Nat) : Int))) < n - intAt (some (.int .i64 (j : Int)))
  simp only [intAt, Int.toNat_natCast]
  omega
 ·have hlt : decide ((j : Int) < (n : Int)) = false := decide_eq_false (by omega)
  refine wpN_seq_k fun K3 hK3 => wpN_of_wp ?_
  go_wp2
  refine wpN_seq_k fun K4 hK4 => wpN_of_wp ?_
  go_wp2
  have ej : j = n := by omega
  subst ej
  obtain ⟨s, r, hch⟩ := HW.out.ch
  refine HK.out _ _ ?_
  clear HK
  have hcl := fun ats ty => run_close_open (P := Try.prog) ats ty hch
  refine wpN_seq_k fun K5 hK5 => wpN_of_wp ?_
  go_wp2
  clear hcl
  have o1 := only_set u (w.heap.size + 1) (.chan j vs.toArray true s r false)
  have c1 := heap_set u (w.heap.size + 1) (.chan j vs.toArray true s r false) (lt_of_block hch)
  obtain ⟨t, ht⟩ : ∃ t, t = ({ u with heap := u.heap.setIfInBounds (w.heap.size + 1) (.chan j vs.toArray true s r false) } : World) := ⟨_, rfl⟩
  rw [← ht] at o1 c1 ⊢
  clear ht
  refine wpN_seq_k fun K6 hK6 => wpN_of_wp ?_
  go_wp2
  have HO1 := hide ((Only.ofB (F := fun k => k = w.heap.size + 1) (below_alloc t (.cells #[.chan (some (w.heap.size + 1)), .int .i64 0, .int .i64 0, .slice none 0 0, .int .u8 0, .bool false] 100))))
  have hcl := lt_of_block c1
  have hts : w.heap.size < t.heap.size := by omega
  have c2 : (t.alloc (.cells #[.chan (some (w.heap.size + 1)), .int .i64 0, .int .i64 0, .slice none 0 0, .int .u8 0, .bool false] 100)).heap[w.heap.size + 1]? = some (.chan j vs.toArray true s r false) := (alloc_old t _ hcl).trans c1
  have x2 : (t.alloc (.cells #[.chan (some (w.heap.size + 1)), .int .i64 0, .int .i64 0, .slice none 0 0, .int .u8 0, .bool false] 100)).heap[t.heap.size]? = some (.cells #[.chan (some (w.heap.size + 1)), .int .i64 0, .int .i64 0, .slice none 0 0, .int .u8 0, .bool false] 100 (0, 0)) := alloc_new t _
  have z2 : (t.alloc (.cells #[.chan (some (w.heap.size + 1)), .int .i64 0, .int .i64 0, .slice none 0 0, .int .u8 0, .bool false] 100)).heap[w.heap.size]? = some (.cells #[.chan none, .int .i64 0, .int .i64 0, .slice none 0 0, .int .u8 0, .bool false] 100 (0, 0)) := (alloc_old t _ hts).trans ((o1.block _ (lt_of_block HW.out.bx) (by omega)).trans HW.out.bx)
  have b2 : Only (fun k => k = w.heap.size + 1) u (t.alloc (.cells #[.chan (some (w.heap.size + 1)), .int .i64 0, .int .i64 0, .slice none 0 0, .int .u8 0, .bool false] 100)) := o1.trans (Only.ofB (F := fun k => k = w.heap.size + 1) (below_alloc t _)) (fun _ _ h => h)
  have hsz2 : t.heap.size < (t.alloc (.cells #[.chan (some (w.heap.size + 1)), .int .i64 0, .int .i64 0, .slice none 0 0, .int .u8 0, .bool false] 100)).heap.size := by simp
  obtain ⟨tb, htb⟩ : ∃ tb, tb = t.heap.size := ⟨_, rfl⟩
  obtain ⟨t2, ht2⟩ : ∃ t2, t2 = t.alloc (.cells #[.chan (some (w.heap.size + 1)), .int .i64 0, .int .i64 0, .slice none 0 0, .int .u8 0, .bool false] 100) := ⟨_, rfl⟩
  have hut : u.heap.size ≤ t.heap.size := o1.size
  rw [← htb] at x2 hsz2 hut hts ⊢
  rw [← ht2] at c2 x2 z2 b2 hsz2 ⊢
  clear HO1 ht2 htb c1 o1
  refine wpN_seq_k fun K7 hK7 => wpN_region ?_
  show SemOps _ _ _ [0, 1, 2, 3, 4, 5, 6, 7, 8, 9] _ _
  refine semops_value rfl rfl (by simp [go_sem, execOp, Act.eval]; exact ⟨rfl, rfl⟩) ?_
  have e0 := (cells6 x2).1
  refine semops_value rfl rfl (by simp [go_sem, execOp, Act.eval, e0]; first | exact ⟨rfl, rfl⟩ | rfl) ?_
  clear e0
  have HRL := hide hR.1
  cases vs with
  | nil =>
   have hfs : fs.map Fc.t = [] := by
    have h1 := HW.out.len
    have h2 := HRL.out
    simp at h1
    subst h1
    rw [List.length_eq_zero_iff.1 h2]
    rfl
   refine semops_recv_shut (c := w.heap.size + 1) (cap := j) (s := s) (r := r) (tm := false) (z := (.agg #[.int .i64 0, .int .i64 0, .slice none 0 0, .int .u8 0])) true rfl rfl (by simp [go_sem, execOp, Act.eval, rcase]) c2 ?_
   rw [show got true (.agg #[.int .i64 0, .int .i64 0, .slice none 0 0, .int .u8 0]) false = .tuple #[(.agg #[.int .i64 0, .int .i64 0, .slice none 0 0, .int .u8 0]), .bool false] from rfl]
   obtain ⟨t3, ht3⟩ : ∃ t3, t3 = t2 := ⟨_, rfl⟩
   rw [← ht3] at c2 x2 z2 b2 hsz2 ⊢
   clear ht3
   have x3 := x2
   have z3 := z2
   have c3 := c2
   have b3 := b2
   have hts3 : w.heap.size + 1 < tb := by have := lt_of_block hch; omega
   clear x2 z2 c2 b2
   have HX3 := hide x3
   have HZ3 := hide z3
   have HC3 := hide c3
   have HB3 := hide b3
   have HTL := hide hts3
   refine semops_drop 3 _ rfl ?_
   simp only [List.drop_succ_cons, List.drop_zero]
   obtain ⟨e0, e1, e2, e3, e4, e5⟩ := cells6 x3
   have fe := fun j => frozen_of_row t3 tb j _ 100 x3
   clear x3 z3 c3 b3 hts3
   go_wp2
   have x4 := set5 HX3.out (.int .i64 0) (.int .i64 0) (.slice none 0 0) (.int .u8 0) (.bool false)
   have o4 := only5 t3 tb (.int .i64 0) (.int .i64 0) (.slice none 0 0) (.int .u8 0) (.bool false)
   generalize hv : World.setCell _ ⟨tb, 5, none⟩ _ = v at x4 o4 ⊢
   clear hv e0 e1 e2 e3 e4 e5 fe
   have z4 := (o4.block _ (lt_of_block HZ3.out) (by have := HTL.out; omega)).trans HZ3.out
   obtain ⟨e0, e1, e2, e3, e4, e5⟩ := cells6 x4
   obtain ⟨f0, f1, f2, f3, f4, f5⟩ := cells6 z4
   have fe := fun j => frozen_of_row v w.heap.size j _ 100 z4
   have HO4 := hide o4
   have HZ4 := hide z4
   clear o4 z4 x4
   refine wpN_seq_k fun K8 hK8 => wpN_of_wp ?_
   go_wp2
   have x5 := set6 HZ4.out (.chan (some (w.heap.size + 1))) (.int .i64 0) (.int .i64 0) (.slice none 0 0) (.int .u8 0) (.bool false)
   have o5 := only6 v w.heap.size (.chan (some (w.heap.size + 1))) (.int .i64 0) (.int .i64 0) (.slice none 0 0) (.int .u8 0) (.bool false)
   generalize hz : World.setCell _ ⟨w.heap.size, 5, none⟩ _ = z at x5 o5 ⊢
   clear hz e0 e1 e2 e3 e4 e5 f0 f1 f2 f3 f4 f5 fe
   obtain ⟨f0, f1, f2, f3, f4, f5⟩ := cells6 x5
   refine wpN_of_wp ?_
   go_wp2
   refine bodyPost_ret (v := .agg #[.chan (some (w.heap.size + 1)), (.int .i64 0), (.int .i64 0), (.slice none 0 0), (.int .u8 0), (.bool false)]) (by simp [results, Try.results84, go_sem, f0, f1, f2, f3, f4, f5]) rfl ?_
   have oz : Only (fun k => k = w.heap.size + 1 ∨ k = tb ∨ k = w.heap.size) u z := ((HB3.out.mono (fun _ _ e => Or.inl e)).trans HO4.out (fun _ _ e => Or.inr (Or.inl e))).trans o5 (fun _ _ e => Or.inr (Or.inr e))
   have cz := (o5.block _ (Nat.lt_of_lt_of_le (lt_of_block HC3.out) HO4.out.size) (by omega)).trans ((HO4.out.block _ (lt_of_block HC3.out) (by have := HTL.out; omega)).trans HC3.out)
   have bz : Below w.heap.size w z := ((Only.ofB (F := fun k => w.heap.size ≤ k) HW.out.bel).trans oz (fun k _ e => by have := HTL.out; omega)).below (fun _ h => h) (Nat.le_refl _)
   have kz : KeepT (fun k => w.heap.size ≤ k ∧ k < u.heap.size) (fun t => t = 1002 ∨ t = 100) u z := oz.keepT (fun k o t hk ho ht => by
    rcases hk with e | e | e
    ·rw [e, hch] at ho
     cases ho
     exact Or.inl ht
    ·have := lt_of_block ho
     omega
    ·rw [e, HW.out.bx] at ho
     cases ho
     exact Or.inr ht.symm)
   exact ⟨⟨0, 0, 0, 0, 0, 0, w.heap.size + 1, 0, 0, none, 0, 0, 0, false, false, 0, none, 0, 0⟩, rfl, ⟨⟨_, _, _, [], cz, by rw [hfs]; exact ⟨rfl, rfl⟩⟩, by show w.heap.size ≤ w.heap.size + 1 ∧ w.heap.size + 1 < z.heap.size; have := lt_of_block cz; omega⟩, bz⟩
  | cons v0 rv =>
   obtain ⟨g, gr, hfs'⟩ : ∃ g gr, fs = g :: gr := by
    cases hf : fs with
    | nil =>
     have h1 := HW.out.len
     have h2 := HRL.out
     rw [hf] at h2
     simp at h1 h2
     omega
    | cons g gr => exact ⟨g, gr, rfl⟩
   have hfs : fs.map Fc.t = g.t :: gr.map Fc.t := by rw [hfs']; rfl
   obtain ⟨⟨ma, ml, mc, hve, hmask, hmc⟩, hfill⟩ := HW.out.ok 0 v0 g rfl (by rw [hfs']; rfl)
   have hve' : v0 = .agg #[.int .i64 g.a, .int .i64 g.k, .slice ma ml mc, .int .u8 g.f] := hve
   subst hve'
   refine semops_recv_buf (c := w.heap.size + 1) (cap := j) (s := s) (r := r) (tm := false) (closed := true) (buf := (Value.agg #[.int .i64 g.a, .int .i64 g.k, .slice ma ml mc, .int .u8 g.f] :: rv).toArray) (z := (.agg #[.int .i64 0, .int .i64 0, .slice none 0 0, .int .u8 0])) true rfl rfl (by simp [go_sem, execOp, Act.eval, rcase]) c2 (by simp) ?_
   rw [show got true (Array.getD (Value.agg #[.int .i64 g.a, .int .i64 g.k, .slice ma ml mc, .int .u8 g.f] :: rv).toArray 0 undef) true = .tuple #[.agg #[.int .i64 g.a, .int .i64 g.k, .slice ma ml mc, .int .u8 g.f], .bool true] from rfl]
   obtain ⟨t3, ht3⟩ : ∃ t3, t3 = t2.setChan (w.heap.size + 1) j ((Value.agg #[.int .i64 g.a, .int .i64 g.k, .slice ma ml mc, .int .u8 g.f] :: rv).toArray.extract 1 (Value.agg #[.int .i64 g.a, .int .i64 g.k, .slice ma ml mc, .int .u8 g.f] :: rv).toArray.size) true s (r + 1) false := ⟨_, rfl⟩
   have o3 : Only (· = w.heap.size + 1) t2 t3 := by
    rw [ht3]
    exact ⟨rfl, rfl, rfl, by simp [World.setChan], fun k hk hf => by simp only [World.setChan]; rw [Array.getElem?_setIfInBounds_ne (fun e => hf e.symm)]⟩
   have c3 : t3.heap[w.heap.size + 1]? = some (.chan j rv.toArray true s (r + 1) false) := by
    rw [ht3, heap_setChan _ _ _ _ _ _ _ _ (lt_of_block c2)]
    simp
   rw [← ht3]
   clear ht3
   have hts3 : w.heap.size + 1 < tb := by have := lt_of_block hch; omega
   have x3 := (o3.block _ (lt_of_block x2) (by omega)).trans x2
   have z3 := (o3.block _ (lt_of_block z2) (by omega)).trans z2
   have b3 := b2.trans o3 (fun _ _ h => h)
   clear x2 z2 c2 b2 o3
   have HX3 := hide x3
   have HZ3 := hide z3
   have HC3 := hide c3
   have HB3 := hide b3
   have HTL := hide hts3
   refine semops_drop 3 _ rfl ?_
   simp only [List.drop_succ_cons, List.drop_zero]
   obtain ⟨e0, e1, e2, e3, e4, e5⟩ := cells6 x3
   have fe := fun j => frozen_of_row t3 tb j _ 100 x3
   clear x3 z3 c3 b3 hts3
   go_wp2
   have x4 := set5 HX3.out (.int .i64 g.a) (.int .i64 g.k) (.slice ma ml mc) (.int .u8 g.f) (.bool true)
   have o4 := only5 t3 tb (.int .i64 g.a) (.int .i64 g.k) (.slice ma ml mc) (.int .u8 g.f) (.bool true)
   generalize hv : World.setCell _ ⟨tb, 5, none⟩ _ = v at x4 o4 ⊢
   clear hv e0 e1 e2 e3 e4 e5 fe
   have z4 := (o4.block _ (lt_of_block HZ3.out) (by have := HTL.out; omega)).trans HZ3.out
   obtain ⟨e0, e1, e2, e3, e4, e5⟩ := cells6 x4
   obtain ⟨f0, f1, f2, f3, f4, f5⟩ := cells6 z4
   have fe := fun j => frozen_of_row v w.heap.size j _ 100 z4
   have HO4 := hide o4
   have HZ4 := hide z4
   clear o4 z4 x4
   refine wpN_seq_k fun K8 hK8 => wpN_of_wp ?_
   go_wp2
   have x5 := set6 HZ4.out (.chan (some (w.heap.size + 1))) (.int .i64 g.a) (.int .i64 g.k) (.slice ma ml mc) (.int .u8 g.f) (.bool true)
   have o5 := only6 v w.heap.size (.chan (some (w.heap.size + 1))) (.int .i64 g.a) (.int .i64 g.k) (.slice ma ml mc) (.int .u8 g.f) (.bool true)
   generalize hz : World.setCell _ ⟨w.heap.size, 5, none⟩ _ = z at x5 o5 ⊢
   clear hz e0 e1 e2 e3 e4 e5 f0 f1 f2 f3 f4 f5 fe
   obtain ⟨f0, f1, f2, f3, f4, f5⟩ := cells6 x5
   refine wpN_of_wp ?_
   go_wp2
   refine bodyPost_ret (v := .agg #[.chan (some (w.heap.size + 1)), (.int .i64 g.a), (.int .i64 g.k), (.slice ma ml mc), (.int .u8 g.f), (.bool true)]) (by simp [results, Try.results84, go_sem, f0, f1, f2, f3, f4, f5]) rfl ?_
   have oz : Only (fun k => k = w.heap.size + 1 ∨ k = tb ∨ k = w.heap.size) u z := ((HB3.out.mono (fun _ _ e => Or.inl e)).trans HO4.out (fun _ _ e => Or.inr (Or.inl e))).trans o5 (fun _ _ e => Or.inr (Or.inr e))
   have cz := (o5.block _ (Nat.lt_of_lt_of_le (lt_of_block HC3.out) HO4.out.size) (by omega)).trans ((HO4.out.block _ (lt_of_block HC3.out) (by have := HTL.out; omega)).trans HC3.out)
   have bz : Below w.heap.size w z := ((Only.ofB (F := fun k => w.heap.size ≤ k) HW.out.bel).trans oz (fun k _ e => by have := HTL.out; omega)).below (fun _ h => h) (Nat.le_refl _)
   have kz : KeepT (fun k => w.heap.size ≤ k ∧ k < u.heap.size) (fun t => t = 1002 ∨ t = 100) u z := oz.keepT (fun k o t hk ho ht => by
    rcases hk with e | e | e
    ·rw [e, hch] at ho
     cases ho
     exact Or.inl ht
    ·have := lt_of_block ho
     omega
    ·rw [e, HW.out.bx] at ho
     cases ho
     exact Or.inr ht.symm)
   exact ⟨⟨0, 0, 0, 0, 0, 0, w.heap.size + 1, g.a, g.k, ma, ml, mc, g.f, true, false, 0, none, 0, 0⟩, rfl, ⟨⟨_, _, _, rv, cz, by
    rw [hfs]
    refine ⟨rfl, rfl, rfl, rfl, hfill, hmask.keep kz (by decide) (fun k hk => ⟨hk.1, Nat.lt_of_lt_of_le hk.2 oz.size⟩), hmc, ?_, ?_⟩
    ·have h1 := HW.out.len
     have h2 := HRL.out
     rw [hfs'] at h2
     simp at h1 h2 ⊢
     omega
    ·intro i v' g' hv' hg'
     rw [List.getElem?_map] at hg'
     obtain ⟨g'', hg1, hg2⟩ := Option.map_eq_some_iff.1 hg'
     rw [← hg2]
     exact (HW.out.ok (i + 1) v' g'' (by rw [List.getElem?_cons_succ]; exact hv') (by rw [hfs', List.getElem?_cons_succ]; exact hg1)).keep kz (by decide) (fun k hk => ⟨hk.1, Nat.lt_of_lt_of_le hk.2 oz.size⟩)⟩, by show w.heap.size ≤ w.heap.size + 1 ∧ w.heap.size + 1 < z.heap.size; have := lt_of_block cz; omega⟩, bz⟩
end Go.Proofs.Ytadlkikjfonkgaa
namespace Go.Proofs.Ytadlkikjfonkgaa
open Go.RowKit Go.Conc
set_option linter.unusedVariables false
structure Lc where
 a : Option Addr
 n : Nat
 c : Nat
 fa : Option Addr
 fn : Nat
 fc : Nat
 bits : List Int
 xs : List Nat
 h : Bool
structure Rc where
 g : Nat
 cap : Nat
 m : Bool
 r : Bool
 nx : Int
 ls : List Lc
def Lc.fs (l : Lc) : Value := .slice l.fa l.fn l.fc
def Lc.cells (l : Lc) : List Value := [.slice l.a l.n l.c, .slice l.fa l.fn l.fc, .bool l.h]
def Rc.cells (r : Rc) : List Value := [.slice (some ⟨r.g, 0, none⟩) r.ls.length r.cap, .bool r.m, .bool r.r, .int .i64 r.nx]
theorem Lc.cells_len (l : Lc) : l.cells.length = 3 := rfl
theorem Rc.cells_len (r : Rc) : r.cells.length = 4 := rfl
def Lc.v (l : Lc) : Pg := ⟨l.bits, l.h⟩
def Rc.v (r : Rc) : Bl := ⟨r.m, r.r, r.nx, r.ls.map Lc.v⟩
structure LcOk (w : World) (F : Nat → Prop) (L : Nat) (l : Lc) : Prop where
 len : l.bits.length = L
 byt : ∀ x ∈ l.bits, 0 ≤ x ∧ x ≤ 255
 sl : ∃ g, l.a = some ⟨g, 0, none⟩ ∧ F g ∧ l.n = L ∧ L ≤ l.c ∧ Reads w l.a L l.bits ∧ Is5 w g
 row : w.ownsRow 0 3 1 l.fs l.fn (l.xs.map fun (i : Nat) => Value.int .i64 (i : Int))
 fg : ∀ g, l.fs.ownBlock = some g → F g
structure RcOk (w : World) (F : Nat → Prop) (L P : Nat) (r : Rc) : Prop where
 row : w.ownsRow 0 144 3 (.slice (some ⟨r.g, 0, none⟩) r.ls.length r.cap) r.ls.length (r.ls.flatMap Lc.cells)
 fg : F r.g
 np : r.ls.length = P
 lf : ∀ l ∈ r.ls, LcOk w F L l
section
variable {w w' : World} {F G : Nat → Prop} {L P : Nat} {l : Lc} {r : Rc}
theorem LcOk.keep {T : Nat → Prop} (h : LcOk w F L l) (hk : KeepT F T w w') (h5 : ¬ T 5) (h3 : ¬ T 3) (hF : ∀ k, F k → G k) : LcOk w' G L l := by
 obtain ⟨g, h1, h2, h3', h4, h5', h6⟩ := h.sl
 obtain ⟨k1, k2⟩ := h6.keep h2 hk h5
 refine ⟨h.len, h.byt, ⟨g, h1, hF g h2, h3', h4, reads_keep h5' (fun x hx _ => ?_), k1⟩, ?_, fun g hg => hF g (h.fg g hg)⟩
 ·rw [h1] at hx
  cases hx
  exact k2
 ·exact owns_keep h.row (fun g hg => by obtain ⟨cs, hc⟩ := own_tag h.row hg; exact (hk g _ 3 (h.fg g hg) hc rfl h3).trans hc.symm)
theorem RcOk.keep {T : Nat → Prop} (h : RcOk w F L P r) (hk : KeepT F T w w') (h5 : ¬ T 5) (h3 : ¬ T 3) (hF : ∀ k, F k → G k) (hr : w'.heap[r.g]? = w.heap[r.g]?) : RcOk w' G L P r :=
 ⟨owns_keep h.row (fun g hg => by cases hg; exact hr), hF _ h.fg, h.np, fun p hp => (h.lf p hp).keep hk h5 h3 hF⟩
end
structure Rx where
 B : Nat
 P : Nat
 S : Nat
 gr : Nat
 nr : Nat
 cr : Nat
 fa : Option Addr
 fn : Nat
 fc : Nat
 dark : Bool
 cnt : Nat
 ta : Option Addr
 tl : Nat
 tc : Nat
def Rx.arr (x : Rx) : Array Value := #[.int .i64 (x.B : Int), .int .i64 (x.P : Int), .int .i64 (x.S : Int), .slice (some ⟨x.gr, 0, none⟩) x.nr x.cr, .slice x.fa x.fn x.fc, .bool x.dark, .int .i64 (x.cnt : Int), .slice x.ta x.tl x.tc]
def Rx.at (x : Rx) (w : World) (p : Nat) : Prop := w.heap[p]? = some (.cells x.arr 135 (0, 0))
section
variable {x : Rx} {w : World} {p : Nat}
theorem Rx.at.c0 (h : x.at w p) : w.cell? ⟨p, 0, none⟩ = some (.int .i64 (x.B : Int)) := by unfold Rx.at at h; simp only [World.cell?, h]; rfl
theorem Rx.at.c1 (h : x.at w p) : w.cell? ⟨p, 1, none⟩ = some (.int .i64 (x.P : Int)) := by unfold Rx.at at h; simp only [World.cell?, h]; rfl
theorem Rx.at.c2 (h : x.at w p) : w.cell? ⟨p, 2, none⟩ = some (.int .i64 (x.S : Int)) := by unfold Rx.at at h; simp only [World.cell?, h]; rfl
theorem Rx.at.c3 (h : x.at w p) : w.cell? ⟨p, 3, none⟩ = some (.slice (some ⟨x.gr, 0, none⟩) x.nr x.cr) := by unfold Rx.at at h; simp only [World.cell?, h]; rfl
theorem Rx.at.c4 (h : x.at w p) : w.cell? ⟨p, 4, none⟩ = some (.slice x.fa x.fn x.fc) := by unfold Rx.at at h; simp only [World.cell?, h]; rfl
theorem Rx.at.c5 (h : x.at w p) : w.cell? ⟨p, 5, none⟩ = some (.bool x.dark) := by unfold Rx.at at h; simp only [World.cell?, h]; rfl
theorem Rx.at.c6 (h : x.at w p) : w.cell? ⟨p, 6, none⟩ = some (.int .i64 (x.cnt : Int)) := by unfold Rx.at at h; simp only [World.cell?, h]; rfl
theorem Rx.at.c7 (h : x.at w p) : w.cell? ⟨p, 7, none⟩ = some (.slice x.ta x.tl x.tc) := by unfold Rx.at at h; simp only [World.cell?, h]; rfl
theorem Rx.at.fz (h : x.at w p) (j : Nat) : w.frozen? ⟨p, j, none⟩ = false := by unfold Rx.at at h; simp [World.frozen?, h]
theorem Rx.at.keep {w' : World} (h : x.at w p) (hb : w'.heap[p]? = w.heap[p]?) : x.at w' p := hb.trans h
theorem Rx.at.setDark (h : x.at w p) (d : Bool) : Rx.at { x with dark := d } (w.setCell ⟨p, 5, none⟩ (.bool d)) p := by
 unfold Rx.at at h ⊢
 rw [heap_setCell_same w p 5 _ 135 _ h]
 rfl
theorem Rx.at.setCnt (h : x.at w p) (n : Nat) : Rx.at { x with cnt := n } (w.setCell ⟨p, 6, none⟩ (.int .i64 (n : Int))) p := by
 unfold Rx.at at h ⊢
 rw [heap_setCell_same w p 6 _ 135 _ h]
 rfl
theorem Rx.at.setTr (h : x.at w p) (a : Option Addr) (l c : Nat) : Rx.at { x with ta := a, tl := l, tc := c } (w.setCell ⟨p, 7, none⟩ (.slice a l c)) p := by
 unfold Rx.at at h ⊢
 rw [heap_setCell_same w p 7 _ 135 _ h]
 rfl
end
def QRel (q : List Ft) (cnt : Nat) (fs : List Fc) : Prop := q = (fs.map Fc.t).filter (fun f => decide ((cnt : Int) ≤ f.a))
structure RAt (w0 w : World) (p : Nat) (F : Nat → Prop) (C : Ch) (fs : List Fc) (x : Rx) (rs : List Rc) : Prop where
 old : Below w0.heap.size w0 w
 lo : ∀ k, F k → w0.heap.size ≤ k
 flt : ReadsF w0 x.fa x.fn fs
 box : x.at w p
 fp : F p
 B : x.B = C.B
 P : x.P = C.P
 S : x.S = C.S
 nr : x.nr = rs.length
 dark : x.dark = C.dark
 cnt : x.cnt = C.cnt
 row : w.ownsRow 0 142 4 (.slice (some ⟨x.gr, 0, none⟩) x.nr x.cr) x.nr (rs.flatMap Rc.cells)
 fb : F x.gr
 bl : rs.map Rc.v = C.bl
 rok : ∀ r ∈ rs, RcOk w F (pgB C.S) C.P r
 gs : rs.Pairwise (fun b c => b.g ≠ c.g)
 far : (rs.flatMap Rc.ls).Pairwise (fun f g => ∀ k, f.fs.ownBlock = some k → g.fs.ownBlock ≠ some k)
 fl : ∀ (i k : Nat) r l, rs[i]? = some r → r.ls[k]? = some l → l.xs = C.fl i k
 q : QRel C.q C.cnt fs
 tr : w.ownsRow 0 120 4 (.slice x.ta x.tl x.tc) x.tl (C.tr.flatMap Cmd.cells)
 tl : x.tl = C.tr.length
 ft : ∀ g, (Value.slice x.ta x.tl x.tc).ownBlock = some g → F g
 fin : ∀ k, F k → k < w.heap.size
def RefAt (w0 w : World) (p : Nat) (F : Nat → Prop) (C : Ch) (fs : List Fc) : Prop := ∃ x rs, RAt w0 w p F C fs x rs
section
variable {w0 w w' : World} {p : Nat} {F G : Nat → Prop} {C C' : Ch} {fs : List Fc} {x x' : Rx} {rs : List Rc}
theorem RAt.frame {T : Nat → Prop} (h : RAt w0 w p F C fs x rs) (hT : KeepT F T w w') (h142 : ¬ T 142) (h144 : ¬ T 144) (h5 : ¬ T 5) (h3 : ¬ T 3) (hold : Below w0.heap.size w0 w') (hF : ∀ k, F k → G k) (hG : ∀ k, G k → k < w'.heap.size) (hlo : ∀ k, G k → w0.heap.size ≤ k) (hx : x'.at w' p)
  (e : x'.B = x.B ∧ x'.P = x.P ∧ x'.S = x.S ∧ x'.gr = x.gr ∧ x'.nr = x.nr ∧ x'.cr = x.cr ∧ x'.fa = x.fa ∧ x'.fn = x.fn)
  (hC : C'.B = C.B ∧ C'.P = C.P ∧ C'.S = C.S ∧ C'.bl = C.bl ∧ C'.fl = C.fl) (hd : x'.dark = C'.dark) (hc : x'.cnt = C'.cnt) (hq : QRel C'.q C'.cnt fs)
  (htr : w'.ownsRow 0 120 4 (.slice x'.ta x'.tl x'.tc) x'.tl (C'.tr.flatMap Cmd.cells)) (htl : x'.tl = C'.tr.length) (hft : ∀ g, (Value.slice x'.ta x'.tl x'.tc).ownBlock = some g → G g) : RAt w0 w' p G C' fs x' rs := by
 obtain ⟨e1, e2, e3, e4, e5, e6, e7, e8⟩ := e
 obtain ⟨c1, c2, c3, c4, c5⟩ := hC
 refine ⟨hold, hlo, by rw [e7, e8]; exact h.flt, hx, hF _ h.fp, by rw [e1, c1]; exact h.B, by rw [e2, c2]; exact h.P, by rw [e3, c3]; exact h.S, by rw [e5]; exact h.nr, hd, hc, ?_, by rw [e4]; exact hF _ h.fb, by rw [c4]; exact h.bl, ?_, h.gs, h.far, fun i k r l h1 h2 => by rw [c5]; exact h.fl i k r l h1 h2, hq, htr, htl, hft, hG⟩
 ·rw [e4, e5, e6]
  exact owns_keep h.row (fun g hg => by cases hg; obtain ⟨cs, hcs⟩ := own_tag h.row rfl; exact (hT _ _ 142 h.fb hcs rfl h142).trans hcs.symm)
 ·intro r hr
  rw [c3, c2]
  have hr9 := h.rok r hr
  obtain ⟨cs, hcs⟩ := own_tag hr9.row rfl
  exact hr9.keep hT h5 h3 hF ((hT _ _ 144 hr9.fg hcs rfl h144).trans hcs.symm)
theorem RAt.keep (h : RAt w0 w p F C fs x rs) (hk : ∀ k, F k → w'.heap[k]? = w.heap[k]?) (hold : Below w0.heap.size w0 w') (hF : ∀ k, F k → G k) (hG : ∀ k, G k → k < w'.heap.size) (hlo : ∀ k, G k → w0.heap.size ≤ k) : RAt w0 w' p G C fs x rs :=
 h.frame (T := fun _ => False) (fun k o t hf ho ht _ => (hk k hf).trans ho) (fun h => h) (fun h => h) (fun h => h) (fun h => h) hold hF hG hlo (h.box.keep (hk _ h.fp)) ⟨rfl, rfl, rfl, rfl, rfl, rfl, rfl, rfl⟩ ⟨rfl, rfl, rfl, rfl, rfl⟩ h.dark h.cnt h.q
  (owns_keep h.tr (fun g hg => hk g (h.ft g hg))) h.tl (fun g hg => hF g (h.ft g hg))
theorem RAt.below (h : RAt w0 w p F C fs x rs) (hb : Below w.heap.size w w') : RAt w0 w' p F C fs x rs :=
 h.keep (fun k hk => hb.block k (h.fin k hk)) (h.old.trans (hb.mono h.old.size)) (fun _ h => h) (fun k hk => Nat.lt_of_lt_of_le (h.fin k hk) hb.size) h.lo
theorem RefAt.below (h : RefAt w0 w p F C fs) (hb : Below w.heap.size w w') : RefAt w0 w' p F C fs := by
 obtain ⟨x, rs, h1⟩ := h
 exact ⟨x, rs, h1.below hb⟩
theorem RefAt.fin (h : RefAt w0 w p F C fs) : ∀ k, F k → k < w.heap.size := by
 obtain ⟨x, rs, h1⟩ := h
 exact h1.fin
theorem RefAt.only {H : Nat → Prop} (h : RefAt w0 w p F C fs) (hb : Only H w w') (hd : ∀ k, F k → ¬ H k) (hl : ∀ k, H k → w0.heap.size ≤ k) : RefAt w0 w' p F C fs := by
 obtain ⟨x, rs, h1⟩ := h
 exact ⟨x, rs, h1.keep (fun k hk => hb.block k (h1.fin k hk) (hd k hk)) (h1.old.trans (hb.below hl h1.old.size)) (fun _ h => h) (fun k hk => Nat.lt_of_lt_of_le (h1.fin k hk) hb.size) h1.lo⟩
theorem RefAt.fx (h : RefAt w0 w p F C fs) (hb : Below w.heap.size w w') : RefAt w0 w' p (Fx F w w') C fs := by
 obtain ⟨x, rs, h1⟩ := h
 exact ⟨x, rs, h1.keep (fun k hk => hb.block k (h1.fin k hk)) (h1.old.trans (hb.mono h1.old.size)) (fun _ h => Or.inl h) (fun k hk => hk.elim (fun h2 => Nat.lt_of_lt_of_le (h1.fin k h2) hb.size) (fun h2 => h2.2)) (fun k hk => hk.elim (h1.lo k) (fun h2 => Nat.le_trans h1.old.size h2.1))⟩
end
end Go.Proofs.Ytadlkikjfonkgaa
