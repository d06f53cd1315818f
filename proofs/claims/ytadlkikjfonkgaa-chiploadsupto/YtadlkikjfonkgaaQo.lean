/-
  SEAT Ytadlkikjfonkgaa: Wa, Wb, Ea.
-/
import Derived.Test.YtadlkikjfonkgaaQn
namespace Go.Proofs.Ytadlkikjfonkgaa
open Go.RowKit Go.Conc
set_option linter.unusedVariables false
set_option maxRecDepth 100000
set_option maxHeartbeats 4000000
variable {w u : World} {a : Option Addr} {n g : Nat}
structure Fc where
 a : Int
 k : Int
 ma : Option Addr
 ml : Nat
 mc : Nat
 f : Int
 m : List Int
def Fc.zero : Fc := ⟨0, 0, none, 0, 0, 0, []⟩
def Fc.t (c : Fc) : Ft := ⟨c.a, c.k, c.m, c.f⟩
def Fc.cell (c : Fc) : Nat → Value
 | 0 => .int .i64 c.a
 | 1 => .int .i64 c.k
 | 2 => .slice c.ma c.ml c.mc
 | _ => .int .u8 c.f
structure FcOk (w : World) (c : Fc) : Prop where
 rd : Reads w c.ma c.ml c.m
 le : c.ml ≤ 140737488351232
 cap : c.ml ≤ c.mc
 fill : 0 ≤ c.f ∧ c.f ≤ 255
 a : -9223372036854775808 ≤ c.a ∧ c.a ≤ 9223372036854775807
 k : -9223372036854775808 ≤ c.k ∧ c.k ≤ 9223372036854775807
def ReadsF (w : World) (a : Option Addr) (len : Nat) (fs : List Fc) : Prop :=
 fs.length = len ∧ (∀ c ∈ fs, FcOk w c) ∧ (a = none → len = 0) ∧ ∀ x, a = some x → ∀ i, i < len → ∀ j, j < 4 → w.cell? (x.add (i * 4 + j)) = some ((fs.getD i Fc.zero).cell j)
theorem ReadsF.pos {len : Nat} {fs : List Fc} (h : ReadsF w a len fs) (hp : 0 < len) :
  ∃ b off, a = some ⟨b, off, none⟩ ∧ b < w.heap.size ∧ ∀ i, i < len → w.cell? ⟨b, off + i * 4, none⟩ = some (.int .i64 (fs.getD i Fc.zero).a) ∧ w.cell? ⟨b, off + i * 4 + 1, none⟩ = some (.int .i64 (fs.getD i Fc.zero).k) ∧ w.cell? ⟨b, off + i * 4 + 2, none⟩ = some (.slice (fs.getD i Fc.zero).ma (fs.getD i Fc.zero).ml (fs.getD i Fc.zero).mc) ∧ w.cell? ⟨b, off + i * 4 + 3, none⟩ = some (.int .u8 (fs.getD i Fc.zero).f) := by
 obtain ⟨hl, _, hn, hc⟩ := h
 cases a with
 | none => have := hn rfl; omega
 | some x =>
  obtain ⟨b, off, spot⟩ := x
  have h0 := hc _ rfl 0 hp 0 (by omega)
  have hspot : spot = none := by simpa [Addr.add] using World.cell?_spot h0
  subst hspot
  refine ⟨b, off, rfl, by simpa [Addr.add] using block_lt_of_cell h0, fun i hi => ?_⟩
  have k0 := hc _ rfl i hi 0 (by omega)
  have k1 := hc _ rfl i hi 1 (by omega)
  have k2 := hc _ rfl i hi 2 (by omega)
  have k3 := hc _ rfl i hi 3 (by omega)
  rw [plain_add] at k0 k1 k2 k3
  exact ⟨k0, k1, k2, k3⟩
theorem ReadsF.ok {len : Nat} {fs : List Fc} (h : ReadsF w a len fs) (i : Nat) (hi : i < len) : FcOk w (fs.getD i Fc.zero) := by
 rw [List.getD_eq_getElem?_getD, List.getElem?_eq_getElem (by rw [h.1]; exact hi)]
 exact h.2.1 _ (List.getElem_mem _)
theorem info58 : (Try.prog.info? 58).map (fun i => (i.zero, i.size, i.bytes)) = some (some (.agg #[.int .i64 0, .int .i64 0, .slice none 0 0, .int .u8 0]), 4, 48) := by kernel_rfl
theorem mk98 (w : World) (n : Nat) (hn : n ≤ 4096) : (Instr.makeChan 98 (.int .i64 (n : Int))).run Try.prog w = .ok (.chan (some w.heap.size)) (w.alloc (.chan n #[] false 0 0 false)) := by
 obtain ⟨i, hi, hz0, hz1, hb⟩ := info_parts info58
 simpa using run_makeChan (P := Try.prog) (w := w) Try.underlying98 hi .i64 n (by omega) (by rw [hb]; omega)
theorem mask_own {B B0 : Nat} {v : Value} {zs : List Int} (h : u.ownsRow B 5 1 v n (zs.map (Value.int .u8))) (hB : B0 ≤ B) (hr : ∀ x ∈ zs, 0 ≤ x ∧ x ≤ 255) (hl : n ≤ 140737488351232) : ∃ a c, v = .slice a n c ∧ n ≤ c ∧ MaskOk u (fun k => B0 ≤ k ∧ k < u.heap.size) a n zs := by
 rcases h.2 with ⟨hv, h0⟩ | ⟨g, cap, cur, hv, hg, hh, hle, _⟩
 ·subst h0
  have h1 := h.1
  simp at h1
  subst h1
  exact ⟨none, 0, hv, Nat.le_refl _, MaskOk.nil _ _⟩
 ·refine ⟨_, cap, hv, hle, ?_⟩
  rw [hv] at h
  exact ⟨reads_of h hr, hl, fun x hx _ => by cases hx; exact ⟨⟨Nat.le_trans hB hg, lt_of_block hh⟩, cur, _, hh⟩⟩
structure WS (w : World) (n : Nat) (fs : List Fc) (j : Nat) (vs : List Value) (u : World) : Prop where
 le : j ≤ n
 len : vs.length = j
 ch : ∃ s r, u.heap[w.heap.size + 1]? = some (.chan n vs.toArray false s r false)
 bx : u.heap[w.heap.size]? = some (.cells #[.chan none, .int .i64 0, .int .i64 0, .slice none 0 0, .int .u8 0, .bool false] 100 (0, 0))
 bel : Below w.heap.size w u
 ok : ∀ (i : Nat) (v : Value) (g : Fc), vs[i]? = some v → fs[i]? = some g → FtOk u (fun k => w.heap.size ≤ k ∧ k < u.heap.size) v g.t
def WA (w : World) (sa : Option Addr) (n c : Nat) (j : Nat) (y5 y13 y14 y15 y16 y17 y18 y19 y20 y21 y22 : Value) : Act :=
 { tmps := #[.slice sa n c, undef, .pointer (some ⟨w.heap.size, 0, none⟩), .chan (some (w.heap.size + 1)), undef, y5, undef, .slice sa n c, .int .i64 (n : Int), .chan (some (w.heap.size + 1)), .slice sa n c, .int .i64 (n : Int), .int .i64 (j : Int), y13, y14, y15, y16, y17, y18, y19, y20, y21, y22, undef, undef, undef, undef, undef, undef, undef, undef, undef, undef, undef, undef], defers := [] }
def WI (w : World) (sa : Option Addr) (n c : Nat) (fs : List Fc) (a : Act) (u : World) : Prop :=
 ∃ j vs y5 y13 y14 y15 y16 y17 y18 y19 y20 y21 y22, a = WA w sa n c j y5 y13 y14 y15 y16 y17 y18 y19 y20 y21 y22 ∧ WS w n fs j vs u
def intAt : Option Value → Nat
 | some (.int _ z) => z.toNat
 | _ => 0
def WM (n : Nat) (a : Act) (_ : World) : Nat := n - intAt (a.tmps[12]?)
theorem ws_step {u1 u3 : World} {j vc : Nat} {fs : List Fc} {vs : List Value} {g : Fc} {va : Option Addr} (hW : WS w n fs j vs u) (hj : j < n) (hg : fs.getD j Fc.zero = g) (hfl : fs.length = n) (hb : Below (u.alloc (.cells #[.int .i64 g.a, .int .i64 g.k, .slice g.ma g.ml g.mc, .int .u8 g.f] 58)).heap.size (u.alloc (.cells #[.int .i64 g.a, .int .i64 g.k, .slice g.ma g.ml g.mc, .int .u8 g.f] 58)) u1) (hm : MaskOk u1 (fun k => w.heap.size ≤ k ∧ k < u1.heap.size) va g.ml g.m) (hvc : g.ml ≤ vc) (hfill : 0 ≤ g.f ∧ g.f ≤ 255)
  (h3 : ∃ s r, u3.heap[w.heap.size + 1]? = some (.chan n (vs ++ [(Value.agg #[.int .i64 g.a, .int .i64 g.k, .slice va g.ml vc, .int .u8 g.f])]).toArray false s r false)) (hO : Only (fun k => k = u.heap.size ∨ k = w.heap.size + 1) u1 u3) : WS w n fs (j + 1) (vs ++ [(Value.agg #[.int .i64 g.a, .int .i64 g.k, .slice va g.ml vc, .int .u8 g.f])]) u3 := by
 have hU : Only (fun k => k = u.heap.size ∨ k = w.heap.size + 1) u u1 := (Only.ofB (below_alloc _ _)).trans (Only.ofB (F := fun k => k = u.heap.size ∨ k = w.heap.size + 1) hb) (fun _ _ h => h)
 have hU3 := hU.trans hO (fun _ _ h => h)
 obtain ⟨s, r, hch⟩ := hW.ch
 have hcl := lt_of_block hch
 have hbl := lt_of_block hW.bx
 refine ⟨hj, by simp [hW.len], h3, (hU3.block _ hbl (fun e => by omega)).trans hW.bx, ?_, ?_⟩
 ·exact ((Only.ofB (F := fun k => w.heap.size ≤ k) hW.bel).trans hU3 (fun k _ e => by rcases e with e | e <;> omega)).below (fun _ h => h) (Nat.le_refl _)
 ·intro i v g' hv hg'
  by_cases hi : i < j
  ·rw [List.getElem?_append_left (by rw [hW.len]; exact hi)] at hv
   exact (hW.ok i v g' hv hg').keep (T := fun t => t = 1002) (hU3.keepT (fun k o t hk ho ht => by
    rcases hk with e | e
    ·have := lt_of_block ho
     omega
    ·rw [e, hch] at ho
     cases ho
     exact ht)) (by decide) (fun k hk => ⟨hk.1, Nat.lt_of_lt_of_le hk.2 hU3.size⟩)
  ·have hl := hW.len
   have hil : i < (vs ++ [(Value.agg #[.int .i64 g.a, .int .i64 g.k, .slice va g.ml vc, .int .u8 g.f])]).length := (List.getElem?_eq_some_iff.1 hv).1
   simp at hil
   have e : i = j := by omega
   subst e
   have eg : g' = g := by rw [← hg, List.getD_eq_getElem?_getD, hg']; rfl
   rw [eg]
   rw [List.getElem?_append_right (by omega), hl, Nat.sub_self] at hv
   cases hv
   have hbx : u1.heap[u.heap.size]? = some (.cells #[.int .i64 g.a, .int .i64 g.k, .slice g.ma g.ml g.mc, .int .u8 g.f] 58 (0, 0)) := (hb.block _ (by simp)).trans (alloc_new u _)
   have hch1 : u1.heap[w.heap.size + 1]? = _ := ((hb.block _ (by rw [alloc_size]; omega)).trans (alloc_old u _ hcl)).trans hch
   exact ⟨⟨va, _, vc, rfl, hm.keep (T := fun t => t = 1002 ∨ t = 58) (hO.keepT (fun k o t hk ho ht => by
    rcases hk with e | e
    ·rw [e, hbx] at ho
     cases ho
     exact Or.inr ht.symm
    ·rw [e, hch1] at ho
     cases ho
     exact Or.inl ht)) (by decide) (fun k hk => ⟨hk.1, Nat.lt_of_lt_of_le hk.2 hO.size⟩), hvc⟩, hfill⟩
theorem set5 {c0 c1 c2 c3 c4 c5 : Value} {T : TypeId} (h : w.heap[g]? = some (.cells #[c0, c1, c2, c3, c4, c5] T (0, 0))) (v1 v2 v3 v4 v5 : Value) : (((((w.setCell ⟨g, 1, none⟩ v1).setCell ⟨g, 2, none⟩ v2).setCell ⟨g, 3, none⟩ v3).setCell ⟨g, 4, none⟩ v4).setCell ⟨g, 5, none⟩ v5).heap[g]? = some (.cells #[c0, v1, v2, v3, v4, v5] T (0, 0)) :=
 heap_setCell_same _ g 5 #[c0, v1, v2, v3, v4, c5] T _ (heap_setCell_same _ g 4 #[c0, v1, v2, v3, c4, c5] T _ (heap_setCell_same _ g 3 #[c0, v1, v2, c3, c4, c5] T _ (heap_setCell_same _ g 2 #[c0, v1, c2, c3, c4, c5] T _ (heap_setCell_same w g 1 _ T _ h))))
theorem only5 (w : World) (g : Nat) (v1 v2 v3 v4 v5 : Value) : Only (· = g) w (((((w.setCell ⟨g, 1, none⟩ v1).setCell ⟨g, 2, none⟩ v2).setCell ⟨g, 3, none⟩ v3).setCell ⟨g, 4, none⟩ v4).setCell ⟨g, 5, none⟩ v5) :=
 ((((Only.setCell (· = g) w g 1 v1 rfl).trans' (Only.setCell _ _ g 2 v2 rfl)).trans' (Only.setCell _ _ g 3 v3 rfl)).trans' (Only.setCell _ _ g 4 v4 rfl)).trans' (Only.setCell _ _ g 5 v5 rfl)
theorem set6 {c0 c1 c2 c3 c4 c5 : Value} {T : TypeId} (h : w.heap[g]? = some (.cells #[c0, c1, c2, c3, c4, c5] T (0, 0))) (v0 v1 v2 v3 v4 v5 : Value) : ((((((w.setCell ⟨g, 0, none⟩ v0).setCell ⟨g, 1, none⟩ v1).setCell ⟨g, 2, none⟩ v2).setCell ⟨g, 3, none⟩ v3).setCell ⟨g, 4, none⟩ v4).setCell ⟨g, 5, none⟩ v5).heap[g]? = some (.cells #[v0, v1, v2, v3, v4, v5] T (0, 0)) :=
 set5 (heap_setCell_same w g 0 #[c0, c1, c2, c3, c4, c5] T v0 h) v1 v2 v3 v4 v5
theorem only6 (w : World) (g : Nat) (v0 v1 v2 v3 v4 v5 : Value) : Only (· = g) w ((((((w.setCell ⟨g, 0, none⟩ v0).setCell ⟨g, 1, none⟩ v1).setCell ⟨g, 2, none⟩ v2).setCell ⟨g, 3, none⟩ v3).setCell ⟨g, 4, none⟩ v4).setCell ⟨g, 5, none⟩ v5) :=
 (Only.setCell (· = g) w g 0 v0 rfl).trans' (only5 _ g v1 v2 v3 v4 v5)
theorem cells6 {c0 c1 c2 c3 c4 c5 : Value} {T : TypeId} (h : w.heap[g]? = some (.cells #[c0, c1, c2, c3, c4, c5] T (0, 0))) : w.cell? ⟨g, 0, none⟩ = some c0 ∧ w.cell? ⟨g, 1, none⟩ = some c1 ∧ w.cell? ⟨g, 2, none⟩ = some c2 ∧ w.cell? ⟨g, 3, none⟩ = some c3 ∧ w.cell? ⟨g, 4, none⟩ = some c4 ∧ w.cell? ⟨g, 5, none⟩ = some c5 := by
 refine ⟨?_, ?_, ?_, ?_, ?_, ?_⟩ <;> simp [World.cell?, h]
theorem waiting_any (w : World) (sa : Option Addr) (n c : Nat) (fs : List Fc) (hR : ReadsF w sa n fs) (hn : n ≤ 4096) : Calls Try.prog 84 #[.slice sa n c] w fun e w' => ∃ x : Bx, e = .returned (.agg #[.chan (some x.c), .int .i64 x.fa, .int .i64 x.fk, .slice x.ma x.ml x.mc, .int .u8 x.ff, .bool x.hn]) ∧ QAt w' (fun k => w.heap.size ≤ k ∧ k < w'.heap.size) x (fs.map Fc.t) ∧ Below w.heap.size w w' := by
 have hmk := fun w => mk98 w n hn
 refine calls_of_wpN Try.func84 rfl ?_
 simp only [Try.ntmps84, List.size_toArray, List.length_cons, List.length_nil, Nat.reduceAdd, Nat.reduceSub, Array.replicate_succ,
   Array.replicate_zero, List.push_toArray, List.append_toArray, List.nil_append, List.cons_append]
 refine wpN_seq_k fun K N => wpN_of_wp ?_
 go_wp2
 refine wpN_seq_k fun K N => wpN_of_wp ?_
 go_wp2
 clear hmk
 refine wpN_seq_k fun K N => ?_
 have HK := J N
 clear N
 refine wpN_seq_k fun K2 hK2 => wpN_of_wp ?_
 go_wp2
 refine wpN_block ?_
 refine wpN_loop (WI w sa n c fs) (WM n) ⟨0, [], _, _, _, _, _, _, _, _, _, _, _, rfl, ⟨Nat.zero_le _, rfl, ⟨0, 0, by have h2 := alloc_new (w.alloc (.cells #[.chan none, .int .i64 0, .int .i64 0, .slice none 0 0, .int .u8 0, .bool false] 100)) (.chan n #[] false 0 0 false); rw [alloc_size] at h2; exact h2⟩, (alloc_old _ _ (by simp)).trans (alloc_new w _), below_trans (below_alloc _ _) (below_alloc _ _), fun i v g hv => by simp at hv⟩⟩ ?_
 rintro a u ⟨j, vs, y5, y13, y14, y15, y16, y17, y18, y19, y20, y21, y22, rfl, hW⟩
 have HW := J hW
 have hjn := hW.le
 clear hW
 unfold WA
 by_cases hj : j < n
 ·have hlt : decide ((j : Int) < (n : Int)) = true := decide_eq_true (by omega)
  obtain ⟨b, off, rfl, hb, hcells⟩ := hR.pos (by omega)
  obtain ⟨k0, k1, k2, k3⟩ := hcells j hj
  have hfo := hR.ok j hj
  obtain ⟨g, hg⟩ : ∃ g, fs.getD j Fc.zero = g := ⟨_, rfl⟩
  rw [hg] at k0 k1 k2 k3 hfo
  have HFO := J hfo
  have HG := J hg
  have d0 := (HW.out.bel.cell (block_lt_of_cell k0)).trans k0
  have d1 := (HW.out.bel.cell (block_lt_of_cell k1)).trans k1
  have d2 := (HW.out.bel.cell (block_lt_of_cell k2)).trans k2
  have d3 := (HW.out.bel.cell (block_lt_of_cell k3)).trans k3
  clear k0 k1 k2 k3 hfo hg hcells
  refine wpN_seq_k fun K3 hK3 => wpN_of_wp ?_
  go_wp2
  refine wpN_seq_k fun K4 hK4 => wpN_of_wp ?_
  go_wp2
  refine wpN_seq_k fun K5 hK5 => ?_
  refine wpN_block ?_
  refine wpN_seq_k fun K6 hK6 => wpN_of_wp ?_
  go_wp2
  have RD := J ((HFO.out.rd.below HW.out.bel).below (below_alloc u (.cells #[.int .i64 g.a, .int .i64 g.k, .slice g.ma g.ml g.mc, .int .u8 g.f] 58)))
  have HFL := J hR.1
  have HRD := J hR
  clear hR d0 d1 d2 d3
  refine wpN_seq_k fun K7 hK7 => wpN_of_wp ?_
  go_wp2_with (first | (go_at_call 49; refine (clone_any g.ma g.ml g.mc g.m _ RD.out HFO.out.le).mono ?_; rintro e u1 ⟨v, rfl, ow, b1⟩; obtain ⟨va, vc, rfl, hvc, hvm⟩ := mask_own (B0 := w.heap.size) ow (by rw [alloc_size]; have := HW.out.bel.size; omega) HFO.out.rd.2.1 HFO.out.le; have hbx : u1.heap[u.heap.size]? = some (.cells #[.int .i64 g.a, .int .i64 g.k, .slice g.ma g.ml g.mc, .int .u8 g.f] 58 (0, 0)) := (b1.block _ (by simp)).trans (alloc_new u _); have HBX := J hbx; have HB1 := J b1; have HVM := J hvm; have HVC := J hvc; obtain ⟨q0, q1, q2, q3⟩ := cells4 hbx; have fq := fun j => frozen_of_row u1 u.heap.size j _ 58 hbx; clear ow b1 hvc hvm hbx))
  have x2 := heap_setCell_same u1 u.heap.size 2 #[.int .i64 g.a, .int .i64 g.k, .slice g.ma g.ml g.mc, .int .u8 g.f] 58 (.slice va g.ml vc) HBX.out
  have o2 := Only.setCell (· = u.heap.size) u1 u.heap.size 2 (.slice va g.ml vc) rfl
  generalize hu2 : World.setCell u1 _ _ = u2 at x2 o2 ⊢
  clear q0 q1 q2 q3 fq
  obtain ⟨q0, q1, q2, q3⟩ := cells4 (c2 := .slice va g.ml vc) x2
  obtain ⟨s, r, hch⟩ := HW.out.ch
  have hne : w.heap.size + 1 ≠ u.heap.size := by have := lt_of_block hch; omega
  have hch2 : u2.heap[w.heap.size + 1]? = some (.chan n vs.toArray false s r false) := (o2.block _ (Nat.lt_of_lt_of_le (lt_of_block hch) (by have := HB1.out.size; rw [alloc_size] at this; omega)) hne).trans ((HB1.out.block _ (by rw [alloc_size]; have := lt_of_block hch; omega)).trans ((alloc_old u _ (lt_of_block hch)).trans hch))
  refine wpN_region ?_
  show SemOps _ _ _ [0, 1, 2] _ _
  refine semops_value rfl rfl rfl ?_
  refine semops_value rfl rfl (by simp [go_sem, execOp, Act.eval, q0, q1, q2, q3]; exact ⟨rfl, rfl⟩) ?_
  refine semops_send_room (c := w.heap.size + 1) (cap := n) (s := s) (r := r) (tm := false) (buf := vs.toArray) (v := (Value.agg #[.int .i64 g.a, .int .i64 g.k, .slice va g.ml vc, .int .u8 g.f])) (z := .tuple #[]) rfl rfl (by simp [go_sem, execOp, Act.eval, scase]) hch2 (by simp [HW.out.len]; exact hj) ?_
  have h3 : ∃ s' r', (u2.setChan (w.heap.size + 1) n (vs.toArray.push (Value.agg #[.int .i64 g.a, .int .i64 g.k, .slice va g.ml vc, .int .u8 g.f])) false (s + 1) r false).heap[w.heap.size + 1]? = some (.chan n (vs ++ [(Value.agg #[.int .i64 g.a, .int .i64 g.k, .slice va g.ml vc, .int .u8 g.f])]).toArray false s' r' false) := ⟨s + 1, r, by rw [heap_setChan _ _ _ _ _ _ _ _ (lt_of_block hch2)]; simp⟩
  have o3 : Only (fun k => k = u.heap.size ∨ k = w.heap.size + 1) u1 (u2.setChan (w.heap.size + 1) n (vs.toArray.push (Value.agg #[.int .i64 g.a, .int .i64 g.k, .slice va g.ml vc, .int .u8 g.f])) false (s + 1) r false) := (o2.mono (fun _ _ e => Or.inl e)).trans (G := fun k => k = w.heap.size + 1) ⟨rfl, rfl, rfl, by simp [World.setChan], fun k hk hf => by simp only [World.setChan]; rw [Array.getElem?_setIfInBounds_ne (fun e => hf e.symm)]⟩ (fun _ _ e => Or.inr e)
  have HS := J (ws_step HW.out hj HG.out HFL.out HB1.out HVM.out HVC.out HFO.out.fill h3 o3)
  generalize hu3 : World.setChan u2 _ _ _ _ _ _ _ = u3 at HS ⊢
  clear h3 o3 hu3 hu2 hch2 hch x2 o2 q0 q1 q2 q3
  refine semops_drop 3 _ rfl ?_
  simp only [List.drop_succ_cons, List.drop_zero]
  have hw1 : IntKind.i64.wrap ((j : Int) + 1) = ((j + 1 : Nat) : Int) := by simp only [IntKind.wrap_i64]; omega
  go_wp2
  refine wpN_of_wp ?_
  go_wp2
  refine ⟨⟨j + 1, _, _, _, _, _, _, _, _, _, _, _, _, rfl, HS.out⟩, ?_⟩
  show n - intAt (some (.int .i64 ((j + 1 : Nat) : Int))) < n - intAt (some (.int .i64 (j : Int)))
  simp only [intAt, Int.toNat_natCast]
  omega
 ·have hlt : decide ((j : Int) < (n : Int)) = false := decide_eq_false (by omega)
  refine wpN_seq_k fun K3 hK3 => wpN_of_wp ?_
  go_wp2
  refine wpN_seq_k fun K4 hK4 => wpN_of_wp ?_
  go_wp2
  have ej : j = n := by omega
  subst ej
  obtain ⟨s, r, hch⟩ := HW.out.ch
  refine HK.out _ _ ?_
  clear HK
  have hcl := fun ats ty => run_close_open (P := Try.prog) ats ty hch
  refine wpN_seq_k fun K5 hK5 => wpN_of_wp ?_
  go_wp2
  clear hcl
  have o1 := only_set u (w.heap.size + 1) (.chan j vs.toArray true s r false)
  have c1 := heap_set u (w.heap.size + 1) (.chan j vs.toArray true s r false) (lt_of_block hch)
  obtain ⟨t, ht⟩ : ∃ t, t = ({ u with heap := u.heap.setIfInBounds (w.heap.size + 1) (.chan j vs.toArray true s r false) } : World) := ⟨_, rfl⟩
  rw [← ht] at o1 c1 ⊢
  clear ht
  refine wpN_seq_k fun K6 hK6 => wpN_of_wp ?_
  go_wp2
  have HO1 := J ((Only.ofB (F := fun k => k = w.heap.size + 1) (below_alloc t (.cells #[.chan (some (w.heap.size + 1)), .int .i64 0, .int .i64 0, .slice none 0 0, .int .u8 0, .bool false] 100))))
  have hcl := lt_of_block c1
  have hts : w.heap.size < t.heap.size := by omega
  have c2 : (t.alloc (.cells #[.chan (some (w.heap.size + 1)), .int .i64 0, .int .i64 0, .slice none 0 0, .int .u8 0, .bool false] 100)).heap[w.heap.size + 1]? = some (.chan j vs.toArray true s r false) := (alloc_old t _ hcl).trans c1
  have x2 : (t.alloc (.cells #[.chan (some (w.heap.size + 1)), .int .i64 0, .int .i64 0, .slice none 0 0, .int .u8 0, .bool false] 100)).heap[t.heap.size]? = some (.cells #[.chan (some (w.heap.size + 1)), .int .i64 0, .int .i64 0, .slice none 0 0, .int .u8 0, .bool false] 100 (0, 0)) := alloc_new t _
  have z2 : (t.alloc (.cells #[.chan (some (w.heap.size + 1)), .int .i64 0, .int .i64 0, .slice none 0 0, .int .u8 0, .bool false] 100)).heap[w.heap.size]? = some (.cells #[.chan none, .int .i64 0, .int .i64 0, .slice none 0 0, .int .u8 0, .bool false] 100 (0, 0)) := (alloc_old t _ hts).trans ((o1.block _ (lt_of_block HW.out.bx) (by omega)).trans HW.out.bx)
  have b2 : Only (fun k => k = w.heap.size + 1) u (t.alloc (.cells #[.chan (some (w.heap.size + 1)), .int .i64 0, .int .i64 0, .slice none 0 0, .int .u8 0, .bool false] 100)) := o1.trans (Only.ofB (F := fun k => k = w.heap.size + 1) (below_alloc t _)) (fun _ _ h => h)
  have hsz2 : t.heap.size < (t.alloc (.cells #[.chan (some (w.heap.size + 1)), .int .i64 0, .int .i64 0, .slice none 0 0, .int .u8 0, .bool false] 100)).heap.size := by simp
  obtain ⟨tb, htb⟩ : ∃ tb, tb = t.heap.size := ⟨_, rfl⟩
  obtain ⟨t2, ht2⟩ : ∃ t2, t2 = t.alloc (.cells #[.chan (some (w.heap.size + 1)), .int .i64 0, .int .i64 0, .slice none 0 0, .int .u8 0, .bool false] 100) := ⟨_, rfl⟩
  have hut : u.heap.size ≤ t.heap.size := o1.size
  rw [← htb] at x2 hsz2 hut hts ⊢
  rw [← ht2] at c2 x2 z2 b2 hsz2 ⊢
  clear HO1 ht2 htb c1 o1
  refine wpN_seq_k fun K7 hK7 => wpN_region ?_
  show SemOps _ _ _ [0, 1, 2, 3, 4, 5, 6, 7, 8, 9] _ _
  refine semops_value rfl rfl (by simp [go_sem, execOp, Act.eval]; exact ⟨rfl, rfl⟩) ?_
  have e0 := (cells6 x2).1
  refine semops_value rfl rfl (by simp [go_sem, execOp, Act.eval, e0]; first | exact ⟨rfl, rfl⟩ | rfl) ?_
  clear e0
  have HRL := J hR.1
  cases vs with
  | nil =>
   have hfs : fs.map Fc.t = [] := by
    have h1 := HW.out.len
    have h2 := HRL.out
    simp at h1
    subst h1
    rw [List.length_eq_zero_iff.1 h2]
    rfl
   refine semops_recv_shut (c := w.heap.size + 1) (cap := j) (s := s) (r := r) (tm := false) (z := (.agg #[.int .i64 0, .int .i64 0, .slice none 0 0, .int .u8 0])) true rfl rfl (by simp [go_sem, execOp, Act.eval, rcase]) c2 ?_
   rw [show got true (.agg #[.int .i64 0, .int .i64 0, .slice none 0 0, .int .u8 0]) false = .tuple #[(.agg #[.int .i64 0, .int .i64 0, .slice none 0 0, .int .u8 0]), .bool false] from rfl]
   obtain ⟨t3, ht3⟩ : ∃ t3, t3 = t2 := ⟨_, rfl⟩
   rw [← ht3] at c2 x2 z2 b2 hsz2 ⊢
   clear ht3
   have x3 := x2
   have z3 := z2
   have c3 := c2
   have b3 := b2
   have hts3 : w.heap.size + 1 < tb := by have := lt_of_block hch; omega
   clear x2 z2 c2 b2
   have HX3 := J x3
   have HZ3 := J z3
   have HC3 := J c3
   have HB3 := J b3
   have HTL := J hts3
   refine semops_drop 3 _ rfl ?_
   simp only [List.drop_succ_cons, List.drop_zero]
   obtain ⟨e0, e1, e2, e3, e4, e5⟩ := cells6 x3
   have fe := fun j => frozen_of_row t3 tb j _ 100 x3
   clear x3 z3 c3 b3 hts3
   go_wp2
   have x4 := set5 HX3.out (.int .i64 0) (.int .i64 0) (.slice none 0 0) (.int .u8 0) (.bool false)
   have o4 := only5 t3 tb (.int .i64 0) (.int .i64 0) (.slice none 0 0) (.int .u8 0) (.bool false)
   generalize hv : World.setCell _ ⟨tb, 5, none⟩ _ = v at x4 o4 ⊢
   clear hv e0 e1 e2 e3 e4 e5 fe
   have z4 := (o4.block _ (lt_of_block HZ3.out) (by have := HTL.out; omega)).trans HZ3.out
   obtain ⟨e0, e1, e2, e3, e4, e5⟩ := cells6 x4
   obtain ⟨f0, f1, f2, f3, f4, f5⟩ := cells6 z4
   have fe := fun j => frozen_of_row v w.heap.size j _ 100 z4
   have HO4 := J o4
   have HZ4 := J z4
   clear o4 z4 x4
   refine wpN_seq_k fun K8 hK8 => wpN_of_wp ?_
   go_wp2
   have x5 := set6 HZ4.out (.chan (some (w.heap.size + 1))) (.int .i64 0) (.int .i64 0) (.slice none 0 0) (.int .u8 0) (.bool false)
   have o5 := only6 v w.heap.size (.chan (some (w.heap.size + 1))) (.int .i64 0) (.int .i64 0) (.slice none 0 0) (.int .u8 0) (.bool false)
   generalize hz : World.setCell _ ⟨w.heap.size, 5, none⟩ _ = z at x5 o5 ⊢
   clear hz e0 e1 e2 e3 e4 e5 f0 f1 f2 f3 f4 f5 fe
   obtain ⟨f0, f1, f2, f3, f4, f5⟩ := cells6 x5
   refine wpN_of_wp ?_
   go_wp2
   refine bodyPost_ret (v := .agg #[.chan (some (w.heap.size + 1)), (.int .i64 0), (.int .i64 0), (.slice none 0 0), (.int .u8 0), (.bool false)]) (by simp [results, Try.results84, go_sem, f0, f1, f2, f3, f4, f5]) rfl ?_
   have oz : Only (fun k => k = w.heap.size + 1 ∨ k = tb ∨ k = w.heap.size) u z := ((HB3.out.mono (fun _ _ e => Or.inl e)).trans HO4.out (fun _ _ e => Or.inr (Or.inl e))).trans o5 (fun _ _ e => Or.inr (Or.inr e))
   have cz := (o5.block _ (Nat.lt_of_lt_of_le (lt_of_block HC3.out) HO4.out.size) (by omega)).trans ((HO4.out.block _ (lt_of_block HC3.out) (by have := HTL.out; omega)).trans HC3.out)
   have bz : Below w.heap.size w z := ((Only.ofB (F := fun k => w.heap.size ≤ k) HW.out.bel).trans oz (fun k _ e => by have := HTL.out; omega)).below (fun _ h => h) (Nat.le_refl _)
   have kz : KeepT (fun k => w.heap.size ≤ k ∧ k < u.heap.size) (fun t => t = 1002 ∨ t = 100) u z := oz.keepT (fun k o t hk ho ht => by
    rcases hk with e | e | e
    ·rw [e, hch] at ho
     cases ho
     exact Or.inl ht
    ·have := lt_of_block ho
     omega
    ·rw [e, HW.out.bx] at ho
     cases ho
     exact Or.inr ht.symm)
   exact ⟨⟨0, 0, 0, 0, 0, 0, w.heap.size + 1, 0, 0, none, 0, 0, 0, false, false, 0, none, 0, 0⟩, rfl, ⟨⟨_, _, _, [], cz, by rw [hfs]; exact ⟨rfl, rfl⟩⟩, by show w.heap.size ≤ w.heap.size + 1 ∧ w.heap.size + 1 < z.heap.size; have := lt_of_block cz; omega⟩, bz⟩
  | cons v0 rv =>
   obtain ⟨g, gr, hfs'⟩ : ∃ g gr, fs = g :: gr := by
    cases hf : fs with
    | nil =>
     have h1 := HW.out.len
     have h2 := HRL.out
     rw [hf] at h2
     simp at h1 h2
     omega
    | cons g gr => exact ⟨g, gr, rfl⟩
   have hfs : fs.map Fc.t = g.t :: gr.map Fc.t := by rw [hfs']; rfl
   obtain ⟨⟨ma, ml, mc, hve, hmask, hmc⟩, hfill⟩ := HW.out.ok 0 v0 g rfl (by rw [hfs']; rfl)
   have hve' : v0 = .agg #[.int .i64 g.a, .int .i64 g.k, .slice ma ml mc, .int .u8 g.f] := hve
   subst hve'
   refine semops_recv_buf (c := w.heap.size + 1) (cap := j) (s := s) (r := r) (tm := false) (closed := true) (buf := (Value.agg #[.int .i64 g.a, .int .i64 g.k, .slice ma ml mc, .int .u8 g.f] :: rv).toArray) (z := (.agg #[.int .i64 0, .int .i64 0, .slice none 0 0, .int .u8 0])) true rfl rfl (by simp [go_sem, execOp, Act.eval, rcase]) c2 (by simp) ?_
   rw [show got true (Array.getD (Value.agg #[.int .i64 g.a, .int .i64 g.k, .slice ma ml mc, .int .u8 g.f] :: rv).toArray 0 undef) true = .tuple #[.agg #[.int .i64 g.a, .int .i64 g.k, .slice ma ml mc, .int .u8 g.f], .bool true] from rfl]
   obtain ⟨t3, ht3⟩ : ∃ t3, t3 = t2.setChan (w.heap.size + 1) j ((Value.agg #[.int .i64 g.a, .int .i64 g.k, .slice ma ml mc, .int .u8 g.f] :: rv).toArray.extract 1 (Value.agg #[.int .i64 g.a, .int .i64 g.k, .slice ma ml mc, .int .u8 g.f] :: rv).toArray.size) true s (r + 1) false := ⟨_, rfl⟩
   have o3 : Only (· = w.heap.size + 1) t2 t3 := by
    rw [ht3]
    exact ⟨rfl, rfl, rfl, by simp [World.setChan], fun k hk hf => by simp only [World.setChan]; rw [Array.getElem?_setIfInBounds_ne (fun e => hf e.symm)]⟩
   have c3 : t3.heap[w.heap.size + 1]? = some (.chan j rv.toArray true s (r + 1) false) := by
    rw [ht3, heap_setChan _ _ _ _ _ _ _ _ (lt_of_block c2)]
    simp
   rw [← ht3]
   clear ht3
   have hts3 : w.heap.size + 1 < tb := by have := lt_of_block hch; omega
   have x3 := (o3.block _ (lt_of_block x2) (by omega)).trans x2
   have z3 := (o3.block _ (lt_of_block z2) (by omega)).trans z2
   have b3 := b2.trans o3 (fun _ _ h => h)
   clear x2 z2 c2 b2 o3
   have HX3 := J x3
   have HZ3 := J z3
   have HC3 := J c3
   have HB3 := J b3
   have HTL := J hts3
   refine semops_drop 3 _ rfl ?_
   simp only [List.drop_succ_cons, List.drop_zero]
   obtain ⟨e0, e1, e2, e3, e4, e5⟩ := cells6 x3
   have fe := fun j => frozen_of_row t3 tb j _ 100 x3
   clear x3 z3 c3 b3 hts3
   go_wp2
   have x4 := set5 HX3.out (.int .i64 g.a) (.int .i64 g.k) (.slice ma ml mc) (.int .u8 g.f) (.bool true)
   have o4 := only5 t3 tb (.int .i64 g.a) (.int .i64 g.k) (.slice ma ml mc) (.int .u8 g.f) (.bool true)
   generalize hv : World.setCell _ ⟨tb, 5, none⟩ _ = v at x4 o4 ⊢
   clear hv e0 e1 e2 e3 e4 e5 fe
   have z4 := (o4.block _ (lt_of_block HZ3.out) (by have := HTL.out; omega)).trans HZ3.out
   obtain ⟨e0, e1, e2, e3, e4, e5⟩ := cells6 x4
   obtain ⟨f0, f1, f2, f3, f4, f5⟩ := cells6 z4
   have fe := fun j => frozen_of_row v w.heap.size j _ 100 z4
   have HO4 := J o4
   have HZ4 := J z4
   clear o4 z4 x4
   refine wpN_seq_k fun K8 hK8 => wpN_of_wp ?_
   go_wp2
   have x5 := set6 HZ4.out (.chan (some (w.heap.size + 1))) (.int .i64 g.a) (.int .i64 g.k) (.slice ma ml mc) (.int .u8 g.f) (.bool true)
   have o5 := only6 v w.heap.size (.chan (some (w.heap.size + 1))) (.int .i64 g.a) (.int .i64 g.k) (.slice ma ml mc) (.int .u8 g.f) (.bool true)
   generalize hz : World.setCell _ ⟨w.heap.size, 5, none⟩ _ = z at x5 o5 ⊢
   clear hz e0 e1 e2 e3 e4 e5 f0 f1 f2 f3 f4 f5 fe
   obtain ⟨f0, f1, f2, f3, f4, f5⟩ := cells6 x5
   refine wpN_of_wp ?_
   go_wp2
   refine bodyPost_ret (v := .agg #[.chan (some (w.heap.size + 1)), (.int .i64 g.a), (.int .i64 g.k), (.slice ma ml mc), (.int .u8 g.f), (.bool true)]) (by simp [results, Try.results84, go_sem, f0, f1, f2, f3, f4, f5]) rfl ?_
   have oz : Only (fun k => k = w.heap.size + 1 ∨ k = tb ∨ k = w.heap.size) u z := ((HB3.out.mono (fun _ _ e => Or.inl e)).trans HO4.out (fun _ _ e => Or.inr (Or.inl e))).trans o5 (fun _ _ e => Or.inr (Or.inr e))
   have cz := (o5.block _ (Nat.lt_of_lt_of_le (lt_of_block HC3.out) HO4.out.size) (by omega)).trans ((HO4.out.block _ (lt_of_block HC3.out) (by have := HTL.out; omega)).trans HC3.out)
   have bz : Below w.heap.size w z := ((Only.ofB (F := fun k => w.heap.size ≤ k) HW.out.bel).trans oz (fun k _ e => by have := HTL.out; omega)).below (fun _ h => h) (Nat.le_refl _)
   have kz : KeepT (fun k => w.heap.size ≤ k ∧ k < u.heap.size) (fun t => t = 1002 ∨ t = 100) u z := oz.keepT (fun k o t hk ho ht => by
    rcases hk with e | e | e
    ·rw [e, hch] at ho
     cases ho
     exact Or.inl ht
    ·have := lt_of_block ho
     omega
    ·rw [e, HW.out.bx] at ho
     cases ho
     exact Or.inr ht.symm)
   exact ⟨⟨0, 0, 0, 0, 0, 0, w.heap.size + 1, g.a, g.k, ma, ml, mc, g.f, true, false, 0, none, 0, 0⟩, rfl, ⟨⟨_, _, _, rv, cz, by
    rw [hfs]
    refine ⟨rfl, rfl, rfl, rfl, hfill, hmask.keep kz (by decide) (fun k hk => ⟨hk.1, Nat.lt_of_lt_of_le hk.2 oz.size⟩), hmc, ?_, ?_⟩
    ·have h1 := HW.out.len
     have h2 := HRL.out
     rw [hfs'] at h2
     simp at h1 h2 ⊢
     omega
    ·intro i v' g' hv' hg'
     rw [List.getElem?_map] at hg'
     obtain ⟨g'', hg1, hg2⟩ := Option.map_eq_some_iff.1 hg'
     rw [← hg2]
     exact (HW.out.ok (i + 1) v' g'' (by rw [List.getElem?_cons_succ]; exact hv') (by rw [hfs', List.getElem?_cons_succ]; exact hg1)).keep kz (by decide) (fun k hk => ⟨hk.1, Nat.lt_of_lt_of_le hk.2 oz.size⟩)⟩, by show w.heap.size ≤ w.heap.size + 1 ∧ w.heap.size + 1 < z.heap.size; have := lt_of_block cz; omega⟩, bz⟩
def fmb : Int → List Fc → Bool
 | _, [] => true
 | l, c :: r => if decide (c.a ≤ l) || (c.k != 1 && c.k != 2) then false else fmb c.a r
def faultsB (fs : List Fc) : Bool := decide (fs.length ≤ 4096) && fmb (-1) fs
theorem faults_any (w : World) (sa : Option Addr) (n c : Nat) (fs : List Fc) (hR : ReadsF w sa n fs) (hn : n ≤ 9223372036854775807) :
  Calls Try.prog 47 #[.slice sa n c] w fun e w' => e = .returned (.bool (faultsB fs)) ∧ Below w.heap.size w w' := by
 have hl := hR.1
 by_cases hbig : (n : Int) > 4096
 ·have hd : decide ((n : Int) > 4096) = true := decide_eq_true hbig
  have e1 : faultsB fs = false := by unfold faultsB; rw [decide_eq_false (by omega)]; rfl
  rw [e1]
  clear hR
  go_enter Try.func47, Try.ntmps47
  go_wp2
  go_ret
  exact ⟨rfl, Below.refl _ _⟩
 ·have hd : decide ((n : Int) > 4096) = false := decide_eq_false hbig
  have e1 : faultsB fs = fmb (-1) fs := by unfold faultsB; rw [decide_eq_true (by omega)]; rfl
  rw [e1]
  clear e1
  have HR := J hR
  have HL := J hl
  clear hR hl
  go_enter Try.func47, Try.ntmps47
  go_wp2
  go_loopw [3, 11] (fun s3 s11 wr => ∃ (m : Nat) (last : Int), m ≤ n ∧ s3 = .int .i64 last ∧ s11 = .int .i64 m ∧ Hid (Below w.heap.size w wr) ∧ Hid (fmb (-1) fs = fmb last (fs.drop m)))
   (fun s3 s11 _ => n - (intOf s11).toNat)
  case atStart => exact ⟨0, -1, Nat.zero_le _, rfl, rfl, Below.refl _ _, rfl⟩
  case round =>
   obtain ⟨m, last, hm, rfl, rfl, HB, HQ⟩ := hrel
   by_cases hlt : m < n
   ·obtain ⟨b, off, rfl, hb, hcells⟩ := HR.out.pos (by omega)
    obtain ⟨k0, k1, k2, k3⟩ := hcells m hlt
    obtain ⟨g, hg⟩ : ∃ g, fs.getD m Fc.zero = g := ⟨_, rfl⟩
    rw [hg] at k0 k1 k2 k3
    have d0 := (HB.out.cell (block_lt_of_cell k0)).trans k0
    have d1 := (HB.out.cell (block_lt_of_cell k1)).trans k1
    have d2 := (HB.out.cell (block_lt_of_cell k2)).trans k2
    have d3 := (HB.out.cell (block_lt_of_cell k3)).trans k3
    have HD : Hid (fmb last (fs.drop m) = if decide (g.a ≤ last) || (g.k != 1 && g.k != 2) then false else fmb g.a (fs.drop (m + 1))) := by
     have hml : m < fs.length := by rw [HL.out]; exact hlt
     unfold Hid
     rw [List.drop_eq_getElem_cons hml]
     rw [List.getD_eq_getElem?_getD, List.getElem?_eq_getElem hml] at hg
     rw [show fs[m] = g from hg]
     rfl
    have m1 : (m : Int) < (n : Int) := by omega
    have dm : decide ((m : Int) < (n : Int)) = true := decide_eq_true m1
    have HNB : Hid (Below w.heap.size w (wr.alloc (.cells #[.int .i64 g.a, .int .i64 g.k, .slice g.ma g.ml g.mc, .int .u8 g.f] 58))) := below_trans HB.out (below_alloc _ _)
    clear k0 k1 k2 k3 hg hcells
    cases h1 : decide (g.a ≤ last) with
    | true =>
     go_wp2
     go_ret
     exact ⟨by rw [HQ.out, HD.out, h1]; rfl, HNB.out⟩
    | false =>
     cases h2 : (g.k != 1) with
     | false =>
      go_wp2
      exact ⟨⟨m + 1, g.a, by omega, rfl, by simp, HNB.out, by rw [HQ.out, HD.out, h1, h2]; rfl⟩, by simp [intOf]; omega⟩
     | true =>
      cases h3 : (g.k != 2) with
      | false =>
       go_wp2
       exact ⟨⟨m + 1, g.a, by omega, rfl, by simp, HNB.out, by rw [HQ.out, HD.out, h1, h2, h3]; rfl⟩, by simp [intOf]; omega⟩
      | true =>
       go_wp2
       go_ret
       exact ⟨by rw [HQ.out, HD.out, h1, h2, h3]; rfl, HNB.out⟩
   ·have dm : decide ((m : Int) < (n : Int)) = false := decide_eq_false (by omega)
    go_wp2
    go_ret
    refine ⟨?_, HB.out⟩
    have hml : fs.length ≤ m := by rw [HL.out]; omega
    rw [HQ.out, List.drop_eq_nil_of_le hml]
    rfl
theorem info106 : (Try.prog.info? 106).map (fun i => (i.zero, i.size, i.bytes)) = some (some (.agg #[.bool false, .bool false, .int .i64 0, .slice none 0 0]), 4, 40) := by kernel_rfl
theorem info108 : (Try.prog.info? 108).map (fun i => (i.zero, i.size, i.bytes)) = some (some (.agg #[.slice none 0 0, .bool false]), 2, 32) := by kernel_rfl
def z4 : List Value := [.bool false, .bool false, .int .i64 0, .slice none 0 0]
def z2 : List Value := [.slice none 0 0, .bool false]
theorem rep_get (l : List Value) (k : Nat) (hl : l.length = k) (hk : 0 < k) : ∀ (n i : Nat), i < n * k → ((List.replicate n l).flatMap id)[i]? = l[i % k]?
 | 0, i, h => by simp at h
 | n + 1, i, h => by
  rw [List.replicate_succ, List.flatMap_cons]
  by_cases hi : i < k
  ·rw [List.getElem?_append_left (by show i < l.length; omega), Nat.mod_eq_of_lt hi]; rfl
  ·rw [List.getElem?_append_right (by show l.length ≤ i; omega)]
   show ((List.replicate n l).flatMap id)[i - l.length]? = _
   rw [hl, rep_get l k hl hk n (i - k) (by rw [Nat.add_mul] at h; omega)]
   congr 1
   rw [← Nat.mod_eq_sub_mod (by omega)]
theorem rep_len (l : List Value) (k : Nat) (hl : l.length = k) (n : Nat) : ((List.replicate n l).flatMap id).length = n * k := by
 induction n with
 | zero => simp
 | succ n ih => rw [List.replicate_succ, List.flatMap_cons, List.length_append, ih]; show l.length + _ = _; rw [hl, Nat.add_mul]; omega
theorem made_eq (l : List Value) (k : Nat) (hl : l.length = k) (hk : 0 < k) (n : Nat) : madeCells l.toArray (n * k) = ((List.replicate n l).flatMap id).toArray := by
 apply Array.ext'
 refine List.ext_getElem? (fun i => ?_)
 by_cases hi : i < n * k
 ·rw [List.toList_toArray, rep_get l k hl hk n i hi]
  have hm : i % k < l.length := by rw [hl]; exact Nat.mod_lt _ hk
  simp [madeCells, List.getElem?_range hi, hl]
  rw [List.getElem?_eq_getElem hm]
  rfl
 ·rw [List.getElem?_eq_none (by simp [size_madeCells]; omega), List.getElem?_eq_none (by rw [List.toList_toArray, rep_len l k hl]; omega)]
def rowB (n : Nat) : Array Value := ((List.replicate n z4).flatMap id).toArray
def rowP (n : Nat) : Array Value := ((List.replicate n z2).flatMap id).toArray
theorem mk96 (w : World) (n : Nat) (hn : n ≤ 4096) : (Instr.makeSlice 96 (.int .i64 (n : Int)) (.int .i64 (n : Int))).run Try.prog w = .ok (.slice (some ⟨w.heap.size, 0, none⟩) n n) (w.alloc (.cells (rowB n) 106)) := by
 obtain ⟨i, hi, hz0, hz1, hb⟩ := info_parts info106
 have h := run_makeSlice (P := Try.prog) w 96 106 i _ Try.underlying96 hi hz0 .i64 .i64 (n : Int) (n : Int) (by omega) (by omega) (by rw [hz1]; simp; omega) (by rw [hb]; omega) (by omega)
 rw [hz1] at h
 simp only [Int.toNat_natCast] at h
 rw [h, rowB, ← made_eq z4 4 rfl (by omega) n]
 rfl
theorem mk104 (w : World) (n : Nat) (hn : n ≤ 4096) : (Instr.makeSlice 104 (.int .i64 (n : Int)) (.int .i64 (n : Int))).run Try.prog w = .ok (.slice (some ⟨w.heap.size, 0, none⟩) n n) (w.alloc (.cells (rowP n) 108)) := by
 obtain ⟨i, hi, hz0, hz1, hb⟩ := info_parts info108
 have h := run_makeSlice (P := Try.prog) w 104 108 i _ Try.underlying104 hi hz0 .i64 .i64 (n : Int) (n : Int) (by omega) (by omega) (by rw [hz1]; simp; omega) (by rw [hb]; omega) (by omega)
 rw [hz1] at h
 simp only [Int.toNat_natCast] at h
 rw [h, rowP, ← made_eq z2 2 rfl (by omega) n]
 rfl
def pc0 (L : Nat) : Pc := ⟨none, 0, 0, List.replicate L 255, false⟩
theorem pages0 (L n : Nat) : (List.replicate n z2).flatMap id = (List.replicate n (pc0 L)).flatMap Pc.cells := by
 induction n with
 | zero => rfl
 | succ n ih => rw [List.replicate_succ, List.replicate_succ, List.flatMap_cons, List.flatMap_cons, ih]; rfl
end Go.Proofs.Ytadlkikjfonkgaa
