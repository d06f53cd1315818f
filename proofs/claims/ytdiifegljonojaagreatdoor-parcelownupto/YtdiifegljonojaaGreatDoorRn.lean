/-
  SEAT YtdiifegljonojaaGreatDoor: a leaf with its data is laid out.
-/
import Derived.Test.YtdiifegljonojaaGreatDoorRm
namespace Go.Proofs.YtdiifegljonojaaGreatDoor
open Go.RowKit
set_option linter.unusedVariables false

def LfV (w : World) (p : Pc) (e : Ending) (w' : World) : Prop := ∃ d, e = .returned (.agg #[.string (Pt.tg p.names), .int .i64 p.ty, .int .i64 p.mode, .int .u64 p.stamp, d, .string p.target]) ∧ DtOn w' w.heap.size d (layD p.size p.segs)

theorem wp_copy_at {w : World} {o : Oper} {a : Act} {K : Act → World → Prop} {Q : Exit → Act → World → Prop} (s x : Operand)
    (ho : o.op = .call { callee := .builtin .copy, args := #[s, x], argTypes := #[25, 25] }) (B g n cap k m c dc : Nat) (xs zs : List Int) (ad : Addr)
    (hs : a.eval s = .slice (some ⟨g, k, none⟩) (n - k) dc) (hx : a.eval x = .slice (some ad) m c) (hown : Own w B g n cap xs) (hrd : Reads w (some ad) m zs) (hk : k + m ≤ n)
    (h : ∀ w', Own w' B g n cap (xs.take k ++ zs ++ xs.drop (k + m)) → w.grownBy w' (some g) → K (a.put o.dst (goInt m)) w') : o.wp Tryz.prog a w K Q := by
  obtain ⟨w', hr, h1, h2⟩ := run_copy_at o.type B g n cap k m c dc xs zs ad hown hrd hk
  unfold Oper.wp execOp
  simp only [ho, resolve, invoke, builtin, Sem.run_bind, Sem.run_pure, Result.andThen_ok, List.map_toArray, List.map_cons, List.map_nil, hs, hx, hr]
  exact h w' h1 h2

theorem made_zeros (n : Nat) : (madeCells #[Value.int .u8 0] n).toList = (List.replicate n (0 : Int)).map (Value.int .u8) := by
  rw [List.map_replicate]
  simp [madeCells, Nat.mod_one]
  rw [List.eq_replicate_iff]
  simp

theorem res23 (tmps : Array Value) (W : World) (r : Nat) (x0 x1 x2 x3 x4 x5 : Value) (ht : tmps[2]? = some (.pointer (some ⟨r, 0, none⟩))) (h : LB W r x0 x1 x2 x3 x4 x5) :
    (results Tryz.f24 tmps).run Tryz.prog W = .ok (.agg #[x0, x1, x2, x3, x4, x5]) W := by
  have c0 := lb_cell0 h
  have c1 := lb_cell1 h
  have c2 := lb_cell2 h
  have c3 := lb_cell3 h
  have c4 := lb_cell4 h
  have c5 := lb_cell5 h
  simp [results, Tryz.results24, go_sem, ht, c0, c1, c2, c3, c4, c5]

theorem make_bytes (n : Nat) (hn : n ≤ 16777216) (u : World) : (Instr.makeSlice 25 (.int .i64 (n : Int)) (.int .i64 (n : Int))).run Tryz.prog u = .ok (.slice (some ⟨u.heap.size, 0, none⟩) n n) (u.alloc (.cells (madeCells #[.int .u8 0] n) 5)) := by
  obtain ⟨i0, hi, hz0, hz1, hz2⟩ := info_parts info5
  have h := run_make (P := Tryz.prog) u 25 5 i0 (.int .u8 0) Tryz.underlying25 hi hz0 .i64 .i64 (n : Int) (n : Int) (by omega) (by omega) (by rw [hz2]; omega) (by omega)
  rw [Int.toNat_natCast] at h
  simpa [hz1, Value.cells] using h

theorem wh_start (w : World) (B n : Nat) (p : Pc) (a0 a9 : Option Addr) (c0 c9 g9 : Nat) (es : List Se) (hn : p.size = n) (hs : n ≤ 16777216) : WhS w ((((w.alloc (.cells #[.slice a0 p.names.length c0, .bool (p.ty == 2), .string (Pt.tg p.names), .int .i64 p.ty, .int .i64 p.mode, .int .u64 p.stamp, .slice none 0 0, .string p.target, .int .i64 (n : Int), .slice a9 p.segs.length c9] 63)).alloc (.cells #[.string ⟨#[]⟩, .int .i64 0, .int .i64 0, .int .u64 0, .slice none 0 0, .string ⟨#[]⟩] 38)).alloc (.cells #[.string (Pt.tg p.names), .int .i64 p.ty, .int .i64 p.mode, .int .u64 p.stamp, .slice (some ⟨w.heap.size + 3, 0, none⟩) n n, .string p.target] 38)).alloc (.cells (madeCells #[.int .u8 0] n) 5)) B p g9 c9 es 0 := by
  have h4 : (((w.alloc (.cells #[.slice a0 p.names.length c0, .bool (p.ty == 2), .string (Pt.tg p.names), .int .i64 p.ty, .int .i64 p.mode, .int .u64 p.stamp, .slice none 0 0, .string p.target, .int .i64 (n : Int), .slice a9 p.segs.length c9] 63)).alloc (.cells #[.string ⟨#[]⟩, .int .i64 0, .int .i64 0, .int .u64 0, .slice none 0 0, .string ⟨#[]⟩] 38)).alloc (.cells #[.string (Pt.tg p.names), .int .i64 p.ty, .int .i64 p.mode, .int .u64 p.stamp, .slice (some ⟨w.heap.size + 3, 0, none⟩) n n, .string p.target] 38)).heap.size = w.heap.size + 3 := by simp
  have lb3 : LB (((w.alloc (.cells #[.slice a0 p.names.length c0, .bool (p.ty == 2), .string (Pt.tg p.names), .int .i64 p.ty, .int .i64 p.mode, .int .u64 p.stamp, .slice none 0 0, .string p.target, .int .i64 (n : Int), .slice a9 p.segs.length c9] 63)).alloc (.cells #[.string ⟨#[]⟩, .int .i64 0, .int .i64 0, .int .u64 0, .slice none 0 0, .string ⟨#[]⟩] 38)).alloc (.cells #[.string (Pt.tg p.names), .int .i64 p.ty, .int .i64 p.mode, .int .u64 p.stamp, .slice (some ⟨w.heap.size + 3, 0, none⟩) n n, .string p.target] 38)) (w.heap.size + 2) (.string (Pt.tg p.names)) (.int .i64 p.ty) (.int .i64 p.mode) (.int .u64 p.stamp) (.slice (some ⟨w.heap.size + 3, 0, none⟩) n n) (.string p.target) := by
    have h9 := heap_alloc_new ((w.alloc (.cells #[.slice a0 p.names.length c0, .bool (p.ty == 2), .string (Pt.tg p.names), .int .i64 p.ty, .int .i64 p.mode, .int .u64 p.stamp, .slice none 0 0, .string p.target, .int .i64 (n : Int), .slice a9 p.segs.length c9] 63)).alloc (.cells #[.string ⟨#[]⟩, .int .i64 0, .int .i64 0, .int .u64 0, .slice none 0 0, .string ⟨#[]⟩] 38)) (.cells #[.string (Pt.tg p.names), .int .i64 p.ty, .int .i64 p.mode, .int .u64 p.stamp, .slice (some ⟨w.heap.size + 3, 0, none⟩) n n, .string p.target] 38); rw [World.size_alloc, World.size_alloc] at h9; exact h9
  have rb3 : LB (((w.alloc (.cells #[.slice a0 p.names.length c0, .bool (p.ty == 2), .string (Pt.tg p.names), .int .i64 p.ty, .int .i64 p.mode, .int .u64 p.stamp, .slice none 0 0, .string p.target, .int .i64 (n : Int), .slice a9 p.segs.length c9] 63)).alloc (.cells #[.string ⟨#[]⟩, .int .i64 0, .int .i64 0, .int .u64 0, .slice none 0 0, .string ⟨#[]⟩] 38)).alloc (.cells #[.string (Pt.tg p.names), .int .i64 p.ty, .int .i64 p.mode, .int .u64 p.stamp, .slice (some ⟨w.heap.size + 3, 0, none⟩) n n, .string p.target] 38)) (w.heap.size + 1) (.string ⟨#[]⟩) (.int .i64 0) (.int .i64 0) (.int .u64 0) (.slice none 0 0) (.string ⟨#[]⟩) := by
    unfold LB; rw [Below.heap_alloc _ _ _ (by simp)]
    have h9 := heap_alloc_new (w.alloc (.cells #[.slice a0 p.names.length c0, .bool (p.ty == 2), .string (Pt.tg p.names), .int .i64 p.ty, .int .i64 p.mode, .int .u64 p.stamp, .slice none 0 0, .string p.target, .int .i64 (n : Int), .slice a9 p.segs.length c9] 63)) (.cells #[.string ⟨#[]⟩, .int .i64 0, .int .i64 0, .int .u64 0, .slice none 0 0, .string ⟨#[]⟩] 38); rw [World.size_alloc] at h9; exact h9
  have b3 : Below w.heap.size w (((w.alloc (.cells #[.slice a0 p.names.length c0, .bool (p.ty == 2), .string (Pt.tg p.names), .int .i64 p.ty, .int .i64 p.mode, .int .u64 p.stamp, .slice none 0 0, .string p.target, .int .i64 (n : Int), .slice a9 p.segs.length c9] 63)).alloc (.cells #[.string ⟨#[]⟩, .int .i64 0, .int .i64 0, .int .u64 0, .slice none 0 0, .string ⟨#[]⟩] 38)).alloc (.cells #[.string (Pt.tg p.names), .int .i64 p.ty, .int .i64 p.mode, .int .u64 p.stamp, .slice (some ⟨w.heap.size + 3, 0, none⟩) n n, .string p.target] 38)) := (((Below.refl _ _).alloc (Nat.le_refl _) _).alloc (by simp) _).alloc (by simp; omega) _
  generalize (((w.alloc (.cells #[.slice a0 p.names.length c0, .bool (p.ty == 2), .string (Pt.tg p.names), .int .i64 p.ty, .int .i64 p.mode, .int .u64 p.stamp, .slice none 0 0, .string p.target, .int .i64 (n : Int), .slice a9 p.segs.length c9] 63)).alloc (.cells #[.string ⟨#[]⟩, .int .i64 0, .int .i64 0, .int .u64 0, .slice none 0 0, .string ⟨#[]⟩] 38)).alloc (.cells #[.string (Pt.tg p.names), .int .i64 p.ty, .int .i64 p.mode, .int .u64 p.stamp, .slice (some ⟨w.heap.size + 3, 0, none⟩) n n, .string p.target] 38)) = U at *
  have lb4 : LB (U.alloc (.cells (madeCells #[.int .u8 0] n) 5)) (w.heap.size + 2) (.string (Pt.tg p.names)) (.int .i64 p.ty) (.int .i64 p.mode) (.int .u64 p.stamp) (.slice (some ⟨w.heap.size + 3, 0, none⟩) n n) (.string p.target) := by unfold LB; rw [Below.heap_alloc _ _ _ (by omega)]; exact lb3
  have rb4 : LB (U.alloc (.cells (madeCells #[.int .u8 0] n) 5)) (w.heap.size + 1) (.string ⟨#[]⟩) (.int .i64 0) (.int .i64 0) (.int .u64 0) (.slice none 0 0) (.string ⟨#[]⟩) := by unfold LB; rw [Below.heap_alloc _ _ _ (by omega)]; exact rb3
  have b4 : Below w.heap.size w (U.alloc (.cells (madeCells #[.int .u8 0] n) 5)) := b3.alloc b3.size _
  have own4 : Own (U.alloc (.cells (madeCells #[.int .u8 0] n) 5)) (w.heap.size + 3) (w.heap.size + 3) n n (List.replicate n 0) := by
    have h9 := World.ownsRow_lit (e := 5) (size := 1) (base := w.heap.size + 3) U (madeCells #[.int .u8 0] n) n (by omega) (by simp only [maxLen]; omega) (by rw [Nat.mul_one]; simp [madeCells])
    rw [made_zeros, h4] at h9
    exact h9
  refine ⟨?_, ?_, rb4, b4⟩
  · rw [hn, List.take_zero]; exact own4
  · rw [hn]; exact lb4

set_option maxHeartbeats 2000000 in
set_option maxRecDepth 100000 in
theorem whole_some (B B0 : Nat) (p : Pc) (v0 v9 : Value) (w : World) (hok : Pe.Ok w B0 B ⟨p, v0, v9⟩) (hfit : Fit p.size p.segs) (hB : B ≤ w.heap.size) (hs : 0 < p.size) :
    Calls Tryz.prog 24 #[.agg #[v0, .bool (p.ty == 2), .string (Pt.tg p.names), .int .i64 p.ty, .int .i64 p.mode, .int .u64 p.stamp, .slice none 0 0, .string p.target, .int .i64 (p.size : Int), v9]] w fun e w' => LfV w p e w' ∧ Below w.heap.size w w' := by
  obtain ⟨a0, c0, hv0, _⟩ := Pt.Ow.rd hok.ow
  obtain ⟨a9, c9, hv9⟩ := hok.sg.shape
  simp only at hv0 hv9
  subst hv0
  subst hv9
  have hsz : p.size ≤ 16777216 := hok.sz
  obtain ⟨es, hes, hown, hoks⟩ := hok.sg
  simp only at hes hown
  have hml : es.length = p.segs.length := by rw [← hes, List.length_map]
  obtain ⟨n, hn⟩ : ∃ n, p.size = n := ⟨_, rfl⟩
  have hn0 : 0 < n := by omega
  have i0 : (0 : Int) < (n : Int) := by omega
  have HN := hide hn
  rw [hn] at hsz hfit ⊢
  obtain ⟨m, hm⟩ : ∃ m, p.segs.length = m := ⟨_, rfl⟩
  have HST := hide (wh_start w B n p a0 a9 c0 c9 0 es hn hsz)
  rw [hm] at HST
  have hmk := make_bytes n hsz
  have HFT := hide hfit
  have HES := hide hes
  have HOW := hide hown
  have HOK := hide hoks
  have HM := hide hm
  have hmn : m ≤ 9223372036854775807 := by
    rcases hown.2 with ⟨_, h0⟩ | ⟨g, cap, cur, hv, _, _, h1, h2, _⟩
    · omega
    · unfold maxLen at h2; omega
  have HML := hide hml
  clear hok hes hown hoks hfit hs hn hml
  go_enter Tryz.func24, Tryz.ntmps24
  rw [hm]
  clear hm
  go_wp2
  go_loopw [18] (fun i wr => ∃ k : Nat, k ≤ m ∧ i = .int .i64 k ∧ Hid (WhS w wr B p 0 c9 es k)) (fun i _ => m - (intOf i).toNat)
  case atStart => exact ⟨0, Nat.zero_le _, rfl, HST⟩
  case round =>
    obtain ⟨k, hk, rfl, HS⟩ := hrel
    clear HST
    by_cases hlt : k < m
    · have hke : k < es.length := by have := HML.out; have := HM.out; omega
      obtain ⟨g9, rfl, hcells, hg9⟩ : ∃ g9, a9 = some ⟨g9, 0, none⟩ ∧ (∀ j, j < 3 → w.cell? ⟨g9, k * 3 + j, none⟩ = es[k].cells[j]?) ∧ g9 < w.heap.size := by
        have hw := HOW.out
        rcases hw.2 with ⟨h0, h1⟩ | ⟨g, cap, cur, hv, _, hg, _⟩
        · omega
        · have hv2 := hv
          injection hv with h7 h8 h9
          refine ⟨g, h7, fun j hj => ?_, (Array.getElem?_eq_some_iff.1 hg).1⟩
          rw [hv2] at hw
          rw [World.ownsRow.cellAt hw (k * 3 + j) (by omega), flatS_cell es k j hke hj]
      have hsx : p.segs[k]? = some es[k].s := by rw [← HES.out, List.getElem?_map, List.getElem?_eq_getElem hke]; rfl
      have hmem : es[k].s ∈ p.segs := List.mem_of_getElem? hsx
      have hf := HFT.out _ hmem
      have hko := HOK.out es[k] (List.getElem_mem hke)
      obtain ⟨se, hse⟩ : ∃ se, es[k] = se := ⟨_, rfl⟩
      rw [hse] at hcells hsx hf hko
      obtain ⟨⟨ps, bs⟩, sb, so, sc⟩ := se
      obtain ⟨q, hq⟩ : ∃ q, bs.length = q := ⟨_, rfl⟩
      have z0 := hcells 0 (by omega)
      have z1 := hcells 1 (by omega)
      have z2 := hcells 2 (by omega)
      simp only [Se.cells, hq, List.getElem?_cons_zero, List.getElem?_cons_succ, Nat.add_zero] at z0 z1 z2
      simp only [hq] at hf
      obtain ⟨rd0, hsb, _, _⟩ := hko
      simp only [hq] at rd0 hsb
      have y0 : wr.cell? ⟨g9, k * 3, none⟩ = some (.int .i64 (ps : Int)) := by rw [HS.out.bel.cell hg9]; exact z0
      have y1 : wr.cell? ⟨g9, k * 3 + 1, none⟩ = some (.int .i64 (q : Int)) := by rw [HS.out.bel.cell hg9]; exact z1
      have y2 : wr.cell? ⟨g9, k * 3 + 2, none⟩ = some (.slice (some ⟨sb, so, none⟩) q sc) := by rw [HS.out.bel.cell hg9]; exact z2
      have hpq : ps + q ≤ n := hf.1
      have hq0 : 0 < q := hf.2
      have HQ := hide hq
      have HSX := hide hsx
      have HRB := hide ((rd0.below (w' := wr) (HS.out.bel)).below (below_alloc wr (.cells #[.int .i64 (ps : Int), .int .i64 (q : Int), .slice (some ⟨sb, so, none⟩) q sc] 94)))
      have hz := (Array.getElem?_eq_some_iff.1 HS.out.lb).1
      have hz3 : w.heap.size + 3 < wr.heap.size := (Own.lt HS.out.own).2
      have HZ : Hid (w.heap.size + 3 < wr.heap.size) := hz3
      have HOW2 : Hid (Own wr (w.heap.size + 3) (w.heap.size + 3) n n (layD n (p.segs.take k))) := by have h9 := HS.out.own; rw [HN.out] at h9; exact h9
      have HLB : Hid (LB wr (w.heap.size + 2) (.string (Pt.tg p.names)) (.int .i64 p.ty) (.int .i64 p.mode) (.int .u64 p.stamp) (.slice (some ⟨w.heap.size + 3, 0, none⟩) n n) (.string p.target)) := by have h9 := HS.out.lb; rw [HN.out] at h9; exact h9
      have i1 : (k : Int) < (m : Int) := by omega
      clear hcells hsx hmem hf hse z0 z1 z2 rd0 hz hz3 hq hke
      go_upto_region 7 with fail
      refine wp_region_held_drew (S := fun y : World => y.cell? ⟨w.heap.size + 2, 4, none⟩ = some (.slice (some ⟨w.heap.size + 3, 0, none⟩) n n) ∧ y.cell? ⟨wr.heap.size, 0, none⟩ = some (.int .i64 (ps : Int)) ∧ y.cell? ⟨wr.heap.size, 2, none⟩ = some (.slice (some ⟨sb, so, none⟩) q sc)) (by kernel_rfl) ?_ (fun hHeld => ?_)
      · refine ⟨?_, ?_, ?_⟩
        · have h9 := (below_alloc wr (.cells #[.int .i64 (ps : Int), .int .i64 (q : Int), .slice (some ⟨sb, so, none⟩) q sc] 94)).cell (p := ⟨w.heap.size + 2, 4, none⟩) (by have := HZ.out; show w.heap.size + 2 < _; omega)
          simpa using h9.trans (lb_cell4 HLB.out)
        · simp
        · simp
      have HXB : Hid (Below wr.heap.size wr (wr.alloc (.cells #[.int .i64 (ps : Int), .int .i64 (q : Int), .slice (some ⟨sb, so, none⟩) q sc] 94)).drew) := (below_alloc wr _).drew
      have HRX : Hid (Reads (wr.alloc (.cells #[.int .i64 (ps : Int), .int .i64 (q : Int), .slice (some ⟨sb, so, none⟩) q sc] 94)).drew (some ⟨sb, so, none⟩) q bs) := HRB.out.drewN 1
      have HOX : Hid (Own (wr.alloc (.cells #[.int .i64 (ps : Int), .int .i64 (q : Int), .slice (some ⟨sb, so, none⟩) q sc] 94)).drew (w.heap.size + 3) (w.heap.size + 3) n n (layD n (p.segs.take k))) := Own.below HOW2.out HXB.out
      have HXZ : Hid (wr.heap.size + 1 ≤ (wr.alloc (.cells #[.int .i64 (ps : Int), .int .i64 (q : Int), .slice (some ⟨sb, so, none⟩) q sc] 94)).drew.heap.size) := by show wr.heap.size + 1 ≤ (wr.heap.push _).size; simp
      obtain ⟨X, hX⟩ : ∃ X, (wr.alloc (.cells #[.int .i64 (ps : Int), .int .i64 (q : Int), .slice (some ⟨sb, so, none⟩) q sc] 94)).drew = X := ⟨_, rfl⟩
      rw [hX] at HXB HRX HOX HXZ hHeld ⊢
      clear hX HRB
      have hcp : (if n = ps then some (⟨w.heap.size + 3, 0, none⟩ : Addr) else some ⟨w.heap.size + 3, ps, none⟩) = some ⟨w.heap.size + 3, ps, none⟩ := by rw [if_neg (by omega)]
      have hd1 : (ps : Int) ≤ (n : Int) := by omega
      have hd2 : ps ≤ n := by omega
      have hd3 : (n : Int) - (ps : Int) = ((n - ps : Nat) : Int) := by omega
      refine wpAnyH_take (i := 0) (oi := { dst := some 22, op := Op.fieldAddr 38 (Operand.tmp 3) 4, type := 0, pos := "read.go:40", after := #[], guard := none }) (v := ?v0p) rfl (by kernel_rfl) (by kernel_rfl) (by kernel_rfl) (fun _ _ _ h => h) (Or.inl ⟨by rfl, ?y0p⟩) (by assumption) ?r0p
      case y0p => (intro x hx; (try dsimp only at hx); go_simp; try with_reducible rfl)
      try simp only [Act.put, List.setIfInBounds_toArray, List.set_cons_zero, List.set_cons_succ]
      refine wpAnyH_take (i := 1) (oi := { dst := some 23, op := Op.load 25 (Operand.tmp 22), type := 25, pos := "read.go:40", after := #[{ on := 0, ground := Ground.data }], guard := none }) (v := ?v1p) rfl (by kernel_rfl) (by kernel_rfl) (by kernel_rfl) (fun _ _ _ h => h) (Or.inl ⟨by rfl, ?y1p⟩) (by assumption) ?r1p
      case y1p => (intro x hx; (try dsimp only at hx); go_simp; try with_reducible rfl)
      try simp only [Act.put, List.setIfInBounds_toArray, List.set_cons_zero, List.set_cons_succ]
      refine wpAnyH_take (i := 2) (oi := { dst := some 24, op := Op.fieldAddr 94 (Operand.tmp 5) 0, type := 0, pos := "read.go:40", after := #[], guard := none }) (v := ?v2p) rfl (by kernel_rfl) (by kernel_rfl) (by kernel_rfl) (fun _ _ _ h => h) (Or.inl ⟨by rfl, ?y2p⟩) (by assumption) ?r2p
      case y2p => (intro x hx; (try dsimp only at hx); go_simp; try with_reducible rfl)
      try simp only [Act.put, List.setIfInBounds_toArray, List.set_cons_zero, List.set_cons_succ]
      refine wpAnyH_take (i := 3) (oi := { dst := some 25, op := Op.load 3 (Operand.tmp 24), type := 3, pos := "read.go:40", after := #[{ on := 2, ground := Ground.data }], guard := none }) (v := ?v3p) rfl (by kernel_rfl) (by kernel_rfl) (by kernel_rfl) (fun _ _ _ h => h) (Or.inl ⟨by rfl, ?y3p⟩) (by assumption) ?r3p
      case y3p => (intro x hx; (try dsimp only at hx); go_simp; try with_reducible rfl)
      try simp only [Act.put, List.setIfInBounds_toArray, List.set_cons_zero, List.set_cons_succ]
      refine wpAnyH_take (i := 4) (oi := { dst := some 26, op := Op.slice 25 (Operand.tmp 23) (some (Operand.tmp 25)) none none, type := 25, pos := "read.go:40", after := #[{ on := 1, ground := Ground.data }, { on := 3, ground := Ground.data }], guard := none }) (v := ?v4p) rfl (by kernel_rfl) (by kernel_rfl) (by kernel_rfl) (fun _ _ _ h => h) (Or.inl ⟨by rfl, ?y4p⟩) (by assumption) ?r4p
      case y4p => (intro x hx; (try dsimp only at hx); go_simp; try with_reducible rfl)
      try simp only [Act.put, List.setIfInBounds_toArray, List.set_cons_zero, List.set_cons_succ]
      refine wpAnyH_take (i := 5) (oi := { dst := some 27, op := Op.fieldAddr 94 (Operand.tmp 5) 2, type := 0, pos := "read.go:40", after := #[], guard := none }) (v := ?v5p) rfl (by kernel_rfl) (by kernel_rfl) (by kernel_rfl) (fun _ _ _ h => h) (Or.inl ⟨by rfl, ?y5p⟩) (by assumption) ?r5p
      case y5p => (intro x hx; (try dsimp only at hx); go_simp; try with_reducible rfl)
      try simp only [Act.put, List.setIfInBounds_toArray, List.set_cons_zero, List.set_cons_succ]
      refine wpAnyH_take (i := 6) (oi := { dst := some 28, op := Op.load 25 (Operand.tmp 27), type := 25, pos := "read.go:40", after := #[{ on := 5, ground := Ground.data }], guard := none }) (v := ?v6p) rfl (by kernel_rfl) (by kernel_rfl) (by kernel_rfl) (fun _ _ _ h => h) (Or.inl ⟨by rfl, ?y6p⟩) (by assumption) ?r6p
      case y6p => (intro x hx; (try dsimp only at hx); go_simp; try with_reducible rfl)
      try simp only [Act.put, List.setIfInBounds_toArray, List.set_cons_zero, List.set_cons_succ]
      refine wpAnyH_ready (rs := [7]) (by kernel_rfl) (by simp) ?_
      refine (AllReadyH.cons (o := { dst := some 29, op := Op.call { callee := Callee.builtin Builtin.copy, args := #[Operand.tmp 26, Operand.tmp 28], argTypes := #[25, 25] }, type := 3, pos := "read.go:40", after := #[{ on := 4, ground := Ground.data }, { on := 6, ground := Ground.data }], guard := none }) rfl (fun K hK => ?_) AllReadyH.nil)
      refine wp_copy_at (.tmp 26) (.tmp 28) rfl (w.heap.size + 3) (w.heap.size + 3) n n ps q sc (n - ps) _ bs ⟨sb, so, none⟩ rfl rfl HOX.out HRX.out hpq ?_
      intro Y own7 grow7
      have hz9 := HZ.out
      have hSnew : Y.cell? ⟨w.heap.size + 2, 4, none⟩ = some (.slice (some ⟨w.heap.size + 3, 0, none⟩) n n) ∧ Y.cell? ⟨wr.heap.size, 0, none⟩ = some (.int .i64 (ps : Int)) ∧ Y.cell? ⟨wr.heap.size, 2, none⟩ = some (.slice (some ⟨sb, so, none⟩) q sc) := ⟨(World.cell?_of_block (w := X) (grow7.block (w.heap.size + 2) (by have := HXZ.out; omega) (fun e => by have := Option.some.inj e; omega))).trans hHeld.1, (World.cell?_of_block (w := X) (grow7.block wr.heap.size (by have := HXZ.out; omega) (fun e => by have := Option.some.inj e; omega))).trans hHeld.2.1, (World.cell?_of_block (w := X) (grow7.block wr.heap.size (by have := HXZ.out; omega) (fun e => by have := Option.some.inj e; omega))).trans hHeld.2.2⟩
      refine hK.out _ _ hSnew (fun hHeld7 => ?_)
      clear hK K hSnew
      clear hHeld
      have hHeld := hHeld7
      clear hHeld7
      try simp only [Act.put, List.setIfInBounds_toArray, List.set_cons_zero, List.set_cons_succ]
      have HO7 := hide own7
      have HG7 := hide grow7
      clear own7 grow7
      refine wpAnyH_done (by kernel_rfl) ?_ _
      go_wp2
      go_roundw
      case rel =>
        refine ⟨k + 1, by omega, by go_num, ?_⟩
        have hbX : Below w.heap.size w X := HS.out.bel.trans (HXB.out.mono HS.out.bel.size)
        have hlX : LB X (w.heap.size + 2) (.string (Pt.tg p.names)) (.int .i64 p.ty) (.int .i64 p.mode) (.int .u64 p.stamp) (.slice (some ⟨w.heap.size + 3, 0, none⟩) n n) (.string p.target) := (HXB.out.block _ (by have := HZ.out; omega)).trans HLB.out
        have hrX : LB X (w.heap.size + 1) (.string ⟨#[]⟩) (.int .i64 0) (.int .i64 0) (.int .u64 0) (.slice none 0 0) (.string ⟨#[]⟩) := (HXB.out.block _ (by have := HZ.out; omega)).trans HS.out.rb
        refine (show Hid _ from ⟨?_, ?_, hrX.other HG7.out (fun e => by have := Option.some.inj e; omega), hbX.grown HG7.out hbX.size (fun i e => by have := Option.some.inj e; omega)⟩)
        · have h9 : layD n (p.segs.take (k + 1)) = (layD n (p.segs.take k)).take ps ++ bs ++ (layD n (p.segs.take k)).drop (ps + q) := by
            obtain ⟨hkl, hke⟩ := List.getElem?_eq_some_iff.1 HSX.out
            rw [List.take_succ_eq_append_getElem hkl, hke, layD_snoc]
            unfold place
            rw [HQ.out]
          rw [HN.out, h9]
          exact HO7.out
        · rw [HN.out]; exact hlX.other HG7.out (fun e => by have := Option.some.inj e; omega)
      case measure => simp [intOf]; omega
    · obtain rfl : k = m := by omega
      have i1 : ¬ (k : Int) < (k : Int) := by omega
      have HLB : Hid (LB wr (w.heap.size + 2) (.string (Pt.tg p.names)) (.int .i64 p.ty) (.int .i64 p.mode) (.int .u64 p.stamp) (.slice (some ⟨w.heap.size + 3, 0, none⟩) n n) (.string p.target)) := by have h9 := HS.out.lb; rw [HN.out] at h9; exact h9
      have m0 := lb_cell0 HLB.out
      have m1 := lb_cell1 HLB.out
      have m2 := lb_cell2 HLB.out
      have m3 := lb_cell3 HLB.out
      have m4 := lb_cell4 HLB.out
      have m5 := lb_cell5 HLB.out
      have n0 := lb_cell0 HS.out.rb
      have n1 := lb_cell1 HS.out.rb
      have n2 := lb_cell2 HS.out.rb
      have n3 := lb_cell3 HS.out.rb
      have n4 := lb_cell4 HS.out.rb
      have n5 := lb_cell5 HS.out.rb
      have f0 := lb_frozen0 HS.out.rb
      have f1 := lb_frozen1 HS.out.rb
      have f2 := lb_frozen2 HS.out.rb
      have f3 := lb_frozen3 HS.out.rb
      have f4 := lb_frozen4 HS.out.rb
      have f5 := lb_frozen5 HS.out.rb
      go_wp2
      refine bodyPost_ret (res23 _ _ (w.heap.size + 1) _ _ _ _ _ _ ?_ (lb_set5 (lb_set4 (lb_set3 (lb_set2 (lb_set1 (lb_set0 HS.out.rb _) _) _) _) _) _)) rfl ?_
      · rfl
      have hg : wr.grownBy _ (some (w.heap.size + 1)) := grownBy_trans (grownBy_trans (grownBy_trans (grownBy_trans (grownBy_trans (set_grown wr _ 0 (.string (Pt.tg p.names))) (set_grown _ _ 1 (.int .i64 p.ty))) (set_grown _ _ 2 (.int .i64 p.mode))) (set_grown _ _ 3 (.int .u64 p.stamp))) (set_grown _ _ 4 (.slice (some ⟨w.heap.size + 3, 0, none⟩) n n))) (set_grown _ _ 5 (.string p.target))
      refine ⟨⟨_, rfl, ?_⟩, HS.out.bel.grown hg HS.out.bel.size (fun i e => by have := Option.some.inj e; omega)⟩
      have hw := HS.out.own
      rw [HN.out, List.take_of_length_le (by rw [HM.out]; exact Nat.le_refl _)] at hw
      have hw2 := Own.apart hw hg (by omega)
      have hl := hw2.len
      unfold DtOn
      rw [HN.out, hl]
      exact row_lower hw2 (by omega)
end Go.Proofs.YtdiifegljonojaaGreatDoor
