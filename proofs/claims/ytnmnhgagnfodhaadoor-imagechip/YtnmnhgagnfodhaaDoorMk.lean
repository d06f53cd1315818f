/-
  SEAT YtnmnhgagnfodhaaDoor: KRi.
-/
import Derived.Test.YtnmnhgagnfodhaaDoorMa
import Derived.Test.YtnmnhgagnfodhaaDoorMj
namespace Go.Proofs.YtnmnhgagnfodhaaDoor.Cp
open Go.RowKit Go.Conc
set_option linter.unusedVariables false
def tailA (a : Option Addr) (c k : Nat) : Option Addr := if c = k then a else a.map (·.add k)
theorem tail_run (w : World) (a : Option Addr) (l c k : Nat) (hk : k ≤ l) (hl : l ≤ c) : (Instr.sliceAt 32 (.slice a l c) (some (.int .i64 (k : Int))) none none).run Tryd.prog w = .ok (.slice (tailA a c k) (l - k) (c - k)) w := by
 have h1 : (k : Int) ≤ l := by omega
 have h2 : (k : Int) ≤ c := by omega
 have h3 : (0 : Int) ≤ k := by omega
 simp [go_sem, tailA]
 intro h9
 omega
theorem tail_reads {w : World} {a : Option Addr} {l c k : Nat} {zs : List Int} (h : Reads w a l zs) (hk : k ≤ l) (hl : l ≤ c) : Reads w (tailA a c k) (l - k) (zs.drop k) := by
 have hlen := h.1
 by_cases h0 : l - k = 0
 ·rw [h0]
  exact ⟨by simp; omega, fun x hx => h.2.1 x (List.mem_of_mem_drop hx), fun _ => rfl, fun _ _ i hi => absurd hi (Nat.not_lt_zero _)⟩
 ·obtain ⟨b, off, rfl, hb, hc⟩ := h.pos (by omega)
  unfold tailA
  rw [if_neg (by omega)]
  refine ⟨by simp; omega, fun x hx => h.2.1 x (List.mem_of_mem_drop hx), by simp, fun x hx i hi => ?_⟩
  simp only [Option.map_some] at hx
  cases hx
  rw [plain_add, plain_add]
  have := hc (k + i) (by omega)
  rw [← Nat.add_assoc] at this
  rw [this]
  simp [List.getD_eq_getElem?_getD]
def rsP (L : Nat) (k : Int) (m : List Int) (f : Int) (i : Nat) (bits : List Int) : List Int :=
 if k = 0 then List.replicate L 255 else riseL bits (m.drop (min (i * L) m.length)) f L
theorem or_ones {m : Int} (h : 0 ≤ m ∧ m ≤ 255) : bits .or .u8 255 m = 255 := by
 obtain ⟨n, rfl, hn⟩ := nat_of h
 have e : ∀ n, n < 256 → bits .or .u8 255 ((n : Nat) : Int) = 255 := by decide +kernel
 exact e n hn
theorem rise_ones (L : Nat) (m : List Int) (f : Int) (hm : ∀ x ∈ m, 0 ≤ x ∧ x ≤ 255) (hf : 0 ≤ f ∧ f ≤ 255) : ∀ k, k ≤ L → riseL (List.replicate L 255) m f k = List.replicate k 255
 | 0, _ => rfl
 | k + 1, hk => by
  rw [riseL, rise_ones L m f hm hf k (by omega), List.replicate_succ']
  congr 1
  have e : (List.replicate L (255 : Int)).getD k 0 = 255 := by rw [List.getD_eq_getElem?_getD, List.getElem?_replicate, if_pos (by omega)]; rfl
  rw [e, or_ones (mk_range hm hf k)]
theorem risen_nil (p : Nat) (w : World) (n c : Nat) (i : Int) (fa fk : Int) (ma : Option Addr) (ml mc : Nat) (ff : Int) :
  Calls Tryd.prog 78 #[.pointer (some ⟨p, 0, none⟩), .slice none n c, .int .i64 i, .agg #[.int .i64 fa, .int .i64 fk, .slice ma ml mc, .int .u8 ff]] w fun e w' => e = .returned (.slice none 0 0) ∧ Below w.heap.size w w' := by
 have hnil := fun w : World => _root_.Go.run_eql_slice_nil (P := Tryd.prog) w 32 5 none n c Tryd.underlying32
 go_enter Tryd.func78, Tryd.ntmps78
 go_wp2
 go_ret
 exact ⟨rfl, below_alloc _ _⟩
theorem risen_ok (p : Nat) (w : World) (a : Addr) (n c : Nat) (i : Int) (fa : Int) (ma : Option Addr) (ml mc : Nat) (ff : Int) :
  Calls Tryd.prog 78 #[.pointer (some ⟨p, 0, none⟩), .slice (some a) n c, .int .i64 i, .agg #[.int .i64 fa, .int .i64 0, .slice ma ml mc, .int .u8 ff]] w fun e w' => e = .returned (.slice none 0 0) ∧ Below w.heap.size w w' := by
 have hnil := fun w : World => _root_.Go.run_eql_slice_nil (P := Tryd.prog) w 32 5 (some a) n c Tryd.underlying32
 go_enter Tryd.func78, Tryd.ntmps78
 go_wp2
 go_ret
 exact ⟨rfl, below_alloc _ _⟩
theorem r3_keep {p g : Nat} {C : Ch} {ma : Option Addr} {ml mc : Nat} {ff : Int} {u u' : World} (h : u.cell? ⟨p, 0, none⟩ = some (.int .i64 (C.B : Int)) ∧ u.cell? ⟨p, 1, none⟩ = some (.int .i64 (C.P : Int)) ∧ u.cell? ⟨p, 2, none⟩ = some (.int .i64 (C.S : Int)) ∧ u.cell? ⟨g, 2, none⟩ = some (.slice ma ml mc) ∧ u.cell? ⟨g, 3, none⟩ = some (.int .u8 ff)) (hb : Below u.heap.size u u') :
  u'.cell? ⟨p, 0, none⟩ = some (.int .i64 (C.B : Int)) ∧ u'.cell? ⟨p, 1, none⟩ = some (.int .i64 (C.P : Int)) ∧ u'.cell? ⟨p, 2, none⟩ = some (.int .i64 (C.S : Int)) ∧ u'.cell? ⟨g, 2, none⟩ = some (.slice ma ml mc) ∧ u'.cell? ⟨g, 3, none⟩ = some (.int .u8 ff) := by
 obtain ⟨h0, h1, h2, h3, h4⟩ := h
 exact ⟨(hb.cell (block_lt_of_cell h0)).trans h0, (hb.cell (block_lt_of_cell h1)).trans h1, (hb.cell (block_lt_of_cell h2)).trans h2, (hb.cell (block_lt_of_cell h3)).trans h3, (hb.cell (block_lt_of_cell h4)).trans h4⟩
set_option maxRecDepth 100000 in
set_option maxHeartbeats 1000000 in
theorem risen_any (w : World) (p : Nat) (F : Nat → Prop) (C : Ch) (x : Bx) (bs : List Bc) (fe : List Fe) (h : CAt w p F C x bs fe) (hS : 1 ≤ C.S ∧ C.S ≤ 8) (a : Addr) (c i : Nat) (hi : i ≤ 256) (zs : List Int) (hz : Reads w (some a) (pgB C.S) zs) (fa fk : Int) (ma : Option Addr) (ml mc : Nat) (ff : Int) (fm : List Int) (hk : (fk == 0) = false) (hm : MaskOk w F ma ml fm) (hmc : ml ≤ mc) :
  Calls Tryd.prog 78 #[.pointer (some ⟨p, 0, none⟩), .slice (some a) (pgB C.S) c, .int .i64 (i : Int), .agg #[.int .i64 fa, .int .i64 fk, .slice ma ml mc, .int .u8 ff]] w fun e w' => ∃ g cr, e = .returned (.slice (some ⟨g, 0, none⟩) (pgB C.S) cr) ∧ Own w' w.heap.size g (pgB C.S) cr (riseL zs (fm.drop (min (i * pgB C.S) fm.length)) ff (pgB C.S)) ∧ Below w.heap.size w w' := by
 have hL := pgB_le hS.2
 obtain ⟨L, hLe⟩ : ∃ L, pgB C.S = L := ⟨_, rfl⟩
 rw [hLe] at hL hz ⊢
 have HL := hide hLe
 clear hLe
 have hml : fm.length = ml := hm.rd.1
 rw [hml]
 obtain ⟨ah, hah⟩ : ∃ z, z = min (i * L) ml := ⟨_, rfl⟩
 rw [← hah]
 have hmin : ((i : Int) * (L : Int)) = ((i * L : Nat) : Int) := by simp
 have hah2 : ah ≤ ml := by omega
 have hiL : i * L ≤ 544256 := Nat.le_trans (Nat.mul_le_mul hi hL) (by omega)
 have hwr : IntKind.i64.wrap ((i : Int) * (L : Int)) = ((i * L : Nat) : Int) := by rw [hmin]; simp only [IntKind.wrap_i64]; omega
 have hK := h.below (below_alloc w (.cells #[.int .i64 fa, .int .i64 fk, .slice ma ml mc, .int .u8 ff] 68))
 have hle := hm.le
 have hnil := fun w : World => _root_.Go.run_eql_slice_nil (P := Tryd.prog) w 32 5 (some a) L c Tryd.underlying32
 have htl := fun w : World => tail_run w ma ml mc ah hah2 hmc
 have HM := hide hm
 have HZ := hide hz
 have HMT := hide (tail_reads hm.rd hah2 hmc)
 have HLL : Hid (L ≤ 140737488351232) := by unfold Hid; omega
 have HS : Hid ((w.alloc (.cells #[.int .i64 fa, .int .i64 fk, .slice ma ml mc, .int .u8 ff] 68)).cell? ⟨p, 0, none⟩ = some (.int .i64 (C.B : Int)) ∧ (w.alloc (.cells #[.int .i64 fa, .int .i64 fk, .slice ma ml mc, .int .u8 ff] 68)).cell? ⟨p, 1, none⟩ = some (.int .i64 (C.P : Int)) ∧ (w.alloc (.cells #[.int .i64 fa, .int .i64 fk, .slice ma ml mc, .int .u8 ff] 68)).cell? ⟨p, 2, none⟩ = some (.int .i64 (C.S : Int)) ∧ (w.alloc (.cells #[.int .i64 fa, .int .i64 fk, .slice ma ml mc, .int .u8 ff] 68)).cell? ⟨w.heap.size, 2, none⟩ = some (.slice ma ml mc) ∧ (w.alloc (.cells #[.int .i64 fa, .int .i64 fk, .slice ma ml mc, .int .u8 ff] 68)).cell? ⟨w.heap.size, 3, none⟩ = some (.int .u8 ff)) := by
  have b0 := hK.box.c0
  have b1 := hK.box.c1
  have b2 := hK.box.c2
  rw [hK.B] at b0
  rw [hK.P] at b1
  rw [hK.S] at b2
  obtain ⟨_, _, e2, e3⟩ := cells4 (alloc_new w (.cells #[.int .i64 fa, .int .i64 fk, .slice ma ml mc, .int .u8 ff] 68))
  exact ⟨b0, b1, b2, e2, e3⟩
 have hmn : (if (ml : Int) < (i : Int) * (L : Int) then (ml : Int) else (i : Int) * (L : Int)) = (ah : Int) := by
  rw [hmin]
  split <;> omega
 have HMN := hide hmn
 have HAH := hide hah
 clear h hK hm hz hml hah hmin hmn
 go_enter Tryd.func78, Tryd.ntmps78
 go_wp2
 refine wp_region_held_drew (S := (fun u => u.cell? ⟨p, 0, none⟩ = some (.int .i64 (C.B : Int)) ∧ u.cell? ⟨p, 1, none⟩ = some (.int .i64 (C.P : Int)) ∧ u.cell? ⟨p, 2, none⟩ = some (.int .i64 (C.S : Int)) ∧ u.cell? ⟨w.heap.size, 2, none⟩ = some (.slice ma ml mc) ∧ u.cell? ⟨w.heap.size, 3, none⟩ = some (.int .u8 ff))) (by kernel_rfl) (HS.out) (fun hHeld => ?_)
 refine tk 0 ?_
 refine tk 1 ?_
 refine tk 2 ?_
 refine tk 3 ?_
 refine tk 4 ?_
 refine tk 7 ?_
 refine tk 8 ?_
 refine tk 9 ?_
 refine rd 5 (fun K hK => ?_)
 go_simp
 go_at_call 22
 refine (pageB_any _ _ C.S _ hS.1 hS.2).mono ?_
 rintro e u1 ⟨rfl, b1⟩
 rw [HL.out]
 have HB1 := hide (below_trans (drew_below _) b1)
 have hSnew := r3_keep HS.out HB1.out
 clear b1
 go_wp2_with fail
 clear hHeld
 refine hK.out _ _ hSnew (fun hHeld => ?_)
 clear hK K hSnew
 try simp only [Act.put, zSt, zS0, zS1]
 refine tk 6 ?_
 refine tk 10 ?_
 refine tk 11 ?_
 refine wpAnyH_done (by kernel_rfl) ?_ _
 clear hHeld
 rw [HMN.out]
 have HB1e := hide (below_trans HB1.out (drew_below u1))
 have HB1d := hide (below_trans (below_alloc w (.cells #[.int .i64 fa, .int .i64 fk, .slice ma ml mc, .int .u8 ff] 68)) HB1e.out)
 have HSd := hide (r3_keep HS.out HB1e.out)
 go_wp2
 refine wp_region_held_drew (S := (fun u => u.cell? ⟨p, 0, none⟩ = some (.int .i64 (C.B : Int)) ∧ u.cell? ⟨p, 1, none⟩ = some (.int .i64 (C.P : Int)) ∧ u.cell? ⟨p, 2, none⟩ = some (.int .i64 (C.S : Int)) ∧ u.cell? ⟨w.heap.size, 2, none⟩ = some (.slice ma ml mc) ∧ u.cell? ⟨w.heap.size, 3, none⟩ = some (.int .u8 ff))) (by kernel_rfl) (HSd.out) (fun hHeld => ?_)
 refine tk 0 ?_
 refine tk 1 ?_
 refine tk 2 ?_
 refine tk 3 ?_
 refine tk 4 ?_
 refine tk 5 ?_
 refine tk 6 ?_
 refine rd 7 (fun K hK => ?_)
 go_simp
 go_at_call 74
 refine (rise_any (some a) _ c zs (tailA ma mc ah) (ml - ah) (mc - ah) (fm.drop ah) ff _ HLL.out (by have := HM.out.le; omega) (HZ.out.below HB1d.out) (HMT.out.below HB1d.out)).mono ?_
 rintro e u2 ⟨gr, cr, rfl, o2, b2⟩
 have HO2 := hide o2
 have HB2 := hide (below_trans HB1e.out b2)
 have HB2d := hide (below_trans HB1d.out b2)
 have hSnew := r3_keep HS.out HB2.out
 clear o2 b2
 go_wp2_with fail
 clear hHeld
 refine hK.out _ _ hSnew (fun hHeld => ?_)
 clear hK K hSnew
 try simp only [Act.put, zSt, zS0, zS1]
 refine tk 8 ?_
 refine wpAnyH_done (by kernel_rfl) ?_ _
 clear hHeld
 go_wp2
 go_ret
 exact ⟨gr, cr, rfl, own_base HO2.out HB1d.out.size, HB2d.out⟩
end Go.Proofs.YtnmnhgagnfodhaaDoor.Cp
