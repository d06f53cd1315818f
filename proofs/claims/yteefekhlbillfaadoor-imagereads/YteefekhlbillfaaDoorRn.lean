/-
  SEAT YteefekhlbillfaaDoor: pages laid out.
-/
import Derived.Test.YteefekhlbillfaaDoorRm
namespace Go.Proofs.YteefekhlbillfaaDoor
open Go.RowKit
set_option linter.unusedVariables false

def En.slc (x : En) : Value := .slice x.a x.l x.c
def fl (es : List En) : List En := es.flatMap fun x => List.replicate x.p.n x
theorem fl_snoc (es : List En) (x : En) : fl (es ++ [x]) = fl es ++ List.replicate x.p.n x := by simp [fl]
theorem fl_pages (es : List En) : (fl es).map (fun x => x.p.g) = pgs (es.map En.p) := by
  induction es with
  | nil => rfl
  | cons x r ih =>
    simp only [fl, pgs, List.flatMap_cons, List.map_append, List.map_cons, List.map_replicate] at ih ⊢
    rw [ih]
theorem fl_len (es : List En) : (fl es).length = cnt (es.map En.p) := by
  rw [← pgs_length, ← fl_pages, List.length_map]

theorem info22 : (Tryd.prog.info? 22).map (fun i => (i.zero, i.size, i.bytes)) = some (some (.slice none 0 0), 1, 24) := by kernel_rfl

theorem flatE_cell (es : List En) (i j : Nat) (hi : i < es.length) (hj : j < 3) : (flatE es)[i * 3 + j]? = es[i].cells[j]? := by
  induction es generalizing i with
  | nil => exact absurd hi (Nat.not_lt_zero _)
  | cons b r ih =>
    rw [show flatE (b :: r) = b.cells ++ flatE r from rfl]
    have hl : b.cells.length = 3 := rfl
    match i with
    | 0 =>
      rw [List.getElem?_append_left (by omega)]
      simp
    | i + 1 =>
      rw [List.getElem?_append_right (by omega), hl, show (i + 1) * 3 + j - 3 = i * 3 + j by omega, ih i (by simpa using hi)]
      simp

theorem box_kept {w w' : World} {B n pb : Nat} {v : Value} {xs : List Value} {cs : Array Value} {f : Nat × Nat} (ho : w.ownsRow B 22 1 v n xs) (hp : w.heap[pb]? = some (.cells cs 102 f)) (hg : w.grownBy w' v.ownBlock) : w'.heap[pb]? = some (.cells cs 102 f) := by
  refine (hg.block pb (Array.getElem?_eq_some_iff.1 hp).1 (fun e => ?_)).trans hp
  rcases ho.2 with ⟨hv, _⟩ | ⟨g, cap, cur, hv, _, hc, _⟩
  · rw [hv] at e; simp [Value.ownBlock] at e
  · rw [hv] at e
    simp [Value.ownBlock] at e
    subst e
    rw [hp] at hc
    injection hc with hc
    injection hc with _ hc
    exact absurd hc (by decide)

theorem slc_news (u : World) (x : En) : ∀ j v, [x.slc][j]? = some v → (u.alloc (.cells #[.slice x.a x.l x.c] 22)).cell? ((⟨u.heap.size, 0, none⟩ : Addr).add j) = some v := by
  intro j v h
  match j, h with
  | 0, h => simp [En.slc] at h; subst h; simp [Addr.add]

theorem ownsRow_succ' {W : World} {base : Nat} {e : TypeId} {size : Nat} {v : Value} {k : Nat} {xs : List Value} (h : W.ownsRow base e size v k xs) (hk : 0 < k) : ∃ g cap, v = .slice (some ⟨g, 0, none⟩) k cap := by
  rcases h.2 with ⟨_, h⟩ | ⟨g, cap, cur, hv, _⟩
  · omega
  · exact ⟨g, cap, hv⟩

def dflt : En := ⟨Pc.z, none, 0, 0⟩

theorem catF_eq (xs : List En) : catF (fun i => (xs.getD i dflt).p.g) xs.length = (xs.map fun x => x.p.g).flatten := by
  have key : ∀ k, k ≤ xs.length → catF (fun i => (xs.getD i dflt).p.g) k = ((xs.take k).map fun x => x.p.g).flatten := by
    intro k
    induction k with
    | zero => intro _; rfl
    | succ k ih =>
      intro h
      rw [catF, ih (by omega), List.take_succ_eq_append_getElem (by omega), List.map_append, List.flatten_append]
      simp only [List.map_cons, List.map_nil, List.flatten_cons, List.flatten_nil, List.append_nil]
      congr 1
      simp [List.getD, List.getElem?_eq_getElem (show k < xs.length by omega)]
  have := key xs.length (Nat.le_refl _)
  rwa [List.take_length] at this

theorem sumF_bound (ls : Nat → Nat) (m : Nat) : ∀ k, (∀ i, i < k → ls i ≤ m) → sumF ls k ≤ k * m
  | 0, _ => by simp [sumF]
  | k + 1, h => by
    have h1 := sumF_bound ls m k (fun i hi => h i (by omega))
    have h2 := h k (by omega)
    rw [sumF, Nat.succ_mul]
    omega

set_option maxHeartbeats 4000000 in
set_option maxRecDepth 100000 in
theorem laid_any (B : Nat) (v : Value) (es : List En) (w : World) (hown : w.ownsRow B 102 3 v es.length (flatE es)) (hoks : ∀ x ∈ es, x.Ok w B) (hcnt : (fl es).length ≤ 65536) (hle : es.length ≤ 65536) (hl : ∀ x ∈ es, x.l ≤ 2200) (hpos : 0 < ((pgs (es.map En.p)).flatten).length) :
    Calls Tryd.prog 34 #[v] w fun e w' => ∃ g cc, e = .returned (.slice (some ⟨g, 0, none⟩) ((pgs (es.map En.p)).flatten).length cc) ∧ Own w' w.heap.size g ((pgs (es.map En.p)).flatten).length cc ((pgs (es.map En.p)).flatten) ∧ Below w.heap.size w w' := by
  obtain ⟨i0, hi0, hz0, hz1, hz2⟩ := info_parts info22
  have HI : Hid (Tryd.prog.info? 22 = some i0 ∧ i0.zero = some (.slice none 0 0) ∧ i0.size = 1 ∧ i0.bytes = 24) := ⟨hi0, hz0, hz1, hz2⟩
  have hn0 : 0 < es.length := by
    rcases Nat.eq_zero_or_pos es.length with h | h
    · rw [List.eq_nil_of_length_eq_zero h] at hpos; simp [pgs] at hpos
    · exact h
  obtain ⟨n, hn⟩ : ∃ n, es.length = n := ⟨_, rfl⟩
  obtain ⟨g, cap, rfl, hgb⟩ : ∃ g cap, v = .slice (some ⟨g, 0, none⟩) n cap ∧ g < w.heap.size := by
    rcases hown.2 with ⟨_, h⟩ | ⟨g, cap, cur, hv, _, hc, _⟩
    · omega
    · rw [hn] at hv
      exact ⟨g, cap, hv, (Array.getElem?_eq_some_iff.1 hc).1⟩
  have HCE : Hid (∀ i (h : i < es.length), w.cell? ⟨g, i * 3, none⟩ = some (.int .i64 (es[i].p.k : Int)) ∧ w.cell? ⟨g, i * 3 + 1, none⟩ = some (.int .i64 (es[i].p.n : Int)) ∧ w.cell? ⟨g, i * 3 + 2, none⟩ = some (es[i].slc)) := fun i h => by
    have key : ∀ j, j < 3 → w.cell? ⟨g, i * 3 + j, none⟩ = es[i].cells[j]? := fun j hj => by
      rw [← flatE_cell es i j h hj]
      have h9 := hown
      rw [← hn] at h9
      exact World.ownsRow.cellAt h9 (i * 3 + j) (by omega)
    exact ⟨key 0 (by omega), key 1 (by omega), key 2 (by omega)⟩
  have HOK : Hid (∀ x ∈ es, x.Ok w B) := hoks
  have HN : Hid (es.length = n) := hn
  have HCN : Hid ((fl es).length ≤ 65536) := hcnt
  have HLL : Hid (∀ x ∈ es, x.l ≤ 2200) := hl
  have HPO : Hid (0 < ((pgs (es.map En.p)).flatten).length) := hpos
  rw [hn] at hle hn0
  clear hown hoks hn hcnt hl hi0 hz0 hz1 hz2 hpos
  go_enter Tryd.func34, Tryd.ntmps34
  go_wp2
  go_loopg [3, 8] n (fun gh s3 s8 wr => ∃ i : Nat, i ≤ n ∧ n - i ≤ gh ∧ s8 = .int .i64 (i : Int) ∧ Hid (wr.ownsRow w.heap.size 22 1 s3 (fl (es.take i)).length ((fl (es.take i)).map En.slc)) ∧ Hid (Below w.heap.size w wr))
  case atStart => exact ⟨0, Nat.zero_le _, by omega, rfl, World.ownsRow_nil _ _ _ _, Below.refl _ _⟩
  case round =>
    obtain ⟨i, hi, hig, rfl, HO, HB⟩ := hrel
    by_cases hlt : i < n
    · have hlt' : i < es.length := by have := HN.out; omega
      obtain ⟨k0, k1, k2⟩ := HCE.out i hlt'
      obtain ⟨x, hx⟩ : ∃ x, es[i] = x := ⟨_, rfl⟩
      have hmem : x ∈ es := by rw [← hx]; exact List.getElem_mem _
      rw [hx] at k0 k1 k2
      unfold En.slc at k2
      have HT : Hid (es.take (i + 1) = es.take i ++ [x]) := by unfold Hid; rw [List.take_succ_eq_append_getElem hlt', hx]
      have HFL : Hid ((fl (es.take i)).length + x.p.n ≤ 65536) := by
        have h1 : (fl (es.take (i + 1))).length ≤ (fl es).length := by
          have h2 : fl es = fl (es.take (i + 1)) ++ fl (es.drop (i + 1)) := by
            unfold fl
            rw [← List.flatMap_append, List.take_append_drop]
          rw [h2, List.length_append]
          omega
        rw [HT.out, fl_snoc, List.length_append, List.length_replicate] at h1
        have := HCN.out
        unfold Hid
        omega
      obtain ⟨F, hF⟩ : ∃ F, fl (es.take i) = F := ⟨_, rfl⟩
      have HFE : Hid (fl (es.take (i + 1)) = F ++ List.replicate x.p.n x) := by unfold Hid; rw [HT.out, fl_snoc, hF]
      have HO1 : Hid (wr.ownsRow w.heap.size 22 1 u3 F.length (F.map En.slc)) := by have := HO.out; rw [hF] at this; exact this
      have HFB : Hid (F.length + x.p.n ≤ 65536) := by have := HFL.out; rw [hF] at this; exact this
      obtain ⟨⟨xk, xn, xg⟩, xa, xl, xc⟩ := x
      simp only at k0 k1 k2
      have hxn : xn ≤ 65536 := by have := HFB.out; simp only at this; omega
      have m0 := (HB.out.cell (p := ⟨g, i * 3, none⟩) hgb).trans k0
      have m1 := (HB.out.cell (p := ⟨g, i * 3 + 1, none⟩) hgb).trans k1
      have m2 := (HB.out.cell (p := ⟨g, i * 3 + 2, none⟩) hgb).trans k2
      have d1 : (i : Int) < (n : Int) := by omega
      obtain ⟨pb, hpb⟩ : ∃ pb, wr.heap.size = pb := ⟨_, rfl⟩
      have HBX : Hid ((wr.alloc (.cells #[.int .i64 (xk : Int), .int .i64 (xn : Int), .slice xa xl xc] 102)).heap[pb]? = some (.cells #[.int .i64 (xk : Int), .int .i64 (xn : Int), .slice xa xl xc] 102 (0, 0))) := by unfold Hid; rw [← hpb]; exact heap_alloc_new _ _
      have HO2 : Hid ((wr.alloc (.cells #[.int .i64 (xk : Int), .int .i64 (xn : Int), .slice xa xl xc] 102)).ownsRow w.heap.size 22 1 u3 F.length (F.map En.slc)) := HO1.out.alloc _
      have HB2 : Hid (Below w.heap.size w (wr.alloc (.cells #[.int .i64 (xk : Int), .int .i64 (xn : Int), .slice xa xl xc] 102))) := HB.out.alloc HB.out.size _
      clear k0 k1 k2 hx hF HO HO1 HB HFL HT HCE
      go_wp2
      go_loopg [3, 14] xn (fun gh2 s3 s14 wq => ∃ j : Nat, j ≤ xn ∧ xn - j ≤ gh2 ∧ s14 = .int .i64 (j : Int) ∧ Hid (wq.ownsRow w.heap.size 22 1 s3 (F.length + j) ((F ++ List.replicate j (⟨⟨xk, xn, xg⟩, xa, xl, xc⟩ : En)).map En.slc)) ∧ Hid (Below w.heap.size w wq) ∧ Hid (wq.heap[pb]? = some (.cells #[.int .i64 (xk : Int), .int .i64 (xn : Int), .slice xa xl xc] 102 (0, 0))))
      case atStart => exact ⟨0, Nat.zero_le _, by omega, rfl, by simpa using HO2, HB2, HBX⟩
      case round =>
        obtain ⟨j, hj, hjg, rfl, HO3, HB3, HBX3⟩ := hrel
        clear HO2 HB2 HBX
        obtain ⟨b0, b1, b2, b3, b4, b5⟩ := blk3_cells HBX3.out
        by_cases hjl : j < xn
        · have d2 : (j : Int) < (xn : Int) := by omega
          have HFB2 : Hid (F.length + (j + 1) ≤ 65536) := by have h9 := HFB.out; unfold Hid; omega
          go_wp2_with (first
            | (at_builtin; refine wpList_append_own (wr.alloc (.cells #[.slice xa xl xc] 22)) rfl (.tmp 16) (.tmp 19) 25 rfl w.heap.size 22 i0 _ 1 24 Tryd.underlying25 HI.out.1 HI.out.2.1 HI.out.2.2.1 HI.out.2.2.2 rfl (by decide) u3 (F.length + j) _ rfl (HO3.out.alloc _) ⟨wr.heap.size, 0, none⟩ 1 1 [En.slc (⟨⟨xk, xn, xg⟩, xa, xl, xc⟩ : En)] rfl rfl (slc_news wr (⟨⟨xk, xn, xg⟩, xa, xl, xc⟩ : En)) (by intro u hu; rw [List.mem_singleton.1 hu]; rfl) (by have := HFB2.out; simp only [maxLen]; omega) (by have := HFB2.out; omega) (by have := HB3.out.size; simp; omega) ?_; intro v4 w4 own4 grow4 _h4
               have HO4 : Hid (w4.ownsRow w.heap.size 22 1 v4 (F.length + (j + 1)) ((F ++ List.replicate (j + 1) (⟨⟨xk, xn, xg⟩, xa, xl, xc⟩ : En)).map En.slc)) := by
                 unfold Hid
                 rw [List.replicate_succ', ← List.append_assoc, List.map_append]
                 exact own4
               have HB4 : Hid (Below w.heap.size w w4) := (HB3.out.alloc HB3.out.size _).grown grow4 (by have := HB3.out.size; simp; omega) (fun q hq => (HO3.out.lt q hq).1)
               have HBX4 : Hid (w4.heap[pb]? = some (.cells #[.int .i64 (xk : Int), .int .i64 (xn : Int), .slice xa xl xc] 102 (0, 0))) := box_kept (HO3.out.alloc _) ((Below.heap_alloc _ _ _ (Array.getElem?_eq_some_iff.1 HBX3.out).1).trans HBX3.out) grow4
               clear own4 grow4 b0 b1 b2 b3 b4 b5))
          go_roundg (xn - (j + 1))
          case measure => omega
          case rel => exact ⟨j + 1, by omega, Nat.le_refl _, by go_num, HO4, HB4, HBX4⟩
        · obtain rfl : j = xn := by omega
          go_wp2
          go_roundg (n - (i + 1))
          case measure => omega
          case rel => exact ⟨i + 1, by omega, Nat.le_refl _, by go_num, by unfold Hid; rw [HFE.out, List.length_append, List.length_replicate]; exact HO3.out, HB3⟩
    · obtain rfl : i = n := by omega
      have hall : es.take i = es := by rw [← HN.out, List.take_length]
      have ho := HO.out
      rw [hall] at ho
      obtain ⟨xs, hxs⟩ : ∃ xs, fl es = xs := ⟨_, rfl⟩
      have hmem : ∀ x ∈ xs, x ∈ es := fun x hx => by
        rw [← hxs] at hx
        obtain ⟨y, hy, hy2⟩ := List.mem_flatMap.1 hx
        rw [List.eq_of_mem_replicate hy2]; exact hy
      have hpg : (xs.map fun x => x.p.g).flatten = (pgs (es.map En.p)).flatten := by rw [← hxs, fl_pages]
      have hcn := HCN.out
      have hpo := HPO.out
      rw [hxs] at ho hcn
      have hm0 : 0 < xs.length := by
        rcases Nat.eq_zero_or_pos xs.length with h | h
        · rw [List.eq_nil_of_length_eq_zero h] at hpg; rw [← hpg] at hpo; simp at hpo
        · exact h
      obtain ⟨g3, c3, rfl⟩ := ownsRow_succ' ho hm0
      have hP : Parts wr (some ⟨g3, 0, none⟩) xs.length (fun i => (xs.getD i dflt).a) (fun i => (xs.getD i dflt).l) (fun i => (xs.getD i dflt).c) (fun i => (xs.getD i dflt).p.g) := by
        refine ⟨fun i hi => ⟨g3, rfl, (ho.lt g3 rfl).2, ?_⟩, fun i hi => ?_⟩
        · rw [World.ownsRow.cellAt ho i (by omega), List.getElem?_map, List.getElem?_eq_getElem hi]
          simp [En.slc, List.getD, List.getElem?_eq_getElem hi]
        · have hx : xs.getD i dflt ∈ es := hmem _ (by simp [List.getD, List.getElem?_eq_getElem hi])
          exact ((HOK.out _ hx).1.reads).low (fun y hy => by
            rcases (HOK.out _ hx).1 with ⟨h1, _, _⟩ | ⟨b, h1, _, h3, _⟩
            · rw [h1] at hy; cases hy
            · rw [h1] at hy; cases hy
              obtain ⟨cs, f, h3⟩ := h3
              exact (Array.getElem?_eq_some_iff.1 h3).1) HB.out
      have hsum : sumF (fun i => (xs.getD i dflt).l) xs.length ≤ 200000000 := by
        have h1 := sumF_bound (fun i => (xs.getD i dflt).l) 2200 xs.length (fun i hi => HLL.out _ (hmem _ (by simp [List.getD, List.getElem?_eq_getElem hi])))
        omega
      have hlen := catF_length (fun i => (xs.getD i dflt).p.g) (fun i => (xs.getD i dflt).l) xs.length (fun i hi => (hP.reads i hi).1)
      rw [catF_eq, hpg] at hlen
      have HPP : Hid _ := hP
      have HB9 : Hid _ := HB.out
      have HLN : Hid _ := hlen
      obtain ⟨m, hm⟩ : ∃ m, xs.length = m := ⟨_, rfl⟩
      have HMM : Hid (xs.length = m) := hm
      rw [hm] at HPP hsum hcn ho
      clear hP ho hm0 hlen hpo
      go_wp2_with (go_at_call 45; refine (join_parts _ m c3 _ _ _ _ _ (by omega) hsum HPP.out).mono ?_; rintro e w5 ⟨v5, rfl, own5, b5⟩)
      go_ret
      have h8 := HLN.out
      rw [HMM.out] at h8
      have h7 := catF_eq xs
      rw [HMM.out] at h7
      rw [h7, hpg, ← h8] at own5
      obtain ⟨g5, c5, rfl, _⟩ := own_shape own5 HPO.out
      exact ⟨g5, c5, rfl, row_base own5 HB9.out.size, below_trans HB9.out b5⟩

end Go.Proofs.YteefekhlbillfaaDoor
