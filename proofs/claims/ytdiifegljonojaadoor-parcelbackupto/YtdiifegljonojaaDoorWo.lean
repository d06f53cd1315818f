/-
  SEAT YtdiifegljonojaaDoor: Wo, of several texts.
-/
import Derived.Test.YtdiifegljonojaaDoorWl
namespace Go.Proofs.YtdiifegljonojaaDoor
open Go.RowKit
set_option linter.unusedVariables false

theorem pack_nil (a : Option Addr) (c : Nat) (w : World) : Calls Tryd.prog 16 #[.slice a 0 c] w fun e w' => e = .returned (.tuple #[.slice none 0 0, .int .i64 190]) ∧ w' = w := by
  go_enter Tryd.func16, Tryd.ntmps16
  go_wp2
  go_ret2
  exact ⟨rfl, rfl⟩
section
variable (b off n c : Nat) (x : Lf) (da : Option Addr) (dn dc : Nat) (w : World)
/-- The first leaf of a tree in memory. -/
def First : Prop := w.cell? ⟨b, off, none⟩ = some (.string x.path) ∧ w.cell? ⟨b, off + 1, none⟩ = some (.int .i64 x.ty) ∧ w.cell? ⟨b, off + 2, none⟩ = some (.int .i64 x.mode) ∧ w.cell? ⟨b, off + 3, none⟩ = some (.int .u64 x.stamp) ∧ w.cell? ⟨b, off + 4, none⟩ = some (.slice da dn dc) ∧ w.cell? ⟨b, off + 5, none⟩ = some (.string x.target)
end
set_option maxRecDepth 100000 in
theorem pack_root (b off n c : Nat) (x : Lf) (da : Option Addr) (dn dc : Nat) (w : World) (hn : 0 < n) (hn2 : n ≤ 9223372036854775807) (hf : First b off x da dn dc w) (hr : rootB x = false) :
    Calls Tryd.prog 16 #[.slice (some ⟨b, off, none⟩) n c] w fun e w' => e = .returned (.tuple #[.slice none 0 0, .int .i64 190]) ∧ w' = w := by
  obtain ⟨f0, f1, f2, f3, f4, f5⟩ := hf
  have i0 : (0 : Int) < (n : Int) := by omega
  have e0 : ((n : Int) == 0) = false := by rw [beq_eq_false_iff_ne]; omega
  have h47 : (⟨#[47]⟩ : ByteArray).toList = [47] := by rw [Pt.toList_data]
  by_cases h1 : x.path.toList = [47]
  · have h2 : ¬ x.ty = 2 := by
      intro h2
      unfold rootB at hr
      rw [decide_eq_true h1, decide_eq_true h2] at hr
      cases hr
    have e1 : (x.path.toList == [47]) = true := by rw [h1]; rfl
    have e2 : (x.ty != 2) = true := by simp [h2]
    clear h1 h2 hr
    go_enter Tryd.func16, Tryd.ntmps16
    go_wp2
    go_ret2
    exact ⟨rfl, rfl⟩
  · have e1 : (x.path.toList == [47]) = false := by rw [beq_eq_false_iff_ne]; exact h1
    clear h1 hr
    go_enter Tryd.func16, Tryd.ntmps16
    go_wp2
    go_ret2
    exact ⟨rfl, rfl⟩
set_option maxRecDepth 100000 in
theorem pack_body (b off n c : Nat) (x : Lf) (da : Option Addr) (dn dc : Nat) (w : World) (hn : 0 < n) (hn2 : n ≤ 9223372036854775807) (hf : First b off x da dn dc w) (hr : rootB x = true) (hb : bodB x.ty x.mode dn x.target = false) (ht : x.target.size ≤ 200000000000000) :
    Calls Tryd.prog 16 #[.slice (some ⟨b, off, none⟩) n c] w fun e w' => e = .returned (.tuple #[.slice none 0 0, .int .i64 191]) ∧ Below w.heap.size w w' := by
  obtain ⟨f0, f1, f2, f3, f4, f5⟩ := hf
  have i0 : (0 : Int) < (n : Int) := by omega
  have e0 : ((n : Int) == 0) = false := by rw [beq_eq_false_iff_ne]; omega
  have h47 : (⟨#[47]⟩ : ByteArray).toList = [47] := by rw [Pt.toList_data]
  unfold rootB at hr
  simp only [Bool.and_eq_true, decide_eq_true_eq] at hr
  obtain ⟨h1, h2⟩ := hr
  have e1 : (x.path.toList == [47]) = true := by rw [h1]; rfl
  have HB := hide (body_may x.path x.ty x.mode x.stamp da dn dc x.target w ht)
  rw [hb] at HB
  rw [h2] at HB f1
  clear h1 h2 hb
  go_enter Tryd.func16, Tryd.ntmps16
  go_wp2_with (first | (go_at_call 27; refine HB.out.mono ?_; rintro e w1 ⟨rfl, b1⟩; have HB1 := hide b1; clear b1))
  go_ret2
  exact ⟨rfl, HB1.out⟩
def sealR (r : Except Int (List Int)) : Except Int (List Int) := match r with | .error e => .error e | .ok x => .ok (sealW x)
/-- What stands while a leaf is packed. -/
structure Pq (w : World) (q sp p : Nat) (laid : List Int) (ns0 : List ByteArray) (d0 : Bool) (v0 : Value) (yc : Array Value) (X : World) : Prop where
  wr : WrA X w.heap.size q laid
  sb : X.heap[sp]? = some (.cells #[v0, .bool d0] 59 (0, 0))
  ow : Pt.Ow X w.heap.size v0 ns0
  bx : X.heap[p]? = some (.cells yc 41 (0, 0))
  bel : Below w.heap.size w X
theorem Pq.below {w : World} {q sp p : Nat} {laid : List Int} {ns0 : List ByteArray} {d0 : Bool} {v0 : Value} {yc : Array Value} {X Y : World} (h : Pq w q sp p laid ns0 d0 v0 yc X) (hb : Below X.heap.size X Y) : Pq w q sp p laid ns0 d0 v0 yc Y :=
  ⟨h.wr.below hb, blk_up h.sb hb, Pt.Ow.below h.ow hb, blk_up h.bx hb, bel_join h.bel hb⟩
/-- What stands between two leaves. -/
def PkI (w : World) (q sp : Nat) (rest : List Lf) (R : Except Int (List Int)) (k : Nat) (wr : World) : Prop :=
  ∃ (laid : List Int) (ns0 : List ByteArray) (d0 : Bool) (v0 : Value), WrA wr w.heap.size q laid ∧ wr.heap[sp]? = some (.cells #[v0, .bool d0] 59 (0, 0)) ∧ Pt.Ow wr w.heap.size v0 ns0 ∧ ns0.length ≤ 64 ∧ Below w.heap.size w wr ∧ laid.length + szL (rest.drop k) ≤ 100000000100 ∧ R = goL ns0 d0 laid (rest.drop k)
theorem two_frozen {w : World} {q : Nat} {a b : Value} {t : TypeId} (h : w.heap[q]? = some (.cells #[a, b] t (0, 0))) : w.frozen? ⟨q, 0, none⟩ = false ∧ w.frozen? ⟨q, 1, none⟩ = false := by
  refine ⟨?_, ?_⟩ <;> simp [World.frozen?, h]
theorem two_set0 {w : World} {q : Nat} {a b : Value} {t : TypeId} (h : w.heap[q]? = some (.cells #[a, b] t (0, 0))) (v : Value) : (w.setCell ⟨q, 0, none⟩ v).heap[q]? = some (.cells #[v, b] t (0, 0)) := blk_set h v
theorem two_set1 {w : World} {q : Nat} {a b : Value} {t : TypeId} (h : w.heap[q]? = some (.cells #[a, b] t (0, 0))) (v : Value) : (w.setCell ⟨q, 1, none⟩ v).heap[q]? = some (.cells #[a, v] t (0, 0)) := blk_set h v
/-- A row of names behind what is written into a box of another type. -/
theorem ow_two {w w' : World} {B0 j : Nat} {v : Value} {xs : List ByteArray} {cs : Array Value} {t : TypeId} (h : Pt.Ow w B0 v xs) (hg : w.grownBy w' (some j)) (hj : w.heap[j]? = some (.cells cs t (0, 0))) (ht : t ≠ 9) : Pt.Ow w' B0 v xs := by
  refine World.ownsRow.kept h hg ?_
  rcases h.2 with ⟨hv, _⟩ | ⟨g, cap, cur, hv, _, hg2, _⟩
  · left; rw [hv]; rfl
  · right
    rw [hv]
    intro e
    have e' : g = j := Option.some.inj e
    rw [← e', hg2] at hj
    cases hj
    exact ht rfl
theorem reads_m4 {w : World} {q : Nat} {f : Nat × Nat} (h : w.heap[q]? = some (.cells #[.int .u8 80, .int .u8 82, .int .u8 67, .int .u8 76] 5 f)) : Reads w (some ⟨q, 0, none⟩) 4 [80, 82, 67, 76] := by
  refine ⟨rfl, fun x hx => ?_, (fun h => by cases h), fun x hx i hi => ?_⟩
  · simp only [List.mem_cons, List.not_mem_nil, or_false] at hx
    rcases hx with rfl | rfl | rfl | rfl <;> omega
  · cases hx
    rw [plain_add, Nat.zero_add]
    match i, hi with
    | 0, _ => simp [World.cell?, h]
    | 1, _ => simp [World.cell?, h]
    | 2, _ => simp [World.cell?, h]
    | 3, _ => simp [World.cell?, h]

set_option maxHeartbeats 8000000 in
set_option maxRecDepth 100000 in
theorem pack_main (b off n c : Nat) (x : Lf) (da : Option Addr) (dn dc : Nat) (rest : List Le) (w : World) (hrd : RdL w w.heap.size (.slice (some ⟨b, off, none⟩) n c) (⟨x, .slice da dn dc⟩ :: rest)) (hn : n = rest.length + 1)
    (hr : rootB x = true) (hb : bodB x.ty x.mode dn x.target = true) (hsz : szL (rest.map Le.l) ≤ 100000000000) (hT : Tab w) :
    Calls Tryd.prog 16 #[.slice (some ⟨b, off, none⟩) n c] w fun e w' => PkV w (sealR (goL [] true (headW x) (rest.map Le.l))) e w' ∧ Below w.heap.size w w' := by
  have hw1 : 1 ≤ w.heap.size := by have h9 := block_lt_of_cell (hT 0 (by omega)); omega
  obtain ⟨a', c', he, hc1, hc2, hcell⟩ := hrd.shape
  injection he with he1 he2 he3
  subst he1
  subst he3
  obtain ⟨b', off', he4, hbB, hcell⟩ := hcell (by simp)
  cases he4
  have hml : (⟨x, .slice da dn dc⟩ :: rest : List Le).length = n := he2.symm
  rw [hml] at hc1
  have hc0 := hcell 0 (by simp)
  have f0 : w.cell? ⟨b, off, none⟩ = some (.string x.path) := hc0 0 (by omega)
  have f1 : w.cell? ⟨b, off + 1, none⟩ = some (.int .i64 x.ty) := by have h9 := hc0 1 (by omega); rw [Nat.zero_mul, Nat.add_zero] at h9; exact h9
  have f2 : w.cell? ⟨b, off + 2, none⟩ = some (.int .i64 x.mode) := by have h9 := hc0 2 (by omega); rw [Nat.zero_mul, Nat.add_zero] at h9; exact h9
  have f3 : w.cell? ⟨b, off + 3, none⟩ = some (.int .u64 x.stamp) := by have h9 := hc0 3 (by omega); rw [Nat.zero_mul, Nat.add_zero] at h9; exact h9
  have f4 : w.cell? ⟨b, off + 4, none⟩ = some (.slice da dn dc) := by have h9 := hc0 4 (by omega); rw [Nat.zero_mul, Nat.add_zero] at h9; exact h9
  have f5 : w.cell? ⟨b, off + 5, none⟩ = some (.string x.target) := by have h9 := hc0 5 (by omega); rw [Nat.zero_mul, Nat.add_zero] at h9; exact h9
  have hcr : ∀ k, k < rest.length → ∀ j, j < 6 → w.cell? ⟨b, off + 6 + k * 6 + j, none⟩ = rest[k]?.bind (fun x => x.cells[j]?) := by
    intro k hk j hj
    have h9 := hcell (k + 1) (by simp; omega) j hj
    rw [List.getElem?_cons_succ] at h9
    rw [← h9]
    congr 2
    omega
  have HCR := hide hcr
  have HDA := hide hrd.data
  have HST := hide hrd.stamp
  have HTX := hide hrd.text
  have HT := hide hT
  have hst0 := hrd.stamp _ (List.mem_cons_self)
  have htx0 := hrd.text _ (List.mem_cons_self)
  simp only at hst0 htx0
  obtain ⟨hb1, hb2, hb3, hb4, hb5, hb6, hb7⟩ := bod_facts hb
  have i0 : (0 : Int) < (n : Int) := by omega
  have e0 : ((n : Int) == 0) = false := by rw [beq_eq_false_iff_ne]; omega
  have h47 : (⟨#[47]⟩ : ByteArray).toList = [47] := by rw [Pt.toList_data]
  unfold rootB at hr
  simp only [Bool.and_eq_true, decide_eq_true_eq] at hr
  obtain ⟨hr1, hr2⟩ := hr
  have e1 : (x.path.toList == [47]) = true := by rw [hr1]; rfl
  have HB := hide (body_may x.path x.ty x.mode x.stamp da dn dc x.target w htx0.2.1)
  rw [hb] at HB
  rw [hr2] at HB f1
  have kc := fun (w : World) (C : Array Value) (n c : Nat) => Lib.run_convert_bytes_const (P := Tryd.prog) w 22 5 C n c Tryd.underlying22 Tryd.underlying5
  have HBB := hide hbB
  have hnz : (1 : Int) ≤ (c : Int) := by omega
  have hn1 : (1 : Int) ≤ (n : Int) := by omega
  have HFF : Hid (∀ X : World, Below w.heap.size w X → X.cell? ⟨b, off, none⟩ = some (.string x.path) ∧ X.cell? ⟨b, off + 1, none⟩ = some (.int .i64 2) ∧ X.cell? ⟨b, off + 2, none⟩ = some (.int .i64 x.mode) ∧ X.cell? ⟨b, off + 3, none⟩ = some (.int .u64 x.stamp) ∧ X.cell? ⟨b, off + 4, none⟩ = some (.slice da dn dc) ∧ X.cell? ⟨b, off + 5, none⟩ = some (.string x.target)) := fun X hX => by
    rw [hX.cell (show b < w.heap.size from hbB), hX.cell (show b < w.heap.size from hbB), hX.cell (show b < w.heap.size from hbB), hX.cell (show b < w.heap.size from hbB), hX.cell (show b < w.heap.size from hbB), hX.cell (show b < w.heap.size from hbB)]
    exact ⟨f0, f1, f2, f3, f4, f5⟩
  obtain ⟨R, hR⟩ : ∃ R, goL [] true (headW x) (rest.map Le.l) = R := ⟨_, rfl⟩
  rw [hR]
  obtain ⟨R2, hR2⟩ : ∃ R2 : Except Int (List Int), sealR R = R2 := ⟨_, rfl⟩
  rw [hR2]
  have HR := hide hR
  have HR2 := hide hR2
  clear hR2
  have HSZ := hide hsz
  obtain ⟨a6, ha6⟩ : ∃ a6 : Option Addr, (if c = 1 then some (⟨b, off, none⟩ : Addr) else some ⟨b, off + 6, none⟩) = a6 := ⟨_, rfl⟩
  have HA6 := hide ha6
  obtain ⟨m, hm⟩ : ∃ m, n - 1 = m := ⟨_, rfl⟩
  have HRL : Hid (rest.length = m) := by unfold Hid; omega
  have hmc : m + 1 ≤ c := by omega
  clear hcell hc0 hcr hrd hT hb hr1 hr2 hbB he2 hml hR hsz
  have hn9 : n ≤ 9223372036854775807 := by omega
  clear hn
  have T1 : Hid True := trivial
  go_enter Tryd.func16, Tryd.ntmps16
  go_upto_region 8 with (first
    | (go_at_call 27; refine HB.out.mono ?_; rintro e u1 ⟨rfl, b1⟩
       have HB1 := hide b1
       clear f0 f1 f2 f3 f4 f5
       obtain ⟨f0, f1, f2, f3, f4, f5⟩ := HFF.out _ b1
       clear b1)
    | (go_at_call 28; have zz := T1; clear T1 zz
       have hg1 : ((u1.alloc (.cells #[.int .u8 80, .int .u8 82, .int .u8 67, .int .u8 76] 5 (4, 5))).alloc (.cells #[.slice (some ⟨u1.heap.size, 0, none⟩) 4 4] 68)).heap[u1.heap.size]? = some (.cells #[.int .u8 80, .int .u8 82, .int .u8 67, .int .u8 76] 5 (4, 5)) := (by
         rw [Below.heap_alloc _ _ _ (by simp)]; exact heap_alloc_new _ _)
       have hq1 : ((u1.alloc (.cells #[.int .u8 80, .int .u8 82, .int .u8 67, .int .u8 76] 5 (4, 5))).alloc (.cells #[.slice (some ⟨u1.heap.size, 0, none⟩) 4 4] 68)).heap[u1.heap.size + 1]? = some (.cells #[.slice (some ⟨u1.heap.size, 0, none⟩) 4 4] 68 (0, 0)) := (by
         have h9 := heap_alloc_new (u1.alloc (.cells #[.int .u8 80, .int .u8 82, .int .u8 67, .int .u8 76] 5 (4, 5))) (.cells #[.slice (some ⟨u1.heap.size, 0, none⟩) 4 4] 68); rw [World.size_alloc] at h9; exact h9)
       have hwu : w.heap.size ≤ u1.heap.size := HB1.out.size
       have hbW1 : Below w.heap.size w ((u1.alloc (.cells #[.int .u8 80, .int .u8 82, .int .u8 67, .int .u8 76] 5 (4, 5))).alloc (.cells #[.slice (some ⟨u1.heap.size, 0, none⟩) 4 4] 68)) := (HB1.out.alloc hwu _).alloc (by simp; omega) _
       refine (number_first w.heap.size (u1.heap.size + 1) 4 ⟨u1.heap.size, 0, none⟩ [80, 82, 67, 76] 1 1 _ hq1 (reads_m4 hg1) (by omega) (by omega) (by omega) (by omega) (by omega) (by omega)).mono ?_
       rintro e u2 ⟨rfl, wr2, kw2⟩
       have HW2 := hide wr2
       have HB2 := hide (hbW1.trans kw2.bel)
       clear f0 f1 f2 f3 f4 f5
       obtain ⟨f0, f1, f2, f3, f4, f5⟩ := HFF.out _ HB2.out
       clear hg1 hq1 hbW1 wr2 kw2)
    | (go_at_call 29; refine (mode_w w.heap.size (u1.heap.size + 1) ([80, 82, 67, 76] ++ numL 1 1) x.path 2 x.mode x.stamp _ x.target da dn dc rfl _ HW2.out (by simp only [List.length_append, numL_length, List.length_cons, List.length_nil]; omega) hb3 hb4 hst0.1 hst0.2).mono ?_
       rintro e u3 ⟨rfl, wr3, kw3⟩
       have HW3 := hide wr3
       have HB3 := hide (HB2.out.trans kw3.bel)
       clear wr3 kw3 f0 f1 f2 f3 f4 f5))
  obtain ⟨q, hq⟩ : ∃ q, u1.heap.size + 1 = q := ⟨_, rfl⟩
  rw [hq] at HW3 ⊢
  have b4 := below_alloc u3 (.cells #[.slice none 0 0, .bool true] 59)
  have hs4 : (u3.alloc (.cells #[.slice none 0 0, .bool true] 59)).heap[u3.heap.size]? = some (.cells #[.slice none 0 0, .bool true] 59 (0, 0)) := heap_alloc_new u3 _
  have HW4 := hide (HW3.out.below b4)
  have HB4 := hide (bel_join HB3.out b4)
  have HS4 := hide hs4
  obtain ⟨sp, hsp⟩ : ∃ sp, u3.heap.size = sp := ⟨_, rfl⟩
  have HSP : Hid (w.heap.size ≤ sp) := by rw [← hsp]; exact HB3.out.size
  rw [hsp] at HS4
  have HSPE := hide hsp
  clear b4 hs4 hq hsp HW3 HW2 HB1 HB2 HB3 HB kc
  go_wp2_with fail
  rw [HSPE.out]
  clear hm
  go_loopw [47] (fun i wr => ∃ k : Nat, k ≤ m ∧ i = .int .i64 (k : Int) ∧ Hid (PkI w q sp (rest.map Le.l) R k wr)) (fun i _ => m - (intOf i).toNat)
  case atStart =>
    refine ⟨0, Nat.zero_le _, rfl, ?_⟩
    refine (show Hid _ from ⟨headW x, [], true, .slice none 0 0, HW4.out, HS4.out, World.ownsRow_nil _ _ _ _, by simp, HB4.out, ?_, HR.out.symm⟩)
    have h9 := HSZ.out
    rw [List.drop_zero]
    unfold headW
    simp only [List.length_append, numL_length, List.length_cons, List.length_nil]
    omega
  case round =>
    obtain ⟨k, hk, rfl, hrl⟩ := hrel
    obtain ⟨laid, ns0, d0, v0, hwr, hsb, how, hl0, hbe, hlb, hgo⟩ := hrl.out
    clear hrl HW4 HS4 HB4
    by_cases hlt : k < m
    · have i1 : (k : Int) < (m : Int) := by omega
      have hkr : k < rest.length := by have := HRL.out; omega
      have wk : IntKind.i64.wrap ((k : Int) + 1) = (k : Int) + 1 := by rw [IntKind.wrap_i64]; omega
      have hc9 : ¬ c = 1 := by omega
      obtain rfl : a6 = some ⟨b, off + 6, none⟩ := by rw [← HA6.out, if_neg hc9]
      obtain ⟨ye, hye⟩ : ∃ ye, rest[k] = ye := ⟨_, rfl⟩
      have hmem : ye ∈ (⟨x, .slice da dn dc⟩ :: rest : List Le) := List.mem_cons_of_mem _ (by rw [← hye]; exact List.getElem_mem hkr)
      obtain ⟨ea, en, ec, hyd, hre, hec1, hec2, hlo⟩ := HDA.out ye hmem
      have hst := HST.out ye hmem
      have htx := HTX.out ye hmem
      have hcy := HCR.out k hkr
      rw [List.getElem?_eq_getElem hkr, hye] at hcy
      have hdr : (rest.map Le.l).drop k = ye.l :: (rest.map Le.l).drop (k + 1) := by
        rw [List.drop_eq_getElem_cons (by rw [List.length_map]; exact hkr), List.getElem_map, hye]
      obtain ⟨y, yd⟩ := ye
      simp only at hyd hre hst htx hdr
      subst hyd
      have HDR := hide hdr
      have HRE := hide hre
      have HLO := hide hlo
      have HEN : Hid (y.data.length = en) := hre.1
      have hq6 : ∀ j, j < 6 → wr.cell? ⟨b, off + 6 + k * 6 + j, none⟩ = (Le.cells ⟨y, .slice ea en ec⟩)[j]? := fun j hj => by rw [hbe.cell (show b < w.heap.size from HBB.out)]; exact hcy j hj
      have y0 : wr.cell? ⟨b, off + 6 + k * 6, none⟩ = some (.string y.path) := hq6 0 (by omega)
      have y1 : wr.cell? ⟨b, off + 6 + k * 6 + 1, none⟩ = some (.int .i64 y.ty) := hq6 1 (by omega)
      have y2 : wr.cell? ⟨b, off + 6 + k * 6 + 2, none⟩ = some (.int .i64 y.mode) := hq6 2 (by omega)
      have y3 : wr.cell? ⟨b, off + 6 + k * 6 + 3, none⟩ = some (.int .u64 y.stamp) := hq6 3 (by omega)
      have y4 : wr.cell? ⟨b, off + 6 + k * 6 + 4, none⟩ = some (.slice ea en ec) := hq6 4 (by omega)
      have y5 : wr.cell? ⟨b, off + 6 + k * 6 + 5, none⟩ = some (.string y.target) := hq6 5 (by omega)
      have b1 := below_alloc wr (.cells #[.string y.path, .int .i64 y.ty, .int .i64 y.mode, .int .u64 y.stamp, .slice ea en ec, .string y.target] 41)
      have HQ1 : Hid (Pq w q sp wr.heap.size laid ns0 d0 v0 #[.string y.path, .int .i64 y.ty, .int .i64 y.mode, .int .u64 y.stamp, .slice ea en ec, .string y.target] (wr.alloc (.cells #[.string y.path, .int .i64 y.ty, .int .i64 y.mode, .int .u64 y.stamp, .slice ea en ec, .string y.target] 41))) := ⟨hwr.below b1, blk_up hsb b1, Pt.Ow.below how b1, heap_alloc_new wr _, bel_join hbe b1⟩
      obtain ⟨a0, c0, hv0, _⟩ := Pt.Ow.rd how
      obtain ⟨n0, hn0⟩ : ∃ n0, ns0.length = n0 := ⟨_, rfl⟩
      rw [hn0] at hv0
      subst hv0
      have HZ1 : Hid (w.heap.size ≤ (wr.alloc (.cells #[.string y.path, .int .i64 y.ty, .int .i64 y.mode, .int .u64 y.stamp, .slice ea en ec, .string y.target] 41)).heap.size) := HQ1.out.bel.size
      have HL0 := hide hl0
      have HLB := hide hlb
      have HGO := hide hgo
      clear hq6 hcy b1 hye hmem hdr hre hlo hwr hsb how hl0 hlb hgo hbe hn0
      have s0 : True := trivial
      have s1 : True := trivial
      cases hnmB : nmsB y.path with
      | false =>
        have HNM := hide hnmB
        clear hnmB
        have HOKF : Hid (okL ns0 d0 y = false) := by unfold Hid okL; rw [HNM.out]; simp
        go_wp2_with (first
          | (go_at_call 30; refine (namesOf_any y.path _ htx.1).mono ?_; rintro e u2 ⟨⟨vn, rfl, hown, an, nn, cn, rfl⟩, b2⟩
             rw [HNM.out]
             have HQ2 := hide (HQ1.out.below b2)
             have HOW := hide (fun h => ow_lower (hown h) HZ1.out)
             clear y0 y1 y2 y3 y4 y5 s0 s1
             obtain ⟨y0, y1, y2, y3, y4, y5⟩ := fb6 HQ2.out.bx
             obtain ⟨s0, s1⟩ := two_cells HQ2.out.sb
             clear b2 hown))
        go_ret2
        refine ⟨?_, HQ2.out.bel⟩
        rw [← HR2.out, HGO.out, HDR.out, goL, if_neg (by rw [HOKF.out]; simp)]
        exact rfl
      | true =>
        have HNM := hide hnmB
        have HNF := hide (nms_facts hnmB)
        clear hnmB
        cases hbo : bodB y.ty y.mode en y.target with
        | false =>
          have HBO := hide hbo
          clear hbo
          have HOKF : Hid (okL ns0 d0 y = false) := by unfold Hid okL; rw [HNM.out, HEN.out, HBO.out]; simp
          go_wp2_with (first
            | (go_at_call 30; refine (namesOf_any y.path _ htx.1).mono ?_; rintro e u2 ⟨⟨vn, rfl, hown, an, nn, cn, rfl⟩, b2⟩
               rw [HNM.out]
               have HQ2 := hide (HQ1.out.below b2)
               have HOW := hide (fun h => ow_lower (hown h) HZ1.out)
               clear y0 y1 y2 y3 y4 y5 s0 s1
               obtain ⟨y0, y1, y2, y3, y4, y5⟩ := fb6 HQ2.out.bx
               obtain ⟨s0, s1⟩ := two_cells HQ2.out.sb
               clear b2 hown)
            | (go_at_call 27; refine (body_may y.path y.ty y.mode y.stamp ea en ec y.target _ htx.2.1).mono ?_; rintro e u3' ⟨rfl, b3⟩
               rw [HBO.out]
               have HQ3 := hide (HQ2.out.below b3)
               clear y0 y1 y2 y3 y4 y5 s0 s1
               obtain ⟨y0, y1, y2, y3, y4, y5⟩ := fb6 HQ3.out.bx
               obtain ⟨s0, s1⟩ := two_cells HQ3.out.sb
               clear b3))
          go_ret2
          refine ⟨?_, HQ3.out.bel⟩
          rw [← HR2.out, HGO.out, HDR.out, goL, if_neg (by rw [HOKF.out]; simp)]
          exact rfl
        | true =>
          have HBO := hide hbo
          have hbf := bod_facts hbo
          clear hbo
          cases hfo : folB ns0 d0 (Pt.spN y.path) with
          | false =>
            have HFO := hide hfo
            clear hfo
            have HOKF : Hid (okL ns0 d0 y = false) := by unfold Hid okL; rw [HNM.out, HEN.out, HBO.out, HFO.out]; simp
            go_wp2_with (first
              | (go_at_call 30; refine (namesOf_any y.path _ htx.1).mono ?_; rintro e u2 ⟨⟨vn, rfl, hown, an, nn, cn, rfl⟩, b2⟩
                 rw [HNM.out]
                 have HQ2 := hide (HQ1.out.below b2)
                 have HOW := hide (fun h => ow_lower (hown h) HZ1.out)
                 clear y0 y1 y2 y3 y4 y5 s0 s1
                 obtain ⟨y0, y1, y2, y3, y4, y5⟩ := fb6 HQ2.out.bx
                 obtain ⟨s0, s1⟩ := two_cells HQ2.out.sb
                 clear b2 hown)
              | (go_at_call 27; refine (body_may y.path y.ty y.mode y.stamp ea en ec y.target _ htx.2.1).mono ?_; rintro e u3' ⟨rfl, b3⟩
                 rw [HBO.out]
                 have HQ3 := hide (HQ2.out.below b3)
                 have HOW3 := hide (Pt.Ow.below (HOW.out HNM.out) b3)
                 clear y0 y1 y2 y3 y4 y5 s0 s1
                 obtain ⟨y0, y1, y2, y3, y4, y5⟩ := fb6 HQ3.out.bx
                 obtain ⟨s0, s1⟩ := two_cells HQ3.out.sb
                 clear b3)
              | (go_at_call 31; refine (follow_any ns0 (Pt.spN y.path) d0 (.slice a0 n0 c0) (.slice an nn cn) _ (Pt.Ow.vw HQ3.out.ow) (Pt.Ow.vw HOW3.out) HL0.out HNF.out.2.1).mono ?_; rintro e u4 ⟨rfl, b4⟩
                 rw [HFO.out]
                 have HQ4 := hide (HQ3.out.below b4)
                 have HOW4 := hide (Pt.Ow.below HOW3.out b4)
                 clear y0 y1 y2 y3 y4 y5 s0 s1
                 obtain ⟨y0, y1, y2, y3, y4, y5⟩ := fb6 HQ4.out.bx
                 obtain ⟨s0, s1⟩ := two_cells HQ4.out.sb
                 clear b4))
            go_ret2
            refine ⟨?_, HQ4.out.bel⟩
            rw [← HR2.out, HGO.out, HDR.out, goL, if_neg (by rw [HOKF.out]; simp)]
            exact rfl
          | true =>
            have HFO := hide hfo
            have hfl := fol_len hfo
            clear hfo
            obtain ⟨d, hd⟩ : ∃ d, (Pt.spN y.path).length = d + 1 := ⟨(Pt.spN y.path).length - 1, by have := hfl; omega⟩
            obtain ⟨nm, hnm⟩ : ∃ nm, (Pt.spN y.path).getD d ByteArray.empty = nm := ⟨_, rfl⟩
            have hdl : d < (Pt.spN y.path).length := by omega
            have HND : Hid ((Pt.spN y.path)[d]? = some nm) := by unfold Hid; rw [← hnm, List.getD_eq_getElem?_getD, List.getElem?_eq_getElem hdl]; rfl
            have hnms : nm.size ≤ 63 := HNF.out.2.2 nm (List.mem_of_getElem? HND.out)
            have HEL : Hid (encL y = encP d y.ty y.mode y.stamp nm y.data y.target) := by unfold Hid encL; rw [show (Pt.spN y.path).length - 1 = d by omega, hnm]
            have HOKT : Hid (okL ns0 d0 y = true) := by unfold Hid okL; rw [HNM.out, HEN.out, HBO.out, HFO.out]; rfl
            clear hnm hdl
            go_wp2_with (first
              | (go_at_call 30; refine (namesOf_any y.path _ htx.1).mono ?_; rintro e u2 ⟨⟨vn, rfl, hown, an, nn, cn, rfl⟩, b2⟩
                 rw [HNM.out]
                 have HQ2 := hide (HQ1.out.below b2)
                 have HOW := hide (fun h => ow_lower (hown h) HZ1.out)
                 clear y0 y1 y2 y3 y4 y5 s0 s1
                 obtain ⟨y0, y1, y2, y3, y4, y5⟩ := fb6 HQ2.out.bx
                 obtain ⟨s0, s1⟩ := two_cells HQ2.out.sb
                 clear b2 hown)
              | (go_at_call 27; refine (body_may y.path y.ty y.mode y.stamp ea en ec y.target _ htx.2.1).mono ?_; rintro e u3' ⟨rfl, b3⟩
                 rw [HBO.out]
                 have HQ3 := hide (HQ2.out.below b3)
                 have HOW3 := hide (Pt.Ow.below (HOW.out HNM.out) b3)
                 clear y0 y1 y2 y3 y4 y5 s0 s1
                 obtain ⟨y0, y1, y2, y3, y4, y5⟩ := fb6 HQ3.out.bx
                 obtain ⟨s0, s1⟩ := two_cells HQ3.out.sb
                 clear b3)
              | (go_at_call 31; refine (follow_any ns0 (Pt.spN y.path) d0 (.slice a0 n0 c0) (.slice an nn cn) _ (Pt.Ow.vw HQ3.out.ow) (Pt.Ow.vw HOW3.out) HL0.out HNF.out.2.1).mono ?_; rintro e u4 ⟨rfl, b4⟩
                 rw [HFO.out]
                 have HQ4 := hide (HQ3.out.below b4)
                 have HOW4 := hide (Pt.Ow.below HOW3.out b4)
                 clear y0 y1 y2 y3 y4 y5 s0 s1
                 obtain ⟨y0, y1, y2, y3, y4, y5⟩ := fb6 HQ4.out.bx
                 obtain ⟨s0, s1⟩ := two_cells HQ4.out.sb
                 clear b4)
              | (go_at_call 32
                 obtain ⟨gn, cap, cur, hvn, hgn, hcur⟩ := ow_cells HOW4.out hfl
                 injection hvn with hv1 hv2 hv3
                 subst hv1
                 subst hv3
                 have hnd : nn = d + 1 := (by rw [hv2]; exact hd)
                 subst hnd
                 refine (piece_w w.heap.size q d laid y.path y.ty y.mode y.stamp ea en ec y.data y.target nm gn 0 cn cur (0, 0) _ HQ4.out.wr (by have := HLB.out; omega) (by have := HNF.out.2.1; omega) (by omega) (by omega) hbf.2.2.1 hbf.2.2.2.1 hst.1 hst.2 (HRE.out.lowP HLO.out HQ4.out.bel) (by have := HEN.out; omega) hec1 hec2 HLO.out (by omega) (by omega) hgn (by rw [Nat.zero_add]; exact hcur d nm HND.out)).mono ?_
                 rintro e u5 ⟨rfl, wr5, k5⟩
                 have HW5 := hide wr5
                 have HOW5 := hide (ow_kw HOW4.out k5)
                 have HSB5 := hide (k5.blk HQ4.out.sb (by decide) (by decide))
                 have HBX5 := hide (k5.blk HQ4.out.bx (by decide) (by decide))
                 have HBL5 := hide (HQ4.out.bel.trans k5.bel)
                 clear y0 y1 y2 y3 y4 y5 s0 s1
                 obtain ⟨y0, y1, y2, y3, y4, y5⟩ := fb6 HBX5.out
                 obtain ⟨s0, s1⟩ := two_cells HSB5.out
                 obtain ⟨z0, z1⟩ := two_frozen HSB5.out
                 clear wr5 k5 hgn hcur hv2))
            go_roundw
            case rel =>
              obtain ⟨wx, hwx⟩ : ∃ wx, (u5.setCell ⟨sp, 0, none⟩ (.slice (some ⟨gn, 0, none⟩) (d + 1) cn)).setCell ⟨sp, 1, none⟩ (.bool (y.ty == 2)) = wx := ⟨_, rfl⟩
              have g1 := set_grown u5 sp 0 (.slice (some ⟨gn, 0, none⟩) (d + 1) cn)
              have h1 := two_set0 HSB5.out (.slice (some ⟨gn, 0, none⟩) (d + 1) cn)
              have g2 := set_grown (u5.setCell ⟨sp, 0, none⟩ (.slice (some ⟨gn, 0, none⟩) (d + 1) cn)) sp 1 (.bool (y.ty == 2))
              have h2 := two_set1 h1 (.bool (y.ty == 2))
              refine ⟨k + 1, by omega, by go_num, ?_⟩
              refine (show Hid _ from ⟨laid ++ encL y, Pt.spN y.path, (y.ty == 2), .slice (some ⟨gn, 0, none⟩) (d + 1) cn, ?_, h2, ?_, HNF.out.2.1, ?_, ?_, ?_⟩)
              · rw [HEL.out]
                exact WrA.other (WrA.other HW5.out HSB5.out (by decide) (by decide) g1) h1 (by decide) (by decide) g2
              · exact ow_two (ow_two HOW5.out g1 HSB5.out (by decide)) g2 h1 (by decide)
              · exact (HBL5.out.grown g1 HBL5.out.size (fun j e => by have := Option.some.inj e; have := HSP.out; omega)).grown g2 (Nat.le_trans HBL5.out.size g1.size) (fun j e => by have := Option.some.inj e; have := HSP.out; omega)
              · rw [List.length_append, HEL.out]
                have h7 := encP_len d y.ty y.mode y.stamp nm y.data y.target hnms (by omega)
                have h8 := HLB.out
                rw [HDR.out, szL] at h8
                omega
              · rw [HGO.out, HDR.out, goL, if_pos HOKT.out]
            case measure => simp [intOf]; omega
    ·
      obtain rfl : k = m := by omega
      have i1 : ¬ (k : Int) < (k : Int) := by omega
      have hdn : (rest.map Le.l).drop k = [] := List.drop_eq_nil_of_le (by rw [List.length_map, HRL.out]; exact Nat.le_refl _)
      rw [hdn] at hgo hlb
      have hgo2 : R = .ok laid := by rw [hgo]; rfl
      have HG2 := hide hgo2
      have HW := hide hwr
      have HBE := hide hbe
      have hll : laid.length ≤ 90000000000000 := by omega
      clear hgo hgo2 hwr hbe hlb hdn hsb how
      go_wp2_with (first
        | (go_at_call 33; refine (seal_w w.heap.size q laid _ HW.out hll hw1 (HT.out.below HBE.out)).mono ?_; rintro e u9 ⟨g9, cap9, rfl, own9, k9⟩
           have HO9 := hide own9
           have HK9 := hide k9
           clear own9 k9))
      go_ret2
      refine ⟨?_, HBE.out.trans HK9.out.bel⟩
      rw [← HR2.out, HG2.out]
      exact ⟨g9, cap9, rfl, HO9.out⟩
theorem pack_any (v : Value) (es : List Le) (w : World) (h : RdL w w.heap.size v es) (hsz : szL (es.map Le.l) ≤ 100000000000) (hT : Tab w) :
    Calls Tryd.prog 16 #[v] w fun e w' => PkV w (packM (es.map Le.l)) e w' ∧ Below w.heap.size w w' := by
  obtain ⟨a, c, rfl, h1, h2, h3⟩ := h.shape
  cases es with
  | nil =>
    refine (pack_nil a c w).mono ?_
    rintro e u ⟨rfl, rfl⟩
    exact ⟨rfl, Below.refl _ _⟩
  | cons y rest =>
    obtain ⟨b, off, rfl, hb, hcell⟩ := h3 (by simp)
    obtain ⟨da, dn, dc, hyd, hrd, hdc, hdc2, hlow⟩ := h.data y (List.mem_cons_self)
    obtain ⟨x, yd⟩ := y
    simp only at hyd hrd
    subst hyd
    have htx := h.text ⟨x, .slice da dn dc⟩ (List.mem_cons_self)
    simp only at htx
    have hc0 := hcell 0 (by simp)
    have hf : First b off x da dn dc w := by
      refine ⟨hc0 0 (by omega), ?_, ?_, ?_, ?_, ?_⟩
      · have h9 := hc0 1 (by omega); rw [Nat.zero_mul, Nat.add_zero] at h9; exact h9
      · have h9 := hc0 2 (by omega); rw [Nat.zero_mul, Nat.add_zero] at h9; exact h9
      · have h9 := hc0 3 (by omega); rw [Nat.zero_mul, Nat.add_zero] at h9; exact h9
      · have h9 := hc0 4 (by omega); rw [Nat.zero_mul, Nat.add_zero] at h9; exact h9
      · have h9 := hc0 5 (by omega); rw [Nat.zero_mul, Nat.add_zero] at h9; exact h9
    obtain ⟨n, hn⟩ : ∃ n, (⟨x, .slice da dn dc⟩ :: rest : List Le).length = n := ⟨_, rfl⟩
    have hn1 : n = rest.length + 1 := by rw [← hn]; rfl
    rw [hn] at h h1 ⊢
    rw [List.map_cons]
    show Calls Tryd.prog 16 _ w fun e w' => PkV w (packM (x :: rest.map Le.l)) e w' ∧ _
    rw [packM]
    cases hr : rootB x with
    | false =>
      refine (pack_root b off n c x da dn dc w (by omega) (by omega) hf hr).mono ?_
      rintro e u ⟨rfl, rfl⟩
      exact ⟨rfl, Below.refl _ _⟩
    | true =>
      have hdl : x.data.length = dn := hrd.1
      rw [hdl]
      cases hb2 : bodB x.ty x.mode dn x.target with
      | false =>
        refine (pack_body b off n c x da dn dc w (by omega) (by omega) hf hr hb2 htx.2.1).mono ?_
        rintro e u ⟨rfl, b1⟩
        exact ⟨rfl, b1⟩
      | true =>
        refine (pack_main b off n c x da dn dc rest w h hn1 hr hb2 ?_ hT).mono ?_
        · rw [List.map_cons, szL] at hsz; omega
        · rintro e u ⟨h7, h8⟩
          exact ⟨h7, h8⟩
end Go.Proofs.YtdiifegljonojaaDoor
