/-
  SEAT Ytoaahellfflooaa.
-/
import Derived.Test.YtoaahellfflooaaVWc
namespace Go.Proofs.Ytoaahellfflooaa
open Go.RowKit
set_option linter.unusedVariables false

def blkW (x : Blk) : List Int := dg x.st 1 ++ (dg x.hd 6 ++ (dg (if x.re then 1 else 0) 1 ++ dg x.lv 2))
theorem blkW_len (x : Blk) : (blkW x).length = 10 := by simp only [blkW, List.length_append, dg_length]
def obW (o : Ob) : List Int := dg o.id 4 ++ (hdW o ++ chsW o.ch)
def packS (s : St) : List Int := dg s.fl 8 ++ (dg s.nx 8 ++ (dg (s.cu + 1) 4 ++ (dg (s.la + 1) 4 ++ (dg s.bs.length 4 ++ (s.bs.flatMap blkW ++ (dg s.os.length 4 ++ s.os.flatMap obW))))))
/-- Its numbers are what a word holds. -/
structure St.Nat (s : St) : Prop where
  fl : 0 ≤ s.fl
  nx : 0 ≤ s.nx
  hd : ∀ x ∈ s.bs, 0 ≤ x.hd
  st : ∀ o ∈ s.os, 0 ≤ o.nd.st ∧ o.nd.st < 18446744073709551616
theorem obW_len {o : Ob} (h : hdOk o = true) (hc : o.ch.length ≤ 65536) : (obW o).length ≤ 700000 := by
  have := hdW_len o h
  simp only [obW, List.length_append, dg_length, chsW_len]
  omega
theorem flatO_len : ∀ {l : List Ob}, (∀ o ∈ l, hdOk o = true ∧ o.ch.length ≤ 65536) → (l.flatMap obW).length ≤ l.length * 700000
  | [], _ => by simp
  | o :: r, h => by
    have h1 := obW_len (h o (by simp)).1 (h o (by simp)).2
    have h2 := flatO_len (l := r) (fun x hx => h x (by simp [hx]))
    rw [List.flatMap_cons, List.length_append, List.length_cons, Nat.succ_mul]
    omega
theorem obL_get : ∀ {a : Int} {l : List Ob}, 1 ≤ a → obL a l = true → ∀ o ∈ l, (2 ≤ o.id ∧ o.id ≤ 1048575) ∧ hdOk o = true ∧ o.ch.length ≤ 65536 ∧ chL (-1) o.ch = true
  | _, [], _, _, o, hc => by cases hc
  | a, x :: r, ha, h, o, hc => by
    rw [obL_ob ha] at h
    simp only [Bool.and_eq_true] at h
    have h1 := h.1
    simp only [obOk, Bool.and_eq_true, decide_eq_true_eq] at h1
    rcases List.mem_cons.1 hc with rfl | hc
    · exact ⟨rg_iff.1 h1.1, h1.2.2.1, h1.2.1, h1.2.2.2⟩
    · exact obL_get (by have := rg_iff.1 h1.1; omega) h.2.2 o hc
structure Can (s : St) : Prop where
  fl : s.fl ≤ 281474976710655
  nx : s.nx ≤ 281474976710656
  cu : -1 ≤ s.cu ∧ s.cu ≤ 4095
  la : -1 ≤ s.la ∧ s.la ≤ 4095
  bn : s.bs.length ≤ 4096
  on_ : s.os.length ≤ 1048575
  b : ∀ x ∈ s.bs, (0 ≤ x.st ∧ x.st ≤ 6) ∧ x.hd ≤ 281474976710655 ∧ (0 ≤ x.lv ∧ x.lv ≤ 256)
  o : ∀ o ∈ s.os, (2 ≤ o.id ∧ o.id ≤ 1048575) ∧ hdOk o = true ∧ o.ch.length ≤ 65536 ∧ chL (-1) o.ch = true
theorem may_can {s : St} (h : mayS s = true) : Can s := by
  simp only [mayS, Bool.and_eq_true, decide_eq_true_eq] at h
  obtain ⟨⟨h1, h2, h3, h4, h5⟩, h6, h7⟩ := h
  have h4 := rg_iff.1 h4
  have h5 := rg_iff.1 h5
  have h8 := obL_cap s.os 1 (by omega) h7
  refine ⟨h1, h2, by omega, by omega, h3, by omega, fun x hx => ?_, obL_get (by omega) h7⟩
  have h9 := List.all_eq_true.1 h6 x hx
  simp only [blkOk, Bool.and_eq_true, decide_eq_true_eq] at h9
  exact ⟨rg_iff.1 h9.1, h9.2.1, rg_iff.1 h9.2.2⟩
theorem take_flat' {α : Type} (f : α → List Int) {l : List α} {k : Nat} {x : α} (hk : k < l.length) (hx : l[k] = x) : (l.take (k + 1)).flatMap f = (l.take k).flatMap f ++ f x := by
  rw [take_flat f hk, hx]
/-- What a packing ends in. -/
def PkV (s : St) (w : World) (e : Ending) (w' : World) : Prop := (if mayS s then (∃ v, e = .returned (.tuple #[v, .int .i64 0]) ∧ w'.ownsRow w.heap.size 5 1 v (packS s).length ((packS s).map (Value.int .u8)) ∧ Byt (packS s)) else e = .returned (.tuple #[.slice none 0 0, .int .i64 140])) ∧ Below w.heap.size w w'

set_option maxHeartbeats 4000000 in
set_option maxRecDepth 100000 in
theorem spack_bad (s : St) (ba oa : Option Addr) (n m bc oc : Nat) (ls : List (Ob × Value)) (w : World) (hs : StOn w s ba oa n m ls) (hm : mayS s = false) : Calls Try.prog 12 #[.agg #[.int .u64 s.fl, .int .u64 s.nx, .int .i64 s.cu, .int .i64 s.la, .slice ba n bc, .slice oa m oc]] w (PkV s w) := by
  have hb := below_alloc w (.cells #[.int .u64 s.fl, .int .u64 s.nx, .int .i64 s.cu, .int .i64 s.la, .slice ba n bc, .slice oa m oc] 27)
  have HM := hide (may19 s ba oa n m bc oc ls _ (hs.below hb))
  rw [hm] at HM
  have HB := hide hb
  have HF := hide hm
  obtain ⟨fl, nx, cu, la, bs, os⟩ := s
  simp only at HM HB
  clear hb hs hm
  go_enter Try.func12, Try.ntmps12
  go_wp2_with (go_at_call 19; refine HM.out.mono ?_; rintro e u1 ⟨rfl, b1⟩; have HB1 := hide b1; clear b1)
  go_ret2
  refine ⟨?_, HB.out.trans (HB1.out.mono (by simp))⟩
  rw [HF.out]
  rfl

section
variable (fl nx cu la : Int) (bs : List Blk) (os : List Ob)
set_option maxHeartbeats 4000000 in
set_option maxRecDepth 100000 in
theorem spack_ok (ba oa : Option Addr) (n m bc oc : Nat) (ls : List (Ob × Value)) (w : World) (hs : StOn w ⟨fl, nx, cu, la, bs, os⟩ ba oa n m ls) (hm : mayS ⟨fl, nx, cu, la, bs, os⟩ = true) (hN : St.Nat ⟨fl, nx, cu, la, bs, os⟩) : Calls Try.prog 12 #[.agg #[.int .u64 fl, .int .u64 nx, .int .i64 cu, .int .i64 la, .slice ba n bc, .slice oa m oc]] w (PkV ⟨fl, nx, cu, la, bs, os⟩ w) := by
  have hb := below_alloc w (.cells #[.int .u64 fl, .int .u64 nx, .int .i64 cu, .int .i64 la, .slice ba n bc, .slice oa m oc] 27)
  have HM := hide (may19 _ ba oa n m bc oc ls _ (hs.below hb))
  rw [hm] at HM
  have hc := may_can hm
  have HF := hide hm
  have HB := hide hb
  have HC := hide hc
  have HNN := hide hN
  have HS := hide hs
  have hbn := ReadsL.len hs.b blk_len (by decide)
  have hon : os.length = m := by have h1 := ReadsO.len hs.o; have h2 := hs.os; simp only at h2; rw [← h2, List.length_map]; exact h1
  simp only at HM HB hbn
  have HBN := hide hbn
  have HON := hide hon
  have HX : Hid ((w.alloc (.cells #[.int .u64 fl, .int .u64 nx, .int .i64 cu, .int .i64 la, .slice ba n bc, .slice oa m oc] 27)).heap[w.heap.size]? = some (.cells #[.int .u64 fl, .int .u64 nx, .int .i64 cu, .int .i64 la, .slice ba n bc, .slice oa m oc] 27 (0, 0))) := heap_alloc_new w _
  clear hb hs hm hc hN hbn hon
  go_enter Try.func12, Try.ntmps12
  go_upto_region 4 with (go_at_call 19; refine HM.out.mono ?_; rintro e u1 ⟨rfl, b1⟩; have HB1 := hide (HB.out.trans (b1.mono (by simp))); have HX1 := hide ((b1.block w.heap.size (by simp)).trans HX.out); clear b1)
  obtain ⟨q, hq⟩ : ∃ q, u1.heap.size = q := ⟨_, rfl⟩
  have hbA := below_alloc u1 (.cells #[.slice none 0 0] 74)
  have hbD : Below w.heap.size w (u1.alloc (.cells #[.slice none 0 0] 74)).drew := (HB1.out.trans (hbA.mono HB1.out.size)).trans ((drewB _).mono (by have := HB1.out.size; simp; omega))
  have hx1 := (hbA.block w.heap.size (lt_of_block HX1.out)).trans HX1.out
  have HX0 : Hid ((u1.alloc (.cells #[.slice none 0 0] 74)).drew.heap[w.heap.size]? = some (.cells #[.int .u64 fl, .int .u64 nx, .int .i64 cu, .int .i64 la, .slice ba n bc, .slice oa m oc] 27 (0, 0))) := hx1
  have hS0 : (fun u => u.cell? ⟨w.heap.size, 0, none⟩ = some (.int .u64 fl) ∧ u.cell? ⟨w.heap.size, 1, none⟩ = some (.int .u64 nx) ∧ u.cell? ⟨w.heap.size, 2, none⟩ = some (.int .i64 cu) ∧ u.cell? ⟨w.heap.size, 3, none⟩ = some (.int .i64 la)) (u1.alloc (.cells #[.slice none 0 0] 74)) := ⟨blk_cell hx1 0 rfl, blk_cell hx1 1 rfl, blk_cell hx1 2 rfl, blk_cell hx1 3 rfl⟩
  have HWA : Hid (WrA (u1.alloc (.cells #[.slice none 0 0] 74)).drew w.heap.size q [] []) := by
    refine ⟨.slice none 0 0, ?_, ⟨rfl, .inl ⟨rfl, rfl⟩⟩, by have := HB1.out.size; omega, fun x hx => (by cases hx), fun k hk => (by cases hk)⟩
    subst hq
    exact heap_alloc_new u1 _
  have HK0 : Hid (Kw w.heap.size [] w (u1.alloc (.cells #[.slice none 0 0] 74)).drew) := Kw.of_below (Nat.le_refl _) hbD
  have hfl := HC.out.fl
  have hnx := HC.out.nx
  have hcu := HC.out.cu
  have hla := HC.out.la
  have hfl0 := HNN.out.fl
  have hnx0 := HNN.out.nx
  simp only at hfl hnx hcu hla hfl0 hnx0
  have e4 : (256 : Int) ^ 4 = 4294967296 := by decide
  have e8 : (256 : Int) ^ 8 = 18446744073709551616 := by decide
  obtain ⟨cu1, hcu1⟩ : ∃ cu1, cu + 1 = cu1 := ⟨_, rfl⟩
  obtain ⟨la1, hla1⟩ : ∃ la1, la + 1 = la1 := ⟨_, rfl⟩
  have ecu : IntKind.i64.wrap (cu + 1) = cu1 := by rw [IntKind.wrap_i64]; omega
  have ela : IntKind.i64.wrap (la + 1) = la1 := by rw [IntKind.wrap_i64]; omega
  have HA1 := hide (wnum_any w.heap.size q [] [] 8 fl _ HWA.out (by simp) (by omega) (by omega) hfl0 (by omega))
  have HA2 := hide (fun u (h : WrA u w.heap.size q ([] ++ dg fl 8) []) => wnum_any w.heap.size q _ [] 8 nx u h (by simp only [List.length_append, dg_length, List.length_nil]; omega) (by omega) (by omega) hnx0 (by omega))
  have HA3 := hide (fun u (h : WrA u w.heap.size q ([] ++ dg fl 8 ++ dg nx 8) []) => wwhole_any w.heap.size q _ [] 4 cu1 u h (by simp only [List.length_append, dg_length, List.length_nil]; omega) (by omega) (by omega) (by omega) (by omega))
  have HA4 := hide (fun u (h : WrA u w.heap.size q ([] ++ dg fl 8 ++ dg nx 8 ++ dg cu1 4) []) => wwhole_any w.heap.size q _ [] 4 la1 u h (by simp only [List.length_append, dg_length, List.length_nil]; omega) (by omega) (by omega) (by omega) (by omega))
  have HCU := hide hcu1
  have HLA := hide hla1
  clear hbA hbD hx1 hfl hnx hcu hla hfl0 hnx0 e4 e8 hcu1 hla1
  simp only [hq]
  have HQ := hide hq
  clear hq
  refine wp_region_held_drew (S := (fun u => u.cell? ⟨w.heap.size, 0, none⟩ = some (.int .u64 fl) ∧ u.cell? ⟨w.heap.size, 1, none⟩ = some (.int .u64 nx) ∧ u.cell? ⟨w.heap.size, 2, none⟩ = some (.int .i64 cu) ∧ u.cell? ⟨w.heap.size, 3, none⟩ = some (.int .i64 la))) (by kernel_rfl) (hS0) (fun hHeld => ?_)
  refine tk 0 ?_
  refine tk 1 ?_
  refine tk 2 ?_
  refine tk 4 ?_
  refine tk 5 ?_
  refine tk 7 ?_
  refine tk 8 ?_
  refine tk 9 ?_
  refine tk 11 ?_
  refine tk 12 ?_
  refine tk 13 ?_
  refine rd 3 (fun K hK => ?_)
  go_simp
  go_at_call 25
  refine (HA1.out).mono ?_
  rintro e y1 ⟨rfl, hw1, hk1⟩
  have hx := hk1.oth w.heap.size _ 27 HX0.out (by decide) (by decide)
  have HX1 := hide hx
  have HW1 := hide hw1
  have HK1 := hide (HK0.out.trans hk1)
  have hSnew : (fun u => u.cell? ⟨w.heap.size, 0, none⟩ = some (.int .u64 fl) ∧ u.cell? ⟨w.heap.size, 1, none⟩ = some (.int .u64 nx) ∧ u.cell? ⟨w.heap.size, 2, none⟩ = some (.int .i64 cu) ∧ u.cell? ⟨w.heap.size, 3, none⟩ = some (.int .i64 la)) y1 := ⟨blk_cell hx 0 rfl, blk_cell hx 1 rfl, blk_cell hx 2 rfl, blk_cell hx 3 rfl⟩
  clear hx hw1 hk1
  go_wp2_with fail
  refine hK.out _ _ hSnew (fun hHeldN => ?_)
  clear hK K hSnew
  clear hHeld
  have hHeld := hHeldN
  clear hHeldN
  try simp only [Act.put, List.setIfInBounds_toArray, List.set_cons_zero, List.set_cons_succ]
  refine rd 6 (fun K hK => ?_)
  go_simp
  go_at_call 25
  refine (HA2.out _ HW1.out).mono ?_
  rintro e y2 ⟨rfl, hw1, hk1⟩
  have hx := hk1.oth w.heap.size _ 27 HX1.out (by decide) (by decide)
  have HX2 := hide hx
  have HW2 := hide hw1
  have HK2 := hide (HK1.out.trans hk1)
  have hSnew : (fun u => u.cell? ⟨w.heap.size, 0, none⟩ = some (.int .u64 fl) ∧ u.cell? ⟨w.heap.size, 1, none⟩ = some (.int .u64 nx) ∧ u.cell? ⟨w.heap.size, 2, none⟩ = some (.int .i64 cu) ∧ u.cell? ⟨w.heap.size, 3, none⟩ = some (.int .i64 la)) y2 := ⟨blk_cell hx 0 rfl, blk_cell hx 1 rfl, blk_cell hx 2 rfl, blk_cell hx 3 rfl⟩
  clear hx hw1 hk1
  go_wp2_with fail
  refine hK.out _ _ hSnew (fun hHeldN => ?_)
  clear hK K hSnew
  clear hHeld
  have hHeld := hHeldN
  clear hHeldN
  try simp only [Act.put, List.setIfInBounds_toArray, List.set_cons_zero, List.set_cons_succ]
  refine rd 10 (fun K hK => ?_)
  go_simp
  go_at_call 26
  refine (HA3.out _ HW2.out).mono ?_
  rintro e y3 ⟨rfl, hw1, hk1⟩
  have hx := hk1.oth w.heap.size _ 27 HX2.out (by decide) (by decide)
  have HX3 := hide hx
  have HW3 := hide hw1
  have HK3 := hide (HK2.out.trans hk1)
  have hSnew : (fun u => u.cell? ⟨w.heap.size, 0, none⟩ = some (.int .u64 fl) ∧ u.cell? ⟨w.heap.size, 1, none⟩ = some (.int .u64 nx) ∧ u.cell? ⟨w.heap.size, 2, none⟩ = some (.int .i64 cu) ∧ u.cell? ⟨w.heap.size, 3, none⟩ = some (.int .i64 la)) y3 := ⟨blk_cell hx 0 rfl, blk_cell hx 1 rfl, blk_cell hx 2 rfl, blk_cell hx 3 rfl⟩
  clear hx hw1 hk1
  go_wp2_with fail
  refine hK.out _ _ hSnew (fun hHeldN => ?_)
  clear hK K hSnew
  clear hHeld
  have hHeld := hHeldN
  clear hHeldN
  try simp only [Act.put, List.setIfInBounds_toArray, List.set_cons_zero, List.set_cons_succ]
  refine rd 14 (fun K hK => ?_)
  go_simp
  go_at_call 26
  refine (HA4.out _ HW3.out).mono ?_
  rintro e y4 ⟨rfl, hw1, hk1⟩
  have hx := hk1.oth w.heap.size _ 27 HX3.out (by decide) (by decide)
  have HX4 := hide hx
  have HW4 := hide hw1
  have HK4 := hide (HK3.out.trans hk1)
  have hSnew : (fun u => u.cell? ⟨w.heap.size, 0, none⟩ = some (.int .u64 fl) ∧ u.cell? ⟨w.heap.size, 1, none⟩ = some (.int .u64 nx) ∧ u.cell? ⟨w.heap.size, 2, none⟩ = some (.int .i64 cu) ∧ u.cell? ⟨w.heap.size, 3, none⟩ = some (.int .i64 la)) y4 := ⟨blk_cell hx 0 rfl, blk_cell hx 1 rfl, blk_cell hx 2 rfl, blk_cell hx 3 rfl⟩
  clear hx hw1 hk1
  go_wp2_with fail
  refine hK.out _ _ hSnew (fun hHeldN => ?_)
  clear hK K hSnew
  clear hHeld
  have hHeld := hHeldN
  clear hHeldN
  try simp only [Act.put, List.setIfInBounds_toArray, List.set_cons_zero, List.set_cons_succ]
  refine wpAnyH_done (by kernel_rfl) ?_ _
  clear hHeld
  obtain ⟨P4, hP4⟩ : ∃ P4, [] ++ dg fl 8 ++ dg nx 8 ++ dg cu1 4 ++ dg la1 4 = P4 := ⟨_, rfl⟩
  have hl4 : P4.length = 24 := by rw [← hP4]; simp only [List.length_append, dg_length, List.length_nil]
  have hw4 := HW4.out
  rw [hP4] at hw4
  have hn4 := HC.out.bn
  have hm4 := HC.out.on_
  simp only at hn4 hm4
  rw [HBN.out] at hn4
  rw [HON.out] at hm4
  have e4 : (256 : Int) ^ 4 = 4294967296 := by decide
  have HA5 := hide (wwhole_any w.heap.size q P4 [] 4 n y4 hw4 (by omega) (by omega) (by omega) (by omega) (by omega))
  have HP4 := hide hP4
  have HL4 := hide hl4
  have c4 : y4.cell? ⟨w.heap.size, 4, none⟩ = some (.slice ba n bc) := blk_cell HX4.out 4 rfl
  clear hP4 hl4 hw4 e4
  go_wp2_with (go_at_call 26; refine HA5.out.mono ?_; rintro e z1 ⟨rfl, hw1, hk1⟩; have hx := hk1.oth w.heap.size _ 27 HX4.out (by decide) (by decide); have HX5 := hide hx; have HW5 := hide hw1; have HK5 := hide (HK4.out.trans hk1); have c4z : z1.cell? ⟨w.heap.size, 4, none⟩ = some (.slice ba n bc) := blk_cell hx 4 rfl; clear hx hw1 hk1 c4)
  obtain ⟨P5, hP5⟩ : ∃ P5, P4 ++ dg (n : Int) 4 = P5 := ⟨_, rfl⟩
  have hl5 : P5.length = 28 := by rw [← hP5, List.length_append, dg_length, HL4.out]
  have hw5 := HW5.out
  rw [hP5] at hw5
  obtain ⟨lay, hlay⟩ : ∃ lay : Nat → List Int, ∀ k, lay k = P5 ++ (bs.take k).flatMap blkW := ⟨_, fun _ => rfl⟩
  have hll : ∀ k, k ≤ n → (lay k).length ≤ 50000 := fun k hk => by
    rw [hlay, List.length_append, flatW_len blkW_len, List.length_take]
    omega
  have HLL := hide hll
  have HLAY := hide hlay
  have HP5 := hide hP5
  have HL5 := hide hl5
  have HWs := hide hw5
  have HN4 := hide hn4
  have HM4 := hide hm4
  clear hP5 hl5 hw5 hll hlay c4z hn4 hm4
  clear ecu ela
  go_loopw [37] (fun s37 wr => ∃ (k : Nat), k ≤ n ∧ s37 = .int .i64 k ∧ Hid (WrA wr w.heap.size q (lay k) []) ∧ Hid (Kw w.heap.size [] w wr) ∧ Hid (wr.heap[w.heap.size]? = some (.cells #[.int .u64 fl, .int .u64 nx, .int .i64 cu, .int .i64 la, .slice ba n bc, .slice oa m oc] 27 (0, 0))))
    (fun s37 _ => n - (intOf s37).toNat)
  case atStart => exact ⟨0, Nat.zero_le _, rfl, (by have := HWs.out; show WrA _ _ _ _ _; rw [HLAY.out]; simpa using this), HK5, HX5⟩
  case round =>
    obtain ⟨k, hk, rfl, HWr, HKr, HXr⟩ := hrel
    have hn4 := HN4.out
    by_cases hlt : k < n
    · have hkl : k < bs.length := by rw [HBN.out]; exact hlt
      obtain ⟨b, off, rfl, hbs, hc⟩ := ReadsK.cells (ReadsL.below HS.out.b HKr.out.bel) (by omega)
      obtain ⟨c0, c1, c2, c3⟩ := hc k hkl
      have hck := HC.out.b bs[k] (List.getElem_mem hkl)
      have hcn := HNN.out.hd bs[k] (List.getElem_mem hkl)
      have hfl := take_flat blkW hkl
      have hnx := HLAY.out (k + 1)
      obtain ⟨⟨x0, x1, x2, x3⟩, hX⟩ : ∃ X, bs[k] = X := ⟨_, rfl⟩
      rw [hX] at c0 c1 c2 c3 hck hcn hfl
      simp only at c0 c1 c2 c3 hck hcn
      obtain ⟨⟨hs0, hs1⟩, hd1, hv0, hv1⟩ := hck
      rw [hfl, ← List.append_assoc, ← HLAY.out k] at hnx
      obtain ⟨LK, hLK⟩ : ∃ LK, lay k = LK := ⟨_, rfl⟩
      have hlk := HLL.out k hk
      rw [hLK] at hnx hlk HWr
      have d1 : (k : Int) < n := by omega
      have e1 : (256 : Int) ^ 1 = 256 := by decide
      have e2 : (256 : Int) ^ 2 = 65536 := by decide
      have e6 : (256 : Int) ^ 6 = 281474976710656 := by decide
      have hb := below_alloc wr (.cells #[.int .i64 x0, .int .u64 x1, .bool x2, .int .i64 x3] 48)
      have hbd : Below wr.heap.size wr (wr.alloc (.cells #[.int .i64 x0, .int .u64 x1, .bool x2, .int .i64 x3] 48)).drew := hb.trans ((drewB _).mono (by simp))
      have HJ0 := hide (HKr.out.trans (Kw.of_below HWr.out.size hbd))
      have HY0 : Hid ((wr.alloc (.cells #[.int .i64 x0, .int .u64 x1, .bool x2, .int .i64 x3] 48)).drew.heap[wr.heap.size]? = some (.cells #[.int .i64 x0, .int .u64 x1, .bool x2, .int .i64 x3] 48 (0, 0))) := heap_alloc_new wr _
      have HD1 := hide (wwhole_any w.heap.size q LK [] 1 x0 (wr.alloc (.cells #[.int .i64 x0, .int .u64 x1, .bool x2, .int .i64 x3] 48)).drew (HWr.out.below hbd) (by omega) (by omega) (by omega) hs0 (by omega))
      have HD2 := hide (fun u (h : WrA u w.heap.size q (LK ++ dg x0 1) []) => wnum_any w.heap.size q _ [] 6 x1 u h (by simp only [List.length_append, dg_length]; omega) (by omega) (by omega) hcn (by omega))
      have HD3 := hide (fun u (h : WrA u w.heap.size q (LK ++ dg x0 1 ++ dg x1 6) []) => wflag_any w.heap.size q _ [] x2 u h (by simp only [List.length_append, dg_length]; omega))
      have HD4 := hide (fun u (h : WrA u w.heap.size q (LK ++ dg x0 1 ++ dg x1 6 ++ dg (if x2 then 1 else 0) 1) []) => wwhole_any w.heap.size q _ [] 2 x3 u h (by simp only [List.length_append, dg_length]; omega) (by omega) (by omega) hv0 (by omega))
      have HNX := hide hnx
      have hS9 : (fun u => u.cell? ⟨wr.heap.size, 0, none⟩ = some (.int .i64 x0) ∧ u.cell? ⟨wr.heap.size, 1, none⟩ = some (.int .u64 x1) ∧ u.cell? ⟨wr.heap.size, 2, none⟩ = some (.bool x2) ∧ u.cell? ⟨wr.heap.size, 3, none⟩ = some (.int .i64 x3)) (wr.alloc (.cells #[.int .i64 x0, .int .u64 x1, .bool x2, .int .i64 x3] 48)) := ⟨blk_cell HY0.out 0 rfl, blk_cell HY0.out 1 rfl, blk_cell HY0.out 2 rfl, blk_cell HY0.out 3 rfl⟩
      have HXn := hide (hbd.block _ (lt_of_block HXr.out) |>.trans HXr.out)
      clear hb hbd hfl hnx hX hc hkl hlk hs0 hs1 hd1 hv0 hv1 hcn HWr hLK e1 e2 e6
      go_upto_region 9 with fail
      refine wp_region_held_drew (S := (fun u => u.cell? ⟨wr.heap.size, 0, none⟩ = some (.int .i64 x0) ∧ u.cell? ⟨wr.heap.size, 1, none⟩ = some (.int .u64 x1) ∧ u.cell? ⟨wr.heap.size, 2, none⟩ = some (.bool x2) ∧ u.cell? ⟨wr.heap.size, 3, none⟩ = some (.int .i64 x3))) (by kernel_rfl) (hS9) (fun hHeld => ?_)
      refine tk 0 ?_
      refine tk 1 ?_
      refine tk 2 ?_
      refine tk 4 ?_
      refine tk 5 ?_
      refine tk 7 ?_
      refine tk 8 ?_
      refine tk 10 ?_
      refine tk 11 ?_
      refine rd 3 (fun K hK => ?_)
      go_simp
      go_at_call 26
      refine (HD1.out).mono ?_
      rintro e v1 ⟨rfl, hw1, hk1⟩
      have hx := hk1.oth wr.heap.size _ 48 HY0.out (by decide) (by decide)
      have HY1 := hide hx
      have HZ1 := hide hw1
      have HXn := hide (hk1.oth w.heap.size _ 27 HXn.out (by decide) (by decide)); have HJ1 := hide (HJ0.out.trans hk1)
      have hSnew : (fun u => u.cell? ⟨wr.heap.size, 0, none⟩ = some (.int .i64 x0) ∧ u.cell? ⟨wr.heap.size, 1, none⟩ = some (.int .u64 x1) ∧ u.cell? ⟨wr.heap.size, 2, none⟩ = some (.bool x2) ∧ u.cell? ⟨wr.heap.size, 3, none⟩ = some (.int .i64 x3)) v1 := ⟨blk_cell hx 0 rfl, blk_cell hx 1 rfl, blk_cell hx 2 rfl, blk_cell hx 3 rfl⟩
      clear hx hw1 hk1
      go_wp2_with fail
      refine hK.out _ _ hSnew (fun hHeldN => ?_)
      clear hK K hSnew
      clear hHeld
      have hHeld := hHeldN
      clear hHeldN
      try simp only [Act.put, List.setIfInBounds_toArray, List.set_cons_zero, List.set_cons_succ]
      refine rd 6 (fun K hK => ?_)
      go_simp
      go_at_call 25
      refine (HD2.out _ HZ1.out).mono ?_
      rintro e v2 ⟨rfl, hw1, hk1⟩
      have hx := hk1.oth wr.heap.size _ 48 HY1.out (by decide) (by decide)
      have HY2 := hide hx
      have HZ2 := hide hw1
      have HXn := hide (hk1.oth w.heap.size _ 27 HXn.out (by decide) (by decide)); have HJ2 := hide (HJ1.out.trans hk1)
      have hSnew : (fun u => u.cell? ⟨wr.heap.size, 0, none⟩ = some (.int .i64 x0) ∧ u.cell? ⟨wr.heap.size, 1, none⟩ = some (.int .u64 x1) ∧ u.cell? ⟨wr.heap.size, 2, none⟩ = some (.bool x2) ∧ u.cell? ⟨wr.heap.size, 3, none⟩ = some (.int .i64 x3)) v2 := ⟨blk_cell hx 0 rfl, blk_cell hx 1 rfl, blk_cell hx 2 rfl, blk_cell hx 3 rfl⟩
      clear hx hw1 hk1
      go_wp2_with fail
      refine hK.out _ _ hSnew (fun hHeldN => ?_)
      clear hK K hSnew
      clear hHeld
      have hHeld := hHeldN
      clear hHeldN
      try simp only [Act.put, List.setIfInBounds_toArray, List.set_cons_zero, List.set_cons_succ]
      refine rd 9 (fun K hK => ?_)
      go_simp
      go_at_call 27
      refine (HD3.out _ HZ2.out).mono ?_
      rintro e v3 ⟨rfl, hw1, hk1⟩
      have hx := hk1.oth wr.heap.size _ 48 HY2.out (by decide) (by decide)
      have HY3 := hide hx
      have HZ3 := hide hw1
      have HXn := hide (hk1.oth w.heap.size _ 27 HXn.out (by decide) (by decide)); have HJ3 := hide (HJ2.out.trans hk1)
      have hSnew : (fun u => u.cell? ⟨wr.heap.size, 0, none⟩ = some (.int .i64 x0) ∧ u.cell? ⟨wr.heap.size, 1, none⟩ = some (.int .u64 x1) ∧ u.cell? ⟨wr.heap.size, 2, none⟩ = some (.bool x2) ∧ u.cell? ⟨wr.heap.size, 3, none⟩ = some (.int .i64 x3)) v3 := ⟨blk_cell hx 0 rfl, blk_cell hx 1 rfl, blk_cell hx 2 rfl, blk_cell hx 3 rfl⟩
      clear hx hw1 hk1
      go_wp2_with fail
      refine hK.out _ _ hSnew (fun hHeldN => ?_)
      clear hK K hSnew
      clear hHeld
      have hHeld := hHeldN
      clear hHeldN
      try simp only [Act.put, List.setIfInBounds_toArray, List.set_cons_zero, List.set_cons_succ]
      refine rd 12 (fun K hK => ?_)
      go_simp
      go_at_call 26
      refine (HD4.out _ HZ3.out).mono ?_
      rintro e v4 ⟨rfl, hw1, hk1⟩
      have hx := hk1.oth wr.heap.size _ 48 HY3.out (by decide) (by decide)
      have HY4 := hide hx
      have HZ4 := hide hw1
      have HXn := hide (hk1.oth w.heap.size _ 27 HXn.out (by decide) (by decide)); have HJ4 := hide (HJ3.out.trans hk1)
      have hSnew : (fun u => u.cell? ⟨wr.heap.size, 0, none⟩ = some (.int .i64 x0) ∧ u.cell? ⟨wr.heap.size, 1, none⟩ = some (.int .u64 x1) ∧ u.cell? ⟨wr.heap.size, 2, none⟩ = some (.bool x2) ∧ u.cell? ⟨wr.heap.size, 3, none⟩ = some (.int .i64 x3)) v4 := ⟨blk_cell hx 0 rfl, blk_cell hx 1 rfl, blk_cell hx 2 rfl, blk_cell hx 3 rfl⟩
      clear hx hw1 hk1
      go_wp2_with fail
      refine hK.out _ _ hSnew (fun hHeldN => ?_)
      clear hK K hSnew
      clear hHeld
      have hHeld := hHeldN
      clear hHeldN
      try simp only [Act.put, List.setIfInBounds_toArray, List.set_cons_zero, List.set_cons_succ]
      refine wpAnyH_done (by kernel_rfl) ?_ _
      clear hHeld
      go_wp2
      go_roundw
      case rel => exact ⟨k + 1, by omega, by go_num, (by have h := HZ4.out; show WrA _ _ _ _ _; rw [HNX.out]; simp only [List.append_assoc] at h; exact h), HJ4, HXn⟩
      case measure => simp [intOf]; omega
    · have hkn : k = n := by omega
      subst hkn
      have hz := HWr.out
      rw [HLAY.out, List.take_of_length_le (by rw [HBN.out]; exact Nat.le_refl _)] at hz
      have hl6 := HLL.out k (Nat.le_refl _)
      rw [HLAY.out, List.take_of_length_le (by rw [HBN.out]; exact Nat.le_refl _)] at hl6
      obtain ⟨P6, hP6⟩ : ∃ P6, P5 ++ bs.flatMap blkW = P6 := ⟨_, rfl⟩
      rw [hP6] at hz hl6
      have hm4 := HM4.out
      have e4 : (256 : Int) ^ 4 = 4294967296 := by decide
      have HA7 := hide (wwhole_any w.heap.size q P6 [] 4 m wr hz (by omega) (by omega) (by omega) (by omega) (by omega))
      have HP6 := hide hP6
      have HL6 := hide hl6
      have c5 : wr.cell? ⟨w.heap.size, 5, none⟩ = some (.slice oa m oc) := blk_cell HXr.out 5 rfl
      clear hP6 hl6 hz e4 HA5 hn4 hm4
      go_wp2_with (go_at_call 26; refine HA7.out.mono ?_; rintro e z2 ⟨rfl, hw1, hk1⟩; have hx := hk1.oth w.heap.size _ 27 HXr.out (by decide) (by decide); have HX7 := hide hx; have HW7 := hide hw1; have HK7 := hide (HKr.out.trans hk1); have c5z : z2.cell? ⟨w.heap.size, 5, none⟩ = some (.slice oa m oc) := blk_cell hx 5 rfl; clear hx hw1 hk1 c5)
      obtain ⟨P7, hP7⟩ : ∃ P7, P6 ++ dg (m : Int) 4 = P7 := ⟨_, rfl⟩
      have hl7 : P7.length ≤ 50004 := by rw [← hP7, List.length_append, dg_length]; have := HL6.out; omega
      have hw7 := HW7.out
      rw [hP7] at hw7
      obtain ⟨loy, hloy⟩ : ∃ loy : Nat → List Int, ∀ k, loy k = P7 ++ (os.take k).flatMap obW := ⟨_, fun _ => rfl⟩
      have hoo : ∀ k, k ≤ m → (loy k).length ≤ 60000000000000 := fun k hk => by
        have h1 := flatO_len (l := os.take k) (fun o ho => by
          have := HC.out.o o (List.mem_of_mem_take ho)
          exact ⟨this.2.1, this.2.2.1⟩)
        have h2 : (os.take k).length ≤ 1048575 := by rw [List.length_take]; have := HM4.out; omega
        have h3 : (os.take k).length * 700000 ≤ 1048575 * 700000 := Nat.mul_le_mul_right _ h2
        rw [hloy, List.length_append]
        omega
      have HOO := hide hoo
      have HLOY := hide hloy
      have HP7 := hide hP7
      have HW7s := hide hw7
      clear hP7 hl7 hw7 hloy hoo c5z hlt hk HWr HKr HXr
      go_loopw [63] (fun s63 wr => ∃ (k : Nat), k ≤ m ∧ s63 = .int .i64 k ∧ Hid (WrA wr w.heap.size q (loy k) []) ∧ Hid (Kw w.heap.size [] w wr))
        (fun s63 _ => m - (intOf s63).toNat)
      case atStart => exact ⟨0, Nat.zero_le _, rfl, (by have := HW7s.out; show WrA _ _ _ _ _; rw [HLOY.out]; simpa using this), HK7⟩
      case round =>
        obtain ⟨k, hk, rfl, HWr, HKr⟩ := hrel
        have hm4 := HM4.out
        by_cases hlt : k < m
        · have hkl : k < ls.length := by rw [HS.out.o.len]; exact hlt
          have hko : k < os.length := by rw [HON.out]; exact hlt
          have hos : os[k] = ls[k].1 := by
            have h1 := HS.out.os
            simp only at h1
            subst h1
            rw [List.getElem_map]
          obtain ⟨b, off, rfl, hbs, hc⟩ := ReadsO.cells (ReadsL.below HS.out.o HKr.out.bel) (by omega)
          have hcc := hc k hkl
          have hck := HC.out.o os[k] (List.getElem_mem hko)
          have hst := HNN.out.st os[k] (List.getElem_mem hko)
          have hfl := take_flat obW hko
          have hnx := HLOY.out (k + 1)
          obtain ⟨va, vc, hv, hcr, hcl⟩ := HS.out.c ls[k] (List.getElem_mem hkl)
          rw [hos] at hck hst hfl
          obtain ⟨⟨⟨id, hd0, ⟨xk, xp, xN, xz, xm, xs, xh, xT⟩, ⟨p1, p2⟩, ch⟩, vv⟩, hX⟩ : ∃ X, ls[k] = X := ⟨_, rfl⟩
          rw [hX] at hcc hck hst hfl hv hcr hcl
          simp only at hcc hv hcr hcl hck hst hfl
          subst hv
          obtain ⟨vn, hvn⟩ : ∃ vn, ch.length = vn := ⟨_, rfl⟩
          rw [hvn] at hcc hcl hcr hck
          obtain ⟨⟨hi0, hi1⟩, hok, hvl, hch⟩ := hck
          rw [hfl, ← List.append_assoc, ← HLOY.out k] at hnx
          obtain ⟨LK, hLK⟩ : ∃ LK, loy k = LK := ⟨_, rfl⟩
          have hlk := HOO.out k hk
          rw [hLK] at hnx hlk HWr
          obtain ⟨O, hO⟩ : ∃ O : Ob, O = ⟨id, hd0, ⟨xk, xp, xN, xz, xm, xs, xh, xT⟩, (p1, p2), ch⟩ := ⟨_, rfl⟩
          have hhl := hdW_len _ hok
          have hOW : obW ⟨id, hd0, ⟨xk, xp, xN, xz, xm, xs, xh, xT⟩, (p1, p2), ch⟩ = dg id 4 ++ (hdW ⟨id, hd0, ⟨xk, xp, xN, xz, xm, xs, xh, xT⟩, (p1, p2), ch⟩ ++ chsW ch) := rfl
          rw [hOW] at hnx
          have hHD : ∀ u, WrA u w.heap.size q (LK ++ dg id 4) [] → Calls Try.prog 28 #[.pointer (some ⟨q, 0, none⟩), .agg #[.int .i64 id, .bool hd0, .int .i64 xk, .int .i64 xp, .string xN, .int .i64 xz, .int .i64 xm, .int .u64 xs, .int .i64 xh, .string xT, .int .i64 p1, .int .i64 p2, .slice va vn vc]] u (WV u w.heap.size q (LK ++ dg id 4 ++ hdW ⟨id, hd0, ⟨xk, xp, xN, xz, xm, xs, xh, xT⟩, (p1, p2), ch⟩) []) := fun u h => wheader_any w.heap.size q _ ⟨id, hd0, ⟨xk, xp, xN, xz, xm, xs, xh, xT⟩, (p1, p2), ch⟩ va vn vc u h (by simp only [List.length_append, dg_length]; omega) hok hst.1 hst.2
          obtain ⟨H, hH⟩ : ∃ H, hdW ⟨id, hd0, ⟨xk, xp, xN, xz, xm, xs, xh, xT⟩, (p1, p2), ch⟩ = H := ⟨_, rfl⟩
          rw [hH] at hHD hnx hhl
          have d1 : (k : Int) < m := by omega
          have e4 : (256 : Int) ^ 4 = 4294967296 := by decide
          have hb := below_alloc wr (.cells #[.int .i64 id, .bool hd0, .int .i64 xk, .int .i64 xp, .string xN, .int .i64 xz, .int .i64 xm, .int .u64 xs, .int .i64 xh, .string xT, .int .i64 p1, .int .i64 p2, .slice va vn vc] 55)
          have hbd : Below wr.heap.size wr (wr.alloc (.cells #[.int .i64 id, .bool hd0, .int .i64 xk, .int .i64 xp, .string xN, .int .i64 xz, .int .i64 xm, .int .u64 xs, .int .i64 xh, .string xT, .int .i64 p1, .int .i64 p2, .slice va vn vc] 55)).drew := hb.trans ((drewB _).mono (by simp))
          have HJ0 := hide (HKr.out.trans (Kw.of_below HWr.out.size hbd))
          have HY0 : Hid ((wr.alloc (.cells #[.int .i64 id, .bool hd0, .int .i64 xk, .int .i64 xp, .string xN, .int .i64 xz, .int .i64 xm, .int .u64 xs, .int .i64 xh, .string xT, .int .i64 p1, .int .i64 p2, .slice va vn vc] 55)).drew.heap[wr.heap.size]? = some (.cells #[.int .i64 id, .bool hd0, .int .i64 xk, .int .i64 xp, .string xN, .int .i64 xz, .int .i64 xm, .int .u64 xs, .int .i64 xh, .string xT, .int .i64 p1, .int .i64 p2, .slice va vn vc] 55 (0, 0))) := heap_alloc_new wr _
          have HD1 := hide (wwhole_any w.heap.size q LK [] 4 id (wr.alloc (.cells #[.int .i64 id, .bool hd0, .int .i64 xk, .int .i64 xp, .string xN, .int .i64 xz, .int .i64 xm, .int .u64 xs, .int .i64 xh, .string xT, .int .i64 p1, .int .i64 p2, .slice va vn vc] 55)).drew (HWr.out.below hbd) (by omega) (by omega) (by omega) (by omega) (by omega))
          have HD2 := hide hHD
          have HD3 := hide (fun u (h : WrA u w.heap.size q (LK ++ dg id 4 ++ H) []) (hk : Kw w.heap.size [] w u) => wchunks_any w.heap.size q _ ch va vn vc w u h (by simp only [List.length_append, dg_length]; omega) rfl hk.bel hcr hvl hch)
          have HNX := hide hnx
          have g0 : wr.cell? ⟨b, off + k * 13, none⟩ = some (.int .i64 id) := hcc 0 _ rfl
          have g1 : wr.cell? ⟨b, off + k * 13 + 1, none⟩ = some (.bool hd0) := hcc 1 _ rfl
          have g2 : wr.cell? ⟨b, off + k * 13 + 2, none⟩ = some (.int .i64 xk) := hcc 2 _ rfl
          have g3 : wr.cell? ⟨b, off + k * 13 + 3, none⟩ = some (.int .i64 xp) := hcc 3 _ rfl
          have g4 : wr.cell? ⟨b, off + k * 13 + 4, none⟩ = some (.string xN) := hcc 4 _ rfl
          have g5 : wr.cell? ⟨b, off + k * 13 + 5, none⟩ = some (.int .i64 xz) := hcc 5 _ rfl
          have g6 : wr.cell? ⟨b, off + k * 13 + 6, none⟩ = some (.int .i64 xm) := hcc 6 _ rfl
          have g7 : wr.cell? ⟨b, off + k * 13 + 7, none⟩ = some (.int .u64 xs) := hcc 7 _ rfl
          have g8 : wr.cell? ⟨b, off + k * 13 + 8, none⟩ = some (.int .i64 xh) := hcc 8 _ rfl
          have g9 : wr.cell? ⟨b, off + k * 13 + 9, none⟩ = some (.string xT) := hcc 9 _ rfl
          have g10 : wr.cell? ⟨b, off + k * 13 + 10, none⟩ = some (.int .i64 p1) := hcc 10 _ rfl
          have g11 : wr.cell? ⟨b, off + k * 13 + 11, none⟩ = some (.int .i64 p2) := hcc 11 _ rfl
          have g12 : wr.cell? ⟨b, off + k * 13 + 12, none⟩ = some (.slice va vn vc) := hcc 12 _ rfl
          have hSo : (fun u => u.cell? ⟨wr.heap.size, 0, none⟩ = some (.int .i64 id) ∧ u.cell? ⟨wr.heap.size, 1, none⟩ = some (.bool hd0) ∧ u.cell? ⟨wr.heap.size, 2, none⟩ = some (.int .i64 xk) ∧ u.cell? ⟨wr.heap.size, 3, none⟩ = some (.int .i64 xp) ∧ u.cell? ⟨wr.heap.size, 4, none⟩ = some (.string xN) ∧ u.cell? ⟨wr.heap.size, 5, none⟩ = some (.int .i64 xz) ∧ u.cell? ⟨wr.heap.size, 6, none⟩ = some (.int .i64 xm) ∧ u.cell? ⟨wr.heap.size, 7, none⟩ = some (.int .u64 xs) ∧ u.cell? ⟨wr.heap.size, 8, none⟩ = some (.int .i64 xh) ∧ u.cell? ⟨wr.heap.size, 9, none⟩ = some (.string xT) ∧ u.cell? ⟨wr.heap.size, 10, none⟩ = some (.int .i64 p1) ∧ u.cell? ⟨wr.heap.size, 11, none⟩ = some (.int .i64 p2) ∧ u.cell? ⟨wr.heap.size, 12, none⟩ = some (.slice va vn vc)) (wr.alloc (.cells #[.int .i64 id, .bool hd0, .int .i64 xk, .int .i64 xp, .string xN, .int .i64 xz, .int .i64 xm, .int .u64 xs, .int .i64 xh, .string xT, .int .i64 p1, .int .i64 p2, .slice va vn vc] 55)) := ⟨blk_cell HY0.out 0 rfl, blk_cell HY0.out 1 rfl, blk_cell HY0.out 2 rfl, blk_cell HY0.out 3 rfl, blk_cell HY0.out 4 rfl, blk_cell HY0.out 5 rfl, blk_cell HY0.out 6 rfl, blk_cell HY0.out 7 rfl, blk_cell HY0.out 8 rfl, blk_cell HY0.out 9 rfl, blk_cell HY0.out 10 rfl, blk_cell HY0.out 11 rfl, blk_cell HY0.out 12 rfl⟩
          clear hb hbd hfl hnx hX hc hcc hkl hko hos hlk hst hcr hcl hvn hi0 hi1 hok hvl hch hOW hHD hH hhl hO O HWr hLK e4 hbs
          go_upto_region 15 with fail
          refine wp_region_held_drew (S := (fun u => u.cell? ⟨wr.heap.size, 0, none⟩ = some (.int .i64 id) ∧ u.cell? ⟨wr.heap.size, 1, none⟩ = some (.bool hd0) ∧ u.cell? ⟨wr.heap.size, 2, none⟩ = some (.int .i64 xk) ∧ u.cell? ⟨wr.heap.size, 3, none⟩ = some (.int .i64 xp) ∧ u.cell? ⟨wr.heap.size, 4, none⟩ = some (.string xN) ∧ u.cell? ⟨wr.heap.size, 5, none⟩ = some (.int .i64 xz) ∧ u.cell? ⟨wr.heap.size, 6, none⟩ = some (.int .i64 xm) ∧ u.cell? ⟨wr.heap.size, 7, none⟩ = some (.int .u64 xs) ∧ u.cell? ⟨wr.heap.size, 8, none⟩ = some (.int .i64 xh) ∧ u.cell? ⟨wr.heap.size, 9, none⟩ = some (.string xT) ∧ u.cell? ⟨wr.heap.size, 10, none⟩ = some (.int .i64 p1) ∧ u.cell? ⟨wr.heap.size, 11, none⟩ = some (.int .i64 p2) ∧ u.cell? ⟨wr.heap.size, 12, none⟩ = some (.slice va vn vc))) (by kernel_rfl) (by exact hSo) (fun hHeld => ?_)
          refine tk 0 ?_
          refine tk 1 ?_
          refine tk 2 ?_
          refine tk 4 ?_
          refine tk 6 ?_
          refine tk 7 ?_
          refine rd 3 (fun K hK => ?_)
          go_simp
          go_at_call 26
          refine (HD1.out).mono ?_
          rintro e v1 ⟨rfl, hw1, hk1⟩
          have hx := hk1.oth wr.heap.size _ 55 HY0.out (by decide) (by decide)
          have HY1 := hide hx
          have HZ1 := hide hw1
          have HJ1 := hide (HJ0.out.trans hk1)
          have hSnew : (fun u => u.cell? ⟨wr.heap.size, 0, none⟩ = some (.int .i64 id) ∧ u.cell? ⟨wr.heap.size, 1, none⟩ = some (.bool hd0) ∧ u.cell? ⟨wr.heap.size, 2, none⟩ = some (.int .i64 xk) ∧ u.cell? ⟨wr.heap.size, 3, none⟩ = some (.int .i64 xp) ∧ u.cell? ⟨wr.heap.size, 4, none⟩ = some (.string xN) ∧ u.cell? ⟨wr.heap.size, 5, none⟩ = some (.int .i64 xz) ∧ u.cell? ⟨wr.heap.size, 6, none⟩ = some (.int .i64 xm) ∧ u.cell? ⟨wr.heap.size, 7, none⟩ = some (.int .u64 xs) ∧ u.cell? ⟨wr.heap.size, 8, none⟩ = some (.int .i64 xh) ∧ u.cell? ⟨wr.heap.size, 9, none⟩ = some (.string xT) ∧ u.cell? ⟨wr.heap.size, 10, none⟩ = some (.int .i64 p1) ∧ u.cell? ⟨wr.heap.size, 11, none⟩ = some (.int .i64 p2) ∧ u.cell? ⟨wr.heap.size, 12, none⟩ = some (.slice va vn vc)) v1 := ⟨blk_cell hx 0 rfl, blk_cell hx 1 rfl, blk_cell hx 2 rfl, blk_cell hx 3 rfl, blk_cell hx 4 rfl, blk_cell hx 5 rfl, blk_cell hx 6 rfl, blk_cell hx 7 rfl, blk_cell hx 8 rfl, blk_cell hx 9 rfl, blk_cell hx 10 rfl, blk_cell hx 11 rfl, blk_cell hx 12 rfl⟩
          clear hx hw1 hk1
          go_wp2_with fail
          refine hK.out _ _ hSnew (fun hHeldN => ?_)
          clear hK K hSnew
          clear hHeld
          have hHeld := hHeldN
          clear hHeldN
          try simp only [Act.put, List.setIfInBounds_toArray, List.set_cons_zero, List.set_cons_succ]
          refine rd 5 (fun K hK => ?_)
          go_simp
          go_at_call 28
          refine (HD2.out _ HZ1.out).mono ?_
          rintro e v2 ⟨rfl, hw1, hk1⟩
          have hx := hk1.oth wr.heap.size _ 55 HY1.out (by decide) (by decide)
          have HY2 := hide hx
          have HZ2 := hide hw1
          have HJ2 := hide (HJ1.out.trans hk1)
          have hSnew : (fun u => u.cell? ⟨wr.heap.size, 0, none⟩ = some (.int .i64 id) ∧ u.cell? ⟨wr.heap.size, 1, none⟩ = some (.bool hd0) ∧ u.cell? ⟨wr.heap.size, 2, none⟩ = some (.int .i64 xk) ∧ u.cell? ⟨wr.heap.size, 3, none⟩ = some (.int .i64 xp) ∧ u.cell? ⟨wr.heap.size, 4, none⟩ = some (.string xN) ∧ u.cell? ⟨wr.heap.size, 5, none⟩ = some (.int .i64 xz) ∧ u.cell? ⟨wr.heap.size, 6, none⟩ = some (.int .i64 xm) ∧ u.cell? ⟨wr.heap.size, 7, none⟩ = some (.int .u64 xs) ∧ u.cell? ⟨wr.heap.size, 8, none⟩ = some (.int .i64 xh) ∧ u.cell? ⟨wr.heap.size, 9, none⟩ = some (.string xT) ∧ u.cell? ⟨wr.heap.size, 10, none⟩ = some (.int .i64 p1) ∧ u.cell? ⟨wr.heap.size, 11, none⟩ = some (.int .i64 p2) ∧ u.cell? ⟨wr.heap.size, 12, none⟩ = some (.slice va vn vc)) v2 := ⟨blk_cell hx 0 rfl, blk_cell hx 1 rfl, blk_cell hx 2 rfl, blk_cell hx 3 rfl, blk_cell hx 4 rfl, blk_cell hx 5 rfl, blk_cell hx 6 rfl, blk_cell hx 7 rfl, blk_cell hx 8 rfl, blk_cell hx 9 rfl, blk_cell hx 10 rfl, blk_cell hx 11 rfl, blk_cell hx 12 rfl⟩
          clear hx hw1 hk1
          go_wp2_with fail
          refine hK.out _ _ hSnew (fun hHeldN => ?_)
          clear hK K hSnew
          clear hHeld
          have hHeld := hHeldN
          clear hHeldN
          try simp only [Act.put, List.setIfInBounds_toArray, List.set_cons_zero, List.set_cons_succ]
          refine rd 8 (fun K hK => ?_)
          go_simp
          go_at_call 29
          refine (HD3.out _ HZ2.out HJ2.out).mono ?_
          rintro e v3 ⟨rfl, hw1, hk1⟩
          have hx := hk1.oth wr.heap.size _ 55 HY2.out (by decide) (by decide)
          have HY3 := hide hx
          have HZ3 := hide hw1
          have HJ3 := hide (HJ2.out.trans hk1)
          have hSnew : (fun u => u.cell? ⟨wr.heap.size, 0, none⟩ = some (.int .i64 id) ∧ u.cell? ⟨wr.heap.size, 1, none⟩ = some (.bool hd0) ∧ u.cell? ⟨wr.heap.size, 2, none⟩ = some (.int .i64 xk) ∧ u.cell? ⟨wr.heap.size, 3, none⟩ = some (.int .i64 xp) ∧ u.cell? ⟨wr.heap.size, 4, none⟩ = some (.string xN) ∧ u.cell? ⟨wr.heap.size, 5, none⟩ = some (.int .i64 xz) ∧ u.cell? ⟨wr.heap.size, 6, none⟩ = some (.int .i64 xm) ∧ u.cell? ⟨wr.heap.size, 7, none⟩ = some (.int .u64 xs) ∧ u.cell? ⟨wr.heap.size, 8, none⟩ = some (.int .i64 xh) ∧ u.cell? ⟨wr.heap.size, 9, none⟩ = some (.string xT) ∧ u.cell? ⟨wr.heap.size, 10, none⟩ = some (.int .i64 p1) ∧ u.cell? ⟨wr.heap.size, 11, none⟩ = some (.int .i64 p2) ∧ u.cell? ⟨wr.heap.size, 12, none⟩ = some (.slice va vn vc)) v3 := ⟨blk_cell hx 0 rfl, blk_cell hx 1 rfl, blk_cell hx 2 rfl, blk_cell hx 3 rfl, blk_cell hx 4 rfl, blk_cell hx 5 rfl, blk_cell hx 6 rfl, blk_cell hx 7 rfl, blk_cell hx 8 rfl, blk_cell hx 9 rfl, blk_cell hx 10 rfl, blk_cell hx 11 rfl, blk_cell hx 12 rfl⟩
          clear hx hw1 hk1
          go_wp2_with fail
          refine hK.out _ _ hSnew (fun hHeldN => ?_)
          clear hK K hSnew
          clear hHeld
          have hHeld := hHeldN
          clear hHeldN
          try simp only [Act.put, List.setIfInBounds_toArray, List.set_cons_zero, List.set_cons_succ]
          refine wpAnyH_done (by kernel_rfl) ?_ _
          clear hHeld
          go_wp2
          go_roundw
          case rel => exact ⟨k + 1, by omega, by go_num, (by have h := HZ3.out; show WrA _ _ _ _ _; rw [HNX.out]; simp only [List.append_assoc] at h; exact h), HJ3⟩
          case measure => simp [intOf]; omega
        · have hkm : k = m := by omega
          subst hkm
          have hz := HWr.out
          rw [HLOY.out, List.take_of_length_le (by rw [HON.out]; exact Nat.le_refl _)] at hz
          obtain ⟨rv, hq1, hown, hqB, hby, _⟩ := hz
          have cq := blk_cell hq1 0 rfl
          have HO := hide hown
          have HBY := hide hby
          clear hq1 hown hqB hby
          go_wp2
          go_ret2
          refine ⟨?_, HKr.out.bel⟩
          rw [HF.out]
          have hpk : packS ⟨fl, nx, cu, la, bs, os⟩ = P7 ++ os.flatMap obW := by
            rw [← HP7.out, ← HP6.out, ← HP5.out, ← HP4.out, ← HCU.out, ← HLA.out, ← HBN.out, ← HON.out]
            simp only [packS, List.nil_append, List.append_assoc]
          rw [hpk]
          exact ⟨_, rfl, HO.out, HBY.out⟩
end
end Go.Proofs.Ytoaahellfflooaa
