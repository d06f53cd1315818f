/-
  SEAT YtnmnhgagnfodhaaDoor: B, C, D, E, F, Wd, Gb, J.
-/
import Derived.Test.YtnmnhgagnfodhaaDoorMa
import Derived.Test.YtnmnhgagnfodhaaDoorMw
import Derived.Deep.RegionHeld3
import Derived.Deep.DeepCutAuto
import Derived.Handy
namespace Go.Proofs.YtnmnhgagnfodhaaDoor
open Go.RowKit
set_option linter.unusedVariables false
theorem grown_of {w w' : World} (h : Below w.heap.size w w') (row : Option Nat) : w.grownBy w' row := ⟨h.os, h.tape, h.output, h.size, fun k hk _ => h.block k hk⟩
theorem below_of {w w' : World} (h : w.grownBy w' none) : Below w.heap.size w w' := ⟨h.os, h.tape, h.output, h.size, fun k hk => h.block k hk (by simp)⟩
theorem drew_grown (w : World) (r : Option Nat) : w.grownBy w.drew r := ⟨rfl, rfl, rfl, Nat.le_refl _, fun _ _ _ => rfl⟩
theorem below_trans {a b c : World} (h : Below a.heap.size a b) (k : Below b.heap.size b c) : Below a.heap.size a c := h.trans (k.mono h.size)
theorem below_alloc (w : World) (b) : Below w.heap.size w (w.alloc b) := (Below.refl _ _).alloc (Nat.le_refl _) _
theorem held3 {w x : World} {b p s : Int} (q : (w.alloc (.cells #[.int .i64 b, .int .i64 p, .int .i64 s] 30)).grownBy x none) :
  (fun x : World => (w.alloc (.cells #[.int .i64 b, .int .i64 p, .int .i64 s] 30)).grownBy x none ∧ x.cell? ⟨w.heap.size, 0, none⟩ = some (.int .i64 b) ∧ x.cell? ⟨w.heap.size, 1, none⟩ = some (.int .i64 p) ∧ x.cell? ⟨w.heap.size, 2, none⟩ = some (.int .i64 s)) x := ⟨q, box3 (below_of q)⟩
theorem box5 {w u : World} {b p s : Int} {vc vm : Value} (h : (w.alloc (.cells #[.int .i64 b, .int .i64 p, .int .i64 s, vc, vm] 35)).grownBy u none) :
  u.cell? ⟨w.heap.size, 0, none⟩ = some (.int .i64 b) ∧ u.cell? ⟨w.heap.size, 1, none⟩ = some (.int .i64 p) ∧ u.cell? ⟨w.heap.size, 2, none⟩ = some (.int .i64 s) ∧ u.cell? ⟨w.heap.size, 3, none⟩ = some vc ∧ u.cell? ⟨w.heap.size, 4, none⟩ = some vm := by
 refine ⟨?_, ?_, ?_, ?_, ?_⟩ <;> exact h.cell (by simp) (by simp)
theorem held5 {w x : World} {b p s : Int} {vc vm : Value} (q : (w.alloc (.cells #[.int .i64 b, .int .i64 p, .int .i64 s, vc, vm] 35)).grownBy x none) :
  (fun x : World => (w.alloc (.cells #[.int .i64 b, .int .i64 p, .int .i64 s, vc, vm] 35)).grownBy x none ∧ x.cell? ⟨w.heap.size, 0, none⟩ = some (.int .i64 b) ∧ x.cell? ⟨w.heap.size, 1, none⟩ = some (.int .i64 p) ∧ x.cell? ⟨w.heap.size, 2, none⟩ = some (.int .i64 s) ∧ x.cell? ⟨w.heap.size, 3, none⟩ = some vc ∧ x.cell? ⟨w.heap.size, 4, none⟩ = some vm) x := ⟨q, box5 q⟩
def pgL (s : Int) : Int := 256 * s + (54 + 3 * s)
def chkE (b p s : Int) (n m : Nat) : Int := if Fits b p s then (if (n : Int) = b * p * pgL s ∧ (m : Int) = b then 0 else 47) else 40
theorem mul_small {x y : Int} (h0 : 0 ≤ x) (h1 : x ≤ 65536) (h2 : 0 ≤ y) (h3 : y ≤ 2126) : 0 ≤ x * y ∧ x * y ≤ 139329536 :=
 ⟨Int.mul_nonneg h0 h2, by have := Int.mul_le_mul h1 h3 h2 (by omega : (0 : Int) ≤ 65536); omega⟩
set_option maxHeartbeats 2000000 in
set_option maxRecDepth 100000 in
theorem check_any (b p s : Int) (a a' : Option Addr) (n c m c' : Nat) (w : World) (hn : n ≤ 140737488355000) (hm : m ≤ 140737488355000) :
  Calls Tryd.prog 18 #[.agg #[.int .i64 b, .int .i64 p, .int .i64 s, .slice a n c, .slice a' m c']] w fun e w' => e = .returned (.int .i64 (chkE b p s n m)) ∧ Below w.heap.size w w' := by
 have hb0 : Below w.heap.size w (w.alloc (.cells #[.int .i64 b, .int .i64 p, .int .i64 s, .slice a n c, .slice a' m c'] 35)) := below_alloc w _
 cases hf : Fits b p s with
 | false =>
  have e1 : spN b p s = 0 := by unfold spN; rw [hf]; rfl
  have e2 : spE b p s = 40 := by unfold spE; rw [hf]; rfl
  unfold chkE
  rw [hf]
  go_enter Tryd.func18, Tryd.ntmps18
  go_wp2_with (go_at_call 44; refine (spare_any _ _ _ _).mono ?_; rintro e u1 ⟨rfl, bel1⟩; rw [e1, e2])
  go_ret
  exact ⟨rfl, below_trans hb0 bel1⟩
 | true =>
  have e1 : spN b p s = 54 + 3 * s := by unfold spN; rw [hf]; rfl
  have e2 : spE b p s = 0 := by unfold spE; rw [hf]; rfl
  obtain ⟨q1, q2, q3, q4, q5, q6, q7, q8⟩ := fits_all hf
  have hml := mul_small (y := pgL s) q7 q8 (by unfold pgL; omega) (by unfold pgL; omega)
  obtain ⟨P, hP⟩ : ∃ P, b * p = P := ⟨_, rfl⟩
  obtain ⟨L, hL⟩ : ∃ L, 256 * s + (54 + 3 * s) = L := ⟨_, rfl⟩
  have hL' : pgL s = L := hL
  rw [hP, hL'] at hml
  obtain ⟨M, hM⟩ : ∃ M, P * L = M := ⟨_, rfl⟩
  rw [hM] at hml
  unfold chkE
  rw [hf, hP, hL', hM]
  have wP : IntKind.i64.wrap (b * p) = P := by rw [IntKind.wrap_i64]; omega
  have wM : IntKind.i64.wrap (P * L) = M := by rw [IntKind.wrap_i64]; omega
  have HP : Hid (b * p = P) := hP
  have HL : Hid (256 * s + (54 + 3 * s) = L) := hL
  clear hP hL hL' hM
  cases k1 : ((n : Int) == M) with
  | true =>
   have k1' : (n : Int) = M := by simpa using k1
   cases k2 : ((m : Int) == b) with
   | true =>
    have k3 : (m : Int) = b := by simpa using k2
    simp only [if_true, if_pos (show (n : Int) = M ∧ (m : Int) = b from ⟨k1', k3⟩)]
    have k4 : ((n : Int) != M) = false := by simp [k1']
    have k5 : ((m : Int) != b) = false := by simp [k3]
    clear k1' k3 k1 k2
    go_enter Tryd.func18, Tryd.ntmps18
    go_upto_region 4 with (go_at_call 44; refine (spare_any _ _ _ _).mono ?_; rintro e u1 ⟨rfl, bel1⟩; rw [e1, e2]; have g1 := grown_of bel1 none)
    refine wp_region_held_drew (S := (fun x : World => (w.alloc (.cells #[.int .i64 b, .int .i64 p, .int .i64 s, .slice a n c, .slice a' m c'] 35)).grownBy x none ∧ x.cell? ⟨w.heap.size, 0, none⟩ = some (.int .i64 b) ∧ x.cell? ⟨w.heap.size, 1, none⟩ = some (.int .i64 p) ∧ x.cell? ⟨w.heap.size, 2, none⟩ = some (.int .i64 s) ∧ x.cell? ⟨w.heap.size, 3, none⟩ = some (.slice a n c) ∧ x.cell? ⟨w.heap.size, 4, none⟩ = some (.slice a' m c'))) (by kernel_rfl) (held5 (grownBy_trans g1 (drew_grown _ _))) (fun hHeld => ?_)
    refine tk 0 ?_
    refine tk 1 ?_
    refine tk 2 ?_
    refine tk 3 ?_
    refine tk 4 ?_
    refine tk 6 ?_
    refine tk 7 ?_
    refine rd 5 (fun K hK => ?_)
    go_simp
    go_at_call 45
    refine (pagesIn_any _ _ _ _ q7 q8).mono ?_
    rintro e u2 ⟨rfl, b2⟩
    rw [HP.out]
    have g2 := grownBy_trans (grownBy_trans g1 (drew_grown _ none)) (grown_of b2 none)
    have hSnew := held5 g2
    go_wp2_with fail
    clear hHeld
    refine hK.out _ _ hSnew (fun hHeld => ?_)
    clear hK K hSnew
    try simp only [Act.put, zSt, zS0, zS1]
    refine rd 8 (fun K hK => ?_)
    go_simp
    go_at_call 46
    refine (pageBytes_any _ _ _ _ hf).mono ?_
    rintro e u3 ⟨rfl, b3⟩
    rw [HL.out]
    have g3 := grownBy_trans g2 (grown_of b3 none)
    have hSnew := held5 g3
    go_wp2_with fail
    clear hHeld
    refine hK.out _ _ hSnew (fun hHeld => ?_)
    clear hK K hSnew
    try simp only [Act.put, zSt, zS0, zS1]
    refine tk 9 ?_
    refine tk 10 ?_
    refine tk 11 ?_
    refine tk 12 ?_
    refine tk 13 ?_
    refine tk 14 ?_
    refine tk 15 ?_
    refine tk 16 ?_
    refine tk 17 ?_
    refine tk 18 ?_
    refine tk 19 ?_
    refine wpAnyH_done (by kernel_rfl) ?_ _
    go_wp2
    go_ret
    exact ⟨rfl, below_trans hb0 (below_of g3)⟩
   | false =>
    have k3 : ¬ (m : Int) = b := by simpa using k2
    simp only [if_true, if_neg (show ¬ ((n : Int) = M ∧ (m : Int) = b) from fun h => k3 h.2)]
    have k4 : ((n : Int) != M) = false := by simp [k1']
    have k5 : ((m : Int) != b) = true := by simp [k3]
    clear k1' k3 k1 k2
    go_enter Tryd.func18, Tryd.ntmps18
    go_upto_region 4 with (go_at_call 44; refine (spare_any _ _ _ _).mono ?_; rintro e u1 ⟨rfl, bel1⟩; rw [e1, e2]; have g1 := grown_of bel1 none)
    refine wp_region_held_drew (S := (fun x : World => (w.alloc (.cells #[.int .i64 b, .int .i64 p, .int .i64 s, .slice a n c, .slice a' m c'] 35)).grownBy x none ∧ x.cell? ⟨w.heap.size, 0, none⟩ = some (.int .i64 b) ∧ x.cell? ⟨w.heap.size, 1, none⟩ = some (.int .i64 p) ∧ x.cell? ⟨w.heap.size, 2, none⟩ = some (.int .i64 s) ∧ x.cell? ⟨w.heap.size, 3, none⟩ = some (.slice a n c) ∧ x.cell? ⟨w.heap.size, 4, none⟩ = some (.slice a' m c'))) (by kernel_rfl) (held5 (grownBy_trans g1 (drew_grown _ _))) (fun hHeld => ?_)
    refine tk 0 ?_
    refine tk 1 ?_
    refine tk 2 ?_
    refine tk 3 ?_
    refine tk 4 ?_
    refine tk 6 ?_
    refine tk 7 ?_
    refine rd 5 (fun K hK => ?_)
    go_simp
    go_at_call 45
    refine (pagesIn_any _ _ _ _ q7 q8).mono ?_
    rintro e u2 ⟨rfl, b2⟩
    rw [HP.out]
    have g2 := grownBy_trans (grownBy_trans g1 (drew_grown _ none)) (grown_of b2 none)
    have hSnew := held5 g2
    go_wp2_with fail
    clear hHeld
    refine hK.out _ _ hSnew (fun hHeld => ?_)
    clear hK K hSnew
    try simp only [Act.put, zSt, zS0, zS1]
    refine rd 8 (fun K hK => ?_)
    go_simp
    go_at_call 46
    refine (pageBytes_any _ _ _ _ hf).mono ?_
    rintro e u3 ⟨rfl, b3⟩
    rw [HL.out]
    have g3 := grownBy_trans g2 (grown_of b3 none)
    have hSnew := held5 g3
    go_wp2_with fail
    clear hHeld
    refine hK.out _ _ hSnew (fun hHeld => ?_)
    clear hK K hSnew
    try simp only [Act.put, zSt, zS0, zS1]
    refine tk 9 ?_
    refine tk 10 ?_
    refine tk 11 ?_
    refine tk 12 ?_
    refine tk 13 ?_
    refine tk 14 ?_
    refine tk 15 ?_
    refine tk 16 ?_
    refine tk 17 ?_
    refine tk 18 ?_
    refine tk 19 ?_
    refine wpAnyH_done (by kernel_rfl) ?_ _
    go_wp2
    go_ret
    exact ⟨rfl, below_trans hb0 (below_of g3)⟩
  | false =>
    have k1' : ¬ (n : Int) = M := by simpa using k1
    simp only [if_true, if_neg (show ¬ ((n : Int) = M ∧ (m : Int) = b) from fun h => k1' h.1)]
    have k4 : ((n : Int) != M) = true := by simp [k1']
    clear k1' k1
    go_enter Tryd.func18, Tryd.ntmps18
    go_upto_region 4 with (go_at_call 44; refine (spare_any _ _ _ _).mono ?_; rintro e u1 ⟨rfl, bel1⟩; rw [e1, e2]; have g1 := grown_of bel1 none)
    refine wp_region_held_drew (S := (fun x : World => (w.alloc (.cells #[.int .i64 b, .int .i64 p, .int .i64 s, .slice a n c, .slice a' m c'] 35)).grownBy x none ∧ x.cell? ⟨w.heap.size, 0, none⟩ = some (.int .i64 b) ∧ x.cell? ⟨w.heap.size, 1, none⟩ = some (.int .i64 p) ∧ x.cell? ⟨w.heap.size, 2, none⟩ = some (.int .i64 s) ∧ x.cell? ⟨w.heap.size, 3, none⟩ = some (.slice a n c) ∧ x.cell? ⟨w.heap.size, 4, none⟩ = some (.slice a' m c'))) (by kernel_rfl) (held5 (grownBy_trans g1 (drew_grown _ _))) (fun hHeld => ?_)
    refine tk 0 ?_
    refine tk 1 ?_
    refine tk 2 ?_
    refine tk 3 ?_
    refine tk 4 ?_
    refine tk 6 ?_
    refine tk 7 ?_
    refine rd 5 (fun K hK => ?_)
    go_simp
    go_at_call 45
    refine (pagesIn_any _ _ _ _ q7 q8).mono ?_
    rintro e u2 ⟨rfl, b2⟩
    rw [HP.out]
    have g2 := grownBy_trans (grownBy_trans g1 (drew_grown _ none)) (grown_of b2 none)
    have hSnew := held5 g2
    go_wp2_with fail
    clear hHeld
    refine hK.out _ _ hSnew (fun hHeld => ?_)
    clear hK K hSnew
    try simp only [Act.put, zSt, zS0, zS1]
    refine rd 8 (fun K hK => ?_)
    go_simp
    go_at_call 46
    refine (pageBytes_any _ _ _ _ hf).mono ?_
    rintro e u3 ⟨rfl, b3⟩
    rw [HL.out]
    have g3 := grownBy_trans g2 (grown_of b3 none)
    have hSnew := held5 g3
    go_wp2_with fail
    clear hHeld
    refine hK.out _ _ hSnew (fun hHeld => ?_)
    clear hK K hSnew
    try simp only [Act.put, zSt, zS0, zS1]
    refine tk 9 ?_
    refine tk 10 ?_
    refine tk 11 ?_
    refine tu 12 ?_
    refine tu 13 ?_
    refine tu 14 ?_
    refine tu 15 ?_
    refine tu 16 ?_
    refine tu 17 ?_
    refine tu 18 ?_
    refine tk 19 ?_
    refine wpAnyH_done (by kernel_rfl) ?_ _
    go_wp2
    go_ret
    exact ⟨rfl, below_trans hb0 (below_of g3)⟩
end Go.Proofs.YtnmnhgagnfodhaaDoor
namespace Go.Proofs.YtnmnhgagnfodhaaDoor
open Go.RowKit
set_option linter.unusedVariables false
theorem same_eq (a a' : Option Addr) (n c c' : Nat) (zs : List Int) (w : World) (h : Reads w a n zs) (h' : Reads w a' n zs) :
  Calls Tryd.prog 17 #[.slice a n c, .slice a' n c'] w fun e w' => e = .returned (.bool true) ∧ w' = w := by
 have e1 := conv a n c zs w h
 have e2 := conv a' n c' zs w h'
 clear h h'
 go_enter Tryd.func17, Tryd.ntmps17
 go_wp2
 go_ret
 exact ⟨by simp, rfl⟩
theorem made_own (w : World) (n : Nat) (hn : n ≤ 9223372036854775807) : Own (w.alloc (.cells (madeCells #[.int .u8 0] n) 5)) w.heap.size w.heap.size 0 n [] := by
 simpa [Own] using World.ownsRow_made w (madeCells #[.int .u8 0] n) n (Nat.le_refl _) (by simp [maxLen]; omega) (by simp [madeCells])
theorem Own.apart {w w' : World} {B g n cap g' : Nat} {xs : List Int} (h : Own w B g n cap xs) (hg : w.grownBy w' (some g')) (hne : g ≠ g') : Own w' B g n cap xs :=
 World.ownsRow.kept h hg (Or.inr (by simp [Value.ownBlock]; exact hne))
theorem Own.all {w : World} {B g n cap : Nat} {xs : List Int} (h : Own w B g n cap xs) (hr : ∀ x ∈ xs, 0 ≤ x ∧ x ≤ 255) : Reads w (some ⟨g, 0, none⟩) n xs := by
 have h1 := h.reads hr n (Nat.le_refl _)
 have hl := h.len
 rwa [List.take_of_length_le (by omega)] at h1
theorem Own.room_le {w : World} {B g n cap : Nat} {xs : List Int} (h : Own w B g n cap xs) (hn : 0 < n) : n ≤ cap ∧ cap ≤ maxLen := by
 obtain ⟨g', c', h1, h2, h3, _⟩ := own_shape h hn
 simp only [Value.slice.injEq, true_and] at h1
 obtain ⟨_, rfl⟩ := h1
 exact ⟨h2, h3⟩
end Go.Proofs.YtnmnhgagnfodhaaDoor
namespace Go.Proofs.YtnmnhgagnfodhaaDoor
open Go.RowKit
set_option linter.unusedVariables false
def ReadsB (w : World) (a : Option Addr) (len : Nat) (bs : List Bool) : Prop :=
 bs.length = len ∧ (a = none → len = 0) ∧ ∀ x, a = some x → ∀ i, i < len → w.cell? (x.add i) = some (.bool (bs.getD i false))
theorem ReadsB.pos {w : World} {a : Option Addr} {len : Nat} {bs : List Bool} (h : ReadsB w a len bs) (hp : 0 < len) :
  ∃ b off, a = some ⟨b, off, none⟩ ∧ b < w.heap.size ∧ ∀ i, i < len → w.cell? ⟨b, off + i, none⟩ = some (.bool (bs.getD i false)) := by
 obtain ⟨hl, hn, hc⟩ := h
 cases a with
 | none => have := hn rfl; omega
 | some x =>
  obtain ⟨b, off, spot⟩ := x
  have h0 := hc _ rfl 0 hp
  have hspot : spot = none := by simpa [Addr.add] using World.cell?_spot h0
  subst hspot
  refine ⟨b, off, rfl, by simpa [Addr.add] using block_lt_of_cell h0, fun i hi => ?_⟩
  have h1 := hc _ rfl i hi
  rw [plain_add] at h1
  exact h1
theorem ReadsB.below {w w' : World} {a : Option Addr} {len : Nat} {bs : List Bool} (h : ReadsB w a len bs) (hb : Below w.heap.size w w') : ReadsB w' a len bs := by
 obtain ⟨hl, hn, hc⟩ := h
 refine ⟨hl, hn, fun x hx i hi => ?_⟩
 have h1 := hc x hx i hi
 rw [hb.cell (block_lt_of_cell h1)]
 exact h1
def OwnB (w : World) (B g n cap : Nat) (xs : List Bool) : Prop :=
 w.ownsRow B 4 1 (.slice (some ⟨g, 0, none⟩) n cap) n (xs.map Value.bool)
theorem info4 : (Tryd.prog.info? 4).map (fun i => (i.zero, i.size, i.bytes)) = some (some (.bool false), 1, 1) := by kernel_rfl
theorem OwnB.len {w : World} {B g n cap : Nat} {xs : List Bool} (h : OwnB w B g n cap xs) : xs.length = n := by
 have := h.1
 simpa using this
theorem OwnB.cell {w : World} {B g n cap : Nat} {xs : List Bool} (h : OwnB w B g n cap xs) (j : Nat) (hj : j < n) : w.cell? ⟨g, j, none⟩ = some (.bool (xs.getD j false)) := by
 have hl := h.len
 have h1 := World.ownsRow.cellAt h j (by omega)
 rw [h1, List.getElem?_map, List.getElem?_eq_getElem (by omega)]
 simp [List.getD, List.getElem?_eq_getElem (show j < xs.length by omega)]
theorem OwnB.below {w w' : World} {B g n cap : Nat} {xs : List Bool} (h : OwnB w B g n cap xs) (hb : Below w.heap.size w w') : OwnB w' B g n cap xs := by
 obtain ⟨h1, h2⟩ := h
 refine ⟨h1, ?_⟩
 rcases h2 with h2 | ⟨g', cap', cur, hv, hg, hh, r⟩
 ·exact Or.inl h2
 ·refine Or.inr ⟨g', cap', cur, hv, hg, ?_, r⟩
  rw [hb.block g' ?_]
  ·exact hh
  ·rcases Nat.lt_or_ge g' w.heap.size with h | h
   ·exact h
   ·simp [Array.getElem?_eq_none h] at hh
theorem OwnB.reads {w : World} {B g n cap : Nat} {xs : List Bool} (h : OwnB w B g n cap xs) (m : Nat) (hm : m ≤ n) : ReadsB w (some ⟨g, 0, none⟩) m (xs.take m) := by
 have hl := h.len
 refine ⟨by simp; omega, (fun h => by cases h), fun x hx i hi => ?_⟩
 cases hx
 rw [plain_add, Nat.zero_add, h.cell i (by omega)]
 simp [List.getD, hi]
end Go.Proofs.YtnmnhgagnfodhaaDoor
namespace Go.Proofs.YtnmnhgagnfodhaaDoor
open Go.RowKit
set_option linter.unusedVariables false
theorem Own.base {w : World} {B B' g n cap : Nat} {xs : List Int} (h : Own w B g n cap xs) (hb : B' ≤ B) : Own w B' g n cap xs := by
 obtain ⟨h1, h2⟩ := h
 refine ⟨h1, ?_⟩
 rcases h2 with h2 | ⟨g', cap', cur, hv, hg, r⟩
 ·exact Or.inl h2
 ·exact Or.inr ⟨g', cap', cur, hv, Nat.le_trans hb hg, r⟩
theorem OwnB.base {w : World} {B B' g n cap : Nat} {xs : List Bool} (h : OwnB w B g n cap xs) (hb : B' ≤ B) : OwnB w B' g n cap xs := by
 obtain ⟨h1, h2⟩ := h
 refine ⟨h1, ?_⟩
 rcases h2 with h2 | ⟨g', cap', cur, hv, hg, r⟩
 ·exact Or.inl h2
 ·exact Or.inr ⟨g', cap', cur, hv, Nat.le_trans hb hg, r⟩
theorem OwnB.lt {w : World} {B g n cap : Nat} {xs : List Bool} (h : OwnB w B g n cap xs) : B ≤ g ∧ g < w.heap.size :=
 World.ownsRow.lt h g rfl
theorem OwnB.apart {w w' : World} {B g n cap g' : Nat} {xs : List Bool} (h : OwnB w B g n cap xs) (hg : w.grownBy w' (some g')) (hne : g ≠ g') : OwnB w' B g n cap xs :=
 World.ownsRow.kept h hg (Or.inr (by simp [Value.ownBlock]; exact hne))
theorem set_grown (w : World) (g j : Nat) (v : Value) : w.grownBy (w.setCell ⟨g, j, none⟩ v) (some g) := ⟨rfl, rfl, rfl, by simp, fun k hk hne => heap_setCell_other w ⟨g, j, none⟩ k v (fun e => hne (congrArg some e))⟩
end Go.Proofs.YtnmnhgagnfodhaaDoor
namespace Go.Proofs.YtnmnhgagnfodhaaDoor
open Go.RowKit
set_option linter.unusedVariables false
theorem Reads.part {w : World} {a : Option Addr} {len : Nat} {zs : List Int} (h : Reads w a len zs) (i j : Nat) (hi : i ≤ j) (hj : j ≤ len) (hp : i < j) :
  ∃ b off, a = some ⟨b, off, none⟩ ∧ Reads w (some ⟨b, off + i, none⟩) (j - i) ((zs.drop i).take (j - i)) := by
 obtain ⟨b, off, rfl, hb, hc⟩ := h.pos (by omega)
 have hl := h.1
 refine ⟨b, off, rfl, by simp; omega, fun x hx => h.2.1 x (List.mem_of_mem_drop (List.mem_of_mem_take hx)), (fun h => by cases h), fun x hx k hk => ?_⟩
 cases hx
 rw [plain_add, show off + i + k = off + (i + k) by omega, hc (i + k) (by omega)]
 simp [List.getD_eq_getElem?_getD, hk]
end Go.Proofs.YtnmnhgagnfodhaaDoor
namespace Go.Proofs.YtnmnhgagnfodhaaDoor
open Go.RowKit
set_option linter.unusedVariables false
theorem sizeMayBe_yes (n : Int) (w : World) (h1 : 1 ≤ n) (h2 : n ≤ 8) : Calls Tryd.prog 80 #[.int .i64 n] w fun e w' => e = .returned (.bool true) ∧ w = w' := by
 go_enter Tryd.func80, Tryd.ntmps80
 go_wp2
 go_ret
 exact ⟨rfl, rfl⟩
theorem fits_any (v n : Int) (w : World) (h1 : 1 ≤ n) (h2 : n ≤ 8) : Calls Tryd.prog 81 #[.int .u64 v, .int .i64 n] w fun e w' => e = .returned (.bool (v / 2 ^ (8 * n).toNat == 0)) ∧ w = w' := by
 go_enter Tryd.func81, Tryd.ntmps81
 go_wp2
 go_ret
 exact ⟨rfl, rfl⟩
theorem reaches_yes (a : Option Addr) (l c : Nat) (t n : Int) (w : World) (hl : (l : Int) ≤ 9223372036854775807) (h1 : 1 ≤ n) (h2 : n ≤ 8) (h3 : 0 ≤ t) (h4 : t ≤ l - n) :
  Calls Tryd.prog 82 #[.slice a l c, .int .i64 t, .int .i64 n] w fun e w' => e = .returned (.bool true) ∧ w = w' := by
 go_enter Tryd.func82, Tryd.ntmps82
 go_wp2
 go_ret
 exact ⟨rfl, rfl⟩
def putL (xs : List Int) (p : Nat) (v : Int) : Nat → List Int
 | 0 => xs
 | k + 1 => (putL xs p v k).set (p + k) (v / 256 ^ k % 256)
theorem pow256 (v : Int) (k : Nat) : v / 256 ^ k % 256 = v / 2 ^ (8 * k) % 256 := by
 rw [Int.pow_mul]
 rfl
theorem putL_length (xs : List Int) (p : Nat) (v : Int) (k : Nat) : (putL xs p v k).length = xs.length := by
 induction k with
 | zero => rfl
 | succ k ih => simp [putL, ih]
set_option maxHeartbeats 400000 in
set_option maxRecDepth 100000 in
theorem put_ok (B g m cap l : Nat) (t n : Nat) (v : Int) (xs : List Int) (w : World) (hl : (l : Int) ≤ 200000000000000) (h1 : 1 ≤ n) (h2 : n ≤ 8) (hf : (v / 2 ^ (8 * (n : Int)).toNat == 0) = true) (ht : t + n ≤ l) (hlm : l ≤ m) (_hv : 0 ≤ v)
  (hown : Own w B g m cap xs) :
  Calls Tryd.prog 60 #[.slice (some ⟨g, 0, none⟩) l cap, .int .i64 t, .int .i64 n, .int .u64 v] w fun e w' => e = .returned (.int .i64 0) ∧ Own w' B g m cap (putL xs t v n) ∧ w.grownBy w' (some g) := by
 go_enter Tryd.func60, Tryd.ntmps60
 go_wp2_with (first | (go_at_call 80; refine (sizeMayBe_yes _ _ (by omega) (by omega)).mono ?_; rintro e w' ⟨rfl, rfl⟩) | (go_at_call 81; refine (fits_any _ _ _ (by omega) (by omega)).mono ?_; rintro e w' ⟨rfl, rfl⟩) | (go_at_call 82; refine (reaches_yes _ _ _ _ _ _ (by omega) (by omega) (by omega) (by omega) (by omega)).mono ?_; rintro e w' ⟨rfl, rfl⟩))
 go_loopw [25] (fun i wr => ∃ k : Nat, k ≤ n ∧ i = .int .i64 k ∧ Own wr B g m cap (putL xs t v k) ∧ w.grownBy wr (some g))
  (fun i _ => n - (intOf i).toNat)
 case atStart => exact ⟨0, Nat.zero_le _, rfl, hown, World.grownBy.refl _ _⟩
 case round =>
  obtain ⟨k, hk, rfl, hownr, hg⟩ := hrel
  by_cases hlt : k < n
  ·have hcx := hownr.cell (t + k) (by omega)
   have hfz : wr.frozen? ⟨g, t + k, none⟩ = false := World.ownsRow.frozenAt hownr (t + k)
   have hs := hownr.set (t + k) (v / 2 ^ (8 * k) % 256)
   have hp : putL xs t v (k + 1) = (putL xs t v k).set (t + k) (v / 2 ^ (8 * k) % 256) := by rw [putL, pow256]
   rw [← hp] at hs
   obtain ⟨hs1, hs2⟩ := hs
   have HS : Hid (Own (wr.setCell ⟨g, t + k, none⟩ (.int .u8 (v / 2 ^ (8 * k) % 256))) B g m cap (putL xs t v (k + 1))) := hs1
   have HG : Hid (w.grownBy (wr.setCell ⟨g, t + k, none⟩ (.int .u8 (v / 2 ^ (8 * k) % 256))) (some g)) := grownBy_trans hg hs2
   clear hs1 hs2 hp
   go_wp2
   go_roundw
   case rel => exact ⟨k + 1, by omega, by go_num, HS.out, HG.out⟩
   case measure => simp [intOf]; omega
  ·have hkn : k = n := by omega
   subst hkn
   go_wp2
   go_ret
   exact ⟨rfl, hownr, hg⟩
theorem putL_range (xs : List Int) (t : Nat) (v : Int) (k : Nat) (h : ∀ x ∈ xs, 0 ≤ x ∧ x ≤ 255) : ∀ x ∈ putL xs t v k, 0 ≤ x ∧ x ≤ 255 := by
 induction k with
 | zero => exact h
 | succ k ih =>
  intro x hx
  rw [putL] at hx
  rcases List.mem_or_eq_of_mem_set hx with h1 | h1
  ·exact ih x h1
  ·rw [h1]; omega
theorem p256 (k : Nat) : (256 : Int) ^ k = 2 ^ (8 * k) := by
 rw [Int.pow_mul]
 rfl
theorem or_step (q z : Int) (k : Nat) (hk : k < 8) (hq0 : 0 ≤ q) (hq : q < 256 ^ k) (hz0 : 0 ≤ z) (hz1 : z ≤ 255) :
  bits .or .u64 q (IntKind.u64.wrap (z * 2 ^ (8 * k))) = q + z * 256 ^ k := by
 obtain ⟨q, rfl⟩ := Int.eq_ofNat_of_zero_le hq0
 obtain ⟨z, rfl⟩ := Int.eq_ofNat_of_zero_le hz0
 have hp : 2 ^ (8 * k) ≤ 2 ^ 56 := Nat.pow_le_pow_right (by decide) (by omega)
 have hq' : q < 2 ^ (8 * k) := by
  rw [p256] at hq
  exact_mod_cast hq
 have hm : z * 2 ^ (8 * k) ≤ 255 * 2 ^ 56 := Nat.mul_le_mul (by omega) hp
 have e : (z : Int) * 2 ^ (8 * k) = ((z * 2 ^ (8 * k) : Nat) : Int) := by push_cast; rfl
 rw [IntKind.wrap_u64, e, Int.emod_eq_of_lt (by omega) (by omega), u64_or_nat _ _ (by omega) (by omega), Nat.or_comm, nat_join (8 * k) _ _ (Nat.mul_mod_left _ _) hq', p256]
 push_cast
 omega
def getL (zs : List Int) (t : Nat) : Nat → Int
 | 0 => 0
 | k + 1 => getL zs t k + zs.getD (t + k) 0 * 256 ^ k
theorem pow256_pos (k : Nat) : (0 : Int) < 256 ^ k := Int.pow_pos (by decide)
theorem getL_range {zs : List Int} (h : ∀ x ∈ zs, 0 ≤ x ∧ x ≤ 255) (t k : Nat) : 0 ≤ getL zs t k ∧ getL zs t k < 256 ^ k := by
 induction k with
 | zero => simp [getL]
 | succ k ih =>
  have hb := byteAt h (t + k)
  have hp := pow256_pos k
  have h1 : 0 ≤ zs.getD (t + k) 0 * 256 ^ k := Int.mul_nonneg hb.1 (by omega)
  have h2 : zs.getD (t + k) 0 * 256 ^ k ≤ 255 * 256 ^ k := Int.mul_le_mul_of_nonneg_right hb.2 (by omega)
  rw [getL, Int.pow_succ]
  omega
theorem pow256_le {k n : Nat} (h : k ≤ n) : (256 : Int) ^ k ≤ 256 ^ n := by
 have h1 := Int.ofNat_le.2 (Nat.pow_le_pow_right (show 0 < 256 by decide) h)
 rwa [Int.natCast_pow, Int.natCast_pow] at h1
set_option maxHeartbeats 400000 in
set_option maxRecDepth 100000 in
theorem get_ok (a : Option Addr) (l cap t n : Nat) (zs : List Int) (w : World) (hl : l ≤ 200000000000000) (h1 : 1 ≤ n) (h2 : n ≤ 8) (ht : t + n ≤ l) (h : Reads w a l zs) :
  Calls Tryd.prog 84 #[.slice a l cap, .int .i64 t, .int .i64 n] w fun e w' => e = .returned (.tuple #[.int .u64 (getL zs t n), .int .i64 0]) ∧ w = w' := by
 obtain ⟨b, off, rfl, hb, hcell⟩ := h.pos (by omega)
 go_enter Tryd.func84, Tryd.ntmps84
 go_wp2_with (first | (go_at_call 80; refine (sizeMayBe_yes _ _ (by omega) (by omega)).mono ?_; rintro e w' ⟨rfl, rfl⟩) | (go_at_call 82; refine (reaches_yes _ _ _ _ _ _ (by omega) (by omega) (by omega) (by omega) (by omega)).mono ?_; rintro e w' ⟨rfl, rfl⟩))
 go_loop [8, 19] (fun x i => ∃ (k : Nat) (q : Int), k ≤ n ∧ i = .int .i64 k ∧ x = .int .u64 q ∧ Hid (q = getL zs t k))
  (fun _ i => n - (intOf i).toNat)
 case atStart => exact ⟨0, 0, Nat.zero_le _, rfl, rfl, rfl⟩
 case round =>
  obtain ⟨k, q, hk, rfl, rfl, HQ⟩ := hrel
  by_cases hlt : k < n
  ·obtain ⟨z, hz⟩ : ∃ z, z = zs.getD (t + k) 0 := ⟨_, rfl⟩
   have hcx : w.cell? ⟨b, off + (t + k), none⟩ = some (.int .u8 z) := by rw [hz]; exact hcell (t + k) (by omega)
   have HZ : Hid (z = zs.getD (t + k) 0) := hz
   have hz0 : 0 ≤ z ∧ z ≤ 255 := by rw [hz]; exact byteAt h.2.1 _
   have hqr : 0 ≤ q ∧ q < 256 ^ k := by rw [HQ.out]; exact getL_range h.2.1 t k
   have hst := or_step q z k (by omega) hqr.1 hqr.2 hz0.1 hz0.2
   have HS : Hid (bits .or .u64 q (IntKind.u64.wrap (z * 2 ^ (8 * k))) = getL zs t (k + 1)) := by unfold Hid; rw [hst, getL, ← hz, ← HQ.out]
   obtain ⟨hz1, hz2⟩ := hz0
   clear hz hqr hst
   go_wp2
   go_round
   case rel => exact ⟨k + 1, _, by omega, by go_num, rfl, HS⟩
   case measure => simp [intOf]; omega
  ·have hkn : k = n := by omega
   subst hkn
   go_wp2
   go_ret2
   exact ⟨by rw [← HQ.out]; rfl, rfl⟩
end Go.Proofs.YtnmnhgagnfodhaaDoor
namespace Go.Proofs.YtnmnhgagnfodhaaDoor
open Go.RowKit
set_option linter.unusedVariables false
set_option maxHeartbeats 1000000 in
set_option maxRecDepth 100000 in
theorem window_any (b p s : Int) (bk off : Nat) (a' : Option Addr) (n c m c' : Nat) (w : World) (k Ln K0 K1 : Nat) (hc : c ≤ 9223372036854775807) (hnc : n ≤ c) (hf : Fits b p s = true)
  (hLn : (Ln : Int) = 256 * s + (54 + 3 * s)) (hK0 : k * Ln = K0) (hK1' : (k + 1) * Ln = K1) (hK1 : K1 ≤ n) (hn : n ≤ 140737488355000) (hk : k ≤ 65536) :
  Calls Tryd.prog 31 #[.agg #[.int .i64 b, .int .i64 p, .int .i64 s, .slice (some ⟨bk, off, none⟩) n c, .slice a' m c'], .int .i64 k] w fun e w' => e = .returned (.slice (some ⟨bk, off + K0, none⟩) Ln (c - K0)) ∧ Below w.heap.size w w' := by
 have hb0 : Below w.heap.size w (w.alloc (.cells #[.int .i64 b, .int .i64 p, .int .i64 s, .slice (some ⟨bk, off, none⟩) n c, .slice a' m c'] 35)) := below_alloc w _
 have hKK : K0 ≤ K1 := by rw [← hK0, ← hK1', Nat.add_mul]; omega
 have hD : K1 - K0 = Ln := by rw [← hK0, ← hK1', Nat.add_mul]; omega
 obtain ⟨L, hL⟩ : ∃ L, 256 * s + (54 + 3 * s) = L := ⟨_, rfl⟩
 have w0 : IntKind.i64.wrap ((k : Int) * L) = (K0 : Int) := by
  rw [show (k : Int) * L = (K0 : Int) by rw [← hL, ← hLn, ← hK0]; simp, IntKind.wrap_i64]; omega
 have w1 : IntKind.i64.wrap (((k : Int) + 1) * L) = (K1 : Int) := by
  rw [show ((k : Int) + 1) * L = (K1 : Int) by rw [← hL, ← hLn, ← hK1']; simp, IntKind.wrap_i64]; omega
 have HL : Hid (256 * s + (54 + 3 * s) = L) := hL
 have i1 : K1 ≤ c := by omega
 have i2 : K0 ≤ c := by omega
 have hLp : 0 < Ln := by omega
 have i3 : K0 < c := by omega
 have i4 : ¬ c ≤ K0 := by omega
 have i5 : ¬ c - K0 = 0 := by omega
 have i6 : ¬ c = K0 := by omega
 rw [← hD]
 clear hL hK0 hK1' hLn hD
 go_enter Tryd.func31, Tryd.ntmps31
 go_wp2_with (go_at_call 46; refine (pageBytes_any b p s _ hf).mono ?_; rintro e u1 ⟨rfl, b1⟩; rw [HL.out]; have g1 := grown_of b1 none; obtain ⟨c0, c1, c2, c3, c4⟩ := box5 g1)
 go_ret
 exact ⟨rfl, below_trans hb0 b1⟩
set_option maxHeartbeats 1000000 in
set_option maxRecDepth 100000 in
theorem join_one (q : Nat) (a : Option Addr) (n c : Nat) (zs : List Int) (w : World) (hn : n ≤ 140737488351232) (hp : 0 < n) (hr : Reads w a n zs) (hq : w.cell? ⟨q, 0, none⟩ = some (.slice a n c)) :
  Calls Tryd.prog 42 #[.slice (some ⟨q, 0, none⟩) 1 1] w fun e w' => ∃ g cc, e = .returned (.slice (some ⟨g, 0, none⟩) n cc) ∧ Own w' w.heap.size g n cc zs ∧ Below w.heap.size w w' := by
 obtain ⟨i0, hi, hz0, hz1, hz2⟩ := info_parts info5
 have hlen := hr.1
 have hmk : ∀ u : World, (Instr.makeSlice 32 (.int .i64 0) (.int .i64 (n : Int))).run Tryd.prog u =
   .ok (.slice (some ⟨u.heap.size, 0, none⟩) 0 n) (u.alloc (.cells (madeCells #[.int .u8 0] n) 5)) := fun u => by
  have h := run_make (P := Tryd.prog) u 32 5 i0 (.int .u8 0) Tryd.underlying32 hi hz0 .i64 .i64 0 (n : Int) (by omega) (by omega) (by rw [hz2]; omega) (by omega)
  simpa [hz1, Value.cells] using h
 have hqb : q < w.heap.size := block_lt_of_cell hq
 have hm0 := made_own w n (by omega)
 have rA := hr.below (below_alloc w (.cells (madeCells #[.int .u8 0] n) 5))
 have hq2 : (w.alloc (.cells (madeCells #[.int .u8 0] n) 5)).cell? ⟨q, 0, none⟩ = some (.slice a n c) := by
  rw [(below_alloc w _).cell hqb]; exact hq
 go_enter Tryd.func42, Tryd.ntmps42
 go_wp2
 refine wp_loop_rounds 2 ?_
 rw [rounds_succ]
 go_wp2
 rw [rounds_succ]
 go_wp2
 refine wp_loop_rounds 2 ?_
 rw [rounds_succ]
 go_wp2_with (at_builtin; refine wpList_append_reads rfl (.tmp 28) (.tmp 29) rfl w.heap.size _ _ [] rfl hm0 _ _ _ zs rfl rA (by omega) (by simp) ?_; intro v1 w1 hown1 hgrow1; simp only [Nat.zero_add, List.nil_append] at hown1)
 have bel1 : Below w.heap.size w w1 := (below_alloc w _).grown hgrow1 (by simp) (fun k hk => (World.ownsRow.lt hm0 k hk).1)
 obtain ⟨g, cc, rfl, _⟩ := own_shape hown1 hp
 have HO : Hid _ := hown1
 clear hown1 hgrow1 hm0 rA
 go_wp2
 rw [rounds_succ]
 go_wp2
 go_ret
 exact ⟨g, cc, rfl, HO.out, bel1⟩
end Go.Proofs.YtnmnhgagnfodhaaDoor
namespace Go.Proofs.YtnmnhgagnfodhaaDoor
open Go.RowKit
set_option linter.unusedVariables false
theorem byte_inj {a b : Int} (ha : 0 ≤ a ∧ a ≤ 255) (hb : 0 ≤ b ∧ b ≤ 255) (h : UInt8.ofNat a.toNat = UInt8.ofNat b.toNat) : a = b := by
 have h1 := congrArg UInt8.toNat h
 simp only [UInt8.toNat_ofNat'] at h1
 omega
theorem str_inj {xs ys : List Int} (hx : ∀ x ∈ xs, 0 ≤ x ∧ x ≤ 255) (hy : ∀ x ∈ ys, 0 ≤ x ∧ x ≤ 255) (h : strOfNums xs = strOfNums ys) : xs = ys := by
 have h1 := congrArg (fun s => s.data.toList) h
 simp only [strOfNums_data] at h1
 clear h
 induction xs generalizing ys with
 | nil => cases ys with
  | nil => rfl
  | cons y ys => simp at h1
 | cons x xs ih => cases ys with
  | nil => simp at h1
  | cons y ys =>
   simp only [List.map_cons, List.cons.injEq] at h1
   rw [byte_inj (hx x (by simp)) (hy y (by simp)) h1.1, ih (fun z hz => hx z (by simp [hz])) (fun z hz => hy z (by simp [hz])) h1.2]
theorem str_eq {xs ys : List Int} (hx : ∀ x ∈ xs, 0 ≤ x ∧ x ≤ 255) (hy : ∀ x ∈ ys, 0 ≤ x ∧ x ≤ 255) : ((strOfNums xs).toList == (strOfNums ys).toList) = decide (xs = ys) := by
 by_cases h : xs = ys
 ·subst h; simp
 ·rw [decide_eq_false h]
  refine beq_false_of_ne fun e => h (str_inj hx hy (bytes_ext ?_))
  rw [← Lib.toList_data, ← Lib.toList_data]; exact e
theorem equal_any (a a' : Option Addr) (n n' c c' : Nat) (xs ys : List Int) (w : World) (h : Reads w a n xs) (h' : Reads w a' n' ys) :
  Calls Tryd.prog 30 #[.slice a n c, .slice a' n' c'] w fun e w' => e = .returned (.bool (decide (xs = ys))) ∧ w' = w := by
 have e1 := conv a n c xs w h
 have e2 := conv a' n' c' ys w h'
 have HE : Hid _ := str_eq h.2.1 h'.2.1
 clear h h'
 go_enter Tryd.func30, Tryd.ntmps30
 go_wp2
 go_ret
 refine ⟨?_, rfl⟩
 exact ret_bool HE.out
end Go.Proofs.YtnmnhgagnfodhaaDoor
