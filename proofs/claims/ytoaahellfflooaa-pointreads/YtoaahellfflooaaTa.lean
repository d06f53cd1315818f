/-
  SEAT Ytoaahellfflooaa: the reference's row: bytes, numbers, places.
-/
import Derived.Test.YtoaahellfflooaaPj
import Derived.Test.YtoaahellfflooaaEg
namespace Go.Proofs.Ytoaahellfflooaa
open Go.RowKit
set_option linter.unusedVariables false

theorem Reads.lowP {w w' : World} {a : Option Addr} {len B : Nat} {zs : List Int} (h : Reads w a len zs) (hlow : ∀ x, a = some x → 0 < len → x.block < B) (hk : Below B w w') : Reads w' a len zs := by
  obtain ⟨h1, h2, h3, h4⟩ := h
  refine ⟨h1, h2, h3, fun x hx i hi => ?_⟩
  rw [hk.cell (show (x.add i).block < B by rw [show (x.add i).block = x.block by unfold Addr.add; split <;> rfl]; exact hlow x hx (by omega))]
  exact h4 x hx i hi
/-- The reference's row: what is left of the bytes, or none: something was wrong. -/
def RwAt (w : World) (B q : Nat) (zs : List Int) (st : Option (List Int)) : Prop :=
  ∃ x c t ok, w.heap[q]? = some (.cells #[.slice x zs.length c, .int .i64 (t : Nat), .bool ok] 45 (0, 0)) ∧ Reads w x zs.length zs ∧ zs.length ≤ c ∧ c ≤ 9223372036854775807 ∧ (∀ a, x = some a → 0 < zs.length → a.block < B) ∧ B ≤ q ∧ t ≤ zs.length ∧ (match st with | none => ok = false | some rest => ok = true ∧ rest = zs.drop t)
theorem RwAt.lt {w : World} {B q : Nat} {zs : List Int} {st : Option (List Int)} (h : RwAt w B q zs st) : B ≤ q ∧ q < w.heap.size := by
  obtain ⟨x, c, t, ok, h0, _, _, _, _, h5, _⟩ := h
  exact ⟨h5, lt_of_block h0⟩
theorem RwAt.byt {w : World} {B q : Nat} {zs : List Int} {st : Option (List Int)} (h : RwAt w B q zs st) : Byt zs := by
  obtain ⟨x, c, t, ok, _, h1, _⟩ := h
  exact h1.2.1
theorem RwAt.other {w w' : World} {B q : Nat} {r : Option Nat} {zs : List Int} {st : Option (List Int)} (h : RwAt w B q zs st) (hg : w.grownBy w' r) (hq : r ≠ some q) (hB : ∀ i, r = some i → B ≤ i) : RwAt w' B q zs st := by
  obtain ⟨x, c, t, ok, h0, h1, h2, h3, h4, h5, h6⟩ := h
  have hlt := lt_of_block h0
  exact ⟨x, c, t, ok, (hg.block q hlt (fun e => hq e.symm)).trans h0, h1.lowP h4 ((Below.refl B w).grown hg (by omega) hB), h2, h3, h4, h5, h6⟩
theorem RwAt.below {w w' : World} {B q : Nat} {zs : List Int} {st : Option (List Int)} (h : RwAt w B q zs st) (hb : Below w.heap.size w w') : RwAt w' B q zs st :=
  h.other (r := none) (grown_of hb none) (by simp) (fun i e => by cases e)
theorem RwAt.rest {w : World} {B q : Nat} {zs rest : List Int} (h : RwAt w B q zs (some rest)) : rest.length ≤ zs.length := by
  obtain ⟨x, c, t, ok, _, _, _, _, _, _, _, h7⟩ := h
  rw [h7.2, List.length_drop]; omega
def takeQ (n : Nat) : Option (List Int) → List Int × Option (List Int)
  | none => ([], none)
  | some rest => if n ≤ rest.length then (rest.take n, some (rest.drop n)) else ([], none)
def numQ (n : Nat) (m : Int) : Option (List Int) → Int × Option (List Int)
  | none => (0, none)
  | some rest => if n ≤ rest.length ∧ getL rest 0 n ≤ m then (getL rest 0 n, some (rest.drop n)) else (0, none)
theorem numQ_pos {n : Nat} {m : Int} {st : Option (List Int)} (h : 0 < (numQ n m st).1) : ∃ rest, st = some rest ∧ n ≤ rest.length := by
  cases st with
  | none => exact absurd h (by simp [numQ])
  | some rest =>
    refine ⟨rest, rfl, ?_⟩
    by_cases h1 : n ≤ rest.length ∧ getL rest 0 n ≤ m
    · exact h1.1
    · exact absurd h (by simp [numQ, h1])
theorem getL_front (zs : List Int) (t : Nat) : ∀ k, getL zs t (k + 1) = zs.getD t 0 + 256 * getL zs (t + 1) k
  | 0 => by simp [getL]
  | k + 1 => by
    rw [getL, getL_front zs t k, getL, show t + 1 + k = t + (k + 1) by omega, Int.pow_succ, Int.mul_add]
    rw [show 256 * (zs.getD (t + (k + 1)) 0 * 256 ^ k) = zs.getD (t + (k + 1)) 0 * (256 ^ k * 256) by rw [Int.mul_comm (256 ^ k) 256, Int.mul_left_comm]]
    omega

structure TkV (w : World) (B q : Nat) (zs : List Int) (b : List Int) (st : Option (List Int)) (e : Ending) (w' : World) : Prop where
  v : ∃ a c, e = .returned (.slice a b.length c) ∧ Reads w' a b.length b ∧ b.length ≤ c ∧ c ≤ 9223372036854775807 ∧ (∀ y, a = some y → y.block < B)
  rw : RwAt w' B q zs st
  gr : w.grownBy w' (some q)
theorem reads_nil (w : World) : Reads w none 0 [] := ⟨rfl, (fun x hx => by cases hx), (fun _ => rfl), (fun x hx => by cases hx)⟩
theorem blk3_set {w : World} {q j : Nat} {c : Array Value} {t : TypeId} (h : w.heap[q]? = some (.cells c t (0, 0))) (v : Value) : (w.setCell ⟨q, j, none⟩ v).heap[q]? = some (.cells (c.setIfInBounds j v) t (0, 0)) := heap_setCell_same w q j _ _ v h
set_option maxHeartbeats 4000000 in
set_option maxRecDepth 100000 in
theorem take_dead (B q n : Nat) (zs : List Int) (w : World) (hR : RwAt w B q zs none) (hn : n ≤ 255) :
    Calls Try.prog 30 #[.pointer (some ⟨q, 0, none⟩), .int .i64 (n : Int)] w (TkV w B q zs [] none) := by
  obtain ⟨x, c, t, ok, h0, h1, h2, h3, h4, h5, h6, h7⟩ := hR
  simp only at h7
  subst h7
  have c0 := blk_cell h0 0 rfl
  have c1 := blk_cell h0 1 rfl
  have c2 := blk_cell h0 2 rfl
  have f2 := blk_free h0 2
  have hd : ∀ k, (TkV w B q zs [] none (.returned (.slice none 0 0)) ((w.drewN k).setCell ⟨q, 2, none⟩ (.bool false))) := by
    intro k
    have hlt := lt_of_block h0
    have hg : w.grownBy ((w.drewN k).setCell ⟨q, 2, none⟩ (.bool false)) (some q) := ⟨rfl, rfl, rfl, by simp, fun k hk hne => heap_setCell_other w ⟨q, 2, none⟩ k _ (fun e => hne (congrArg some e))⟩
    refine ⟨⟨none, 0, rfl, reads_nil _, Nat.le_refl _, by omega, fun y hy => by cases hy⟩, ⟨x, c, t, false, blk3_set (w := w.drewN k) h0 _, ?_, h2, h3, h4, h5, h6, rfl⟩, hg⟩
    exact h1.lowP h4 ((Below.refl B w).grown hg (by omega) (fun k hk => by cases hk; exact h5))
  have HD := hide hd
  clear h0 h1 h2 h3 h4 h5 h6 hd
  go_enter Try.func30, Try.ntmps30
  go_wp2
  go_quiet (fail)
  go_wp2
  go_ret
  exact HD.out _
set_option maxHeartbeats 4000000 in
set_option maxRecDepth 100000 in
theorem take_short (B q n : Nat) (zs rest : List Int) (w : World) (hR : RwAt w B q zs (some rest)) (hn : n ≤ 255) (hl : zs.length ≤ 140737488355000) (hs : rest.length < n) :
    Calls Try.prog 30 #[.pointer (some ⟨q, 0, none⟩), .int .i64 (n : Int)] w (TkV w B q zs [] none) := by
  obtain ⟨x, c, t, ok, h0, h1, h2, h3, h4, h5, h6, h7, h8⟩ := hR
  subst h7
  subst h8
  rw [List.length_drop] at hs
  obtain ⟨len, hlen⟩ : ∃ len, zs.length = len := ⟨_, rfl⟩
  rw [hlen] at h0 h2 h6 hl hs
  have c0 := blk_cell h0 0 rfl
  have c1 := blk_cell h0 1 rfl
  have c2 := blk_cell h0 2 rfl
  have f2 := blk_free h0 2
  have hd : ∀ k, (TkV w B q zs [] none (.returned (.slice none 0 0)) ((w.drewN k).setCell ⟨q, 2, none⟩ (.bool false))) := by
    intro k
    have hlt := lt_of_block h0
    have hg : w.grownBy ((w.drewN k).setCell ⟨q, 2, none⟩ (.bool false)) (some q) := ⟨rfl, rfl, rfl, by simp, fun k hk hne => heap_setCell_other w ⟨q, 2, none⟩ k _ (fun e => hne (congrArg some e))⟩
    refine ⟨⟨none, 0, rfl, reads_nil _, Nat.le_refl _, by omega, fun y hy => by cases hy⟩, ⟨x, c, t, false, by rw [hlen]; exact blk3_set (w := w.drewN k) h0 _, ?_, by omega, h3, h4, h5, by omega, rfl⟩, hg⟩
    exact h1.lowP h4 ((Below.refl B w).grown hg (by omega) (fun k hk => by cases hk; exact h5))
  have HD := hide hd
  obtain ⟨m, hm⟩ : ∃ m, len - t = m := ⟨_, rfl⟩
  have e1 : (len : Int) - (t : Int) = (m : Int) := by omega
  have e2 : IntKind.i64.wrap (m : Int) = (m : Int) := by rw [IntKind.wrap_i64]; omega
  have e3 : (m : Int) < (n : Int) := by omega
  have e3n : m < n := by omega
  clear h0 h1 h2 h3 h4 h5 h6 hd hm hlen hs hl
  go_enter Try.func30, Try.ntmps30
  go_wp2
  go_quiet (fail)
  go_wp2
  go_ret
  exact HD.out _
set_option maxHeartbeats 4000000 in
set_option maxRecDepth 100000 in
theorem take_ok (B q n : Nat) (zs rest : List Int) (w : World) (hR : RwAt w B q zs (some rest)) (hn : n ≤ 255) (hl : zs.length ≤ 140737488355000) (hs : n ≤ rest.length) (hz : zs ≠ []) :
    Calls Try.prog 30 #[.pointer (some ⟨q, 0, none⟩), .int .i64 (n : Int)] w (TkV w B q zs (rest.take n) (some (rest.drop n))) := by
  obtain ⟨x, c, t, ok, h0, h1, h2, h3, h4, h5, h6, h7, h8⟩ := hR
  subst h7
  subst h8
  rw [List.length_drop] at hs
  have hlz : 0 < zs.length := List.length_pos_iff.2 hz
  obtain ⟨b, off, rfl, hbw, _⟩ := h1.pos hlz
  obtain ⟨len, hlen⟩ : ∃ len, zs.length = len := ⟨_, rfl⟩
  have hlt := lt_of_block h0
  have hb : b < B := h4 _ rfl (by omega)
  have key : ∀ k k2 cc a, n ≤ cc → cc ≤ c → (0 < n → a = some (⟨b, off + t, none⟩ : Addr)) → (∀ y, a = some y → y.block < B) → TkV w B q zs ((zs.drop t).take n) (some ((zs.drop t).drop n)) (.returned (.slice a n cc)) (((w.drewN k).setCell ⟨q, 1, none⟩ (.int .i64 ((t + n : Nat) : Int))).drewN k2) := by
    intro k k2 cc a hcc1 hcc2 ha ha2
    have hg : w.grownBy (((w.drewN k).setCell ⟨q, 1, none⟩ (.int .i64 ((t + n : Nat) : Int))).drewN k2) (some q) := ⟨rfl, rfl, rfl, by simp, fun k hk hne => heap_setCell_other w ⟨q, 1, none⟩ k _ (fun e => hne (congrArg some e))⟩
    have hln : ((zs.drop t).take n).length = n := by rw [List.length_take, List.length_drop]; omega
    have hlow := ((Below.refl B w).grown hg (by omega) (fun k hk => by cases hk; exact h5))
    refine ⟨⟨a, cc, by rw [hln], ?_, by rw [hln]; exact hcc1, by omega, ha2⟩, ⟨some ⟨b, off, none⟩, c, t + n, true, blk3_set (w := w.drewN k) h0 _, h1.lowP h4 hlow, h2, h3, h4, h5, by omega, rfl, by rw [List.drop_drop]⟩, hg⟩
    rw [hln]
    by_cases hn0 : 0 < n
    · rw [ha hn0]
      exact ((h1.drop t h6).front n (by omega)).low (fun y hy => by cases hy; exact hb) hlow
    · have e0 : n = 0 := by omega
      subst e0
      exact ⟨by simp, fun y hy => by simp at hy, fun _ => rfl, fun y hy i hi => absurd hi (by omega)⟩
  have HK := hide key
  rw [hlen] at h0 h2 h6 hl hs
  have c0 := blk_cell h0 0 rfl
  have c1 := blk_cell h0 1 rfl
  have c2 := blk_cell h0 2 rfl
  have f1 := blk_free h0 1
  obtain ⟨m, hm⟩ : ∃ m, len - t = m := ⟨_, rfl⟩
  have e1 : (len : Int) - (t : Int) = (m : Int) := by omega
  have e2 : IntKind.i64.wrap (m : Int) = (m : Int) := by rw [IntKind.wrap_i64]; omega
  have e3 : decide ((m : Int) < (n : Int)) = false := decide_eq_false (by omega)
  have e3n : decide (m < n) = false := decide_eq_false (by omega)
  obtain ⟨tn, htn⟩ : ∃ tn, t + n = tn := ⟨_, rfl⟩
  rw [htn] at HK
  have e4 : (t : Int) + (n : Int) = (tn : Int) := by omega
  have e5 : IntKind.i64.wrap (tn : Int) = (tn : Int) := by rw [IntKind.wrap_i64]; omega
  have e6 : (tn : Int) - (n : Int) = (t : Int) := by omega
  have e7 : IntKind.i64.wrap (t : Int) = (t : Int) := by rw [IntKind.wrap_i64]; omega
  have g1 : (t : Int) ≤ (tn : Int) := by omega
  have g2 : (tn : Int) ≤ (c : Int) := by omega
  have g2n : tn ≤ c := by omega
  have g3 : (t : Int) ≤ (c : Int) := by omega
  have g4 : tn - t = n := by omega
  by_cases hc0 : c = t
  · have HZ := hide (show n = 0 by omega)
    have HK2 := hide (fun k k2 => HK.out k k2 0 (some ⟨b, off, none⟩) (by have := HZ.out; omega) (Nat.zero_le _) (fun h => absurd h (by have := HZ.out; omega)) (fun y hy => by cases hy; exact hb))
    have hq : (if c = t then some (⟨b, off, none⟩ : Addr) else some ⟨b, off + t, none⟩) = some ⟨b, off, none⟩ := by rw [if_pos hc0]
    clear h0 h1 h2 h3 h4 h5 h6 hm hlen hs hl htn key hbw hb hlz hz hlt
    go_enter Try.func30, Try.ntmps30
    go_wp2
    go_quiet (fail)
    go_wp2
    go_quiet (fail)
    go_wp2
    go_ret
    exact HK2.out _ _
  · have HK2 := hide (fun k k2 => HK.out k k2 (c - t) (some ⟨b, off + t, none⟩) (by omega) (Nat.sub_le _ _) (fun _ => rfl) (fun y hy => by cases hy; exact hb))
    have hq : (if c = t then some (⟨b, off, none⟩ : Addr) else some ⟨b, off + t, none⟩) = some ⟨b, off + t, none⟩ := by rw [if_neg hc0]
    clear h0 h1 h2 h3 h4 h5 h6 hm hlen hs hl htn key hbw hb hlz hz hlt
    go_enter Try.func30, Try.ntmps30
    go_wp2
    go_quiet (fail)
    go_wp2
    go_quiet (fail)
    go_wp2
    go_ret
    exact HK2.out _ _
theorem take_any (B q n : Nat) (zs : List Int) (st : Option (List Int)) (w : World) (hR : RwAt w B q zs st) (hn : n ≤ 255) (hl : zs.length ≤ 140737488355000) (hz : 0 < n ∨ zs ≠ []) :
    Calls Try.prog 30 #[.pointer (some ⟨q, 0, none⟩), .int .i64 (n : Int)] w (TkV w B q zs (takeQ n st).1 (takeQ n st).2) := by
  cases st with
  | none => exact take_dead B q n zs w hR hn
  | some rest =>
    by_cases hs : n ≤ rest.length
    · rw [show takeQ n (some rest) = (rest.take n, some (rest.drop n)) from if_pos hs]
      refine take_ok B q n zs rest w hR hn hl hs ?_
      rcases hz with h | h
      · intro e; have := hR.rest; have h9 : zs.length = 0 := by rw [e]; rfl
        omega
      · exact h
    · rw [show takeQ n (some rest) = ([], none) from if_neg hs]
      exact take_short B q n zs rest w hR hn hl (by omega)

/-- What a number is told as. -/
structure NmV (w : World) (B q : Nat) (zs : List Int) (v : Int) (st : Option (List Int)) (e : Ending) (w' : World) : Prop where
  v : e = .returned (.int .i64 v)
  rw : RwAt w' B q zs st
  gr : w.grownBy w' (some q)
set_option maxHeartbeats 4000000 in
set_option maxRecDepth 100000 in
/-- A number, out of bytes that were taken. -/
theorem num_of (B q n : Nat) (m V : Int) (zs b : List Int) (st1 : Option (List Int)) (w : World) (hq : q < w.heap.size) (hlb : b.length ≤ 8) (hby : Byt b) (hV : getL b 0 b.length = V) (r : Int × Option (List Int))
    (hT : Calls Try.prog 30 #[.pointer (some ⟨q, 0, none⟩), .int .i64 (n : Int)] w (TkV w B q zs b st1)) (hm : 0 ≤ m) (hm2 : m ≤ 4611686018427387904)
    (hr : r = if V ≤ m then (match st1 with | none => (0, none) | some x => (V, some x)) else (0, none)) :
    Calls Try.prog 14 #[.pointer (some ⟨q, 0, none⟩), .int .i64 (n : Int), .int .u64 m] w (NmV w B q zs r.1 r.2) := by
  have HT := hide hT
  obtain ⟨L, hL⟩ : ∃ L, b.length = L := ⟨_, rfl⟩
  rw [hL] at hlb hV
  have HLb := hide hL
  have HBy := hide hby
  have HV := hide hV
  have hVr := getL_range hby 0 L
  rw [hV] at hVr
  have HR := hide hr
  have HVR := hide hVr
  have hgf := fun k => getL_front b (L - (k + 1)) k
  have HGF := hide hgf
  clear hT hL hby hV hr hVr hgf
  go_enter Try.func14, Try.ntmps14
  go_wp2_with (go_at_call 30; refine HT.out.mono ?_; intro e u1 tk; obtain ⟨⟨a, c, rfl, rr, hc1, hc2, hc3⟩, rw1, g1⟩ := tk; rw [HLb.out] at rr ⊢; have HRR := hide rr; have HRW := hide rw1; have HG := hide g1; clear rr rw1 g1 hc1 hc2 hc3)
  go_loopw [8, 9] (fun s8 s9 wr => ∃ (k : Nat) (x : Int), k ≤ L ∧ s9 = .int .i64 ((L : Int) - 1 - k) ∧ s8 = .int .u64 x ∧ Hid (x = getL b (L - k) k) ∧ wr = u1)
    (fun _ s9 _ => (intOf s9 + 1).toNat)
  case atStart => exact ⟨0, 0, Nat.zero_le _, by go_num, rfl, rfl, rfl⟩
  case round =>
    obtain ⟨k, x, hk, rfl, rfl, HX, rfl⟩ := hrel
    by_cases hlt : k < L
    · obtain ⟨g, off, rfl, hg, hcell⟩ := HRR.out.pos (by omega)
      obtain ⟨j, hj⟩ : ∃ j, L - (k + 1) = j := ⟨_, rfl⟩
      have hcx := hcell j (by omega)
      have hLk : L - k = j + 1 := by omega
      obtain ⟨z, hz⟩ : ∃ z, b.getD j 0 = z := ⟨_, rfl⟩
      rw [hz] at hcx
      have hzr := byteAt HBy.out j
      rw [hz] at hzr
      have hxr := getL_range HBy.out (L - k) k
      rw [← HX.out] at hxr
      have hp : (256 : Int) ^ k ≤ 256 ^ 7 := pow256_le (by omega)
      have e7 : (256 : Int) ^ 7 = 72057594037927936 := by decide
      rw [e7] at hp
      have hst := HGF.out k
      rw [hj, hz] at hst
      have HS : Hid (256 * x + z = getL b (L - (k + 1)) (k + 1)) := by show _ = _; rw [hj, hst, HX.out, hLk]; omega
      have e1 : (L : Int) - 1 - (k : Int) = (j : Int) := by omega
      have hx1 : 256 * x + z < 18446744073709551616 := by omega
      have e2 : IntKind.u64.wrap (256 * x) = 256 * x := by rw [IntKind.wrap_u64]; omega
      have e3 : IntKind.u64.wrap (256 * x + z) = 256 * x + z := by rw [IntKind.wrap_u64]; omega
      have e4 : (j : Int) < L := by omega
      have HE := hide (show (j : Int) - 1 = (L : Int) - 1 - ((k + 1 : Nat) : Int) by omega)
      have hx0 := hxr.1
      have HK1 := hide (show k + 1 ≤ L by omega)
      clear hst hz hxr hp e7 hj hLk hcell hx1
      rw [e1]
      go_wp2
      go_roundw
      case rel => exact ⟨k + 1, 256 * x + z, HK1.out, by rw [← HE.out], rfl, HS, trivial⟩
      case measure => first | (simp [intOf]; done) | (simp [intOf]; omega)
    · have hkL : k = L := by omega
      have HXV := hide (show x = V by rw [HX.out, hkL, Nat.sub_self]; exact HV.out)
      have e1 : (L : Int) - 1 - (k : Int) = -1 := by omega
      rw [e1]
      obtain ⟨x9, c9, t9, ok9, h0, h1, h2, h3, h4, h5, h6, h7⟩ := HRW.out
      have c0 := blk_cell h0 2 rfl
      have f0 := blk_free h0 2
      have hx : x = V := HXV.out
      clear HX HXV hkL e1 hlt
      subst hx
      by_cases hbig : x ≤ m
      · have e2 : decide (m < x) = false := decide_eq_false (by omega)
        rw [if_pos hbig] at HR
        cases st1 with
        | none =>
          simp only at h7
          subst h7
          have HRV := hide HR.out
          clear h0 h1 h2 h3 h4 h5 h6
          go_wp2
          go_ret
          rw [HR.out]
          exact ⟨rfl, HRW.out, HG.out⟩
        | some y =>
          obtain ⟨h7, h8⟩ := h7
          subst h7
          have hvx := HVR.out
          have e3 : IntKind.i64.wrap x = x := by rw [IntKind.wrap_i64]; omega
          clear h0 h1 h2 h3 h4 h5 h6 h8 hvx
          go_wp2
          go_ret
          rw [HR.out]
          exact ⟨rfl, HRW.out, HG.out⟩
      · have e2 : m < x := by omega
        rw [if_neg hbig] at HR
        have hq1 := lt_of_block h0
        have hfin : NmV w B q zs 0 none (.returned (.int .i64 0)) (wr.setCell ⟨q, 2, none⟩ (.bool false)) := by
          have hg2 := set_grown wr q 2 (.bool false)
          refine ⟨rfl, ⟨x9, c9, t9, false, blk3_set h0 _, ?_, h2, h3, h4, h5, h6, rfl⟩, grownBy_trans HG.out hg2⟩
          exact h1.lowP h4 ((Below.refl B wr).grown hg2 (by omega) (fun k hk => by cases hk; exact h5))
        have HFI := hide hfin
        clear h0 h1 h2 h3 h4 h5 h6 h7 hfin hq1
        go_wp2
        go_ret
        rw [HR.out]
        exact HFI.out
theorem rnum_any (B q n : Nat) (m : Int) (zs : List Int) (st : Option (List Int)) (w : World) (hR : RwAt w B q zs st) (hn1 : 1 ≤ n) (hn : n ≤ 8) (hl : zs.length ≤ 140737488355000) (hm : 0 ≤ m) (hm2 : m ≤ 4611686018427387904) :
    Calls Try.prog 14 #[.pointer (some ⟨q, 0, none⟩), .int .i64 (n : Int), .int .u64 m] w (NmV w B q zs (numQ n m st).1 (numQ n m st).2) := by
  have hT := take_any B q n zs st w hR (by omega) hl (Or.inl hn1)
  have hbz := hR.byt
  cases st with
  | none => exact num_of B q n m 0 zs [] none w hR.lt.2 (by simp) (fun x hx => by cases hx) rfl _ hT hm hm2 (by rw [if_pos hm]; rfl)
  | some rest =>
    have hbr : Byt rest := by
      obtain ⟨_, _, _, _, _, _, _, _, _, _, _, _, h8⟩ := hR
      rw [h8]; exact fun x hx => hbz x (List.mem_of_mem_drop hx)
    by_cases hs : n ≤ rest.length
    · rw [show takeQ n (some rest) = (rest.take n, some (rest.drop n)) from if_pos hs] at hT
      have hln : (rest.take n).length = n := by rw [List.length_take]; omega
      refine num_of B q n m (getL rest 0 n) zs (rest.take n) (some (rest.drop n)) w hR.lt.2 (by omega) (fun x hx => hbr x (List.mem_of_mem_take hx)) (by rw [hln]; exact getL_take rest n n (Nat.le_refl _)) _ hT hm hm2 ?_
      by_cases hv : getL rest 0 n ≤ m
      · rw [if_pos hv]; exact if_pos ⟨hs, hv⟩
      · rw [if_neg hv]; exact if_neg (fun h => hv h.2)
    · rw [show takeQ n (some rest) = ([], none) from if_neg hs] at hT
      exact num_of B q n m 0 zs [] none w hR.lt.2 (by simp) (fun x hx => by cases hx) rfl _ hT hm hm2 (by rw [if_pos hm]; exact if_neg (fun h => hs h.1))
end Go.Proofs.Ytoaahellfflooaa
