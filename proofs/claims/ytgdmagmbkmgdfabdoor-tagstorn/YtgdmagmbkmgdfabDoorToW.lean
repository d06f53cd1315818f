/-
  SEAT YtgdmagmbkmgdfabDoor: TagsTorn: the walks.
-/
import Derived.Test.YtgdmagmbkmgdfabDoorToP
import Derived.Test.YtgdmagmbkmgdfabDoorHd
import Derived.Deep.DeepCutAuto
import Derived.Deep.CutRange
namespace Go.Proofs.YtgdmagmbkmgdfabDoor
open Go.RowKit
set_option linter.unusedVariables false

/-- How all stands while TagsTorn goes on. -/
structure To (w0 w : World) (n0 n1 n2 n3 n4 n5 n6 n7 : Int) (g c gt ct : Nat) (xs ys : List Nat) : Prop where
  bx : Box w w0.heap.size n0 n1 n2 n3 n4 n5 n6 n7
  l : Own w (w0.heap.size + 1) g 54 c (cst xs)
  t : Own w (w0.heap.size + 1) gt 54 ct (cst ys)
  ne : g ≠ gt
  bel : Below w0.heap.size w0 w
  tab : Tab w

section
variable {w0 w w' : World} {n0 n1 n2 n3 n4 n5 n6 n7 : Int} {g c gt ct : Nat} {xs ys : List Nat}
theorem To.below (h : To w0 w n0 n1 n2 n3 n4 n5 n6 n7 g c gt ct xs ys) (hb : Below w.heap.size w w') : To w0 w' n0 n1 n2 n3 n4 n5 n6 n7 g c gt ct xs ys :=
  ⟨h.bx.below hb, h.l.below hb, h.t.below hb, h.ne, h.bel.trans (hb.mono h.bel.size), h.tab.below hb⟩
theorem To.setT (h : To w0 w n0 n1 n2 n3 n4 n5 n6 n7 g c gt ct xs ys) (k v : Nat) : To w0 (w.setCell ⟨gt, k, none⟩ (.int .u8 (v : Int))) n0 n1 n2 n3 n4 n5 n6 n7 g c gt ct xs (ys.set k v) := by
  obtain ⟨h1, h2⟩ := h.t.set k (v : Int)
  rw [cst_set] at h1
  exact ⟨box_grown h.bx h.t h2, World.ownsRow.kept h.l h2 (Or.inr fun e => h.ne (Option.some.inj e)), h1, h.ne, h.bel.grown h2 h.bel.size (fun q hq => by cases hq; have := h.t.lt.1; omega), tab_grown h.tab h.t (by omega) h2⟩
theorem To.setL (h : To w0 w n0 n1 n2 n3 n4 n5 n6 n7 g c gt ct xs ys) (k v : Nat) : To w0 (w.setCell ⟨g, k, none⟩ (.int .u8 (v : Int))) n0 n1 n2 n3 n4 n5 n6 n7 g c gt ct (xs.set k v) ys := by
  obtain ⟨h1, h2⟩ := h.l.set k (v : Int)
  rw [cst_set] at h1
  exact ⟨box_grown h.bx h.l h2, h1, World.ownsRow.kept h.t h2 (Or.inr fun e => h.ne (Option.some.inj e).symm), h.ne, h.bel.grown h2 h.bel.size (fun q hq => by cases hq; have := h.l.lt.1; omega), tab_grown h.tab h.l (by omega) h2⟩
theorem To.start {u1 u2 wA : World} {L : List Nat} (hs : w0.heap.size + 1 ≤ u1.heap.size) (h12 : u1.heap.size ≤ u2.heap.size) (bx : Box u2 w0.heap.size n0 n1 n2 n3 n4 n5 n6 n7) (o2 : Own u2 u1.heap.size g 54 c (cst L)) (bel : Below w0.heap.size w0 u2) (tab : Tab u2) (bA : Below u2.heap.size u2 wA) (oA : Own wA u2.heap.size gt 54 ct (cst L)) : To w0 wA n0 n1 n2 n3 n4 n5 n6 n7 g c gt ct L L :=
  ⟨bx.below bA, own_dn (o2.below bA) hs, own_dn oA (by omega), by have := o2.lt.2; have := oA.lt.1; omega, bel.trans (bA.mono bel.size), tab.below bA⟩
end

theorem lits2 {w : World} {B n : Nat} {v : Value} {xs : List Int} (h : w.ownsRow B 5 1 v n (xs.map (Value.int .u8))) (hn : 0 < n) : ∃ g c, v = .slice (some ⟨g, 0, none⟩) n c := by
  obtain ⟨g, c, e, _⟩ := own_shape h hn
  exact ⟨g, c, e⟩

theorem mix_got (T L : List Nat) (k : Nat) (hk : k < L.length) (hl : T.length = L.length) : (T.take (k + 1) ++ L.drop (k + 1)).getD k 0 = T.getD k 0 := by
  rw [List.getD_eq_getElem?_getD, List.getElem?_append_left (by simp; omega), List.getElem?_take_of_lt (by omega), ← List.getD_eq_getElem?_getD]

theorem rem432 (a : Int) : ∃ t : Int, ∃ I : Nat, a.tmod 432 = t ∧ I < 432 ∧ -432 < t ∧ t < 432 ∧ ((t < 0 ∧ t + 432 = (I : Int)) ∨ (0 ≤ t ∧ t = (I : Int))) := by
  have h1 : a.tmod 432 < 432 := Int.tmod_lt_of_pos a (by omega)
  have h2 : -432 < a.tmod 432 := Int.lt_tmod_of_pos a (by omega)
  by_cases h : a.tmod 432 < 0
  · exact ⟨_, (a.tmod 432 + 432).toNat, rfl, by omega, h2, h1, Or.inl ⟨h, by omega⟩⟩
  · exact ⟨_, (a.tmod 432).toNat, rfl, by omega, h2, h1, Or.inr ⟨by omega, by omega⟩⟩

set_option maxHeartbeats 1000000 in
set_option maxRecDepth 100000 in
theorem tornNo (n0 n1 n2 n3 n4 n5 n6 n7 : Int) (a1 : Option Addr) (len1 cap1 : Nat) (up : Bool) (i3 i4 : Int) (w : World) (hT : Tab w) (h2 : 0 ≤ n2) (h3 : 0 ≤ n3) (hf : ¬ Fits [un n0, un n1, n2, n3, un n4, un n5, un n6, un n7] 8) :
    Calls Tryd.prog 3 #[T8 n0 n1 n2 n3 n4 n5 n6 n7, .slice a1 len1 cap1, .bool up, .int .i64 i3, .int .i64 i4] w fun e w' => e = .returned (.bool true) ∧ Below w.heap.size w w' := by
  have HT : Hid (Tab w) := hT
  have HF : Hid (¬ Fits [un n0, un n1, n2, n3, un n4, un n5, un n6, un n7] 8) := hf
  have HBX : Hid (∀ u, Below (w.heap.size + 1) (w.alloc (.cells #[.int .i64 n0, .int .i64 n1, .int .u64 n2, .int .u64 n3, .int .i64 n4, .int .i64 n5, .int .i64 n6, .int .i64 n7] 24)) u → Box u w.heap.size n0 n1 n2 n3 n4 n5 n6 n7) := fun u hu => (Box.made w n0 n1 n2 n3 n4 n5 n6 n7).below (by simpa using hu)
  clear hT hf
  go_enter Tryd.func3, Tryd.ntmps3
  go_wp2_with (first
    | (go_at_call 5; refine (heads_any _ ?_).mono ?_; exact HT.out.below ((Below.refl w.heap.size w).alloc (Nat.le_refl _) _); rintro e u1 ⟨rfl, b1⟩; simp only [size_al] at b1; have bx1 := HBX.out u1 b1; obtain ⟨⟨x0, x1, x2, x3, x4, x5, x6, x7⟩, _⟩ := t8_cells bx1; have bw1 := ((Below.refl w.heap.size w).alloc (Nat.le_refl _) (.cells #[.int .i64 n0, .int .i64 n1, .int .u64 n2, .int .u64 n3, .int .i64 n4, .int .i64 n5, .int .i64 n6, .int .i64 n7] 24)).trans (b1.mono (by omega)); clear b1 bx1)
    | (go_at_call 6; refine (tlay_no n0 n1 n2 n3 n4 n5 n6 n7 _ ?_ h2 h3 HF.out).mono ?_; exact HT.out.below bw1; rintro e u2 ⟨rfl, b2⟩; have bw2 := bw1.trans (b2.mono bw1.size); clear bw1 b2)
    | (go_at_call 7; refine (no_any _ _).mono ?_; rintro e u ⟨rfl, rfl⟩))
  go_ret
  exact ⟨rfl, bw2⟩

set_option maxHeartbeats 4000000 in
set_option maxRecDepth 100000 in
theorem tornYes (n0 n1 n2 n3 n4 n5 n6 n7 : Int) (a1 : Option Addr) (len1 cap1 : Nat) (z1 : List Int) (up : Bool) (i3 i4 : Int) (w : World) (hT : Tab w) (h2 : 0 ≤ n2) (h3 : 0 ≤ n3) (hs : Small n0 n1 n2 n3 n4 n5 n6 n7) (hf : Fits [un n0, un n1, n2, n3, un n4, un n5, un n6, un n7] 8) (w1 : Reads w a1 len1 z1) (s1 : len1 ≤ 140737488351232) (hb3 : -9223372036854775808 ≤ i3 ∧ i3 ≤ 9223372036854775807) (hb4 : -9223372036854775808 ≤ i4 ∧ i4 ≤ 9223372036854775807) :
    Calls Tryd.prog 3 #[T8 n0 n1 n2 n3 n4 n5 n6 n7, .slice a1 len1 cap1, .bool up, .int .i64 i3, .int .i64 i4] w fun e w' => e = .returned (.bool true) ∧ Below w.heap.size w w' := by
  obtain ⟨L, hL⟩ := lain_of n0 n1 n2 n3 n4 n5 n6 n7 h2 h3 hs
  obtain ⟨hc1, hx1⟩ := cst_of z1 w1.2.1
  obtain ⟨ms, hms⟩ : ∃ ms, ms = z1.map Int.toNat := ⟨_, rfl⟩
  rw [← hms] at hc1 hx1
  have hml : ms.length = len1 := by rw [hms, List.length_map]; exact w1.1
  subst hc1
  clear hms
  obtain ⟨T, hTT⟩ : ∃ T, tornL up L ms = T := ⟨_, rfl⟩
  have hTl : T.length = L.length := by rw [← hTT, tornL_length]
  have hG := hL.torn up ms hx1
  rw [hTT] at hG
  have hat : ∀ k, k < 54 → T.getD k 0 = opN up (L.getD k 0) (ms.getD k 0) := fun k hk => by rw [← hTT]; exact tornL_getD up L ms k (by rw [hL.len]; exact hk)
  have hend := torn_end up L ms hL.lt
  rw [hTT, hL.len] at hend
  obtain ⟨ta, I, hta, hI, ta1, ta2, hIa⟩ := rem432 i3
  obtain ⟨tb, J, htb, hJ, tb1, tb2, hJb⟩ := rem432 i4
  have HLL : Hid (Lain n0 n1 n2 n3 n4 n5 n6 n7 L) := hL
  have HLN : Hid (L.length = 54) := hL.len
  have HTL : Hid (T.length = L.length) := hTl
  have HG : Hid (Good n0 n1 n2 n3 n4 n5 n6 n7 T (((chgL L T (8 * 54)).length : Nat) : Int)) := hG
  have HT256 : Hid (∀ x ∈ T, x < 256) := hG.1
  have HM256 : Hid (∀ x ∈ ms, x < 256) := hx1
  have HAT : Hid (∀ k, k < 54 → T.getD k 0 = opN up (L.getD k 0) (ms.getD k 0)) := hat
  have HEND : Hid (∀ k, k ≤ 54 → 54 ≤ k ∨ ms.length ≤ k → T.take k ++ L.drop k = T ∧ chgL L T (8 * 54) = chgL L T (8 * k)) := hend
  have HW1 : Hid (Reads w a1 len1 (cst ms)) := w1
  have HIJ : Hid ((ta < 0 ∧ ta + 432 = (I : Int)) ∨ (0 ≤ ta ∧ ta = (I : Int))) := hIa
  have HJJ : Hid ((tb < 0 ∧ tb + 432 = (J : Int)) ∨ (0 ≤ tb ∧ tb = (J : Int))) := hJb
  have HML : Hid (ms.length = len1) := hml
  have HT : Hid (Tab w) := hT
  have HC6 : Hid (∀ u, Tab u → Calls Tryd.prog 6 #[T8 n0 n1 n2 n3 n4 n5 n6 n7] u fun e w' => (∃ g c, e = .returned (.tuple #[.slice (some ⟨g, 0, none⟩) 54 c, .int .i64 0]) ∧ Own w' u.heap.size g 54 c (cst L)) ∧ Below u.heap.size u w') := fun u hu => (tlay_yes n0 n1 n2 n3 n4 n5 n6 n7 u hu h2 h3 hf hs).mono fun e w' ⟨⟨g, c, he, ho⟩, hb⟩ => ⟨⟨g, c, he, by rw [← hL.eq]; exact ho⟩, hb⟩
  have HBX : Hid (∀ u, Below (w.heap.size + 1) (w.alloc (.cells #[.int .i64 n0, .int .i64 n1, .int .u64 n2, .int .u64 n3, .int .i64 n4, .int .i64 n5, .int .i64 n6, .int .i64 n7] 24)) u → Box u w.heap.size n0 n1 n2 n3 n4 n5 n6 n7) := fun u hu => (Box.made w n0 n1 n2 n3 n4 n5 n6 n7).below (by simpa using hu)
  have g0 : Hid True := trivial
  clear hL hx1 hTT hTl hG hat hend hIa hJb hT w1 hs hf h2 h3 hml
  go_enter Tryd.func3, Tryd.ntmps3
  go_wp2_with (first
    | (go_at_call 5; have h9 := g0; clear h9; refine (heads_any _ ?_).mono ?_; exact HT.out.below ((Below.refl w.heap.size w).alloc (Nat.le_refl _) _); rintro e u1 ⟨rfl, b1⟩; simp only [size_al] at b1; have sz1 : w.heap.size + 1 ≤ u1.heap.size := (by have := b1.size; simp at this; omega); have bx1 := HBX.out u1 b1; obtain ⟨⟨x0, x1, x2, x3, x4, x5, x6, x7⟩, _⟩ := t8_cells bx1; have bw1 := ((Below.refl w.heap.size w).alloc (Nat.le_refl _) (.cells #[.int .i64 n0, .int .i64 n1, .int .u64 n2, .int .u64 n3, .int .i64 n4, .int .i64 n5, .int .i64 n6, .int .i64 n7] 24)).trans (b1.mono (by omega)); clear b1 g0 HBX)
    | (go_at_call 6; have h9 := bx1; clear h9; refine Calls.mono (HC6.out _ ?_) ?_; exact HT.out.below bw1; rintro e u2 ⟨⟨g, c, rfl, o2⟩, b2⟩; have bx2 := bx1.below b2; have bw2 := bw1.trans (b2.mono bw1.size); have sz2 := b2.size; have qa := (o2.all (cst_range _ HLL.out.lt)).below ((Below.refl u2.heap.size u2).alloc (Nat.le_refl _) (.cells #[] 5)); clear bx1 bw1 b2 x0 x1 x2 x3 x4 x5 x6 x7 HC6)
    | (go_at_call 7; refine (no_any _ _).mono ?_; rintro e u ⟨rfl, rfl⟩)
    | (at_builtin; have h9 := qa; clear h9; refine wpList_append_reads rfl (.tmp 35) (.tmp 36) rfl u2.heap.size _ _ [] rfl (made0 u2) _ _ _ (cst L) rfl qa (by omega) (by simp) ?_; intro vA wA hownA hgrowA; simp only [Nat.zero_add, List.nil_append] at hownA; obtain ⟨gt, ct, hvA⟩ := lits2 hownA (by omega); subst hvA; have bA : Below u2.heap.size u2 wA := (((Below.refl _ _).alloc (Nat.le_refl _) _).grown hgrowA (by simp) (fun k hk => ((made0 u2).lt k hk).1)); have st : Hid (To w wA n0 n1 n2 n3 n4 n5 n6 n7 g c gt ct L L) := To.start sz1 sz2 bx2 o2 bw2 (HT.out.below bw2) bA hownA; clear qa hownA hgrowA bA bx2 bw2 o2 sz1 sz2))
  go_loopw [14, 15] (fun v i wr => ∃ k d : Nat, k ≤ 54 ∧ i = .int .i64 k ∧ v = .int .i64 (d : Int) ∧ d ≤ 8 * k ∧ Hid (d = (chgL L T (8 * k)).length) ∧ Hid (To w wr n0 n1 n2 n3 n4 n5 n6 n7 g c gt ct L (T.take k ++ L.drop k)))
    (fun _ i _ => 54 - (intOf i).toNat)
  case atStart => exact ⟨0, 0, by omega, rfl, rfl, by omega, rfl, by unfold Hid; simpa using st.out⟩
  case round =>
    obtain ⟨k, d, hk, rfl, rfl, hd, HD, HTO⟩ := hrel
    clear st
    by_cases hin : k < 54 ∧ k < len1
    · obtain ⟨x, hx⟩ : ∃ x, x = L.getD k 0 := ⟨_, rfl⟩
      obtain ⟨y, hy⟩ : ∃ y, y = T.getD k 0 := ⟨_, rfl⟩
      obtain ⟨m, hmm⟩ : ∃ m, m = ms.getD k 0 := ⟨_, rfl⟩
      obtain ⟨e, he⟩ : ∃ e, e = y ^^^ x := ⟨_, rfl⟩
      have x256 : x < 256 := by rw [hx]; exact at_lt HLL.out.lt _
      have y256 : y < 256 := by rw [hy]; exact at_lt HT256.out _
      have m256 : m < 256 := by rw [hmm]; exact at_lt HM256.out _
      have e256 : e < 256 := by rw [he]; exact Nat.xor_lt_two_pow (n := 8) y256 x256
      have hxr : bits .xor .u8 (y : Int) (x : Int) = (e : Int) := by rw [he]; exact u8_xor_nat y x y256 x256
      have hyo : y = opN up x m := by rw [hy, hx, hmm]; exact HAT.out k hin.1
      have hlc := HTO.out.l.cell k hin.1
      rw [cst_getD, ← hx] at hlc
      have htc := HTO.out.t.cell k hin.1
      rw [cst_getD, mix_getD T L k (by rw [HLN.out]; exact hin.1) HTL.out, ← hx] at htc
      have hfz : wr.frozen? ⟨gt, k, none⟩ = false := World.ownsRow.frozenAt HTO.out.t k
      obtain ⟨b, off, rfl, hb, hcell⟩ := HW1.out.pos (by omega)
      have hmc : wr.cell? ⟨b, off + k, none⟩ = some (.int .u8 (m : Int)) := by
        have h3 := hcell k hin.2
        rw [cst_getD, ← hmm] at h3
        rw [HTO.out.bel.cell (by exact hb)]
        exact h3
      have HS : Hid (∀ u, Below wr.heap.size wr u → To w (u.setCell ⟨gt, k, none⟩ (.int .u8 (y : Int))) n0 n1 n2 n3 n4 n5 n6 n7 g c gt ct L (T.take (k + 1) ++ L.drop (k + 1))) := fun u hu => by
        have h3 := (HTO.out.below hu).setT k y
        rw [hy, mix_set T L k (by rw [HLN.out]; exact hin.1) HTL.out, ← hy] at h3
        exact h3
      have HX : Hid (x = L.getD k 0) := hx
      have HY : Hid (y = T.getD k 0) := hy
      have HE : Hid (e = y ^^^ x) := he
      have m1 : (k : Int) < 54 := by omega
      have hd1 : decide ((k : Int) < 54) = true := decide_eq_true m1
      have m3 : (k : Int) < (len1 : Int) := by omega
      have hd3 : decide ((k : Int) < (len1 : Int)) = true := decide_eq_true m3
      obtain ⟨mx, hmxe⟩ : ∃ mx, mx = m ^^^ 255 := ⟨_, rfl⟩
      have mx256 : mx < 256 := by rw [hmxe]; exact Nat.xor_lt_two_pow (n := 8) m256 (by decide)
      have hmx : bits .xor .u8 (m : Int) 255 = (mx : Int) := by rw [hmxe]; exact u8_xor_nat m 255 m256 (by decide)
      have hup : up = true → bits .or .u8 (x : Int) (m : Int) = (y : Int) := fun h => by rw [u8_or_nat x m x256 m256, hyo, h]; rfl
      have hdn : up = false → bits .and .u8 (x : Int) (mx : Int) = (y : Int) := fun h => by rw [u8_and_nat x mx x256 mx256, hyo, h, hmxe]; rfl
      clear hcell hx hy hmm he hyo hmxe HW1 HM256 HAT HEND
      cases up
      · have hop := hdn rfl
        clear hup hdn
        go_wp2
        go_region
        go_wp2
        go_loopw [14, 16] (fun v i wr => ∃ t d2 : Nat, t ≤ 8 ∧ i = .int .i64 t ∧ v = .int .i64 (d2 : Int) ∧ d2 ≤ 8 * k + t ∧ Hid (d2 = (chgL L T (8 * k + t)).length) ∧ Hid (To w wr n0 n1 n2 n3 n4 n5 n6 n7 g c gt ct L (T.take (k + 1) ++ L.drop (k + 1))))
          (fun _ i _ => 8 - (intOf i).toNat)
        case atStart => exact ⟨0, d, by omega, rfl, rfl, by omega, HD, (by first | exact HS.out _ ((Below.refl _ _).drew) | exact HS.out _ (below_drewN (Below.refl _ _) _) | exact (HS.out _ (Below.refl _ _)).below ((Below.refl _ _).drew) | exact HS.out _ (Below.refl _ _))⟩
        case round =>
          obtain ⟨t, d2, ht, rfl, rfl, hd2, HD2, HT2⟩ := hrel
          clear hlc htc hfz hmc HTO HS
          by_cases hlt2 : t < 8
          · have hb := bit8 t hlt2 e e256
            obtain ⟨b0, hb0⟩ : ∃ b0, b0 = e / 2 ^ t % 2 := ⟨_, rfl⟩
            rw [← hb0] at hb
            have hlc := HT2.out.l.cell k hin.1
            rw [cst_getD, ← HX.out] at hlc
            have htc := HT2.out.t.cell k hin.1
            rw [cst_getD, mix_got T L k (by rw [HLN.out]; exact hin.1) HTL.out, ← HY.out] at htc
            have m2 : (t : Int) < 8 := by omega
            have hd2' : decide ((t : Int) < 8) = true := decide_eq_true m2
            have hb1 : b0 = 0 ∨ b0 = 1 := by omega
            rcases hb1 with rfl | rfl
            · have HC : Hid (chgL L T (8 * k + t + 1) = chgL L T (8 * k + t)) := chg_succ0 L T k t hlt2 (by rw [← HX.out, ← HY.out, Nat.xor_comm, ← HE.out, ← hb0])
              clear hb0
              go_wp2
              go_quiet (fail)
              go_wp2
              go_roundw
              case rel => exact ⟨t + 1, d2, by omega, by go_num, rfl, by omega, by unfold Hid; rw [← Nat.add_assoc, HC.out]; exact HD2.out, HT2.out.below (below_drewN (Below.refl _ _) _)⟩
              case measure => simp [intOf]; omega
            · have HC : Hid (chgL L T (8 * k + t + 1) = chgL L T (8 * k + t) ++ [8 * k + t]) := chg_succ1 L T k t hlt2 (by rw [← HX.out, ← HY.out, Nat.xor_comm, ← HE.out, ← hb0])
              clear hb0
              go_wp2
              go_quiet (fail)
              go_wp2
              go_roundw
              case rel => exact ⟨t + 1, d2 + 1, by omega, by go_num, by go_num, by omega, by unfold Hid; rw [← Nat.add_assoc, HC.out, List.length_append, ← HD2.out]; rfl, HT2.out.below (below_drewN (Below.refl _ _) _)⟩
              case measure => simp [intOf]; omega
          · have ht8 : t = 8 := by omega
            subst ht8
            go_wp2
            go_roundw
            case rel => exact ⟨k + 1, d2, by omega, by go_num, rfl, by omega, HD2, HT2⟩
            case measure => simp [intOf]; omega
      · have hop := hup rfl
        clear hup hdn
        go_wp2
        go_region
        go_wp2
        go_loopw [14, 16] (fun v i wr => ∃ t d2 : Nat, t ≤ 8 ∧ i = .int .i64 t ∧ v = .int .i64 (d2 : Int) ∧ d2 ≤ 8 * k + t ∧ Hid (d2 = (chgL L T (8 * k + t)).length) ∧ Hid (To w wr n0 n1 n2 n3 n4 n5 n6 n7 g c gt ct L (T.take (k + 1) ++ L.drop (k + 1))))
          (fun _ i _ => 8 - (intOf i).toNat)
        case atStart => exact ⟨0, d, by omega, rfl, rfl, by omega, HD, (by first | exact HS.out _ ((Below.refl _ _).drew) | exact HS.out _ (below_drewN (Below.refl _ _) _) | exact (HS.out _ (Below.refl _ _)).below ((Below.refl _ _).drew) | exact HS.out _ (Below.refl _ _))⟩
        case round =>
          obtain ⟨t, d2, ht, rfl, rfl, hd2, HD2, HT2⟩ := hrel
          clear hlc htc hfz hmc HTO HS
          by_cases hlt2 : t < 8
          · have hb := bit8 t hlt2 e e256
            obtain ⟨b0, hb0⟩ : ∃ b0, b0 = e / 2 ^ t % 2 := ⟨_, rfl⟩
            rw [← hb0] at hb
            have hlc := HT2.out.l.cell k hin.1
            rw [cst_getD, ← HX.out] at hlc
            have htc := HT2.out.t.cell k hin.1
            rw [cst_getD, mix_got T L k (by rw [HLN.out]; exact hin.1) HTL.out, ← HY.out] at htc
            have m2 : (t : Int) < 8 := by omega
            have hd2' : decide ((t : Int) < 8) = true := decide_eq_true m2
            have hb1 : b0 = 0 ∨ b0 = 1 := by omega
            rcases hb1 with rfl | rfl
            · have HC : Hid (chgL L T (8 * k + t + 1) = chgL L T (8 * k + t)) := chg_succ0 L T k t hlt2 (by rw [← HX.out, ← HY.out, Nat.xor_comm, ← HE.out, ← hb0])
              clear hb0
              go_wp2
              go_quiet (fail)
              go_wp2
              go_roundw
              case rel => exact ⟨t + 1, d2, by omega, by go_num, rfl, by omega, by unfold Hid; rw [← Nat.add_assoc, HC.out]; exact HD2.out, HT2.out.below (below_drewN (Below.refl _ _) _)⟩
              case measure => simp [intOf]; omega
            · have HC : Hid (chgL L T (8 * k + t + 1) = chgL L T (8 * k + t) ++ [8 * k + t]) := chg_succ1 L T k t hlt2 (by rw [← HX.out, ← HY.out, Nat.xor_comm, ← HE.out, ← hb0])
              clear hb0
              go_wp2
              go_quiet (fail)
              go_wp2
              go_roundw
              case rel => exact ⟨t + 1, d2 + 1, by omega, by go_num, by go_num, by omega, by unfold Hid; rw [← Nat.add_assoc, HC.out, List.length_append, ← HD2.out]; rfl, HT2.out.below (below_drewN (Below.refl _ _) _)⟩
              case measure => simp [intOf]; omega
          · have ht8 : t = 8 := by omega
            subst ht8
            go_wp2
            go_roundw
            case rel => exact ⟨k + 1, d2, by omega, by go_num, rfl, by omega, HD2, HT2⟩
            case measure => simp [intOf]; omega
    · have hex : 54 ≤ k ∨ ms.length ≤ k := by rw [HML.out]; omega
      obtain ⟨e1, e2⟩ := HEND.out k hk hex
      have st : Hid (To w wr n0 n1 n2 n3 n4 n5 n6 n7 g c gt ct L T) := by have h3 := HTO.out; rw [e1] at h3; exact h3
      have HGD : Hid (Good n0 n1 n2 n3 n4 n5 n6 n7 T (d : Int)) := by have h3 := HG.out; rw [e2, ← HD.out] at h3; exact h3
      clear HTO HD HG HEND HAT HM256 HW1 e1 e2
      have hdd : (d : Int) ≤ 432 := by omega
      obtain ⟨⟨x0, x1, x2, x3, x4, x5, x6, x7⟩, _⟩ := t8_cells st.out.bx
      rcases (show k = 54 ∨ (k < 54 ∧ len1 ≤ k) by omega) with hq | hq
      all_goals
        first
          | have hq3 : decide ((k : Int) < 54) = false := decide_eq_false (by omega)
          | (have hq3 : decide ((k : Int) < 54) = true := decide_eq_true (by omega); have hq4 : decide ((k : Int) < (len1 : Int)) = false := decide_eq_false (by omega))
        go_upto_if 102 with (first
          | (go_at_call 8; refine (told_any n0 n1 n2 n3 n4 n5 n6 n7 _ _ T _ _ ?_ ?_ ?_).mono ?_; exact st.out.tab; exact HGD.out; exact st.out.t.all (cst_range _ HT256.out); rintro e uA ⟨rfl, bA⟩; have sA : Hid (To w uA n0 n1 n2 n3 n4 n5 n6 n7 g c gt ct L T) := st.out.below bA; clear st bA x0 x1 x2 x3 x4 x5 x6 x7))
        go_cut [17] (fun s17 wx => s17 = .int .i64 (I : Int) ∧ uA = wx)
        case first =>
          rcases HIJ.out with ⟨q0, q1⟩ | ⟨q0, q1⟩
          · go_wp2
            go_meet
            exact ⟨congrArg (Value.int .i64) (by omega), rfl⟩
          · go_wp2
            go_meet
            exact ⟨congrArg (Value.int .i64) (by omega), rfl⟩
        case rest =>
        obtain ⟨rfl, rfl⟩ := hcut
        go_upto_if 108 with fail
        go_cut [18] (fun s18 wx => s18 = .int .i64 (J : Int) ∧ uA = wx)
        case first =>
          rcases HJJ.out with ⟨q0, q1⟩ | ⟨q0, q1⟩
          · go_wp2
            go_meet
            exact ⟨congrArg (Value.int .i64) (by omega), rfl⟩
          · go_wp2
            go_meet
            exact ⟨congrArg (Value.int .i64) (by omega), rfl⟩
        case rest =>
        obtain ⟨rfl, rfl⟩ := hcut
        clear HGD hta htb HIJ HJJ ta1 ta2 tb1 tb2
        obtain ⟨R, hR⟩ : ∃ R, R = I / 8 := ⟨_, rfl⟩
        obtain ⟨C, hC⟩ : ∃ C, C = I % 8 := ⟨_, rfl⟩
        obtain ⟨R2, hR2⟩ : ∃ R, R = J / 8 := ⟨_, rfl⟩
        obtain ⟨C2, hC2⟩ : ∃ C, C = J % 8 := ⟨_, rfl⟩
        have hRn : R < 54 := by omega
        have hC8 : C < 8 := by omega
        have hRi : (I : Int) / 8 = (R : Int) := by omega
        have hCi : (I : Int) % 8 = (C : Int) := by omega
        have hRn2 : R2 < 54 := by omega
        have hC82 : C2 < 8 := by omega
        have hRi2 : (J : Int) / 8 = (R2 : Int) := by omega
        have hCi2 : (J : Int) % 8 = (C2 : Int) := by omega
        obtain ⟨o, ho⟩ : ∃ o, o = L.getD R 0 := ⟨_, rfl⟩
        obtain ⟨L1, hL1⟩ : ∃ L1, L1 = turnN L I := ⟨_, rfl⟩
        obtain ⟨o2, ho2⟩ : ∃ o, o = L1.getD R2 0 := ⟨_, rfl⟩
        have L1lt : ∀ x ∈ L1, x < 256 := by rw [hL1]; exact turnN_lt _ _ HLL.out.lt
        have o256 : o < 256 := by rw [ho]; exact at_lt HLL.out.lt _
        have o2256 : o2 < 256 := by rw [ho2]; exact at_lt L1lt _
        have hxo := turn_eq o C o256 hC8
        have hxo2 := turn_eq o2 C2 o2256 hC82
        have e1 : L.set R (o ^^^ 2 ^ C) = L1 := by rw [hL1, turnN, ← hR, ← hC, ← ho]
        have e2 : L1.set R2 (o2 ^^^ 2 ^ C2) = turnN L1 J := by rw [turnN, ← hR2, ← hC2, ← ho2]
        obtain ⟨p, hp⟩ : ∃ p, p = o ^^^ 2 ^ C := ⟨_, rfl⟩
        obtain ⟨p2, hp2⟩ : ∃ p, p = o2 ^^^ 2 ^ C2 := ⟨_, rfl⟩
        rw [← hp] at hxo e1
        rw [← hp2] at hxo2 e2
        have HLT1 : Hid (∀ x ∈ L1, x < 256) := L1lt
        have HE1 : Hid (L.set R p = L1) := e1
        have HE2 : Hid (L1.set R2 p2 = turnN L1 J) := e2
        have HO2 : Hid (o2 = L1.getD R2 0) := ho2
        have HGB : Hid (Good n0 n1 n2 n3 n4 n5 n6 n7 L1 1) := by unfold Hid; rw [hL1]; exact HLL.out.one I hI
        have HGC : Hid (I = J → Good n0 n1 n2 n3 n4 n5 n6 n7 (turnN L1 J) 0) := fun h => by subst h; rw [hL1]; exact HLL.out.back I hI
        have HGD2 : Hid (I ≠ J → Good n0 n1 n2 n3 n4 n5 n6 n7 (turnN L1 J) 2) := fun h => by rw [hL1]; exact HLL.out.two I J hI hJ h
        have rn : (R : Int) < 54 := by omega
        have rn2 : (R2 : Int) < 54 := by omega
        have hoc := sA.out.l.cell R hRn
        rw [cst_getD, ← ho] at hoc
        have hfz : uA.frozen? ⟨g, R, none⟩ = false := World.ownsRow.frozenAt sA.out.l R
        have sB : Hid (To w (uA.setCell ⟨g, R, none⟩ (.int .u8 (p : Int))) n0 n1 n2 n3 n4 n5 n6 n7 g c gt ct L1 T) := by have h3 := sA.out.setL R p; rw [HE1.out] at h3; exact h3
        obtain ⟨⟨x0, x1, x2, x3, x4, x5, x6, x7⟩, _⟩ := t8_cells sB.out.bx
        clear hR hC hR2 hC2 ho hL1 ho2 L1lt e1 e2 hp hp2 sA HLL
        by_cases hij : I = J
        · have HGZ : Hid (Good n0 n1 n2 n3 n4 n5 n6 n7 (turnN L1 J) 0) := HGC.out hij
          have hij2 : ((I : Int) == (J : Int)) = true := by subst hij; simp
          clear HGC HGD2 hij
          go_wp2_with (first
            | (go_at_call 8; have h9 := sB; clear h9; refine (told_any n0 n1 n2 n3 n4 n5 n6 n7 _ _ L1 1 _ ?_ ?_ ?_).mono ?_; exact sB.out.tab; exact HGB.out; exact sB.out.l.all (cst_range _ HLT1.out); rintro e uB ⟨rfl, bB⟩; have sC : Hid (To w uB n0 n1 n2 n3 n4 n5 n6 n7 g c gt ct L1 T) := sB.out.below bB; clear sB bB x0 x1 x2 x3 x4 x5 x6 x7 hoc hfz; have hoc := sC.out.l.cell R2 hRn2; rw [cst_getD, ← HO2.out] at hoc; have hfz : uB.frozen? ⟨g, R2, none⟩ = false := World.ownsRow.frozenAt sC.out.l R2; have sD : Hid (To w (uB.setCell ⟨g, R2, none⟩ (.int .u8 (p2 : Int))) n0 n1 n2 n3 n4 n5 n6 n7 g c gt ct (turnN L1 J) T) := (by have h3 := sC.out.setL R2 p2; rw [HE2.out] at h3; exact h3); obtain ⟨⟨x0, x1, x2, x3, x4, x5, x6, x7⟩, _⟩ := t8_cells sD.out.bx; clear sC)
            | (go_at_call 8; have h9 := sD; clear h9; refine (told_any n0 n1 n2 n3 n4 n5 n6 n7 _ _ (turnN L1 J) 0 _ ?_ ?_ ?_).mono ?_; exact sD.out.tab; exact HGZ.out; exact sD.out.l.all (cst_range _ HGZ.out.1); rintro e uE ⟨rfl, bE⟩; have sE := (sD.out.below bE).bel; clear sD bE x0 x1 x2 x3 x4 x5 x6 x7))
          go_ret
          exact ⟨rfl, sE⟩
        · have HGZ : Hid (Good n0 n1 n2 n3 n4 n5 n6 n7 (turnN L1 J) 2) := HGD2.out hij
          have hij2 : ((I : Int) == (J : Int)) = false := by simp; omega
          clear HGC HGD2
          go_wp2_with (first
            | (go_at_call 8; have h9 := sB; clear h9; refine (told_any n0 n1 n2 n3 n4 n5 n6 n7 _ _ L1 1 _ ?_ ?_ ?_).mono ?_; exact sB.out.tab; exact HGB.out; exact sB.out.l.all (cst_range _ HLT1.out); rintro e uB ⟨rfl, bB⟩; have sC : Hid (To w uB n0 n1 n2 n3 n4 n5 n6 n7 g c gt ct L1 T) := sB.out.below bB; clear sB bB x0 x1 x2 x3 x4 x5 x6 x7 hoc hfz; have hoc := sC.out.l.cell R2 hRn2; rw [cst_getD, ← HO2.out] at hoc; have hfz : uB.frozen? ⟨g, R2, none⟩ = false := World.ownsRow.frozenAt sC.out.l R2; have sD : Hid (To w (uB.setCell ⟨g, R2, none⟩ (.int .u8 (p2 : Int))) n0 n1 n2 n3 n4 n5 n6 n7 g c gt ct (turnN L1 J) T) := (by have h3 := sC.out.setL R2 p2; rw [HE2.out] at h3; exact h3); obtain ⟨⟨x0, x1, x2, x3, x4, x5, x6, x7⟩, _⟩ := t8_cells sD.out.bx; clear sC)
            | (go_at_call 8; have h9 := sD; clear h9; refine (told_any n0 n1 n2 n3 n4 n5 n6 n7 _ _ (turnN L1 J) 2 _ ?_ ?_ ?_).mono ?_; exact sD.out.tab; exact HGZ.out; exact sD.out.l.all (cst_range _ HGZ.out.1); rintro e uE ⟨rfl, bE⟩; have sE := (sD.out.below bE).bel; clear sD bE x0 x1 x2 x3 x4 x5 x6 x7))
          go_ret
          exact ⟨rfl, sE⟩
end Go.Proofs.YtgdmagmbkmgdfabDoor
