/-
  SEAT Ytkcpfcnpniblcab: WordsOneWay.
-/
import Derived.Test.YtkcpfcnpniblcabOneW
import Derived.WalkKit
import Derived.ProofKit
import Derived.OpenShut
import Derived.ShutString
import Derived.ChangeOld
import Derived.Below
import Derived.SizedLaws
import Derived.Deep.RegionHeld
namespace Go.Proofs.Ytkcpfcnpniblcab.wordsOneWay
open Go.ChangeShapes Go.WideShapes Go.ChangeAt Go.RowKit
open Go.ChangeMaps (open_string shut_string)
set_option linter.unusedVariables false

theorem own : ownKnob Try.prog.godebug = none := by kernel_rfl
theorem bytes5 : Try.prog.bytesOf 5 = 1 := by kernel_rfl
theorem laidOut : laidOutB Try.prog = true := by kernel_rfl

theorem Reads.front' {w : World} {a : Option Addr} {len : Nat} {zs : List Int} (h : Reads w a len zs) (m : Nat) (hm : m ≤ len) : Reads w a m (zs.take m) := by
  obtain ⟨h1, h2, h3, h4⟩ := h
  refine ⟨by simp; omega, fun x hx => h2 x (List.mem_of_mem_take hx), fun e => by have := h3 e; omega, fun x hx i hi => ?_⟩
  rw [h4 x hx i (by omega)]
  simp [List.getD, hi]

theorem two_reads (w : World) (z : Int) (h : 0 ≤ z ∧ z ≤ 255) : Reads (w.alloc (.cells #[.int .u8 z, .int .u8 z] 5)) (some ⟨w.heap.size, 0, none⟩) 2 [z, z] := by
  refine ⟨rfl, fun x hx => by simp at hx; rw [hx]; exact h, (fun h => by cases h), fun x hx i hi => ?_⟩
  cases hx
  match i, hi with
  | 0, _ => simp [Addr.add]
  | 1, _ => simp [Addr.add]

theorem byte_inj {a b : Int} (ha : 0 ≤ a ∧ a ≤ 255) (hb : 0 ≤ b ∧ b ≤ 255) (h : UInt8.ofNat a.toNat = UInt8.ofNat b.toNat) : a = b := by
  have h1 := congrArg UInt8.toNat h
  simp only [UInt8.toNat_ofNat'] at h1
  omega
theorem str_inj {xs ys : List Int} (hx : ∀ x ∈ xs, 0 ≤ x ∧ x ≤ 255) (hy : ∀ x ∈ ys, 0 ≤ x ∧ x ≤ 255) (h : strOfNums xs = strOfNums ys) : xs = ys := by
  have h1 := congrArg (fun s => s.data.toList) h
  simp only [strOfNums_data] at h1
  clear h
  induction xs generalizing ys with
  | nil => cases ys with
    | nil => rfl
    | cons y ys => simp at h1
  | cons x xs ih => cases ys with
    | nil => simp at h1
    | cons y ys =>
      simp only [List.map_cons, List.cons.injEq] at h1
      rw [byte_inj (hx x (by simp)) (hy y (by simp)) h1.1, ih (fun z hz => hx z (by simp [hz])) (fun z hz => hy z (by simp [hz])) h1.2]

theorem all_of {w : World} {B g n cap : Nat} {xs : List Int} (h : Own w B g n cap xs) (hr : ∀ x ∈ xs, 0 ≤ x ∧ x ≤ 255) : Reads w (some ⟨g, 0, none⟩) n xs := by
  have h1 := h.reads hr n (Nat.le_refl _)
  have hl := h.len
  rwa [List.take_of_length_le (by omega)] at h1

theorem fallL_range {zs xs ms : List Int} {fill : Int} (hz : ∀ x ∈ zs, 0 ≤ x ∧ x ≤ 255) (hx : ∀ x ∈ xs, 0 ≤ x ∧ x ≤ 255) (hm : ∀ x ∈ ms, 0 ≤ x ∧ x ≤ 255) (hf : 0 ≤ fill ∧ fill ≤ 255) (k : Nat) : ∀ x ∈ fallL zs xs ms fill k, 0 ≤ x ∧ x ≤ 255 := by
  induction k with
  | zero => simp [fallL]
  | succ k ih =>
    intro x h
    rcases List.mem_append.1 h with h1 | h1
    · exact ih x h1
    · simp only [List.mem_singleton] at h1
      rw [h1]
      exact fb_range (byteAt hz k) (byteAt hx k) (mk_range hm hf k)

theorem fallL_getD (zs xs ms : List Int) (fill : Int) (n k : Nat) (hk : k < n) : (fallL zs xs ms fill n).getD k 0 = fb (zs.getD k 0) (xs.getD k 0) (mk ms fill k) := by
  induction n with
  | zero => omega
  | succ n ih =>
    rw [fallL, List.getD_eq_getElem?_getD]
    by_cases h : k < n
    · rw [List.getElem?_append_left (by rw [fallL_length]; exact h), ← List.getD_eq_getElem?_getD, ih h]
    · have : k = n := by omega
      subst this
      rw [List.getElem?_append_right (by rw [fallL_length]; exact Nat.le_refl _), fallL_length]
      simp
theorem riseL_getD (zs ms : List Int) (fill : Int) (n k : Nat) (hk : k < n) : (riseL zs ms fill n).getD k 0 = bits .or .u8 (zs.getD k 0) (mk ms fill k) := by
  induction n with
  | zero => omega
  | succ n ih =>
    rw [riseL, List.getD_eq_getElem?_getD]
    by_cases h : k < n
    · rw [List.getElem?_append_left (by rw [riseL_length]; exact h), ← List.getD_eq_getElem?_getD, ih h]
    · have : k = n := by omega
      subst this
      rw [List.getElem?_append_right (by rw [riseL_length]; exact Nat.le_refl _), riseL_length]
      simp

set_option maxRecDepth 100000 in
set_option maxHeartbeats 8000000 in
theorem walk (a0 : Option Addr) (len0 cap0 : Nat) (z0 : List Int) (a1 : Option Addr) (len1 cap1 : Nat) (z1 : List Int) (a2 : Option Addr) (len2 cap2 : Nat) (z2 : List Int) (a3 : Int) (w : World) (w0 : Reads w a0 len0 z0) (s0 : len0 ≤ 140737488351232) (l0 : len0 ≤ cap0) (w1 : Reads w a1 len1 z1) (s1 : len1 ≤ 140737488351232) (l1 : len1 ≤ cap1) (w2 : Reads w a2 len2 z2) (s2 : len2 ≤ 140737488351232) (l2 : len2 ≤ cap2) (w3 : (Lit.int .u8 a3).wf = true) :
    Calls Try.prog 3 #[.slice a0 len0 cap0, .slice a1 len1 cap1, .slice a2 len2 cap2, .int .u8 a3] w fun e w' => e = .returned (.bool true) ∧ Below w.heap.size w w' := by
  have hf := bounds_u8 w3
  obtain ⟨n, hn⟩ : ∃ n : Nat, n = min len0 len1 := ⟨_, rfl⟩
  have n0 : n ≤ len0 := by omega
  have n1 : n ≤ len1 := by omega
  have nl : n ≤ 140737488351232 := by omega
  have q0 := Reads.front' w0 n n0
  have q1 := Reads.front' w1 n n1
  obtain ⟨x0, hx0⟩ : ∃ x, z0.take n = x := ⟨_, rfl⟩
  obtain ⟨x1, hx1⟩ : ∃ x, z1.take n = x := ⟨_, rfl⟩
  rw [hx0] at q0
  rw [hx1] at q1
  have hl0 := q0.1
  have hl1 := q1.1
  have hr0 := q0.2.1
  have hr1 := q1.2.1
  have hr2 := w2.2.1
  have m0 : (n : Int) ≤ (cap0 : Int) := by omega
  have m1 : (n : Int) ≤ (cap1 : Int) := by omega
  have p0 : n ≤ cap0 := by omega
  have p1 : n ≤ cap1 := by omega
  obtain ⟨A, hA⟩ : ∃ A, fallL x0 x1 z2 a3 n = A := ⟨_, rfl⟩
  obtain ⟨B, hB⟩ : ∃ B, riseL x0 z2 a3 n = B := ⟨_, rfl⟩
  have hAg : Hid (∀ k, k < n → A.getD k 0 = fb (x0.getD k 0) (x1.getD k 0) (mk z2 a3 k)) := fun k hk => by rw [← hA]; exact fallL_getD _ _ _ _ n k hk
  have hBg : Hid (∀ k, k < n → B.getD k 0 = bits .or .u8 (x0.getD k 0) (mk z2 a3 k)) := fun k hk => by rw [← hB]; exact riseL_getD _ _ _ n k hk
  have HA : Hid (fallL x0 x1 z2 a3 n = A) := hA
  have HB : Hid (riseL x0 z2 a3 n = B) := hB
  clear hA hB hx0 hx1
  rcases (show (len0 ≤ len1 ∧ n = len0) ∨ (len1 < len0 ∧ n = len1) by omega) with ⟨c1, rfl⟩ | ⟨c1, rfl⟩
  all_goals
    clear hn
    go_enter Try.func3, Try.ntmps3
    go_wp2
    go_quiet (fail)
    go_wp2_with (first
      | (go_at_call 7; refine (fall_ok _ _ _ x0 _ _ x1 _ _ _ z2 _ _ ?_ ?_ ?_ ?_ ?_).mono ?_; omega; omega; exact q0.drewN _; exact q1.drewN _; exact w2.drewN _; rintro e u1 ⟨gA, cA, rfl, own1, bel1⟩; rw [HA.out] at own1; have a01 := (q0.drewN nq).below bel1; have a21 := (w2.drewN nq).below bel1)
      | (go_at_call 8; refine (rise_any _ _ _ x0 _ _ _ z2 _ _ ?_ ?_ ?_ ?_).mono ?_; omega; omega; exact a01; exact a21; rintro e u2 ⟨gB, cB, rfl, own2, bel2⟩; rw [HB.out] at own2)
      | (go_at_call 9; refine (no_any _ _).mono ?_; rintro e u ⟨rfl, rfl⟩))
    have oA2 := own1.below bel2
    have a02 := a01.below bel2
    have a22 := a21.below bel2
    have a12 := ((q1.drewN nq).below bel1).below bel2
    have B02 : Below w.heap.size w u2 := (below_drewN (Below.refl w.heap.size w) nq).trans (bel1.trans (bel2.mono bel1.size))
    go_loopw [13] (fun i wr => ∃ k j : Nat, k ≤ n ∧ i = .int .i64 k ∧ wr = u2.drewN j)
      (fun i _ => n - (intOf i).toNat)
    case atStart => exact ⟨0, 0, Nat.zero_le _, rfl, rfl⟩
    case round =>
      obtain ⟨k, j, hk, rfl, rfl⟩ := hrel
      by_cases hlt : k < n
      · obtain ⟨b, off, rfl, hb, hcell⟩ := a02.pos (by omega)
        obtain ⟨o, ho⟩ : ∃ o, o = x0.getD k 0 := ⟨_, rfl⟩
        obtain ⟨va, hva⟩ : ∃ o, o = A.getD k 0 := ⟨_, rfl⟩
        obtain ⟨vb, hvb⟩ : ∃ o, o = B.getD k 0 := ⟨_, rfl⟩
        have co : u2.cell? ⟨b, off + k, none⟩ = some (.int .u8 o) := by rw [ho]; exact hcell k hlt
        have ca : u2.cell? ⟨gA, k, none⟩ = some (.int .u8 va) := by rw [hva]; exact oA2.cell k hlt
        have cb : u2.cell? ⟨gB, k, none⟩ = some (.int .u8 vb) := by rw [hvb]; exact own2.cell k hlt
        have f1 : bits .andNot .u8 va o = 0 := by rw [hva, ho, hAg.out k hlt]; exact F1 (byteAt hr0 k) (byteAt hr1 k) (mk_range hr2 hf k)
        have f2 : bits .andNot .u8 o vb = 0 := by rw [hvb, ho, hBg.out k hlt]; exact F2 (byteAt hr0 k) (mk_range hr2 hf k)
        have i1 : (k : Int) < (n : Int) := by omega
        have i2 : (0 : Int) ≤ (k : Int) := by omega
        have hd1 : decide ((k : Int) < (n : Int)) = true := decide_eq_true i1
        clear hcell ho hva hvb
        go_wp2
        go_quiet (fail)
        go_wp2
        go_roundw
        case rel => exact ⟨k + 1, j + nq, by omega, by go_num, rfl⟩
        case measure => simp [intOf]; omega
      · have hm2 : ∀ x ∈ z2 ++ [a3, a3], 0 ≤ x ∧ x ≤ 255 := fun x hx => by
          rcases List.mem_append.1 hx with h1 | h1
          · exact hr2 x h1
          · simp at h1; omega
        have nilr : ∀ u : World, Reads u none 0 [] := fun u => ⟨rfl, by simp, fun _ => rfl, fun _ h => by cases h⟩
        have hrep : ∀ x ∈ List.replicate n (255 : Int), 0 ≤ x ∧ x ≤ 255 := fun x hx => by have := (List.mem_replicate.1 hx).2; omega
        have l1 := L1 n x1 hl1 hr1 n (Nat.le_refl _)
        rw [List.take_of_length_le (by omega)] at l1
        have l2 := L2 x0 x1 hr0 hr1 n (by omega)
        rw [List.take_of_length_le (by omega)] at l2
        have l5 := L5 (List.replicate n 255) x1 z2 a3 n
        obtain ⟨C, hC⟩ : ∃ C, fallL (List.replicate n 255) x1 z2 a3 n = C := ⟨_, rfl⟩
        have hCr : ∀ x ∈ C, 0 ≤ x ∧ x ≤ 255 := by rw [← hC]; exact fallL_range hrep hr1 hr2 hf n
        rw [hC] at l5
        have K1 : Hid (fallL (List.replicate n 255) x1 [] 255 n = x1) := l1
        have K2 : Hid (fallL x0 x1 [] 0 n = x0) := l2
        have K5 : Hid (fallL (List.replicate n 255) x1 (z2 ++ [a3, a3]) a3 n = C) := l5
        have KC : Hid (fallL (List.replicate n 255) x1 z2 a3 n = C) := hC
        have r02 := a02.drewN j
        have r12 := a12.drewN j
        have r22 := a22.drewN j
        clear l1 l2 l5 hC own1 own2 oA2 a01 a21 a02 a12 a22 bel1 bel2
        go_wp2_with (first
          | (go_at_call 10; refine (ones_of _ _ nl).mono ?_; rintro e u3 ⟨aO, cO, rfl, rO3, b3⟩; have r13 := r12.below b3; have r03 := r02.below b3; have r23 := r22.below b3)
          | (go_at_call 7; refine (fall_ok _ _ _ (List.replicate n 255) _ _ x1 _ _ _ [] _ _ nl ?_ ?_ ?_ ?_).mono ?_; omega; exact rO3; exact r13; exact nilr _; rintro e u4 ⟨gW, cW, rfl, oW4, b4⟩; rw [K1.out] at oW4; have r14 := r13.below b4; have r04 := r03.below b4; have r24 := r23.below b4)
          | (go_at_call 7; refine (fall_ok _ _ _ x0 _ _ x1 _ _ _ [] _ _ nl ?_ ?_ ?_ ?_).mono ?_; omega; exact r04; exact r14; exact nilr _; rintro e u5 ⟨gN, cN, rfl, oN5, b5⟩; rw [K2.out] at oN5; have r15 := r14.below b5; have r05 := r04.below b5; have r25 := r24.below b5; have oW5 := oW4.below b5)
          | (go_at_call 10; refine (ones_of _ _ nl).mono ?_; rintro e u6 ⟨aP, cP, rfl, rP6, b6⟩; have r16 := r15.below b6; have r06 := r05.below b6; have r26 := r25.below b6; have oW6 := oW5.below b6; have oN6 := oN5.below b6)
          | (go_at_call 7; refine (fall_ok _ _ _ (List.replicate n 255) _ _ x1 _ _ _ z2 _ _ nl ?_ ?_ ?_ ?_).mono ?_; omega; exact rP6; exact r16; exact r26; rintro e u7 ⟨gP, cQ, rfl, oP7, b7⟩; rw [KC.out] at oP7; have r17 := r16.below b7; have r07 := r06.below b7; have r27 := r26.below b7; have oW7 := oW6.below b7; have oN7 := oN6.below b7)
          | (go_at_call 10; refine (ones_of _ _ nl).mono ?_; rintro e u8 ⟨aQ, cR, rfl, rQ8, b8⟩; have r18 := r17.below b8; have r08 := r07.below b8; have r28 := r27.below b8; have oW8 := oW7.below b8; have oN8 := oN7.below b8; have oP8 := oP7.below b8; have rA8 := r28.below ((Below.refl u8.heap.size u8).alloc (Nat.le_refl _) (.cells #[] 5)))
          | (at_builtin; refine wpList_append_reads rfl (.tmp 114) (.tmp 115) rfl u8.heap.size _ _ [] rfl (made0 u8) _ _ _ z2 rfl rA8 (by omega) (by simp) ?_; intro v9 w9 own9 grow9; simp only [Nat.zero_add, List.nil_append] at own9; have b9 := ((Below.refl u8.heap.size u8).alloc (Nat.le_refl _) _).grown grow9 (by simp) (fun k hk => ((made0 u8).lt k hk).1))
          | (at_builtin; refine wpList_append_reads rfl (.tmp 116) (.tmp 119) rfl u8.heap.size _ _ z2 rfl (own9.alloc _) _ _ _ [a3, a3] rfl (two_reads w9 a3 hf) (by omega) (by have := b9.size; simp; omega) ?_; intro v10 w10 own10 grow10; have b10 := (b9.alloc b9.size _).grown grow10 (by have := b9.size; simp; omega) (fun k hk => (own9.lt k hk).1); obtain ⟨aM, cM, rfl, rM10⟩ := own_any own10 hm2; have r110 := r18.below b10; have rQ10 := rQ8.below b10; have r010 := r08.below b10; have oW10 := oW8.below b10; have oN10 := oN8.below b10; have oP10 := oP8.below b10)
          | (go_at_call 7; refine (fall_ok _ _ _ (List.replicate n 255) _ _ x1 _ _ _ (z2 ++ [a3, a3]) _ _ nl ?_ ?_ ?_ ?_).mono ?_; omega; exact rQ10; exact r110; exact rM10; rintro e u11 ⟨gM, cS, rfl, oM11, b11⟩; rw [K5.out] at oM11; have r111 := r110.below b11; have r011 := r010.below b11; have oW11 := oW10.below b11; have oN11 := oN10.below b11; have oP11 := oP10.below b11; have cvW := conv _ _ cW _ _ (all_of oW11 hr1); have cv1 := conv _ _ cap1 _ _ r111; have cvN := conv _ _ cN _ _ (all_of oN11 hr0); have cv0 := conv _ _ cap0 _ _ r011; have cvM := conv _ _ cS _ _ (all_of oM11 hCr); have cvP := conv _ _ cQ _ _ (all_of oP11 hCr))
          | (go_at_call 9; refine (no_any _ _).mono ?_; rintro e u ⟨rfl, rfl⟩)
          | (go_at_call 11; refine (zeros_any _ _ _ C _ ?_ ?_).mono ?_; omega; exact all_of oP11 hCr; rintro e u ⟨rfl, rfl⟩))
        have h6 := L6 n x1 z2 a3 hl1 hr1 hr2 hf n (Nat.le_refl _)
        rw [KC.out, List.take_of_length_le (by omega)] at h6
        have h7 := L7 x0 hr0 n (by omega)
        rw [List.take_of_length_le (by omega)] at h7
        have K7 : Hid (riseL x0 [] 0 n = x0) := h7.1
        have K8 : Hid (riseL x0 [] 255 n = List.replicate n 255) := h7.2
        have z1a := zsum_le C
        have z1b := zsum_le x1
        have hCl : C.length = n := by have := oP11.len; exact this
        have BEL : Below w.heap.size w u11 := B02.trans (Below.mono ((below_drewN (Below.refl u2.heap.size u2) j).trans (b3.trans ((b4.trans ((b5.trans ((b6.trans ((b7.trans ((b8.trans ((b10.trans (b11.mono b10.size)).mono b8.size)).mono b7.size)).mono b6.size)).mono b5.size)).mono b4.size)).mono b3.size))) B02.size)
        have cvp : ∀ w', Below u11.heap.size u11 w' → (convert 22 9 (.slice (some ⟨gP, 0, none⟩) n cQ)).run Try.prog w' = .ok (.string (strOfNums C)) w' := fun w' hb => conv _ _ _ _ _ ((all_of oP11 hCr).below hb)
        have cvw : ∀ w', Below u11.heap.size u11 w' → (convert 22 9 (.slice a1 n cap1)).run Try.prog w' = .ok (.string (strOfNums x1)) w' := fun w' hb => conv _ _ _ _ _ (r111.below hb)
        have cvo : ∀ w', Below u11.heap.size u11 w' → (convert 22 9 (.slice a0 n cap0)).run Try.prog w' = .ok (.string (strOfNums x0)) w' := fun w' hb => conv _ _ _ _ _ (r011.below hb)
        have hle : ((zsum C : Nat) : Int) ≤ ((zsum x1 : Nat) : Int) := by omega
        obtain ⟨zC, hzC⟩ : ∃ z, zsum C = z := ⟨_, rfl⟩
        obtain ⟨zX, hzX⟩ : ∃ z, zsum x1 = z := ⟨_, rfl⟩
        obtain ⟨sC, hsC⟩ : ∃ z, strOfNums C = z := ⟨_, rfl⟩
        obtain ⟨sX, hsX⟩ : ∃ z, strOfNums x1 = z := ⟨_, rfl⟩
        have hcase : (zC = zX ∧ sC = sX) ∨ (zC ≠ zX ∧ sC ≠ sX) := by
          by_cases he : C = x1
          · exact Or.inl ⟨by rw [← hzC, ← hzX, he], by rw [← hsC, ← hsX, he]⟩
          · refine Or.inr ⟨fun e => he (h6.2 (by omega)), fun e => he ?_⟩
            exact str_inj hCr hr1 (by rw [hsC, hsX, e])
        rw [hzC, hzX] at hle
        rw [hsC] at cvp
        rw [hsX] at cvw
        clear cvW cv1 cvN cv0 cvM cvP h6 h7
        have u11d : Below u11.heap.size u11 u11.drew := (Below.refl _ _).drew
        rcases hcase with ⟨hz, hs⟩ | ⟨hz, hs⟩
        · subst hz
          subst hs
          have hle2 : decide ((zC : Int) ≤ (zC : Int)) = true := by simp
          go_region_held (fun w' => Below u11.heap.size u11 w')
            (first | exact u11d | exact B12 | exact B13 | exact B14)
            (first
              | (go_at_call 11; refine (zeros_any _ _ _ x1 _ ?_ ?_).mono ?_; omega; exact r111.below u11d; rintro e u ⟨rfl, rfl⟩)
              | (go_at_call 8; refine (rise_any _ _ _ x0 _ _ _ [] _ _ nl ?_ ?_ ?_).mono ?_; omega; exact r011.below u11d; exact nilr _; rintro e u12 ⟨gR, cR2, rfl, oR12, b12⟩; rw [K7.out] at oR12; have B12 : Below u11.heap.size u11 u12 := u11d.trans b12; have cvR := conv _ _ cR2 _ _ (all_of oR12 hr0))
              | (go_at_call 8; refine (rise_any _ _ _ x0 _ _ _ [] _ _ nl ?_ ?_ ?_).mono ?_; omega; exact r011.below B12; exact nilr _; rintro e u13 ⟨gT, cT, rfl, oT13, b13⟩; rw [K8.out] at oT13; have B13 : Below u11.heap.size u11 u13 := B12.trans (b13.mono B12.size); have cvT := conv _ _ cT _ _ (all_of oT13 hrep))
              | (go_at_call 10; refine (ones_of _ _ nl).mono ?_; rintro e u14 ⟨aZ, cZ, rfl, rZ14, b14⟩; have B14 : Below u11.heap.size u11 u14 := B13.trans (b14.mono B13.size); have cvZ := conv _ _ cZ _ _ rZ14; have cvT2 := conv _ _ cT _ _ ((all_of oT13 hrep).below b14)))
          all_goals go_wp2
          all_goals go_ret
          all_goals exact ⟨rfl, BEL.trans (B14.mono BEL.size)⟩
        · have hz2 : ((zC : Int) == (zX : Int)) = false := by simp; omega
          have hs3 : (sC.toList == sX.toList) = false := by
            have : sC.toList ≠ sX.toList := fun e => hs (bytes_ext (by rw [← ByteArray.toList_eq, ← ByteArray.toList_eq, e]))
            simpa using this
          have hle2 : decide ((zC : Int) ≤ (zX : Int)) = true := decide_eq_true hle
          go_region_held (fun w' => Below u11.heap.size u11 w')
            (first | exact u11d | exact B12 | exact B13 | exact B14)
            (first
              | (go_at_call 11; refine (zeros_any _ _ _ x1 _ ?_ ?_).mono ?_; omega; exact r111.below u11d; rintro e u ⟨rfl, rfl⟩)
              | (go_at_call 8; refine (rise_any _ _ _ x0 _ _ _ [] _ _ nl ?_ ?_ ?_).mono ?_; omega; exact r011.below u11d; exact nilr _; rintro e u12 ⟨gR, cR2, rfl, oR12, b12⟩; rw [K7.out] at oR12; have B12 : Below u11.heap.size u11 u12 := u11d.trans b12; have cvR := conv _ _ cR2 _ _ (all_of oR12 hr0))
              | (go_at_call 8; refine (rise_any _ _ _ x0 _ _ _ [] _ _ nl ?_ ?_ ?_).mono ?_; omega; exact r011.below B12; exact nilr _; rintro e u13 ⟨gT, cT, rfl, oT13, b13⟩; rw [K8.out] at oT13; have B13 : Below u11.heap.size u11 u13 := B12.trans (b13.mono B12.size); have cvT := conv _ _ cT _ _ (all_of oT13 hrep))
              | (go_at_call 10; refine (ones_of _ _ nl).mono ?_; rintro e u14 ⟨aZ, cZ, rfl, rZ14, b14⟩; have B14 : Below u11.heap.size u11 u14 := B13.trans (b14.mono B13.size); have cvZ := conv _ _ cZ _ _ rZ14; have cvT2 := conv _ _ cT _ _ ((all_of oT13 hrep).below b14)))
          all_goals go_wp2
          all_goals go_ret
          all_goals exact ⟨rfl, BEL.trans (B14.mono BEL.size)⟩

set_option maxRecDepth 100000 in
theorem lifted (os : Os) (started : os.Started) (H : Type) (enc : TypeId × Value → H) :
    ReturnsInHanded {} Try.checked os 3 .any (Rows.wordsOneWaySpec.pre6 enc Try.prog Try.f3 Rows.wordsOneWayRow.domain false) (Rows.wordsOneWaySpec.post enc Try.prog Try.f3 false true false false) := by
  refine returnsInHanded_of_change_sized (C := Try.checked) own started (by kernel_rfl) Try.func3
    (ChangeSpec.witness6 (enc := enc) (C := Try.checked) false ⟨#[], #[.slice none 0 0, .slice none 0 0, .slice none 0 0, .int .u8 0], []⟩ 8 (by kernel_rfl) (by kernel_rfl) (by kernel_rfl) (by kernel_rfl)) ?_
  intro W base args ds gs before hval0 hW hcnd hsz0 _
  have hval : ∀ (j : Nat) t v, Try.f3.params[j]? = some t → args[j]? = some v → Value.okWide Try.prog W .any base t v := hval0
  have hsz : (DataW.weightsEach Try.prog (Try.f3.params.toList ++ Rows.wordsOneWaySpec.plain.varTypes Try.prog) (ds ++ gs)).all (· ≤ reachBytes) = true := hsz0
  clear hsz0
  have hW' := hW
  obtain ⟨p, q, hA0, hV, rfl, hfz, hnd⟩ := hW
  have hA : DataW.TrodAll enc Try.prog W 0 (fun _ => true) true Try.f3.params.toList args.toList ds p := hA0
  rw [Try.params3] at hA hval hsz
  obtain ⟨v0, vs0, d0, ds0, p0, q0, hargs, rfl, rfl, h0, r0⟩ := trodAll_cons hA
  obtain ⟨v1, vs1, d1, ds1, p1, q1, rfl, rfl, rfl, h1, r1⟩ := trodAll_cons r0
  obtain ⟨v2, vs2, d2, ds2, p2, q2, rfl, rfl, rfl, h2, r2⟩ := trodAll_cons r1
  obtain ⟨v3, vs3, d3, ds3, p3, q3, rfl, rfl, rfl, h3, r3⟩ := trodAll_cons r2
  obtain ⟨rfl, rfl, rfl⟩ := trodAll_nil r3
  obtain rfl : args = #[v0, v1, v2, v3] := by cases args; simp_all
  obtain ⟨rfl, rfl⟩ := trodVars_none hV
  obtain ⟨a0, len0, cap0, rfl⟩ := okWide_slice Try.underlying22 (hval 0 22 v0 rfl rfl)
  have k0 := h0
  have lt0 : ∀ x ∈ p0, x.block < W.heap.size := by obtain ⟨m, hm⟩ := k0; exact DataW.trod_lt m _ _ _ hm
  obtain ⟨z0, w0, s0, l0⟩ : ∃ zs, Reads W a0 len0 zs ∧ len0 ≤ 140737488351232 ∧ len0 ≤ cap0 := by
    obtain ⟨fuel, hf⟩ := h0
    rcases open_ints Try.underlying22 Try.underlying5 (by kernel_rfl) hf with ⟨hcs, _⟩ | ⟨x, l, c, zs, hcs, _, hl, hm, hz, hx, hcell, hwz⟩
    · simp [Value.cells] at hcs
      obtain ⟨rfl, rfl, rfl⟩ := hcs
      exact ⟨[], ⟨rfl, by simp, fun _ => rfl, fun _ h => by cases h⟩, by omega, by omega⟩
    · simp [Value.cells] at hcs
      obtain ⟨rfl, rfl, rfl⟩ := hcs
      have hz' : zs.length = cap0 := by simpa using hz
      have hd := (Prod.mk.inj hx).1
      have hw := sized_slice hsz (j := 0) (t := 22) (e := 5) rfl (congrArg some hd) Try.underlying22
      rw [bytes5] at hw
      simp only [lits, List.length_map, List.length_take, List.length_drop, reachBytes] at hw
      refine ⟨zs.take len0, ⟨by simp; omega, fun n hn => bounds_u8 (hwz n (List.mem_of_mem_take hn)), (fun h => by cases h), fun y hy i hi => ?_⟩, by omega, hl⟩
      cases hy
      rw [hcell i (by omega)]
      simp [List.getD, hi]
  obtain ⟨a1, len1, cap1, rfl⟩ := okWide_slice Try.underlying22 (hval 1 22 v1 rfl rfl)
  have k1 := h1
  have lt1 : ∀ x ∈ p1, x.block < W.heap.size := by obtain ⟨m, hm⟩ := k1; exact DataW.trod_lt m _ _ _ hm
  obtain ⟨z1, w1, s1, l1⟩ : ∃ zs, Reads W a1 len1 zs ∧ len1 ≤ 140737488351232 ∧ len1 ≤ cap1 := by
    obtain ⟨fuel, hf⟩ := h1
    rcases open_ints Try.underlying22 Try.underlying5 (by kernel_rfl) hf with ⟨hcs, _⟩ | ⟨x, l, c, zs, hcs, _, hl, hm, hz, hx, hcell, hwz⟩
    · simp [Value.cells] at hcs
      obtain ⟨rfl, rfl, rfl⟩ := hcs
      exact ⟨[], ⟨rfl, by simp, fun _ => rfl, fun _ h => by cases h⟩, by omega, by omega⟩
    · simp [Value.cells] at hcs
      obtain ⟨rfl, rfl, rfl⟩ := hcs
      have hz' : zs.length = cap1 := by simpa using hz
      have hd := (Prod.mk.inj hx).1
      have hw := sized_slice hsz (j := 1) (t := 22) (e := 5) rfl (congrArg some hd) Try.underlying22
      rw [bytes5] at hw
      simp only [lits, List.length_map, List.length_take, List.length_drop, reachBytes] at hw
      refine ⟨zs.take len1, ⟨by simp; omega, fun n hn => bounds_u8 (hwz n (List.mem_of_mem_take hn)), (fun h => by cases h), fun y hy i hi => ?_⟩, by omega, hl⟩
      cases hy
      rw [hcell i (by omega)]
      simp [List.getD, hi]
  obtain ⟨a2, len2, cap2, rfl⟩ := okWide_slice Try.underlying22 (hval 2 22 v2 rfl rfl)
  have k2 := h2
  have lt2 : ∀ x ∈ p2, x.block < W.heap.size := by obtain ⟨m, hm⟩ := k2; exact DataW.trod_lt m _ _ _ hm
  obtain ⟨z2, w2, s2, l2⟩ : ∃ zs, Reads W a2 len2 zs ∧ len2 ≤ 140737488351232 ∧ len2 ≤ cap2 := by
    obtain ⟨fuel, hf⟩ := h2
    rcases open_ints Try.underlying22 Try.underlying5 (by kernel_rfl) hf with ⟨hcs, _⟩ | ⟨x, l, c, zs, hcs, _, hl, hm, hz, hx, hcell, hwz⟩
    · simp [Value.cells] at hcs
      obtain ⟨rfl, rfl, rfl⟩ := hcs
      exact ⟨[], ⟨rfl, by simp, fun _ => rfl, fun _ h => by cases h⟩, by omega, by omega⟩
    · simp [Value.cells] at hcs
      obtain ⟨rfl, rfl, rfl⟩ := hcs
      have hz' : zs.length = cap2 := by simpa using hz
      have hd := (Prod.mk.inj hx).1
      have hw := sized_slice hsz (j := 2) (t := 22) (e := 5) rfl (congrArg some hd) Try.underlying22
      rw [bytes5] at hw
      simp only [lits, List.length_map, List.length_take, List.length_drop, reachBytes] at hw
      refine ⟨zs.take len2, ⟨by simp; omega, fun n hn => bounds_u8 (hwz n (List.mem_of_mem_take hn)), (fun h => by cases h), fun y hy i hi => ?_⟩, by omega, hl⟩
      cases hy
      rw [hcell i (by omega)]
      simp [List.getD, hi]
  obtain ⟨a3, rfl, rfl, rfl, w3⟩ := open_int Try.underlying5 (hval 3 5 v3 rfl rfl) h3
  clear hA0 hval0
  refine (walk a0 len0 cap0 z0 a1 len1 cap1 z1 a2 len2 cap2 z2 a3 W w0 s0 l0 w1 s1 l1 w2 s2 l2 w3).mono fun e W' ⟨he, bel⟩ => ?_
  subst he
  exact ⟨_, rfl, _, _, _, [], _, [], hW', trodAll_mk1 (shut_bool Try.underlying4 _), (trodAll_cons_mk (Below.trod laidOut (by kernel_rfl) (of_decide_eq_true (by kernel_rfl)) k0 bel lt0) (trodAll_cons_mk (Below.trod laidOut (by kernel_rfl) (of_decide_eq_true (by kernel_rfl)) k1 bel lt1) (trodAll_cons_mk (Below.trod laidOut (by kernel_rfl) (of_decide_eq_true (by kernel_rfl)) k2 bel lt2) (trodAll_cons_mk (shut_int Try.underlying5 w3) trodAll_mk0)))), rfl, bel.frame _, fun h => by cases h⟩

theorem over : Rows.wordsOneWayRow.holds Try.pinned (OpenSpec.ofChange Rows.wordsOneWaySpec) :=
  OpenClaim.holds_of_wide 3 Try.f3 rfl rfl rfl rfl rfl rfl rfl ⟨rfl, rfl, rfl, rfl, rfl⟩ rfl rfl rfl rfl rfl (by kernel_rfl) Try.func3 (by kernel_rfl)
    (of_decide_eq_true (by kernel_rfl)) (by unfold Func.isWrapper; first | (rw [if_pos (by decide +kernel)]; kernel_rfl) | (rw [if_neg (by decide +kernel)]; exact ⟨rfl, rfl⟩))
    (fun os started H enc _ => lifted os started H enc)

end Go.Proofs.Ytkcpfcnpniblcab.wordsOneWay
namespace Go.Proofs.Ytkcpfcnpniblcab
theorem wordsOneWay_holds : Rows.WordsOneWaySaid := wordsOneWay.over
#print axioms wordsOneWay_holds
end Go.Proofs.Ytkcpfcnpniblcab

