/-
  SEAT Ytkcpfcnpniblcac: RailTorn.
-/
import Derived.Test.YtkcpfcnpniblcacApt
import Derived.Test.YtkcpfcnpniblcacTornP
import Derived.WalkKit
import Derived.ProofKit
import Derived.OpenShut
import Derived.ShutString
import Derived.ChangeOld
import Derived.Below
import Derived.SizedLaws
namespace Go.Proofs.Ytkcpfcnpniblcac.railTorn
open Go.ChangeShapes Go.WideShapes Go.ChangeAt Go.RowKit
open Go.ChangeMaps (open_string shut_string)
set_option linter.unusedVariables false

theorem own : ownKnob Try.prog.godebug = none := by kernel_rfl
theorem bytes5 : Try.prog.bytesOf 5 = 1 := by kernel_rfl
theorem laidOut : laidOutB Try.prog = true := by kernel_rfl

theorem torn_all (up : Bool) (ns ms : List Nat) (hn : ∀ x ∈ ns, x < 256) (hm : ∀ x ∈ ms, x < 256) (L T : List Nat) (hL : L = layLN (ns ++ [colN ns])) (hT : T = tornL up L ms) (len : Nat) (hlen : L.length = len) :
    ((chgL L T (8 * len)).length ≤ 1 ∧ readN T = some (ns, lastL (chgL L T (8 * len)))) ∨ (2 ≤ (chgL L T (8 * len)).length ∧ readN T = none) := by
  have hy : ∀ y ∈ ns ++ [colN ns], y < 256 := by
    intro y hy
    rcases List.mem_append.1 hy with h1 | h1
    · exact hn y h1
    · simp at h1; subst h1; exact col_lt ns hn
  have hl := layLN_length (ns ++ [colN ns])
  subst hlen
  have hL256 : ∀ x ∈ L, x < 256 := by rw [hL]; exact layLN_lt _
  have hT256 : ∀ x ∈ T, x < 256 := by rw [hT]; exact tornL_lt up L ms hL256 hm
  have hTl : T.length = L.length := by rw [hT, tornL_length]
  match hc : chgL L T (8 * L.length) with
  | [] =>
    have e := chg_none L hL256 T hT256 hTl hc
    refine Or.inl ⟨by simp, ?_⟩
    rw [e, hL, read_lay ns hn]
    rfl
  | [i] =>
    obtain ⟨hi, e⟩ := chg_one L hL256 T hT256 hTl i hc
    refine Or.inl ⟨by simp, ?_⟩
    have hr := read_turn (ns ++ [colN ns]) hy (col_seal ns) i (by rw [hL, hl] at hi; omega)
    have ht : (ns ++ [colN ns]).take ((ns ++ [colN ns]).length - 1) = ns := by simp
    rw [ht, ← hL] at hr
    rw [e, hr]
    rfl
  | a :: b :: r =>
    refine Or.inr ⟨by simp, ?_⟩
    rw [hT, hL]
    refine chg_two up _ ms hy hm ?_
    rw [← hL, ← hT, hc]
    simp

theorem mix_getD (T L : List Nat) (k : Nat) (hk : k < L.length) (hl : T.length = L.length) : (T.take k ++ L.drop k).getD k 0 = L.getD k 0 := by
  rw [List.getD_eq_getElem?_getD, List.getElem?_append_right (by simp; omega), List.getElem?_drop, List.getD_eq_getElem?_getD]
  congr 2
  simp
  omega

theorem mix_set (T L : List Nat) (k : Nat) (hk : k < L.length) (hl : T.length = L.length) : (T.take k ++ L.drop k).set k (T.getD k 0) = T.take (k + 1) ++ L.drop (k + 1) := by
  have h1 : (T.take k).length = k := by simp; omega
  rw [List.set_append_right _ _ (by omega), h1, Nat.sub_self, List.drop_eq_getElem_cons hk, List.set_cons_zero, List.take_succ_eq_append_getElem (l := T) (by omega), List.getD_eq_getElem?_getD, List.getElem?_eq_getElem (by omega), List.append_assoc]
  rfl

theorem chg_succ1 (L T : List Nat) (k t : Nat) (ht : t < 8) (h : (L.getD k 0 ^^^ T.getD k 0) / 2 ^ t % 2 = 1) : chgL L T (8 * k + t + 1) = chgL L T (8 * k + t) ++ [8 * k + t] := by
  rw [chgL_succ]
  have : chgAt L T (8 * k + t) = true := by
    unfold chgAt
    rw [show (8 * k + t) / 8 = k by omega, show (8 * k + t) % 8 = t by omega, h]
    rfl
  rw [this, if_pos rfl]

theorem chg_succ0 (L T : List Nat) (k t : Nat) (ht : t < 8) (h : (L.getD k 0 ^^^ T.getD k 0) / 2 ^ t % 2 = 0) : chgL L T (8 * k + t + 1) = chgL L T (8 * k + t) := by
  rw [chgL_succ]
  have : chgAt L T (8 * k + t) = false := by
    unfold chgAt
    rw [show (8 * k + t) / 8 = k by omega, show (8 * k + t) % 8 = t by omega, h]
    rfl
  rw [this]
  simp

set_option maxHeartbeats 1000000 in
set_option maxRecDepth 100000 in
theorem walk (a0 : Option Addr) (len0 cap0 : Nat) (z0 : List Int) (a1 : Option Addr) (len1 cap1 : Nat) (z1 : List Int) (a2 : Bool) (w : World) (w0 : Reads w a0 len0 z0) (s0 : len0 ≤ 140737488351232) (w1 : Reads w a1 len1 z1) (s1 : len1 ≤ 140737488351232) :
    Calls Try.prog 3 #[.slice a0 len0 cap0, .slice a1 len1 cap1, .bool a2] w fun e w' => e = .returned (.bool true) ∧ Below w.heap.size w w' := by
  by_cases hle : len0 ≤ 4095
  · obtain ⟨hc0, hx0⟩ := cst_of z0 w0.2.1
    obtain ⟨hc1, hx1⟩ := cst_of z1 w1.2.1
    obtain ⟨ns, hns⟩ : ∃ ns, ns = z0.map Int.toNat := ⟨_, rfl⟩
    obtain ⟨ms, hms⟩ : ∃ ms, ms = z1.map Int.toNat := ⟨_, rfl⟩
    rw [← hns] at hc0 hx0
    rw [← hms] at hc1 hx1
    have hnl : ns.length = len0 := by rw [hns, List.length_map]; exact w0.1
    have hml : ms.length = len1 := by rw [hms, List.length_map]; exact w1.1
    subst hc0
    subst hc1
    clear hns hms
    obtain ⟨L, hL⟩ : ∃ L, L = layLN (ns ++ [colN ns]) := ⟨_, rfl⟩
    obtain ⟨T, hT⟩ : ∃ T, T = tornL a2 L ms := ⟨_, rfl⟩
    have hLl : L.length = 2 * len0 + 2 := by rw [hL, layLN_length]; simp [hnl]; omega
    have hTl : T.length = L.length := by rw [hT, tornL_length]
    have hL256 : ∀ x ∈ L, x < 256 := by rw [hL]; exact layLN_lt _
    have hT256 : ∀ x ∈ T, x < 256 := by rw [hT]; exact tornL_lt a2 L ms hL256 hx1
    have hlay : layL (cst ns ++ [colF (cst ns)]) = cst L := by rw [col_cst ns hx0, hL, ← lay_cst]; simp [cst]
    have hend := torn_all a2 ns ms hx0 hx1 L T hL hT (2 * len0 + 2) hLl
    have hat : ∀ k, k < 2 * len0 + 2 → T.getD k 0 = opN a2 (L.getD k 0) (ms.getD k 0) := fun k hk => by rw [hT]; exact tornL_getD a2 L ms k (by omega)
    have HLAY : Hid (layL (cst ns ++ [colF (cst ns)]) = cst L) := hlay
    have HEND : Hid _ := hend
    have HAT : Hid (∀ k, k < 2 * len0 + 2 → T.getD k 0 = opN a2 (L.getD k 0) (ms.getD k 0)) := hat
    have HL256 : Hid (∀ x ∈ L, x < 256) := hL256
    have HT256 : Hid (∀ x ∈ T, x < 256) := hT256
    have HM256 : Hid (∀ x ∈ ms, x < 256) := hx1
    have hm : 1 ≤ len0 + 1 ∧ len0 + 1 ≤ 4096 := by omega
    clear hL hT hlay hend hat hL256 hT256 hx0 hx1
    go_enter Try.func3, Try.ntmps3
    go_wp2_with (first
      | (go_at_call 5; refine (heads_any _).mono ?_; rintro e u1 ⟨rfl, bel1⟩; have rb1 := w0.below bel1)
      | (go_at_call 6; refine (lay_ok _ _ _ (cst ns) _ hle rb1).mono ?_; rintro e u2 ⟨g, c, rfl, own2, bel2⟩; rw [HLAY.out] at own2; have bw2 := bel1.trans (bel2.mono bel1.size); have gl2 := own2.lt))
    have sz1 := bel1.size
    clear rb1 bel1 bel2
    go_loopw [9, 10, 11] (fun v q i wr => ∃ (k d : Nat) (p : Int), k ≤ 2 * len0 + 2 ∧ i = .int .i64 k ∧ v = .int .i64 (d : Int) ∧ q = .int .i64 p ∧ d ≤ 8 * k ∧ Hid (d = (chgL L T (8 * k)).length ∧ p = lastL (chgL L T (8 * k))) ∧ Own wr u1.heap.size g (2 * len0 + 2) c (cst (T.take k ++ L.drop k)) ∧ u2.grownBy wr (some g))
      (fun _ _ i _ => 2 * len0 + 2 - (intOf i).toNat)
    case atStart => exact ⟨0, 0, -1, Nat.zero_le _, rfl, rfl, rfl, by omega, ⟨rfl, rfl⟩, by simpa using own2, ⟨rfl, rfl, rfl, Nat.le_refl _, fun _ _ _ => rfl⟩⟩
    case round =>
      obtain ⟨k, d, p, hk, rfl, rfl, rfl, hd, HD, hown, hg⟩ := hrel
      clear own2
      by_cases hlt : k < 2 * len0 + 2
      · obtain ⟨x, hx⟩ : ∃ x, x = L.getD k 0 := ⟨_, rfl⟩
        obtain ⟨y, hy⟩ : ∃ y, y = T.getD k 0 := ⟨_, rfl⟩
        obtain ⟨m, hmm⟩ : ∃ m, m = ms.getD k 0 := ⟨_, rfl⟩
        obtain ⟨e, he⟩ : ∃ e, e = x ^^^ y := ⟨_, rfl⟩
        have x256 : x < 256 := by rw [hx]; exact at_lt HL256.out _
        have y256 : y < 256 := by rw [hy]; exact at_lt HT256.out _
        have m256 : m < 256 := by rw [hmm]; exact at_lt HM256.out _
        have e256 : e < 256 := by rw [he]; exact Nat.xor_lt_two_pow (n := 8) x256 y256
        have hxr : bits .xor .u8 (x : Int) (y : Int) = (e : Int) := by rw [he]; exact u8_xor_nat x y x256 y256
        have hyo : y = opN a2 x m := by rw [hy, hx, hmm]; exact HAT.out k hlt
        have hoc := hown.cell k hlt
        rw [cst_getD, mix_getD T L k (by omega) hTl, ← hx] at hoc
        have hfz : wr.frozen? ⟨g, k, none⟩ = false := World.ownsRow.frozenAt hown k
        have hset := (hown.set k (y : Int)).1
        rw [cst_set, hy, mix_set T L k (by omega) hTl, ← hy] at hset
        have hgs := grownBy_trans hg (hown.set k (y : Int)).2
        have hcs : (wr.setCell ⟨g, k, none⟩ (.int .u8 (y : Int))).cell? ⟨g, k, none⟩ = some (.int .u8 (y : Int)) := World.cell?_setCell_same _ _ _ hoc
        have HSET : Hid (Own _ _ _ _ _ _) := hset
        have HG : Hid (World.grownBy _ _ _) := hgs
        have HX : Hid (x = L.getD k 0) := hx
        have HY : Hid (y = T.getD k 0) := hy
        have HE : Hid (e = x ^^^ y) := he
        have m1 : (k : Int) < 2 * (len0 : Int) + 2 := by omega
        have hd1 : decide ((k : Int) < 2 * (len0 : Int) + 2) = true := decide_eq_true m1
        have hmx : bits .xor .u8 (m : Int) 255 = ((m ^^^ 255 : Nat) : Int) := u8_xor_nat m 255 m256 (by decide)
        obtain ⟨mx, hmxe⟩ : ∃ mx, mx = m ^^^ 255 := ⟨_, rfl⟩
        have mx256 : mx < 256 := by rw [hmxe]; exact Nat.xor_lt_two_pow (n := 8) m256 (by decide)
        have hup : a2 = true → bits .or .u8 (x : Int) (m : Int) = (y : Int) := fun h => by rw [u8_or_nat x m x256 m256, hyo, h]; rfl
        have hdn : a2 = false → bits .and .u8 (x : Int) (mx : Int) = (y : Int) := fun h => by rw [u8_and_nat x mx x256 mx256, hyo, h, hmxe]; rfl
        rw [← hmxe] at hmx
        by_cases h1 : k < len1
        · obtain ⟨b, off, rfl, hb, hcell⟩ := w1.pos (by omega)
          have hcx : wr.cell? ⟨b, off + k, none⟩ = some (.int .u8 (m : Int)) := by
            have h3 := hcell k h1
            rw [cst_getD, ← hmm] at h3
            rw [((bw2.grown hg bw2.size (fun q hq => by cases hq; omega)).cell (by exact hb))]
            exact h3
          have m2 : (k : Int) < (len1 : Int) := by omega
          have hd2 : decide ((k : Int) < (len1 : Int)) = true := decide_eq_true m2
          clear hcell hx hy hmm he hyo hown hset hgs hmxe w1 HL256 HM256
          cases a2
          · have hop := hdn rfl
            clear hup hdn
            go_wp2
            go_loop [9, 10, 14] (fun v q i => ∃ (t d2 : Nat) (p2 : Int), t ≤ 8 ∧ i = .int .i64 t ∧ v = .int .i64 (d2 : Int) ∧ q = .int .i64 p2 ∧ d2 ≤ 8 * k + t ∧ Hid (d2 = (chgL L T (8 * k + t)).length ∧ p2 = lastL (chgL L T (8 * k + t))))
              (fun _ _ i => 8 - (intOf i).toNat)
            case atStart => exact ⟨0, d, p, by omega, rfl, rfl, rfl, by omega, HD⟩
            case round =>
              obtain ⟨t, d2, p2, ht, rfl, rfl, rfl, hd2, HD2⟩ := hrel
              by_cases hlt2 : t < 8
              · have hb := bit8 t hlt2 e e256
                obtain ⟨b0, hb0⟩ : ∃ b0, b0 = e / 2 ^ t % 2 := ⟨_, rfl⟩
                rw [← hb0] at hb
                have m2 : (t : Int) < 8 := by omega
                have hd2' : decide ((t : Int) < 8) = true := decide_eq_true m2
                have hb1 : b0 = 0 ∨ b0 = 1 := by omega
                rcases hb1 with rfl | rfl
                · have HS : Hid (chgL L T (8 * k + t + 1) = chgL L T (8 * k + t)) := chg_succ0 L T k t hlt2 (by rw [← HX.out, ← HY.out, ← HE.out, ← hb0])
                  clear hb0
                  go_wp2
                  go_round
                  case rel => exact ⟨t + 1, d2, p2, by omega, by go_num, rfl, rfl, by omega, by unfold Hid; rw [← Nat.add_assoc, HS.out]; exact HD2.out⟩
                  case measure => simp [intOf]; omega
                · have HS : Hid (chgL L T (8 * k + t + 1) = chgL L T (8 * k + t) ++ [8 * k + t]) := chg_succ1 L T k t hlt2 (by rw [← HX.out, ← HY.out, ← HE.out, ← hb0])
                  clear hb0
                  go_wp2
                  go_round
                  case rel => exact ⟨t + 1, d2 + 1, (((8 * k + t) / 2 : Nat) : Int), by omega, by go_num, by go_num, by go_num, by omega, by unfold Hid; rw [← Nat.add_assoc, HS.out, lastL_snoc, List.length_append, HD2.out.1]; exact ⟨rfl, rfl⟩⟩
                  case measure => simp [intOf]; omega
              · have ht8 : t = 8 := by omega
                subst ht8
                go_wp2
                go_roundw
                case rel => exact ⟨k + 1, d2, p2, by omega, by go_num, rfl, rfl, by omega, HD2, HSET.out, HG.out⟩
                case measure => simp [intOf]; omega
          · have hop := hup rfl
            clear hup hdn
            go_wp2
            go_loop [9, 10, 14] (fun v q i => ∃ (t d2 : Nat) (p2 : Int), t ≤ 8 ∧ i = .int .i64 t ∧ v = .int .i64 (d2 : Int) ∧ q = .int .i64 p2 ∧ d2 ≤ 8 * k + t ∧ Hid (d2 = (chgL L T (8 * k + t)).length ∧ p2 = lastL (chgL L T (8 * k + t))))
              (fun _ _ i => 8 - (intOf i).toNat)
            case atStart => exact ⟨0, d, p, by omega, rfl, rfl, rfl, by omega, HD⟩
            case round =>
              obtain ⟨t, d2, p2, ht, rfl, rfl, rfl, hd2, HD2⟩ := hrel
              by_cases hlt2 : t < 8
              · have hb := bit8 t hlt2 e e256
                obtain ⟨b0, hb0⟩ : ∃ b0, b0 = e / 2 ^ t % 2 := ⟨_, rfl⟩
                rw [← hb0] at hb
                have m2 : (t : Int) < 8 := by omega
                have hd2' : decide ((t : Int) < 8) = true := decide_eq_true m2
                have hb1 : b0 = 0 ∨ b0 = 1 := by omega
                rcases hb1 with rfl | rfl
                · have HS : Hid (chgL L T (8 * k + t + 1) = chgL L T (8 * k + t)) := chg_succ0 L T k t hlt2 (by rw [← HX.out, ← HY.out, ← HE.out, ← hb0])
                  clear hb0
                  go_wp2
                  go_round
                  case rel => exact ⟨t + 1, d2, p2, by omega, by go_num, rfl, rfl, by omega, by unfold Hid; rw [← Nat.add_assoc, HS.out]; exact HD2.out⟩
                  case measure => simp [intOf]; omega
                · have HS : Hid (chgL L T (8 * k + t + 1) = chgL L T (8 * k + t) ++ [8 * k + t]) := chg_succ1 L T k t hlt2 (by rw [← HX.out, ← HY.out, ← HE.out, ← hb0])
                  clear hb0
                  go_wp2
                  go_round
                  case rel => exact ⟨t + 1, d2 + 1, (((8 * k + t) / 2 : Nat) : Int), by omega, by go_num, by go_num, by go_num, by omega, by unfold Hid; rw [← Nat.add_assoc, HS.out, lastL_snoc, List.length_append, HD2.out.1]; exact ⟨rfl, rfl⟩⟩
                  case measure => simp [intOf]; omega
              · have ht8 : t = 8 := by omega
                subst ht8
                go_wp2
                go_roundw
                case rel => exact ⟨k + 1, d2, p2, by omega, by go_num, rfl, rfl, by omega, HD2, HSET.out, HG.out⟩
                case measure => simp [intOf]; omega
        · have hm0 : m = 0 := by rw [hmm, List.getD_eq_getElem?_getD, List.getElem?_eq_none (by omega)]; rfl
          subst hm0
          have m2 : (len1 : Int) ≤ (k : Int) := by omega
          have hd2 : decide ((k : Int) < (len1 : Int)) = false := decide_eq_false (by omega)
          clear hx hy hmm he hyo hown hset hgs hmxe w1 HL256 HM256
          have hmx0 : bits .xor .u8 0 255 = (mx : Int) := hmx
          clear hmx
          cases a2
          · have hop := hdn rfl
            clear hup hdn
            go_wp2
            go_loop [9, 10, 14] (fun v q i => ∃ (t d2 : Nat) (p2 : Int), t ≤ 8 ∧ i = .int .i64 t ∧ v = .int .i64 (d2 : Int) ∧ q = .int .i64 p2 ∧ d2 ≤ 8 * k + t ∧ Hid (d2 = (chgL L T (8 * k + t)).length ∧ p2 = lastL (chgL L T (8 * k + t))))
              (fun _ _ i => 8 - (intOf i).toNat)
            case atStart => exact ⟨0, d, p, by omega, rfl, rfl, rfl, by omega, HD⟩
            case round =>
              obtain ⟨t, d2, p2, ht, rfl, rfl, rfl, hd2, HD2⟩ := hrel
              by_cases hlt2 : t < 8
              · have hb := bit8 t hlt2 e e256
                obtain ⟨b0, hb0⟩ : ∃ b0, b0 = e / 2 ^ t % 2 := ⟨_, rfl⟩
                rw [← hb0] at hb
                have m2 : (t : Int) < 8 := by omega
                have hd2' : decide ((t : Int) < 8) = true := decide_eq_true m2
                have hb1 : b0 = 0 ∨ b0 = 1 := by omega
                rcases hb1 with rfl | rfl
                · have HS : Hid (chgL L T (8 * k + t + 1) = chgL L T (8 * k + t)) := chg_succ0 L T k t hlt2 (by rw [← HX.out, ← HY.out, ← HE.out, ← hb0])
                  clear hb0
                  go_wp2
                  go_round
                  case rel => exact ⟨t + 1, d2, p2, by omega, by go_num, rfl, rfl, by omega, by unfold Hid; rw [← Nat.add_assoc, HS.out]; exact HD2.out⟩
                  case measure => simp [intOf]; omega
                · have HS : Hid (chgL L T (8 * k + t + 1) = chgL L T (8 * k + t) ++ [8 * k + t]) := chg_succ1 L T k t hlt2 (by rw [← HX.out, ← HY.out, ← HE.out, ← hb0])
                  clear hb0
                  go_wp2
                  go_round
                  case rel => exact ⟨t + 1, d2 + 1, (((8 * k + t) / 2 : Nat) : Int), by omega, by go_num, by go_num, by go_num, by omega, by unfold Hid; rw [← Nat.add_assoc, HS.out, lastL_snoc, List.length_append, HD2.out.1]; exact ⟨rfl, rfl⟩⟩
                  case measure => simp [intOf]; omega
              · have ht8 : t = 8 := by omega
                subst ht8
                go_wp2
                go_roundw
                case rel => exact ⟨k + 1, d2, p2, by omega, by go_num, rfl, rfl, by omega, HD2, HSET.out, HG.out⟩
                case measure => simp [intOf]; omega
          · have hop : bits .or .u8 (x : Int) 0 = (y : Int) := hup rfl
            clear hup hdn
            go_wp2
            go_loop [9, 10, 14] (fun v q i => ∃ (t d2 : Nat) (p2 : Int), t ≤ 8 ∧ i = .int .i64 t ∧ v = .int .i64 (d2 : Int) ∧ q = .int .i64 p2 ∧ d2 ≤ 8 * k + t ∧ Hid (d2 = (chgL L T (8 * k + t)).length ∧ p2 = lastL (chgL L T (8 * k + t))))
              (fun _ _ i => 8 - (intOf i).toNat)
            case atStart => exact ⟨0, d, p, by omega, rfl, rfl, rfl, by omega, HD⟩
            case round =>
              obtain ⟨t, d2, p2, ht, rfl, rfl, rfl, hd2, HD2⟩ := hrel
              by_cases hlt2 : t < 8
              · have hb := bit8 t hlt2 e e256
                obtain ⟨b0, hb0⟩ : ∃ b0, b0 = e / 2 ^ t % 2 := ⟨_, rfl⟩
                rw [← hb0] at hb
                have m2 : (t : Int) < 8 := by omega
                have hd2' : decide ((t : Int) < 8) = true := decide_eq_true m2
                have hb1 : b0 = 0 ∨ b0 = 1 := by omega
                rcases hb1 with rfl | rfl
                · have HS : Hid (chgL L T (8 * k + t + 1) = chgL L T (8 * k + t)) := chg_succ0 L T k t hlt2 (by rw [← HX.out, ← HY.out, ← HE.out, ← hb0])
                  clear hb0
                  go_wp2
                  go_round
                  case rel => exact ⟨t + 1, d2, p2, by omega, by go_num, rfl, rfl, by omega, by unfold Hid; rw [← Nat.add_assoc, HS.out]; exact HD2.out⟩
                  case measure => simp [intOf]; omega
                · have HS : Hid (chgL L T (8 * k + t + 1) = chgL L T (8 * k + t) ++ [8 * k + t]) := chg_succ1 L T k t hlt2 (by rw [← HX.out, ← HY.out, ← HE.out, ← hb0])
                  clear hb0
                  go_wp2
                  go_round
                  case rel => exact ⟨t + 1, d2 + 1, (((8 * k + t) / 2 : Nat) : Int), by omega, by go_num, by go_num, by go_num, by omega, by unfold Hid; rw [← Nat.add_assoc, HS.out, lastL_snoc, List.length_append, HD2.out.1]; exact ⟨rfl, rfl⟩⟩
                  case measure => simp [intOf]; omega
              · have ht8 : t = 8 := by omega
                subst ht8
                go_wp2
                go_roundw
                case rel => exact ⟨k + 1, d2, p2, by omega, by go_num, rfl, rfl, by omega, HD2, HSET.out, HG.out⟩
                case measure => simp [intOf]; omega
      · have hkn : k = 2 * len0 + 2 := by omega
        rw [hkn] at HD hown
        clear hkn
        rw [List.take_of_length_le (by omega), List.drop_of_length_le (by omega), List.append_nil] at hown
        have rT := hown.all (cst_range _ HT256.out)
        have bwk := bw2.grown hg bw2.size (fun q hq => by cases hq; omega)
        obtain ⟨d1, d2⟩ := HD.out
        have he := HEND.out
        rw [← d1, ← d2] at he
        have HRD : Hid (∀ (a : Option Addr) (l cap : Nat) (w : World), l = 2 * (len0 + 1) → Reads w a l (cst T) → Calls Try.prog 8 #[.slice a l cap] w fun e w' => readR w (len0 + 1) (readN T) e w' ∧ Below w.heap.size w w') := fun a l cap w hl h => read_ok a l cap (len0 + 1) T w hl hm HT256.out h
        clear d1 d2 HD HEND hown hg
        rcases he with ⟨hd1, hr⟩ | ⟨hd2, hr⟩
        · have HR : Hid (readN T = some (ns, p)) := hr
          have hd3 : (d : Int) ≤ 1 := by omega
          clear hr
          go_wp2_with (first
            | (go_at_call 8; refine (HRD.out _ _ _ _ ?_ ?_).mono ?_; omega; exact rT; rintro e u3 ⟨hr, bel3⟩; rw [HR.out] at hr; obtain ⟨rfl, rx3⟩ := read_got hr; have bw3 := bwk.trans (bel3.mono bwk.size); have rb3 := w0.below bw3)
            | (go_at_call 7; refine (no_any _ _).mono ?_; rintro e u ⟨rfl, rfl⟩)
            | (go_at_call 9; refine (same_any _ _ _ _ _ (cst ns) (cst ns) _ ?_ ?_ ?_).mono ?_; omega; exact rx3; exact rb3; rintro e u4 ⟨rfl, k4, rfl⟩))
          go_ret
          exact ⟨by simp, below_drewN bw3 _⟩
        · have HR : Hid (readN T = none) := hr
          have hd3 : (1 : Int) < (d : Int) := by omega
          clear hr
          go_wp2_with (first
            | (go_at_call 8; refine (HRD.out _ _ _ _ ?_ ?_).mono ?_; omega; exact rT; rintro e u3 ⟨hr, bel3⟩; rw [HR.out] at hr; obtain rfl := hr; have bw3 := bwk.trans (bel3.mono bwk.size))
            | (go_at_call 7; refine (no_any _ _).mono ?_; rintro e u ⟨rfl, rfl⟩))
          go_ret
          exact ⟨rfl, bw3⟩
  · have hgt : 4095 < len0 := by omega
    go_enter Try.func3, Try.ntmps3
    go_wp2_with (first
      | (go_at_call 5; refine (heads_any _).mono ?_; rintro e u1 ⟨rfl, bel1⟩)
      | (go_at_call 6; refine (lay_bad _ _ _ _ hgt (by omega)).mono ?_; rintro e u3 ⟨rfl, rfl⟩)
      | (go_at_call 7; refine (no_any _ _).mono ?_; rintro e u ⟨rfl, rfl⟩))
    go_ret
    exact ⟨rfl, bel1⟩

set_option maxRecDepth 100000 in
theorem lifted (os : Os) (started : os.Started) (H : Type) (enc : TypeId × Value → H) :
    ReturnsInHanded {} Try.checked os 3 .any (Rows.railTornSpec.pre6 enc Try.prog Try.f3 Rows.railTornRow.domain false) (Rows.railTornSpec.post enc Try.prog Try.f3 false true false false) := by
  refine returnsInHanded_of_change_sized (C := Try.checked) own started (by kernel_rfl) Try.func3
    (ChangeSpec.witness6 (enc := enc) (C := Try.checked) false ⟨#[], #[.slice none 0 0, .slice none 0 0, .bool false], []⟩ 8 (by kernel_rfl) (by kernel_rfl) (by kernel_rfl) (by kernel_rfl)) ?_
  intro W base args ds gs before hval0 hW hcnd hsz0 _
  have hval : ∀ (j : Nat) t v, Try.f3.params[j]? = some t → args[j]? = some v → Value.okWide Try.prog W .any base t v := hval0
  have hsz : (DataW.weightsEach Try.prog (Try.f3.params.toList ++ Rows.railTornSpec.plain.varTypes Try.prog) (ds ++ gs)).all (· ≤ reachBytes) = true := hsz0
  clear hsz0
  have hW' := hW
  obtain ⟨p, q, hA0, hV, rfl, hfz, hnd⟩ := hW
  have hA : DataW.TrodAll enc Try.prog W 0 (fun _ => true) true Try.f3.params.toList args.toList ds p := hA0
  rw [Try.params3] at hA hval hsz
  obtain ⟨v0, vs0, d0, ds0, p0, q0, hargs, rfl, rfl, h0, r0⟩ := trodAll_cons hA
  obtain ⟨v1, vs1, d1, ds1, p1, q1, rfl, rfl, rfl, h1, r1⟩ := trodAll_cons r0
  obtain ⟨v2, vs2, d2, ds2, p2, q2, rfl, rfl, rfl, h2, r2⟩ := trodAll_cons r1
  obtain ⟨rfl, rfl, rfl⟩ := trodAll_nil r2
  obtain rfl : args = #[v0, v1, v2] := by cases args; simp_all
  obtain ⟨rfl, rfl⟩ := trodVars_none hV
  obtain ⟨a0, len0, cap0, rfl⟩ := okWide_slice Try.underlying22 (hval 0 22 v0 rfl rfl)
  have k0 := h0
  have lt0 : ∀ x ∈ p0, x.block < W.heap.size := by obtain ⟨m, hm⟩ := k0; exact DataW.trod_lt m _ _ _ hm
  obtain ⟨z0, w0, s0⟩ : ∃ zs, Reads W a0 len0 zs ∧ len0 ≤ 140737488351232 := by
    obtain ⟨fuel, hf⟩ := h0
    rcases open_ints Try.underlying22 Try.underlying5 (by kernel_rfl) hf with ⟨hcs, _⟩ | ⟨x, l, c, zs, hcs, _, hl, hm, hz, hx, hcell, hwz⟩
    · simp [Value.cells] at hcs
      obtain ⟨rfl, rfl, rfl⟩ := hcs
      exact ⟨[], ⟨rfl, by simp, fun _ => rfl, fun _ h => by cases h⟩, by omega⟩
    · simp [Value.cells] at hcs
      obtain ⟨rfl, rfl, rfl⟩ := hcs
      have hz' : zs.length = cap0 := by simpa using hz
      have hd := (Prod.mk.inj hx).1
      have hw := sized_slice hsz (j := 0) (t := 22) (e := 5) rfl (congrArg some hd) Try.underlying22
      rw [bytes5] at hw
      simp only [lits, List.length_map, List.length_take, List.length_drop, reachBytes] at hw
      refine ⟨zs.take len0, ⟨by simp; omega, fun n hn => bounds_u8 (hwz n (List.mem_of_mem_take hn)), (fun h => by cases h), fun y hy i hi => ?_⟩, by omega⟩
      cases hy
      rw [hcell i (by omega)]
      simp [List.getD, hi]
  obtain ⟨a1, len1, cap1, rfl⟩ := okWide_slice Try.underlying22 (hval 1 22 v1 rfl rfl)
  have k1 := h1
  have lt1 : ∀ x ∈ p1, x.block < W.heap.size := by obtain ⟨m, hm⟩ := k1; exact DataW.trod_lt m _ _ _ hm
  obtain ⟨z1, w1, s1⟩ : ∃ zs, Reads W a1 len1 zs ∧ len1 ≤ 140737488351232 := by
    obtain ⟨fuel, hf⟩ := h1
    rcases open_ints Try.underlying22 Try.underlying5 (by kernel_rfl) hf with ⟨hcs, _⟩ | ⟨x, l, c, zs, hcs, _, hl, hm, hz, hx, hcell, hwz⟩
    · simp [Value.cells] at hcs
      obtain ⟨rfl, rfl, rfl⟩ := hcs
      exact ⟨[], ⟨rfl, by simp, fun _ => rfl, fun _ h => by cases h⟩, by omega⟩
    · simp [Value.cells] at hcs
      obtain ⟨rfl, rfl, rfl⟩ := hcs
      have hz' : zs.length = cap1 := by simpa using hz
      have hd := (Prod.mk.inj hx).1
      have hw := sized_slice hsz (j := 1) (t := 22) (e := 5) rfl (congrArg some hd) Try.underlying22
      rw [bytes5] at hw
      simp only [lits, List.length_map, List.length_take, List.length_drop, reachBytes] at hw
      refine ⟨zs.take len1, ⟨by simp; omega, fun n hn => bounds_u8 (hwz n (List.mem_of_mem_take hn)), (fun h => by cases h), fun y hy i hi => ?_⟩, by omega⟩
      cases hy
      rw [hcell i (by omega)]
      simp [List.getD, hi]
  obtain ⟨a2, rfl, rfl, rfl⟩ := open_bool Try.underlying4 (hval 2 4 v2 rfl rfl) h2
  clear hA0 hval0
  refine (walk a0 len0 cap0 z0 a1 len1 cap1 z1 a2 W w0 s0 w1 s1).mono fun e W' ⟨he, bel⟩ => ?_
  subst he
  exact ⟨_, rfl, _, _, _, [], _, [], hW', trodAll_mk1 (shut_bool Try.underlying4 _), (trodAll_cons_mk (Below.trod laidOut (by kernel_rfl) (of_decide_eq_true (by kernel_rfl)) k0 bel lt0) (trodAll_cons_mk (Below.trod laidOut (by kernel_rfl) (of_decide_eq_true (by kernel_rfl)) k1 bel lt1) (trodAll_cons_mk (shut_bool Try.underlying4 _) trodAll_mk0))), rfl, bel.frame _, fun h => by cases h⟩

theorem over : Rows.railTornRow.holds Try.pinned (OpenSpec.ofChange Rows.railTornSpec) :=
  OpenClaim.holds_of_wide 3 Try.f3 rfl rfl rfl rfl rfl rfl rfl ⟨rfl, rfl, rfl, rfl, rfl⟩ rfl rfl rfl rfl rfl (by kernel_rfl) Try.func3 (by kernel_rfl)
    (of_decide_eq_true (by kernel_rfl)) (by unfold Func.isWrapper; first | (rw [if_pos (by decide +kernel)]; kernel_rfl) | (rw [if_neg (by decide +kernel)]; exact ⟨rfl, rfl⟩))
    (fun os started H enc _ => lifted os started H enc)

end Go.Proofs.Ytkcpfcnpniblcac.railTorn
namespace Go.Proofs.Ytkcpfcnpniblcac
theorem railTorn_holds : Rows.RailTornSaid := railTorn.over
#print axioms railTorn_holds
end Go.Proofs.Ytkcpfcnpniblcac

