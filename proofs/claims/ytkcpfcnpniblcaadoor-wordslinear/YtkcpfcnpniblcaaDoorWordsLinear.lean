/-
  SEAT YtkcpfcnpniblcaaDoor: WordsLinear.
-/
import Derived.Test.YtkcpfcnpniblcaaDoorSum
import Derived.Test.YtkcpfcnpniblcaaDoorCards
import Derived.Test.YtkcpfcnpniblcaaDoorTie
import Derived.Deep.RegionHeld3
import Derived.Deep.AppendLies
import Derived.Lib.SmallJoins
import Derived.Deep.RegionHeld
import Derived.ProofKit
import Derived.OpenShut
import Derived.ShutString
import Derived.ChangeOld
import Derived.SizedLaws
import Derived.Deep.DeepHandedRow
import Derived.Lib.LaidTab
namespace Go.Proofs.YtkcpfcnpniblcaaDoor.wordsLinear
open Go.ChangeShapes Go.WideShapes Go.ChangeAt Go.RowKit
set_option linter.unusedVariables false

theorem own : ownKnob Tryd.prog.godebug = none := by kernel_rfl
theorem bytes5 : Tryd.prog.bytesOf 5 = 1 := by kernel_rfl
theorem laidOut : laidOutB Tryd.prog = true := by kernel_rfl
theorem gTab : Tryd.prog.globalNamed "shale/words.halves" = some 0 := by kernel_rfl
theorem gTabType : (Tryd.prog.globals[0]?).map (·.type) = some 31 := by kernel_rfl
theorem cells31 : Tryd.prog.cellsOf 31 = 16 := by kernel_rfl
theorem cells23 : Tryd.prog.cellsOf 23 = 1 := by kernel_rfl

theorem tabInts : ∀ i, i < 16 → ([0, 498536548, 997073096, 651767980, 1994146192, 1802195444, 1303535960, 1342533948, 3988292384, 4027552580, 3604390888, 3412177804, 2607071920, 2262029012, 2685067896, 3183342108] : List Int).getD i 0 = ((tab.getD i 0 : Nat) : Int) := by decide +kernel

theorem table {W : World} (h : laidMetH Tryd.prog Rows.wordsLinearRow.laid W) : Tab W := by
  have ht : Lib.TabIs Tryd.prog W "shale/words.halves" .u32 [0, 498536548, 997073096, 651767980, 1994146192, 1802195444, 1303535960, 1342533948, 3988292384, 4027552580, 3604390888, 3412177804, 2607071920, 2262029012, 2685067896, 3183342108] :=
    Lib.tabIs_of_head (rest := []) gTab gTabType Tryd.underlying31 Tryd.underlying23 cells23 cells31 h
  intro i hi
  rw [ht.cell gTab i hi, tabInts i hi]

/-- The exclusive or of three texts, byte by byte. -/
def x3 (a b c : List Int) : Nat → List Int
  | 0 => []
  | k + 1 => x3 a b c k ++ [bits .xor .u8 (bits .xor .u8 (a.getD k 0) (b.getD k 0)) (c.getD k 0)]

theorem x3_length (a b c : List Int) (k : Nat) : (x3 a b c k).length = k := by
  induction k with
  | zero => rfl
  | succ k ih => simp [x3, ih]

theorem xb (z y : Int) (h0 : 0 ≤ z ∧ z ≤ 255) (h2 : 0 ≤ y ∧ y ≤ 255) : (0 ≤ bits .xor .u8 z y ∧ bits .xor .u8 z y ≤ 255) ∧ (bits .xor .u8 z y).toNat = z.toNat ^^^ y.toNat := by
  obtain ⟨z, rfl⟩ := Int.eq_ofNat_of_zero_le h0.1
  obtain ⟨y, rfl⟩ := Int.eq_ofNat_of_zero_le h2.1
  have hx : z ^^^ y < 2 ^ 8 := Nat.xor_lt_two_pow (by omega) (by omega)
  rw [u8_xor_nat z y (by omega) (by omega)]
  simp only [Int.toNat_natCast]
  exact ⟨by omega, trivial⟩

theorem x3_range {a b c : List Int} (ha : ∀ x ∈ a, 0 ≤ x ∧ x ≤ 255) (hb : ∀ x ∈ b, 0 ≤ x ∧ x ≤ 255) (hc : ∀ x ∈ c, 0 ≤ x ∧ x ≤ 255) (k : Nat) : ∀ x ∈ x3 a b c k, 0 ≤ x ∧ x ≤ 255 := by
  induction k with
  | zero => simp [x3]
  | succ k ih =>
    intro x hx
    rcases List.mem_append.1 hx with h1 | h1
    · exact ih x h1
    · simp only [List.mem_singleton] at h1
      rw [h1]
      exact (xb _ _ (xb _ _ (byteAt ha k) (byteAt hb k)).1 (byteAt hc k)).1

theorem x3_crc {a b c : List Int} (ha : ∀ x ∈ a, 0 ≤ x ∧ x ≤ 255) (hb : ∀ x ∈ b, 0 ≤ x ∧ x ≤ 255) (hc : ∀ x ∈ c, 0 ≤ x ∧ x ≤ 255) (k : Nat) (h1 : k ≤ a.length) (h2 : k ≤ b.length) (h3 : k ≤ c.length) :
    crcL (nats (x3 a b c k)) = crcL (nats (a.take k)) ^^^ crcL (nats (b.take k)) ^^^ crcL (nats (c.take k)) := by
  induction k with
  | zero => simp [x3, nats, crcL]
  | succ k ih =>
    rw [crc_take a k (by omega), crc_take b k (by omega), crc_take c k (by omega), ← crcB_xor3, ← ih (by omega) (by omega) (by omega), x3, nats, List.map_append, ← nats]
    simp only [List.map_cons, List.map_nil]
    rw [crcL_snoc, (xb _ _ (xb _ _ (byteAt ha k) (byteAt hb k)).1 (byteAt hc k)).2, (xb _ _ (byteAt ha k) (byteAt hb k)).2]

theorem x3_sum {a b c : List Int} (ha : ∀ x ∈ a, 0 ≤ x ∧ x ≤ 255) (hb : ∀ x ∈ b, 0 ≤ x ∧ x ≤ 255) (hc : ∀ x ∈ c, 0 ≤ x ∧ x ≤ 255) (k : Nat) (h1 : k ≤ a.length) (h2 : k ≤ b.length) (h3 : k ≤ c.length) :
    sumL (nats (x3 a b c k)) = sumL (nats (a.take k)) ^^^ sumL (nats (b.take k)) ^^^ sumL (nats (c.take k)) := by
  unfold sumL
  rw [x3_crc ha hb hc k h1 h2 h3]
  have e : ∀ x y z m : Nat, x ^^^ y ^^^ z ^^^ m = (x ^^^ m) ^^^ (y ^^^ m) ^^^ (z ^^^ m) := by
    intro x y z m
    have h : (x ^^^ m) ^^^ (y ^^^ m) ^^^ (z ^^^ m) = (x ^^^ y ^^^ z ^^^ m) ^^^ (m ^^^ m) := by ac_rfl
    rw [h, Nat.xor_self, Nat.xor_zero]
  exact e _ _ _ _

theorem nine_reads (w : World) : Reads (w.alloc (.cells #[.int .u8 49, .int .u8 50, .int .u8 51, .int .u8 52, .int .u8 53, .int .u8 54, .int .u8 55, .int .u8 56, .int .u8 57] 5 (9, 10))).drew (some ⟨w.heap.size, 0, none⟩) 9 [49, 50, 51, 52, 53, 54, 55, 56, 57] := by
  refine ⟨rfl, by decide, (fun h => by cases h), fun x hx i hi => ?_⟩
  cases hx
  rw [plain_add, Nat.zero_add]
  refine (World.cell?_alloc_mark w #[.int .u8 49, .int .u8 50, .int .u8 51, .int .u8 52, .int .u8 53, .int .u8 54, .int .u8 55, .int .u8 56, .int .u8 57] 5 (9, 10) i).trans ?_
  match i, hi with
  | 0, _ => rfl
  | 1, _ => rfl
  | 2, _ => rfl
  | 3, _ => rfl
  | 4, _ => rfl
  | 5, _ => rfl
  | 6, _ => rfl
  | 7, _ => rfl
  | 8, _ => rfl

theorem sumL_lt {zs : List Int} (h : ∀ x ∈ zs, 0 ≤ x ∧ x ≤ 255) : sumL (nats zs) < 4294967296 := xor32 _ _ (crcL_lt _ (nats_lt h)) (by omega)

set_option maxHeartbeats 2000000 in
theorem walk (a0 : Option Addr) (len0 cap0 : Nat) (z0 : List Int) (a1 : Option Addr) (len1 cap1 : Nat) (z1 : List Int) (a2 : Option Addr) (len2 cap2 : Nat) (z2 : List Int) (w : World) (w0 : Reads w a0 len0 z0) (s0 : len0 ≤ 140737488351232) (l0 : len0 ≤ cap0) (w1 : Reads w a1 len1 z1) (s1 : len1 ≤ 140737488351232) (l1 : len1 ≤ cap1) (w2 : Reads w a2 len2 z2) (s2 : len2 ≤ 140737488351232) (l2 : len2 ≤ cap2) (hT : Tab w) :
    Calls Tryd.prog 3 #[.slice a0 len0 cap0, .slice a1 len1 cap1, .slice a2 len2 cap2] w fun e w' => e = .returned (.bool true) ∧ Below w.heap.size w w' := by
  obtain ⟨i0, hi, hz0, hz1, hz2⟩ := info_parts info5
  have hl0 := w0.1
  have hl1 := w1.1
  have hl2 := w2.1
  obtain ⟨n, hn⟩ : ∃ n : Nat, n = min len0 (min len1 len2) := ⟨_, rfl⟩
  have n0 : n ≤ len0 := by omega
  have n1 : n ≤ len1 := by omega
  have n2 : n ≤ len2 := by omega
  have nl : n ≤ 140737488351232 := by omega
  have hX := x3_sum w0.2.1 w1.2.1 w2.2.1 n (by omega) (by omega) (by omega)
  have hXr := x3_range w0.2.1 w1.2.1 w2.2.1 n
  have hr0 := w0.2.1
  have hr1 := w1.2.1
  have hr2 := w2.2.1
  have HX : Hid (sumL (nats (x3 z0 z1 z2 n)) = sumL (nats (z0.take n)) ^^^ sumL (nats (z1.take n)) ^^^ sumL (nats (z2.take n))) := hX
  clear hX
  rcases (show (len1 ≤ len2 ∧ len0 ≤ len1 ∧ len0 = n) ∨ (len1 ≤ len2 ∧ len1 < len0 ∧ len1 = n) ∨ (len2 < len1 ∧ len0 ≤ len2 ∧ len0 = n) ∨ (len2 < len1 ∧ len2 < len0 ∧ len2 = n) by omega) with ⟨c1, c2, c3⟩ | ⟨c1, c2, c3⟩ | ⟨c1, c2, c3⟩ | ⟨c1, c2, c3⟩
  all_goals
    have C3 : Hid (_ = n) := c3
    clear hn c3
    go_enter Tryd.func3, Tryd.ntmps3
    go_wp2
    go_loopw [8, 9] (fun v i wr => ∃ k : Nat, k ≤ n ∧ i = .int .i64 k ∧ wr.ownsRow w.heap.size 5 1 v k ((x3 z0 z1 z2 k).map (Value.int .u8)) ∧ Below w.heap.size w wr)
      (fun _ i _ => n - (intOf i).toNat)
    case atStart => exact ⟨0, Nat.zero_le _, rfl, World.ownsRow_nil _ _ _ _, Below.refl _ _⟩
    case round =>
      obtain ⟨k, hk, rfl, hown, hbel⟩ := hrel
      by_cases hlt : k < n
      · obtain ⟨b0, f0, rfl, hb0, hc0⟩ := w0.pos (by omega)
        obtain ⟨b1, f1, rfl, hb1, hc1⟩ := w1.pos (by omega)
        obtain ⟨b2, f2, rfl, hb2, hc2⟩ := w2.pos (by omega)
        obtain ⟨xa, ha⟩ : ∃ z, z = z0.getD k 0 := ⟨_, rfl⟩
        obtain ⟨xb', hb⟩ : ∃ z, z = z1.getD k 0 := ⟨_, rfl⟩
        obtain ⟨xc, hc⟩ : ∃ z, z = z2.getD k 0 := ⟨_, rfl⟩
        have ca : wr.cell? ⟨b0, f0 + k, none⟩ = some (.int .u8 xa) := by rw [ha]; exact (hbel.cell (by exact hb0)).trans (hc0 k (by omega))
        have cb : wr.cell? ⟨b1, f1 + k, none⟩ = some (.int .u8 xb') := by rw [hb]; exact (hbel.cell (by exact hb1)).trans (hc1 k (by omega))
        have cc : wr.cell? ⟨b2, f2 + k, none⟩ = some (.int .u8 xc) := by rw [hc]; exact (hbel.cell (by exact hb2)).trans (hc2 k (by omega))
        have HX3 : Hid (x3 z0 z1 z2 (k + 1) = x3 z0 z1 z2 k ++ [bits .xor .u8 (bits .xor .u8 xa xb') xc]) := by unfold Hid; rw [x3, ha, hb, hc]
        have ne0 : some b0 ≠ Value.ownBlock u8 := fun e => by have := (hown.lt b0 e.symm).1; omega
        have ne1 : some b1 ≠ Value.ownBlock u8 := fun e => by have := (hown.lt b1 e.symm).1; omega
        have ne2 : some b2 ≠ Value.ownBlock u8 := fun e => by have := (hown.lt b2 e.symm).1; omega
        have hsz := hbel.size
        have q0 : b0 < wr.heap.size := by omega
        have q1 : b1 < wr.heap.size := by omega
        have q2 : b2 < wr.heap.size := by omega
        have i0' : (0 : Int) ≤ (k : Int) := by omega
        have j0 : (k : Int) < (len0 : Int) := by omega
        have j1 : (k : Int) < (len1 : Int) := by omega
        have j2 : (k : Int) < (len2 : Int) := by omega
        clear hc0 hc1 hc2 ha hb hc
        go_wp2
        go_region_held3 (fun w' => w'.cell? ⟨b0, f0 + k, none⟩ = some (.int .u8 xa) ∧ w'.cell? ⟨b1, f1 + k, none⟩ = some (.int .u8 xb') ∧ w'.cell? ⟨b2, f2 + k, none⟩ = some (.int .u8 xc))
          (first | go_keep | (refine ⟨?_, ?_, ?_⟩; (rw [hgrow1.cell_far _ (by simp; omega) ne0]; simp [*]); (rw [hgrow1.cell_far _ (by simp; omega) ne1]; simp [*]); (rw [hgrow1.cell_far _ (by simp; omega) ne2]; simp [*])))
          (first
            | (refine step_append_lies _ (by rfl) _ _ _ (by rfl) w.heap.size 5 i0 (.int .u8 0) 1 1 Tryd.underlying22 hi hz0 hz1 hz2 rfl (by decide) _ k _ (by rfl) ((hown.alloc _).drew) ⟨wr.heap.size, 0, none⟩ 1 1 [.int .u8 (bits .xor .u8 (bits .xor .u8 xa xb') xc)] (by rfl) (by rfl) (news_one wr _) (by simp [Value.oneCell']) (by omega) (by simp [maxLen]; omega) (by omega) (by simp; omega) (wr.heap.size + 1) (by simp) ?_; intro g1 c1 w3 hown1 hgrow1 hat1 hlt1))
        have hown2 : w3.ownsRow w.heap.size 5 1 (.slice (some ⟨g1, 0, none⟩) (k + 1) c1) (k + 1) ((x3 z0 z1 z2 (k + 1)).map (Value.int .u8)) := by
          rw [HX3.out, List.map_append]
          exact hown1
        have hbel2 : Below w.heap.size w w3 := ((hbel.alloc hbel.size _).drew).grown hgrow1 (by simp; omega) (fun k hk => (hown.lt k hk).1)
        clear hown1 hgrow1 hown ca cb cc
        go_wp2
        go_roundw
        case rel => exact ⟨k + 1, by omega, by go_num, hown2, hbel2⟩
        case measure => simp [intOf]; omega
      · have hkn : k = n := by omega
        rw [hkn] at hown
        obtain ⟨ad, cd, rfl, rdd⟩ := own_any hown hXr
        have r0 := (w0.below hbel).front n n0
        have r1 := (w1.below hbel).front n n1
        have r2 := (w2.below hbel).front n n2
        have hTr := hT.below hbel
        have c3 := C3.out
        clear hkn
        have B9 : Below wr.heap.size wr (wr.alloc (.cells #[.int .u8 49, .int .u8 50, .int .u8 51, .int .u8 52, .int .u8 53, .int .u8 54, .int .u8 55, .int .u8 56, .int .u8 57] 5 (9, 10))).drew := ((Below.refl _ _).alloc (Nat.le_refl _) _).drew
        have t9 := hTr.below B9
        have d9 := rdd.below B9
        have r09 := r0.below B9
        have r19 := r1.below B9
        have r29 := r2.below B9
        have k9 := nine_reads wr
        have hcv : (convert 22 22 (.slice (some ⟨wr.heap.size, 0, none⟩) 9 9)).run Tryd.prog (wr.alloc (.cells #[.int .u8 49, .int .u8 50, .int .u8 51, .int .u8 52, .int .u8 53, .int .u8 54, .int .u8 55, .int .u8 56, .int .u8 57] 5)).drew = .ok (.slice (some ⟨wr.heap.size, 0, none⟩) 9 9) (wr.alloc (.cells #[.int .u8 49, .int .u8 50, .int .u8 51, .int .u8 52, .int .u8 53, .int .u8 54, .int .u8 55, .int .u8 56, .int .u8 57] 5 (9, 10))).drew := Lib.run_convert_bytes_const wr.drew 22 5 #[.int .u8 49, .int .u8 50, .int .u8 51, .int .u8 52, .int .u8 53, .int .u8 54, .int .u8 55, .int .u8 56, .int .u8 57] 9 9 Tryd.underlying22 Tryd.underlying5
        have nil9 : ∀ u : World, Reads u none 0 [] := fun u => ⟨rfl, by simp, fun _ => rfl, fun _ h => by cases h⟩
        have h123 : sumL (nats [49, 50, 51, 52, 53, 54, 55, 56, 57]) = 3421780262 := by decide +kernel
        have hnil : sumL (nats []) = 0 := by decide +kernel
        obtain ⟨S0, hS0⟩ : ∃ S, sumL (nats (z0.take n)) = S := ⟨_, rfl⟩
        obtain ⟨S1, hS1⟩ : ∃ S, sumL (nats (z1.take n)) = S := ⟨_, rfl⟩
        obtain ⟨S2, hS2⟩ : ∃ S, sumL (nats (z2.take n)) = S := ⟨_, rfl⟩
        obtain ⟨SX, hSX⟩ : ∃ S, sumL (nats (x3 z0 z1 z2 n)) = S := ⟨_, rfl⟩
        have b0 : S0 < 4294967296 := by rw [← hS0]; exact sumL_lt fun x hx => hr0 x (List.mem_of_mem_take hx)
        have b1 : S1 < 4294967296 := by rw [← hS1]; exact sumL_lt fun x hx => hr1 x (List.mem_of_mem_take hx)
        have b2 : S2 < 4294967296 := by rw [← hS2]; exact sumL_lt fun x hx => hr2 x (List.mem_of_mem_take hx)
        have hx3 := HX.out
        rw [hS0, hS1, hS2, hSX] at hx3
        obtain ⟨T, hTT⟩ : ∃ T, S0 ^^^ S1 = T := ⟨_, rfl⟩
        have bT : T < 4294967296 := by rw [← hTT]; exact xor32 _ _ b0 b1
        have e1 : bits .xor .u32 (S0 : Int) (S1 : Int) = (T : Int) := by rw [← hTT]; exact xor32i S0 S1 b0 b1
        have e2 : bits .xor .u32 (T : Int) (S2 : Int) = (SX : Int) := by rw [hx3, hTT]; exact xor32i T S2 bT b2
        have m0 : (n : Int) ≤ (cap0 : Int) := by omega
        have m1 : (n : Int) ≤ (cap1 : Int) := by omega
        have m2 : (n : Int) ≤ (cap2 : Int) := by omega
        have p0 : n ≤ cap0 := by omega
        have p1 : n ≤ cap1 := by omega
        have p2 : n ≤ cap2 := by omega
        clear hx3 hTT HX
        go_wp2
        go_region_held (fun w' => Below wr.heap.size wr w')
          (first | exact (Below.refl _ _).drew | exact ((Below.refl _ _).alloc (Nat.le_refl _) _).drew)
          (first
            | (go_at_call 5; refine (sum_any _ _ _ [49, 50, 51, 52, 53, 54, 55, 56, 57] _ ?_ ?_ ?_).mono ?_; omega; exact k9; exact t9; rintro e u ⟨rfl, rfl⟩)
            | (go_at_call 5; refine (sum_any _ _ _ [] _ ?_ ?_ ?_).mono ?_; omega; exact nil9 _; exact t9; rintro e u ⟨rfl, rfl⟩)
            | (go_at_call 5; refine (sum_any _ _ _ (x3 z0 z1 z2 n) _ ?_ ?_ ?_).mono ?_; omega; exact d9; exact t9; rintro e u ⟨rfl, rfl⟩)
            | (go_at_call 5; refine (sum_any _ _ _ (z0.take n) _ ?_ ?_ ?_).mono ?_; omega; exact r09; exact t9; rintro e u ⟨rfl, rfl⟩)
            | (go_at_call 5; refine (sum_any _ _ _ (z1.take n) _ ?_ ?_ ?_).mono ?_; omega; exact r19; exact t9; rintro e u ⟨rfl, rfl⟩)
            | (go_at_call 5; refine (sum_any _ _ _ (z2.take n) _ ?_ ?_ ?_).mono ?_; omega; exact r29; exact t9; rintro e u ⟨rfl, rfl⟩))
        go_wp2
        go_ret
        exact ⟨rfl, hbel.trans (B9.mono hbel.size)⟩

set_option maxRecDepth 100000 in
theorem contract (H : Type) (enc : TypeId × Value → H) (W : World) (base : Nat) (args : Array Value) (ds gs : List (DataW H)) (before : List MemPlace)
    (hval : ∀ (j : Nat) t v, Tryd.f3.params[j]? = some t → args[j]? = some v → Value.okWide Tryd.prog W .any base t v)
    (hW : DataW.Whole enc Tryd.prog Tryd.f3.params.toList Rows.wordsLinearSpec.vars false W args.toList ds gs before)
    (hsz : (DataW.weightsEach Tryd.prog (Tryd.f3.params.toList ++ Rows.wordsLinearSpec.plain.varTypes Tryd.prog) (ds ++ gs)).all (· ≤ reachBytes) = true)
    (hL : laidMetH Tryd.prog Rows.wordsLinearRow.laid W) :
    Calls Tryd.prog 3 args W fun e W' => ∃ v, e = .returned v ∧ Rows.wordsLinearSpec.post enc Tryd.prog Tryd.f3 false true false false W args v W' := by
  have hW' := hW
  obtain ⟨p, q, hA0, hV, rfl, hfz, hnd⟩ := hW
  have hA : DataW.TrodAll enc Tryd.prog W 0 (fun _ => true) true Tryd.f3.params.toList args.toList ds p := hA0
  rw [Tryd.params3] at hA hval hsz
  obtain ⟨v0, vs0, d0, ds0, p0, q0, hargs, rfl, rfl, h0, r0⟩ := trodAll_cons hA
  obtain ⟨v1, vs1, d1, ds1, p1, q1, rfl, rfl, rfl, h1, r1⟩ := trodAll_cons r0
  obtain ⟨v2, vs2, d2, ds2, p2, q2, rfl, rfl, rfl, h2, r2⟩ := trodAll_cons r1
  obtain ⟨rfl, rfl, rfl⟩ := trodAll_nil r2
  obtain rfl : args = #[v0, v1, v2] := by cases args; simp_all
  obtain ⟨rfl, rfl⟩ := trodVars_none hV
  obtain ⟨a0, len0, cap0, rfl⟩ := okWide_slice Tryd.underlying22 (hval 0 22 v0 rfl rfl)
  have k0 := h0
  have lt0 : ∀ x ∈ p0, x.block < W.heap.size := by obtain ⟨m, hm⟩ := k0; exact DataW.trod_lt m _ _ _ hm
  obtain ⟨z0, w0, s0, l0⟩ : ∃ zs, Reads W a0 len0 zs ∧ len0 ≤ 140737488351232 ∧ len0 ≤ cap0 := by
    obtain ⟨fuel, hf⟩ := h0
    rcases open_ints Tryd.underlying22 Tryd.underlying5 (by kernel_rfl) hf with ⟨hcs, _⟩ | ⟨x, l, c, zs, hcs, _, hl, hm, hz, hx, hcell, hwz⟩
    · simp [Value.cells] at hcs
      obtain ⟨rfl, rfl, rfl⟩ := hcs
      exact ⟨[], ⟨rfl, by simp, fun _ => rfl, fun _ h => by cases h⟩, by omega, by omega⟩
    · simp [Value.cells] at hcs
      obtain ⟨rfl, rfl, rfl⟩ := hcs
      have hz' : zs.length = cap0 := by simpa using hz
      have hd := (Prod.mk.inj hx).1
      have hw := sized_slice hsz (j := 0) (t := 22) (e := 5) rfl (congrArg some hd) Tryd.underlying22
      rw [bytes5] at hw
      simp only [lits, List.length_map, List.length_take, List.length_drop, reachBytes] at hw
      refine ⟨zs.take len0, ⟨by simp; omega, fun n hn => bounds_u8 (hwz n (List.mem_of_mem_take hn)), (fun h => by cases h), fun y hy i hi => ?_⟩, by omega, hl⟩
      cases hy
      rw [hcell i (by omega)]
      simp [List.getD, hi]
  obtain ⟨a1, len1, cap1, rfl⟩ := okWide_slice Tryd.underlying22 (hval 1 22 v1 rfl rfl)
  have k1 := h1
  have lt1 : ∀ x ∈ p1, x.block < W.heap.size := by obtain ⟨m, hm⟩ := k1; exact DataW.trod_lt m _ _ _ hm
  obtain ⟨z1, w1, s1, l1⟩ : ∃ zs, Reads W a1 len1 zs ∧ len1 ≤ 140737488351232 ∧ len1 ≤ cap1 := by
    obtain ⟨fuel, hf⟩ := h1
    rcases open_ints Tryd.underlying22 Tryd.underlying5 (by kernel_rfl) hf with ⟨hcs, _⟩ | ⟨x, l, c, zs, hcs, _, hl, hm, hz, hx, hcell, hwz⟩
    · simp [Value.cells] at hcs
      obtain ⟨rfl, rfl, rfl⟩ := hcs
      exact ⟨[], ⟨rfl, by simp, fun _ => rfl, fun _ h => by cases h⟩, by omega, by omega⟩
    · simp [Value.cells] at hcs
      obtain ⟨rfl, rfl, rfl⟩ := hcs
      have hz' : zs.length = cap1 := by simpa using hz
      have hd := (Prod.mk.inj hx).1
      have hw := sized_slice hsz (j := 1) (t := 22) (e := 5) rfl (congrArg some hd) Tryd.underlying22
      rw [bytes5] at hw
      simp only [lits, List.length_map, List.length_take, List.length_drop, reachBytes] at hw
      refine ⟨zs.take len1, ⟨by simp; omega, fun n hn => bounds_u8 (hwz n (List.mem_of_mem_take hn)), (fun h => by cases h), fun y hy i hi => ?_⟩, by omega, hl⟩
      cases hy
      rw [hcell i (by omega)]
      simp [List.getD, hi]
  obtain ⟨a2, len2, cap2, rfl⟩ := okWide_slice Tryd.underlying22 (hval 2 22 v2 rfl rfl)
  have k2 := h2
  have lt2 : ∀ x ∈ p2, x.block < W.heap.size := by obtain ⟨m, hm⟩ := k2; exact DataW.trod_lt m _ _ _ hm
  obtain ⟨z2, w2, s2, l2⟩ : ∃ zs, Reads W a2 len2 zs ∧ len2 ≤ 140737488351232 ∧ len2 ≤ cap2 := by
    obtain ⟨fuel, hf⟩ := h2
    rcases open_ints Tryd.underlying22 Tryd.underlying5 (by kernel_rfl) hf with ⟨hcs, _⟩ | ⟨x, l, c, zs, hcs, _, hl, hm, hz, hx, hcell, hwz⟩
    · simp [Value.cells] at hcs
      obtain ⟨rfl, rfl, rfl⟩ := hcs
      exact ⟨[], ⟨rfl, by simp, fun _ => rfl, fun _ h => by cases h⟩, by omega, by omega⟩
    · simp [Value.cells] at hcs
      obtain ⟨rfl, rfl, rfl⟩ := hcs
      have hz' : zs.length = cap2 := by simpa using hz
      have hd := (Prod.mk.inj hx).1
      have hw := sized_slice hsz (j := 2) (t := 22) (e := 5) rfl (congrArg some hd) Tryd.underlying22
      rw [bytes5] at hw
      simp only [lits, List.length_map, List.length_take, List.length_drop, reachBytes] at hw
      refine ⟨zs.take len2, ⟨by simp; omega, fun n hn => bounds_u8 (hwz n (List.mem_of_mem_take hn)), (fun h => by cases h), fun y hy i hi => ?_⟩, by omega, hl⟩
      cases hy
      rw [hcell i (by omega)]
      simp [List.getD, hi]
  clear hA0
  refine (walk a0 len0 cap0 z0 a1 len1 cap1 z1 a2 len2 cap2 z2 W w0 s0 l0 w1 s1 l1 w2 s2 l2 (table hL)).mono fun e W' ⟨he, bel⟩ => ?_
  subst he
  exact ⟨_, rfl, _, _, _, [], _, [], hW', trodAll_mk1 (shut_bool Tryd.underlying4 _), (trodAll_cons_mk (Below.trod laidOut (by kernel_rfl) (of_decide_eq_true (by kernel_rfl)) k0 bel lt0) (trodAll_cons_mk (Below.trod laidOut (by kernel_rfl) (of_decide_eq_true (by kernel_rfl)) k1 bel lt1) (trodAll_cons_mk (Below.trod laidOut (by kernel_rfl) (of_decide_eq_true (by kernel_rfl)) k2 bel lt2) trodAll_mk0))), rfl, bel.frame _, fun h => by cases h⟩

/-- What the text lays, into the table's block. -/
def layTab : Obj → Obj
  | .cells _ t frozen => .cells #[.int .u32 0, .int .u32 498536548, .int .u32 997073096, .int .u32 651767980, .int .u32 1994146192, .int .u32 1802195444, .int .u32 1303535960, .int .u32 1342533948, .int .u32 3988292384, .int .u32 4027552580, .int .u32 3604390888, .int .u32 3412177804, .int .u32 2607071920, .int .u32 2262029012, .int .u32 2685067896, .int .u32 3183342108] t frozen
  | o => o
theorem laid_met (os : Os) : laidMet Tryd.prog Rows.wordsLinearRow.laid (({ World.holding Tryd.prog os ⟨#[], #[], []⟩ with heap := (World.holding Tryd.prog os ⟨#[], #[], []⟩).heap.modify 0 layTab } : World).forCall (fun _ _ => 0) ⟨#[], #[.slice none 0 0, .slice none 0 0, .slice none 0 0], []⟩).memory :=
  laidMet_of_run' 8 (by kernel_rfl) (by kernel_rfl)
theorem reads (os : Os) {H : Type} (enc : TypeId × Value → H) : ∃ places, DataW.whole enc Tryd.prog (({ World.holding Tryd.prog os ⟨#[], #[], []⟩ with heap := (World.holding Tryd.prog os ⟨#[], #[], []⟩).heap.modify 0 layTab } : World).forCall (fun _ _ => 0) ⟨#[], #[.slice none 0 0, .slice none 0 0, .slice none 0 0], []⟩).memory Tryd.f3.params.toList Rows.wordsLinearSpec.vars false (#[Value.slice none 0 0, Value.slice none 0 0, Value.slice none 0 0] : Array Value).toList 8 = some ([.nil, .nil, .nil], [], places) :=
  ⟨[], by kernel_rfl⟩

set_option maxRecDepth 100000 in
theorem lifted (os : Os) (started : os.Started) (H : Type) (enc : TypeId × Value → H) (F : Stop.Interp) :
    ReturnsInHanded {} Tryd.checked os 3 .any ((OpenSpec.ofChange Rows.wordsLinearSpec).preRow enc Tryd.prog Tryd.f3 Rows.wordsLinearRow.domain false Rows.wordsLinearRow.laid) (((OpenSpec.ofChange Rows.wordsLinearSpec).at F).post enc Tryd.prog Tryd.f3 false true false false) := by
  obtain ⟨places, hx⟩ := reads os enc
  refine returnsInHanded_of_row (C := Tryd.checked) (s := OpenSpec.ofChange Rows.wordsLinearSpec) own started (by kernel_rfl) Tryd.func3
    (witness_row_at (enc := enc) (C := Tryd.checked) false ({ World.holding Tryd.prog os ⟨#[], #[], []⟩ with heap := (World.holding Tryd.prog os ⟨#[], #[], []⟩).heap.modify 0 layTab } : World) #[.slice none 0 0, .slice none 0 0, .slice none 0 0] rfl (by kernel_rfl) (by kernel_rfl) (by kernel_rfl)
      (OpenSpec.preRow_of_cond 8 hx (by kernel_rfl) (fun k hk => by cases hk) (by kernel_rfl) (laid_met os))) ?_
  intro W base args ds gs before hval hW _ _ hsz hL _ _
  exact contract H enc W base args ds gs before hval hW hsz hL

theorem said : Rows.WordsLinearSaid :=
  OpenClaim.holds_of_cond 3 Tryd.f3 rfl rfl rfl rfl rfl rfl rfl ⟨rfl, rfl, rfl, rfl, rfl⟩ rfl rfl rfl rfl rfl (by kernel_rfl) Tryd.func3 (by kernel_rfl)
    (of_decide_eq_true (by kernel_rfl)) (by unfold Func.isWrapper; first | (rw [if_pos (by decide +kernel)]; kernel_rfl) | (rw [if_neg (by decide +kernel)]; exact ⟨rfl, rfl⟩))
    (fun os started H enc _ F => by rw [OpenClaim.pre_eq_preRow]; exact lifted os started H enc F)

theorem plain (f : FuncId) (fn : Func) (hf : Tryd.pinned.checked.prog.funcNamed "shale/shalelaw01.WordsLinear" = some f) (hfn : Tryd.pinned.checked.prog.funcs[f]? = some fn) :
    false = Tryd.pinned.checked.prog.looks [] ∧ ∀ (j : Nat) t, fn.params[j]? = some t → Tryd.pinned.checked.prog.wantsStandIn t = false := by
  obtain rfl : f = 3 := Option.some.inj ((show Tryd.prog.funcNamed "shale/shalelaw01.WordsLinear" = some 3 by kernel_rfl).symm.trans hf) |>.symm
  obtain rfl : fn = Tryd.f3 := (Option.some.inj (Tryd.func3.symm.trans hfn)).symm
  refine ⟨by kernel_rfl, fun j t ht => ?_⟩
  rw [Tryd.params3] at ht
  obtain rfl : t = 22 := by simpa using Array.mem_of_getElem? ht
  exact (show Tryd.prog.wantsStandIn 22 = false by kernel_rfl)
end Go.Proofs.YtkcpfcnpniblcaaDoor.wordsLinear
namespace Go.Proofs.YtkcpfcnpniblcaaDoor
theorem wordsLinear_card : Rows.WordsLinearCardSaid :=
  Claim7.holds_tied_plain_at .later [] _ _ _ _ wordsLinear.said (fun _ h => by cases h) (by kernel_rfl) (fun _ h => by cases h) wordsLinear_row_tie rfl ⟨rfl, rfl⟩ (by kernel_rfl) rfl wordsLinear.plain (by kernel_rfl)
#print axioms wordsLinear_card
end Go.Proofs.YtkcpfcnpniblcaaDoor
