/-
  SEAT YtdiifegljonojaaGreatDoor: where a leaf may lie; bytes of a text; a copy of names.
-/
import Derived.Test.YtdiifegljonojaaGreatDoorRb
namespace Go.Proofs.YtdiifegljonojaaGreatDoor
open Go.RowKit
set_option linter.unusedVariables false

theorem deepest_any (a : Option Addr) (n c : Nat) (d : Bool) (w : World) (hn : n ≤ 200000000000000) :
    Calls Tryz.prog 37 #[.agg #[.slice a n c, .bool d]] w fun e w' => e = .returned (.int .i64 (if d then (n : Int) else (n : Int) - 1)) ∧ Below w.heap.size w w' := by
  cases d
  · go_enter Tryz.func37, Tryz.ntmps37
    go_wp2
    go_ret
    exact ⟨rfl, below_alloc w _⟩
  · go_enter Tryz.func37, Tryz.ntmps37
    go_wp2
    go_ret
    exact ⟨rfl, below_alloc w _⟩

theorem RdS.get {w : World} {b o n : Nat} {xs : List ByteArray} (h : Pt.RdS w (some ⟨b, o, none⟩) n xs) {k : Nat} (hk : k < n) : w.cell? ⟨b, o + k, none⟩ = some (.string (xs.getD k ByteArray.empty)) := by
  have h1 := Pt.RdS.at h hk
  rw [plain_add] at h1
  rw [h1, List.getD_eq_getElem?_getD, List.getElem?_eq_getElem (by rw [h.len]; exact hk)]
  rfl

set_option maxHeartbeats 1000000 in
theorem isAhead_any (v : Value) (xs : List ByteArray) (d : Bool) (k : Nat) (name : ByteArray) (w : World) (h : Pt.Vw w v xs) (hk : k ≤ xs.length) (hl : xs.length ≤ 200000000000000) :
    Calls Tryz.prog 39 #[.agg #[v, .bool d], .int .i64 (k : Int), .string name] w fun e w' => e = .returned (.bool (aheadB xs k name)) ∧ Below w.heap.size w w' := by
  obtain ⟨a, c, rfl, h1, h2, rd, hp⟩ := h
  obtain ⟨n, hn⟩ : ∃ n, xs.length = n := ⟨_, rfl⟩
  have HB : Hid (aheadB xs k name = (decide (k = n) || !(Op.bytesLess name.toList (xs.getD k ByteArray.empty).toList || (name.toList == (xs.getD k ByteArray.empty).toList)))) := by unfold Hid aheadB; rw [hn]
  rw [HB.out]
  rw [hn] at rd hk hl h1 ⊢
  by_cases hkn : k = n
  · subst hkn
    go_enter Tryz.func39, Tryz.ntmps39
    go_wp2
    go_ret
    exact ⟨by simp, below_alloc w _⟩
  · have hlt : k < n := by omega
    cases a with
    | none => have := rd.nil rfl; omega
    | some x =>
      obtain ⟨b, o, rfl⟩ := hp x rfl
      have hc := RdS.get rd hlt
      obtain ⟨y, hy⟩ : ∃ y, xs.getD k ByteArray.empty = y := ⟨_, rfl⟩
      rw [hy] at hc ⊢
      have hb := block_lt_of_cell hc
      have hcw : (w.alloc (.cells #[.slice (some ⟨b, o, none⟩) n c, .bool d] 52)).cell? ⟨b, o + k, none⟩ = some (.string y) := by
        rw [(below_alloc w _).cell hb]; exact hc
      have e1 : ((k : Int) == (n : Int)) = false := by simp; omega
      have hd : decide (k = n) = false := decide_eq_false hkn
      clear HB rd hp hy hc hb hn
      go_enter Tryz.func39, Tryz.ntmps39
      go_wp2
      go_ret
      exact ⟨by rw [hd]; simp, below_alloc w _⟩

set_option maxHeartbeats 1000000 in
theorem indexB_any (b off n c : Nat) (zs : List Int) (w : World) (hn : n ≤ 200000000000000) (h : Reads w (some ⟨b, off, none⟩) n zs) :
    Calls Tryz.prog 96 #[.slice (some ⟨b, off, none⟩) n c, .int .u8 0] w fun e w' => (∃ i : Int, e = .returned (.int .i64 i) ∧ decide (0 ≤ i) = decide ((0 : Int) ∈ zs)) ∧ w' = w := by
  have hlen := h.1
  have HR : Hid (Reads w (some ⟨b, off, none⟩) n zs) := h
  have HL : Hid (zs.length = n) := hlen
  clear h hlen
  go_enter Tryz.func96, Tryz.ntmps96
  go_wp2
  go_loop [8] (fun i => ∃ k : Nat, k ≤ n ∧ i = .int .i64 k ∧ Hid ((0 : Int) ∉ zs.take k)) (fun i => n - (intOf i).toNat)
  case atStart => exact ⟨0, Nat.zero_le _, rfl, by simp [Hid]⟩
  case round =>
    obtain ⟨k, hk, rfl, HQ⟩ := hrel
    by_cases hlt : k < n
    · obtain ⟨x, hx⟩ : ∃ x, zs.getD k 0 = x := ⟨_, rfl⟩
      obtain ⟨_, _, _, hcell⟩ := HR.out
      have hcx : w.cell? ⟨b, off + k, none⟩ = some (.int .u8 x) := by rw [← hx, ← plain_add]; exact hcell _ rfl k hlt
      have hg : zs[k]? = some x := by
        have hkl : k < zs.length := by have := HL.out; omega
        rw [List.getElem?_eq_getElem hkl, ← hx, List.getD_eq_getElem?_getD, List.getElem?_eq_getElem hkl]; rfl
      have HGX : Hid (zs[k]? = some x) := hg
      have i1 : (k : Int) < (n : Int) := by omega
      clear hcell hx hg
      by_cases h0 : x = 0
      · subst h0
        have HM : Hid ((0 : Int) ∈ zs) := List.mem_of_getElem? HGX.out
        go_wp2
        go_ret
        exact ⟨⟨k, rfl, ⟨fun _ => HM.out, fun _ => by omega⟩⟩, rfl⟩
      · have e0 : ((0 : Int) == x) = false := by rw [beq_eq_false_iff_ne]; exact fun e => h0 e.symm
        have HM : Hid ((0 : Int) ∉ zs.take (k + 1)) := by
          intro hm
          have hkl : k < zs.length := by have := HL.out; omega
          rw [List.take_succ_eq_append_getElem hkl] at hm
          rcases List.mem_append.1 hm with hm | hm
          · exact HQ.out hm
          · have h9 := HGX.out
            rw [List.getElem?_eq_getElem hkl] at h9
            cases h9
            simp at hm
            exact h0 hm.symm
        go_wp2
        go_round
        case rel => exact ⟨k + 1, by omega, by go_num, HM⟩
        case measure => simp [intOf]; omega
    · obtain rfl : k = n := by omega
      have HM : Hid ((0 : Int) ∉ zs) := by have h9 := HQ.out; rw [List.take_of_length_le (by have := HL.out; omega)] at h9; exact h9
      go_wp2
      go_ret
      exact ⟨⟨-1, rfl, ⟨fun h => absurd h (by decide), fun h => absurd h HM.out⟩⟩, rfl⟩

theorem containsB_any (b off n c : Nat) (zs : List Int) (w : World) (hn : n ≤ 200000000000000) (h : Reads w (some ⟨b, off, none⟩) n zs) :
    Calls Tryz.prog 78 #[.slice (some ⟨b, off, none⟩) n c, .int .u8 0] w fun e w' => e = .returned (.bool (decide ((0 : Int) ∈ zs))) ∧ w' = w := by
  have K := hide (indexB_any b off n c zs w hn h)
  clear h
  go_enter Tryz.func78, Tryz.ntmps78
  go_wp2_with (go_at_call 96; refine K.out.mono ?_; rintro e u1 ⟨⟨i, rfl, hi⟩, hu1⟩; rw [hu1]; have HI := hide hi; clear hi hu1)
  go_ret
  exact ⟨ret_bool HI.out, rfl⟩

/-- The bytes of a text as numbers. -/
def numsOf (s : ByteArray) : List Int := s.data.toList.map fun b => (b.toNat : Int)
theorem numsOf_len (s : ByteArray) : (numsOf s).length = s.size := by simp [numsOf]
theorem numsOf_zero (s : ByteArray) : decide ((0 : Int) ∈ numsOf s) = Pt.zeroB s := by
  unfold Pt.zeroB numsOf
  rw [decide_eq_decide, List.mem_map]
  constructor
  · rintro ⟨b, hb, h0⟩
    have : b = 0 := UInt8.toNat_inj.1 (by have : b.toNat = 0 := by omega
                                          rw [this]; rfl)
    rw [← this]; exact hb
  · intro h; exact ⟨0, h, rfl⟩

theorem reads_text (w : World) (s : ByteArray) (cap : Nat) (f : Nat × Nat) : Reads (w.drew.alloc (.cells (bytesRow s cap) 5 f)) (some ⟨w.heap.size, 0, none⟩) s.size (numsOf s) := by
  refine ⟨numsOf_len s, ?_, (fun h => by cases h), fun x hx i hi => ?_⟩
  · intro n hn
    unfold numsOf at hn
    obtain ⟨b, _, rfl⟩ := List.mem_map.1 hn
    have := b.toNat_lt
    omega
  · cases hx
    rw [plain_add, Nat.zero_add]
    have hi2 : i < s.data.size := hi
    have h9 := bytesRow_at s cap i hi2
    have : (w.drew.alloc (.cells (bytesRow s cap) 5 f)).heap[w.heap.size]? = some (.cells (bytesRow s cap) 5 f) := by
      show (w.heap.push (.cells (bytesRow s cap) 5 f))[w.heap.size]? = _
      simp
    simp only [World.cell?, this]
    rw [h9]
    simp [numsOf, List.getD_eq_getElem?_getD, Array.getElem?_eq_getElem hi2]

theorem below_drew_alloc (w : World) (o : Obj) : Below w.heap.size w (w.drew.alloc o) := ⟨rfl, rfl, rfl, by show w.heap.size ≤ (w.heap.push o).size; simp, fun k hk => by
  show (w.heap.push o)[k]? = w.heap[k]?
  rw [Array.getElem?_push_lt hk, Array.getElem?_eq_getElem hk]⟩

set_option maxHeartbeats 1000000 in
theorem noneZero_any (s : ByteArray) (w : World) (hs : s.size ≤ 200000000000000) : Calls Tryz.prog 53 #[.string s] w fun e w' => e = .returned (.bool (!Pt.zeroB s)) ∧ Below w.heap.size w w' := by
  have hcv := run_bytes_of_string (P := Tryz.prog) w 9 25 5 s Tryz.underlying9 Tryz.underlying25 Tryz.underlying5
  have HC : Hid (∀ f, Reads (w.drew.alloc (.cells (bytesRow s (grownCap w s.size 0 5)) 5 f)) (some ⟨w.heap.size, 0, none⟩) s.size (numsOf s)) := fun f => reads_text w s _ f
  obtain ⟨cap, hcap⟩ : ∃ cap, grownCap w s.size 0 5 = cap := ⟨_, rfl⟩
  rw [hcap] at hcv HC
  obtain ⟨o, ho⟩ : ∃ o : Obj, Obj.cells (bytesRow s cap) 5 ((bytesRow s cap).size, (bytesRow s cap).size + 1) = o := ⟨_, rfl⟩
  have HR := hide (HC.out ((bytesRow s cap).size, (bytesRow s cap).size + 1))
  rw [ho] at hcv HR
  have HB := hide (below_drew_alloc w o)
  obtain ⟨W, hW⟩ : ∃ W, w.drew.alloc o = W := ⟨_, rfl⟩
  rw [hW] at hcv HR HB
  clear ho hcap HC hW
  go_enter Tryz.func53, Tryz.ntmps53
  go_wp2_with (go_at_call 78; refine (containsB_any w.heap.size 0 s.size cap (numsOf s) _ hs HR.out).mono ?_; rintro e u1 ⟨rfl, hu1⟩; rw [hu1, numsOf_zero])
  go_ret
  exact ⟨rfl, HB.out⟩
end Go.Proofs.YtdiifegljonojaaGreatDoor
