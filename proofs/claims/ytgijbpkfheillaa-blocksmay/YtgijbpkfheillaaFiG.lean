/-
  SEAT Ytgijbpkfheillaa: Commit, Bad.
-/
import Derived.Test.YtgijbpkfheillaaFiF
import Derived.Test.YtgijbpkfheillaaFiD
namespace Go.Proofs.Ytgijbpkfheillaa
open Go.RowKit
set_option linter.unusedVariables false

def comE (e : Ent) : Ent := if e.s = 3 ∨ e.s = 5 then ⟨0, 0, false, 0, false⟩ else e
def comK (es : List Ent) (k : Nat) : List Ent := (es.take k).map comE ++ es.drop k
theorem comK_length (es : List Ent) (k : Nat) (hk : k ≤ es.length) : (comK es k).length = es.length := by simp [comK]; omega
theorem comK_get (es : List Ent) (k : Nat) (hk : k < es.length) : (comK es k).getD k Ent.zero = es.getD k Ent.zero := by
  have hl : ((es.take k).map comE).length = k := by simp; omega
  unfold comK
  rw [List.getD_eq_getElem?_getD, List.getElem?_append_right (by omega), hl, Nat.sub_self, List.getElem?_drop, Nat.add_zero, ← List.getD_eq_getElem?_getD]
theorem comK_step (es : List Ent) (k : Nat) (hk : k < es.length) : (comK es k).set k (comE (es.getD k Ent.zero)) = comK es (k + 1) := by
  have hl : ((es.take k).map comE).length = k := by simp; omega
  unfold comK
  rw [List.set_append_right _ _ (by omega), hl, Nat.sub_self, List.drop_eq_getElem_cons hk, List.set_cons_zero, List.take_succ_eq_append_getElem hk, List.map_append, List.append_assoc, List.getD_eq_getElem?_getD, List.getElem?_eq_getElem hk]
  rfl
theorem comK_same (es : List Ent) (k : Nat) (hk : k < es.length) (h : comE (es.getD k Ent.zero) = es.getD k Ent.zero) : comK es (k + 1) = comK es k := by
  rw [← comK_step es k hk, h, ← comK_get es k hk]
  apply List.ext_getElem?
  intro j
  by_cases e : j = k
  · subst e
    rw [List.getElem?_set_self (by rw [comK_length es _ (by omega)]; exact hk), List.getD_eq_getElem?_getD, List.getElem?_eq_getElem (by rw [comK_length es _ (by omega)]; exact hk)]
    rfl
  · rw [List.getElem?_set_ne (fun q => e q.symm)]
theorem comK_all (es : List Ent) : comK es es.length = es.map comE := by
  unfold comK
  simp
def doneE (e : Ent) : Bool := doneB e.s e.r e.l e.left
def dooms (es : List Ent) : Nat → List Nat
  | 0 => []
  | k + 1 => dooms es k ++ (if doneE (es.getD k Ent.zero) then [k] else [])
theorem dooms_le (es : List Ent) : ∀ k, (dooms es k).length ≤ k
  | 0 => Nat.le_refl _
  | k + 1 => by
    have := dooms_le es k
    rw [dooms, List.length_append]
    split <;> simp <;> omega
theorem dooms_mem (es : List Ent) : ∀ k i, i ∈ dooms es k ↔ i < k ∧ doneE (es.getD i Ent.zero) = true
  | 0, i => by simp [dooms]
  | k + 1, i => by
    have ih := dooms_mem es k i
    rw [dooms, List.mem_append, ih]
    by_cases e : i = k
    · subst e
      cases hd : doneE (es.getD i Ent.zero) <;> simp
    · split
      · simp [e]; omega
      · simp; omega
def intsN (xs : List Nat) : List Value := xs.map fun (i : Nat) => Value.int .i64 (i : Int)
theorem intsN_one (xs : List Nat) : ∀ u ∈ intsN xs, u.oneCell' = true := by
  intro u hu
  obtain ⟨i, _, rfl⟩ := List.mem_map.1 hu
  rfl
theorem info3 : (Try.prog.info? 3).map (fun i => (i.zero, i.size, i.bytes)) = some (some (.int .i64 0), 1, 8) := by kernel_rfl
theorem own_far {w w' : World} {B n E S : Nat} {v : Value} {xs : List Value} {row : Option Nat} (h : w.ownsRow B E S v n xs) (hg : w.grownBy w' row) (hr : ∀ g, row = some g → g < B) : w'.ownsRow B E S v n xs := by
  refine ⟨h.1, ?_⟩
  rcases h.2 with hn | ⟨g, cap, cu, hv, hb, hh, rest⟩
  · exact Or.inl hn
  · exact Or.inr ⟨g, cap, cu, hv, hb, (hg.block g (lt_of_block hh) (fun e => by have := hr g e.symm; omega)).trans hh, rest⟩
theorem own_block {w : World} {B n E S g : Nat} {v : Value} {xs : List Value} (h : w.ownsRow B E S v n xs) (hg : v.ownBlock = some g) : B ≤ g := by
  rcases h.2 with ⟨rfl, _⟩ | ⟨g', cap, cu, rfl, hb, _⟩
  · simp [Value.ownBlock] at hg
  · simp [Value.ownBlock] at hg
    omega
theorem Grew.own {w u u' : World} {gb gk B n E S : Nat} {v : Value} {xs : List Value} (h : Grew w u gb gk) (ho : u.ownsRow B E S v n xs) (hB : w.heap.size ≤ B) (hg : u.grownBy u' v.ownBlock) : Grew w u' gb gk :=
  ⟨hg.os.trans h.os, hg.tape.trans h.tape, hg.output.trans h.output, Nat.le_trans h.size hg.size, fun k hk h1 h2 => (hg.block k (by have := h.size; omega) (fun e => by have := own_block ho e.symm; omega)).trans (h.block k hk h1 h2)⟩

set_option maxHeartbeats 4000000 in
theorem commit_ok (gb gk : Nat) (P : Int) (es : List Ent) (cur last vic : Int) (i : Nat) (w : World) (h : BookAt w gb gk P es cur last vic) (hn : es.length ≤ 5000) (hi : i < es.length) (hs : (es.getD i Ent.zero).s = 2) :
    Calls Try.prog 21 #[.pointer (some ⟨gb, 0, none⟩), .int .i64 i] w fun e w' => ∃ v, e = .returned (.tuple #[v, .int .i64 0]) ∧ w'.ownsRow w.heap.size 3 1 v (dooms es es.length).length (intsN (dooms es es.length)) ∧ BookAt w' gb gk P (es.map comE) cur i vic ∧ Grew w w' gb gk := by
  obtain ⟨c0, c1, c2, c3, c4⟩ := h.cells
  obtain ⟨e0, _, _, _, _⟩ := h.entry i hi
  rw [hs] at e0
  have HB : Hid (BookAt w gb gk P es cur last vic) := h
  have d1 : (i : Int) < es.length := by omega
  have hh0 := has_in hi
  have f3 := h.free2 3
  have HL : Hid (BookAt (w.setCell ⟨gb, 3, none⟩ (.int .i64 i)) gb gk P (comK es 0) cur i vic) := by
    have h9 := h.setLast (i : Int)
    have e9 : comK es 0 = es := by simp [comK]
    unfold Hid
    rw [e9]
    exact h9
  have HGr : Hid (Grew w (w.setCell ⟨gb, 3, none⟩ (.int .i64 i)) gb gk) := Grew.ofb (grown_set _ _ _ _)
  obtain ⟨k0, k1, k2, k3, k4⟩ := (h.setLast (i : Int)).cells
  have hgb : gb < w.heap.size := lt_of_block h.box
  have hgk : gk < w.heap.size := lt_of_block h.row
  obtain ⟨i0, hi3, hz0, hz1, hz2⟩ := info_parts info3
  clear h
  go_enter Try.func21, Try.ntmps21
  go_wp2_with (first | (go_at_call 36; refine (has_any gb gk P es cur last vic _ _ HB.out hn).mono ?_; rintro e u1 ⟨rfl, rfl⟩; rw [hh0]))
  go_loopw [6, 7, 8, 32] (fun s6 s7 s8 s32 wr => ∃ (k : Nat) (v : Value), k ≤ es.length ∧ s32 = .int .i64 k ∧ s6 = v ∧ Hid (BookAt wr gb gk P (comK es k) cur i vic) ∧ Hid (wr.ownsRow w.heap.size 3 1 v (dooms es k).length (intsN (dooms es k))) ∧ Hid (Grew w wr gb gk))
    (fun _ _ _ i _ => es.length - (intOf i).toNat)
  case atStart => exact ⟨0, _, Nat.zero_le _, rfl, rfl, HL, ⟨rfl, Or.inl ⟨rfl, rfl⟩⟩, HGr⟩
  case round =>
    obtain ⟨k, v, hk, rfl, rfl, HK, HO, HG⟩ := hrel
    have hkl := comK_length es k hk
    have hws := HG.out.size
    by_cases hlt : k < es.length
    · obtain ⟨e0, e1, e2, e3, e4⟩ := HK.out.entry k (by omega)
      rw [comK_get es k hlt] at e0 e1 e2 e3 e4
      obtain ⟨X, hX⟩ : ∃ X, es.getD k Ent.zero = X := ⟨_, rfl⟩
      have HX : Hid _ := hX
      rw [hX] at e0 e1 e2 e3 e4
      obtain ⟨s, h, r, l, lf⟩ := X
      simp only at e0 e1 e2 e3 e4
      have d2 : (k : Int) < es.length := by omega
      have hdl := dooms_le es k
      have HA : Hid (Below wr.heap.size wr (wr.alloc (.cells #[.int .i64 s, .int .u64 h, .bool r, .int .i64 l, .bool lf] 71))) := ba (Below.refl _ _)
      clear hX
      by_cases s35 : s = 3 ∨ s = 5
      · have HD : Hid (dooms es (k + 1) = dooms es k) := by
          unfold Hid
          have hz : doneB s r l lf = false := by
            unfold doneB
            rcases s35 with rfl | rfl <;> rfl
          have hz2 : doneE ⟨s, h, r, l, lf⟩ = false := hz
          rw [dooms, HX.out, hz2]
          simp
        have HST : Hid ((comK es k).set k ⟨0, 0, false, 0, false⟩ = comK es (k + 1)) := by
          unfold Hid
          rw [← comK_step es k hlt, HX.out]
          simp only [comE]
          rw [if_pos s35]
        have s35b : ((s == 3) || (s == 5)) = true := by simpa using s35
        rcases s35 with rfl | rfl
        · go_wp2_with (first | (go_at_call 38; refine (put_any gb gk P (comK es k) cur i vic k 0 _ (HK.out.below HA.out) (by omega) (by omega)).mono ?_; rintro e u2 ⟨rfl, b2, g2⟩; have B2 : Hid _ := b2; have G2 : Hid _ := g2; clear b2 g2))
          go_roundw
          case rel => exact ⟨k + 1, _, by omega, by go_num, rfl, by unfold Hid; rw [← HST.out]; exact B2.out, by unfold Hid; rw [HD.out]; exact own_far (own_grown HO.out (grown_of HA.out none)) G2.out (fun g hg => by cases hg; exact hgk), (HG.out.trans (Grew.ofB HA.out)).trans (Grew.ofk G2.out)⟩
          case measure => simp [intOf]; omega
        · go_wp2_with (first | (go_at_call 38; refine (put_any gb gk P (comK es k) cur i vic k 0 _ (HK.out.below HA.out) (by omega) (by omega)).mono ?_; rintro e u2 ⟨rfl, b2, g2⟩; have B2 : Hid _ := b2; have G2 : Hid _ := g2; clear b2 g2))
          go_roundw
          case rel => exact ⟨k + 1, _, by omega, by go_num, rfl, by unfold Hid; rw [← HST.out]; exact B2.out, by unfold Hid; rw [HD.out]; exact own_far (own_grown HO.out (grown_of HA.out none)) G2.out (fun g hg => by cases hg; exact hgk), (HG.out.trans (Grew.ofB HA.out)).trans (Grew.ofk G2.out)⟩
          case measure => simp [intOf]; omega
      · have s3 : (s == 3) = false := by simp; omega
        have s5 : (s == 5) = false := by simp; omega
        have HST : Hid (comK es (k + 1) = comK es k) := by
          refine comK_same es k hlt ?_
          rw [HX.out]
          simp only [comE]
          rw [if_neg s35]
        cases hd : doneB s r l lf with
        | false =>
          have HD : Hid (dooms es (k + 1) = dooms es k) := by
            unfold Hid
            have hz2 : doneE ⟨s, h, r, l, lf⟩ = false := hd
            rw [dooms, HX.out, hz2]
            simp
          go_wp2_with (first | (go_at_call 37; refine (done_any _ _ _ _ _ _).mono ?_; rintro e u2 ⟨rfl, q2⟩; rw [hd]; have Q2 : Hid (Below wr.heap.size wr u2) := HA.out.trans (q2.mono HA.out.size); clear q2))
          go_roundw
          case rel => exact ⟨k + 1, _, by omega, by go_num, rfl, by unfold Hid; rw [HST.out]; exact HK.out.below Q2.out, by unfold Hid; rw [HD.out]; exact own_grown HO.out (grown_of Q2.out none), HG.out.trans (Grew.ofB Q2.out)⟩
          case measure => simp [intOf]; omega
        | true =>
          have HD : Hid (dooms es (k + 1) = dooms es k ++ [k]) := by
            unfold Hid
            have hz2 : doneE ⟨s, h, r, l, lf⟩ = true := hd
            rw [dooms, HX.out, hz2]
            simp
          go_wp2_with (first
            | (go_at_call 37; refine (done_any _ _ _ _ _ _).mono ?_; rintro e u2 ⟨rfl, q2⟩; rw [hd]; have Q2 : Hid (Below wr.heap.size wr u2) := HA.out.trans (q2.mono HA.out.size); have own2 := own_grown HO.out (grown_of Q2.out none); have hs2 := Q2.out.size; clear q2)
            | (at_builtin; refine wpList_append_src rfl (.tmp 54) (.tmp 56) 45 rfl w.heap.size 3 i0 _ 1 8 Try.underlying45 hi3 hz0 hz1 hz2 rfl (by decide) _ _ _ rfl (own2.alloc _) _ 1 _ _ rfl (rv_block (cs := #[.int .i64 (k : Int)]) rfl) (intsN_one [k]) (by simp [maxLen]; omega) (by omega) (by simp; omega) ?_; intro v3 w3 own3 grow3))
          go_roundw
          case rel =>
            have a1 : Below wr.heap.size wr (u2.alloc (.cells #[.int .i64 (k : Int)] 3)) := ba Q2.out
            refine ⟨k + 1, _, by omega, by go_num, rfl, ?_, ?_, ?_⟩
            · unfold Hid
              rw [HST.out]
              exact (HK.out.below a1).grown grow3 (fun e => by have := own_block own2 e; omega) (fun e => by have := own_block own2 e; omega)
            · unfold Hid
              rw [HD.out, List.length_append]
              have e9 : intsN (dooms es k ++ [k]) = intsN (dooms es k) ++ [.int .i64 (k : Int)] := by simp [intsN]
              rw [e9]
              exact own3
            · exact Grew.own (HG.out.trans (Grew.ofB a1)) (own2.alloc _) (Nat.le_refl _) grow3
          case measure => simp [intOf]; omega
    · have hkn : k = es.length := by omega
      have hK := HK.out
      rw [hkn, comK_all es] at hK
      have HKK : Hid _ := hK
      clear hK
      subst hkn
      go_wp2
      go_ret2
      exact ⟨_, rfl, HO.out, HKK.out, HG.out⟩

set_option maxHeartbeats 1000000 in
theorem bad_done (gb gk : Nat) (P : Int) (es : List Ent) (cur last vic : Int) (i : Nat) (w : World) (h : BookAt w gb gk P es cur last vic) (hi : i < es.length) (hn : es.length ≤ 5000) (h0 : doneE (es.getD i Ent.zero) = true) (hl : (i : Int) ≠ last) : Calls Try.prog 12 #[.pointer (some ⟨gb, 0, none⟩), .int .i64 i] w fun e w' => e = .returned (.int .i64 0) ∧ BookAt w' gb gk P (es.set i ⟨6, 0, false, 0, false⟩) cur last vic ∧ w.grownBy w' (some gk) := by
  obtain ⟨c0, c1, c2, c3, c4⟩ := h.cells
  obtain ⟨e0, e1, e2, e3, e4⟩ := h.entry i hi
  have d1 : (i : Int) < es.length := by omega
  have hh : hasOk es.length (i : Int) = true := has_in hi
  have HB : Hid (BookAt w gb gk P es cur last vic) := h
  obtain ⟨X, hX⟩ : ∃ X, es.getD i Ent.zero = X := ⟨_, rfl⟩
  rw [hX] at e0 e1 e2 e3 e4 h0
  obtain ⟨s, hd, r, l, lf⟩ := X
  simp only at e0 e1 e2 e3 e4
  have hd4 : s = 4 := by
    have h9 : doneB s r l lf = true := h0
    unfold doneB at h9
    simp at h9
    exact h9.1
  subst hd4
  have hdn : doneB 4 r l lf = true := h0
  have hlb : ((i : Int) == last) = false := by simpa using hl
  have HA : Hid (Below w.heap.size w (w.alloc (.cells #[.int .i64 4, .int .u64 hd, .bool r, .int .i64 l, .bool lf] 71))) := ba (Below.refl _ _)
  obtain ⟨k0, k1, k2, k3, k4⟩ := (HB.out.below HA.out).cells
  clear h hX h0
  go_enter Try.func12, Try.ntmps12
  go_wp2_with (first
    | (go_at_call 36; refine (has_any gb gk P es cur last vic _ _ HB.out hn).mono ?_; rintro e u1 ⟨rfl, rfl⟩; rw [hh])
    | (go_at_call 37; refine (done_any _ _ _ _ _ _).mono ?_; rintro e u2 ⟨rfl, q2⟩; rw [hdn]; have Q2 : Hid (Below w.heap.size w u2) := HA.out.trans (q2.mono HA.out.size); clear q2)
    | (go_at_call 38; refine (put_any gb gk P es cur last vic i 6 _ (HB.out.below Q2.out) hi hn).mono ?_; rintro e u2 ⟨rfl, b2, g2⟩; have B2 : Hid _ := b2; have G2 : Hid _ := g2; clear b2 g2))
  go_ret
  exact ⟨rfl, B2.out, grownBy_trans (grown_of Q2.out _) G2.out⟩
end Go.Proofs.Ytgijbpkfheillaa
