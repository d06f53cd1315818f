/-
  SEAT YtnjcjaaciphcgaaDoor: a number that is read.
-/
import Derived.Test.YtnjcjaaciphcgaaDoorVb
import Derived.Test.YtnjcjaaciphcgaaDoorShelh
namespace Go.Proofs.YtnjcjaaciphcgaaDoor
open Go.RowKit Go.Sort
set_option linter.unusedVariables false

/-- The library's errors lie where they are laid. -/
structure EV (w : World) : Prop where
  syn : ∃ tp p, w.var? Tryd.prog "strconv.ErrSyntax" = some #[.iface tp p]
  ran : ∃ tp p, w.var? Tryd.prog "strconv.ErrRange" = some #[.iface tp p]
theorem var_two {q t : Nat} {w u : World} {name : String} {cs : Array Value} {g : Nat} (hg : Tryd.prog.globalNamed name = some g) (h : w.var? Tryd.prog name = some cs) (hb : Two q t w u) (h1 : g ≠ q) (h2 : g ≠ t) : u.var? Tryd.prog name = some cs := by
  unfold World.var? at *
  simp only [hg, Option.bind_some] at h ⊢
  have hlt : g < w.heap.size := by
    rcases Nat.lt_or_ge g w.heap.size with h' | h'
    · exact h'
    · rw [Array.getElem?_eq_none h'] at h; simp at h
  rw [hb.block g hlt h1 h2]
  exact h
theorem gSyn : Tryd.prog.globalNamed "strconv.ErrSyntax" = some 5 := by kernel_rfl
theorem gRan : Tryd.prog.globalNamed "strconv.ErrRange" = some 6 := by kernel_rfl
theorem gPow : Tryd.prog.globalNamed "internal/strconv.uint64pow10" = some 1 := by kernel_rfl
theorem EV.two {q t : Nat} {w u : World} (h : EV w) (hb : Two q t w u) (h1 : 9 ≤ q) (h2 : 9 ≤ t) : EV u := by
  obtain ⟨⟨a, b, s⟩, ⟨c, d, r⟩⟩ := h
  exact ⟨⟨a, b, var_two gSyn s hb (by omega) (by omega)⟩, ⟨c, d, var_two gRan r hb (by omega) (by omega)⟩⟩
theorem p10_two {q t : Nat} {w u : World} (h : P10 w) (hb : Two q t w u) (h1 : 9 ≤ q) (h2 : 9 ≤ t) : P10 u := var_two gPow h hb (by omega) (by omega)
theorem KW.two {q t : Nat} {w u : World} (h : KW w) (hb : Two q t w u) (h1 : 9 ≤ q) (h2 : 9 ≤ t) : KW u := fun i hi => by
  have h9 := h i hi
  rw [World.cell?_of_block (hb.block 0 (block_lt_of_cell h9) (by omega) (by omega))]
  exact h9

theorem bytes_below (w : World) (e : TypeId) (s : ByteArray) : Below w.heap.size w (Lib.bytesWorld w e s) := Lib.bytesWorld_below w e s

/-- What is read as a number: what is shown again as it stands. -/
def numOf (l : List UInt8) : Option Int :=
  match Lib.atoiAll l with
  | .ok v => if Lib.itoa v = l then some v else none
  | _ => none

set_option maxHeartbeats 2000000 in
set_option maxRecDepth 100000 in
theorem isnum_any (l : List UInt8) (tb o : Nat) (cs : Array Value) (ty : TypeId) (w : World) (hl : l.length ≤ 4294967281) (hb : w.heap[tb]? = some (.cells cs ty (0, 0))) (ho : o < cs.size) (ht : P10 w) (hv : EV w) (h9 : 9 ≤ tb) :
    Calls Tryd.prog 51 #[.string ⟨l.toArray⟩, .pointer (some ⟨tb, o, none⟩)] w fun e w' => ∃ v, e = .returned (.bool (numOf l).isSome) ∧ (∀ n, numOf l = some n → v = n) ∧ w'.heap[tb]? = some (.cells (cs.setIfInBounds o (.int .i64 v)) ty (0, 0)) ∧ Two tb tb w w' := by
  have hcell : ∀ u : World, u.heap[tb]? = some (.cells cs ty (0, 0)) → (∃ x, u.cell? ⟨tb, o, none⟩ = some x) ∧ u.frozen? ⟨tb, o, none⟩ = false := fun u hu => by
    constructor
    · exact ⟨cs[o], by simp [World.cell?, hu, ho]⟩
    · simp [World.frozen?, hu]
  have HC : Hid _ := hcell
  have HB : Hid (w.heap[tb]? = some (.cells cs ty (0, 0))) := hb
  have HT : Hid (P10 w) := ht
  clear hcell hb ht
  cases ha : Lib.atoiAll l with
  | ok v =>
    have HA := Tryd.strconv_Atoi_ok ⟨l.toArray⟩ (by simp only [ByteArray.size]; simp; omega) v ha w
    have hin : In v := Lib.atoiAll_bounds ha
    have HN : Hid (numOf l = if Lib.itoa v = l then some v else none) := by unfold Hid numOf; rw [ha]
    have HA2 : Calls Tryd.prog 62 #[.string ⟨l.toArray⟩] w fun e w' => e = .returned (.tuple #[.int .i64 v, .nilIface]) ∧ Below w.heap.size w w' := HA.mono fun e w' ⟨he, hw⟩ => ⟨he, by
      rcases hw with rfl | ⟨t, rfl⟩
      · exact Below.refl _ _
      · exact bytes_below _ _ _⟩
    clear HA ha
    go_enter Tryd.func51, Tryd.ntmps51
    go_upto_region 2 with (first
      | (go_at_call 62; refine HA2.mono ?_; rintro e t1 ⟨rfl, bl⟩
         have HB1 : Hid (t1.heap[tb]? = some (.cells cs ty (0, 0))) := (bl.block _ (Array.getElem?_eq_some_iff.1 HB.out).1).trans HB.out
         have HW1 : Hid (Two tb tb w t1) := Two.of bl
         clear bl))
    obtain ⟨⟨x, hx⟩, fz⟩ := HC.out t1 HB1.out
    have HB2 : Hid ((t1.setCell ⟨tb, o, none⟩ (.int .i64 v)).heap[tb]? = some (.cells (cs.setIfInBounds o (.int .i64 v)) ty (0, 0))) := Joins.block_setCell HB1.out _
    have HW2 : Hid (Two tb tb w (t1.setCell ⟨tb, o, none⟩ (.int .i64 v))) := HW1.out.trans (Two.set t1 tb o _ (Or.inl rfl))
    have HT2 : Hid (P10 (t1.setCell ⟨tb, o, none⟩ (.int .i64 v))) := p10_two HT.out HW2.out h9 h9
    go_upto_region 3 with fail
    clear hx fz
    obtain ⟨W2, hW2⟩ : ∃ W2, t1.setCell ⟨tb, o, none⟩ (.int .i64 v) = W2 := ⟨_, rfl⟩
    rw [hW2] at HB2 HW2 HT2 ⊢
    clear hW2
    go_wp2_with (first
      | (go_at_call 18; refine (itoa_any v hin.1 hin.2 _ HT2.out).mono ?_; rintro e t3 ⟨rfl, bl⟩
         have HB3 : Hid (t3.heap[tb]? = some (.cells (cs.setIfInBounds o (.int .i64 v)) ty (0, 0))) := (bl.block _ (Array.getElem?_eq_some_iff.1 HB2.out).1).trans HB2.out
         have HW3 : Hid (Two tb tb w t3) := HW2.out.trans (Two.of bl)
         clear bl))
    go_ret
    refine ⟨v, ?_, fun n hn => ?_, HB3.out, HW3.out⟩
    · rw [HN.out]
      have e9 : (Lib.itoa v == l) = (if Lib.itoa v = l then some v else none).isSome := by by_cases h8 : Lib.itoa v = l <;> simp [h8]
      rw [← e9]
      rfl
    · rw [HN.out] at hn
      split at hn
      · exact Option.some.inj hn
      · cases hn
  | «syntax» =>
    obtain ⟨tp, pp, hvar⟩ := hv.syn
    have HA2 : Calls Tryd.prog 62 #[.string ⟨l.toArray⟩] w fun e w' => ∃ M, e = .returned (.tuple #[.int .i64 0, .iface 115 (.pointer (some ⟨M, 0, none⟩))]) ∧ Below w.heap.size w w' := (Tryd.strconv_Atoi_syntax_var ⟨l.toArray⟩ (by simp only [ByteArray.size]; simp; omega) ha tp pp w hvar).mono fun e w' ⟨M, he, _, _, hw⟩ => ⟨M, he, hw⟩
    have HN : Hid (numOf l = none) := by unfold Hid numOf; rw [ha]
    obtain ⟨v, hvv⟩ : ∃ v : Int, 0 = v := ⟨_, rfl⟩
    rw [hvv] at HA2
    clear ha hvv hvar
    go_enter Tryd.func51, Tryd.ntmps51
    go_upto_region 2 with (first
      | (go_at_call 62; refine HA2.mono ?_; rintro e t1 ⟨M, rfl, bl⟩
         have HB1 : Hid (t1.heap[tb]? = some (.cells cs ty (0, 0))) := (bl.block _ (Array.getElem?_eq_some_iff.1 HB.out).1).trans HB.out
         have HW1 : Hid (Two tb tb w t1) := Two.of bl
         clear bl))
    obtain ⟨⟨x, hx⟩, fz⟩ := HC.out t1 HB1.out
    have HB2 : Hid ((t1.setCell ⟨tb, o, none⟩ (.int .i64 v)).heap[tb]? = some (.cells (cs.setIfInBounds o (.int .i64 v)) ty (0, 0))) := Joins.block_setCell HB1.out _
    have HW2 : Hid (Two tb tb w (t1.setCell ⟨tb, o, none⟩ (.int .i64 v))) := HW1.out.trans (Two.set t1 tb o _ (Or.inl rfl))
    go_wp2_with fail
    go_ret
    exact ⟨v, by rw [HN.out]; rfl, fun n hn => (by rw [HN.out] at hn; cases hn), HB2.out, HW2.out⟩
  | range =>
    obtain ⟨tp, pp, hvar⟩ := hv.ran
    have HA2 : Calls Tryd.prog 62 #[.string ⟨l.toArray⟩] w fun e w' => ∃ M, e = .returned (.tuple #[.int .i64 (Lib.atoiSat l), .iface 115 (.pointer (some ⟨M, 0, none⟩))]) ∧ Below w.heap.size w w' := (Tryd.strconv_Atoi_range_var ⟨l.toArray⟩ (by simp only [ByteArray.size]; simp; omega) ha tp pp w hvar).mono fun e w' ⟨M, he, _, _, hw⟩ => ⟨M, he, hw⟩
    have HN : Hid (numOf l = none) := by unfold Hid numOf; rw [ha]
    obtain ⟨v, hvv⟩ : ∃ v : Int, (Lib.atoiSat l) = v := ⟨_, rfl⟩
    rw [hvv] at HA2
    clear ha hvv hvar
    go_enter Tryd.func51, Tryd.ntmps51
    go_upto_region 2 with (first
      | (go_at_call 62; refine HA2.mono ?_; rintro e t1 ⟨M, rfl, bl⟩
         have HB1 : Hid (t1.heap[tb]? = some (.cells cs ty (0, 0))) := (bl.block _ (Array.getElem?_eq_some_iff.1 HB.out).1).trans HB.out
         have HW1 : Hid (Two tb tb w t1) := Two.of bl
         clear bl))
    obtain ⟨⟨x, hx⟩, fz⟩ := HC.out t1 HB1.out
    have HB2 : Hid ((t1.setCell ⟨tb, o, none⟩ (.int .i64 v)).heap[tb]? = some (.cells (cs.setIfInBounds o (.int .i64 v)) ty (0, 0))) := Joins.block_setCell HB1.out _
    have HW2 : Hid (Two tb tb w (t1.setCell ⟨tb, o, none⟩ (.int .i64 v))) := HW1.out.trans (Two.set t1 tb o _ (Or.inl rfl))
    go_wp2_with fail
    go_ret
    exact ⟨v, by rw [HN.out]; rfl, fun n hn => (by rw [HN.out] at hn; cases hn), HB2.out, HW2.out⟩

end Go.Proofs.YtnjcjaaciphcgaaDoor
