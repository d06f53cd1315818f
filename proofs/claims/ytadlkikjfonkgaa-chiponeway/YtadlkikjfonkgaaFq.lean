/-
  SEAT Ytadlkikjfonkgaa: Flip, whole.
-/
import Derived.Test.YtadlkikjfonkgaaFn
namespace Go.Proofs.Ytadlkikjfonkgaa
open Go.RowKit Go.Conc
set_option linter.unusedVariables false

/-- Has a bit of the same unit been flipped? -/
def flHas (C : Ch) (pb pp : Int) (bit : Nat) : Bool := (C.fl pb pp).any (fun z => ((unitN C.S z : Nat) : Int) == ((unitN C.S bit : Nat) : Int))
def FlipC (C : Ch) (pb pp bit : Int) : Int × Ch :=
  if hasP C.B C.P pb pp = false then (41, C) else
    match C.bl[pb.toNat]? with
    | none => (41, C)
    | some b =>
      match b.ps[pp.toNat]? with
      | none => (41, C)
      | some q => if decide (bit < 0) || decide (8 * (pgB C.S : Int) ≤ bit) || !q.h || flHas C pb pp bit.toNat then (46, C) else (0, { C with fl := flS C.fl pb pp bit.toNat })

theorem Flip_any (w : World) (p : Nat) (F : Nat → Prop) (C : Ch) (h : ChipAt w p F C) (hok : C.Ok) (hln : ∀ b p, (C.fl b p).length ≤ 4000000000000) (pb pp bit : Int) (hbit : bit ≤ 9223372036854775807) :
    Calls Try.prog 56 #[.pointer (some ⟨p, 0, none⟩), .agg #[.int .i64 pb, .int .i64 pp], .int .i64 bit] w fun e w' => e = .returned (.int .i64 (FlipC C pb pp bit).1) ∧ ChipAt w' p (Fx F w w') (FlipC C pb pp bit).2 ∧ Only F w w' := by
  obtain ⟨x, bs, fe, hc⟩ := h
  have h : ChipAt w p F C := ⟨x, bs, fe, hc⟩
  unfold FlipC
  cases hp : hasP C.B C.P pb pp with
  | false =>
    refine (flip_a w p F C x bs fe hc pb pp bit hp).mono ?_
    rintro e w' ⟨rfl, hb⟩
    exact ⟨rfl, h.fx hb, Only.ofB hb⟩
  | true =>
    obtain ⟨i, k, rfl, rfl, hi, hk⟩ := hasP_nat hp
    have hbl : i < bs.length := by rw [hc.len, hok.bl]; exact hi
    have hib : bs[i]? = some bs[i] := List.getElem?_eq_getElem hbl
    obtain ⟨b, hb⟩ : ∃ b, bs[i] = b := ⟨_, rfl⟩
    rw [hb] at hib
    have hkl : k < b.ps.length := by rw [(hc.bok b (List.mem_of_getElem? hib)).np]; exact hk
    have hkq : b.ps[k]? = some b.ps[k] := List.getElem?_eq_getElem hkl
    obtain ⟨q, hq⟩ : ∃ q, b.ps[k] = q := ⟨_, rfl⟩
    rw [hq] at hkq
    have e1 : C.bl[i]? = some b.v := by rw [← hc.bl, List.getElem?_map, hib]; rfl
    have e2 : b.v.ps[k]? = some q.v := by show (b.ps.map Pc.v)[k]? = _; rw [List.getElem?_map, hkq]; rfl
    simp only [Int.toNat_natCast, e1, e2, Bool.true_eq_false, if_false]
    have fin46 : ∀ {e : Ending} {w' : World} {Z : Int × Ch}, (e = .returned (.int .i64 46) ∧ Below w.heap.size w w') → Z = (46, C) → e = .returned (.int .i64 Z.1) ∧ ChipAt w' p (Fx F w w') Z.2 ∧ Only F w w' := by
      rintro e w' Z ⟨rfl, hB⟩ rfl
      exact ⟨rfl, h.fx hB, Only.ofB hB⟩
    by_cases h0 : bit < 0
    · exact (flip_n w p F C x bs fe hc hok i k b q hib hkq bit (decide_eq_true h0)).mono fun e w' hr => fin46 hr (by rw [decide_eq_true h0]; rfl)
    · obtain ⟨n, rfl⟩ : ∃ n : Nat, bit = n := ⟨bit.toNat, by omega⟩
      rw [Int.toNat_natCast]
      rw [decide_eq_false h0]
      by_cases h1 : 8 * pgB C.S ≤ n
      · exact (flip_g w p F C x bs fe hc hok i k b q hib hkq n h1 hbit).mono fun e w' hr => fin46 hr (by rw [decide_eq_true (show 8 * (pgB C.S : Int) ≤ (n : Int) by omega)]; rfl)
      · rw [decide_eq_false (show ¬ 8 * (pgB C.S : Int) ≤ (n : Int) by omega)]
        have h1' : n < 8 * pgB C.S := by omega
        cases hq1 : q.h with
        | false => exact (flip_h w p F C x bs fe hc hok i k b q hib hkq n h1' hq1).mono fun e w' hr => fin46 hr (by rw [show q.v.h = false from hq1]; rfl)
        | true =>
          rw [show q.v.h = true from hq1]
          cases ha : flHas C (i : Int) (k : Int) n with
          | true => exact (flip_u w p F C x bs fe hc hok i k b q hib hkq n h1' hq1 (hln _ _) ha).mono fun e w' hr => fin46 hr rfl
          | false =>
            refine (flip_yes w p F C x bs fe hc hok i k b q hib hkq n h1' hq1 (hln _ _) ha).mono ?_
            rintro e w' ⟨rfl, h2, h3⟩
            exact ⟨rfl, h2, h3⟩
end Go.Proofs.Ytadlkikjfonkgaa
