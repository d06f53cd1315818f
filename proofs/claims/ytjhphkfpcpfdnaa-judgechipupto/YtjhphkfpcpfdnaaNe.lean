/-
  SEAT Ytjhphkfpcpfdnaa: a new chip: New.
-/
import Derived.Test.YtjhphkfpcpfdnaaEb
namespace Go.Proofs.Ytjhphkfpcpfdnaa
open Go.RowKit Go.Conc
set_option linter.unusedVariables false

/-- A row of ints, read. -/
def ReadsI (w : World) (a : Option Addr) (len : Nat) (zs : List Int) : Prop :=
  zs.length = len ∧ (∀ z ∈ zs, -9223372036854775808 ≤ z ∧ z ≤ 9223372036854775807) ∧ (a = none → len = 0) ∧ ∀ x, a = some x → ∀ i, i < len → w.cell? (x.add i) = some (.int .i64 (zs.getD i 0))
theorem ReadsI.pos {w : World} {a : Option Addr} {len : Nat} {zs : List Int} (h : ReadsI w a len zs) (hp : 0 < len) :
    ∃ b off, a = some ⟨b, off, none⟩ ∧ b < w.heap.size ∧ ∀ i, i < len → w.cell? ⟨b, off + i, none⟩ = some (.int .i64 (zs.getD i 0)) := by
  obtain ⟨hl, _, hn, hc⟩ := h
  cases a with
  | none => have := hn rfl; omega
  | some x =>
    obtain ⟨b, off, spot⟩ := x
    have h0 := hc _ rfl 0 hp
    have hspot : spot = none := by simpa [Addr.add] using World.cell?_spot h0
    subst hspot
    refine ⟨b, off, rfl, by simpa [Addr.add] using block_lt_of_cell h0, fun i hi => ?_⟩
    have k0 := hc _ rfl i hi
    rw [plain_add] at k0
    exact k0
theorem ReadsI.below {w w' : World} {a : Option Addr} {len : Nat} {zs : List Int} (h : ReadsI w a len zs) (hb : Below w.heap.size w w') : ReadsI w' a len zs :=
  ⟨h.1, h.2.1, h.2.2.1, fun x hx i hi => (hb.cell (block_lt_of_cell (h.2.2.2 x hx i hi))).trans (h.2.2.2 x hx i hi)⟩

def outB (B z : Int) : Bool := decide (z < 0) || decide (z ≥ B)
/-- What a new chip answers. -/
def NewE (B P S : Int) (bad : List Int) (fs : List Fc) : Int :=
  if Fits B P S = false then 40 else if bad.any (outB B) then 41 else if faultsB fs = false then 48 else 0

theorem new_fit (w : World) (B P S : Int) (hf : Fits B P S = false) (ba : Option Addr) (bn bc : Nat) (sa : Option Addr) (n c : Nat) :
    Calls Try.prog 4 #[.agg #[.int .i64 B, .int .i64 P, .int .i64 S], .slice ba bn bc, .slice sa n c] w fun e w' => e = .returned (.tuple #[.pointer none, .int .i64 40]) ∧ Below w.heap.size w w' := by
  have HB0 := hide (below_alloc w (.cells #[.int .i64 B, .int .i64 P, .int .i64 S] 23))
  go_enter Try.func4, Try.ntmps4
  go_wp2_with (first | (go_at_call 19; refine (mayBe_any B P S _).mono ?_; rintro e u1 ⟨rfl, b1⟩; rw [hf]; have HB1 := hide (below_trans HB0.out b1); clear b1))
  refine bodyPost_ret (v := .tuple #[.pointer none, .int .i64 40]) (by simp [results, Try.results4, go_sem]) rfl ?_
  exact ⟨rfl, HB1.out⟩

set_option maxRecDepth 100000 in
theorem new_bad (w : World) (B P S : Int) (hf : Fits B P S = true) (ba : Option Addr) (bn bc : Nat) (bad : List Int) (hR : ReadsI w ba bn bad) (hbn : bn ≤ 9223372036854775807) (hb : bad.any (outB B) = true) (sa : Option Addr) (n c : Nat) :
    Calls Try.prog 4 #[.agg #[.int .i64 B, .int .i64 P, .int .i64 S], .slice ba bn bc, .slice sa n c] w fun e w' => e = .returned (.tuple #[.pointer none, .int .i64 41]) ∧ Below w.heap.size w w' := by
  have HB0 := hide (below_alloc w (.cells #[.int .i64 B, .int .i64 P, .int .i64 S] 23))
  have HG0 := hide (alloc_new w (.cells #[.int .i64 B, .int .i64 P, .int .i64 S] 23))
  have HR := hide hR
  have HL := hide hR.1
  have HBA := hide hb
  clear hR hb
  go_enter Try.func4, Try.ntmps4
  go_wp2_with (first | (go_at_call 19; refine (mayBe_any B P S _).mono ?_; rintro e u1 ⟨rfl, b1⟩; rw [hf]; have HB1 := hide (below_trans HB0.out b1); have HG1 := hide ((b1.block _ (lt_of_block HG0.out)).trans HG0.out); clear b1))
  go_loopw [19] (fun s19 wr => ∃ m : Nat, m ≤ bn ∧ s19 = .int .i64 m ∧ Hid (wr = u1) ∧ Hid ((bad.take m).any (outB B) = false)) (fun s19 _ => bn - (intOf s19).toNat)
  case atStart => exact ⟨0, Nat.zero_le _, rfl, rfl, rfl⟩
  case round =>
    obtain ⟨m, hm, rfl, hw, HN⟩ := hrel
    have hw' := hw.out
    subst hw'
    clear hw
    by_cases hlt : m < bn
    · obtain ⟨b, off, rfl, _, hcells⟩ := HR.out.pos (by omega)
      have k0 := hcells m hlt
      obtain ⟨z, hz⟩ : ∃ z, bad.getD m 0 = z := ⟨_, rfl⟩
      rw [hz] at k0
      have d0 := (HB1.out.cell (block_lt_of_cell k0)).trans k0
      have c0 : wr.cell? ⟨w.heap.size, 0, none⟩ = some (.int .i64 B) := by have h1 := HG1.out; simp [World.cell?, h1]
      have HTK : Hid (bad.take (m + 1) = bad.take m ++ [z]) := by
        have hml : m < bad.length := by rw [HL.out]; exact hlt
        rw [List.getD_eq_getElem?_getD, List.getElem?_eq_getElem hml] at hz
        unfold Hid
        rw [List.take_succ_eq_append_getElem hml, show bad[m] = z from hz]
      have dm : decide ((m : Int) < (bn : Int)) = true := decide_eq_true (by omega)
      have m1 : (m : Int) < (bn : Int) := by omega
      clear k0 hz hcells
      cases h1 : decide (z < 0) with
      | true =>
        go_wp2
        refine bodyPost_ret (v := .tuple #[.pointer none, .int .i64 41]) (by simp [results, Try.results4, go_sem]) rfl ?_
        exact ⟨rfl, HB1.out⟩
      | false =>
        cases h2 : decide (z ≥ B) with
        | true =>
          go_wp2
          refine bodyPost_ret (v := .tuple #[.pointer none, .int .i64 41]) (by simp [results, Try.results4, go_sem]) rfl ?_
          exact ⟨rfl, HB1.out⟩
        | false =>
          go_wp2
          exact ⟨⟨m + 1, hlt, by simp, trivial, by unfold Hid; rw [HTK.out, List.any_append, HN.out]; simp [outB, h1, h2]⟩, by simp [intOf]; omega⟩
    · exfalso
      have h1 := HN.out
      rw [List.take_of_length_le (by rw [HL.out]; omega)] at h1
      rw [h1] at HBA
      exact absurd HBA.out (by decide)
end Go.Proofs.Ytjhphkfpcpfdnaa
