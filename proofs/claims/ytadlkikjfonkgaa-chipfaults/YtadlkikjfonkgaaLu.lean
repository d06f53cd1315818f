/-
  SEAT Ytadlkikjfonkgaa: lists of truths; small functions of the laws.
-/
import Derived.Test.YtadlkikjfonkgaaLd
namespace Go.Proofs.Ytadlkikjfonkgaa
open Go.RowKit Go.Conc
set_option linter.unusedVariables false

/-- A list of truths that is read. -/
def ReadsB (w : World) (a : Option Addr) (len : Nat) (ms : List Bool) : Prop :=
  ms.length = len ∧ (a = none → len = 0) ∧ ∀ x, a = some x → ∀ i, i < len → w.cell? (x.add i) = some (.bool (ms.getD i false))
theorem ReadsB.below {w w' : World} {a : Option Addr} {len : Nat} {ms : List Bool} (h : ReadsB w a len ms) (hb : Below w.heap.size w w') : ReadsB w' a len ms :=
  ⟨h.1, h.2.1, fun x hx i hi => (hb.cell (block_lt_of_cell (h.2.2 x hx i hi))).trans (h.2.2 x hx i hi)⟩
theorem ReadsB.pos {w : World} {a : Option Addr} {len : Nat} {ms : List Bool} (h : ReadsB w a len ms) (hp : 0 < len) :
    ∃ b off, a = some ⟨b, off, none⟩ ∧ b < w.heap.size ∧ ∀ i, i < len → w.cell? ⟨b, off + i, none⟩ = some (.bool (ms.getD i false)) := by
  obtain ⟨hl, hn, hc⟩ := h
  cases a with
  | none => have := hn rfl; omega
  | some x =>
    obtain ⟨b, off, spot⟩ := x
    have h0 := hc _ rfl 0 hp
    have hspot : spot = none := by simpa [Addr.add] using World.cell?_spot h0
    subst hspot
    refine ⟨b, off, rfl, by simpa [Addr.add] using block_lt_of_cell h0, fun i hi => ?_⟩
    have h1 := hc _ rfl i hi
    rw [plain_add] at h1
    exact h1
theorem samePage_eq (w : World) (a1 a2 b1 b2 : Option Addr) (n1 n2 c1 c2 d1 d2 : Nat) (D Z : List Int) (h1 : Reads w a1 n1 D) (h2 : Reads w a2 n2 Z) (k1 : Reads w b1 n1 D) (k2 : Reads w b2 n2 Z) :
    Calls Try.prog 55 #[.agg #[.slice a1 n1 c1, .slice a2 n2 c2], .agg #[.slice b1 n1 d1, .slice b2 n2 d2]] w fun e w' => e = .returned (.bool true) ∧ Below w.heap.size w w' := by
  have hb := below_trans (below_alloc w (.cells #[.slice a1 n1 c1, .slice a2 n2 c2] 36)) (below_alloc _ (.cells #[.slice b1 n1 d1, .slice b2 n2 d2] 36))
  have v1 := conv a1 n1 c1 D _ (h1.below hb)
  have v2 := conv a2 n2 c2 Z _ (h2.below hb)
  have v3 := conv b1 n1 d1 D _ (k1.below hb)
  have v4 := conv b2 n2 d2 Z _ (k2.below hb)
  have HB := hide hb
  clear hb h1 h2 k1 k2
  go_enter Try.func55, Try.ntmps55
  go_wp2
  go_ret
  exact ⟨rfl, HB.out⟩

theorem few_any (b p s : Int) (w : World) : Calls Try.prog 32 #[.agg #[.int .i64 b, .int .i64 p, .int .i64 s]] w fun e w' => e = .returned (.bool (Fits b p s && decide (b * p ≤ 128))) ∧ Below w.heap.size w w' := by
  have HB0 := hide (below_alloc w (.cells #[.int .i64 b, .int .i64 p, .int .i64 s] 23))
  have HG0 := hide (alloc_new w (.cells #[.int .i64 b, .int .i64 p, .int .i64 s] 23))
  cases hf : Fits b p s with
  | false =>
    go_enter Try.func32, Try.ntmps32
    go_wp2_with (first | (go_at_call 31; refine (shape_any b p s _).mono ?_; rintro e u1 ⟨rfl, b1⟩; rw [hf]; have HB1 := hide (below_trans HB0.out b1); clear b1))
    go_ret
    exact ⟨rfl, HB1.out⟩
  | true =>
    have h0 := of_decide_eq_true hf
    have hw : IntKind.i64.wrap (b * p) = b * p := by
      have h1 : 0 ≤ b * p := Int.mul_nonneg (by omega) (by omega)
      simp only [IntKind.wrap_i64]
      omega
    clear h0
    go_enter Try.func32, Try.ntmps32
    go_wp2_with (first | (go_at_call 31; refine (shape_any b p s _).mono ?_; rintro e u1 ⟨rfl, b1⟩; rw [hf]; have HB1 := hide (below_trans HB0.out b1); have hg1 := (b1.block _ (lt_of_block HG0.out)).trans HG0.out; obtain ⟨k0, k1, k2⟩ := cells3 hg1; clear b1 hg1))
    go_ret
    exact ⟨by simp, HB1.out⟩

theorem mod_any (v n : Int) (w : World) (hn : 1 ≤ n ∧ n ≤ 1000000) : Calls Try.prog 14 #[.int .i64 v, .int .i64 n] w fun e w' => ∃ r : Int, e = .returned (.int .i64 r) ∧ 0 ≤ r ∧ r < n ∧ Below w.heap.size w w' := by
  have hne : (n == 0) = false := by simp; omega
  have h1 := Int.tmod_lt_of_pos v (show 0 < n by omega)
  have h2 : -n < Int.tmod v n := by
    have h3 := Int.tmod_lt_of_pos (-v) (show 0 < n by omega)
    rw [Int.neg_tmod] at h3
    omega
  obtain ⟨r, hr⟩ : ∃ r, r = Int.tmod v n := ⟨_, rfl⟩
  rw [← hr] at h1 h2
  by_cases h0 : r < 0
  · have d0 : decide (r < 0) = true := decide_eq_true h0
    go_enter Try.func14, Try.ntmps14
    go_wp2
    go_ret
    exact ⟨v.tmod n + n, rfl, by omega, by omega, Below.refl _ _⟩
  · have d0 : decide (r < 0) = false := decide_eq_false h0
    go_enter Try.func14, Try.ntmps14
    go_wp2
    go_ret
    exact ⟨v.tmod n, rfl, by omega, by omega, Below.refl _ _⟩
end Go.Proofs.Ytadlkikjfonkgaa
