/-
  SEAT Ytjhphkfpcpfdnaa: may these faults be: faultsMayBe.
-/
import Derived.Test.YtjhphkfpcpfdnaaWa
namespace Go.Proofs.Ytjhphkfpcpfdnaa
open Go.RowKit Go.Conc
set_option linter.unusedVariables false

def fmb : Int → List Fc → Bool
  | _, [] => true
  | l, c :: r => if decide (c.a ≤ l) || (c.k != 1 && c.k != 2) then false else fmb c.a r
def faultsB (fs : List Fc) : Bool := decide (fs.length ≤ 4096) && fmb (-1) fs

set_option maxRecDepth 100000 in
theorem faults_any (w : World) (sa : Option Addr) (n c : Nat) (fs : List Fc) (hR : ReadsF w sa n fs) (hn : n ≤ 9223372036854775807) :
    Calls Try.prog 20 #[.slice sa n c] w fun e w' => e = .returned (.bool (faultsB fs)) ∧ Below w.heap.size w w' := by
  have hl := hR.1
  by_cases hbig : (n : Int) > 4096
  · have hd : decide ((n : Int) > 4096) = true := decide_eq_true hbig
    have e1 : faultsB fs = false := by unfold faultsB; rw [decide_eq_false (by omega)]; rfl
    rw [e1]
    clear hR
    go_enter Try.func20, Try.ntmps20
    go_wp2
    go_ret
    exact ⟨rfl, Below.refl _ _⟩
  · have hd : decide ((n : Int) > 4096) = false := decide_eq_false hbig
    have e1 : faultsB fs = fmb (-1) fs := by unfold faultsB; rw [decide_eq_true (by omega)]; rfl
    rw [e1]
    clear e1
    have HR := hide hR
    have HL := hide hl
    clear hR hl
    go_enter Try.func20, Try.ntmps20
    go_wp2
    go_loopw [3, 11] (fun s3 s11 wr => ∃ (m : Nat) (last : Int), m ≤ n ∧ s3 = .int .i64 last ∧ s11 = .int .i64 m ∧ Hid (Below w.heap.size w wr) ∧ Hid (fmb (-1) fs = fmb last (fs.drop m)))
      (fun s3 s11 _ => n - (intOf s11).toNat)
    case atStart => exact ⟨0, -1, Nat.zero_le _, rfl, rfl, Below.refl _ _, rfl⟩
    case round =>
      obtain ⟨m, last, hm, rfl, rfl, HB, HQ⟩ := hrel
      by_cases hlt : m < n
      · obtain ⟨b, off, rfl, hb, hcells⟩ := HR.out.pos (by omega)
        obtain ⟨k0, k1, k2, k3⟩ := hcells m hlt
        obtain ⟨g, hg⟩ : ∃ g, fs.getD m Fc.zero = g := ⟨_, rfl⟩
        rw [hg] at k0 k1 k2 k3
        have d0 := (HB.out.cell (block_lt_of_cell k0)).trans k0
        have d1 := (HB.out.cell (block_lt_of_cell k1)).trans k1
        have d2 := (HB.out.cell (block_lt_of_cell k2)).trans k2
        have d3 := (HB.out.cell (block_lt_of_cell k3)).trans k3
        have HD : Hid (fmb last (fs.drop m) = if decide (g.a ≤ last) || (g.k != 1 && g.k != 2) then false else fmb g.a (fs.drop (m + 1))) := by
          have hml : m < fs.length := by rw [HL.out]; exact hlt
          unfold Hid
          rw [List.drop_eq_getElem_cons hml]
          rw [List.getD_eq_getElem?_getD, List.getElem?_eq_getElem hml] at hg
          rw [show fs[m] = g from hg]
          rfl
        have m1 : (m : Int) < (n : Int) := by omega
        have dm : decide ((m : Int) < (n : Int)) = true := decide_eq_true m1
        have HNB : Hid (Below w.heap.size w (wr.alloc (.cells #[.int .i64 g.a, .int .i64 g.k, .slice g.ma g.ml g.mc, .int .u8 g.f] 67))) := below_trans HB.out (below_alloc _ _)
        clear k0 k1 k2 k3 hg hcells
        cases h1 : decide (g.a ≤ last) with
        | true =>
          go_wp2
          go_ret
          exact ⟨by rw [HQ.out, HD.out, h1]; rfl, HNB.out⟩
        | false =>
          cases h2 : (g.k != 1) with
          | false =>
            go_wp2
            exact ⟨⟨m + 1, g.a, by omega, rfl, by simp, HNB.out, by rw [HQ.out, HD.out, h1, h2]; rfl⟩, by simp [intOf]; omega⟩
          | true =>
            cases h3 : (g.k != 2) with
            | false =>
              go_wp2
              exact ⟨⟨m + 1, g.a, by omega, rfl, by simp, HNB.out, by rw [HQ.out, HD.out, h1, h2, h3]; rfl⟩, by simp [intOf]; omega⟩
            | true =>
              go_wp2
              go_ret
              exact ⟨by rw [HQ.out, HD.out, h1, h2, h3]; rfl, HNB.out⟩
      · have dm : decide ((m : Int) < (n : Int)) = false := decide_eq_false (by omega)
        go_wp2
        go_ret
        refine ⟨?_, HB.out⟩
        have hml : fs.length ≤ m := by rw [HL.out]; omega
        rw [HQ.out, List.drop_eq_nil_of_le hml]
        rfl
end Go.Proofs.Ytjhphkfpcpfdnaa
