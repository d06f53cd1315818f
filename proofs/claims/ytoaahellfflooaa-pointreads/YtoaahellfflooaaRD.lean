/-
  SEAT Ytoaahellfflooaa: text.
-/
import Derived.Test.YtoaahellfflooaaRC
namespace Go.Proofs.Ytoaahellfflooaa
open Go.RowKit
set_option linter.unusedVariables false

theorem Reads.held {w w' : World} {a : Option Addr} {len Q : Nat} {zs : List Int} (h : Reads w a len zs) (hg : w.grownBy w' (some Q)) (hQ : 0 < len → ∀ x, a = some x → x.block ≠ Q) : Reads w' a len zs := by
  rcases Nat.eq_zero_or_pos len with h0 | h0
  · subst h0
    exact ⟨h.1, h.2.1, fun _ => rfl, fun x hx i hi => by omega⟩
  · obtain ⟨b, off, rfl, hb, hc⟩ := h.pos h0
    refine ⟨h.1, h.2.1, (fun h => by cases h), fun x hx i hi => ?_⟩
    cases hx
    rw [plain_add, World.cell?_of_block (a := ⟨b, off + i, none⟩) (hg.block b hb (fun e => hQ h0 _ rfl (Option.some.inj e)))]
    exact hc i hi

theorem num_range (zs : List Int) (len : Nat) (left : Int) (hz : ∀ x ∈ zs, 0 ≤ x ∧ x ≤ 255) : 0 ≤ numV zs len left 1 ∧ numV zs len left 1 ≤ 255 := by
  unfold numV
  split
  · have := getL_range hz (atN len left) 1
    have e : (256 : Int) ^ 1 = 256 := by decide
    omega
  · omega

set_option maxHeartbeats 2000000 in
theorem text_any (F G P Q : Nat) (a : Option Addr) (len cap : Nat) (left : Int) (zs : List Int) (w : World) (hF : w.heap[F]? = some (.cells #[.func (.func 81) #[] #[.pointer (some ⟨P, 0, none⟩), .pointer (some ⟨Q, 0, none⟩)]] 124 (0, 0))) (hG : w.heap[G]? = some (.cells #[.func (.func 78) #[] #[.pointer (some ⟨F, 0, none⟩)]] 85 (0, 0))) (h : Giv w P Q a len cap left) (hl1 : -10000 ≤ left) (hl2 : left ≤ len) (hlc : len ≤ cap) (h4 : len ≤ 140737488351300) (hcm : cap ≤ 9223372036854775807) (hr : Reads w a len zs) (hQ : 0 < len → ∀ x, a = some x → x.block ≠ Q) :
    Calls Try.prog 79 #[.pointer (some ⟨F, 0, none⟩), .pointer (some ⟨G, 0, none⟩)] w fun e w' => e = .returned (.string (strOfNums (pieceV zs len (left - 1) (numV zs len left 1).toNat))) ∧ Giv w' P Q a len cap (left - 1 - (numV zs len left 1).toNat) ∧ w.grownBy w' (some Q) := by
  obtain ⟨n, hn⟩ : ∃ n, n = (numV zs len left 1).toNat := ⟨_, rfl⟩
  have hr1 := num_range zs len left hr.2.1
  have hv : numV zs len left 1 = (n : Int) := by omega
  rw [← hn]
  have hn2 : n ≤ 255 := by omega
  have HFQ : Hid (F ≠ Q) := by rintro rfl; rw [h.rest] at hF; simp at hF
  have HGQ : Hid (G ≠ Q) := by rintro rfl; rw [h.rest] at hG; simp at hG
  have HF : Hid (w.heap[F]? = some (.cells #[.func (.func 81) #[] #[.pointer (some ⟨P, 0, none⟩), .pointer (some ⟨Q, 0, none⟩)]] 124 (0, 0))) := hF
  have HG : Hid (w.heap[G]? = some (.cells #[.func (.func 78) #[] #[.pointer (some ⟨F, 0, none⟩)]] 85 (0, 0))) := hG
  have HK : Hid (∀ u, w.grownBy u (some Q) → u.cell? ⟨F, 0, none⟩ = some (.func (.func 81) #[] #[.pointer (some ⟨P, 0, none⟩), .pointer (some ⟨Q, 0, none⟩)]) ∧ u.cell? ⟨G, 0, none⟩ = some (.func (.func 78) #[] #[.pointer (some ⟨F, 0, none⟩)])) := fun u hu =>
    ⟨cell_of_one ((hu.block F (lt_of_block hF) (fun e => HFQ.out (Option.some.inj e))).trans hF), cell_of_one ((hu.block G (lt_of_block hG) (fun e => HGQ.out (Option.some.inj e))).trans hG)⟩
  have HR : Hid (∀ u, w.grownBy u (some Q) → Reads u a len zs) := fun u hu => hr.held hu hQ
  have g0 := drew_grown w (some Q)
  have h' : Giv w.drew P Q a len cap left := ⟨h.row, h.rest⟩
  have HN : Hid _ := fun (_ : Unit) => number_any F P Q a len cap 1 left zs w.drew hF h' (by omega) (by omega) (by omega) hl2 hlc h4 hcm (HR.out _ g0) hQ
  have HGV : Hid (∀ u, w.grownBy u (some Q) → Giv u P Q a len cap (left - 1) → Calls Try.prog 81 #[.int .i64 (n : Int), .pointer (some ⟨P, 0, none⟩), .pointer (some ⟨Q, 0, none⟩)] u fun e w' => (∃ x k c, e = .returned (.tuple #[.slice x k c, .int .i64 (left - 1 - n)]) ∧ Reads w' x k (pieceV zs len (left - 1) n)) ∧ Giv w' P Q a len cap (left - 1 - n) ∧ u.grownBy w' (some Q)) := fun u hu hgv => give_any P Q a len cap n (left - 1) zs u hgv (by omega) (by omega) (by omega) (by omega) hlc h4 hcm (HR.out _ hu) hQ
  have hw : IntKind.i64.wrap (n : Int) = n := by rw [IntKind.wrap_i64]; omega
  obtain ⟨cF, cG⟩ := HK.out w (World.grownBy.refl _ _)
  clear hF hG h hr h' hn hr1
  go_enter Try.func79, Try.ntmps79
  go_wp2
  go_region_held3 (fun x => x.cell? ⟨F, 0, none⟩ = some (.func (.func 81) #[] #[.pointer (some ⟨P, 0, none⟩), .pointer (some ⟨Q, 0, none⟩)]) ∧ x.cell? ⟨G, 0, none⟩ = some (.func (.func 78) #[] #[.pointer (some ⟨F, 0, none⟩)]))
    (first | exact HK.out _ (grownBy_trans (grownBy_trans g0 gr1) gr2) | exact HK.out _ (grownBy_trans g0 gr1) | exact HK.out _ g0 | exact HK.out _ (World.grownBy.refl _ _))
    (first
      | (go_at_call 78; refine Calls.mono (HN.out ()) ?_; rintro e w1 ⟨rfl, v1, gr1⟩; rw [hv])
      | (go_at_call 81; refine Calls.mono (HGV.out _ (grownBy_trans g0 gr1) v1) ?_; rintro e w2 ⟨⟨x, k, c, rfl, r2⟩, v2, gr2⟩; have cv := conv x k c (pieceV zs len (left - 1) n) w2 r2))
  go_wp2
  go_ret
  exact ⟨rfl, v2, grownBy_trans (grownBy_trans g0 gr1) gr2⟩
end Go.Proofs.Ytoaahellfflooaa
