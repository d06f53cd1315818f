/-
  SEAT YtnjcjaaciphcgaaDoor: the lines of two things.
-/
import Derived.Test.YtnjcjaaciphcgaaDoorVc
namespace Go.Proofs.YtnjcjaaciphcgaaDoor
open Go.RowKit Go.Sort
set_option linter.unusedVariables false

/-- What stands behind a word that begins a line of two things. -/
def bh (l word : List UInt8) : Option (List UInt8) := if thOk l 2 = true ∧ (thL l).getD 0 [] = word then some ((thL l).getD 1 []) else none

theorem thOk_len {l : List UInt8} {m : Nat} (h : thOk l m = true) : (thL l).length = m := by
  unfold thOk at h
  simp at h
  exact h.2

set_option maxHeartbeats 2000000 in
set_option maxRecDepth 100000 in
theorem behind_any (q k : Nat) (l word : List UInt8) (w : World) (hR : RdA w q l k) (hl : l.length < 4294967281) (hk : k ≤ 1000000000000) :
    Calls Tryd.prog 49 #[.pointer (some ⟨q, 0, none⟩), .string ⟨word.toArray⟩] w fun e w' => e = .returned (.tuple #[.string ⟨((bh l word).getD []).toArray⟩, .bool (bh l word).isSome]) ∧ RdA w' q (cutN l).2.1 (k + 1) ∧ Two q q w w' := by
  have HTH := things_any q k 2 l w hR hl hk
  obtain ⟨X, hX⟩ : ∃ X, thL l = X := ⟨_, rfl⟩
  cases hok : thOk l 2 with
  | false =>
    have HBH : Hid (bh l word = none) := by unfold Hid bh; rw [hok, if_neg (fun h => by cases h.1)]
    rw [hok, hX] at HTH
    clear hok hX hR
    go_enter Tryd.func49, Tryd.ntmps49
    go_wp2_with (first
      | (go_at_call 52; refine HTH.mono ?_; rintro e t1 ⟨g, rfl, hg, hc, hr, tw, hg2⟩
         have HR1 : Hid (RdA t1 q (cutN l).2.1 (k + 1)) := hr
         have HW1 : Hid (Two q q w t1) := tw
         clear hc hr tw))
    go_ret2
    exact ⟨by rw [HBH.out]; rfl, HR1.out, HW1.out⟩
  | true =>
    have hlen := thOk_len hok
    rw [hX] at hlen
    match X, hlen with
    | [x0, x1], _ =>
      rw [hok, hX] at HTH
      by_cases he : x0 = word
      · have HBH : Hid (bh l word = some x1) := by unfold Hid bh; rw [hok, hX, if_pos ⟨rfl, he⟩]; rfl
        subst he
        clear hok hX hR
        go_enter Tryd.func49, Tryd.ntmps49
        go_wp2_with (first
          | (go_at_call 52; refine HTH.mono ?_; rintro e t1 ⟨g, he1, hg, hc, hr, tw, hg2⟩
             have he2 : e = .returned (.tuple #[.slice (some ⟨g, 0, none⟩) 2 2, .bool true]) := he1
             clear he1
             subst he2
             have HR1 : Hid (RdA t1 q (cutN l).2.1 (k + 1)) := hr
             have HW1 : Hid (Two q q w t1) := tw
             have c0 : t1.cell? ⟨g, 0, none⟩ = some (.string ⟨x0.toArray⟩) := hc 0 (by simp)
             have c1 : t1.cell? ⟨g, 1, none⟩ = some (.string ⟨x1.toArray⟩) := hc 1 (by simp)
             clear hc hr tw))
        go_ret2
        exact ⟨by rw [HBH.out]; rfl, HR1.out, HW1.out⟩
      · have HBH : Hid (bh l word = none) := by unfold Hid bh; rw [hok, hX, if_neg (fun h => he h.2)]
        have hne : (x0 == word) = false := by rw [beq_eq_false_iff_ne]; exact he
        clear hok hX hR
        go_enter Tryd.func49, Tryd.ntmps49
        go_wp2_with (first
          | (go_at_call 52; refine HTH.mono ?_; rintro e t1 ⟨g, he1, hg, hc, hr, tw, hg2⟩
             have he2 : e = .returned (.tuple #[.slice (some ⟨g, 0, none⟩) 2 2, .bool true]) := he1
             clear he1
             subst he2
             have HR1 : Hid (RdA t1 q (cutN l).2.1 (k + 1)) := hr
             have HW1 : Hid (Two q q w t1) := tw
             have c0 : t1.cell? ⟨g, 0, none⟩ = some (.string ⟨x0.toArray⟩) := hc 0 (by simp)
             clear hc hr tw))
        go_ret2
        exact ⟨by rw [HBH.out]; rfl, HR1.out, HW1.out⟩

end Go.Proofs.YtnjcjaaciphcgaaDoor
