/-
  SEAT YtdiifegljonojaaGreatDoor: Within.
-/
import Derived.Test.YtdiifegljonojaaGreatDoorQD
namespace Go.Proofs.YtdiifegljonojaaGreatDoor.Pt
open Go.RowKit
set_option linter.unusedVariables false

/-- What Within tells. -/
def preB (M L : List ByteArray) : Bool := decide (L.take M.length = M)
def wiE (s t : ByteArray) : Int := if spE s = 0 then (if spE t = 0 then (if (trim (spN s)).any upB || (trim (spN t)).any upB then 160 else 0) else spE t) else spE s
def wiB (s t : ByteArray) : Bool := decide (wiE s t = 0) && preB (trim (spN t)) (trim (spN s))

theorem toList_inj {x y : ByteArray} (h : x.toList = y.toList) : x = y := by
  rw [toList_data, toList_data] at h
  rw [← byteOf_data x, h, byteOf_data]

theorem vw_take {w : World} {a : Option Addr} {c n : Nat} {xs : List ByteArray} (h : Vw w (.slice a xs.length c) xs) (hn : n ≤ xs.length) : Vw w (.slice a n c) (xs.take n) := by
  obtain ⟨a2, c2, he, h1, h2, rd, hx⟩ := h
  cases he
  have hl : (xs.take n).length = n := List.length_take_of_le hn
  refine ⟨a, c, by rw [hl], by omega, h2, ⟨rfl, fun h => ?_, fun x hx j u hj => ?_⟩, hx⟩
  · have := rd.nil h; rw [hl]; omega
  · rw [List.getElem?_take] at hj
    split at hj
    · exact rd.cell x hx j u hj
    · cases hj

end Go.Proofs.YtdiifegljonojaaGreatDoor.Pt
