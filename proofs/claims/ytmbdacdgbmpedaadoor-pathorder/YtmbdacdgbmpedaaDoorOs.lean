/-
  SEAT YtmbdacdgbmpedaaDoor: PathOrder's walk, whole.
-/
import Derived.Test.YtmbdacdgbmpedaaDoorOr
namespace Go.Proofs.YtmbdacdgbmpedaaDoor
open Go.RowKit
set_option linter.unusedVariables false

theorem order_walk (a b c : ByteArray) (w : World) (ha0 : a.size ≤ 140737488351232) (hb0 : b.size ≤ 140737488351232) (hc0 : c.size ≤ 140737488351232) :
    Calls Tryd.prog 6 #[.string a, .string b, .string c] w fun e w' => e = .returned (.bool true) ∧ Below w.heap.size w w' := by
  have ha : a.size ≤ 9223372036854775807 := by omega
  have hb : b.size ≤ 9223372036854775807 := by omega
  have hc : c.size ≤ 9223372036854775807 := by omega
  rcases order_ways a b c with ⟨e1, e2, h⟩ | ⟨⟨e1, e2, e3, b3, j, k, e6, b6⟩, h1, h2⟩
  · rcases h with ⟨e5, e6, b6⟩ | ⟨e5, e6, b6⟩
    · exact order_n0 a b c w ha hb hc e1 e2 e5 e6 b6
    · exact order_nn a b c w ha hb hc e1 e2 e5 e6 b6
  · rcases h1 with ⟨b1, b2, hx⟩ | ⟨b1, b2, hx⟩ | ⟨b1, hx⟩
    · rcases h2 with e4 | ⟨e4, e5, hi⟩
      · exact order_ttn a b c w ha hb hc e1 b1 e2 b2 e4 e3 b3 e6 b6 j k hx
      · cases b4 : wiB b c with
        | true => exact order_ttt a b c w ha hb hc e1 b1 e2 b2 e4 b4 e5 (hi b1 b4) e3 b3 e6 b6 j k hx
        | false => exact order_ttf a b c w ha hb hc e1 b1 e2 b2 e4 b4 e5 e3 b3 e6 b6 j k hx
    · rcases h2 with e4 | ⟨e4, e5, hi⟩
      · exact order_tfn a b c w ha hb hc e1 b1 e2 b2 e4 e3 b3 e6 b6 j k hx
      · cases b4 : wiB b c with
        | true => exact order_tft a b c w ha hb hc e1 b1 e2 b2 e4 b4 e5 (hi b1 b4) e3 b3 e6 b6 j k hx
        | false => exact order_tff a b c w ha hb hc e1 b1 e2 b2 e4 b4 e5 e3 b3 e6 b6 j k hx
    · rcases h2 with e4 | ⟨e4, e5, hi⟩
      · exact order_fn a b c w ha hb hc e1 b1 e2 e4 e3 b3 e6 b6 j k hx
      · exact order_fo a b c w ha hb hc e1 b1 e2 e4 e5 e3 b3 e6 b6 j k hx
end Go.Proofs.YtmbdacdgbmpedaaDoor
