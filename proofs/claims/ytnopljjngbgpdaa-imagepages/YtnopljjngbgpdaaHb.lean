/-
  SEAT Ytnopljjngbgpdaa: Page that is refused.
-/
import Derived.Test.YtnopljjngbgpdaaH
namespace Go.Proofs.Ytnopljjngbgpdaa
open Go.RowKit
set_option linter.unusedVariables false

set_option maxHeartbeats 1000000 in
set_option maxRecDepth 100000 in
theorem pPage_err (b q s : Int) (a a' : Option Addr) (n c m c' : Nat) (x y : Int) (w : World) (hn : n ≤ 140737488355000) (hm : m ≤ 140737488355000) (E : Int) (hE : chkE b q s n m = E) (hE0 : E ≠ 0) :
    Calls Try.prog 13 #[.agg #[.int .i64 b, .int .i64 q, .int .i64 s, .slice a n c, .slice a' m c'], .agg #[.int .i64 x, .int .i64 y]] w fun e w' => e = .returned (.tuple #[.agg #[.slice none 0 0, .slice none 0 0], .int .i64 E]) ∧ Below w.heap.size w w' := by
  have HE : Hid (chkE b q s n m = E) := hE
  have k1 : (E != 0) = true := by simpa using hE0
  clear hE
  go_enter Try.func13, Try.ntmps13
  go_wp2_with (go_at_call 7; refine (check_any b q s a a' n c m c' _ hn hm).mono ?_; rintro e u1 ⟨rfl, b1⟩; rw [HE.out]; have bw1 := below_trans (((below_alloc w (.cells #[.int .i64 b, .int .i64 q, .int .i64 s, .slice a n c, .slice a' m c'] 27)).alloc (below_alloc w _).size _).alloc (((below_alloc w _).alloc (below_alloc w _).size _)).size _) b1; have g1 := grown_of b1 none; obtain ⟨⟨c0, c1, c2, c3, c4⟩, ⟨d0, d1⟩, ⟨z0, z1⟩, f0⟩ := box572 g1)
  refine bodyPost_ret (v := .tuple #[.agg #[.slice none 0 0, .slice none 0 0], .int .i64 E]) (by simp [results, Try.results13, go_sem, z0, z1]) rfl ⟨rfl, ?_⟩
  go_grown

set_option maxHeartbeats 2000000 in
set_option maxRecDepth 100000 in
theorem pPage_bad (b q s : Int) (a a' : Option Addr) (n c m c' : Nat) (x y : Int) (w : World) (hn : n ≤ 140737488355000) (hm : m ≤ 140737488355000) (hE : chkE b q s n m = 0) (hxy : ¬ (0 ≤ x ∧ x < b ∧ 0 ≤ y ∧ y < q)) :
    Calls Try.prog 13 #[.agg #[.int .i64 b, .int .i64 q, .int .i64 s, .slice a n c, .slice a' m c'], .agg #[.int .i64 x, .int .i64 y]] w fun e w' => e = .returned (.tuple #[.agg #[.slice none 0 0, .slice none 0 0], .int .i64 41]) ∧ Below w.heap.size w w' := by
  have HE : Hid (chkE b q s n m = 0) := hE
  clear hE
  rcases bad_ways hxy with h | ⟨h1, h⟩ | ⟨h1, h2, h⟩ | ⟨h1, h2, h3, h⟩
  all_goals
    clear hxy
    go_enter Try.func13, Try.ntmps13
    go_wp2_with (go_at_call 7; refine (check_any b q s a a' n c m c' _ hn hm).mono ?_; rintro e u1 ⟨rfl, b1⟩; rw [HE.out]; have bw1 := below_trans (((below_alloc w (.cells #[.int .i64 b, .int .i64 q, .int .i64 s, .slice a n c, .slice a' m c'] 27)).alloc (below_alloc w _).size _).alloc (((below_alloc w _).alloc (below_alloc w _).size _)).size _) b1; have g1 := grown_of b1 none; obtain ⟨⟨c0, c1, c2, c3, c4⟩, ⟨d0, d1⟩, ⟨z0, z1⟩, f0⟩ := box572 g1)
    refine bodyPost_ret (v := .tuple #[.agg #[.slice none 0 0, .slice none 0 0], .int .i64 41]) (by simp [results, Try.results13, go_sem, z0, z1]) rfl ⟨rfl, ?_⟩
    go_grown

end Go.Proofs.Ytnopljjngbgpdaa
