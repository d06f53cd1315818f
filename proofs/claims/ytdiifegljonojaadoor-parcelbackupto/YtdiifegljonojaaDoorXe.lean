/-
  SEAT YtdiifegljonojaaDoor: sealed.
-/
import Derived.Test.YtdiifegljonojaaDoorXd
namespace Go.Proofs.YtdiifegljonojaaDoor
open Go.RowKit
set_option linter.unusedVariables false

def le4 (n : Nat) : List Int := [((n % 256 : Nat) : Int), ((n / 256 % 256 : Nat) : Int), ((n / 65536 % 256 : Nat) : Int), ((n / 16777216 % 256 : Nat) : Int)]
def sealL (bs : List Int) : List Int := bs ++ le4 (sumL (nats bs))
theorem le4_num (n : Nat) : numL 4 (n : Int) = le4 n := by
  show (((([0, 0, 0, 0] : List Int).set (0 + 0) ((n : Int) / 256 ^ 0 % 256)).set (0 + 1) ((n : Int) / 256 ^ 1 % 256)).set (0 + 2) ((n : Int) / 256 ^ 2 % 256)).set (0 + 3) ((n : Int) / 256 ^ 3 % 256) = _
  have e0 : (256 : Int) ^ 0 = 1 := by decide
  have e1 : (256 : Int) ^ 1 = 256 := by decide
  have e2 : (256 : Int) ^ 2 = 65536 := by decide
  have e3 : (256 : Int) ^ 3 = 16777216 := by decide
  rw [e0, e1, e2, e3]
  unfold le4
  simp only [List.set_cons_zero, List.set_cons_succ, Nat.zero_add, Int.ediv_one]
  simp only [Int.natCast_emod, Int.natCast_ediv]
  rfl
theorem reads_alloc (u : World) (zs : List Int) (hb : Byt zs) : Reads (u.alloc (.cells (zs.map (Value.int .u8)).toArray 5)) (some ⟨u.heap.size, 0, none⟩) zs.length zs := by
  refine ⟨rfl, hb, by simp, fun x hx i hi => ?_⟩
  cases hx
  rw [Pt.add_zero, Nat.zero_add]
  have h9 := heap_alloc_new u (.cells (zs.map (Value.int .u8)).toArray 5)
  simp only [World.cell?, h9]
  simp [List.getD, List.getElem?_eq_getElem hi]
theorem le4_cells (u : World) (s : Nat) : Reads (u.alloc (.cells #[.int .u8 ((s % 256 : Nat) : Int), .int .u8 ((s / 256 % 256 : Nat) : Int), .int .u8 ((s / 65536 % 256 : Nat) : Int), .int .u8 ((s / 16777216 % 256 : Nat) : Int)] 5)) (some ⟨u.heap.size, 0, none⟩) 4 (le4 s) := by
  exact reads_alloc u (le4 s) (by intro x hx; simp [le4] at hx; omega)
theorem own_nought (u : World) (N : Nat) (h : u.heap.size = N) : (u.alloc (.cells #[] 5)).ownsRow N 5 1 (.slice (some ⟨N, 0, none⟩) 0 0) 0 (([] : List Int).map (Value.int .u8)) := by
  subst h
  exact World.ownsRow_made u #[] 0 (Nat.le_refl _) (Nat.zero_le _) rfl

set_option maxHeartbeats 2000000 in
set_option maxRecDepth 100000 in
theorem sealed_any (a : Option Addr) (n c : Nat) (bs : List Int) (w : World) (hr : Reads w a n bs) (hn : n ≤ 100000000000000) (ht : Tab w) :
    Calls Tryd.prog 26 #[.slice a n c] w fun e w' => ∃ g cc, e = .returned (.slice (some ⟨g, 0, none⟩) (n + 4) cc) ∧ Own w' w.heap.size g (n + 4) cc (sealL bs) ∧ Below w.heap.size w w' := by
  obtain ⟨s, hs⟩ : ∃ s, sumL (nats bs) = s := ⟨_, rfl⟩
  have HS : Hid (sumL (nats bs) = s) := hs
  have hs4 : s < 4294967296 := by rw [← hs]; exact sumL_lt hr.2.1
  have w0 : IntKind.u8.wrap (s : Int) = ((s % 256 : Nat) : Int) := by rw [IntKind.wrap_u8]; omega
  have w1 : IntKind.u8.wrap ((s : Int) / 256) = ((s / 256 % 256 : Nat) : Int) := by rw [IntKind.wrap_u8]; omega
  have w2 : IntKind.u8.wrap ((s : Int) / 65536) = ((s / 65536 % 256 : Nat) : Int) := by rw [IntKind.wrap_u8]; omega
  have w3 : IntKind.u8.wrap ((s : Int) / 16777216) = ((s / 16777216 % 256 : Nat) : Int) := by rw [IntKind.wrap_u8]; omega
  have HR : Hid (Reads w a n bs) := hr
  have HT : Hid (Tab w) := ht
  have TA : Hid True := trivial
  clear hs hr ht
  go_enter Tryd.func26, Tryd.ntmps26
  go_wp2_with (first
    | (go_at_call 42; refine (sum_any _ _ _ bs _ (by omega) HR.out HT.out).mono ?_; rintro e t1 ⟨rfl, ht1⟩; rw [← ht1, HS.out]; clear ht1)
    | (at_builtin; have zz := TA; clear TA zz; refine wpList_append_reads rfl (.tmp 6) (.tmp 7) rfl w.heap.size (.slice (some ⟨w.heap.size, 0, none⟩) 0 0) 0 [] rfl (own_nought w w.heap.size rfl) a n c bs rfl (HR.out.below (below_alloc _ _)) (by omega) (by simp) ?_; intro v1 w1 own1 grow1; simp only [Nat.zero_add, List.nil_append] at own1
       have HB6 : Hid (Below w.heap.size w w1) := (below_alloc w _).grown grow1 (by simp) (fun q hq => ((own_nought w w.heap.size rfl).lt q hq).1)
       have HO6 : Hid (w1.ownsRow w.heap.size 5 1 v1 n (bs.map (Value.int .u8))) := own1
       have TB : Hid True := trivial
       clear own1 grow1)
    | (at_builtin; have zz := TB; clear TB zz; refine wpList_append_reads rfl (.tmp 8) (.tmp 20) rfl w.heap.size v1 n bs rfl (HO6.out.alloc _) _ 4 4 (le4 s) rfl (le4_cells w1 s) (by omega) (by have := HB6.out.size; simp; omega) ?_; intro v2 w2 own2 grow2; obtain ⟨g2, c2, rfl, hc21, hc22, hg21, hg22⟩ := own_shape own2 (by omega)
       have HB7 : Hid (Below w.heap.size w w2) := (HB6.out.alloc HB6.out.size _).grown grow2 (by have := HB6.out.size; simp; omega) (fun q hq => (HO6.out.lt q hq).1)
       have HO7 : Hid (Own w2 w.heap.size g2 (n + 4) c2 (bs ++ le4 s)) := own2
       clear own2 grow2 hc21 hc22 hg21 hg22))
  go_ret
  exact ⟨g2, c2, rfl, by unfold sealL; rw [HS.out]; exact HO7.out, HB7.out⟩
end Go.Proofs.YtdiifegljonojaaDoor
