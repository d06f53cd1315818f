/-
  SEAT Ytoaahellfflooaa.
-/
import Derived.Test.YtoaahellfflooaaVWp
import Derived.Test.YtoaahellfflooaaVWf
import Derived.Test.YtoaahellfflooaaVWo
namespace Go.Proofs.Ytoaahellfflooaa
open Go.RowKit
set_option linter.unusedVariables false

/-- What a packing ends in, whichever way. -/
def PkW (ln : Nat) (E : Int) (zs : List Int) (w : World) (e : Ending) (w' : World) : Prop := (∃ a c, e = .returned (.tuple #[.slice a ln c, .int .i64 E]) ∧ Reads w' a ln zs) ∧ Below w.heap.size w w'
theorem PkV.pkw {s : St} {w : World} : ∃ ln E zs, ∀ (w : World) (e : Ending) (w' : World), PkV s w e w' → PkW ln E zs w e w' := by
  by_cases hm : mayS s = true
  · refine ⟨(packS s).length, 0, packS s, fun w e w' h => ?_⟩
    obtain ⟨h, hb⟩ := h
    rw [if_pos hm] at h
    obtain ⟨v, he, ho, hy⟩ := h
    obtain ⟨a, c, rfl⟩ := own_slice ho
    exact ⟨⟨a, c, he, own_bytes ho rfl hy⟩, hb⟩
  · refine ⟨0, 140, [], fun w e w' h => ?_⟩
    obtain ⟨h, hb⟩ := h
    rw [if_neg hm] at h
    exact ⟨⟨none, 0, h, rfl, (fun _ h => by cases h), fun _ => rfl, fun _ h => by cases h⟩, hb⟩
theorem cop_on {w : World} {B : Nat} {s : St} {gb go cb co n m : Nat} {ms ls : List (Ob × Value)} {ba oa : Option Addr} (h : CopS w B s (.slice (some ⟨gb, 0, none⟩) n cb) (.slice (some ⟨go, 0, none⟩) m co) n m ms) (hS : StOn w s ba oa n m ls) : StOn w s (some ⟨gb, 0, none⟩) (some ⟨go, 0, none⟩) n m ms := by
  obtain ⟨gb', cb', go', co', e1, e2, _, _, h3, _⟩ := h.on hS
  injection e1 with e1 _ _
  injection e2 with e2 _ _
  injection e1 with e1
  injection e2 with e2
  injection e1 with e1
  injection e2 with e2
  subst e1
  subst e2
  exact h3
theorem same9' (a b : Option Addr) (n cap cap2 : Nat) (zs : List Int) (w : World) (h1 : Reads w a n zs) (h2 : Reads w b n zs) : Calls Try.prog 9 #[.slice a n cap, .slice b n cap2] w fun e w' => e = .returned (.bool true) ∧ w' = w := by
  have q1 := conv a n cap zs w h1
  have q2 := conv b n cap2 zs w h2
  go_enter Try.func9, Try.ntmps9
  go_wp2
  go_ret
  exact ⟨ret_bool (by simp), rfl⟩
theorem no7' (E : Int) (w : World) : Calls Try.prog 7 #[.int .i64 E] w fun e w' => e = .returned (.int .i64 E) ∧ w' = w := by
  go_enter Try.func7, Try.ntmps7
  go_wp2
  go_ret
  exact ⟨rfl, rfl⟩

set_option maxHeartbeats 8000000 in
set_option maxRecDepth 100000 in
theorem packsWalk (fl nx cu la : Int) (bs : List Blk) (os : List Ob) (ba oa : Option Addr) (n m bc oc : Nat) (ls : List (Ob × Value)) (w : World) (hs : StOn w ⟨fl, nx, cu, la, bs, os⟩ ba oa n m ls) (hz : StSz w ⟨fl, nx, cu, la, bs, os⟩ n m ls) :
    Calls Try.prog 4 #[.agg #[.int .u64 fl, .int .u64 nx, .int .i64 cu, .int .i64 la, .slice ba n bc, .slice oa m oc]] w fun e w' => e = .returned (.bool true) ∧ Below w.heap.size w w' := by
  obtain ⟨ln, E, zs, hpk⟩ := PkV.pkw (s := ⟨fl, nx, cu, la, bs, os⟩) (w := w)
  have HR10 := hide (fun (u : World) (h : StOn u ⟨fl, nx, cu, la, bs, os⟩ ba oa n m ls) => (show Calls Try.prog 10 #[.agg #[.int .u64 fl, .int .u64 nx, .int .i64 cu, .int .i64 la, .slice ba n bc, .slice oa m oc]] u (PkV ⟨fl, nx, cu, la, bs, os⟩ u) by
    by_cases hm : mayS ⟨fl, nx, cu, la, bs, os⟩ = true
    · exact rspack_ok fl nx cu la bs os ba oa n m bc oc ls u h hm hz.nat
    · exact rspack_bad ⟨fl, nx, cu, la, bs, os⟩ ba oa n m bc oc ls u h (by simpa using hm)).mono (hpk u))
  have HR12 := hide (fun (u : World) (ba oa : Option Addr) (bc oc : Nat) (ms : List (Ob × Value)) (h : StOn u ⟨fl, nx, cu, la, bs, os⟩ ba oa n m ms) => (show Calls Try.prog 12 #[.agg #[.int .u64 fl, .int .u64 nx, .int .i64 cu, .int .i64 la, .slice ba n bc, .slice oa m oc]] u (PkV ⟨fl, nx, cu, la, bs, os⟩ u) by
    by_cases hm : mayS ⟨fl, nx, cu, la, bs, os⟩ = true
    · exact spack_ok fl nx cu la bs os ba oa n m bc oc ms u h hm hz.nat
    · exact spack_bad ⟨fl, nx, cu, la, bs, os⟩ ba oa n m bc oc ms u h (by simpa using hm)).mono (hpk u))
  have HZ : Hid (n ≤ 4398046510976 ∧ m ≤ 1034834473170 ∧ ∀ x ∈ ls, x.1.ch.length ≤ 4398046510976) := ⟨hz.n, hz.m, fun x hx => by
    obtain ⟨_, _, _, _, h⟩ := (hz.o x hx).c
    exact h⟩
  have HS := hide hs
  have hb := below_alloc w (.cells #[.int .u64 fl, .int .u64 nx, .int .i64 cu, .int .i64 la, .slice ba n bc, .slice oa m oc] 27)
  have HB := hide hb
  have HX := hide (heap_alloc_new w (.cells #[.int .u64 fl, .int .u64 nx, .int .i64 cu, .int .i64 la, .slice ba n bc, .slice oa m oc] 27))
  obtain ⟨f0, f1, f2, f3, f4, f5⟩ := bx6 HX.out
  clear hpk hs hz hb
  go_enter Try.func4, Try.ntmps4
  go_wp2_with (first
    | (go_at_call 10; have h9 := HX; clear h9; refine (HR10.out _ (HS.out.below HB.out)).mono ?_; rintro e u1 ⟨⟨xa, xc, rfl, hr1⟩, b1⟩; have HU1 := hide (HB.out.trans (b1.mono HB.out.size)); have HX1 := hide ((b1.block w.heap.size (lt_of_block HX.out)).trans HX.out); have HRD1 := hide hr1; clear f0 f1 f2 f3 f4 f5; obtain ⟨f0, f1, f2, f3, f4, f5⟩ := bx6 HX1.out; clear b1 hr1 HX HB HR10)
    | (go_at_call 11; have h9 := HX1; clear h9; refine (copied11 fl nx cu la bs os ba oa n m bc oc ls _ (HS.out.below HU1.out) HZ.out.1 HZ.out.2.1 HZ.out.2.2).mono ?_; rintro e u2 ⟨vb, vo, ms, rfl, hc, b2⟩; have HU2 := hide (HU1.out.trans (b2.mono HU1.out.size)); obtain ⟨gb, cb, go, co, rfl, rfl, -, -, -, -, -⟩ := hc.on (HS.out.below HU2.out); have HC2 := hide hc; have HX2 := hide ((b2.block w.heap.size (lt_of_block HX1.out)).trans HX1.out); have HRD2 := hide (HRD1.out.below b2); clear f0 f1 f2 f3 f4 f5; clear b2 hc HX1 HU1 HRD1
       have HC3 := hide (HC2.out.below (below_alloc u2 (.cells #[.int .u64 fl, .int .u64 nx, .int .i64 cu, .int .i64 la, .slice (some ⟨gb, 0, none⟩) n cb, .slice (some ⟨go, 0, none⟩) m co] 27)))
       have HX3 := hide (heap_alloc_new u2 (.cells #[.int .u64 fl, .int .u64 nx, .int .i64 cu, .int .i64 la, .slice (some ⟨gb, 0, none⟩) n cb, .slice (some ⟨go, 0, none⟩) m co] 27))
       have HU3 := hide (HU2.out.trans ((below_alloc u2 (.cells #[.int .u64 fl, .int .u64 nx, .int .i64 cu, .int .i64 la, .slice (some ⟨gb, 0, none⟩) n cb, .slice (some ⟨go, 0, none⟩) m co] 27)).mono HU2.out.size))
       have HX4 := hide (((below_alloc u2 (.cells #[.int .u64 fl, .int .u64 nx, .int .i64 cu, .int .i64 la, .slice (some ⟨gb, 0, none⟩) n cb, .slice (some ⟨go, 0, none⟩) m co] 27)).block w.heap.size (lt_of_block HX2.out)).trans HX2.out)
       have HRD3 := hide (HRD2.out.below (below_alloc u2 (.cells #[.int .u64 fl, .int .u64 nx, .int .i64 cu, .int .i64 la, .slice (some ⟨gb, 0, none⟩) n cb, .slice (some ⟨go, 0, none⟩) m co] 27)))
       have HS3 : Hid (StOn (u2.alloc (.cells #[.int .u64 fl, .int .u64 nx, .int .i64 cu, .int .i64 la, .slice (some ⟨gb, 0, none⟩) n cb, .slice (some ⟨go, 0, none⟩) m co] 27)) ⟨fl, nx, cu, la, bs, os⟩ (some ⟨gb, 0, none⟩) (some ⟨go, 0, none⟩) n m ms) := cop_on HC3.out (HS.out.below HU3.out)
       obtain ⟨h0, h1, h2, h3, h4, h5⟩ := bx6 HX3.out
       clear HC2 HX2 HU2 HRD2)
    | (go_at_call 12; have h9 := HX3; clear h9; refine (HR12.out _ _ _ _ _ ms HS3.out).mono ?_; rintro e u4 ⟨⟨ya, yc, rfl, hr2⟩, b4⟩; have HU4 := hide (HU3.out.trans (b4.mono HU3.out.size)); have HRD4 := hide (HRD3.out.below b4); have HRD5 := hide hr2; have HC4 := hide (HC3.out.below b4); have HX5 := hide ((b4.block _ (lt_of_block HX3.out)).trans HX3.out); have HX6 := hide ((b4.block _ (lt_of_block HX4.out)).trans HX4.out); clear h0 h1 h2 h3 h4 h5; obtain ⟨h0, h1, h2, h3, h4, h5⟩ := bx6 HX5.out; obtain ⟨f0, f1, f2, f3, f4, f5⟩ := bx6 HX6.out; have HS4 := hide (HS.out.below HU4.out); clear HR12 HS3 HX3 HX4 HC3 HRD3 HU3 hr2 b4)
    | (go_at_call 7; have h9 := HX5; clear h9; refine (no7' E _).mono ?_; rintro e t1 ⟨rfl, ht1⟩; subst ht1)
    | (go_at_call 9; have h9 := HX5; clear h9; refine (same9' _ _ ln _ _ zs _ HRD5.out HRD4.out).mono ?_; rintro e t2 ⟨rfl, ht2⟩; subst ht2)
    | (go_at_call 13; have h9 := HX5; clear h9; refine (kept13 _ fl nx cu la bs os ba oa n m bc oc _ _ ls ms _ HC4.out HS4.out).mono ?_; rintro e u5 ⟨rfl, b5⟩; have HU5 := hide (HU4.out.trans (b5.mono HU4.out.size)); clear b5))
  go_ret
  exact ⟨rfl, HU5.out⟩
end Go.Proofs.Ytoaahellfflooaa
