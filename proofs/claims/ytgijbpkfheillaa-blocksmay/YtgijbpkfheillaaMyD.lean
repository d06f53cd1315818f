/-
  SEAT Ytgijbpkfheillaa: BlocksMay: act.
-/
import Derived.Test.YtgijbpkfheillaaMyC
namespace Go.Proofs.Ytgijbpkfheillaa
open Go.RowKit
set_option linter.unusedVariables false

/-- What act answers, and how the book stands behind it. -/
def ActP (w : World) (gb gk : Nat) (P : Int) (es : List Ent) (cur last kd b : Int) (e : Ending) (w' : World) : Prop :=
  ∃ er, e = .returned (.int .i64 er) ∧ Step w w' gb gk P es cur (if er = 0 ∧ kd = 9 then b else last) er (kd = 8 → ∀ i : Nat, b = i → i < es.length → (es.getD i Ent.zero).s ≠ 4)
theorem Step.weak {w w' : World} {gb gk : Nat} {P : Int} {es : List Ent} {cur last er : Int} {k k' : Prop} (h : Step w w' gb gk P es cur last er k) (hk : k' → k) : Step w w' gb gk P es cur last er k' := by
  obtain ⟨es', cur', vo', h1, h2, h3, h4, h5⟩ := h
  exact ⟨es', cur', vo', h1, h2, h3, h4, fun q => h5 (hk q)⟩
theorem Step.ahead {w wA w' : World} {gb gk : Nat} {P : Int} {es : List Ent} {cur last er : Int} {k : Prop} (h : Step wA w' gb gk P es cur last er k) (hb : Below w.heap.size w wA) : Step w w' gb gk P es cur last er k := by
  obtain ⟨es', cur', vo', h1, h2, h3, h4, h5⟩ := h
  exact ⟨es', cur', vo', h1, h2, (Grew.ofB hb).trans h3, h4, h5⟩
theorem act_plain {w wA w' : World} {gb gk : Nat} {P : Int} {es : List Ent} {cur last er kd b : Int} (h : Step wA w' gb gk P es cur last er True) (hb : Below w.heap.size w wA) (hk : kd ≠ 9) : ActP w gb gk P es cur last kd b (.returned (.int .i64 er)) w' := by
  refine ⟨er, rfl, ?_⟩
  rw [if_neg (fun q => hk q.2)]
  exact (h.ahead hb).weak (fun _ => trivial)

set_option maxHeartbeats 2000000 in
set_option maxRecDepth 100000 in
theorem act_1 (gb gk : Nat) (P : Int) (es : List Ent) (cur last : Int) (vo : Option Nat) (w : World) (h : One w gb gk P es cur last vo) (hp : 4 ≤ P ∧ P ≤ 256) (b m hd : Int) (hm : Wf m) :
    Calls Try.prog 22 #[.pointer (some ⟨gb, 0, none⟩), .agg #[.int .i64 1, .int .i64 b, .int .i64 m, .int .u64 hd]] w fun e w' => ActP w gb gk P es cur last 1 b e w' := by
  have HA : Hid (Below w.heap.size w (w.alloc (.cells #[.int .i64 1, .int .i64 b, .int .i64 m, .int .u64 hd] 50))) := ba (Below.refl _ _)
  have HTA : Hid (One (w.alloc (.cells #[.int .i64 1, .int .i64 b, .int .i64 m, .int .u64 hd] 50)) gb gk P es cur last vo) := h.below HA.out
  clear h
  go_enter Try.func22, Try.ntmps22
  go_wp2_with (first | (go_at_call 10; refine Calls.mono (one_pick HTA.out) ?_; rintro e t1 ⟨a1, c1, rfl, st⟩; have ST : Hid _ := st; clear st))
  go_ret
  exact act_plain ST.out HA.out (by decide)

set_option maxHeartbeats 2000000 in
set_option maxRecDepth 100000 in
theorem act_2 (gb gk : Nat) (P : Int) (es : List Ent) (cur last : Int) (vo : Option Nat) (w : World) (h : One w gb gk P es cur last vo) (hp : 4 ≤ P ∧ P ≤ 256) (b m hd : Int) (hm : Wf m) :
    Calls Try.prog 22 #[.pointer (some ⟨gb, 0, none⟩), .agg #[.int .i64 2, .int .i64 b, .int .i64 m, .int .u64 hd]] w fun e w' => ActP w gb gk P es cur last 2 b e w' := by
  have HA : Hid (Below w.heap.size w (w.alloc (.cells #[.int .i64 2, .int .i64 b, .int .i64 m, .int .u64 hd] 50))) := ba (Below.refl _ _)
  have HTA : Hid (One (w.alloc (.cells #[.int .i64 2, .int .i64 b, .int .i64 m, .int .u64 hd] 50)) gb gk P es cur last vo) := h.below HA.out
  clear h
  go_enter Try.func22, Try.ntmps22
  go_wp2_with (first | (go_at_call 42; refine Calls.mono (one_start HTA.out hp b hd) ?_; rintro e t1 ⟨er, rfl, st⟩; have ST : Hid _ := st; clear st))
  go_ret
  exact act_plain ST.out HA.out (by decide)

set_option maxHeartbeats 2000000 in
set_option maxRecDepth 100000 in
theorem act_3 (gb gk : Nat) (P : Int) (es : List Ent) (cur last : Int) (vo : Option Nat) (w : World) (h : One w gb gk P es cur last vo) (hp : 4 ≤ P ∧ P ≤ 256) (b m hd : Int) (hm : Wf m) :
    Calls Try.prog 22 #[.pointer (some ⟨gb, 0, none⟩), .agg #[.int .i64 3, .int .i64 b, .int .i64 m, .int .u64 hd]] w fun e w' => ActP w gb gk P es cur last 3 b e w' := by
  have HA : Hid (Below w.heap.size w (w.alloc (.cells #[.int .i64 3, .int .i64 b, .int .i64 m, .int .u64 hd] 50))) := ba (Below.refl _ _)
  have HTA : Hid (One (w.alloc (.cells #[.int .i64 3, .int .i64 b, .int .i64 m, .int .u64 hd] 50)) gb gk P es cur last vo) := h.below HA.out
  clear h
  go_enter Try.func22, Try.ntmps22
  go_wp2_with (first | (go_at_call 43; refine Calls.mono (one_real HTA.out) ?_; rintro e t1 ⟨er, rfl, st⟩; have ST : Hid _ := st; clear st))
  go_ret
  exact act_plain ST.out HA.out (by decide)

set_option maxHeartbeats 2000000 in
set_option maxRecDepth 100000 in
theorem act_4 (gb gk : Nat) (P : Int) (es : List Ent) (cur last : Int) (vo : Option Nat) (w : World) (h : One w gb gk P es cur last vo) (hp : 4 ≤ P ∧ P ≤ 256) (b m hd : Int) (hm : Wf m) :
    Calls Try.prog 22 #[.pointer (some ⟨gb, 0, none⟩), .agg #[.int .i64 4, .int .i64 b, .int .i64 m, .int .u64 hd]] w fun e w' => ActP w gb gk P es cur last 4 b e w' := by
  have HA : Hid (Below w.heap.size w (w.alloc (.cells #[.int .i64 4, .int .i64 b, .int .i64 m, .int .u64 hd] 50))) := ba (Below.refl _ _)
  have HTA : Hid (One (w.alloc (.cells #[.int .i64 4, .int .i64 b, .int .i64 m, .int .u64 hd] 50)) gb gk P es cur last vo) := h.below HA.out
  clear h
  go_enter Try.func22, Try.ntmps22
  go_wp2_with (first | (go_at_call 17; refine Calls.mono (one_live HTA.out hp b m hm) ?_; rintro e t1 ⟨er, rfl, st⟩; have ST : Hid _ := st; clear st))
  go_ret
  exact act_plain ST.out HA.out (by decide)

set_option maxHeartbeats 2000000 in
set_option maxRecDepth 100000 in
theorem act_5 (gb gk : Nat) (P : Int) (es : List Ent) (cur last : Int) (vo : Option Nat) (w : World) (h : One w gb gk P es cur last vo) (hp : 4 ≤ P ∧ P ≤ 256) (b m hd : Int) (hm : Wf m) :
    Calls Try.prog 22 #[.pointer (some ⟨gb, 0, none⟩), .agg #[.int .i64 5, .int .i64 b, .int .i64 m, .int .u64 hd]] w fun e w' => ActP w gb gk P es cur last 5 b e w' := by
  have HA : Hid (Below w.heap.size w (w.alloc (.cells #[.int .i64 5, .int .i64 b, .int .i64 m, .int .u64 hd] 50))) := ba (Below.refl _ _)
  have HTA : Hid (One (w.alloc (.cells #[.int .i64 5, .int .i64 b, .int .i64 m, .int .u64 hd] 50)) gb gk P es cur last vo) := h.below HA.out
  clear h
  go_enter Try.func22, Try.ntmps22
  go_wp2_with (first | (go_at_call 44; refine Calls.mono (one_shut HTA.out hp) ?_; rintro e t1 ⟨er, rfl, st⟩; have ST : Hid _ := st; clear st))
  go_ret
  exact act_plain ST.out HA.out (by decide)

set_option maxHeartbeats 2000000 in
set_option maxRecDepth 100000 in
theorem act_6 (gb gk : Nat) (P : Int) (es : List Ent) (cur last : Int) (vo : Option Nat) (w : World) (h : One w gb gk P es cur last vo) (hp : 4 ≤ P ∧ P ≤ 256) (b m hd : Int) (hm : Wf m) :
    Calls Try.prog 22 #[.pointer (some ⟨gb, 0, none⟩), .agg #[.int .i64 6, .int .i64 b, .int .i64 m, .int .u64 hd]] w fun e w' => ActP w gb gk P es cur last 6 b e w' := by
  have HA : Hid (Below w.heap.size w (w.alloc (.cells #[.int .i64 6, .int .i64 b, .int .i64 m, .int .u64 hd] 50))) := ba (Below.refl _ _)
  have HTA : Hid (One (w.alloc (.cells #[.int .i64 6, .int .i64 b, .int .i64 m, .int .u64 hd] 50)) gb gk P es cur last vo) := h.below HA.out
  clear h
  go_enter Try.func22, Try.ntmps22
  go_wp2_with (first | (go_at_call 45; refine Calls.mono (one_wait HTA.out) ?_; rintro e t1 ⟨er, rfl, st⟩; have ST : Hid _ := st; clear st))
  go_ret
  exact act_plain ST.out HA.out (by decide)

set_option maxHeartbeats 2000000 in
set_option maxRecDepth 100000 in
theorem act_7 (gb gk : Nat) (P : Int) (es : List Ent) (cur last : Int) (vo : Option Nat) (w : World) (h : One w gb gk P es cur last vo) (hp : 4 ≤ P ∧ P ≤ 256) (b m hd : Int) (hm : Wf m) :
    Calls Try.prog 22 #[.pointer (some ⟨gb, 0, none⟩), .agg #[.int .i64 7, .int .i64 b, .int .i64 m, .int .u64 hd]] w fun e w' => ActP w gb gk P es cur last 7 b e w' := by
  have HA : Hid (Below w.heap.size w (w.alloc (.cells #[.int .i64 7, .int .i64 b, .int .i64 m, .int .u64 hd] 50))) := ba (Below.refl _ _)
  have HTA : Hid (One (w.alloc (.cells #[.int .i64 7, .int .i64 b, .int .i64 m, .int .u64 hd] 50)) gb gk P es cur last vo) := h.below HA.out
  clear h
  go_enter Try.func22, Try.ntmps22
  go_wp2_with (first | (go_at_call 12; refine Calls.mono (one_bad HTA.out hp b) ?_; rintro e t1 ⟨er, rfl, st⟩; have ST : Hid _ := st; clear st))
  go_ret
  exact act_plain ST.out HA.out (by decide)

set_option maxHeartbeats 2000000 in
set_option maxRecDepth 100000 in
theorem act_8 (gb gk : Nat) (P : Int) (es : List Ent) (cur last : Int) (vo : Option Nat) (w : World) (h : One w gb gk P es cur last vo) (hp : 4 ≤ P ∧ P ≤ 256) (b m hd : Int) (hm : Wf m) :
    Calls Try.prog 22 #[.pointer (some ⟨gb, 0, none⟩), .agg #[.int .i64 8, .int .i64 b, .int .i64 m, .int .u64 hd]] w fun e w' => ActP w gb gk P es cur last 8 b e w' := by
  have HA : Hid (Below w.heap.size w (w.alloc (.cells #[.int .i64 8, .int .i64 b, .int .i64 m, .int .u64 hd] 50))) := ba (Below.refl _ _)
  have HTA : Hid (One (w.alloc (.cells #[.int .i64 8, .int .i64 b, .int .i64 m, .int .u64 hd] 50)) gb gk P es cur last vo) := h.below HA.out
  clear h
  go_enter Try.func22, Try.ntmps22
  go_wp2_with (first | (go_at_call 18; refine Calls.mono (one_leave HTA.out b) ?_; rintro e t1 ⟨er, rfl, st⟩; have ST : Hid _ := st; clear st))
  go_ret
  exact ⟨er, rfl, by rw [if_neg (fun q => by cases q.2)]; exact Step.weak (Step.ahead ST.out HA.out) (fun q => q rfl)⟩

set_option maxHeartbeats 2000000 in
set_option maxRecDepth 100000 in
theorem act_9 (gb gk : Nat) (P : Int) (es : List Ent) (cur last : Int) (vo : Option Nat) (w : World) (h : One w gb gk P es cur last vo) (hp : 4 ≤ P ∧ P ≤ 256) (b m hd : Int) (hm : Wf m) :
    Calls Try.prog 22 #[.pointer (some ⟨gb, 0, none⟩), .agg #[.int .i64 9, .int .i64 b, .int .i64 m, .int .u64 hd]] w fun e w' => ActP w gb gk P es cur last 9 b e w' := by
  have HA : Hid (Below w.heap.size w (w.alloc (.cells #[.int .i64 9, .int .i64 b, .int .i64 m, .int .u64 hd] 50))) := ba (Below.refl _ _)
  have HTA : Hid (One (w.alloc (.cells #[.int .i64 9, .int .i64 b, .int .i64 m, .int .u64 hd] 50)) gb gk P es cur last vo) := h.below HA.out
  clear h
  go_enter Try.func22, Try.ntmps22
  go_wp2_with (first | (go_at_call 21; refine Calls.mono (one_commit HTA.out hp b) ?_; rintro e t1 ⟨v1, er, rfl, st⟩; have ST : Hid _ := st; clear st))
  go_ret
  refine ⟨er, rfl, ?_⟩
  have e9 : (if er = 0 ∧ (9 : Int) = 9 then b else last) = if er = 0 then b else last := by simp
  rw [e9]
  exact Step.weak (Step.ahead ST.out HA.out) (fun _ => trivial)

set_option maxHeartbeats 2000000 in
set_option maxRecDepth 100000 in
theorem act_10 (gb gk : Nat) (P : Int) (es : List Ent) (cur last : Int) (vo : Option Nat) (w : World) (h : One w gb gk P es cur last vo) (hp : 4 ≤ P ∧ P ≤ 256) (b m hd : Int) (hm : Wf m) :
    Calls Try.prog 22 #[.pointer (some ⟨gb, 0, none⟩), .agg #[.int .i64 10, .int .i64 b, .int .i64 m, .int .u64 hd]] w fun e w' => ActP w gb gk P es cur last 10 b e w' := by
  have HA : Hid (Below w.heap.size w (w.alloc (.cells #[.int .i64 10, .int .i64 b, .int .i64 m, .int .u64 hd] 50))) := ba (Below.refl _ _)
  have HTA : Hid (One (w.alloc (.cells #[.int .i64 10, .int .i64 b, .int .i64 m, .int .u64 hd] 50)) gb gk P es cur last vo) := h.below HA.out
  clear h
  go_enter Try.func22, Try.ntmps22
  go_wp2_with (first | (go_at_call 15; refine Calls.mono (one_clean HTA.out hp) ?_; rintro e t1 ⟨a1, h1, c1, rfl, st⟩; have ST : Hid _ := st; clear st))
  go_ret
  exact act_plain ST.out HA.out (by decide)

set_option maxHeartbeats 2000000 in
set_option maxRecDepth 100000 in
theorem act_0 (gb gk : Nat) (P : Int) (es : List Ent) (cur last : Int) (vo : Option Nat) (w : World) (h : One w gb gk P es cur last vo) (hp : 4 ≤ P ∧ P ≤ 256) (kd b m hd : Int) (hm : Wf m) (k1 : (kd == 1) = false) (k2 : (kd == 2) = false) (k3 : (kd == 3) = false) (k4 : (kd == 4) = false) (k5 : (kd == 5) = false) (k6 : (kd == 6) = false) (k7 : (kd == 7) = false) (k8 : (kd == 8) = false) (k9 : (kd == 9) = false) (k10 : (kd == 10) = false) :
    Calls Try.prog 22 #[.pointer (some ⟨gb, 0, none⟩), .agg #[.int .i64 kd, .int .i64 b, .int .i64 m, .int .u64 hd]] w fun e w' => ActP w gb gk P es cur last kd b e w' := by
  have HA : Hid (Below w.heap.size w (w.alloc (.cells #[.int .i64 kd, .int .i64 b, .int .i64 m, .int .u64 hd] 50))) := ba (Below.refl _ _)
  have HTA : Hid (One (w.alloc (.cells #[.int .i64 kd, .int .i64 b, .int .i64 m, .int .u64 hd] 50)) gb gk P es cur last vo) := h.below HA.out
  clear h
  go_enter Try.func22, Try.ntmps22
  go_wp2
  go_ret
  exact act_plain (HTA.out.same 0 True) HA.out (by simpa using k9)
theorem act_any (gb gk : Nat) (P : Int) (es : List Ent) (cur last : Int) (vo : Option Nat) (w : World) (h : One w gb gk P es cur last vo) (hp : 4 ≤ P ∧ P ≤ 256) (kd b m hd : Int) (hm : Wf m) :
    Calls Try.prog 22 #[.pointer (some ⟨gb, 0, none⟩), .agg #[.int .i64 kd, .int .i64 b, .int .i64 m, .int .u64 hd]] w fun e w' => ActP w gb gk P es cur last kd b e w' := by
  by_cases k1 : kd = 1
  · subst k1; exact act_1 gb gk P es cur last vo w h hp b m hd hm
  by_cases k2 : kd = 2
  · subst k2; exact act_2 gb gk P es cur last vo w h hp b m hd hm
  by_cases k3 : kd = 3
  · subst k3; exact act_3 gb gk P es cur last vo w h hp b m hd hm
  by_cases k4 : kd = 4
  · subst k4; exact act_4 gb gk P es cur last vo w h hp b m hd hm
  by_cases k5 : kd = 5
  · subst k5; exact act_5 gb gk P es cur last vo w h hp b m hd hm
  by_cases k6 : kd = 6
  · subst k6; exact act_6 gb gk P es cur last vo w h hp b m hd hm
  by_cases k7 : kd = 7
  · subst k7; exact act_7 gb gk P es cur last vo w h hp b m hd hm
  by_cases k8 : kd = 8
  · subst k8; exact act_8 gb gk P es cur last vo w h hp b m hd hm
  by_cases k9 : kd = 9
  · subst k9; exact act_9 gb gk P es cur last vo w h hp b m hd hm
  by_cases k10 : kd = 10
  · subst k10; exact act_10 gb gk P es cur last vo w h hp b m hd hm
  exact act_0 gb gk P es cur last vo w h hp kd b m hd hm (by simpa using k1) (by simpa using k2) (by simpa using k3) (by simpa using k4) (by simpa using k5) (by simpa using k6) (by simpa using k7) (by simpa using k8) (by simpa using k9) (by simpa using k10)
end Go.Proofs.Ytgijbpkfheillaa
