/-
  SEAT Ytadlkikjfonkgaa: Vm.
-/
import Derived.Test.YtadlkikjfonkgaaQbg
import Derived.Test.YtadlkikjfonkgaaQbs
import Derived.Test.YtadlkikjfonkgaaQbc
import Derived.Test.YtadlkikjfonkgaaQbj
namespace Go.Proofs.Ytadlkikjfonkgaa
open Go.RowKit Go.Conc
set_option linter.unusedVariables false
set_option maxRecDepth 100000
set_option maxHeartbeats 4000000
variable {w0 u U : World} {k m cn mn q g1 g2 : Nat} {C : Ch} {B P S : Int} {zs : List Int} {ms : List Bool}
structure Lk1 (w0 u : World) (b : Nat) (C : Ch) (fs : List Fc) (k m : Nat) : Prop where
 ex : ∃ P G, BothAt w0 u b P C fs ∧ Bk u w0.heap.size k G m ∧ ∀ j, P j → ¬ G j
theorem Lk1.old {b : Nat} {fs : List Fc} (h : Lk1 w0 u b C fs k m) : Below w0.heap.size w0 u := by
 obtain ⟨P, G, h1, _⟩ := h.ex
 exact h1.old
theorem Lk1.of {u' : World} {b : Nat} {fs : List Fc} {F G : Nat → Prop} (h : PlV w0 u u' b F C fs w0.heap.size k G m) : Lk1 w0 u' b C fs k m := by
 obtain ⟨⟨F', G', h1, h2, _, _, h5⟩, _⟩ := h
 exact ⟨F', G', h1, h2, h5⟩
theorem newLk1 {b : Nat} {fs : List Fc} (h : ∃ P, BothAt w0 u b P C fs) : Lk1 w0 (u.alloc (.cells #[.slice none 0 0, .slice none 0 0, .slice none 0 0] 76)) b C fs u.heap.size 0 := by
 obtain ⟨P, h1⟩ := h
 have hb := below_alloc u (.cells #[.slice none 0 0, .slice none 0 0, .slice none 0 0] 76)
 have e : Only (fun _ => False) u _ := Only.ofB hb
 exact ⟨P, fun j => j = u.heap.size, h1.only e (fun _ _ => id) (fun _ e => e.elim), newBk u _ h1.old.size, fun j hj e => by have h9 := (h1.lim j hj).2; omega⟩
theorem Lk1.plays {b : Nat} {fs : List Fc} (h : Lk1 w0 u b C fs k m) (n : Nat) (hL : Life C n) (hn : n ≤ 2000000000) (hfb : faultsB fs = true) (hm : m ≤ 400000000) (x : Ox) (hx : OxOk w0 x) :
  Calls Try.prog 34 #[.pointer (some ⟨b, 0, none⟩), .agg #[.int .i64 x.o.k, .int .i64 x.o.b, .int .i64 x.o.p, .int .i64 x.o.bit, .bool x.o.fit, .slice x.da x.dn x.dc, .slice x.za x.zn x.zc], .pointer (some ⟨k, 0, none⟩)] u fun e u' => e = .returned (.bool true) ∧ Lk1 w0 u' b (doesC C x.o).2 fs k (m + 1) := by
 obtain ⟨P, G, h1, h2, h3⟩ := h.ex
 exact (plays_any w0 u b P C fs n h1 hL hn hfb w0.heap.size k G m h2 hm (Nat.le_refl _) h3 x hx).mono (fun e u' hv => ⟨hv.1, Lk1.of hv.2⟩)
theorem Lk1.looks {b : Nat} {fs : List Fc} (h : Lk1 w0 u b C fs k m) (n : Nat) (hL : Life C n) (hn : n ≤ 2000000000) (hfb : faultsB fs = true) (hm : m ≤ 300000000) :
  Calls Try.prog 35 #[.pointer (some ⟨b, 0, none⟩), .pointer (some ⟨k, 0, none⟩)] u fun e u' => e = .returned (.bool true) ∧ Lk1 w0 u' b C fs k (m + 30) := by
 obtain ⟨P, G, h1, h2, h3⟩ := h.ex
 exact (looks_any w0 u b P C fs n h1 hL hn hfb k G m h2 hm h3).mono (fun e u' hv => ⟨hv.1, Lk1.of hv.2⟩)
theorem Lk1.apart {b : Nat} {fs : List Fc} (h : Lk1 w0 u b C fs k m) (hm : m ≤ 400000000) :
  Calls Try.prog 36 #[.pointer (some ⟨k, 0, none⟩)] u fun e u' => e = .returned (.bool true) ∧ ∃ P, BothAt w0 u' b P C fs := by
 obtain ⟨P, G, h1, h2, h3⟩ := h.ex
 obtain ⟨Pl, M, T, hb, l1, l2, l3, s1, s2, s3⟩ := h2
 exact (apart_any u w0.heap.size k G Pl M T hb (by omega) (by omega) (by omega) s1 s2 s3).mono (fun e u' hv => ⟨hv.1, P, h1.only hv.2 h3 (fun j hj => (hb.lim j hj).1)⟩)
theorem loadE_eq {w : World} {fs xs : List Fc} (h : Cpy w u fs xs) : LoadE B P S cn mn xs = LoadE B P S cn mn fs := by
 unfold LoadE faultsB
 rw [h.len, fmb_t (-1) h.t]
theorem loadE_zero {fs : List Fc} (h : LoadE B P S cn mn fs = 0) : Fits B P S = true ∧ faultsB fs = true := by
 unfold LoadE at h
 cases h1 : Fits B P S with
 | false => rw [if_pos h1] at h; cases h
 | true =>
  rw [if_neg (by rw [h1]; decide)] at h
  split at h
  ·cases h
  ·split at h
   ·cases h
   ·split at h
    ·cases h
    ·rename_i h2
     exact ⟨rfl, by cases h3 : faultsB fs with
      | true => rfl
      | false => exact absurd h3 h2⟩
theorem loadC_life {B P S : Nat} {q : List Ft} (hf : Fits B P S = true) : Life (loadC B P S zs ms q) 0 := ⟨loadC_ok B P S zs ms q hf, Nat.le_refl _, fun _ _ => Nat.le_refl _⟩
theorem InR.rz {v : World} {c1 c2 : Nat} (h : InR U v B P S cn mn zs ms q g1 c1 g2 c2) (hl : zs.length = cn) (hr : ∀ z ∈ zs, (0 : Int) ≤ z ∧ z ≤ 255) : Reads v (some ⟨g1, 0, none⟩) cn zs := marks_front h.o1 hl hr
theorem InR.rm {v : World} {c1 c2 : Nat} (h : InR U v B P S cn mn zs ms q g1 c1 g2 c2) (hl : ms.length = mn) : ReadsB v (some ⟨g2, 0, none⟩) mn ms := by
 have h1 := own_front h.o2 (show mn ≤ mn + 1 by omega)
 rw [List.take_left' (by rw [List.length_map, hl, Nat.mul_one])] at h1
 exact readsB_own h1
end Go.Proofs.Ytadlkikjfonkgaa
