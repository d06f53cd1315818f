/-
  SEAT YtnmnhgagnfodhaaDoor: KMe, KSm.
-/
import Derived.Test.YtnmnhgagnfodhaaDoorMb
import Derived.Lib.SmallJoins
namespace Go.Proofs.YtnmnhgagnfodhaaDoor.Cp
open Go.RowKit Go.Conc
set_option linter.unusedVariables false
theorem meets_none (x : Bx) (p : Nat) (n : Int) (w : World) (h : x.at w p) (hn : x.hn = false ∨ x.fa ≠ n) :
  Calls Tryd.prog 89 #[.pointer (some ⟨p, 5, none⟩), .int .i64 n] w fun e w' => e = .returned (.agg #[.int .i64 0, .int .i64 0, .slice none 0 0, .int .u8 255]) ∧ Below w.heap.size w w' := by
 have hp := h.lt
 have c10 := h.c10
 have c6 := h.c6
 clear h
 cases hh : x.hn with
 | false =>
  rw [hh] at c10
  clear hh hn
  go_enter Tryd.func89, Tryd.ntmps89
  go_wp2
  refine bodyPost_ret (v := .agg #[.int .i64 0, .int .i64 0, .slice none 0 0, .int .u8 255]) (by simp [results, Tryd.results89, go_sem]) rfl ⟨rfl, ?_⟩
  exact ba (Below.refl _ _)
 | true =>
  rw [hh] at c10
  have hf : (x.fa != n) = true := by
   rcases hn with h1 | h1
   ·rw [hh] at h1; cases h1
   ·simpa using h1
  clear hh hn
  go_enter Tryd.func89, Tryd.ntmps89
  go_wp2
  refine bodyPost_ret (v := .agg #[.int .i64 0, .int .i64 0, .slice none 0 0, .int .u8 255]) (by simp [results, Tryd.results89, go_sem]) rfl ⟨rfl, ?_⟩
  exact ba (Below.refl _ _)
theorem meets_last (w : World) (x : Bx) (p cap s r : Nat) (n : Int) (hc : w.heap[x.c]? = some (.chan cap #[] true s r false)) (h : x.at w p) (hn : x.hn = true) (hf : x.fa = n) :
  Calls Tryd.prog 89 #[.pointer (some ⟨p, 5, none⟩), .int .i64 n] w fun e w' => e = .returned (.agg #[.int .i64 x.fa, .int .i64 x.fk, .slice x.ma x.ml x.mc, .int .u8 x.ff]) ∧ ({ x with fa := 0, fk := 0, ma := none, ml := 0, mc := 0, ff := 0, hn := false } : Bx).at w' p ∧ w'.heap[x.c]? = some (.chan cap #[] true s r false) ∧ Only (fun k => k = p ∨ k = x.c) w w' := by
 have hp := h.lt
 have hpc : p ≠ x.c := by
  intro e
  have h1 : w.heap[p]? = _ := h
  rw [e, hc] at h1
  simp at h1
 have c5 := h.c5
 have c6 := h.c6
 have c7 := h.c7
 have c8 := h.c8
 have c9 := h.c9
 have c10 := h.c10
 rw [hn] at c10
 have hfb : (x.fa != n) = false := by simpa using hf
 have HX : Hid (x.at w p) := h
 clear h hn hf
 refine calls_of_wpN Tryd.func89 rfl ?_
 simp only [Tryd.ntmps89, List.size_toArray, List.length_cons, List.length_nil, Nat.reduceAdd, Nat.reduceSub, Array.replicate_succ,
   Array.replicate_zero, List.push_toArray, List.append_toArray, List.nil_append, List.cons_append]
 refine wpN_seq_k fun K hK => wpN_of_wp ?_
 go_wp2
 refine wpN_seq_k fun K hK => wpN_of_wp ?_
 go_wp2
 refine wpN_seq_k fun K hK => wpN_of_wp ?_
 go_wp2
 refine wpN_seq_k fun K hK => wpN_region ?_
 obtain ⟨u, hu⟩ : ∃ u, u = (w.alloc (.cells #[.int .i64 0, .int .i64 0, .slice none 0 0, .int .u8 0] 68)).alloc (.cells #[.int .i64 x.fa, .int .i64 x.fk, .slice x.ma x.ml x.mc, .int .u8 x.ff] 68) := ⟨_, rfl⟩
 have hB : Below w.heap.size w u := by rw [hu]; exact ba (ba (Below.refl _ _))
 have hcu := (hB.block x.c (lt_of_block hc)).trans hc
 have hX : x.at u p := HX.out.keep (hB.block p hp)
 show SemOps _ _ _ [0, 1, 2, 3, 4, 5, 6, 7, 8, 9, 10, 11, 12, 13, 14, 15] _ _
 rw [← hu]
 have c5' := hX.c5
 refine semops_value rfl rfl rfl ?_
 refine semops_value rfl rfl rfl ?_
 refine semops_value rfl rfl rfl ?_
 refine semops_value rfl rfl rfl ?_
 refine semops_value rfl rfl (by simp [go_sem, execOp, Act.eval]; exact ⟨rfl, rfl⟩) ?_
 refine semops_value rfl rfl (by simp [go_sem, execOp, Act.eval, c5']; exact ⟨rfl, rfl⟩) ?_
 refine semops_recv_shut (c := x.c) (cap := cap) (s := s) (r := r) (tm := false) (z := .agg #[.int .i64 0, .int .i64 0, .slice none 0 0, .int .u8 0]) true rfl rfl (by simp [go_sem, execOp, Act.eval, rcase]) hcu ?_
 rw [show got true (.agg #[.int .i64 0, .int .i64 0, .slice none 0 0, .int .u8 0]) false = .tuple #[.agg #[.int .i64 0, .int .i64 0, .slice none 0 0, .int .u8 0], .bool false] from rfl]
 have hcl : x.c < w.heap.size := lt_of_block hc
 have b5 : u.heap[w.heap.size + 1]? = some (.cells #[.int .i64 x.fa, .int .i64 x.fk, .slice x.ma x.ml x.mc, .int .u8 x.ff] 68) := by rw [hu, ← alloc_size w (.cells #[.int .i64 0, .int .i64 0, .slice none 0 0, .int .u8 0] 68)]; exact alloc_new _ _
 have b4 : u.heap[w.heap.size]? = some (.cells #[.int .i64 0, .int .i64 0, .slice none 0 0, .int .u8 0] 68) := by rw [hu, alloc_old _ _ (by rw [alloc_size]; omega)]; exact alloc_new _ _
 have hus : u.heap.size = w.heap.size + 2 := by rw [hu]; simp
 clear hu
 obtain ⟨t, ht⟩ : ∃ t, t = u := ⟨_, rfl⟩
 have hT : Only (· = x.c) u t := by rw [ht]; exact Only.refl _ _
 have hct : t.heap[x.c]? = some (.chan cap #[] true s r false) := by rw [ht]; exact hcu
 rw [← ht]
 clear ht
 have hXt : x.at t p := hX.keep (hT.block p hX.lt hpc)
 have t5 := (hT.block (w.heap.size + 1) (by omega) (by omega)).trans b5
 have t4 := (hT.block w.heap.size (by omega) (by omega)).trans b4
 refine semops_drop 7 _ rfl ?_
 simp only [List.drop_succ_cons, List.drop_zero]
 have fz := hXt.fz
 have d6 := hXt.c6
 have d7 := hXt.c7
 have d8 := hXt.c8
 have d9 := hXt.c9
 have d10 := hXt.c10
 have HXT : Hid (x.at t p) := hXt
 have HT5 : Hid (t.heap[w.heap.size + 1]? = some (.cells #[.int .i64 x.fa, .int .i64 x.fk, .slice x.ma x.ml x.mc, .int .u8 x.ff] 68)) := t5
 have HT4 : Hid (t.heap[w.heap.size]? = some (.cells #[.int .i64 0, .int .i64 0, .slice none 0 0, .int .u8 0] 68)) := t4
 clear c5 c6 c7 c8 c9 c10 hX c5' b5 b4 hXt t5 t4 hcu
 go_wp2
 generalize hv : World.setCell _ ⟨p, 10, none⟩ _ = v
 have hV := HXT.out.setNext 0 0 none 0 0 0 false
 have hO := only_next t p (.int .i64 0) (.int .i64 0) (.slice none 0 0) (.int .u8 0) (.bool false)
 rw [hv] at hV hO
 have v5 := (hO.block (w.heap.size + 1) (lt_of_block HT5.out) (by omega)).trans HT5.out
 have v4 := (hO.block w.heap.size (lt_of_block HT4.out) (by omega)).trans HT4.out
 have b50 : v.cell? ⟨w.heap.size + 1, 0, none⟩ = some (.int .i64 x.fa) := by simp [World.cell?, v5]
 have b51 : v.cell? ⟨w.heap.size + 1, 1, none⟩ = some (.int .i64 x.fk) := by simp [World.cell?, v5]
 have b52 : v.cell? ⟨w.heap.size + 1, 2, none⟩ = some (.slice x.ma x.ml x.mc) := by simp [World.cell?, v5]
 have b53 : v.cell? ⟨w.heap.size + 1, 3, none⟩ = some (.int .u8 x.ff) := by simp [World.cell?, v5]
 have b40 : v.cell? ⟨w.heap.size, 0, none⟩ = some (.int .i64 0) := by simp [World.cell?, v4]
 have b41 : v.cell? ⟨w.heap.size, 1, none⟩ = some (.int .i64 0) := by simp [World.cell?, v4]
 have b42 : v.cell? ⟨w.heap.size, 2, none⟩ = some (.slice none 0 0) := by simp [World.cell?, v4]
 have b43 : v.cell? ⟨w.heap.size, 3, none⟩ = some (.int .u8 0) := by simp [World.cell?, v4]
 have f4 : ∀ j, v.frozen? ⟨w.heap.size, j, none⟩ = false := fun j => frozen_of_row v w.heap.size j _ 68 v4
 have HV := hide hV
 have HO : Hid (Only (· = p) t v) := hO
 have HT : Hid (Only (· = x.c) u t) := hT
 have hcv : v.heap[x.c]? = some (.chan cap #[] true s r false) := (hO.block x.c (lt_of_block hct) (fun e => hpc e.symm)).trans hct
 have HCV : Hid (v.heap[x.c]? = some (.chan cap #[] true s r false)) := hcv
 clear hv hV hO hT v5 v4 hct hcv fz d6 d7 d8 d9 d10
 refine wpN_of_wp ?_
 go_wp2
 have hne : x.c ≠ w.heap.size := by omega
 refine bodyPost_ret (v := .agg #[.int .i64 x.fa, .int .i64 x.fk, .slice x.ma x.ml x.mc, .int .u8 x.ff]) (by simp [results, Tryd.results89, go_sem, b40, b41, b42, b43]) rfl ⟨rfl, ?_, ?_, ?_⟩
 ·exact HV.out.keep ((heap_setCell_other _ _ _ _ (by show p ≠ w.heap.size; omega)).trans ((heap_setCell_other _ _ _ _ (by show p ≠ w.heap.size; omega)).trans ((heap_setCell_other _ _ _ _ (by show p ≠ w.heap.size; omega)).trans (heap_setCell_other _ _ _ _ (by show p ≠ w.heap.size; omega)))))
 ·exact ((heap_setCell_other _ _ _ _ (by show x.c ≠ w.heap.size; omega)).trans ((heap_setCell_other _ _ _ _ (by show x.c ≠ w.heap.size; omega)).trans ((heap_setCell_other _ _ _ _ (by show x.c ≠ w.heap.size; omega)).trans (heap_setCell_other _ _ _ _ (by show x.c ≠ w.heap.size; omega))))).trans HCV.out
 ·have k1 : Only (fun k => k = p ∨ k = x.c) w v := ((Only.ofB hB).trans HT.out (fun j _ e => Or.inr e)).trans HO.out (fun j _ e => Or.inl e)
  exact (((k1.trans (Only.setCell (· = w.heap.size) _ _ _ _ rfl) (fun j hj e => absurd e (by omega))).trans (Only.setCell (· = w.heap.size) _ _ _ _ rfl) (fun j hj e => absurd e (by omega))).trans (Only.setCell (· = w.heap.size) _ _ _ _ rfl) (fun j hj e => absurd e (by omega))).trans (Only.setCell (· = w.heap.size) _ _ _ _ rfl) (fun j hj e => absurd e (by omega))
theorem meets_more (w : World) (x : Bx) (p cap s r : Nat) (n : Int) (a2 k2 f2 : Int) (m2 : Option Addr) (l2 n2 : Nat) (bs : List Value) (hc : w.heap[x.c]? = some (.chan cap (Value.agg #[.int .i64 a2, .int .i64 k2, .slice m2 l2 n2, .int .u8 f2] :: bs).toArray true s r false)) (h : x.at w p) (hn : x.hn = true) (hf : x.fa = n) :
  Calls Tryd.prog 89 #[.pointer (some ⟨p, 5, none⟩), .int .i64 n] w fun e w' => e = .returned (.agg #[.int .i64 x.fa, .int .i64 x.fk, .slice x.ma x.ml x.mc, .int .u8 x.ff]) ∧ ({ x with fa := a2, fk := k2, ma := m2, ml := l2, mc := n2, ff := f2, hn := true } : Bx).at w' p ∧ w'.heap[x.c]? = some (.chan cap bs.toArray true s (r + 1) false) ∧ Only (fun k => k = p ∨ k = x.c) w w' := by
 have hp := h.lt
 have hpc : p ≠ x.c := by
  intro e
  have h1 : w.heap[p]? = _ := h
  rw [e, hc] at h1
  simp at h1
 have c5 := h.c5
 have c6 := h.c6
 have c7 := h.c7
 have c8 := h.c8
 have c9 := h.c9
 have c10 := h.c10
 rw [hn] at c10
 have hfb : (x.fa != n) = false := by simpa using hf
 have HX : Hid (x.at w p) := h
 clear h hn hf
 refine calls_of_wpN Tryd.func89 rfl ?_
 simp only [Tryd.ntmps89, List.size_toArray, List.length_cons, List.length_nil, Nat.reduceAdd, Nat.reduceSub, Array.replicate_succ,
   Array.replicate_zero, List.push_toArray, List.append_toArray, List.nil_append, List.cons_append]
 refine wpN_seq_k fun K hK => wpN_of_wp ?_
 go_wp2
 refine wpN_seq_k fun K hK => wpN_of_wp ?_
 go_wp2
 refine wpN_seq_k fun K hK => wpN_of_wp ?_
 go_wp2
 refine wpN_seq_k fun K hK => wpN_region ?_
 obtain ⟨u, hu⟩ : ∃ u, u = (w.alloc (.cells #[.int .i64 0, .int .i64 0, .slice none 0 0, .int .u8 0] 68)).alloc (.cells #[.int .i64 x.fa, .int .i64 x.fk, .slice x.ma x.ml x.mc, .int .u8 x.ff] 68) := ⟨_, rfl⟩
 have hB : Below w.heap.size w u := by rw [hu]; exact ba (ba (Below.refl _ _))
 have hcu := (hB.block x.c (lt_of_block hc)).trans hc
 have hX : x.at u p := HX.out.keep (hB.block p hp)
 show SemOps _ _ _ [0, 1, 2, 3, 4, 5, 6, 7, 8, 9, 10, 11, 12, 13, 14, 15] _ _
 rw [← hu]
 have c5' := hX.c5
 refine semops_value rfl rfl rfl ?_
 refine semops_value rfl rfl rfl ?_
 refine semops_value rfl rfl rfl ?_
 refine semops_value rfl rfl rfl ?_
 refine semops_value rfl rfl (by simp [go_sem, execOp, Act.eval]; exact ⟨rfl, rfl⟩) ?_
 refine semops_value rfl rfl (by simp [go_sem, execOp, Act.eval, c5']; exact ⟨rfl, rfl⟩) ?_
 refine semops_recv_buf (c := x.c) (cap := cap) (s := s) (r := r) (tm := false) (closed := true) (buf := (Value.agg #[.int .i64 a2, .int .i64 k2, .slice m2 l2 n2, .int .u8 f2] :: bs).toArray) (z := .agg #[.int .i64 0, .int .i64 0, .slice none 0 0, .int .u8 0]) true rfl rfl (by simp [go_sem, execOp, Act.eval, rcase]) hcu (by simp) ?_
 rw [show got true (Array.getD (Value.agg #[.int .i64 a2, .int .i64 k2, .slice m2 l2 n2, .int .u8 f2] :: bs).toArray 0 undef) true = .tuple #[.agg #[.int .i64 a2, .int .i64 k2, .slice m2 l2 n2, .int .u8 f2], .bool true] from rfl]
 have hcl : x.c < w.heap.size := lt_of_block hc
 have b5 : u.heap[w.heap.size + 1]? = some (.cells #[.int .i64 x.fa, .int .i64 x.fk, .slice x.ma x.ml x.mc, .int .u8 x.ff] 68) := by rw [hu, ← alloc_size w (.cells #[.int .i64 0, .int .i64 0, .slice none 0 0, .int .u8 0] 68)]; exact alloc_new _ _
 have b4 : u.heap[w.heap.size]? = some (.cells #[.int .i64 0, .int .i64 0, .slice none 0 0, .int .u8 0] 68) := by rw [hu, alloc_old _ _ (by rw [alloc_size]; omega)]; exact alloc_new _ _
 have hus : u.heap.size = w.heap.size + 2 := by rw [hu]; simp
 clear hu
 obtain ⟨t, ht⟩ : ∃ t, t = u.setChan x.c cap ((Value.agg #[.int .i64 a2, .int .i64 k2, .slice m2 l2 n2, .int .u8 f2] :: bs).toArray.extract 1 (Value.agg #[.int .i64 a2, .int .i64 k2, .slice m2 l2 n2, .int .u8 f2] :: bs).toArray.size) true s (r + 1) false := ⟨_, rfl⟩
 have hT : Only (· = x.c) u t := by
  rw [ht]
  exact ⟨rfl, rfl, rfl, by simp [World.setChan], fun k hk hf => by simp only [World.setChan]; rw [Array.getElem?_setIfInBounds_ne (fun e => hf e.symm)]⟩
 have hct : t.heap[x.c]? = some (.chan cap bs.toArray true s (r + 1) false) := by
  rw [ht, heap_setChan _ _ _ _ _ _ _ _ (lt_of_block hcu)]
  simp
 rw [← ht]
 clear ht
 have hXt : x.at t p := hX.keep (hT.block p hX.lt hpc)
 have t5 := (hT.block (w.heap.size + 1) (by omega) (by omega)).trans b5
 have t4 := (hT.block w.heap.size (by omega) (by omega)).trans b4
 refine semops_drop 7 _ rfl ?_
 simp only [List.drop_succ_cons, List.drop_zero]
 have fz := hXt.fz
 have d6 := hXt.c6
 have d7 := hXt.c7
 have d8 := hXt.c8
 have d9 := hXt.c9
 have d10 := hXt.c10
 have HXT : Hid (x.at t p) := hXt
 have HT5 : Hid (t.heap[w.heap.size + 1]? = some (.cells #[.int .i64 x.fa, .int .i64 x.fk, .slice x.ma x.ml x.mc, .int .u8 x.ff] 68)) := t5
 have HT4 : Hid (t.heap[w.heap.size]? = some (.cells #[.int .i64 0, .int .i64 0, .slice none 0 0, .int .u8 0] 68)) := t4
 clear c5 c6 c7 c8 c9 c10 hX c5' b5 b4 hXt t5 t4 hcu
 go_wp2
 generalize hv : World.setCell _ ⟨p, 10, none⟩ _ = v
 have hV := HXT.out.setNext a2 k2 m2 l2 n2 f2 true
 have hO := only_next t p (.int .i64 a2) (.int .i64 k2) (.slice m2 l2 n2) (.int .u8 f2) (.bool true)
 rw [hv] at hV hO
 have v5 := (hO.block (w.heap.size + 1) (lt_of_block HT5.out) (by omega)).trans HT5.out
 have v4 := (hO.block w.heap.size (lt_of_block HT4.out) (by omega)).trans HT4.out
 have b50 : v.cell? ⟨w.heap.size + 1, 0, none⟩ = some (.int .i64 x.fa) := by simp [World.cell?, v5]
 have b51 : v.cell? ⟨w.heap.size + 1, 1, none⟩ = some (.int .i64 x.fk) := by simp [World.cell?, v5]
 have b52 : v.cell? ⟨w.heap.size + 1, 2, none⟩ = some (.slice x.ma x.ml x.mc) := by simp [World.cell?, v5]
 have b53 : v.cell? ⟨w.heap.size + 1, 3, none⟩ = some (.int .u8 x.ff) := by simp [World.cell?, v5]
 have b40 : v.cell? ⟨w.heap.size, 0, none⟩ = some (.int .i64 0) := by simp [World.cell?, v4]
 have b41 : v.cell? ⟨w.heap.size, 1, none⟩ = some (.int .i64 0) := by simp [World.cell?, v4]
 have b42 : v.cell? ⟨w.heap.size, 2, none⟩ = some (.slice none 0 0) := by simp [World.cell?, v4]
 have b43 : v.cell? ⟨w.heap.size, 3, none⟩ = some (.int .u8 0) := by simp [World.cell?, v4]
 have f4 : ∀ j, v.frozen? ⟨w.heap.size, j, none⟩ = false := fun j => frozen_of_row v w.heap.size j _ 68 v4
 have HV := hide hV
 have HO : Hid (Only (· = p) t v) := hO
 have HT : Hid (Only (· = x.c) u t) := hT
 have hcv : v.heap[x.c]? = some (.chan cap bs.toArray true s (r + 1) false) := (hO.block x.c (lt_of_block hct) (fun e => hpc e.symm)).trans hct
 have HCV : Hid (v.heap[x.c]? = some (.chan cap bs.toArray true s (r + 1) false)) := hcv
 clear hv hV hO hT v5 v4 hct hcv fz d6 d7 d8 d9 d10
 refine wpN_of_wp ?_
 go_wp2
 have hne : x.c ≠ w.heap.size := by omega
 refine bodyPost_ret (v := .agg #[.int .i64 x.fa, .int .i64 x.fk, .slice x.ma x.ml x.mc, .int .u8 x.ff]) (by simp [results, Tryd.results89, go_sem, b40, b41, b42, b43]) rfl ⟨rfl, ?_, ?_, ?_⟩
 ·exact HV.out.keep ((heap_setCell_other _ _ _ _ (by show p ≠ w.heap.size; omega)).trans ((heap_setCell_other _ _ _ _ (by show p ≠ w.heap.size; omega)).trans ((heap_setCell_other _ _ _ _ (by show p ≠ w.heap.size; omega)).trans (heap_setCell_other _ _ _ _ (by show p ≠ w.heap.size; omega)))))
 ·exact ((heap_setCell_other _ _ _ _ (by show x.c ≠ w.heap.size; omega)).trans ((heap_setCell_other _ _ _ _ (by show x.c ≠ w.heap.size; omega)).trans ((heap_setCell_other _ _ _ _ (by show x.c ≠ w.heap.size; omega)).trans (heap_setCell_other _ _ _ _ (by show x.c ≠ w.heap.size; omega))))).trans HCV.out
 ·have k1 : Only (fun k => k = p ∨ k = x.c) w v := ((Only.ofB hB).trans HT.out (fun j _ e => Or.inr e)).trans HO.out (fun j _ e => Or.inl e)
  exact (((k1.trans (Only.setCell (· = w.heap.size) _ _ _ _ rfl) (fun j hj e => absurd e (by omega))).trans (Only.setCell (· = w.heap.size) _ _ _ _ rfl) (fun j hj e => absurd e (by omega))).trans (Only.setCell (· = w.heap.size) _ _ _ _ rfl) (fun j hj e => absurd e (by omega))).trans (Only.setCell (· = w.heap.size) _ _ _ _ rfl) (fun j hj e => absurd e (by omega))
end Go.Proofs.YtnmnhgagnfodhaaDoor.Cp
namespace Go.Proofs.YtnmnhgagnfodhaaDoor.Cp
open Go.RowKit Go.Conc
set_option linter.unusedVariables false
def Fits (b p s : Int) : Bool := decide (8 ≤ b ∧ b ≤ 4096 ∧ 4 ≤ p ∧ p ≤ 256 ∧ 1 ≤ s ∧ s ≤ 8 ∧ b * p ≤ 65536)
theorem ways (b p s : Int) : b < 8 ∨ (8 ≤ b ∧ 4096 < b) ∨ (8 ≤ b ∧ b ≤ 4096 ∧ p < 4) ∨ (8 ≤ b ∧ b ≤ 4096 ∧ 4 ≤ p ∧ 256 < p) ∨ (8 ≤ b ∧ b ≤ 4096 ∧ 4 ≤ p ∧ p ≤ 256 ∧ s < 1) ∨ (8 ≤ b ∧ b ≤ 4096 ∧ 4 ≤ p ∧ p ≤ 256 ∧ 1 ≤ s ∧ 8 < s) ∨
  (8 ≤ b ∧ b ≤ 4096 ∧ 4 ≤ p ∧ p ≤ 256 ∧ 1 ≤ s ∧ s ≤ 8 ∧ 0 ≤ b * p ∧ b * p ≤ 1048576) := by
 by_cases h : 8 ≤ b ∧ b ≤ 4096 ∧ 4 ≤ p ∧ p ≤ 256
 ·have h1 : 0 ≤ b * p := Int.mul_nonneg (by omega) (by omega)
  have h2 : b * p ≤ 4096 * 256 := Int.mul_le_mul (by omega) (by omega) (by omega) (by omega)
  omega
 ·omega
set_option maxHeartbeats 1000000 in
theorem mayBe_any (b p s : Int) (w : World) : Calls Tryd.prog 19 #[.agg #[.int .i64 b, .int .i64 p, .int .i64 s]] w fun e w' => e = .returned (.bool (Fits b p s)) ∧ Below w.heap.size w w' := by
 rcases ways b p s with h | ⟨h1, h⟩ | ⟨h1, h2, h⟩ | ⟨h1, h2, h3, h⟩ | ⟨h1, h2, h3, h4, h⟩ | ⟨h1, h2, h3, h4, h5, h⟩ | ⟨h1, h2, h3, h4, h5, h6, h7, h8⟩
 all_goals
  go_enter Tryd.func19, Tryd.ntmps19
  go_wp2
  go_ret
  exact ⟨ret_bool (by first | exact (decide_eq_true (by omega)).symm | exact (decide_eq_false (by omega)).symm | (unfold Fits; rw [decide_eq_decide]; omega)), (Below.refl _ _).alloc (Nat.le_refl _) _⟩
theorem data_any (b p s : Int) (w : World) (h0 : 1 ≤ s) (h1 : s ≤ 8) : Calls Tryd.prog 48 #[.agg #[.int .i64 b, .int .i64 p, .int .i64 s]] w fun e w' => e = .returned (.int .i64 (256 * s)) ∧ Below w.heap.size w w' := by
 go_enter Tryd.func48, Tryd.ntmps48
 go_wp2
 go_ret
 exact ⟨rfl, (Below.refl _ _).alloc (Nat.le_refl _) _⟩
theorem spareB_any (b p s : Int) (w : World) (h0 : 1 ≤ s) (h1 : s ≤ 8) : Calls Tryd.prog 49 #[.agg #[.int .i64 b, .int .i64 p, .int .i64 s]] w fun e w' => e = .returned (.int .i64 (54 + 3 * s)) ∧ Below w.heap.size w w' := by
 go_enter Tryd.func49, Tryd.ntmps49
 go_wp2
 go_ret
 exact ⟨rfl, (Below.refl _ _).alloc (Nat.le_refl _) _⟩
theorem box3 {w u : World} {b p s : Int} (h : Below (w.alloc (.cells #[.int .i64 b, .int .i64 p, .int .i64 s] 30)).heap.size (w.alloc (.cells #[.int .i64 b, .int .i64 p, .int .i64 s] 30)) u) :
  u.cell? ⟨w.heap.size, 0, none⟩ = some (.int .i64 b) ∧ u.cell? ⟨w.heap.size, 1, none⟩ = some (.int .i64 p) ∧ u.cell? ⟨w.heap.size, 2, none⟩ = some (.int .i64 s) := by
 refine ⟨?_, ?_, ?_⟩ <;> (rw [h.cell (by simp)]; simp)
theorem grown_of {w w' : World} (h : Below w.heap.size w w') (row : Option Nat) : w.grownBy w' row := ⟨h.os, h.tape, h.output, h.size, fun k hk _ => h.block k hk⟩
theorem below_of {w w' : World} (h : w.grownBy w' none) : Below w.heap.size w w' := ⟨h.os, h.tape, h.output, h.size, fun k hk => h.block k hk (by simp)⟩
theorem drew_grown (w : World) (r : Option Nat) : w.grownBy w.drew r := ⟨rfl, rfl, rfl, Nat.le_refl _, fun _ _ _ => rfl⟩
theorem below_alloc (w : World) (b) : Below w.heap.size w (w.alloc b) := (Below.refl _ _).alloc (Nat.le_refl _) _
theorem held3 {w x : World} {b p s : Int} (q : (w.alloc (.cells #[.int .i64 b, .int .i64 p, .int .i64 s] 30)).grownBy x none) :
  (fun x : World => (w.alloc (.cells #[.int .i64 b, .int .i64 p, .int .i64 s] 30)).grownBy x none ∧ x.cell? ⟨w.heap.size, 0, none⟩ = some (.int .i64 b) ∧ x.cell? ⟨w.heap.size, 1, none⟩ = some (.int .i64 p) ∧ x.cell? ⟨w.heap.size, 2, none⟩ = some (.int .i64 s)) x := ⟨q, box3 (below_of q)⟩
def pgB (s : Nat) : Nat := 256 * s + (54 + 3 * s)
theorem pgB_le {s : Nat} (h : s ≤ 8) : pgB s ≤ 2126 := by unfold pgB; omega
theorem pageB_any (b p : Int) (s : Nat) (w : World) (h0 : 1 ≤ s) (h1 : s ≤ 8) : Calls Tryd.prog 22 #[.agg #[.int .i64 b, .int .i64 p, .int .i64 s]] w fun e w' => e = .returned (.int .i64 (pgB s : Nat)) ∧ Below w.heap.size w w' := by
 have g0 : (1 : Int) ≤ s := by omega
 have g1 : (s : Int) ≤ 8 := by omega
 have he : ((pgB s : Nat) : Int) = 256 * (s : Int) + (54 + 3 * (s : Int)) := by unfold pgB; omega
 rw [he]
 clear he h0 h1
 go_enter Tryd.func22, Tryd.ntmps22
 go_wp2
 go_region_held3 (fun x => (w.alloc (.cells #[.int .i64 b, .int .i64 p, .int .i64 s] 30)).grownBy x none ∧ x.cell? ⟨w.heap.size, 0, none⟩ = some (.int .i64 b) ∧ x.cell? ⟨w.heap.size, 1, none⟩ = some (.int .i64 p) ∧ x.cell? ⟨w.heap.size, 2, none⟩ = some (.int .i64 s))
  ((first | exact held3 (grownBy_trans (grownBy_trans (drew_grown _ none) (grown_of b1 none)) (grown_of b2 none)) | exact held3 (grownBy_trans (grownBy_trans (drew_grown _ none) (grown_of b2 none)) (grown_of b1 none)) | exact held3 (grownBy_trans (drew_grown _ none) (grown_of b1 none)) | exact held3 (grownBy_trans (drew_grown _ none) (grown_of b2 none)) | exact held3 (drew_grown _ _)))
  ((first | (go_at_call 48; refine (data_any _ _ _ _ g0 g1).mono ?_; rintro e u1 ⟨rfl, b1⟩) | (go_at_call 49; refine (spareB_any _ _ _ _ g0 g1).mono ?_; rintro e u2 ⟨rfl, b2⟩)))
 all_goals go_wp2
 all_goals go_ret
 all_goals exact ⟨ret_int (by simp only [IntKind.wrap_i64]; omega), below_trans (below_alloc w _) (below_of (by first | exact grownBy_trans (grownBy_trans (drew_grown _ none) (grown_of b1 none)) (grown_of b2 none) | exact grownBy_trans (grownBy_trans (drew_grown _ none) (grown_of b2 none)) (grown_of b1 none)))⟩
section
variable {x : Bx} {w : World} {p : Nat}
def hasB (n : Nat) (i : Int) : Bool := decide (0 ≤ i ∧ i < n)
theorem hasBlock_any (h : x.at w p) (i : Int) (B : Nat) (hB : x.B = B) : Calls Tryd.prog 73 #[.pointer (some ⟨p, 0, none⟩), .int .i64 i] w fun e w' => e = .returned (.bool (hasB B i)) ∧ w' = w := by
 have c := h.c0
 rw [hB] at c
 clear h hB
 by_cases h0 : 0 ≤ i
 ·by_cases h1 : i < (B : Int)
  ·rw [show hasB B i = true from decide_eq_true ⟨h0, h1⟩]
   go_enter Tryd.func73, Tryd.ntmps73
   go_wp2
   go_ret
   exact ⟨rfl, rfl⟩
  ·rw [show hasB B i = false from decide_eq_false (by omega)]
   go_enter Tryd.func73, Tryd.ntmps73
   go_wp2
   go_ret
   exact ⟨rfl, rfl⟩
 ·rw [show hasB B i = false from decide_eq_false (by omega)]
  go_enter Tryd.func73, Tryd.ntmps73
  go_wp2
  go_ret
  exact ⟨rfl, rfl⟩
theorem end_zero (h : x.at w p) (a k : Int) (m : Option Addr) (l n : Nat) (f : Int) (h1 : k ≠ 1) (h2 : k ≠ 2) : Calls Tryd.prog 77 #[.pointer (some ⟨p, 0, none⟩), .agg #[.int .i64 a, .int .i64 k, .slice m l n, .int .u8 f]] w fun e w' => e = .returned (.int .i64 0) ∧ Below w.heap.size w w' := by
 have b1 : (k == 1) = false := by simpa using h1
 have b2 : (k == 2) = false := by simpa using h2
 clear h h1 h2
 go_enter Tryd.func77, Tryd.ntmps77
 go_wp2
 go_ret
 exact ⟨rfl, ba (Below.refl _ _)⟩
theorem end_one (h : x.at w p) (a : Int) (m : Option Addr) (l n : Nat) (f : Int) : Calls Tryd.prog 77 #[.pointer (some ⟨p, 0, none⟩), .agg #[.int .i64 a, .int .i64 1, .slice m l n, .int .u8 f]] w fun e w' => e = .returned (.int .i64 44) ∧ Below w.heap.size w w' := by
 clear h
 go_enter Tryd.func77, Tryd.ntmps77
 go_wp2
 go_ret
 exact ⟨rfl, ba (Below.refl _ _)⟩
theorem end_two (h : x.at w p) (a : Int) (m : Option Addr) (l n : Nat) (f : Int) : Calls Tryd.prog 77 #[.pointer (some ⟨p, 0, none⟩), .agg #[.int .i64 a, .int .i64 2, .slice m l n, .int .u8 f]] w fun e w' => e = .returned (.int .i64 45) ∧ ({ x with dark := true } : Bx).at w' p ∧ Only (· = p) w w' := by
 have hp := h.lt
 have hne : p ≠ w.heap.size := by omega
 have HX := hide h
 have c := h.c11
 have fz := h.fz 11
 clear h
 go_enter Tryd.func77, Tryd.ntmps77
 go_wp2
 go_ret
 exact ⟨rfl, (HX.out.setDark true).keep (alloc_old _ _ (HX.out.setDark true).lt), (Only.setCell (· = p) _ p 11 _ rfl).trans (Only.ofB (below_alloc _ _)) (fun _ _ h => h)⟩
end
def unitN (s : Nat) (bit : Nat) : Nat := if bit / 8 < 256 * s then bit / 8 / 256 else if bit / 8 < 256 * s + 54 then s else (bit / 8 - (256 * s + 54)) / 3
theorem unitOf_any (b p : Int) (s bit : Nat) (w : World) (h0 : 1 ≤ s) (h1 : s ≤ 8) (hb : bit < 8 * pgB s) : Calls Tryd.prog 56 #[.agg #[.int .i64 b, .int .i64 p, .int .i64 s], .int .i64 bit] w fun e w' => e = .returned (.int .i64 (unitN s bit : Nat)) ∧ Below w.heap.size w w' := by
 have g0 : (1 : Int) ≤ s := by omega
 have g1 : (s : Int) ≤ 8 := by omega
 have hb0 := below_alloc w (.cells #[.int .i64 b, .int .i64 p, .int .i64 s] 30)
 have HB0 := hide hb0
 have hbb : (bit : Int) ≤ 20000 := by unfold pgB at hb; omega
 clear hb0 h0 h1
 have hq : (bit : Int).tdiv 8 = ((bit / 8 : Nat) : Int) := rfl
 obtain ⟨t, ht⟩ : ∃ t, bit / 8 = t := ⟨_, rfl⟩
 have htb : t ≤ 2500 := by omega
 have HT := hide ht
 rw [ht] at hq
 by_cases c1 : t < 256 * s
 ·have d1 : decide ((t : Int) < 256 * (s : Int)) = true := decide_eq_true (by omega)
  have hu : ((unitN s bit : Nat) : Int) = (t : Int).tdiv 256 := by unfold unitN; rw [HT.out, if_pos c1]; rfl
  rw [hu]
  clear hu ht
  go_enter Tryd.func56, Tryd.ntmps56
  go_wp2_with (first | (go_at_call 48; refine (data_any _ _ _ _ g0 g1).mono ?_; rintro e u1 ⟨rfl, b1⟩; have B1 := hide b1; clear b1))
  go_ret
  exact ⟨rfl, below_trans HB0.out B1.out⟩
 ·have d1 : decide ((t : Int) < 256 * (s : Int)) = false := decide_eq_false (by omega)
  by_cases c2 : t < 256 * s + 54
  ·have d2 : decide ((t : Int) < 256 * (s : Int) + 54) = true := decide_eq_true (by omega)
   have hu : unitN s bit = s := by unfold unitN; rw [HT.out, if_neg c1, if_pos c2]
   rw [hu]
   clear hu ht
   go_enter Tryd.func56, Tryd.ntmps56
   go_wp2_with (first | (go_at_call 48; refine (data_any _ _ _ _ g0 g1).mono ?_; rintro e u1 ⟨rfl, b1⟩; obtain ⟨x0, x1, x2⟩ := box3 b1; have B1 := hide b1; clear b1))
   go_ret
   exact ⟨rfl, below_trans HB0.out B1.out⟩
  ·have d2 : decide ((t : Int) < 256 * (s : Int) + 54) = false := decide_eq_false (by omega)
   have hu : ((unitN s bit : Nat) : Int) = ((t : Int) - (256 * (s : Int) + 54)) / 3 := by unfold unitN; rw [HT.out, if_neg c1, if_neg c2]; omega
   rw [hu]
   clear hu ht
   go_enter Tryd.func56, Tryd.ntmps56
   go_wp2_with (first | (go_at_call 48; refine (data_any _ _ _ _ g0 g1).mono ?_; rintro e u1 ⟨rfl, b1⟩; obtain ⟨x0, x1, x2⟩ := box3 b1; have B1 := hide b1; clear b1))
   go_ret
   exact ⟨ret_int (by first | rfl | omega), below_trans HB0.out B1.out⟩
end Go.Proofs.YtnmnhgagnfodhaaDoor.Cp
