/-
  SEAT Ytjhphkfpcpfdnaa: the script: meets.
-/
import Derived.Test.YtjhphkfpcpfdnaaFp
namespace Go.Proofs.Ytjhphkfpcpfdnaa
open Go.RowKit Go.Conc
set_option linter.unusedVariables false

theorem meets_none (x : Bx) (p : Nat) (n : Int) (w : World) (h : x.at w p) (hn : x.hn = false ∨ x.fa ≠ n) :
    Calls Try.prog 65 #[.pointer (some ⟨p, 5, none⟩), .int .i64 n] w fun e w' => e = .returned (.agg #[.int .i64 0, .int .i64 0, .slice none 0 0, .int .u8 255]) ∧ Below w.heap.size w w' := by
  have hp := h.lt
  have c10 := h.c10
  have c6 := h.c6
  clear h
  cases hh : x.hn with
  | false =>
    rw [hh] at c10
    clear hh hn
    go_enter Try.func65, Try.ntmps65
    go_wp2
    refine bodyPost_ret (v := .agg #[.int .i64 0, .int .i64 0, .slice none 0 0, .int .u8 255]) (by simp [results, Try.results65, go_sem]) rfl ⟨rfl, ?_⟩
    exact ba (Below.refl _ _)
  | true =>
    rw [hh] at c10
    have hf : (x.fa != n) = true := by
      rcases hn with h1 | h1
      · rw [hh] at h1; cases h1
      · simpa using h1
    clear hh hn
    go_enter Try.func65, Try.ntmps65
    go_wp2
    refine bodyPost_ret (v := .agg #[.int .i64 0, .int .i64 0, .slice none 0 0, .int .u8 255]) (by simp [results, Try.results65, go_sem]) rfl ⟨rfl, ?_⟩
    exact ba (Below.refl _ _)



theorem meets_last (w : World) (x : Bx) (p cap s r : Nat) (n : Int) (hc : w.heap[x.c]? = some (.chan cap #[] true s r false)) (h : x.at w p) (hn : x.hn = true) (hf : x.fa = n) :
    Calls Try.prog 65 #[.pointer (some ⟨p, 5, none⟩), .int .i64 n] w fun e w' => e = .returned (.agg #[.int .i64 x.fa, .int .i64 x.fk, .slice x.ma x.ml x.mc, .int .u8 x.ff]) ∧ ({ x with fa := 0, fk := 0, ma := none, ml := 0, mc := 0, ff := 0, hn := false } : Bx).at w' p ∧ w'.heap[x.c]? = some (.chan cap #[] true s r false) ∧ Only (fun k => k = p ∨ k = x.c) w w' := by
  have hp := h.lt
  have hpc : p ≠ x.c := by
    intro e
    have h1 : w.heap[p]? = _ := h
    rw [e, hc] at h1
    simp at h1
  have c5 := h.c5
  have c6 := h.c6
  have c7 := h.c7
  have c8 := h.c8
  have c9 := h.c9
  have c10 := h.c10
  rw [hn] at c10
  have hfb : (x.fa != n) = false := by simpa using hf
  have HX : Hid (x.at w p) := h
  clear h hn hf
  refine calls_of_wpN Try.func65 rfl ?_
  simp only [Try.ntmps65, List.size_toArray, List.length_cons, List.length_nil, Nat.reduceAdd, Nat.reduceSub, Array.replicate_succ,
     Array.replicate_zero, List.push_toArray, List.append_toArray, List.nil_append, List.cons_append]
  refine wpN_seq_k fun K hK => wpN_of_wp ?_
  go_wp2
  refine wpN_seq_k fun K hK => wpN_of_wp ?_
  go_wp2
  refine wpN_seq_k fun K hK => wpN_of_wp ?_
  go_wp2
  refine wpN_seq_k fun K hK => wpN_region ?_
  obtain ⟨u, hu⟩ : ∃ u, u = (w.alloc (.cells #[.int .i64 0, .int .i64 0, .slice none 0 0, .int .u8 0] 67)).alloc (.cells #[.int .i64 x.fa, .int .i64 x.fk, .slice x.ma x.ml x.mc, .int .u8 x.ff] 67) := ⟨_, rfl⟩
  have hB : Below w.heap.size w u := by rw [hu]; exact ba (ba (Below.refl _ _))
  have hcu := (hB.block x.c (lt_of_block hc)).trans hc
  have hX : x.at u p := HX.out.keep (hB.block p hp)
  show SemOps _ _ _ [0, 1, 2, 3, 4, 5, 6, 7, 8, 9, 10, 11, 12, 13, 14, 15] _ _
  rw [← hu]
  have c5' := hX.c5
  refine semops_value rfl rfl rfl ?_
  refine semops_value rfl rfl rfl ?_
  refine semops_value rfl rfl rfl ?_
  refine semops_value rfl rfl rfl ?_
  refine semops_value rfl rfl (by simp [go_sem, execOp, Act.eval]; exact ⟨rfl, rfl⟩) ?_
  refine semops_value rfl rfl (by simp [go_sem, execOp, Act.eval, c5']; exact ⟨rfl, rfl⟩) ?_
  refine semops_recv_shut (c := x.c) (cap := cap) (s := s) (r := r) (tm := false) (z := .agg #[.int .i64 0, .int .i64 0, .slice none 0 0, .int .u8 0]) true rfl rfl (by simp [go_sem, execOp, Act.eval, rcase]) hcu ?_
  rw [show got true (.agg #[.int .i64 0, .int .i64 0, .slice none 0 0, .int .u8 0]) false = .tuple #[.agg #[.int .i64 0, .int .i64 0, .slice none 0 0, .int .u8 0], .bool false] from rfl]
  have hcl : x.c < w.heap.size := lt_of_block hc
  have b5 : u.heap[w.heap.size + 1]? = some (.cells #[.int .i64 x.fa, .int .i64 x.fk, .slice x.ma x.ml x.mc, .int .u8 x.ff] 67) := by rw [hu, ← alloc_size w (.cells #[.int .i64 0, .int .i64 0, .slice none 0 0, .int .u8 0] 67)]; exact alloc_new _ _
  have b4 : u.heap[w.heap.size]? = some (.cells #[.int .i64 0, .int .i64 0, .slice none 0 0, .int .u8 0] 67) := by rw [hu, alloc_old _ _ (by rw [alloc_size]; omega)]; exact alloc_new _ _
  have hus : u.heap.size = w.heap.size + 2 := by rw [hu]; simp
  clear hu
  obtain ⟨t, ht⟩ : ∃ t, t = u := ⟨_, rfl⟩
  have hT : Only (· = x.c) u t := by rw [ht]; exact Only.refl _ _
  have hct : t.heap[x.c]? = some (.chan cap #[] true s r false) := by rw [ht]; exact hcu
  rw [← ht]
  clear ht
  have hXt : x.at t p := hX.keep (hT.block p hX.lt hpc)
  have t5 := (hT.block (w.heap.size + 1) (by omega) (by omega)).trans b5
  have t4 := (hT.block w.heap.size (by omega) (by omega)).trans b4
  refine semops_drop 7 _ rfl ?_
  simp only [List.drop_succ_cons, List.drop_zero]
  have fz := hXt.fz
  have d6 := hXt.c6
  have d7 := hXt.c7
  have d8 := hXt.c8
  have d9 := hXt.c9
  have d10 := hXt.c10
  have HXT : Hid (x.at t p) := hXt
  have HT5 : Hid (t.heap[w.heap.size + 1]? = some (.cells #[.int .i64 x.fa, .int .i64 x.fk, .slice x.ma x.ml x.mc, .int .u8 x.ff] 67)) := t5
  have HT4 : Hid (t.heap[w.heap.size]? = some (.cells #[.int .i64 0, .int .i64 0, .slice none 0 0, .int .u8 0] 67)) := t4
  clear c5 c6 c7 c8 c9 c10 hX c5' b5 b4 hXt t5 t4 hcu
  go_wp2
  generalize hv : World.setCell _ ⟨p, 10, none⟩ _ = v
  have hV := HXT.out.setNext 0 0 none 0 0 0 false
  have hO := only_next t p (.int .i64 0) (.int .i64 0) (.slice none 0 0) (.int .u8 0) (.bool false)
  rw [hv] at hV hO
  have v5 := (hO.block (w.heap.size + 1) (lt_of_block HT5.out) (by omega)).trans HT5.out
  have v4 := (hO.block w.heap.size (lt_of_block HT4.out) (by omega)).trans HT4.out
  have b50 : v.cell? ⟨w.heap.size + 1, 0, none⟩ = some (.int .i64 x.fa) := by simp [World.cell?, v5]
  have b51 : v.cell? ⟨w.heap.size + 1, 1, none⟩ = some (.int .i64 x.fk) := by simp [World.cell?, v5]
  have b52 : v.cell? ⟨w.heap.size + 1, 2, none⟩ = some (.slice x.ma x.ml x.mc) := by simp [World.cell?, v5]
  have b53 : v.cell? ⟨w.heap.size + 1, 3, none⟩ = some (.int .u8 x.ff) := by simp [World.cell?, v5]
  have b40 : v.cell? ⟨w.heap.size, 0, none⟩ = some (.int .i64 0) := by simp [World.cell?, v4]
  have b41 : v.cell? ⟨w.heap.size, 1, none⟩ = some (.int .i64 0) := by simp [World.cell?, v4]
  have b42 : v.cell? ⟨w.heap.size, 2, none⟩ = some (.slice none 0 0) := by simp [World.cell?, v4]
  have b43 : v.cell? ⟨w.heap.size, 3, none⟩ = some (.int .u8 0) := by simp [World.cell?, v4]
  have f4 : ∀ j, v.frozen? ⟨w.heap.size, j, none⟩ = false := fun j => frozen_of_row v w.heap.size j _ 67 v4
  have HV := hide hV
  have HO : Hid (Only (· = p) t v) := hO
  have HT : Hid (Only (· = x.c) u t) := hT
  have hcv : v.heap[x.c]? = some (.chan cap #[] true s r false) := (hO.block x.c (lt_of_block hct) (fun e => hpc e.symm)).trans hct
  have HCV : Hid (v.heap[x.c]? = some (.chan cap #[] true s r false)) := hcv
  clear hv hV hO hT v5 v4 hct hcv fz d6 d7 d8 d9 d10
  refine wpN_of_wp ?_
  go_wp2
  have hne : x.c ≠ w.heap.size := by omega
  refine bodyPost_ret (v := .agg #[.int .i64 x.fa, .int .i64 x.fk, .slice x.ma x.ml x.mc, .int .u8 x.ff]) (by simp [results, Try.results65, go_sem, b40, b41, b42, b43]) rfl ⟨rfl, ?_, ?_, ?_⟩
  · exact HV.out.keep ((heap_setCell_other _ _ _ _ (by show p ≠ w.heap.size; omega)).trans ((heap_setCell_other _ _ _ _ (by show p ≠ w.heap.size; omega)).trans ((heap_setCell_other _ _ _ _ (by show p ≠ w.heap.size; omega)).trans (heap_setCell_other _ _ _ _ (by show p ≠ w.heap.size; omega)))))
  · exact ((heap_setCell_other _ _ _ _ (by show x.c ≠ w.heap.size; omega)).trans ((heap_setCell_other _ _ _ _ (by show x.c ≠ w.heap.size; omega)).trans ((heap_setCell_other _ _ _ _ (by show x.c ≠ w.heap.size; omega)).trans (heap_setCell_other _ _ _ _ (by show x.c ≠ w.heap.size; omega))))).trans HCV.out
  · have k1 : Only (fun k => k = p ∨ k = x.c) w v := ((Only.ofB hB).trans HT.out (fun j _ e => Or.inr e)).trans HO.out (fun j _ e => Or.inl e)
    exact (((k1.trans (Only.setCell (· = w.heap.size) _ _ _ _ rfl) (fun j hj e => absurd e (by omega))).trans (Only.setCell (· = w.heap.size) _ _ _ _ rfl) (fun j hj e => absurd e (by omega))).trans (Only.setCell (· = w.heap.size) _ _ _ _ rfl) (fun j hj e => absurd e (by omega))).trans (Only.setCell (· = w.heap.size) _ _ _ _ rfl) (fun j hj e => absurd e (by omega))

theorem meets_more (w : World) (x : Bx) (p cap s r : Nat) (n : Int) (a2 k2 f2 : Int) (m2 : Option Addr) (l2 n2 : Nat) (bs : List Value) (hc : w.heap[x.c]? = some (.chan cap (Value.agg #[.int .i64 a2, .int .i64 k2, .slice m2 l2 n2, .int .u8 f2] :: bs).toArray true s r false)) (h : x.at w p) (hn : x.hn = true) (hf : x.fa = n) :
    Calls Try.prog 65 #[.pointer (some ⟨p, 5, none⟩), .int .i64 n] w fun e w' => e = .returned (.agg #[.int .i64 x.fa, .int .i64 x.fk, .slice x.ma x.ml x.mc, .int .u8 x.ff]) ∧ ({ x with fa := a2, fk := k2, ma := m2, ml := l2, mc := n2, ff := f2, hn := true } : Bx).at w' p ∧ w'.heap[x.c]? = some (.chan cap bs.toArray true s (r + 1) false) ∧ Only (fun k => k = p ∨ k = x.c) w w' := by
  have hp := h.lt
  have hpc : p ≠ x.c := by
    intro e
    have h1 : w.heap[p]? = _ := h
    rw [e, hc] at h1
    simp at h1
  have c5 := h.c5
  have c6 := h.c6
  have c7 := h.c7
  have c8 := h.c8
  have c9 := h.c9
  have c10 := h.c10
  rw [hn] at c10
  have hfb : (x.fa != n) = false := by simpa using hf
  have HX : Hid (x.at w p) := h
  clear h hn hf
  refine calls_of_wpN Try.func65 rfl ?_
  simp only [Try.ntmps65, List.size_toArray, List.length_cons, List.length_nil, Nat.reduceAdd, Nat.reduceSub, Array.replicate_succ,
     Array.replicate_zero, List.push_toArray, List.append_toArray, List.nil_append, List.cons_append]
  refine wpN_seq_k fun K hK => wpN_of_wp ?_
  go_wp2
  refine wpN_seq_k fun K hK => wpN_of_wp ?_
  go_wp2
  refine wpN_seq_k fun K hK => wpN_of_wp ?_
  go_wp2
  refine wpN_seq_k fun K hK => wpN_region ?_
  obtain ⟨u, hu⟩ : ∃ u, u = (w.alloc (.cells #[.int .i64 0, .int .i64 0, .slice none 0 0, .int .u8 0] 67)).alloc (.cells #[.int .i64 x.fa, .int .i64 x.fk, .slice x.ma x.ml x.mc, .int .u8 x.ff] 67) := ⟨_, rfl⟩
  have hB : Below w.heap.size w u := by rw [hu]; exact ba (ba (Below.refl _ _))
  have hcu := (hB.block x.c (lt_of_block hc)).trans hc
  have hX : x.at u p := HX.out.keep (hB.block p hp)
  show SemOps _ _ _ [0, 1, 2, 3, 4, 5, 6, 7, 8, 9, 10, 11, 12, 13, 14, 15] _ _
  rw [← hu]
  have c5' := hX.c5
  refine semops_value rfl rfl rfl ?_
  refine semops_value rfl rfl rfl ?_
  refine semops_value rfl rfl rfl ?_
  refine semops_value rfl rfl rfl ?_
  refine semops_value rfl rfl (by simp [go_sem, execOp, Act.eval]; exact ⟨rfl, rfl⟩) ?_
  refine semops_value rfl rfl (by simp [go_sem, execOp, Act.eval, c5']; exact ⟨rfl, rfl⟩) ?_
  refine semops_recv_buf (c := x.c) (cap := cap) (s := s) (r := r) (tm := false) (closed := true) (buf := (Value.agg #[.int .i64 a2, .int .i64 k2, .slice m2 l2 n2, .int .u8 f2] :: bs).toArray) (z := .agg #[.int .i64 0, .int .i64 0, .slice none 0 0, .int .u8 0]) true rfl rfl (by simp [go_sem, execOp, Act.eval, rcase]) hcu (by simp) ?_
  rw [show got true (Array.getD (Value.agg #[.int .i64 a2, .int .i64 k2, .slice m2 l2 n2, .int .u8 f2] :: bs).toArray 0 undef) true = .tuple #[.agg #[.int .i64 a2, .int .i64 k2, .slice m2 l2 n2, .int .u8 f2], .bool true] from rfl]
  have hcl : x.c < w.heap.size := lt_of_block hc
  have b5 : u.heap[w.heap.size + 1]? = some (.cells #[.int .i64 x.fa, .int .i64 x.fk, .slice x.ma x.ml x.mc, .int .u8 x.ff] 67) := by rw [hu, ← alloc_size w (.cells #[.int .i64 0, .int .i64 0, .slice none 0 0, .int .u8 0] 67)]; exact alloc_new _ _
  have b4 : u.heap[w.heap.size]? = some (.cells #[.int .i64 0, .int .i64 0, .slice none 0 0, .int .u8 0] 67) := by rw [hu, alloc_old _ _ (by rw [alloc_size]; omega)]; exact alloc_new _ _
  have hus : u.heap.size = w.heap.size + 2 := by rw [hu]; simp
  clear hu
  obtain ⟨t, ht⟩ : ∃ t, t = u.setChan x.c cap ((Value.agg #[.int .i64 a2, .int .i64 k2, .slice m2 l2 n2, .int .u8 f2] :: bs).toArray.extract 1 (Value.agg #[.int .i64 a2, .int .i64 k2, .slice m2 l2 n2, .int .u8 f2] :: bs).toArray.size) true s (r + 1) false := ⟨_, rfl⟩
  have hT : Only (· = x.c) u t := by
    rw [ht]
    exact ⟨rfl, rfl, rfl, by simp [World.setChan], fun k hk hf => by simp only [World.setChan]; rw [Array.getElem?_setIfInBounds_ne (fun e => hf e.symm)]⟩
  have hct : t.heap[x.c]? = some (.chan cap bs.toArray true s (r + 1) false) := by
    rw [ht, heap_setChan _ _ _ _ _ _ _ _ (lt_of_block hcu)]
    simp
  rw [← ht]
  clear ht
  have hXt : x.at t p := hX.keep (hT.block p hX.lt hpc)
  have t5 := (hT.block (w.heap.size + 1) (by omega) (by omega)).trans b5
  have t4 := (hT.block w.heap.size (by omega) (by omega)).trans b4
  refine semops_drop 7 _ rfl ?_
  simp only [List.drop_succ_cons, List.drop_zero]
  have fz := hXt.fz
  have d6 := hXt.c6
  have d7 := hXt.c7
  have d8 := hXt.c8
  have d9 := hXt.c9
  have d10 := hXt.c10
  have HXT : Hid (x.at t p) := hXt
  have HT5 : Hid (t.heap[w.heap.size + 1]? = some (.cells #[.int .i64 x.fa, .int .i64 x.fk, .slice x.ma x.ml x.mc, .int .u8 x.ff] 67)) := t5
  have HT4 : Hid (t.heap[w.heap.size]? = some (.cells #[.int .i64 0, .int .i64 0, .slice none 0 0, .int .u8 0] 67)) := t4
  clear c5 c6 c7 c8 c9 c10 hX c5' b5 b4 hXt t5 t4 hcu
  go_wp2
  generalize hv : World.setCell _ ⟨p, 10, none⟩ _ = v
  have hV := HXT.out.setNext a2 k2 m2 l2 n2 f2 true
  have hO := only_next t p (.int .i64 a2) (.int .i64 k2) (.slice m2 l2 n2) (.int .u8 f2) (.bool true)
  rw [hv] at hV hO
  have v5 := (hO.block (w.heap.size + 1) (lt_of_block HT5.out) (by omega)).trans HT5.out
  have v4 := (hO.block w.heap.size (lt_of_block HT4.out) (by omega)).trans HT4.out
  have b50 : v.cell? ⟨w.heap.size + 1, 0, none⟩ = some (.int .i64 x.fa) := by simp [World.cell?, v5]
  have b51 : v.cell? ⟨w.heap.size + 1, 1, none⟩ = some (.int .i64 x.fk) := by simp [World.cell?, v5]
  have b52 : v.cell? ⟨w.heap.size + 1, 2, none⟩ = some (.slice x.ma x.ml x.mc) := by simp [World.cell?, v5]
  have b53 : v.cell? ⟨w.heap.size + 1, 3, none⟩ = some (.int .u8 x.ff) := by simp [World.cell?, v5]
  have b40 : v.cell? ⟨w.heap.size, 0, none⟩ = some (.int .i64 0) := by simp [World.cell?, v4]
  have b41 : v.cell? ⟨w.heap.size, 1, none⟩ = some (.int .i64 0) := by simp [World.cell?, v4]
  have b42 : v.cell? ⟨w.heap.size, 2, none⟩ = some (.slice none 0 0) := by simp [World.cell?, v4]
  have b43 : v.cell? ⟨w.heap.size, 3, none⟩ = some (.int .u8 0) := by simp [World.cell?, v4]
  have f4 : ∀ j, v.frozen? ⟨w.heap.size, j, none⟩ = false := fun j => frozen_of_row v w.heap.size j _ 67 v4
  have HV := hide hV
  have HO : Hid (Only (· = p) t v) := hO
  have HT : Hid (Only (· = x.c) u t) := hT
  have hcv : v.heap[x.c]? = some (.chan cap bs.toArray true s (r + 1) false) := (hO.block x.c (lt_of_block hct) (fun e => hpc e.symm)).trans hct
  have HCV : Hid (v.heap[x.c]? = some (.chan cap bs.toArray true s (r + 1) false)) := hcv
  clear hv hV hO hT v5 v4 hct hcv fz d6 d7 d8 d9 d10
  refine wpN_of_wp ?_
  go_wp2
  have hne : x.c ≠ w.heap.size := by omega
  refine bodyPost_ret (v := .agg #[.int .i64 x.fa, .int .i64 x.fk, .slice x.ma x.ml x.mc, .int .u8 x.ff]) (by simp [results, Try.results65, go_sem, b40, b41, b42, b43]) rfl ⟨rfl, ?_, ?_, ?_⟩
  · exact HV.out.keep ((heap_setCell_other _ _ _ _ (by show p ≠ w.heap.size; omega)).trans ((heap_setCell_other _ _ _ _ (by show p ≠ w.heap.size; omega)).trans ((heap_setCell_other _ _ _ _ (by show p ≠ w.heap.size; omega)).trans (heap_setCell_other _ _ _ _ (by show p ≠ w.heap.size; omega)))))
  · exact ((heap_setCell_other _ _ _ _ (by show x.c ≠ w.heap.size; omega)).trans ((heap_setCell_other _ _ _ _ (by show x.c ≠ w.heap.size; omega)).trans ((heap_setCell_other _ _ _ _ (by show x.c ≠ w.heap.size; omega)).trans (heap_setCell_other _ _ _ _ (by show x.c ≠ w.heap.size; omega))))).trans HCV.out
  · have k1 : Only (fun k => k = p ∨ k = x.c) w v := ((Only.ofB hB).trans HT.out (fun j _ e => Or.inr e)).trans HO.out (fun j _ e => Or.inl e)
    exact (((k1.trans (Only.setCell (· = w.heap.size) _ _ _ _ rfl) (fun j hj e => absurd e (by omega))).trans (Only.setCell (· = w.heap.size) _ _ _ _ rfl) (fun j hj e => absurd e (by omega))).trans (Only.setCell (· = w.heap.size) _ _ _ _ rfl) (fun j hj e => absurd e (by omega))).trans (Only.setCell (· = w.heap.size) _ _ _ _ rfl) (fun j hj e => absurd e (by omega))
end Go.Proofs.Ytjhphkfpcpfdnaa
