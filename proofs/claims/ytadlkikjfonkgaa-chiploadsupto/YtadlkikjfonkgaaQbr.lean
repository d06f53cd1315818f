/-
  SEAT Ytadlkikjfonkgaa: Ap, Aq.
-/
import Derived.Test.YtadlkikjfonkgaaQbg
import Derived.Maps.AppendAt
import Derived.Test.YtadlkikjfonkgaaQa
namespace Go.Proofs.Ytadlkikjfonkgaa
open Go.RowKit Go.Conc
set_option linter.unusedVariables false
set_option maxRecDepth 100000
set_option maxHeartbeats 4000000
variable {w w' : World} {B e sz m n E : Nat} {xs : List Value}
def mks (n : Nat) (c : List Value) : List Value := (List.replicate n c).flatten
theorem mks_succ (n : Nat) (c : List Value) : mks (n + 1) c = mks n c ++ c := by
 unfold mks
 rw [List.replicate_succ', List.flatten_append]
 simp
theorem mks_len (n : Nat) (c : List Value) : (mks n c).length = n * c.length := by
 induction n with
 | zero => simp [mks]
 | succ n ih => rw [mks_succ, List.length_append, ih, Nat.succ_mul]
theorem mks_add (n m : Nat) (c : List Value) : mks n c ++ mks m c = mks (n + m) c := by
 unfold mks
 rw [← List.flatten_append, List.replicate_append_replicate]
theorem mks_get (n : Nat) (c : List Value) : ∀ j t, j < n → t < c.length → (mks n c)[j * c.length + t]? = c[t]? := by
 induction n with
 | zero => intro j t h; omega
 | succ n ih =>
  intro j t hj ht
  rw [mks_succ]
  by_cases h : j < n
  ·have h1 : j * c.length + t < (mks n c).length := by
    rw [mks_len]
    calc j * c.length + t < j * c.length + c.length := by omega
     _ = (j + 1) * c.length := by rw [Nat.succ_mul]
     _ ≤ n * c.length := Nat.mul_le_mul_right _ h
   rw [List.getElem?_append_left h1]
   exact ih j t h ht
  ·have e : j = n := by omega
   subst e
   rw [List.getElem?_append_right (by rw [mks_len]; omega), mks_len]
   congr 1
   omega
def fillM (k : Nat) (c xs : List Value) : List Value := mks k c ++ xs.drop (k * c.length)
theorem fillM_zero (c xs : List Value) : fillM 0 c xs = xs := by simp [fillM, mks]
theorem fillM_all (n : Nat) (c xs : List Value) (h : xs.length = n * c.length) : fillM n c xs = mks n c := by
 unfold fillM
 rw [List.drop_of_length_le (by omega), List.append_nil]
theorem fillM_len (k n : Nat) (c xs : List Value) (h : xs.length = n * c.length) (hk : k ≤ n) : (fillM k c xs).length = n * c.length := by
 unfold fillM
 have := Nat.mul_le_mul_right c.length hk
 rw [List.length_append, mks_len, List.length_drop]
 omega
theorem fillM_step1 (k n : Nat) (z : Value) (xs : List Value) (h : xs.length = n * 1) (hk : k < n) : (fillM k [z] xs).set k z = fillM (k + 1) [z] xs := by
 unfold fillM
 have hl : (mks k [z]).length = k := by rw [mks_len]; simp
 rw [List.set_append_right _ _ (by omega), hl, Nat.sub_self, mks_succ]
 simp only [List.length_singleton, Nat.mul_one]
 rw [List.drop_eq_getElem_cons (by omega : k < xs.length), List.set_cons_zero, List.append_assoc]
 rfl
theorem fillM_step4 (k n : Nat) (z0 z1 z2 z3 : Value) (xs : List Value) (h : xs.length = n * 4) (hk : k < n) :
  ((((fillM k [z0, z1, z2, z3] xs).set (k * 4) z0).set (k * 4 + 1) z1).set (k * 4 + 2) z2).set (k * 4 + 3) z3 = fillM (k + 1) [z0, z1, z2, z3] xs := by
 unfold fillM
 have hl : (mks k [z0, z1, z2, z3]).length = k * 4 := by rw [mks_len]; simp
 obtain ⟨A, hA⟩ : ∃ A, A = mks k [z0, z1, z2, z3] := ⟨_, rfl⟩
 rw [mks_succ]
 rw [← hA] at hl ⊢
 simp only [List.length_cons, List.length_nil, Nat.reduceAdd]
 have e4 : xs.drop (k * 4) = xs[k * 4] :: xs[k * 4 + 1] :: xs[k * 4 + 2] :: xs[k * 4 + 3] :: xs.drop ((k + 1) * 4) := by
  rw [List.drop_eq_getElem_cons (by omega), List.drop_eq_getElem_cons (by omega), List.drop_eq_getElem_cons (by omega), List.drop_eq_getElem_cons (by omega)]
  rw [show (k + 1) * 4 = k * 4 + 1 + 1 + 1 + 1 by omega]
 rw [e4]
 rw [List.set_append_right _ _ (by omega), List.set_append_right _ _ (by omega), List.set_append_right _ _ (by omega), List.set_append_right _ _ (by omega)]
 rw [show k * 4 - A.length = 0 by omega, show k * 4 + 1 - A.length = 1 by omega, show k * 4 + 2 - A.length = 2 by omega, show k * 4 + 3 - A.length = 3 by omega]
 simp
theorem grownBy_out {u : World} {r s : Option Nat} (h : u.grownBy w r) (k : w.grownBy w' s) (hs : ∀ g, s = some g → some g ≠ r → u.heap.size ≤ g) : u.grownBy w' r :=
 ⟨k.os.trans h.os, k.tape.trans h.tape, k.output.trans h.output, Nat.le_trans h.size k.size, fun i hi hr => by
  rw [k.block i (Nat.lt_of_lt_of_le hi h.size) (fun e => by have := hs i e.symm hr; omega)]
  exact h.block i hi hr⟩
theorem own_front {g c : Nat} (h : w.ownsRow B e sz (.slice (some ⟨g, 0, none⟩) m c) m xs) (hn : n ≤ m) : w.ownsRow B e sz (.slice (some ⟨g, 0, none⟩) n c) n (xs.take (n * sz)) := by
 have hle := Nat.mul_le_mul_right sz hn
 refine ⟨by rw [List.length_take, h.1]; omega, Or.inr ?_⟩
 rcases h.2 with ⟨h', _⟩ | ⟨g', cap', cur, h', hb, hg, hnc, hcm, hcs, htake⟩
 ·simp at h'
 ·simp only [Value.slice.injEq, Option.some.injEq, Addr.mk.injEq, and_true, true_and] at h'
  obtain ⟨rfl, rfl⟩ := h'
  refine ⟨g, c, cur, rfl, hb, hg, by omega, hcm, hcs, ?_⟩
  rw [← htake, List.take_take, Nat.min_eq_left hle]
theorem own_formG {v : Value} (h : w.ownsRow B e sz v n xs) : ∃ a c, v = .slice a n c := by
 rcases h.2 with ⟨hv, h0⟩ | ⟨g, cap, cur, hv, _⟩
 ·exact ⟨none, 0, by rw [hv, h0]⟩
 ·exact ⟨_, _, hv⟩
theorem own_shapeG {v : Value} (h : w.ownsRow B e sz v n xs) (hn : 0 < n) : ∃ g cap, v = .slice (some ⟨g, 0, none⟩) n cap ∧ n ≤ cap ∧ cap ≤ maxLen ∧ B ≤ g ∧ g < w.heap.size := by
 rcases h.2 with ⟨hv, h0⟩ | ⟨g, cap, cur, hv, hb, hg, h1, h2, _⟩
 ·omega
 ·exact ⟨g, cap, hv, h1, h2, hb, lt_of_block hg⟩
theorem news_any (w : World) (cs : Array Value) (e : TypeId) : ∀ j u, cs.toList[j]? = some u → (w.alloc (.cells cs e)).cell? ((⟨w.heap.size, 0, none⟩ : Addr).add j) = some u := by
 intro j u hj
 rw [plain_add, Nat.zero_add]
 rw [cell_of_row (w.alloc (.cells cs e)) w.heap.size j cs e (0, 0) (alloc_new w (.cells cs e))]
 rw [← Array.getElem?_toList]
 exact hj
structure Gr (e sz : Nat) (u w : World) (B : Nat) (vi v : Value) (n k : Nat) (F X : List Value) : Prop where
 old : w.ownsRow B e sz vi n F
 new : w.ownsRow B e sz v (n + k) (F ++ X)
 place : (∃ g c, v = .slice (some ⟨g, 0, none⟩) (n + k) c ∧ vi = .slice (some ⟨g, 0, none⟩) n c) ∨ ∀ g, v.ownBlock = some g → u.heap.size ≤ g
 grow : u.grownBy w vi.ownBlock
 was : ∀ g, vi.ownBlock = some g → g < u.heap.size
theorem gr_start {v : Value} {F : List Value} (h : w.ownsRow B e sz v n F) : Gr e sz w w B v v n 0 F [] := by
 refine ⟨h, by simpa using h, ?_, World.grownBy.refl _ _, fun g hg => (h.lt g hg).2⟩
 rcases h.2 with ⟨rfl, _⟩ | ⟨g, cap, cur, rfl, _⟩
 ·exact Or.inr fun g e => by cases e
 ·exact Or.inl ⟨g, cap, rfl, rfl⟩
theorem run_gr (t ty e : TypeId) (i : TypeInfo) (z : Value) (sz byt : Nat) (ht : Try.prog.underlying t = some (.slice e)) (hi : Try.prog.info? e = some i) (hz : i.zero = some z) (hs : i.size = sz) (hb : i.bytes = byt) (hzs : z.cells.size = sz) (h0 : 0 < sz) (hby : byt ≤ 1000)
  {u w : World} {B : Nat} {vi v : Value} {n k : Nat} {F X : List Value} (h : Gr e sz u w B vi v n k F X) (hB : B ≤ u.heap.size) (cs : Array Value) (hcs : cs.size = sz) (h1 : ∀ x ∈ cs.toList, x.oneCell' = true) (hn : n + k ≤ 4000000000) :
  ∃ v' w', (Builtin.append_ #[t, t] ty #[v, .slice (some ⟨w.heap.size, 0, none⟩) 1 1]).run Try.prog (w.alloc (.cells cs e)) = .ok v' w' ∧ Gr e sz u w' B vi v' n (k + 1) F (X ++ cs.toList) := by
 obtain ⟨g1, g2, g3, g4, g5⟩ := h
 have hsz : B ≤ (w.alloc (.cells cs e)).heap.size := by have := g4.size; simp; omega
 have ga : u.grownBy (w.alloc (.cells cs e)) vi.ownBlock := grownBy_out g4 (World.grownBy_alloc w _ none) (fun g e => by cases e)
 have h1a := g1.alloc (.cells cs e)
 have h2a := g2.alloc (.cells cs e)
 have hlast : ((F ++ X) ++ cs.toList) = F ++ (X ++ cs.toList) := List.append_assoc ..
 have hl1 : cs.toList.length = 1 * sz := by rw [Array.length_toList, hcs, Nat.one_mul]
 have hbb : (n + k + 1) * byt ≤ 140737488355328 := by
  have h9 := Nat.mul_le_mul (show n + k + 1 ≤ 4000000001 by omega) hby
  omega
 by_cases hv : v = .slice none 0 0
 ·obtain ⟨v', w', hr, ho, hg, _, hp⟩ := run_append_own_at (P := Try.prog) (w := w.alloc (.cells cs e)) B t ty e i z sz byt ht hi hz hs hb hzs h0 v (n + k) _ h2a ⟨w.heap.size, 0, none⟩ 1 1 cs.toList hl1 (news_any _ _ _) h1 (by simp [maxLen]; omega) hbb hsz
  subst hv
  have hvi : vi.ownBlock = none ∨ vi.ownBlock ≠ none := by cases vi.ownBlock <;> simp
  refine ⟨v', w', hr, ⟨?_, ?_, Or.inr ?_, grownBy_out ga hg (fun g e => by cases e), g5⟩⟩
  ·refine h1a.kept hg ?_
   simp only [Value.ownBlock]
   exact hvi
  ·rw [← hlast]; exact ho
  ·intro g e
   rcases hp with hp | hp
   ·rw [hp] at e; cases e
   ·rw [hp] at e; cases e
    have := g4.size
    simp
    omega
 ·obtain ⟨g, c, cur, rfl, hBg, hgc, hnc, hcm, hcs2, htk⟩ : ∃ g cap cur, v = .slice (some ⟨g, 0, none⟩) (n + k) cap ∧ B ≤ g ∧ w.heap[g]? = some (.cells cur e (0, 0)) ∧ n + k ≤ cap ∧ cap ≤ maxLen ∧ cur.size = cap * sz ∧ cur.toList.take ((n + k) * sz) = (F ++ X) := by
   rcases g2.2 with ⟨h, _⟩ | h
   ·exact absurd h hv
   ·exact h
  have hgw : g < w.heap.size := lt_of_block hgc
  by_cases hroom : n + k + 1 ≤ c
  ·obtain ⟨w', r1, r2, r3⟩ := run_append_fits (P := Try.prog) (w.alloc (.cells cs e)) B t ty e i sz ht hi hs g (n + k) c _ h2a ⟨w.heap.size, 0, none⟩ 1 1 cs.toList hl1 (news_any _ _ _) h1 hroom
   have hout : ∀ q, (some g : Option Nat) = some q → some q ≠ vi.ownBlock → u.heap.size ≤ q := by
    intro q e hne
    cases e
    rcases g3 with ⟨g', c', e1, e2⟩ | h3
    ·cases e1
     rw [e2] at hne
     exact absurd rfl hne
    ·exact h3 g rfl
   refine ⟨_, w', r1, ⟨?_, ?_, ?_, grownBy_out ga r3 hout, g5⟩⟩
   ·rcases g3 with ⟨g', c', e1, e2⟩ | h3
    ·cases e1
     rw [e2]
     have hf := own_front r2 (show n ≤ n + k + 1 by omega)
     have hFl : F.length = n * sz := g1.1
     rw [List.append_assoc, List.take_left' hFl] at hf
     exact hf
    ·refine h1a.kept r3 ?_
     by_cases hb : vi.ownBlock = some g
     ·have := h3 g rfl
      have := g5 g hb
      omega
     ·exact Or.inr hb
   ·rw [← hlast]; exact r2
   ·rcases g3 with ⟨g', c', e1, e2⟩ | h3
    ·cases e1
     exact Or.inl ⟨g, c, rfl, e2⟩
    ·exact Or.inr fun q e => h3 q e
  ·have hlx : (F ++ X).length = (n + k) * sz := g2.1
   have holds : ∀ j q, (F ++ X)[j]? = some q → (w.alloc (.cells cs e)).cell? ((⟨g, 0, none⟩ : Addr).add j) = some q := World.ownsRow.cells h2a (g := g) rfl
   have hr := run_append_grow (P := Try.prog) (w.alloc (.cells cs e)) t ty e i z ht hi hz ⟨g, 0, none⟩ (n + k) c (F ++ X) (by rw [hlx, hs]) holds ⟨w.heap.size, 0, none⟩ 1 1 cs.toList (by rw [hl1, hs]) (news_any _ _ _) (by omega) (by omega) (growslice_fits (by omega) (by rw [hb]; exact hbb))
   have hge := grownCap_ge (w.alloc (.cells cs e)) (n + k + 1) c e
   have hcm2 : grownCap (w.alloc (.cells cs e)) (n + k + 1) c e ≤ maxLen := grownCap_le_maxLen _ (n + k + 1) c e (by simp [maxLen]; omega)
   have gb : ∀ o, (w.alloc (.cells cs e)).grownBy ((w.alloc (.cells cs e)).drew.alloc o) none := fun o => ⟨rfl, rfl, rfl, by simp, fun q hq _ => Below.heap_alloc (w.alloc (.cells cs e)).drew o q hq⟩
   have hkeep : vi.ownBlock = none ∨ vi.ownBlock ≠ none := by cases vi.ownBlock <;> simp
   refine ⟨_, _, hr, ⟨h1a.kept (gb _) hkeep, ⟨?_, .inr ⟨(w.alloc (.cells cs e)).heap.size, _, _, rfl, hsz, heap_alloc_new (w.alloc (.cells cs e)).drew _, hge, hcm2, ?_, ?_⟩⟩, Or.inr ?_, grownBy_out ga (gb _) (fun g e => by cases e), g5⟩⟩
   ·rw [← hlast, List.length_append, hlx, hl1, ← Nat.add_mul]; rfl
   ·simp only [Array.size_append, List.size_toArray, size_zeroCells, hlx, hl1, hzs, ← Nat.add_mul]
    have e9 : n + k + 1 + (grownCap (w.alloc (.cells cs e)) (n + k + 1) c e - (n + k + 1)) = grownCap (w.alloc (.cells cs e)) (n + k + 1) c e := by omega
    rw [e9]
   ·have hl2 : (F ++ X ++ cs.toList).length = (n + (k + 1)) * sz := by
     rw [List.length_append, hlx, hl1, ← Nat.add_mul]
     rfl
    rw [Array.toList_append, Array.toList_append, ← hlast, ← hl2]
    exact List.take_left
   ·intro q e
    cases e
    have := g4.size
    simp
    omega
theorem wpList_gr {t : Nat} {i : TypeInfo} {z : Value} {byt : Nat} (ht : Try.prog.underlying t = some (.slice e)) (hi : Try.prog.info? e = some i) (hz : i.zero = some z) (hs : i.size = sz) (hb : i.bytes = byt) (hzs : z.cells.size = sz) (h0 : 0 < sz) (hby : byt ≤ 1000)
  {u w : World} {ops : Array Oper} {rest : List Oper} {o : Oper} {a : Act} {Q : Exit → Act → World → Prop} (hgd : o.guard = none) (s x : Operand)
  (ho : o.op = .call { callee := .builtin .append, args := #[s, x], argTypes := #[t, t] })
  {B : Nat} {vi v : Value} {n k : Nat} {F X : List Value} (h : Gr e sz u w B vi v n k F X) (hB : B ≤ u.heap.size) (cs : Array Value) (hcs : cs.size = sz) (h1 : ∀ x ∈ cs.toList, x.oneCell' = true) (hn : n + k ≤ 4000000000)
  (hsv : a.eval s = v) (hx : a.eval x = .slice (some ⟨w.heap.size, 0, none⟩) 1 1)
  (hk : ∀ v' w', Gr e sz u w' B vi v' n (k + 1) F (X ++ cs.toList) → wpList Try.prog ops Q rest (a.put o.dst v') w') : wpList Try.prog ops Q (o :: rest) a (w.alloc (.cells cs e)) := by
 obtain ⟨v', w', hr, h1⟩ := run_gr t o.type e i z sz byt ht hi hz hs hb hzs h0 hby h hB cs hcs h1 hn
 refine wpList_plain hgd fun K N => ?_
 unfold Oper.wp
 simp [execOp, ho, resolve, invoke, builtin, hsv, hx, hr, Result.andThen]
 exact N _ _ (hk v' w' h1)
structure ApS (e sz : Nat) (w : World) (B G m : Nat) (vs : Nat → Value) (ns : Nat → Nat) (X : Nat → List Value) : Prop where
 outer : ∀ i, i < m → w.cell? ⟨G, i, none⟩ = some (vs i)
 small : ∀ i, i < m → ns i ≤ 2000000000
 rows : ∀ i, i < m → w.ownsRow B e sz (vs i) (ns i) (X i)
 ne : ∀ i j, i < m → j < m → i ≠ j → ∀ g, (vs i).ownBlock = some g → (vs j).ownBlock ≠ some g
 neG : ∀ i, i < m → (vs i).ownBlock ≠ some G
 hG : 0 < m → G < w.heap.size
theorem ApS.move {G : Nat} {vs : Nat → Value} {ns : Nat → Nat} {X Y : Nat → List Value} (h : ApS e sz w B G m vs ns X) (i : Nat) (hi : i < m) (hg : w.grownBy w' (vs i).ownBlock)
  (hr : w'.ownsRow B e sz (vs i) (ns i) (Y i)) (O : ∀ j, j < m → j ≠ i → Y j = X j) : ApS e sz w' B G m vs ns Y := by
 obtain ⟨h1, h2, h3, h4, h5, h6⟩ := h
 refine ⟨fun j hj => ?_, h2, fun j hj => ?_, h4, h5, fun h0 => Nat.lt_of_lt_of_le (h6 h0) hg.size⟩
 ·rw [World.cell?_of_block (hg.block G (h6 (by omega)) (fun e => h5 i hi e.symm))]
  exact h1 j hj
 ·by_cases e : j = i
  ·subst e; exact hr
  ·rw [O j hj e]
   refine (h3 j hj).kept hg ?_
   cases hb : (vs j).ownBlock with
   | none => exact Or.inl rfl
   | some g => exact Or.inr (fun e2 => h4 j i hj hi e g hb e2.symm)
def partM (mk : Nat → List Value) (ns : Nat → Nat) (X : Nat → List Value) (i : Nat) : Nat → List Value := fun j => if j < i then mks (ns j) (mk j) else X j
structure Sec (e sz E : Nat) (mk : Nat → List Value) (w : World) (B B2 G m : Nat) (vs : Nat → Value) (ns : Nat → Nat) (i : Nat) (gv : Value) (gs : Nat → Value) : Prop where
 ap : ApS e sz w B G m vs ns (fun j => mks (ns j) (mk j))
 hB2 : 0 < m → G < B2
 list : w.ownsRow B2 E 1 gv i ((List.range i).map gs)
 rows : ∀ j, j < i → w.ownsRow B e sz (gs j) (ns j + 20) (mks (ns j) (mk j) ++ mks 20 (mk j))
 d1 : ∀ j l, j < i → l < m → l ≠ j → ∀ g, (gs j).ownBlock = some g → (vs l).ownBlock ≠ some g
theorem types_apart {B2 : Nat} {v u : Value} {ys : List Value} (hE : E ≠ e) (h : w.ownsRow B2 E 1 v n xs) (k : w.ownsRow B e sz u m ys) : v.ownBlock = none ∨ v.ownBlock ≠ u.ownBlock := by
 cases hv : v.ownBlock with
 | none => exact Or.inl rfl
 | some g =>
  refine Or.inr fun e9 => ?_
  obtain ⟨cs, hc⟩ := own_tag h hv
  obtain ⟨cs', hc'⟩ := own_tag k e9.symm
  rw [hc] at hc'
  cases hc'
  exact hE rfl
theorem Sec.more {mk : Nat → List Value} (hE : E ≠ e) {u w w' : World} {B B2 G m : Nat} {vs : Nat → Value} {ns : Nat → Nat} {i : Nat} {gv gv' v : Value} {gs : Nat → Value} (h : Sec e sz E mk u B B2 G m vs ns i gv gs) (hi : i < m)
  (hg : Gr e sz u w B (vs i) v (ns i) 20 (mks (ns i) (mk i)) (mks 20 (mk i))) (hw : w.grownBy w' gv.ownBlock) (hl : w'.ownsRow B2 E 1 gv' (i + 1) ((List.range i).map gs ++ [v])) :
  Sec e sz E mk w' B B2 G m vs ns (i + 1) gv' (fun j => if j = i then v else gs j) := by
 obtain ⟨h1, hB2, h2, h3, h4⟩ := h
 have sep : ∀ {q : Nat} {x : Value} {ys : List Value}, u.ownsRow B e sz x q ys → x.ownBlock = none ∨ x.ownBlock ≠ gv.ownBlock := by
  intro q x ys hx
  rcases types_apart hE h2 hx with h5 | h5
  ·cases hb : x.ownBlock with
   | none => exact Or.inl rfl
   | some g => exact Or.inr (by rw [h5]; simp)
  ·exact Or.inr fun e => h5 e.symm
 have l2 : w.ownsRow B2 E 1 gv i ((List.range i).map gs) := h2.kept hg.grow (types_apart hE h2 (h1.rows i hi))
 have sepw : ∀ {q : Nat} {x : Value} {ys : List Value}, w.ownsRow B e sz x q ys → x.ownBlock = none ∨ x.ownBlock ≠ gv.ownBlock := by
  intro q x ys hx
  rcases types_apart hE l2 hx with h5 | h5
  ·cases hb : x.ownBlock with
   | none => exact Or.inl rfl
   | some g => exact Or.inr (by rw [h5]; simp)
  ·exact Or.inr fun e => h5 e.symm
 have ap2 : ApS e sz w B G m vs ns (fun j => mks (ns j) (mk j)) := h1.move i hi hg.grow hg.old (fun _ _ _ => rfl)
 have hm : 0 < m := by omega
 refine ⟨⟨fun j hj => ?_, h1.small, fun j hj => (ap2.rows j hj).kept hw (sepw (ap2.rows j hj)), h1.ne, h1.neG, fun h0 => Nat.lt_of_lt_of_le (ap2.hG h0) hw.size⟩, hB2, ?_, fun j hj => ?_, fun j l hj hl2 hne g hb => ?_⟩
 ·rw [World.cell?_of_block (hw.block G (ap2.hG hm) (fun e => by have := (l2.lt G e.symm).1; have := hB2 hm; omega))]
  exact ap2.outer j hj
 ·rw [List.range_succ, List.map_append]
  have e1 : (List.range i).map (fun j => if j = i then v else gs j) = (List.range i).map gs := by
   apply List.map_congr_left
   intro j hj
   rw [if_neg (by have := List.mem_range.1 hj; omega)]
  rw [e1]
  simpa using hl
 ·by_cases e : j = i
  ·subst e
   rw [if_pos rfl]
   exact hg.new.kept hw (sepw hg.new)
  ·rw [if_neg e]
   have h5 := h3 j (by omega)
   refine World.ownsRow.kept (h5.kept hg.grow ?_) hw (sep h5)
   cases hb : (gs j).ownBlock with
   | none => exact Or.inl rfl
   | some g => exact Or.inr fun e2 => h4 j i (by omega) hi (fun e3 => e e3.symm) g hb e2.symm
 ·by_cases e : j = i
  ·subst e
   rw [if_pos rfl] at hb
   rcases hg.place with ⟨g', c, e1, e2⟩ | hp
   ·rw [e1] at hb
    have hb' : (vs j).ownBlock = some g := by rw [e2]; exact hb
    exact h1.ne j l hi hl2 (fun e3 => hne e3.symm) g hb'
   ·intro e3
    have := hp g hb
    have := ((h1.rows l hl2).lt g e3).2
    omega
  ·rw [if_neg e] at hb
   exact h4 j l (by omega) hl2 hne g hb
theorem rowsAt_ap {G : Nat → Prop} (hE : E ≠ e) {ao : Option Addr} {n cm : Nat} {L : List Rw} (h : RowsAt w B G E e sz (.slice ao n cm) L) (hs : ∀ r ∈ L, r.n ≤ 2000000000) :
  n = L.length ∧ ∃ g, (∀ i, i < L.length → ao = some ⟨g, 0, none⟩) ∧ ApS e sz w B g L.length (fun i => (L.getD i ⟨none, 0, 0, []⟩).v) (fun i => (L.getD i ⟨none, 0, 0, []⟩).n) (fun i => (L.getD i ⟨none, 0, 0, []⟩).xs) ∧ (∀ i, i < L.length → ∀ k, (L.getD i ⟨none, 0, 0, []⟩).v.ownBlock = some k → G k) := by
 have hget : ∀ i, (hi : i < L.length) → L.getD i ⟨none, 0, 0, []⟩ = L[i] := fun i hi => by rw [List.getD_eq_getElem?_getD, List.getElem?_eq_getElem hi]; rfl
 have hn : n = L.length := by
  obtain ⟨a, c, hv⟩ := own_formG h.row
  cases hv
  rfl
 subst hn
 refine ⟨rfl, ?_⟩
 by_cases h0 : L.length = 0
 ·exact ⟨0, fun i hi => by omega, ⟨fun i hi => by omega, fun i hi => by omega, fun i hi => by omega, fun i j hi => by omega, fun i hi => by omega, fun h => by omega⟩, fun i hi => by omega⟩
 ·obtain ⟨g, cap, hv, _, _, _, hgl⟩ := own_shapeG h.row (by omega)
  cases hv
  refine ⟨g, fun i hi => rfl, ⟨fun i hi => ?_, fun i hi => ?_, fun i hi => ?_, fun i j hi hj hne k hk hk2 => ?_, fun i hi hk => ?_, fun _ => hgl⟩, fun i hi k hk => ?_⟩
  ·rw [World.ownsRow.cellAt h.row i (by omega), List.getElem?_map, List.getElem?_eq_getElem hi]
   simp only [hget i hi, Option.map_some]
  ·simp only [hget i hi]
   exact hs _ (List.getElem_mem hi)
  ·simp only [hget i hi]
   exact h.own _ (List.getElem_mem hi)
  ·simp only [hget i hi] at hk
   simp only [hget j hj] at hk2
   have hp := List.pairwise_iff_getElem.1 h.far
   rcases Nat.lt_or_gt_of_ne hne with h1 | h1
   ·exact hp i j hi hj h1 k hk hk2
   ·exact hp j i hj hi h1 k hk2 hk
  ·simp only [hget i hi] at hk
   obtain ⟨cs, hc⟩ := own_tag (h.own _ (List.getElem_mem hi)) hk
   obtain ⟨cs', hc'⟩ := own_tag h.row (g := g) rfl
   rw [hc] at hc'
   cases hc'
   exact hE rfl
  ·simp only [hget i hi] at hk
   exact h.gl _ (List.getElem_mem hi) k hk
def mkY (i : Nat) : List Value := [.int .u8 (((i : Int) + 1) % 256)]
theorem mkY_len (i : Nat) : (mkY i).length = 1 := rfl
theorem bytesApart_any (w : World) (B G m cm : Nat) (ao : Option Addr) (hao : ∀ i, i < m → ao = some ⟨G, 0, none⟩) (vs : Nat → Value) (ns : Nat → Nat) (X : Nat → List Value) (FF : Nat → Prop) (hA : ApS 5 1 w B G m vs ns X) (hF : ∀ i, i < m → ∀ k, (vs i).ownBlock = some k → FF k) (hm : m ≤ 1000000000) (hB : B ≤ w.heap.size) :
  Calls Try.prog 75 #[.slice ao m cm] w fun e w' => e = .returned (.bool true) ∧ Only FF w w' := by
 have HA := J hA
 have HAO := J hao
 have HFF := J hF
 have HBW := J hB
 clear hA hao hF hB
 go_enter Try.func75, Try.ntmps75
 go_wp2
 go_loopw [4] (fun s4 wr => ∃ k : Nat, k ≤ m ∧ s4 = .int .i64 k ∧ Hid (ApS 5 1 wr B G m vs ns (partM mkY ns X k)) ∧ Hid (Only FF w wr)) (fun s4 _ => m - (intOf s4).toNat)
 case atStart =>
  refine ⟨0, Nat.zero_le _, rfl, ?_, Only.refl _ _⟩
  have e : partM mkY ns X 0 = X := by funext j; simp [partM]
  rw [e]
  exact HA
 case round =>
  obtain ⟨i, hi, rfl, HA1, HON⟩ := hrel
  by_cases hlt : i < m
  ·have hao := HAO.out i hlt
   subst hao
   obtain ⟨wo, hwo⟩ : ∃ x, x = wr := ⟨_, rfl⟩
   subst hwo
   have hrow := HA1.out.rows i hlt
   have e0 : partM mkY ns X i i = X i := by simp [partM]
   rw [e0] at hrow
   obtain ⟨n, hn⟩ : ∃ n, n = ns i := ⟨_, rfl⟩
   obtain ⟨v, hv⟩ : ∃ v, v = vs i := ⟨_, rfl⟩
   rw [← hn, ← hv] at hrow
   have hxl : (X i).length = n * (mkY i).length := hrow.1
   obtain ⟨a, c, rfl⟩ := own_formG hrow
   have HROW := J hrow
   have hc := HA1.out.outer i hlt
   rw [← hv] at hc
   have HC := J hc
   have HGs := J (HA1.out.hG (by omega))
   have HGn : Hid ((Value.slice a n c).ownBlock ≠ some G) := by rw [hv]; exact HA1.out.neG i hlt
   have hns : n ≤ 2000000000 := by rw [hn]; exact HA1.out.small i hlt
   have HN : Hid (n = ns i) := hn
   have HV : Hid (Value.slice a n c = vs i) := hv
   have m1 : (i : Int) < (m : Int) := by omega
   have hd1 : decide ((i : Int) < (m : Int)) = true := decide_eq_true m1
   clear hn hv hrow e0
   go_wp2
   go_loopw [5] (fun s5 wq => ∃ k : Nat, k ≤ n ∧ s5 = .int .i64 k ∧ Hid (wq.ownsRow B 5 1 (.slice a n c) n (fillM k (mkY i) (X i))) ∧ Hid (wo.grownBy wq (Value.slice a n c).ownBlock)) (fun s5 _ => n - (intOf s5).toNat)
   case atStart => exact ⟨0, Nat.zero_le _, rfl, by rw [fillM_zero]; exact HROW, World.grownBy.refl _ _⟩
   case round =>
    obtain ⟨k, hk, rfl, HROW2, HG2⟩ := hrel
    have hc2 := (World.cell?_of_block (a := ⟨G, i, none⟩) (HG2.out.block G HGs.out (fun e => HGn.out e.symm))).trans HC.out
    by_cases hlt2 : k < n
    ·obtain ⟨g, cap, hsh, hcap, _, hBg, hgl⟩ := own_shapeG HROW2.out (by omega)
     cases hsh
     obtain ⟨y0, hy0⟩ : ∃ y, (fillM k (mkY i) (X i))[k]? = some y := ⟨_, List.getElem?_eq_getElem (by have h1 := fillM_len k n (mkY i) (X i) hxl hk; have h2 : (mkY i).length = 1 := rfl; rw [h2] at h1; omega)⟩
     have hcx := World.ownsRow.cellAt HROW2.out k (by omega)
     rw [hy0] at hcx
     have hfz := World.ownsRow.frozenAt HROW2.out k
     have HS : Hid ((wr.setCell ⟨g, k, none⟩ (.int .u8 ((((i : Nat) : Int) + 1) % 256))).ownsRow B 5 1 (.slice (some ⟨g, 0, none⟩) n c) n (fillM (k + 1) (mkY i) (X i)) ∧ wo.grownBy (wr.setCell ⟨g, k, none⟩ (.int .u8 ((((i : Nat) : Int) + 1) % 256))) (some g)) := by
      have h1 := World.ownsRow.stored HROW2.out k (.int .u8 ((((i : Nat) : Int) + 1) % 256))
      rw [show (fillM k (mkY i) (X i)).set k (.int .u8 ((((i : Nat) : Int) + 1) % 256)) = fillM (k + 1) (mkY i) (X i) from fillM_step1 k n _ (X i) hxl hlt2] at h1
      exact ⟨h1.1, grownBy_trans HG2.out h1.2⟩
     have m2 : (k : Int) < (n : Int) := by omega
     have hd2 : decide ((k : Int) < (n : Int)) = true := decide_eq_true m2
     clear hxl hk hlt
     go_wp2
     go_roundw
     case rel => exact ⟨k + 1, by omega, by go_num, HS.out.1, HS.out.2⟩
     case measure => simp [intOf]; omega
    ·have hkn : k = n := by omega
     have HF2 : Hid (wr.ownsRow B 5 1 (.slice a n c) n (mks n (mkY i))) := by
      have h1 := HROW2.out
      rw [hkn, fillM_all n (mkY i) (X i) hxl] at h1
      exact h1
     have HA2 : Hid (ApS 5 1 wr B G m vs ns (partM mkY ns X (i + 1))) := by
      refine HA1.out.move i hlt (by rw [← HV.out]; exact HG2.out) ?_ ?_
      ·have e1 : partM mkY ns X (i + 1) i = mks n (mkY i) := by simp [partM, HN.out]
       rw [e1, ← HV.out, ← HN.out]
       exact HF2.out
      ·intro j hj hne
       unfold partM
       by_cases h1 : j < i
       ·rw [if_pos h1, if_pos (by omega)]
       ·rw [if_neg h1, if_neg (by omega)]
     have HON2 : Hid (Only FF w wr) := HON.out.trans' (Only.ofG HG2.out (fun j hj => HFF.out i hlt j (by rw [← HV.out]; exact hj)))
     have hd2 : decide ((k : Int) < (n : Int)) = false := decide_eq_false (by omega)
     clear HROW2 hkn
     go_wp2
     go_roundw
     case rel => exact ⟨i + 1, by omega, by go_num, HA2, HON2⟩
     case measure => simp [intOf]; omega
  ·have him : m = i := by omega
   subst him
   obtain ⟨B2, hB2⟩ : ∃ B2, B2 = wr.heap.size := ⟨_, rfl⟩
   have H0 : Hid (Sec 5 1 24 mkY wr B B2 G m vs ns 0 (.slice none 0 0) (fun _ => .slice none 0 0)) := by
    obtain ⟨a1, a2, a3, a4, a5, a6⟩ := HA1.out
    refine ⟨⟨a1, a2, fun j hj => ?_, a4, a5, a6⟩, fun h0 => by rw [hB2]; exact a6 h0, World.ownsRow_nil _ _ _ _, fun j hj => by omega, fun j l hj => by omega⟩
    have h9 := a3 j hj
    unfold partM at h9
    rwa [if_pos (by omega)] at h9
   have HBB : Hid (B ≤ B2 ∧ w.heap.size ≤ B2) := by have h1 := HON.out.size; have h2 := HBW.out; exact ⟨by omega, by omega⟩
   have hB2w : B2 ≤ wr.heap.size := by omega
   obtain ⟨j0, hj, jz0, jz1, jz2⟩ := info_parts info24b
   obtain ⟨i0, hi5, iz0, iz1, iz2⟩ := info_parts info5
   have hd0 : decide ((m : Int) < (m : Int)) = false := decide_eq_false (by omega)
   clear hB2 HA1 HA hlt hi
   go_wp2
   go_loopw [3, 6] (fun gv s6 wq => ∃ (k : Nat) (gs : Nat → Value), k ≤ m ∧ s6 = .int .i64 k ∧ Hid (Sec 5 1 24 mkY wq B B2 G m vs ns k gv gs) ∧ Hid (Only FF w wq) ∧ B2 ≤ wq.heap.size) (fun _ s6 _ => m - (intOf s6).toNat)
   case atStart => exact ⟨0, _, Nat.zero_le _, rfl, H0, HON, hB2w⟩
   case round =>
    clear H0 HON hB2w
    obtain ⟨k, gs, hk, rfl, HS2, HON, hB2q⟩ := hrel
    obtain ⟨ga, gc, hgv⟩ := own_formG HS2.out.list
    subst hgv
    by_cases hlt2 : k < m
    ·have hao := HAO.out k hlt2
     subst hao
     have hrow := HS2.out.ap.rows k hlt2
     obtain ⟨n, hn⟩ : ∃ n, n = ns k := ⟨_, rfl⟩
     obtain ⟨v, hv⟩ : ∃ v, v = vs k := ⟨_, rfl⟩
     rw [← hn, ← hv] at hrow
     obtain ⟨a, c, rfl⟩ := own_formG hrow
     have hc := HS2.out.ap.outer k hlt2
     rw [← hv] at hc
     have hns : n ≤ 2000000000 := by rw [hn]; exact HS2.out.ap.small k hlt2
     have HN : Hid (n = ns k) := hn
     have HV : Hid (Value.slice a n c = vs k) := hv
     obtain ⟨M0, hM0⟩ : ∃ M, M = mks n (mkY k) := ⟨_, rfl⟩
     have HG0 : Hid (Gr 5 1 wr wr B (.slice a n c) (.slice a n c) n 0 M0 (mks 0 (mkY k))) := by rw [hM0, hn]; rw [hn] at hrow; exact gr_start hrow
     have HM0 := J hM0
     have hBw : B ≤ wr.heap.size := Nat.le_trans HBB.out.1 hB2q
     have m1 : (k : Int) < (m : Int) := by omega
     have hd1 : decide ((k : Int) < (m : Int)) = true := decide_eq_true m1
     clear hn hv hrow hM0
     go_wp2
     go_loopw [7, 8] (fun v s8 wq => ∃ t : Nat, t ≤ 20 ∧ s8 = .int .i64 t ∧ Hid (Gr 5 1 wr wq B (.slice a n c) v n t M0 (mks t (mkY k)))) (fun _ s8 _ => 20 - (intOf s8).toNat)
     case atStart => exact ⟨0, by omega, rfl, HG0⟩
     case round =>
      clear HG0
      obtain ⟨t, ht, rfl, HGr⟩ := hrel
      by_cases hlt3 : t < 20
      ·have HM : Hid (mks (t + 1) (mkY k) = mks t (mkY k) ++ (#[.int .u8 (((k : Nat) + 1 : Int) % 256)] : Array Value).toList) := mks_succ t (mkY k)
       have hGr := HGr.out
       have m2 : (t : Int) < 20 := by omega
       have hd2 : decide ((t : Int) < 20) = true := decide_eq_true m2
       clear HGr
       go_wp2_with (at_builtin; refine wpList_gr Try.underlying24 hi5 iz0 iz1 iz2 rfl (by decide) (by decide) rfl (.tmp 49) (.tmp 53) rfl hGr hBw (#[.int .u8 (((k : Nat) + 1 : Int) % 256)]) rfl ?_ (by omega) rfl rfl ?_; (first | (intro x hx; simp at hx; (first | (subst hx; rfl) | (rcases hx with rfl | rfl <;> rfl) | (rcases hx with rfl | rfl | rfl <;> rfl) | (rcases hx with rfl | rfl | rfl | rfl <;> rfl)))); intro v5 w5 hg5; rw [← HM.out] at hg5; have HG5 := J hg5; clear hGr hg5)
       go_roundw
       case rel => exact ⟨t + 1, by omega, by go_num, HG5⟩
       case measure => simp [intOf]; omega
      ·have ht9 : t = 20 := by omega
       subst ht9
       obtain ⟨g5, c5, rfl, _, _, _, _⟩ := own_shapeG HGr.out.new (by omega)
       have hlist : Hid (wr.ownsRow B2 24 1 (.slice ga k gc) k ((List.range k).map gs)) := by
        refine HS2.out.list.kept HGr.out.grow ?_
        have h9 := types_apart (by decide) HS2.out.list (HS2.out.ap.rows k hlt2)
        rw [← HV.out] at h9
        exact h9
       have hsz6 := Nat.le_trans hB2q HGr.out.grow.size
       have hd2 : decide ((20 : Int) < 20) = false := by decide
       go_wp2_with (
        (at_builtin; refine wpList_append_own _ rfl (.tmp 55) (.tmp 57) 61 rfl B2 24 j0 (.slice none 0 0) 1 24 Try.underlying61 hj jz0 jz1 jz2 rfl (by decide) _ _ _ rfl (hlist.out.alloc _) ⟨_, 0, none⟩ 1 1 [.slice (some ⟨g5, 0, none⟩) (n + 20) c5] rfl rfl ?_ ?_ ?_ ?_ ?_ ?_; (first | (intro j u hj; match j, hj with | 0, hj => simp at hj; subst hj; simp [Addr.add])); (simp [Value.oneCell']); (simp [maxLen]; omega); omega; (simp; omega); intro v6 w6 hown6 hgrow6 _; have HOW6 := J hown6; have HGW6 := J hgrow6; clear hown6 hgrow6))
       have HS3 : Hid (Sec 5 1 24 mkY w6 B B2 G m vs ns (k + 1) v6 (fun j => if j = k then .slice (some ⟨g5, 0, none⟩) (n + 20) c5 else gs j)) := by
        have hgr := HGr.out
        rw [HM0.out, HV.out, HN.out] at hgr
        have h9 := HS2.out.more (by decide) hlt2 hgr (grownBy_trans (World.grownBy_alloc _ _ _) HGW6.out) (by rw [← HN.out]; exact HOW6.out)
        rw [HN.out]
        exact h9
       have HON2 : Hid (Only FF w w6) := by
        have o1 := HON.out.trans' (Only.ofG HGr.out.grow (fun j hj => HFF.out k hlt2 j (by rw [← HV.out]; exact hj)))
        have o2 : Only (fun j => (Value.slice ga k gc).ownBlock = some j) wr w6 := Only.ofG (grownBy_trans (World.grownBy_alloc _ _ _) HGW6.out) (fun j hj => hj)
        exact o1.trans o2 (fun j hj e => by have h1 := (HS2.out.list.lt j e).1; have h2 := HBB.out.2; omega)
       have hsz7 : B2 ≤ w6.heap.size := by have h1 := HGW6.out.size; simp at h1; omega
       clear hlist HOW6 HGW6 HS2 HGr HON
       go_wp2
       go_roundw
       case rel => exact ⟨k + 1, _, by omega, by go_num, HS3, HON2, hsz7⟩
       case measure => simp [intOf]; omega
    ·have hkm : m = k := by omega
     subst hkm
     have H3 : Hid (∀ i, i < m → ∃ a c g c2 gg, vs i = .slice a (ns i) c ∧ gs i = .slice (some ⟨g, 0, none⟩) (ns i + 20) c2 ∧ ga = some ⟨gg, 0, none⟩ ∧ wr.cell? ⟨G, i, none⟩ = some (.slice a (ns i) c) ∧ wr.cell? ⟨gg, i, none⟩ = some (.slice (some ⟨g, 0, none⟩) (ns i + 20) c2) ∧ ns i ≤ 2000000000 ∧
       (∀ t, t < ns i → ∃ q, a = some ⟨q, 0, none⟩ ∧ wr.cell? ⟨q, t, none⟩ = some (.int .u8 ((((i : Nat) : Int) + 1) % 256))) ∧ ∀ t, t < ns i + 20 → wr.cell? ⟨g, t, none⟩ = some (.int .u8 ((((i : Nat) : Int) + 1) % 256))) := by
      intro i hi
      have hrow := HS2.out.ap.rows i hi
      have hrow2 := HS2.out.rows i hi
      obtain ⟨a, c, hv⟩ := own_formG hrow
      obtain ⟨g, c2, hg, _, _, _, _⟩ := own_shapeG hrow2 (by omega)
      have hlist := HS2.out.list
      obtain ⟨gg, cg, hgg, _⟩ := own_shapeG hlist (by omega)
      cases hgg
      refine ⟨a, c, g, c2, gg, hv, hg, rfl, ?_, ?_, HS2.out.ap.small i hi, ?_, ?_⟩
      ·rw [HS2.out.ap.outer i hi, hv]
      ·have h9 := World.ownsRow.cellAt hlist i (by omega)
       rw [h9, List.getElem?_map, List.getElem?_range hi, Option.map_some, hg]
      ·intro t ht
       obtain ⟨q, cq, hq, _, _, _, _⟩ := own_shapeG hrow (by omega)
       rw [hv] at hq
       cases hq
       rw [hv] at hrow
       refine ⟨q, rfl, ?_⟩
       rw [World.ownsRow.cellAt hrow t (by omega)]
       have h9 := mks_get (ns i) (mkY i) t 0 ht (by rw [mkY_len]; omega)
       rw [mkY_len, Nat.add_zero, Nat.mul_one] at h9
       exact h9
      ·intro t ht
       rw [hg, mks_add] at hrow2
       rw [World.ownsRow.cellAt hrow2 t (by omega)]
       have h9 := mks_get (ns i + 20) (mkY i) t 0 ht (by rw [mkY_len]; omega)
       rw [mkY_len, Nat.add_zero, Nat.mul_one] at h9
       exact h9
     have hd0 : decide ((m : Int) < (m : Int)) = false := decide_eq_false (by omega)
     clear HS2 hlt2
     go_wp2
     go_loopw [9] (fun s9 wq => ∃ i : Nat, i ≤ m ∧ s9 = .int .i64 i ∧ wq = wr) (fun s9 _ => m - (intOf s9).toNat)
     case atStart => exact ⟨0, Nat.zero_le _, rfl, rfl⟩
     case round =>
      obtain ⟨i, hi, rfl, rfl⟩ := hrel
      by_cases hlt3 : i < m
      ·have hao := HAO.out i hlt3
       subst hao
       obtain ⟨a, c, g, c2, gg, hv, hg, rfl, hcG, hcg, hns, hrow, hrow2⟩ := H3.out i hlt3
       obtain ⟨n, hn⟩ : ∃ n, n = ns i := ⟨_, rfl⟩
       rw [← hn] at hcG hcg hns hrow hrow2
       have HROW := J hrow
       have HROW2 := J hrow2
       have m1 : (i : Int) < (m : Int) := by omega
       have hd1 : decide ((i : Int) < (m : Int)) = true := decide_eq_true m1
       clear hv hg hn hrow hrow2
       go_wp2
       go_loopw [10] (fun s10 wq => ∃ t : Nat, t ≤ n + 20 ∧ s10 = .int .i64 t ∧ wq = wr) (fun s10 _ => n + 20 - (intOf s10).toNat)
       case atStart => exact ⟨0, Nat.zero_le _, rfl, rfl⟩
       case round =>
        obtain ⟨t, ht, rfl, rfl⟩ := hrel
        by_cases hlt4 : t < n + 20
        ·have hcq := HROW2.out t hlt4
         have m2 : (t : Int) < (n : Int) + 20 := by omega
         have hd2 : decide ((t : Int) < (n : Int) + 20) = true := decide_eq_true m2
         by_cases hlt5 : t < n
         ·obtain ⟨q, rfl, hcp⟩ := HROW.out t hlt5
          have m3 : (t : Int) < (n : Int) := by omega
          have hd3 : decide ((t : Int) < (n : Int)) = true := decide_eq_true m3
          go_wp2
          go_roundw
          case rel => exact ⟨t + 1, by omega, by go_num, by first | rfl | trivial⟩
          case measure => simp [intOf]; omega
         ·have m3 : ¬ (t : Int) < (n : Int) := by omega
          have hd3 : decide ((t : Int) < (n : Int)) = false := decide_eq_false m3
          go_wp2
          go_roundw
          case rel => exact ⟨t + 1, by omega, by go_num, by first | rfl | trivial⟩
          case measure => simp [intOf]; omega
        ·have htn : t = n + 20 := by omega
         subst htn
         have hd2 : decide (((n + 20 : Nat) : Int) < (n : Int) + 20) = false := decide_eq_false (by omega)
         go_wp2
         go_roundw
         case rel => exact ⟨i + 1, by omega, by go_num, by first | rfl | trivial⟩
         case measure => simp [intOf]; omega
      ·have him2 : m = i := by omega
       subst him2
       have hd1 : decide ((m : Int) < (m : Int)) = false := decide_eq_false (by omega)
       go_wp2
       go_ret
       exact ⟨rfl, HON.out⟩
end Go.Proofs.Ytadlkikjfonkgaa
