/-
  SEAT Ytgijbpkfheillaa: BlocksFresh: rows that are written over; the walk; the law.
-/
import Derived.Test.YtgijbpkfheillaaPlR
import Derived.ArgAppend
import Derived.Test.YtgijbpkfheillaaOpen
namespace Go.Proofs.Ytgijbpkfheillaa
open Go.RowKit
set_option linter.unusedVariables false

section
variable {U w w' : World} {B gb gk gr gl g c : Nat} {P : Int} {es : List Ent} {cur last : Int} {vo : Option Nat}
theorem Two.lt (h : Two w B gb gk gr gl g c P es cur last vo) : gb < w.heap.size ∧ gk < w.heap.size ∧ gr < w.heap.size ∧ gl < w.heap.size ∧ g < w.heap.size := by
  obtain ⟨l1, l2, l3⟩ := h.rf.lt
  exact ⟨lt_of_block h.bk.box, lt_of_block h.bk.row, l1, l2, l3⟩
/-- None of the books' blocks. -/
def Far (x gb gk gr gl g : Nat) : Prop := x ≠ gb ∧ x ≠ gk ∧ x ≠ gr ∧ x ≠ gl ∧ x ≠ g
theorem Two.farOf (h : Two w B gb gk gr gl g c P es cur last vo) {x : Nat} (hx : w.heap.size ≤ x) : Far x gb gk gr gl g := by
  have := h.lt
  unfold Far
  omega
theorem Two.far (h : Two w B gb gk gr gl g c P es cur last vo) {x : Nat} (hg : w.grownBy w' (some x)) (hx : Far x gb gk gr gl g) : Two w' B gb gk gr gl g c P es cur last vo := by
  obtain ⟨x1, x2, x3, x4, x5⟩ := hx
  obtain ⟨l1, l2, l3, l4, l5⟩ := h.lt
  have hb : ∀ y, y < w.heap.size → x ≠ y → w'.heap[y]? = w.heap[y]? := fun y hy hne => hg.block y hy (fun e => hne (by injection e with e; exact e.symm))
  obtain ⟨tl, h3⟩ := h.rf.row
  exact ⟨⟨(hb _ l1 x1).trans h.bk.box, (hb _ l2 x2).trans h.bk.row⟩, ⟨(hb _ l3 x3).trans h.rf.box, (hb _ l4 x4).trans h.rf.left, ⟨tl, (hb _ l5 x5).trans h3⟩, h.rf.cl⟩, h.ok, h.len, h.cl, h.vl, h.vs, h.low⟩
end
theorem RowAt.grown {w w' : World} {g : Nat} {bs : List Bk} {r : Option Nat} (h : RowAt w g bs) (hg : w.grownBy w' r) (hr : some g ≠ r) : RowAt w' g bs := (hg.block g (lt_of_block h) hr).trans h
theorem RowAt.olds {w : World} {g : Nat} {bs : List Bk} (h : RowAt w g bs) : ∀ b, some (⟨g, 0, none⟩ : Addr) = some b → ∀ j u, (flatK bs)[j]? = some u → w.cell? (b.add j) = some u := by
  intro b hb j u hu
  cases hb
  unfold RowAt at h
  rw [plain_add, Nat.zero_add]
  simp only [World.cell?, h]
  simpa using hu

theorem RowAt.any4 {w : World} {g : Nat} {bs : List Bk} (h : RowAt w g bs) (i : Nat) (hi : i < bs.length) : (∃ v, w.cell? ⟨g, i * 4, none⟩ = some v) ∧ (∃ v, w.cell? ⟨g, i * 4 + 1, none⟩ = some v) ∧ (∃ v, w.cell? ⟨g, i * 4 + 2, none⟩ = some v) ∧ ∃ v, w.cell? ⟨g, i * 4 + 3, none⟩ = some v :=
  ⟨⟨_, h.cell i 0 hi (by omega)⟩, ⟨_, h.cell i 1 hi (by omega)⟩, ⟨_, h.cell i 2 hi (by omega)⟩, ⟨_, h.cell i 3 hi (by omega)⟩⟩
/-- The first so many written over. -/
def fillB (bs : List Bk) (s : Int) (k : Nat) : List Bk := List.replicate k ⟨s, 0, false, 0⟩ ++ bs.drop k
theorem fillB_zero (bs : List Bk) (s : Int) : fillB bs s 0 = bs := by simp [fillB]
theorem fillB_len (bs : List Bk) (s : Int) (k : Nat) (h : k ≤ bs.length) : (fillB bs s k).length = bs.length := by simp [fillB]; omega
theorem fillB_step (bs : List Bk) (s : Int) (k : Nat) (h : k < bs.length) : (fillB bs s k).set k ⟨s, 0, false, 0⟩ = fillB bs s (k + 1) := by
  unfold fillB
  rw [List.set_append_right _ _ (by simp), List.length_replicate, Nat.sub_self, List.drop_eq_getElem_cons h, List.set_cons_zero, List.replicate_succ']
  simp
theorem fillB_get (bs : List Bk) (s : Int) (i : Nat) (h : i < bs.length) : (fillB bs s bs.length).getD i Bk.zero = ⟨s, 0, false, 0⟩ := by
  simp [fillB, List.getD_eq_getElem?_getD, h]
theorem below_far {U w w' : World} {B x : Nat} (h : Below B U w) (hB : B ≤ w.heap.size) (hg : w.grownBy w' (some x)) (hx : B ≤ x) : Below B U w' := by
  have hk : Grew w w' x x := Grew.ofk hg
  exact Grew.below h hB hk hx hx

/-- Two rows that are written over beside the books. -/
structure Fill (U w : World) (B gb gk gr gl g c : Nat) (P : Int) (es : List Ent) (cur last : Int) (vo : Option Nat) (gx gy k : Nat) : Prop where
  two : Two w B gb gk gr gl g c P es cur last vo
  bel : Below B U w
  siz : B ≤ w.heap.size
  rx : RowAt w gx (fillB (es.map Ent.bk) 74 k)
  ry : RowAt w gy (fillB (es.map Ent.bk) 75 k)
  fx : Far gx gb gk gr gl g
  fy : Far gy gb gk gr gl g
  ne : gx ≠ gy
  low : B ≤ gx ∧ B ≤ gy
section
variable {U w w' : World} {B gb gk gr gl g c : Nat} {P : Int} {es : List Ent} {cur last : Int} {vo : Option Nat} {gx gy k : Nat}
theorem Fill.first {w1 w2 : World} (h : Two w B gb gk gr gl g c P es cur last vo) (hu : Below B U w) (hB : B ≤ w.heap.size) (r1 : RowAt w1 w.heap.size (es.map Ent.bk)) (q1 : Below w.heap.size w w1) (r2 : RowAt w2 w1.heap.size (es.map Ent.bk)) (q2 : Below w1.heap.size w1 w2) : Fill U w2 B gb gk gr gl g c P es cur last vo w.heap.size w1.heap.size 0 := by
  have s1 := q1.size
  have h1 := h.below q1
  have s0 := lt_of_block r1
  refine ⟨h1.below q2, (hu.trans (q1.mono hB)).trans (q2.mono (by omega)), by have := q2.size; omega, ?_, ?_, h.farOf (Nat.le_refl _), h1.farOf (Nat.le_refl _), by omega, by omega⟩
  · rw [fillB_zero]; exact r1.below q2
  · rw [fillB_zero]; exact r2
theorem Fill.step (h : Fill U w B gb gk gr gl g c P es cur last vo gx gy k) (hk : k < es.length) : Fill U ((((((((w.setCell ⟨gx, k * 4, none⟩ (.int .i64 74)).setCell ⟨gx, k * 4 + 1, none⟩ (.int .u64 0)).setCell ⟨gx, k * 4 + 2, none⟩ (.bool false)).setCell ⟨gx, k * 4 + 3, none⟩ (.int .i64 0)).setCell ⟨gy, k * 4, none⟩ (.int .i64 75)).setCell ⟨gy, k * 4 + 1, none⟩ (.int .u64 0)).setCell ⟨gy, k * 4 + 2, none⟩ (.bool false)).setCell ⟨gy, k * 4 + 3, none⟩ (.int .i64 0)) B gb gk gr gl g c P es cur last vo gx gy (k + 1) := by
  obtain ⟨w1, hw1⟩ : ∃ w1, (((w.setCell ⟨gx, k * 4, none⟩ (.int .i64 74)).setCell ⟨gx, k * 4 + 1, none⟩ (.int .u64 0)).setCell ⟨gx, k * 4 + 2, none⟩ (.bool false)).setCell ⟨gx, k * 4 + 3, none⟩ (.int .i64 0) = w1 := ⟨_, rfl⟩
  have hl : k < (es.map Ent.bk).length := by simpa using hk
  have g1 : w.grownBy w1 (some gx) := by
    rw [← hw1]
    exact grownBy_trans (grownBy_trans (grownBy_trans (grown_set _ _ _ _) (grown_set _ _ _ _)) (grown_set _ _ _ _)) (grown_set _ _ _ _)
  have p1 : RowAt w1 gx (fillB (es.map Ent.bk) 74 (k + 1)) := by
    have := h.rx.put k (by rw [fillB_len _ _ _ (by omega)]; exact hl) ⟨74, 0, false, 0⟩
    rw [fillB_step _ _ _ hl] at this
    rw [← hw1]
    exact this
  have y1 := h.ry.grown g1 (fun e => h.ne (by injection e with e; exact e.symm))
  rw [hw1]
  obtain ⟨w2, hw2⟩ : ∃ w2, (((w1.setCell ⟨gy, k * 4, none⟩ (.int .i64 75)).setCell ⟨gy, k * 4 + 1, none⟩ (.int .u64 0)).setCell ⟨gy, k * 4 + 2, none⟩ (.bool false)).setCell ⟨gy, k * 4 + 3, none⟩ (.int .i64 0) = w2 := ⟨_, rfl⟩
  have g2 : w1.grownBy w2 (some gy) := by
    rw [← hw2]
    exact grownBy_trans (grownBy_trans (grownBy_trans (grown_set _ _ _ _) (grown_set _ _ _ _)) (grown_set _ _ _ _)) (grown_set _ _ _ _)
  have p2 : RowAt w2 gy (fillB (es.map Ent.bk) 75 (k + 1)) := by
    have := y1.put k (by rw [fillB_len _ _ _ (by omega)]; exact hl) ⟨75, 0, false, 0⟩
    rw [fillB_step _ _ _ hl] at this
    rw [← hw2]
    exact this
  rw [hw2]
  have b1 := below_far h.bel h.siz g1 h.low.1
  have z1 : B ≤ w1.heap.size := Nat.le_trans h.siz g1.size
  exact ⟨(h.two.far g1 h.fx).far g2 h.fy, below_far b1 z1 g2 h.low.2, Nat.le_trans z1 g2.size, p1.grown g2 (fun e => h.ne (by injection e)), p2, h.fx, h.fy, h.ne, h.low⟩
theorem Fill.read (h : Fill U w B gb gk gr gl g c P es cur last vo gx gy es.length) (i : Nat) (hi : i < es.length) : w.cell? ⟨gx, i * 4, none⟩ = some (.int .i64 74) ∧ w.cell? ⟨gy, i * 4, none⟩ = some (.int .i64 75) := by
  have hl : (es.map Ent.bk).length = es.length := by simp
  have h1 := h.rx.cell i 0 (by rw [fillB_len _ _ _ (by omega)]; omega) (by omega)
  have h2 := h.ry.cell i 0 (by rw [fillB_len _ _ _ (by omega)]; omega) (by omega)
  have e1 := fillB_get (es.map Ent.bk) 74 i (by omega)
  have e2 := fillB_get (es.map Ent.bk) 75 i (by omega)
  rw [hl] at e1 e2
  rw [e1] at h1
  rw [e2] at h2
  exact ⟨h1, h2⟩
theorem Fill.below (h : Fill U w B gb gk gr gl g c P es cur last vo gx gy k) (hb : Below w.heap.size w w') : Fill U w' B gb gk gr gl g c P es cur last vo gx gy k :=
  ⟨h.two.below hb, h.bel.trans (hb.mono h.siz), Nat.le_trans h.siz hb.size, h.rx.below hb, h.ry.below hb, h.fx, h.fy, h.ne, h.low⟩
end

/-- A row without room, one block more: the last one's State. -/
theorem append_last {w : World} {ops : Array Oper} {rest : List Oper} {o : Oper} {a : Act} {Q : Exit → Act → World → Prop} (hgd : o.guard = none) (s x : Operand)
    (ho : o.op = .call { callee := .builtin .append, args := #[s, x], argTypes := #[24, 24] }) (gx n : Nat) (bs : List Bk) (hb : bs.length = n) (hn : n ≤ 5000) (hr : RowAt w gx bs) (st : Int)
    (hs : a.eval s = .slice (some ⟨gx, 0, none⟩) n n) (hx : a.eval x = .slice (some ⟨w.heap.size, 0, none⟩) 1 1)
    (h : ∀ g' cap w', n + 1 ≤ cap → w'.cell? ⟨g', n * 4, none⟩ = some (.int .i64 st) → Below w.heap.size w w' → wpList Try.prog ops Q rest (a.put o.dst (.slice (some ⟨g', 0, none⟩) (n + 1) cap)) w') :
    wpList Try.prog ops Q (o :: rest) a (w.alloc (.cells #[.int .i64 st, .int .u64 0, .bool false, .int .i64 0] 34)) := by
  obtain ⟨i0, hi, hz0, hz1, hz2⟩ := info_parts info34
  have hq : Below w.heap.size w (w.alloc (.cells #[.int .i64 st, .int .u64 0, .bool false, .int .i64 0] 34)) := ba (Below.refl _ _)
  have hr1 := hr.below hq
  have hl := flatK_length bs
  refine wpList_append_grows _ hgd s x 24 ho 34 i0 _ 4 32 Try.underlying24 hi hz0 hz1 hz2 rfl (by decide) (some ⟨gx, 0, none⟩) n n (flatK bs) hs (fun q => by cases q) (by rw [hl, hb]) hr1.olds ⟨w.heap.size, 0, none⟩ 1 1 (flatK [⟨st, 0, false, 0⟩]) hx rfl ?_ (flatK_one _) (by omega) (by simp [maxLen]; omega) (by omega) ?_
  · intro j u hj
    exact World.news_of_block (heap_alloc_new w _) j u hj
  · intro v' w' own gr
    obtain ⟨g', cap, rfl, hc, _, _, _⟩ := own_shape own (by omega)
    refine h g' cap w' hc ?_ (hq.grown gr (by simp) (fun k hk => by cases hk))
    rw [World.ownsRow.cellAt own (n * 4) (by omega), ← hb, ← hl, List.getElem?_append_right (Nat.le_refl _), Nat.sub_self]
    rfl
/-- Commit's row, to be written over. -/
def GoneR (w : World) (v : Value) (n B gb gk gr gl g : Nat) : Prop := (v = .slice none 0 0 ∧ n = 0) ∨ ∃ gg cap cs, v = .slice (some ⟨gg, 0, none⟩) n cap ∧ w.heap[gg]? = some (.cells cs 3 (0, 0)) ∧ n ≤ cs.size ∧ Far gg gb gk gr gl g ∧ B ≤ gg
section
variable {U w w' : World} {B gb gk gr gl g c : Nat} {P : Int} {es : List Ent} {cur last : Int} {vo : Option Nat}
theorem GoneR.of {w2 : World} {v : Value} {n : Nat} {xs : List Value} (h : Two w B gb gk gr gl g c P es cur last vo) (hB : B ≤ w.heap.size) (o : w2.ownsRow w.heap.size 3 1 v n xs) : GoneR w2 v n B gb gk gr gl g := by
  rcases o.2 with hn | ⟨gg, cap, cu, hv, hb2, hh, h1, h2, h3, _⟩
  · exact Or.inl hn
  · exact Or.inr ⟨gg, cap, cu, hv, hh, by omega, h.farOf hb2, by omega⟩
theorem GoneR.drewN {v : Value} {n : Nat} (h : GoneR w v n B gb gk gr gl g) (k : Nat) : GoneR (w.drewN k) v n B gb gk gr gl g := by
  rcases h with h | ⟨gg, cap, cs, h1, h2, h3⟩
  · exact Or.inl h
  · exact Or.inr ⟨gg, cap, cs, h1, by rw [World.heap_drewN]; exact h2, h3⟩
theorem pair_commit2 (h : Two w B gb gk gr gl g c P es cur last vo) (hu : Below B U w) (hB : B ≤ w.heap.size) (hp : 4 ≤ P ∧ P ≤ 256) (b : Int) :
    ∃ (er : Int) (ds : List Nat), ds.length ≤ 5000 ∧ Calls Try.prog 21 #[.pointer (some ⟨gb, 0, none⟩), .int .i64 b] w fun e w1 => ∃ v1, e = .returned (.tuple #[v1, .int .i64 er]) ∧ Grew w w1 gb gk ∧ Calls Try.prog 31 #[.pointer (some ⟨gr, 0, none⟩), .int .i64 b] w1 fun e w2 => ∃ v2, e = .returned (.tuple #[v2, .int .i64 er]) ∧ RI w2 v1 ds ∧ RI w2 v2 ds ∧ GoneR w2 v1 ds.length B gb gk gr gl g ∧ NextT U w2 B gb gk gr gl g c P := by
  cases hb : hasOk es.length b with
  | false =>
    refine ⟨41, [], by simp, (commit_out gb gk P es cur last _ b w h.bk h.n hb).mono ?_⟩
    rintro e w1 ⟨rfl, rfl⟩
    refine ⟨_, rfl, Grew.refl _ _ _, (rcommit_out gr gl g c P es cur last _ b w h.rf h.n hb).mono ?_⟩
    rintro e w2 ⟨rfl, rfl⟩
    exact ⟨_, rfl, RI.nil _, RI.nil _, Or.inl ⟨rfl, rfl⟩, next_same h hu hB⟩
  | true =>
    have hb' := of_decide_eq_true hb
    obtain ⟨i, rfl⟩ := Int.eq_ofNat_of_zero_le hb'.1
    have hi : i < es.length := by omega
    by_cases hs : (es.getD i Ent.zero).s = 2
    · refine ⟨0, dooms es es.length, by have := dooms_le es es.length; have := h.n; omega, (commit_ok gb gk P es cur last _ i w h.bk h.n hi hs).mono ?_⟩
      rintro e w1 ⟨v1, rfl, o1, b1, g1⟩
      refine ⟨v1, rfl, g1, (rcommit_ok gr gl g c P es cur last _ i w1 (h.rf.grew h.bk g1) h.n hi hs h.ok.left).mono ?_⟩
      rintro e w2 ⟨v2, rfl, o2, r2, g2⟩
      obtain ⟨l1, l2, l3⟩ := h.rf.lt
      have o1' : w2.ownsRow w.heap.size 3 1 v1 (dooms es es.length).length (intsN (dooms es es.length)) := by
        refine ⟨o1.1, ?_⟩
        rcases o1.2 with hn | ⟨gg, cap, cu, hv, hb2, hh, rest⟩
        · exact Or.inl hn
        · exact Or.inr ⟨gg, cap, cu, hv, hb2, (g2.block gg (lt_of_block hh) (by omega) (by omega) (by omega)).trans hh, rest⟩
      refine ⟨v2, rfl, RI.own o1', RI.own o2, GoneR.of h hB o1', next_step h hu hB b1 g1 r2 g2 (h.ok.com hp.1) (by simp) h.cl h.vl (fun a ha => ?_)⟩
      rw [comD]
      have h1 := h.vs a ha
      unfold comE
      rw [if_neg (by omega)]
      exact h1
    · refine ⟨110, [], by simp, (commit_bad gb gk P es cur last _ i w h.bk h.n hi hs).mono ?_⟩
      rintro e w1 ⟨rfl, rfl⟩
      refine ⟨_, rfl, Grew.refl _ _ _, (rcommit_bad gr gl g c P es cur last _ i w h.rf h.n hi hs).mono ?_⟩
      rintro e w2 ⟨rfl, rfl⟩
      exact ⟨_, rfl, RI.nil _, RI.nil _, Or.inl ⟨rfl, rfl⟩, next_same h hu hB⟩
theorem NextT.drewN (h : NextT U w B gb gk gr gl g c P) (q : Nat) : NextT U (w.drewN q) B gb gk gr gl g c P := by
  obtain ⟨f1, f2, es', cur', last', vo', f3⟩ := h
  exact ⟨f1, below_drewN f2 _, es', cur', last', vo', f3.drewN _⟩
/-- One of Commit's numbers written over. -/
theorem GoneR.put {v : Value} {n j : Nat} {x : Value} (h : GoneR w v n B gb gk gr gl g) (k : NextT U w B gb gk gr gl g c P) (hj : j < n) : ∃ gg cap y, v = .slice (some ⟨gg, 0, none⟩) n cap ∧ w.cell? ⟨gg, j, none⟩ = some y ∧ w.frozen? ⟨gg, j, none⟩ = false ∧ GoneR (w.setCell ⟨gg, j, none⟩ x) v n B gb gk gr gl g ∧ NextT U (w.setCell ⟨gg, j, none⟩ x) B gb gk gr gl g c P := by
  rcases h with ⟨_, h0⟩ | ⟨gg, cap, cs, h1, h2, h3, h4, h5⟩
  · omega
  · have hg := grown_set w gg j x
    obtain ⟨f1, f2, es', cur', last', vo', f3⟩ := k
    have hjs : j < cs.size := by omega
    refine ⟨gg, cap, cs[j], h1, ?_, ?_, Or.inr ⟨gg, cap, cs.setIfInBounds j x, h1, heap_setCell_same w gg j _ 3 x h2, by simpa using h3, h4, h5⟩, Nat.le_trans f1 hg.size, below_far f2 f1 hg h5, es', cur', last', vo', f3.far hg h4⟩
    · simp [World.cell?, h2, hjs]
    · simp [World.frozen?, h2]
end

set_option maxRecDepth 100000 in
theorem freshBad (b P s3 : Int) (a : Option Addr) (len cap : Nat) (bs : List Bk) (cur last : Int) (ao : Option Addr) (lo co : Nat) (os : List Opn) (w : World) (hr : ReadsK w a len bs) (hl : len * 32 ≤ 140737488351232) (h : newE b P s3 len cur last bs ≠ 0) :
    Calls Try.prog 7 #[.agg #[.int .i64 b, .int .i64 P, .int .i64 s3], .slice a len cap, .int .i64 cur, .int .i64 last, .slice ao lo co] w fun e w' => e = .returned (.bool true) ∧ Below w.heap.size w w' := by
  have HR : Hid (ReadsK w a len bs) := hr
  have HE : Hid (newE b P s3 len cur last bs ≠ 0) := h
  clear hr h
  go_enter Try.func7, Try.ntmps7
  go_wp2_with (first | (go_at_call 8; refine (begun_bad b P s3 a len cap cur last bs _ (HR.out.below (ba (Below.refl _ _))) hl HE.out).mono ?_; rintro e u1 ⟨rfl, q1⟩; have Q1 : Hid (Below w.heap.size w u1) := (ba (Below.refl _ _)).trans (q1.mono (by simp)); clear q1))
  go_ret
  exact ⟨rfl, Q1.out⟩

set_option maxHeartbeats 8000000 in
set_option maxRecDepth 100000 in
theorem freshOk (b P s3 : Int) (a : Option Addr) (len cap : Nat) (bs : List Bk) (cur last : Int) (ao : Option Addr) (lo co : Nat) (os : List Opn) (w : World) (hr : ReadsK w a len bs) (hl : len * 32 ≤ 140737488351232) (hro : ReadsO w ao lo os) (hlo : lo * 32 ≤ 140737488351232) (h : newE b P s3 len cur last bs = 0) :
    Calls Try.prog 7 #[.agg #[.int .i64 b, .int .i64 P, .int .i64 s3], .slice a len cap, .int .i64 cur, .int .i64 last, .slice ao lo co] w fun e w' => e = .returned (.bool true) ∧ Below w.heap.size w w' := by
  obtain ⟨f1, f2, f3, f4, f5⟩ := newE_ok h
  subst f2
  have q3 := of_decide_eq_true f3
  have hb9 := fits_b f1
  have hp : 4 ≤ P ∧ P ≤ 256 := by omega
  have hbl := hr.1
  have hln : 8 ≤ len ∧ len ≤ 4096 := by omega
  have HM : Hid (MayF P bs) := may_facts f5
  have HR : Hid (ReadsK w a len bs) := hr
  have HRO : Hid (ReadsO w ao lo os) := hro
  have HE : Hid (newE len P s3 len cur last bs = 0) := h
  clear hr h f1 f3 f4 f5 hb9 hro
  go_enter Try.func7, Try.ntmps7
  go_wp2_with (first
    | (go_at_call 8; refine (begun_ok len P s3 a len cap cur last bs _ (HR.out.below (ba (Below.refl _ _))) hl HE.out).mono ?_; rintro e u1 ⟨gb, gk, gr, gl, v, rfl, K1, R1, q1, k1, k2⟩; obtain ⟨g, c, T1⟩ := two_first (w := w) hp HM.out hbl hln q3 K1 R1 (by simp) (by simp at k1; omega) (by simp at k2; omega); have HT1 : Hid (Two u1 w.heap.size gb gk gr gl g c P (bs.map Bk.ent) cur last none) := T1; have Q1 : Hid (Below w.heap.size w u1) := (ba (Below.refl _ _)).trans (q1.mono (by simp)); clear q1 k1 k2 K1 R1 T1))
  have N2 : Hid (NextT w u1 w.heap.size gb gk gr gl g c P) := next_same HT1.out Q1.out Q1.out.size
  clear HT1 Q1
  go_loopw [14, 15, 16, 17, 18, 19, 20, 21, 22, 23, 24, 25] (fun s14 s15 s16 s17 s18 s19 s20 s21 s22 s23 s24 s25 wr => ∃ k : Nat, k ≤ lo ∧ s14 = .int .i64 k ∧ Hid (NextT w wr w.heap.size gb gk gr gl g c P))
    (fun i _ _ _ _ _ _ _ _ _ _ _ _ => lo - (intOf i).toNat)
  case atStart => exact ⟨0, Nat.zero_le _, rfl, N2⟩
  case round =>
    obtain ⟨k, hk, rfl, HN⟩ := hrel
    obtain ⟨hB, hbw, es, cu, la, vo, hT⟩ := HN.out
    have HT : Hid _ := hT
    have HBW : Hid _ := hbw
    have hnn := hT.n
    clear hT hbw HN N2
    by_cases hlt : k < lo
    · obtain ⟨go, off, rfl, hg, hcell⟩ := HRO.out.pos (by omega)
      have hok := okAtO HRO.out.2.1 k (by have := HRO.out.1; omega)
      have hc9 := hcell k hlt
      obtain ⟨X, hX⟩ : ∃ X, os.getD k Opn.zero = X := ⟨_, rfl⟩
      rw [hX] at hc9 hok
      obtain ⟨kd, ob, om, oh⟩ := X
      have HC9 : Hid _ := hc9
      have HMO : Hid (Wf om) := hok.m
      have HHO : Hid (0 ≤ oh) := hok.h.1
      have dk : (k : Int) < lo := by omega
      clear hcell hX hok hc9
      go_wp2_with (first
        | (go_at_call 16; have h9 := HT; clear h9; refine (list_any gb gk P es cu la (optI vo) _ HT.out.bk hnn).mono ?_; rintro e t1 ⟨rfl, r1, q1⟩; have R1 : Hid (RowAt t1 wr.heap.size (es.map Ent.bk)) := r1; have Q1 : Hid (Below wr.heap.size wr t1) := q1; obtain ⟨gx, hgx⟩ : ∃ gx, wr.heap.size = gx := ⟨_, rfl⟩; rw [hgx]; have HGX : Hid _ := hgx; clear r1 q1 hgx)
        | (go_at_call 16; refine (list_any gb gk P es cu la (optI vo) _ (HT.out.below Q1.out).bk hnn).mono ?_; rintro e t2 ⟨rfl, r2, q2⟩; have HF : Hid (Fill w t2 w.heap.size gb gk gr gl g c P es cu la vo wr.heap.size t1.heap.size 0) := Fill.first HT.out HBW.out hB R1.out Q1.out r2 q2; obtain ⟨gy, hgy⟩ : ∃ gy, t1.heap.size = gy := ⟨_, rfl⟩; rw [hgy]; rw [hgy, HGX.out] at HF; clear r2 q2 hgy HGX R1 Q1 HT HBW hB))
      go_loopw [17] (fun s17 wr2 => ∃ k2 : Nat, k2 ≤ es.length ∧ s17 = .int .i64 k2 ∧ Hid (Fill w wr2 w.heap.size gb gk gr gl g c P es cu la vo gx gy k2))
        (fun i _ => es.length - (intOf i).toNat)
      case atStart => exact ⟨0, Nat.zero_le _, rfl, HF⟩
      case round =>
        obtain ⟨k2, hk2, rfl, HF2⟩ := hrel
        clear HF
        by_cases hlt2 : k2 < es.length
        · have hbl2 : (es.map Ent.bk).length = es.length := by simp
          have hfl1 := fillB_len (es.map Ent.bk) 74 k2 (by omega)
          have hfl2 := fillB_len (es.map Ent.bk) 75 k2 (by omega)
          obtain ⟨x0, x1, x2, x3⟩ := HF2.out.rx.any4 k2 (by omega)
          obtain ⟨y0, y1, y2, y3⟩ := HF2.out.ry.any4 k2 (by omega)
          obtain ⟨X0, x0⟩ := x0
          obtain ⟨X1, x1⟩ := x1
          obtain ⟨X2, x2⟩ := x2
          obtain ⟨X3, x3⟩ := x3
          obtain ⟨Y0, y0⟩ := y0
          obtain ⟨Y1, y1⟩ := y1
          obtain ⟨Y2, y2⟩ := y2
          obtain ⟨Y3, y3⟩ := y3
          have m0 := HF2.out.rx.free (k2 * 4)
          have m1 := HF2.out.rx.free (k2 * 4 + 1)
          have m2 := HF2.out.rx.free (k2 * 4 + 2)
          have m3 := HF2.out.rx.free (k2 * 4 + 3)
          have n0 := HF2.out.ry.free (k2 * 4)
          have n1 := HF2.out.ry.free (k2 * 4 + 1)
          have n2 := HF2.out.ry.free (k2 * 4 + 2)
          have n3 := HF2.out.ry.free (k2 * 4 + 3)
          have ne1 : ¬ (gx = gy) := HF2.out.ne
          have ne2 : ¬ (gy = gx) := fun e => HF2.out.ne e.symm
          have d2 : (k2 : Int) < es.length := by omega
          have HST : Hid _ := HF2.out.step hlt2
          clear hfl1 hfl2 hbl2
          go_wp2
          go_roundw
          case rel => exact ⟨k2 + 1, by omega, by go_num, HST⟩
          case measure => simp [intOf]; omega
        · obtain rfl : k2 = es.length := by omega
          have hbl2 : (es.map Ent.bk).length = es.length := by simp
          have HFL1 : Hid _ := fillB_len (es.map Ent.bk) 74 es.length (by omega)
          have HFL2 : Hid _ := fillB_len (es.map Ent.bk) 75 es.length (by omega)
          have HBL : Hid _ := hbl2
          have dn : (es.length : Int) < (es.length : Int) + 1 := by omega
          clear hlt2 hk2 hbl2
          go_wp2_with (first
            | (at_builtin; refine append_last rfl (.tmp 66) (.tmp 68) rfl gx es.length _ (HFL1.out.trans HBL.out) hnn HF2.out.rx 76 rfl rfl ?_; intro g1 cap1 t3 hc1 ce1 q3; have HF3 : Hid _ := HF2.out.below q3; clear q3)
            | (at_builtin; refine append_last rfl (.tmp 70) (.tmp 72) rfl gy es.length _ (HFL2.out.trans HBL.out) hnn HF3.out.ry 77 rfl rfl ?_; intro g2 cap2 t4 hc2 ce2 q4; have HF4 : Hid (Fill w t4 w.heap.size gb gk gr gl g c P es cu la vo gx gy es.length) := HF3.out.below q4; rw [← q4.cell (block_lt_of_cell ce1)] at ce1; clear q4 HF3 HF2))
          clear ce1 ce2 HFL1 HFL2 HBL
          go_loopw [20] (fun s20 wr3 => ∃ k3 : Nat, k3 ≤ es.length ∧ s20 = .int .i64 k3 ∧ wr3 = t4)
            (fun i _ => es.length - (intOf i).toNat)
          case atStart => exact ⟨0, Nat.zero_le _, rfl, rfl⟩
          case round =>
            obtain ⟨k3, hk3, rfl, rfl⟩ := hrel
            by_cases hlt3 : k3 < es.length
            · obtain ⟨x0, y0⟩ := HF4.out.read k3 hlt3
              have d3 : (k3 : Int) < es.length := by omega
              go_wp2
              go_roundw
              case rel => exact ⟨k3 + 1, by omega, by go_num, by first | trivial | rfl⟩
              case measure => simp [intOf]; omega
            · obtain rfl : k3 = es.length := by omega
              obtain ⟨c0, c1, c2, c3⟩ := HC9.out
              rw [← HF4.out.bel.cell hg] at c0 c1 c2 c3
              clear hlt3 hk3
              by_cases h9 : kd = 9
              · subst h9
                clear c2 c3 HMO HHO
                obtain ⟨er, ds, hdl, hpp⟩ := pair_commit2 HF4.out.two HF4.out.bel HF4.out.siz hp ob
                have HPP : Hid (Calls Try.prog 21 _ _ _) := hpp
                clear hpp
                have HZ1 : Hid (∀ u, Grew _ u gb gk → u.cell? _ = some (.int .i64 ob)) := fun u hu => by
                  have hb5 : Below w.heap.size w u := Grew.below HF4.out.bel HF4.out.siz hu HF4.out.two.low.1 HF4.out.two.low.2.1
                  exact (hb5.cell hg).trans HC9.out.2.1
                go_wp2_with (first
                  | (go_at_call 21; refine Calls.mono HPP.out ?_; rintro e t5 ⟨v1, rfl, g1, nx⟩; have NX : Hid (Calls Try.prog 31 _ t5 _) := nx; have z1 := HZ1.out t5 g1; clear nx g1)
                  | (go_at_call 31; refine Calls.mono NX.out ?_; rintro e t6 ⟨v2, rfl, i1, i2, gn, fin⟩; have FIN : Hid _ := fin; have HI1 : Hid (RI t6 v1 ds) := i1; have HI2 : Hid (RI t6 v2 ds) := i2; have HG : Hid (GoneR t6 v1 ds.length w.heap.size gb gk gr gl g) := gn; obtain ⟨a1, cp1, hv1, _, _⟩ := i1; subst hv1; clear fin i2 gn)
                  | (go_at_call 32; refine (sameInts_eq _ v2 ds _ HI1.out HI2.out hdl).mono ?_; rintro e t7 ⟨rfl, q7, rfl⟩; have HG7 : Hid _ := GoneR.drewN HG.out q7; have FI7 : Hid (NextT w (t6.drewN q7) w.heap.size gb gk gr gl g c P) := NextT.drewN FIN.out q7; clear HG FIN HI1 HI2))
                go_loopw [25] (fun s25 wr4 => ∃ k4 : Nat, k4 ≤ ds.length ∧ s25 = .int .i64 k4 ∧ Hid (GoneR wr4 (.slice a1 ds.length cp1) ds.length w.heap.size gb gk gr gl g) ∧ Hid (NextT w wr4 w.heap.size gb gk gr gl g c P))
                  (fun i _ => ds.length - (intOf i).toNat)
                case atStart => exact ⟨0, Nat.zero_le _, rfl, HG7, FI7⟩
                case round =>
                  obtain ⟨k4, hk4, rfl, HG4, HN4⟩ := hrel
                  clear HG7 FI7
                  by_cases hlt4 : k4 < ds.length
                  · obtain ⟨gg, cap4, y4, hv4, ce4, fr4, G4, N4⟩ := GoneR.put (x := .int .i64 (-1)) HG4.out HN4.out hlt4
                    injection hv4 with hv4 _ hv5
                    subst hv4 hv5
                    have G5 : Hid _ := G4
                    have N5 : Hid _ := N4
                    have d4 : (k4 : Int) < ds.length := by omega
                    clear G4 N4
                    go_wp2
                    go_roundw
                    case rel => exact ⟨k4 + 1, by omega, by go_num, G5, N5⟩
                    case measure => simp [intOf]; omega
                  · obtain rfl : k4 = ds.length := by omega
                    obtain ⟨hB1, hb1, es1, cu1, la1, vo1, hT1⟩ := HN4.out
                    have HT9 : Hid _ := hT1
                    have HB9 : Hid _ := hb1
                    clear hb1 hT1 hlt4
                    go_wp2_with (first
                      | (go_at_call 29; refine (alike_any _ gb gk gr gl g c P es1 cu1 la1 vo1 _ HT9.out hp).mono ?_; rintro e t8 ⟨rfl, q2⟩; have N9 : Hid (NextT w t8 w.heap.size gb gk gr gl g c P) := next_below HT9.out HB9.out HB9.out.size q2; clear q2))
                    go_roundw
                    case rel => exact ⟨k + 1, by omega, by go_num, N9⟩
                    case measure => simp [intOf]; omega
              · have h9b : (kd == 9) = false := by simpa using h9
                go_wp2_with (first
                  | (go_at_call 30; refine (do_any w _ gb gk gr gl g c P es cu la vo _ HF4.out.two HF4.out.bel HF4.out.siz hp kd ob om oh HMO.out HHO.out).mono ?_; rintro e t5 ⟨rfl, n1⟩; obtain ⟨hB1, hb1, es1, cu1, la1, vo1, hT1⟩ := n1; have HT9 : Hid (Two t5 w.heap.size gb gk gr gl g c P es1 cu1 la1 vo1) := hT1; have HB9 : Hid (Below w.heap.size w t5) := hb1; clear hb1 hT1)
                  | (go_at_call 29; refine (alike_any _ gb gk gr gl g c P es1 cu1 la1 vo1 _ HT9.out hp).mono ?_; rintro e t6 ⟨rfl, q2⟩; have N9 : Hid (NextT w t6 w.heap.size gb gk gr gl g c P) := next_below HT9.out HB9.out HB9.out.size q2; clear q2))
                go_roundw
                case rel => exact ⟨k + 1, by omega, by go_num, N9⟩
                case measure => simp [intOf]; omega
    · have hkn : k = lo := by omega
      subst hkn
      go_wp2_with (first
        | (go_at_call 29; refine (alike_any _ gb gk gr gl g c P es cu la vo _ HT.out hp).mono ?_; rintro e t9 ⟨rfl, q9⟩; have Q9 : Hid (Below w.heap.size w t9) := HBW.out.trans (q9.mono hB); clear q9))
      go_ret
      exact ⟨rfl, Q9.out⟩
end Go.Proofs.Ytgijbpkfheillaa
namespace Go.Proofs.Ytgijbpkfheillaa.blocksFresh
set_option linter.unusedVariables false
open Go.ChangeShapes Go.WideShapes Go.ChangeAt Go.RowKit Go.Joins

theorem walk (b P s3 : Int) (a : Option Addr) (len cap : Nat) (bs : List Bk) (cur last : Int) (ao : Option Addr) (lo co : Nat) (os : List Opn) (w : World) (hb : Wf b) (hP : Wf P) (hs : Wf s3) (hr : ReadsK w a len bs) (hl : len * 32 ≤ 140737488351232) (hc : Wf cur) (hla : Wf last) (hro : ReadsO w ao lo os) (hlo : lo * 32 ≤ 140737488351232) :
    Calls Try.prog 7 #[.agg #[.int .i64 b, .int .i64 P, .int .i64 s3], .slice a len cap, .int .i64 cur, .int .i64 last, .slice ao lo co] w fun e w' => e = .returned (.bool true) ∧ Below w.heap.size w w' := by
  by_cases h : newE b P s3 len cur last bs = 0
  · exact freshOk b P s3 a len cap bs cur last ao lo co os w hr hl hro hlo h
  · exact freshBad b P s3 a len cap bs cur last ao lo co os w hr hl h

set_option maxHeartbeats 1000000 in
set_option maxRecDepth 100000 in
theorem lifted (os : Os) (started : os.Started) (H : Type) (enc : TypeId × Value → H) :
    ReturnsInHanded {} Try.checked os 7 .any (Rows.blocksFreshSpec.pre6 enc Try.prog Try.f7 Rows.blocksFreshRow.domain false) (Rows.blocksFreshSpec.post enc Try.prog Try.f7 false true false false) := by
  refine returnsInHanded_of_change_sized (C := Try.checked) own started (by kernel_rfl) Try.func7
    (ChangeSpec.witness6 (enc := enc) (C := Try.checked) false ⟨#[], #[.agg #[.int .i64 0, .int .i64 0, .int .i64 0], .slice none 0 0, .int .i64 0, .int .i64 0, .slice none 0 0], []⟩ 8 (by kernel_rfl) (by kernel_rfl) (by kernel_rfl) (by kernel_rfl)) ?_
  intro W base args ds gs before hval0 hW hcnd hsz0 _
  have hval : ∀ (j : Nat) t v, Try.f7.params[j]? = some t → args[j]? = some v → Value.okWide Try.prog W .any base t v := hval0
  have hsz : (DataW.weightsEach Try.prog (Try.f7.params.toList ++ Rows.blocksFreshSpec.plain.varTypes Try.prog) (ds ++ gs)).all (· ≤ reachBytes) = true := hsz0
  clear hsz0
  have hW' := hW
  obtain ⟨pp, q, hA0, hV, rfl, hfz, hnd⟩ := hW
  have hA : DataW.TrodAll enc Try.prog W 0 (fun _ => true) true Try.f7.params.toList args.toList ds pp := hA0
  rw [Try.params7] at hA hval hsz
  obtain ⟨v0, vs0, d0, ds0, p0, q0, hargs, rfl, rfl, h0, r0⟩ := trodAll_cons hA
  obtain ⟨v1, vs1, d1, ds1, p1, q1, rfl, rfl, rfl, h1, r1⟩ := trodAll_cons r0
  obtain ⟨v2, vs2, d2, ds2, p2, q2, rfl, rfl, rfl, h2, r2⟩ := trodAll_cons r1
  obtain ⟨v3, vs3, d3, ds3, p3, q3, rfl, rfl, rfl, h3, r3⟩ := trodAll_cons r2
  obtain ⟨v4, vs4, d4, ds4, p4, q4, rfl, rfl, rfl, h4, r4⟩ := trodAll_cons r3
  obtain ⟨rfl, rfl, rfl⟩ := trodAll_nil r4
  obtain rfl : args = #[v0, v1, v2, v3, v4] := by cases args; simp_all
  obtain ⟨rfl, rfl⟩ := trodVars_none hV
  have k0 := h0
  have lt0 : ∀ x ∈ p0, x.block < W.heap.size := by obtain ⟨m, hm⟩ := k0; exact DataW.trod_lt m _ _ _ hm
  obtain ⟨x00, x01, x02, y00, y01, y02, m0, rfl, rfl, rfl, hy00, hy01, hy02⟩ := open_agg3 Try.underlying23 (by kernel_rfl) cells23 (hval 0 23 v0 rfl rfl) h0
  obtain ⟨g00, e00, rfl, wg00⟩ := DataW.trod_int Try.underlying3 hy00
  obtain ⟨g01, e01, rfl, wg01⟩ := DataW.trod_int Try.underlying3 hy01
  obtain ⟨g02, e02, rfl, wg02⟩ := DataW.trod_int Try.underlying3 hy02
  simp at e00 e01 e02
  subst e00 e01 e02
  have k1 := h1
  have lt1 : ∀ x ∈ p1, x.block < W.heap.size := by obtain ⟨m, hm⟩ := k1; exact DataW.trod_lt m _ _ _ hm
  obtain ⟨a1, l1, c1, z1, rfl, rd1, sz1⟩ := open_blocks (hval 1 24 v1 rfl rfl) h1
  have s1 : l1 * 32 ≤ 140737488351232 := by
    rcases sz1 with h | ⟨el, sp, hd, hle⟩
    · omega
    · have hw := sized_slice hsz (j := 1) (t := 24) (e := 34) rfl (congrArg some hd) Try.underlying24
      rw [bytes34] at hw
      simp only [reachBytes] at hw
      omega
  have k2 := h2
  have lt2 : ∀ x ∈ p2, x.block < W.heap.size := by obtain ⟨m, hm⟩ := k2; exact DataW.trod_lt m _ _ _ hm
  obtain ⟨i2, rfl, rfl, rfl, wi2⟩ := open_int Try.underlying3 (hval 2 3 v2 rfl rfl) h2
  have k3 := h3
  have lt3 : ∀ x ∈ p3, x.block < W.heap.size := by obtain ⟨m, hm⟩ := k3; exact DataW.trod_lt m _ _ _ hm
  obtain ⟨i3, rfl, rfl, rfl, wi3⟩ := open_int Try.underlying3 (hval 3 3 v3 rfl rfl) h3
  have k4 := h4
  have lt4 : ∀ x ∈ p4, x.block < W.heap.size := by obtain ⟨m, hm⟩ := k4; exact DataW.trod_lt m _ _ _ hm
  obtain ⟨a4, l4, c4, z4, rfl, rd4, sz4⟩ := open_ops (hval 4 48 v4 rfl rfl) h4
  have s4 : l4 * 32 ≤ 140737488351232 := by
    rcases sz4 with h | ⟨el, sp, hd, hle⟩
    · omega
    · have hw := sized_slice hsz (j := 4) (t := 48) (e := 50) rfl (congrArg some hd) Try.underlying48
      rw [bytes50] at hw
      simp only [reachBytes] at hw
      omega
  clear hA0 hval0
  refine (walk g00 g01 g02 a1 l1 c1 z1 i2 i3 a4 l4 c4 z4 W (wf_of wg00) (wf_of wg01) (wf_of wg02) rd1 s1 (wf_of wi2) (wf_of wi3) rd4 s4).mono fun e W' ⟨he, bel⟩ => ?_
  subst he
  exact ⟨_, rfl, _, _, _, [], _, [], hW', trodAll_mk1 (shut_bool Try.underlying4 _), (trodAll_cons_mk (Below.trod laidOut (by kernel_rfl) (of_decide_eq_true (by kernel_rfl)) k0 bel lt0) (trodAll_cons_mk (Below.trod laidOut (by kernel_rfl) (of_decide_eq_true (by kernel_rfl)) k1 bel lt1) (trodAll_cons_mk (Below.trod laidOut (by kernel_rfl) (of_decide_eq_true (by kernel_rfl)) k2 bel lt2) (trodAll_cons_mk (Below.trod laidOut (by kernel_rfl) (of_decide_eq_true (by kernel_rfl)) k3 bel lt3) (trodAll_cons_mk (Below.trod laidOut (by kernel_rfl) (of_decide_eq_true (by kernel_rfl)) k4 bel lt4) trodAll_mk0))))), rfl, bel.frame _, fun h => by cases h⟩

theorem over : Rows.blocksFreshRow.holds Try.pinned (OpenSpec.ofChange Rows.blocksFreshSpec) :=
  OpenClaim.holds_of_wide 7 Try.f7 rfl rfl rfl rfl rfl rfl rfl ⟨rfl, rfl, rfl, rfl, rfl⟩ rfl rfl rfl rfl rfl (by kernel_rfl) Try.func7 (by kernel_rfl)
    (of_decide_eq_true (by kernel_rfl)) (by unfold Func.isWrapper; first | (rw [if_pos (by decide +kernel)]; kernel_rfl) | (rw [if_neg (by decide +kernel)]; exact ⟨rfl, rfl⟩))
    (fun os started H enc _ => lifted os started H enc)

end Go.Proofs.Ytgijbpkfheillaa.blocksFresh
namespace Go.Proofs.Ytgijbpkfheillaa
theorem blocksFresh_holds : Rows.BlocksFreshSaid := blocksFresh.over
#print axioms blocksFresh_holds
end Go.Proofs.Ytgijbpkfheillaa
