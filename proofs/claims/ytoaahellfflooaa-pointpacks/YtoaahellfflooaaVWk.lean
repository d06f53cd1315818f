/-
  SEAT Ytoaahellfflooaa.
-/
import Derived.Test.YtoaahellfflooaaVWd
namespace Go.Proofs.Ytoaahellfflooaa
open Go.RowKit
set_option linter.unusedVariables false

/-- Two operations come up, and the first of them yields its value ahead of the other and behind it (S'): it is taken first. -/
theorem wpAnyH_two {P : Program} {md : Region.Mode} {ops : Array Oper} {Q : Exit → Act → World → Prop} {S S' : World → Prop} {i j : Nat} {oi oj : Oper} {v : Value} {fuel : Nat} {listed : Array Bool} {a : Act} {w : World}
    (hi : ops[i]? = some oi) (hj : ops[j]? = some oj) (hne : i ≠ j) (hs : Region.noSelect ops = true) (hap : oi.apart ops oj = true)
    (rs : List Nat) (hrs : rs ≠ [] ∧ ∀ k ∈ rs, k = i ∨ k = j) (hr : Region.ready md ops listed = rs) (hri : Region.ready md ops (listed.setIfInBounds i true) = [j]) (hrj : Region.ready md ops (listed.setIfInBounds j true) = [i])
    (hQ : ∀ c a w, Q (.panic c) (a.put oi.dst v) w → Q (.panic c) a w) (hy : YieldsIf P ops S' oi v a) (hS : S w) (hS' : S' w)
    (h : ∀ K' : Act → World → Prop, Shut (∀ a w, S w → S' w → (wpAnyH P md ops Q S fuel ((listed.setIfInBounds i true).setIfInBounds j true) a w) → K' a w) → if Region.wanted oj (yielded ops (a.put oi.dst v).tmps) = true then Oper.wp P oj (a.put oi.dst v) w K' Q else K' ((a.put oi.dst v).put oj.dst undef) w) :
    wpAnyH P md ops Q S (fuel + 2) listed a w := by
  have hw : wpOp P ops Q j (fun a' w' => S w' ∧ S' w' ∧ wpAnyH P md ops Q S fuel ((listed.setIfInBounds i true).setIfInBounds j true) a' w') (a.put oi.dst v) w :=
    wpOp_step hj (fun K' hK => h K' (fun a w h1 h2 h3 => hK a w ⟨h1, h2, h3⟩))
  refine wpAnyH_all hr hrs.1 fun k hk => ?_
  rcases hrs.2 k hk with rfl | rfl
  · refine YieldsIf.wpOp hi hy hS' ⟨hS, wpAnyH_all hri (by simp) fun k' hk' => ?_⟩
    obtain rfl : k' = j := by simpa using hk'
    exact wpOp_mono (fun a w h => ⟨h.1, h.2.2⟩) hw
  · have hsel := Region.noSelect_spec hs
    refine wpOp_mono (fun a' w' h => ?_) (wpOp_putIf hj hap (hsel i oi · · hi) (hsel k oj · · hj) hQ hy hw)
    obtain ⟨hy', h1, h2, h3⟩ := h
    refine ⟨h1, wpAnyH_all hrj (by simp) fun k' hk' => ?_⟩
    obtain rfl : k' = i := by simpa using hk'
    refine YieldsIf.wpOp hi hy' h2 ⟨h1, ?_⟩
    rw [Array.setIfInBounds_comm _ _ (Ne.symm hne)]
    exact h3
/-- The same in few words: i yields ahead of j and behind it. -/
theorem tw {P : Program} {md : Region.Mode} {ops : Array Oper} {Q : Exit → Act → World → Prop} {S : World → Prop} {fuel : Nat} {listed : Array Bool} {a a' : Act} {w : World} {oi oj : Oper} {v : Value} (i j : Nat) (rs : List Nat) (S' : World → Prop)
    (h : ∀ K' : Act → World → Prop, Shut (∀ a w, S w → S' w → (wpAnyH P md ops Q S fuel ((listed.setIfInBounds i true).setIfInBounds j true) a w) → K' a w) → Oper.wp P oj a' w K' Q) (hS' : S' w)
    (hi : ops[i]? = some oi := by (simp only [List.getElem?_toArray, List.getElem?_cons_zero, List.getElem?_cons_succ]; exact rfl)) (hj : ops[j]? = some oj := by (simp only [List.getElem?_toArray, List.getElem?_cons_zero, List.getElem?_cons_succ]; exact rfl))
    (hne : i ≠ j := by decide) (hs : Region.noSelect ops = true := by kernel_rfl) (hap : oi.apart ops oj = true := by kernel_rfl) (hrs : rs ≠ [] ∧ ∀ k ∈ rs, k = i ∨ k = j := by simp) (hr : Region.ready md ops listed = rs := by kernel_rfl) (hri : Region.ready md ops (listed.setIfInBounds i true) = [j] := by kernel_rfl) (hrj : Region.ready md ops (listed.setIfInBounds j true) = [i] := by kernel_rfl)
    (hg : Region.wanted oi (yielded ops a.tmps) = true := by rfl) (hy : ∀ w, S' w → (execOp a.eval oi).run P w = .ok (.value v) w := by (intro x hx; (try dsimp only at hx); go_simp; try with_reducible rfl)) (ha : a.put oi.dst v = a' := by ((try simp only [Act.put, List.setIfInBounds_toArray, List.set_cons_zero, List.set_cons_succ]); exact rfl))
    (hgj : Region.wanted oj (yielded ops a'.tmps) = true := by rfl)
    (hQ : ∀ c a w, Q (.panic c) (a.put oi.dst v) w → Q (.panic c) a w := by exact fun _ _ _ h => h) (hS : S w := by assumption) : wpAnyH P md ops Q S (fuel + 2) listed a w := by
  subst ha
  exact wpAnyH_two hi hj hne hs hap rs hrs hr hri hrj hQ (Or.inl ⟨hg, hy⟩) hS hS' (fun K' hK => (if_pos hgj).symm ▸ h K' hK)

section
variable {w : World} {o : Oper} {a : Act}
theorem append_none_run {base : Nat} {E : TypeId} {i : TypeInfo} {size : Nat} {T : TypeId} (ht : Try.prog.underlying T = some (.slice E)) (hi : Try.prog.info? E = some i) (v : Value) (n : Nat) (xs : List Value) (hown : w.ownsRow base E size v n xs) (c : Nat) (ty : TypeId) : (Builtin.append_ #[T, T] ty #[v, .slice none 0 c]).run Try.prog w = .ok v w := by
  rcases hown.2 with ⟨rfl, rfl⟩ | ⟨g, cap, cur, rfl, _, _, hnc, _⟩
  · simp [Builtin.append_, run_underlying ht, sizeOf, typeInfo, hi, Builtin.lenOf, Builtin.firstCells]
  · simp [Builtin.append_, run_underlying ht, sizeOf, typeInfo, hi, Builtin.lenOf, Builtin.firstCells, hnc, storeCells]
theorem wp_append_src {K : Act → World → Prop} {Q : Exit → Act → World → Prop} (s x : Operand) (T : TypeId)
    (ho : o.op = .call { callee := .builtin .append, args := #[s, x], argTypes := #[T, T] })
    (base : Nat) (E : TypeId) (i : TypeInfo) (z : Value) (size bytes : Nat) (ht : Try.prog.underlying T = some (.slice E)) (hi : Try.prog.info? E = some i) (hz : i.zero = some z)
    (hsize : i.size = size) (hby : i.bytes = bytes) (hzs : z.cells.size = size) (hsz : 0 < size)
    (v : Value) (n : Nat) (xs : List Value) (hs : a.eval s = v) (hown : w.ownsRow base E size v n xs)
    (ad : Option Addr) (m c : Nat) (news : List Value) (hx : a.eval x = .slice ad m c) (hrd : ReadsL w ad m size news) (h1 : ∀ u ∈ news, u.oneCell' = true)
    (h63 : n + m ≤ maxLen) (hbytes : (n + m) * bytes ≤ 140737488355328) (hbase : base ≤ w.heap.size)
    (h : ∀ v' w', w'.ownsRow base E size v' (n + m) (xs ++ news) → w.grownBy w' v.ownBlock → K (a.put o.dst v') w') : o.wp Try.prog a w K Q := by
  cases ad with
  | some ad =>
    refine wp_append_own w s x T ho base E i z size bytes ht hi hz hsize hby hzs hsz v n _ hs hown ad m c news hx hrd.1 (hrd.2.2 ad rfl) h1 h63 hbytes hbase ?_
    intro v' w' h1 h2 _
    exact h v' w' h1 h2
  | none =>
    have h0 := hrd.2.1 rfl
    subst h0
    have hz0 : news = [] := List.eq_nil_of_length_eq_zero (by have := hrd.1; omega)
    subst hz0
    unfold Oper.wp
    simp [execOp, ho, resolve, invoke, builtin, hs, hx, append_none_run ht hi v n xs hown c, Result.andThen]
    exact h v w (by simpa using hown) (World.grownBy.refl _ _)
theorem wpList_append_src {ops : Array Oper} {rest : List Oper} {Q : Exit → Act → World → Prop} (hgd : o.guard = none) (s x : Operand) (T : TypeId)
    (ho : o.op = .call { callee := .builtin .append, args := #[s, x], argTypes := #[T, T] })
    (base : Nat) (E : TypeId) (i : TypeInfo) (z : Value) (size bytes : Nat) (ht : Try.prog.underlying T = some (.slice E)) (hi : Try.prog.info? E = some i) (hz : i.zero = some z)
    (hsize : i.size = size) (hby : i.bytes = bytes) (hzs : z.cells.size = size) (hsz : 0 < size)
    (v : Value) (n : Nat) (xs : List Value) (hs : a.eval s = v) (hown : w.ownsRow base E size v n xs)
    (ad : Option Addr) (m c : Nat) (news : List Value) (hx : a.eval x = .slice ad m c) (hrd : ReadsL w ad m size news) (h1 : ∀ u ∈ news, u.oneCell' = true)
    (h63 : n + m ≤ maxLen) (hbytes : (n + m) * bytes ≤ 140737488355328) (hbase : base ≤ w.heap.size)
    (h : ∀ v' w', w'.ownsRow base E size v' (n + m) (xs ++ news) → w.grownBy w' v.ownBlock → wpList Try.prog ops Q rest (a.put o.dst v') w') : wpList Try.prog ops Q (o :: rest) a w :=
  wpList_plain hgd fun K hK => wp_append_src s x T ho base E i z size bytes ht hi hz hsize hby hzs hsz v n xs hs hown ad m c news hx hrd h1 h63 hbytes hbase (fun v' w' h2 h3 => hK _ _ (h v' w' h2 h3))
end

/-- Of what was there only what F tells is written. -/
structure Only (F : Nat → Prop) (w w' : World) : Prop where
  os : w'.os = w.os
  tape : w'.tape = w.tape
  output : w'.output = w.output
  size : w.heap.size ≤ w'.heap.size
  block : ∀ k, k < w.heap.size → ¬ F k → w'.heap[k]? = w.heap[k]?
section
variable {F G : Nat → Prop} {a b c : World}
theorem Only.refl (F : Nat → Prop) (a : World) : Only F a a := ⟨rfl, rfl, rfl, Nat.le_refl _, fun _ _ _ => rfl⟩
theorem Only.trans (h : Only F a b) (k : Only G b c) (hG : ∀ j, j < a.heap.size → G j → F j) : Only F a c :=
  ⟨k.os.trans h.os, k.tape.trans h.tape, k.output.trans h.output, Nat.le_trans h.size k.size, fun i hi hf => (k.block i (Nat.lt_of_lt_of_le hi h.size) (fun g => hf (hG i hi g))).trans (h.block i hi hf)⟩
theorem Only.trans' (h : Only F a b) (k : Only F b c) : Only F a c := h.trans k (fun _ _ h => h)
theorem Only.mono (h : Only F a b) (hG : ∀ j, j < a.heap.size → F j → G j) : Only G a b :=
  ⟨h.os, h.tape, h.output, h.size, fun i hi hf => h.block i hi (fun g => hf (hG i hi g))⟩
theorem Only.ofB (h : Below a.heap.size a b) : Only F a b := ⟨h.os, h.tape, h.output, h.size, fun k hk _ => h.block k hk⟩
theorem Only.ofG {r : Option Nat} (h : a.grownBy b r) (hr : ∀ j, j < a.heap.size → r = some j → F j) : Only F a b :=
  ⟨h.os, h.tape, h.output, h.size, fun k hk hf => h.block k hk (fun e => hf (hr k hk e.symm))⟩
theorem Only.below {B : Nat} (h : Only F a b) (hF : ∀ j, F j → B ≤ j) (hB : B ≤ a.heap.size) : Below B a b :=
  ⟨h.os, h.tape, h.output, h.size, fun k hk => h.block k (by omega) (fun hf => by have := hF k hf; omega)⟩
theorem Only.setCell (F : Nat → Prop) (w : World) (g j : Nat) (v : Value) (hF : F g) : Only F w (w.setCell ⟨g, j, none⟩ v) :=
  ⟨rfl, rfl, rfl, by simp, fun k hk hf => heap_setCell_other w ⟨g, j, none⟩ k v (fun e => hf (by rw [e]; exact hF))⟩
theorem Only.blk {i : Nat} {o : Obj} (h : Only F a b) (hi : a.heap[i]? = some o) (hf : ¬ F i) : b.heap[i]? = some o := (h.block i (lt_of_block hi) hf).trans hi
theorem Only.own {B e st n : Nat} {v : Value} {xs : List Value} (h : Only F a b) (ho : a.ownsRow B e st v n xs) (hf : ∀ k, v.ownBlock = some k → ¬ F k) : b.ownsRow B e st v n xs :=
  own_at ho (fun k hk => h.block k (ho.lt k hk).2 (hf k hk))
theorem Only.old {k : Nat} (h : Only F a b) (hf : ∀ j, F j → k ≤ j) (hk : k ≤ a.heap.size) : Below k a b := h.below hf hk
end
/-- Told apart by their types. -/
theorem tag_ne {w : World} {i j : Nat} {c d : Array Value} {t u : TypeId} (hi : w.heap[i]? = some (.cells c t (0, 0))) (hj : w.heap[j]? = some (.cells d u (0, 0))) (h : t ≠ u) : i ≠ j := fun e => by
  subst e
  rw [hi] at hj
  injection hj with hj
  injection hj with _ hj
  exact h hj
theorem own_ne {w : World} {B e st n i : Nat} {v : Value} {xs : List Value} {c : Array Value} {t : TypeId} (ho : w.ownsRow B e st v n xs) (hi : w.heap[i]? = some (.cells c t (0, 0))) (h : t ≠ e) : v.ownBlock ≠ some i := fun e1 => by
  obtain ⟨cs, h1⟩ := own_tag ho i e1
  exact tag_ne hi h1 h rfl

/-- A row with two marks behind it. -/
def Mrk (w : World) (B e st : Nat) (v : Value) (n : Nat) (cs ms : List Value) : Prop :=
  ∃ g c, v = .slice (some ⟨g, 0, none⟩) n c ∧ n + 2 ≤ c ∧ c ≤ maxLen ∧ w.ownsRow B e st (.slice (some ⟨g, 0, none⟩) (n + 2) c) (n + 2) (cs ++ ms)
theorem Mrk.only {F : Nat → Prop} {w w' : World} {B e st n : Nat} {v : Value} {cs ms : List Value} (h : Mrk w B e st v n cs ms) (ho : Only F w w') (hf : ∀ k, v.ownBlock = some k → ¬ F k) : Mrk w' B e st v n cs ms := by
  obtain ⟨g, c, rfl, h1, h2, h3⟩ := h
  exact ⟨g, c, rfl, h1, h2, ho.own h3 hf⟩
theorem Mrk.below {w w' : World} {B e st n : Nat} {v : Value} {cs ms : List Value} (h : Mrk w B e st v n cs ms) (hb : Below w.heap.size w w') : Mrk w' B e st v n cs ms :=
  h.only (F := fun _ => False) (Only.ofB hb) (fun _ _ h => h)
theorem Mrk.lt {w : World} {B e st n : Nat} {v : Value} {cs ms : List Value} (h : Mrk w B e st v n cs ms) : ∀ k, v.ownBlock = some k → B ≤ k ∧ k < w.heap.size := by
  obtain ⟨g, c, rfl, h1, h2, h3⟩ := h
  exact h3.lt
theorem Mrk.tag {w : World} {B e st n : Nat} {v : Value} {cs ms : List Value} (h : Mrk w B e st v n cs ms) : ∀ k, v.ownBlock = some k → ∃ cs, w.heap[k]? = some (.cells cs e (0, 0)) := by
  obtain ⟨g, c, rfl, h1, h2, h3⟩ := h
  exact fun k hk => own_tag h3 k hk
/-- It reads as the row, and the marks stand behind it. -/
theorem Mrk.reads {w : World} {B e st n : Nat} {v : Value} {cs ms : List Value} (h : Mrk w B e st v n cs ms) (hl : cs.length = n * st) : ∃ g c, v = .slice (some ⟨g, 0, none⟩) n c ∧ n + 2 ≤ c ∧ c ≤ maxLen ∧ ReadsL w (some ⟨g, 0, none⟩) n st cs ∧ ∀ j u, ms[j]? = some u → w.cell? ⟨g, n * st + j, none⟩ = some u := by
  obtain ⟨g, c, rfl, h1, h2, h3⟩ := h
  have hc := h3.cells (g := g) rfl
  refine ⟨g, c, rfl, h1, h2, ⟨hl, (fun h => by cases h), fun x hx j u hj => ?_⟩, fun j u hj => ?_⟩
  · cases hx
    exact hc j u (by rw [List.getElem?_append_left (List.getElem?_eq_some_iff.1 hj).1]; exact hj)
  · have h9 := hc (n * st + j) u (by rw [List.getElem?_append_right (by omega), hl, Nat.add_sub_cancel_left]; exact hj)
    rw [plain_add] at h9
    simpa using h9
theorem Mrk.mk {w : World} {B e st n : Nat} {v : Value} {cs ms : List Value} (h : w.ownsRow B e st v (n + 2) (cs ++ ms)) : ∃ g c, v = .slice (some ⟨g, 0, none⟩) (n + 2) c ∧ n + 2 ≤ c ∧ c ≤ maxLen ∧ B ≤ g ∧ g < w.heap.size ∧ Mrk w B e st (.slice (some ⟨g, 0, none⟩) n c) n cs ms := by
  rcases h.2 with ⟨_, h0⟩ | ⟨g, cap, cur, rfl, hb, hg, hnc, hcm, _⟩
  · omega
  · exact ⟨g, cap, rfl, hnc, hcm, hb, lt_of_block hg, g, cap, rfl, hnc, hcm, h⟩
abbrev K77 : List Value := [.int .i64 77, .int .u64 0, .bool false, .int .i64 0, .int .i64 78, .int .u64 0, .bool false, .int .i64 0]
abbrev C79 : List Value := [.int .i64 79, .int .i64 0, .int .i64 0, .int .i64 0, .int .i64 80, .int .i64 0, .int .i64 0, .int .i64 0]
abbrev zob (n : Int) : List Value := [.int .i64 n, .bool false, .int .i64 0, .int .i64 0, .string ⟨#[]⟩, .int .i64 0, .int .i64 0, .int .u64 0, .int .i64 0, .string ⟨#[]⟩, .int .i64 0, .int .i64 0, .slice none 0 0]
abbrev O81 : List Value := [.int .i64 81, .bool false, .int .i64 0, .int .i64 0, .string ⟨#[]⟩, .int .i64 0, .int .i64 0, .int .u64 0, .int .i64 0, .string ⟨#[]⟩, .int .i64 0, .int .i64 0, .slice none 0 0, .int .i64 82, .bool false, .int .i64 0, .int .i64 0, .string ⟨#[]⟩, .int .i64 0, .int .i64 0, .int .u64 0, .int .i64 0, .string ⟨#[]⟩, .int .i64 0, .int .i64 0, .slice none 0 0]
theorem readsL_block {w : World} {cs : Array Value} {t : TypeId} {m size : Nat} (hl : cs.size = m * size) : ReadsL (w.alloc (.cells cs t)) (some ⟨w.heap.size, 0, none⟩) m size cs.toList := by
  refine ⟨by simpa using hl, (fun h => by cases h), fun x hx j u hj => ?_⟩
  cases hx
  have h9 : (w.alloc (.cells cs t)).cell? ⟨w.heap.size, j, none⟩ = some u := blk_cell (heap_alloc_new w _) j (by simpa using hj)
  rw [plain_add]
  simpa using h9
/-- What a copied row becomes. -/
def MkV (B e st n : Nat) (cs ms : List Value) (q j : Nat) (c0 : Array Value) (t : TypeId) (r : Option Nat) (w w' : World) : Prop :=
  ∃ v, Mrk w' B e st v n cs ms ∧ w'.heap[q]? = some (.cells (c0.setIfInBounds j v) t (0, 0)) ∧ Only (fun k => k = q ∨ some k = r) w w'
theorem one_chk (l : List Chk) : ∀ u ∈ flatChk l, u.oneCell' = true := by
  intro u hu
  obtain ⟨b, _, hb⟩ := List.mem_flatMap.1 hu
  simp [Chk.cells] at hb
  rcases hb with rfl | rfl | rfl | rfl <;> rfl
theorem one_blk (l : List Blk) : ∀ u ∈ flatBlk l, u.oneCell' = true := by
  intro u hu
  obtain ⟨b, _, hb⟩ := List.mem_flatMap.1 hu
  simp [Blk.cells] at hb
  rcases hb with rfl | rfl | rfl | rfl <;> rfl
end Go.Proofs.Ytoaahellfflooaa
