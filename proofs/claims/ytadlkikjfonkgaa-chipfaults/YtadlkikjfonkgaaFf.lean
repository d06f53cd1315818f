/-
  SEAT Ytadlkikjfonkgaa: ChipFaults: its pieces.
-/
import Derived.Test.YtadlkikjfonkgaaFe
namespace Go.Proofs.Ytadlkikjfonkgaa
open Go.RowKit Go.Conc
set_option linter.unusedVariables false

theorem noteC_len (k a b : Int) (r : Int × Ch) : (noteC k a b r).2.tr.length = r.2.tr.length + 1 := by simp [noteC]
theorem ProgramC_tr (C : Ch) (pb pp : Int) (n1 n2 : Nat) (want : List Int) : (ProgramC C pb pp n1 n2 want).2.tr.length ≤ C.tr.length + 1 := by
  unfold ProgramC
  split
  · exact Nat.le_succ _
  split
  · exact Nat.le_succ _
  rw [noteC_len]
  unfold progC
  split
  · exact Nat.le_refl _
  split
  · exact Nat.le_refl _
  split
  · exact Nat.le_refl _
  split <;> exact Nat.le_refl _
theorem EraseC_tr (C : Ch) (pb : Int) : (EraseC C pb).2.tr.length ≤ C.tr.length + 1 := by
  unfold EraseC
  split
  · exact Nat.le_succ _
  rw [noteC_len, eraseC_tr]
  exact Nat.le_refl _
theorem MarkC_tr (C : Ch) (pb : Int) : (MarkC C pb).2.tr.length ≤ C.tr.length + 1 := by
  unfold MarkC
  split
  · exact Nat.le_succ _
  rw [noteC_len, markC_tr]
  exact Nat.le_refl _
theorem FlipC_tr (C : Ch) (pb pp bit : Int) : (FlipC C pb pp bit).2.tr = C.tr := by
  unfold FlipC
  split
  · rfl
  split
  · rfl
  split
  · rfl
  split <;> rfl
/-- What a chip keeps through calls. -/
structure Life (C : Ch) (n : Nat) : Prop where
  ok : C.Ok
  tr : C.tr.length ≤ n
  fl : FlN C n
theorem Life.does {C : Ch} {n : Nat} (h : Life C n) (o : Opc) : Life (doesC C o).2 (n + 1) := by
  have hl : Life C (n + 1) := ⟨h.ok, Nat.le_succ_of_le h.tr, h.fl.mono (Nat.le_succ _)⟩
  have htr := h.tr
  unfold doesC
  split
  · exact ⟨ProgramC_ok _ h.ok _ _ _ _ _, Nat.le_trans (ProgramC_tr _ _ _ _ _ _) (by omega), fun b p => by rw [ProgramC_fl]; exact hl.fl b p⟩
  split
  · exact ⟨EraseC_ok _ h.ok _, Nat.le_trans (EraseC_tr _ _) (by omega), EraseC_fl hl.fl _⟩
  split
  · exact ⟨MarkC_ok _ h.ok _, Nat.le_trans (MarkC_tr _ _) (by omega), fun b p => by rw [MarkC_fl]; exact hl.fl b p⟩
  split
  · exact ⟨FlipC_ok _ h.ok _ _ _, by rw [FlipC_tr]; omega, FlipC_fl h.fl _ _ _⟩
  split
  · exact ⟨On_ok _ h.ok, hl.tr, hl.fl⟩
  · exact hl
theorem newC_life (B P S : Nat) (bad : List Int) (q : List Ft) (hf : Fits B P S = true) : Life (newC B P S bad q) 0 := ⟨newC_ok B P S bad q hf, Nat.le_refl _, newC_fl B P S bad q⟩
theorem Life.play {C : Ch} {n : Nat} (h : Life C n) (ops : List Opc) : Life (playC C ops) (n + ops.length) := by
  induction ops generalizing C n with
  | nil => exact h
  | cons o r ih =>
    have h1 := ih (h.does o)
    rw [List.length_cons, show n + (r.length + 1) = n + 1 + r.length by omega]
    exact h1
theorem toldC_len (ops : List Opc) : ∀ C, (toldC C ops).length = ops.length := by
  induction ops with
  | nil => intro C; rfl
  | cons o r ih => intro C; simp [toldC, ih]
theorem toldC_get (ops : List Opc) : ∀ (C : Ch) (i : Nat) (o : Opc), ops[i]? = some o → (toldC C ops)[i]? = some (doesC (playC C (ops.take i)) o).1 := by
  induction ops with
  | nil => intro C i o h; simp at h
  | cons a r ih =>
    intro C i o h
    cases i with
    | zero => simp at h; subst h; rfl
    | succ i =>
      have h1 := ih (doesC C a).2 i o (by simpa using h)
      simpa [toldC, playC] using h1
theorem toldC_take {ops : List Opc} {C : Ch} {i : Nat} {o : Opc} (h : ops[i]? = some o) : (toldC C ops).take (i + 1) = (toldC C ops).take i ++ [(doesC (playC C (ops.take i)) o).1] := by
  rw [List.take_add_one, toldC_get ops C i o h]
  rfl
theorem playC_take {ops : List Opc} {C : Ch} {i : Nat} {o : Opc} (h : ops[i]? = some o) : playC C (ops.take (i + 1)) = (doesC (playC C (ops.take i)) o).2 := by
  rw [List.take_add_one, h]
  exact playC_snoc C _ o

/-! ### Faults in order -/
theorem fmb_cons {l : Int} {c : Fc} {r : List Fc} (h : fmb l (c :: r) = true) : (decide (c.a ≤ l) || (c.k != 1 && c.k != 2)) = false ∧ fmb c.a r = true := by
  unfold fmb at h
  split at h
  · cases h
  · rename_i h1
    exact ⟨by simpa using h1, h⟩
theorem fmb_mono {l l' : Int} (hl : l' ≤ l) : ∀ {fs : List Fc}, fmb l fs = true → fmb l' fs = true
  | [], _ => rfl
  | c :: r, h => by
    obtain ⟨h1, h2⟩ := fmb_cons h
    have h3 : (decide (c.a ≤ l') || (c.k != 1 && c.k != 2)) = false := by
      rw [Bool.or_eq_false_iff] at h1 ⊢
      refine ⟨decide_eq_false (fun h9 => ?_), h1.2⟩
      have := of_decide_eq_false h1.1
      omega
    unfold fmb
    rw [if_neg (by rw [h3]; decide)]
    exact h2
theorem fmb_rises : ∀ (fs : List Fc) (last : Int), fmb last fs = true → (∀ f ∈ fs, last < f.a) ∧ fs.Pairwise (fun f g => f.a < g.a) ∧ ∀ n : Int, fmb last (fs.filter (fun f => decide (f.a < n))) = true
  | [], last, _ => ⟨(fun f hf => by cases hf), List.Pairwise.nil, fun _ => rfl⟩
  | c :: r, last, h => by
    obtain ⟨h1, h2⟩ := fmb_cons h
    obtain ⟨i1, i2, i3⟩ := fmb_rises r c.a h2
    have hc : last < c.a := by
      rw [Bool.or_eq_false_iff] at h1
      have := of_decide_eq_false h1.1
      omega
    refine ⟨fun f hf => ?_, List.pairwise_cons.2 ⟨i1, i2⟩, fun n => ?_⟩
    · rcases List.mem_cons.1 hf with rfl | hf
      · exact hc
      · have := i1 f hf; omega
    · by_cases hn : c.a < n
      · rw [List.filter_cons_of_pos (by simpa using hn)]
        unfold fmb
        rw [if_neg (by rw [h1]; decide)]
        exact i3 n
      · rw [List.filter_cons_of_neg (by simpa using hn)]
        exact fmb_mono (by omega) (i3 n)
def cutF (n : Nat) (fs : List Fc) : List Fc := fs.filter (fun f => decide (f.a < (n : Int)))
theorem cutF_t (n : Nat) (fs : List Fc) : (cutF n fs).map Fc.t = cutQ n (fs.map Fc.t) := by
  unfold cutF cutQ
  rw [List.filter_map]
  rfl
theorem faults_cut {fs : List Fc} (h : faultsB fs = true) (n : Nat) : faultsB (cutF n fs) = true ∧ Rises 0 (fs.map Fc.t) := by
  unfold faultsB at h
  rw [Bool.and_eq_true] at h
  obtain ⟨h1, h2⟩ := h
  obtain ⟨i1, i2, i3⟩ := fmb_rises fs (-1) h2
  refine ⟨?_, ?_, ?_⟩
  · unfold faultsB
    rw [Bool.and_eq_true]
    have h3 := of_decide_eq_true h1
    exact ⟨decide_eq_true (Nat.le_trans (List.length_filter_le _ _) h3), i3 n⟩
  · intro f hf
    obtain ⟨c, hc, rfl⟩ := List.mem_map.1 hf
    have := i1 c hc
    show (0 : Int) ≤ c.a
    omega
  · rw [List.pairwise_map]
    exact i2
theorem newC_cut (bad : List Int) (fs : List Fc) (n : Nat) : newC 8 4 1 bad ((cutF n fs).map Fc.t) = setQ (newC 8 4 1 bad (fs.map Fc.t)) (cutQ n (newC 8 4 1 bad (fs.map Fc.t)).q) := by
  rw [cutF_t]
  rfl
/-- The whole of it: with those faults alone that were reached. -/
theorem faults_same (bad : List Int) (fs : List Fc) (h : faultsB fs = true) (ops : List Opc) (n : Nat) (hn : (playC (newC 8 4 1 bad (fs.map Fc.t)) ops).cnt = n) :
    toldC (newC 8 4 1 bad ((cutF n fs).map Fc.t)) ops = toldC (newC 8 4 1 bad (fs.map Fc.t)) ops ∧ ∃ q, playC (newC 8 4 1 bad ((cutF n fs).map Fc.t)) ops = setQ (playC (newC 8 4 1 bad (fs.map Fc.t)) ops) q := by
  rw [newC_cut]
  exact play_cut n ops _ (faults_cut h n).2 (Nat.le_of_eq hn)

/-! ### In memory -/
theorem HD.keepO {w u v : World} {p : Nat} {F G : Nat → Prop} {K : List (Nat × Obj)} {C : Ch} (h : HD w u p F K C) (ho : Only G u v) (hF : ∀ k, F k → ¬ G k) (hK : ∀ x ∈ K, ¬ G x.1) (hw : ∀ k, G k → w.heap.size ≤ k) : HD w v p F K C :=
  ⟨h.bel.trans (ho.below hw h.bel.size), h.ch.only ho hF, h.lo, fun x hx => ⟨(ho.block _ (lt_of_block (h.kp x hx).1) (hK x hx)).trans (h.kp x hx).1, (h.kp x hx).2⟩⟩
def box8 : Obj := .cells #[.int .i64 8, .int .i64 4, .int .i64 1] 23 (0, 0)
/-- What was told so far, beside a chip. -/
structure FA (w u : World) (p b7 : Nat) (F : Nat → Prop) (C : Ch) (v : Value) (i : Nat) (ts : List Int) : Prop where
  hd : HD w u p F [(b7, box8)] C
  told : u.ownsRow w.heap.size 30 1 v i (ts.map (Value.int .i64))
  tf : ∀ g, v.ownBlock = some g → ¬ F g
theorem FA.does {w u v' : World} {p b7 : Nat} {F : Nat → Prop} {C C' : Ch} {v : Value} {i : Nat} {ts : List Int} (h : FA w u p b7 F C v i ts) (hc : ChipAt v' p (Fx F u v') C') (ho : Only F u v') : FA w v' p b7 (Fx F u v') C' v i ts := by
  refine ⟨h.hd.step hc ho, ?_, fun g hg hf => ?_⟩
  · refine owns_keep h.told (fun g hg => ?_)
    obtain ⟨cs, hcs⟩ := own_tag h.told hg
    exact ho.block g (lt_of_block hcs) (h.tf g hg)
  · obtain ⟨cs, hcs⟩ := own_tag h.told hg
    have hl := lt_of_block hcs
    exact hf.elim (h.tf g hg) (fun h9 => by omega)
theorem FA.app {w u w1 : World} {p b7 : Nat} {F : Nat → Prop} {C : Ch} {v : Value} {i : Nat} {ts : List Int} {r : Int} {o : Obj} {g c : Nat} (h : FA w u p b7 F C v i ts) (ho : w1.ownsRow w.heap.size 30 1 (.slice (some ⟨g, 0, none⟩) (i + 1) c) (i + 1) (ts.map (Value.int .i64) ++ [.int .i64 r])) (hg : (u.alloc o).grownBy w1 v.ownBlock) (hl : v.ownBlock = some g ∨ g = u.heap.size + 1) :
    FA w w1 p b7 F C (.slice (some ⟨g, 0, none⟩) (i + 1) c) (i + 1) (ts ++ [r]) := by
  have hal := below_alloc u o
  have hd1 := h.hd.below hal
  have hG : Only (fun k => v.ownBlock = some k) (u.alloc o) w1 := Only.ofG hg (fun j hj => hj)
  refine ⟨hd1.keepO hG (fun k hk hv => h.tf k hv hk) (fun x hx hv => ?_) (fun k hk => ?_), ?_, fun k hk hf => ?_⟩
  · simp at hx
    subst hx
    obtain ⟨cs, hcs⟩ := own_tag h.told hv
    exact tag_ne (h.hd.blk (List.mem_cons_self)) hcs (t := 23) (u := 30) rfl rfl (by decide) rfl
  · obtain ⟨cs, hcs⟩ := own_tag h.told hk
    rcases h.told.2 with ⟨hv, _⟩ | ⟨g', cap, cur, hv, hb, _⟩
    · rw [hv] at hk; cases hk
    · rw [hv] at hk; cases hk; exact hb
  · rw [List.map_append]
    exact ho
  · cases hk
    rcases hl with hl | hl
    · exact h.tf g hl hf
    · have h9 : g < u.heap.size := h.hd.ch.fin g hf
      omega
theorem FA.below {w u v' : World} {p b7 : Nat} {F : Nat → Prop} {C : Ch} {v : Value} {i : Nat} {ts : List Int} (h : FA w u p b7 F C v i ts) (hb : Below u.heap.size u v') : FA w v' p b7 F C v i ts :=
  ⟨h.hd.below hb, owns_keep h.told (fun g hg => by obtain ⟨cs, hcs⟩ := own_tag h.told hg; exact hb.block g (lt_of_block hcs)), h.tf⟩
theorem info30 : (Try.prog.info? 30).map (fun i => (i.zero, i.size, i.bytes)) = some (some (.int .i64 0), 1, 8) := by kernel_rfl
theorem news_int (w : World) (z : Int) : ∀ j u, [Value.int .i64 z][j]? = some u → (w.alloc (.cells #[.int .i64 z] 30)).cell? ((⟨w.heap.size, 0, none⟩ : Addr).add j) = some u := by
  intro j u hj
  cases j with
  | succ j => simp at hj
  | zero =>
  simp at hj
  subst hj
  rw [plain_add]
  exact cells1 (alloc_new w (.cells #[.int .i64 z] 30))
def Fc.row (c : Fc) : List Value := [.int .i64 c.a, .int .i64 c.k, .slice c.ma c.ml c.mc, .int .u8 c.f]
theorem Fc.row_len (c : Fc) : c.row.length = 4 := rfl
/-- Faults that were picked, beside what was told. -/
structure FS (w u : World) (p b7 : Nat) (F : Nat → Prop) (C : Ch) (v : Value) (i : Nat) (ts : List Int) (v2 : Value) (xs : List Fc) : Prop where
  fa : FA w u p b7 F C v i ts
  own : u.ownsRow w.heap.size 58 4 v2 xs.length (xs.flatMap Fc.row)
  sf : ∀ g, v2.ownBlock = some g → ¬ F g
theorem own_lo {u : World} {B e size n g : Nat} {v : Value} {xs : List Value} (h : u.ownsRow B e size v n xs) (hg : v.ownBlock = some g) : B ≤ g := by
  rcases h.2 with ⟨hv, _⟩ | ⟨g', cap, cur, hv, hb, _⟩
  · rw [hv] at hg; cases hg
  · rw [hv] at hg; cases hg; exact hb
theorem FS.app {w u w1 : World} {p b7 : Nat} {F : Nat → Prop} {C : Ch} {v : Value} {i : Nat} {ts : List Int} {v2 : Value} {xs : List Fc} {x : Fc} {o : Obj} {g c : Nat} (h : FS w u p b7 F C v i ts v2 xs) (ho : w1.ownsRow w.heap.size 58 4 (.slice (some ⟨g, 0, none⟩) (xs.length + 1) c) (xs.length + 1) (xs.flatMap Fc.row ++ x.row)) (hg : (u.alloc o).grownBy w1 v2.ownBlock) (hl : v2.ownBlock = some g ∨ g = u.heap.size + 1) :
    FS w w1 p b7 F C v i ts (.slice (some ⟨g, 0, none⟩) (xs.length + 1) c) (xs ++ [x]) := by
  have hal := below_alloc u o
  have fa1 := h.fa.below hal
  have hG : Only (fun k => v2.ownBlock = some k) (u.alloc o) w1 := Only.ofG hg (fun j hj => hj)
  refine ⟨⟨fa1.hd.keepO hG (fun k hk hv => h.sf k hv hk) (fun y hy hv => ?_) (fun k hk => own_lo h.own hk), ?_, h.fa.tf⟩, ?_, fun k hk hf => ?_⟩
  · simp at hy
    subst hy
    obtain ⟨cs, hcs⟩ := own_tag h.own hv
    exact tag_ne (h.fa.hd.blk (List.mem_cons_self)) hcs (t := 23) (u := 58) rfl rfl (by decide) rfl
  · refine owns_keep fa1.told (fun k hk => ?_)
    obtain ⟨cs, hcs⟩ := own_tag fa1.told hk
    refine hG.block k (lt_of_block hcs) (fun hv => ?_)
    obtain ⟨cs2, hcs2⟩ := own_tag h.own hv
    have hcs3 : (u.alloc o).heap[k]? = some (.cells cs2 58 (0, 0)) := (alloc_old _ _ (lt_of_block hcs2)).trans hcs2
    exact tag_ne hcs hcs3 (t := 30) (u := 58) rfl rfl (by decide) rfl
  · rw [List.length_append, List.flatMap_append]
    simp only [List.length_cons, List.length_nil, List.flatMap_cons, List.flatMap_nil, List.append_nil]
    exact ho
  · cases hk
    rcases hl with hl | hl
    · exact h.sf g hl hf
    · have h9 : g < u.heap.size := h.fa.hd.ch.fin g hf
      omega
theorem FS.drew {w u : World} {p b7 : Nat} {F : Nat → Prop} {C : Ch} {v : Value} {i : Nat} {ts : List Int} {v2 : Value} {xs : List Fc} (h : FS w u p b7 F C v i ts v2 xs) : FS w u.drew p b7 F C v i ts v2 xs := ⟨h.fa.below (drew_below u), h.own, h.sf⟩
theorem FcOk.below {w w' : World} {c : Fc} (h : FcOk w c) (hb : Below w.heap.size w w') : FcOk w' c := ⟨h.rd.below hb, h.le, h.cap, h.fill, h.a, h.k⟩
theorem readsF_own {u : World} {B n c : Nat} {a : Option Addr} {xs : List Fc} (h : u.ownsRow B 58 4 (.slice a n c) n (xs.flatMap Fc.row)) (hok : ∀ x ∈ xs, FcOk u x) : ReadsF u a n xs := by
  have hl := flat_len Fc.row 4 Fc.row_len xs
  have hn : xs.length = n := by have := h.1; omega
  refine ⟨hn, hok, ?_, fun y hy i hi j hj => ?_⟩
  · intro ha
    rcases h.2 with ⟨_, h0⟩ | ⟨g, cap, cur, hv, _⟩
    · exact h0
    · rw [ha] at hv; cases hv
  · obtain ⟨g, c', hv, _⟩ := h.form (by omega)
    cases hv
    cases hy
    rw [plain_add, Nat.zero_add]
    have hil : i < xs.length := by omega
    rw [World.ownsRow.cellAt h (i * 4 + j) (by omega), flat_get Fc.row 4 Fc.row_len j hj xs i xs[i] (List.getElem?_eq_getElem hil)]
    rw [List.getD_eq_getElem?_getD, List.getElem?_eq_getElem hil]
    simp only [Option.getD_some]
    rcases j with _ | _ | _ | _ | j
    · rfl
    · rfl
    · rfl
    · rfl
    · omega
theorem news_fault (w : World) (x : Fc) : ∀ j u, x.row[j]? = some u → (w.alloc (.cells #[.int .i64 x.a, .int .i64 x.k, .slice x.ma x.ml x.mc, .int .u8 x.f] 58)).cell? ((⟨w.heap.size, 0, none⟩ : Addr).add j) = some u := by
  intro j u hj
  rw [plain_add, Nat.zero_add]
  have h := alloc_new w (.cells #[.int .i64 x.a, .int .i64 x.k, .slice x.ma x.ml x.mc, .int .u8 x.f] 58)
  simp only [World.cell?, h]
  rw [← hj]
  rcases j with _ | _ | _ | _ | j <;> rfl
theorem ReadsF.get {w : World} {a : Option Addr} {len : Nat} {fs : List Fc} (h : ReadsF w a len fs) {i : Nat} (hi : i < len) : ∃ b off x, a = some ⟨b, off, none⟩ ∧ b < w.heap.size ∧ fs[i]? = some x ∧ w.cell? ⟨b, off + i * 4, none⟩ = some (.int .i64 x.a) ∧ w.cell? ⟨b, off + i * 4 + 1, none⟩ = some (.int .i64 x.k) ∧ w.cell? ⟨b, off + i * 4 + 2, none⟩ = some (.slice x.ma x.ml x.mc) ∧ w.cell? ⟨b, off + i * 4 + 3, none⟩ = some (.int .u8 x.f) := by
  obtain ⟨b, off, ha, hb, hc⟩ := h.pos (by omega)
  have hil : i < fs.length := by rw [h.1]; exact hi
  have e : fs.getD i Fc.zero = fs[i] := by rw [List.getD_eq_getElem?_getD, List.getElem?_eq_getElem hil]; rfl
  obtain ⟨c0, c1, c2, c3⟩ := hc i hi
  rw [e] at c0 c1 c2 c3
  exact ⟨b, off, fs[i], ha, hb, List.getElem?_eq_getElem hil, c0, c1, c2, c3⟩
/-- Two chips, and what was told. -/
structure FD (w u : World) (p p2 b7 : Nat) (F F2 : Nat → Prop) (C D : Ch) (v : Value) (i : Nat) (ts : List Int) : Prop where
  fa : FA w u p2 b7 F2 D v i ts
  c : ChipAt u p F C
  dj : ∀ k, F k → ¬ F2 k
theorem FD.does {w u v' : World} {p p2 b7 : Nat} {F F2 : Nat → Prop} {C D D' : Ch} {v : Value} {i : Nat} {ts : List Int} (h : FD w u p p2 b7 F F2 C D v i ts) (hc : ChipAt v' p2 (Fx F2 u v') D') (ho : Only F2 u v') : FD w v' p p2 b7 F (Fx F2 u v') C D' v i ts :=
  ⟨h.fa.does hc ho, h.c.only ho h.dj, fun k hk hf => hf.elim (h.dj k hk) (fun h9 => by have := h.c.fin k hk; omega)⟩
theorem FD.below {w u v' : World} {p p2 b7 : Nat} {F F2 : Nat → Prop} {C D : Ch} {v : Value} {i : Nat} {ts : List Int} (h : FD w u p p2 b7 F F2 C D v i ts) (hb : Below u.heap.size u v') : FD w v' p p2 b7 F F2 C D v i ts := ⟨h.fa.below hb, h.c.below hb, h.dj⟩
theorem fd_start {w u v' : World} {p p2 b7 : Nat} {F : Nat → Prop} {C D : Ch} {v : Value} {i : Nat} {ts : List Int} (h : FA w u p b7 F C v i ts) (hc : ChipAt v' p2 (fun k => u.heap.size ≤ k ∧ k < v'.heap.size) D) (hb : Below u.heap.size u v') : FD w v' p p2 b7 F (fun k => u.heap.size ≤ k ∧ k < v'.heap.size) C D v i ts := by
  have h1 := h.below hb
  refine ⟨⟨⟨h1.hd.bel, hc, fun k hk => Nat.le_trans h.hd.bel.size hk.1, fun x hx => ⟨(h1.hd.kp x hx).1, fun hf => ?_, (h1.hd.kp x hx).2.2⟩⟩, h1.told, fun g hg hf => ?_⟩, h1.hd.ch, fun k hk hf => ?_⟩
  · have := lt_of_block (h.hd.kp x hx).1
    have := hf.1
    omega
  · obtain ⟨cs, hcs⟩ := own_tag h.told hg
    have := lt_of_block hcs
    have := hf.1
    omega
  · have := h.hd.ch.fin k hk
    have := hf.1
    omega
theorem told_cell {u : World} {B n g c : Nat} {ts : List Int} (h : u.ownsRow B 30 1 (.slice (some ⟨g, 0, none⟩) n c) n (ts.map (Value.int .i64))) {m : Nat} {z : Int} (hz : ts[m]? = some z) : u.cell? ⟨g, m, none⟩ = some (.int .i64 z) := by
  have hm : m < ts.length := (List.getElem?_eq_some_iff.1 hz).1
  have hl : ts.length = n := by have := h.1; simpa using this
  rw [World.ownsRow.cellAt h m (by omega), List.getElem?_map, hz]
  rfl
theorem owns_bel {u v' : World} {B e size n : Nat} {v : Value} {xs : List Value} (h : u.ownsRow B e size v n xs) (hb : Below u.heap.size u v') : v'.ownsRow B e size v n xs := owns_keep h (fun g hg => by obtain ⟨cs, hcs⟩ := own_tag h hg; exact hb.block g (lt_of_block hcs))
end Go.Proofs.Ytadlkikjfonkgaa
