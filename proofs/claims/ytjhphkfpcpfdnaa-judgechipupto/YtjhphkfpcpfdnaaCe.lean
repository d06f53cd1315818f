/-
  SEAT Ytjhphkfpcpfdnaa: a command is noted.
-/
import Derived.Test.YtjhphkfpcpfdnaaCd
namespace Go.Proofs.Ytjhphkfpcpfdnaa
open Go.RowKit Go.Conc
set_option linter.unusedVariables false

theorem CAt.frame {w w' : World} {p : Nat} {F G T : Nat → Prop} {C C' : Ch} {x x' : Bx} {bs : List Bc} {fe : List Fe} (h : CAt w p F C x bs fe) (hT : KeepT F T w w') (h5 : ¬ T 5) (h106 : ¬ T 74) (h108 : ¬ T 117) (hm : ¬ T 1001) (h3 : ¬ T 3) (hF : ∀ k, F k → G k) (hG : ∀ k, G k → k < w'.heap.size) (hx : x'.at w' p)
    (e1 : x'.B = x.B ∧ x'.P = x.P ∧ x'.S = x.S ∧ x'.gb = x.gb ∧ x'.nb = x.nb ∧ x'.gm = x.gm) (hd : x'.dark = C'.dark) (hc : x'.cnt = C'.cnt) (hq : QAt w' G x' C'.q) (ht : TrAt w' G x' C'.tr)
    (e4 : C'.B = C.B ∧ C'.P = C.P ∧ C'.S = C.S ∧ C'.bl = C.bl ∧ C'.fl = C.fl) : CAt w' p G C' x' bs fe := by
  obtain ⟨a1, a2, a3, a4, a5, a6⟩ := e1
  obtain ⟨d1, d2, d3, d4, d5⟩ := e4
  refine ⟨hx, hF _ h.fp, ?_, ?_, ?_, a5.trans h.nb, hd, hc, ?_, ?_, ?_, ?_, h.gs, ?_, ?_, hq, ht, hG⟩
  · rw [a1, d1]; exact h.B
  · rw [a2, d2]; exact h.P
  · rw [a3, d3]; exact h.S
  · rw [a4]; exact hT _ _ 74 h.fb h.row rfl h106
  · rw [a4]; exact hF _ h.fb
  · rw [d4]; exact h.bl
  · rw [d2, d3]; exact fun b hb => (h.bok b hb).keep hT h5 hF ((hT _ _ 117 (h.bok b hb).fg (h.bok b hb).row rfl h108).trans (h.bok b hb).row.symm)
  · rw [a6]; exact h.fl.keep hT hm h3 hF
  · rw [d5]; exact h.fs

theorem info54 : (Try.prog.info? 54).map (fun i => (i.zero, i.size, i.bytes)) = some (some (.agg #[.int .i64 0, .int .i64 0, .int .i64 0, .int .i64 0]), 4, 32) := by kernel_rfl
theorem own_slice {w : World} {B e size n : Nat} {v : Value} {xs : List Value} (h : w.ownsRow B e size v n xs) : ∃ a l c, v = .slice a l c := by
  rcases h.2 with ⟨hv, _⟩ | ⟨g, cap, cur, hv, _⟩
  · exact ⟨_, _, _, hv⟩
  · exact ⟨_, _, _, hv⟩
theorem own_n {w : World} {B e size n l c : Nat} {a : Option Addr} {xs : List Value} (h : w.ownsRow B e size (.slice a l c) n xs) : l = n := by
  rcases h.2 with ⟨hv, h0⟩ | ⟨g, cap, cur, hv, _⟩
  · cases hv; exact h0.symm
  · cases hv; rfl

theorem note_end {w Y : World} {p : Nat} {F : Nat → Prop} {C : Ch} {x : Bx} {bs : List Bc} {fe : List Fe} {k pb pp s : Int} {gn tc : Nat} (htr : C.tr.length ≤ 4000000000000) (h : CAt ((w.alloc (.cells #[.int .i64 pb, .int .i64 pp] 51)).alloc (.cells #[.int .i64 k, .int .i64 pb, .int .i64 pp, .int .i64 s] 54)).drew p F C x bs fe) (hfw : ∀ k, F k → k < w.heap.size) (htl : x.tl = C.tr.length)
    (how : Y.ownsRow 0 54 4 (.slice (some ⟨gn, 0, none⟩) (x.tl + 1) tc) (x.tl + 1) (C.tr.flatMap Cmd.cells ++ [.int .i64 k, .int .i64 pb, .int .i64 pp, .int .i64 s])) (hg : (((w.alloc (.cells #[.int .i64 pb, .int .i64 pp] 51)).alloc (.cells #[.int .i64 k, .int .i64 pb, .int .i64 pp, .int .i64 s] 54)).drew).grownBy Y (Value.slice x.ta x.tl x.tc).ownBlock) (hli : (Value.slice x.ta x.tl x.tc).ownBlock = some gn ∨ gn = w.heap.size + 2) :
    ChipAt (Y.setCell ⟨p, 13, none⟩ (.slice (some ⟨gn, 0, none⟩) (x.tl + 1) tc)) p (Fx F w (Y.setCell ⟨p, 13, none⟩ (.slice (some ⟨gn, 0, none⟩) (x.tl + 1) tc))) { C with tr := C.tr ++ [⟨k, pb, pp, s⟩] } ∧ Only F w (Y.setCell ⟨p, 13, none⟩ (.slice (some ⟨gn, 0, none⟩) (x.tl + 1) tc)) := by
  have hp : p < w.heap.size := hfw p h.fp
  have kt : ∀ g, (Value.slice x.ta x.tl x.tc).ownBlock = some g → ∃ cs, (((w.alloc (.cells #[.int .i64 pb, .int .i64 pp] 51)).alloc (.cells #[.int .i64 k, .int .i64 pb, .int .i64 pp, .int .i64 s] 54)).drew).heap[g]? = some (.cells cs 54 (0, 0)) := fun g hg => own_tag h.tr.row hg
  have k0 : ∀ g, (Value.slice x.ta x.tl x.tc).ownBlock = some g → g ≠ p := fun g hg => by
    obtain ⟨cs, hc⟩ := kt g hg
    exact tag_ne hc h.box (t := 54) (u := 71) rfl rfl (by decide)
  have hXY : x.at Y p := h.box.keep (hg.block p h.box.lt (fun e => k0 p e.symm rfl))
  have hZ := hXY.setVt (some ⟨gn, 0, none⟩) (x.tl + 1) tc
  have oY : Only (fun g => (Value.slice x.ta x.tl x.tc).ownBlock = some g) ((w.alloc (.cells #[.int .i64 pb, .int .i64 pp] 51)).alloc (.cells #[.int .i64 k, .int .i64 pb, .int .i64 pp, .int .i64 s] 54)).drew Y := Only.ofG hg (fun j e => e)
  have oZ := Only.setCell (· = p) Y p 13 (.slice (some ⟨gn, 0, none⟩) (x.tl + 1) tc) rfl
  have oXZ : Only (fun g => (Value.slice x.ta x.tl x.tc).ownBlock = some g ∨ g = p) ((w.alloc (.cells #[.int .i64 pb, .int .i64 pp] 51)).alloc (.cells #[.int .i64 k, .int .i64 pb, .int .i64 pp, .int .i64 s] 54)).drew (Y.setCell ⟨p, 13, none⟩ (.slice (some ⟨gn, 0, none⟩) (x.tl + 1) tc)) := (oY.mono (fun _ _ h => Or.inl h)).trans oZ (fun _ _ h => Or.inr h)
  have hsz : w.heap.size ≤ (((w.alloc (.cells #[.int .i64 pb, .int .i64 pp] 51)).alloc (.cells #[.int .i64 k, .int .i64 pb, .int .i64 pp, .int .i64 s] 54)).drew).heap.size := by simp; omega
  have hsz2 := oXZ.size
  have hT : KeepT F (fun t => t = 54 ∨ t = 71) ((w.alloc (.cells #[.int .i64 pb, .int .i64 pp] 51)).alloc (.cells #[.int .i64 k, .int .i64 pb, .int .i64 pp, .int .i64 s] 54)).drew (Y.setCell ⟨p, 13, none⟩ (.slice (some ⟨gn, 0, none⟩) (x.tl + 1) tc)) := oXZ.keepT (fun j o t hj ho ht => by
    rcases hj with e | e
    · obtain ⟨cs, hc⟩ := kt j e
      rw [hc] at ho
      cases ho
      exact Or.inl ht.symm
    · rw [e, show (((w.alloc (.cells #[.int .i64 pb, .int .i64 pp] 51)).alloc (.cells #[.int .i64 k, .int .i64 pb, .int .i64 pp, .int .i64 s] 54)).drew).heap[p]? = _ from h.box] at ho
      cases ho
      exact Or.inr ht.symm)
  have hownZ : (Y.setCell ⟨p, 13, none⟩ (.slice (some ⟨gn, 0, none⟩) (x.tl + 1) tc)).ownsRow 0 54 4 (.slice (some ⟨gn, 0, none⟩) (x.tl + 1) tc) (x.tl + 1) ((C.tr ++ [(⟨k, pb, pp, s⟩ : Cmd)]).flatMap Cmd.cells) := by
    rw [List.flatMap_append]
    refine owns_keep how (fun g hg => oZ.block g ?_ ?_)
    · exact (how.lt g hg).2
    · obtain ⟨cs, hc⟩ := own_tag how hg
      exact tag_ne hc hXY (t := 54) (u := 71) rfl rfl (by decide)
  have hblk : ∀ g, (Value.slice (some ⟨gn, 0, none⟩) (x.tl + 1) tc).ownBlock = some g → Fx F w (Y.setCell ⟨p, 13, none⟩ (.slice (some ⟨gn, 0, none⟩) (x.tl + 1) tc)) g := fun g hg' => by
    have hlt := (how.lt g hg').2
    have e0 : gn = g := Option.some.inj hg'
    subst e0
    rcases hli with e | e
    · exact Or.inl (h.tr.fg _ e)
    · exact Or.inr ⟨by omega, by have := oZ.size; omega⟩
  refine ⟨⟨_, bs, fe, h.frame hT (by decide) (by decide) (by decide) (by decide) (by decide) (fun k hk => Or.inl hk) (fun k hk => ?_) hZ ⟨rfl, rfl, rfl, rfl, rfl, rfl⟩ h.dark h.cnt ?_ ⟨hownZ, by simp [htl], hblk⟩ ⟨rfl, rfl, rfl, rfl, rfl⟩⟩, ?_⟩
  · rcases hk with h1 | h1
    · exact Nat.lt_of_lt_of_le (hfw k h1) (Nat.le_trans hsz hsz2)
    · exact h1.2
  · exact h.q.keep hT (by decide) (by decide) (fun k hk => Or.inl hk) ⟨rfl, rfl, rfl, rfl, rfl, rfl, rfl⟩ rfl
  · refine (Only.ofB (F := F) (below_trans (below_trans (below_alloc w (.cells #[.int .i64 pb, .int .i64 pp] 51)) (below_alloc _ (.cells #[.int .i64 k, .int .i64 pb, .int .i64 pp, .int .i64 s] 54))) (drew_below _))).trans oXZ (fun j hj e => ?_)
    rcases e with e | e
    · exact h.tr.fg j e
    · rw [e]; exact h.fp

set_option maxRecDepth 100000 in
set_option maxHeartbeats 1000000 in
theorem note_any (w : World) (p : Nat) (F : Nat → Prop) (C : Ch) (x : Bx) (bs : List Bc) (fe : List Fe) (h : CAt w p F C x bs fe) (htr : C.tr.length ≤ 4000000000000) (k pb pp s : Int) :
    Calls Try.prog 35 #[.pointer (some ⟨p, 0, none⟩), .int .i64 k, .agg #[.int .i64 pb, .int .i64 pp], .int .i64 s] w fun e w' => e = .returned (.int .i64 s) ∧ ChipAt w' p (Fx F w w') { C with tr := C.tr ++ [⟨k, pb, pp, s⟩] } ∧ Only F w w' := by
  obtain ⟨i0, hi, hz0, hz1, hz2⟩ := info_parts info54
  have hp := h.box.lt
  have HC : Hid (CAt (w.alloc (.cells #[.int .i64 pb, .int .i64 pp] 51)).drew p F C x bs fe) := h.below (below_trans (below_alloc _ _) (drew_below _))
  have HC1 : Hid (CAt ((w.alloc (.cells #[.int .i64 pb, .int .i64 pp] 51)).alloc (.cells #[.int .i64 k, .int .i64 pb, .int .i64 pp, .int .i64 s] 54)).drew p F C x bs fe) := (h.below (below_alloc _ _)).below (below_trans (below_alloc _ _) (drew_below _))
  have c13 := HC.out.box.c13
  have HTL : Hid (x.tl = C.tr.length) := h.tr.len
  have HFW : Hid (∀ k, F k → k < w.heap.size) := h.fin
  have HS12 : Hid ((((w.alloc (.cells #[.int .i64 pb, .int .i64 pp] 51)).alloc (.cells #[.int .i64 k, .int .i64 pb, .int .i64 pp, .int .i64 s] 54)).drew).cell? ⟨w.heap.size, 0, none⟩ = some (.int .i64 pb) ∧ (((w.alloc (.cells #[.int .i64 pb, .int .i64 pp] 51)).alloc (.cells #[.int .i64 k, .int .i64 pb, .int .i64 pp, .int .i64 s] 54)).drew).cell? ⟨w.heap.size, 1, none⟩ = some (.int .i64 pp)) := ⟨by simp, by simp⟩
  have d13 := HC1.out.box.c13
  have HNW : Hid (∀ j u, ([.int .i64 k, .int .i64 pb, .int .i64 pp, .int .i64 s] : List Value)[j]? = some u → (((w.alloc (.cells #[.int .i64 pb, .int .i64 pp] 51)).alloc (.cells #[.int .i64 k, .int .i64 pb, .int .i64 pp, .int .i64 s] 54)).drew).cell? ((⟨w.heap.size + 1, 0, none⟩ : Addr).add j) = some u) := by
    intro j u hj
    rw [plain_add, Nat.zero_add]
    match j, hj with
    | 0, hj => simp at hj; subst hj; simp
    | 1, hj => simp at hj; subst hj; simp
    | 2, hj => simp at hj; subst hj; simp
    | 3, hj => simp at hj; subst hj; simp
  have hx0 : x.at w p := h.box
  clear h hx0
  go_enter Try.func35, Try.ntmps35
  go_wp2
  refine wp_region_held_drew (S := (fun u => u.cell? ⟨w.heap.size, 0, none⟩ = some (.int .i64 pb) ∧ u.cell? ⟨w.heap.size, 1, none⟩ = some (.int .i64 pp))) (by kernel_rfl) (⟨by simp, by simp⟩) (fun hHeld => ?_)
  refine wpAnyH_take (i := 0) (oi := { dst := some 9, op := Op.move (Operand.tmp 0), type := 27, pos := "commands.go:126", after := #[], guard := none }) (v := ?v0) rfl (by kernel_rfl) (by kernel_rfl) (by kernel_rfl) (fun _ _ _ h => h) (Or.inl ⟨by rfl, ?y0⟩) (by assumption) ?r0
  case y0 => (intro x hx; (try dsimp only at hx); go_simp; try with_reducible rfl)
  try simp only [Act.put, List.setIfInBounds_toArray, List.set_cons_zero, List.set_cons_succ]
  refine wpAnyH_take (i := 1) (oi := { dst := some 10, op := Op.move (Operand.tmp 0), type := 27, pos := "commands.go:126", after := #[], guard := none }) (v := ?v1) rfl (by kernel_rfl) (by kernel_rfl) (by kernel_rfl) (fun _ _ _ h => h) (Or.inl ⟨by rfl, ?y1⟩) (by assumption) ?r1
  case y1 => (intro x hx; (try dsimp only at hx); go_simp; try with_reducible rfl)
  try simp only [Act.put, List.setIfInBounds_toArray, List.set_cons_zero, List.set_cons_succ]
  refine wpAnyH_take (i := 2) (oi := { dst := some 11, op := Op.nilCheck (Operand.tmp 10), type := 0, pos := "commands.go:126", after := #[{ on := 1, ground := Ground.data }], guard := none }) (v := ?v2) rfl (by kernel_rfl) (by kernel_rfl) (by kernel_rfl) (fun _ _ _ h => h) (Or.inl ⟨by rfl, ?y2⟩) (by assumption) ?r2
  case y2 => (intro x hx; (try dsimp only at hx); go_simp; try with_reducible rfl)
  try simp only [Act.put, List.setIfInBounds_toArray, List.set_cons_zero, List.set_cons_succ]
  refine wpAnyH_take (i := 3) (oi := { dst := some 12, op := Op.fieldAddr 71 (Operand.tmp 11) 6, type := 0, pos := "commands.go:126", after := #[{ on := 2, ground := Ground.data }], guard := none }) (v := ?v3) rfl (by kernel_rfl) (by kernel_rfl) (by kernel_rfl) (fun _ _ _ h => h) (Or.inl ⟨by rfl, ?y3⟩) (by assumption) ?r3
  case y3 => (intro x hx; (try dsimp only at hx); go_simp; try with_reducible rfl)
  try simp only [Act.put, List.setIfInBounds_toArray, List.set_cons_zero, List.set_cons_succ]
  refine wpAnyH_take (i := 5) (oi := { dst := some 14, op := Op.move (Operand.tmp 1), type := 3, pos := "commands.go:126", after := #[], guard := none }) (v := ?v5) rfl (by kernel_rfl) (by kernel_rfl) (by kernel_rfl) (fun _ _ _ h => h) (Or.inl ⟨by rfl, ?y5⟩) (by assumption) ?r5
  case y5 => (intro x hx; (try dsimp only at hx); go_simp; try with_reducible rfl)
  try simp only [Act.put, List.setIfInBounds_toArray, List.set_cons_zero, List.set_cons_succ]
  refine wpAnyH_take (i := 6) (oi := { dst := some 15, op := Op.fieldAddr 51 (Operand.tmp 6) 0, type := 0, pos := "commands.go:126", after := #[], guard := none }) (v := ?v6) rfl (by kernel_rfl) (by kernel_rfl) (by kernel_rfl) (fun _ _ _ h => h) (Or.inl ⟨by rfl, ?y6⟩) (by assumption) ?r6
  case y6 => (intro x hx; (try dsimp only at hx); go_simp; try with_reducible rfl)
  try simp only [Act.put, List.setIfInBounds_toArray, List.set_cons_zero, List.set_cons_succ]
  refine wpAnyH_take (i := 7) (oi := { dst := some 16, op := Op.load 3 (Operand.tmp 15), type := 3, pos := "commands.go:126", after := #[{ on := 6, ground := Ground.data }], guard := none }) (v := ?v7) rfl (by kernel_rfl) (by kernel_rfl) (by kernel_rfl) (fun _ _ _ h => h) (Or.inl ⟨by rfl, ?y7⟩) (by assumption) ?r7
  case y7 => (intro x hx; (try dsimp only at hx); go_simp; try with_reducible rfl)
  try simp only [Act.put, List.setIfInBounds_toArray, List.set_cons_zero, List.set_cons_succ]
  refine wpAnyH_take (i := 8) (oi := { dst := some 17, op := Op.fieldAddr 51 (Operand.tmp 6) 1, type := 0, pos := "commands.go:126", after := #[], guard := none }) (v := ?v8) rfl (by kernel_rfl) (by kernel_rfl) (by kernel_rfl) (fun _ _ _ h => h) (Or.inl ⟨by rfl, ?y8⟩) (by assumption) ?r8
  case y8 => (intro x hx; (try dsimp only at hx); go_simp; try with_reducible rfl)
  try simp only [Act.put, List.setIfInBounds_toArray, List.set_cons_zero, List.set_cons_succ]
  refine wpAnyH_take (i := 9) (oi := { dst := some 18, op := Op.load 3 (Operand.tmp 17), type := 3, pos := "commands.go:126", after := #[{ on := 8, ground := Ground.data }], guard := none }) (v := ?v9) rfl (by kernel_rfl) (by kernel_rfl) (by kernel_rfl) (fun _ _ _ h => h) (Or.inl ⟨by rfl, ?y9⟩) (by assumption) ?r9
  case y9 => (intro x hx; (try dsimp only at hx); go_simp; try with_reducible rfl)
  try simp only [Act.put, List.setIfInBounds_toArray, List.set_cons_zero, List.set_cons_succ]
  refine wpAnyH_take (i := 10) (oi := { dst := some 19, op := Op.move (Operand.tmp 3), type := 28, pos := "commands.go:126", after := #[], guard := none }) (v := ?v10) rfl (by kernel_rfl) (by kernel_rfl) (by kernel_rfl) (fun _ _ _ h => h) (Or.inl ⟨by rfl, ?y10⟩) (by assumption) ?r10
  case y10 => (intro x hx; (try dsimp only at hx); go_simp; try with_reducible rfl)
  try simp only [Act.put, List.setIfInBounds_toArray, List.set_cons_zero, List.set_cons_succ]
  refine wpAnyH_take (i := 11) (oi := { dst := some 20, op := Op.build 54 #[(0, Operand.tmp 14), (1, Operand.tmp 16), (2, Operand.tmp 18), (3, Operand.tmp 19)], type := 54, pos := "commands.go:126", after := #[{ on := 5, ground := Ground.data }, { on := 7, ground := Ground.data }, { on := 9, ground := Ground.data }, { on := 10, ground := Ground.data }], guard := none }) (v := ?v11) rfl (by kernel_rfl) (by kernel_rfl) (by kernel_rfl) (fun _ _ _ h => h) (Or.inl ⟨by rfl, ?y11⟩) (by assumption) ?r11
  case y11 => (intro x hx; (try dsimp only at hx); go_simp; try with_reducible rfl)
  try simp only [Act.put, List.setIfInBounds_toArray, List.set_cons_zero, List.set_cons_succ]
  refine wpAnyH_ready (rs := [4, 12]) (by kernel_rfl) (by simp) ?_
  refine AllReadyH.cons (o := { dst := some 13, op := Op.load 46 (Operand.tmp 12), type := 46, pos := "commands.go:126", after := #[{ on := 3, ground := Ground.data }], guard := none }) rfl (fun K hK => ?_) (AllReadyH.cons (o := { dst := some 21, op := Op.buildSlice 46 1 #[(0, Operand.tmp 20)], type := 46, pos := "commands.go:126", after := #[{ on := 11, ground := Ground.data }], guard := none }) rfl (fun K hK => ?_) AllReadyH.nil)
  · go_simp
    go_wp2_with fail
    have hSnew := hHeld
    refine hK.out _ _ hSnew (fun hHeld4 => ?_)
    clear hK K hSnew hHeld
    have hHeld := hHeld4
    clear hHeld4
    try simp only [Act.put, List.setIfInBounds_toArray, List.set_cons_zero, List.set_cons_succ]
    refine wpAnyH_ready (rs := [12]) (by kernel_rfl) (by simp) ?_
    refine AllReadyH.cons (o := { dst := some 21, op := Op.buildSlice 46 1 #[(0, Operand.tmp 20)], type := 46, pos := "commands.go:126", after := #[{ on := 11, ground := Ground.data }], guard := none }) rfl (fun K hK => ?_) AllReadyH.nil
    go_simp
    go_wp2_with fail
    have hSnew := HS12.out
    refine hK.out _ _ hSnew (fun hHeld12 => ?_)
    clear hK K hSnew hHeld
    have hHeld := hHeld12
    clear hHeld12
    try simp only [Act.put, List.setIfInBounds_toArray, List.set_cons_zero, List.set_cons_succ]
    refine wpAnyH_ready (rs := [13]) (by kernel_rfl) (by simp) ?_
    refine AllReadyH.cons (o := { dst := some 22, op := Op.call { callee := Callee.builtin Builtin.append, args := #[Operand.tmp 13, Operand.tmp 21], argTypes := #[46, 46] }, type := 46, pos := "commands.go:126", after := #[{ on := 4, ground := Ground.data }, { on := 12, ground := Ground.data }], guard := none }) rfl (fun K hK => ?_) AllReadyH.nil
    refine wp_append_lies _ (.tmp 13) (.tmp 21) 46 rfl 0 54 i0 (.agg #[.int .i64 0, .int .i64 0, .int .i64 0, .int .i64 0]) 4 32 Try.underlying46 hi hz0 hz1 hz2 rfl (by decide) _ x.tl (C.tr.flatMap Cmd.cells) rfl HC1.out.tr.row ⟨w.heap.size + 1, 0, none⟩ 1 1 [.int .i64 k, .int .i64 pb, .int .i64 pp, .int .i64 s] rfl rfl HNW.out (by intro u hu; simp at hu; rcases hu with rfl | rfl | rfl | rfl <;> rfl) (by decide) (by rw [HTL.out]; simp [maxLen]; omega) (by rw [HTL.out]; omega) (Nat.zero_le _) (w.heap.size + 2) (by simp) ?_
    intro gn tc Y own grow lies _
    have k0 : ∀ g, (Value.slice x.ta x.tl x.tc).ownBlock = some g → g ≠ p := fun g hg => (by obtain ⟨cs, hc⟩ := own_tag HC1.out.tr.row hg; exact tag_ne hc HC1.out.box (t := 54) (u := 71) rfl rfl (by decide))
    have kb : ∀ g, (Value.slice x.ta x.tl x.tc).ownBlock = some g → g < w.heap.size := fun g hg => HFW.out g (HC1.out.tr.fg g hg)
    have hXY : x.at Y p := HC1.out.box.keep (grow.block p HC1.out.box.lt (fun e => k0 p e.symm rfl))
    have y0 : Y.cell? ⟨w.heap.size, 0, none⟩ = some (.int .i64 pb) ∧ Y.cell? ⟨w.heap.size, 1, none⟩ = some (.int .i64 pp) := ⟨(grow.cell HS12.out.1 (fun e => Nat.lt_irrefl _ (kb _ e.symm))), (grow.cell HS12.out.2 (fun e => Nat.lt_irrefl _ (kb _ e.symm)))⟩
    have hSnew := y0
    have HXY := hide hXY
    have HOW := hide own
    have HG := hide grow
    have HLI := hide lies
    have fz13 := hXY.fz 13
    have e13 := hXY.c13
    clear own grow hXY y0 k0 kb lies
    refine hK.out _ _ hSnew (fun hHeld13 => ?_)
    clear hK K hSnew hHeld
    have hHeld := hHeld13
    clear hHeld13
    try simp only [Act.put, List.setIfInBounds_toArray, List.set_cons_zero, List.set_cons_succ]
    refine wpAnyH_take (i := 14) (oi := { dst := some 23, op := Op.nilCheck (Operand.tmp 9), type := 0, pos := "commands.go:126", after := #[{ on := 0, ground := Ground.data }, { on := 0, ground := Ground.phase }, { on := 1, ground := Ground.phase }, { on := 2, ground := Ground.phase }, { on := 3, ground := Ground.phase }, { on := 4, ground := Ground.phase }, { on := 5, ground := Ground.phase }, { on := 6, ground := Ground.phase }, { on := 7, ground := Ground.phase }, { on := 8, ground := Ground.phase }, { on := 9, ground := Ground.phase }, { on := 10, ground := Ground.phase }, { on := 11, ground := Ground.phase }, { on := 12, ground := Ground.phase }, { on := 13, ground := Ground.phase }], guard := none }) (v := ?v14A) rfl (by kernel_rfl) (by kernel_rfl) (by kernel_rfl) (fun _ _ _ h => h) (Or.inl ⟨by rfl, ?y14A⟩) (by assumption) ?r14A
    case y14A => (intro x hx; (try dsimp only at hx); go_simp; try with_reducible rfl)
    try simp only [Act.put, List.setIfInBounds_toArray, List.set_cons_zero, List.set_cons_succ]
    refine wpAnyH_take (i := 15) (oi := { dst := some 24, op := Op.fieldAddr 71 (Operand.tmp 23) 6, type := 0, pos := "commands.go:126", after := #[{ on := 14, ground := Ground.data }, { on := 0, ground := Ground.phase }, { on := 1, ground := Ground.phase }, { on := 2, ground := Ground.phase }, { on := 3, ground := Ground.phase }, { on := 4, ground := Ground.phase }, { on := 5, ground := Ground.phase }, { on := 6, ground := Ground.phase }, { on := 7, ground := Ground.phase }, { on := 8, ground := Ground.phase }, { on := 9, ground := Ground.phase }, { on := 10, ground := Ground.phase }, { on := 11, ground := Ground.phase }, { on := 12, ground := Ground.phase }, { on := 13, ground := Ground.phase }], guard := none }) (v := ?v15A) rfl (by kernel_rfl) (by kernel_rfl) (by kernel_rfl) (fun _ _ _ h => h) (Or.inl ⟨by rfl, ?y15A⟩) (by assumption) ?r15A
    case y15A => (intro x hx; (try dsimp only at hx); go_simp; try with_reducible rfl)
    try simp only [Act.put, List.setIfInBounds_toArray, List.set_cons_zero, List.set_cons_succ]
    refine wpAnyH_ready (rs := [16]) (by kernel_rfl) (by simp) ?_
    refine AllReadyH.cons (o := { dst := none, op := Op.store 46 (Operand.tmp 24) (Operand.tmp 22), type := 0, pos := "commands.go:126", after := #[{ on := 15, ground := Ground.data }, { on := 13, ground := Ground.data }, { on := 13, ground := Ground.chain }, { on := 0, ground := Ground.phase }, { on := 1, ground := Ground.phase }, { on := 2, ground := Ground.phase }, { on := 3, ground := Ground.phase }, { on := 4, ground := Ground.phase }, { on := 5, ground := Ground.phase }, { on := 6, ground := Ground.phase }, { on := 7, ground := Ground.phase }, { on := 8, ground := Ground.phase }, { on := 9, ground := Ground.phase }, { on := 10, ground := Ground.phase }, { on := 11, ground := Ground.phase }, { on := 12, ground := Ground.phase }, { on := 13, ground := Ground.phase }], guard := none }) rfl (fun K hK => ?_) AllReadyH.nil
    go_simp
    go_wp2_with fail
    have n0 : w.heap.size ≠ p := by omega
    have hSnew : (Y.setCell ⟨p, 13, none⟩ (.slice (some ⟨gn, 0, none⟩) (x.tl + 1) tc)).cell? ⟨w.heap.size, 0, none⟩ = some (.int .i64 pb) ∧ (Y.setCell ⟨p, 13, none⟩ (.slice (some ⟨gn, 0, none⟩) (x.tl + 1) tc)).cell? ⟨w.heap.size, 1, none⟩ = some (.int .i64 pp) := ⟨(Only.setCell (· = p) Y p 13 _ rfl).cell hHeld.1 n0, (Only.setCell (· = p) Y p 13 _ rfl).cell hHeld.2 n0⟩
    refine hK.out _ _ hSnew (fun hHeld16 => ?_)
    clear hK K hSnew hHeld hHeld16
    try simp only [Act.put, List.setIfInBounds_toArray, List.set_cons_zero, List.set_cons_succ]
    refine wpAnyH_done (by kernel_rfl) ?_ _
    clear c13 d13
    go_wp2
    go_ret
    exact ⟨rfl, note_end htr HC1.out HFW.out HTL.out HOW.out HG.out HLI.out⟩
  · go_simp
    go_wp2_with fail
    have hSnew := HS12.out
    refine hK.out _ _ hSnew (fun hHeld12 => ?_)
    clear hK K hSnew hHeld
    have hHeld := hHeld12
    clear hHeld12
    try simp only [Act.put, List.setIfInBounds_toArray, List.set_cons_zero, List.set_cons_succ]
    refine wpAnyH_ready (rs := [4]) (by kernel_rfl) (by simp) ?_
    refine AllReadyH.cons (o := { dst := some 13, op := Op.load 46 (Operand.tmp 12), type := 46, pos := "commands.go:126", after := #[{ on := 3, ground := Ground.data }], guard := none }) rfl (fun K hK => ?_) AllReadyH.nil
    go_simp
    go_wp2_with fail
    have hSnew := hHeld
    refine hK.out _ _ hSnew (fun hHeld4 => ?_)
    clear hK K hSnew hHeld
    have hHeld := hHeld4
    clear hHeld4
    try simp only [Act.put, List.setIfInBounds_toArray, List.set_cons_zero, List.set_cons_succ]
    refine wpAnyH_ready (rs := [13]) (by kernel_rfl) (by simp) ?_
    refine AllReadyH.cons (o := { dst := some 22, op := Op.call { callee := Callee.builtin Builtin.append, args := #[Operand.tmp 13, Operand.tmp 21], argTypes := #[46, 46] }, type := 46, pos := "commands.go:126", after := #[{ on := 4, ground := Ground.data }, { on := 12, ground := Ground.data }], guard := none }) rfl (fun K hK => ?_) AllReadyH.nil
    refine wp_append_lies _ (.tmp 13) (.tmp 21) 46 rfl 0 54 i0 (.agg #[.int .i64 0, .int .i64 0, .int .i64 0, .int .i64 0]) 4 32 Try.underlying46 hi hz0 hz1 hz2 rfl (by decide) _ x.tl (C.tr.flatMap Cmd.cells) rfl HC1.out.tr.row ⟨w.heap.size + 1, 0, none⟩ 1 1 [.int .i64 k, .int .i64 pb, .int .i64 pp, .int .i64 s] rfl rfl HNW.out (by intro u hu; simp at hu; rcases hu with rfl | rfl | rfl | rfl <;> rfl) (by decide) (by rw [HTL.out]; simp [maxLen]; omega) (by rw [HTL.out]; omega) (Nat.zero_le _) (w.heap.size + 2) (by simp) ?_
    intro gn tc Y own grow lies _
    have k0 : ∀ g, (Value.slice x.ta x.tl x.tc).ownBlock = some g → g ≠ p := fun g hg => (by obtain ⟨cs, hc⟩ := own_tag HC1.out.tr.row hg; exact tag_ne hc HC1.out.box (t := 54) (u := 71) rfl rfl (by decide))
    have kb : ∀ g, (Value.slice x.ta x.tl x.tc).ownBlock = some g → g < w.heap.size := fun g hg => HFW.out g (HC1.out.tr.fg g hg)
    have hXY : x.at Y p := HC1.out.box.keep (grow.block p HC1.out.box.lt (fun e => k0 p e.symm rfl))
    have y0 : Y.cell? ⟨w.heap.size, 0, none⟩ = some (.int .i64 pb) ∧ Y.cell? ⟨w.heap.size, 1, none⟩ = some (.int .i64 pp) := ⟨(grow.cell HS12.out.1 (fun e => Nat.lt_irrefl _ (kb _ e.symm))), (grow.cell HS12.out.2 (fun e => Nat.lt_irrefl _ (kb _ e.symm)))⟩
    have hSnew := y0
    have HXY := hide hXY
    have HOW := hide own
    have HG := hide grow
    have HLI := hide lies
    have fz13 := hXY.fz 13
    have e13 := hXY.c13
    clear own grow hXY y0 k0 kb lies
    refine hK.out _ _ hSnew (fun hHeld13 => ?_)
    clear hK K hSnew hHeld
    have hHeld := hHeld13
    clear hHeld13
    try simp only [Act.put, List.setIfInBounds_toArray, List.set_cons_zero, List.set_cons_succ]
    refine wpAnyH_take (i := 14) (oi := { dst := some 23, op := Op.nilCheck (Operand.tmp 9), type := 0, pos := "commands.go:126", after := #[{ on := 0, ground := Ground.data }, { on := 0, ground := Ground.phase }, { on := 1, ground := Ground.phase }, { on := 2, ground := Ground.phase }, { on := 3, ground := Ground.phase }, { on := 4, ground := Ground.phase }, { on := 5, ground := Ground.phase }, { on := 6, ground := Ground.phase }, { on := 7, ground := Ground.phase }, { on := 8, ground := Ground.phase }, { on := 9, ground := Ground.phase }, { on := 10, ground := Ground.phase }, { on := 11, ground := Ground.phase }, { on := 12, ground := Ground.phase }, { on := 13, ground := Ground.phase }], guard := none }) (v := ?v14B) rfl (by kernel_rfl) (by kernel_rfl) (by kernel_rfl) (fun _ _ _ h => h) (Or.inl ⟨by rfl, ?y14B⟩) (by assumption) ?r14B
    case y14B => (intro x hx; (try dsimp only at hx); go_simp; try with_reducible rfl)
    try simp only [Act.put, List.setIfInBounds_toArray, List.set_cons_zero, List.set_cons_succ]
    refine wpAnyH_take (i := 15) (oi := { dst := some 24, op := Op.fieldAddr 71 (Operand.tmp 23) 6, type := 0, pos := "commands.go:126", after := #[{ on := 14, ground := Ground.data }, { on := 0, ground := Ground.phase }, { on := 1, ground := Ground.phase }, { on := 2, ground := Ground.phase }, { on := 3, ground := Ground.phase }, { on := 4, ground := Ground.phase }, { on := 5, ground := Ground.phase }, { on := 6, ground := Ground.phase }, { on := 7, ground := Ground.phase }, { on := 8, ground := Ground.phase }, { on := 9, ground := Ground.phase }, { on := 10, ground := Ground.phase }, { on := 11, ground := Ground.phase }, { on := 12, ground := Ground.phase }, { on := 13, ground := Ground.phase }], guard := none }) (v := ?v15B) rfl (by kernel_rfl) (by kernel_rfl) (by kernel_rfl) (fun _ _ _ h => h) (Or.inl ⟨by rfl, ?y15B⟩) (by assumption) ?r15B
    case y15B => (intro x hx; (try dsimp only at hx); go_simp; try with_reducible rfl)
    try simp only [Act.put, List.setIfInBounds_toArray, List.set_cons_zero, List.set_cons_succ]
    refine wpAnyH_ready (rs := [16]) (by kernel_rfl) (by simp) ?_
    refine AllReadyH.cons (o := { dst := none, op := Op.store 46 (Operand.tmp 24) (Operand.tmp 22), type := 0, pos := "commands.go:126", after := #[{ on := 15, ground := Ground.data }, { on := 13, ground := Ground.data }, { on := 13, ground := Ground.chain }, { on := 0, ground := Ground.phase }, { on := 1, ground := Ground.phase }, { on := 2, ground := Ground.phase }, { on := 3, ground := Ground.phase }, { on := 4, ground := Ground.phase }, { on := 5, ground := Ground.phase }, { on := 6, ground := Ground.phase }, { on := 7, ground := Ground.phase }, { on := 8, ground := Ground.phase }, { on := 9, ground := Ground.phase }, { on := 10, ground := Ground.phase }, { on := 11, ground := Ground.phase }, { on := 12, ground := Ground.phase }, { on := 13, ground := Ground.phase }], guard := none }) rfl (fun K hK => ?_) AllReadyH.nil
    go_simp
    go_wp2_with fail
    have n0 : w.heap.size ≠ p := by omega
    have hSnew : (Y.setCell ⟨p, 13, none⟩ (.slice (some ⟨gn, 0, none⟩) (x.tl + 1) tc)).cell? ⟨w.heap.size, 0, none⟩ = some (.int .i64 pb) ∧ (Y.setCell ⟨p, 13, none⟩ (.slice (some ⟨gn, 0, none⟩) (x.tl + 1) tc)).cell? ⟨w.heap.size, 1, none⟩ = some (.int .i64 pp) := ⟨(Only.setCell (· = p) Y p 13 _ rfl).cell hHeld.1 n0, (Only.setCell (· = p) Y p 13 _ rfl).cell hHeld.2 n0⟩
    refine hK.out _ _ hSnew (fun hHeld16 => ?_)
    clear hK K hSnew hHeld hHeld16
    try simp only [Act.put, List.setIfInBounds_toArray, List.set_cons_zero, List.set_cons_succ]
    refine wpAnyH_done (by kernel_rfl) ?_ _
    clear c13 d13
    go_wp2
    go_ret
    exact ⟨rfl, note_end htr HC1.out HFW.out HTL.out HOW.out HG.out HLI.out⟩
end Go.Proofs.Ytjhphkfpcpfdnaa
