/-
  SEAT Ytadlkikjfonkgaa: Ce, Cf, Jn.
-/
import Derived.Test.YtadlkikjfonkgaaQa
import Derived.Test.YtadlkikjfonkgaaQd
import Derived.Lib.LazyBuf
namespace Go.Proofs.Ytadlkikjfonkgaa
open Go.RowKit Go.Conc
set_option linter.unusedVariables false
set_option maxRecDepth 100000
set_option maxHeartbeats 4000000
variable {w w' : World} {F G T : Nat → Prop} {C : Ch} {x : Bx} {bs : List Bc} {fe : List Fe}
theorem CAt.frame {p : Nat} {C' : Ch} {x' : Bx} (h : CAt w p F C x bs fe) (hT : KeepT F T w w') (h5 : ¬ T 5) (h106 : ¬ T 106) (h108 : ¬ T 108) (hm : ¬ T 1001) (h3 : ¬ T 3) (hF : ∀ k, F k → G k) (hG : ∀ k, G k → k < w'.heap.size) (hx : x'.at w' p)
  (e1 : x'.B = x.B ∧ x'.P = x.P ∧ x'.S = x.S ∧ x'.gb = x.gb ∧ x'.nb = x.nb ∧ x'.gm = x.gm) (hd : x'.dark = C'.dark) (hc : x'.cnt = C'.cnt) (hq : QAt w' G x' C'.q) (ht : TrAt w' G x' C'.tr)
  (e4 : C'.B = C.B ∧ C'.P = C.P ∧ C'.S = C.S ∧ C'.bl = C.bl ∧ C'.fl = C.fl) : CAt w' p G C' x' bs fe := by
 obtain ⟨a1, a2, a3, a4, a5, a6⟩ := e1
 obtain ⟨d1, d2, d3, d4, d5⟩ := e4
 refine ⟨hx, hF _ h.fp, ?_, ?_, ?_, a5.trans h.nb, hd, hc, ?_, ?_, ?_, ?_, h.gs, ?_, ?_, hq, ht, hG⟩
 ·rw [a1, d1]; exact h.B
 ·rw [a2, d2]; exact h.P
 ·rw [a3, d3]; exact h.S
 ·rw [a4]; exact hT _ _ 106 h.fb h.row rfl h106
 ·rw [a4]; exact hF _ h.fb
 ·rw [d4]; exact h.bl
 ·rw [d2, d3]; exact fun b hb => (h.bok b hb).keep hT h5 hF ((hT _ _ 108 (h.bok b hb).fg (h.bok b hb).row rfl h108).trans (h.bok b hb).row.symm)
 ·rw [a6]; exact h.fl.keep hT hm h3 hF
 ·rw [d5]; exact h.fs
theorem info120 : (Try.prog.info? 120).map (fun i => (i.zero, i.size, i.bytes)) = some (some (.agg #[.int .i64 0, .int .i64 0, .int .i64 0, .int .i64 0]), 4, 32) := by kernel_rfl
theorem note_end {Y : World} {p : Nat} {k pb pp s : Int} {gn tc : Nat} (htr : C.tr.length ≤ 4000000000000) (h : CAt ((w.alloc (.cells #[.int .i64 pb, .int .i64 pp] 41)).alloc (.cells #[.int .i64 k, .int .i64 pb, .int .i64 pp, .int .i64 s] 120)).drew p F C x bs fe) (hfw : ∀ k, F k → k < w.heap.size) (htl : x.tl = C.tr.length)
  (how : Y.ownsRow 0 120 4 (.slice (some ⟨gn, 0, none⟩) (x.tl + 1) tc) (x.tl + 1) (C.tr.flatMap Cmd.cells ++ [.int .i64 k, .int .i64 pb, .int .i64 pp, .int .i64 s])) (hg : (((w.alloc (.cells #[.int .i64 pb, .int .i64 pp] 41)).alloc (.cells #[.int .i64 k, .int .i64 pb, .int .i64 pp, .int .i64 s] 120)).drew).grownBy Y (Value.slice x.ta x.tl x.tc).ownBlock) (hli : (Value.slice x.ta x.tl x.tc).ownBlock = some gn ∨ gn = w.heap.size + 2) :
  ChipAt (Y.setCell ⟨p, 13, none⟩ (.slice (some ⟨gn, 0, none⟩) (x.tl + 1) tc)) p (Fx F w (Y.setCell ⟨p, 13, none⟩ (.slice (some ⟨gn, 0, none⟩) (x.tl + 1) tc))) { C with tr := C.tr ++ [⟨k, pb, pp, s⟩] } ∧ Only F w (Y.setCell ⟨p, 13, none⟩ (.slice (some ⟨gn, 0, none⟩) (x.tl + 1) tc)) := by
 have hp : p < w.heap.size := hfw p h.fp
 have kt : ∀ g, (Value.slice x.ta x.tl x.tc).ownBlock = some g → ∃ cs, (((w.alloc (.cells #[.int .i64 pb, .int .i64 pp] 41)).alloc (.cells #[.int .i64 k, .int .i64 pb, .int .i64 pp, .int .i64 s] 120)).drew).heap[g]? = some (.cells cs 120 (0, 0)) := fun g hg => own_tag h.tr.row hg
 have k0 : ∀ g, (Value.slice x.ta x.tl x.tc).ownBlock = some g → g ≠ p := fun g hg => by
  obtain ⟨cs, hc⟩ := kt g hg
  exact tag_ne hc h.box (t := 120) (u := 102) rfl rfl (by decide)
 have hXY : x.at Y p := h.box.keep (hg.block p h.box.lt (fun e => k0 p e.symm rfl))
 have hZ := hXY.setVt (some ⟨gn, 0, none⟩) (x.tl + 1) tc
 have oY : Only (fun g => (Value.slice x.ta x.tl x.tc).ownBlock = some g) ((w.alloc (.cells #[.int .i64 pb, .int .i64 pp] 41)).alloc (.cells #[.int .i64 k, .int .i64 pb, .int .i64 pp, .int .i64 s] 120)).drew Y := Only.ofG hg (fun j e => e)
 have oZ := Only.setCell (· = p) Y p 13 (.slice (some ⟨gn, 0, none⟩) (x.tl + 1) tc) rfl
 have oXZ : Only (fun g => (Value.slice x.ta x.tl x.tc).ownBlock = some g ∨ g = p) ((w.alloc (.cells #[.int .i64 pb, .int .i64 pp] 41)).alloc (.cells #[.int .i64 k, .int .i64 pb, .int .i64 pp, .int .i64 s] 120)).drew (Y.setCell ⟨p, 13, none⟩ (.slice (some ⟨gn, 0, none⟩) (x.tl + 1) tc)) := (oY.mono (fun _ _ h => Or.inl h)).trans oZ (fun _ _ h => Or.inr h)
 have hsz : w.heap.size ≤ (((w.alloc (.cells #[.int .i64 pb, .int .i64 pp] 41)).alloc (.cells #[.int .i64 k, .int .i64 pb, .int .i64 pp, .int .i64 s] 120)).drew).heap.size := by simp; omega
 have hsz2 := oXZ.size
 have hT : KeepT F (fun t => t = 120 ∨ t = 102) ((w.alloc (.cells #[.int .i64 pb, .int .i64 pp] 41)).alloc (.cells #[.int .i64 k, .int .i64 pb, .int .i64 pp, .int .i64 s] 120)).drew (Y.setCell ⟨p, 13, none⟩ (.slice (some ⟨gn, 0, none⟩) (x.tl + 1) tc)) := oXZ.keepT (fun j o t hj ho ht => by
  rcases hj with e | e
  ·obtain ⟨cs, hc⟩ := kt j e
   rw [hc] at ho
   cases ho
   exact Or.inl ht.symm
  ·rw [e, show (((w.alloc (.cells #[.int .i64 pb, .int .i64 pp] 41)).alloc (.cells #[.int .i64 k, .int .i64 pb, .int .i64 pp, .int .i64 s] 120)).drew).heap[p]? = _ from h.box] at ho
   cases ho
   exact Or.inr ht.symm)
 have hownZ : (Y.setCell ⟨p, 13, none⟩ (.slice (some ⟨gn, 0, none⟩) (x.tl + 1) tc)).ownsRow 0 120 4 (.slice (some ⟨gn, 0, none⟩) (x.tl + 1) tc) (x.tl + 1) ((C.tr ++ [(⟨k, pb, pp, s⟩ : Cmd)]).flatMap Cmd.cells) := by
  rw [List.flatMap_append]
  refine owns_keep how (fun g hg => oZ.block g ?_ ?_)
  ·exact (how.lt g hg).2
  ·obtain ⟨cs, hc⟩ := own_tag how hg
   exact tag_ne hc hXY (t := 120) (u := 102) rfl rfl (by decide)
 have hblk : ∀ g, (Value.slice (some ⟨gn, 0, none⟩) (x.tl + 1) tc).ownBlock = some g → Fx F w (Y.setCell ⟨p, 13, none⟩ (.slice (some ⟨gn, 0, none⟩) (x.tl + 1) tc)) g := fun g hg' => by
  have hlt := (how.lt g hg').2
  have e0 : gn = g := Option.some.inj hg'
  subst e0
  rcases hli with e | e
  ·exact Or.inl (h.tr.fg _ e)
  ·exact Or.inr ⟨by omega, by have := oZ.size; omega⟩
 refine ⟨⟨_, bs, fe, h.frame hT (by decide) (by decide) (by decide) (by decide) (by decide) (fun k hk => Or.inl hk) (fun k hk => ?_) hZ ⟨rfl, rfl, rfl, rfl, rfl, rfl⟩ h.dark h.cnt ?_ ⟨hownZ, by simp [htl], hblk⟩ ⟨rfl, rfl, rfl, rfl, rfl⟩⟩, ?_⟩
 ·rcases hk with h1 | h1
  ·exact Nat.lt_of_lt_of_le (hfw k h1) (Nat.le_trans hsz hsz2)
  ·exact h1.2
 ·exact h.q.keep hT (by decide) (by decide) (fun k hk => Or.inl hk) ⟨rfl, rfl, rfl, rfl, rfl, rfl, rfl⟩ rfl
 ·refine (Only.ofB (F := F) (below_trans (below_trans (below_alloc w (.cells #[.int .i64 pb, .int .i64 pp] 41)) (below_alloc _ (.cells #[.int .i64 k, .int .i64 pb, .int .i64 pp, .int .i64 s] 120))) (drew_below _))).trans oXZ (fun j hj e => ?_)
  rcases e with e | e
  ·exact h.tr.fg j e
  ·rw [e]; exact h.fp
theorem note_any (w : World) (p : Nat) (F : Nat → Prop) (C : Ch) (x : Bx) (bs : List Bc) (fe : List Fe) (h : CAt w p F C x bs fe) (htr : C.tr.length ≤ 4000000000000) (k pb pp s : Int) :
  Calls Try.prog 86 #[.pointer (some ⟨p, 0, none⟩), .int .i64 k, .agg #[.int .i64 pb, .int .i64 pp], .int .i64 s] w fun e w' => e = .returned (.int .i64 s) ∧ ChipAt w' p (Fx F w w') { C with tr := C.tr ++ [⟨k, pb, pp, s⟩] } ∧ Only F w w' := by
 obtain ⟨i0, hi, hz0, hz1, hz2⟩ := info_parts info120
 have hp := h.box.lt
 have HC : Hid (CAt (w.alloc (.cells #[.int .i64 pb, .int .i64 pp] 41)).drew p F C x bs fe) := h.below (below_trans (below_alloc _ _) (drew_below _))
 have HC1 : Hid (CAt ((w.alloc (.cells #[.int .i64 pb, .int .i64 pp] 41)).alloc (.cells #[.int .i64 k, .int .i64 pb, .int .i64 pp, .int .i64 s] 120)).drew p F C x bs fe) := (h.below (below_alloc _ _)).below (below_trans (below_alloc _ _) (drew_below _))
 have c13 := HC.out.box.c13
 have HTL : Hid (x.tl = C.tr.length) := h.tr.len
 have HFW : Hid (∀ k, F k → k < w.heap.size) := h.fin
 have HS12 : Hid ((((w.alloc (.cells #[.int .i64 pb, .int .i64 pp] 41)).alloc (.cells #[.int .i64 k, .int .i64 pb, .int .i64 pp, .int .i64 s] 120)).drew).cell? ⟨w.heap.size, 0, none⟩ = some (.int .i64 pb) ∧ (((w.alloc (.cells #[.int .i64 pb, .int .i64 pp] 41)).alloc (.cells #[.int .i64 k, .int .i64 pb, .int .i64 pp, .int .i64 s] 120)).drew).cell? ⟨w.heap.size, 1, none⟩ = some (.int .i64 pp)) := ⟨by simp, by simp⟩
 have d13 := HC1.out.box.c13
 have HNW : Hid (∀ j u, ([.int .i64 k, .int .i64 pb, .int .i64 pp, .int .i64 s] : List Value)[j]? = some u → (((w.alloc (.cells #[.int .i64 pb, .int .i64 pp] 41)).alloc (.cells #[.int .i64 k, .int .i64 pb, .int .i64 pp, .int .i64 s] 120)).drew).cell? ((⟨w.heap.size + 1, 0, none⟩ : Addr).add j) = some u) := by
  intro j u hj
  rw [plain_add, Nat.zero_add]
  match j, hj with
  | 0, hj => simp at hj; subst hj; simp
  | 1, hj => simp at hj; subst hj; simp
  | 2, hj => simp at hj; subst hj; simp
  | 3, hj => simp at hj; subst hj; simp
 have hx0 : x.at w p := h.box
 clear h hx0
 go_enter Try.func86, Try.ntmps86
 go_wp2
 refine wp_region_held_drew (S := (fun u => u.cell? ⟨w.heap.size, 0, none⟩ = some (.int .i64 pb) ∧ u.cell? ⟨w.heap.size, 1, none⟩ = some (.int .i64 pp))) (by kernel_rfl) (⟨by simp, by simp⟩) fun O => ?_
 refine tk 0 ?_
 refine tk 1 ?_
 refine tk 2 ?_
 refine tk 3 ?_
 refine tk 5 ?_
 refine tk 6 ?_
 refine tk 7 ?_
 refine tk 8 ?_
 refine tk 9 ?_
 refine tk 10 ?_
 refine tk 11 ?_
 refine wpAnyH_ready (rs := [4, 12]) (by kernel_rfl) (by simp) ?_
 refine AllReadyH.cons (o := { dst := some 13, op := Op.load 45 (Operand.tmp 12), type := 45, pos := "commands.go:126", after := #[{ on := 3, ground := Ground.data }], guard := none }) rfl (fun K N => ?_) (AllReadyH.cons (o := { dst := some 21, op := Op.buildSlice 45 1 #[(0, Operand.tmp 20)], type := 45, pos := "commands.go:126", after := #[{ on := 11, ground := Ground.data }], guard := none }) rfl (fun K N => ?_) AllReadyH.nil)
 ·go_simp
  go_wp2_with fail
  have hZ := O
  clear O
  refine N.out _ _ hZ fun O => ?_
  clear N K hZ
  try simp only [zz]
  refine rd 12 fun K N => ?_
  go_simp
  go_wp2_with fail
  have hZ := HS12.out
  clear O
  refine N.out _ _ hZ fun O => ?_
  clear N K hZ
  try simp only [zz]
  refine rd 13 fun K N => ?_
  refine wp_append_lies _ (.tmp 13) (.tmp 21) 45 rfl 0 120 i0 (.agg #[.int .i64 0, .int .i64 0, .int .i64 0, .int .i64 0]) 4 32 Try.underlying45 hi hz0 hz1 hz2 rfl (by decide) _ x.tl (C.tr.flatMap Cmd.cells) rfl HC1.out.tr.row ⟨w.heap.size + 1, 0, none⟩ 1 1 [.int .i64 k, .int .i64 pb, .int .i64 pp, .int .i64 s] rfl rfl HNW.out (by intro u hu; simp at hu; rcases hu with rfl | rfl | rfl | rfl <;> rfl) (by decide) (by rw [HTL.out]; simp [maxLen]; omega) (by rw [HTL.out]; omega) (Nat.zero_le _) (w.heap.size + 2) (by simp) ?_
  intro gn tc Y own grow lies _
  have k0 : ∀ g, (Value.slice x.ta x.tl x.tc).ownBlock = some g → g ≠ p := fun g hg => (by obtain ⟨cs, hc⟩ := own_tag HC1.out.tr.row hg; exact tag_ne hc HC1.out.box (t := 120) (u := 102) rfl rfl (by decide))
  have kb : ∀ g, (Value.slice x.ta x.tl x.tc).ownBlock = some g → g < w.heap.size := fun g hg => HFW.out g (HC1.out.tr.fg g hg)
  have hXY : x.at Y p := HC1.out.box.keep (grow.block p HC1.out.box.lt (fun e => k0 p e.symm rfl))
  have y0 : Y.cell? ⟨w.heap.size, 0, none⟩ = some (.int .i64 pb) ∧ Y.cell? ⟨w.heap.size, 1, none⟩ = some (.int .i64 pp) := ⟨(grow.cell HS12.out.1 (fun e => Nat.lt_irrefl _ (kb _ e.symm))), (grow.cell HS12.out.2 (fun e => Nat.lt_irrefl _ (kb _ e.symm)))⟩
  have hZ := y0
  have HXY := J hXY
  have HOW := J own
  have HG := J grow
  have HLI := J lies
  have fz13 := hXY.fz 13
  have e13 := hXY.c13
  clear own grow hXY y0 k0 kb lies
  clear O
  refine N.out _ _ hZ fun O => ?_
  clear N K hZ
  try simp only [zz]
  refine tk 14 ?_
  refine tk 15 ?_
  refine rd 16 fun K N => ?_
  go_simp
  go_wp2_with fail
  have n0 : w.heap.size ≠ p := by omega
  have hZ : (Y.setCell ⟨p, 13, none⟩ (.slice (some ⟨gn, 0, none⟩) (x.tl + 1) tc)).cell? ⟨w.heap.size, 0, none⟩ = some (.int .i64 pb) ∧ (Y.setCell ⟨p, 13, none⟩ (.slice (some ⟨gn, 0, none⟩) (x.tl + 1) tc)).cell? ⟨w.heap.size, 1, none⟩ = some (.int .i64 pp) := ⟨(Only.setCell (· = p) Y p 13 _ rfl).cell O.1 n0, (Only.setCell (· = p) Y p 13 _ rfl).cell O.2 n0⟩
  refine N.out _ _ hZ (fun hHeld16 => ?_)
  clear N K hZ O hHeld16
  try simp only [zz]
  refine td ?_
  clear c13 d13
  go_wp2
  go_ret
  exact ⟨rfl, note_end htr HC1.out HFW.out HTL.out HOW.out HG.out HLI.out⟩
 ·go_simp
  go_wp2_with fail
  have hZ := HS12.out
  clear O
  refine N.out _ _ hZ fun O => ?_
  clear N K hZ
  try simp only [zz]
  refine rd 4 fun K N => ?_
  go_simp
  go_wp2_with fail
  have hZ := O
  clear O
  refine N.out _ _ hZ fun O => ?_
  clear N K hZ
  try simp only [zz]
  refine rd 13 fun K N => ?_
  refine wp_append_lies _ (.tmp 13) (.tmp 21) 45 rfl 0 120 i0 (.agg #[.int .i64 0, .int .i64 0, .int .i64 0, .int .i64 0]) 4 32 Try.underlying45 hi hz0 hz1 hz2 rfl (by decide) _ x.tl (C.tr.flatMap Cmd.cells) rfl HC1.out.tr.row ⟨w.heap.size + 1, 0, none⟩ 1 1 [.int .i64 k, .int .i64 pb, .int .i64 pp, .int .i64 s] rfl rfl HNW.out (by intro u hu; simp at hu; rcases hu with rfl | rfl | rfl | rfl <;> rfl) (by decide) (by rw [HTL.out]; simp [maxLen]; omega) (by rw [HTL.out]; omega) (Nat.zero_le _) (w.heap.size + 2) (by simp) ?_
  intro gn tc Y own grow lies _
  have k0 : ∀ g, (Value.slice x.ta x.tl x.tc).ownBlock = some g → g ≠ p := fun g hg => (by obtain ⟨cs, hc⟩ := own_tag HC1.out.tr.row hg; exact tag_ne hc HC1.out.box (t := 120) (u := 102) rfl rfl (by decide))
  have kb : ∀ g, (Value.slice x.ta x.tl x.tc).ownBlock = some g → g < w.heap.size := fun g hg => HFW.out g (HC1.out.tr.fg g hg)
  have hXY : x.at Y p := HC1.out.box.keep (grow.block p HC1.out.box.lt (fun e => k0 p e.symm rfl))
  have y0 : Y.cell? ⟨w.heap.size, 0, none⟩ = some (.int .i64 pb) ∧ Y.cell? ⟨w.heap.size, 1, none⟩ = some (.int .i64 pp) := ⟨(grow.cell HS12.out.1 (fun e => Nat.lt_irrefl _ (kb _ e.symm))), (grow.cell HS12.out.2 (fun e => Nat.lt_irrefl _ (kb _ e.symm)))⟩
  have hZ := y0
  have HXY := J hXY
  have HOW := J own
  have HG := J grow
  have HLI := J lies
  have fz13 := hXY.fz 13
  have e13 := hXY.c13
  clear own grow hXY y0 k0 kb lies
  clear O
  refine N.out _ _ hZ fun O => ?_
  clear N K hZ
  try simp only [zz]
  refine tk 14 ?_
  refine tk 15 ?_
  refine rd 16 fun K N => ?_
  go_simp
  go_wp2_with fail
  have n0 : w.heap.size ≠ p := by omega
  have hZ : (Y.setCell ⟨p, 13, none⟩ (.slice (some ⟨gn, 0, none⟩) (x.tl + 1) tc)).cell? ⟨w.heap.size, 0, none⟩ = some (.int .i64 pb) ∧ (Y.setCell ⟨p, 13, none⟩ (.slice (some ⟨gn, 0, none⟩) (x.tl + 1) tc)).cell? ⟨w.heap.size, 1, none⟩ = some (.int .i64 pp) := ⟨(Only.setCell (· = p) Y p 13 _ rfl).cell O.1 n0, (Only.setCell (· = p) Y p 13 _ rfl).cell O.2 n0⟩
  refine N.out _ _ hZ (fun hHeld16 => ?_)
  clear N K hZ O hHeld16
  try simp only [zz]
  refine td ?_
  clear c13 d13
  go_wp2
  go_ret
  exact ⟨rfl, note_end htr HC1.out HFW.out HTL.out HOW.out HG.out HLI.out⟩
theorem CAt.blocks {p : Nat} {bs' : List Bc} (h : CAt w p F C x bs fe) (hT : KeepT F T w w') (h5 : ¬ T 5) (h102 : ¬ T 102) (hm : ¬ T 1001) (hc : ¬ T 1002) (h3 : ¬ T 3) (h120 : ¬ T 120) (hF : ∀ k, F k → G k) (hG : ∀ k, G k → k < w'.heap.size)
  (hrow : w'.heap[x.gb]? = some (.cells (bs'.flatMap Bc.cells).toArray 106 (0, 0))) (hlen : bs'.length = bs.length) (hbok : ∀ b ∈ bs', BcOk w' G (pgB C.S) C.P b) (hgs : bs'.map Bc.g = bs.map Bc.g) : CAt w' p G { C with bl := bs'.map Bc.v } x bs' fe := by
 refine ⟨hT _ _ 102 h.fp h.box rfl h102, hF _ h.fp, h.B, h.P, h.S, h.nb.trans hlen.symm, h.dark, h.cnt, hrow, hF _ h.fb, rfl, hbok, ?_, h.fl.keep hT hm h3 hF, h.fs, h.q.keep hT h5 hc hF ⟨rfl, rfl, rfl, rfl, rfl, rfl, rfl⟩ rfl, h.tr.keep hT h120 hF ⟨rfl, rfl, rfl⟩, hG⟩
 have h1 : (bs.map Bc.g).Pairwise (· ≠ ·) := List.pairwise_map.2 h.gs
 rw [← hgs] at h1
 exact List.pairwise_map.1 h1
theorem map_set_v (bs : List Bc) (i : Nat) (b : Bc) : (bs.set i b).map Bc.v = (bs.map Bc.v).set i b.v := List.map_set
theorem map_set_g {i : Nat} {b c : Bc} (hi : bs[i]? = some b) (hg : c.g = b.g) : (bs.set i c).map Bc.g = bs.map Bc.g := by
 rw [List.map_set, hg]
 have h1 : (bs.map Bc.g)[i]? = some b.g := by rw [List.getElem?_map, hi]; rfl
 obtain ⟨hlt, h2⟩ := List.getElem?_eq_some_iff.1 h1
 rw [← h2]
 exact List.set_getElem_self hlt
theorem CAt.setB {p : Nat} (h : CAt w p F C x bs fe) {i : Nat} {b : Bc} (hi : bs[i]? = some b) (j : Nat) (hj : j < 4) (v : Value) (b' : Bc) (hg : b'.g = b.g) (hps : b'.ps = b.ps) (hset : b.cells.set j v = b'.cells) :
  CAt (w.setCell ⟨x.gb, i * 4 + j, none⟩ v) p F { C with bl := C.bl.set i b'.v } x (bs.set i b') fe := by
 have hrow := heap_setCell_same w x.gb (i * 4 + j) _ 106 v h.row
 have e1 : (bs.flatMap Bc.cells).toArray.setIfInBounds (i * 4 + j) v = ((bs.set i b').flatMap Bc.cells).toArray := by
  rw [← flat_set Bc.cells 4 Bc.cells_len j hj v b' bs i b hi hset]
  simp
 rw [e1] at hrow
 have hO := Only.setCell (· = x.gb) w x.gb (i * 4 + j) v rfl
 have hT : KeepT F (· = 106) w (w.setCell ⟨x.gb, i * 4 + j, none⟩ v) := hO.keepT (fun k o t hk ho ht => by
  rw [hk, h.row] at ho
  cases ho
  exact ht.symm)
 have hbm : b ∈ bs := List.mem_of_getElem? hi
 have := h.blocks hT (by decide) (by decide) (by decide) (by decide) (by decide) (by decide) (fun _ h => h) (fun k hk => Nat.lt_of_lt_of_le (h.fin k hk) hO.size) hrow (by simp) (fun c hc => ?_) (map_set_g hi hg)
 ·rw [map_set_v, h.bl] at this
  exact this
 ·have hkeep : ∀ c ∈ bs, BcOk (w.setCell ⟨x.gb, i * 4 + j, none⟩ v) F (pgB C.S) C.P c := fun c hc => (h.bok c hc).keep hT (by decide) (fun _ h => h) ((hT _ _ 108 (h.bok c hc).fg (h.bok c hc).row rfl (by decide)).trans (h.bok c hc).row.symm)
  rcases List.mem_or_eq_of_mem_set hc with h1 | h1
  ·exact hkeep c h1
  ·have hb := hkeep b hbm
   rw [h1]
   exact ⟨by rw [hg, hps]; exact hb.row, by rw [hg]; exact hb.fg, by rw [hps]; exact hb.np, by rw [hps]; exact hb.pg⟩
theorem CAt.setP {w0 : World} {p : Nat} (h : CAt w p F C x bs fe) {i k : Nat} {b : Bc} {q q' : Pc} (hi : bs[i]? = some b) (hk : b.ps[k]? = some q) (hF : ∀ k, F k → G k) (hG : ∀ k, G k → k < w.heap.size) (hq' : PcOk w G (pgB C.S) q') :
  CAt ((w.setCell ⟨b.g, k * 2, none⟩ (.slice q'.a q'.n q'.c)).setCell ⟨b.g, k * 2 + 1, none⟩ (.bool q'.h)) p G { C with bl := C.bl.set i { b.v with ps := b.v.ps.set k q'.v } } x (bs.set i { b with ps := b.ps.set k q' }) fe ∧ Only (· = b.g) w ((w.setCell ⟨b.g, k * 2, none⟩ (.slice q'.a q'.n q'.c)).setCell ⟨b.g, k * 2 + 1, none⟩ (.bool q'.h)) := by
 have hbm : b ∈ bs := List.mem_of_getElem? hi
 have hb := h.bok b hbm
 have r1 := heap_setCell_same w b.g (k * 2) _ 108 (.slice q'.a q'.n q'.c) hb.row
 have r2 := heap_setCell_same _ b.g (k * 2 + 1) _ 108 (.bool q'.h) r1
 have e1 : ((b.ps.flatMap Pc.cells).toArray.setIfInBounds (k * 2) (.slice q'.a q'.n q'.c)).setIfInBounds (k * 2 + 1) (.bool q'.h) = ((b.ps.set k q').flatMap Pc.cells).toArray := by
  have s1 := flat_set Pc.cells 2 Pc.cells_len 0 (by omega) (.slice q'.a q'.n q'.c) { q with a := q'.a, n := q'.n, c := q'.c } b.ps k q hk rfl
  have hk1 : (b.ps.set k { q with a := q'.a, n := q'.n, c := q'.c })[k]? = some { q with a := q'.a, n := q'.n, c := q'.c } := by
   rw [List.getElem?_set_self (List.getElem?_eq_some_iff.1 hk).1]
  have s2 := flat_set Pc.cells 2 Pc.cells_len 1 (by omega) (.bool q'.h) q' (b.ps.set k { q with a := q'.a, n := q'.n, c := q'.c }) k _ hk1 rfl
  rw [List.set_set] at s2
  rw [← s2, ← s1]
  simp
 rw [e1] at r2
 have hO : Only (· = b.g) w ((w.setCell ⟨b.g, k * 2, none⟩ (.slice q'.a q'.n q'.c)).setCell ⟨b.g, k * 2 + 1, none⟩ (.bool q'.h)) := (Only.setCell (· = b.g) w b.g (k * 2) _ rfl).trans' (Only.setCell _ _ b.g (k * 2 + 1) _ rfl)
 refine ⟨?_, hO⟩
 generalize hv : (w.setCell ⟨b.g, k * 2, none⟩ (.slice q'.a q'.n q'.c)).setCell ⟨b.g, k * 2 + 1, none⟩ (.bool q'.h) = w' at r2 hO ⊢
 have hTF : ∀ H : Nat → Prop, KeepT H (· = 108) w w' := fun H => hO.keepT (fun k o t hk ho ht => by
  rw [hk, hb.row] at ho
  cases ho
  exact ht.symm)
 have hT := hTF F
 have hcel : ({ b with ps := b.ps.set k q' } : Bc).cells = b.cells := by simp [Bc.cells]
 have hrow : w'.heap[x.gb]? = some (.cells ((bs.set i { b with ps := b.ps.set k q' }).flatMap Bc.cells).toArray 106 (0, 0)) := by
  have h0 := hT _ _ 106 h.fb h.row rfl (by decide)
  rw [h0]
  have e2 := flat_set Bc.cells 4 Bc.cells_len 0 (by omega) (.bool b.m) { b with ps := b.ps.set k q' } bs i b hi (by rw [hcel]; rfl)
  rw [← e2]
  have e3 := flat_get Bc.cells 4 Bc.cells_len 0 (by omega) bs i b hi
  obtain ⟨hlt, e4⟩ := List.getElem?_eq_some_iff.1 e3
  have e5 : (bs.flatMap Bc.cells).set (i * 4 + 0) (.bool b.m) = bs.flatMap Bc.cells := by
   have e6 : (bs.flatMap Bc.cells)[i * 4 + 0] = Value.bool b.m := e4
   rw [← e6]
   exact List.set_getElem_self hlt
  rw [e5]
 have := h.blocks (bs' := bs.set i { b with ps := b.ps.set k q' }) hT (by decide) (by decide) (by decide) (by decide) (by decide) (by decide) hF (fun k hk => Nat.lt_of_lt_of_le (hG k hk) hO.size) hrow (by simp) (fun c hc => ?_) (map_set_g hi rfl)
 ·rw [map_set_v, h.bl] at this
  have e7 : ({ b with ps := b.ps.set k q' } : Bc).v = { b.v with ps := b.v.ps.set k q'.v } := by simp [Bc.v, List.map_set]
  rw [e7] at this
  exact this
 ·obtain ⟨j, hj⟩ := List.mem_iff_getElem?.1 hc
  by_cases hji : j = i
  ·subst hji
   rw [List.getElem?_set_self (List.getElem?_eq_some_iff.1 hi).1] at hj
   cases hj
   refine ⟨r2, hF _ hb.fg, by simp [hb.np], fun z hz => ?_⟩
   rcases List.mem_or_eq_of_mem_set hz with h1 | h1
   ·exact (hb.pg z h1).keep hT (by decide) hF
   ·rw [h1]; exact hq'.keep (hTF G) (by decide) (fun _ h => h)
  ·rw [List.getElem?_set_ne (fun e => hji e.symm)] at hj
   have hcm : c ∈ bs := List.mem_of_getElem? hj
   have hne : c.g ≠ b.g := by
    have hp1 : (bs.map Bc.g).Pairwise (· ≠ ·) := List.pairwise_map.2 h.gs
    have g1 : (bs.map Bc.g)[j]? = some c.g := by rw [List.getElem?_map, hj]; rfl
    have g2 : (bs.map Bc.g)[i]? = some b.g := by rw [List.getElem?_map, hi]; rfl
    intro e
    obtain ⟨l1, m1⟩ := List.getElem?_eq_some_iff.1 g1
    obtain ⟨l2, m2⟩ := List.getElem?_eq_some_iff.1 g2
    rcases Nat.lt_or_gt_of_ne hji with hl | hl
    ·exact (List.pairwise_iff_getElem.1 hp1 j i l1 l2 hl) (by rw [m1, m2, e])
    ·exact (List.pairwise_iff_getElem.1 hp1 i j l2 l1 hl) (by rw [m1, m2, e])
   exact (h.bok c hcm).keep hT (by decide) hF (hO.block c.g (h.fin _ (h.bok c hcm).fg) hne)
theorem bits_r (w : World) (p : Nat) (F : Nat → Prop) (C : Ch) (x : Bx) (bs : List Bc) (fe : List Fe) (h : CAt w p F C x bs fe) (i k : Nat) (b : Bc) (q : Pc) (hi : bs[i]? = some b) (hk : b.ps[k]? = some q) (hs : 1 ≤ C.S ∧ C.S ≤ 8) :
  Calls Try.prog 93 #[.pointer (some ⟨p, 0, none⟩), .agg #[.int .i64 (i : Int), .int .i64 (k : Int)]] w fun e w' => ∃ a c, e = .returned (.slice a (pgB C.S) c) ∧ Reads w' a (pgB C.S) q.bits ∧ pgB C.S ≤ c ∧ Below w.heap.size w w' := by
 have hq := (h.bok b (List.mem_of_getElem? hi)).pg q (List.mem_of_getElem? hk)
 rcases hq.sl with ⟨h1, h2, h3, h4⟩ | ⟨g, h1, h2, h3, h4, h5, h6⟩
 ·refine (bits_none w p F C x bs fe h i k b q hi hk h1 hs).mono ?_
  rintro e w' ⟨g, c, rfl, o, hb⟩
  have hr := o.reads (fun x hx => by have := (List.mem_replicate.1 hx).2; omega) (pgB C.S) (Nat.le_refl _)
  rw [List.take_of_length_le (by simp), ← h4] at hr
  have hpos : 0 < pgB C.S := by unfold pgB; omega
  obtain ⟨g', c', e1, e2, _⟩ := own_shape o hpos
  cases e1
  exact ⟨_, c, rfl, hr, e2, hb⟩
 ·refine (bits_some w p F C x bs fe h i k b q hi hk _ h1).mono ?_
  rintro e w' ⟨rfl, hb⟩
  rw [h3]
  exact ⟨_, _, rfl, h5.below hb, h4, hb⟩
theorem clone_any (a : Option Addr) (n c : Nat) (zs : List Int) (w : World) (rd : Reads w a n zs) (hl : n ≤ 140737488351232) :
  Calls Try.prog 49 #[.slice a n c] w fun e w' => ∃ v, e = .returned v ∧ w'.ownsRow w.heap.size 5 1 v n (zs.map (Value.int .u8)) ∧ Below w.heap.size w w' := by
 cases a with
 | none =>
  have h0 := rd.2.2.1 rfl
  subst h0
  have hx : zs = [] := List.eq_nil_of_length_eq_zero rd.1
  subst hx
  clear rd
  have hnil := fun w : World => _root_.Go.run_eql_slice_nil (P := Try.prog) w 24 5 none 0 c Try.underlying24
  go_enter Try.func49, Try.ntmps49
  go_wp2
  go_ret
  exact ⟨_, rfl, World.ownsRow_nil _ _ _ _, Below.refl _ _⟩
 | some x =>
  have HB := J (made0 w)
  have hnil := fun w : World => _root_.Go.run_eql_slice_nil (P := Try.prog) w 24 5 (some x) n c Try.underlying24
  have HRD := J (rd.below (below_alloc w (.cells #[] 5)))
  go_enter Try.func49, Try.ntmps49
  go_wp2_with (at_builtin; refine wpList_append_reads rfl (.tmp 5) (.tmp 6) rfl w.heap.size _ 0 [] rfl HB.out (some x) n c zs rfl HRD.out (by omega) (by simp) ?_; intro v2 w2 own2 grow2; have HO := J own2; have HG := J grow2; clear own2 grow2)
  go_ret
  refine ⟨_, rfl, by simpa using HO.out, ?_⟩
  exact (below_alloc w _).grown HG.out (by simp) (fun k hk => (World.ownsRow.lt HB.out k hk).1)
end Go.Proofs.Ytadlkikjfonkgaa
namespace Go.Proofs.Ytadlkikjfonkgaa
open Go.RowKit
set_option linter.unusedVariables false
set_option maxRecDepth 100000
set_option maxHeartbeats 4000000
def catF (X : Nat → List Int) : Nat → List Int
 | 0 => []
 | k + 1 => catF X k ++ X k
def sumF (ls : Nat → Nat) : Nat → Nat
 | 0 => 0
 | k + 1 => sumF ls k + ls k
theorem sumF_le (ls : Nat → Nat) {k m : Nat} (h : k ≤ m) : sumF ls k ≤ sumF ls m := by
 induction m with
 | zero => have : k = 0 := by omega
           subst this; exact Nat.le_refl _
 | succ m ih =>
  by_cases e : k = m + 1
  ·subst e; exact Nat.le_refl _
  ·have := ih (by omega)
   simp only [sumF]
   omega
structure Parts (w : World) (ga : Option Addr) (m : Nat) (av : Nat → Option Addr) (ls cs : Nat → Nat) (X : Nat → List Int) : Prop where
 outer : ∀ i, i < m → ∃ g, ga = some ⟨g, 0, none⟩ ∧ g < w.heap.size ∧ w.cell? ⟨g, i, none⟩ = some (.slice (av i) (ls i) (cs i))
 reads : ∀ i, i < m → Reads w (av i) (ls i) (X i)
theorem join_parts (ga : Option Addr) (m cm : Nat) (av : Nat → Option Addr) (ls cs : Nat → Nat) (X : Nat → List Int) (w : World) (hm : m ≤ 70000) (hT : sumF ls m ≤ 200000000) (h : Parts w ga m av ls cs X) :
  Calls Try.prog 108 #[.slice ga m cm] w fun e w' => ∃ v, e = .returned v ∧ w'.ownsRow w.heap.size 5 1 v (sumF ls m) ((catF X m).map (Value.int .u8)) ∧ Below w.heap.size w w' := by
 obtain ⟨i0, hi, hz0, hz1, hz2⟩ := info_parts info5
 have HP : Hid (Parts w ga m av ls cs X) := h
 obtain ⟨T, hTT⟩ : ∃ T, T = sumF ls m := ⟨_, rfl⟩
 rw [← hTT]
 have HS : Hid (∀ k, k ≤ m → sumF ls k ≤ T) := fun k hk => by rw [hTT]; exact sumF_le ls hk
 have hT' : T ≤ 200000000 := by rw [hTT]; exact hT
 have HTT : Hid (T = sumF ls m) := hTT
 have hmk : ∀ u : World, (Instr.makeSlice 24 (.int .i64 0) (.int .i64 (T : Int))).run Try.prog u =
   .ok (.slice (some ⟨u.heap.size, 0, none⟩) 0 T) (u.alloc (.cells (madeCells #[.int .u8 0] T) 5)) := fun u => by
  have h := run_make (P := Try.prog) u 24 5 i0 (.int .u8 0) Try.underlying24 hi hz0 .i64 .i64 0 (T : Int) (by omega) (by omega) (by rw [hz2]; omega) (by omega)
  simpa [hz1, Value.cells] using h
 clear h hTT hT
 go_enter Try.func108, Try.ntmps108
 go_wp2
 go_loopw [3, 11] (fun n i wr => ∃ k s : Nat, k ≤ m ∧ i = .int .i64 k ∧ n = .int .i64 s ∧ Hid (s = sumF ls k) ∧ w = wr)
  (fun _ i _ => m - (intOf i).toNat)
 case atStart => exact ⟨0, 0, Nat.zero_le _, rfl, rfl, rfl, rfl⟩
 case round =>
  obtain ⟨k, s, hk, rfl, rfl, HK, rfl⟩ := hrel
  by_cases hlt : k < m
  ·obtain ⟨g, rfl, hgl, hc⟩ := HP.out.outer k hlt
   obtain ⟨a, ha⟩ : ∃ a, a = av k := ⟨_, rfl⟩
   obtain ⟨l, hl⟩ : ∃ l, l = ls k := ⟨_, rfl⟩
   obtain ⟨c, hc'⟩ : ∃ c, c = cs k := ⟨_, rfl⟩
   rw [← ha, ← hl, ← hc'] at hc
   have hsl : s + l ≤ T := by
    have := HS.out (k + 1) (by omega)
    rw [sumF, ← hl, ← HK.out] at this
    exact this
   have HK2 : Hid (s + l = sumF ls (k + 1)) := by unfold Hid; rw [sumF, ← hl, ← HK.out]
   have m1 : (k : Int) < (m : Int) := by omega
   have hd1 : decide ((k : Int) < (m : Int)) = true := decide_eq_true m1
   clear ha hl hc' HK
   go_wp2
   go_roundw
   case rel => exact ⟨k + 1, s + l, by omega, by go_num, by simp, HK2, by first | rfl | trivial⟩
   case measure => simp [intOf]; omega
  ·have hkm : k = m := by omega
   subst hkm
   obtain rfl : s = T := by rw [HK.out, HTT.out]
   go_wp2
   go_loopw [6, 24] (fun v i wr => ∃ j : Nat, j ≤ k ∧ i = .int .i64 j ∧ wr.ownsRow w.heap.size 5 1 v (sumF ls j) ((catF X j).map (Value.int .u8)) ∧ Below w.heap.size w wr)
    (fun _ i _ => k - (intOf i).toNat)
   case atStart => exact ⟨0, Nat.zero_le _, rfl, by simpa [catF, sumF] using World.ownsRow_made w (madeCells #[.int .u8 0] s) s (Nat.le_refl _) (by simp [maxLen]; omega) (by simp [madeCells]), (Below.refl w.heap.size w).alloc (Nat.le_refl _) _⟩
   case round =>
    obtain ⟨j, hj, rfl, hown, hbel⟩ := hrel
    by_cases hlt2 : j < k
    ·obtain ⟨g, rfl, hgl, hc⟩ := HP.out.outer j hlt2
     have hrd := (HP.out.reads j hlt2).below hbel
     have hcx := (hbel.cell (p := ⟨g, j, none⟩) hgl).trans hc
     obtain ⟨a, ha⟩ : ∃ a, a = av j := ⟨_, rfl⟩
     obtain ⟨l, hl⟩ : ∃ l, l = ls j := ⟨_, rfl⟩
     obtain ⟨c, hc'⟩ : ∃ c, c = cs j := ⟨_, rfl⟩
     obtain ⟨n, hn⟩ : ∃ n, n = sumF ls j := ⟨_, rfl⟩
     rw [← ha, ← hl, ← hc'] at hcx
     rw [← ha, ← hl] at hrd
     rw [← hn] at hown
     have hnl : n + l ≤ s := by
      have := HS.out (j + 1) (by omega)
      rw [sumF, ← hl, ← hn] at this
      exact this
     have HN : Hid (n + l = sumF ls (j + 1)) := by unfold Hid; rw [sumF, ← hl, ← hn]
     have m1 : (j : Int) < (k : Int) := by omega
     have hd1 : decide ((j : Int) < (k : Int)) = true := decide_eq_true m1
     have hsz := hbel.size
     clear ha hl hc' hc hn
     go_wp2_with (
      (at_builtin; refine wpList_append_reads rfl (.tmp 28) (.tmp 29) rfl w.heap.size _ n (catF X j) rfl hown _ _ _ (X j) rfl hrd (by omega) hsz ?_; intro v2 w2 hown2 hgrow2))
     have hown3 : w2.ownsRow w.heap.size 5 1 v2 (sumF ls (j + 1)) ((catF X (j + 1)).map (Value.int .u8)) := by
      rw [← HN.out]
      exact hown2
     have hbel3 := hbel.grown hgrow2 hbel.size (fun q hq => (hown.lt q hq).1)
     clear hown2 hgrow2 hown hrd
     go_wp2
     go_roundw
     case rel => exact ⟨j + 1, by omega, by go_num, hown3, hbel3⟩
     case measure => simp [intOf]; omega
    ·have hjk : k = j := by omega
     subst hjk
     rw [← HTT.out] at hown
     go_wp2
     go_ret
     exact ⟨_, rfl, hown, hbel⟩
end Go.Proofs.Ytadlkikjfonkgaa
