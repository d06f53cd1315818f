/-
  SEAT Ytadlkikjfonkgaa: Xk, Ls.
-/
import Derived.Deep.DeepMust
import Derived.Test.YtadlkikjfonkgaaQa
import Derived.Test.YtadlkikjfonkgaaQy
import Derived.Test.YtadlkikjfonkgaaQr
namespace Go.Proofs.Ytadlkikjfonkgaa
open Go.RowKit Go.Conc
set_option linter.unusedVariables false
set_option maxRecDepth 100000
set_option maxHeartbeats 4000000
variable {w0 w : World} {F : Nat → Prop} {C : Ch} {x : Rx} {rs : List Rc}
theorem pw_mid {α : Type} {R : α → α → Prop} {X Y : List α} {l : α} (h : (X ++ l :: Y).Pairwise R) : (∀ z ∈ X, R z l) ∧ (∀ z ∈ Y, R l z) := by
 rw [List.pairwise_append] at h
 obtain ⟨a, b, c⟩ := h
 rw [List.pairwise_cons] at b
 exact ⟨fun z hz => c z hz l (List.mem_cons_self), b.1⟩
theorem RAt.putF {w' : World} {p : Nat} {G : Nat → Prop} {fs : List Fc} (h : RAt w0 w p F C fs x rs) {i k : Nat} {r : Rc} {l l' : Lc} (hi : rs[i]? = some r) (hk : r.ls[k]? = some l) (ho : Only (fun a => a = r.g ∨ l.fs.ownBlock = some a) w w')
  (hrow : w'.ownsRow 0 144 3 (.slice (some ⟨r.g, 0, none⟩) r.ls.length r.cap) r.ls.length ((r.ls.set k l').flatMap Lc.cells))
  (hF : ∀ k, F k → G k) (hG : ∀ k, G k → k < w'.heap.size) (hlo : ∀ k, G k → w0.heap.size ≤ k) (hl : LcOk w' G (pgB C.S) l') (hf : ∀ g, l'.fs.ownBlock = some g → l.fs.ownBlock = some g ∨ ¬ F g) (fl' : Int → Int → List Nat) (hfl : l'.xs = fl' i k) (hfo : ∀ a b : Nat, ¬ (a = i ∧ b = k) → fl' a b = C.fl a b) (hv : l'.v = l.v) :
  RAt w0 w' p G { C with fl := fl' } fs x (rs.set i (r.setL k l')) ∧ Only F w w' := by
 have hr := h.rok r (List.mem_of_getElem? hi)
 have hll := hr.lf l (List.mem_of_getElem? hk)
 have hgF : ∀ a, (a = r.g ∨ l.fs.ownBlock = some a) → F a := fun a e => e.elim (fun e => e ▸ hr.fg) (fun e => hll.fg a e)
 obtain ⟨cg, hcg⟩ := own_tag hr.row rfl
 have hT : ∀ H : Nat → Prop, KeepT H (fun t => t = 144 ∨ t = 3) w w' := fun H => ho.keepT (fun a o t hg hk ht => by
  rcases hg with e | e
  ·rw [e, hcg] at hk
   cases hk
   exact Or.inl ht.symm
  ·obtain ⟨cs, hc⟩ := own_tag hll.row e
   rw [hc] at hk
   cases hk
   exact Or.inr ht.symm)
 have hkeep : ∀ {a t o}, w.heap[a]? = some o → TagIs t o → t ≠ 144 → t ≠ 3 → w'.heap[a]? = w.heap[a]? := fun ho' ht hn hn2 => (hT (fun _ => True) _ _ _ trivial ho' ht (fun e => e.elim hn hn2)).trans ho'.symm
 have hle : (r.setL k l').ls.length = r.ls.length := by show (r.ls.set k l').length = _; rw [List.length_set]
 have hcell : Rc.cells (r.setL k l') = Rc.cells r := by unfold Rc.cells; rw [hle]; rfl
 obtain ⟨e1, e2⟩ := set_mid (y := r.setL k l') hi
 obtain ⟨e3, e4⟩ := set_mid (y := l') hk
 have f1 : rs.flatMap Rc.ls = ((rs.take i).flatMap Rc.ls ++ r.ls.take k) ++ l :: (r.ls.drop (k + 1) ++ (rs.drop (i + 1)).flatMap Rc.ls) := by
  conv => lhs; rw [e1]
  rw [List.flatMap_append, List.flatMap_cons]
  conv => lhs; rw [e3]
  simp
 have f2 : (rs.set i (r.setL k l')).flatMap Rc.ls = ((rs.take i).flatMap Rc.ls ++ r.ls.take k) ++ l' :: (r.ls.drop (k + 1) ++ (rs.drop (i + 1)).flatMap Rc.ls) := by
  rw [e2, List.flatMap_append, List.flatMap_cons]
  have e5 : (r.setL k l').ls = r.ls.take k ++ l' :: r.ls.drop (k + 1) := e4
  rw [e5]
  simp
 have hfar := h.far
 rw [f1] at hfar
 obtain ⟨fX, fY⟩ := pw_mid hfar
 have hoth : ∀ {m : Lc}, (m ∈ (rs.take i).flatMap Rc.ls ++ r.ls.take k ∨ m ∈ r.ls.drop (k + 1) ++ (rs.drop (i + 1)).flatMap Rc.ls) → LcOk w F (pgB C.S) m → LcOk w' G (pgB C.S) m := fun {m} hm hok => by
  obtain ⟨g, h1, h2, h3', h4, h5', h6⟩ := hok.sl
  obtain ⟨k1, k2⟩ := h6.keep h2 (hT F) (by decide)
  refine ⟨hok.len, hok.byt, ⟨g, h1, hF g h2, h3', h4, reads_keep h5' (fun y hy _ => ?_), k1⟩, ?_, fun g hg => hF g (hok.fg g hg)⟩
  ·rw [h1] at hy
   cases hy
   exact k2
  ·refine owns_keep hok.row (fun g hg => ?_)
   obtain ⟨cs, hc⟩ := own_tag hok.row hg
   refine ho.block g (lt_of_block hc) (fun e => ?_)
   rcases e with e | e
   ·rw [e, hcg] at hc
    cases hc
   ·rcases hm with h7 | h7
    ·exact fX m h7 g hg e
    ·exact fY m h7 g e hg
 have hgs := h.gs
 rw [e1] at hgs
 obtain ⟨gX, gY⟩ := pw_mid hgs
 refine ⟨⟨h.old.trans (ho.below (fun a e => h.lo a (hgF a e)) h.old.size), hlo, h.flt, h.box.keep (hkeep h.box rfl (by decide) (by decide)), hF _ h.fp, h.B, h.P, h.S, by rw [List.length_set]; exact h.nr, h.dark, h.cnt, ?_, hF _ h.fb, ?_, ?_, ?_, ?_, ?_, h.q, ?_, h.tl, fun g hg => hF g (h.ft g hg), hG⟩, ho.mono (fun a _ e => hgF a e)⟩
 ·rw [fm_map Rc.cells, set_same hi hcell, ← fm_map Rc.cells]
  exact owns_keep h.row (fun g hg => by obtain ⟨cs, hc⟩ := own_tag h.row hg; exact hkeep hc rfl (by decide) (by decide))
 ·have hrv : Rc.v (r.setL k l') = Rc.v r := by
   show ({ r.v with ps := (r.ls.set k l').map Lc.v } : Bl) = r.v
   rw [set_same hk hv]
   rfl
  rw [set_same hi hrv]
  exact h.bl
 ·intro q hq
  rw [e2] at hq
  have hqo : ∀ q, (q ∈ rs.take i ∨ q ∈ rs.drop (i + 1)) → RcOk w' G (pgB C.S) C.P q := fun q hq => by
   have hmem : q ∈ rs := hq.elim (fun h => List.mem_of_mem_take h) (fun h => List.mem_of_mem_drop h)
   have hq9 := h.rok q hmem
   have hne : q.g ≠ r.g := hq.elim (fun h => gX q h) (fun h e => gY q h e.symm)
   obtain ⟨cs, hcs⟩ := own_tag hq9.row rfl
   refine ⟨owns_keep hq9.row (fun g hg => ?_), hF _ hq9.fg, hq9.np, fun m hm => hoth ?_ (hq9.lf m hm)⟩
   ·cases hg
    refine ho.block _ (lt_of_block hcs) (fun e => ?_)
    rcases e with e | e
    ·exact hne e
    ·obtain ⟨cs2, hc2⟩ := own_tag hll.row e
     rw [hcs] at hc2
     cases hc2
   ·rcases hq with h7 | h7
    ·exact Or.inl (List.mem_append_left _ (List.mem_flatMap.2 ⟨q, h7, hm⟩))
    ·exact Or.inr (List.mem_append_right _ (List.mem_flatMap.2 ⟨q, h7, hm⟩))
  rcases List.mem_append.1 hq with h7 | h7
  ·exact hqo q (Or.inl h7)
  ·rcases List.mem_cons.1 h7 with h8 | h8
   ·rw [h8]
    refine ⟨?_, hF _ hr.fg, hle.trans hr.np, fun m hm => ?_⟩
    ·rw [hle]
     exact hrow
    ·have hm2 : m ∈ r.ls.take k ++ l' :: r.ls.drop (k + 1) := by rw [← e4]; exact hm
     rcases List.mem_append.1 hm2 with h9 | h9
     ·exact hoth (Or.inl (List.mem_append_right _ h9)) (hr.lf m (List.mem_of_mem_take h9))
     ·rcases List.mem_cons.1 h9 with h10 | h10
      ·rw [h10]; exact hl
      ·exact hoth (Or.inr (List.mem_append_left _ h10)) (hr.lf m (List.mem_of_mem_drop h10))
   ·exact hqo q (Or.inr h8)
 ·have h9 := h.gs
  rw [← List.pairwise_map (f := Rc.g) (R := fun a b => a ≠ b)] at h9 ⊢
  rw [set_same hi (show (r.setL k l').g = r.g from rfl)]
  exact h9
 ·have hmem : ∀ z ∈ rs.flatMap Rc.ls, ∀ g, z.fs.ownBlock = some g → F g := fun z hz g hg => by
   obtain ⟨q, hq, hzq⟩ := List.mem_flatMap.1 hz
   exact ((h.rok q hq).lf z hzq).fg g hg
  rw [f1] at hmem
  rw [f2]
  refine pw_swap hfar (fun z hz hR g hg hg' => ?_) (fun z hz hR g hg hg' => ?_)
  ·rcases hf g hg' with h1 | h1
   ·exact hR g hg h1
   ·exact h1 (hmem z (List.mem_append_left _ hz) g hg)
  ·rcases hf g hg with h1 | h1
   ·exact hR g h1 hg'
   ·exact h1 (hmem z (List.mem_append_right _ (List.mem_cons_of_mem _ hz)) g hg')
 ·intro i' k' q m h1 h2
  by_cases e : i = i'
  ·subst e
   rw [List.getElem?_set_self (List.getElem?_eq_some_iff.1 hi).1] at h1
   cases h1
   by_cases e' : k = k'
   ·subst e'
    have h3 : (r.ls.set k l')[k]? = some m := h2
    rw [List.getElem?_set_self (List.getElem?_eq_some_iff.1 hk).1] at h3
    cases h3
    exact hfl
   ·have h3 : (r.ls.set k l')[k']? = some m := h2
    rw [List.getElem?_set_ne e'] at h3
    rw [h.fl i k' r m hi h3]
    exact (hfo i k' (fun e9 => e' e9.2.symm)).symm
  ·rw [List.getElem?_set_ne e] at h1
   rw [h.fl i' k' q m h1 h2]
   exact (hfo i' k' (fun e9 => e e9.1.symm)).symm
 ·exact owns_keep h.tr (fun g hg' => by obtain ⟨cs, hc⟩ := own_tag h.tr hg'; exact hkeep hc rfl (by decide) (by decide))
theorem unitNI {s a b : Nat} (ha : a < 8 * pgB s) (hb : b < 8 * pgB s) : (((unitN s a : Nat) : Int) == ((unitN s b : Nat) : Int)) = (unitI s a == unitI s b) := by
 have h1 := unitI_in ha
 have h2 := unitI_in hb
 rw [Bool.eq_iff_iff]
 simp only [beq_iff_eq]
 constructor
 ·intro h
  have h3 : unitN s a = unitN s b := by omega
  rw [unitN_I, unitN_I] at h3
  split at h3 <;> split at h3 <;> omega
 ·intro h
  rw [unitI_N h]
theorem runit_neg (b p s bit : Int) (w : World) (hb : bit < 0) : Calls Try.prog 62 #[.agg #[.int .i64 b, .int .i64 p, .int .i64 s], .int .i64 bit] w fun e w' => e = .returned (.int .i64 (-2)) ∧ Below w.heap.size w w' := by
 have dn : decide (bit < 0) = true := decide_eq_true hb
 go_enter Try.func62, Try.ntmps62
 go_wp2
 go_ret
 exact ⟨rfl, below_alloc _ _⟩
theorem runit_big (b p bit : Int) (s : Nat) (w : World) (h0 : 1 ≤ s) (h1 : s ≤ 8) (hb : 8 * (pgB s : Int) ≤ bit) : Calls Try.prog 62 #[.agg #[.int .i64 b, .int .i64 p, .int .i64 (s : Int)], .int .i64 bit] w fun e w' => e = .returned (.int .i64 (-2)) ∧ Below w.heap.size w w' := by
 have HB0 := J (below_alloc w (.cells #[.int .i64 b, .int .i64 p, .int .i64 (s : Int)] 23))
 obtain ⟨L, hL⟩ : ∃ L, L = pgB s := ⟨_, rfl⟩
 have hL2 : L ≤ 2126 := by rw [hL]; exact pgB_le h1
 rw [← hL] at hb
 have dn : decide (bit < 0) = false := decide_eq_false (by omega)
 have dg : decide (bit ≥ 8 * (L : Int)) = true := decide_eq_true (by omega)
 have HL := J hL
 clear hL
 go_enter Try.func62, Try.ntmps62
 go_wp2_with (first | (go_at_call 78; refine (rlong_any b p s _ h0 h1).mono ?_; rintro e u1 ⟨rfl, b1⟩; rw [← HL.out]; have HB1 := J (below_trans HB0.out b1); clear b1))
 go_ret
 exact ⟨rfl, HB1.out⟩
theorem RAt.flip {u Y : World} {p : Nat} {fs : List Fc} (h : RAt w0 u p F C fs x rs) {i k gn cn bit : Nat} {r : Rc} {l : Lc} (hi : rs[i]? = some r) (hk : r.ls[k]? = some l) (own : Y.ownsRow 0 3 1 (.slice (some ⟨gn, 0, none⟩) (l.fn + 1) cn) (l.fn + 1) ((l.xs.map fun (i : Nat) => Value.int .i64 (i : Int)) ++ [.int .i64 (bit : Int)])) (grow : u.grownBy Y l.fs.ownBlock) (lies : l.fs.ownBlock = some gn ∨ gn = u.heap.size) (hw : w.heap.size ≤ u.heap.size) (hF : ∀ k, F k → k < w.heap.size) (hw0 : w0.heap.size ≤ w.heap.size) :
  RefAt w0 (Y.setCell ⟨r.g, k * 3 + 1, none⟩ (.slice (some ⟨gn, 0, none⟩) (l.fn + 1) cn)) p (Fx F w (Y.setCell ⟨r.g, k * 3 + 1, none⟩ (.slice (some ⟨gn, 0, none⟩) (l.fn + 1) cn))) { C with fl := flS C.fl i k bit } fs ∧ Only F u (Y.setCell ⟨r.g, k * 3 + 1, none⟩ (.slice (some ⟨gn, 0, none⟩) (l.fn + 1) cn)) ∧ Y.cell? ⟨r.g, k * 3 + 1, none⟩ = some (.slice l.fa l.fn l.fc) ∧ Y.frozen? ⟨r.g, k * 3 + 1, none⟩ = false := by
 have hr := h.rok r (List.mem_of_getElem? hi)
 have hll := hr.lf l (List.mem_of_getElem? hk)
 obtain ⟨cg, hcg⟩ := own_tag hr.row rfl
 obtain ⟨cn3, hc3⟩ := own_tag own rfl
 have o1 : Only (fun a => a = r.g ∨ l.fs.ownBlock = some a) u Y := Only.ofG grow (fun j e => Or.inr e)
 have hne : ¬ l.fs.ownBlock = some r.g := fun e => by
  obtain ⟨cs, hc⟩ := own_tag hll.row e
  rw [hcg] at hc
  cases hc
 have hgY : Y.heap[r.g]? = u.heap[r.g]? := grow.block _ (lt_of_block hcg) (fun e => hne e.symm)
 have hgn : gn ≠ r.g := fun e => by
  rw [e, hgY, hcg] at hc3
  cases hc3
 have o2 := Only.setCell (fun a => a = r.g ∨ l.fs.ownBlock = some a) Y r.g (k * 3 + 1) (.slice (some ⟨gn, 0, none⟩) (l.fn + 1) cn) (Or.inl rfl)
 have ho := o1.trans' o2
 have hrowY : Y.ownsRow 0 144 3 (.slice (some ⟨r.g, 0, none⟩) r.ls.length r.cap) r.ls.length (r.ls.flatMap Lc.cells) := owns_keep hr.row (fun g hg => by cases hg; exact hgY)
 have hst := World.ownsRow.stored hrowY (k * 3 + 1) (.slice (some ⟨gn, 0, none⟩) (l.fn + 1) cn)
 have hYs : Y.heap.size ≤ (Y.setCell ⟨r.g, k * 3 + 1, none⟩ (.slice (some ⟨gn, 0, none⟩) (l.fn + 1) cn)).heap.size := o2.size
 have hus := o1.size
 have hl' : Lc.cells { l with fa := some ⟨gn, 0, none⟩, fn := l.fn + 1, fc := cn, xs := l.xs ++ [bit] } = l.cells.set 1 (.slice (some ⟨gn, 0, none⟩) (l.fn + 1) cn) := rfl
 obtain ⟨gb, s1, s2, s3, s4, s5, s6⟩ := hll.sl
 obtain ⟨b5, bf, hb5⟩ := s6
 have hgb : (Y.setCell ⟨r.g, k * 3 + 1, none⟩ (.slice (some ⟨gn, 0, none⟩) (l.fn + 1) cn)).heap[gb]? = u.heap[gb]? := ho.block gb (lt_of_block hb5) (fun e => by
  rcases e with e | e
  ·rw [e, hcg] at hb5
   cases hb5
  ·obtain ⟨cs, hc⟩ := own_tag hll.row e
   rw [hb5] at hc
   cases hc)
 have hflt := h.fl i k r l hi hk
 obtain ⟨ha, hoF⟩ := h.putF (G := Fx F w (Y.setCell ⟨r.g, k * 3 + 1, none⟩ (.slice (some ⟨gn, 0, none⟩) (l.fn + 1) cn))) (l' := { l with fa := some ⟨gn, 0, none⟩, fn := l.fn + 1, fc := cn, xs := l.xs ++ [bit] }) hi hk ho (by rw [← flat_set Lc.cells 3 Lc.cells_len 1 (by omega) _ _ r.ls k l hk hl'.symm]; exact hst.1) (fun _ h => Or.inl h) (fun j hj => hj.elim (fun h1 => by have := hF j h1; omega) (fun h1 => h1.2)) (fun j hj => hj.elim (fun h1 => h.lo j h1) (fun h1 => Nat.le_trans hw0 h1.1))
  ⟨hll.len, hll.byt, ⟨gb, s1, Or.inl s2, s3, s4, reads_keep s5 (fun y hy _ => by rw [s1] at hy; cases hy; exact hgb), ⟨b5, bf, hgb.trans hb5⟩⟩, by
   show World.ownsRow _ 0 3 1 (.slice (some ⟨gn, 0, none⟩) (l.fn + 1) cn) (l.fn + 1) ((l.xs ++ [bit]).map fun (i : Nat) => Value.int .i64 (i : Int))
   rw [List.map_append]
   exact owns_keep own (fun g hg => by cases hg; exact (Only.setCell (· = r.g) Y r.g (k * 3 + 1) _ rfl).block _ (lt_of_block hc3) hgn), fun g hg => by
    have e : gn = g := Option.some.inj hg
    subst e
    rcases lies with e | e
    ·exact Or.inl (hll.fg _ e)
    ·exact Or.inr ⟨by omega, Nat.lt_of_lt_of_le (lt_of_block hc3) hYs⟩⟩
  (fun g hg => by
   have e : gn = g := Option.some.inj hg
   subst e
   rcases lies with e | e
   ·exact Or.inl e
   ·exact Or.inr (fun hf => by have := hF _ hf; omega)) (flS C.fl i k bit) (by show l.xs ++ [bit] = _; unfold flS; rw [if_pos ⟨rfl, rfl⟩, hflt]) (fun a b hn => by unfold flS; rw [if_neg (fun e => hn ⟨by omega, by omega⟩)]) rfl
 refine ⟨⟨x, _, ha⟩, hoF, ?_, ?_⟩
 ·have h9 := (hr.leaf hk).2.1
  simp only [World.cell?] at h9 ⊢
  rw [hgY]
  exact h9
 ·have h9 := h.lfz hi (k * 3 + 1)
  simp only [World.frozen?] at h9 ⊢
  rw [hgY]
  exact h9
theorem RAt.geo {p : Nat} {fs : List Fc} (ha : RAt w0 w p F C fs x rs) : w.cell? ⟨p, 0, none⟩ = some (.int .i64 (C.B : Int)) ∧ w.cell? ⟨p, 1, none⟩ = some (.int .i64 (C.P : Int)) ∧ w.cell? ⟨p, 2, none⟩ = some (.int .i64 (C.S : Int)) := by
 have b0 := ha.box.c0
 have b1 := ha.box.c1
 have b2 := ha.box.c2
 rw [ha.B] at b0
 rw [ha.P] at b1
 rw [ha.S] at b2
 exact ⟨b0, b1, b2⟩
theorem rFlip_any (w0 w : World) (p : Nat) (F : Nat → Prop) (C : Ch) (fs : List Fc) (h : RefAt w0 w p F C fs) (hok : C.Ok) (hln : ∀ b p, (C.fl b p).length ≤ 4000000000000) (pb pp bit : Int) (hbit : bit ≤ 9223372036854775807) :
  Calls Try.prog 68 #[.pointer (some ⟨p, 0, none⟩), .agg #[.int .i64 pb, .int .i64 pp], .int .i64 bit] w fun e w' => e = .returned (.int .i64 (FlipC C pb pp bit).1) ∧ RefAt w0 w' p (Fx F w w') (FlipC C pb pp bit).2 fs ∧ Only F w w' := by
 have HR := J h
 obtain ⟨x, rs, hc⟩ := h
 have N := hc.below (below_alloc _ (.cells #[.int .i64 pb, .int .i64 pp] 41))
 have HBB := J (below_alloc w (.cells #[.int .i64 pb, .int .i64 pp] 41))
 have HK := J N
 have HPL0 : Hid ((w.alloc (.cells #[.int .i64 pb, .int .i64 pp] 41)).heap[w.heap.size]? = some (.cells #[.int .i64 pb, .int .i64 pp] 41 (0, 0))) := alloc_new w (.cells #[.int .i64 pb, .int .i64 pp] 41)
 have HFW : Hid (∀ k, F k → k < w.heap.size) := hc.fin
 have HW0 : Hid (w0.heap.size ≤ w.heap.size) := hc.old.size
 obtain ⟨i0, hI, hz0, hz1, hz2⟩ := info_parts info3
 clear N
 cases hp : hasP C.B C.P pb pp with
 | false =>
  have ep : FlipC C pb pp bit = (41, C) := by unfold FlipC; rw [if_pos hp]
  clear hc
  go_enter Try.func68, Try.ntmps68
  go_wp2_with (first | (go_at_call 101; refine (place_any x p C.B C.P pb pp _ HK.out.box HK.out.B HK.out.P).mono ?_; rintro e u1 ⟨rfl, b1⟩; rw [hp]; have HBE := J (below_trans HBB.out b1); clear b1))
  go_ret
  rw [ep]
  exact ⟨rfl, HR.out.fx HBE.out, Only.ofB HBE.out⟩
 | true =>
  obtain ⟨i, k, rfl, rfl, hi, hk⟩ := hasP_nat hp
  have hs := hok.s
  have hil : i < rs.length := by rw [hc.len, hok.bl]; exact hi
  obtain ⟨r, hr⟩ : ∃ r, rs[i]? = some r := ⟨_, List.getElem?_eq_getElem hil⟩
  have hrok := hc.rok r (List.mem_of_getElem? hr)
  obtain ⟨l, hl⟩ : ∃ l, r.ls[k]? = some l := ⟨_, List.getElem?_eq_getElem (by rw [hrok.np]; exact hk)⟩
  have hbl : C.bl[i]? = some r.v := by rw [← hc.bl, List.getElem?_map, hr]; rfl
  have hps : r.v.ps[k]? = some l.v := by show (r.ls.map Lc.v)[k]? = _; rw [List.getElem?_map, hl]; rfl
  have HEP : Hid (FlipC C (i : Int) (k : Int) bit = if decide (bit < 0) || decide (8 * (pgB C.S : Int) ≤ bit) || !l.h || flHas C (i : Int) (k : Int) bit.toNat then (46, C) else (0, { C with fl := flS C.fl (i : Int) (k : Int) bit.toNat })) := by
   unfold Hid FlipC
   rw [if_neg (by rw [hp]; decide)]
   simp only [Int.toNat_natCast, hbl]
   simp only [hps]
   rfl
  have HXS : Hid (l.xs = C.fl (i : Int) (k : Int)) := hc.fl i k r l hr hl
  have HLN : Hid (l.xs.length ≤ 4000000000000) := by unfold Hid; rw [HXS.out]; exact hln _ _
  have HZB : Hid (∀ z ∈ l.xs, z < 8 * pgB C.S) := by unfold Hid; rw [HXS.out]; exact hok.fl _ _
  have i1 : (i : Int) < (x.nr : Int) := by rw [hc.nr]; omega
  have k1 : (k : Int) < (r.ls.length : Int) := by rw [hrok.np]; omega
  have HRI := J hr
  have HLI := J hl
  clear hil hrok hbl hps hr hl hc hln hi hk
  go_enter Try.func68, Try.ntmps68
  go_upto_region 3 with (first | (go_at_call 101; refine (place_any x p C.B C.P (i : Int) (k : Int) _ HK.out.box HK.out.B HK.out.P).mono ?_; rintro e u1 ⟨rfl, b1⟩; rw [hp]; have HB1 := J (below_trans HBB.out (below_trans b1 (drew_below u1))); have HK1 := J (HK.out.below (below_trans b1 (drew_below u1))); have HPL1 : Hid (u1.drew.heap[w.heap.size]? = some (.cells #[.int .i64 (i : Int), .int .i64 (k : Int)] 41 (0, 0))) := (b1.block _ (lt_of_block HPL0.out)).trans HPL0.out; clear b1))
  generalize hU : u1.drew = U at HB1 HK1 HPL1
  have HQ3 := J (And.intro (cells2 HPL1.out) (And.intro HK1.out.box.c3 (HK1.out.blk HRI.out).1))
  rw [← hU] at HQ3
  refine wp_region_held_drew (S := (fun u => (u.cell? ⟨w.heap.size, 0, none⟩ = some (.int .i64 (i : Int)) ∧ u.cell? ⟨w.heap.size, 1, none⟩ = some (.int .i64 (k : Int))) ∧ u.cell? ⟨p, 3, none⟩ = some (.slice (some ⟨x.gr, 0, none⟩) x.nr x.cr) ∧ u.cell? ⟨x.gr, i * 4, none⟩ = some (.slice (some ⟨r.g, 0, none⟩) r.ls.length r.cap))) (by kernel_rfl) (HQ3.out) fun O => ?_
  refine tk 0 ?_
  refine tk 1 ?_
  refine tk 2 ?_
  refine tk 3 ?_
  refine tk 4 ?_
  refine tk 5 ?_
  refine tk 6 ?_
  refine tk 7 ?_
  refine tk 8 ?_
  refine tk 9 ?_
  refine tk 10 ?_
  refine tk 11 ?_
  refine tk 12 ?_
  refine td ?_
  clear O
  rw [hU]
  clear hU HQ3
  obtain ⟨b0, b1, b2⟩ : U.cell? ⟨p, 0, none⟩ = some (.int .i64 (C.B : Int)) ∧ U.cell? ⟨p, 1, none⟩ = some (.int .i64 (C.P : Int)) ∧ U.cell? ⟨p, 2, none⟩ = some (.int .i64 (C.S : Int)) := HK1.out.geo
  by_cases hn : bit < 0
  ·have eF : FlipC C (i : Int) (k : Int) bit = (46, C) := by rw [HEP.out, if_pos (by rw [decide_eq_true hn]; rfl)]
   go_upto_region 5 with (first | (go_at_call 62; refine (runit_neg _ _ _ _ _ hn).mono ?_; rintro e u4 ⟨rfl, b4⟩; have HBE := J (below_trans HB1.out b4); clear b4))
   go_wp2
   go_ret
   rw [eF]
   exact ⟨rfl, HR.out.fx HBE.out, Only.ofB HBE.out⟩
  ·by_cases hg : 8 * (pgB C.S : Int) ≤ bit
   ·have eF : FlipC C (i : Int) (k : Int) bit = (46, C) := by rw [HEP.out, if_pos (by rw [decide_eq_true hg]; simp)]
    go_upto_region 5 with (first | (go_at_call 62; refine (runit_big _ _ _ C.S _ hs.1 hs.2 hg).mono ?_; rintro e u4 ⟨rfl, b4⟩; have HBE := J (below_trans HB1.out b4); clear b4))
    go_wp2
    go_ret
    rw [eF]
    exact ⟨rfl, HR.out.fx HBE.out, Only.ofB HBE.out⟩
   ·obtain ⟨bt, rfl⟩ : ∃ n : Nat, bit = n := ⟨bit.toNat, by omega⟩
    have hbt : bt < 8 * pgB C.S := by omega
    have huI := unitI_in hbt
    have HBT := J hbt
    have HEQ : Hid (FlipC C (i : Int) (k : Int) (bt : Int) = if !l.h || l.xs.any (fun z => unitI C.S z == unitI C.S bt) then (46, C) else (0, { C with fl := flS C.fl (i : Int) (k : Int) bt })) := by
     unfold Hid
     have e1 : flHas C (i : Int) (k : Int) bt = l.xs.any (fun z => unitI C.S z == unitI C.S bt) := by
      unfold flHas
      rw [← HXS.out]
      have h9 : ∀ (xs : List Nat), (∀ z ∈ xs, z < 8 * pgB C.S) → xs.any (fun z => ((unitN C.S z : Nat) : Int) == ((unitN C.S bt : Nat) : Int)) = xs.any (fun z => unitI C.S z == unitI C.S bt) := by
       intro xs
       induction xs with
       | nil => intro _; rfl
       | cons a xs ih => intro h; rw [List.any_cons, List.any_cons, ih (fun z hz => h z (List.mem_cons_of_mem _ hz)), unitNI (h a (List.mem_cons_self)) hbt]
      exact h9 _ HZB.out
     rw [HEP.out, decide_eq_false hn, decide_eq_false hg]
     simp only [Int.toNat_natCast, e1, Bool.false_or]
    obtain ⟨uu, huu⟩ : ∃ q, q = unitI C.S bt := ⟨_, rfl⟩
    rw [← huu] at huI HEQ
    have HUU := J huu
    clear HEP hg huu
    have du : (uu == -2) = false := by simp; omega
    cases hh : l.h with
    | false =>
     have eF : FlipC C (i : Int) (k : Int) (bt : Int) = (46, C) := by rw [HEQ.out, if_pos (by rw [hh]; rfl)]
     go_upto_region 5 with (first | (go_at_call 62; refine (runit_any _ _ C.S bt _ hs.1 hs.2 HBT.out).mono ?_; rintro e u4 ⟨rfl, b4⟩; rw [← HUU.out]; have HBE := J (below_trans HB1.out b4); have HK4 := J (HK1.out.below b4); clear b4))
     have lh := ((HK4.out.rok r (List.mem_of_getElem? HRI.out)).leaf HLI.out).2.2
     rw [hh] at lh
     go_wp2
     go_ret
     rw [eF]
     exact ⟨rfl, HR.out.fx HBE.out, Only.ofB HBE.out⟩
    | true =>
     rw [hh] at HEQ
     go_upto_region 5 with (first | (go_at_call 62; refine (runit_any _ _ C.S bt _ hs.1 hs.2 HBT.out).mono ?_; rintro e u4 ⟨rfl, b4⟩; rw [← HUU.out]; have HB4 := J (below_trans HB1.out b4); have HK4 := J (HK1.out.below b4); clear b4))
     have lh := ((HK4.out.rok r (List.mem_of_getElem? HRI.out)).leaf HLI.out).2.2
     rw [hh] at lh
     have hxl : l.xs.length = l.fn := by have h9 := ((HK4.out.rok r (List.mem_of_getElem? HRI.out)).lf l (List.mem_of_getElem? HLI.out)).row.1; simpa using h9
     have HXL := J hxl
     have hfnb : l.fn ≤ 4000000000000 := by rw [← hxl]; exact HLN.out
     clear b0 b1 b2 HK1 HB1 hxl HLN
     go_upto_region 7 with fail
     clear lh
     go_wp2
     go_loopw [9] (fun s9 wr => ∃ m : Nat, m ≤ l.fn ∧ s9 = .int .i64 m ∧ Hid (Below u4.heap.size u4 wr) ∧ Hid (∀ z ∈ l.xs.take m, (unitI C.S z == uu) = false)) (fun s9 _ => l.fn - (intOf s9).toNat)
     case atStart => exact ⟨0, Nat.zero_le _, rfl, J (Below.refl _ _), J (fun z hz => by cases hz)⟩
     case round =>
      obtain ⟨m, hm, rfl, HBr, HNr⟩ := hrel
      have HKr := J (HK4.out.below HBr.out)
      have hlr := (HKr.out.rok r (List.mem_of_getElem? HRI.out))
      have lf1 := (hlr.leaf HLI.out).2.1
      have HROW := J (hlr.lf l (List.mem_of_getElem? HLI.out)).row
      by_cases hlt : m < l.fn
      ·have d0 : decide ((m : Int) < (l.fn : Int)) = true := decide_eq_true (by omega)
       have d1 : (m : Int) < (l.fn : Int) := by omega
       have hrow9 : wr.ownsRow 0 3 1 (.slice l.fa l.fn l.fc) l.fn (l.xs.map fun (i : Nat) => Value.int .i64 (i : Int)) := HROW.out
       obtain ⟨gf, z, hfa, hz, hcz⟩ := ints_at hrow9 hlt
       rw [hfa] at lf1
       have HQ := J (And.intro HKr.out.geo (And.intro lf1 hcz))
       have HZL := J (HZB.out z (List.mem_of_getElem? hz))
       have HZI := J hz
       clear hfa hcz hz hlr hrow9
       go_upto_region 10 with fail
       refine wp_region_held_drew (S := (fun u => (u.cell? ⟨p, 0, none⟩ = some (.int .i64 (C.B : Int)) ∧ u.cell? ⟨p, 1, none⟩ = some (.int .i64 (C.P : Int)) ∧ u.cell? ⟨p, 2, none⟩ = some (.int .i64 (C.S : Int))) ∧ u.cell? ⟨r.g, k * 3 + 1, none⟩ = some (.slice (some ⟨gf, 0, none⟩) l.fn l.fc) ∧ u.cell? ⟨gf, m, none⟩ = some (.int .i64 (z : Int)))) (by kernel_rfl) (HQ.out) fun O => ?_
       refine tk 0 ?_
       refine tk 1 ?_
       refine tk 2 ?_
       refine tk 3 ?_
       refine tk 4 ?_
       refine tk 5 ?_
       refine tk 6 ?_
       refine tk 7 ?_
       refine tk 8 ?_
       refine tk 9 ?_
       refine tk 10 ?_
       refine tk 12 ?_
       refine rd 11 fun K N => ?_
       go_simp
       go_at_call 62
       refine (runit_any _ _ C.S z _ hs.1 hs.2 HZL.out).mono ?_
       rintro e u9 ⟨rfl, b9⟩
       have HB9 := J b9
       have hZ : (fun u => (u.cell? ⟨p, 0, none⟩ = some (.int .i64 (C.B : Int)) ∧ u.cell? ⟨p, 1, none⟩ = some (.int .i64 (C.P : Int)) ∧ u.cell? ⟨p, 2, none⟩ = some (.int .i64 (C.S : Int))) ∧ u.cell? ⟨r.g, k * 3 + 1, none⟩ = some (.slice (some ⟨gf, 0, none⟩) l.fn l.fc) ∧ u.cell? ⟨gf, m, none⟩ = some (.int .i64 (z : Int))) u9 := ⟨⟨(b9.cell (block_lt_of_cell O.1.1)).trans O.1.1, (b9.cell (block_lt_of_cell O.1.2.1)).trans O.1.2.1, (b9.cell (block_lt_of_cell O.1.2.2)).trans O.1.2.2⟩, (b9.cell (block_lt_of_cell O.2.1)).trans O.2.1, (b9.cell (block_lt_of_cell O.2.2)).trans O.2.2⟩
       clear b9
       go_wp2_with fail
       clear O
       refine N.out _ _ hZ fun O => ?_
       clear N K hZ
       try simp only [zz]
       refine tk 13 ?_
       refine td ?_
       clear O
       cases hq : (unitI C.S z == uu) with
       | true =>
        have HBE := J (below_trans HB4.out (below_trans HBr.out (below_trans (drew_below wr) HB9.out)))
        have eF : FlipC C (i : Int) (k : Int) (bt : Int) = (46, C) := by
         rw [HEQ.out, if_pos]
         rw [Bool.or_eq_true]
         exact Or.inr (List.any_eq_true.2 ⟨z, List.mem_of_getElem? HZI.out, hq⟩)
        clear lf1
        go_wp2
        go_ret
        rw [eF]
        exact ⟨rfl, HR.out.fx HBE.out, Only.ofB HBE.out⟩
       | false =>
        have HBn := J (below_trans HBr.out (below_trans (drew_below wr) HB9.out))
        have HNn : Hid (∀ y ∈ l.xs.take (m + 1), (unitI C.S y == uu) = false) := fun y hy => by
         rw [List.take_add_one, HZI.out] at hy
         rcases List.mem_append.1 hy with h9 | h9
         ·exact HNr.out y h9
         ·have e9 : y = z := by simpa using h9
          rw [e9]; exact hq
        clear lf1
        go_wp2
        go_roundw
        case rel => exact ⟨m + 1, by omega, by go_num, HBn, HNn⟩
        case measure => simp [intOf]; omega
      ·have d0 : decide ((m : Int) < (l.fn : Int)) = false := decide_eq_false (by omega)
       obtain rfl : m = l.fn := by omega
       have eF : FlipC C (i : Int) (k : Int) (bt : Int) = (0, { C with fl := flS C.fl (i : Int) (k : Int) bt }) := by
        rw [HEQ.out, if_neg]
        intro h9
        rw [Bool.or_eq_true] at h9
        rcases h9 with h9 | h9
        ·cases h9
        ·obtain ⟨z, hz, hz2⟩ := List.any_eq_true.1 h9
         have h8 := HNr.out z (by rw [List.take_of_length_le (by rw [HXL.out]; exact Nat.le_refl _)]; exact hz)
         rw [h8] at hz2
         cases hz2
       have HKa := J (HKr.out.below (below_alloc wr (.cells #[.int .i64 (bt : Int)] 3)))
       have hlra := HKa.out.rok r (List.mem_of_getElem? HRI.out)
       have HROWa : Hid ((wr.alloc (.cells #[.int .i64 (bt : Int)] 3)).ownsRow 0 3 1 (.slice l.fa l.fn l.fc) l.fn (l.xs.map fun (i : Nat) => Value.int .i64 (i : Int))) := (hlra.lf l (List.mem_of_getElem? HLI.out)).row
       have HNW := J (alloc_new wr (.cells #[.int .i64 (bt : Int)] 3))
       have HSZ := J (below_trans HB4.out HBr.out)
       clear hlr hlra
       go_wp2_with (first
        | (at_builtin; go_must (refine wpList_append_lies _ rfl (.tmp 68) (.tmp 70) 48 rfl 0 3 i0 (.int .i64 0) 1 8 Try.underlying48 hI hz0 hz1 hz2 rfl (by decide) (.slice l.fa l.fn l.fc) l.fn (l.xs.map fun (i : Nat) => Value.int .i64 (i : Int)) rfl HROWa.out ⟨wr.heap.size, 0, none⟩ 1 1 [.int .i64 (bt : Int)] rfl rfl (news1 HNW.out) (by intro u hu; simp at hu; rw [hu]; rfl) (by decide) (by simp [maxLen]; omega) (by omega) (Nat.zero_le _) _ rfl ?_); go_must (intro gn cn Y own grow lies hgl; obtain ⟨q1, q2, q3, q4⟩ := HKa.out.flip (w := w) HRI.out HLI.out own grow lies (by have h9 := HSZ.out.size; simp; omega) HFW.out HW0.out; have HF1 := J q1; have HF2 := J q2); clear own grow lies hgl q1 q2))
       go_ret
       rw [eF]
       exact ⟨rfl, HF1.out, (Only.ofB (F := F) (below_trans HSZ.out (below_alloc wr (.cells #[.int .i64 (bt : Int)] 3)))).trans HF2.out (fun _ _ h => h)⟩
theorem sameImage_eq (w : World) (B P S : Int) (ca cb ma mb : Option Addr) (cn cc cd mn mc md : Nat) (zs : List Int) (ms : List Bool) (h1 : Reads w ca cn zs) (h2 : Reads w cb cn zs) (k1 : ReadsB w ma mn ms) (k2 : ReadsB w mb mn ms) (hmn : mn ≤ 9223372036854775806) :
  Calls Try.prog 16 #[.agg #[.int .i64 B, .int .i64 P, .int .i64 S, .slice ca cn cc, .slice ma mn mc], .agg #[.int .i64 B, .int .i64 P, .int .i64 S, .slice cb cn cd, .slice mb mn md]] w fun e w' => e = .returned (.bool true) ∧ Below w.heap.size w w' := by
 have hb := below_trans (below_alloc w (.cells #[.int .i64 B, .int .i64 P, .int .i64 S, .slice ca cn cc, .slice ma mn mc] 27)) (below_alloc _ (.cells #[.int .i64 B, .int .i64 P, .int .i64 S, .slice cb cn cd, .slice mb mn md] 27))
 have v1 := conv ca cn cc zs _ (h1.below hb)
 have v2 := conv cb cn cd zs _ (h2.below hb)
 have HK1 := J (k1.below hb)
 have HK2 := J (k2.below hb)
 have HXA : Hid (((w.alloc (.cells #[.int .i64 B, .int .i64 P, .int .i64 S, .slice ca cn cc, .slice ma mn mc] 27)).alloc (.cells #[.int .i64 B, .int .i64 P, .int .i64 S, .slice cb cn cd, .slice mb mn md] 27)).heap[w.heap.size]? = some (.cells #[.int .i64 B, .int .i64 P, .int .i64 S, .slice ca cn cc, .slice ma mn mc] 27 (0, 0))) := (alloc_old _ _ (by simp)).trans (alloc_new w _)
 have HXB : Hid (((w.alloc (.cells #[.int .i64 B, .int .i64 P, .int .i64 S, .slice ca cn cc, .slice ma mn mc] 27)).alloc (.cells #[.int .i64 B, .int .i64 P, .int .i64 S, .slice cb cn cd, .slice mb mn md] 27)).heap[w.heap.size + 1]? = some (.cells #[.int .i64 B, .int .i64 P, .int .i64 S, .slice cb cn cd, .slice mb mn md] 27 (0, 0))) := by have h9 := alloc_new (w.alloc (.cells #[.int .i64 B, .int .i64 P, .int .i64 S, .slice ca cn cc, .slice ma mn mc] 27)) (.cells #[.int .i64 B, .int .i64 P, .int .i64 S, .slice cb cn cd, .slice mb mn md] 27); rw [alloc_size] at h9; exact h9
 have HB := J hb
 clear hb h1 h2 k1 k2
 go_enter Try.func16, Try.ntmps16
 go_wp2
 generalize hu : (w.alloc (.cells #[.int .i64 B, .int .i64 P, .int .i64 S, .slice ca cn cc, .slice ma mn mc] 27)).alloc (.cells #[.int .i64 B, .int .i64 P, .int .i64 S, .slice cb cn cd, .slice mb mn md] 27) = u0 at HK1 HK2 HXA HXB HB ⊢
 clear hu v1 v2
 go_loopw [5] (fun i wr => ∃ m : Nat, m ≤ mn ∧ i = .int .i64 m ∧ Hid (Below u0.heap.size u0 wr)) (fun i _ => mn - (intOf i).toNat)
 case atStart => exact ⟨0, Nat.zero_le _, rfl, Below.refl _ _⟩
 case round =>
  obtain ⟨m, hm, rfl, HBr⟩ := hrel
  obtain ⟨x0, x1, x2, x3, x4⟩ := cells5 ((HBr.out.block _ (lt_of_block HXA.out)).trans HXA.out)
  obtain ⟨y0, y1, y2, y3, y4⟩ := cells5 ((HBr.out.block _ (lt_of_block HXB.out)).trans HXB.out)
  clear x0 x1 x2 x3 y0 y1 y2 y3
  by_cases hlt : m < mn
  ·have dm : decide ((m : Int) < (mn : Int)) = true := decide_eq_true (by omega)
   have m1 : (m : Int) < (mn : Int) := by omega
   obtain ⟨g1, o1, rfl, _, c1⟩ := HK1.out.pos (by omega)
   obtain ⟨g2, o2, rfl, _, c2⟩ := HK2.out.pos (by omega)
   obtain ⟨mv, hmv⟩ : ∃ v, ms.getD m false = v := ⟨_, rfl⟩
   have q1 := c1 m hlt
   have q2 := c2 m hlt
   rw [hmv] at q1 q2
   have q1 := (HBr.out.cell (block_lt_of_cell q1)).trans q1
   have q2 := (HBr.out.cell (block_lt_of_cell q2)).trans q2
   clear c1 c2 hmv
   go_wp2
   refine wp_region_held_drew (S := (fun u => u.cell? ⟨w.heap.size, 4, none⟩ = some (.slice (some ⟨g1, o1, none⟩) mn mc) ∧ u.cell? ⟨w.heap.size + 1, 4, none⟩ = some (.slice (some ⟨g2, o2, none⟩) mn md) ∧ u.cell? ⟨g1, o1 + m, none⟩ = some (.bool mv) ∧ u.cell? ⟨g2, o2 + m, none⟩ = some (.bool mv))) (by kernel_rfl) (⟨x4, y4, q1, q2⟩) fun O => ?_
   refine tk 0 ?_
   refine tk 1 ?_
   refine tk 2 ?_
   refine tk 3 ?_
   refine tk 4 ?_
   refine tk 5 ?_
   refine tk 6 ?_
   refine tk 7 ?_
   refine tk 8 ?_
   refine tk 9 ?_
   refine tk 10 ?_
   refine td ?_
   clear O
   go_wp2
   go_roundw
   case rel => exact ⟨m + 1, by omega, by go_num, below_trans HBr.out (drew_below _)⟩
   case measure => simp [intOf]; omega
  ·have dm : decide ((m : Int) < (mn : Int)) = false := decide_eq_false (by omega)
   go_wp2
   go_ret
   exact ⟨rfl, below_trans HB.out HBr.out⟩
end Go.Proofs.Ytadlkikjfonkgaa
