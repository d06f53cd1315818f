/-
  SEAT Ytadlkikjfonkgaa: Mp, Ri.
-/
import Derived.Test.YtadlkikjfonkgaaQh
import Derived.Laws.StructEq
import Derived.MapKept
import Derived.Test.YtadlkikjfonkgaaQa
namespace Go.Proofs.Ytadlkikjfonkgaa
open Go.RowKit Go.Conc
set_option linter.unusedVariables false
set_option maxRecDepth 100000
set_option maxHeartbeats 4000000
variable {w : World} {F : Nat → Prop} {gm : Nat} {fe : List Fe} {n : Fe}
theorem eq41 (a b c d : Int) (w : World) : (Op.equal 41 (plV a b) (plV c d)).run Try.prog w = .ok (a == c && b == d) w := by
 have ht : Try.prog.underlying 41 = some (.struct (Try.prog.fieldsOf 41)) := by kernel_rfl
 have hp : Try.prog.stoodInHeld 41 = false := by kernel_rfl
 show (Op.equalIn 10000 41 (.agg #[.int .i64 a, .int .i64 b]) (.agg #[.int .i64 c, .int .i64 d])).run Try.prog w = _
 rw [run_equalIn_agg _ 9999 41 _ _ ht hp]
 simp [go_sem]
 by_cases h1 : a = c <;> by_cases h2 : b = d <;> simp [h1, h2]
def isAt (b p : Int) (f : Fe) : Bool := b == f.b && p == f.p
def findI (b p : Int) : List Fe → Nat → Option (Nat × Value)
 | [], _ => none
 | f :: r, i => if isAt b p f then some (i, f.sl) else findI b p r (i + 1)
theorem find_run (w : World) (b p : Int) : ∀ (fe : List Fe) (es : List MapEntry) (i : Nat), es.map (fun e => (e.key, e.val)) = fe.map (fun f => (plV f.b f.p, f.sl)) → (Instr.findAsking 41 (plV b p) es i).run Try.prog w = .ok (findI b p fe i) w
 | [], [], i, _ => by simp [Instr.findAsking, findI]
 | [], e :: es, i, h => by simp at h
 | f :: fe, [], i, h => by simp at h
 | f :: fe, e :: es, i, h => by
  simp only [List.map_cons, List.cons.injEq, Prod.mk.injEq] at h
  obtain ⟨⟨h1, h2⟩, h3⟩ := h
  have ih := find_run w b p fe es (i + 1) h3
  unfold Instr.findAsking
  rw [h1, h2]
  simp only [Sem.run_bind, eq41, Result.andThen_ok]
  unfold findI
  unfold isAt
  by_cases hc : (b == f.b && p == f.p) = true
  ·rw [hc]; simp
  ·have hc' : (b == f.b && p == f.p) = false := by simpa using hc
   rw [hc']; simpa using ih
theorem findKey_run (w : World) (b p : Int) (fe : List Fe) (es : List MapEntry) (h : es.map (fun e => (e.key, e.val)) = fe.map (fun f => (plV f.b f.p, f.sl))) : (Instr.findKey 41 (plV b p) es).run Try.prog w = .ok (findI b p fe 0) w := by
 have hf := find_run w b p fe es 0 h
 unfold Instr.findKey
 simp only [Sem.run_bind, run_underlying Try.underlying41, Result.andThen_ok]
 cases es with
 | nil =>
  cases fe with
  | nil => simp [Instr.findNow, findI]
  | cons f r => simp at h
 | cons e r =>
  have hn : ∀ fs, Instr.findNow (.struct fs) (plV b p) (e :: r) 0 = none := fun fs => by simp [Instr.findNow, Instr.sameNow]
  simp only [hn]
  exact hf
theorem check_run (w : World) (em : Bool) (b p : Int) : (Instr.checkKey em 10000 41 (plV b p)).run Try.prog w = .ok () w := by
 cases em <;> kernel_rfl
theorem stays_run (w : World) (b p : Int) : (Instr.keyThatStays (plV b p) (plV b p)).run Try.prog w = .ok (plV b p) w := by
 have h : Instr.sameBits 10000 (plV b p) (plV b p) = true := by simp [Instr.sameBits, plV]
 unfold Instr.keyThatStays
 rw [h]
 simp
def lookV (fe : List Fe) (b p : Int) : Value := match findI b p fe 0 with
 | some (_, v) => v
 | none => .slice none 0 0
theorem FlAt.lkr (h : FlAt w F gm fe) (b p : Int) : (Instr.lookup 97 (.map (some gm)) (plV b p) false).run Try.prog w = .ok (lookV fe b p) w := by
 obtain ⟨es, clock, h1, h2, _⟩ := h.map
 have hz : (zeroValue 48).run Try.prog w = .ok (.slice none 0 0) w := by kernel_rfl
 have hk := findKey_run w b p fe es.toList h2
 have hc := check_run w es.isEmpty b p
 unfold Instr.lookup lookV
 simp only [Sem.run_bind, run_underlying Try.underlying97, Result.andThen_ok]
 have hg : (getObj gm).run Try.prog w = .ok (.map es clock) w := MapKept.run_getObj_map h1
 simp only [hg, Sem.run_bind, Sem.run_pure, Result.andThen_ok, hc, hk]
 cases findI b p fe 0 with
 | none => simp [hz]
 | some r => obtain ⟨j, v⟩ := r; simp
def putE (n : Fe) : List Fe → List Fe
 | [] => [n]
 | f :: r => if isAt n.b n.p f then n :: r else f :: putE n r
def delE (b p : Int) : List Fe → List Fe
 | [] => []
 | f :: r => if isAt b p f then r else f :: delE b p r
theorem findI_none (n : Fe) : ∀ (fe : List Fe) (i : Nat), findI n.b n.p fe i = none → putE n fe = fe ++ [n] ∧ delE n.b n.p fe = fe ∧ ∀ f ∈ fe, isAt n.b n.p f = false
 | [], i, _ => ⟨rfl, rfl, by simp⟩
 | f :: r, i, h => by
  unfold findI at h
  by_cases hc : isAt n.b n.p f = true
  ·rw [if_pos hc] at h; cases h
  ·rw [if_neg hc] at h
   obtain ⟨h1, h2, h3⟩ := findI_none n r (i + 1) h
   refine ⟨by rw [putE, if_neg hc, h1]; rfl, by rw [delE, if_neg hc, h2], fun g hg => ?_⟩
   rcases List.mem_cons.1 hg with rfl | hg
   ·simpa using hc
   ·exact h3 g hg
theorem findI_some (n : Fe) : ∀ (fe : List Fe) (i j : Nat) (v : Value), findI n.b n.p fe i = some (j, v) → ∃ d, j = i + d ∧ d < fe.length ∧ putE n fe = fe.set d n ∧ delE n.b n.p fe = fe.eraseIdx d ∧ ∃ f, fe[d]? = some f ∧ isAt n.b n.p f = true ∧ v = f.sl
 | [], i, j, v, h => by cases h
 | f :: r, i, j, v, h => by
  unfold findI at h
  by_cases hc : isAt n.b n.p f = true
  ·rw [if_pos hc] at h
   cases h
   exact ⟨0, rfl, by simp, by rw [putE, if_pos hc]; rfl, by rw [delE, if_pos hc]; rfl, f, rfl, hc, rfl⟩
  ·rw [if_neg hc] at h
   obtain ⟨d, h1, h2, h3, h4, g, h5, h6, h7⟩ := findI_some n r (i + 1) j v h
   exact ⟨d + 1, by omega, by simp; omega, by rw [putE, if_neg hc, h3]; rfl, by rw [delE, if_neg hc, h4]; rfl, g, by simpa using h5, h6, h7⟩
theorem heap_set (w : World) (g : Nat) (o : Obj) (hg : g < w.heap.size) : ({ w with heap := w.heap.setIfInBounds g o } : World).heap[g]? = some o := by
 simp [Array.getElem?_setIfInBounds_self_of_lt hg]
theorem only_set (w : World) (g : Nat) (o : Obj) : Only (· = g) w { w with heap := w.heap.setIfInBounds g o } :=
 ⟨rfl, rfl, rfl, by simp, fun k hk hf => by show (w.heap.setIfInBounds g o)[k]? = _; rw [Array.getElem?_setIfInBounds_ne (fun e => hf e.symm)]⟩
theorem isAt_eq {b p : Int} {f : Fe} (h : isAt b p f = true) : b = f.b ∧ p = f.p := by
 unfold isAt at h
 simpa using h
theorem mem_putE {n g : Fe} : ∀ {fe : List Fe}, g ∈ putE n fe → g = n ∨ (g ∈ fe)
 | [], h => by simp [putE] at h; exact Or.inl h
 | f :: r, h => by
  unfold putE at h
  split at h
  ·rcases List.mem_cons.1 h with h1 | h1
   ·exact Or.inl h1
   ·exact Or.inr (by simp [h1])
  ·rcases List.mem_cons.1 h with h1 | h1
   ·exact Or.inr (by simp [h1])
   ·rcases mem_putE h1 with h2 | h2
    ·exact Or.inl h2
    ·exact Or.inr (by simp [h2])
theorem putE_other {n : Fe} : ∀ {fe : List Fe}, fe.Pairwise (fun f g => ¬ (f.b = g.b ∧ f.p = g.p)) → ∀ g ∈ putE n fe, g = n ∨ (g ∈ fe ∧ isAt n.b n.p g = false)
 | [], _, g, h => by simp [putE] at h; exact Or.inl h
 | f :: r, hp, g, h => by
  obtain ⟨hp1, hp2⟩ := List.pairwise_cons.1 hp
  unfold putE at h
  by_cases hc : isAt n.b n.p f = true
  ·rw [if_pos hc] at h
   rcases List.mem_cons.1 h with h1 | h1
   ·exact Or.inl h1
   ·refine Or.inr ⟨by simp [h1], ?_⟩
    obtain ⟨e1, e2⟩ := isAt_eq hc
    have := hp1 g h1
    rw [← e1, ← e2] at this
    simpa [isAt] using this
  ·rw [if_neg hc] at h
   rcases List.mem_cons.1 h with h1 | h1
   ·exact Or.inr ⟨by simp [h1], by rw [h1]; simpa using hc⟩
   ·rcases putE_other hp2 g h1 with h2 | ⟨h2, h3⟩
    ·exact Or.inl h2
    ·exact Or.inr ⟨by simp [h2], h3⟩
theorem putE_pair {n : Fe} (R : Fe → Fe → Prop) (hs : ∀ {a b}, R a b → R b a) : ∀ {fe : List Fe}, fe.Pairwise R → fe.Pairwise (fun f g => ¬ (f.b = g.b ∧ f.p = g.p)) → (∀ f ∈ fe, isAt n.b n.p f = false → R f n) → (putE n fe).Pairwise R
 | [], _, _, _ => by simp [putE]
 | f :: r, h, hk, hn => by
  obtain ⟨h1, h2⟩ := List.pairwise_cons.1 h
  obtain ⟨hk1, hk2⟩ := List.pairwise_cons.1 hk
  unfold putE
  by_cases hc : isAt n.b n.p f = true
  ·rw [if_pos hc]
   refine List.pairwise_cons.2 ⟨fun g hg => hs (hn g (by simp [hg]) ?_), h2⟩
   obtain ⟨e1, e2⟩ := isAt_eq hc
   have := hk1 g hg
   rw [← e1, ← e2] at this
   simpa [isAt] using this
  ·rw [if_neg hc]
   refine List.pairwise_cons.2 ⟨fun g hg => ?_, putE_pair R hs h2 hk2 (fun g hg => hn g (by simp [hg]))⟩
   rcases mem_putE hg with rfl | hg
   ·exact hn f (by simp) (by simpa using hc)
   ·exact h1 g hg
theorem look_putE {n : Fe} (b p : Int) : ∀ (fe : List Fe), look (putE n fe) b p = if b = n.b ∧ p = n.p then n.xs else look fe b p
 | [] => by
  unfold look putE
  by_cases h : b = n.b ∧ p = n.p
  ·rw [if_pos h]; obtain ⟨rfl, rfl⟩ := h; simp
  ·rw [if_neg h]
   have : (n.b == b && n.p == p) = false := by
    rw [Bool.and_eq_false_iff]
    by_cases h1 : n.b = b
    ·right; simp; intro h2; exact h ⟨h1.symm, h2.symm⟩
    ·left; simpa using h1
   simp [this]
 | f :: r => by
  have ih := look_putE (n := n) b p r
  unfold putE
  by_cases hc : isAt n.b n.p f = true
  ·rw [if_pos hc]
   obtain ⟨e1, e2⟩ := isAt_eq hc
   by_cases h : b = n.b ∧ p = n.p
   ·rw [if_pos h]; obtain ⟨rfl, rfl⟩ := h; simp [look]
   ·rw [if_neg h]
    have h9 : (n.b == b && n.p == p) = false := by
     rw [Bool.and_eq_false_iff]
     by_cases h1 : n.b = b
     ·right; simp; intro h2; exact h ⟨h1.symm, h2.symm⟩
     ·left; simpa using h1
    have h8 := h9
    rw [e1, e2] at h8
    simp [look, h9, h8]
  ·rw [if_neg hc]
   by_cases hf : (f.b == b && f.p == p) = true
   ·have e3 : f.b = b ∧ f.p = p := by simpa using hf
    have hn : ¬ (b = n.b ∧ p = n.p) := by
     rintro ⟨rfl, rfl⟩
     apply hc
     unfold isAt
     rw [e3.1, e3.2]
     simp
    rw [if_neg hn]
    simp [look, hf]
   ·have hf' : (f.b == b && f.p == p) = false := by simpa using hf
    have l1 : look (f :: putE n r) b p = look (putE n r) b p := by simp [look, hf']
    have l2 : look (f :: r) b p = look r b p := by simp [look, hf']
    rw [l1, l2, ih]
theorem delE_sub (b p : Int) : ∀ fe : List Fe, (delE b p fe).Sublist fe
 | [] => List.Sublist.refl _
 | f :: r => by
  unfold delE
  split
  ·exact List.sublist_cons_self _ _
  ·exact (delE_sub b p r).cons_cons f
theorem look_not {b p : Int} (h : ∀ f ∈ fe, ¬ (f.b = b ∧ f.p = p)) : look fe b p = [] := by
 unfold look
 have : fe.find? (fun f => f.b == b && f.p == p) = none := by
  rw [List.find?_eq_none]
  intro f hf
  have := h f hf
  simpa using this
 rw [this]
theorem look_delE (b p b' p' : Int) : ∀ {fe : List Fe}, fe.Pairwise (fun f g => ¬ (f.b = g.b ∧ f.p = g.p)) → look (delE b p fe) b' p' = if b' = b ∧ p' = p then [] else look fe b' p'
 | [], _ => by simp [delE, look]
 | f :: r, hp => by
  obtain ⟨hp1, hp2⟩ := List.pairwise_cons.1 hp
  have ih := look_delE b p b' p' hp2
  unfold delE
  by_cases hc : isAt b p f = true
  ·rw [if_pos hc]
   obtain ⟨e1, e2⟩ := isAt_eq hc
   by_cases h : b' = b ∧ p' = p
   ·rw [if_pos h]
    obtain ⟨rfl, rfl⟩ := h
    refine look_not (fun g hg e => ?_)
    exact hp1 g hg ⟨by rw [← e1, e.1], by rw [← e2, e.2]⟩
   ·rw [if_neg h]
    have : (f.b == b' && f.p == p') = false := by
     rw [← e1, ← e2, Bool.and_eq_false_iff]
     by_cases h1 : b = b'
     ·right; simp; intro h2; exact h ⟨h1.symm, h2.symm⟩
     ·left; simpa using h1
    simp [look, this]
  ·rw [if_neg hc]
   by_cases hf : (f.b == b' && f.p == p') = true
   ·have e3 : f.b = b' ∧ f.p = p' := by simpa using hf
    have hn : ¬ (b' = b ∧ p' = p) := by
     rintro ⟨rfl, rfl⟩
     apply hc
     unfold isAt
     rw [e3.1, e3.2]
     simp
    rw [if_neg hn]
    simp [look, hf]
   ·have hf' : (f.b == b' && f.p == p') = false := by simpa using hf
    have l1 : look (f :: delE b p r) b' p' = look (delE b p r) b' p' := by simp [look, hf']
    have l2 : look (f :: r) b' p' = look r b' p' := by simp [look, hf']
    rw [l1, l2, ih]
theorem find_born : ∀ (es : List MapEntry) (d : Nat) (e : MapEntry), es[d]? = some e → es.Pairwise (fun a b => a.born ≠ b.born) → es.findIdx? (fun x => ((x.born : Nat) : Int) == ((e.born : Nat) : Int)) = some d
 | [], d, e, h, _ => by simp at h
 | a :: r, 0, e, h, _ => by
  simp at h
  subst h
  simp [List.findIdx?_cons]
 | a :: r, d + 1, e, h, hp => by
  obtain ⟨h1, h2⟩ := List.pairwise_cons.1 hp
  have hr : r[d]? = some e := by simpa using h
  have hne : a.born ≠ e.born := h1 e (List.mem_of_getElem? hr)
  have : (((a.born : Nat) : Int) == ((e.born : Nat) : Int)) = false := by rw [beq_eq_false_iff_ne]; intro h9; omega
  rw [List.findIdx?_cons, this]
  simp [find_born r d e hr h2]
theorem FlAt.ent (h : FlAt w F gm fe) (b p : Int) :
  ∃ w1 fe1 es1 clock1 d e1, (Instr.mapEntry 97 (.map (some gm)) (plV b p)).run Try.prog w = .ok (.tuple #[lookV fe b p, goInt (e1.born : Nat)]) w1 ∧ Only (· = gm) w w1 ∧ FlAt w1 F gm fe1 ∧ w1.heap[gm]? = some (.map es1 clock1) ∧ es1.toList.map (fun e => (e.key, e.val)) = fe1.map (fun f => (plV f.b f.p, f.sl)) ∧ Stamps es1.toList clock1 ∧ es1.toList[d]? = some e1 ∧
   (∀ n : Fe, n.b = b → n.p = p → putE n fe1 = fe1.set d n ∧ d < fe1.length) ∧ (∀ b' p', look fe1 b' p' = look fe b' p') ∧ (∀ n : Fe, n.b = b → n.p = p → ∀ f ∈ fe1, isAt b p f = false → f ∈ fe) ∧ e1.key = plV b p := by
 obtain ⟨es, clock, hm, he, hst⟩ := h.map
 have hkf := findKey_run w b p fe es.toList he
 have hc := check_run w false b p
 have hg : (getObj gm).run Try.prog w = .ok (.map es clock) w := MapKept.run_getObj_map hm
 have hlt := lt_of_block hm
 have hT : ∀ w', Only (· = gm) w w' → KeepT F (· = 1001) w w' := fun w' ho => ho.keepT (fun k o t hk' ho' ht => by
  rw [hk', hm] at ho'
  cases ho'
  exact ht)
 have hlen : es.toList.length = fe.length := by have := congrArg List.length he; simpa using this
 cases hf : findI b p fe 0 with
 | none =>
  obtain ⟨p1, _, p3⟩ := findI_none ⟨b, p, none, 0, 0, []⟩ fe 0 hf
  have hz : (zeroValue 48).run Try.prog w = .ok (.slice none 0 0) w := by kernel_rfl
  have hlv : lookV fe b p = .slice none 0 0 := by unfold lookV; rw [hf]
  refine ⟨{ w with heap := w.heap.setIfInBounds gm (.map (es.push { key := plV b p, val := .slice none 0 0, born := clock }) (clock + 1)) }, fe ++ [⟨b, p, none, 0, 0, []⟩], es.push { key := plV b p, val := .slice none 0 0, born := clock }, clock + 1, fe.length, { key := plV b p, val := .slice none 0 0, born := clock }, ?_, only_set w gm _, ?_, heap_set w gm _ hlt, ?_, ?_, ?_, ?_, ?_, ?_, rfl⟩
  ·unfold Instr.mapEntry
   simp only [Sem.run_bind, run_underlying Try.underlying97, Result.andThen_ok, hg, hc, hkf, hf, hz, MapKept.run_setObj_map _ hm, hlv, Sem.run_pure]
  ·refine ⟨⟨_, _, heap_set w gm _ hlt, by simp [he]; rfl, ?_⟩, h.fg, ?_, ?_, fun f hf' => ?_⟩
   ·exact ⟨fun e he' => by
     rw [Array.toList_push] at he'
     rcases List.mem_append.1 he' with h1 | h1
     ·have := hst.1 e h1; omega
     ·simp at h1; rw [h1]; show clock < clock + 1; omega, by
     rw [Array.toList_push, List.pairwise_append]
     exact ⟨hst.2, by simp, fun a ha c hc' => by simp at hc'; rw [hc']; have := hst.1 a ha; show a.born ≠ clock; omega⟩⟩
   ·rw [List.pairwise_append]
    exact ⟨h.keys, by simp, fun a ha c hc' => by
     simp at hc'
     rw [hc']
     intro e
     have h8 := p3 a ha
     have h9 : isAt b p a = true := by unfold isAt; rw [e.1, e.2]; simp
     exact absurd (h9.symm.trans h8) (by decide)⟩
   ·rw [List.pairwise_append]
    exact ⟨h.far, by simp, fun a ha c hc' => by simp at hc'; rw [hc']; intro k _ e; cases e⟩
   ·rcases List.mem_append.1 hf' with h1 | h1
    ·exact (h.ok f h1).keep (hT _ (only_set w gm _)) (by decide) (fun _ h => h)
    ·simp at h1
     rw [h1]
     exact ⟨World.ownsRow_nil _ _ _ _, fun g hg' => by cases hg'⟩
  ·simp [he]; rfl
  ·exact ⟨fun e he' => by
     rw [Array.toList_push] at he'
     rcases List.mem_append.1 he' with h1 | h1
     ·have := hst.1 e h1; omega
     ·simp at h1; rw [h1]; show clock < clock + 1; omega, by
     rw [Array.toList_push, List.pairwise_append]
     exact ⟨hst.2, by simp, fun a ha c hc' => by simp at hc'; rw [hc']; have := hst.1 a ha; show a.born ≠ clock; omega⟩⟩
  ·rw [Array.toList_push, List.getElem?_append_right (by omega), hlen, Nat.sub_self]
   rfl
  ·intro n hb hp
   refine ⟨?_, by simp⟩
   have : ∀ (l : List Fe), (∀ f ∈ l, isAt b p f = false) → putE n (l ++ [(⟨b, p, none, 0, 0, []⟩ : Fe)]) = (l ++ [(⟨b, p, none, 0, 0, []⟩ : Fe)]).set l.length n := by
    intro l
    induction l with
    | nil => intro _; simp [putE, isAt, hb, hp]
    | cons f r ih =>
     intro hl
     have h1 : isAt n.b n.p f = false := by rw [hb, hp]; exact hl f (by simp)
     show putE n (f :: (r ++ _)) = _
     unfold putE
     rw [h1, if_neg (by decide), ih (fun g hg => hl g (by simp [hg]))]
     rfl
   exact this fe p3
  ·intro b' p'
   unfold look
   rw [List.find?_append]
   cases hfd : fe.find? (fun f => f.b == b' && f.p == p') with
   | some f => rfl
   | none =>
    by_cases hx : (b == b' && p == p') = true
    ·simp [hx]
    ·have hx' : (b == b' && p == p') = false := by simpa using hx
     simp [hx']
  ·intro n hb hp f hf' hi
   rcases List.mem_append.1 hf' with h1 | h1
   ·exact h1
   ·simp at h1
    rw [h1] at hi
    simp [isAt] at hi
 | some r =>
  obtain ⟨j, v⟩ := r
  obtain ⟨d, hjd, h2, _, _, f, h5, h6, h7⟩ := findI_some ⟨b, p, none, 0, 0, []⟩ fe 0 j v hf
  rw [Nat.zero_add] at hjd
  subst hjd
  have hd : j < es.size := by have : es.toList.length = es.size := by simp
                              omega
  have hlv : lookV fe b p = v := by unfold lookV; rw [hf]
  obtain ⟨e1, e2⟩ := isAt_eq h6
  simp only at e1 e2
  obtain ⟨en, hen⟩ : ∃ e, es[j]? = some e := ⟨_, Array.getElem?_eq_getElem hd⟩
  have henl : es.toList[j]? = some en := by rw [Array.getElem?_toList]; exact hen
  have hkey : (en.key, en.val) = (plV b p, f.sl) := by
   have h9 : (es.toList.map (fun e => (e.key, e.val)))[j]? = some (en.key, en.val) := by rw [List.getElem?_map, henl]; rfl
   rw [he, List.getElem?_map, h5] at h9
   have h10 := (Option.some.inj h9).symm
   rw [h10, e1, e2]
  have hk1 : en.key = plV b p := congrArg Prod.fst hkey
  have hst' := stays_run w b p
  have hmod : es.modify j (fun e => { e with key := plV b p }) = es := by
   apply Array.ext'
   rw [Array.toList_modify]
   refine List.ext_getElem? (fun m => ?_)
   rw [List.getElem?_modify]
   by_cases hm' : j = m
   ·subst hm'
    rw [henl]
    simp [← hk1]
   ·simp [hm']
  have hFe : FlAt { w with heap := w.heap.setIfInBounds gm (.map es clock) } F gm fe := ⟨⟨es, clock, heap_set w gm _ hlt, he, hst⟩, h.fg, h.keys, h.far, fun f hf' => (h.ok f hf').keep (hT _ (only_set w gm _)) (by decide) (fun _ h => h)⟩
  refine ⟨{ w with heap := w.heap.setIfInBounds gm (.map es clock) }, fe, es, clock, j, en, ?_, only_set w gm _, hFe, heap_set w gm _ hlt, he, hst, henl, ?_, fun _ _ => rfl, fun _ _ _ f hf' _ => hf', hk1⟩
  ·unfold Instr.mapEntry
   simp only [Sem.run_bind, run_underlying Try.underlying97, Result.andThen_ok, hg, hc, hkf, hf, hen, Option.map_some, Option.getD_some, hk1, hst', hmod, MapKept.run_setObj_map _ hm, Sem.run_pure, hlv]
  ·intro n hb hp
   have hf2 : findI n.b n.p fe 0 = some (j, v) := by rw [hb, hp]; exact hf
   obtain ⟨d', q1, q2, q3, _⟩ := findI_some n fe 0 j v hf2
   rw [Nat.zero_add] at q1
   subst q1
   exact ⟨q3, q2⟩
theorem FlAt.store {G : Nat → Prop} {es : Array MapEntry} {clock d : Nat} {e1 : MapEntry} (hm : w.heap[gm]? = some (.map es clock)) (he : es.toList.map (fun e => (e.key, e.val)) = fe.map (fun f => (plV f.b f.p, f.sl))) (hst : Stamps es.toList clock) (hd : es.toList[d]? = some e1) (hk : fe.Pairwise (fun f g => ¬ (f.b = g.b ∧ f.p = g.p))) (hfr : fe.Pairwise (fun f g => ∀ k, f.sl.ownBlock = some k → g.sl.ownBlock ≠ some k)) (n : Fe) (hput : putE n fe = fe.set d n ∧ d < fe.length) (hG : G gm) (hkey : e1.key = plV n.b n.p)
  (hok : ∀ f ∈ fe, isAt n.b n.p f = false → FeOk w G f) (hn : FeOk w G n) (hfar : ∀ f ∈ fe, isAt n.b n.p f = false → ∀ k, f.sl.ownBlock = some k → n.sl.ownBlock ≠ some k) :
  ∃ w', (Instr.entryStore 97 (.map (some gm)) (goInt (e1.born : Nat)) n.sl).run Try.prog w = .ok () w' ∧ FlAt w' G gm (putE n fe) ∧ Only (· = gm) w w' := by
 have hg : (getObj gm).run Try.prog w = .ok (.map es clock) w := MapKept.run_getObj_map hm
 have hlt := lt_of_block hm
 have keyOk : ∀ w', Only (· = gm) w w' → ∀ g ∈ putE n fe, FeOk w' G g := fun w' ho g hg => by
  have hT : KeepT G (· = 1001) w w' := ho.keepT (fun k o t hk' ho' ht => by
   rw [hk', hm] at ho'
   cases ho'
   exact ht)
  rcases putE_other hk g hg with rfl | ⟨h1, h2⟩
  ·exact hn.keep hT (by decide) (fun _ h => h)
  ·exact (hok g h1 h2).keep hT (by decide) (fun _ h => h)
 have hkeys : (putE n fe).Pairwise (fun f g => ¬ (f.b = g.b ∧ f.p = g.p)) := putE_pair _ (fun h e => h ⟨e.1.symm, e.2.symm⟩) hk hk (fun f _ hf e => by
  have : isAt n.b n.p f = true := by unfold isAt; rw [e.1, e.2]; simp
  rw [this] at hf; cases hf)
 have hfars : (putE n fe).Pairwise (fun f g => ∀ k, f.sl.ownBlock = some k → g.sl.ownBlock ≠ some k) := putE_pair _ (fun h k h1 h2 => h k h2 h1) hfr hk (fun f hf h1 => hfar f hf h1)
 have hfi : es.findIdx? (fun e => ((e.born : Nat) : Int) == ((e1.born : Nat) : Int)) = some d := by
  have h9 := find_born es.toList d e1 hd hst.2
  obtain ⟨l⟩ := es
  rw [List.findIdx?_toArray]
  exact h9
 have hml : (es.modify d fun e => { e with val := n.sl }).toList.map (·.born) = es.toList.map (·.born) := by
  rw [Array.toList_modify]
  refine List.ext_getElem? (fun m => ?_)
  rw [List.getElem?_map, List.getElem?_map, List.getElem?_modify]
  by_cases hm' : d = m
  ·subst hm'; rw [hd]; simp
  ·simp [hm']
 refine ⟨{ w with heap := w.heap.setIfInBounds gm (.map (es.modify d fun e => { e with val := n.sl }) clock) }, ?_, ⟨⟨_, _, heap_set w gm _ hlt, ?_, ?_⟩, hG, hkeys, hfars, keyOk _ (only_set w gm _)⟩, only_set w gm _⟩
 ·simp [Instr.entryStore, hg, goInt, asInt, asIntOf, hfi, MapKept.run_setObj_map _ hm]
 ·rw [hput.1, List.map_set, ← he, Array.toList_modify]
  refine List.ext_getElem? (fun m => ?_)
  rw [List.getElem?_map, List.getElem?_modify, List.getElem?_set, List.getElem?_map]
  by_cases hm' : d = m
  ·subst hm'
   have hdl : d < es.toList.length := (List.getElem?_eq_some_iff.1 hd).1
   rw [hd]
   simp [hkey]
   simpa using hdl
  ·simp [hm']
 ·have b1 : ((es.modify d fun e => { e with val := n.sl }).toList.map (·.born)).Pairwise (· ≠ ·) := by
   rw [hml]
   exact List.pairwise_map.2 hst.2
  refine ⟨fun e he' => ?_, List.pairwise_map.1 b1⟩
  have h1 : e.born ∈ (es.modify d fun e => { e with val := n.sl }).toList.map (·.born) := List.mem_map.2 ⟨e, he', rfl⟩
  rw [hml] at h1
  obtain ⟨e', he'', hb'⟩ := List.mem_map.1 h1
  rw [← hb']
  exact hst.1 e' he''
theorem FlAt.del (h : FlAt w F gm fe) (b p : Int) (ty : TypeId) :
  ∃ w', (Builtin.delete_ #[97, 41] ty #[.map (some gm), plV b p]).run Try.prog w = .ok (.tuple #[]) w' ∧ FlAt w' F gm (delE b p fe) ∧ Only (· = gm) w w' := by
 obtain ⟨es, clock, hm, he, hst⟩ := h.map
 have hkf := findKey_run w b p fe es.toList he
 have hc := check_run w es.isEmpty b p
 have hg : (getObj gm).run Try.prog w = .ok (.map es clock) w := MapKept.run_getObj_map hm
 have hlt := lt_of_block hm
 have hsub := delE_sub b p fe
 have keyOk : ∀ w', Only (· = gm) w w' → ∀ g ∈ delE b p fe, FeOk w' F g := fun w' ho g hg => by
  have hT : KeepT F (· = 1001) w w' := ho.keepT (fun k o t hk' ho' ht => by
   rw [hk', hm] at ho'
   cases ho'
   exact ht)
  exact (h.ok g (hsub.mem hg)).keep hT (by decide) (fun _ h => h)
 cases hf : findI b p fe 0 with
 | none =>
  obtain ⟨_, p2, _⟩ := findI_none ⟨b, p, none, 0, 0, []⟩ fe 0 hf
  refine ⟨{ w with heap := w.heap.setIfInBounds gm (.map es clock) }, ?_, ⟨⟨_, _, heap_set w gm _ hlt, ?_, hst⟩, h.fg, h.keys.sublist hsub, h.far.sublist hsub, keyOk _ (only_set w gm _)⟩, only_set w gm _⟩
  ·unfold Builtin.delete_
   simp [Sem.run_bind, run_underlying Try.underlying97, hg, hc, hkf, hf, MapKept.run_setObj_map _ hm]
  ·rw [show delE b p fe = fe from p2]; exact he
 | some r =>
  obtain ⟨j, v⟩ := r
  obtain ⟨d, rfl, h2, _, h4, f, h5, h6, h7⟩ := findI_some ⟨b, p, none, 0, 0, []⟩ fe 0 j v hf
  rw [Nat.zero_add] at hf
  refine ⟨{ w with heap := w.heap.setIfInBounds gm (.map (es.eraseIdxIfInBounds d) clock) }, ?_, ⟨⟨_, _, heap_set w gm _ hlt, ?_, ?_⟩, h.fg, h.keys.sublist hsub, h.far.sublist hsub, keyOk _ (only_set w gm _)⟩, only_set w gm _⟩
  ·unfold Builtin.delete_
   simp [Sem.run_bind, run_underlying Try.underlying97, hg, hc, hkf, hf, MapKept.run_setObj_map _ hm]
  ·rw [show delE b p fe = fe.eraseIdx d from h4]
   have e1 : (es.eraseIdxIfInBounds d).toList = es.toList.eraseIdx d := by
    unfold Array.eraseIdxIfInBounds
    split
    ·simp
    ·rename_i hh
     rw [List.eraseIdx_of_length_le (by simpa using hh)]
   rw [e1]
   have e2 : ∀ (l : List MapEntry) (d : Nat), (l.eraseIdx d).map (fun e => (e.key, e.val)) = (l.map (fun e => (e.key, e.val))).eraseIdx d := by
    intro l
    induction l with
    | nil => intro d; simp
    | cons a l ih => intro d; cases d with
     | zero => rfl
     | succ d => simp [ih]
   have e3 : ∀ (l : List Fe) (d : Nat), (l.eraseIdx d).map (fun f => (plV f.b f.p, f.sl)) = (l.map (fun f => (plV f.b f.p, f.sl))).eraseIdx d := by
    intro l
    induction l with
    | nil => intro d; simp
    | cons a l ih => intro d; cases d with
     | zero => rfl
     | succ d => simp [ih]
   rw [e2, e3, he]
  ·have e1 : (es.eraseIdxIfInBounds d).toList.Sublist es.toList := by
    unfold Array.eraseIdxIfInBounds
    split
    ·simp [List.eraseIdx_sublist]
    ·exact List.Sublist.refl _
   exact ⟨fun e he' => hst.1 e (e1.mem he'), hst.2.sublist e1⟩
def tailA (a : Option Addr) (c k : Nat) : Option Addr := if c = k then a else a.map (·.add k)
theorem tail_run (w : World) (a : Option Addr) (l c k : Nat) (hk : k ≤ l) (hl : l ≤ c) : (Instr.sliceAt 24 (.slice a l c) (some (.int .i64 (k : Int))) none none).run Try.prog w = .ok (.slice (tailA a c k) (l - k) (c - k)) w := by
 have h1 : (k : Int) ≤ l := by omega
 have h2 : (k : Int) ≤ c := by omega
 have h3 : (0 : Int) ≤ k := by omega
 simp [go_sem, tailA]
 intro h9
 omega
theorem tail_reads {a : Option Addr} {l c k : Nat} {zs : List Int} (h : Reads w a l zs) (hk : k ≤ l) (hl : l ≤ c) : Reads w (tailA a c k) (l - k) (zs.drop k) := by
 have hlen := h.1
 by_cases h0 : l - k = 0
 ·rw [h0]
  exact ⟨by simp; omega, fun x hx => h.2.1 x (List.mem_of_mem_drop hx), fun _ => rfl, fun _ _ i hi => absurd hi (Nat.not_lt_zero _)⟩
 ·obtain ⟨b, off, rfl, hb, hc⟩ := h.pos (by omega)
  unfold tailA
  rw [if_neg (by omega)]
  refine ⟨by simp; omega, fun x hx => h.2.1 x (List.mem_of_mem_drop hx), by simp, fun x hx i hi => ?_⟩
  simp only [Option.map_some] at hx
  cases hx
  rw [plain_add, plain_add]
  have := hc (k + i) (by omega)
  rw [← Nat.add_assoc] at this
  rw [this]
  simp [List.getD_eq_getElem?_getD]
def rsP (L : Nat) (k : Int) (m : List Int) (f : Int) (i : Nat) (bits : List Int) : List Int :=
 if k = 0 then List.replicate L 255 else riseL bits (m.drop (min (i * L) m.length)) f L
theorem or_ones {m : Int} (h : 0 ≤ m ∧ m ≤ 255) : bits .or .u8 255 m = 255 := by
 obtain ⟨n, rfl, hn⟩ := nat_of h
 have e : ∀ n, n < 256 → bits .or .u8 255 ((n : Nat) : Int) = 255 := by decide +kernel
 exact e n hn
theorem rise_ones (L : Nat) (m : List Int) (f : Int) (hm : ∀ x ∈ m, 0 ≤ x ∧ x ≤ 255) (hf : 0 ≤ f ∧ f ≤ 255) : ∀ k, k ≤ L → riseL (List.replicate L 255) m f k = List.replicate k 255
 | 0, _ => rfl
 | k + 1, hk => by
  rw [riseL, rise_ones L m f hm hf k (by omega), List.replicate_succ']
  congr 1
  have e : (List.replicate L (255 : Int)).getD k 0 = 255 := by rw [List.getD_eq_getElem?_getD, List.getElem?_replicate, if_pos (by omega)]; rfl
  rw [e, or_ones (mk_range hm hf k)]
theorem risen_nil (p : Nat) (w : World) (n c : Nat) (i : Int) (fa fk : Int) (ma : Option Addr) (ml mc : Nat) (ff : Int) :
  Calls Try.prog 104 #[.pointer (some ⟨p, 0, none⟩), .slice none n c, .int .i64 i, .agg #[.int .i64 fa, .int .i64 fk, .slice ma ml mc, .int .u8 ff]] w fun e w' => e = .returned (.slice none 0 0) ∧ Below w.heap.size w w' := by
 have hnil := fun w : World => _root_.Go.run_eql_slice_nil (P := Try.prog) w 24 5 none n c Try.underlying24
 go_enter Try.func104, Try.ntmps104
 go_wp2
 go_ret
 exact ⟨rfl, below_alloc _ _⟩
theorem risen_ok (p : Nat) (w : World) (a : Addr) (n c : Nat) (i : Int) (fa : Int) (ma : Option Addr) (ml mc : Nat) (ff : Int) :
  Calls Try.prog 104 #[.pointer (some ⟨p, 0, none⟩), .slice (some a) n c, .int .i64 i, .agg #[.int .i64 fa, .int .i64 0, .slice ma ml mc, .int .u8 ff]] w fun e w' => e = .returned (.slice none 0 0) ∧ Below w.heap.size w w' := by
 have hnil := fun w : World => _root_.Go.run_eql_slice_nil (P := Try.prog) w 24 5 (some a) n c Try.underlying24
 go_enter Try.func104, Try.ntmps104
 go_wp2
 go_ret
 exact ⟨rfl, below_alloc _ _⟩
theorem r3_keep {p g : Nat} {C : Ch} {ma : Option Addr} {ml mc : Nat} {ff : Int} {u u' : World} (h : u.cell? ⟨p, 0, none⟩ = some (.int .i64 (C.B : Int)) ∧ u.cell? ⟨p, 1, none⟩ = some (.int .i64 (C.P : Int)) ∧ u.cell? ⟨p, 2, none⟩ = some (.int .i64 (C.S : Int)) ∧ u.cell? ⟨g, 2, none⟩ = some (.slice ma ml mc) ∧ u.cell? ⟨g, 3, none⟩ = some (.int .u8 ff)) (hb : Below u.heap.size u u') :
  u'.cell? ⟨p, 0, none⟩ = some (.int .i64 (C.B : Int)) ∧ u'.cell? ⟨p, 1, none⟩ = some (.int .i64 (C.P : Int)) ∧ u'.cell? ⟨p, 2, none⟩ = some (.int .i64 (C.S : Int)) ∧ u'.cell? ⟨g, 2, none⟩ = some (.slice ma ml mc) ∧ u'.cell? ⟨g, 3, none⟩ = some (.int .u8 ff) := by
 obtain ⟨h0, h1, h2, h3, h4⟩ := h
 exact ⟨(hb.cell (block_lt_of_cell h0)).trans h0, (hb.cell (block_lt_of_cell h1)).trans h1, (hb.cell (block_lt_of_cell h2)).trans h2, (hb.cell (block_lt_of_cell h3)).trans h3, (hb.cell (block_lt_of_cell h4)).trans h4⟩
theorem risen_any (w : World) (p : Nat) (F : Nat → Prop) (C : Ch) (x : Bx) (bs : List Bc) (fe : List Fe) (h : CAt w p F C x bs fe) (hS : 1 ≤ C.S ∧ C.S ≤ 8) (a : Addr) (c i : Nat) (hi : i ≤ 256) (zs : List Int) (hz : Reads w (some a) (pgB C.S) zs) (fa fk : Int) (ma : Option Addr) (ml mc : Nat) (ff : Int) (fm : List Int) (hk : (fk == 0) = false) (hm : MaskOk w F ma ml fm) (hmc : ml ≤ mc) :
  Calls Try.prog 104 #[.pointer (some ⟨p, 0, none⟩), .slice (some a) (pgB C.S) c, .int .i64 (i : Int), .agg #[.int .i64 fa, .int .i64 fk, .slice ma ml mc, .int .u8 ff]] w fun e w' => ∃ g cr, e = .returned (.slice (some ⟨g, 0, none⟩) (pgB C.S) cr) ∧ Own w' w.heap.size g (pgB C.S) cr (riseL zs (fm.drop (min (i * pgB C.S) fm.length)) ff (pgB C.S)) ∧ Below w.heap.size w w' := by
 have hL := pgB_le hS.2
 obtain ⟨L, hLe⟩ : ∃ L, pgB C.S = L := ⟨_, rfl⟩
 rw [hLe] at hL hz ⊢
 have HL := J hLe
 clear hLe
 have hml : fm.length = ml := hm.rd.1
 rw [hml]
 obtain ⟨ah, hah⟩ : ∃ z, z = min (i * L) ml := ⟨_, rfl⟩
 rw [← hah]
 have hmin : ((i : Int) * (L : Int)) = ((i * L : Nat) : Int) := by simp
 have hah2 : ah ≤ ml := by omega
 have hiL : i * L ≤ 544256 := Nat.le_trans (Nat.mul_le_mul hi hL) (by omega)
 have hwr : IntKind.i64.wrap ((i : Int) * (L : Int)) = ((i * L : Nat) : Int) := by rw [hmin]; simp only [IntKind.wrap_i64]; omega
 have N := h.below (below_alloc w (.cells #[.int .i64 fa, .int .i64 fk, .slice ma ml mc, .int .u8 ff] 58))
 have hle := hm.le
 have hnil := fun w : World => _root_.Go.run_eql_slice_nil (P := Try.prog) w 24 5 (some a) L c Try.underlying24
 have htl := fun w : World => tail_run w ma ml mc ah hah2 hmc
 have HM := J hm
 have HZ := J hz
 have HMT := J (tail_reads hm.rd hah2 hmc)
 have HLL : Hid (L ≤ 140737488351232) := by unfold Hid; omega
 have HS : Hid ((w.alloc (.cells #[.int .i64 fa, .int .i64 fk, .slice ma ml mc, .int .u8 ff] 58)).cell? ⟨p, 0, none⟩ = some (.int .i64 (C.B : Int)) ∧ (w.alloc (.cells #[.int .i64 fa, .int .i64 fk, .slice ma ml mc, .int .u8 ff] 58)).cell? ⟨p, 1, none⟩ = some (.int .i64 (C.P : Int)) ∧ (w.alloc (.cells #[.int .i64 fa, .int .i64 fk, .slice ma ml mc, .int .u8 ff] 58)).cell? ⟨p, 2, none⟩ = some (.int .i64 (C.S : Int)) ∧ (w.alloc (.cells #[.int .i64 fa, .int .i64 fk, .slice ma ml mc, .int .u8 ff] 58)).cell? ⟨w.heap.size, 2, none⟩ = some (.slice ma ml mc) ∧ (w.alloc (.cells #[.int .i64 fa, .int .i64 fk, .slice ma ml mc, .int .u8 ff] 58)).cell? ⟨w.heap.size, 3, none⟩ = some (.int .u8 ff)) := by
  have b0 := N.box.c0
  have b1 := N.box.c1
  have b2 := N.box.c2
  rw [N.B] at b0
  rw [N.P] at b1
  rw [N.S] at b2
  obtain ⟨_, _, e2, e3⟩ := cells4 (alloc_new w (.cells #[.int .i64 fa, .int .i64 fk, .slice ma ml mc, .int .u8 ff] 58))
  exact ⟨b0, b1, b2, e2, e3⟩
 have hmn : (if (ml : Int) < (i : Int) * (L : Int) then (ml : Int) else (i : Int) * (L : Int)) = (ah : Int) := by
  rw [hmin]
  split <;> omega
 have HMN := J hmn
 have HAH := J hah
 clear h N hm hz hml hah hmin hmn
 go_enter Try.func104, Try.ntmps104
 go_wp2
 refine wp_region_held_drew (S := (fun u => u.cell? ⟨p, 0, none⟩ = some (.int .i64 (C.B : Int)) ∧ u.cell? ⟨p, 1, none⟩ = some (.int .i64 (C.P : Int)) ∧ u.cell? ⟨p, 2, none⟩ = some (.int .i64 (C.S : Int)) ∧ u.cell? ⟨w.heap.size, 2, none⟩ = some (.slice ma ml mc) ∧ u.cell? ⟨w.heap.size, 3, none⟩ = some (.int .u8 ff))) (by kernel_rfl) (HS.out) fun O => ?_
 refine tk 0 ?_
 refine tk 1 ?_
 refine tk 2 ?_
 refine tk 3 ?_
 refine tk 4 ?_
 refine tk 7 ?_
 refine tk 8 ?_
 refine tk 9 ?_
 refine rd 5 fun K N => ?_
 go_simp
 go_at_call 46
 refine (pageB_any _ _ C.S _ hS.1 hS.2).mono ?_
 rintro e u1 ⟨rfl, b1⟩
 rw [HL.out]
 have HB1 := J (below_trans (drew_below _) b1)
 have hZ := r3_keep HS.out HB1.out
 clear b1
 go_wp2_with fail
 clear O
 refine N.out _ _ hZ fun O => ?_
 clear N K hZ
 try simp only [zz]
 refine tk 6 ?_
 refine tk 10 ?_
 refine tk 11 ?_
 refine td ?_
 clear O
 rw [HMN.out]
 have HB1e := J (below_trans HB1.out (drew_below u1))
 have HB1d := J (below_trans (below_alloc w (.cells #[.int .i64 fa, .int .i64 fk, .slice ma ml mc, .int .u8 ff] 58)) HB1e.out)
 have HSd := J (r3_keep HS.out HB1e.out)
 go_wp2
 refine wp_region_held_drew (S := (fun u => u.cell? ⟨p, 0, none⟩ = some (.int .i64 (C.B : Int)) ∧ u.cell? ⟨p, 1, none⟩ = some (.int .i64 (C.P : Int)) ∧ u.cell? ⟨p, 2, none⟩ = some (.int .i64 (C.S : Int)) ∧ u.cell? ⟨w.heap.size, 2, none⟩ = some (.slice ma ml mc) ∧ u.cell? ⟨w.heap.size, 3, none⟩ = some (.int .u8 ff))) (by kernel_rfl) (HSd.out) fun O => ?_
 refine tk 0 ?_
 refine tk 1 ?_
 refine tk 2 ?_
 refine tk 3 ?_
 refine tk 4 ?_
 refine tk 5 ?_
 refine tk 6 ?_
 refine rd 7 fun K N => ?_
 go_simp
 go_at_call 106
 refine (rise_any (some a) _ c zs (tailA ma mc ah) (ml - ah) (mc - ah) (fm.drop ah) ff _ HLL.out (by have := HM.out.le; omega) (HZ.out.below HB1d.out) (HMT.out.below HB1d.out)).mono ?_
 rintro e u2 ⟨gr, cr, rfl, o2, b2⟩
 have HO2 := J o2
 have HB2 := J (below_trans HB1e.out b2)
 have HB2d := J (below_trans HB1d.out b2)
 have hZ := r3_keep HS.out HB2.out
 clear o2 b2
 go_wp2_with fail
 clear O
 refine N.out _ _ hZ fun O => ?_
 clear N K hZ
 try simp only [zz]
 refine tk 8 ?_
 refine td ?_
 clear O
 go_wp2
 go_ret
 exact ⟨gr, cr, rfl, own_base HO2.out HB1d.out.size, HB2d.out⟩
end Go.Proofs.Ytadlkikjfonkgaa
