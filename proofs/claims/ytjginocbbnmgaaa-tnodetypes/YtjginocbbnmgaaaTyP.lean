/-
  SEAT Ytjginocbbnmgaaa: trees of places and of texts beside one another.
-/
import Derived.Test.YtjginocbbnmgaaaPlY
import Derived.Test.YtjginocbbnmgaaaStY
import Derived.Test.YtjginocbbnmgaaaToD
namespace Go.Proofs.Ytjginocbbnmgaaa
open Go.RowKit
set_option linter.unusedVariables false

theorem may_key {K : Nat} (h : K < 1048576) : mayB (K : Int) = true := decide_eq_true ⟨by omega, by omega⟩
/-- One more, if it is new. -/
def bump (b : Bool) (n : Int) : Int := if b = true then n else n + 1
namespace Plc
theorem NodeOn.apart {w : World} {E : Nat → Prop} [DecidablePred E] {gu : Nat} {cu : Array Value} {tu : TypeId} (hu : w.heap[gu]? = some (.cells cu tu (0, 0))) (n1 : 101 ≠ tu) (n2 : 47 ≠ tu) : ∀ {l : Nat} {o : Option Nat} {M : Mp}, NodeOn (seenH w E) l o M → NodeOn (seenH w (fun i => E i ∨ i = gu)) l o M := by
  have key : ∀ (g : Nat) (cs : Array Value) (t : TypeId), t ≠ tu → seenH w E g = some (.cells cs t (0, 0)) → seenH w (fun i => E i ∨ i = gu) g = some (.cells cs t (0, 0)) := fun g cs t ht h => by
    obtain ⟨h1, h2⟩ := seen_block h
    refine seen_of (fun c => c.elim h1 (fun e => ?_)) h2
    rw [e, hu] at h2
    injection h2 with h2
    injection h2 with _ h3
    exact ht h3.symm
  have kt : ∀ (t : Option Nat) (m : Option (Int × Int)), ThingOn (seenH w E) t m → ThingOn (seenH w (fun i => E i ∨ i = gu)) t m := fun t m h => by
    cases t with
    | none => cases m with
      | none => trivial
      | some x => cases h
    | some g => cases m with
      | none => cases h
      | some x => exact key g _ 47 n2 h
  intro l
  induction l with
  | zero =>
    intro o M h
    cases o with
    | none => exact h
    | some g =>
      obtain ⟨ts, h1, h2, h3, h4⟩ := h
      exact ⟨ts, h1, key g _ 101 n1 h2, fun i hi => kt _ _ (h3 i hi), h4⟩
  | succ l ih =>
    intro o M h
    cases o with
    | none => exact h
    | some g =>
      obtain ⟨bs, h1, h2, h3, h4⟩ := h
      exact ⟨bs, h1, key g _ 101 n1 h2, fun i hi => ih (h3 i hi), h4⟩
theorem TreeOn.other {A B : World} {gt gu h : Nat} {n : Int} {M : Mp} (hT : TreeOn A gt h n M) {cu : Array Value} {tu : TypeId} (hu : A.heap[gu]? = some (.cells cu tu (0, 0))) (n1 : 101 ≠ tu) (n2 : 47 ≠ tu) (hne : gt ≠ gu) (hg : A.grownBy B (some gu)) : TreeOn B gt h n M := by
  obtain ⟨top, h1, h2, h3⟩ := hT.blk
  have hlt := lt_of_block h1
  refine ⟨⟨top, (hg.block gt hlt (fun e => hne (by injection e))).trans h1, h2, fun l hl => ?_⟩, hT.out, hT.h5⟩
  refine (NodeOn.apart hu n1 n2 (h3 l hl)).mono (fun i o hi => ?_)
  obtain ⟨q1, q2⟩ := seen_block hi
  exact seen_of (fun e => q1 (Or.inl e)) ((hg.block i (lt_of_block q2) (fun e => q1 (Or.inr (by injection e)))).trans q2)
theorem TreeOn.below {A B : World} {gt h : Nat} {n : Int} {M : Mp} (hT : TreeOn A gt h n M) (hb : Below A.heap.size A B) : TreeOn B gt h n M := by
  obtain ⟨top, h1, h2, h3⟩ := hT.blk
  exact ⟨⟨top, (hb.block gt (lt_of_block h1)).trans h1, h2, fun l hl => (h3 l hl).mono (shows_below (E := fun i => i = gt) (E' := fun i => i = gt) hb (fun _ _ q => q))⟩, hT.out, hT.h5⟩
theorem put_any (gt h k : Nat) (v : Int × Int) (n : Int) (M : Mp) (w : World) (hT : TreeOn w gt h n M) (hk : k < 1048576) (hn : 0 ≤ n ∧ n < 1099511627776) :
    Calls Try.prog 23 #[.pointer (some ⟨gt, 0, none⟩), .int .i64 (k : Int), .agg #[.int .i64 v.1, .int .i64 v.2]] w fun e w' => ∃ h', e = .returned (.int .i64 0) ∧ TreeOn w' gt h' (bump (M k).isSome n) (upd M k v) ∧ (h ≤ h' ∧ 0 < h' ∧ k < spn h' ∧ (h' = h ∨ h' = 1 ∨ spn (h' - 1) ≤ k)) ∧ w.grownBy w' (some gt) := by
  cases hm : (M k).isSome with
  | true =>
    refine (put_some gt h k v n M w hT hk hn hm).mono ?_
    rintro e w' ⟨h', rfl, t1, p1, p2, p3, p4, p5⟩
    exact ⟨h', rfl, t1, ⟨p1, p2, p3, p4⟩, p5⟩
  | false =>
    refine (put_none gt h k v n M w hT hk hn hm).mono ?_
    rintro e w' ⟨h', rfl, t1, p1, p2, p3, p4, p5⟩
    exact ⟨h', rfl, t1, ⟨p1, p2, p3, p4⟩, p5⟩
end Plc
namespace Str
theorem NodeOn.apart {w : World} {E : Nat → Prop} [DecidablePred E] {gu : Nat} {cu : Array Value} {tu : TypeId} (hu : w.heap[gu]? = some (.cells cu tu (0, 0))) (n1 : 106 ≠ tu) (n2 : 9 ≠ tu) : ∀ {l : Nat} {o : Option Nat} {M : Mp}, NodeOn (seenH w E) l o M → NodeOn (seenH w (fun i => E i ∨ i = gu)) l o M := by
  have key : ∀ (g : Nat) (cs : Array Value) (t : TypeId), t ≠ tu → seenH w E g = some (.cells cs t (0, 0)) → seenH w (fun i => E i ∨ i = gu) g = some (.cells cs t (0, 0)) := fun g cs t ht h => by
    obtain ⟨h1, h2⟩ := seen_block h
    refine seen_of (fun c => c.elim h1 (fun e => ?_)) h2
    rw [e, hu] at h2
    injection h2 with h2
    injection h2 with _ h3
    exact ht h3.symm
  have kt : ∀ (t : Option Nat) (m : Option (ByteArray)), ThingOn (seenH w E) t m → ThingOn (seenH w (fun i => E i ∨ i = gu)) t m := fun t m h => by
    cases t with
    | none => cases m with
      | none => trivial
      | some x => cases h
    | some g => cases m with
      | none => cases h
      | some x => exact key g _ 9 n2 h
  intro l
  induction l with
  | zero =>
    intro o M h
    cases o with
    | none => exact h
    | some g =>
      obtain ⟨ts, h1, h2, h3, h4⟩ := h
      exact ⟨ts, h1, key g _ 106 n1 h2, fun i hi => kt _ _ (h3 i hi), h4⟩
  | succ l ih =>
    intro o M h
    cases o with
    | none => exact h
    | some g =>
      obtain ⟨bs, h1, h2, h3, h4⟩ := h
      exact ⟨bs, h1, key g _ 106 n1 h2, fun i hi => ih (h3 i hi), h4⟩
theorem TreeOn.other {A B : World} {gt gu h : Nat} {n : Int} {M : Mp} (hT : TreeOn A gt h n M) {cu : Array Value} {tu : TypeId} (hu : A.heap[gu]? = some (.cells cu tu (0, 0))) (n1 : 106 ≠ tu) (n2 : 9 ≠ tu) (hne : gt ≠ gu) (hg : A.grownBy B (some gu)) : TreeOn B gt h n M := by
  obtain ⟨top, h1, h2, h3⟩ := hT.blk
  have hlt := lt_of_block h1
  refine ⟨⟨top, (hg.block gt hlt (fun e => hne (by injection e))).trans h1, h2, fun l hl => ?_⟩, hT.out, hT.h5⟩
  refine (NodeOn.apart hu n1 n2 (h3 l hl)).mono (fun i o hi => ?_)
  obtain ⟨q1, q2⟩ := seen_block hi
  exact seen_of (fun e => q1 (Or.inl e)) ((hg.block i (lt_of_block q2) (fun e => q1 (Or.inr (by injection e)))).trans q2)
theorem TreeOn.below {A B : World} {gt h : Nat} {n : Int} {M : Mp} (hT : TreeOn A gt h n M) (hb : Below A.heap.size A B) : TreeOn B gt h n M := by
  obtain ⟨top, h1, h2, h3⟩ := hT.blk
  exact ⟨⟨top, (hb.block gt (lt_of_block h1)).trans h1, h2, fun l hl => (h3 l hl).mono (shows_below (E := fun i => i = gt) (E' := fun i => i = gt) hb (fun _ _ q => q))⟩, hT.out, hT.h5⟩
theorem put_any (gt h k : Nat) (v : ByteArray) (n : Int) (M : Mp) (w : World) (hT : TreeOn w gt h n M) (hk : k < 1048576) (hn : 0 ≤ n ∧ n < 1099511627776) :
    Calls Try.prog 24 #[.pointer (some ⟨gt, 0, none⟩), .int .i64 (k : Int), .string v] w fun e w' => ∃ h', e = .returned (.int .i64 0) ∧ TreeOn w' gt h' (bump (M k).isSome n) (upd M k v) ∧ (h ≤ h' ∧ 0 < h' ∧ k < spn h' ∧ (h' = h ∨ h' = 1 ∨ spn (h' - 1) ≤ k)) ∧ w.grownBy w' (some gt) := by
  cases hm : (M k).isSome with
  | true =>
    refine (put_some gt h k v n M w hT hk hn hm).mono ?_
    rintro e w' ⟨h', rfl, t1, p1, p2, p3, p4, p5⟩
    exact ⟨h', rfl, t1, ⟨p1, p2, p3, p4⟩, p5⟩
  | false =>
    refine (put_none gt h k v n M w hT hk hn hm).mono ?_
    rintro e w' ⟨h', rfl, t1, p1, p2, p3, p4, p5⟩
    exact ⟨h', rfl, t1, ⟨p1, p2, p3, p4⟩, p5⟩
end Str
theorem step_high {h a b k : Nat} (h1 : h ≤ a ∧ 0 < a ∧ k < spn a ∧ (a = h ∨ a = 1 ∨ spn (a - 1) ≤ k)) (h2 : h ≤ b ∧ 0 < b ∧ k < spn b ∧ (b = h ∨ b = 1 ∨ spn (b - 1) ≤ k)) : a = b := by
  rcases Nat.lt_trichotomy a b with q | q | q
  · rcases h2.2.2.2 with h | h | h
    · omega
    · omega
    · have := spn_le (show a ≤ b - 1 by omega)
      omega
  · exact q
  · rcases h1.2.2.2 with h | h | h
    · omega
    · omega
    · have := spn_le (show b ≤ a - 1 by omega)
      omega
/-- A tree of places and one of texts that have the same keys. -/
structure Both (w u : World) (gp gs h : Nat) (n : Int) (P : Plc.Mp) (Q : Str.Mp) : Prop where
  p : Plc.TreeOn u gp h n P
  s : Str.TreeOn u gs h n Q
  keys : ∀ k, (P k).isSome = (Q k).isSome
  bel : Below w.heap.size w u
  lowP : w.heap.size ≤ gp
  lowS : w.heap.size ≤ gs
theorem Both.ne {w u : World} {gp gs h : Nat} {n : Int} {P : Plc.Mp} {Q : Str.Mp} (hB : Both w u gp gs h n P Q) : gp ≠ gs := fun e => by
  obtain ⟨_, h1, _⟩ := hB.p.blk
  obtain ⟨_, h2, _⟩ := hB.s.blk
  rw [e, h2] at h1
  injection h1 with h1
  injection h1 with _ h3
  cases h3
theorem Both.below {w u v : World} {gp gs h : Nat} {n : Int} {P : Plc.Mp} {Q : Str.Mp} (hB : Both w u gp gs h n P Q) (hb : Below u.heap.size u v) : Both w v gp gs h n P Q := ⟨hB.p.below hb, hB.s.below hb, hB.keys, hB.bel.trans (hb.mono hB.bel.size), hB.lowP, hB.lowS⟩
/-- Both have the key k anew. -/
theorem Both.put {w u v x : World} {gp gs h h1 h2 k : Nat} {n : Int} {P : Plc.Mp} {Q : Str.Mp} {a : Int × Int} {b : ByteArray} (hB : Both w u gp gs h n P Q)
    (t1 : Plc.TreeOn v gp h1 (bump (P k).isSome n) (Plc.upd P k a)) (p1 : h ≤ h1 ∧ 0 < h1 ∧ k < spn h1 ∧ (h1 = h ∨ h1 = 1 ∨ spn (h1 - 1) ≤ k)) (g1 : u.grownBy v (some gp))
    (t2 : Str.TreeOn x gs h2 (bump (Q k).isSome n) (Str.upd Q k b)) (p2 : h ≤ h2 ∧ 0 < h2 ∧ k < spn h2 ∧ (h2 = h ∨ h2 = 1 ∨ spn (h2 - 1) ≤ k)) (g2 : v.grownBy x (some gs)) : Both w x gp gs h1 (bump (P k).isSome n) (Plc.upd P k a) (Str.upd Q k b) := by
  have e : h2 = h1 := step_high p2 p1
  rw [e, ← hB.keys k] at t2
  obtain ⟨_, hbS, _⟩ := hB.s.blk
  have hbS' := (g1.block gs (lt_of_block hbS) (fun e => hB.ne (by injection e with e; exact e.symm))).trans hbS
  refine ⟨t1.other hbS' (by decide) (by decide) hB.ne g2, t2, fun j => ?_, keep_new (keep_new hB.bel hB.lowP g1) hB.lowS g2, hB.lowP, hB.lowS⟩
  unfold Plc.upd Str.upd
  split
  · rfl
  · exact hB.keys j
/-- A text of the row, or none. -/
def textAt (ts : List ByteArray) (i : Nat) : ByteArray := ts.getD i ⟨#[]⟩
def ReadsT (w : World) (a : Option Addr) (len : Nat) (ts : List ByteArray) : Prop :=
  ts.length = len ∧ (a = none → len = 0) ∧ ∀ x, a = some x → ∀ i, i < len → w.cell? (x.add i) = some (.string (textAt ts i))
theorem ReadsT.pos {w : World} {a : Option Addr} {len : Nat} {ts : List ByteArray} (h : ReadsT w a len ts) (hp : 0 < len) :
    ∃ b off, a = some ⟨b, off, none⟩ ∧ b < w.heap.size ∧ ∀ i, i < len → w.cell? ⟨b, off + i, none⟩ = some (.string (textAt ts i)) := by
  obtain ⟨hl, hn, hc⟩ := h
  cases a with
  | none => have := hn rfl; omega
  | some x =>
    have h0 := hc x rfl 0 hp
    obtain ⟨b, off, sp⟩ := x
    cases sp with
    | some s =>
      have hadd : (⟨b, off, some s⟩ : Addr).add 0 = ⟨b, off, some s⟩ := by unfold Addr.add; simp
      rw [hadd] at h0
      simp [World.cell?] at h0
      split at h0 <;> cases h0
    | none =>
      refine ⟨b, off, rfl, ?_, fun i hi => by have h1 := hc _ rfl i hi; rw [plain_add] at h1; exact h1⟩
      rw [plain_add] at h0
      unfold World.cell? at h0
      rcases Nat.lt_or_ge b w.heap.size with q | q
      · exact q
      · simp [Array.getElem?_eq_none q] at h0
open Go.ChangeShapes Go.WideShapes Go.ChangeAt Go.Joins in
set_option maxRecDepth 100000 in
theorem open_texts {H : Type} {enc : TypeId × Value → H} {W : World} {base : Nat} {v : Value} {d : DataW H} {p : List MemPlace} (hv : Value.okWide Try.prog W .any base 43 v) (h : DataW.Trod enc Try.prog W 0 (fun _ => true) true 43 v d p) :
    ∃ a len cap ts, v = .slice a len cap ∧ ReadsT W a len ts := by
  obtain ⟨a, len, cap, rfl⟩ := okWide_slice Try.underlying43 hv
  obtain ⟨fuel, hf⟩ := h
  have c9 : Try.prog.cellsOf 9 = 1 := by kernel_rfl
  rcases Deep.open_slice Try.underlying43 hf with ⟨hcs, _⟩ | ⟨x, l, c, m, n, D, Pl, hcs, _, hl, hm, hmm, hx, hcell⟩
  · simp [Value.cells] at hcs
    obtain ⟨rfl, rfl, rfl⟩ := hcs
    exact ⟨none, 0, 0, [], rfl, ⟨rfl, fun _ => rfl, fun _ h => by cases h⟩⟩
  · simp [Value.cells] at hcs
    obtain ⟨rfl, rfl, rfl⟩ := hcs
    have hmc : m = cap := by rw [hmm]; simp
    have each : ∀ i, i < len → ∃ z : ByteArray, W.cell? (x.add i) = some (.string z) := by
      intro i hi
      obtain ⟨cs', h1, h2⟩ := hcell i (by omega)
      rw [c9] at h1
      obtain ⟨_, hlen, hc⟩ := World.cells?_some h1
      match cs', hlen with
      | [v0], _ =>
        obtain ⟨z0, e0, _, _⟩ := DataW.trod_string Try.underlying9 h2
        have h9 := hc 0 (by omega)
        simp at e0
        subst e0
        refine ⟨z0, ?_⟩
        rw [Deep.add_add] at h9
        simpa using h9
    have hch : ∃ ks : Nat → ByteArray, ∀ i, i < len → W.cell? (x.add i) = some (.string (ks i)) := ⟨fun i => if hi : i < len then Classical.choose (each i hi) else ⟨#[]⟩, fun i hi => by
      simp only [dif_pos hi]
      exact Classical.choose_spec (each i hi)⟩
    obtain ⟨ks, hks⟩ := hch
    refine ⟨some x, len, cap, (List.range len).map ks, rfl, ⟨by simp, (fun h => by cases h), fun y hy i hi => ?_⟩⟩
    cases hy
    rw [hks i hi]
    simp [textAt, List.getD_eq_getElem?_getD, hi]
end Go.Proofs.Ytjginocbbnmgaaa
