/-
  SEAT Ytoaahellfflooaa: the reference's Read, in pure words: what it reads is what the program reads.
-/
import Derived.Test.YtoaahellfflooaaTd
namespace Go.Proofs.Ytoaahellfflooaa
open Go.RowKit
set_option linter.unusedVariables false

theorem robj_any (B q : Nat) (zs : List Int) (st : Option (List Int)) (w : World) (hR : RwAt w B q zs st) (hl : zs.length ≤ 140737488355000) (hz : zs ≠ []) :
    Calls Try.prog 15 #[.pointer (some ⟨q, 0, none⟩)] w (ObQ w B q zs (objQ st)) := by
  by_cases hh : (numQ 1 1 (numQ 4 1048575 st).2).1 = 1
  · exact robj_t B q zs st w hR hl hz _ _ _ _ rfl rfl hh
  · exact robj_f B q zs st w hR hl hz _ _ _ _ rfl rfl (beq_eq_false_iff_ne.2 hh)

def timesQ {α : Type} (f : Option (List Int) → α × Option (List Int)) : Nat → List α → Option (List Int) → List α × Option (List Int)
  | 0, acc, st => (acc, st)
  | _ + 1, acc, none => (acc, none)
  | k + 1, acc, some bs => timesQ f k (acc ++ [(f (some bs)).1]) (f (some bs)).2
theorem timesQ_dead {α : Type} (f : Option (List Int) → α × Option (List Int)) (k : Nat) (acc : List α) : timesQ f k acc none = (acc, none) := by cases k <;> rfl
theorem chsQ_times : ∀ (k : Nat) (acc : List Chk) (st : Option (List Int)), chsQ k acc st = timesQ chkQ k acc st
  | 0, _, _ => rfl
  | _ + 1, _, none => rfl
  | k + 1, acc, some bs => by rw [chsQ, timesQ, chsQ_times k]
def blkQ (st : Option (List Int)) : Blk × Option (List Int) :=
  (⟨(numQ 1 6 st).1, (numQ 6 281474976710655 (numQ 1 6 st).2).1, (numQ 1 1 (numQ 6 281474976710655 (numQ 1 6 st).2).2).1 == 1, (numQ 2 256 (numQ 1 1 (numQ 6 281474976710655 (numQ 1 6 st).2).2).2).1⟩, (numQ 2 256 (numQ 1 1 (numQ 6 281474976710655 (numQ 1 6 st).2).2).2).2)

theorem numQ_live {n : Nat} {m v : Int} {st : Option (List Int)} {r : List Int} (h : numQ n m st = (v, some r)) : ∃ bs, st = some bs ∧ numR n bs = some (v, r) ∧ v ≤ m := by
  cases st with
  | none => cases h
  | some bs =>
    refine ⟨bs, rfl, ?_⟩
    by_cases h1 : n ≤ bs.length ∧ getL bs 0 n ≤ m
    · rw [show numQ n m (some bs) = (getL bs 0 n, some (bs.drop n)) from if_pos h1] at h
      cases h
      exact ⟨if_pos h1.1, h1.2⟩
    · rw [show numQ n m (some bs) = (0, none) from if_neg h1] at h
      cases h
theorem numQ_of {n : Nat} {m v : Int} {bs r : List Int} (h : numR n bs = some (v, r)) (hm : v ≤ m) : numQ n m (some bs) = (v, some r) := by
  have h1 := numR_some h
  rw [h1.2.1, h1.2.2]
  exact if_pos ⟨h1.1, by rw [← h1.2.1]; exact hm⟩
theorem pair_eta {α β : Type} {x : α × β} {b : β} (h : x.2 = b) : x = (x.1, b) := by rw [← h]
theorem placeQ_live {p : Int × Int} {st : Option (List Int)} {r : List Int} (h : placeQ st = (p, some r)) : ∃ bs, st = some bs ∧ placeR bs = some (p, r) := by
  have h1 : _ = p := congrArg Prod.fst h
  have h2 : _ = some r := congrArg Prod.snd h
  obtain ⟨b2, e2, n2, _⟩ := numQ_live (pair_eta h2)
  obtain ⟨b1, e1, n1, _⟩ := numQ_live (pair_eta e2)
  refine ⟨b1, e1, ?_⟩
  unfold placeR
  rw [n1]; simp only; rw [n2]; simp only
  rw [← h1]; rfl
theorem placeQ_of {p : Int × Int} {bs r : List Int} (h : placeR bs = some (p, r)) (hp : plOk p = true) : placeQ (some bs) = (p, some r) := by
  simp only [plOk, Bool.and_eq_true] at hp
  have p1 := rg_iff.1 hp.1
  have p2 := rg_iff.1 hp.2
  unfold placeR at h
  split at h
  · cases h
  · rename_i a r1 h1
    split at h
    · cases h
    · rename_i b r2 h2
      cases h
      unfold placeQ
      rw [numQ_of h1 p1.2]; simp only; rw [numQ_of h2 p2.2]
theorem chkQ_live {c : Chk} {st : Option (List Int)} {r : List Int} (h : chkQ st = (c, some r)) : ∃ bs, st = some bs ∧ chkR bs = some (c, r) := by
  have h1 : _ = c := congrArg Prod.fst h
  have h2 : _ = some r := congrArg Prod.snd h
  obtain ⟨b3, e3, n3, _⟩ := numQ_live (pair_eta h2)
  obtain ⟨b2, e2, n2⟩ := placeQ_live (pair_eta e3)
  obtain ⟨b1, e1, n1, _⟩ := numQ_live (pair_eta e2)
  refine ⟨b1, e1, ?_⟩
  unfold chkR
  rw [n1]; simp only; rw [n2]; simp only; rw [n3]; simp only
  rw [← h1]; rfl
def chkIn (c : Chk) : Prop := c.no ≤ 1048575 ∧ plOk c.at_ = true ∧ c.n ≤ 2048
theorem chkQ_of {c : Chk} {bs r : List Int} (h : chkR bs = some (c, r)) (hc : chkIn c) : chkQ (some bs) = (c, some r) := by
  unfold chkR at h
  split at h
  · cases h
  · rename_i a r1 h1
    split at h
    · cases h
    · rename_i p r2 h2
      split at h
      · cases h
      · rename_i n r3 h3
        cases h
        unfold chkQ
        rw [numQ_of h1 hc.1]; simp only; rw [placeQ_of h2 hc.2.1]; simp only; rw [numQ_of h3 hc.2.2]
theorem flag_num {v : Bool} {bs r : List Int} (h : flagR bs = some (v, r)) : ∃ x, numR 1 bs = some (x, r) ∧ x ≤ 1 ∧ v = (x == 1) := by
  unfold flagR at h
  split at h
  · cases h
  · rename_i x r1 h1
    split at h
    · cases h
    · obtain ⟨e1, rfl⟩ := Prod.mk.inj (Option.some.inj h)
      exact ⟨x, h1, by omega, e1.symm⟩
theorem flag_of {x : Int} {bs r : List Int} (h : numR 1 bs = some (x, r)) (hx : x ≤ 1) : flagR bs = some (x == 1, r) := by
  unfold flagR
  rw [h]; simp only; rw [if_neg (by omega)]
theorem blkQ_live {c : Blk} {st : Option (List Int)} {r : List Int} (h : blkQ st = (c, some r)) : ∃ bs, st = some bs ∧ blkR bs = some (c, r) := by
  have h1 : _ = c := congrArg Prod.fst h
  have h2 : _ = some r := congrArg Prod.snd h
  obtain ⟨b4, e4, n4, _⟩ := numQ_live (pair_eta h2)
  obtain ⟨b3, e3, n3, m3⟩ := numQ_live (pair_eta e4)
  obtain ⟨b2, e2, n2, _⟩ := numQ_live (pair_eta e3)
  obtain ⟨b1, e1, n1, _⟩ := numQ_live (pair_eta e2)
  refine ⟨b1, e1, ?_⟩
  unfold blkR
  rw [n1]; simp only; rw [n2]; simp only; rw [flag_of n3 m3]; simp only; rw [n4]; simp only
  rw [← h1]; rfl
theorem blkQ_of {c : Blk} {bs r : List Int} (h : blkR bs = some (c, r)) (hc : blkOk c = true) : blkQ (some bs) = (c, some r) := by
  simp only [blkOk, Bool.and_eq_true, decide_eq_true_eq] at hc
  have c1 := rg_iff.1 hc.1
  have c2 := rg_iff.1 hc.2.2
  unfold blkR at h
  split at h
  · cases h
  · rename_i a r1 h1
    split at h
    · cases h
    · rename_i b r2 h2
      split at h
      · cases h
      · rename_i v r3 h3
        split at h
        · cases h
        · rename_i d r4 h4
          cases h
          obtain ⟨x, hx, hx1, rfl⟩ := flag_num h3
          unfold blkQ
          rw [numQ_of h1 c1.2]; simp only; rw [numQ_of h2 hc.2.1]; simp only; rw [numQ_of hx hx1]; simp only; rw [numQ_of h4 c2.2]
theorem timesQ_live {α : Type} {f : Option (List Int) → α × Option (List Int)} {rd : List Int → Option (α × List Int)} (hf : ∀ st v r, f st = (v, some r) → ∃ bs, st = some bs ∧ rd bs = some (v, r)) :
    ∀ (k : Nat) (acc l : List α) (st : Option (List Int)) (r : List Int), timesQ f k acc st = (l, some r) → ∃ bs, st = some bs ∧ timesR rd k acc bs = some (l, r)
  | 0, acc, l, st, r, h => by cases h; exact ⟨r, rfl, rfl⟩
  | k + 1, acc, l, none, r, h => by cases h
  | k + 1, acc, l, some bs, r, h => by
    rw [timesQ] at h
    obtain ⟨b1, e1, h1⟩ := timesQ_live hf k _ _ _ _ h
    obtain ⟨b0, e0, h0⟩ := hf _ _ _ (pair_eta e1)
    cases e0
    exact ⟨bs, rfl, by rw [timesR, h0]; exact h1⟩
theorem times_mem {α : Type} {rd : List Int → Option (α × List Int)} : ∀ (k : Nat) (acc l : List α) (bs r : List Int), timesR rd k acc bs = some (l, r) → (∀ x ∈ acc, x ∈ l) ∧ l.length = acc.length + k
  | 0, acc, l, bs, r, h => by cases h; exact ⟨fun x hx => hx, rfl⟩
  | k + 1, acc, l, bs, r, h => by
    rw [timesR] at h
    split at h
    · cases h
    · rename_i x r1 h1
      have h2 := times_mem k _ _ _ _ h
      refine ⟨fun y hy => h2.1 y (List.mem_append_left _ hy), ?_⟩
      rw [h2.2, List.length_append, List.length_singleton]; omega
theorem timesQ_of {α : Type} {f : Option (List Int) → α × Option (List Int)} {rd : List Int → Option (α × List Int)} {P : α → Prop} (hf : ∀ bs v r, rd bs = some (v, r) → P v → f (some bs) = (v, some r)) :
    ∀ (k : Nat) (acc l : List α) (bs r : List Int), timesR rd k acc bs = some (l, r) → (∀ x ∈ l, P x) → timesQ f k acc (some bs) = (l, some r)
  | 0, acc, l, bs, r, h, _ => by cases h; rfl
  | k + 1, acc, l, bs, r, h, hP => by
    rw [timesR] at h
    split at h
    · cases h
    · rename_i x r1 h1
      have hx := (times_mem k _ _ _ _ h).1 x (List.mem_append_right _ (List.mem_singleton.2 rfl))
      rw [timesQ, hf _ _ _ h1 (hP x hx)]
      exact timesQ_of hf k _ _ _ _ h hP
/-- A number of them, then them. -/
def manyQ {α : Type} (f : Option (List Int) → α × Option (List Int)) (m : Int) (st : Option (List Int)) : List α × Option (List Int) := timesQ f (numQ 4 m st).1.toNat [] (numQ 4 m st).2
theorem manyQ_live {α : Type} {f : Option (List Int) → α × Option (List Int)} {rd : List Int → Option (α × List Int)} (hf : ∀ st v r, f st = (v, some r) → ∃ bs, st = some bs ∧ rd bs = some (v, r)) {m : Int} {l : List α} {st : Option (List Int)} {r : List Int} (h : manyQ f m st = (l, some r)) : ∃ bs, st = some bs ∧ manyR rd bs = some (l, r) := by
  obtain ⟨b1, e1, h1⟩ := timesQ_live hf _ _ _ _ _ h
  obtain ⟨b0, e0, h0, _⟩ := numQ_live (pair_eta e1)
  exact ⟨b0, e0, by rw [many_some h0]; exact h1⟩
theorem manyQ_of {α : Type} {f : Option (List Int) → α × Option (List Int)} {rd : List Int → Option (α × List Int)} {P : α → Prop} (hf : ∀ bs v r, rd bs = some (v, r) → P v → f (some bs) = (v, some r)) {m : Int} {l : List α} {bs r : List Int} (h : manyR rd bs = some (l, r)) (hP : ∀ x ∈ l, P x) (hm : (l.length : Int) ≤ m) (hm0 : 0 ≤ m) : manyQ f m (some bs) = (l, some r) := by
  unfold manyR at h
  split at h
  · cases h
  · rename_i n r1 h1
    have hl := (times_mem _ _ _ _ _ h).2
    simp only [List.length_nil, Nat.zero_add] at hl
    have hn : n ≤ m := by omega
    unfold manyQ
    rw [numQ_of h1 hn]
    exact timesQ_of hf _ _ _ _ _ h hP
theorem takeQ_live {n : Nat} {st : Option (List Int)} {b r : List Int} (h : takeQ n st = (b, some r)) : ∃ bs, st = some bs ∧ rowR n bs = some (b, r) := by
  cases st with
  | none => cases h
  | some bs =>
    refine ⟨bs, rfl, ?_⟩
    by_cases h1 : n ≤ bs.length
    · rw [show takeQ n (some bs) = (bs.take n, some (bs.drop n)) from if_pos h1] at h
      cases h
      exact if_pos h1
    · rw [show takeQ n (some bs) = ([], none) from if_neg h1] at h
      cases h
theorem takeQ_of {n : Nat} {bs b r : List Int} (h : rowR n bs = some (b, r)) : takeQ n (some bs) = (b, some r) := by
  unfold rowR at h
  split at h
  · rename_i h1; cases h; exact if_pos h1
  · cases h
theorem okQ_live {E : Int} {st : Option (List Int)} {r : List Int} (h : okQ E st = some r) : st = some r ∧ E = 0 := by
  cases st with
  | none => cases h
  | some x =>
    by_cases hE : E = 0
    · rw [show okQ E (some x) = some x from if_pos hE] at h; exact ⟨h, hE⟩
    · rw [show okQ E (some x) = none from if_neg hE] at h; cases h
theorem headQ_live {v : Nd × (Int × Int)} {st : Option (List Int)} {r : List Int} (h : headQ st = (v, some r)) : ∃ bs, st = some bs ∧ headR bs = some (v, r) := by
  have h1 : _ = v := congrArg Prod.fst h
  have h2 : _ = some r := congrArg Prod.snd h
  obtain ⟨b4, e4, n4⟩ := placeQ_live (pair_eta h2)
  obtain ⟨e3, hE⟩ := okQ_live e4
  obtain ⟨b2, e2, n2⟩ := takeQ_live (pair_eta e3)
  obtain ⟨b1, e1, n1, _⟩ := numQ_live (pair_eta e2)
  refine ⟨b1, e1, ?_⟩
  unfold headR
  rw [n1]; simp only; rw [n2]; simp only; rw [if_pos hE, n4]; simp only
  rw [← h1]; rfl
theorem headQ_of {v : Nd × (Int × Int)} {bs r : List Int} (h : headR bs = some (v, r)) (hb : Byt bs) (hp : plOk v.2 = true) : headQ (some bs) = (v, some r) := by
  unfold headR at h
  split at h
  · cases h
  · rename_i n r1 h1
    have hn := numR_range h1 hb
    have e1 : (256 : Int) ^ 1 = 256 := by decide
    split at h
    · cases h
    · rename_i b r2 h2
      split at h
      · rename_i hE
        split at h
        · cases h
        · rename_i p r3 h3
          cases h
          unfold headQ
          rw [numQ_of h1 (by omega)]; simp only; rw [takeQ_of h2]; simp only; rw [show okQ (nodeR b).2 (some r2) = some r2 from if_pos hE, placeQ_of h3 hp]
      · cases h
theorem objQ_live {o : Ob} {st : Option (List Int)} {r : List Int} (h : objQ st = (o, some r)) : ∃ bs, st = some bs ∧ objR bs = some (o, r) := by
  unfold objQ at h
  split at h
  · rename_i hh
    have h1 : _ = o := congrArg Prod.fst h
    have h2 : _ = some r := congrArg Prod.snd h
    have hm : manyQ chkQ 65536 (headQ (numQ 1 1 (numQ 4 1048575 st).2).2).2 = (o.ch, some r) := by
      unfold manyQ
      rw [← chsQ_times, ← h1, ← h2]; rfl
    obtain ⟨b3, e3, n3⟩ := manyQ_live (fun st v r h => chkQ_live h) hm
    obtain ⟨b2, e2, n2⟩ := headQ_live (pair_eta e3)
    obtain ⟨b1, e1, n1, m1⟩ := numQ_live (pair_eta e2)
    obtain ⟨b0, e0, n0, _⟩ := numQ_live (pair_eta e1)
    refine ⟨b0, e0, ?_⟩
    rw [hh] at n1
    unfold objR
    rw [n0]; simp only; rw [flag_of n1 (by omega)]
    show (match headR b2 with | none => none | some ((nd, p), r3) => match manyR chkR r3 with | none => none | some (ch, r4) => some ((⟨_, true, nd, p, ch⟩ : Ob), r4)) = _
    rw [n2]; simp only; rw [n3]; simp only
    rw [← h1]; rfl
  · rename_i hh
    have h1 : _ = o := congrArg Prod.fst h
    have h2 : _ = some r := congrArg Prod.snd h
    have hm : manyQ chkQ 65536 (numQ 1 1 (numQ 4 1048575 st).2).2 = (o.ch, some r) := by
      unfold manyQ
      rw [← chsQ_times, ← h1, ← h2]; rfl
    obtain ⟨b3, e3, n3⟩ := manyQ_live (fun st v r h => chkQ_live h) hm
    obtain ⟨b1, e1, n1, m1⟩ := numQ_live (pair_eta e3)
    obtain ⟨b0, e0, n0, _⟩ := numQ_live (pair_eta e1)
    refine ⟨b0, e0, ?_⟩
    unfold objR
    rw [n0]; simp only; rw [flag_of n1 (by omega), show ((numQ 1 1 (numQ 4 1048575 st).2).1 == 1) = false from beq_eq_false_iff_ne.2 hh]
    show (match manyR chkR b3 with | none => none | some (ch, r3) => some ((⟨_, false, Nd.zero, (0, 0), ch⟩ : Ob), r3)) = _
    rw [n3]; simp only
    rw [← h1]; rfl
def obIn (o : Ob) : Prop := o.id ≤ 1048575 ∧ (o.hd = true → plOk o.pl = true) ∧ (∀ c ∈ o.ch, chkIn c) ∧ o.ch.length ≤ 65536
theorem objQ_of {o : Ob} {bs r : List Int} (h : objR bs = some (o, r)) (hb : Byt bs) (ho : obIn o) : objQ (some bs) = (o, some r) := by
  obtain ⟨i1, i2, i3, i4⟩ := ho
  unfold objR at h
  split at h
  · cases h
  · rename_i id r1 h1
    have hb1 := byt_num h1 hb
    split at h
    · cases h
    · rename_i r2 h2
      obtain ⟨x, hx, hx1, hx2⟩ := flag_num h2
      have hx0 : ¬ x = 1 := by intro e; rw [e] at hx2; cases hx2
      split at h
      · cases h
      · rename_i ch r3 h3
        cases h
        have hm := manyQ_of (fun bs v r h hp => chkQ_of h hp) h3 i3 (m := 65536) (by simp only at i4; omega) (by omega)
        unfold manyQ at hm
        rw [← chsQ_times] at hm
        unfold objQ
        rw [numQ_of h1 i1]; simp only; rw [numQ_of hx hx1]; simp only; rw [if_neg hx0]; unfold tailQ; simp only; rw [hm]
    · rename_i r2 h2
      obtain ⟨x, hx, hx1, hx2⟩ := flag_num h2
      have hx0 : x = 1 := by simpa using hx2.symm
      subst hx0
      split at h
      · cases h
      · rename_i nd p r3 h3
        split at h
        · cases h
        · rename_i ch r4 h4
          cases h
          have hm := manyQ_of (fun bs v r h hp => chkQ_of h hp) h4 i3 (m := 65536) (by simp only at i4; omega) (by omega)
          unfold manyQ at hm
          rw [← chsQ_times] at hm
          unfold objQ
          rw [numQ_of h1 i1]; simp only; rw [numQ_of hx hx1]; simp only [if_true]; rw [headQ_of h3 (byt_num hx hb1) (i2 rfl)]; unfold tailQ; simp only; rw [hm]
/-- The whole. -/
def stQ (zs : List Int) : St × Option (List Int) :=
  let n1 := numQ 8 281474976710655 (some zs)
  let n2 := numQ 8 281474976710656 n1.2
  let n3 := numQ 4 4096 n2.2
  let n4 := numQ 4 4096 n3.2
  let b := manyQ blkQ 4096 n4.2
  let o := manyQ objQ 1048575 b.2
  (⟨n1.1, n2.1, n3.1 - 1, n4.1 - 1, b.1, o.1⟩, o.2)
theorem stQ_live {zs r : List Int} {s : St} (h : stQ zs = (s, some r)) : stR zs = some (s, r) := by
  have h1 : _ = s := congrArg Prod.fst h
  have h2 : _ = some r := congrArg Prod.snd h
  obtain ⟨b6, e6, n6⟩ := manyQ_live (fun st v r h => objQ_live h) (pair_eta h2)
  obtain ⟨b5, e5, n5⟩ := manyQ_live (fun st v r h => blkQ_live h) (pair_eta e6)
  obtain ⟨b4, e4, n4, _⟩ := numQ_live (pair_eta e5)
  obtain ⟨b3, e3, n3, _⟩ := numQ_live (pair_eta e4)
  obtain ⟨b2, e2, n2, _⟩ := numQ_live (pair_eta e3)
  obtain ⟨b1, e1, n1, _⟩ := numQ_live (pair_eta e2)
  cases e1
  unfold stR
  rw [n1]; simp only; rw [n2]; simp only; rw [n3]; simp only; rw [n4]; simp only; rw [n5]; simp only; rw [n6]; simp only
  rw [← h1]; rfl
theorem chL_all : ∀ (l : List Chk) (a : Int), chL a l = true → ∀ c ∈ l, chkIn c
  | [], _, _, c, hc => by cases hc
  | x :: r, a, h, c, hc => by
    simp only [chL, Bool.and_eq_true] at h
    obtain ⟨h1, h2, h3, h4⟩ := h
    rcases List.mem_cons.1 hc with rfl | hc
    · exact ⟨(rg_iff.1 h1).2, h2, (rg_iff.1 h3).2⟩
    · exact chL_all r _ h4 c hc
theorem obL_all : ∀ (l : List Ob) (a : Int), obL a l = true → ∀ o ∈ l, obIn o
  | [], _, _, o, ho => by cases ho
  | x :: r, a, h, o, ho => by
    simp only [obL, Bool.and_eq_true] at h
    obtain ⟨h1, h2, h3, h4⟩ := h
    rcases List.mem_cons.1 ho with rfl | ho
    · simp only [chsOk, Bool.and_eq_true, decide_eq_true_eq] at h3
      refine ⟨(rg_iff.1 h1).2, fun hh => ?_, chL_all _ _ h3.1, h3.2⟩
      unfold hdOk at h2
      rw [hh, if_pos rfl] at h2
      simp only [Bool.and_eq_true] at h2
      exact h2.2.2
    · exact obL_all r _ h4 o ho
theorem times_byt {α : Type} {rd : List Int → Option (α × List Int)} {f : Option (List Int) → α × Option (List Int)} {P : α → Prop} (hrd : ∀ bs v r, Byt bs → rd bs = some (v, r) → Byt r) (hf : ∀ bs v r, Byt bs → rd bs = some (v, r) → P v → f (some bs) = (v, some r)) :
    ∀ (k : Nat) (acc l : List α) (bs r : List Int), Byt bs → timesR rd k acc bs = some (l, r) → (∀ x ∈ l, P x) → timesQ f k acc (some bs) = (l, some r)
  | 0, acc, l, bs, r, _, h, _ => by cases h; rfl
  | k + 1, acc, l, bs, r, hb, h, hP => by
    rw [timesR] at h
    split at h
    · cases h
    · rename_i x r1 h1
      have hx := (times_mem k _ _ _ _ h).1 x (List.mem_append_right _ (List.mem_singleton.2 rfl))
      rw [timesQ, hf _ _ _ hb h1 (hP x hx)]
      exact times_byt hrd hf k _ _ _ _ (hrd _ _ _ hb h1) h hP
theorem flag_byt {v : Bool} {bs r : List Int} (h : flagR bs = some (v, r)) (hb : Byt bs) : Byt r := by
  obtain ⟨x, hx, _, _⟩ := flag_num h; exact byt_num hx hb
theorem place_byt {v : Int × Int} {bs r : List Int} (h : placeR bs = some (v, r)) (hb : Byt bs) : Byt r := by
  unfold placeR at h
  split at h
  · cases h
  · rename_i h1
    split at h
    · cases h
    · rename_i h2
      cases h; exact byt_num h2 (byt_num h1 hb)
theorem chk_byt {v : Chk} {bs r : List Int} (h : chkR bs = some (v, r)) (hb : Byt bs) : Byt r := by
  unfold chkR at h
  split at h
  · cases h
  · rename_i h1
    split at h
    · cases h
    · rename_i h2
      split at h
      · cases h
      · rename_i h3
        cases h; exact byt_num h3 (place_byt h2 (byt_num h1 hb))
theorem blk_byt {v : Blk} {bs r : List Int} (h : blkR bs = some (v, r)) (hb : Byt bs) : Byt r := by
  unfold blkR at h
  split at h
  · cases h
  · rename_i h1
    split at h
    · cases h
    · rename_i h2
      split at h
      · cases h
      · rename_i h3
        split at h
        · cases h
        · rename_i h4
          cases h; exact byt_num h4 (flag_byt h3 (byt_num h2 (byt_num h1 hb)))
theorem timesR_byt {α : Type} {rd : List Int → Option (α × List Int)} (hrd : ∀ bs v r, Byt bs → rd bs = some (v, r) → Byt r) : ∀ (k : Nat) (acc l : List α) (bs r : List Int), Byt bs → timesR rd k acc bs = some (l, r) → Byt r
  | 0, acc, l, bs, r, hb, h => by cases h; exact hb
  | k + 1, acc, l, bs, r, hb, h => by
    rw [timesR] at h
    split at h
    · cases h
    · rename_i x r1 h1
      exact timesR_byt hrd k _ _ _ _ (hrd _ _ _ hb h1) h
theorem many_byt {α : Type} {rd : List Int → Option (α × List Int)} (hrd : ∀ bs v r, Byt bs → rd bs = some (v, r) → Byt r) {l : List α} {bs r : List Int} (h : manyR rd bs = some (l, r)) (hb : Byt bs) : Byt r := by
  unfold manyR at h
  split at h
  · cases h
  · rename_i n r1 h1
    exact timesR_byt hrd _ _ _ _ _ (byt_num h1 hb) h
theorem head_byt {v : Nd × (Int × Int)} {bs r : List Int} (h : headR bs = some (v, r)) (hb : Byt bs) : Byt r := by
  unfold headR at h
  split at h
  · cases h
  · rename_i n r1 h1
    have hb1 := byt_num h1 hb
    split at h
    · cases h
    · rename_i b r2 h2
      have hb2 : Byt r2 := by
        unfold rowR at h2
        split at h2
        · cases h2; exact fun x hx => hb1 x (List.mem_of_mem_drop hx)
        · cases h2
      split at h
      · split at h
        · cases h
        · rename_i p r3 h3
          cases h; exact place_byt h3 hb2
      · cases h
theorem obj_byt {v : Ob} {bs r : List Int} (hb : Byt bs) (h : objR bs = some (v, r)) : Byt r := by
  have hc : ∀ bs (v : Chk) r, Byt bs → chkR bs = some (v, r) → Byt r := fun bs v r hb h => chk_byt h hb
  unfold objR at h
  split at h
  · cases h
  · rename_i id r1 h1
    have l1 := byt_num h1 hb
    split at h
    · cases h
    · rename_i r2 h2
      split at h
      · cases h
      · rename_i ch r3 h3
        cases h
        exact many_byt hc h3 (flag_byt h2 l1)
    · rename_i r2 h2
      split at h
      · cases h
      · rename_i nd p r3 h3
        split at h
        · cases h
        · rename_i ch r4 h4
          cases h
          exact many_byt hc h4 (head_byt h3 (flag_byt h2 l1))
theorem stQ_of {zs r : List Int} {s : St} (h : stR zs = some (s, r)) (hb : Byt zs) (hm : mayS s = true) : stQ zs = (s, some r) := by
  unfold stR at h
  split at h
  · cases h
  rename_i fl r1 h1
  split at h
  · cases h
  rename_i nx r2 h2
  split at h
  · cases h
  rename_i cu r3 h3
  split at h
  · cases h
  rename_i la r4 h4
  split at h
  · cases h
  rename_i bl r5 h5
  split at h
  · cases h
  rename_i os r6 h6
  cases h
  simp only [mayS, Bool.and_eq_true, decide_eq_true_eq, List.all_eq_true] at hm
  obtain ⟨⟨m1, m2, m3, m4, m5⟩, m6, m7⟩ := hm
  have m4 := rg_iff.1 m4
  have m5 := rg_iff.1 m5
  have hcap := obL_cap os 1 (by omega) m7
  have hb5 : Byt r5 := many_byt (fun bs v r hb h => blk_byt h hb) h5 (byt_num h4 (byt_num h3 (byt_num h2 (byt_num h1 hb))))
  have hbl := manyQ_of (fun bs v r h hp => blkQ_of h hp) h5 m6 (m := 4096) (by omega) (by omega)
  have hol : manyQ objQ 1048575 (some r5) = (os, some r) := by
    unfold manyR at h6
    split at h6
    · cases h6
    · rename_i n r7 h7
      have hl := (times_mem _ _ _ _ _ h6).2
      simp only [List.length_nil, Nat.zero_add] at hl
      unfold manyQ
      rw [numQ_of h7 (by omega)]
      exact times_byt (P := obIn) (fun bs v r hb h => obj_byt hb h) (fun bs v r hb h hp => objQ_of h hb hp) _ _ _ _ _ (byt_num h7 hb5) h6 (obL_all _ _ m7)
  unfold stQ
  rw [numQ_of h1 m1]; simp only; rw [numQ_of h2 m2]; simp only; rw [numQ_of h3 (by omega)]; simp only; rw [numQ_of h4 (by omega)]; simp only; rw [hbl]; simp only; rw [hol]
end Go.Proofs.Ytoaahellfflooaa
