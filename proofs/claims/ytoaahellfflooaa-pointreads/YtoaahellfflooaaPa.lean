/-
  SEAT Ytoaahellfflooaa: the reader of a row: what gives up, row, number, whole, flag.
-/
import Derived.Test.YtoaahellfflooaaRL
import Derived.WalkLawsBesides
namespace Go.Proofs.Ytoaahellfflooaa
open Go.RowKit
set_option linter.unusedVariables false

theorem hide {p : Prop} (h : p) : Hid p := h
theorem lt_of_block {w : World} {g : Nat} {o : Obj} (h : w.heap[g]? = some o) : g < w.heap.size := (Array.getElem?_eq_some_iff.1 h).1
theorem below_alloc (w : World) (b) : Below w.heap.size w (w.alloc b) := (Below.refl _ _).alloc (Nat.le_refl _) _
theorem set_grown (w : World) (g j : Nat) (v : Value) : w.grownBy (w.setCell ⟨g, j, none⟩ v) (some g) := ⟨rfl, rfl, rfl, by simp, fun k hk hne => heap_setCell_other w ⟨g, j, none⟩ k v (fun e => hne (congrArg some e))⟩
theorem Reads.front {w : World} {a : Option Addr} {len : Nat} {zs : List Int} (h : Reads w a len zs) (m : Nat) (hm : m ≤ len) : Reads w a m (zs.take m) := by
  obtain ⟨h1, h2, h3, h4⟩ := h
  refine ⟨by simp; omega, fun x hx => h2 x (List.mem_of_mem_take hx), fun h => by have := h3 h; omega, fun x hx i hi => ?_⟩
  rw [h4 x hx i (by omega), List.getD_eq_getElem?_getD, List.getD_eq_getElem?_getD, List.getElem?_take_of_lt hi]
theorem Reads.low {w w' : World} {a : Option Addr} {len B : Nat} {zs : List Int} (h : Reads w a len zs) (hlow : ∀ x, a = some x → x.block < B) (hk : Below B w w') : Reads w' a len zs := by
  obtain ⟨h1, h2, h3, h4⟩ := h
  refine ⟨h1, h2, h3, fun x hx i hi => ?_⟩
  rw [hk.cell (show (x.add i).block < B by rw [show (x.add i).block = x.block by unfold Addr.add; split <;> rfl]; exact hlow x hx)]
  exact h4 x hx i hi
theorem blk1_set {w : World} {q : Nat} {a : Value} {t : TypeId} (h : w.heap[q]? = some (.cells #[a] t (0, 0))) (v : Value) : (w.setCell ⟨q, 0, none⟩ v).heap[q]? = some (.cells #[v] t (0, 0)) := heap_setCell_same w q 0 _ _ v h
def Byt (bs : List Int) : Prop := ∀ x ∈ bs, 0 ≤ x ∧ x ≤ 255

/-- What a reader gives up with. -/
abbrev Pnc : Ending := .panicked [{ v := .iface 58 (.agg #[]), recovered := false }]

/-- The reader's box, and what is left. -/
def RdAt (w : World) (B q : Nat) (rest : List Int) : Prop :=
  ∃ b off c, w.heap[q]? = some (.cells #[.slice (some ⟨b, off, none⟩) rest.length c] 61 (0, 0)) ∧ Reads w (some ⟨b, off, none⟩) rest.length rest ∧ rest.length ≤ c ∧ c ≤ 9223372036854775807 ∧ b < B ∧ B ≤ q

theorem RdAt.byt {w : World} {B q : Nat} {rest : List Int} (h : RdAt w B q rest) : Byt rest := by
  obtain ⟨b, off, c, _, h1, _⟩ := h
  exact h1.2.1

theorem RdAt.lt {w : World} {B q : Nat} {rest : List Int} (h : RdAt w B q rest) : B ≤ q ∧ q < w.heap.size := by
  obtain ⟨b, off, c, h0, _, _, _, _, h5⟩ := h
  exact ⟨h5, (Array.getElem?_eq_some_iff.1 h0).1⟩

/-- Behind what changes another block. -/
theorem RdAt.other {w w' : World} {B q : Nat} {r : Option Nat} {rest : List Int} (h : RdAt w B q rest) (hg : w.grownBy w' r) (hq : r ≠ some q) (hB : ∀ i, r = some i → B ≤ i) : RdAt w' B q rest := by
  obtain ⟨b, off, c, h0, h1, h2, h3, h4, h5⟩ := h
  have hlt := (Array.getElem?_eq_some_iff.1 h0).1
  refine ⟨b, off, c, (hg.block q hlt (fun e => hq e.symm)).trans h0, ?_, h2, h3, h4, h5⟩
  exact h1.low (fun x hx => by cases hx; exact h4) ((Below.refl B w).grown hg (by omega) hB)

theorem RdAt.below {w w' : World} {B q : Nat} {rest : List Int} (h : RdAt w B q rest) (hb : Below w.heap.size w w') : RdAt w' B q rest :=
  h.other (r := none) (grown_of hb none) (by simp) (fun i e => by cases e)

theorem RdAt.set {w : World} {B q i j : Nat} {rest : List Int} (h : RdAt w B q rest) (hq : i ≠ q) (hB : B ≤ i) (v : Value) : RdAt (w.setCell ⟨i, j, none⟩ v) B q rest :=
  h.other (set_grown w i j v) (fun e => hq (by cases e; rfl)) (fun k e => by cases e; exact hB)

theorem Reads.drop {w : World} {b off len : Nat} {zs : List Int} (h : Reads w (some ⟨b, off, none⟩) len zs) (j : Nat) (hj : j ≤ len) : Reads w (some ⟨b, off + j, none⟩) (len - j) (zs.drop j) := by
  obtain ⟨h1, h2, _, h4⟩ := h
  refine ⟨by simp; omega, fun x hx => h2 x (List.mem_of_mem_drop hx), (fun h => by cases h), fun x hx i hi => ?_⟩
  cases hx
  have := h4 _ rfl (j + i) (by omega)
  rw [plain_add] at this ⊢
  rw [show off + j + i = off + (j + i) by omega, this]
  simp [List.getD_eq_getElem?_getD]

theorem row_short (B q n : Nat) (rest : List Int) (w : World) (hR : RdAt w B q rest) (hl : rest.length ≤ 140737488355000) (hn : rest.length < n) (hn2 : n ≤ 140737488355000) :
    Calls Try.prog 52 #[.pointer (some ⟨q, 0, none⟩), .int .i64 (n : Int)] w fun e w' => e = Pnc ∧ w' = w := by
  obtain ⟨b, off, c, h0, h1, h2, h3, h4, h5⟩ := hR
  obtain ⟨m, hm⟩ : ∃ m, rest.length = m := ⟨_, rfl⟩
  rw [hm] at h0 hn hl
  have c0 : w.cell? ⟨q, 0, none⟩ = some (.slice (some ⟨b, off, none⟩) m c) := by simp [World.cell?, h0]
  have d1 : (m : Int) < (n : Int) := by omega
  clear h0 h1 h2 h3 h4 h5 hm
  go_enter Try.func52, Try.ntmps52
  go_wp2
  exact ⟨rfl, rfl, rfl⟩

set_option maxHeartbeats 1000000 in
set_option maxRecDepth 100000 in
theorem row_ok (B q n : Nat) (rest : List Int) (w : World) (hR : RdAt w B q rest) (hl : rest.length ≤ 140737488355000) (hn : n ≤ rest.length) :
    Calls Try.prog 52 #[.pointer (some ⟨q, 0, none⟩), .int .i64 (n : Int)] w fun e w' => ∃ b off c, e = .returned (.slice (some ⟨b, off, none⟩) n c) ∧ Reads w' (some ⟨b, off, none⟩) n (rest.take n) ∧ n ≤ c ∧ c ≤ 9223372036854775807 ∧ b < B ∧ RdAt w' B q (rest.drop n) ∧ w.grownBy w' (some q) := by
  have hlt := hR.lt
  obtain ⟨b, off, c, h0, h1, h2, h3, h4, h5⟩ := hR
  obtain ⟨m, hm⟩ : ∃ m, rest.length = m := ⟨_, rfl⟩
  rw [hm] at h0 hn hl h2 h1
  have c0 : w.cell? ⟨q, 0, none⟩ = some (.slice (some ⟨b, off, none⟩) m c) := by simp [World.cell?, h0]
  have f0 : w.frozen? ⟨q, 0, none⟩ = false := by simp [World.frozen?, h0]
  have hBw : B ≤ w.heap.size := by omega
  have key : ∀ o2 : Nat, Reads w (some ⟨b, o2, none⟩) (m - n) (rest.drop n) → RdAt (w.setCell ⟨q, 0, none⟩ (.slice (some ⟨b, o2, none⟩) (m - n) (c - n))) B q (rest.drop n) := by
    intro o2 r2
    have hlen : (rest.drop n).length = m - n := by rw [List.length_drop, hm]
    refine ⟨b, o2, c - n, ?_, ?_, ?_, ?_, h4, h5⟩
    · simp only [hlen]; exact blk1_set h0 _
    · simp only [hlen]; exact r2.low (fun x hx => by cases hx; exact h4) ((Below.refl B w).grown (set_grown w q 0 _) hBw (fun k hk => by cases hk; exact h5))
    · simp only [hlen]; omega
    · omega
  have hfr : ∀ v, Reads (w.setCell ⟨q, 0, none⟩ v) (some ⟨b, off, none⟩) n (rest.take n) := fun v =>
    (h1.front n hn).low (fun x hx => by cases hx; exact h4) ((Below.refl B w).grown (set_grown w q 0 _) hBw (fun k hk => by cases hk; exact h5))
  have HK := hide key
  have HF := hide hfr
  have H1 : Hid (Reads w (some ⟨b, off, none⟩) m rest) := h1
  have d0 : decide ((m : Int) < (n : Int)) = false := decide_eq_false (by omega)
  clear h0 hm key hfr h1
  by_cases hc0 : c = n
  · subst hc0
    obtain rfl : m = c := by omega
    have HR2 : Hid (Reads w (some ⟨b, off, none⟩) (m - m) (rest.drop m)) := by
      have h9 := H1.out.drop m (Nat.le_refl _)
      exact ⟨h9.1, h9.2.1, (fun h => by cases h), fun y hy i hi => by omega⟩
    have HK2 := HK.out off HR2.out
    have HK3 := hide HK2
    clear HK2
    go_enter Try.func52, Try.ntmps52
    go_wp2
    go_ret
    refine ⟨b, off, m, rfl, HF.out _, Nat.le_refl _, h3, h4, ?_, set_grown w q 0 _⟩
    have h9 := HK3.out
    rw [Nat.sub_self] at h9
    exact h9
  · have d1 : (n : Int) ≤ (m : Int) := by omega
    have d2 : (n : Int) ≤ (c : Int) := by omega
    have d3 : n ≤ c := by omega
    have HR2 : Hid (Reads w (some ⟨b, off + n, none⟩) (m - n) (rest.drop n)) := H1.out.drop n hn
    have hq : (if c = n then some (⟨b, off, none⟩ : Addr) else some ⟨b, off + n, none⟩) = some ⟨b, off + n, none⟩ := by rw [if_neg hc0]
    go_enter Try.func52, Try.ntmps52
    go_wp2
    go_ret
    exact ⟨b, off, c, rfl, HF.out _, by omega, h3, h4, HK.out (off + n) HR2.out, set_grown w q 0 _⟩

theorem getL_take (zs : List Int) (n : Nat) : ∀ k, k ≤ n → getL (zs.take n) 0 k = getL zs 0 k
  | 0, _ => rfl
  | k + 1, h => by
    rw [getL, getL, getL_take zs n k (by omega), Nat.zero_add, List.getD_eq_getElem?_getD, List.getElem?_take_of_lt (by omega), ← List.getD_eq_getElem?_getD]

set_option maxHeartbeats 1000000 in
set_option maxRecDepth 100000 in
theorem num_short (B q n : Nat) (rest : List Int) (w : World) (hR : RdAt w B q rest) (hl : rest.length ≤ 140737488355000) (hn : rest.length < n) (hn2 : n ≤ 8) :
    Calls Try.prog 34 #[.pointer (some ⟨q, 0, none⟩), .int .i64 (n : Int)] w fun e w' => e = Pnc ∧ w' = w := by
  go_enter Try.func34, Try.ntmps34
  go_wp2_with (go_at_call 52; refine (row_short B q n rest _ hR hl hn (by omega)).mono ?_; rintro e u1 ⟨rfl, hu1⟩; rw [hu1])
  exact ⟨rfl, rfl, rfl⟩

set_option maxHeartbeats 1000000 in
set_option maxRecDepth 100000 in
theorem num_ok (B q n : Nat) (rest : List Int) (w : World) (hR : RdAt w B q rest) (hl : rest.length ≤ 140737488355000) (hn : n ≤ rest.length) (hn1 : 1 ≤ n) (hn2 : n ≤ 8) :
    Calls Try.prog 34 #[.pointer (some ⟨q, 0, none⟩), .int .i64 (n : Int)] w fun e w' => e = .returned (.int .u64 (getL rest 0 n)) ∧ RdAt w' B q (rest.drop n) ∧ w.grownBy w' (some q) := by
  have HG : Hid (getL (rest.take n) 0 n = getL rest 0 n) := getL_take rest n n (Nat.le_refl _)
  obtain ⟨V, hV⟩ : ∃ V, getL rest 0 n = V := ⟨_, rfl⟩
  rw [hV] at HG ⊢
  clear hV
  go_enter Try.func34, Try.ntmps34
  go_wp2_with (first
    | (go_at_call 52; refine (row_ok B q n rest _ hR hl hn).mono ?_; rintro e u1 ⟨b, off, c, rfl, r1, _, _, _, rd1, g1⟩; have HRD : Hid (RdAt u1 B q (rest.drop n)) := rd1; have HGR : Hid (w.grownBy u1 (some q)) := g1; have HR1 : Hid (Reads u1 (some ⟨b, off, none⟩) n (rest.take n)) := r1; clear rd1 g1 r1)
    | (go_at_call 51; refine (get_ok (some ⟨b, off, none⟩) n c 0 n (rest.take n) _ (by omega) hn1 (by omega) (by omega) HR1.out).mono ?_; rintro e u2 ⟨rfl, rfl⟩; rw [HG.out]))
  go_ret
  exact ⟨rfl, HRD.out, HGR.out⟩


/-- A number of so many bytes. -/
def numR (n : Nat) (bs : List Int) : Option (Int × List Int) := if n ≤ bs.length then some (getL bs 0 n, bs.drop n) else none

/-- What a call of the reader leaves. -/
def Left {α : Type} (w : World) (B q : Nat) (r : Option (α × List Int)) (V : α → Value → World → Prop) (e : Ending) (w' : World) : Prop :=
  match r with
  | none => e = Pnc ∧ w.grownBy w' (some q)
  | some (v, rest) => ∃ val, e = .returned val ∧ V v val w' ∧ RdAt w' B q rest ∧ w.grownBy w' (some q)

theorem left_err {α : Type} {w : World} {B q : Nat} {r : Option (α × List Int)} {V : α → Value → World → Prop} {w' : World} (h : r = none) (hg : w.grownBy w' (some q)) : Left w B q r V Pnc w' := by
  subst h; exact ⟨rfl, hg⟩

theorem left_ok {α : Type} {w : World} {B q : Nat} {r : Option (α × List Int)} {V : α → Value → World → Prop} {w' : World} {v : α} {rest : List Int} {val : Value} (h : r = some (v, rest)) (hV : V v val w') (hR : RdAt w' B q rest) (hg : w.grownBy w' (some q)) : Left w B q r V (.returned val) w' := by
  subst h; exact ⟨val, rfl, hV, hR, hg⟩

theorem num_any (B q n : Nat) (rest : List Int) (w : World) (hR : RdAt w B q rest) (hl : rest.length ≤ 140737488355000) (hn1 : 1 ≤ n) (hn2 : n ≤ 8) :
    Calls Try.prog 34 #[.pointer (some ⟨q, 0, none⟩), .int .i64 (n : Int)] w (Left w B q (numR n rest) fun v val _ => val = .int .u64 v) := by
  by_cases hs : n ≤ rest.length
  · refine (num_ok B q n rest w hR hl hs hn1 hn2).mono ?_
    rintro e w' ⟨rfl, h1, h2⟩
    exact left_ok (by unfold numR; rw [if_pos hs]) rfl h1 h2
  · refine (num_short B q n rest w hR hl (by omega) hn2).mono ?_
    rintro e w' ⟨rfl, rfl⟩
    exact left_err (by unfold numR; rw [if_neg hs]) (World.grownBy.refl _ _)

set_option maxHeartbeats 1000000 in
set_option maxRecDepth 100000 in
theorem whole_any (B q n : Nat) (rest : List Int) (w : World) (hR : RdAt w B q rest) (hl : rest.length ≤ 140737488355000) (hn1 : 1 ≤ n) (hn2 : n ≤ 4) :
    Calls Try.prog 35 #[.pointer (some ⟨q, 0, none⟩), .int .i64 (n : Int)] w (Left w B q (numR n rest) fun v val _ => val = .int .i64 v) := by
  by_cases hs : n ≤ rest.length
  · have hby := hR.byt
    have hgr := getL_range hby 0 n
    have hp4 : (256 : Int) ^ n ≤ 256 ^ 4 := pow256_le hn2
    have e4 : (256 : Int) ^ 4 = 4294967296 := by decide
    have hwr : IntKind.i64.wrap (getL rest 0 n) = getL rest 0 n := by rw [IntKind.wrap_i64]; omega
    have HW : numR n rest = some (getL rest 0 n, rest.drop n) := by unfold numR; rw [if_pos hs]
    have N := num_ok B q n rest w hR hl hs hn1 (by omega)
    have HN := hide N
    obtain ⟨V, hV⟩ : ∃ V, getL rest 0 n = V := ⟨_, rfl⟩
    rw [hV] at HW hwr HN
    clear hgr hp4 e4 hV hby N hR
    rw [HW]
    clear HW
    go_enter Try.func35, Try.ntmps35
    go_wp2_with (go_at_call 34; refine HN.out.mono ?_; rintro e u1 ⟨rfl, rd1, g1⟩; have HRD : Hid (RdAt u1 B q (rest.drop n)) := rd1; have HGR : Hid (w.grownBy u1 (some q)) := g1; clear rd1 g1)
    go_ret
    exact left_ok rfl rfl HRD.out HGR.out
  · have HW : numR n rest = none := by unfold numR; rw [if_neg hs]
    rw [HW]
    go_enter Try.func35, Try.ntmps35
    go_wp2_with (go_at_call 34; refine (num_short B q n rest _ hR hl (by omega) (by omega)).mono ?_; rintro e u1 ⟨rfl, hu1⟩; rw [hu1])
    exact ⟨rfl, left_err rfl (World.grownBy.refl _ _)⟩

/-- A 0 or a 1. -/
def flagR (bs : List Int) : Option (Bool × List Int) := match numR 1 bs with
  | none => none
  | some (v, r) => if 1 < v then none else some (v == 1, r)

set_option maxHeartbeats 1000000 in
set_option maxRecDepth 100000 in
theorem flag_any (B q : Nat) (rest : List Int) (w : World) (hR : RdAt w B q rest) (hl : rest.length ≤ 140737488355000) :
    Calls Try.prog 53 #[.pointer (some ⟨q, 0, none⟩)] w (Left w B q (flagR rest) fun v val _ => val = .bool v) := by
  by_cases hs : 1 ≤ rest.length
  · have HW : flagR rest = if 1 < getL rest 0 1 then none else some (getL rest 0 1 == 1, rest.drop 1) := by unfold flagR numR; rw [if_pos hs]
    have HN := hide (num_ok B q 1 rest w hR hl hs (by omega) (by omega))
    obtain ⟨V, hV⟩ : ∃ V, getL rest 0 1 = V := ⟨_, rfl⟩
    rw [hV] at HW HN
    clear hV hR
    rw [HW]
    clear HW
    by_cases h1 : 1 < V
    · rw [if_pos h1]
      go_enter Try.func53, Try.ntmps53
      go_wp2_with (go_at_call 34; refine HN.out.mono ?_; rintro e u1 ⟨rfl, rd1, g1⟩; have HRD : Hid (RdAt u1 B q (rest.drop 1)) := rd1; have HGR : Hid (w.grownBy u1 (some q)) := g1; clear rd1 g1)
      exact ⟨rfl, left_err rfl HGR.out⟩
    · rw [if_neg h1]
      go_enter Try.func53, Try.ntmps53
      go_wp2_with (go_at_call 34; refine HN.out.mono ?_; rintro e u1 ⟨rfl, rd1, g1⟩; have HRD : Hid (RdAt u1 B q (rest.drop 1)) := rd1; have HGR : Hid (w.grownBy u1 (some q)) := g1; clear rd1 g1)
      go_ret
      exact left_ok rfl rfl HRD.out HGR.out
  · have HW : flagR rest = none := by unfold flagR numR; rw [if_neg hs]
    rw [HW]
    go_enter Try.func53, Try.ntmps53
    go_wp2_with (go_at_call 34; refine (num_short B q 1 rest _ hR hl (by omega) (by omega)).mono ?_; rintro e u1 ⟨rfl, hu1⟩; rw [hu1])
    exact ⟨rfl, left_err rfl (World.grownBy.refl _ _)⟩
end Go.Proofs.Ytoaahellfflooaa
